import Derived.Test.YthmlndmlnlfhnaaGreatDoorKd6f3f10a
import Derived.Test.YthmlndmlnlfhnaaGreatDoorK8dd87585
set_option maxRecDepth 100000
set_option maxHeartbeats 16000000
namespace Go.Proofs.YthmlndmlnlfhnaaGreatDoor
open Go.RowKit Go.Shelf
theorem yum:Tryz.prog.underlying 32=some (.slice 38):=by kernel_rfl
theorem yut:(Tryz.prog.info? 38).map (fun i=>(i.zero,i.size,i.bytes))=some (some (.agg #[.slice none 0 0,.slice none 0 0]),2,48):=by kernel_rfl
theorem yt8 (o s:Bool) (f:Int) (A1 A2 A3 A4:Option Addr) (l1 k1 l2 k2 l3 k3 l4 k4:Nat) (w:World):(Instr.field 41 (.agg #[.bool o,.bool s,.int .i64 f,.slice A1 l1 k1,.slice A2 l2 k2,.slice A3 l3 k3,.slice A4 l4 k4]) 3).run Tryz.prog w = .ok (.agg #[.slice A1 l1 k1,.slice A2 l2 k2]) w:=by kernel_rfl
theorem yuk (w:World) (e:Nat) (a b c d:Value):∀ j u,([a,b,c,d]:List Value)[j]? = some u→(w.alloc (.cells #[a,b,c,d] e)).cell? ((⟨w.heap.size,0,none⟩:Addr).add j)=some u:=fun j u hu=>by
 rw [Addr.add_lit,Nat.zero_add]
 exact (Cs.new w [a,b,c,d] e).at j hu
theorem yuj (l:List ActD) (w0:World) (hv:VarsOk w0) (hsz:∀ a∈l,a.name.size≤140737488355328∧a.text.size≤140737488355328) (ob:Nat):ysi 39 #[.pointer (some ⟨ob,0,none⟩)] (JMem w0 ob l) l w0:=by
 intro k a σ W1 cc1 W g c vs vl Ai A1 A2 ci k1 k2 hak hk50 hσ hJ1 hFr hold hM hin hans hat
 have HV:=Lib.hid hv
 have hsa:=hsz a (List.mem_of_getElem? hak)
 clear hv hsz
 have HNX:Hid (runV newV (l.take (k+1))=(doV σ a).1):=by show _=_;rw [jtk newV hak,hσ.out]
 obtain ⟨g2,c2,vs2,vl2,hO1⟩:=hJ1
 rw [← hσ.out] at hO1
 have hO:=hO1.keep hFr hold hM.below
 have hz1:=hFr.size
 have hbo:∀ b,Born W1 W c b→c2 b=0:=fun b hb=>jb1 hO1.two.st.lt hb.1
 have hT:Hid (TwoS w0 W g2 σ c2 vs2 vl2 g (doV σ a).1 c vs vl):=⟨hO.two,hM,fun b hb=>by
  by_cases e:c b=0
  ·exact e
  ·exact absurd (hO.apart b e) hb⟩
 have HO:=Lib.hid hO
 have HRO:Hid (jb0 W (fun b=>b<W.heap.size∧c2 b=0) (doV σ a).2 (.agg #[.int .i64 (doV σ a).2.code,.int .i64 (doV σ a).2.n,.string (doV σ a).2.text,.slice A1 (doV σ a).2.answers.length k1,.slice A2 (doV σ a).2.at_.length k2])):=⟨_,_,rfl,hans.more fun b hb=>⟨hb.2.1,hbo b hb⟩,hat.more fun b hb=>⟨hb.2.1,hbo b hb⟩⟩
 have HIN:Hid (Sl Enc.int W (Old w0) a.inp (.slice Ai a.inp.length ci)):=hin
 have HCF:Hid (∀ b,W.heap.size≤b→c b=0∧c2 b=0):=fun b hb=>⟨jb1 hM.st.lt hb,jb1 hO.two.st.lt hb⟩
 have hobl:ob<W.heap.size:=hO.cs.1
 have hobw:=hO.obw
 clear hans hat hin hak
 obtain ⟨kind,n,name,text,inp⟩:=a
 simp only at hsa HIN
 generalize hDO:doV σ ⟨kind,n,name,text,inp⟩=D at *
 have HDO:=Lib.hid hDO
 clear hDO
 obtain ⟨σ',R⟩:=D
 simp only at hT HRO HNX
 have hb1:=jac W (.cells #[.int .i64 kind,.int .i64 n,.string name,.string text,.slice Ai inp.length ci] 24)
 have CA1:=Lib.hid (Cs.new W [.int .i64 kind,.int .i64 n,.string name,.string text,.slice Ai inp.length ci] 24)
 change Hid (Cs (W.alloc (.cells #[.int .i64 kind,.int .i64 n,.string name,.string text,.slice Ai inp.length ci] 24)) _ _) at CA1
 have hz1:(W.alloc (.cells #[.int .i64 kind,.int .i64 n,.string name,.string text,.slice Ai inp.length ci] 24)).heap.size=W.heap.size+1:=by simp
 generalize hw1:W.alloc (.cells #[.int .i64 kind,.int .i64 n,.string name,.string text,.slice Ai inp.length ci] 24)=w1 at *
 have hb2:=jac w1 (.cells #[.int .i64 R.code,.int .i64 R.n,.string R.text,.slice A1 R.answers.length k1,.slice A2 R.at_.length k2] 30)
 have CR2:=Lib.hid (Cs.new w1 [.int .i64 R.code,.int .i64 R.n,.string R.text,.slice A1 R.answers.length k1,.slice A2 R.at_.length k2] 30)
 change Hid (Cs (w1.alloc (.cells #[.int .i64 R.code,.int .i64 R.n,.string R.text,.slice A1 R.answers.length k1,.slice A2 R.at_.length k2] 30)) _ _) at CR2
 rw [hz1] at CR2
 have hz2:(w1.alloc (.cells #[.int .i64 R.code,.int .i64 R.n,.string R.text,.slice A1 R.answers.length k1,.slice A2 R.at_.length k2] 30)).heap.size=W.heap.size+2:=by simp;omega
 have hb02:=bx hb1 hb2
 have CA2:=Lib.hid (CA1.out.next hb2)
 generalize hw2:w1.alloc (.cells #[.int .i64 R.code,.int .i64 R.n,.string R.text,.slice A1 R.answers.length k1,.slice A2 R.at_.length k2] 30)=w2 at *
 have hbd:=(Below.refl w2.heap.size w2).drew
 have hb02d:=bx hb02 hbd
 have T2:=Lib.hid (hT.out.next hb02)
 have T2d:=Lib.hid (hT.out.next hb02d)
 have CO2:=Lib.hid (HO.out.cs.next hb02)
 have HCOB:=Lib.hid HO.out.cob
 have HCOB2:=Lib.hid HO.out.cob'
 have HRO2:Hid (jb0 w2 (fun b=>b<w2.heap.size∧c2 b=0) R (.agg #[.int .i64 R.code,.int .i64 R.n,.string R.text,.slice A1 R.answers.length k1,.slice A2 R.at_.length k2])):=by
  obtain ⟨xa,xt,e,h1,h2⟩:=HRO.out
  exact ⟨xa,xt,e,(h1.keep fun p hp=>hb02.cell hp.1).more fun q hq=>⟨Nat.lt_of_lt_of_le hq.1 hb02.size,hq.2⟩,(h2.keep fun p hp=>hb02.cell hp.1).more fun q hq=>⟨Nat.lt_of_lt_of_le hq.1 hb02.size,hq.2⟩⟩
 have HA2:Hid (jgy w2.drew (fun b=>b<w2.drew.heap.size∧c2 b=0) ⟨kind,n,name,text,inp⟩ (.agg #[.int .i64 kind,.int .i64 n,.string name,.string text,.slice Ai inp.length ci])):=⟨_,rfl,(HIN.out.keep (w':=w2.drew) fun p hp=>hb02d.cell (Nat.lt_of_lt_of_le hp hT.out.one.below.size)).more fun q hq=>⟨by have:=T2d.out.one.below.size;exact Nat.lt_of_lt_of_le hq this,T2d.out.one.old q hq⟩⟩
 have d0:w2.drew.cell? ⟨ob,0,none⟩=_:=CO2.out.at 0 rfl
 have K:Hid (∀ w',Fr c2 w2 w'→(w'.cell? ⟨ob,0,none⟩=some (.pointer (some ⟨g2,0,none⟩))∧w'.cell? ⟨W.heap.size,0,none⟩=some (.int .i64 kind)∧w'.cell? ⟨W.heap.size,1,none⟩=some (.int .i64 n)∧w'.cell? ⟨W.heap.size,2,none⟩=some (.string name)∧w'.cell? ⟨W.heap.size,3,none⟩=some (.string text)∧w'.cell? ⟨W.heap.size,4,none⟩=some (.slice Ai inp.length ci)∧w'.cell? ⟨W.heap.size+1,0,none⟩=some (.int .i64 R.code)∧w'.cell? ⟨W.heap.size+1,1,none⟩=some (.int .i64 R.n)∧w'.cell? ⟨W.heap.size+1,2,none⟩=some (.string R.text)∧w'.cell? ⟨W.heap.size+1,3,none⟩=some (.slice A1 R.answers.length k1)∧w'.cell? ⟨W.heap.size+1,4,none⟩=some (.slice A2 R.at_.length k2))):=fun w' h'=>⟨(CO2.out.keep (h'.block _ CO2.out.1 HCOB2.out) h'.size).at 0 rfl,(CA2.out.keep (h'.block _ CA2.out.1 (HCF.out _ (Nat.le_refl _)).2) h'.size).at 0 rfl,(CA2.out.keep (h'.block _ CA2.out.1 (HCF.out _ (Nat.le_refl _)).2) h'.size).at 1 rfl,(CA2.out.keep (h'.block _ CA2.out.1 (HCF.out _ (Nat.le_refl _)).2) h'.size).at 2 rfl,(CA2.out.keep (h'.block _ CA2.out.1 (HCF.out _ (Nat.le_refl _)).2) h'.size).at 3 rfl,(CA2.out.keep (h'.block _ CA2.out.1 (HCF.out _ (Nat.le_refl _)).2) h'.size).at 4 rfl,(CR2.out.keep (h'.block _ CR2.out.1 (HCF.out _ (Nat.le_succ _)).2) h'.size).at 0 rfl,(CR2.out.keep (h'.block _ CR2.out.1 (HCF.out _ (Nat.le_succ _)).2) h'.size).at 1 rfl,(CR2.out.keep (h'.block _ CR2.out.1 (HCF.out _ (Nat.le_succ _)).2) h'.size).at 2 rfl,(CR2.out.keep (h'.block _ CR2.out.1 (HCF.out _ (Nat.le_succ _)).2) h'.size).at 3 rfl,(CR2.out.keep (h'.block _ CR2.out.1 (HCF.out _ (Nat.le_succ _)).2) h'.size).at 4 rfl⟩
 have E0:=Lib.hid (K.out w2 (Fr.refl _ _))
 have HCF2:Hid (c2 W.heap.size=0∧c2 (W.heap.size+1)=0):=⟨(HCF.out _ (Nat.le_refl _)).2,(HCF.out _ (by omega)).2⟩
 show Calls Tryz.prog 39 #[.pointer (some ⟨g,0,none⟩),.agg #[.int .i64 kind,.int .i64 n,.string name,.string text,.slice Ai inp.length ci],.agg #[.int .i64 R.code,.int .i64 R.n,.string R.text,.slice A1 R.answers.length k1,.slice A2 R.at_.length k2],.pointer (some ⟨ob,0,none⟩)] W _
 go_enter Tryz.func39,Tryz.ntmps39
 go_wp2_with fail
 clear hw1 hw2 d0
 replace E0:=E0.out
 have HDOC:=Lib.hid (T2d.out.one.do_ HV.out ⟨kind,n,name,text,inp⟩ _ HA2.out hsa.1 hsa.2)
 rw [HDO.out] at HDOC
 go_region_held3 (fun w'=>w'.cell? ⟨ob,0,none⟩=some (.pointer (some ⟨g2,0,none⟩))∧w'.cell? ⟨W.heap.size,0,none⟩=some (.int .i64 kind)∧w'.cell? ⟨W.heap.size,1,none⟩=some (.int .i64 n)∧w'.cell? ⟨W.heap.size,2,none⟩=some (.string name)∧w'.cell? ⟨W.heap.size,3,none⟩=some (.string text)∧w'.cell? ⟨W.heap.size,4,none⟩=some (.slice Ai inp.length ci)∧w'.cell? ⟨W.heap.size+1,0,none⟩=some (.int .i64 R.code)∧w'.cell? ⟨W.heap.size+1,1,none⟩=some (.int .i64 R.n)∧w'.cell? ⟨W.heap.size+1,2,none⟩=some (.string R.text)∧w'.cell? ⟨W.heap.size+1,3,none⟩=some (.slice A1 R.answers.length k1)∧w'.cell? ⟨W.heap.size+1,4,none⟩=some (.slice A2 R.at_.length k2)) (first | exact E0 | exact E1 | exact E2)
  (first
   | (go_at_call 15;refine HDOC.out.mono ?_;rintro e w3 hP;obtain ⟨B1,m1,B2,m2,d,us,ul,rfl,hT3,hF3',hold3',hre3⟩:=T2d.out.didH hP;have hF3:Fr c2 w2 w3:=⟨hF3'.os,hF3'.tape,hF3'.output,hF3'.size,hF3'.block⟩;have hold3:∀ b,b<w2.heap.size→d b=c2 b:=hold3';clear hF3' hold3' hP;have T3:=Lib.hid hT3;have HR3:=Lib.hid hre3;have HF3:=Lib.hid hF3;have HH3:=Lib.hid hold3;clear hT3 hre3 hold3;have E1:=K.out w3 hF3;have HRO3:Hid (jb0 w3 (Old w3) R (.agg #[.int .i64 R.code,.int .i64 R.n,.string R.text,.slice A1 R.answers.length k1,.slice A2 R.at_.length k2])):=(by obtain ⟨xa,xt,e,h1,h2⟩:=HRO2.out;exact ⟨xa,xt,e,(h1.keep fun p hp=>World.cell?_of_block (HF3.out.block _ hp.1 hp.2)).more fun q hq=>Nat.lt_of_lt_of_le hq.1 HF3.out.size,(h2.keep fun p hp=>World.cell?_of_block (HF3.out.block _ hp.1 hp.2)).more fun q hq=>Nat.lt_of_lt_of_le hq.1 HF3.out.size⟩))
   | (go_at_call 37;refine (jq2 R _ _ w3 HR3.out HRO3.out).mono ?_;rintro e w4 ⟨rfl,hb4⟩;have E2:=K.out w4 (HF3.out.trans (c':=c2) (Fr.below hb4) (fun _ _=>rfl))))
 all_goals
  clear HDOC E0 E1 E2 HR3 HRO3 HRO2 HRO HA2 T2d T2 hT HIN
  have T4:=Lib.hid (T3.out.next hb4)
  have CO4:=Lib.hid ((CO2.out.keep (HF3.out.block _ CO2.out.1 HCOB2.out) HF3.out.size).next hb4)
  have HZ4:Hid (W.heap.size+2≤w4.heap.size):=by have h1:=HF3.out.size;have h2:=hb4.size;show _≤_;omega
  have HDB:Hid (d ob=0):=(HH3.out ob (by omega)).trans HCOB2.out
  clear CA1 CA2 CR2 CO2 HF3 HH3 K T3 HCF2
  have HI':Hid (Inv σ'):=T4.out.two.st.inv
  go_wp2_with fail
  refine (jzp σ' c g vs vl _ T4.out.two.st).mono ?_
  rintro e w5 ⟨v5,rfl,ho5,hb5⟩
  have T5:=Lib.hid (T4.out.next hb5)
  have hz5:=hb5.size
  have hlt5:=OwnS.lt ho5
  obtain ⟨N,hN⟩:∃ N,N = σ'.states.length:=⟨_,rfl⟩
  have hN40:N≤40:=by have h1:=jmc σ';have h2:σ'.last≤39:=HI'.out.some_;omega
  have HN:=Lib.hid hN
  obtain ⟨A5,k5,e5,-,-,-⟩:=OwnS.form ho5
  rw [← hN] at e5
  clear hN
  subst e5
  have HO5:=Lib.hid ho5
  clear ho5
  go_wp2_with fail
  refine (jv5 σ' c g vs vl _ (T5.out.two.st) 0).mono ?_
  rintro e w6 ⟨u6,rfl,hu6,hb6⟩
  obtain ⟨pd,pt,pg,pr,rfl,y1,y2,y3,y4⟩:=hu6
  obtain ⟨Y0,hY⟩:∃ Y,Y=jce σ' 0:=⟨_,rfl⟩
  rw [← hY] at y1 y2 y3 y4
  rw [← hY]
  have HEY0:=Lib.hid hY
  clear hY
  obtain ⟨Y0d,y0d,rfl,-,-⟩:=y1.form
  obtain ⟨Y0t,y0t,rfl,-,-⟩:=y2.form
  obtain ⟨Y0g,y0g,rfl,-,-⟩:=y3.form
  obtain ⟨Y0h,y0h,rfl,-,-⟩:=y4.form
  have HDY0:=Lib.hid y1
  have HTY0:=Lib.hid y2
  have HGY0:=Lib.hid y3
  have HRY0:=Lib.hid y4
  clear y1 y2 y3 y4
  have T6:=Lib.hid (T5.out.next hb6)
  have hz6:=hb6.size
  have HO6:=Lib.hid (OwnU.next HO5.out hb6)
  have fd0:=fun W=>yt8 Y0.opn Y0.strict (Y0.frm:Int) Y0d Y0t Y0g Y0h Y0.mine.doms.length y0d Y0.mine.tabs.length y0t Y0.gone.length y0g Y0.read.length y0h W
  go_wp2_with fail
  clear fd0
  refine (jv5 σ' c g vs vl _ (T6.out.two.st) 1).mono ?_
  rintro e w7 ⟨u7,rfl,hu7,hb7⟩
  obtain ⟨pd,pt,pg,pr,rfl,y1,y2,y3,y4⟩:=hu7
  obtain ⟨Y1,hY⟩:∃ Y,Y=jce σ' 1:=⟨_,rfl⟩
  rw [← hY] at y1 y2 y3 y4
  rw [← hY]
  have HEY1:=Lib.hid hY
  clear hY
  obtain ⟨Y1d,y1d,rfl,-,-⟩:=y1.form
  obtain ⟨Y1t,y1t,rfl,-,-⟩:=y2.form
  obtain ⟨Y1g,y1g,rfl,-,-⟩:=y3.form
  obtain ⟨Y1h,y1h,rfl,-,-⟩:=y4.form
  have HDY1:=Lib.hid y1
  have HTY1:=Lib.hid y2
  have HGY1:=Lib.hid y3
  have HRY1:=Lib.hid y4
  clear y1 y2 y3 y4
  have T7:=Lib.hid (T6.out.next hb7)
  have hz7:=hb7.size
  have HO7:=Lib.hid (OwnU.next HO6.out hb7)
  have fd1:=fun W=>yt8 Y1.opn Y1.strict (Y1.frm:Int) Y1d Y1t Y1g Y1h Y1.mine.doms.length y1d Y1.mine.tabs.length y1t Y1.gone.length y1g Y1.read.length y1h W
  have hb8:=jac w7 (.cells #[.slice Y0d Y0.mine.doms.length y0d,.slice Y0t Y0.mine.tabs.length y0t,.slice Y1d Y1.mine.doms.length y1d,.slice Y1t Y1.mine.tabs.length y1t] 38)
  have T8:=Lib.hid (T7.out.next hb8)
  have HO8:=Lib.hid (OwnU.next HO7.out hb8)
  have hz8:=hb8.size
  have off0:∀ q,jg7 w5.heap.size w6 q→OffU w4.heap.size (w7.alloc (.cells #[.slice Y0d Y0.mine.doms.length y0d,.slice Y0t Y0.mine.tabs.length y0t,.slice Y1d Y1.mine.doms.length y1d,.slice Y1t Y1.mine.tabs.length y1t] 38)) (.slice A5 N k5) q:=fun q hq=>jg7.off (by omega) (fun k hk=>(hlt5 k hk).2) (bx hb7 hb8) q hq
  have off1:∀ q,jg7 w6.heap.size w7 q→OffU w4.heap.size (w7.alloc (.cells #[.slice Y0d Y0.mine.doms.length y0d,.slice Y0t Y0.mine.tabs.length y0t,.slice Y1d Y1.mine.doms.length y1d,.slice Y1t Y1.mine.tabs.length y1t] 38)) (.slice A5 N k5) q:=fun q hq=>jg7.off (by omega) (fun k hk=>by have:=(hlt5 k hk).2;omega) hb8 q hq
  have HY0:Hid (Enc.book.rd (w7.alloc (.cells #[.slice Y0d Y0.mine.doms.length y0d,.slice Y0t Y0.mine.tabs.length y0t,.slice Y1d Y1.mine.doms.length y1d,.slice Y1t Y1.mine.tabs.length y1t] 38)) (OffU w4.heap.size (w7.alloc (.cells #[.slice Y0d Y0.mine.doms.length y0d,.slice Y0t Y0.mine.tabs.length y0t,.slice Y1d Y1.mine.doms.length y1d,.slice Y1t Y1.mine.tabs.length y1t] 38)) (.slice A5 N k5)) Y0.mine [.slice Y0d Y0.mine.doms.length y0d,.slice Y0t Y0.mine.tabs.length y0t]):=⟨_,_,rfl,(HDY0.out.keep fun p hp=>(bx hb7 hb8).cell hp.2.1).more off0,(HTY0.out.keep fun p hp=>(bx hb7 hb8).cell hp.2.1).more off0⟩
  have HY1:Hid (Enc.book.rd (w7.alloc (.cells #[.slice Y0d Y0.mine.doms.length y0d,.slice Y0t Y0.mine.tabs.length y0t,.slice Y1d Y1.mine.doms.length y1d,.slice Y1t Y1.mine.tabs.length y1t] 38)) (OffU w4.heap.size (w7.alloc (.cells #[.slice Y0d Y0.mine.doms.length y0d,.slice Y0t Y0.mine.tabs.length y0t,.slice Y1d Y1.mine.doms.length y1d,.slice Y1t Y1.mine.tabs.length y1t] 38)) (.slice A5 N k5)) Y1.mine [.slice Y1d Y1.mine.doms.length y1d,.slice Y1t Y1.mine.tabs.length y1t]):=⟨_,_,rfl,(HDY1.out.keep fun p hp=>hb8.cell hp.2.1).more off1,(HTY1.out.keep fun p hp=>hb8.cell hp.2.1).more off1⟩
  have hbs:w4.heap.size≤(w7.alloc (.cells #[.slice Y0d Y0.mine.doms.length y0d,.slice Y0t Y0.mine.tabs.length y0t,.slice Y1d Y1.mine.doms.length y1d,.slice Y1t Y1.mine.tabs.length y1t] 38)).heap.size:=by omega
  clear off0 off1
  obtain ⟨us8,hu8,hel8⟩:=HO8.out
  have HU8:Hid (World.ownsRow (w7.alloc (.cells #[.slice Y0d Y0.mine.doms.length y0d,.slice Y0t Y0.mine.tabs.length y0t,.slice Y1d Y1.mine.doms.length y1d,.slice Y1t Y1.mine.tabs.length y1t] 38)) w4.heap.size 38 2 (.slice A5 N k5) N us8):=by have e:=hu8;rw [← HN.out] at e;exact e
  have HEL8:=Lib.hid hel8
  clear hu8 hel8
  go_wp2_with (at_builtin;refine jav _ rfl _ _ 32 rfl w4.heap.size 38 2 48 (.agg #[.slice none 0 0,.slice none 0 0]) yum yut rfl (by decide) (.slice A5 N k5) N us8 rfl HU8.out ⟨w7.heap.size,0,none⟩ 2 2 [.slice Y0d Y0.mine.doms.length y0d,.slice Y0t Y0.mine.tabs.length y0t,.slice Y1d Y1.mine.doms.length y1d,.slice Y1t Y1.mine.tabs.length y1t] rfl rfl (yuk _ _ _ _ _ _) (by intro u hu;simp at hu;rcases hu with rfl | rfl | rfl | rfl <;> rfl) (by unfold maxLen;omega) (by omega) hbs ?_;intro v9 w9 ho9 hg9 hm9;have HG9:=Lib.hid hg9;have HL9:Hid (Sl Enc.book w9 (jg7 w4.heap.size w9) (σ'.states ++ [Y0.mine,Y1.mine]) v9):=OwnU.sl (OwnU.grown2 (cs:=[.slice Y0d Y0.mine.doms.length y0d,.slice Y0t Y0.mine.tabs.length y0t]) (ds:=[.slice Y1d Y1.mine.doms.length y1d,.slice Y1t Y1.mine.tabs.length y1t]) (by rw [← HN.out];exact HU8.out) HEL8.out (by rw [← HN.out];exact ho9) hg9 hm9 HY0.out HY1.out) (Nat.le_refl _);clear ho9 hg9 hm9;obtain ⟨A9,k9,e9,-,-⟩:=HL9.out.form;rw [List.length_append,← HN.out] at e9;change v9 = .slice A9 (N+2) k9 at e9;subst e9)
  clear fd1
  have hlo:w4.heap.size≤w9.heap.size:=Nat.le_trans hbs HG9.out.size
  have HB49:Hid (Below w4.heap.size w4 w9):=by
   have h48:=bx hb5 (bx hb6 (bx hb7 hb8))
   exact h48.grown HG9.out hbs (fun q hq=>(hlt5 q hq).1)
  have HNL:Hid ((σ'.states ++ [Y0.mine,Y1.mine]).length=N+2):=by show _=_;rw [List.length_append,← HN.out];rfl
  generalize σ'.states ++ [Y0.mine,Y1.mine]=L at *
  clear HG9 HEL8 HU8 HY0 HY1 HO8 HO7 HO6 HO5 T8 T7 T6 T5 HDY0 HTY0 HGY0 HRY0 HDY1 HTY1 HGY1 HRY1 HEY0 HEY1 hbs hz8 hz7 hz6 hz5 hb8 hb7 hb6 hb5 hlt5
  go_loopw [37] (fun i wr=>∃ q:Nat,q≤N+2∧i = .int .i64 q∧Hid (Spoil w4.heap.size w9 wr)) (fun i _=>N+2-(intOf i).toNat)
  case atStart=>exact ⟨0,Nat.zero_le _,rfl,Spoil.refl hlo⟩
  case round =>
   obtain ⟨i1,hi1,rfl,P1⟩:=hrel
   rename World=>u1
   by_cases li1:i1<N+2
   ·have mi1:(i1:Int)<((N:Int)+2):=by omega
    have pi1:(0:Int)≤i1:=by omega
    obtain ⟨b1,o1,bk,vd,vt,rfl,hS1,-,z0,z1,sd,st⟩:=HL9.out.book_at (k:=i1) (by rw [HNL.out];exact li1)
    obtain ⟨Ad,cd,rfl,nd1,nd2⟩:=sd.form
    unfold maxLen at nd2
    obtain ⟨At,ct,rfl,nt1,nt2⟩:=st.form
    unfold maxLen at nt2
    have HSD:=Lib.hid sd
    have HST:=Lib.hid st
    clear sd st
    have r0:=P1.out.sl z0
    have r1:=P1.out.sl z1
    have hba:=jac u1 (.cells #[.slice Ad bk.doms.length cd,.slice At bk.tabs.length ct] 38)
    have CB:=Lib.hid (Cs.new u1 [.slice Ad bk.doms.length cd,.slice At bk.tabs.length ct] 38)
    change Hid (Cs (u1.alloc (.cells #[.slice Ad bk.doms.length cd,.slice At bk.tabs.length ct] 38)) _ _) at CB
    have q0:=CB.out.at 0 rfl
    have q1:=CB.out.at 1 rfl
    have A1:=Lib.hid (P1.out.next hba)
    have HLA:Hid (w9.heap.size≤(u1.alloc (.cells #[.slice Ad bk.doms.length cd,.slice At bk.tabs.length ct] 38)).heap.size):=A1.out.below.size
    go_wp2
    clear r0 r1 z0 z1
    generalize hwa:u1.alloc (.cells #[.slice Ad bk.doms.length cd,.slice At bk.tabs.length ct] 38)=wa at *
    clear hwa
    go_loopw [44] (fun i wr=>∃ q:Nat,q≤bk.doms.length∧i = .int .i64 q∧Hid (Spoil w4.heap.size wa wr)) (fun i _=>bk.doms.length-(intOf i).toNat)
    case atStart=>exact ⟨0,Nat.zero_le _,rfl,Spoil.refl (Nat.le_trans hlo HLA.out)⟩
    case round =>
     obtain ⟨i2,hi2,rfl,P2⟩:=hrel
     rename World=>u2
     by_cases li2:i2<bk.doms.length
     ·have mi2:(i2:Int)<(bk.doms.length:Int):=by omega
      have pi2:(0:Int)≤i2:=by omega
      obtain ⟨b2,o2,nm,dl,dh,rfl,hS2,-,z2,-,-⟩:=HSD.out.dom_at (k:=i2) li2
      have Q2:=Lib.hid (A1.out.trans P2.out)
      obtain ⟨nm',r2⟩:=Q2.out.str z2
      have f2:=Q2.out.free hS2 (o2+i2*3)
      have t0:=P2.out.sl q0
      go_wp2
      exact ⟨⟨i2+1,by omega,by go_num,P2.out.set hS2.1 r2 (Kin.strs _ _)⟩,by simp [intOf];omega⟩
     ·have mi2:¬ (i2:Int)<(bk.doms.length:Int):=by omega
      have t1:=P2.out.sl q1
      go_wp2
      clear t1
      go_loopw [56] (fun i wr=>∃ q:Nat,q≤bk.tabs.length∧i = .int .i64 q∧Hid (Spoil w4.heap.size wa wr)) (fun i _=>bk.tabs.length-(intOf i).toNat)
      case atStart=>exact ⟨0,Nat.zero_le _,rfl,P2⟩
      case round =>
       obtain ⟨i3,hi3,rfl,P3⟩:=hrel
       rename World=>u3
       by_cases li3:i3<bk.tabs.length
       ·have mi3:(i3:Int)<(bk.tabs.length:Int):=by omega
        have pi3:(0:Int)≤i3:=by omega
        obtain ⟨b3,o3,nm,pol,comp,ins,rules,vi,vr,rfl,hS3,-,z0,z1,z2,z3,z4,si,sr⟩:=HST.out.tab_at (k:=i3) li3
        obtain ⟨Ai4,ci4,rfl,ni1,ni2⟩:=si.form
        unfold maxLen at ni2
        obtain ⟨Ar,cr,rfl,nr1,nr2⟩:=sr.form
        unfold maxLen at nr2
        have HSI:=Lib.hid si
        have HSR:=Lib.hid sr
        clear si sr
        have Q3:=Lib.hid (A1.out.trans P3.out)
        obtain ⟨nm',r0⟩:=Q3.out.str z0
        obtain ⟨pol',r1⟩:=Q3.out.int z1
        obtain ⟨comp',r2⟩:=Q3.out.bool z2
        have r3:=Q3.out.sl z3
        have r4:=Q3.out.sl z4
        have hbt:=jac u3 (.cells #[.string nm',.int .i64 pol',.bool comp',.slice Ai4 ins.length ci4,.slice Ar rules.length cr] 56)
        have CT:=Lib.hid (Cs.new u3 [.string nm',.int .i64 pol',.bool comp',.slice Ai4 ins.length ci4,.slice Ar rules.length cr] 56)
        change Hid (Cs (u3.alloc (.cells #[.string nm',.int .i64 pol',.bool comp',.slice Ai4 ins.length ci4,.slice Ar rules.length cr] 56)) _ _) at CT
        have q3:=CT.out.at 3 rfl
        have q4:=CT.out.at 4 rfl
        have A3a:=Lib.hid (P3.out.next hbt)
        have A3:=Lib.hid (A1.out.trans A3a.out)
        have HLT:Hid (w9.heap.size≤(u3.alloc (.cells #[.string nm',.int .i64 pol',.bool comp',.slice Ai4 ins.length ci4,.slice Ar rules.length cr] 56)).heap.size):=A3.out.below.size
        go_wp2
        clear r0 r1 r2 r3 r4 z0 z1 z2 z3 z4
        generalize hwt:u3.alloc (.cells #[.string nm',.int .i64 pol',.bool comp',.slice Ai4 ins.length ci4,.slice Ar rules.length cr] 56)=wt at *
        clear hwt
        go_loopw [63] (fun i wr=>∃ q:Nat,q≤ins.length∧i = .int .i64 q∧Hid (Spoil w4.heap.size wt wr)) (fun i _=>ins.length-(intOf i).toNat)
        case atStart=>exact ⟨0,Nat.zero_le _,rfl,Spoil.refl (Nat.le_trans hlo HLT.out)⟩
        case round =>
         obtain ⟨i4,hi4,rfl,P4⟩:=hrel
         rename World=>u4
         by_cases li4:i4<ins.length
         ·have mi4:(i4:Int)<(ins.length:Int):=by omega
          have pi4:(0:Int)≤i4:=by omega
          obtain ⟨b4,o4,s4,rfl,hS4,-,z4⟩:=HSI.out.str_at (k:=i4) li4
          have Q4:=Lib.hid (A3.out.trans P4.out)
          obtain ⟨s4',r4⟩:=Q4.out.str z4
          have f4:=Q4.out.free hS4 (o4+i4)
          have t3:=P4.out.sl q3
          go_wp2
          exact ⟨⟨i4+1,by omega,by go_num,P4.out.set hS4.1 r4 (Kin.strs _ _)⟩,by simp [intOf];omega⟩
         ·have mi4:¬ (i4:Int)<(ins.length:Int):=by omega
          have t4:=P4.out.sl q4
          go_wp2
          clear t4
          go_loopw [74] (fun i wr=>∃ q:Nat,q≤rules.length∧i = .int .i64 q∧Hid (Spoil w4.heap.size wt wr)) (fun i _=>rules.length-(intOf i).toNat)
          case atStart=>exact ⟨0,Nat.zero_le _,rfl,P4⟩
          case round =>
           obtain ⟨i5,hi5,rfl,P5⟩:=hrel
           rename World=>u5
           by_cases li5:i5<rules.length
           ·have mi5:(i5:Int)<(rules.length:Int):=by omega
            have pi5:(0:Int)≤i5:=by omega
            obtain ⟨b5,o5,cells,out5,vc,rfl,hS5,-,k5r,k5o,sc⟩:=HSR.out.rule_at (k:=i5) li5
            obtain ⟨Ac5,cc5,rfl,nc1,nc2⟩:=sc.form
            unfold maxLen at nc2
            have HSC:=Lib.hid sc
            clear sc
            have Q5:=Lib.hid (A3.out.trans P5.out)
            have t4:=P5.out.sl q4
            have t5:=Q5.out.sl k5r
            go_wp2
            clear t4 t5
            go_loopw [84] (fun i wr=>∃ q:Nat,q≤cells.length∧i = .int .i64 q∧Hid (Spoil w4.heap.size wt wr)) (fun i _=>cells.length-(intOf i).toNat)
            case atStart=>exact ⟨0,Nat.zero_le _,rfl,P5⟩
            case round =>
             obtain ⟨i6,hi6,rfl,P6⟩:=hrel
             rename World=>u6
             by_cases li6:i6<cells.length
             ·have mi6:(i6:Int)<(cells.length:Int):=by omega
              have pi6:(0:Int)≤i6:=by omega
              obtain ⟨b6,o6,ng,rs,vg,rfl,hS6,-,k6b,k6c,sg⟩:=HSC.out.cell_at (k:=i6) li6
              obtain ⟨Ag6,cg6,rfl,ng1,ng2⟩:=sg.form
              unfold maxLen at ng2
              have HSG:=Lib.hid sg
              clear sg
              have Q6:=Lib.hid (A3.out.trans P6.out)
              have t4:=P6.out.sl q4
              have t5:=Q6.out.sl k5r
              have t6:=Q6.out.sl k6c
              go_wp2
              clear t4 t5 t6
              go_loopw [98] (fun i wr=>∃ q:Nat,q≤rs.length∧i = .int .i64 q∧Hid (Spoil w4.heap.size wt wr)) (fun i _=>rs.length-(intOf i).toNat)
              case atStart=>exact ⟨0,Nat.zero_le _,rfl,P6⟩
              case round =>
               obtain ⟨i7,hi7,rfl,P7⟩:=hrel
               rename World=>u7
               by_cases li7:i7<rs.length
               ·have mi7:(i7:Int)<(rs.length:Int):=by omega
                have pi7:(0:Int)≤i7:=by omega
                obtain ⟨b7,o7,x7,y7,rfl,hS7,-,z7,-⟩:=HSG.out.rng_at (k:=i7) li7
                have Q7:=Lib.hid (A3.out.trans P7.out)
                obtain ⟨x7',r7⟩:=Q7.out.int z7
                have f7:=Q7.out.free hS7 (o7+i7*2)
                have t4:=P7.out.sl q4
                have t5:=Q7.out.sl k5r
                have t6:=Q7.out.sl k6c
                go_wp2
                exact ⟨⟨i7+1,by omega,by go_num,P7.out.set hS7.1 r7 (Kin.ints _ _ _)⟩,by simp [intOf];omega⟩
               ·have mi7:¬ (i7:Int)<(rs.length:Int):=by omega
                have Q7:=Lib.hid (A3.out.trans P7.out)
                have t4:=P7.out.sl q4
                have t5:=Q7.out.sl k5r
                obtain ⟨ng',r7⟩:=Q7.out.bool k6b
                have f7:=Q7.out.free hS6 (o6+i6*2)
                go_wp2
                exact ⟨⟨i6+1,by omega,by go_num,P7.out.set hS6.1 r7 (Kin.bools _ _)⟩,by simp [intOf];omega⟩
             ·have mi6:¬ (i6:Int)<(cells.length:Int):=by omega
              have Q6:=Lib.hid (A3.out.trans P6.out)
              have t4:=P6.out.sl q4
              obtain ⟨out',r6⟩:=Q6.out.int k5o
              have f6:=Q6.out.free hS5 (o5+i5*2+1)
              go_wp2
              exact ⟨⟨i5+1,by omega,by go_num,P6.out.set hS5.1 r6 (Kin.ints _ _ _)⟩,by simp [intOf];omega⟩
           ·have mi5:¬ (i5:Int)<(rules.length:Int):=by omega
            go_wp2
            exact ⟨⟨i3+1,by omega,by go_num,A3a.out.trans P5.out⟩,by simp [intOf];omega⟩
       ·have mi3:¬ (i3:Int)<(bk.tabs.length:Int):=by omega
        go_wp2
        exact ⟨⟨i1+1,by omega,by go_num,A1.out.trans P3.out⟩,by simp [intOf];omega⟩
   ·have mi1:¬ (i1:Int)<((N:Int)+2):=by omega
    have HB41:=Lib.hid (HB49.out.trans P1.out.below)
    have T1:=Lib.hid (T4.out.next HB41.out)
    go_wp2_with fail
    refine (jv5 σ' c g vs vl _ T1.out.two.st 0).mono ?_
    rintro e w10 ⟨u10,rfl,hu10,hb10⟩
    obtain ⟨pd,pt,pg,pr,rfl,y1,y2,y3,y4⟩:=hu10
    generalize jce σ' 0=X at *
    obtain ⟨Xd,xd,rfl,-,-⟩:=y1.form
    obtain ⟨Xt,xt,rfl,-,-⟩:=y2.form
    obtain ⟨Xg,xg,rfl,ng1,ng2⟩:=y3.form
    obtain ⟨Xh,xh,rfl,nh1,nh2⟩:=y4.form
    unfold maxLen at ng2 nh2
    have hbx:=jac w10 (.cells #[.bool X.opn,.bool X.strict,.int .i64 X.frm,.slice Xd X.mine.doms.length xd,.slice Xt X.mine.tabs.length xt,.slice Xg X.gone.length xg,.slice Xh X.read.length xh] 41)
    have CX:=Lib.hid (Cs.new w10 [.bool X.opn,.bool X.strict,.int .i64 X.frm,.slice Xd X.mine.doms.length xd,.slice Xt X.mine.tabs.length xt,.slice Xg X.gone.length xg,.slice Xh X.read.length xh] 41)
    change Hid (Cs (w10.alloc (.cells #[.bool X.opn,.bool X.strict,.int .i64 X.frm,.slice Xd X.mine.doms.length xd,.slice Xt X.mine.tabs.length xt,.slice Xg X.gone.length xg,.slice Xh X.read.length xh] 41)) _ _) at CX
    have x4:=CX.out.at 5 rfl
    have x5:=CX.out.at 6 rfl
    have h1x:=bx hb10 hbx
    have hu1:w4.heap.size≤u1.heap.size:=by have:=P1.out.below.size;omega
    have ups:∀ q,jg7 u1.heap.size w10 q→jg7 w4.heap.size (w10.alloc (.cells #[.bool X.opn,.bool X.strict,.int .i64 X.frm,.slice Xd X.mine.doms.length xd,.slice Xt X.mine.tabs.length xt,.slice Xg X.gone.length xg,.slice Xh X.read.length xh] 41)) q:=jg7.up hu1 hbx
    have HXG:Hid (Sl Enc.str (w10.alloc (.cells #[.bool X.opn,.bool X.strict,.int .i64 X.frm,.slice Xd X.mine.doms.length xd,.slice Xt X.mine.tabs.length xt,.slice Xg X.gone.length xg,.slice Xh X.read.length xh] 41)) (jg7 w4.heap.size (w10.alloc (.cells #[.bool X.opn,.bool X.strict,.int .i64 X.frm,.slice Xd X.mine.doms.length xd,.slice Xt X.mine.tabs.length xt,.slice Xg X.gone.length xg,.slice Xh X.read.length xh] 41))) X.gone (.slice Xg X.gone.length xg)):=(y3.keep fun p hp=>hbx.cell hp.2.1).more ups
    have HXR:Hid (Sl Enc.str (w10.alloc (.cells #[.bool X.opn,.bool X.strict,.int .i64 X.frm,.slice Xd X.mine.doms.length xd,.slice Xt X.mine.tabs.length xt,.slice Xg X.gone.length xg,.slice Xh X.read.length xh] 41)) (jg7 w4.heap.size (w10.alloc (.cells #[.bool X.opn,.bool X.strict,.int .i64 X.frm,.slice Xd X.mine.doms.length xd,.slice Xt X.mine.tabs.length xt,.slice Xg X.gone.length xg,.slice Xh X.read.length xh] 41))) X.read (.slice Xh X.read.length xh)):=(y4.keep fun p hp=>hbx.cell hp.2.1).more ups
    have HLX:Hid (w4.heap.size≤(w10.alloc (.cells #[.bool X.opn,.bool X.strict,.int .i64 X.frm,.slice Xd X.mine.doms.length xd,.slice Xt X.mine.tabs.length xt,.slice Xg X.gone.length xg,.slice Xh X.read.length xh] 41)).heap.size):=by have:=h1x.size;show _≤_;omega
    have HB4X:Hid (Below w4.heap.size w4 (w10.alloc (.cells #[.bool X.opn,.bool X.strict,.int .i64 X.frm,.slice Xd X.mine.doms.length xd,.slice Xt X.mine.tabs.length xt,.slice Xg X.gone.length xg,.slice Xh X.read.length xh] 41))):=HB41.out.trans (h1x.mono hu1)
    clear y1 y2 y3 y4 ups
    go_wp2
    generalize hwx:w10.alloc (.cells #[.bool X.opn,.bool X.strict,.int .i64 X.frm,.slice Xd X.mine.doms.length xd,.slice Xt X.mine.tabs.length xt,.slice Xg X.gone.length xg,.slice Xh X.read.length xh] 41)=wx at *
    clear hwx
    go_loopw [138] (fun i wr=>∃ q:Nat,q≤X.gone.length∧i = .int .i64 q∧Hid (Spoil w4.heap.size wx wr)) (fun i _=>X.gone.length-(intOf i).toNat)
    case atStart=>exact ⟨0,Nat.zero_le _,rfl,Spoil.refl HLX.out⟩
    case round =>
     obtain ⟨i8,hi8,rfl,P8⟩:=hrel
     rename World=>u8
     by_cases li8:i8<X.gone.length
     ·have mi8:(i8:Int)<(X.gone.length:Int):=by omega
      have pi8:(0:Int)≤i8:=by omega
      obtain ⟨b8,o8,s8,rfl,hS8,-,z8⟩:=HXG.out.str_at (k:=i8) li8
      obtain ⟨s8',r8⟩:=P8.out.str z8
      have f8:=P8.out.free hS8 (o8+i8)
      have t4:=P8.out.sl x4
      go_wp2
      exact ⟨⟨i8+1,by omega,by go_num,P8.out.set hS8.1 r8 (Kin.strs _ _)⟩,by simp [intOf];omega⟩
     ·have mi8:¬ (i8:Int)<(X.gone.length:Int):=by omega
      have t5:=P8.out.sl x5
      go_wp2
      clear t5
      go_loopw [149] (fun i wr=>∃ q:Nat,q≤X.read.length∧i = .int .i64 q∧Hid (Spoil w4.heap.size wx wr)) (fun i _=>X.read.length-(intOf i).toNat)
      case atStart=>exact ⟨0,Nat.zero_le _,rfl,P8⟩
      case round =>
       obtain ⟨i9,hi9,rfl,P9⟩:=hrel
       rename World=>u9
       by_cases li9:i9<X.read.length
       ·have mi9:(i9:Int)<(X.read.length:Int):=by omega
        have pi9:(0:Int)≤i9:=by omega
        obtain ⟨b9,o9,s9,rfl,hS9,-,z9⟩:=HXR.out.str_at (k:=i9) li9
        obtain ⟨s9',r9⟩:=P9.out.str z9
        have f9:=P9.out.free hS9 (o9+i9)
        have t5:=P9.out.sl x5
        go_wp2
        exact ⟨⟨i9+1,by omega,by go_num,P9.out.set hS9.1 r9 (Kin.strs _ _)⟩,by simp [intOf];omega⟩
       ·have mi9:¬ (i9:Int)<(X.read.length:Int):=by omega
        have HBX:=Lib.hid (HB4X.out.trans P9.out.below)
        have T9:=Lib.hid (T4.out.next HBX.out)
        have C9:=Lib.hid (CO4.out.next HBX.out)
        have c9:=C9.out.at 0 rfl
        go_wp2_with fail
        refine (jov σ' σ' (ji6.refl σ') c d g g2 vs us vl ul _ T9.out.two.st T9.out.one.st (HV.out.next T9.out.one.below)).mono ?_
        rintro e wz ⟨rfl,hbz⟩
        go_wp2
        go_ret
        have Tz:=T9.out.next hbz
        exact ⟨rfl,Tz.two,⟨g2,d,us,ul,by rw [HNX.out];exact ⟨C9.out.next hbz,HCOB.out,HDB.out,hobw,Tz.one,fun b hb=>by
         by_cases e:d b=0
         ·exact e
         ·exact absurd (Tz.apart b e) hb⟩⟩⟩
end Go.Proofs.YthmlndmlnlfhnaaGreatDoor
