import Derived.Test.YthmlndmlnlfhnaaGreatDoorK16eb970a
set_option maxRecDepth 100000
set_option maxHeartbeats 16000000
namespace Go.Proofs.YthmlndmlnlfhnaaGreatDoor
open Go.RowKit Go.Shelf
def Cd (c:Nat→Nat):Nat→Prop:=fun b=>c b≠0
theorem SessC.at {w:World} {c:Nat→Nat} {n:Nat} {x:SessD} {vd vt vg vr:Value} (h:SessC w c n x vd vt vg vr):jhb w (Cd c) x (.agg #[.bool x.opn,.bool x.strict,.int .i64 x.frm,vd,vt,vg,vr]) :=
 ⟨vd,vt,vg,vr,rfl,h.doms.more fun b hb=>by rw [Cd,show c b=11 from hb];decide,h.tabs.more fun b hb=>by rw [Cd,show c b=11 from hb];decide,h.gone.sl fun b hb=>by rw [Cd,h.goneC b hb];omega,h.read.sl fun b hb=>by rw [Cd,h.readC b hb];omega⟩
theorem jhb.keepS {w w':World} {S:Nat→Prop} {x:SessD} {v:Value} (h:jhb w S x v) (hk:∀ k,S k→w'.heap[k]? = w.heap[k]?):jhb w' S x v:=by
 obtain ⟨vd,vt,vg,vr,e,h1,h2,h3,h4⟩:=h
 exact ⟨vd,vt,vg,vr,e,h1.keep fun _ hp=>World.cell?_of_block (hk _ hp),h2.keep fun _ hp=>World.cell?_of_block (hk _ hp),h3.keep fun _ hp=>World.cell?_of_block (hk _ hp),h4.keep fun _ hp=>World.cell?_of_block (hk _ hp)⟩
theorem jhb.moreS {w:World} {S S':Nat→Prop} {x:SessD} {v:Value} (h:jhb w S x v) (hS:∀ k,S k→S' k):jhb w S' x v:=by
 obtain ⟨vd,vt,vg,vr,e,h1,h2,h3,h4⟩:=h
 exact ⟨vd,vt,vg,vr,e,h1.more hS,h2.more hS,h3.more hS,h4.more hS⟩
theorem jxy (σ:StoreD) (c:Nat→Nat) (g:Nat) (vs:List Value) (vl:Value) (x:SessD) (v:Value) (w:World) (h:StoreC w c g σ vs vl) (hx:jhb w (Cd c) x v) (hm:okB x.mine=true) (hf:x.frm ≤ σ.last) (hl:x.mine.doms.length≤100000∧x.mine.tabs.length≤100000) :
  Calls Tryz.prog 115 #[.pointer (some ⟨g,0,none⟩),v] w fun e w'=>∃ u,e = .returned u∧jar w' (From w.heap.size w') (jfu σ x) u∧Below w.heap.size w w':=by
 have HH:=Lib.hid h
 have HX:=Lib.hid hx
 have HM:=Lib.hid hm
 have HCL:=Lib.hid h.lt
 have HVO:=Lib.hid (jq4 h.inv x.frm)
 have hvl:=jn7 h.inv x.frm
 have HSE:Hid (jfu σ x=jf0 (σ.ver x.frm) x.mine x.gone):=rfl
 generalize jfu σ x=R at *
 obtain ⟨vd,vt,vg,vr,rfl,y1,y2,y3,y4⟩:=hx
 obtain ⟨Ad,cd,rfl,-,-⟩:=y1.form
 obtain ⟨At,ct,rfl,-,-⟩:=y2.form
 obtain ⟨Ag,cg,rfl,-,-⟩:=y3.form
 obtain ⟨Ah,ch,rfl,-,-⟩:=y4.form
 clear y1 y2 y3 y4 h hm
 have hb0:=jac w (.cells #[.bool x.opn,.bool x.strict,.int .i64 x.frm,.slice Ad x.mine.doms.length cd,.slice At x.mine.tabs.length ct,.slice Ag x.gone.length cg,.slice Ah x.read.length ch] 41)
 have C0:=Lib.hid (Cs.new w [.bool x.opn,.bool x.strict,.int .i64 x.frm,.slice Ad x.mine.doms.length cd,.slice At x.mine.tabs.length ct,.slice Ag x.gone.length cg,.slice Ah x.read.length ch] 41)
 have hz0:(w.alloc (.cells #[.bool x.opn,.bool x.strict,.int .i64 x.frm,.slice Ad x.mine.doms.length cd,.slice At x.mine.tabs.length ct,.slice Ag x.gone.length cg,.slice Ah x.read.length ch] 41)).heap.size=w.heap.size+1:=by simp
 change Hid (Cs (w.alloc (.cells #[.bool x.opn,.bool x.strict,.int .i64 x.frm,.slice Ad x.mine.doms.length cd,.slice At x.mine.tabs.length ct,.slice Ag x.gone.length cg,.slice Ah x.read.length ch] 41)) _ _) at C0
 generalize hw0:w.alloc (.cells #[.bool x.opn,.bool x.strict,.int .i64 x.frm,.slice Ad x.mine.doms.length cd,.slice At x.mine.tabs.length ct,.slice Ag x.gone.length cg,.slice Ah x.read.length ch] 41)=w0 at *
 have hb1:=jac w0 (.cells #[.slice none 0 0,.slice none 0 0] 38)
 have C1:=Lib.hid (Cs.new w0 [.slice none 0 0,.slice none 0 0] 38)
 have hz1:(w0.alloc (.cells #[.slice none 0 0,.slice none 0 0] 38)).heap.size=w.heap.size+2:=by simp;omega
 change Hid (Cs (w0.alloc (.cells #[.slice none 0 0,.slice none 0 0] 38)) _ _) at C1
 rw [hz0] at C1
 have C01:=Lib.hid (C0.out.next hb1)
 have hb01:=bx hb0 hb1
 generalize hw1:w0.alloc (.cells #[.slice none 0 0,.slice none 0 0] 38)=w1 at *
 have H1:Hid (StoreC w1.drew c g σ vs vl):=(HH.out.next hb01).keep (w':=w1.drew) (fun _ _=>rfl) (Nat.le_refl _)
 have hk:=fun j v (hv:([.bool x.opn,.bool x.strict,.int .i64 x.frm,.slice Ad x.mine.doms.length cd,.slice At x.mine.tabs.length ct,.slice Ag x.gone.length cg,.slice Ah x.read.length ch]:List Value)[j]? = some v)=>(show w1.drew.cell? ⟨w.heap.size,j,none⟩=some v from C01.out.2.1 j v hv)
 have k0:=hk 0 _ rfl
 have k1:=hk 1 _ rfl
 have k2:=hk 2 _ rfl
 have k3:=hk 3 _ rfl
 have k4:=hk 4 _ rfl
 have k5:=hk 5 _ rfl
 have k6:=hk 6 _ rfl
 clear hk
 go_enter Tryz.func115,Tryz.ntmps115
 go_wp2_with fail
 clear hw0 hw1 C0 hb0 hb1
 go_region_law (first
  | (go_simp;go_at_call 47;refine (jgs σ c g vs vl _ H1.out x.frm hf).mono ?_;rintro e w2 ⟨ud,ut,rfl,hu,hb2'⟩;have hb2:Below w1.heap.size w1 w2:=jcw hb2';have HU:Hid (jar w2 (Im c) (σ.ver x.frm) (.agg #[ud,ut])):=hu;obtain ⟨qd,qt,eq,s1,s2⟩:=hu;injection eq with eq;injection eq with eq;injection eq with eq1 eq2;injection eq2 with eq2 _;subst eq1 eq2;obtain ⟨Aq,cq,rfl,-,-⟩:=s1.form;obtain ⟨Bq,dq,rfl,-,-⟩:=s2.form;clear s1 s2 hb2';have C02:=Lib.hid (C01.out.next hb2);have C12:=Lib.hid (C1.out.next hb2);have hk:=fun j v (hv:([.bool x.opn,.bool x.strict,.int .i64 x.frm,.slice Ad x.mine.doms.length cd,.slice At x.mine.tabs.length ct,.slice Ag x.gone.length cg,.slice Ah x.read.length ch]:List Value)[j]? = some v)=>C02.out.2.1 j v hv;have j0:=hk 0 _ rfl;have j1:=hk 1 _ rfl;have j2:=hk 2 _ rfl;have j3:=hk 3 _ rfl;have j4:=hk 4 _ rfl;have j5:=hk 5 _ rfl;have j6:=hk 6 _ rfl;clear hk)
  | (go_simp;go_at_call 33;refine (jor (σ.ver x.frm) x _ _ _ (Cd c) (HU.out.moreS (fun b hb=>by rw [Cd,show c b=11 from hb];decide)) (HX.out.keepS (fun k hk=>(bx hb01 hb2).block k (HCL.out k hk))) (fun k hk=>Nat.lt_of_lt_of_le (HCL.out k hk) (bx hb01 hb2).size) HVO.out HM.out (by omega)).mono ?_;rintro e w3 ⟨u3,rfl,hu3,hb3⟩;have HU3:=Lib.hid hu3;obtain ⟨q3,p3,rfl,s1,s2⟩:=hu3;obtain ⟨A3,c3,rfl,-,-⟩:=s1.form;obtain ⟨B3,d3,rfl,-,-⟩:=s2.form;clear s1 s2;have C13:=Lib.hid (C12.out.next hb3);have r0:=C13.out.at 0 rfl;have r1:=C13.out.at 1 rfl;have f0:=C13.out.2.2 0 (by simp);have f1:=C13.out.2.2 1 (by simp)))
 all_goals
  have hz2:=hb2.size
  go_wp2
  (try simp only [Exit.inBlock,Exit.then])
  refine bodyPost_ret (jla (b:=w.heap.size+1) rfl rfl ((C13.out.set 0 (by simp) _).set 1 (by simp) _)) rfl ⟨_,rfl,?_,((bx (bx hb01 hb2) hb3).setCell (by simp) _).setCell (by simp) _⟩
  rw [HSE.out]
  refine (HU3.out.keepS fun q hq=>?_).moreS fun q hq=>⟨by have:=hq.1;omega,by simp [World.setCell];exact hq.2⟩
  rw [RowKit.Below.heap_setCell _ _ _ _ (show q≠w.heap.size+1 by have:=hq.1;omega),RowKit.Below.heap_setCell _ _ _ _ (show q≠w.heap.size+1 by have:=hq.1;omega)]
def jc0 (c:Nat→Nat):Prop:=∀ nm∈jgt,∀ k,Tryz.prog.globalNamed nm=some k→c k=0
theorem VarsOk.fr {w w':World} {c:Nat→Nat} (h:VarsOk w) (hc:jc0 c) (hF:Fr c w w'):VarsOk w':=by
 have ha:=h.above
 have e:∀ n∈jgt,w'.var? Tryz.prog n=w.var? Tryz.prog n:=fun n hn=>ycw fun k hk'=>hF.block k (ha n hn k hk') (hc n hn k hk')
 obtain ⟨h1,h2,h3,h4⟩:=h
 refine ⟨?_,?_,?_,?_⟩
 ·unfold Lib.TabIs at h1 ⊢
  rw [e _ (by simp [jgt])];exact h1
 ·rw [e _ (by simp [jgt])];exact h2
 ·rw [e _ (by simp [jgt])];exact h3
 ·rw [e _ (by simp [jgt])];exact h4
theorem jb1 {w:World} {c:Nat→Nat} (h:∀ b,c b≠0→b<w.heap.size) {b:Nat} (hb:w.heap.size≤b):c b=0:=by
 by_cases h0:c b=0
 ·exact h0
 ·have:=h b h0;omega
theorem ym2 (σ:StoreD) (c:Nat→Nat) (g n:Nat) (vs:List Value) (vl:Value) (x:SessD) (s:ByteArray) (w:World) (h:StoreC w c g σ vs vl) (hv:VarsOk w) (hvc:jc0 c) (hx:σ.sess[n]? = some x) (hs:s.size≤140737488355328) (hI:Inv (jaq σ n (getV σ x s).1)) :
  Calls Tryz.prog 72 #[.pointer (some ⟨g,0,none⟩),.pointer (some ⟨g,1+n*7,none⟩),.string s] w (jam w c g (jaq σ n (getV σ x s).1,(getV σ x s).2)):=by
 have hSO:=h.inv.sess x (List.mem_of_getElem? hx)
 have hacts:=h.inv.acts
 obtain ⟨vd,vt,vg,vr,hC,hn,hL,hcell⟩:=h.sessAt hx
 have HH:=Lib.hid h
 have HC:=Lib.hid hC
 have HL:=Lib.hid hL
 have hgw:g<w.heap.size:=h.cs.1
 have HME:=Lib.hid hSO.mine
 have hds:=hSO.ds
 have hts:=hSO.ts
 have hrs:=hSO.rs
 have hfrm:=hSO.frm
 have HRR:=Lib.hid hSO.read
 have HCL:=Lib.hid h.lt
 have HSX:=Lib.hid (jm7 hx)
 have hx4:σ.sess.length=4:=h.inv.four
 have HSO:=Lib.hid (yms h.inv hSO.mine)
 have HG0:Hid (getV σ x s=if jdr s=false then (x,jb8 1) else ({ x with read:=jbg x.read s },if jb2 (jfu σ x) s = [] then jb8 3 else ⟨0,0,bs (jb2 (jfu σ x) s),[],[]⟩)):=rfl
 generalize getV σ x s=PV at *
 obtain ⟨Ad,cd,rfl,-,-⟩:=hC.doms.form
 obtain ⟨At,ct,rfl,-,-⟩:=hC.tabs.form
 obtain ⟨Ag,cg,rfl,-,-,-⟩:=jah hC.gone
 obtain ⟨Ah,ch,rfl,-,-,-⟩:=jah hC.read
 have m6:w.cell? ⟨g,1+n*7+6,none⟩=some (.slice Ah x.read.length ch):=(hcell 6 _ rfl).1
 have z6:w.frozen? ⟨g,1+n*7+6,none⟩=false:=(hcell 6 _ rfl).2
 have HV:=Lib.hid hv
 have HVC:=Lib.hid hvc
 clear hC hL hcell h hSO hx hv hvc
 have hb0:=jac w (.cells #[.int .i64 0,.int .i64 0,.string ⟨#[]⟩,.slice none 0 0,.slice none 0 0] 30)
 have C0:=Lib.hid (Cs.new w zeroRL 30)
 have hz0:(w.alloc (.cells #[.int .i64 0,.int .i64 0,.string ⟨#[]⟩,.slice none 0 0,.slice none 0 0] 30)).heap.size=w.heap.size+1:=by simp
 change Hid (Cs (w.alloc (.cells #[.int .i64 0,.int .i64 0,.string ⟨#[]⟩,.slice none 0 0,.slice none 0 0] 30)) _ _) at C0
 generalize hw0:w.alloc (.cells #[.int .i64 0,.int .i64 0,.string ⟨#[]⟩,.slice none 0 0,.slice none 0 0] 30)=w0 at *
 go_enter Tryz.func72,Tryz.ntmps72
 go_wp2_with fail
 clear hw0
 refine (jiz s _ hs).mono ?_
 rintro e w1 ⟨rfl,hb1⟩
 have C1:=Lib.hid (C0.out.next hb1)
 have hb01:=bx hb0 hb1
 have hs1:=hb1.size
 have r0:=C1.out.at 0 rfl
 have r1:=C1.out.at 1 rfl
 have r2:=C1.out.at 2 rfl
 have r3:=C1.out.at 3 rfl
 have r4:=C1.out.at 4 rfl
 have f0:=C1.out.2.2 0 (by simp)
 have f1:=C1.out.2.2 1 (by simp)
 have f2:=C1.out.2.2 2 (by simp)
 have f3:=C1.out.2.2 3 (by simp)
 have f4:=C1.out.2.2 4 (by simp)
 have hc0:c w.heap.size=0:=jb1 HCL.out (Nat.le_refl _)
 cases hq:jdr s
 ·have HE:Hid (PV=(x,jb8 1)):=by show _=_;rw [HG0.out,hq];rfl
  clear hq
  go_wp2
  (try simp only [Exit.inBlock,Exit.then])
  refine bodyPost_ret (jaz (b:=w.heap.size) rfl rfl (jbs C1.out _ _ _ _ _)) rfl ?_
  rw [HE.out]
  simp only
  rw [HSX.out]
  exact jam.wrote (HH.out.next hb01) (fun _ _=>rfl) (Nat.le_refl _) hc0 (Fr.below hb01) (jb0.plain 1 0 _)
 ·have HE:Hid (PV=({ x with read:=jbg x.read s },if jb2 (jfu σ x) s = [] then jb8 3 else ⟨0,0,bs (jb2 (jfu σ x) s),[],[]⟩)):=by show _=_;rw [HG0.out,hq];rfl
  clear hq HG0
  rw [HE.out] at hI
  simp only at hI
  have HI:=Lib.hid hI
  clear hI r0 r1 r2 r3 r4 f0 f1 f2 f3 f4
  have n6:=(hb01.cell (p:=⟨g,1+n*7+6,none⟩) hgw).trans m6
  have H1:=Lib.hid (HH.out.next hb01)
  have HC1:Hid (SessC w1 c n x _ _ _ _):=HC.out.keep (w':=w1) (c':=c) (fun b hb=>⟨hb01.block b (HCL.out b (by omega)),rfl⟩)
  go_wp2_with fail
  refine (jep x.read _ s _ 0 HC1.out.read HRR.out (by omega) (Nat.zero_le _)).mono ?_
  rintro e w4 ⟨v4,rfl,ho4,hg4,hm4⟩
  have hgg:some g≠(Value.slice Ah x.read.length ch).ownBlock:=fun e=>by have:=HC.out.readC g e.symm;rw [HH.out.col] at this;omega
  have hz4:=hg4.size
  have C4:=Lib.hid (C1.out.grownO hg4 (fun e=>by have:=HC.out.readC _ e;rw [hc0] at this;omega))
  have k6:w4.cell? ⟨g,1+n*7+6,none⟩=some (.slice Ah x.read.length ch):=(World.cell?_of_block (a:=⟨g,1+n*7+6,none⟩) (hg4.block g (by omega) hgg)).trans n6
  have y6:w4.frozen? ⟨g,1+n*7+6,none⟩=false:=(World.frozen?_of_block (a:=⟨g,1+n*7+6,none⟩) (hg4.block g (by omega) hgg)).trans ((World.frozen?_of_block (a:=⟨g,1+n*7+6,none⟩) (hb01.block g hgw)).trans z6)
  obtain ⟨c',hSt,hold,hnc,hF,hC5,hL5⟩:=H1.out.readS hn HC1.out HL.out ho4 hg4 hm4 HI.out
  obtain ⟨A4,c4,e4,-,-,-⟩:=jah ho4
  subst e4
  have hc':c' w.heap.size=0:=by rw [hold _ (by omega)];exact hc0
  have HST:=Lib.hid hSt
  have HOLD:=Lib.hid hold
  have HF:Hid (Fr c w _):=(Fr.below hb01).trans hF (fun b _=>rfl)
  have HC5:=Lib.hid hC5
  have C5:=Lib.hid (C4.out.keep (w':=w4.setCell ⟨g,1+n*7+6,none⟩ (.slice A4 (jbg x.read s).length c4)) (RowKit.Below.heap_setCell _ _ _ _ (show w.heap.size≠g by omega)) (by simp [World.setCell]))
  have hz5:(w4.setCell ⟨g,1+n*7+6,none⟩ (.slice A4 (jbg x.read s).length c4)).heap.size=w4.heap.size:=by simp [World.setCell]
  have hc4:∀ j v,(jpv x (.slice Ad x.mine.doms.length cd) (.slice At x.mine.tabs.length ct) (.slice Ag x.gone.length cg) (.slice Ah x.read.length ch))[j]? = some v→w4.cell? ⟨g,1+n*7+j,none⟩=some v:=fun j v hj=>(World.cell?_of_block (a:=⟨g,1+n*7+j,none⟩) (hg4.block g (by omega) hgg)).trans (H1.out.cs.2.1 _ v (HL.out j v hj))
  have i0:=hc4 0 _ rfl
  have i1:=hc4 1 _ rfl
  have i2:=hc4 2 _ rfl
  have i3:=hc4 3 _ rfl
  have i4:=hc4 4 _ rfl
  have i5:=hc4 5 _ rfl
  rw [Nat.add_zero] at i0
  clear hc4
  clear hSt hold hF hC5 hL5 ho4 hg4 hm4
  go_wp2_with fail
  generalize hw5:w4.setCell ⟨g,1+n*7+6,none⟩ (.slice A4 (jbg x.read s).length c4)=w5 at *
  clear hw5 i0 i1 i2 i3 i4 i5 k6 y6 n6
  refine (jxy _ c' g _ vl { x with read:=jbg x.read s } _ _ HST.out HC5.out.at HME.out hfrm ⟨by show x.mine.doms.length≤_;omega,by show x.mine.tabs.length≤_;omega⟩).mono ?_
  have hse:jfu (jaq σ n { x with read:=jbg x.read s }) { x with read:=jbg x.read s } = jfu σ x:=rfl
  rw [hse]
  rintro e w6 ⟨u6,rfl,hu6,hb6⟩
  have HV5:=Lib.hid (HV.out.fr HVC.out HF.out)
  have HV6:=Lib.hid (HV5.out.next hb6)
  have HU6:=Lib.hid (hu6.moreS (fun _ hk=>hk.2):jar w6 (Old w6) (jfu σ x) u6)
  generalize jfu σ x=SV at *
  go_wp2_with fail
  refine (jne SV s _ _ HU6.out (jh6 HSO.out) HV6.out).mono ?_
  rintro e w7 ⟨rfl,hb7⟩
  have hb57:=bx hb6 hb7
  have C7:=Lib.hid (C5.out.next hb57)
  have H7:=Lib.hid (HST.out.next hb57)
  have HF7:Hid (Fr c w w7):=HF.out.trans (Fr.below (c:=c) hb57) (fun _ _=>rfl)
  have r0:=C7.out.at 0 rfl
  have r1:=C7.out.at 1 rfl
  have r2:=C7.out.at 2 rfl
  have r3:=C7.out.at 3 rfl
  have r4:=C7.out.at 4 rfl
  have f0:=C7.out.2.2 0 (by simp)
  have f1:=C7.out.2.2 1 (by simp)
  have f2:=C7.out.2.2 2 (by simp)
  have f3:=C7.out.2.2 3 (by simp)
  have f4:=C7.out.2.2 4 (by simp)
  by_cases hE0:jb2 SV s = []
  ·have HE':Hid (PV=({ x with read:=jbg x.read s },jb8 3)):=by show _=_;rw [HE.out,if_pos hE0]
   rw [hE0]
   have ebs:bs [] = ⟨#[]⟩:=rfl
   rw [ebs]
   clear HE hE0
   go_wp2
   (try simp only [Exit.inBlock,Exit.then])
   refine bodyPost_ret (jaz (b:=w.heap.size) rfl rfl (jbs C7.out _ _ _ _ _)) rfl ?_
   rw [HE'.out]
   exact jam.wrote H7.out (fun b hb=>HOLD.out b (by omega)) (Nat.le_refl _) hc' HF7.out (jb0.plain 3 0 _)
  ·have HE':Hid (PV=({ x with read:=jbg x.read s },⟨0,0,bs (jb2 SV s),[],[]⟩)):=by show _=_;rw [HE.out,if_neg hE0]
   have hne:((bs (jb2 SV s)).toList == (⟨#[]⟩:ByteArray).toList)=false:=by
    rw [beq_eq_false_iff_ne,ByteArray.toList_eq,ByteArray.toList_eq,jdb]
    simpa using hE0
   have hne2:((bs (jb2 SV s)).toList == [])=false:=by
    rw [beq_eq_false_iff_ne,ByteArray.toList_eq,jdb]
    exact hE0
   have hne3:¬ (bs (jb2 SV s)).toList = []:=by
    rw [ByteArray.toList_eq,jdb]
    exact hE0
   clear HE hE0
   generalize bs (jb2 SV s)=TX at *
   go_wp2
   (try simp only [Exit.inBlock,Exit.then])
   refine bodyPost_ret (jaz (b:=w.heap.size) rfl rfl (jbs C7.out _ _ _ _ _)) rfl ?_
   rw [HE'.out]
   exact jam.wrote H7.out (fun b hb=>HOLD.out b (by omega)) (Nat.le_refl _) hc' HF7.out (jb0.plain 0 0 _)
end Go.Proofs.YthmlndmlnlfhnaaGreatDoor
