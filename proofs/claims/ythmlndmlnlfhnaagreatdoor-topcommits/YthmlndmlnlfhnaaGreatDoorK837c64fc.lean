import Derived.Test.YthmlndmlnlfhnaaGreatDoorK39d91355
set_option maxRecDepth 100000
set_option maxHeartbeats 16000000
namespace Go.Proofs.YthmlndmlnlfhnaaGreatDoor
open Go.RowKit Go.Shelf
def Cd (c:Nat→Nat):Nat→Prop:=fun b=>c b≠0
theorem SessC.at {w:World} {c:Nat→Nat} {n:Nat} {x:SessD} {vd vt vg vr:Value} (h:SessC w c n x vd vt vg vr):jhb w (Cd c) x (.agg #[.bool x.opn,.bool x.strict,.int .i64 x.frm,vd,vt,vg,vr]) :=
 ⟨vd,vt,vg,vr,rfl,h.doms.more fun b hb=>by rw [Cd,show c b=11 from hb];decide,h.tabs.more fun b hb=>by rw [Cd,show c b=11 from hb];decide,h.gone.sl fun b hb=>by rw [Cd,h.goneC b hb];omega,h.read.sl fun b hb=>by rw [Cd,h.readC b hb];omega⟩
theorem jhb.keepS {w w':World} {S:Nat→Prop} {x:SessD} {v:Value} (h:jhb w S x v) (hk:∀ k,S k→w'.heap[k]? = w.heap[k]?):jhb w' S x v:=by
 obtain ⟨vd,vt,vg,vr,e,h1,h2,h3,h4⟩:=h
 exact ⟨vd,vt,vg,vr,e,h1.keep fun _ hp=>World.cell?_of_block (hk _ hp),h2.keep fun _ hp=>World.cell?_of_block (hk _ hp),h3.keep fun _ hp=>World.cell?_of_block (hk _ hp),h4.keep fun _ hp=>World.cell?_of_block (hk _ hp)⟩
theorem jhb.moreS {w:World} {S S':Nat→Prop} {x:SessD} {v:Value} (h:jhb w S x v) (hS:∀ k,S k→S' k):jhb w S' x v:=by
 obtain ⟨vd,vt,vg,vr,e,h1,h2,h3,h4⟩:=h
 exact ⟨vd,vt,vg,vr,e,h1.more hS,h2.more hS,h3.more hS,h4.more hS⟩
theorem jxy (σ:StoreD) (c:Nat→Nat) (g:Nat) (vs:List Value) (vl:Value) (x:SessD) (v:Value) (w:World) (h:StoreC w c g σ vs vl) (hx:jhb w (Cd c) x v) (hm:okB x.mine=true) (hf:x.frm ≤ σ.last) (hl:x.mine.doms.length≤100000∧x.mine.tabs.length≤100000) :
  Calls Tryz.prog 115 #[.pointer (some ⟨g,0,none⟩),v] w fun e w'=>∃ u,e = .returned u∧jar w' (From w.heap.size w') (jfu σ x) u∧Below w.heap.size w w':=by
 have HH:=Lib.hid h
 have HX:=Lib.hid hx
 have HM:=Lib.hid hm
 have HCL:=Lib.hid h.lt
 have HVO:=Lib.hid (jq4 h.inv x.frm)
 have hvl:=jn7 h.inv x.frm
 have HSE:Hid (jfu σ x=jf0 (σ.ver x.frm) x.mine x.gone):=rfl
 generalize jfu σ x=R at *
 obtain ⟨vd,vt,vg,vr,rfl,y1,y2,y3,y4⟩:=hx
 obtain ⟨Ad,cd,rfl,-,-⟩:=y1.form
 obtain ⟨At,ct,rfl,-,-⟩:=y2.form
 obtain ⟨Ag,cg,rfl,-,-⟩:=y3.form
 obtain ⟨Ah,ch,rfl,-,-⟩:=y4.form
 clear y1 y2 y3 y4 h hm
 have hb0:=jac w (.cells #[.bool x.opn,.bool x.strict,.int .i64 x.frm,.slice Ad x.mine.doms.length cd,.slice At x.mine.tabs.length ct,.slice Ag x.gone.length cg,.slice Ah x.read.length ch] 41)
 have C0:=Lib.hid (Cs.new w [.bool x.opn,.bool x.strict,.int .i64 x.frm,.slice Ad x.mine.doms.length cd,.slice At x.mine.tabs.length ct,.slice Ag x.gone.length cg,.slice Ah x.read.length ch] 41)
 have hz0:(w.alloc (.cells #[.bool x.opn,.bool x.strict,.int .i64 x.frm,.slice Ad x.mine.doms.length cd,.slice At x.mine.tabs.length ct,.slice Ag x.gone.length cg,.slice Ah x.read.length ch] 41)).heap.size=w.heap.size+1:=by simp
 change Hid (Cs (w.alloc (.cells #[.bool x.opn,.bool x.strict,.int .i64 x.frm,.slice Ad x.mine.doms.length cd,.slice At x.mine.tabs.length ct,.slice Ag x.gone.length cg,.slice Ah x.read.length ch] 41)) _ _) at C0
 generalize hw0:w.alloc (.cells #[.bool x.opn,.bool x.strict,.int .i64 x.frm,.slice Ad x.mine.doms.length cd,.slice At x.mine.tabs.length ct,.slice Ag x.gone.length cg,.slice Ah x.read.length ch] 41)=w0 at *
 have hb1:=jac w0 (.cells #[.slice none 0 0,.slice none 0 0] 38)
 have C1:=Lib.hid (Cs.new w0 [.slice none 0 0,.slice none 0 0] 38)
 have hz1:(w0.alloc (.cells #[.slice none 0 0,.slice none 0 0] 38)).heap.size=w.heap.size+2:=by simp;omega
 change Hid (Cs (w0.alloc (.cells #[.slice none 0 0,.slice none 0 0] 38)) _ _) at C1
 rw [hz0] at C1
 have C01:=Lib.hid (C0.out.next hb1)
 have hb01:=bx hb0 hb1
 generalize hw1:w0.alloc (.cells #[.slice none 0 0,.slice none 0 0] 38)=w1 at *
 have H1:Hid (StoreC w1.drew c g σ vs vl):=(HH.out.next hb01).keep (w':=w1.drew) (fun _ _=>rfl) (Nat.le_refl _)
 have hk:=fun j v (hv:([.bool x.opn,.bool x.strict,.int .i64 x.frm,.slice Ad x.mine.doms.length cd,.slice At x.mine.tabs.length ct,.slice Ag x.gone.length cg,.slice Ah x.read.length ch]:List Value)[j]? = some v)=>(show w1.drew.cell? ⟨w.heap.size,j,none⟩=some v from C01.out.2.1 j v hv)
 have k0:=hk 0 _ rfl
 have k1:=hk 1 _ rfl
 have k2:=hk 2 _ rfl
 have k3:=hk 3 _ rfl
 have k4:=hk 4 _ rfl
 have k5:=hk 5 _ rfl
 have k6:=hk 6 _ rfl
 clear hk
 go_enter Tryz.func115,Tryz.ntmps115
 go_wp2_with fail
 clear hw0 hw1 C0 hb0 hb1
 go_region_law (first
  | (go_simp;go_at_call 47;refine (jgs σ c g vs vl _ H1.out x.frm hf).mono ?_;rintro e w2 ⟨ud,ut,rfl,hu,hb2'⟩;have hb2:Below w1.heap.size w1 w2:=jcw hb2';have HU:Hid (jar w2 (Im c) (σ.ver x.frm) (.agg #[ud,ut])):=hu;obtain ⟨qd,qt,eq,s1,s2⟩:=hu;injection eq with eq;injection eq with eq;injection eq with eq1 eq2;injection eq2 with eq2 _;subst eq1 eq2;obtain ⟨Aq,cq,rfl,-,-⟩:=s1.form;obtain ⟨Bq,dq,rfl,-,-⟩:=s2.form;clear s1 s2 hb2';have C02:=Lib.hid (C01.out.next hb2);have C12:=Lib.hid (C1.out.next hb2);have hk:=fun j v (hv:([.bool x.opn,.bool x.strict,.int .i64 x.frm,.slice Ad x.mine.doms.length cd,.slice At x.mine.tabs.length ct,.slice Ag x.gone.length cg,.slice Ah x.read.length ch]:List Value)[j]? = some v)=>C02.out.2.1 j v hv;have j0:=hk 0 _ rfl;have j1:=hk 1 _ rfl;have j2:=hk 2 _ rfl;have j3:=hk 3 _ rfl;have j4:=hk 4 _ rfl;have j5:=hk 5 _ rfl;have j6:=hk 6 _ rfl;clear hk)
  | (go_simp;go_at_call 33;refine (jor (σ.ver x.frm) x _ _ _ (Cd c) (HU.out.moreS (fun b hb=>by rw [Cd,show c b=11 from hb];decide)) (HX.out.keepS (fun k hk=>(bx hb01 hb2).block k (HCL.out k hk))) (fun k hk=>Nat.lt_of_lt_of_le (HCL.out k hk) (bx hb01 hb2).size) HVO.out HM.out (by omega)).mono ?_;rintro e w3 ⟨u3,rfl,hu3,hb3⟩;have HU3:=Lib.hid hu3;obtain ⟨q3,p3,rfl,s1,s2⟩:=hu3;obtain ⟨A3,c3,rfl,-,-⟩:=s1.form;obtain ⟨B3,d3,rfl,-,-⟩:=s2.form;clear s1 s2;have C13:=Lib.hid (C12.out.next hb3);have r0:=C13.out.at 0 rfl;have r1:=C13.out.at 1 rfl;have f0:=C13.out.2.2 0 (by simp);have f1:=C13.out.2.2 1 (by simp)))
 all_goals
  have hz2:=hb2.size
  go_wp2
  (try simp only [Exit.inBlock,Exit.then])
  refine bodyPost_ret (jla (b:=w.heap.size+1) rfl rfl ((C13.out.set 0 (by simp) _).set 1 (by simp) _)) rfl ⟨_,rfl,?_,((bx (bx hb01 hb2) hb3).setCell (by simp) _).setCell (by simp) _⟩
  rw [HSE.out]
  refine (HU3.out.keepS fun q hq=>?_).moreS fun q hq=>⟨by have:=hq.1;omega,by simp [World.setCell];exact hq.2⟩
  rw [RowKit.Below.heap_setCell _ _ _ _ (show q≠w.heap.size+1 by have:=hq.1;omega),RowKit.Below.heap_setCell _ _ _ _ (show q≠w.heap.size+1 by have:=hq.1;omega)]
def jc0 (c:Nat→Nat):Prop:=∀ nm∈jgt,∀ k,Tryz.prog.globalNamed nm=some k→c k=0
theorem VarsOk.fr {w w':World} {c:Nat→Nat} (h:VarsOk w) (hc:jc0 c) (hF:Fr c w w'):VarsOk w':=by
 have ha:=h.above
 have e:∀ n∈jgt,w'.var? Tryz.prog n=w.var? Tryz.prog n:=fun n hn=>ycw fun k hk'=>hF.block k (ha n hn k hk') (hc n hn k hk')
 obtain ⟨h1,h2,h3,h4⟩:=h
 refine ⟨?_,?_,?_,?_⟩
 ·unfold Lib.TabIs at h1 ⊢
  rw [e _ (by simp [jgt])];exact h1
 ·rw [e _ (by simp [jgt])];exact h2
 ·rw [e _ (by simp [jgt])];exact h3
 ·rw [e _ (by simp [jgt])];exact h4
theorem jb1 {w:World} {c:Nat→Nat} (h:∀ b,c b≠0→b<w.heap.size) {b:Nat} (hb:w.heap.size≤b):c b=0:=by
 by_cases h0:c b=0
 ·exact h0
 ·have:=h b h0;omega
theorem ym2 (σ:StoreD) (c:Nat→Nat) (g n:Nat) (vs:List Value) (vl:Value) (x:SessD) (s:ByteArray) (w:World) (h:StoreC w c g σ vs vl) (hv:VarsOk w) (hvc:jc0 c) (hx:σ.sess[n]? = some x) (hs:s.size≤140737488355328) (hI:Inv (jaq σ n (getV σ x s).1)) :
  Calls Tryz.prog 72 #[.pointer (some ⟨g,0,none⟩),.pointer (some ⟨g,1+n*7,none⟩),.string s] w (jam w c g (jaq σ n (getV σ x s).1,(getV σ x s).2)):=by
 have hSO:=h.inv.sess x (List.mem_of_getElem? hx)
 have hacts:=h.inv.acts
 obtain ⟨vd,vt,vg,vr,hC,hn,hL,hcell⟩:=h.sessAt hx
 have HH:=Lib.hid h
 have HC:=Lib.hid hC
 have HL:=Lib.hid hL
 have hgw:g<w.heap.size:=h.cs.1
 have HME:=Lib.hid hSO.mine
 have hds:=hSO.ds
 have hts:=hSO.ts
 have hrs:=hSO.rs
 have hfrm:=hSO.frm
 have HRR:=Lib.hid hSO.read
 have HCL:=Lib.hid h.lt
 have HSX:=Lib.hid (jm7 hx)
 have hx4:σ.sess.length=4:=h.inv.four
 have HSO:=Lib.hid (yms h.inv hSO.mine)
 have HG0:Hid (getV σ x s=if jdr s=false then (x,jb8 1) else ({ x with read:=jbg x.read s },if jb2 (jfu σ x) s = [] then jb8 3 else ⟨0,0,bs (jb2 (jfu σ x) s),[],[]⟩)):=rfl
 generalize getV σ x s=PV at *
 obtain ⟨Ad,cd,rfl,-,-⟩:=hC.doms.form
 obtain ⟨At,ct,rfl,-,-⟩:=hC.tabs.form
 obtain ⟨Ag,cg,rfl,-,-,-⟩:=jah hC.gone
 obtain ⟨Ah,ch,rfl,-,-,-⟩:=jah hC.read
 have m6:w.cell? ⟨g,1+n*7+6,none⟩=some (.slice Ah x.read.length ch):=(hcell 6 _ rfl).1
 have z6:w.frozen? ⟨g,1+n*7+6,none⟩=false:=(hcell 6 _ rfl).2
 have HV:=Lib.hid hv
 have HVC:=Lib.hid hvc
 clear hC hL hcell h hSO hx hv hvc
 have hb0:=jac w (.cells #[.int .i64 0,.int .i64 0,.string ⟨#[]⟩,.slice none 0 0,.slice none 0 0] 30)
 have C0:=Lib.hid (Cs.new w zeroRL 30)
 have hz0:(w.alloc (.cells #[.int .i64 0,.int .i64 0,.string ⟨#[]⟩,.slice none 0 0,.slice none 0 0] 30)).heap.size=w.heap.size+1:=by simp
 change Hid (Cs (w.alloc (.cells #[.int .i64 0,.int .i64 0,.string ⟨#[]⟩,.slice none 0 0,.slice none 0 0] 30)) _ _) at C0
 generalize hw0:w.alloc (.cells #[.int .i64 0,.int .i64 0,.string ⟨#[]⟩,.slice none 0 0,.slice none 0 0] 30)=w0 at *
 go_enter Tryz.func72,Tryz.ntmps72
 go_wp2_with fail
 clear hw0
 refine (jiz s _ hs).mono ?_
 rintro e w1 ⟨rfl,hb1⟩
 have C1:=Lib.hid (C0.out.next hb1)
 have hb01:=bx hb0 hb1
 have hs1:=hb1.size
 have r0:=C1.out.at 0 rfl
 have r1:=C1.out.at 1 rfl
 have r2:=C1.out.at 2 rfl
 have r3:=C1.out.at 3 rfl
 have r4:=C1.out.at 4 rfl
 have f0:=C1.out.2.2 0 (by simp)
 have f1:=C1.out.2.2 1 (by simp)
 have f2:=C1.out.2.2 2 (by simp)
 have f3:=C1.out.2.2 3 (by simp)
 have f4:=C1.out.2.2 4 (by simp)
 have hc0:c w.heap.size=0:=jb1 HCL.out (Nat.le_refl _)
 cases hq:jdr s
 ·have HE:Hid (PV=(x,jb8 1)):=by show _=_;rw [HG0.out,hq];rfl
  clear hq
  go_wp2
  (try simp only [Exit.inBlock,Exit.then])
  refine bodyPost_ret (jaz (b:=w.heap.size) rfl rfl (jbs C1.out _ _ _ _ _)) rfl ?_
  rw [HE.out]
  simp only
  rw [HSX.out]
  exact jam.wrote (HH.out.next hb01) (fun _ _=>rfl) (Nat.le_refl _) hc0 (Fr.below hb01) (jb0.plain 1 0 _)
 ·have HE:Hid (PV=({ x with read:=jbg x.read s },if jb2 (jfu σ x) s = [] then jb8 3 else ⟨0,0,bs (jb2 (jfu σ x) s),[],[]⟩)):=by show _=_;rw [HG0.out,hq];rfl
  clear hq HG0
  rw [HE.out] at hI
  simp only at hI
  have HI:=Lib.hid hI
  clear hI r0 r1 r2 r3 r4 f0 f1 f2 f3 f4
  have n6:=(hb01.cell (p:=⟨g,1+n*7+6,none⟩) hgw).trans m6
  have H1:=Lib.hid (HH.out.next hb01)
  have HC1:Hid (SessC w1 c n x _ _ _ _):=HC.out.keep (w':=w1) (c':=c) (fun b hb=>⟨hb01.block b (HCL.out b (by omega)),rfl⟩)
  go_wp2_with fail
  refine (jep x.read _ s _ 0 HC1.out.read HRR.out (by omega) (Nat.zero_le _)).mono ?_
  rintro e w4 ⟨v4,rfl,ho4,hg4,hm4⟩
  have hgg:some g≠(Value.slice Ah x.read.length ch).ownBlock:=fun e=>by have:=HC.out.readC g e.symm;rw [HH.out.col] at this;omega
  have hz4:=hg4.size
  have C4:=Lib.hid (C1.out.grownO hg4 (fun e=>by have:=HC.out.readC _ e;rw [hc0] at this;omega))
  have k6:w4.cell? ⟨g,1+n*7+6,none⟩=some (.slice Ah x.read.length ch):=(World.cell?_of_block (a:=⟨g,1+n*7+6,none⟩) (hg4.block g (by omega) hgg)).trans n6
  have y6:w4.frozen? ⟨g,1+n*7+6,none⟩=false:=(World.frozen?_of_block (a:=⟨g,1+n*7+6,none⟩) (hg4.block g (by omega) hgg)).trans ((World.frozen?_of_block (a:=⟨g,1+n*7+6,none⟩) (hb01.block g hgw)).trans z6)
  obtain ⟨c',hSt,hold,hnc,hF,hC5,hL5⟩:=H1.out.readS hn HC1.out HL.out ho4 hg4 hm4 HI.out
  obtain ⟨A4,c4,e4,-,-,-⟩:=jah ho4
  subst e4
  have hc':c' w.heap.size=0:=by rw [hold _ (by omega)];exact hc0
  have HST:=Lib.hid hSt
  have HOLD:=Lib.hid hold
  have HF:Hid (Fr c w _):=(Fr.below hb01).trans hF (fun b _=>rfl)
  have HC5:=Lib.hid hC5
  have C5:=Lib.hid (C4.out.keep (w':=w4.setCell ⟨g,1+n*7+6,none⟩ (.slice A4 (jbg x.read s).length c4)) (RowKit.Below.heap_setCell _ _ _ _ (show w.heap.size≠g by omega)) (by simp [World.setCell]))
  have hz5:(w4.setCell ⟨g,1+n*7+6,none⟩ (.slice A4 (jbg x.read s).length c4)).heap.size=w4.heap.size:=by simp [World.setCell]
  have hc4:∀ j v,(jpv x (.slice Ad x.mine.doms.length cd) (.slice At x.mine.tabs.length ct) (.slice Ag x.gone.length cg) (.slice Ah x.read.length ch))[j]? = some v→w4.cell? ⟨g,1+n*7+j,none⟩=some v:=fun j v hj=>(World.cell?_of_block (a:=⟨g,1+n*7+j,none⟩) (hg4.block g (by omega) hgg)).trans (H1.out.cs.2.1 _ v (HL.out j v hj))
  have i0:=hc4 0 _ rfl
  have i1:=hc4 1 _ rfl
  have i2:=hc4 2 _ rfl
  have i3:=hc4 3 _ rfl
  have i4:=hc4 4 _ rfl
  have i5:=hc4 5 _ rfl
  rw [Nat.add_zero] at i0
  clear hc4
  clear hSt hold hF hC5 hL5 ho4 hg4 hm4
  go_wp2_with fail
  generalize hw5:w4.setCell ⟨g,1+n*7+6,none⟩ (.slice A4 (jbg x.read s).length c4)=w5 at *
  clear hw5 i0 i1 i2 i3 i4 i5 k6 y6 n6
  refine (jxy _ c' g _ vl { x with read:=jbg x.read s } _ _ HST.out HC5.out.at HME.out hfrm ⟨by show x.mine.doms.length≤_;omega,by show x.mine.tabs.length≤_;omega⟩).mono ?_
  have hse:jfu (jaq σ n { x with read:=jbg x.read s }) { x with read:=jbg x.read s } = jfu σ x:=rfl
  rw [hse]
  rintro e w6 ⟨u6,rfl,hu6,hb6⟩
  have HV5:=Lib.hid (HV.out.fr HVC.out HF.out)
  have HV6:=Lib.hid (HV5.out.next hb6)
  have HU6:=Lib.hid (hu6.moreS (fun _ hk=>hk.2):jar w6 (Old w6) (jfu σ x) u6)
  generalize jfu σ x=SV at *
  go_wp2_with fail
  refine (jne SV s _ _ HU6.out (jh6 HSO.out) HV6.out).mono ?_
  rintro e w7 ⟨rfl,hb7⟩
  have hb57:=bx hb6 hb7
  have C7:=Lib.hid (C5.out.next hb57)
  have H7:=Lib.hid (HST.out.next hb57)
  have HF7:Hid (Fr c w w7):=HF.out.trans (Fr.below (c:=c) hb57) (fun _ _=>rfl)
  have r0:=C7.out.at 0 rfl
  have r1:=C7.out.at 1 rfl
  have r2:=C7.out.at 2 rfl
  have r3:=C7.out.at 3 rfl
  have r4:=C7.out.at 4 rfl
  have f0:=C7.out.2.2 0 (by simp)
  have f1:=C7.out.2.2 1 (by simp)
  have f2:=C7.out.2.2 2 (by simp)
  have f3:=C7.out.2.2 3 (by simp)
  have f4:=C7.out.2.2 4 (by simp)
  by_cases hE0:jb2 SV s = []
  ·have HE':Hid (PV=({ x with read:=jbg x.read s },jb8 3)):=by show _=_;rw [HE.out,if_pos hE0]
   rw [hE0]
   have ebs:bs [] = ⟨#[]⟩:=rfl
   rw [ebs]
   clear HE hE0
   go_wp2
   (try simp only [Exit.inBlock,Exit.then])
   refine bodyPost_ret (jaz (b:=w.heap.size) rfl rfl (jbs C7.out _ _ _ _ _)) rfl ?_
   rw [HE'.out]
   exact jam.wrote H7.out (fun b hb=>HOLD.out b (by omega)) (Nat.le_refl _) hc' HF7.out (jb0.plain 3 0 _)
  ·have HE':Hid (PV=({ x with read:=jbg x.read s },⟨0,0,bs (jb2 SV s),[],[]⟩)):=by show _=_;rw [HE.out,if_neg hE0]
   have hne:((bs (jb2 SV s)).toList == (⟨#[]⟩:ByteArray).toList)=false:=by
    rw [beq_eq_false_iff_ne,ByteArray.toList_eq,ByteArray.toList_eq,jdb]
    simpa using hE0
   have hne2:((bs (jb2 SV s)).toList == [])=false:=by
    rw [beq_eq_false_iff_ne,ByteArray.toList_eq,jdb]
    exact hE0
   have hne3:¬ (bs (jb2 SV s)).toList = []:=by
    rw [ByteArray.toList_eq,jdb]
    exact hE0
   clear HE hE0
   generalize bs (jb2 SV s)=TX at *
   go_wp2
   (try simp only [Exit.inBlock,Exit.then])
   refine bodyPost_ret (jaz (b:=w.heap.size) rfl rfl (jbs C7.out _ _ _ _ _)) rfl ?_
   rw [HE'.out]
   exact jam.wrote H7.out (fun b hb=>HOLD.out b (by omega)) (Nat.le_refl _) hc' HF7.out (jb0.plain 0 0 _)
open Go.RowKit Go.Shelf
theorem ycs {w:World} {S:Nat→Prop} {a b:BookD} {p q r t:Value} (e:Nat) (h1:jar w S a (.agg #[p,q])) (h2:jar w S b (.agg #[r,t])) (hS:∀ k,S k→k<w.heap.size) :
  Sl Enc.book (w.alloc (.cells #[p,q,r,t] e)) (Old (w.alloc (.cells #[p,q,r,t] e))) [a,b] (.slice (some ⟨w.heap.size,0,none⟩) 2 2):=by
 have hb:=jac w (.cells #[p,q,r,t] e)
 have hz:(w.alloc (.cells #[p,q,r,t] e)).heap.size=w.heap.size+1:=by simp
 have hs:∀ k,S k→Old (w.alloc (.cells #[p,q,r,t] e)) k:=fun k hk=>by have:=hS k hk;show k<_;omega
 obtain ⟨p',q',e1,a1,a2⟩:=h1
 injection e1 with e1
 injection e1 with e1
 injection e1 with e11 e12
 injection e12 with e12 _
 subst e11 e12
 obtain ⟨r',t',e2,b1,b2⟩:=h2
 injection e2 with e2
 injection e2 with e2
 injection e2 with e21 e22
 injection e22 with e22 _
 subst e21 e22
 have kp:∀ {α:Type} {E:Enc α} {l:List α} {v:Value},Sl E w S l v→Sl E (w.alloc (.cells #[p,q,r,t] e)) (Old (w.alloc (.cells #[p,q,r,t] e))) l v:=fun h=>(h.keep fun pp hp=>hb.cell (hS _ hp)).more hs
 refine ⟨_,2,rfl,Nat.le_refl _,by unfold maxLen;omega,fun h=>(by cases h),fun _=>⟨w.heap.size,0,rfl,by show w.heap.size<_;omega,fun i x hx=>?_⟩⟩
 match i with
 | 0 =>
  simp at hx;subst hx
  refine ⟨[p,q],⟨p,q,rfl,kp a1,kp a2⟩,fun j v hv=>?_⟩
  match j with
  | 0=>simp at hv;subst hv;exact jab _ _ _ _ _ rfl
  | 1=>simp at hv;subst hv;exact jab _ _ _ _ _ rfl
  | j+2=>simp at hv
 | 1 =>
  simp at hx;subst hx
  refine ⟨[r,t],⟨r,t,rfl,kp b1,kp b2⟩,fun j v hv=>?_⟩
  match j with
  | 0=>simp at hv;subst hv;exact jab _ _ _ _ _ rfl
  | 1=>simp at hv;subst hv;exact jab _ _ _ _ _ rfl
  | j+2=>simp at hv
 | i+2=>simp at hx
structure AskSt (w wr:World) (c ck:Nat→Nat) (g n:Nat) (σ:StoreD) (x:SessD) (R:List ByteArray) (vd vt vg vr:Value) (vs:List Value) (vl:Value) (N:Nat):Prop where
 st:StoreC wr ck g (jaq σ n { x with read:=R }) vs vl
 sc:SessC wr ck n { x with read:=R } vd vt vg vr
 sl:∀ j v,(jpv { x with read:=R } vd vt vg vr)[j]? = some v→vs[1+n*7+j]? = some v
 old:∀ b,b<N→ck b=c b
 fr:Fr c w wr
 size:N≤wr.heap.size
theorem AskSt.cell {w wr:World} {c ck:Nat→Nat} {g n N:Nat} {σ:StoreD} {x:SessD} {R:List ByteArray} {vd vt vg vr vl:Value} {vs:List Value} (h:AskSt w wr c ck g n σ x R vd vt vg vr vs vl N) {j:Nat} {v:Value} (hj:(jpv { x with read:=R } vd vt vg vr)[j]? = some v):wr.cell? ⟨g,1+n*7+j,none⟩=some v∧wr.frozen? ⟨g,1+n*7+j,none⟩=false :=
 ⟨h.st.cs.2.1 _ v (h.sl j v hj),h.st.cs.2.2 _ (by have:=(List.getElem?_eq_some_iff.1 (h.sl j v hj)).1;exact this)⟩
theorem AskSt.read {w wr w4:World} {c ck:Nat→Nat} {g n N:Nat} {σ:StoreD} {x:SessD} {R R':List ByteArray} {vd vt vg vr vl v4:Value} {vs:List Value} (h:AskSt w wr c ck g n σ x R vd vt vg vr vs vl N) (hn:n<4) (hw:w.heap.size≤N) (hO:OwnT w4 0 v4 R') (hg:wr.grownBy w4 vr.ownBlock) (hm:jed wr vr v4) (hI:Inv (jaq σ n { x with read:=R' })) :
  ∃ c',AskSt w (w4.setCell ⟨g,1+n*7+6,none⟩ v4) c c' g n σ x R' vd vt vg v4 (vs.set (1+n*7+6) v4) vl N:=by
 have e:jaq (jaq σ n { x with read:=R }) n { x with read:=R' } = jaq σ n { x with read:=R' }:=by unfold jaq;simp
 obtain ⟨c',h1,h2,_,h4,h5,h6⟩:=h.st.readS (read':=R') hn h.sc h.sl hO hg hm (by rw [e];exact hI)
 rw [e] at h1
 refine ⟨c',h1,h5,h6,fun b hb=>(h2 b (by have:=h.size;omega)).trans (h.old b hb),h.fr.trans h4 (fun b hb=>h.old b (by omega)),?_⟩
 have:=h4.size
 have:=h.size
 omega
theorem AskSt.next {w wr w':World} {c ck:Nat→Nat} {g n N:Nat} {σ:StoreD} {x:SessD} {R:List ByteArray} {vd vt vg vr vl:Value} {vs:List Value} (h:AskSt w wr c ck g n σ x R vd vt vg vr vs vl N) (hb:Below wr.heap.size wr w'):AskSt w w' c ck g n σ x R vd vt vg vr vs vl N :=
 ⟨h.st.next hb,h.sc.keep fun b hb'=>⟨hb.block b (h.st.lt b (by omega)),rfl⟩,h.sl,h.old,h.fr.trans (Fr.below (c:=c) hb) (fun _ _=>rfl),Nat.le_trans h.size hb.size⟩
theorem AskSt.block {w wr:World} {c ck:Nat→Nat} {g n N:Nat} {σ:StoreD} {x:SessD} {R:List ByteArray} {vd vt vg vr vl:Value} {vs:List Value} (h:AskSt w wr c ck g n σ x R vd vt vg vr vs vl N) {w4:World} {v4:Value} (hg:wr.grownBy w4 vr.ownBlock) {b:Nat} (hb:b<N) (h0:c b=0):(w4.setCell ⟨g,1+n*7+6,none⟩ v4).heap[b]? = wr.heap[b]?:=by
 have hc:=(h.old b hb).trans h0
 have hbg:b≠g:=fun e=>by rw [e,h.st.col] at hc;omega
 rw [RowKit.Below.heap_setCell _ _ _ _ hbg,hg.block b (by have:=h.size;omega) (fun e=>by have:=h.sc.readC b e.symm;omega)]
theorem ypi {σ:StoreD} (h:Inv σ) {n:Nat} {x:SessD} {R:List ByteArray} (hI:SessOk σ.last σ.acts { x with read:=R }):Inv (jaq σ n { x with read:=R }):=h.set hI
theorem ypj {last acts k:Nat} {x:SessD} {m:List ByteArray} (h:SessOk last acts x) (hk:x.read.length+m.length≤1000*acts):SessOk last acts { x with read:=jay x.read (m.take k) } where
 mine:=h.mine
 gone:=h.gone
 read:=jen h.read
 frm:=h.frm
 ds:=h.ds
 ts:=h.ts
 gs:=h.gs
 rs:=by
  have h1:=@jds (m.take k) x.read
  have h2:(m.take k).length≤m.length:=(List.take_sublist _ _).length_le
  show (jay x.read (m.take k)).length≤_
  omega
theorem ym1 (σ:StoreD) (c:Nat→Nat) (g n:Nat) (vs:List Value) (vl:Value) (x:SessD) (l:List Int) (vin:Value) (w:World) (h:StoreC w c g σ vs vl) (hx:σ.sess[n]? = some x) (hin:Sl Enc.int w (fun b=>b<w.heap.size∧c b=0) l vin) (hrs:x.read.length+1000≤1000 * σ.acts) (hI:Inv (jaq σ n (jpi σ x l).1)) :
  Calls Tryz.prog 73 #[.pointer (some ⟨g,0,none⟩),.pointer (some ⟨g,1+n*7,none⟩),vin] w (jam w c g (jaq σ n (jpi σ x l).1,(jpi σ x l).2)):=by
 have hSO:=h.inv.sess x (List.mem_of_getElem? hx)
 have hacts:=h.inv.acts
 obtain ⟨vd,vt,vg,vr,hC,hn,hL,hcell⟩:=h.sessAt hx
 have HH:=Lib.hid h
 have HC:=Lib.hid hC
 have HL:=Lib.hid hL
 have HSK:=Lib.hid hSO
 have hgw:g<w.heap.size:=h.cs.1
 have HME:=Lib.hid hSO.mine
 have hds:=hSO.ds
 have hts:=hSO.ts
 have hfrm:=hSO.frm
 have HCL:=Lib.hid h.lt
 have HSX:=Lib.hid (jm7 hx)
 have HSO:=Lib.hid (yms h.inv hSO.mine)
 have hvl:=jn7 h.inv x.frm
 have hsl:=jtq (σ.ver x.frm) x.mine x.gone
 have hnm:=jqd (σ.ver x.frm) (jfu σ x)
 change (jgw [σ.ver x.frm,jfu σ x]).length≤_+((jf0 (σ.ver x.frm) x.mine x.gone).doms.length+(jf0 (σ.ver x.frm) x.mine x.gone).tabs.length) at hnm
 have HNL:Hid (([σ.ver x.frm,jfu σ x].flatMap jdp).length≤500000):=by
  show _≤_
  have e:([σ.ver x.frm,jfu σ x].flatMap jdp).length=(σ.ver x.frm).doms.length+(σ.ver x.frm).tabs.length+((jf0 (σ.ver x.frm) x.mine x.gone).doms.length+(jf0 (σ.ver x.frm) x.mine x.gone).tabs.length):=by simp [jdp,jfu];omega
  omega
 have HNM:Hid ((jgw [σ.ver x.frm,jfu σ x]).length≤500):=by show _≤_;omega
 have HA0:Hid (jpi σ x l=({ x with read:=if x.strict then jbg (jay x.read (jgw [σ.ver x.frm,jfu σ x])) noS else jay x.read (jgw [σ.ver x.frm,jfu σ x]) },⟨(askV (jfu σ x) l).2,0,noS,(askV (jfu σ x) l).1,[]⟩)):=rfl
 have HIN:=Lib.hid hin
 clear hsl hnm hvl
 generalize jpi σ x l=PV at *
 obtain ⟨Ad,cd,rfl,-,-⟩:=hC.doms.form
 obtain ⟨At,ct,rfl,-,-⟩:=hC.tabs.form
 obtain ⟨Ag,cg,rfl,-,-,-⟩:=jah hC.gone
 obtain ⟨Ah,ch,rfl,-,-,-⟩:=jah hC.read
 obtain ⟨Ai,ci,rfl,-,-⟩:=hin.form
 have hb0:=jac w (.cells #[.int .i64 0,.int .i64 0,.string ⟨#[]⟩,.slice none 0 0,.slice none 0 0] 30)
 have C0:=Lib.hid (Cs.new w zeroRL 30)
 have hz0:(w.alloc (.cells #[.int .i64 0,.int .i64 0,.string ⟨#[]⟩,.slice none 0 0,.slice none 0 0] 30)).heap.size=w.heap.size+1:=by simp
 change Hid (Cs (w.alloc (.cells #[.int .i64 0,.int .i64 0,.string ⟨#[]⟩,.slice none 0 0,.slice none 0 0] 30)) _ _) at C0
 generalize hw0:w.alloc (.cells #[.int .i64 0,.int .i64 0,.string ⟨#[]⟩,.slice none 0 0,.slice none 0 0] 30)=w0 at *
 have H0:=Lib.hid (HH.out.next hb0)
 have HX0:Hid (jhb w0 (Cd c) x _):=HC.out.at.keepS (fun k hk=>hb0.block k (HCL.out k hk))
 have hk0:=fun j v (hv:(jpv x (.slice Ad x.mine.doms.length cd) (.slice At x.mine.tabs.length ct) (.slice Ag x.gone.length cg) (.slice Ah x.read.length ch))[j]? = some v)=>(hb0.cell (p:=⟨g,1+n*7+j,none⟩) hgw).trans (hcell j v hv).1
 have i0:=hk0 0 _ rfl
 have i1:=hk0 1 _ rfl
 have i2:=hk0 2 _ rfl
 have i3:=hk0 3 _ rfl
 have i4:=hk0 4 _ rfl
 have i5:=hk0 5 _ rfl
 have i6:=hk0 6 _ rfl
 rw [Nat.add_zero] at i0
 have hc0:c w.heap.size=0:=jb1 HCL.out (Nat.le_refl _)
 clear hC hL h hSO hx hin hk0
 go_enter Tryz.func73,Tryz.ntmps73
 go_wp2_with fail
 clear hw0 i0 i1 i2 i3 i4 i5 i6
 refine (jxy σ c g vs vl x _ _ H0.out HX0.out HME.out hfrm ⟨by omega,by omega⟩).mono ?_
 rintro e w1 ⟨u1,rfl,hu1,hb1⟩
 have HU1:=Lib.hid hu1
 obtain ⟨ud,ut,rfl,s1,s2⟩:=hu1
 obtain ⟨Aq,cq,rfl,-,-⟩:=s1.form
 obtain ⟨Bq,dq,rfl,-,-⟩:=s2.form
 clear s1 s2
 have hb01:=bx hb0 hb1
 have hs1:=hb1.size
 generalize hSV:jfu σ x=SV at *
 have hbz:=jac w1 (.cells #[.slice Aq SV.doms.length cq,.slice Bq SV.tabs.length dq] 38)
 have D2:=Lib.hid (Cs.new w1 [.slice Aq SV.doms.length cq,.slice Bq SV.tabs.length dq] 38)
 change Hid (Cs (w1.alloc (.cells #[.slice Aq SV.doms.length cq,.slice Bq SV.tabs.length dq] 38)) _ _) at D2
 have hz2:(w1.alloc (.cells #[.slice Aq SV.doms.length cq,.slice Bq SV.tabs.length dq] 38)).heap.size=w1.heap.size+1:=by simp
 have hb02:=bx hb01 hbz
 have C2:=Lib.hid ((C0.out.next hb1).next hbz)
 have HU2:Hid (jar (w1.alloc (.cells #[.slice Aq SV.doms.length cq,.slice Bq SV.tabs.length dq] 38)) (From w0.heap.size w1) SV (.agg #[.slice Aq SV.doms.length cq,.slice Bq SV.tabs.length dq])):=HU1.out.keepS (fun k hk=>hbz.block k hk.2)
 go_wp2_with fail
 generalize hw2:w1.alloc (.cells #[.slice Aq SV.doms.length cq,.slice Bq SV.tabs.length dq] 38)=w2 at *
 have H2d:Hid (StoreC w2.drew c g σ vs vl):=(HH.out.next hb02).keep (w':=w2.drew) (fun _ _=>rfl) (Nat.le_refl _)
 have j2:w2.drew.cell? ⟨g,1+n*7+2,none⟩=some (.int .i64 x.frm):=(hb02.cell (p:=⟨g,1+n*7+2,none⟩) hgw).trans (hcell 2 _ rfl).1
 have q0:w2.drew.cell? ⟨w1.heap.size,0,none⟩=some (.slice Aq SV.doms.length cq):=D2.out.at 0 rfl
 have q1:w2.drew.cell? ⟨w1.heap.size,1,none⟩=some (.slice Bq SV.tabs.length dq):=D2.out.at 1 rfl
 clear hw2 hcell
 go_region_law (first
  | (go_simp;go_at_call 47;refine (jgs σ c g vs vl _ H2d.out x.frm hfrm).mono ?_;rintro e w3 ⟨td,tt,rfl,hu3,hb3'⟩;have hb3:Below w2.heap.size w2 w3:=jcw hb3';have HU3:Hid (jar w3 (Im c) (σ.ver x.frm) (.agg #[td,tt])):=hu3;obtain ⟨qd,qt,eq,s1,s2⟩:=hu3;injection eq with eq;injection eq with eq;injection eq with eq1 eq2;injection eq2 with eq2 _;subst eq1 eq2;obtain ⟨A3,c3,rfl,-,-⟩:=s1.form;obtain ⟨B3,d3,rfl,-,-⟩:=s2.form;clear s1 s2 hb3';have D3:=Lib.hid (D2.out.next hb3);have p0:=D3.out.at 0 rfl;have p1:=D3.out.at 1 rfl;have hb03:=bx hb02 hb3;have hs3:=hb3.size;have hS3:∀ k,(Im c k∨From w0.heap.size w1 k)→k<w3.heap.size:=fun k hk=>by { rcases hk with hk | hk;{ have:=HCL.out k (by rw [show c k=11 from hk];decide);omega };{ have:=hk.2;omega } };have HSL:=Lib.hid (ycs 38 (HU3.out.moreS (S':=fun k=>Im c k∨From w0.heap.size w1 k) (fun _ hk=>.inl hk)) ((HU2.out.keepS (w':=w3) (fun k hk=>hb3.block k (by have:=hk.2;omega))).moreS (S':=fun k=>Im c k∨From w0.heap.size w1 k) (fun _ hk=>.inr hk)) hS3))
  | (go_simp;go_at_call 116;refine (jvi [σ.ver x.frm,SV] _ _ _ HSL.out (fun _ hk=>hk) HNL.out).mono ?_;rintro e w5 ⟨v5,rfl,ho5,hb5⟩;have HO5:=Lib.hid ho5;obtain ⟨A5,c5,rfl,-,-,-⟩:=jah ho5;clear ho5))
 all_goals
  have hb4:=jac w3 (.cells #[.slice A3 (σ.ver x.frm).doms.length c3,.slice B3 (σ.ver x.frm).tabs.length d3,.slice Aq SV.doms.length cq,.slice Bq SV.tabs.length dq] 38)
  have hb35:=bx hb4 hb5
  have hb25:=bx hb3 hb35
  have hb05:=bx hb02 hb25
  have hs25:=hb25.size
  have D5:=Lib.hid (D2.out.next hb25)
  have C5:=Lib.hid (C2.out.next hb25)
  have HU5:Hid (jar w5 (From w0.heap.size w1) SV (.agg #[.slice Aq SV.doms.length cq,.slice Bq SV.tabs.length dq])):=HU2.out.keepS (fun k hk=>hb25.block k (by have:=hk.2;omega))
  have HST0:Hid (AskSt w w5 c c g n σ x x.read (.slice Ad x.mine.doms.length cd) (.slice At x.mine.tabs.length ct) (.slice Ag x.gone.length cg) (.slice Ah x.read.length ch) vs vl w5.heap.size):=⟨by have:=HH.out.next hb05;rw [← HSX.out] at this;exact this,HC.out.keep (fun b hb=>⟨hb05.block b (HCL.out b (by omega)),rfl⟩),HL.out,fun _ _=>rfl,Fr.below hb05,Nat.le_refl _⟩
  have hs4:=hb4.size
  have HOL:Hid (∀ k,(Value.slice A5 (jgw [σ.ver x.frm,SV]).length c5).ownBlock=some k→w.heap.size≤k∧k<w5.heap.size):=fun k hk=>by have:=HO5.out.lt k hk;exact ⟨by omega,this.2⟩
  generalize hNM:jgw [σ.ver x.frm,SV]=NM at *
  clear p0 p1 q0 q1 j2
  go_wp2
  go_loopw [27] (fun i wr=>∃ (k:Nat) (ck:Nat→Nat) (vk:Value) (sk:List Value),k≤NM.length∧i = .int .i64 k∧Hid (AskSt w wr c ck g n σ x (jay x.read (NM.take k)) (.slice Ad x.mine.doms.length cd) (.slice At x.mine.tabs.length ct) (.slice Ag x.gone.length cg) vk sk vl w5.heap.size)∧Hid (∀ b,b<w5.heap.size→c b=0→wr.heap[b]? = w5.heap[b]?)) (fun i _=>NM.length-(intOf i).toNat)
  case atStart=>exact ⟨0,c,_,vs,Nat.zero_le _,rfl,HST0,fun _ _ _=>rfl⟩
  case round =>
   clear HST0
   obtain ⟨k,ck,vk,sk,hk,rfl,HST,HBK⟩:=hrel
   have hnm:=HNM.out
   obtain ⟨Ak,kk,ek,-,-,-⟩:=jah HST.out.sc.read
   subst ek
   by_cases hlt:k<NM.length
   ·have hOW:OwnT wr (w3.alloc (.cells #[.slice A3 (σ.ver x.frm).doms.length c3,.slice B3 (σ.ver x.frm).tabs.length d3,.slice Aq SV.doms.length cq,.slice Bq SV.tabs.length dq] 38)).heap.size (.slice A5 NM.length c5) NM:=HO5.out.keep (fun b hb=>HBK.out b (HOL.out b hb).2 (jb1 HCL.out (HOL.out b hb).1))
    obtain ⟨bb,o,s,rfl,_,hs,d1⟩:=(hOW.sl (S:=fun _=>True) (fun _ _=>trivial)).str_at hlt
    have g6:=(HST.out.cell (j:=6) rfl).1
    have z6:=(HST.out.cell (j:=6) rfl).2
    have hrl:(jay x.read (NM.take k)).length≤1000000:=by
     have h1:=@jds (NM.take k) x.read
     have h2:(NM.take k).length≤NM.length:=(List.take_sublist _ _).length_le
     omega
    have hri:Hid (jo2 (jay x.read (NM.take k))=true):=jen HSK.out.read
    have HNX:Hid (jay x.read (NM.take (k+1))=jbg (jay x.read (NM.take k)) s):=by show _=_;rw [jai hs.out,jk9]
    have HI':Hid (Inv (jaq σ n { x with read:=jbg (jay x.read (NM.take k)) s })):=by
     show Inv _
     rw [← HNX.out]
     exact ypi HH.out.inv (ypj HSK.out (by omega))
    generalize hRK:jay x.read (NM.take k)=RK at *
    go_wp2_with fail
    refine (jep RK _ s _ 0 HST.out.sc.read hri.out hrl (Nat.zero_le _)).mono ?_
    rintro e w6 ⟨v6,rfl,ho6,hg6,hm6⟩
    have hgg:some g≠(Value.slice Ak RK.length kk).ownBlock:=fun e=>by have:=HST.out.sc.readC g e.symm;rw [HST.out.st.col] at this;omega
    have hgr:g<wr.heap.size:=HST.out.st.cs.1
    have k6:=(World.cell?_of_block (a:=⟨g,1+n*7+6,none⟩) (hg6.block g hgr hgg)).trans g6
    have y6:=(World.frozen?_of_block (a:=⟨g,1+n*7+6,none⟩) (hg6.block g hgr hgg)).trans z6
    obtain ⟨c',HN⟩:=HST.out.read hn (by omega) ho6 hg6 hm6 HI'.out
    have HN':=Lib.hid HN
    have HB':Hid (∀ b,b<w5.heap.size→c b=0→(w6.setCell ⟨g,1+n*7+6,none⟩ v6).heap[b]? = w5.heap[b]?):=fun b hb h0=>(HST.out.block hg6 hb h0).trans (HBK.out b hb h0)
    obtain ⟨A6,c6,e6,-,-,-⟩:=jah ho6
    subst e6
    clear ho6 hg6 hm6 HN g6 z6
    go_wp2
    refine ⟨⟨k+1,c',.slice A6 (jbg RK s).length c6,sk.set (1+n*7+6) (.slice A6 (jbg RK s).length c6),by omega,by go_num,?_,HB'⟩,by simp [intOf];omega⟩
    rw [HNX.out]
    exact HN'
   ·obtain rfl:k=NM.length:=by omega
    rw [List.take_of_length_le (Nat.le_refl _)] at HST
    have g1:=(HST.out.cell (j:=1) rfl).1
    have hrl:(jay x.read NM).length≤1000000:=by
     have h1:=@jds NM x.read
     omega
    have hri:Hid (jo2 (jay x.read NM)=true):=jen HSK.out.read
    cases hst:x.strict
    ·have HE:Hid (PV=({ x with read:=jay x.read NM },⟨(askV SV l).2,0,noS,(askV SV l).1,[]⟩)):=by show _=_;rw [HA0.out,hst];rfl
     rw [hst] at g1
     have DF:=Lib.hid (D5.out.keep (w':=wr) (HBK.out _ D5.out.1 (jb1 HCL.out (by omega))) (by have:=HST.out.size;omega))
     have CF:=Lib.hid (C5.out.keep (w':=wr) (HBK.out _ C5.out.1 hc0) (by have:=HST.out.size;omega))
     have HUF:Hid (jar wr (Old wr) SV (.agg #[.slice Aq SV.doms.length cq,.slice Bq SV.tabs.length dq])):=(HU5.out.keepS (w':=wr) (fun k hk=>HBK.out k (by have:=hk.2;omega) (jb1 HCL.out (by have:=hk.1;omega)))).moreS (fun k hk=>by have:=hk.2;have:=HST.out.size;show k<_;omega)
     have HIF:Hid (Sl Enc.int wr (Old wr) l (.slice Ai l.length ci)):=(HIN.out.keep (w':=wr) (fun p hp=>World.cell?_of_block ((HBK.out _ (by have:=hp.1;omega) hp.2).trans (hb05.block _ hp.1)))).more (fun k hk=>by have:=hk.1;have:=HST.out.size;show k<_;omega)
     have e0:=DF.out.at 0 rfl
     have e1:=DF.out.at 1 rfl
     go_wp2_with fail
     clear e0 e1
     refine (jmg SV l _ _ _ HUF.out HIF.out (jh6 HSO.out)).mono ?_
     rintro e w8 ⟨v8,rfl,hn8,hb8⟩
     have HN8:=Lib.hid hn8
     obtain ⟨A8,c8,rfl,-,-⟩:=hn8.form
     have HST8:=Lib.hid (HST.out.next hb8)
     have C8:=Lib.hid (CF.out.next hb8)
     have hs8:=hb8.size
     have hsw:=HST.out.size
     have hck:∀ b,ck b≠0→b<(wr).heap.size:=HST.out.st.lt
     have r0:=C8.out.at 0 rfl
     have r1:=C8.out.at 1 rfl
     have r2:=C8.out.at 2 rfl
     have r3:=C8.out.at 3 rfl
     have r4:=C8.out.at 4 rfl
     have f0:=C8.out.2.2 0 (by simp)
     have f1:=C8.out.2.2 1 (by simp)
     have f2:=C8.out.2.2 2 (by simp)
     have f3:=C8.out.2.2 3 (by simp)
     have f4:=C8.out.2.2 4 (by simp)
     generalize hAV:askV SV l=AV at *
     clear hn8
     go_wp2
     (try simp only [Exit.inBlock,Exit.then])
     refine bodyPost_ret (jaz (b:=w.heap.size) rfl rfl (jbs C8.out _ _ _ _ _)) rfl ?_
     rw [HE.out]
     refine jam.wrote HST8.out.st (fun b hb=>HST8.out.old b (by omega)) (Nat.le_refl _) ((HST8.out.old _ (by omega)).trans hc0) HST8.out.fr ⟨_,_,rfl,?_,Sl.nil⟩
     refine (HN8.out.keep fun p hp=>World.cell?_of_block (jhm _ _ _ _ _ _ _ _ (by have:=hp.1;omega))).more fun q hq=>⟨by have:=hq.1;omega,by rw [jl8];exact hq.2,?_⟩
     exact jb1 hck hq.1
    ·have HE:Hid (PV=({ x with read:=jbg (jay x.read NM) noS },⟨(askV SV l).2,0,noS,(askV SV l).1,[]⟩)):=by show _=_;rw [HA0.out,hst];rfl
     rw [hst] at g1
     have g6:=(HST.out.cell (j:=6) rfl).1
     have z6:=(HST.out.cell (j:=6) rfl).2
     have HI':Hid (Inv (jaq σ n { x with read:=jbg (jay x.read NM) noS })):=by
      show Inv _
      rw [HE.out] at hI
      exact hI
     generalize hRK:jay x.read NM=RK at *
     go_wp2_with fail
     refine (jep RK _ noS _ 0 HST.out.sc.read hri.out hrl (Nat.zero_le _)).mono ?_
     rintro e w6 ⟨v6,rfl,ho6,hg6,hm6⟩
     have hgg:some g≠(Value.slice Ak RK.length kk).ownBlock:=fun e=>by have:=HST.out.sc.readC g e.symm;rw [HST.out.st.col] at this;omega
     have hgr:g<wr.heap.size:=HST.out.st.cs.1
     have k6:=(World.cell?_of_block (a:=⟨g,1+n*7+6,none⟩) (hg6.block g hgr hgg)).trans g6
     have y6:=(World.frozen?_of_block (a:=⟨g,1+n*7+6,none⟩) (hg6.block g hgr hgg)).trans z6
     obtain ⟨c',HN⟩:=HST.out.read hn (by omega) ho6 hg6 hm6 HI'.out
     have HB':Hid (∀ b,b<w5.heap.size→c b=0→(w6.setCell ⟨g,1+n*7+6,none⟩ v6).heap[b]? = w5.heap[b]?):=fun b hb h0=>(HST.out.block hg6 hb h0).trans (HBK.out b hb h0)
     obtain ⟨A6,c6,e6,-,-,-⟩:=jah ho6
     subst e6
     clear ho6 hg6 hm6 HBK HST
     have HST:=Lib.hid HN
     have HBK:=HB'
     clear HN g6 z6 HB'
     have DG:=Lib.hid (D5.out.keep (HBK.out _ D5.out.1 (jb1 HCL.out (by omega))) (by have:=HST.out.size;omega))
     have d0:=DG.out.at 0 rfl
     have d1:=DG.out.at 1 rfl
     go_wp2_with fail
     generalize hw7:w6.setCell ⟨g,1+n*7+6,none⟩ (.slice A6 (jbg RK noS).length c6)=w7 at *
     clear hw7 d0 d1
     have DF:=Lib.hid (D5.out.keep (w':=w7) (HBK.out _ D5.out.1 (jb1 HCL.out (by omega))) (by have:=HST.out.size;omega))
     have CF:=Lib.hid (C5.out.keep (w':=w7) (HBK.out _ C5.out.1 hc0) (by have:=HST.out.size;omega))
     have HUF:Hid (jar w7 (Old w7) SV (.agg #[.slice Aq SV.doms.length cq,.slice Bq SV.tabs.length dq])):=(HU5.out.keepS (w':=w7) (fun k hk=>HBK.out k (by have:=hk.2;omega) (jb1 HCL.out (by have:=hk.1;omega)))).moreS (fun k hk=>by have:=hk.2;have:=HST.out.size;show k<_;omega)
     have HIF:Hid (Sl Enc.int w7 (Old w7) l (.slice Ai l.length ci)):=(HIN.out.keep (w':=w7) (fun p hp=>World.cell?_of_block ((HBK.out _ (by have:=hp.1;omega) hp.2).trans (hb05.block _ hp.1)))).more (fun k hk=>by have:=hk.1;have:=HST.out.size;show k<_;omega)
     have e0:=DF.out.at 0 rfl
     have e1:=DF.out.at 1 rfl
     clear e0 e1
     refine (jmg SV l _ _ _ HUF.out HIF.out (jh6 HSO.out)).mono ?_
     rintro e w8 ⟨v8,rfl,hn8,hb8⟩
     have HN8:=Lib.hid hn8
     obtain ⟨A8,c8,rfl,-,-⟩:=hn8.form
     have HST8:=Lib.hid (HST.out.next hb8)
     have C8:=Lib.hid (CF.out.next hb8)
     have hs8:=hb8.size
     have hsw:=HST.out.size
     have hck:∀ b,c' b≠0→b<(w7).heap.size:=HST.out.st.lt
     have r0:=C8.out.at 0 rfl
     have r1:=C8.out.at 1 rfl
     have r2:=C8.out.at 2 rfl
     have r3:=C8.out.at 3 rfl
     have r4:=C8.out.at 4 rfl
     have f0:=C8.out.2.2 0 (by simp)
     have f1:=C8.out.2.2 1 (by simp)
     have f2:=C8.out.2.2 2 (by simp)
     have f3:=C8.out.2.2 3 (by simp)
     have f4:=C8.out.2.2 4 (by simp)
     generalize hAV:askV SV l=AV at *
     clear hn8
     go_wp2
     (try simp only [Exit.inBlock,Exit.then])
     refine bodyPost_ret (jaz (b:=w.heap.size) rfl rfl (jbs C8.out _ _ _ _ _)) rfl ?_
     rw [HE.out]
     refine jam.wrote HST8.out.st (fun b hb=>HST8.out.old b (by omega)) (Nat.le_refl _) ((HST8.out.old _ (by omega)).trans hc0) HST8.out.fr ⟨_,_,rfl,?_,Sl.nil⟩
     refine (HN8.out.keep fun p hp=>World.cell?_of_block (jhm _ _ _ _ _ _ _ _ (by have:=hp.1;omega))).more fun q hq=>⟨by have:=hq.1;omega,by rw [jl8];exact hq.2,?_⟩
     exact jb1 hck hq.1
open Go.RowKit Go.Shelf
theorem jzr (x:SessD) (v:Value) (s:ByteArray) (w:World) (S:Nat→Prop) (h:jhb w S x v) (hS:∀ k,S k→k<w.heap.size) :
  Calls Tryz.prog 157 #[v,.string s] w fun e w'=>e = .returned (.bool (jh1 x s))∧Below w.heap.size w w':=by
 have HE:Hid (jh1 x s=(hasN x.gone s || (x.strict && (hasN x.read s || hasN x.read noS)))):=rfl
 generalize jh1 x s=R at *
 obtain ⟨vd,vt,vg,vr,rfl,y1,y2,y3,y4⟩:=h
 have YG:=Lib.hid y3
 have YR:=Lib.hid y4
 have HS:=Lib.hid hS
 obtain ⟨Ad,cd,rfl,-,-⟩:=y1.form
 obtain ⟨At,ct,rfl,-,-⟩:=y2.form
 obtain ⟨Ag,cg,rfl,-,-⟩:=y3.form
 obtain ⟨Ah,ch,rfl,-,-⟩:=y4.form
 clear y1 y2 y3 y4 hS
 have hb0:=jac w (.cells #[.bool x.opn,.bool x.strict,.int .i64 x.frm,.slice Ad x.mine.doms.length cd,.slice At x.mine.tabs.length ct,.slice Ag x.gone.length cg,.slice Ah x.read.length ch] 41)
 have C0:=Lib.hid (Cs.new w [.bool x.opn,.bool x.strict,.int .i64 x.frm,.slice Ad x.mine.doms.length cd,.slice At x.mine.tabs.length ct,.slice Ag x.gone.length cg,.slice Ah x.read.length ch] 41)
 change Hid (Cs (w.alloc (.cells #[.bool x.opn,.bool x.strict,.int .i64 x.frm,.slice Ad x.mine.doms.length cd,.slice At x.mine.tabs.length ct,.slice Ag x.gone.length cg,.slice Ah x.read.length ch] 41)) _ _) at C0
 generalize hw0:w.alloc (.cells #[.bool x.opn,.bool x.strict,.int .i64 x.frm,.slice Ad x.mine.doms.length cd,.slice At x.mine.tabs.length ct,.slice Ag x.gone.length cg,.slice Ah x.read.length ch] 41)=w0 at *
 have k1:=C0.out.at 1 rfl
 have k5:=C0.out.at 5 rfl
 have k6:=C0.out.at 6 rfl
 have keep:Hid (∀ {l:List ByteArray} {v:Value} (w':World),Below w.heap.size w w'→Sl Enc.str w S l v→Sl Enc.str w' (Old w') l v):=fun w' hb h=>(h.keep fun p hp=>hb.cell (HS.out _ hp)).more fun k hk=>by have:=HS.out k hk;have:=hb.size;show k<_;omega
 go_enter Tryz.func157,Tryz.ntmps157
 go_wp2_with fail
 clear hw0
 refine (jib x.gone _ s _ (keep.out w0 hb0 YG.out)).mono ?_
 have e1:x.gone.any (jap s)=hasN x.gone s:=rfl
 rw [e1]
 rintro e w1 ⟨rfl,hb1⟩
 have hb01:=bx hb0 hb1
 have C1:=Lib.hid (C0.out.next hb1)
 have j1:=C1.out.at 1 rfl
 have j6:=C1.out.at 6 rfl
 cases hg:hasN x.gone s
 ·cases hst:x.strict
  ·have HR:Hid (R=false):=by show _=_;rw [HE.out,hg,hst];rfl
   rw [hst] at j1
   clear hg HE
   go_wp2
   go_ret
   exact ⟨jad HR.out.symm,hb01⟩
  ·rw [hst] at j1
   go_wp2_with fail
   refine (jib x.read _ s _ (keep.out w1 hb01 YR.out)).mono ?_
   have e2:x.read.any (jap s)=hasN x.read s:=rfl
   rw [e2]
   rintro e w2 ⟨rfl,hb2⟩
   have hb02:=bx hb01 hb2
   have C2:=Lib.hid (C1.out.next hb2)
   have i6:=C2.out.at 6 rfl
   cases hr:hasN x.read s
   ·have HR:Hid (R=hasN x.read noS):=by show _=_;rw [HE.out,hg,hst,hr];simp
    clear hg HE hr
    go_wp2_with fail
    refine (jib x.read _ noS _ (keep.out w2 hb02 YR.out)).mono ?_
    have e3:x.read.any (jap noS)=hasN x.read noS:=rfl
    rw [e3]
    rintro e w3 ⟨rfl,hb3⟩
    generalize hasN x.read noS=B at *
    cases B
    ·go_wp2
     go_ret
     exact ⟨jad HR.out.symm,bx hb02 hb3⟩
    ·go_wp2
     go_ret
     exact ⟨jad HR.out.symm,bx hb02 hb3⟩
   ·have HR:Hid (R=true):=by show _=_;rw [HE.out,hg,hst,hr];rfl
    clear hg HE hr
    go_wp2
    go_ret
    exact ⟨jad HR.out.symm,hb02⟩
 ·have HR:Hid (R=true):=by show _=_;rw [HE.out,hg];rfl
  clear hg HE
  go_wp2
  go_ret
  exact ⟨jad HR.out.symm,hb01⟩
def chK (σ:StoreD) (frm k:Nat):List ByteArray:=(List.range k).flatMap fun i=>jjs (σ.ver (frm+i)) (σ.ver (frm+i+1))
theorem yfa (σ:StoreD) (frm k:Nat):chK σ frm (k+1)=chK σ frm k ++ jjs (σ.ver (frm+k)) (σ.ver (frm+k+1)):=by
 unfold chK;rw [List.range_succ,List.flatMap_append];simp
theorem yjo {σ:StoreD} (h:Inv σ) (frm:Nat):∀ k,(chK σ frm k).length≤16*k
 | 0=>by simp [chK]
 | k+1=>by
  have h1:=yjo h frm k
  have h2:(jjs (σ.ver (frm+k)) (σ.ver (frm+k+1))).length≤16:=by
   have a:=jqd (σ.ver (frm+k)) (σ.ver (frm+k+1))
   have b:=jn7 h (frm+k)
   have d:=jn7 h (frm+k+1)
   have e:=List.length_filter_le (fun s=>decide (jb2 (σ.ver (frm+k)) s≠jb2 (σ.ver (frm+k+1)) s)) (jgw [σ.ver (frm+k),σ.ver (frm+k+1)])
   unfold jjs
   omega
  rw [yfa,List.length_append];omega
theorem jzq (σ:StoreD) (c:Nat→Nat) (g:Nat) (vs:List Value) (vl:Value) (w:World) (h:StoreC w c g σ vs vl) (hv:VarsOk w) (frm:Nat) (hf:frm ≤ σ.last) :
  Calls Tryz.prog 156 #[.pointer (some ⟨g,0,none⟩),.int .i64 frm] w fun e w'=>∃ v',e = .returned v'∧OwnT w' w.heap.size v' (jk1 σ frm)∧Below w.heap.size w w':=by
 have HH:=Lib.hid h
 have HV:=Lib.hid hv
 have HCL:=Lib.hid h.lt
 have hlast:σ.last≤39:=h.inv.some_
 have HVO:=Lib.hid (jq4 h.inv)
 have HVL:=Lib.hid (jn7 h.inv)
 have HCK:=Lib.hid (yjo h.inv frm)
 have HE:Hid (jk1 σ frm=jay [] (chK σ frm (σ.last-frm))):=rfl
 generalize jk1 σ frm=R at *
 clear h hv
 go_enter Tryz.func156,Tryz.ntmps156
 go_wp2
 go_loopw [5,6] (fun u i wr=>∃ k:Nat,frm+k ≤ σ.last∧i = .int .i64 ((frm+k:Nat):Int)∧Hid (OwnT wr w.heap.size u (jay [] (chK σ frm k)))∧Below w.heap.size w wr) (fun _ i _=>σ.last-(intOf i).toNat)
 case atStart=>exact ⟨0,by omega,by go_num,OwnT.nil,Below.refl _ _⟩
 case round =>
  obtain ⟨k,hk,rfl,HO,hbl⟩:=hrel
  have Hr:=Lib.hid (HH.out.next hbl)
  generalize hLL:σ.last=L at *
  have HLS:Hid (∀ W,StoreC W c g σ vs vl→Calls Tryz.prog 45 #[.pointer (some ⟨g,0,none⟩)] W fun e w'=>e = .returned (.int .i64 L)∧w'=W):=fun W hW=>by have:=jgr σ c g vs vl W hW;rw [hLL] at this;exact this
  go_wp2_with fail
  refine (HLS.out _ Hr.out).mono ?_
  rintro e w0 ⟨rfl,rfl⟩
  by_cases hlt:frm+k<L
  ·have hcmp:((frm+k:Nat):Int)<(L:Int):=by omega
   obtain ⟨MM,hMM⟩:∃ MM:Int,MM=((frm+k+1:Nat):Int):=⟨_,rfl⟩
   have hwn:IntKind.i64.wrap (((frm+k:Nat):Int)+1)=MM:=by rw [IntKind.wrap_i64,hMM];omega
   have hNp:(0:Int)≤((frm+k:Nat):Int):=by omega
   have HMM:=Lib.hid hMM
   clear hMM
   generalize hNN:((frm+k:Nat):Int)=NN at *
   have HNN:=Lib.hid hNN
   clear hNN
   have HVER:Hid (∀ (W:World) (N:Int) (m:Nat),N=(m:Int)→m≤L→StoreC W c g σ vs vl→Calls Tryz.prog 47 #[.pointer (some ⟨g,0,none⟩),.int .i64 N] W fun e w'=>∃ vd vt,e = .returned (.agg #[vd,vt])∧jar w' (Im c) (σ.ver m) (.agg #[vd,vt])∧Below W.heap.size W w'):=fun W N m hN hm hW=>by subst hN;exact jgs σ c g vs vl W hW m (by omega)
   go_wp2_with fail
   refine (HVER.out _ _ (frm+k) HNN.out.symm (by omega) Hr.out).mono ?_
   rintro e w1 ⟨ud,ut,rfl,hu1,hb1⟩
   have HU1:=Lib.hid hu1
   obtain ⟨qd,qt,eq,s1,s2⟩:=hu1
   injection eq with eq;injection eq with eq;injection eq with eq1 eq2;injection eq2 with eq2 _
   subst eq1 eq2
   obtain ⟨A1,c1,rfl,-,-⟩:=s1.form
   obtain ⟨B1,d1,rfl,-,-⟩:=s2.form
   clear s1 s2
   have hb01:=bx hbl hb1
   have H1:=Lib.hid (HH.out.next hb01)
   go_wp2_with fail
   refine (HVER.out _ _ (frm+k+1) HMM.out (by omega) H1.out).mono ?_
   rintro e w2 ⟨vd2,vt2,rfl,hu2,hb2⟩
   have HU2:=Lib.hid hu2
   obtain ⟨qd,qt,eq,s1,s2⟩:=hu2
   injection eq with eq;injection eq with eq;injection eq with eq1 eq2;injection eq2 with eq2 _
   subst eq1 eq2
   obtain ⟨A2,c2,rfl,-,-⟩:=s1.form
   obtain ⟨B2,d2,rfl,-,-⟩:=s2.form
   clear s1 s2
   have hb02:=bx hb01 hb2
   have hC11:∀ k,Im c k→k<w2.heap.size:=fun k hk=>by have:=HCL.out k (by rw [show c k=11 from hk];decide);have:=hb02.size;omega
   have HU1':Hid (jar w2 (Im c) (σ.ver (frm+k)) _):=HU1.out.keepS (w':=w2) (fun q hq=>hb2.block q (by have:=HCL.out q (by rw [show c q=11 from hq];decide);have:=hb01.size;omega))
   have VA:=Lib.hid (HVO.out (frm+k))
   have VB:=Lib.hid (HVO.out (frm+k+1))
   have vla:=HVL.out (frm+k)
   have vlb:=HVL.out (frm+k+1)
   have HNX:Hid (chK σ frm (k+1)=chK σ frm k ++ jjs (σ.ver (frm+k)) (σ.ver (frm+k+1))):=yfa σ frm k
   have hpre:=HCK.out k
   generalize hva:σ.ver (frm+k)=va at *
   generalize hvb:σ.ver (frm+k+1)=vb at *
   have hb3:=jac w2 (.cells #[.slice A1 va.doms.length c1,.slice B1 va.tabs.length d1] 38)
   have D3:=Lib.hid (Cs.new w2 [.slice A1 va.doms.length c1,.slice B1 va.tabs.length d1] 38)
   have hz3:(w2.alloc (.cells #[.slice A1 va.doms.length c1,.slice B1 va.tabs.length d1] 38)).heap.size=w2.heap.size+1:=by simp
   change Hid (Cs (w2.alloc (.cells #[.slice A1 va.doms.length c1,.slice B1 va.tabs.length d1] 38)) _ _) at D3
   have hb4:=jac (w2.alloc (.cells #[.slice A1 va.doms.length c1,.slice B1 va.tabs.length d1] 38)) (.cells #[.slice A2 vb.doms.length c2,.slice B2 vb.tabs.length d2] 38)
   have D4:=Lib.hid (Cs.new (w2.alloc (.cells #[.slice A1 va.doms.length c1,.slice B1 va.tabs.length d1] 38)) [.slice A2 vb.doms.length c2,.slice B2 vb.tabs.length d2] 38)
   have hz4:((w2.alloc (.cells #[.slice A1 va.doms.length c1,.slice B1 va.tabs.length d1] 38)).alloc (.cells #[.slice A2 vb.doms.length c2,.slice B2 vb.tabs.length d2] 38)).heap.size=w2.heap.size+2:=by simp
   change Hid (Cs ((w2.alloc (.cells #[.slice A1 va.doms.length c1,.slice B1 va.tabs.length d1] 38)).alloc (.cells #[.slice A2 vb.doms.length c2,.slice B2 vb.tabs.length d2] 38)) _ _) at D4
   rw [hz3] at D4
   have D34:=Lib.hid (D3.out.next hb4)
   have hb24:=bx hb3 hb4
   have a0:=D34.out.at 0 rfl
   have a1:=D34.out.at 1 rfl
   have b0:=D4.out.at 0 rfl
   have b1:=D4.out.at 1 rfl
   go_wp2_with fail
   generalize hw4:((w2.alloc (.cells #[.slice A1 va.doms.length c1,.slice B1 va.tabs.length d1] 38)).alloc (.cells #[.slice A2 vb.doms.length c2,.slice B2 vb.tabs.length d2] 38))=w4 at *
   clear hb3 hb4
   have hb04:=bx hb02 hb24
   have BA4:Hid (jar w4 (Im c) va _):=HU1'.out.keepS (w':=w4) (fun q hq=>hb24.block q (hC11 q hq))
   have BB4:Hid (jar w4 (Im c) vb _):=HU2.out.keepS (w':=w4) (fun q hq=>hb24.block q (hC11 q hq))
   have hC4:∀ k,Im c k→k<w4.heap.size:=fun k hk=>by have:=hC11 k hk;omega
   have hsl:=ycs 38 BA4.out BB4.out hC4
   rw [hz4] at hsl
   have HSL:=Lib.hid hsl
   clear hsl
   have hb5:=jac w4 (.cells #[.slice A1 va.doms.length c1,.slice B1 va.tabs.length d1,.slice A2 vb.doms.length c2,.slice B2 vb.tabs.length d2] 38)
   clear hw4
   refine (jvi [va,vb] _ _ _ HSL.out (fun _ hk=>hk) (by simp [jdp];omega)).mono ?_
   rintro e w6 ⟨v6,rfl,ho6,hb6⟩
   have HO6:=Lib.hid ho6
   obtain ⟨A6,c6,rfl,-,-,-⟩:=jah ho6
   have hb46:=bx hb5 hb6
   have hb06:=bx hb04 hb46
   have hnl:(jgw [va,vb]).length≤16:=by have:=jqd va vb;omega
   have HCH:Hid (jjs va vb=(jgw [va,vb]).filter fun s=>decide (jb2 va s≠jb2 vb s)):=rfl
   generalize hNM:jgw [va,vb]=NM at *
   have D36:=Lib.hid (D34.out.next hb46)
   have D46:=Lib.hid (D4.out.next hb46)
   have HOp:Hid (OwnT w6 w.heap.size u5 (jay [] (chK σ frm k))):=HO.out.keep (fun q hq=>(bx (bx hb1 hb2) (bx hb24 hb46)).block q (HO.out.lt q hq).2)
   have HOL:Hid (∀ q,u5.ownBlock=some q→q<w2.heap.size):=fun q hq=>by have:=(HO.out.lt q hq).2;have:=hb1.size;have:=hb2.size;omega
   have HL6:Hid (∀ q,(Value.slice A6 NM.length c6).ownBlock=some q→w4.heap.size<q∧q<w6.heap.size):=fun q hq=>by have:=HO6.out.lt q hq;simp at this;exact ⟨by omega,this.2⟩
   generalize hPK:chK σ frm k=PK at *
   have hs46:=hb46.size
   clear ho6 a0 a1 b0 b1
   go_wp2
   go_loopw [5,30] (fun u i wr=>∃ j:Nat,j≤NM.length∧i = .int .i64 j∧Hid (OwnT wr w.heap.size u (jay [] (PK ++ (NM.take j).filter fun s=>decide (jb2 va s≠jb2 vb s))))∧Hid (∀ q,u.ownBlock=some q→q<w2.heap.size∨w6.heap.size≤q)∧Below w.heap.size w wr∧Hid (∀ q,w2.heap.size≤q→q<w6.heap.size→wr.heap[q]? = w6.heap[q]?)∧w6.heap.size≤wr.heap.size) (fun _ i _=>NM.length-(intOf i).toNat)
   case atStart=>exact ⟨0,Nat.zero_le _,rfl,by simpa using HOp,fun q hq=>.inl (HOL.out q hq),hb06,fun _ _ _=>rfl,Nat.le_refl _⟩
   case round =>
    clear HOp HOL
    obtain ⟨j,hj,rfl,HOj,HLj,hbj,HKj,hsj⟩:=hrel
    by_cases hjl:j<NM.length
    ·have hOW:OwnT wr (w4.alloc (.cells #[.slice A1 va.doms.length c1,.slice B1 va.tabs.length d1,.slice A2 vb.doms.length c2,.slice B2 vb.tabs.length d2] 38)).heap.size (.slice A6 NM.length c6) NM:=HO6.out.keep (fun b hb=>HKj.out b (by have:=(HL6.out b hb).1;omega) (HL6.out b hb).2)
     obtain ⟨bb,o,s,rfl,_,hs,e1⟩:=(hOW.sl (S:=fun _=>True) (fun _ _=>trivial)).str_at hjl
     have E3:=Lib.hid (D36.out.keep (HKj.out _ (Nat.le_refl _) D36.out.1) hsj)
     have E4:=Lib.hid (D46.out.keep (HKj.out _ (by omega) D46.out.1) hsj)
     have hCI:∀ q,Im c q→wr.heap[q]? = w2.heap[q]?:=fun q hq=>by
      have hqw:=HCL.out q (by rw [show c q=11 from hq];decide)
      rw [hbj.block q hqw,hb02.block q hqw]
     have hCr:∀ q,Im c q→q<wr.heap.size:=fun q hq=>by have:=HCL.out q (by rw [show c q=11 from hq];decide);have:=hbj.size;omega
     have BAr:Hid (jar wr (Old wr) va (.agg #[.slice A1 va.doms.length c1,.slice B1 va.tabs.length d1])):=(HU1'.out.keepS (w':=wr) hCI).moreS hCr
     have BBr:Hid (jar wr (Old wr) vb (.agg #[.slice A2 vb.doms.length c2,.slice B2 vb.tabs.length d2])):=(HU2.out.keepS (w':=wr) hCI).moreS hCr
     have HVr:=Lib.hid (HV.out.next hbj)
     have X0:wr.drew.cell? ⟨w2.heap.size,0,none⟩=some (.slice A1 va.doms.length c1)∧wr.drew.cell? ⟨w2.heap.size,1,none⟩=some (.slice B1 va.tabs.length d1)∧wr.drew.cell? ⟨w2.heap.size+1,0,none⟩=some (.slice A2 vb.doms.length c2)∧wr.drew.cell? ⟨w2.heap.size+1,1,none⟩=some (.slice B2 vb.tabs.length d2):=⟨E3.out.at 0 rfl,E3.out.at 1 rfl,E4.out.at 0 rfl,E4.out.at 1 rfl⟩
     have BArd:Hid (jar wr.drew (Old wr.drew) va (.agg #[.slice A1 va.doms.length c1,.slice B1 va.tabs.length d1])):=(BAr.out.keepS (w':=wr.drew) (fun _ _=>rfl)).moreS (fun _ hk=>hk)
     have HVrd:Hid (VarsOk wr.drew):=HVr.out.next (w':=wr.drew) ((Below.refl _ _).drew)
     have HFT:=Lib.hid (jcr (p:=fun s=>decide (jb2 va s≠jb2 vb s)) hs.out)
     have hrl:(jay [] (PK ++ (NM.take j).filter fun s=>decide (jb2 va s≠jb2 vb s))).length≤1000000:=by
      have h1:=@jds (PK ++ (NM.take j).filter fun s=>decide (jb2 va s≠jb2 vb s)) []
      have h2:(NM.take j).length≤NM.length:=(List.take_sublist _ _).length_le
      have h3:=List.length_filter_le (fun s=>decide (jb2 va s≠jb2 vb s)) (NM.take j)
      simp only [List.length_append,List.length_nil] at h1
      omega
     have hri:Hid (jo2 (jay [] (PK ++ (NM.take j).filter fun s=>decide (jb2 va s≠jb2 vb s)))=true):=jen rfl
     have HSM:=Lib.hid (jk9 [] (PK ++ (NM.take j).filter fun s=>decide (jb2 va s≠jb2 vb s)) s)
     have hwr:=hbj.size
     have E3l:=D36.out.1
     have E4l:=D46.out.1
     go_wp2_with fail
     have x0:=X0.1
     have x1:=X0.2.1
     have y0:=X0.2.2.1
     have y1:=X0.2.2.2
     clear X0
     go_region_law (first
      | (go_simp;have qq:=BArd.out;clear BArd;go_at_call 30;refine (jne va s (.agg #[.slice A1 va.doms.length c1,.slice B1 va.tabs.length d1]) wr.drew qq (jh6 VA.out) HVrd.out).mono ?_;clear qq;rintro e7 w7 ⟨rfl,hb7'⟩;have hb7:Below wr.heap.size wr w7:=jcw hb7';have x2:=(hb7.cell (p:=⟨w2.heap.size,0,none⟩) (by show w2.heap.size<_;omega)).trans x0;have x3:=(hb7.cell (p:=⟨w2.heap.size,1,none⟩) (by show w2.heap.size<_;omega)).trans x1;have y2:=(hb7.cell (p:=⟨w2.heap.size+1,0,none⟩) (by show w2.heap.size+1<_;omega)).trans y0;have y3:=(hb7.cell (p:=⟨w2.heap.size+1,1,none⟩) (by show w2.heap.size+1<_;omega)).trans y1;have BB7:=Lib.hid (BBr.out.onOld hb7);have HV7:=Lib.hid (HVr.out.next hb7);have hs7:=hb7.size;clear hb7')
      | (go_simp;go_at_call 30;refine (jne vb s (.agg #[.slice A2 vb.doms.length c2,.slice B2 vb.tabs.length d2]) w7 BB7.out (jh6 VB.out) HV7.out).mono ?_;rintro e8 w8 ⟨rfl,hb8⟩))
     all_goals clear x0 x1 x2 x3 y0 y1 y2 y3
     all_goals
      have hb78:=bx hb7 hb8
      have hbj8:=bx hbj hb78
      have hs78:=hb78.size
      have HOj8:Hid (OwnT w8 w.heap.size u5 (jay [] (PK ++ (NM.take j).filter fun s=>decide (jb2 va s≠jb2 vb s)))):=HOj.out.keep (fun q hq=>hb78.block q (HOj.out.lt q hq).2)
      have HKj8:Hid (∀ q,w2.heap.size≤q→q<w6.heap.size→w8.heap[q]? = w6.heap[q]?):=fun q h1 h2=>(hb78.block q (by omega)).trans (HKj.out q h1 h2)
      have hltj:=HOj8.out.lt
      by_cases hd:jb2 va s=jb2 vb s
      ·have HT':Hid ((NM.take (j+1)).filter (fun s=>decide (jb2 va s≠jb2 vb s))=(NM.take j).filter fun s=>decide (jb2 va s≠jb2 vb s)):=by show _=_;rw [HFT.out];simp [hd]
       have hq3:(!((bs (jb2 va s)).toList == (bs (jb2 vb s)).toList))=false:=by rw [hd];simp
       rw [hq3]
       clear hd hq3 HFT
       go_wp2
       refine ⟨⟨j+1,by omega,by go_num,?_,HLj,hbj8,HKj8,by omega⟩,by simp [intOf];omega⟩
       rw [HT'.out];exact HOj8
      ·have HT':Hid ((NM.take (j+1)).filter (fun s=>decide (jb2 va s≠jb2 vb s))=((NM.take j).filter fun s=>decide (jb2 va s≠jb2 vb s)) ++ [s]):=by show _=_;rw [HFT.out];simp [hd]
       have hq3:(!((bs (jb2 va s)).toList == (bs (jb2 vb s)).toList))=true:=by
        have hne:¬ (bs (jb2 va s)).toList=(bs (jb2 vb s)).toList:=fun e=>hd (by rw [ByteArray.toList_eq,ByteArray.toList_eq,jdb,jdb] at e;exact e)
        have hq1:((bs (jb2 va s)).toList == (bs (jb2 vb s)).toList)=false:=by rw [beq_eq_false_iff_ne];exact hne
        rw [hq1];rfl
       rw [hq3]
       clear hd hq3 HFT
       generalize hFL:PK ++ ((NM.take j).filter fun s=>decide (jb2 va s≠jb2 vb s))=FL at *
       have HFL:=Lib.hid hFL
       clear hFL
       go_wp2_with fail
       refine (jep (jay [] FL) _ s _ w.heap.size HOj8.out hri.out hrl (by have:=hbj8.size;omega)).mono ?_
       rintro e w9 ⟨v9,rfl,ho9,hg9,hm9⟩
       have HO9:=Lib.hid ho9
       have hs9:=hg9.size
       have HL9:Hid (∀ q,v9.ownBlock=some q→q<w2.heap.size∨w6.heap.size≤q):=fun q hq=>by
        rcases hm9 q hq with h | h
        ·exact HLj.out q h
        ·exact .inr (by omega)
       have hb9:Below w.heap.size w w9:=hbj8.trans (jag hg9 (by have:=hbj8.size;omega) (fun q hq=>(hltj q hq).1))
       have HK9:Hid (∀ q,w2.heap.size≤q→q<w6.heap.size→w9.heap[q]? = w6.heap[q]?):=fun q h1 h2=>(hg9.block q (by omega) (fun e=>by have:=HLj.out q e.symm;omega)).trans (HKj8.out q h1 h2)
       clear ho9 hg9 hm9
       go_wp2
       refine ⟨⟨j+1,by omega,by go_num,?_,HL9,hb9,HK9,by omega⟩,by simp [intOf];omega⟩
       rw [HT'.out,← List.append_assoc,HFL.out,HSM.out];exact HO9
    ·obtain rfl:j=NM.length:=by omega
     rw [List.take_of_length_le (Nat.le_refl _),← HCH.out] at HOj
     have HOK:Hid (OwnT wr w.heap.size u5 (jay [] (chK σ frm (k+1)))):=by
      show OwnT _ _ _ _
      rw [HNX.out];exact HOj.out
     have hnn:=HNN.out
     have hmm:=HMM.out
     go_wp2
     refine ⟨⟨k+1,by omega,?_,HOK,hbj⟩,?_⟩
     ·first | go_num | (congr 1;omega)
     ·simp [intOf];omega
  ·obtain rfl:L=frm+k:=by omega
   have hcmp:¬ ((frm+k:Nat):Int)<((frm+k:Nat):Int):=by omega
   have hek:frm+k-frm=k:=by omega
   rw [hek] at HE
   go_wp2
   go_ret
   rw [HE.out]
   exact ⟨_,rfl,HO.out,hbl⟩
open Go.RowKit Go.Shelf
theorem jv6 (σ:StoreD) (c:Nat→Nat) (g:Nat) (vs:List Value) (vl:Value) (x:SessD) (v:Value) (w:World) (S:Nat→Prop) (h:StoreC w c g σ vs vl) (hv:VarsOk w) (hx:jhb w S x v) (hS:∀ k,S k→k<w.heap.size) (hf:x.frm ≤ σ.last) :
  Calls Tryz.prog 117 #[.pointer (some ⟨g,0,none⟩),v] w fun e w'=>e = .returned (.tuple #[.string ((jh0 σ x).getD noS),.bool (jh0 σ x).isSome])∧Below w.heap.size w w':=by
 have HH:=Lib.hid h
 have HX:=Lib.hid hx
 have HS:=Lib.hid hS
 have HV:=Lib.hid hv
 have HE:Hid (jh0 σ x=(jk1 σ x.frm).find? (jh1 x)):=rfl
 generalize jh0 σ x=R at *
 obtain ⟨vd,vt,vg,vr,rfl,y1,y2,y3,y4⟩:=hx
 obtain ⟨Ad,cd,rfl,-,-⟩:=y1.form
 obtain ⟨At,ct,rfl,-,-⟩:=y2.form
 obtain ⟨Ag,cg,rfl,-,-⟩:=y3.form
 obtain ⟨Ah,ch,rfl,-,-⟩:=y4.form
 clear y1 y2 y3 y4 hS h hv
 have hb0:=jac w (.cells #[.bool x.opn,.bool x.strict,.int .i64 x.frm,.slice Ad x.mine.doms.length cd,.slice At x.mine.tabs.length ct,.slice Ag x.gone.length cg,.slice Ah x.read.length ch] 41)
 have C0:=Lib.hid (Cs.new w [.bool x.opn,.bool x.strict,.int .i64 x.frm,.slice Ad x.mine.doms.length cd,.slice At x.mine.tabs.length ct,.slice Ag x.gone.length cg,.slice Ah x.read.length ch] 41)
 have hz0:(w.alloc (.cells #[.bool x.opn,.bool x.strict,.int .i64 x.frm,.slice Ad x.mine.doms.length cd,.slice At x.mine.tabs.length ct,.slice Ag x.gone.length cg,.slice Ah x.read.length ch] 41)).heap.size=w.heap.size+1:=by simp
 change Hid (Cs (w.alloc (.cells #[.bool x.opn,.bool x.strict,.int .i64 x.frm,.slice Ad x.mine.doms.length cd,.slice At x.mine.tabs.length ct,.slice Ag x.gone.length cg,.slice Ah x.read.length ch] 41)) _ _) at C0
 generalize hw0:w.alloc (.cells #[.bool x.opn,.bool x.strict,.int .i64 x.frm,.slice Ad x.mine.doms.length cd,.slice At x.mine.tabs.length ct,.slice Ag x.gone.length cg,.slice Ah x.read.length ch] 41)=w0 at *
 have k2:=C0.out.at 2 rfl
 have H0:=Lib.hid (HH.out.next hb0)
 have HV0:=Lib.hid (HV.out.next hb0)
 go_enter Tryz.func117,Tryz.ntmps117
 go_wp2_with fail
 clear hw0 k2
 refine (jzq σ c g vs vl _ H0.out HV0.out x.frm hf).mono ?_
 rintro e w1 ⟨v1,rfl,ho1,hb1⟩
 have HO1:=Lib.hid ho1
 obtain ⟨A1,c1,rfl,hd1,hd2,-⟩:=jah ho1
 unfold maxLen at hd2
 have hb01:=bx hb0 hb1
 have C1:=Lib.hid (C0.out.next hb1)
 generalize hCH:jk1 σ x.frm=CH at *
 clear ho1
 go_wp2
 go_loopw [13] (fun i wr=>∃ k:Nat,k≤CH.length∧i = .int .i64 k∧Hid ((CH.take k).find? (jh1 x)=none)∧Below w1.heap.size w1 wr) (fun i _=>CH.length-(intOf i).toNat)
 case atStart=>exact ⟨0,Nat.zero_le _,rfl,rfl,Below.refl _ _⟩
 case round =>
  obtain ⟨k,hk,rfl,HF,hbl⟩:=hrel
  have hb0r:=bx hb01 hbl
  by_cases hlt:k<CH.length
  ·have hOW:OwnT wr w0.heap.size (.slice A1 CH.length c1) CH:=HO1.out.keep (fun b hb=>hbl.block b (HO1.out.lt b hb).2)
   obtain ⟨bb,o,s,rfl,_,hs,d1⟩:=(hOW.sl (S:=fun _=>True) (fun _ _=>trivial)).str_at hlt
   have CB:=Lib.hid (C1.out.next hbl)
   have i0:=CB.out.at 0 rfl
   have i1:=CB.out.at 1 rfl
   have i2:=CB.out.at 2 rfl
   have i3:=CB.out.at 3 rfl
   have i4:=CB.out.at 4 rfl
   have i5:=CB.out.at 5 rfl
   have i6:=CB.out.at 6 rfl
   have HXr:=Lib.hid (HX.out.keepS (w':=wr) (fun k hk=>hb0r.block k (HS.out k hk)))
   go_wp2_with fail
   refine (jzr x _ s _ S HXr.out (fun k hk=>by have:=HS.out k hk;have:=hb0r.size;omega)).mono ?_
   rintro e w2 ⟨rfl,hb2⟩
   have hbl2:=bx hbl hb2
   cases hq:jh1 x s
   ·have HN:=Lib.hid (jf3 HF.out hs.out hq)
    clear hq
    go_wp2
    exact ⟨⟨k+1,by omega,by go_num,HN,hbl2⟩,by simp [intOf];omega⟩
   ·have HR:Hid (R=some s):=by show _=_;rw [HE.out];exact jlk HF.out hs.out hq
    clear hq HE
    go_wp2
    go_ret2
    rw [HR.out]
    exact ⟨rfl,bx hb01 hbl2⟩
  ·obtain rfl:k=CH.length:=by omega
   rw [List.take_of_length_le (Nat.le_refl _)] at HF
   have HR:Hid (R=none):=by show _=_;rw [HE.out];exact HF.out
   clear HE
   go_wp2
   go_ret2
   rw [HR.out]
   exact ⟨rfl,hb0r⟩
end Go.Proofs.YthmlndmlnlfhnaaGreatDoor
