import Derived.Test.YthmlndmlnlfhnaaGreatDoorK19628961
set_option maxRecDepth 100000
set_option maxHeartbeats 16000000
namespace Go.Proofs.YthmlndmlnlfhnaaGreatDoor
open Go.RowKit Go.Shelf
theorem ycs {w:World} {S:Nat→Prop} {a b:BookD} {p q r t:Value} (e:Nat) (h1:jar w S a (.agg #[p,q])) (h2:jar w S b (.agg #[r,t])) (hS:∀ k,S k→k<w.heap.size) :
  Sl Enc.book (w.alloc (.cells #[p,q,r,t] e)) (Old (w.alloc (.cells #[p,q,r,t] e))) [a,b] (.slice (some ⟨w.heap.size,0,none⟩) 2 2):=by
 have hb:=jac w (.cells #[p,q,r,t] e)
 have hz:(w.alloc (.cells #[p,q,r,t] e)).heap.size=w.heap.size+1:=by simp
 have hs:∀ k,S k→Old (w.alloc (.cells #[p,q,r,t] e)) k:=fun k hk=>by have:=hS k hk;show k<_;omega
 obtain ⟨p',q',e1,a1,a2⟩:=h1
 injection e1 with e1
 injection e1 with e1
 injection e1 with e11 e12
 injection e12 with e12 _
 subst e11 e12
 obtain ⟨r',t',e2,b1,b2⟩:=h2
 injection e2 with e2
 injection e2 with e2
 injection e2 with e21 e22
 injection e22 with e22 _
 subst e21 e22
 have kp:∀ {α:Type} {E:Enc α} {l:List α} {v:Value},Sl E w S l v→Sl E (w.alloc (.cells #[p,q,r,t] e)) (Old (w.alloc (.cells #[p,q,r,t] e))) l v:=fun h=>(h.keep fun pp hp=>hb.cell (hS _ hp)).more hs
 refine ⟨_,2,rfl,Nat.le_refl _,by unfold maxLen;omega,fun h=>(by cases h),fun _=>⟨w.heap.size,0,rfl,by show w.heap.size<_;omega,fun i x hx=>?_⟩⟩
 match i with
 | 0 =>
  simp at hx;subst hx
  refine ⟨[p,q],⟨p,q,rfl,kp a1,kp a2⟩,fun j v hv=>?_⟩
  match j with
  | 0=>simp at hv;subst hv;exact jab _ _ _ _ _ rfl
  | 1=>simp at hv;subst hv;exact jab _ _ _ _ _ rfl
  | j+2=>simp at hv
 | 1 =>
  simp at hx;subst hx
  refine ⟨[r,t],⟨r,t,rfl,kp b1,kp b2⟩,fun j v hv=>?_⟩
  match j with
  | 0=>simp at hv;subst hv;exact jab _ _ _ _ _ rfl
  | 1=>simp at hv;subst hv;exact jab _ _ _ _ _ rfl
  | j+2=>simp at hv
 | i+2=>simp at hx
structure AskSt (w wr:World) (c ck:Nat→Nat) (g n:Nat) (σ:StoreD) (x:SessD) (R:List ByteArray) (vd vt vg vr:Value) (vs:List Value) (vl:Value) (N:Nat):Prop where
 st:StoreC wr ck g (jaq σ n { x with read:=R }) vs vl
 sc:SessC wr ck n { x with read:=R } vd vt vg vr
 sl:∀ j v,(jpv { x with read:=R } vd vt vg vr)[j]? = some v→vs[1+n*7+j]? = some v
 old:∀ b,b<N→ck b=c b
 fr:Fr c w wr
 size:N≤wr.heap.size
theorem AskSt.cell {w wr:World} {c ck:Nat→Nat} {g n N:Nat} {σ:StoreD} {x:SessD} {R:List ByteArray} {vd vt vg vr vl:Value} {vs:List Value} (h:AskSt w wr c ck g n σ x R vd vt vg vr vs vl N) {j:Nat} {v:Value} (hj:(jpv { x with read:=R } vd vt vg vr)[j]? = some v):wr.cell? ⟨g,1+n*7+j,none⟩=some v∧wr.frozen? ⟨g,1+n*7+j,none⟩=false :=
 ⟨h.st.cs.2.1 _ v (h.sl j v hj),h.st.cs.2.2 _ (by have:=(List.getElem?_eq_some_iff.1 (h.sl j v hj)).1;exact this)⟩
theorem AskSt.read {w wr w4:World} {c ck:Nat→Nat} {g n N:Nat} {σ:StoreD} {x:SessD} {R R':List ByteArray} {vd vt vg vr vl v4:Value} {vs:List Value} (h:AskSt w wr c ck g n σ x R vd vt vg vr vs vl N) (hn:n<4) (hw:w.heap.size≤N) (hO:OwnT w4 0 v4 R') (hg:wr.grownBy w4 vr.ownBlock) (hm:jed wr vr v4) (hI:Inv (jaq σ n { x with read:=R' })) :
  ∃ c',AskSt w (w4.setCell ⟨g,1+n*7+6,none⟩ v4) c c' g n σ x R' vd vt vg v4 (vs.set (1+n*7+6) v4) vl N:=by
 have e:jaq (jaq σ n { x with read:=R }) n { x with read:=R' } = jaq σ n { x with read:=R' }:=by unfold jaq;simp
 obtain ⟨c',h1,h2,_,h4,h5,h6⟩:=h.st.readS (read':=R') hn h.sc h.sl hO hg hm (by rw [e];exact hI)
 rw [e] at h1
 refine ⟨c',h1,h5,h6,fun b hb=>(h2 b (by have:=h.size;omega)).trans (h.old b hb),h.fr.trans h4 (fun b hb=>h.old b (by omega)),?_⟩
 have:=h4.size
 have:=h.size
 omega
theorem AskSt.next {w wr w':World} {c ck:Nat→Nat} {g n N:Nat} {σ:StoreD} {x:SessD} {R:List ByteArray} {vd vt vg vr vl:Value} {vs:List Value} (h:AskSt w wr c ck g n σ x R vd vt vg vr vs vl N) (hb:Below wr.heap.size wr w'):AskSt w w' c ck g n σ x R vd vt vg vr vs vl N :=
 ⟨h.st.next hb,h.sc.keep fun b hb'=>⟨hb.block b (h.st.lt b (by omega)),rfl⟩,h.sl,h.old,h.fr.trans (Fr.below (c:=c) hb) (fun _ _=>rfl),Nat.le_trans h.size hb.size⟩
theorem AskSt.block {w wr:World} {c ck:Nat→Nat} {g n N:Nat} {σ:StoreD} {x:SessD} {R:List ByteArray} {vd vt vg vr vl:Value} {vs:List Value} (h:AskSt w wr c ck g n σ x R vd vt vg vr vs vl N) {w4:World} {v4:Value} (hg:wr.grownBy w4 vr.ownBlock) {b:Nat} (hb:b<N) (h0:c b=0):(w4.setCell ⟨g,1+n*7+6,none⟩ v4).heap[b]? = wr.heap[b]?:=by
 have hc:=(h.old b hb).trans h0
 have hbg:b≠g:=fun e=>by rw [e,h.st.col] at hc;omega
 rw [RowKit.Below.heap_setCell _ _ _ _ hbg,hg.block b (by have:=h.size;omega) (fun e=>by have:=h.sc.readC b e.symm;omega)]
theorem ypi {σ:StoreD} (h:Inv σ) {n:Nat} {x:SessD} {R:List ByteArray} (hI:SessOk σ.last σ.acts { x with read:=R }):Inv (jaq σ n { x with read:=R }):=h.set hI
theorem ypj {last acts k:Nat} {x:SessD} {m:List ByteArray} (h:SessOk last acts x) (hk:x.read.length+m.length≤1000*acts):SessOk last acts { x with read:=jay x.read (m.take k) } where
 mine:=h.mine
 gone:=h.gone
 read:=jen h.read
 frm:=h.frm
 ds:=h.ds
 ts:=h.ts
 gs:=h.gs
 rs:=by
  have h1:=@jds (m.take k) x.read
  have h2:(m.take k).length≤m.length:=(List.take_sublist _ _).length_le
  show (jay x.read (m.take k)).length≤_
  omega
theorem ym1 (σ:StoreD) (c:Nat→Nat) (g n:Nat) (vs:List Value) (vl:Value) (x:SessD) (l:List Int) (vin:Value) (w:World) (h:StoreC w c g σ vs vl) (hx:σ.sess[n]? = some x) (hin:Sl Enc.int w (fun b=>b<w.heap.size∧c b=0) l vin) (hrs:x.read.length+1000≤1000 * σ.acts) (hI:Inv (jaq σ n (jpi σ x l).1)) :
  Calls Tryz.prog 73 #[.pointer (some ⟨g,0,none⟩),.pointer (some ⟨g,1+n*7,none⟩),vin] w (jam w c g (jaq σ n (jpi σ x l).1,(jpi σ x l).2)):=by
 have hSO:=h.inv.sess x (List.mem_of_getElem? hx)
 have hacts:=h.inv.acts
 obtain ⟨vd,vt,vg,vr,hC,hn,hL,hcell⟩:=h.sessAt hx
 have HH:=Lib.hid h
 have HC:=Lib.hid hC
 have HL:=Lib.hid hL
 have HSK:=Lib.hid hSO
 have hgw:g<w.heap.size:=h.cs.1
 have HME:=Lib.hid hSO.mine
 have hds:=hSO.ds
 have hts:=hSO.ts
 have hfrm:=hSO.frm
 have HCL:=Lib.hid h.lt
 have HSX:=Lib.hid (jm7 hx)
 have HSO:=Lib.hid (yms h.inv hSO.mine)
 have hvl:=jn7 h.inv x.frm
 have hsl:=jtq (σ.ver x.frm) x.mine x.gone
 have hnm:=jqd (σ.ver x.frm) (jfu σ x)
 change (jgw [σ.ver x.frm,jfu σ x]).length≤_+((jf0 (σ.ver x.frm) x.mine x.gone).doms.length+(jf0 (σ.ver x.frm) x.mine x.gone).tabs.length) at hnm
 have HNL:Hid (([σ.ver x.frm,jfu σ x].flatMap jdp).length≤500000):=by
  show _≤_
  have e:([σ.ver x.frm,jfu σ x].flatMap jdp).length=(σ.ver x.frm).doms.length+(σ.ver x.frm).tabs.length+((jf0 (σ.ver x.frm) x.mine x.gone).doms.length+(jf0 (σ.ver x.frm) x.mine x.gone).tabs.length):=by simp [jdp,jfu];omega
  omega
 have HNM:Hid ((jgw [σ.ver x.frm,jfu σ x]).length≤500):=by show _≤_;omega
 have HA0:Hid (jpi σ x l=({ x with read:=if x.strict then jbg (jay x.read (jgw [σ.ver x.frm,jfu σ x])) noS else jay x.read (jgw [σ.ver x.frm,jfu σ x]) },⟨(askV (jfu σ x) l).2,0,noS,(askV (jfu σ x) l).1,[]⟩)):=rfl
 have HIN:=Lib.hid hin
 clear hsl hnm hvl
 generalize jpi σ x l=PV at *
 obtain ⟨Ad,cd,rfl,-,-⟩:=hC.doms.form
 obtain ⟨At,ct,rfl,-,-⟩:=hC.tabs.form
 obtain ⟨Ag,cg,rfl,-,-,-⟩:=jah hC.gone
 obtain ⟨Ah,ch,rfl,-,-,-⟩:=jah hC.read
 obtain ⟨Ai,ci,rfl,-,-⟩:=hin.form
 have hb0:=jac w (.cells #[.int .i64 0,.int .i64 0,.string ⟨#[]⟩,.slice none 0 0,.slice none 0 0] 30)
 have C0:=Lib.hid (Cs.new w zeroRL 30)
 have hz0:(w.alloc (.cells #[.int .i64 0,.int .i64 0,.string ⟨#[]⟩,.slice none 0 0,.slice none 0 0] 30)).heap.size=w.heap.size+1:=by simp
 change Hid (Cs (w.alloc (.cells #[.int .i64 0,.int .i64 0,.string ⟨#[]⟩,.slice none 0 0,.slice none 0 0] 30)) _ _) at C0
 generalize hw0:w.alloc (.cells #[.int .i64 0,.int .i64 0,.string ⟨#[]⟩,.slice none 0 0,.slice none 0 0] 30)=w0 at *
 have H0:=Lib.hid (HH.out.next hb0)
 have HX0:Hid (jhb w0 (Cd c) x _):=HC.out.at.keepS (fun k hk=>hb0.block k (HCL.out k hk))
 have hk0:=fun j v (hv:(jpv x (.slice Ad x.mine.doms.length cd) (.slice At x.mine.tabs.length ct) (.slice Ag x.gone.length cg) (.slice Ah x.read.length ch))[j]? = some v)=>(hb0.cell (p:=⟨g,1+n*7+j,none⟩) hgw).trans (hcell j v hv).1
 have i0:=hk0 0 _ rfl
 have i1:=hk0 1 _ rfl
 have i2:=hk0 2 _ rfl
 have i3:=hk0 3 _ rfl
 have i4:=hk0 4 _ rfl
 have i5:=hk0 5 _ rfl
 have i6:=hk0 6 _ rfl
 rw [Nat.add_zero] at i0
 have hc0:c w.heap.size=0:=jb1 HCL.out (Nat.le_refl _)
 clear hC hL h hSO hx hin hk0
 go_enter Tryz.func73,Tryz.ntmps73
 go_wp2_with fail
 clear hw0 i0 i1 i2 i3 i4 i5 i6
 refine (jxy σ c g vs vl x _ _ H0.out HX0.out HME.out hfrm ⟨by omega,by omega⟩).mono ?_
 rintro e w1 ⟨u1,rfl,hu1,hb1⟩
 have HU1:=Lib.hid hu1
 obtain ⟨ud,ut,rfl,s1,s2⟩:=hu1
 obtain ⟨Aq,cq,rfl,-,-⟩:=s1.form
 obtain ⟨Bq,dq,rfl,-,-⟩:=s2.form
 clear s1 s2
 have hb01:=bx hb0 hb1
 have hs1:=hb1.size
 generalize hSV:jfu σ x=SV at *
 have hbz:=jac w1 (.cells #[.slice Aq SV.doms.length cq,.slice Bq SV.tabs.length dq] 38)
 have D2:=Lib.hid (Cs.new w1 [.slice Aq SV.doms.length cq,.slice Bq SV.tabs.length dq] 38)
 change Hid (Cs (w1.alloc (.cells #[.slice Aq SV.doms.length cq,.slice Bq SV.tabs.length dq] 38)) _ _) at D2
 have hz2:(w1.alloc (.cells #[.slice Aq SV.doms.length cq,.slice Bq SV.tabs.length dq] 38)).heap.size=w1.heap.size+1:=by simp
 have hb02:=bx hb01 hbz
 have C2:=Lib.hid ((C0.out.next hb1).next hbz)
 have HU2:Hid (jar (w1.alloc (.cells #[.slice Aq SV.doms.length cq,.slice Bq SV.tabs.length dq] 38)) (From w0.heap.size w1) SV (.agg #[.slice Aq SV.doms.length cq,.slice Bq SV.tabs.length dq])):=HU1.out.keepS (fun k hk=>hbz.block k hk.2)
 go_wp2_with fail
 generalize hw2:w1.alloc (.cells #[.slice Aq SV.doms.length cq,.slice Bq SV.tabs.length dq] 38)=w2 at *
 have H2d:Hid (StoreC w2.drew c g σ vs vl):=(HH.out.next hb02).keep (w':=w2.drew) (fun _ _=>rfl) (Nat.le_refl _)
 have j2:w2.drew.cell? ⟨g,1+n*7+2,none⟩=some (.int .i64 x.frm):=(hb02.cell (p:=⟨g,1+n*7+2,none⟩) hgw).trans (hcell 2 _ rfl).1
 have q0:w2.drew.cell? ⟨w1.heap.size,0,none⟩=some (.slice Aq SV.doms.length cq):=D2.out.at 0 rfl
 have q1:w2.drew.cell? ⟨w1.heap.size,1,none⟩=some (.slice Bq SV.tabs.length dq):=D2.out.at 1 rfl
 clear hw2 hcell
 go_region_law (first
  | (go_simp;go_at_call 47;refine (jgs σ c g vs vl _ H2d.out x.frm hfrm).mono ?_;rintro e w3 ⟨td,tt,rfl,hu3,hb3'⟩;have hb3:Below w2.heap.size w2 w3:=jcw hb3';have HU3:Hid (jar w3 (Im c) (σ.ver x.frm) (.agg #[td,tt])):=hu3;obtain ⟨qd,qt,eq,s1,s2⟩:=hu3;injection eq with eq;injection eq with eq;injection eq with eq1 eq2;injection eq2 with eq2 _;subst eq1 eq2;obtain ⟨A3,c3,rfl,-,-⟩:=s1.form;obtain ⟨B3,d3,rfl,-,-⟩:=s2.form;clear s1 s2 hb3';have D3:=Lib.hid (D2.out.next hb3);have p0:=D3.out.at 0 rfl;have p1:=D3.out.at 1 rfl;have hb03:=bx hb02 hb3;have hs3:=hb3.size;have hS3:∀ k,(Im c k∨From w0.heap.size w1 k)→k<w3.heap.size:=fun k hk=>by { rcases hk with hk | hk;{ have:=HCL.out k (by rw [show c k=11 from hk];decide);omega };{ have:=hk.2;omega } };have HSL:=Lib.hid (ycs 38 (HU3.out.moreS (S':=fun k=>Im c k∨From w0.heap.size w1 k) (fun _ hk=>.inl hk)) ((HU2.out.keepS (w':=w3) (fun k hk=>hb3.block k (by have:=hk.2;omega))).moreS (S':=fun k=>Im c k∨From w0.heap.size w1 k) (fun _ hk=>.inr hk)) hS3))
  | (go_simp;go_at_call 116;refine (jvi [σ.ver x.frm,SV] _ _ _ HSL.out (fun _ hk=>hk) HNL.out).mono ?_;rintro e w5 ⟨v5,rfl,ho5,hb5⟩;have HO5:=Lib.hid ho5;obtain ⟨A5,c5,rfl,-,-,-⟩:=jah ho5;clear ho5))
 all_goals
  have hb4:=jac w3 (.cells #[.slice A3 (σ.ver x.frm).doms.length c3,.slice B3 (σ.ver x.frm).tabs.length d3,.slice Aq SV.doms.length cq,.slice Bq SV.tabs.length dq] 38)
  have hb35:=bx hb4 hb5
  have hb25:=bx hb3 hb35
  have hb05:=bx hb02 hb25
  have hs25:=hb25.size
  have D5:=Lib.hid (D2.out.next hb25)
  have C5:=Lib.hid (C2.out.next hb25)
  have HU5:Hid (jar w5 (From w0.heap.size w1) SV (.agg #[.slice Aq SV.doms.length cq,.slice Bq SV.tabs.length dq])):=HU2.out.keepS (fun k hk=>hb25.block k (by have:=hk.2;omega))
  have HST0:Hid (AskSt w w5 c c g n σ x x.read (.slice Ad x.mine.doms.length cd) (.slice At x.mine.tabs.length ct) (.slice Ag x.gone.length cg) (.slice Ah x.read.length ch) vs vl w5.heap.size):=⟨by have:=HH.out.next hb05;rw [← HSX.out] at this;exact this,HC.out.keep (fun b hb=>⟨hb05.block b (HCL.out b (by omega)),rfl⟩),HL.out,fun _ _=>rfl,Fr.below hb05,Nat.le_refl _⟩
  have hs4:=hb4.size
  have HOL:Hid (∀ k,(Value.slice A5 (jgw [σ.ver x.frm,SV]).length c5).ownBlock=some k→w.heap.size≤k∧k<w5.heap.size):=fun k hk=>by have:=HO5.out.lt k hk;exact ⟨by omega,this.2⟩
  generalize hNM:jgw [σ.ver x.frm,SV]=NM at *
  clear p0 p1 q0 q1 j2
  go_wp2
  go_loopw [27] (fun i wr=>∃ (k:Nat) (ck:Nat→Nat) (vk:Value) (sk:List Value),k≤NM.length∧i = .int .i64 k∧Hid (AskSt w wr c ck g n σ x (jay x.read (NM.take k)) (.slice Ad x.mine.doms.length cd) (.slice At x.mine.tabs.length ct) (.slice Ag x.gone.length cg) vk sk vl w5.heap.size)∧Hid (∀ b,b<w5.heap.size→c b=0→wr.heap[b]? = w5.heap[b]?)) (fun i _=>NM.length-(intOf i).toNat)
  case atStart=>exact ⟨0,c,_,vs,Nat.zero_le _,rfl,HST0,fun _ _ _=>rfl⟩
  case round =>
   clear HST0
   obtain ⟨k,ck,vk,sk,hk,rfl,HST,HBK⟩:=hrel
   have hnm:=HNM.out
   obtain ⟨Ak,kk,ek,-,-,-⟩:=jah HST.out.sc.read
   subst ek
   by_cases hlt:k<NM.length
   ·have hOW:OwnT wr (w3.alloc (.cells #[.slice A3 (σ.ver x.frm).doms.length c3,.slice B3 (σ.ver x.frm).tabs.length d3,.slice Aq SV.doms.length cq,.slice Bq SV.tabs.length dq] 38)).heap.size (.slice A5 NM.length c5) NM:=HO5.out.keep (fun b hb=>HBK.out b (HOL.out b hb).2 (jb1 HCL.out (HOL.out b hb).1))
    obtain ⟨bb,o,s,rfl,_,hs,d1⟩:=(hOW.sl (S:=fun _=>True) (fun _ _=>trivial)).str_at hlt
    have g6:=(HST.out.cell (j:=6) rfl).1
    have z6:=(HST.out.cell (j:=6) rfl).2
    have hrl:(jay x.read (NM.take k)).length≤1000000:=by
     have h1:=@jds (NM.take k) x.read
     have h2:(NM.take k).length≤NM.length:=(List.take_sublist _ _).length_le
     omega
    have hri:Hid (jo2 (jay x.read (NM.take k))=true):=jen HSK.out.read
    have HNX:Hid (jay x.read (NM.take (k+1))=jbg (jay x.read (NM.take k)) s):=by show _=_;rw [jai hs.out,jk9]
    have HI':Hid (Inv (jaq σ n { x with read:=jbg (jay x.read (NM.take k)) s })):=by
     show Inv _
     rw [← HNX.out]
     exact ypi HH.out.inv (ypj HSK.out (by omega))
    generalize hRK:jay x.read (NM.take k)=RK at *
    go_wp2_with fail
    refine (jep RK _ s _ 0 HST.out.sc.read hri.out hrl (Nat.zero_le _)).mono ?_
    rintro e w6 ⟨v6,rfl,ho6,hg6,hm6⟩
    have hgg:some g≠(Value.slice Ak RK.length kk).ownBlock:=fun e=>by have:=HST.out.sc.readC g e.symm;rw [HST.out.st.col] at this;omega
    have hgr:g<wr.heap.size:=HST.out.st.cs.1
    have k6:=(World.cell?_of_block (a:=⟨g,1+n*7+6,none⟩) (hg6.block g hgr hgg)).trans g6
    have y6:=(World.frozen?_of_block (a:=⟨g,1+n*7+6,none⟩) (hg6.block g hgr hgg)).trans z6
    obtain ⟨c',HN⟩:=HST.out.read hn (by omega) ho6 hg6 hm6 HI'.out
    have HN':=Lib.hid HN
    have HB':Hid (∀ b,b<w5.heap.size→c b=0→(w6.setCell ⟨g,1+n*7+6,none⟩ v6).heap[b]? = w5.heap[b]?):=fun b hb h0=>(HST.out.block hg6 hb h0).trans (HBK.out b hb h0)
    obtain ⟨A6,c6,e6,-,-,-⟩:=jah ho6
    subst e6
    clear ho6 hg6 hm6 HN g6 z6
    go_wp2
    refine ⟨⟨k+1,c',.slice A6 (jbg RK s).length c6,sk.set (1+n*7+6) (.slice A6 (jbg RK s).length c6),by omega,by go_num,?_,HB'⟩,by simp [intOf];omega⟩
    rw [HNX.out]
    exact HN'
   ·obtain rfl:k=NM.length:=by omega
    rw [List.take_of_length_le (Nat.le_refl _)] at HST
    have g1:=(HST.out.cell (j:=1) rfl).1
    have hrl:(jay x.read NM).length≤1000000:=by
     have h1:=@jds NM x.read
     omega
    have hri:Hid (jo2 (jay x.read NM)=true):=jen HSK.out.read
    cases hst:x.strict
    ·have HE:Hid (PV=({ x with read:=jay x.read NM },⟨(askV SV l).2,0,noS,(askV SV l).1,[]⟩)):=by show _=_;rw [HA0.out,hst];rfl
     rw [hst] at g1
     have DF:=Lib.hid (D5.out.keep (w':=wr) (HBK.out _ D5.out.1 (jb1 HCL.out (by omega))) (by have:=HST.out.size;omega))
     have CF:=Lib.hid (C5.out.keep (w':=wr) (HBK.out _ C5.out.1 hc0) (by have:=HST.out.size;omega))
     have HUF:Hid (jar wr (Old wr) SV (.agg #[.slice Aq SV.doms.length cq,.slice Bq SV.tabs.length dq])):=(HU5.out.keepS (w':=wr) (fun k hk=>HBK.out k (by have:=hk.2;omega) (jb1 HCL.out (by have:=hk.1;omega)))).moreS (fun k hk=>by have:=hk.2;have:=HST.out.size;show k<_;omega)
     have HIF:Hid (Sl Enc.int wr (Old wr) l (.slice Ai l.length ci)):=(HIN.out.keep (w':=wr) (fun p hp=>World.cell?_of_block ((HBK.out _ (by have:=hp.1;omega) hp.2).trans (hb05.block _ hp.1)))).more (fun k hk=>by have:=hk.1;have:=HST.out.size;show k<_;omega)
     have e0:=DF.out.at 0 rfl
     have e1:=DF.out.at 1 rfl
     go_wp2_with fail
     clear e0 e1
     refine (jmg SV l _ _ _ HUF.out HIF.out (jh6 HSO.out)).mono ?_
     rintro e w8 ⟨v8,rfl,hn8,hb8⟩
     have HN8:=Lib.hid hn8
     obtain ⟨A8,c8,rfl,-,-⟩:=hn8.form
     have HST8:=Lib.hid (HST.out.next hb8)
     have C8:=Lib.hid (CF.out.next hb8)
     have hs8:=hb8.size
     have hsw:=HST.out.size
     have hck:∀ b,ck b≠0→b<(wr).heap.size:=HST.out.st.lt
     have r0:=C8.out.at 0 rfl
     have r1:=C8.out.at 1 rfl
     have r2:=C8.out.at 2 rfl
     have r3:=C8.out.at 3 rfl
     have r4:=C8.out.at 4 rfl
     have f0:=C8.out.2.2 0 (by simp)
     have f1:=C8.out.2.2 1 (by simp)
     have f2:=C8.out.2.2 2 (by simp)
     have f3:=C8.out.2.2 3 (by simp)
     have f4:=C8.out.2.2 4 (by simp)
     generalize hAV:askV SV l=AV at *
     clear hn8
     go_wp2
     (try simp only [Exit.inBlock,Exit.then])
     refine bodyPost_ret (jaz (b:=w.heap.size) rfl rfl (jbs C8.out _ _ _ _ _)) rfl ?_
     rw [HE.out]
     refine jam.wrote HST8.out.st (fun b hb=>HST8.out.old b (by omega)) (Nat.le_refl _) ((HST8.out.old _ (by omega)).trans hc0) HST8.out.fr ⟨_,_,rfl,?_,Sl.nil⟩
     refine (HN8.out.keep fun p hp=>World.cell?_of_block (jhm _ _ _ _ _ _ _ _ (by have:=hp.1;omega))).more fun q hq=>⟨by have:=hq.1;omega,by rw [jl8];exact hq.2,?_⟩
     exact jb1 hck hq.1
    ·have HE:Hid (PV=({ x with read:=jbg (jay x.read NM) noS },⟨(askV SV l).2,0,noS,(askV SV l).1,[]⟩)):=by show _=_;rw [HA0.out,hst];rfl
     rw [hst] at g1
     have g6:=(HST.out.cell (j:=6) rfl).1
     have z6:=(HST.out.cell (j:=6) rfl).2
     have HI':Hid (Inv (jaq σ n { x with read:=jbg (jay x.read NM) noS })):=by
      show Inv _
      rw [HE.out] at hI
      exact hI
     generalize hRK:jay x.read NM=RK at *
     go_wp2_with fail
     refine (jep RK _ noS _ 0 HST.out.sc.read hri.out hrl (Nat.zero_le _)).mono ?_
     rintro e w6 ⟨v6,rfl,ho6,hg6,hm6⟩
     have hgg:some g≠(Value.slice Ak RK.length kk).ownBlock:=fun e=>by have:=HST.out.sc.readC g e.symm;rw [HST.out.st.col] at this;omega
     have hgr:g<wr.heap.size:=HST.out.st.cs.1
     have k6:=(World.cell?_of_block (a:=⟨g,1+n*7+6,none⟩) (hg6.block g hgr hgg)).trans g6
     have y6:=(World.frozen?_of_block (a:=⟨g,1+n*7+6,none⟩) (hg6.block g hgr hgg)).trans z6
     obtain ⟨c',HN⟩:=HST.out.read hn (by omega) ho6 hg6 hm6 HI'.out
     have HB':Hid (∀ b,b<w5.heap.size→c b=0→(w6.setCell ⟨g,1+n*7+6,none⟩ v6).heap[b]? = w5.heap[b]?):=fun b hb h0=>(HST.out.block hg6 hb h0).trans (HBK.out b hb h0)
     obtain ⟨A6,c6,e6,-,-,-⟩:=jah ho6
     subst e6
     clear ho6 hg6 hm6 HBK HST
     have HST:=Lib.hid HN
     have HBK:=HB'
     clear HN g6 z6 HB'
     have DG:=Lib.hid (D5.out.keep (HBK.out _ D5.out.1 (jb1 HCL.out (by omega))) (by have:=HST.out.size;omega))
     have d0:=DG.out.at 0 rfl
     have d1:=DG.out.at 1 rfl
     go_wp2_with fail
     generalize hw7:w6.setCell ⟨g,1+n*7+6,none⟩ (.slice A6 (jbg RK noS).length c6)=w7 at *
     clear hw7 d0 d1
     have DF:=Lib.hid (D5.out.keep (w':=w7) (HBK.out _ D5.out.1 (jb1 HCL.out (by omega))) (by have:=HST.out.size;omega))
     have CF:=Lib.hid (C5.out.keep (w':=w7) (HBK.out _ C5.out.1 hc0) (by have:=HST.out.size;omega))
     have HUF:Hid (jar w7 (Old w7) SV (.agg #[.slice Aq SV.doms.length cq,.slice Bq SV.tabs.length dq])):=(HU5.out.keepS (w':=w7) (fun k hk=>HBK.out k (by have:=hk.2;omega) (jb1 HCL.out (by have:=hk.1;omega)))).moreS (fun k hk=>by have:=hk.2;have:=HST.out.size;show k<_;omega)
     have HIF:Hid (Sl Enc.int w7 (Old w7) l (.slice Ai l.length ci)):=(HIN.out.keep (w':=w7) (fun p hp=>World.cell?_of_block ((HBK.out _ (by have:=hp.1;omega) hp.2).trans (hb05.block _ hp.1)))).more (fun k hk=>by have:=hk.1;have:=HST.out.size;show k<_;omega)
     have e0:=DF.out.at 0 rfl
     have e1:=DF.out.at 1 rfl
     clear e0 e1
     refine (jmg SV l _ _ _ HUF.out HIF.out (jh6 HSO.out)).mono ?_
     rintro e w8 ⟨v8,rfl,hn8,hb8⟩
     have HN8:=Lib.hid hn8
     obtain ⟨A8,c8,rfl,-,-⟩:=hn8.form
     have HST8:=Lib.hid (HST.out.next hb8)
     have C8:=Lib.hid (CF.out.next hb8)
     have hs8:=hb8.size
     have hsw:=HST.out.size
     have hck:∀ b,c' b≠0→b<(w7).heap.size:=HST.out.st.lt
     have r0:=C8.out.at 0 rfl
     have r1:=C8.out.at 1 rfl
     have r2:=C8.out.at 2 rfl
     have r3:=C8.out.at 3 rfl
     have r4:=C8.out.at 4 rfl
     have f0:=C8.out.2.2 0 (by simp)
     have f1:=C8.out.2.2 1 (by simp)
     have f2:=C8.out.2.2 2 (by simp)
     have f3:=C8.out.2.2 3 (by simp)
     have f4:=C8.out.2.2 4 (by simp)
     generalize hAV:askV SV l=AV at *
     clear hn8
     go_wp2
     (try simp only [Exit.inBlock,Exit.then])
     refine bodyPost_ret (jaz (b:=w.heap.size) rfl rfl (jbs C8.out _ _ _ _ _)) rfl ?_
     rw [HE.out]
     refine jam.wrote HST8.out.st (fun b hb=>HST8.out.old b (by omega)) (Nat.le_refl _) ((HST8.out.old _ (by omega)).trans hc0) HST8.out.fr ⟨_,_,rfl,?_,Sl.nil⟩
     refine (HN8.out.keep fun p hp=>World.cell?_of_block (jhm _ _ _ _ _ _ _ _ (by have:=hp.1;omega))).more fun q hq=>⟨by have:=hq.1;omega,by rw [jl8];exact hq.2,?_⟩
     exact jb1 hck hq.1
end Go.Proofs.YthmlndmlnlfhnaaGreatDoor
