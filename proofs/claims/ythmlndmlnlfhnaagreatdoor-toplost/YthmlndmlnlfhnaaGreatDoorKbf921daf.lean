import Derived.Test.YthmlndmlnlfhnaaGreatDoorK3ad5dc92
set_option maxRecDepth 100000
set_option maxHeartbeats 16000000
namespace Go.Proofs.YthmlndmlnlfhnaaGreatDoor
open Go.Lib (hid)
open Go.RowKit Go.Shelf
theorem ycs {w:World} {S:Nat→Prop} {a b:BookD} {p q r t:Value} (e:Nat) (h1:jar w S a (.agg #[p,q])) (h2:jar w S b (.agg #[r,t])) (hS:∀ k,S k→k<w.heap.size) :
  Sl Enc.book (w.alloc (.cells #[p,q,r,t] e)) (Old (w.alloc (.cells #[p,q,r,t] e))) [a,b] (.slice (some ⟨w.heap.size,0,none⟩) 2 2):=by
 have hb:=jac w (.cells #[p,q,r,t] e);have hz:(w.alloc (.cells #[p,q,r,t] e)).heap.size=w.heap.size+1:=by simp
 have hs:∀ k,S k→Old (w.alloc (.cells #[p,q,r,t] e)) k:=fun k hk=>by have:=hS k hk;show k<_;omega
 obtain ⟨p',q',e1,a1,a2⟩:=h1;injection e1 with e1;injection e1 with e1;injection e1 with e11 e12;injection e12 with e12 _;subst e11 e12;obtain ⟨r',t',e2,b1,b2⟩:=h2;injection e2 with e2;injection e2 with e2;injection e2 with e21 e22;injection e22 with e22 _;subst e21 e22;have kp:∀ {α:Type} {E:Enc α} {l:List α} {v:Value},Sl E w S l v→Sl E (w.alloc (.cells #[p,q,r,t] e)) (Old (w.alloc (.cells #[p,q,r,t] e))) l v:=fun h=>(h.keep fun pp hp=>hb.cell (hS _ hp)).more hs;refine ⟨_,2,rfl,Nat.le_refl _,by unfold maxLen;omega,fun h=>(by cases h),fun _=>⟨w.heap.size,0,rfl,by show w.heap.size<_;omega,fun i x hx=>?_⟩⟩
 match i with
 | 0 =>
  simp at hx;subst hx;refine ⟨[p,q],⟨p,q,rfl,kp a1,kp a2⟩,fun j v hv=>?_⟩
  match j with
  | 0=>simp at hv;subst hv;exact jab _ _ _ _ _ rfl
  | 1=>simp at hv;subst hv;exact jab _ _ _ _ _ rfl
  | j+2=>simp at hv
 | 1 =>
  simp at hx;subst hx;refine ⟨[r,t],⟨r,t,rfl,kp b1,kp b2⟩,fun j v hv=>?_⟩
  match j with
  | 0=>simp at hv;subst hv;exact jab _ _ _ _ _ rfl
  | 1=>simp at hv;subst hv;exact jab _ _ _ _ _ rfl
  | j+2=>simp at hv
 | i+2=>simp at hx
structure AskSt (w wr:World) (c ck:Nat→Nat) (g n:Nat) (σ:StoreD) (x:SessD) (R:List ByteArray) (vd vt vg vr:Value) (vs:List Value) (vl:Value) (N:Nat):Prop where
 st:StoreC wr ck g (jaq σ n { x with read:=R }) vs vl
 sc:SessC wr ck n { x with read:=R } vd vt vg vr
 sl:∀ j v,(jpv { x with read:=R } vd vt vg vr)[j]? = some v→vs[1+n*7+j]? = some v
 old:∀ b,b<N→ck b=c b
 fr:Fr c w wr
 size:N≤wr.heap.size
theorem AskSt.cell {w wr:World} {c ck:Nat→Nat} {g n N:Nat} {σ:StoreD} {x:SessD} {R:List ByteArray} {vd vt vg vr vl:Value} {vs:List Value} (h:AskSt w wr c ck g n σ x R vd vt vg vr vs vl N) {j:Nat} {v:Value} (hj:(jpv { x with read:=R } vd vt vg vr)[j]? = some v):wr.cell? ⟨g,1+n*7+j,none⟩=some v∧wr.frozen? ⟨g,1+n*7+j,none⟩=false :=
 ⟨h.st.cs.2.1 _ v (h.sl j v hj),h.st.cs.2.2 _ (by have:=(List.getElem?_eq_some_iff.1 (h.sl j v hj)).1;exact this)⟩
theorem AskSt.read {w wr w4:World} {c ck:Nat→Nat} {g n N:Nat} {σ:StoreD} {x:SessD} {R R':List ByteArray} {vd vt vg vr vl v4:Value} {vs:List Value} (h:AskSt w wr c ck g n σ x R vd vt vg vr vs vl N) (hn:n<4) (hw:w.heap.size≤N) (hO:OwnT w4 0 v4 R') (hg:wr.grownBy w4 vr.ownBlock) (hm:jed wr vr v4) (hI:Inv (jaq σ n { x with read:=R' })) :
  ∃ c',AskSt w (w4.setCell ⟨g,1+n*7+6,none⟩ v4) c c' g n σ x R' vd vt vg v4 (vs.set (1+n*7+6) v4) vl N:=by
 have e:jaq (jaq σ n { x with read:=R }) n { x with read:=R' } = jaq σ n { x with read:=R' }:=by unfold jaq;simp
 obtain ⟨c',h1,h2,_,h4,h5,h6⟩:=h.st.readS (read':=R') hn h.sc h.sl hO hg hm (by rw [e];exact hI);rw [e] at h1;refine ⟨c',h1,h5,h6,fun b hb=>(h2 b (by have:=h.size;omega)).trans (h.old b hb),h.fr.trans h4 (fun b hb=>h.old b (by omega)),?_⟩;have:=h4.size
 have:=h.size
 omega
theorem AskSt.next {w wr w':World} {c ck:Nat→Nat} {g n N:Nat} {σ:StoreD} {x:SessD} {R:List ByteArray} {vd vt vg vr vl:Value} {vs:List Value} (h:AskSt w wr c ck g n σ x R vd vt vg vr vs vl N) (hb:Below wr.heap.size wr w'):AskSt w w' c ck g n σ x R vd vt vg vr vs vl N :=
 ⟨h.st.next hb,h.sc.keep fun b hb'=>⟨hb.block b (h.st.lt b (by omega)),rfl⟩,h.sl,h.old,h.fr.trans (Fr.below (c:=c) hb) (fun _ _=>rfl),Nat.le_trans h.size hb.size⟩
theorem AskSt.block {w wr:World} {c ck:Nat→Nat} {g n N:Nat} {σ:StoreD} {x:SessD} {R:List ByteArray} {vd vt vg vr vl:Value} {vs:List Value} (h:AskSt w wr c ck g n σ x R vd vt vg vr vs vl N) {w4:World} {v4:Value} (hg:wr.grownBy w4 vr.ownBlock) {b:Nat} (hb:b<N) (h0:c b=0):(w4.setCell ⟨g,1+n*7+6,none⟩ v4).heap[b]? = wr.heap[b]?:=by
 have hc:=(h.old b hb).trans h0;have hbg:b≠g:=fun e=>by rw [e,h.st.col] at hc;omega
 rw [RowKit.Below.heap_setCell _ _ _ _ hbg,hg.block b (by have:=h.size;omega) (fun e=>by have:=h.sc.readC b e.symm;omega)]
theorem ypi {σ:StoreD} (h:Inv σ) {n:Nat} {x:SessD} {R:List ByteArray} (hI:SessOk σ.last σ.acts { x with read:=R }):Inv (jaq σ n { x with read:=R }):=h.set hI
theorem ypj {last acts k:Nat} {x:SessD} {m:List ByteArray} (h:SessOk last acts x) (hk:x.read.length+m.length≤1000*acts):SessOk last acts { x with read:=jay x.read (m.take k) } where
 mine:=h.mine
 gone:=h.gone
 read:=jen h.read
 frm:=h.frm
 ds:=h.ds
 ts:=h.ts
 gs:=h.gs
 rs:=by
  have h1:=@jds (m.take k) x.read;have h2:(m.take k).length≤m.length:=(List.take_sublist _ _).length_le
  show (jay x.read (m.take k)).length≤_
  omega
theorem ym1 (σ:StoreD) (c:Nat→Nat) (g n:Nat) (vs:List Value) (vl:Value) (x:SessD) (l:List Int) (vin:Value) (w:World) (h:StoreC w c g σ vs vl) (hx:σ.sess[n]? = some x) (hin:Sl Enc.int w (fun b=>b<w.heap.size∧c b=0) l vin) (hrs:x.read.length+1000≤1000 * σ.acts) (hI:Inv (jaq σ n (jpi σ x l).1)) :
  Calls Tryz.prog 73 #[.pointer (some ⟨g,0,none⟩),.pointer (some ⟨g,1+n*7,none⟩),vin] w (jam w c g (jaq σ n (jpi σ x l).1,(jpi σ x l).2)):=by
 have hSO:=h.inv.sess x (List.mem_of_getElem? hx);have hacts:=h.inv.acts;obtain ⟨vd,vt,vg,vr,hC,hn,hL,hcell⟩:=h.sessAt hx;have HH:=hid h;have HC:=hid hC;have HL:=hid hL;have HSK:=hid hSO;have hgw:g<w.heap.size:=h.cs.1;have HME:=hid hSO.mine;have hds:=hSO.ds;have hts:=hSO.ts;have hfrm:=hSO.frm;have HCL:=hid h.lt;have HSX:=hid (jm7 hx);have HSO:=hid (yms h.inv hSO.mine);have hvl:=jn7 h.inv x.frm;have hsl:=jtq (σ.ver x.frm) x.mine x.gone;have hnm:=jqd (σ.ver x.frm) (jfu σ x);change (jgw [σ.ver x.frm,jfu σ x]).length≤_+((jf0 (σ.ver x.frm) x.mine x.gone).doms.length+(jf0 (σ.ver x.frm) x.mine x.gone).tabs.length) at hnm;have HNL:Hid (([σ.ver x.frm,jfu σ x].flatMap jdp).length≤500000):=by
  show _≤_
  have e:([σ.ver x.frm,jfu σ x].flatMap jdp).length=(σ.ver x.frm).doms.length+(σ.ver x.frm).tabs.length+((jf0 (σ.ver x.frm) x.mine x.gone).doms.length+(jf0 (σ.ver x.frm) x.mine x.gone).tabs.length):=by simp [jdp,jfu];omega
  omega
 have HNM:Hid ((jgw [σ.ver x.frm,jfu σ x]).length≤500):=by show _≤_;omega
 have HA0:Hid (jpi σ x l=({ x with read:=if x.strict then jbg (jay x.read (jgw [σ.ver x.frm,jfu σ x])) noS else jay x.read (jgw [σ.ver x.frm,jfu σ x]) },⟨(askV (jfu σ x) l).2,0,noS,(askV (jfu σ x) l).1,[]⟩)):=rfl;have HIN:=hid hin;clear hsl hnm hvl;generalize jpi σ x l=PV at *;obtain ⟨Ad,cd,rfl,-,-⟩:=hC.doms.form;obtain ⟨At,ct,rfl,-,-⟩:=hC.tabs.form;obtain ⟨Ag,cg,rfl,-,-,-⟩:=jah hC.gone;obtain ⟨Ah,ch,rfl,-,-,-⟩:=jah hC.read;obtain ⟨Ai,ci,rfl,-,-⟩:=hin.form;have hb0:=jac w (.cells #[.int .i64 0,.int .i64 0,.string ⟨#[]⟩,.slice none 0 0,.slice none 0 0] 30);have C0:=hid (Cs.new w zeroRL 30);have hz0:(w.alloc (.cells #[.int .i64 0,.int .i64 0,.string ⟨#[]⟩,.slice none 0 0,.slice none 0 0] 30)).heap.size=w.heap.size+1:=by simp
 change Hid (Cs (w.alloc (.cells #[.int .i64 0,.int .i64 0,.string ⟨#[]⟩,.slice none 0 0,.slice none 0 0] 30)) _ _) at C0;generalize hw0:w.alloc (.cells #[.int .i64 0,.int .i64 0,.string ⟨#[]⟩,.slice none 0 0,.slice none 0 0] 30)=w0 at *;have H0:=hid (HH.out.next hb0);have HX0:Hid (jhb w0 (Cd c) x _):=HC.out.at.keepS (fun k hk=>hb0.block k (HCL.out k hk));have hk0:=fun j v (hv:(jpv x (.slice Ad x.mine.doms.length cd) (.slice At x.mine.tabs.length ct) (.slice Ag x.gone.length cg) (.slice Ah x.read.length ch))[j]? = some v)=>(hb0.cell (p:=⟨g,1+n*7+j,none⟩) hgw).trans (hcell j v hv).1;have i0:=hk0 0 _ rfl;have i1:=hk0 1 _ rfl;have i2:=hk0 2 _ rfl;have i3:=hk0 3 _ rfl;have i4:=hk0 4 _ rfl;have i5:=hk0 5 _ rfl;have i6:=hk0 6 _ rfl;rw [Nat.add_zero] at i0;have hc0:c w.heap.size=0:=jb1 HCL.out (Nat.le_refl _);clear hC hL h hSO hx hin hk0;go_enter Tryz.func73,Tryz.ntmps73
 go_wp2_with fail
 clear hw0 i0 i1 i2 i3 i4 i5 i6;refine (jxy σ c g vs vl x _ _ H0.out HX0.out HME.out hfrm ⟨by omega,by omega⟩).mono ?_;rintro e w1 ⟨u1,rfl,hu1,hb1⟩;have HU1:=hid hu1;obtain ⟨ud,ut,rfl,s1,s2⟩:=hu1;obtain ⟨Aq,cq,rfl,-,-⟩:=s1.form;obtain ⟨Bq,dq,rfl,-,-⟩:=s2.form;clear s1 s2;have hb01:=bx hb0 hb1;have hs1:=hb1.size;generalize hSV:jfu σ x=SV at *;have hbz:=jac w1 (.cells #[.slice Aq SV.doms.length cq,.slice Bq SV.tabs.length dq] 38);have D2:=hid (Cs.new w1 [.slice Aq SV.doms.length cq,.slice Bq SV.tabs.length dq] 38);change Hid (Cs (w1.alloc (.cells #[.slice Aq SV.doms.length cq,.slice Bq SV.tabs.length dq] 38)) _ _) at D2;have hz2:(w1.alloc (.cells #[.slice Aq SV.doms.length cq,.slice Bq SV.tabs.length dq] 38)).heap.size=w1.heap.size+1:=by simp
 have hb02:=bx hb01 hbz;have C2:=hid ((C0.out.next hb1).next hbz);have HU2:Hid (jar (w1.alloc (.cells #[.slice Aq SV.doms.length cq,.slice Bq SV.tabs.length dq] 38)) (From w0.heap.size w1) SV (.agg #[.slice Aq SV.doms.length cq,.slice Bq SV.tabs.length dq])):=HU1.out.keepS (fun k hk=>hbz.block k hk.2);go_wp2_with fail
 generalize hw2:w1.alloc (.cells #[.slice Aq SV.doms.length cq,.slice Bq SV.tabs.length dq] 38)=w2 at *;have H2d:Hid (StoreC w2.drew c g σ vs vl):=(HH.out.next hb02).keep (w':=w2.drew) (fun _ _=>rfl) (Nat.le_refl _);have j2:w2.drew.cell? ⟨g,1+n*7+2,none⟩=some (.int .i64 x.frm):=(hb02.cell (p:=⟨g,1+n*7+2,none⟩) hgw).trans (hcell 2 _ rfl).1;have q0:w2.drew.cell? ⟨w1.heap.size,0,none⟩=some (.slice Aq SV.doms.length cq):=D2.out.at 0 rfl;have q1:w2.drew.cell? ⟨w1.heap.size,1,none⟩=some (.slice Bq SV.tabs.length dq):=D2.out.at 1 rfl;clear hw2 hcell;go_region_law (first
  | (go_simp;go_at_call 47;refine (jgs σ c g vs vl _ H2d.out x.frm hfrm).mono ?_;rintro e w3 ⟨td,tt,rfl,hu3,hb3'⟩;have hb3:Below w2.heap.size w2 w3:=jcw hb3';have HU3:Hid (jar w3 (Im c) (σ.ver x.frm) (.agg #[td,tt])):=hu3;obtain ⟨qd,qt,eq,s1,s2⟩:=hu3;injection eq with eq;injection eq with eq;injection eq with eq1 eq2;injection eq2 with eq2 _;subst eq1 eq2;obtain ⟨A3,c3,rfl,-,-⟩:=s1.form;obtain ⟨B3,d3,rfl,-,-⟩:=s2.form;clear s1 s2 hb3';have D3:=hid (D2.out.next hb3);have p0:=D3.out.at 0 rfl;have p1:=D3.out.at 1 rfl;have hb03:=bx hb02 hb3;have hs3:=hb3.size;have hS3:∀ k,(Im c k∨From w0.heap.size w1 k)→k<w3.heap.size:=fun k hk=>by { rcases hk with hk | hk;{ have:=HCL.out k (by rw [show c k=11 from hk];decide);omega };{ have:=hk.2;omega } };have HSL:=hid (ycs 38 (HU3.out.moreS (S':=fun k=>Im c k∨From w0.heap.size w1 k) (fun _ hk=>.inl hk)) ((HU2.out.keepS (w':=w3) (fun k hk=>hb3.block k (by have:=hk.2;omega))).moreS (S':=fun k=>Im c k∨From w0.heap.size w1 k) (fun _ hk=>.inr hk)) hS3))
  | (go_simp;go_at_call 116;refine (jvi [σ.ver x.frm,SV] _ _ _ HSL.out (fun _ hk=>hk) HNL.out).mono ?_;rintro e w5 ⟨v5,rfl,ho5,hb5⟩;have HO5:=hid ho5;obtain ⟨A5,c5,rfl,-,-,-⟩:=jah ho5;clear ho5))
 all_goals
  have hb4:=jac w3 (.cells #[.slice A3 (σ.ver x.frm).doms.length c3,.slice B3 (σ.ver x.frm).tabs.length d3,.slice Aq SV.doms.length cq,.slice Bq SV.tabs.length dq] 38);have hb35:=bx hb4 hb5;have hb25:=bx hb3 hb35;have hb05:=bx hb02 hb25;have hs25:=hb25.size;have D5:=hid (D2.out.next hb25);have C5:=hid (C2.out.next hb25);have HU5:Hid (jar w5 (From w0.heap.size w1) SV (.agg #[.slice Aq SV.doms.length cq,.slice Bq SV.tabs.length dq])):=HU2.out.keepS (fun k hk=>hb25.block k (by have:=hk.2;omega));have HST0:Hid (AskSt w w5 c c g n σ x x.read (.slice Ad x.mine.doms.length cd) (.slice At x.mine.tabs.length ct) (.slice Ag x.gone.length cg) (.slice Ah x.read.length ch) vs vl w5.heap.size):=⟨by have:=HH.out.next hb05;rw [← HSX.out] at this;exact this,HC.out.keep (fun b hb=>⟨hb05.block b (HCL.out b (by omega)),rfl⟩),HL.out,fun _ _=>rfl,Fr.below hb05,Nat.le_refl _⟩;have hs4:=hb4.size;have HOL:Hid (∀ k,(Value.slice A5 (jgw [σ.ver x.frm,SV]).length c5).ownBlock=some k→w.heap.size≤k∧k<w5.heap.size):=fun k hk=>by have:=HO5.out.lt k hk;exact ⟨by omega,this.2⟩
  generalize hNM:jgw [σ.ver x.frm,SV]=NM at *;clear p0 p1 q0 q1 j2;go_wp2;go_loopw [27] (fun i wr=>∃ (k:Nat) (ck:Nat→Nat) (vk:Value) (sk:List Value),k≤NM.length∧i = .int .i64 k∧Hid (AskSt w wr c ck g n σ x (jay x.read (NM.take k)) (.slice Ad x.mine.doms.length cd) (.slice At x.mine.tabs.length ct) (.slice Ag x.gone.length cg) vk sk vl w5.heap.size)∧Hid (∀ b,b<w5.heap.size→c b=0→wr.heap[b]? = w5.heap[b]?)) (fun i _=>NM.length-(intOf i).toNat)
  case atStart=>exact ⟨0,c,_,vs,Nat.zero_le _,rfl,HST0,fun _ _ _=>rfl⟩
  case round =>
   clear HST0;obtain ⟨k,ck,vk,sk,hk,rfl,HST,HBK⟩:=hrel;have hnm:=HNM.out;obtain ⟨Ak,kk,ek,-,-,-⟩:=jah HST.out.sc.read;subst ek;by_cases hlt:k<NM.length
   ·have hOW:OwnT wr (w3.alloc (.cells #[.slice A3 (σ.ver x.frm).doms.length c3,.slice B3 (σ.ver x.frm).tabs.length d3,.slice Aq SV.doms.length cq,.slice Bq SV.tabs.length dq] 38)).heap.size (.slice A5 NM.length c5) NM:=HO5.out.keep (fun b hb=>HBK.out b (HOL.out b hb).2 (jb1 HCL.out (HOL.out b hb).1));obtain ⟨bb,o,s,rfl,_,hs,d1⟩:=(hOW.sl (S:=fun _=>True) (fun _ _=>trivial)).str_at hlt;have g6:=(HST.out.cell (j:=6) rfl).1;have z6:=(HST.out.cell (j:=6) rfl).2;have hrl:(jay x.read (NM.take k)).length≤1000000:=by
     have h1:=@jds (NM.take k) x.read;have h2:(NM.take k).length≤NM.length:=(List.take_sublist _ _).length_le;omega
    have hri:Hid (jo2 (jay x.read (NM.take k))=true):=jen HSK.out.read;have HNX:Hid (jay x.read (NM.take (k+1))=jbg (jay x.read (NM.take k)) s):=by show _=_;rw [jai hs.out,jk9]
    have HI':Hid (Inv (jaq σ n { x with read:=jbg (jay x.read (NM.take k)) s })):=by
     show Inv _
     rw [← HNX.out];exact ypi HH.out.inv (ypj HSK.out (by omega))
    generalize hRK:jay x.read (NM.take k)=RK at *;go_wp2_with fail
    refine (jep RK _ s _ 0 HST.out.sc.read hri.out hrl (Nat.zero_le _)).mono ?_;rintro e w6 ⟨v6,rfl,ho6,hg6,hm6⟩;have hgg:some g≠(Value.slice Ak RK.length kk).ownBlock:=fun e=>by have:=HST.out.sc.readC g e.symm;rw [HST.out.st.col] at this;omega
    have hgr:g<wr.heap.size:=HST.out.st.cs.1;have k6:=(World.cell?_of_block (a:=⟨g,1+n*7+6,none⟩) (hg6.block g hgr hgg)).trans g6;have y6:=(World.frozen?_of_block (a:=⟨g,1+n*7+6,none⟩) (hg6.block g hgr hgg)).trans z6;obtain ⟨c',HN⟩:=HST.out.read hn (by omega) ho6 hg6 hm6 HI'.out;have HN':=hid HN;have HB':Hid (∀ b,b<w5.heap.size→c b=0→(w6.setCell ⟨g,1+n*7+6,none⟩ v6).heap[b]? = w5.heap[b]?):=fun b hb h0=>(HST.out.block hg6 hb h0).trans (HBK.out b hb h0);obtain ⟨A6,c6,e6,-,-,-⟩:=jah ho6;subst e6;clear ho6 hg6 hm6 HN g6 z6;go_wp2;refine ⟨⟨k+1,c',.slice A6 (jbg RK s).length c6,sk.set (1+n*7+6) (.slice A6 (jbg RK s).length c6),by omega,by go_num,?_,HB'⟩,by simp [intOf];omega⟩;rw [HNX.out];exact HN'
   ·obtain rfl:k=NM.length:=by omega
    rw [List.take_of_length_le (Nat.le_refl _)] at HST;have g1:=(HST.out.cell (j:=1) rfl).1;have hrl:(jay x.read NM).length≤1000000:=by
     have h1:=@jds NM x.read;omega
    have hri:Hid (jo2 (jay x.read NM)=true):=jen HSK.out.read;cases hst:x.strict
    ·have HE:Hid (PV=({ x with read:=jay x.read NM },⟨(askV SV l).2,0,noS,(askV SV l).1,[]⟩)):=by show _=_;rw [HA0.out,hst];rfl
     rw [hst] at g1;have DF:=hid (D5.out.keep (w':=wr) (HBK.out _ D5.out.1 (jb1 HCL.out (by omega))) (by have:=HST.out.size;omega));have CF:=hid (C5.out.keep (w':=wr) (HBK.out _ C5.out.1 hc0) (by have:=HST.out.size;omega));have HUF:Hid (jar wr (Old wr) SV (.agg #[.slice Aq SV.doms.length cq,.slice Bq SV.tabs.length dq])):=(HU5.out.keepS (w':=wr) (fun k hk=>HBK.out k (by have:=hk.2;omega) (jb1 HCL.out (by have:=hk.1;omega)))).moreS (fun k hk=>by have:=hk.2;have:=HST.out.size;show k<_;omega);have HIF:Hid (Sl Enc.int wr (Old wr) l (.slice Ai l.length ci)):=(HIN.out.keep (w':=wr) (fun p hp=>World.cell?_of_block ((HBK.out _ (by have:=hp.1;omega) hp.2).trans (hb05.block _ hp.1)))).more (fun k hk=>by have:=hk.1;have:=HST.out.size;show k<_;omega);have e0:=DF.out.at 0 rfl;have e1:=DF.out.at 1 rfl;go_wp2_with fail
     clear e0 e1;refine (jmg SV l _ _ _ HUF.out HIF.out (jh6 HSO.out)).mono ?_;rintro e w8 ⟨v8,rfl,hn8,hb8⟩;have HN8:=hid hn8;obtain ⟨A8,c8,rfl,-,-⟩:=hn8.form;have HST8:=hid (HST.out.next hb8);have C8:=hid (CF.out.next hb8);have hs8:=hb8.size;have hsw:=HST.out.size;have hck:∀ b,ck b≠0→b<(wr).heap.size:=HST.out.st.lt;have r0:=C8.out.at 0 rfl;have r1:=C8.out.at 1 rfl;have r2:=C8.out.at 2 rfl;have r3:=C8.out.at 3 rfl;have r4:=C8.out.at 4 rfl;have f0:=C8.out.2.2 0 (by simp);have f1:=C8.out.2.2 1 (by simp);have f2:=C8.out.2.2 2 (by simp);have f3:=C8.out.2.2 3 (by simp);have f4:=C8.out.2.2 4 (by simp);generalize hAV:askV SV l=AV at *;clear hn8;go_wp2
     (try simp only [Exit.inBlock,Exit.then])
     refine bodyPost_ret (jaz (b:=w.heap.size) rfl rfl (jbs C8.out _ _ _ _ _)) rfl ?_;rw [HE.out];refine jam.wrote HST8.out.st (fun b hb=>HST8.out.old b (by omega)) (Nat.le_refl _) ((HST8.out.old _ (by omega)).trans hc0) HST8.out.fr ⟨_,_,rfl,?_,Sl.nil⟩;refine (HN8.out.keep fun p hp=>World.cell?_of_block (jhm _ _ _ _ _ _ _ _ (by have:=hp.1;omega))).more fun q hq=>⟨by have:=hq.1;omega,by rw [jl8];exact hq.2,?_⟩;exact jb1 hck hq.1
    ·have HE:Hid (PV=({ x with read:=jbg (jay x.read NM) noS },⟨(askV SV l).2,0,noS,(askV SV l).1,[]⟩)):=by show _=_;rw [HA0.out,hst];rfl
     rw [hst] at g1;have g6:=(HST.out.cell (j:=6) rfl).1;have z6:=(HST.out.cell (j:=6) rfl).2;have HI':Hid (Inv (jaq σ n { x with read:=jbg (jay x.read NM) noS })):=by
      show Inv _
      rw [HE.out] at hI;exact hI
     generalize hRK:jay x.read NM=RK at *;go_wp2_with fail
     refine (jep RK _ noS _ 0 HST.out.sc.read hri.out hrl (Nat.zero_le _)).mono ?_;rintro e w6 ⟨v6,rfl,ho6,hg6,hm6⟩;have hgg:some g≠(Value.slice Ak RK.length kk).ownBlock:=fun e=>by have:=HST.out.sc.readC g e.symm;rw [HST.out.st.col] at this;omega
     have hgr:g<wr.heap.size:=HST.out.st.cs.1;have k6:=(World.cell?_of_block (a:=⟨g,1+n*7+6,none⟩) (hg6.block g hgr hgg)).trans g6;have y6:=(World.frozen?_of_block (a:=⟨g,1+n*7+6,none⟩) (hg6.block g hgr hgg)).trans z6;obtain ⟨c',HN⟩:=HST.out.read hn (by omega) ho6 hg6 hm6 HI'.out;have HB':Hid (∀ b,b<w5.heap.size→c b=0→(w6.setCell ⟨g,1+n*7+6,none⟩ v6).heap[b]? = w5.heap[b]?):=fun b hb h0=>(HST.out.block hg6 hb h0).trans (HBK.out b hb h0);obtain ⟨A6,c6,e6,-,-,-⟩:=jah ho6;subst e6;clear ho6 hg6 hm6 HBK HST;have HST:=hid HN;have HBK:=HB';clear HN g6 z6 HB';have DG:=hid (D5.out.keep (HBK.out _ D5.out.1 (jb1 HCL.out (by omega))) (by have:=HST.out.size;omega));have d0:=DG.out.at 0 rfl;have d1:=DG.out.at 1 rfl;go_wp2_with fail
     generalize hw7:w6.setCell ⟨g,1+n*7+6,none⟩ (.slice A6 (jbg RK noS).length c6)=w7 at *;clear hw7 d0 d1;have DF:=hid (D5.out.keep (w':=w7) (HBK.out _ D5.out.1 (jb1 HCL.out (by omega))) (by have:=HST.out.size;omega));have CF:=hid (C5.out.keep (w':=w7) (HBK.out _ C5.out.1 hc0) (by have:=HST.out.size;omega));have HUF:Hid (jar w7 (Old w7) SV (.agg #[.slice Aq SV.doms.length cq,.slice Bq SV.tabs.length dq])):=(HU5.out.keepS (w':=w7) (fun k hk=>HBK.out k (by have:=hk.2;omega) (jb1 HCL.out (by have:=hk.1;omega)))).moreS (fun k hk=>by have:=hk.2;have:=HST.out.size;show k<_;omega);have HIF:Hid (Sl Enc.int w7 (Old w7) l (.slice Ai l.length ci)):=(HIN.out.keep (w':=w7) (fun p hp=>World.cell?_of_block ((HBK.out _ (by have:=hp.1;omega) hp.2).trans (hb05.block _ hp.1)))).more (fun k hk=>by have:=hk.1;have:=HST.out.size;show k<_;omega);have e0:=DF.out.at 0 rfl;have e1:=DF.out.at 1 rfl;clear e0 e1;refine (jmg SV l _ _ _ HUF.out HIF.out (jh6 HSO.out)).mono ?_;rintro e w8 ⟨v8,rfl,hn8,hb8⟩;have HN8:=hid hn8;obtain ⟨A8,c8,rfl,-,-⟩:=hn8.form;have HST8:=hid (HST.out.next hb8);have C8:=hid (CF.out.next hb8);have hs8:=hb8.size;have hsw:=HST.out.size;have hck:∀ b,c' b≠0→b<(w7).heap.size:=HST.out.st.lt;have r0:=C8.out.at 0 rfl;have r1:=C8.out.at 1 rfl;have r2:=C8.out.at 2 rfl;have r3:=C8.out.at 3 rfl;have r4:=C8.out.at 4 rfl;have f0:=C8.out.2.2 0 (by simp);have f1:=C8.out.2.2 1 (by simp);have f2:=C8.out.2.2 2 (by simp);have f3:=C8.out.2.2 3 (by simp);have f4:=C8.out.2.2 4 (by simp);generalize hAV:askV SV l=AV at *;clear hn8;go_wp2
     (try simp only [Exit.inBlock,Exit.then])
     refine bodyPost_ret (jaz (b:=w.heap.size) rfl rfl (jbs C8.out _ _ _ _ _)) rfl ?_;rw [HE.out];refine jam.wrote HST8.out.st (fun b hb=>HST8.out.old b (by omega)) (Nat.le_refl _) ((HST8.out.old _ (by omega)).trans hc0) HST8.out.fr ⟨_,_,rfl,?_,Sl.nil⟩;refine (HN8.out.keep fun p hp=>World.cell?_of_block (jhm _ _ _ _ _ _ _ _ (by have:=hp.1;omega))).more fun q hq=>⟨by have:=hq.1;omega,by rw [jl8];exact hq.2,?_⟩;exact jb1 hck hq.1
open Go.Lib (hid)
open Go.RowKit Go.Shelf
theorem jzr (x:SessD) (v:Value) (s:ByteArray) (w:World) (S:Nat→Prop) (h:jhb w S x v) (hS:∀ k,S k→k<w.heap.size) :
  Calls Tryz.prog 157 #[v,.string s] w fun e w'=>e = .returned (.bool (jh1 x s))∧Below w.heap.size w w':=by
 have HE:Hid (jh1 x s=(hasN x.gone s || (x.strict && (hasN x.read s || hasN x.read noS)))):=rfl;generalize jh1 x s=R at *;obtain ⟨vd,vt,vg,vr,rfl,y1,y2,y3,y4⟩:=h;have YG:=hid y3;have YR:=hid y4;have HS:=hid hS;obtain ⟨Ad,cd,rfl,-,-⟩:=y1.form;obtain ⟨At,ct,rfl,-,-⟩:=y2.form;obtain ⟨Ag,cg,rfl,-,-⟩:=y3.form;obtain ⟨Ah,ch,rfl,-,-⟩:=y4.form;clear y1 y2 y3 y4 hS;have hb0:=jac w (.cells #[.bool x.opn,.bool x.strict,.int .i64 x.frm,.slice Ad x.mine.doms.length cd,.slice At x.mine.tabs.length ct,.slice Ag x.gone.length cg,.slice Ah x.read.length ch] 41);have C0:=hid (Cs.new w [.bool x.opn,.bool x.strict,.int .i64 x.frm,.slice Ad x.mine.doms.length cd,.slice At x.mine.tabs.length ct,.slice Ag x.gone.length cg,.slice Ah x.read.length ch] 41);change Hid (Cs (w.alloc (.cells #[.bool x.opn,.bool x.strict,.int .i64 x.frm,.slice Ad x.mine.doms.length cd,.slice At x.mine.tabs.length ct,.slice Ag x.gone.length cg,.slice Ah x.read.length ch] 41)) _ _) at C0;generalize hw0:w.alloc (.cells #[.bool x.opn,.bool x.strict,.int .i64 x.frm,.slice Ad x.mine.doms.length cd,.slice At x.mine.tabs.length ct,.slice Ag x.gone.length cg,.slice Ah x.read.length ch] 41)=w0 at *;have k1:=C0.out.at 1 rfl;have k5:=C0.out.at 5 rfl;have k6:=C0.out.at 6 rfl;have keep:Hid (∀ {l:List ByteArray} {v:Value} (w':World),Below w.heap.size w w'→Sl Enc.str w S l v→Sl Enc.str w' (Old w') l v):=fun w' hb h=>(h.keep fun p hp=>hb.cell (HS.out _ hp)).more fun k hk=>by have:=HS.out k hk;have:=hb.size;show k<_;omega
 go_enter Tryz.func157,Tryz.ntmps157
 go_wp2_with fail
 clear hw0;refine (jib x.gone _ s _ (keep.out w0 hb0 YG.out)).mono ?_;have e1:x.gone.any (jap s)=hasN x.gone s:=rfl;rw [e1];rintro e w1 ⟨rfl,hb1⟩;have hb01:=bx hb0 hb1;have C1:=hid (C0.out.next hb1);have j1:=C1.out.at 1 rfl;have j6:=C1.out.at 6 rfl;cases hg:hasN x.gone s
 ·cases hst:x.strict
  ·have HR:Hid (R=false):=by show _=_;rw [HE.out,hg,hst];rfl
   rw [hst] at j1;clear hg HE;go_wp2;go_ret;exact ⟨jad HR.out.symm,hb01⟩
  ·rw [hst] at j1;go_wp2_with fail
   refine (jib x.read _ s _ (keep.out w1 hb01 YR.out)).mono ?_;have e2:x.read.any (jap s)=hasN x.read s:=rfl;rw [e2];rintro e w2 ⟨rfl,hb2⟩;have hb02:=bx hb01 hb2;have C2:=hid (C1.out.next hb2);have i6:=C2.out.at 6 rfl;cases hr:hasN x.read s
   ·have HR:Hid (R=hasN x.read noS):=by show _=_;rw [HE.out,hg,hst,hr];simp
    clear hg HE hr;go_wp2_with fail
    refine (jib x.read _ noS _ (keep.out w2 hb02 YR.out)).mono ?_;have e3:x.read.any (jap noS)=hasN x.read noS:=rfl;rw [e3];rintro e w3 ⟨rfl,hb3⟩;generalize hasN x.read noS=B at *;cases B
    ·go_wp2;go_ret;exact ⟨jad HR.out.symm,bx hb02 hb3⟩
    ·go_wp2;go_ret;exact ⟨jad HR.out.symm,bx hb02 hb3⟩
   ·have HR:Hid (R=true):=by show _=_;rw [HE.out,hg,hst,hr];rfl
    clear hg HE hr;go_wp2;go_ret;exact ⟨jad HR.out.symm,hb02⟩
 ·have HR:Hid (R=true):=by show _=_;rw [HE.out,hg];rfl
  clear hg HE;go_wp2;go_ret;exact ⟨jad HR.out.symm,hb01⟩
def chK (σ:StoreD) (frm k:Nat):List ByteArray:=(List.range k).flatMap fun i=>jjs (σ.ver (frm+i)) (σ.ver (frm+i+1))
theorem yfa (σ:StoreD) (frm k:Nat):chK σ frm (k+1)=chK σ frm k ++ jjs (σ.ver (frm+k)) (σ.ver (frm+k+1)):=by
 unfold chK;rw [List.range_succ,List.flatMap_append];simp
theorem yjo {σ:StoreD} (h:Inv σ) (frm:Nat):∀ k,(chK σ frm k).length≤16*k
 | 0=>by simp [chK]
 | k+1=>by
  have h1:=yjo h frm k;have h2:(jjs (σ.ver (frm+k)) (σ.ver (frm+k+1))).length≤16:=by
   have a:=jqd (σ.ver (frm+k)) (σ.ver (frm+k+1));have b:=jn7 h (frm+k);have d:=jn7 h (frm+k+1);have e:=List.length_filter_le (fun s=>decide (jb2 (σ.ver (frm+k)) s≠jb2 (σ.ver (frm+k+1)) s)) (jgw [σ.ver (frm+k),σ.ver (frm+k+1)]);unfold jjs;omega
  rw [yfa,List.length_append];omega
theorem jzq (σ:StoreD) (c:Nat→Nat) (g:Nat) (vs:List Value) (vl:Value) (w:World) (h:StoreC w c g σ vs vl) (hv:VarsOk w) (frm:Nat) (hf:frm ≤ σ.last) :
  Calls Tryz.prog 156 #[.pointer (some ⟨g,0,none⟩),.int .i64 frm] w fun e w'=>∃ v',e = .returned v'∧OwnT w' w.heap.size v' (jk1 σ frm)∧Below w.heap.size w w':=by
 have HH:=hid h;have HV:=hid hv;have HCL:=hid h.lt;have hlast:σ.last≤39:=h.inv.some_;have HVO:=hid (jq4 h.inv);have HVL:=hid (jn7 h.inv);have HCK:=hid (yjo h.inv frm);have HE:Hid (jk1 σ frm=jay [] (chK σ frm (σ.last-frm))):=rfl;generalize jk1 σ frm=R at *;clear h hv;go_enter Tryz.func156,Tryz.ntmps156
 go_wp2;go_loopw [5,6] (fun u i wr=>∃ k:Nat,frm+k ≤ σ.last∧i = .int .i64 ((frm+k:Nat):Int)∧Hid (OwnT wr w.heap.size u (jay [] (chK σ frm k)))∧Below w.heap.size w wr) (fun _ i _=>σ.last-(intOf i).toNat)
 case atStart=>exact ⟨0,by omega,by go_num,OwnT.nil,Below.refl _ _⟩
 case round =>
  obtain ⟨k,hk,rfl,HO,hbl⟩:=hrel;have Hr:=hid (HH.out.next hbl);generalize hLL:σ.last=L at *;have HLS:Hid (∀ W,StoreC W c g σ vs vl→Calls Tryz.prog 45 #[.pointer (some ⟨g,0,none⟩)] W fun e w'=>e = .returned (.int .i64 L)∧w'=W):=fun W hW=>by have:=jgr σ c g vs vl W hW;rw [hLL] at this;exact this
  go_wp2_with fail
  refine (HLS.out _ Hr.out).mono ?_;rintro e w0 ⟨rfl,rfl⟩;by_cases hlt:frm+k<L
  ·have hcmp:((frm+k:Nat):Int)<(L:Int):=by omega
   obtain ⟨MM,hMM⟩:∃ MM:Int,MM=((frm+k+1:Nat):Int):=⟨_,rfl⟩;have hwn:IntKind.i64.wrap (((frm+k:Nat):Int)+1)=MM:=by rw [IntKind.wrap_i64,hMM];omega
   have hNp:(0:Int)≤((frm+k:Nat):Int):=by omega
   have HMM:=hid hMM;clear hMM;generalize hNN:((frm+k:Nat):Int)=NN at *;have HNN:=hid hNN;clear hNN;have HVER:Hid (∀ (W:World) (N:Int) (m:Nat),N=(m:Int)→m≤L→StoreC W c g σ vs vl→Calls Tryz.prog 47 #[.pointer (some ⟨g,0,none⟩),.int .i64 N] W fun e w'=>∃ vd vt,e = .returned (.agg #[vd,vt])∧jar w' (Im c) (σ.ver m) (.agg #[vd,vt])∧Below W.heap.size W w'):=fun W N m hN hm hW=>by subst hN;exact jgs σ c g vs vl W hW m (by omega)
   go_wp2_with fail
   refine (HVER.out _ _ (frm+k) HNN.out.symm (by omega) Hr.out).mono ?_;rintro e w1 ⟨ud,ut,rfl,hu1,hb1⟩;have HU1:=hid hu1;obtain ⟨qd,qt,eq,s1,s2⟩:=hu1;injection eq with eq;injection eq with eq;injection eq with eq1 eq2;injection eq2 with eq2 _;subst eq1 eq2;obtain ⟨A1,c1,rfl,-,-⟩:=s1.form;obtain ⟨B1,d1,rfl,-,-⟩:=s2.form;clear s1 s2;have hb01:=bx hbl hb1;have H1:=hid (HH.out.next hb01);go_wp2_with fail
   refine (HVER.out _ _ (frm+k+1) HMM.out (by omega) H1.out).mono ?_;rintro e w2 ⟨vd2,vt2,rfl,hu2,hb2⟩;have HU2:=hid hu2;obtain ⟨qd,qt,eq,s1,s2⟩:=hu2;injection eq with eq;injection eq with eq;injection eq with eq1 eq2;injection eq2 with eq2 _;subst eq1 eq2;obtain ⟨A2,c2,rfl,-,-⟩:=s1.form;obtain ⟨B2,d2,rfl,-,-⟩:=s2.form;clear s1 s2;have hb02:=bx hb01 hb2;have hC11:∀ k,Im c k→k<w2.heap.size:=fun k hk=>by have:=HCL.out k (by rw [show c k=11 from hk];decide);have:=hb02.size;omega
   have HU1':Hid (jar w2 (Im c) (σ.ver (frm+k)) _):=HU1.out.keepS (w':=w2) (fun q hq=>hb2.block q (by have:=HCL.out q (by rw [show c q=11 from hq];decide);have:=hb01.size;omega));have VA:=hid (HVO.out (frm+k));have VB:=hid (HVO.out (frm+k+1));have vla:=HVL.out (frm+k);have vlb:=HVL.out (frm+k+1);have HNX:Hid (chK σ frm (k+1)=chK σ frm k ++ jjs (σ.ver (frm+k)) (σ.ver (frm+k+1))):=yfa σ frm k;have hpre:=HCK.out k;generalize hva:σ.ver (frm+k)=va at *;generalize hvb:σ.ver (frm+k+1)=vb at *;have hb3:=jac w2 (.cells #[.slice A1 va.doms.length c1,.slice B1 va.tabs.length d1] 38);have D3:=hid (Cs.new w2 [.slice A1 va.doms.length c1,.slice B1 va.tabs.length d1] 38);have hz3:(w2.alloc (.cells #[.slice A1 va.doms.length c1,.slice B1 va.tabs.length d1] 38)).heap.size=w2.heap.size+1:=by simp
   change Hid (Cs (w2.alloc (.cells #[.slice A1 va.doms.length c1,.slice B1 va.tabs.length d1] 38)) _ _) at D3;have hb4:=jac (w2.alloc (.cells #[.slice A1 va.doms.length c1,.slice B1 va.tabs.length d1] 38)) (.cells #[.slice A2 vb.doms.length c2,.slice B2 vb.tabs.length d2] 38);have D4:=hid (Cs.new (w2.alloc (.cells #[.slice A1 va.doms.length c1,.slice B1 va.tabs.length d1] 38)) [.slice A2 vb.doms.length c2,.slice B2 vb.tabs.length d2] 38);have hz4:((w2.alloc (.cells #[.slice A1 va.doms.length c1,.slice B1 va.tabs.length d1] 38)).alloc (.cells #[.slice A2 vb.doms.length c2,.slice B2 vb.tabs.length d2] 38)).heap.size=w2.heap.size+2:=by simp
   change Hid (Cs ((w2.alloc (.cells #[.slice A1 va.doms.length c1,.slice B1 va.tabs.length d1] 38)).alloc (.cells #[.slice A2 vb.doms.length c2,.slice B2 vb.tabs.length d2] 38)) _ _) at D4;rw [hz3] at D4;have D34:=hid (D3.out.next hb4);have hb24:=bx hb3 hb4;have a0:=D34.out.at 0 rfl;have a1:=D34.out.at 1 rfl;have b0:=D4.out.at 0 rfl;have b1:=D4.out.at 1 rfl;go_wp2_with fail
   generalize hw4:((w2.alloc (.cells #[.slice A1 va.doms.length c1,.slice B1 va.tabs.length d1] 38)).alloc (.cells #[.slice A2 vb.doms.length c2,.slice B2 vb.tabs.length d2] 38))=w4 at *;clear hb3 hb4;have hb04:=bx hb02 hb24;have BA4:Hid (jar w4 (Im c) va _):=HU1'.out.keepS (w':=w4) (fun q hq=>hb24.block q (hC11 q hq));have BB4:Hid (jar w4 (Im c) vb _):=HU2.out.keepS (w':=w4) (fun q hq=>hb24.block q (hC11 q hq));have hC4:∀ k,Im c k→k<w4.heap.size:=fun k hk=>by have:=hC11 k hk;omega
   have hsl:=ycs 38 BA4.out BB4.out hC4;rw [hz4] at hsl;have HSL:=hid hsl;clear hsl;have hb5:=jac w4 (.cells #[.slice A1 va.doms.length c1,.slice B1 va.tabs.length d1,.slice A2 vb.doms.length c2,.slice B2 vb.tabs.length d2] 38);clear hw4;refine (jvi [va,vb] _ _ _ HSL.out (fun _ hk=>hk) (by simp [jdp];omega)).mono ?_;rintro e w6 ⟨v6,rfl,ho6,hb6⟩;have HO6:=hid ho6;obtain ⟨A6,c6,rfl,-,-,-⟩:=jah ho6;have hb46:=bx hb5 hb6;have hb06:=bx hb04 hb46;have hnl:(jgw [va,vb]).length≤16:=by have:=jqd va vb;omega
   have HCH:Hid (jjs va vb=(jgw [va,vb]).filter fun s=>decide (jb2 va s≠jb2 vb s)):=rfl;generalize hNM:jgw [va,vb]=NM at *;have D36:=hid (D34.out.next hb46);have D46:=hid (D4.out.next hb46);have HOp:Hid (OwnT w6 w.heap.size u5 (jay [] (chK σ frm k))):=HO.out.keep (fun q hq=>(bx (bx hb1 hb2) (bx hb24 hb46)).block q (HO.out.lt q hq).2);have HOL:Hid (∀ q,u5.ownBlock=some q→q<w2.heap.size):=fun q hq=>by have:=(HO.out.lt q hq).2;have:=hb1.size;have:=hb2.size;omega
   have HL6:Hid (∀ q,(Value.slice A6 NM.length c6).ownBlock=some q→w4.heap.size<q∧q<w6.heap.size):=fun q hq=>by have:=HO6.out.lt q hq;simp at this;exact ⟨by omega,this.2⟩
   generalize hPK:chK σ frm k=PK at *;have hs46:=hb46.size;clear ho6 a0 a1 b0 b1;go_wp2;go_loopw [5,30] (fun u i wr=>∃ j:Nat,j≤NM.length∧i = .int .i64 j∧Hid (OwnT wr w.heap.size u (jay [] (PK ++ (NM.take j).filter fun s=>decide (jb2 va s≠jb2 vb s))))∧Hid (∀ q,u.ownBlock=some q→q<w2.heap.size∨w6.heap.size≤q)∧Below w.heap.size w wr∧Hid (∀ q,w2.heap.size≤q→q<w6.heap.size→wr.heap[q]? = w6.heap[q]?)∧w6.heap.size≤wr.heap.size) (fun _ i _=>NM.length-(intOf i).toNat)
   case atStart=>exact ⟨0,Nat.zero_le _,rfl,by simpa using HOp,fun q hq=>.inl (HOL.out q hq),hb06,fun _ _ _=>rfl,Nat.le_refl _⟩
   case round =>
    clear HOp HOL;obtain ⟨j,hj,rfl,HOj,HLj,hbj,HKj,hsj⟩:=hrel;by_cases hjl:j<NM.length
    ·have hOW:OwnT wr (w4.alloc (.cells #[.slice A1 va.doms.length c1,.slice B1 va.tabs.length d1,.slice A2 vb.doms.length c2,.slice B2 vb.tabs.length d2] 38)).heap.size (.slice A6 NM.length c6) NM:=HO6.out.keep (fun b hb=>HKj.out b (by have:=(HL6.out b hb).1;omega) (HL6.out b hb).2);obtain ⟨bb,o,s,rfl,_,hs,e1⟩:=(hOW.sl (S:=fun _=>True) (fun _ _=>trivial)).str_at hjl;have E3:=hid (D36.out.keep (HKj.out _ (Nat.le_refl _) D36.out.1) hsj);have E4:=hid (D46.out.keep (HKj.out _ (by omega) D46.out.1) hsj);have hCI:∀ q,Im c q→wr.heap[q]? = w2.heap[q]?:=fun q hq=>by
      have hqw:=HCL.out q (by rw [show c q=11 from hq];decide);rw [hbj.block q hqw,hb02.block q hqw]
     have hCr:∀ q,Im c q→q<wr.heap.size:=fun q hq=>by have:=HCL.out q (by rw [show c q=11 from hq];decide);have:=hbj.size;omega
     have BAr:Hid (jar wr (Old wr) va (.agg #[.slice A1 va.doms.length c1,.slice B1 va.tabs.length d1])):=(HU1'.out.keepS (w':=wr) hCI).moreS hCr;have BBr:Hid (jar wr (Old wr) vb (.agg #[.slice A2 vb.doms.length c2,.slice B2 vb.tabs.length d2])):=(HU2.out.keepS (w':=wr) hCI).moreS hCr;have HVr:=hid (HV.out.next hbj);have X0:wr.drew.cell? ⟨w2.heap.size,0,none⟩=some (.slice A1 va.doms.length c1)∧wr.drew.cell? ⟨w2.heap.size,1,none⟩=some (.slice B1 va.tabs.length d1)∧wr.drew.cell? ⟨w2.heap.size+1,0,none⟩=some (.slice A2 vb.doms.length c2)∧wr.drew.cell? ⟨w2.heap.size+1,1,none⟩=some (.slice B2 vb.tabs.length d2):=⟨E3.out.at 0 rfl,E3.out.at 1 rfl,E4.out.at 0 rfl,E4.out.at 1 rfl⟩;have BArd:Hid (jar wr.drew (Old wr.drew) va (.agg #[.slice A1 va.doms.length c1,.slice B1 va.tabs.length d1])):=(BAr.out.keepS (w':=wr.drew) (fun _ _=>rfl)).moreS (fun _ hk=>hk);have HVrd:Hid (VarsOk wr.drew):=HVr.out.next (w':=wr.drew) ((Below.refl _ _).drew);have HFT:=hid (jcr (p:=fun s=>decide (jb2 va s≠jb2 vb s)) hs.out);have hrl:(jay [] (PK ++ (NM.take j).filter fun s=>decide (jb2 va s≠jb2 vb s))).length≤1000000:=by
      have h1:=@jds (PK ++ (NM.take j).filter fun s=>decide (jb2 va s≠jb2 vb s)) [];have h2:(NM.take j).length≤NM.length:=(List.take_sublist _ _).length_le;have h3:=List.length_filter_le (fun s=>decide (jb2 va s≠jb2 vb s)) (NM.take j);simp only [List.length_append,List.length_nil] at h1;omega
     have hri:Hid (jo2 (jay [] (PK ++ (NM.take j).filter fun s=>decide (jb2 va s≠jb2 vb s)))=true):=jen rfl;have HSM:=hid (jk9 [] (PK ++ (NM.take j).filter fun s=>decide (jb2 va s≠jb2 vb s)) s);have hwr:=hbj.size;have E3l:=D36.out.1;have E4l:=D46.out.1;go_wp2_with fail
     have x0:=X0.1;have x1:=X0.2.1;have y0:=X0.2.2.1;have y1:=X0.2.2.2;clear X0;go_region_law (first
      | (go_simp;have qq:=BArd.out;clear BArd;go_at_call 30;refine (jne va s (.agg #[.slice A1 va.doms.length c1,.slice B1 va.tabs.length d1]) wr.drew qq (jh6 VA.out) HVrd.out).mono ?_;clear qq;rintro e7 w7 ⟨rfl,hb7'⟩;have hb7:Below wr.heap.size wr w7:=jcw hb7';have x2:=(hb7.cell (p:=⟨w2.heap.size,0,none⟩) (by show w2.heap.size<_;omega)).trans x0;have x3:=(hb7.cell (p:=⟨w2.heap.size,1,none⟩) (by show w2.heap.size<_;omega)).trans x1;have y2:=(hb7.cell (p:=⟨w2.heap.size+1,0,none⟩) (by show w2.heap.size+1<_;omega)).trans y0;have y3:=(hb7.cell (p:=⟨w2.heap.size+1,1,none⟩) (by show w2.heap.size+1<_;omega)).trans y1;have BB7:=hid (BBr.out.onOld hb7);have HV7:=hid (HVr.out.next hb7);have hs7:=hb7.size;clear hb7')
      | (go_simp;go_at_call 30;refine (jne vb s (.agg #[.slice A2 vb.doms.length c2,.slice B2 vb.tabs.length d2]) w7 BB7.out (jh6 VB.out) HV7.out).mono ?_;rintro e8 w8 ⟨rfl,hb8⟩))
     all_goals clear x0 x1 x2 x3 y0 y1 y2 y3
     all_goals
      have hb78:=bx hb7 hb8;have hbj8:=bx hbj hb78;have hs78:=hb78.size;have HOj8:Hid (OwnT w8 w.heap.size u5 (jay [] (PK ++ (NM.take j).filter fun s=>decide (jb2 va s≠jb2 vb s)))):=HOj.out.keep (fun q hq=>hb78.block q (HOj.out.lt q hq).2);have HKj8:Hid (∀ q,w2.heap.size≤q→q<w6.heap.size→w8.heap[q]? = w6.heap[q]?):=fun q h1 h2=>(hb78.block q (by omega)).trans (HKj.out q h1 h2);have hltj:=HOj8.out.lt;by_cases hd:jb2 va s=jb2 vb s
      ·have HT':Hid ((NM.take (j+1)).filter (fun s=>decide (jb2 va s≠jb2 vb s))=(NM.take j).filter fun s=>decide (jb2 va s≠jb2 vb s)):=by show _=_;rw [HFT.out];simp [hd]
       have hq3:(!((bs (jb2 va s)).toList == (bs (jb2 vb s)).toList))=false:=by rw [hd];simp
       rw [hq3];clear hd hq3 HFT;go_wp2;refine ⟨⟨j+1,by omega,by go_num,?_,HLj,hbj8,HKj8,by omega⟩,by simp [intOf];omega⟩;rw [HT'.out];exact HOj8
      ·have HT':Hid ((NM.take (j+1)).filter (fun s=>decide (jb2 va s≠jb2 vb s))=((NM.take j).filter fun s=>decide (jb2 va s≠jb2 vb s)) ++ [s]):=by show _=_;rw [HFT.out];simp [hd]
       have hq3:(!((bs (jb2 va s)).toList == (bs (jb2 vb s)).toList))=true:=by
        have hne:¬ (bs (jb2 va s)).toList=(bs (jb2 vb s)).toList:=fun e=>hd (by rw [ByteArray.toList_eq,ByteArray.toList_eq,jdb,jdb] at e;exact e);have hq1:((bs (jb2 va s)).toList == (bs (jb2 vb s)).toList)=false:=by rw [beq_eq_false_iff_ne];exact hne
        rw [hq1];rfl
       rw [hq3];clear hd hq3 HFT;generalize hFL:PK ++ ((NM.take j).filter fun s=>decide (jb2 va s≠jb2 vb s))=FL at *;have HFL:=hid hFL;clear hFL;go_wp2_with fail
       refine (jep (jay [] FL) _ s _ w.heap.size HOj8.out hri.out hrl (by have:=hbj8.size;omega)).mono ?_;rintro e w9 ⟨v9,rfl,ho9,hg9,hm9⟩;have HO9:=hid ho9;have hs9:=hg9.size;have HL9:Hid (∀ q,v9.ownBlock=some q→q<w2.heap.size∨w6.heap.size≤q):=fun q hq=>by
        rcases hm9 q hq with h | h
        ·exact HLj.out q h
        ·exact .inr (by omega)
       have hb9:Below w.heap.size w w9:=hbj8.trans (jag hg9 (by have:=hbj8.size;omega) (fun q hq=>(hltj q hq).1));have HK9:Hid (∀ q,w2.heap.size≤q→q<w6.heap.size→w9.heap[q]? = w6.heap[q]?):=fun q h1 h2=>(hg9.block q (by omega) (fun e=>by have:=HLj.out q e.symm;omega)).trans (HKj8.out q h1 h2);clear ho9 hg9 hm9;go_wp2;refine ⟨⟨j+1,by omega,by go_num,?_,HL9,hb9,HK9,by omega⟩,by simp [intOf];omega⟩;rw [HT'.out,← List.append_assoc,HFL.out,HSM.out];exact HO9
    ·obtain rfl:j=NM.length:=by omega
     rw [List.take_of_length_le (Nat.le_refl _),← HCH.out] at HOj;have HOK:Hid (OwnT wr w.heap.size u5 (jay [] (chK σ frm (k+1)))):=by
      show OwnT _ _ _ _
      rw [HNX.out];exact HOj.out
     have hnn:=HNN.out;have hmm:=HMM.out;go_wp2;refine ⟨⟨k+1,by omega,?_,HOK,hbj⟩,?_⟩
     ·first | go_num | (congr 1;omega)
     ·simp [intOf];omega
  ·obtain rfl:L=frm+k:=by omega
   have hcmp:¬ ((frm+k:Nat):Int)<((frm+k:Nat):Int):=by omega
   have hek:frm+k-frm=k:=by omega
   rw [hek] at HE;go_wp2;go_ret;rw [HE.out];exact ⟨_,rfl,HO.out,hbl⟩
open Go.Lib (hid)
open Go.RowKit Go.Shelf
theorem jv6 (σ:StoreD) (c:Nat→Nat) (g:Nat) (vs:List Value) (vl:Value) (x:SessD) (v:Value) (w:World) (S:Nat→Prop) (h:StoreC w c g σ vs vl) (hv:VarsOk w) (hx:jhb w S x v) (hS:∀ k,S k→k<w.heap.size) (hf:x.frm ≤ σ.last) :
  Calls Tryz.prog 117 #[.pointer (some ⟨g,0,none⟩),v] w fun e w'=>e = .returned (.tuple #[.string ((jh0 σ x).getD noS),.bool (jh0 σ x).isSome])∧Below w.heap.size w w':=by
 have HH:=hid h;have HX:=hid hx;have HS:=hid hS;have HV:=hid hv;have HE:Hid (jh0 σ x=(jk1 σ x.frm).find? (jh1 x)):=rfl;generalize jh0 σ x=R at *;obtain ⟨vd,vt,vg,vr,rfl,y1,y2,y3,y4⟩:=hx;obtain ⟨Ad,cd,rfl,-,-⟩:=y1.form;obtain ⟨At,ct,rfl,-,-⟩:=y2.form;obtain ⟨Ag,cg,rfl,-,-⟩:=y3.form;obtain ⟨Ah,ch,rfl,-,-⟩:=y4.form;clear y1 y2 y3 y4 hS h hv;have hb0:=jac w (.cells #[.bool x.opn,.bool x.strict,.int .i64 x.frm,.slice Ad x.mine.doms.length cd,.slice At x.mine.tabs.length ct,.slice Ag x.gone.length cg,.slice Ah x.read.length ch] 41);have C0:=hid (Cs.new w [.bool x.opn,.bool x.strict,.int .i64 x.frm,.slice Ad x.mine.doms.length cd,.slice At x.mine.tabs.length ct,.slice Ag x.gone.length cg,.slice Ah x.read.length ch] 41);have hz0:(w.alloc (.cells #[.bool x.opn,.bool x.strict,.int .i64 x.frm,.slice Ad x.mine.doms.length cd,.slice At x.mine.tabs.length ct,.slice Ag x.gone.length cg,.slice Ah x.read.length ch] 41)).heap.size=w.heap.size+1:=by simp
 change Hid (Cs (w.alloc (.cells #[.bool x.opn,.bool x.strict,.int .i64 x.frm,.slice Ad x.mine.doms.length cd,.slice At x.mine.tabs.length ct,.slice Ag x.gone.length cg,.slice Ah x.read.length ch] 41)) _ _) at C0;generalize hw0:w.alloc (.cells #[.bool x.opn,.bool x.strict,.int .i64 x.frm,.slice Ad x.mine.doms.length cd,.slice At x.mine.tabs.length ct,.slice Ag x.gone.length cg,.slice Ah x.read.length ch] 41)=w0 at *;have k2:=C0.out.at 2 rfl;have H0:=hid (HH.out.next hb0);have HV0:=hid (HV.out.next hb0);go_enter Tryz.func117,Tryz.ntmps117
 go_wp2_with fail
 clear hw0 k2;refine (jzq σ c g vs vl _ H0.out HV0.out x.frm hf).mono ?_;rintro e w1 ⟨v1,rfl,ho1,hb1⟩;have HO1:=hid ho1;obtain ⟨A1,c1,rfl,hd1,hd2,-⟩:=jah ho1;unfold maxLen at hd2;have hb01:=bx hb0 hb1;have C1:=hid (C0.out.next hb1);generalize hCH:jk1 σ x.frm=CH at *;clear ho1;go_wp2;go_loopw [13] (fun i wr=>∃ k:Nat,k≤CH.length∧i = .int .i64 k∧Hid ((CH.take k).find? (jh1 x)=none)∧Below w1.heap.size w1 wr) (fun i _=>CH.length-(intOf i).toNat)
 case atStart=>exact ⟨0,Nat.zero_le _,rfl,rfl,Below.refl _ _⟩
 case round =>
  obtain ⟨k,hk,rfl,HF,hbl⟩:=hrel;have hb0r:=bx hb01 hbl;by_cases hlt:k<CH.length
  ·have hOW:OwnT wr w0.heap.size (.slice A1 CH.length c1) CH:=HO1.out.keep (fun b hb=>hbl.block b (HO1.out.lt b hb).2);obtain ⟨bb,o,s,rfl,_,hs,d1⟩:=(hOW.sl (S:=fun _=>True) (fun _ _=>trivial)).str_at hlt;have CB:=hid (C1.out.next hbl);have i0:=CB.out.at 0 rfl;have i1:=CB.out.at 1 rfl;have i2:=CB.out.at 2 rfl;have i3:=CB.out.at 3 rfl;have i4:=CB.out.at 4 rfl;have i5:=CB.out.at 5 rfl;have i6:=CB.out.at 6 rfl;have HXr:=hid (HX.out.keepS (w':=wr) (fun k hk=>hb0r.block k (HS.out k hk)));go_wp2_with fail
   refine (jzr x _ s _ S HXr.out (fun k hk=>by have:=HS.out k hk;have:=hb0r.size;omega)).mono ?_;rintro e w2 ⟨rfl,hb2⟩;have hbl2:=bx hbl hb2;cases hq:jh1 x s
   ·have HN:=hid (jf3 HF.out hs.out hq);clear hq;go_wp2;exact ⟨⟨k+1,by omega,by go_num,HN,hbl2⟩,by simp [intOf];omega⟩
   ·have HR:Hid (R=some s):=by show _=_;rw [HE.out];exact jlk HF.out hs.out hq
    clear hq HE;go_wp2;go_ret2;rw [HR.out];exact ⟨rfl,bx hb01 hbl2⟩
  ·obtain rfl:k=CH.length:=by omega
   rw [List.take_of_length_le (Nat.le_refl _)] at HF;have HR:Hid (R=none):=by show _=_;rw [HE.out];exact HF.out
   clear HE;go_wp2;go_ret2;rw [HR.out];exact ⟨rfl,hb0r⟩
open Go.Lib (hid)
open Go.RowKit Go.Shelf
theorem jzn {α:Type} {E:Enc α} {P:Program} {ops:Array Oper} {o:Oper} {a:Act} {w:World} {K:Act→World→Prop} {Q:Exit→Act→World→Prop} {X:Prop}
  (hg:o.guard=none) (s x:Operand) (t:TypeId) (ho:o.op=Op.call { callee:=Callee.builtin Builtin.append,args:=#[s,x],argTypes:=#[t,t] })
  (base:Nat) (S:Nat→Prop) (e:TypeId) (bytes:Nat) (z:Value) (ht:P.underlying t=some (.slice e)) (hinfo:(P.info? e).map (fun i=>(i.zero,i.size,i.bytes))=some (some z,E.size,bytes)) (hzs:z.cells.size=E.size) (hsz:0<E.size)
  (v:Value) (l:List α) (hs:a.eval s=v) (hown:OwnS E w base S e v l)
  (ad:Addr) (y:α) (cs:List Value) (hx:a.eval x = .slice (some ad) 1 1) (hy:E.rd w S y cs) (hnews:∀ j u,cs[j]? = some u→w.cell? (ad.add j)=some u) (hS:∀ k,S k→k<w.heap.size∧v.ownBlock≠some k)
  (hbytes:(l.length+1)*bytes≤140737488355328) (h63:l.length+1≤maxLen) (hbase:base≤w.heap.size)
  (h:∀ v' w',OwnS E w' base S e v' (l ++ [y])→w.grownBy w' v.ownBlock→jed w v v'→K (a.put o.dst v') w') :
  if Region.wanted o (yielded ops a.tmps)=true then Oper.wp P o a w K Q else X:=by
 have hw:Region.wanted o (yielded ops a.tmps)=true:=by simp [Region.wanted,hg]
 rw [if_pos hw];obtain ⟨us,h1,h2⟩:=hown;obtain ⟨v',w',hr,ho',hg',hmv⟩:=jia (P:=P) w base t o.type e E.size bytes z ht hinfo hzs hsz v l.length us h1 ad 1 1 cs (by rw [E.len hy];omega) hnews (E.one hy) h63 hbytes hbase;unfold Oper.wp execOp;simp only [ho,resolve,invoke,builtin,Sem.run_bind,Sem.run_pure,Result.andThen_ok,List.map_toArray,List.map_cons,List.map_nil,hs,hx,hr];refine h v' w' ⟨us ++ cs,by rw [List.length_append];exact ho',?_⟩ hg' hmv;exact ((h2.append (jb9.one hy) h1.1).keep (w':=w') fun p hp=>World.cell?_of_block (hg'.block _ (hS _ hp).1 fun e=>(hS _ hp).2 e.symm))
theorem StoreC.committed {w w5 w6:World} {c:Nat→Nat} {g lo:Nat} {σ:StoreD} {vs:List Value} {vl v6:Value} {b:BookD} {S:Nat→Prop} (h:StoreC w c g σ vs vl) (hlo:w.heap.size≤lo) (hlo2:lo≤w5.heap.size) (hb5:Below w.heap.size w w5)
  (hS:∀ k,S k→Im c k∨(lo≤k∧k<w5.heap.size)) (hO:OwnS Enc.book w6 0 S 38 v6 (σ.later ++ [b])) (hg:w5.grownBy w6 vl.ownBlock) (hm:jed w5 vl v6) (hI:Inv ⟨σ.later ++ [b],σ.sess,σ.acts⟩) :
  ∃ c',StoreC (w6.setCell ⟨g,0,none⟩ v6) c' g ⟨σ.later ++ [b],σ.sess,σ.acts⟩ (vs.set 0 v6) v6∧(∀ k,k<lo→c' k=c k)∧Fr c w (w6.setCell ⟨g,0,none⟩ v6):=by
 have hgl:g<w.heap.size:=h.cs.1;have hgC:∀ b,c b≠1→b≠g:=fun b hb e=>hb (by rw [e];exact h.col);have hz5:=hb5.size;have hz6:=hg.size;have hvl:∀ b,vl.ownBlock=some b→c b=2:=h.rowC;have hgv:vl.ownBlock≠some g:=fun e=>by have:=hvl g e;rw [h.col] at this;omega
 have h7:∀ b,b≠g→(w6.setCell ⟨g,0,none⟩ v6).heap[b]? = w6.heap[b]?:=fun b hb=>RowKit.Below.heap_setCell _ _ _ _ hb;have hz7:(w6.setCell ⟨g,0,none⟩ v6).heap.size=w6.heap.size:=by simp [World.setCell]
 have hlen:=h.len;have hcw:∀ b,c b≠0→b<w.heap.size:=h.lt;have hvb:∀ b,v6.ownBlock=some b→(b<w.heap.size∧c b=2)∨w5.heap.size≤b:=fun b hb=>by
  rcases hm b hb with e | e
  ·exact .inl ⟨hcw b (by rw [hvl b e];decide),hvl b e⟩
  ·exact .inr e
 let c':Nat→Nat:=fun b=>if v6.ownBlock=some b then 2 else jf9 c lo w5.heap.size 11 b
 have hpc:∀ b,v6.ownBlock≠some b→c' b=jf9 c lo w5.heap.size 11 b:=fun b hb=>if_neg hb;have hpv:∀ b,v6.ownBlock=some b→c' b=2:=fun b hb=>if_pos hb;have hold:∀ b,b<lo→c' b=c b:=fun b hb=>by
  by_cases e:v6.ownBlock=some b
  ·rw [hpv b e];rcases hvb b e with h | h
   ·exact h.2.symm
   ·omega
  ·rw [hpc b e];exact ju2 hb
 have hkeep:∀ b,c b≠0→c b≠1→c b≠2→(w6.setCell ⟨g,0,none⟩ v6).heap[b]? = w.heap[b]? ∧ c' b=c b:=fun b h0 h1 h2=>by
  have hb:=hcw b h0;exact ⟨(h7 b (hgC b h1)).trans ((hg.block b (by omega) (fun e=>h2 (hvl b e.symm))).trans (hb5.block b hb)),hold b (by omega)⟩
 have hnew:∀ b,lo≤b→b<w5.heap.size→c' b=11∧b≠g:=fun b h1 h2=>by
  refine ⟨?_,by omega⟩;rw [hpc b (fun e=>by rcases hvb b e with h | h <;> omega)];exact yb5 h1 h2
 have hS11:∀ b,S b→c' b=11∧b≠g:=fun b hb=>by
  rcases hS b hb with hb | hb
  ·have e:c b=11:=hb;exact ⟨((hkeep b (by omega) (by omega) (by omega)).2).trans e,hgC b (by omega)⟩
  ·exact hnew b hb.1 hb.2
 refine ⟨c',?_,hold,?_⟩
 ·exact
  {cs:=((h.cs.next hb5).grownO hg hgv).set 0 (by omega) _
   len:=by simp [hlen]
   col:=by rw [hold g (by omega)];exact h.col
   lt:=fun b hb=>by
    rw [hz7];by_cases e:v6.ownBlock=some b
    ·exact (hO.lt b e).2
    ·rw [hpc b e] at hb;unfold jf9 at hb;split at hb
     ·omega
     ·have:=hcw b hb;omega
   row:=(hO.keep (fun k hk=>h7 k (fun e=>by
     rcases hvb k hk with h' | h'
     ·rw [e,h.col] at h';omega
     ·omega)) (fun k hk=>h7 k (hS11 k hk).2)).more fun k hk=>(hS11 k hk).1
   rowC:=fun b hb=>hpv b hb
   v0:=by rw [List.getElem?_set_self (by omega)]
   sess:=fun n x hx=>by
    have hx':σ.sess[n]? = some x:=hx;have hn:n<4:=by have:=(List.getElem?_eq_some_iff.1 hx').1;have:=h.inv.four;omega
    obtain ⟨vd,vt,vg,vr,h1,h2⟩:=h.sess n x hx;refine ⟨vd,vt,vg,vr,h1.keep fun b hb=>hkeep b (by omega) (by omega) (by omega),fun j v hj=>?_⟩;rw [List.getElem?_set_ne (by omega)];exact h2 j v hj
   acts:=by rw [List.getElem?_set_ne (by decide)];exact h.acts
   inv:=hI
   one:=fun b hb=>by
    by_cases e:v6.ownBlock=some b
    ·rw [hpv b e] at hb;omega
    ·rw [hpc b e] at hb;unfold jf9 at hb;split at hb
     ·omega
     ·exact h.one b hb }
 ·refine ⟨?_,?_,?_,by omega,fun b hb h0=>?_⟩
  ·show w6.os=_;rw [hg.os];exact hb5.os
  ·show w6.tape=_;rw [hg.tape];exact hb5.tape
  ·show w6.output=_;rw [hg.output];exact hb5.output
  ·have hbg:b≠g:=fun e=>by rw [e,h.col] at h0;omega
   rw [h7 b hbg,hg.block b (by omega) (fun e=>by have:=hvl b e.symm;omega),hb5.block b hb]
open Go.Lib (hid)
open Go.RowKit Go.Shelf
theorem ye5:Tryz.prog.underlying 32=some (.slice 38):=by kernel_rfl
theorem yjh:(Tryz.prog.info? 38).map (fun i=>(i.zero,i.size,i.bytes))=some (some (.agg #[.slice none 0 0,.slice none 0 0]),2,48):=by kernel_rfl
theorem jwn (w:World) (x y:Value) (e:Nat):∀ j q,[x,y][j]? = some q→(w.alloc (.cells #[x,y] e)).cell? ((⟨w.heap.size,0,none⟩:Addr).add j)=some q:=by
 intro j q hq;rw [Addr.add_lit,Nat.zero_add];exact jab _ _ _ _ _ (by simpa using hq)
structure Boxed (w3 w6:World) (q lo hi:Nat) (V:BookD) (x y:Value):Prop where
 cells:Cs w6 q [x,y]
 below:Below w3.heap.size w3 w6
 book:jar w6 (fun k=>lo≤k∧k<hi) V (.agg #[x,y])
 at_:w3.heap.size≤q∧q<w6.heap.size
 off:q<lo∨hi≤q
 lo_:w3.heap.size≤lo
 hi_:hi≤w6.heap.size
theorem Boxed.put {w3 w5:World} {q lo:Nat} {V:BookD} {a1 a2 x y:Value} (hz:Cs w5 q [a1,a2]) (hb:Below w3.heap.size w3 w5) (hq:w3.heap.size≤q) (hU:jar w5 (From lo w5) V (.agg #[x,y])) (hql:q<lo) (hq5:q<w5.heap.size) :
  Boxed w3 ((w5.setCell ⟨q,0,none⟩ x).setCell ⟨q,1,none⟩ y) q lo w5.heap.size V x y:=by
 have h2:Below q w5 ((w5.setCell ⟨q,0,none⟩ x).setCell ⟨q,1,none⟩ y):=(jal ..).trans (jal ..);have hs:((w5.setCell ⟨q,0,none⟩ x).setCell ⟨q,1,none⟩ y).heap.size=w5.heap.size:=by simp [World.setCell]
 have hne:∀ k,k≠q→((w5.setCell ⟨q,0,none⟩ x).setCell ⟨q,1,none⟩ y).heap[k]? = w5.heap[k]?:=fun k hk=>by
  rw [RowKit.Below.heap_setCell _ _ _ _ hk,RowKit.Below.heap_setCell _ _ _ _ hk]
 exact ⟨(hz.set 0 (by simp) x).set 1 (by simp) y,⟨h2.os.trans hb.os,h2.tape.trans hb.tape,h2.output.trans hb.output,Nat.le_trans hb.size h2.size,fun k hk=>(h2.block k (by omega)).trans (hb.block k hk)⟩,
  jar.keepS hU (fun k hk=>hne k (by have:=hk.1;omega)),⟨hq,by omega⟩,Or.inl hql,by omega,by omega⟩
theorem Boxed.new {w3 w5:World} {lo:Nat} {V:BookD} {x y:Value} (e:Nat) (hb:Below w3.heap.size w3 w5) (hU:jar w5 (From lo w5) V (.agg #[x,y])) (hl:w3.heap.size≤lo) :
  Boxed w3 (w5.alloc (.cells #[x,y] e)) w5.heap.size lo w5.heap.size V x y:=by
 have h:=jac w5 (.cells #[x,y] e);have hs:(w5.alloc (.cells #[x,y] e)).heap.size=w5.heap.size+1:=by simp
 exact ⟨Cs.new w5 [x,y] e,bx hb h,jar.keepS hU (fun k hk=>h.block k hk.2),⟨hb.size,by omega⟩,Or.inr (Nat.le_refl _),hl,by omega⟩
end Go.Proofs.YthmlndmlnlfhnaaGreatDoor
