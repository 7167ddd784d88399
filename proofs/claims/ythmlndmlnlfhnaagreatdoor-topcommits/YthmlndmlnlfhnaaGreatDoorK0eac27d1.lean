import Derived.Test.YthmlndmlnlfhnaaGreatDoorK1a2ce33c
set_option maxRecDepth 100000
set_option maxHeartbeats 16000000
namespace Go.Proofs.YthmlndmlnlfhnaaGreatDoor
open Go.RowKit Go.Shelf
def yt7 (W:World) (c:Nat→Nat) (wb xb:Nat):Nat→Prop:=fun b=>b<W.heap.size∧c b=0∧b≠wb∧b≠xb
def SesX (W:World) (S:Nat→Prop) (n:Nat) (x:SessD) (xs:List Value):Prop :=
 ∃ vd vt vg vr,Sl Enc.dom W S x.mine.doms vd∧Sl Enc.tab W S x.mine.tabs vt∧Sl Enc.str W S x.gone vg∧Sl Enc.str W S x.read vr∧∀ j v,(jpv x vd vt vg vr)[j]? = some v→xs[n*7+j]? = some v
structure CmSt (w0 W:World) (c:Nat→Nat) (wb xb:Nat) (B:List BookD) (X:Nat→SessD) (vw:Value) (xs:List Value):Prop where
 cw:Cs W wb [vw]
 cx:Cs W xb xs
 len:xs.length=28
 ne:wb≠xb
 cwb:c wb=0
 cxb:c xb=0
 bw:w0.heap.size≤wb
 bx':w0.heap.size≤xb
 was:Sl Enc.book W (yt7 W c wb xb) B vw
 ses:∀ n,n<4→SesX W (yt7 W c wb xb) n (X n) xs
theorem SesX.keep {W W':World} {S S':Nat→Prop} {n:Nat} {x:SessD} {xs:List Value} (h:SesX W S n x xs) (hk:∀ b,S b→W'.heap[b]? = W.heap[b]?) (hS:∀ b,S b→S' b):SesX W' S' n x xs:=by
 obtain ⟨vd,vt,vg,vr,h1,h2,h3,h4,h5⟩:=h
 have k:∀ p:Addr,S p.block→W'.cell? p=W.cell? p:=fun p hp=>World.cell?_of_block (hk _ hp)
 exact ⟨vd,vt,vg,vr,(h1.keep k).more hS,(h2.keep k).more hS,(h3.keep k).more hS,(h4.keep k).more hS,h5⟩
theorem CmSt.keep {w0 W W':World} {c c':Nat→Nat} {wb xb:Nat} {B:List BookD} {X:Nat→SessD} {vw:Value} {xs:List Value} (h:CmSt w0 W c wb xb B X vw xs) (hF:Fr c W W') (hc:∀ b,b<W.heap.size→c' b=c b):CmSt w0 W' c' wb xb B X vw xs where
 cw:=h.cw.keep (hF.block _ h.cw.1 h.cwb) hF.size
 cx:=h.cx.keep (hF.block _ h.cx.1 h.cxb) hF.size
 len:=h.len
 ne:=h.ne
 cwb:=(hc _ h.cw.1).trans h.cwb
 cxb:=(hc _ h.cx.1).trans h.cxb
 bw:=h.bw
 bx':=h.bx'
 was:=(h.was.keep fun _ hp=>World.cell?_of_block (hF.block _ hp.1 hp.2.1)).more fun b hb=>⟨Nat.lt_of_lt_of_le hb.1 hF.size,(hc b hb.1).trans hb.2.1,hb.2.2⟩
 ses:=fun n hn=>(h.ses n hn).keep (fun b hb=>hF.block b hb.1 hb.2.1) (fun b hb=>⟨Nat.lt_of_lt_of_le hb.1 hF.size,(hc b hb.1).trans hb.2.1,hb.2.2⟩)
def wasV (l:List ActD) (k:Nat):List BookD:=if k=0 then [] else (runV newV (l.take k)).states
def JCm (w0:World) (wb xb:Nat) (l:List ActD) (k:Nat) (W:World) (c:Nat→Nat):Prop:=∃ vw xs,CmSt w0 W c wb xb (wasV l k) (fun n=>jce (runV newV (l.take k)) n) vw xs
theorem JCm.keep {w0 W W':World} {wb xb k:Nat} {l:List ActD} {c c':Nat→Nat} (h:JCm w0 wb xb l k W c) (hF:Fr c W W') (hc:∀ b,b<W.heap.size→c' b=c b):JCm w0 wb xb l k W' c':=by
 obtain ⟨vw,xs,h⟩:=h
 exact ⟨vw,xs,h.keep hF hc⟩
theorem yud (σ:StoreD) (a:ActD):(doV σ a).1.states = σ.states∨(a.kind=6∧jcp σ a.n=true∧(doV σ a).2.code=0∧(doV σ a).2.n=(σ.last:Int)+1∧(doV σ a).1.states = σ.states ++ [jf0 (σ.ver σ.last) (jce σ a.n).mine (jce σ a.n).gone]):=by
 rcases yik σ a with e | ⟨e1,e2,e3,e4⟩
 ·exact .inl (by unfold StoreD.states;rw [e])
 ·refine .inr ⟨e1,e2,by rw [e3];rfl,by rw [e3];rfl,?_⟩
  have ex:jce σ a.n = σ.sessN a.n.toNat:=by unfold jce;rw [e2];rfl
  unfold StoreD.states
  rw [e4,ex];rfl
theorem yue (a:ActD):(doV newV a).1.states = [jif]:=by unfold StoreD.states;rw [yrc]
end Go.Proofs.YthmlndmlnlfhnaaGreatDoor
