import Derived.Test.YthmlndmlnlfhnaaGreatDoorK09606a71
import Derived.Test.YthmlndmlnlfhnaaGreatDoorK07683d90
set_option maxRecDepth 100000
set_option maxHeartbeats 16000000
namespace Go.Proofs.YthmlndmlnlfhnaaGreatDoor
open Go.RowKit Go.Shelf
structure TwoS (w0 w:World) (g:Nat) (σ:StoreD) (c:Nat→Nat) (vs:List Value) (vl:Value) (g':Nat) (τ:StoreD) (c':Nat→Nat) (vs':List Value) (vl':Value):Prop where
 one:Mine w0 w g σ c vs vl
 two:Mine w0 w g' τ c' vs' vl'
 apart:∀ b,c b≠0→c' b=0
section
variable {w0 w w':World} {g g':Nat} {σ τ:StoreD} {c c':Nat→Nat} {vs vs':List Value} {vl vl':Value}
theorem TwoS.flip (h:TwoS w0 w g σ c vs vl g' τ c' vs' vl'):TwoS w0 w g' τ c' vs' vl' g σ c vs vl :=
 ⟨h.two,h.one,fun b hb=>by
  by_cases e:c b=0
  ·exact e
  ·exact absurd (h.apart b e) hb⟩
theorem TwoS.next (h:TwoS w0 w g σ c vs vl g' τ c' vs' vl') (hb:Below w.heap.size w w'):TwoS w0 w' g σ c vs vl g' τ c' vs' vl':=⟨h.one.next hb,h.two.next hb,h.apart⟩
theorem TwoS.of {w1:World} (h1:Mine w0 w1 g σ c vs vl) (h2:Mine w1 w g' τ c' vs' vl'):TwoS w0 w g σ c vs vl g' τ c' vs' vl' :=
 ⟨h1.next h2.below,⟨h2.st,fun b hb=>h2.old b (Nat.lt_of_lt_of_le hb h1.below.size),bx h1.below h2.below⟩,fun b hb=>h2.old b (h1.st.lt b hb)⟩
theorem TwoS.did {R:StoreD × ReplyD} {e:Ending} (h:TwoS w0 w g σ c vs vl g' τ c' vs' vl') (hP:jam w c g R e w') :
  ∃ A1 k1 A2 k2 d us ul,e = .returned (.agg #[.int .i64 R.2.code,.int .i64 R.2.n,.string R.2.text,.slice A1 R.2.answers.length k1,.slice A2 R.2.at_.length k2])∧TwoS w0 w' g R.1 d us ul g' τ c' vs' vl'∧Below w0.heap.size w0 w'∧Fr c w w' ∧
   Sl Enc.ans w' (Old w') R.2.answers (.slice A1 R.2.answers.length k1)∧Sl Enc.int w' (Old w') R.2.at_ (.slice A2 R.2.at_.length k2):=by
 obtain ⟨A1,k1,A2,k2,d,us,ul,rfl,m,hF,hold,h5,h6⟩:=h.one.did hP
 refine ⟨A1,k1,A2,k2,d,us,ul,rfl,⟨m,⟨h.two.st.keep (fun b hb=>hF.block b (h.two.st.lt b hb) (h.flip.apart b hb)) hF.size,h.two.old,m.below⟩,fun b hb=>?_⟩,m.below,hF,h5.more fun _ hq=>hq.2.1,h6.more fun _ hq=>hq.2.1⟩
 by_cases hlt:b<w.heap.size
 ·exact h.apart b (by rw [← hold b hlt];exact hb)
 ·exact jb1 h.two.st.lt (by omega)
end
theorem jr1 (a b:Int) (s:ByteArray) (A1 A2:Option Addr) (l1 k1 l2 k2:Nat) (w:World):(Instr.field 30 (.agg #[.int .i64 a,.int .i64 b,.string s,.slice A1 l1 k1,.slice A2 l2 k2]) 0).run Tryz.prog w = .ok (.int .i64 a) w:=by kernel_rfl
theorem jvb (o s:Bool) (f:Int) (A1 A2 A3 A4:Option Addr) (l1 k1 l2 k2 l3 k3 l4 k4:Nat) (w:World):(Instr.field 41 (.agg #[.bool o,.bool s,.int .i64 f,.slice A1 l1 k1,.slice A2 l2 k2,.slice A3 l3 k3,.slice A4 l4 k4]) 0).run Tryz.prog w = .ok (.bool o) w:=by kernel_rfl
theorem yga {l:List ActD}:(l.take 50).length=min l.length 50:=by rw [List.length_take,Nat.min_comm]
theorem play_acts' (l:List ActD):(runV newV (l.take 50)).acts=min l.length 50:=by rw [yl5 (by rw [yga];exact Nat.min_le_right _ _),yga]
end Go.Proofs.YthmlndmlnlfhnaaGreatDoor
