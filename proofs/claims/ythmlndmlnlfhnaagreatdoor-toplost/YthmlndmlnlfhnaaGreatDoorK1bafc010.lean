import Derived.Test.YthmlndmlnlfhnaaGreatDoorK9a010553
set_option maxRecDepth 100000
set_option maxHeartbeats 16000000
namespace Go.Proofs.YthmlndmlnlfhnaaGreatDoor
open Go.Lib (hid)
open Go.RowKit Go.Shelf
theorem law_TopLost (l:List ActD) (v:Value) (w:World) (hl:Sl Enc.act w (Old w) l v) (hsz:∀ a∈l,a.name.size≤140737488355328∧a.text.size≤140737488355328) (hv:VarsOk w) :
  Calls Tryz.prog 8 #[v] w fun e w'=>e = .returned (.bool true)∧Below w.heap.size w w':=by
 have HL:=hid hl;obtain ⟨A,cp,rfl,-,-,-⟩:=hl;go_enter Tryz.func8,Tryz.ntmps8
 go_wp2_with fail
 refine (yt1 29 l _ _ HL.out hsz hv (enters_of Tryz.func29 (by kernel_rfl) rfl) yun).mono ?_;rintro e w1 ⟨rfl,hb1⟩;go_wp2;go_ret;exact ⟨rfl,hb1⟩
end Go.Proofs.YthmlndmlnlfhnaaGreatDoor
