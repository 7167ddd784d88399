import Derived.Test.YthmlndmlnlfhnaaGreatDoorK67cdf751
set_option maxRecDepth 100000
set_option maxHeartbeats 16000000
namespace Go.Proofs.YthmlndmlnlfhnaaGreatDoor
open Go.RowKit Go.Shelf
theorem law_TopMemory (l:List ActD) (v:Value) (w:World) (hl:Sl Enc.act w (Old w) l v) (hsz:∀ a∈l,a.name.size≤140737488355328∧a.text.size≤140737488355328) (hv:VarsOk w) :
  Calls Tryz.prog 12 #[v] w fun e w'=>e = .returned (.bool true)∧Below w.heap.size w w':=by
 have HL:=Lib.hid hl
 have HSZ:=Lib.hid hsz
 have HV:=Lib.hid hv
 obtain ⟨A,cp,rfl,-,-,-⟩:=hl
 clear hsz hv
 go_enter Tryz.func12,Tryz.ntmps12
 go_wp2_with fail
 refine (jn3 _).mono ?_
 rintro e w1 ⟨rfl,hw1⟩
 have M1:Hid (Mine w w1 w.heap.size newV (c1 w.heap.size) new0 (.slice none 0 0)):=by rw [hw1];exact Mine.new w w _ (Below.refl _ _)
 have hz1:w1.heap.size=w.heap.size+1:=by rw [hw1];simp
 have HZ1:=Lib.hid hz1
 clear hw1 hz1
 have hb2:=jac w1 (.cells #[.pointer (some ⟨w.heap.size,0,none⟩)] 25)
 have CO2:=Lib.hid (Cs.new w1 [.pointer (some ⟨w.heap.size,0,none⟩)] 25)
 change Hid (Cs (w1.alloc (.cells #[.pointer (some ⟨w.heap.size,0,none⟩)] 25)) _ _) at CO2
 have M2:=Lib.hid (M1.out.next hb2)
 have HJ:Hid (JMem w w1.heap.size l 0 (w1.alloc (.cells #[.pointer (some ⟨w.heap.size,0,none⟩)] 25)) (fun _=>0)):=⟨_,_,_,_,CO2.out,rfl,if_neg (by rw [HZ1.out];omega),by rw [HZ1.out];omega,M2.out,fun b hb=>absurd rfl hb⟩
 go_wp2_with fail
 generalize w1.alloc (.cells #[.pointer (some ⟨w.heap.size,0,none⟩)] 25)=w2 at *
 refine (ys7 39 #[.pointer (some ⟨w1.heap.size,0,none⟩)] (JMem w w1.heap.size l) l _ w _ HL.out M2.out.below HSZ.out HV.out (enters_of Tryz.func39 (by kernel_rfl) rfl) HJ.out (fun k W W' c c' h hF hc hb=>h.keep hF hc hb) (yuj l w HV.out HSZ.out _)).mono ?_
 rintro e w3 ⟨g,rfl,hb3⟩
 go_wp2
 go_ret
 exact ⟨rfl,hb3⟩
end Go.Proofs.YthmlndmlnlfhnaaGreatDoor
