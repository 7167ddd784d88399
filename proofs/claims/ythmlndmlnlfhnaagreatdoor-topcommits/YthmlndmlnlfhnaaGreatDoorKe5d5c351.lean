import Derived.Test.YthmlndmlnlfhnaaGreatDoorK37f6a1ac
set_option maxRecDepth 100000
set_option maxHeartbeats 16000000
namespace Go.Proofs.YthmlndmlnlfhnaaGreatDoor
open Go.RowKit Go.Shelf
theorem JCm.new (w0 W:World) (wb xb:Nat) (l:List ActD) (hw:Cs W wb [.slice none 0 0]) (hx:Cs W xb [.bool false,.bool false,.int .i64 0,.slice none 0 0,.slice none 0 0,.slice none 0 0,.slice none 0 0,.bool false,.bool false,.int .i64 0,.slice none 0 0,.slice none 0 0,.slice none 0 0,.slice none 0 0,.bool false,.bool false,.int .i64 0,.slice none 0 0,.slice none 0 0,.slice none 0 0,.slice none 0 0,.bool false,.bool false,.int .i64 0,.slice none 0 0,.slice none 0 0,.slice none 0 0,.slice none 0 0]) (hne:wb≠xb) (h1:w0.heap.size≤wb) (h2:w0.heap.size≤xb):JCm w0 wb xb l 0 W (fun _=>0):=by
 refine ⟨.slice none 0 0,_,{ cw:=hw,cx:=hx,len:=rfl,ne:=hne,cwb:=rfl,cxb:=rfl,bw:=h1,bx':=h2,was:=Sl.nil,ses:=fun n hn=>?_ }⟩
 have e:jce (runV newV (l.take 0)) n=jjn:=by show (if jcp newV n then _ else jjn)=jjn;rw [yoy];rfl
 show SesX _ _ n (jce (runV newV (l.take 0)) n) _
 rw [e]
 refine ⟨_,_,_,_,Sl.nil,Sl.nil,Sl.nil,Sl.nil,fun j v hj=>?_⟩
 have hj7:j<7:=(List.getElem?_eq_some_iff.1 hj).1
 have hn':n=0∨n=1∨n=2∨n=3:=by omega
 have hj':j=0∨j=1∨j=2∨j=3∨j=4∨j=5∨j=6:=by omega
 rcases hn' with rfl | rfl | rfl | rfl <;> rcases hj' with rfl | rfl | rfl | rfl | rfl | rfl | rfl <;> exact hj
theorem law_TopCommits (l:List ActD) (v:Value) (w:World) (hl:Sl Enc.act w (Old w) l v) (hsz:∀ a∈l,a.name.size≤140737488355328∧a.text.size≤140737488355328) (hv:VarsOk w) :
  Calls Tryz.prog 9 #[v] w fun e w'=>e = .returned (.bool true)∧Below w.heap.size w w':=by
 have HL:=Lib.hid hl
 have HSZ:=Lib.hid hsz
 have HV:=Lib.hid hv
 obtain ⟨A,cp,rfl,-,-,-⟩:=hl
 clear hsz hv
 have hb0:=jac w (.cells #[.bool false,.bool false,.int .i64 0,.slice none 0 0,.slice none 0 0,.slice none 0 0,.slice none 0 0,.bool false,.bool false,.int .i64 0,.slice none 0 0,.slice none 0 0,.slice none 0 0,.slice none 0 0,.bool false,.bool false,.int .i64 0,.slice none 0 0,.slice none 0 0,.slice none 0 0,.slice none 0 0,.bool false,.bool false,.int .i64 0,.slice none 0 0,.slice none 0 0,.slice none 0 0,.slice none 0 0] 70)
 have CX0:=Lib.hid (Cs.new w [.bool false,.bool false,.int .i64 0,.slice none 0 0,.slice none 0 0,.slice none 0 0,.slice none 0 0,.bool false,.bool false,.int .i64 0,.slice none 0 0,.slice none 0 0,.slice none 0 0,.slice none 0 0,.bool false,.bool false,.int .i64 0,.slice none 0 0,.slice none 0 0,.slice none 0 0,.slice none 0 0,.bool false,.bool false,.int .i64 0,.slice none 0 0,.slice none 0 0,.slice none 0 0,.slice none 0 0] 70)
 change Hid (Cs (w.alloc (.cells #[.bool false,.bool false,.int .i64 0,.slice none 0 0,.slice none 0 0,.slice none 0 0,.slice none 0 0,.bool false,.bool false,.int .i64 0,.slice none 0 0,.slice none 0 0,.slice none 0 0,.slice none 0 0,.bool false,.bool false,.int .i64 0,.slice none 0 0,.slice none 0 0,.slice none 0 0,.slice none 0 0,.bool false,.bool false,.int .i64 0,.slice none 0 0,.slice none 0 0,.slice none 0 0,.slice none 0 0] 70)) _ _) at CX0
 have hz0:(w.alloc (.cells #[.bool false,.bool false,.int .i64 0,.slice none 0 0,.slice none 0 0,.slice none 0 0,.slice none 0 0,.bool false,.bool false,.int .i64 0,.slice none 0 0,.slice none 0 0,.slice none 0 0,.slice none 0 0,.bool false,.bool false,.int .i64 0,.slice none 0 0,.slice none 0 0,.slice none 0 0,.slice none 0 0,.bool false,.bool false,.int .i64 0,.slice none 0 0,.slice none 0 0,.slice none 0 0,.slice none 0 0] 70)).heap.size=w.heap.size+1:=by simp
 generalize hw0:w.alloc (.cells #[.bool false,.bool false,.int .i64 0,.slice none 0 0,.slice none 0 0,.slice none 0 0,.slice none 0 0,.bool false,.bool false,.int .i64 0,.slice none 0 0,.slice none 0 0,.slice none 0 0,.slice none 0 0,.bool false,.bool false,.int .i64 0,.slice none 0 0,.slice none 0 0,.slice none 0 0,.slice none 0 0,.bool false,.bool false,.int .i64 0,.slice none 0 0,.slice none 0 0,.slice none 0 0,.slice none 0 0] 70)=w0 at *
 have hb1:=jac w0 (.cells #[.slice none 0 0] 32)
 have CW1:=Lib.hid (Cs.new w0 [.slice none 0 0] 32)
 change Hid (Cs (w0.alloc (.cells #[.slice none 0 0] 32)) _ _) at CW1
 rw [hz0] at CW1
 have HJ:=Lib.hid (JCm.new w _ (w.heap.size+1) w.heap.size l CW1.out (CX0.out.next hb1) (by omega) (by omega) (Nat.le_refl _))
 have hb01:=bx hb0 hb1
 generalize hw1:w0.alloc (.cells #[.slice none 0 0] 32)=w1 at *
 go_enter Tryz.func9,Tryz.ntmps9
 go_wp2_with fail
 clear hw0 hw1
 refine (ys7 31 #[.pointer (some ⟨w.heap.size+1,0,none⟩),.pointer (some ⟨w.heap.size,0,none⟩)] (JCm w (w.heap.size+1) w.heap.size l) l _ w _ HL.out hb01 HSZ.out HV.out (enters_of Tryz.func31 (by kernel_rfl) rfl) HJ.out (fun k W W' c c' h hF hc _=>h.keep hF hc) (yuf l w HV.out _ _)).mono ?_
 rintro e w2 ⟨g,rfl,hb2⟩
 go_wp2
 go_ret
 exact ⟨rfl,hb2⟩
end Go.Proofs.YthmlndmlnlfhnaaGreatDoor
