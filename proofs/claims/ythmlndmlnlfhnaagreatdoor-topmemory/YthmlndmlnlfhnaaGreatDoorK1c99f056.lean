import Derived.Deep.RegionHeld3
import Derived.Test.YthmlndmlnlfhnaaGreatDoorK514ae384
import Derived.Test.YthmlndmlnlfhnaaGreatDoorK8c564651
import Derived.Test.YthmlndmlnlfhnaaGreatDoorKf3568356
set_option maxRecDepth 100000
set_option maxHeartbeats 16000000
namespace Go.Proofs.YthmlndmlnlfhnaaGreatDoor
open Go.RowKit
theorem yce {α:Type} {f:α→ByteArray} {x y:α}:∀ l:List α,jdc f (l ++ [y] ++ [x])=(jdc f (l ++ [y]) && !leS (f x) (f y))
 | []=>by simp [jdc]
 | [a]=>by simp [jdc]
 | a :: b :: l=>by
  have:=yce (f:=f) (x:=x) (y:=y) (b :: l)
  simp only [List.cons_append,jdc] at this ⊢
  rw [this,Bool.and_assoc]
theorem jqr {α:Type} {f:α→ByteArray} {l:List α} {j:Nat} {x y:α} (h:l[j+1]? = some x) (h':l[j]? = some y):jdc f (l.take (j+1+1))=(jdc f (l.take (j+1)) && !leS (f x) (f y)):=by
 rw [jai h,jai h',yce]
theorem jr2 {α:Type} {f:α→ByteArray}:∀ {l:List α} (k:Nat),jdc f l=true→jdc f (l.take k)=true
 | [],k,_=>by simp [jdc]
 | [a],k,_=>by cases k <;> simp [jdc]
 | a :: b :: l,0,_=>rfl
 | a :: b :: l,1,_=>rfl
 | a :: b :: l,k+2,h=>by
  simp only [jdc,Bool.and_eq_true] at h
  have:=jr2 (k+1) h.2
  simp only [List.take_succ_cons,jdc,Bool.and_eq_true] at this ⊢
  exact ⟨h.1,this⟩
theorem ya3 {l:List DomD} (k:Nat) (h:jda l=true):jda (l.take k)=true:=by
 unfold jda at h ⊢
 rw [Bool.and_eq_true] at h ⊢
 exact ⟨List.all_eq_true.2 fun x hx=>List.all_eq_true.1 h.1 x (List.mem_of_mem_take hx),jr2 k h.2⟩
theorem ya4 {l:List DomD} {k:Nat} (h:jda (l.take k)=false):jda l=false:=by
 cases hh:jda l
 ·rfl
 ·rw [ya3 k hh] at h;cases h
theorem jw4 {l:List DomD} {k:Nat} {d:DomD} (h:l[k]? = some d) (hd:jef d=false):jda l=false:=by
 unfold jda
 rw [Bool.and_eq_false_iff]
 exact .inl (List.all_eq_false.2 ⟨d,List.mem_of_getElem? h,by rw [hd];simp⟩)
theorem ya2 {l:List DomD} {d:DomD} (h:l[0]? = some d) (hd:jef d=true):jda (l.take (0+1))=true:=by
 rw [jai h];simp [jda,hd,jdc]
theorem ydm {l:List DomD} {j:Nat} {x y:DomD} (h:l[j+1]? = some x) (h':l[j]? = some y) (hg:jda (l.take (j+1))=true) (hd:jef x=true):jda (l.take (j+1+1)) = !leS x.1 y.1:=by
 unfold jda at *
 rw [Bool.and_eq_true] at hg
 rw [jqr h h',hg.2,jai h,List.all_append,hg.1]
 simp [hd]
theorem jst (l:List DomD) (v:Value) (w:World) (h:Sl Enc.dom w (Old w) l v) (hs:∀ d,d∈l→d.1.size≤140737488355328) :
  Calls Tryz.prog 51 #[v] w fun e w'=>e = .returned (.bool (jda l))∧Below w.heap.size w w':=by
 have H:=Lib.hid h
 have HS:=Lib.hid hs
 clear hs
 obtain ⟨A,c,rfl,hc1,hc2,-⟩:=h
 unfold maxLen at hc2
 generalize hR:jda l=R
 have HR:=Lib.hid hR
 clear hR
 go_enter Tryz.func51,Tryz.ntmps51
 go_wp2
 go_loopw [7] (fun i wr=>∃ k:Nat,k≤l.length∧i = .int .i64 k∧Hid (jda (l.take k)=true)∧Below w.heap.size w wr) (fun i _=>l.length-(intOf i).toNat)
 case atStart=>exact ⟨0,Nat.zero_le _,rfl,rfl,Below.refl _ _⟩
 case round =>
  obtain ⟨k,hk,rfl,hf,hb⟩:=hrel
  by_cases hlt:k<l.length
  ·obtain ⟨b,o,nm,lo,hi,rfl,hSb,hx,c1,c2,c3⟩:=(H.out.onOld hb).dom_at hlt
   have hbz:=jaa wr (.cells #[.string nm,.int .i64 lo,.int .i64 hi] 58)
   have hb2:=bx hb hbz
   have CN:=Lib.hid (Cs.new wr [.string nm,.int .i64 lo,.int .i64 hi] 58)
   change Hid (Cs (wr.alloc (.cells #[.string nm,.int .i64 lo,.int .i64 hi] 58)) _ _) at CN
   have q0:=CN.out.at 0 rfl
   have q1:=CN.out.at 1 rfl
   have q2:=CN.out.at 2 rfl
   have HN:=Lib.hid (HS.out _ (List.mem_of_getElem? hx.out))
   have HG:=Lib.hid (jid nm lo hi)
   generalize hwa:wr.alloc (.cells #[.string nm,.int .i64 lo,.int .i64 hi] 58)=wa at *
   cases hg:jef (nm,lo,hi)
   ·rw [hg] at HG
    have HNO:Hid (R=false):=by show _=_;rw [← HR.out];exact jw4 hx.out hg
    clear hg
    have hbd:Below w.heap.size w wa.drew:=hb2.drew
    have hgr:wr.heap.size<wa.drew.heap.size:=CN.out.1
    go_wp2_with fail
    refine wp_region_held_drew (S:=(fun w':World=>w'.cell? ⟨wr.heap.size,0,none⟩=some (.string nm)∧w'.cell? ⟨wr.heap.size,1,none⟩=some (.int .i64 lo)∧w'.cell? ⟨wr.heap.size,2,none⟩=some (.int .i64 hi))) (by kernel_rfl) ⟨q0,q1,q2⟩ (fun hHeld=>?_)
    generalize wa.drew=wd at *
    refine' wpAnyH_take (i:=0) (oi:={ dst:=some 12,op:=Op.load 58 (Operand.tmp 4),type:=58,pos:= "check.go:94",after:=#[],guard:=none }) (v:=_) (fuel:=17) rfl (by kernel_rfl) (by kernel_rfl) (by kernel_rfl) (fun _ _ _ h=>h) (Or.inl ⟨by rfl,?hy0a⟩) (by assumption) ?rest0a
    case hy0a=>(intro w' hSw;(try dsimp only at hSw);go_simp;try with_reducible rfl)
    simp only [Act.put,List.setIfInBounds_toArray,List.set_cons_zero,List.set_cons_succ]
    refine wpAnyH_ready (rs:=[1]) (fuel:=16) (by kernel_rfl) (by simp) ?_
    refine AllReadyH.cons (o:={ dst:=some 13,op:=Op.call { callee:=Callee.value (Operand.func 82),args:=#[Operand.tmp 12],argTypes:=#[58] },type:=4,pos:= "check.go:94",after:=#[{ on:=0,ground:=Ground.data }],guard:=none }) rfl (fun K hK=>?_) AllReadyH.nil
    go_simp
    go_at_call 82
    refine (HG.out _ HN.out).mono ?_
    rintro e w3 ⟨rfl,hb3⟩
    go_wp2_with fail
    refine hK.out _ _ ⟨(hb3.cell (p:=⟨wr.heap.size,0,none⟩) hgr).trans hHeld.1,(hb3.cell (p:=⟨wr.heap.size,1,none⟩) hgr).trans hHeld.2.1,(hb3.cell (p:=⟨wr.heap.size,2,none⟩) hgr).trans hHeld.2.2⟩ (fun hHeld=>?_)
    clear hK K
    (try simp only [Act.put,List.setIfInBounds_toArray,List.set_cons_zero,List.set_cons_succ])
    refine' wpAnyH_take (i:=2) (oi:={ dst:=some 14,op:=Op.unOp UnOp.not 4 (Operand.tmp 13),type:=4,pos:= "check.go:94",after:=#[{ on:=1,ground:=Ground.data }],guard:=none }) (v:=_) (fuel:=15) rfl (by kernel_rfl) (by kernel_rfl) (by kernel_rfl) (fun _ _ _ h=>h) (Or.inl ⟨by rfl,?hy2a⟩) (by assumption) ?rest2a
    case hy2a=>(intro w' hSw;(try dsimp only at hSw);go_simp;try with_reducible rfl)
    simp only [Act.put,List.setIfInBounds_toArray,List.set_cons_zero,List.set_cons_succ]
    refine' wpAnyH_take (i:=3) (oi:={ dst:=some 15,op:=Op.move (Operand.tmp 14),type:=4,pos:= "check.go:94",after:=#[{ on:=2,ground:=Ground.data },{ on:=1,ground:=Ground.chain }],guard:=none }) (v:=_) (fuel:=14) rfl (by kernel_rfl) (by kernel_rfl) (by kernel_rfl) (fun _ _ _ h=>h) (Or.inl ⟨by rfl,?hy3a⟩) (by assumption) ?rest3a
    case hy3a=>(intro w' hSw;(try dsimp only at hSw);go_simp;try with_reducible rfl)
    simp only [Act.put,List.setIfInBounds_toArray,List.set_cons_zero,List.set_cons_succ]
    refine' wpAnyH_take (i:=4) (oi:={ dst:=some 16,op:=Op.move (Operand.tmp 3),type:=3,pos:= "check.go:94",after:=#[{ on:=3,ground:=Ground.guard }],guard:=some (3,false) }) (v:=undef) (fuel:=13) rfl (by kernel_rfl) (by kernel_rfl) (by kernel_rfl) (fun _ _ _ h=>h) (Or.inr ⟨by rfl,rfl⟩) (by assumption) ?rest4a
    simp only [Act.put,List.setIfInBounds_toArray,List.set_cons_zero,List.set_cons_succ]
    refine' wpAnyH_take (i:=5) (oi:={ dst:=some 17,op:=Op.binOp BinOp.gtr 3 (Operand.tmp 16) (Operand.const (Value.int IntKind.i64 0)) 3,type:=4,pos:= "check.go:94",after:=#[{ on:=4,ground:=Ground.data },{ on:=3,ground:=Ground.guard }],guard:=some (3,false) }) (v:=undef) (fuel:=12) rfl (by kernel_rfl) (by kernel_rfl) (by kernel_rfl) (fun _ _ _ h=>h) (Or.inr ⟨by rfl,rfl⟩) (by assumption) ?rest5a
    simp only [Act.put,List.setIfInBounds_toArray,List.set_cons_zero,List.set_cons_succ]
    refine' wpAnyH_take (i:=6) (oi:={ dst:=some 18,op:=Op.move (Operand.tmp 17),type:=4,pos:= "check.go:94",after:=#[{ on:=5,ground:=Ground.data },{ on:=3,ground:=Ground.chain },{ on:=3,ground:=Ground.guard }],guard:=some (3,false) }) (v:=undef) (fuel:=11) rfl (by kernel_rfl) (by kernel_rfl) (by kernel_rfl) (fun _ _ _ h=>h) (Or.inr ⟨by rfl,rfl⟩) (by assumption) ?rest6a
    simp only [Act.put,List.setIfInBounds_toArray,List.set_cons_zero,List.set_cons_succ]
    refine' wpAnyH_take (i:=7) (oi:={ dst:=some 19,op:=Op.fieldAddr 58 (Operand.tmp 4) 0,type:=0,pos:= "check.go:94",after:=#[{ on:=6,ground:=Ground.guard }],guard:=some (6,true) }) (v:=undef) (fuel:=10) rfl (by kernel_rfl) (by kernel_rfl) (by kernel_rfl) (fun _ _ _ h=>h) (Or.inr ⟨by rfl,rfl⟩) (by assumption) ?rest7a
    simp only [Act.put,List.setIfInBounds_toArray,List.set_cons_zero,List.set_cons_succ]
    refine' wpAnyH_take (i:=8) (oi:={ dst:=some 20,op:=Op.load 9 (Operand.tmp 19),type:=9,pos:= "check.go:94",after:=#[{ on:=7,ground:=Ground.data },{ on:=6,ground:=Ground.guard }],guard:=some (6,true) }) (v:=undef) (fuel:=9) rfl (by kernel_rfl) (by kernel_rfl) (by kernel_rfl) (fun _ _ _ h=>h) (Or.inr ⟨by rfl,rfl⟩) (by assumption) ?rest8a
    simp only [Act.put,List.setIfInBounds_toArray,List.set_cons_zero,List.set_cons_succ]
    refine' wpAnyH_take (i:=9) (oi:={ dst:=some 21,op:=Op.move (Operand.tmp 0),type:=35,pos:= "check.go:94",after:=#[{ on:=6,ground:=Ground.guard }],guard:=some (6,true) }) (v:=undef) (fuel:=8) rfl (by kernel_rfl) (by kernel_rfl) (by kernel_rfl) (fun _ _ _ h=>h) (Or.inr ⟨by rfl,rfl⟩) (by assumption) ?rest9a
    simp only [Act.put,List.setIfInBounds_toArray,List.set_cons_zero,List.set_cons_succ]
    refine' wpAnyH_take (i:=10) (oi:={ dst:=some 22,op:=Op.move (Operand.tmp 3),type:=3,pos:= "check.go:94",after:=#[{ on:=6,ground:=Ground.guard }],guard:=some (6,true) }) (v:=undef) (fuel:=7) rfl (by kernel_rfl) (by kernel_rfl) (by kernel_rfl) (fun _ _ _ h=>h) (Or.inr ⟨by rfl,rfl⟩) (by assumption) ?rest10a
    simp only [Act.put,List.setIfInBounds_toArray,List.set_cons_zero,List.set_cons_succ]
    refine' wpAnyH_take (i:=11) (oi:={ dst:=some 23,op:=Op.binOp BinOp.sub 3 (Operand.tmp 22) (Operand.const (Value.int IntKind.i64 1)) 3,type:=3,pos:= "check.go:94",after:=#[{ on:=10,ground:=Ground.data },{ on:=6,ground:=Ground.guard }],guard:=some (6,true) }) (v:=undef) (fuel:=6) rfl (by kernel_rfl) (by kernel_rfl) (by kernel_rfl) (fun _ _ _ h=>h) (Or.inr ⟨by rfl,rfl⟩) (by assumption) ?rest11a
    simp only [Act.put,List.setIfInBounds_toArray,List.set_cons_zero,List.set_cons_succ]
    refine' wpAnyH_take (i:=12) (oi:={ dst:=some 24,op:=Op.indexAddr 35 (Operand.tmp 21) (Operand.tmp 23),type:=0,pos:= "check.go:94",after:=#[{ on:=9,ground:=Ground.data },{ on:=11,ground:=Ground.data },{ on:=6,ground:=Ground.guard }],guard:=some (6,true) }) (v:=undef) (fuel:=5) rfl (by kernel_rfl) (by kernel_rfl) (by kernel_rfl) (fun _ _ _ h=>h) (Or.inr ⟨by rfl,rfl⟩) (by assumption) ?rest12a
    simp only [Act.put,List.setIfInBounds_toArray,List.set_cons_zero,List.set_cons_succ]
    refine' wpAnyH_take (i:=13) (oi:={ dst:=some 25,op:=Op.fieldAddr 58 (Operand.tmp 24) 0,type:=0,pos:= "check.go:94",after:=#[{ on:=12,ground:=Ground.data },{ on:=6,ground:=Ground.guard }],guard:=some (6,true) }) (v:=undef) (fuel:=4) rfl (by kernel_rfl) (by kernel_rfl) (by kernel_rfl) (fun _ _ _ h=>h) (Or.inr ⟨by rfl,rfl⟩) (by assumption) ?rest13a
    simp only [Act.put,List.setIfInBounds_toArray,List.set_cons_zero,List.set_cons_succ]
    refine' wpAnyH_take (i:=14) (oi:={ dst:=some 26,op:=Op.load 9 (Operand.tmp 25),type:=9,pos:= "check.go:94",after:=#[{ on:=13,ground:=Ground.data },{ on:=6,ground:=Ground.guard }],guard:=some (6,true) }) (v:=undef) (fuel:=3) rfl (by kernel_rfl) (by kernel_rfl) (by kernel_rfl) (fun _ _ _ h=>h) (Or.inr ⟨by rfl,rfl⟩) (by assumption) ?rest14a
    simp only [Act.put,List.setIfInBounds_toArray,List.set_cons_zero,List.set_cons_succ]
    refine' wpAnyH_take (i:=15) (oi:={ dst:=some 27,op:=Op.binOp BinOp.leq 9 (Operand.tmp 20) (Operand.tmp 26) 9,type:=4,pos:= "check.go:94",after:=#[{ on:=8,ground:=Ground.data },{ on:=14,ground:=Ground.data },{ on:=6,ground:=Ground.guard }],guard:=some (6,true) }) (v:=undef) (fuel:=2) rfl (by kernel_rfl) (by kernel_rfl) (by kernel_rfl) (fun _ _ _ h=>h) (Or.inr ⟨by rfl,rfl⟩) (by assumption) ?rest15a
    simp only [Act.put,List.setIfInBounds_toArray,List.set_cons_zero,List.set_cons_succ]
    refine' wpAnyH_take (i:=16) (oi:={ dst:=some 28,op:=Op.pick (Operand.tmp 18) (Operand.tmp 27) (Operand.const (Value.bool false)),type:=4,pos:= "check.go:94",after:=#[{ on:=6,ground:=Ground.data },{ on:=15,ground:=Ground.data },{ on:=3,ground:=Ground.guard }],guard:=some (3,false) }) (v:=undef) (fuel:=1) rfl (by kernel_rfl) (by kernel_rfl) (by kernel_rfl) (fun _ _ _ h=>h) (Or.inr ⟨by rfl,rfl⟩) (by assumption) ?rest16a
    simp only [Act.put,List.setIfInBounds_toArray,List.set_cons_zero,List.set_cons_succ]
    refine' wpAnyH_take (i:=17) (oi:={ dst:=some 29,op:=Op.pick (Operand.tmp 15) (Operand.const (Value.bool true)) (Operand.tmp 28),type:=4,pos:= "check.go:94",after:=#[{ on:=3,ground:=Ground.data },{ on:=16,ground:=Ground.data }],guard:=none }) (v:=_) (fuel:=0) rfl (by kernel_rfl) (by kernel_rfl) (by kernel_rfl) (fun _ _ _ h=>h) (Or.inl ⟨by rfl,?hy17a⟩) (by assumption) ?rest17a
    case hy17a=>(intro w' hSw;(try dsimp only at hSw);go_simp;try with_reducible rfl)
    simp only [Act.put,List.setIfInBounds_toArray,List.set_cons_zero,List.set_cons_succ]
    refine wpAnyH_done (by kernel_rfl) ?_ _
    go_wp2
    go_ret
    exact ⟨jad HNO.out.symm,bx hbd hb3⟩
   ·rw [hg] at HG
    have HGD:=Lib.hid hg
    clear hg
    have hbd:Below w.heap.size w wa.drew:=hb2.drew
    have hgr:wr.heap.size<wa.drew.heap.size:=CN.out.1
    by_cases hk0:k=0
    ·subst hk0
     rw [Nat.zero_mul,Nat.add_zero] at c1 c2 c3
     have HM:=Lib.hid (ya2 hx.out HGD.out)
     go_wp2_with fail
     refine wp_region_held_drew (S:=(fun w':World=>w'.cell? ⟨wr.heap.size,0,none⟩=some (.string nm)∧w'.cell? ⟨wr.heap.size,1,none⟩=some (.int .i64 lo)∧w'.cell? ⟨wr.heap.size,2,none⟩=some (.int .i64 hi))) (by kernel_rfl) ⟨q0,q1,q2⟩ (fun hHeld=>?_)
     generalize wa.drew=wd at *
     refine' wpAnyH_take (i:=0) (oi:={ dst:=some 12,op:=Op.load 58 (Operand.tmp 4),type:=58,pos:= "check.go:94",after:=#[],guard:=none }) (v:=_) (fuel:=17) rfl (by kernel_rfl) (by kernel_rfl) (by kernel_rfl) (fun _ _ _ h=>h) (Or.inl ⟨by rfl,?hy0b⟩) (by assumption) ?rest0b
     case hy0b=>(intro w' hSw;(try dsimp only at hSw);go_simp;try with_reducible rfl)
     simp only [Act.put,List.setIfInBounds_toArray,List.set_cons_zero,List.set_cons_succ]
     refine wpAnyH_ready (rs:=[1]) (fuel:=16) (by kernel_rfl) (by simp) ?_
     refine AllReadyH.cons (o:={ dst:=some 13,op:=Op.call { callee:=Callee.value (Operand.func 82),args:=#[Operand.tmp 12],argTypes:=#[58] },type:=4,pos:= "check.go:94",after:=#[{ on:=0,ground:=Ground.data }],guard:=none }) rfl (fun K hK=>?_) AllReadyH.nil
     go_simp
     go_at_call 82
     refine (HG.out _ HN.out).mono ?_
     rintro e w3 ⟨rfl,hb3⟩
     go_wp2_with fail
     refine hK.out _ _ ⟨(hb3.cell (p:=⟨wr.heap.size,0,none⟩) hgr).trans hHeld.1,(hb3.cell (p:=⟨wr.heap.size,1,none⟩) hgr).trans hHeld.2.1,(hb3.cell (p:=⟨wr.heap.size,2,none⟩) hgr).trans hHeld.2.2⟩ (fun hHeld=>?_)
     clear hK K
     (try simp only [Act.put,List.setIfInBounds_toArray,List.set_cons_zero,List.set_cons_succ])
     refine' wpAnyH_take (i:=2) (oi:={ dst:=some 14,op:=Op.unOp UnOp.not 4 (Operand.tmp 13),type:=4,pos:= "check.go:94",after:=#[{ on:=1,ground:=Ground.data }],guard:=none }) (v:=_) (fuel:=15) rfl (by kernel_rfl) (by kernel_rfl) (by kernel_rfl) (fun _ _ _ h=>h) (Or.inl ⟨by rfl,?hy2b⟩) (by assumption) ?rest2b
     case hy2b=>(intro w' hSw;(try dsimp only at hSw);go_simp;try with_reducible rfl)
     simp only [Act.put,List.setIfInBounds_toArray,List.set_cons_zero,List.set_cons_succ]
     refine' wpAnyH_take (i:=3) (oi:={ dst:=some 15,op:=Op.move (Operand.tmp 14),type:=4,pos:= "check.go:94",after:=#[{ on:=2,ground:=Ground.data },{ on:=1,ground:=Ground.chain }],guard:=none }) (v:=_) (fuel:=14) rfl (by kernel_rfl) (by kernel_rfl) (by kernel_rfl) (fun _ _ _ h=>h) (Or.inl ⟨by rfl,?hy3b⟩) (by assumption) ?rest3b
     case hy3b=>(intro w' hSw;(try dsimp only at hSw);go_simp;try with_reducible rfl)
     simp only [Act.put,List.setIfInBounds_toArray,List.set_cons_zero,List.set_cons_succ]
     refine' wpAnyH_take (i:=4) (oi:={ dst:=some 16,op:=Op.move (Operand.tmp 3),type:=3,pos:= "check.go:94",after:=#[{ on:=3,ground:=Ground.guard }],guard:=some (3,false) }) (v:=_) (fuel:=13) rfl (by kernel_rfl) (by kernel_rfl) (by kernel_rfl) (fun _ _ _ h=>h) (Or.inl ⟨by rfl,?hy4b⟩) (by assumption) ?rest4b
     case hy4b=>(intro w' hSw;(try dsimp only at hSw);go_simp;try with_reducible rfl)
     simp only [Act.put,List.setIfInBounds_toArray,List.set_cons_zero,List.set_cons_succ]
     refine' wpAnyH_take (i:=5) (oi:={ dst:=some 17,op:=Op.binOp BinOp.gtr 3 (Operand.tmp 16) (Operand.const (Value.int IntKind.i64 0)) 3,type:=4,pos:= "check.go:94",after:=#[{ on:=4,ground:=Ground.data },{ on:=3,ground:=Ground.guard }],guard:=some (3,false) }) (v:=_) (fuel:=12) rfl (by kernel_rfl) (by kernel_rfl) (by kernel_rfl) (fun _ _ _ h=>h) (Or.inl ⟨by rfl,?hy5b⟩) (by assumption) ?rest5b
     case hy5b=>(intro w' hSw;(try dsimp only at hSw);go_simp;try with_reducible rfl)
     simp only [Act.put,List.setIfInBounds_toArray,List.set_cons_zero,List.set_cons_succ]
     refine' wpAnyH_take (i:=6) (oi:={ dst:=some 18,op:=Op.move (Operand.tmp 17),type:=4,pos:= "check.go:94",after:=#[{ on:=5,ground:=Ground.data },{ on:=3,ground:=Ground.chain },{ on:=3,ground:=Ground.guard }],guard:=some (3,false) }) (v:=_) (fuel:=11) rfl (by kernel_rfl) (by kernel_rfl) (by kernel_rfl) (fun _ _ _ h=>h) (Or.inl ⟨by rfl,?hy6b⟩) (by assumption) ?rest6b
     case hy6b=>(intro w' hSw;(try dsimp only at hSw);go_simp;try with_reducible rfl)
     simp only [Act.put,List.setIfInBounds_toArray,List.set_cons_zero,List.set_cons_succ]
     refine' wpAnyH_take (i:=7) (oi:={ dst:=some 19,op:=Op.fieldAddr 58 (Operand.tmp 4) 0,type:=0,pos:= "check.go:94",after:=#[{ on:=6,ground:=Ground.guard }],guard:=some (6,true) }) (v:=undef) (fuel:=10) rfl (by kernel_rfl) (by kernel_rfl) (by kernel_rfl) (fun _ _ _ h=>h) (Or.inr ⟨by rfl,rfl⟩) (by assumption) ?rest7b
     simp only [Act.put,List.setIfInBounds_toArray,List.set_cons_zero,List.set_cons_succ]
     refine' wpAnyH_take (i:=8) (oi:={ dst:=some 20,op:=Op.load 9 (Operand.tmp 19),type:=9,pos:= "check.go:94",after:=#[{ on:=7,ground:=Ground.data },{ on:=6,ground:=Ground.guard }],guard:=some (6,true) }) (v:=undef) (fuel:=9) rfl (by kernel_rfl) (by kernel_rfl) (by kernel_rfl) (fun _ _ _ h=>h) (Or.inr ⟨by rfl,rfl⟩) (by assumption) ?rest8b
     simp only [Act.put,List.setIfInBounds_toArray,List.set_cons_zero,List.set_cons_succ]
     refine' wpAnyH_take (i:=9) (oi:={ dst:=some 21,op:=Op.move (Operand.tmp 0),type:=35,pos:= "check.go:94",after:=#[{ on:=6,ground:=Ground.guard }],guard:=some (6,true) }) (v:=undef) (fuel:=8) rfl (by kernel_rfl) (by kernel_rfl) (by kernel_rfl) (fun _ _ _ h=>h) (Or.inr ⟨by rfl,rfl⟩) (by assumption) ?rest9b
     simp only [Act.put,List.setIfInBounds_toArray,List.set_cons_zero,List.set_cons_succ]
     refine' wpAnyH_take (i:=10) (oi:={ dst:=some 22,op:=Op.move (Operand.tmp 3),type:=3,pos:= "check.go:94",after:=#[{ on:=6,ground:=Ground.guard }],guard:=some (6,true) }) (v:=undef) (fuel:=7) rfl (by kernel_rfl) (by kernel_rfl) (by kernel_rfl) (fun _ _ _ h=>h) (Or.inr ⟨by rfl,rfl⟩) (by assumption) ?rest10b
     simp only [Act.put,List.setIfInBounds_toArray,List.set_cons_zero,List.set_cons_succ]
     refine' wpAnyH_take (i:=11) (oi:={ dst:=some 23,op:=Op.binOp BinOp.sub 3 (Operand.tmp 22) (Operand.const (Value.int IntKind.i64 1)) 3,type:=3,pos:= "check.go:94",after:=#[{ on:=10,ground:=Ground.data },{ on:=6,ground:=Ground.guard }],guard:=some (6,true) }) (v:=undef) (fuel:=6) rfl (by kernel_rfl) (by kernel_rfl) (by kernel_rfl) (fun _ _ _ h=>h) (Or.inr ⟨by rfl,rfl⟩) (by assumption) ?rest11b
     simp only [Act.put,List.setIfInBounds_toArray,List.set_cons_zero,List.set_cons_succ]
     refine' wpAnyH_take (i:=12) (oi:={ dst:=some 24,op:=Op.indexAddr 35 (Operand.tmp 21) (Operand.tmp 23),type:=0,pos:= "check.go:94",after:=#[{ on:=9,ground:=Ground.data },{ on:=11,ground:=Ground.data },{ on:=6,ground:=Ground.guard }],guard:=some (6,true) }) (v:=undef) (fuel:=5) rfl (by kernel_rfl) (by kernel_rfl) (by kernel_rfl) (fun _ _ _ h=>h) (Or.inr ⟨by rfl,rfl⟩) (by assumption) ?rest12b
     simp only [Act.put,List.setIfInBounds_toArray,List.set_cons_zero,List.set_cons_succ]
     refine' wpAnyH_take (i:=13) (oi:={ dst:=some 25,op:=Op.fieldAddr 58 (Operand.tmp 24) 0,type:=0,pos:= "check.go:94",after:=#[{ on:=12,ground:=Ground.data },{ on:=6,ground:=Ground.guard }],guard:=some (6,true) }) (v:=undef) (fuel:=4) rfl (by kernel_rfl) (by kernel_rfl) (by kernel_rfl) (fun _ _ _ h=>h) (Or.inr ⟨by rfl,rfl⟩) (by assumption) ?rest13b
     simp only [Act.put,List.setIfInBounds_toArray,List.set_cons_zero,List.set_cons_succ]
     refine' wpAnyH_take (i:=14) (oi:={ dst:=some 26,op:=Op.load 9 (Operand.tmp 25),type:=9,pos:= "check.go:94",after:=#[{ on:=13,ground:=Ground.data },{ on:=6,ground:=Ground.guard }],guard:=some (6,true) }) (v:=undef) (fuel:=3) rfl (by kernel_rfl) (by kernel_rfl) (by kernel_rfl) (fun _ _ _ h=>h) (Or.inr ⟨by rfl,rfl⟩) (by assumption) ?rest14b
     simp only [Act.put,List.setIfInBounds_toArray,List.set_cons_zero,List.set_cons_succ]
     refine' wpAnyH_take (i:=15) (oi:={ dst:=some 27,op:=Op.binOp BinOp.leq 9 (Operand.tmp 20) (Operand.tmp 26) 9,type:=4,pos:= "check.go:94",after:=#[{ on:=8,ground:=Ground.data },{ on:=14,ground:=Ground.data },{ on:=6,ground:=Ground.guard }],guard:=some (6,true) }) (v:=undef) (fuel:=2) rfl (by kernel_rfl) (by kernel_rfl) (by kernel_rfl) (fun _ _ _ h=>h) (Or.inr ⟨by rfl,rfl⟩) (by assumption) ?rest15b
     simp only [Act.put,List.setIfInBounds_toArray,List.set_cons_zero,List.set_cons_succ]
     refine' wpAnyH_take (i:=16) (oi:={ dst:=some 28,op:=Op.pick (Operand.tmp 18) (Operand.tmp 27) (Operand.const (Value.bool false)),type:=4,pos:= "check.go:94",after:=#[{ on:=6,ground:=Ground.data },{ on:=15,ground:=Ground.data },{ on:=3,ground:=Ground.guard }],guard:=some (3,false) }) (v:=_) (fuel:=1) rfl (by kernel_rfl) (by kernel_rfl) (by kernel_rfl) (fun _ _ _ h=>h) (Or.inl ⟨by rfl,?hy16b⟩) (by assumption) ?rest16b
     case hy16b=>(intro w' hSw;(try dsimp only at hSw);go_simp;try with_reducible rfl)
     simp only [Act.put,List.setIfInBounds_toArray,List.set_cons_zero,List.set_cons_succ]
     refine' wpAnyH_take (i:=17) (oi:={ dst:=some 29,op:=Op.pick (Operand.tmp 15) (Operand.const (Value.bool true)) (Operand.tmp 28),type:=4,pos:= "check.go:94",after:=#[{ on:=3,ground:=Ground.data },{ on:=16,ground:=Ground.data }],guard:=none }) (v:=_) (fuel:=0) rfl (by kernel_rfl) (by kernel_rfl) (by kernel_rfl) (fun _ _ _ h=>h) (Or.inl ⟨by rfl,?hy17b⟩) (by assumption) ?rest17b
     case hy17b=>(intro w' hSw;(try dsimp only at hSw);go_simp;try with_reducible rfl)
     simp only [Act.put,List.setIfInBounds_toArray,List.set_cons_zero,List.set_cons_succ]
     refine wpAnyH_done (by kernel_rfl) ?_ _
     go_wp2
     exact ⟨⟨0+1,by omega,by go_num,HM,bx hbd hb3⟩,by simp [intOf];omega⟩
    ·obtain ⟨j,rfl⟩:∃ j,k=j+1:=⟨k-1,by omega⟩
     obtain ⟨b',o',pn,plo,phi,e',hSb',hx',p0',-,-⟩:=H.out.dom_at (k:=j) (by omega)
     obtain ⟨rfl,rfl⟩:=jc5 e'
     have hSb2:b<w.heap.size:=hSb'
     have hgb:b<wa.drew.heap.size:=Nat.lt_of_lt_of_le hSb2 hb2.size
     have p0:=(hb2.cell (p:=⟨b,o+j*3,none⟩) hSb2).trans p0'
     have HM:=Lib.hid (ydm hx.out hx'.out hf.out HGD.out)
     have hj2:IntKind.i64.wrap (j:Int)=(j:Int):=IntWalk.i64_in _ (by omega)
     have hj0:(0:Int)≤j:=by omega
     have hj1:(j:Int)<l.length:=by omega
     have hj3:(0:Int)<(j:Int)+1:=by omega
     clear p0' e' hx'
     cases hle:leS nm pn
     ·rw [hle] at HM
      have hle':(Op.bytesLess nm.toList pn.toList || nm.toList == pn.toList)=false:=hle
      go_wp2_with fail
      refine wp_region_held_drew (S:=(fun w':World=>w'.cell? ⟨wr.heap.size,0,none⟩=some (.string nm)∧w'.cell? ⟨wr.heap.size,1,none⟩=some (.int .i64 lo)∧w'.cell? ⟨wr.heap.size,2,none⟩=some (.int .i64 hi)∧w'.cell? ⟨b,o+j*3,none⟩=some (.string pn))) (by kernel_rfl) ⟨q0,q1,q2,p0⟩ (fun hHeld=>?_)
      generalize wa.drew=wd at *
      refine' wpAnyH_take (i:=0) (oi:={ dst:=some 12,op:=Op.load 58 (Operand.tmp 4),type:=58,pos:= "check.go:94",after:=#[],guard:=none }) (v:=_) (fuel:=17) rfl (by kernel_rfl) (by kernel_rfl) (by kernel_rfl) (fun _ _ _ h=>h) (Or.inl ⟨by rfl,?hy0c⟩) (by assumption) ?rest0c
      case hy0c=>(intro w' hSw;(try dsimp only at hSw);go_simp;try with_reducible rfl)
      simp only [Act.put,List.setIfInBounds_toArray,List.set_cons_zero,List.set_cons_succ]
      refine wpAnyH_ready (rs:=[1]) (fuel:=16) (by kernel_rfl) (by simp) ?_
      refine AllReadyH.cons (o:={ dst:=some 13,op:=Op.call { callee:=Callee.value (Operand.func 82),args:=#[Operand.tmp 12],argTypes:=#[58] },type:=4,pos:= "check.go:94",after:=#[{ on:=0,ground:=Ground.data }],guard:=none }) rfl (fun K hK=>?_) AllReadyH.nil
      go_simp
      go_at_call 82
      refine (HG.out _ HN.out).mono ?_
      rintro e w3 ⟨rfl,hb3⟩
      go_wp2_with fail
      refine hK.out _ _ ⟨(hb3.cell (p:=⟨wr.heap.size,0,none⟩) hgr).trans hHeld.1,(hb3.cell (p:=⟨wr.heap.size,1,none⟩) hgr).trans hHeld.2.1,(hb3.cell (p:=⟨wr.heap.size,2,none⟩) hgr).trans hHeld.2.2.1,(hb3.cell (p:=⟨b,o+j*3,none⟩) hgb).trans hHeld.2.2.2⟩ (fun hHeld=>?_)
      clear hK K
      (try simp only [Act.put,List.setIfInBounds_toArray,List.set_cons_zero,List.set_cons_succ])
      refine' wpAnyH_take (i:=2) (oi:={ dst:=some 14,op:=Op.unOp UnOp.not 4 (Operand.tmp 13),type:=4,pos:= "check.go:94",after:=#[{ on:=1,ground:=Ground.data }],guard:=none }) (v:=_) (fuel:=15) rfl (by kernel_rfl) (by kernel_rfl) (by kernel_rfl) (fun _ _ _ h=>h) (Or.inl ⟨by rfl,?hy2c⟩) (by assumption) ?rest2c
      case hy2c=>(intro w' hSw;(try dsimp only at hSw);go_simp;try with_reducible rfl)
      simp only [Act.put,List.setIfInBounds_toArray,List.set_cons_zero,List.set_cons_succ]
      refine' wpAnyH_take (i:=3) (oi:={ dst:=some 15,op:=Op.move (Operand.tmp 14),type:=4,pos:= "check.go:94",after:=#[{ on:=2,ground:=Ground.data },{ on:=1,ground:=Ground.chain }],guard:=none }) (v:=_) (fuel:=14) rfl (by kernel_rfl) (by kernel_rfl) (by kernel_rfl) (fun _ _ _ h=>h) (Or.inl ⟨by rfl,?hy3c⟩) (by assumption) ?rest3c
      case hy3c=>(intro w' hSw;(try dsimp only at hSw);go_simp;try with_reducible rfl)
      simp only [Act.put,List.setIfInBounds_toArray,List.set_cons_zero,List.set_cons_succ]
      refine' wpAnyH_take (i:=4) (oi:={ dst:=some 16,op:=Op.move (Operand.tmp 3),type:=3,pos:= "check.go:94",after:=#[{ on:=3,ground:=Ground.guard }],guard:=some (3,false) }) (v:=_) (fuel:=13) rfl (by kernel_rfl) (by kernel_rfl) (by kernel_rfl) (fun _ _ _ h=>h) (Or.inl ⟨by rfl,?hy4c⟩) (by assumption) ?rest4c
      case hy4c=>(intro w' hSw;(try dsimp only at hSw);go_simp;try with_reducible rfl)
      simp only [Act.put,List.setIfInBounds_toArray,List.set_cons_zero,List.set_cons_succ]
      refine' wpAnyH_take (i:=5) (oi:={ dst:=some 17,op:=Op.binOp BinOp.gtr 3 (Operand.tmp 16) (Operand.const (Value.int IntKind.i64 0)) 3,type:=4,pos:= "check.go:94",after:=#[{ on:=4,ground:=Ground.data },{ on:=3,ground:=Ground.guard }],guard:=some (3,false) }) (v:=_) (fuel:=12) rfl (by kernel_rfl) (by kernel_rfl) (by kernel_rfl) (fun _ _ _ h=>h) (Or.inl ⟨by rfl,?hy5c⟩) (by assumption) ?rest5c
      case hy5c=>(intro w' hSw;(try dsimp only at hSw);go_simp;try with_reducible rfl)
      simp only [Act.put,List.setIfInBounds_toArray,List.set_cons_zero,List.set_cons_succ]
      refine' wpAnyH_take (i:=6) (oi:={ dst:=some 18,op:=Op.move (Operand.tmp 17),type:=4,pos:= "check.go:94",after:=#[{ on:=5,ground:=Ground.data },{ on:=3,ground:=Ground.chain },{ on:=3,ground:=Ground.guard }],guard:=some (3,false) }) (v:=_) (fuel:=11) rfl (by kernel_rfl) (by kernel_rfl) (by kernel_rfl) (fun _ _ _ h=>h) (Or.inl ⟨by rfl,?hy6c⟩) (by assumption) ?rest6c
      case hy6c=>(intro w' hSw;(try dsimp only at hSw);go_simp;try with_reducible rfl)
      simp only [Act.put,List.setIfInBounds_toArray,List.set_cons_zero,List.set_cons_succ]
      refine' wpAnyH_take (i:=7) (oi:={ dst:=some 19,op:=Op.fieldAddr 58 (Operand.tmp 4) 0,type:=0,pos:= "check.go:94",after:=#[{ on:=6,ground:=Ground.guard }],guard:=some (6,true) }) (v:=_) (fuel:=10) rfl (by kernel_rfl) (by kernel_rfl) (by kernel_rfl) (fun _ _ _ h=>h) (Or.inl ⟨by rfl,?hy7c⟩) (by assumption) ?rest7c
      case hy7c=>(intro w' hSw;(try dsimp only at hSw);go_simp;try with_reducible rfl)
      simp only [Act.put,List.setIfInBounds_toArray,List.set_cons_zero,List.set_cons_succ]
      refine' wpAnyH_take (i:=8) (oi:={ dst:=some 20,op:=Op.load 9 (Operand.tmp 19),type:=9,pos:= "check.go:94",after:=#[{ on:=7,ground:=Ground.data },{ on:=6,ground:=Ground.guard }],guard:=some (6,true) }) (v:=_) (fuel:=9) rfl (by kernel_rfl) (by kernel_rfl) (by kernel_rfl) (fun _ _ _ h=>h) (Or.inl ⟨by rfl,?hy8c⟩) (by assumption) ?rest8c
      case hy8c=>(intro w' hSw;(try dsimp only at hSw);go_simp;try with_reducible rfl)
      simp only [Act.put,List.setIfInBounds_toArray,List.set_cons_zero,List.set_cons_succ]
      refine' wpAnyH_take (i:=9) (oi:={ dst:=some 21,op:=Op.move (Operand.tmp 0),type:=35,pos:= "check.go:94",after:=#[{ on:=6,ground:=Ground.guard }],guard:=some (6,true) }) (v:=_) (fuel:=8) rfl (by kernel_rfl) (by kernel_rfl) (by kernel_rfl) (fun _ _ _ h=>h) (Or.inl ⟨by rfl,?hy9c⟩) (by assumption) ?rest9c
      case hy9c=>(intro w' hSw;(try dsimp only at hSw);go_simp;try with_reducible rfl)
      simp only [Act.put,List.setIfInBounds_toArray,List.set_cons_zero,List.set_cons_succ]
      refine' wpAnyH_take (i:=10) (oi:={ dst:=some 22,op:=Op.move (Operand.tmp 3),type:=3,pos:= "check.go:94",after:=#[{ on:=6,ground:=Ground.guard }],guard:=some (6,true) }) (v:=_) (fuel:=7) rfl (by kernel_rfl) (by kernel_rfl) (by kernel_rfl) (fun _ _ _ h=>h) (Or.inl ⟨by rfl,?hy10c⟩) (by assumption) ?rest10c
      case hy10c=>(intro w' hSw;(try dsimp only at hSw);go_simp;try with_reducible rfl)
      simp only [Act.put,List.setIfInBounds_toArray,List.set_cons_zero,List.set_cons_succ]
      refine' wpAnyH_take (i:=11) (oi:={ dst:=some 23,op:=Op.binOp BinOp.sub 3 (Operand.tmp 22) (Operand.const (Value.int IntKind.i64 1)) 3,type:=3,pos:= "check.go:94",after:=#[{ on:=10,ground:=Ground.data },{ on:=6,ground:=Ground.guard }],guard:=some (6,true) }) (v:=_) (fuel:=6) rfl (by kernel_rfl) (by kernel_rfl) (by kernel_rfl) (fun _ _ _ h=>h) (Or.inl ⟨by rfl,?hy11c⟩) (by assumption) ?rest11c
      case hy11c=>(intro w' hSw;(try dsimp only at hSw);go_simp;try with_reducible rfl)
      simp only [Act.put,List.setIfInBounds_toArray,List.set_cons_zero,List.set_cons_succ]
      refine' wpAnyH_take (i:=12) (oi:={ dst:=some 24,op:=Op.indexAddr 35 (Operand.tmp 21) (Operand.tmp 23),type:=0,pos:= "check.go:94",after:=#[{ on:=9,ground:=Ground.data },{ on:=11,ground:=Ground.data },{ on:=6,ground:=Ground.guard }],guard:=some (6,true) }) (v:=_) (fuel:=5) rfl (by kernel_rfl) (by kernel_rfl) (by kernel_rfl) (fun _ _ _ h=>h) (Or.inl ⟨by rfl,?hy12c⟩) (by assumption) ?rest12c
      case hy12c=>(intro w' hSw;(try dsimp only at hSw);go_simp;try with_reducible rfl)
      simp only [Act.put,List.setIfInBounds_toArray,List.set_cons_zero,List.set_cons_succ]
      refine' wpAnyH_take (i:=13) (oi:={ dst:=some 25,op:=Op.fieldAddr 58 (Operand.tmp 24) 0,type:=0,pos:= "check.go:94",after:=#[{ on:=12,ground:=Ground.data },{ on:=6,ground:=Ground.guard }],guard:=some (6,true) }) (v:=_) (fuel:=4) rfl (by kernel_rfl) (by kernel_rfl) (by kernel_rfl) (fun _ _ _ h=>h) (Or.inl ⟨by rfl,?hy13c⟩) (by assumption) ?rest13c
      case hy13c=>(intro w' hSw;(try dsimp only at hSw);go_simp;try with_reducible rfl)
      simp only [Act.put,List.setIfInBounds_toArray,List.set_cons_zero,List.set_cons_succ]
      refine' wpAnyH_take (i:=14) (oi:={ dst:=some 26,op:=Op.load 9 (Operand.tmp 25),type:=9,pos:= "check.go:94",after:=#[{ on:=13,ground:=Ground.data },{ on:=6,ground:=Ground.guard }],guard:=some (6,true) }) (v:=_) (fuel:=3) rfl (by kernel_rfl) (by kernel_rfl) (by kernel_rfl) (fun _ _ _ h=>h) (Or.inl ⟨by rfl,?hy14c⟩) (by assumption) ?rest14c
      case hy14c=>(intro w' hSw;(try dsimp only at hSw);go_simp;try with_reducible rfl)
      simp only [Act.put,List.setIfInBounds_toArray,List.set_cons_zero,List.set_cons_succ]
      refine' wpAnyH_take (i:=15) (oi:={ dst:=some 27,op:=Op.binOp BinOp.leq 9 (Operand.tmp 20) (Operand.tmp 26) 9,type:=4,pos:= "check.go:94",after:=#[{ on:=8,ground:=Ground.data },{ on:=14,ground:=Ground.data },{ on:=6,ground:=Ground.guard }],guard:=some (6,true) }) (v:=_) (fuel:=2) rfl (by kernel_rfl) (by kernel_rfl) (by kernel_rfl) (fun _ _ _ h=>h) (Or.inl ⟨by rfl,?hy15c⟩) (by assumption) ?rest15c
      case hy15c=>(intro w' hSw;(try dsimp only at hSw);go_simp;try with_reducible rfl)
      simp only [Act.put,List.setIfInBounds_toArray,List.set_cons_zero,List.set_cons_succ]
      refine' wpAnyH_take (i:=16) (oi:={ dst:=some 28,op:=Op.pick (Operand.tmp 18) (Operand.tmp 27) (Operand.const (Value.bool false)),type:=4,pos:= "check.go:94",after:=#[{ on:=6,ground:=Ground.data },{ on:=15,ground:=Ground.data },{ on:=3,ground:=Ground.guard }],guard:=some (3,false) }) (v:=_) (fuel:=1) rfl (by kernel_rfl) (by kernel_rfl) (by kernel_rfl) (fun _ _ _ h=>h) (Or.inl ⟨by rfl,?hy16c⟩) (by assumption) ?rest16c
      case hy16c=>(intro w' hSw;(try dsimp only at hSw);go_simp;try with_reducible rfl)
      simp only [Act.put,List.setIfInBounds_toArray,List.set_cons_zero,List.set_cons_succ]
      refine' wpAnyH_take (i:=17) (oi:={ dst:=some 29,op:=Op.pick (Operand.tmp 15) (Operand.const (Value.bool true)) (Operand.tmp 28),type:=4,pos:= "check.go:94",after:=#[{ on:=3,ground:=Ground.data },{ on:=16,ground:=Ground.data }],guard:=none }) (v:=_) (fuel:=0) rfl (by kernel_rfl) (by kernel_rfl) (by kernel_rfl) (fun _ _ _ h=>h) (Or.inl ⟨by rfl,?hy17c⟩) (by assumption) ?rest17c
      case hy17c=>(intro w' hSw;(try dsimp only at hSw);go_simp;try with_reducible rfl)
      simp only [Act.put,List.setIfInBounds_toArray,List.set_cons_zero,List.set_cons_succ]
      refine wpAnyH_done (by kernel_rfl) ?_ _
      go_wp2
      exact ⟨⟨j+1+1,by omega,by go_num,HM,bx hbd hb3⟩,by simp [intOf];omega⟩
     ·have HNO:Hid (R=false):=by show _=_;rw [← HR.out];exact ya4 (k:=j+1+1) (by rw [HM.out,hle];rfl)
      have hle':(Op.bytesLess nm.toList pn.toList || nm.toList == pn.toList)=true:=hle
      go_wp2_with fail
      refine wp_region_held_drew (S:=(fun w':World=>w'.cell? ⟨wr.heap.size,0,none⟩=some (.string nm)∧w'.cell? ⟨wr.heap.size,1,none⟩=some (.int .i64 lo)∧w'.cell? ⟨wr.heap.size,2,none⟩=some (.int .i64 hi)∧w'.cell? ⟨b,o+j*3,none⟩=some (.string pn))) (by kernel_rfl) ⟨q0,q1,q2,p0⟩ (fun hHeld=>?_)
      generalize wa.drew=wd at *
      refine' wpAnyH_take (i:=0) (oi:={ dst:=some 12,op:=Op.load 58 (Operand.tmp 4),type:=58,pos:= "check.go:94",after:=#[],guard:=none }) (v:=_) (fuel:=17) rfl (by kernel_rfl) (by kernel_rfl) (by kernel_rfl) (fun _ _ _ h=>h) (Or.inl ⟨by rfl,?hy0d⟩) (by assumption) ?rest0d
      case hy0d=>(intro w' hSw;(try dsimp only at hSw);go_simp;try with_reducible rfl)
      simp only [Act.put,List.setIfInBounds_toArray,List.set_cons_zero,List.set_cons_succ]
      refine wpAnyH_ready (rs:=[1]) (fuel:=16) (by kernel_rfl) (by simp) ?_
      refine AllReadyH.cons (o:={ dst:=some 13,op:=Op.call { callee:=Callee.value (Operand.func 82),args:=#[Operand.tmp 12],argTypes:=#[58] },type:=4,pos:= "check.go:94",after:=#[{ on:=0,ground:=Ground.data }],guard:=none }) rfl (fun K hK=>?_) AllReadyH.nil
      go_simp
      go_at_call 82
      refine (HG.out _ HN.out).mono ?_
      rintro e w3 ⟨rfl,hb3⟩
      go_wp2_with fail
      refine hK.out _ _ ⟨(hb3.cell (p:=⟨wr.heap.size,0,none⟩) hgr).trans hHeld.1,(hb3.cell (p:=⟨wr.heap.size,1,none⟩) hgr).trans hHeld.2.1,(hb3.cell (p:=⟨wr.heap.size,2,none⟩) hgr).trans hHeld.2.2.1,(hb3.cell (p:=⟨b,o+j*3,none⟩) hgb).trans hHeld.2.2.2⟩ (fun hHeld=>?_)
      clear hK K
      (try simp only [Act.put,List.setIfInBounds_toArray,List.set_cons_zero,List.set_cons_succ])
      refine' wpAnyH_take (i:=2) (oi:={ dst:=some 14,op:=Op.unOp UnOp.not 4 (Operand.tmp 13),type:=4,pos:= "check.go:94",after:=#[{ on:=1,ground:=Ground.data }],guard:=none }) (v:=_) (fuel:=15) rfl (by kernel_rfl) (by kernel_rfl) (by kernel_rfl) (fun _ _ _ h=>h) (Or.inl ⟨by rfl,?hy2d⟩) (by assumption) ?rest2d
      case hy2d=>(intro w' hSw;(try dsimp only at hSw);go_simp;try with_reducible rfl)
      simp only [Act.put,List.setIfInBounds_toArray,List.set_cons_zero,List.set_cons_succ]
      refine' wpAnyH_take (i:=3) (oi:={ dst:=some 15,op:=Op.move (Operand.tmp 14),type:=4,pos:= "check.go:94",after:=#[{ on:=2,ground:=Ground.data },{ on:=1,ground:=Ground.chain }],guard:=none }) (v:=_) (fuel:=14) rfl (by kernel_rfl) (by kernel_rfl) (by kernel_rfl) (fun _ _ _ h=>h) (Or.inl ⟨by rfl,?hy3d⟩) (by assumption) ?rest3d
      case hy3d=>(intro w' hSw;(try dsimp only at hSw);go_simp;try with_reducible rfl)
      simp only [Act.put,List.setIfInBounds_toArray,List.set_cons_zero,List.set_cons_succ]
      refine' wpAnyH_take (i:=4) (oi:={ dst:=some 16,op:=Op.move (Operand.tmp 3),type:=3,pos:= "check.go:94",after:=#[{ on:=3,ground:=Ground.guard }],guard:=some (3,false) }) (v:=_) (fuel:=13) rfl (by kernel_rfl) (by kernel_rfl) (by kernel_rfl) (fun _ _ _ h=>h) (Or.inl ⟨by rfl,?hy4d⟩) (by assumption) ?rest4d
      case hy4d=>(intro w' hSw;(try dsimp only at hSw);go_simp;try with_reducible rfl)
      simp only [Act.put,List.setIfInBounds_toArray,List.set_cons_zero,List.set_cons_succ]
      refine' wpAnyH_take (i:=5) (oi:={ dst:=some 17,op:=Op.binOp BinOp.gtr 3 (Operand.tmp 16) (Operand.const (Value.int IntKind.i64 0)) 3,type:=4,pos:= "check.go:94",after:=#[{ on:=4,ground:=Ground.data },{ on:=3,ground:=Ground.guard }],guard:=some (3,false) }) (v:=_) (fuel:=12) rfl (by kernel_rfl) (by kernel_rfl) (by kernel_rfl) (fun _ _ _ h=>h) (Or.inl ⟨by rfl,?hy5d⟩) (by assumption) ?rest5d
      case hy5d=>(intro w' hSw;(try dsimp only at hSw);go_simp;try with_reducible rfl)
      simp only [Act.put,List.setIfInBounds_toArray,List.set_cons_zero,List.set_cons_succ]
      refine' wpAnyH_take (i:=6) (oi:={ dst:=some 18,op:=Op.move (Operand.tmp 17),type:=4,pos:= "check.go:94",after:=#[{ on:=5,ground:=Ground.data },{ on:=3,ground:=Ground.chain },{ on:=3,ground:=Ground.guard }],guard:=some (3,false) }) (v:=_) (fuel:=11) rfl (by kernel_rfl) (by kernel_rfl) (by kernel_rfl) (fun _ _ _ h=>h) (Or.inl ⟨by rfl,?hy6d⟩) (by assumption) ?rest6d
      case hy6d=>(intro w' hSw;(try dsimp only at hSw);go_simp;try with_reducible rfl)
      simp only [Act.put,List.setIfInBounds_toArray,List.set_cons_zero,List.set_cons_succ]
      refine' wpAnyH_take (i:=7) (oi:={ dst:=some 19,op:=Op.fieldAddr 58 (Operand.tmp 4) 0,type:=0,pos:= "check.go:94",after:=#[{ on:=6,ground:=Ground.guard }],guard:=some (6,true) }) (v:=_) (fuel:=10) rfl (by kernel_rfl) (by kernel_rfl) (by kernel_rfl) (fun _ _ _ h=>h) (Or.inl ⟨by rfl,?hy7d⟩) (by assumption) ?rest7d
      case hy7d=>(intro w' hSw;(try dsimp only at hSw);go_simp;try with_reducible rfl)
      simp only [Act.put,List.setIfInBounds_toArray,List.set_cons_zero,List.set_cons_succ]
      refine' wpAnyH_take (i:=8) (oi:={ dst:=some 20,op:=Op.load 9 (Operand.tmp 19),type:=9,pos:= "check.go:94",after:=#[{ on:=7,ground:=Ground.data },{ on:=6,ground:=Ground.guard }],guard:=some (6,true) }) (v:=_) (fuel:=9) rfl (by kernel_rfl) (by kernel_rfl) (by kernel_rfl) (fun _ _ _ h=>h) (Or.inl ⟨by rfl,?hy8d⟩) (by assumption) ?rest8d
      case hy8d=>(intro w' hSw;(try dsimp only at hSw);go_simp;try with_reducible rfl)
      simp only [Act.put,List.setIfInBounds_toArray,List.set_cons_zero,List.set_cons_succ]
      refine' wpAnyH_take (i:=9) (oi:={ dst:=some 21,op:=Op.move (Operand.tmp 0),type:=35,pos:= "check.go:94",after:=#[{ on:=6,ground:=Ground.guard }],guard:=some (6,true) }) (v:=_) (fuel:=8) rfl (by kernel_rfl) (by kernel_rfl) (by kernel_rfl) (fun _ _ _ h=>h) (Or.inl ⟨by rfl,?hy9d⟩) (by assumption) ?rest9d
      case hy9d=>(intro w' hSw;(try dsimp only at hSw);go_simp;try with_reducible rfl)
      simp only [Act.put,List.setIfInBounds_toArray,List.set_cons_zero,List.set_cons_succ]
      refine' wpAnyH_take (i:=10) (oi:={ dst:=some 22,op:=Op.move (Operand.tmp 3),type:=3,pos:= "check.go:94",after:=#[{ on:=6,ground:=Ground.guard }],guard:=some (6,true) }) (v:=_) (fuel:=7) rfl (by kernel_rfl) (by kernel_rfl) (by kernel_rfl) (fun _ _ _ h=>h) (Or.inl ⟨by rfl,?hy10d⟩) (by assumption) ?rest10d
      case hy10d=>(intro w' hSw;(try dsimp only at hSw);go_simp;try with_reducible rfl)
      simp only [Act.put,List.setIfInBounds_toArray,List.set_cons_zero,List.set_cons_succ]
      refine' wpAnyH_take (i:=11) (oi:={ dst:=some 23,op:=Op.binOp BinOp.sub 3 (Operand.tmp 22) (Operand.const (Value.int IntKind.i64 1)) 3,type:=3,pos:= "check.go:94",after:=#[{ on:=10,ground:=Ground.data },{ on:=6,ground:=Ground.guard }],guard:=some (6,true) }) (v:=_) (fuel:=6) rfl (by kernel_rfl) (by kernel_rfl) (by kernel_rfl) (fun _ _ _ h=>h) (Or.inl ⟨by rfl,?hy11d⟩) (by assumption) ?rest11d
      case hy11d=>(intro w' hSw;(try dsimp only at hSw);go_simp;try with_reducible rfl)
      simp only [Act.put,List.setIfInBounds_toArray,List.set_cons_zero,List.set_cons_succ]
      refine' wpAnyH_take (i:=12) (oi:={ dst:=some 24,op:=Op.indexAddr 35 (Operand.tmp 21) (Operand.tmp 23),type:=0,pos:= "check.go:94",after:=#[{ on:=9,ground:=Ground.data },{ on:=11,ground:=Ground.data },{ on:=6,ground:=Ground.guard }],guard:=some (6,true) }) (v:=_) (fuel:=5) rfl (by kernel_rfl) (by kernel_rfl) (by kernel_rfl) (fun _ _ _ h=>h) (Or.inl ⟨by rfl,?hy12d⟩) (by assumption) ?rest12d
      case hy12d=>(intro w' hSw;(try dsimp only at hSw);go_simp;try with_reducible rfl)
      simp only [Act.put,List.setIfInBounds_toArray,List.set_cons_zero,List.set_cons_succ]
      refine' wpAnyH_take (i:=13) (oi:={ dst:=some 25,op:=Op.fieldAddr 58 (Operand.tmp 24) 0,type:=0,pos:= "check.go:94",after:=#[{ on:=12,ground:=Ground.data },{ on:=6,ground:=Ground.guard }],guard:=some (6,true) }) (v:=_) (fuel:=4) rfl (by kernel_rfl) (by kernel_rfl) (by kernel_rfl) (fun _ _ _ h=>h) (Or.inl ⟨by rfl,?hy13d⟩) (by assumption) ?rest13d
      case hy13d=>(intro w' hSw;(try dsimp only at hSw);go_simp;try with_reducible rfl)
      simp only [Act.put,List.setIfInBounds_toArray,List.set_cons_zero,List.set_cons_succ]
      refine' wpAnyH_take (i:=14) (oi:={ dst:=some 26,op:=Op.load 9 (Operand.tmp 25),type:=9,pos:= "check.go:94",after:=#[{ on:=13,ground:=Ground.data },{ on:=6,ground:=Ground.guard }],guard:=some (6,true) }) (v:=_) (fuel:=3) rfl (by kernel_rfl) (by kernel_rfl) (by kernel_rfl) (fun _ _ _ h=>h) (Or.inl ⟨by rfl,?hy14d⟩) (by assumption) ?rest14d
      case hy14d=>(intro w' hSw;(try dsimp only at hSw);go_simp;try with_reducible rfl)
      simp only [Act.put,List.setIfInBounds_toArray,List.set_cons_zero,List.set_cons_succ]
      refine' wpAnyH_take (i:=15) (oi:={ dst:=some 27,op:=Op.binOp BinOp.leq 9 (Operand.tmp 20) (Operand.tmp 26) 9,type:=4,pos:= "check.go:94",after:=#[{ on:=8,ground:=Ground.data },{ on:=14,ground:=Ground.data },{ on:=6,ground:=Ground.guard }],guard:=some (6,true) }) (v:=_) (fuel:=2) rfl (by kernel_rfl) (by kernel_rfl) (by kernel_rfl) (fun _ _ _ h=>h) (Or.inl ⟨by rfl,?hy15d⟩) (by assumption) ?rest15d
      case hy15d=>(intro w' hSw;(try dsimp only at hSw);go_simp;try with_reducible rfl)
      simp only [Act.put,List.setIfInBounds_toArray,List.set_cons_zero,List.set_cons_succ]
      refine' wpAnyH_take (i:=16) (oi:={ dst:=some 28,op:=Op.pick (Operand.tmp 18) (Operand.tmp 27) (Operand.const (Value.bool false)),type:=4,pos:= "check.go:94",after:=#[{ on:=6,ground:=Ground.data },{ on:=15,ground:=Ground.data },{ on:=3,ground:=Ground.guard }],guard:=some (3,false) }) (v:=_) (fuel:=1) rfl (by kernel_rfl) (by kernel_rfl) (by kernel_rfl) (fun _ _ _ h=>h) (Or.inl ⟨by rfl,?hy16d⟩) (by assumption) ?rest16d
      case hy16d=>(intro w' hSw;(try dsimp only at hSw);go_simp;try with_reducible rfl)
      simp only [Act.put,List.setIfInBounds_toArray,List.set_cons_zero,List.set_cons_succ]
      refine' wpAnyH_take (i:=17) (oi:={ dst:=some 29,op:=Op.pick (Operand.tmp 15) (Operand.const (Value.bool true)) (Operand.tmp 28),type:=4,pos:= "check.go:94",after:=#[{ on:=3,ground:=Ground.data },{ on:=16,ground:=Ground.data }],guard:=none }) (v:=_) (fuel:=0) rfl (by kernel_rfl) (by kernel_rfl) (by kernel_rfl) (fun _ _ _ h=>h) (Or.inl ⟨by rfl,?hy17d⟩) (by assumption) ?rest17d
      case hy17d=>(intro w' hSw;(try dsimp only at hSw);go_simp;try with_reducible rfl)
      simp only [Act.put,List.setIfInBounds_toArray,List.set_cons_zero,List.set_cons_succ]
      refine wpAnyH_done (by kernel_rfl) ?_ _
      go_wp2
      go_ret
      exact ⟨jad HNO.out.symm,bx hbd hb3⟩
  ·have e:l.take k=l:=List.take_of_length_le (by omega)
   have hf':=hf.out
   rw [e] at hf'
   have HF:Hid (R=true):=by show _=_;rw [← HR.out];exact hf'
   clear hf'
   go_wp2
   go_ret
   exact ⟨jad HF.out.symm,hb⟩
open Go.RowKit
def je7 (ds:List DomD) (l:List TabD):Bool:=l.all jbd && jdc (·.name) l && l.all fun t=>(jdj ds t.name).isNone
theorem jhi {ds:List DomD} {l:List TabD}:je7 ds l=true↔(∀ t,t∈l→jbd t=true)∧jdc (·.name) l=true∧∀ t,t∈l→jdj ds t.name=none:=by
 unfold je7
 simp only [Bool.and_eq_true,List.all_eq_true,and_assoc,Option.isNone_iff_eq_none]
theorem ya6 {ds:List DomD} {l:List TabD} (k:Nat) (h:je7 ds l=true):je7 ds (l.take k)=true:=by
 rw [jhi] at h ⊢
 exact ⟨fun t ht=>h.1 t (List.mem_of_mem_take ht),jr2 k h.2.1,fun t ht=>h.2.2 t (List.mem_of_mem_take ht)⟩
theorem ya7 {ds:List DomD} {l:List TabD} {k:Nat} (h:je7 ds (l.take k)≠true):je7 ds l=false:=by
 cases hh:je7 ds l
 ·rfl
 ·exact absurd (ya6 k hh) h
theorem jw5 {ds:List DomD} {l:List TabD} {k:Nat} {t:TabD} (h:l[k]? = some t) (hd:jbd t=false):je7 ds l=false:=by
 cases hh:je7 ds l
 ·rfl
 ·rw [(jhi.1 hh).1 t (List.mem_of_getElem? h)] at hd;cases hd
theorem jnj {ds:List DomD} {l:List TabD} {k:Nat} {t:TabD} {d:DomD} (h:l[k]? = some t) (hd:jdj ds t.name=some d):je7 ds l=false:=by
 cases hh:je7 ds l
 ·rfl
 ·rw [(jhi.1 hh).2.2 t (List.mem_of_getElem? h)] at hd;cases hd
theorem yg6 {ds:List DomD} {l:List TabD} {j:Nat} {x y:TabD} (h:l[j+1]? = some x) (h':l[j]? = some y) (hle:leS x.name y.name=true):je7 ds l=false:=by
 refine ya7 (k:=j+1+1) fun hh=>?_
 have:=(jhi.1 hh).2.1
 rw [jqr h h',hle] at this
 simp at this
theorem ya5 {ds:List DomD} {l:List TabD} {t:TabD} (h:l[0]? = some t) (hd:jbd t=true) (hf:jdj ds t.name=none):je7 ds (l.take (0+1))=true:=by
 rw [jai h];simp [je7,hd,jdc,hf]
theorem ydp {ds:List DomD} {l:List TabD} {j:Nat} {x y:TabD} (h:l[j+1]? = some x) (h':l[j]? = some y) (hg:je7 ds (l.take (j+1))=true) (hd:jbd x=true) (hle:leS x.name y.name=false) (hf:jdj ds x.name=none):je7 ds (l.take (j+1+1))=true:=by
 rw [jhi] at hg ⊢
 refine ⟨?_,by rw [jqr h h',hg.2.1,hle];rfl,?_⟩
 ·intro t ht
  rw [jai h] at ht
  rcases List.mem_append.1 ht with ht | ht
  ·exact hg.1 t ht
  ·rw [List.mem_singleton] at ht;subst ht;exact hd
 ·intro t ht
  rw [jai h] at ht
  rcases List.mem_append.1 ht with ht | ht
  ·exact hg.2.2 t ht
  ·rw [List.mem_singleton] at ht;subst ht;exact hf
theorem jtw (b:BookD) (v:Value) (w:World) (h:jar w (Old w) b v) (hs:jgd b) :
  Calls Tryz.prog 52 #[v] w fun e w'=>e = .returned (.bool (jfg b))∧Below w.heap.size w w':=by
 have HSM:=Lib.hid hs.2
 have HBK:=Lib.hid h
 clear hs
 obtain ⟨doms,tabs⟩:=b
 obtain ⟨vd,vt,rfl,h1,h2⟩:=h
 simp only at h1 h2 HSM
 have H:=Lib.hid h2
 obtain ⟨A,c,rfl,hc1,hc2,-⟩:=h1
 obtain ⟨B,d,rfl,hd1,hd2,-⟩:=h2
 unfold maxLen at hc2 hd2
 have HR:Hid (je7 doms tabs=jfg ⟨doms,tabs⟩):=rfl
 generalize jfg ⟨doms,tabs⟩=R at *
 have hb0:=jaa w (.cells #[.slice A doms.length c,.slice B tabs.length d] 38)
 have C0:=Lib.hid (Cs.new w [.slice A doms.length c,.slice B tabs.length d] 38)
 change Hid (Cs (w.alloc (.cells #[.slice A doms.length c,.slice B tabs.length d] 38)) _ _) at C0
 generalize hw0:w.alloc (.cells #[.slice A doms.length c,.slice B tabs.length d] 38)=w0 at *
 have k1:=C0.out.at 1 rfl
 go_enter Tryz.func52,Tryz.ntmps52
 go_wp2
 go_loopw [10] (fun i wr=>∃ k:Nat,k≤tabs.length∧i = .int .i64 k∧Hid (je7 doms (tabs.take k)=true)∧Hid (Cs wr w.heap.size [.slice A doms.length c,.slice B tabs.length d])∧Below w.heap.size w wr) (fun i _=>tabs.length-(intOf i).toNat)
 case atStart=>exact ⟨0,Nat.zero_le _,rfl,rfl,C0,hb0⟩
 case round =>
  clear hw0 k1 hb0
  obtain ⟨k,hk,rfl,hf,CB,hb⟩:=hrel
  by_cases hlt:k<tabs.length
  ·obtain ⟨b,o,nm,pol,comp,ins,rules,vi,vr,rfl,hSb,hx,c1,c2,c3,c4,c5,hi,hr⟩:=(H.out.onOld hb).tab_at hlt
   have HT0:Hid (ja9 wr (Old wr) ⟨nm,pol,comp,ins,rules⟩ (.agg #[.string nm,.int .i64 pol,.bool comp,vi,vr])):=⟨_,_,rfl,hi,hr⟩
   obtain ⟨Ai,ci,rfl,-,-⟩:=hi.form
   obtain ⟨Ar,cr,rfl,-,-⟩:=hr.form
   clear hi hr
   have hbz:=jaa wr (.cells #[.string nm,.int .i64 pol,.bool comp,.slice Ai ins.length ci,.slice Ar rules.length cr] 56)
   have hb2:=bx hb hbz
   have CN:=Lib.hid (Cs.new wr [.string nm,.int .i64 pol,.bool comp,.slice Ai ins.length ci,.slice Ar rules.length cr] 56)
   change Hid (Cs (wr.alloc (.cells #[.string nm,.int .i64 pol,.bool comp,.slice Ai ins.length ci,.slice Ar rules.length cr] 56)) _ _) at CN
   have CBa:=Lib.hid (CB.out.next hbz)
   have q0:=CN.out.at 0 rfl
   have q1:=CN.out.at 1 rfl
   have q2:=CN.out.at 2 rfl
   have q3:=CN.out.at 3 rfl
   have q4:=CN.out.at 4 rfl
   have k0:=CBa.out.at 0 rfl
   have k1:=CBa.out.at 1 rfl
   have HN:=Lib.hid (HSM.out _ (List.mem_of_getElem? hx.out))
   generalize hwa:wr.alloc (.cells #[.string nm,.int .i64 pol,.bool comp,.slice Ai ins.length ci,.slice Ar rules.length cr] 56)=wa at *
   have HTA:=Lib.hid (HT0.out.onOld hbz)
   have hbd:Below w.heap.size w wa.drew:=hb2.drew
   have hbad:Below wa.heap.size wa wa.drew:=(Below.refl _ _).drew
   have HTD:=Lib.hid (HTA.out.onOld hbad)
   have HG:=Lib.hid (jeb ⟨nm,pol,comp,ins,rules⟩ _ _ HTD.out HN.out)
   have CBd:=Lib.hid (CBa.out.next hbad)
   have CNd:=Lib.hid (CN.out.next hbad)
   have hgr:wr.heap.size<wa.drew.heap.size:=CN.out.1
   have hgw:w.heap.size<wa.drew.heap.size:=CBa.out.1
   cases hg:jbd ⟨nm,pol,comp,ins,rules⟩
   ·rw [hg] at HG
    have HNO:Hid (R=false):=by show _=_;rw [← HR.out];exact jw5 hx.out hg
    clear hg
    go_wp2_with fail
    refine wp_region_held_drew (S:=(fun w':World=>w'.cell? ⟨wr.heap.size,0,none⟩=some (.string nm)∧w'.cell? ⟨wr.heap.size,1,none⟩=some (.int .i64 pol)∧w'.cell? ⟨wr.heap.size,2,none⟩=some (.bool comp)∧w'.cell? ⟨wr.heap.size,3,none⟩=some (.slice Ai ins.length ci)∧w'.cell? ⟨wr.heap.size,4,none⟩=some (.slice Ar rules.length cr)∧w'.cell? ⟨w.heap.size,0,none⟩=some (.slice A doms.length c)∧w'.cell? ⟨w.heap.size,1,none⟩=some (.slice (some ⟨b,o,none⟩) tabs.length d))) (by kernel_rfl) ⟨q0,q1,q2,q3,q4,k0,k1⟩ (fun hHeld=>?_)
    generalize wa.drew=wd at *
    refine' wpAnyH_take (i:=0) (oi:={ dst:=some 15,op:=Op.load 56 (Operand.tmp 4),type:=56,pos:= "check.go:105",after:=#[],guard:=none }) (v:=_) (fuel:=18) rfl (by kernel_rfl) (by kernel_rfl) (by kernel_rfl) (fun _ _ _ h=>h) (Or.inl ⟨by rfl,?hy0a⟩) (by assumption) ?rest0a
    case hy0a=>(intro w' hSw;(try dsimp only at hSw);go_simp;try with_reducible rfl)
    simp only [Act.put,List.setIfInBounds_toArray,List.set_cons_zero,List.set_cons_succ]
    refine wpAnyH_ready (rs:=[1]) (fuel:=17) (by kernel_rfl) (by simp) ?_
    refine AllReadyH.cons (o:={ dst:=some 16,op:=Op.call { callee:=Callee.value (Operand.func 83),args:=#[Operand.tmp 15],argTypes:=#[56] },type:=4,pos:= "check.go:105",after:=#[{ on:=0,ground:=Ground.data }],guard:=none }) rfl (fun K hK=>?_) AllReadyH.nil
    go_simp
    go_at_call 83
    refine HG.out.mono ?_
    rintro e w3 ⟨rfl,hb3⟩
    go_wp2_with fail
    refine hK.out _ _ ⟨(hb3.cell (p:=⟨wr.heap.size,0,none⟩) hgr).trans hHeld.1,(hb3.cell (p:=⟨wr.heap.size,1,none⟩) hgr).trans hHeld.2.1,(hb3.cell (p:=⟨wr.heap.size,2,none⟩) hgr).trans hHeld.2.2.1,(hb3.cell (p:=⟨wr.heap.size,3,none⟩) hgr).trans hHeld.2.2.2.1,(hb3.cell (p:=⟨wr.heap.size,4,none⟩) hgr).trans hHeld.2.2.2.2.1,(hb3.cell (p:=⟨w.heap.size,0,none⟩) hgw).trans hHeld.2.2.2.2.2.1,(hb3.cell (p:=⟨w.heap.size,1,none⟩) hgw).trans hHeld.2.2.2.2.2.2⟩ (fun hHeld=>?_)
    clear hK K
    (try simp only [Act.put,List.setIfInBounds_toArray,List.set_cons_zero,List.set_cons_succ])
    refine' wpAnyH_take (i:=2) (oi:={ dst:=some 17,op:=Op.unOp UnOp.not 4 (Operand.tmp 16),type:=4,pos:= "check.go:105",after:=#[{ on:=1,ground:=Ground.data }],guard:=none }) (v:=_) (fuel:=16) rfl (by kernel_rfl) (by kernel_rfl) (by kernel_rfl) (fun _ _ _ h=>h) (Or.inl ⟨by rfl,?hy2a⟩) (by assumption) ?rest2a
    case hy2a=>(intro w' hSw;(try dsimp only at hSw);go_simp;try with_reducible rfl)
    simp only [Act.put,List.setIfInBounds_toArray,List.set_cons_zero,List.set_cons_succ]
    refine' wpAnyH_take (i:=3) (oi:={ dst:=some 18,op:=Op.move (Operand.tmp 17),type:=4,pos:= "check.go:105",after:=#[{ on:=2,ground:=Ground.data },{ on:=1,ground:=Ground.chain }],guard:=none }) (v:=_) (fuel:=15) rfl (by kernel_rfl) (by kernel_rfl) (by kernel_rfl) (fun _ _ _ h=>h) (Or.inl ⟨by rfl,?hy3a⟩) (by assumption) ?rest3a
    case hy3a=>(intro w' hSw;(try dsimp only at hSw);go_simp;try with_reducible rfl)
    simp only [Act.put,List.setIfInBounds_toArray,List.set_cons_zero,List.set_cons_succ]
    refine' wpAnyH_take (i:=4) (oi:={ dst:=some 19,op:=Op.move (Operand.tmp 3),type:=3,pos:= "check.go:105",after:=#[{ on:=3,ground:=Ground.guard }],guard:=some (3,false) }) (v:=undef) (fuel:=14) rfl (by kernel_rfl) (by kernel_rfl) (by kernel_rfl) (fun _ _ _ h=>h) (Or.inr ⟨by rfl,rfl⟩) (by assumption) ?rest4a
    simp only [Act.put,List.setIfInBounds_toArray,List.set_cons_zero,List.set_cons_succ]
    refine' wpAnyH_take (i:=5) (oi:={ dst:=some 20,op:=Op.binOp BinOp.gtr 3 (Operand.tmp 19) (Operand.const (Value.int IntKind.i64 0)) 3,type:=4,pos:= "check.go:105",after:=#[{ on:=4,ground:=Ground.data },{ on:=3,ground:=Ground.guard }],guard:=some (3,false) }) (v:=undef) (fuel:=13) rfl (by kernel_rfl) (by kernel_rfl) (by kernel_rfl) (fun _ _ _ h=>h) (Or.inr ⟨by rfl,rfl⟩) (by assumption) ?rest5a
    simp only [Act.put,List.setIfInBounds_toArray,List.set_cons_zero,List.set_cons_succ]
    refine' wpAnyH_take (i:=6) (oi:={ dst:=some 21,op:=Op.move (Operand.tmp 20),type:=4,pos:= "check.go:105",after:=#[{ on:=5,ground:=Ground.data },{ on:=3,ground:=Ground.chain },{ on:=3,ground:=Ground.guard }],guard:=some (3,false) }) (v:=undef) (fuel:=12) rfl (by kernel_rfl) (by kernel_rfl) (by kernel_rfl) (fun _ _ _ h=>h) (Or.inr ⟨by rfl,rfl⟩) (by assumption) ?rest6a
    simp only [Act.put,List.setIfInBounds_toArray,List.set_cons_zero,List.set_cons_succ]
    refine' wpAnyH_take (i:=7) (oi:={ dst:=some 22,op:=Op.fieldAddr 56 (Operand.tmp 4) 0,type:=0,pos:= "check.go:105",after:=#[{ on:=6,ground:=Ground.guard }],guard:=some (6,true) }) (v:=undef) (fuel:=11) rfl (by kernel_rfl) (by kernel_rfl) (by kernel_rfl) (fun _ _ _ h=>h) (Or.inr ⟨by rfl,rfl⟩) (by assumption) ?rest7a
    simp only [Act.put,List.setIfInBounds_toArray,List.set_cons_zero,List.set_cons_succ]
    refine' wpAnyH_take (i:=8) (oi:={ dst:=some 23,op:=Op.load 9 (Operand.tmp 22),type:=9,pos:= "check.go:105",after:=#[{ on:=7,ground:=Ground.data },{ on:=6,ground:=Ground.guard }],guard:=some (6,true) }) (v:=undef) (fuel:=10) rfl (by kernel_rfl) (by kernel_rfl) (by kernel_rfl) (fun _ _ _ h=>h) (Or.inr ⟨by rfl,rfl⟩) (by assumption) ?rest8a
    simp only [Act.put,List.setIfInBounds_toArray,List.set_cons_zero,List.set_cons_succ]
    refine' wpAnyH_take (i:=9) (oi:={ dst:=some 24,op:=Op.fieldAddr 38 (Operand.tmp 1) 1,type:=0,pos:= "check.go:105",after:=#[{ on:=6,ground:=Ground.guard }],guard:=some (6,true) }) (v:=undef) (fuel:=9) rfl (by kernel_rfl) (by kernel_rfl) (by kernel_rfl) (fun _ _ _ h=>h) (Or.inr ⟨by rfl,rfl⟩) (by assumption) ?rest9a
    simp only [Act.put,List.setIfInBounds_toArray,List.set_cons_zero,List.set_cons_succ]
    refine' wpAnyH_take (i:=10) (oi:={ dst:=some 25,op:=Op.load 36 (Operand.tmp 24),type:=36,pos:= "check.go:105",after:=#[{ on:=9,ground:=Ground.data },{ on:=6,ground:=Ground.guard }],guard:=some (6,true) }) (v:=undef) (fuel:=8) rfl (by kernel_rfl) (by kernel_rfl) (by kernel_rfl) (fun _ _ _ h=>h) (Or.inr ⟨by rfl,rfl⟩) (by assumption) ?rest10a
    simp only [Act.put,List.setIfInBounds_toArray,List.set_cons_zero,List.set_cons_succ]
    refine' wpAnyH_take (i:=11) (oi:={ dst:=some 26,op:=Op.move (Operand.tmp 3),type:=3,pos:= "check.go:105",after:=#[{ on:=6,ground:=Ground.guard }],guard:=some (6,true) }) (v:=undef) (fuel:=7) rfl (by kernel_rfl) (by kernel_rfl) (by kernel_rfl) (fun _ _ _ h=>h) (Or.inr ⟨by rfl,rfl⟩) (by assumption) ?rest11a
    simp only [Act.put,List.setIfInBounds_toArray,List.set_cons_zero,List.set_cons_succ]
    refine' wpAnyH_take (i:=12) (oi:={ dst:=some 27,op:=Op.binOp BinOp.sub 3 (Operand.tmp 26) (Operand.const (Value.int IntKind.i64 1)) 3,type:=3,pos:= "check.go:105",after:=#[{ on:=11,ground:=Ground.data },{ on:=6,ground:=Ground.guard }],guard:=some (6,true) }) (v:=undef) (fuel:=6) rfl (by kernel_rfl) (by kernel_rfl) (by kernel_rfl) (fun _ _ _ h=>h) (Or.inr ⟨by rfl,rfl⟩) (by assumption) ?rest12a
    simp only [Act.put,List.setIfInBounds_toArray,List.set_cons_zero,List.set_cons_succ]
    refine' wpAnyH_take (i:=13) (oi:={ dst:=some 28,op:=Op.indexAddr 36 (Operand.tmp 25) (Operand.tmp 27),type:=0,pos:= "check.go:105",after:=#[{ on:=10,ground:=Ground.data },{ on:=12,ground:=Ground.data },{ on:=6,ground:=Ground.guard }],guard:=some (6,true) }) (v:=undef) (fuel:=5) rfl (by kernel_rfl) (by kernel_rfl) (by kernel_rfl) (fun _ _ _ h=>h) (Or.inr ⟨by rfl,rfl⟩) (by assumption) ?rest13a
    simp only [Act.put,List.setIfInBounds_toArray,List.set_cons_zero,List.set_cons_succ]
    refine' wpAnyH_take (i:=14) (oi:={ dst:=some 29,op:=Op.fieldAddr 56 (Operand.tmp 28) 0,type:=0,pos:= "check.go:105",after:=#[{ on:=13,ground:=Ground.data },{ on:=6,ground:=Ground.guard }],guard:=some (6,true) }) (v:=undef) (fuel:=4) rfl (by kernel_rfl) (by kernel_rfl) (by kernel_rfl) (fun _ _ _ h=>h) (Or.inr ⟨by rfl,rfl⟩) (by assumption) ?rest14a
    simp only [Act.put,List.setIfInBounds_toArray,List.set_cons_zero,List.set_cons_succ]
    refine' wpAnyH_take (i:=15) (oi:={ dst:=some 30,op:=Op.load 9 (Operand.tmp 29),type:=9,pos:= "check.go:105",after:=#[{ on:=14,ground:=Ground.data },{ on:=6,ground:=Ground.guard }],guard:=some (6,true) }) (v:=undef) (fuel:=3) rfl (by kernel_rfl) (by kernel_rfl) (by kernel_rfl) (fun _ _ _ h=>h) (Or.inr ⟨by rfl,rfl⟩) (by assumption) ?rest15a
    simp only [Act.put,List.setIfInBounds_toArray,List.set_cons_zero,List.set_cons_succ]
    refine' wpAnyH_take (i:=16) (oi:={ dst:=some 31,op:=Op.binOp BinOp.leq 9 (Operand.tmp 23) (Operand.tmp 30) 9,type:=4,pos:= "check.go:105",after:=#[{ on:=8,ground:=Ground.data },{ on:=15,ground:=Ground.data },{ on:=6,ground:=Ground.guard }],guard:=some (6,true) }) (v:=undef) (fuel:=2) rfl (by kernel_rfl) (by kernel_rfl) (by kernel_rfl) (fun _ _ _ h=>h) (Or.inr ⟨by rfl,rfl⟩) (by assumption) ?rest16a
    simp only [Act.put,List.setIfInBounds_toArray,List.set_cons_zero,List.set_cons_succ]
    refine' wpAnyH_take (i:=17) (oi:={ dst:=some 32,op:=Op.pick (Operand.tmp 21) (Operand.tmp 31) (Operand.const (Value.bool false)),type:=4,pos:= "check.go:105",after:=#[{ on:=6,ground:=Ground.data },{ on:=16,ground:=Ground.data },{ on:=3,ground:=Ground.guard }],guard:=some (3,false) }) (v:=undef) (fuel:=1) rfl (by kernel_rfl) (by kernel_rfl) (by kernel_rfl) (fun _ _ _ h=>h) (Or.inr ⟨by rfl,rfl⟩) (by assumption) ?rest17a
    simp only [Act.put,List.setIfInBounds_toArray,List.set_cons_zero,List.set_cons_succ]
    refine' wpAnyH_take (i:=18) (oi:={ dst:=some 33,op:=Op.pick (Operand.tmp 18) (Operand.const (Value.bool true)) (Operand.tmp 32),type:=4,pos:= "check.go:105",after:=#[{ on:=3,ground:=Ground.data },{ on:=17,ground:=Ground.data }],guard:=none }) (v:=_) (fuel:=0) rfl (by kernel_rfl) (by kernel_rfl) (by kernel_rfl) (fun _ _ _ h=>h) (Or.inl ⟨by rfl,?hy18a⟩) (by assumption) ?rest18a
    case hy18a=>(intro w' hSw;(try dsimp only at hSw);go_simp;try with_reducible rfl)
    simp only [Act.put,List.setIfInBounds_toArray,List.set_cons_zero,List.set_cons_succ]
    refine wpAnyH_done (by kernel_rfl) ?_ _
    go_wp2
    go_ret
    exact ⟨jad HNO.out.symm,bx hbd hb3⟩
   ·rw [hg] at HG
    have HGD:=Lib.hid hg
    clear hg
    by_cases hk0:k=0
    ·subst hk0
     rw [Nat.zero_mul,Nat.add_zero] at c1 c2 c3 c4 c5
     go_wp2_with fail
     refine wp_region_held_drew (S:=(fun w':World=>w'.cell? ⟨wr.heap.size,0,none⟩=some (.string nm)∧w'.cell? ⟨wr.heap.size,1,none⟩=some (.int .i64 pol)∧w'.cell? ⟨wr.heap.size,2,none⟩=some (.bool comp)∧w'.cell? ⟨wr.heap.size,3,none⟩=some (.slice Ai ins.length ci)∧w'.cell? ⟨wr.heap.size,4,none⟩=some (.slice Ar rules.length cr)∧w'.cell? ⟨w.heap.size,0,none⟩=some (.slice A doms.length c)∧w'.cell? ⟨w.heap.size,1,none⟩=some (.slice (some ⟨b,o,none⟩) tabs.length d))) (by kernel_rfl) ⟨q0,q1,q2,q3,q4,k0,k1⟩ (fun hHeld=>?_)
     generalize wa.drew=wd at *
     refine' wpAnyH_take (i:=0) (oi:={ dst:=some 15,op:=Op.load 56 (Operand.tmp 4),type:=56,pos:= "check.go:105",after:=#[],guard:=none }) (v:=_) (fuel:=18) rfl (by kernel_rfl) (by kernel_rfl) (by kernel_rfl) (fun _ _ _ h=>h) (Or.inl ⟨by rfl,?hy0b⟩) (by assumption) ?rest0b
     case hy0b=>(intro w' hSw;(try dsimp only at hSw);go_simp;try with_reducible rfl)
     simp only [Act.put,List.setIfInBounds_toArray,List.set_cons_zero,List.set_cons_succ]
     refine wpAnyH_ready (rs:=[1]) (fuel:=17) (by kernel_rfl) (by simp) ?_
     refine AllReadyH.cons (o:={ dst:=some 16,op:=Op.call { callee:=Callee.value (Operand.func 83),args:=#[Operand.tmp 15],argTypes:=#[56] },type:=4,pos:= "check.go:105",after:=#[{ on:=0,ground:=Ground.data }],guard:=none }) rfl (fun K hK=>?_) AllReadyH.nil
     go_simp
     go_at_call 83
     refine HG.out.mono ?_
     rintro e w3 ⟨rfl,hb3⟩
     go_wp2_with fail
     refine hK.out _ _ ⟨(hb3.cell (p:=⟨wr.heap.size,0,none⟩) hgr).trans hHeld.1,(hb3.cell (p:=⟨wr.heap.size,1,none⟩) hgr).trans hHeld.2.1,(hb3.cell (p:=⟨wr.heap.size,2,none⟩) hgr).trans hHeld.2.2.1,(hb3.cell (p:=⟨wr.heap.size,3,none⟩) hgr).trans hHeld.2.2.2.1,(hb3.cell (p:=⟨wr.heap.size,4,none⟩) hgr).trans hHeld.2.2.2.2.1,(hb3.cell (p:=⟨w.heap.size,0,none⟩) hgw).trans hHeld.2.2.2.2.2.1,(hb3.cell (p:=⟨w.heap.size,1,none⟩) hgw).trans hHeld.2.2.2.2.2.2⟩ (fun hHeld=>?_)
     clear hK K
     (try simp only [Act.put,List.setIfInBounds_toArray,List.set_cons_zero,List.set_cons_succ])
     refine' wpAnyH_take (i:=2) (oi:={ dst:=some 17,op:=Op.unOp UnOp.not 4 (Operand.tmp 16),type:=4,pos:= "check.go:105",after:=#[{ on:=1,ground:=Ground.data }],guard:=none }) (v:=_) (fuel:=16) rfl (by kernel_rfl) (by kernel_rfl) (by kernel_rfl) (fun _ _ _ h=>h) (Or.inl ⟨by rfl,?hy2b⟩) (by assumption) ?rest2b
     case hy2b=>(intro w' hSw;(try dsimp only at hSw);go_simp;try with_reducible rfl)
     simp only [Act.put,List.setIfInBounds_toArray,List.set_cons_zero,List.set_cons_succ]
     refine' wpAnyH_take (i:=3) (oi:={ dst:=some 18,op:=Op.move (Operand.tmp 17),type:=4,pos:= "check.go:105",after:=#[{ on:=2,ground:=Ground.data },{ on:=1,ground:=Ground.chain }],guard:=none }) (v:=_) (fuel:=15) rfl (by kernel_rfl) (by kernel_rfl) (by kernel_rfl) (fun _ _ _ h=>h) (Or.inl ⟨by rfl,?hy3b⟩) (by assumption) ?rest3b
     case hy3b=>(intro w' hSw;(try dsimp only at hSw);go_simp;try with_reducible rfl)
     simp only [Act.put,List.setIfInBounds_toArray,List.set_cons_zero,List.set_cons_succ]
     refine' wpAnyH_take (i:=4) (oi:={ dst:=some 19,op:=Op.move (Operand.tmp 3),type:=3,pos:= "check.go:105",after:=#[{ on:=3,ground:=Ground.guard }],guard:=some (3,false) }) (v:=_) (fuel:=14) rfl (by kernel_rfl) (by kernel_rfl) (by kernel_rfl) (fun _ _ _ h=>h) (Or.inl ⟨by rfl,?hy4b⟩) (by assumption) ?rest4b
     case hy4b=>(intro w' hSw;(try dsimp only at hSw);go_simp;try with_reducible rfl)
     simp only [Act.put,List.setIfInBounds_toArray,List.set_cons_zero,List.set_cons_succ]
     refine' wpAnyH_take (i:=5) (oi:={ dst:=some 20,op:=Op.binOp BinOp.gtr 3 (Operand.tmp 19) (Operand.const (Value.int IntKind.i64 0)) 3,type:=4,pos:= "check.go:105",after:=#[{ on:=4,ground:=Ground.data },{ on:=3,ground:=Ground.guard }],guard:=some (3,false) }) (v:=_) (fuel:=13) rfl (by kernel_rfl) (by kernel_rfl) (by kernel_rfl) (fun _ _ _ h=>h) (Or.inl ⟨by rfl,?hy5b⟩) (by assumption) ?rest5b
     case hy5b=>(intro w' hSw;(try dsimp only at hSw);go_simp;try with_reducible rfl)
     simp only [Act.put,List.setIfInBounds_toArray,List.set_cons_zero,List.set_cons_succ]
     refine' wpAnyH_take (i:=6) (oi:={ dst:=some 21,op:=Op.move (Operand.tmp 20),type:=4,pos:= "check.go:105",after:=#[{ on:=5,ground:=Ground.data },{ on:=3,ground:=Ground.chain },{ on:=3,ground:=Ground.guard }],guard:=some (3,false) }) (v:=_) (fuel:=12) rfl (by kernel_rfl) (by kernel_rfl) (by kernel_rfl) (fun _ _ _ h=>h) (Or.inl ⟨by rfl,?hy6b⟩) (by assumption) ?rest6b
     case hy6b=>(intro w' hSw;(try dsimp only at hSw);go_simp;try with_reducible rfl)
     simp only [Act.put,List.setIfInBounds_toArray,List.set_cons_zero,List.set_cons_succ]
     refine' wpAnyH_take (i:=7) (oi:={ dst:=some 22,op:=Op.fieldAddr 56 (Operand.tmp 4) 0,type:=0,pos:= "check.go:105",after:=#[{ on:=6,ground:=Ground.guard }],guard:=some (6,true) }) (v:=undef) (fuel:=11) rfl (by kernel_rfl) (by kernel_rfl) (by kernel_rfl) (fun _ _ _ h=>h) (Or.inr ⟨by rfl,rfl⟩) (by assumption) ?rest7b
     simp only [Act.put,List.setIfInBounds_toArray,List.set_cons_zero,List.set_cons_succ]
     refine' wpAnyH_take (i:=8) (oi:={ dst:=some 23,op:=Op.load 9 (Operand.tmp 22),type:=9,pos:= "check.go:105",after:=#[{ on:=7,ground:=Ground.data },{ on:=6,ground:=Ground.guard }],guard:=some (6,true) }) (v:=undef) (fuel:=10) rfl (by kernel_rfl) (by kernel_rfl) (by kernel_rfl) (fun _ _ _ h=>h) (Or.inr ⟨by rfl,rfl⟩) (by assumption) ?rest8b
     simp only [Act.put,List.setIfInBounds_toArray,List.set_cons_zero,List.set_cons_succ]
     refine' wpAnyH_take (i:=9) (oi:={ dst:=some 24,op:=Op.fieldAddr 38 (Operand.tmp 1) 1,type:=0,pos:= "check.go:105",after:=#[{ on:=6,ground:=Ground.guard }],guard:=some (6,true) }) (v:=undef) (fuel:=9) rfl (by kernel_rfl) (by kernel_rfl) (by kernel_rfl) (fun _ _ _ h=>h) (Or.inr ⟨by rfl,rfl⟩) (by assumption) ?rest9b
     simp only [Act.put,List.setIfInBounds_toArray,List.set_cons_zero,List.set_cons_succ]
     refine' wpAnyH_take (i:=10) (oi:={ dst:=some 25,op:=Op.load 36 (Operand.tmp 24),type:=36,pos:= "check.go:105",after:=#[{ on:=9,ground:=Ground.data },{ on:=6,ground:=Ground.guard }],guard:=some (6,true) }) (v:=undef) (fuel:=8) rfl (by kernel_rfl) (by kernel_rfl) (by kernel_rfl) (fun _ _ _ h=>h) (Or.inr ⟨by rfl,rfl⟩) (by assumption) ?rest10b
     simp only [Act.put,List.setIfInBounds_toArray,List.set_cons_zero,List.set_cons_succ]
     refine' wpAnyH_take (i:=11) (oi:={ dst:=some 26,op:=Op.move (Operand.tmp 3),type:=3,pos:= "check.go:105",after:=#[{ on:=6,ground:=Ground.guard }],guard:=some (6,true) }) (v:=undef) (fuel:=7) rfl (by kernel_rfl) (by kernel_rfl) (by kernel_rfl) (fun _ _ _ h=>h) (Or.inr ⟨by rfl,rfl⟩) (by assumption) ?rest11b
     simp only [Act.put,List.setIfInBounds_toArray,List.set_cons_zero,List.set_cons_succ]
     refine' wpAnyH_take (i:=12) (oi:={ dst:=some 27,op:=Op.binOp BinOp.sub 3 (Operand.tmp 26) (Operand.const (Value.int IntKind.i64 1)) 3,type:=3,pos:= "check.go:105",after:=#[{ on:=11,ground:=Ground.data },{ on:=6,ground:=Ground.guard }],guard:=some (6,true) }) (v:=undef) (fuel:=6) rfl (by kernel_rfl) (by kernel_rfl) (by kernel_rfl) (fun _ _ _ h=>h) (Or.inr ⟨by rfl,rfl⟩) (by assumption) ?rest12b
     simp only [Act.put,List.setIfInBounds_toArray,List.set_cons_zero,List.set_cons_succ]
     refine' wpAnyH_take (i:=13) (oi:={ dst:=some 28,op:=Op.indexAddr 36 (Operand.tmp 25) (Operand.tmp 27),type:=0,pos:= "check.go:105",after:=#[{ on:=10,ground:=Ground.data },{ on:=12,ground:=Ground.data },{ on:=6,ground:=Ground.guard }],guard:=some (6,true) }) (v:=undef) (fuel:=5) rfl (by kernel_rfl) (by kernel_rfl) (by kernel_rfl) (fun _ _ _ h=>h) (Or.inr ⟨by rfl,rfl⟩) (by assumption) ?rest13b
     simp only [Act.put,List.setIfInBounds_toArray,List.set_cons_zero,List.set_cons_succ]
     refine' wpAnyH_take (i:=14) (oi:={ dst:=some 29,op:=Op.fieldAddr 56 (Operand.tmp 28) 0,type:=0,pos:= "check.go:105",after:=#[{ on:=13,ground:=Ground.data },{ on:=6,ground:=Ground.guard }],guard:=some (6,true) }) (v:=undef) (fuel:=4) rfl (by kernel_rfl) (by kernel_rfl) (by kernel_rfl) (fun _ _ _ h=>h) (Or.inr ⟨by rfl,rfl⟩) (by assumption) ?rest14b
     simp only [Act.put,List.setIfInBounds_toArray,List.set_cons_zero,List.set_cons_succ]
     refine' wpAnyH_take (i:=15) (oi:={ dst:=some 30,op:=Op.load 9 (Operand.tmp 29),type:=9,pos:= "check.go:105",after:=#[{ on:=14,ground:=Ground.data },{ on:=6,ground:=Ground.guard }],guard:=some (6,true) }) (v:=undef) (fuel:=3) rfl (by kernel_rfl) (by kernel_rfl) (by kernel_rfl) (fun _ _ _ h=>h) (Or.inr ⟨by rfl,rfl⟩) (by assumption) ?rest15b
     simp only [Act.put,List.setIfInBounds_toArray,List.set_cons_zero,List.set_cons_succ]
     refine' wpAnyH_take (i:=16) (oi:={ dst:=some 31,op:=Op.binOp BinOp.leq 9 (Operand.tmp 23) (Operand.tmp 30) 9,type:=4,pos:= "check.go:105",after:=#[{ on:=8,ground:=Ground.data },{ on:=15,ground:=Ground.data },{ on:=6,ground:=Ground.guard }],guard:=some (6,true) }) (v:=undef) (fuel:=2) rfl (by kernel_rfl) (by kernel_rfl) (by kernel_rfl) (fun _ _ _ h=>h) (Or.inr ⟨by rfl,rfl⟩) (by assumption) ?rest16b
     simp only [Act.put,List.setIfInBounds_toArray,List.set_cons_zero,List.set_cons_succ]
     refine' wpAnyH_take (i:=17) (oi:={ dst:=some 32,op:=Op.pick (Operand.tmp 21) (Operand.tmp 31) (Operand.const (Value.bool false)),type:=4,pos:= "check.go:105",after:=#[{ on:=6,ground:=Ground.data },{ on:=16,ground:=Ground.data },{ on:=3,ground:=Ground.guard }],guard:=some (3,false) }) (v:=_) (fuel:=1) rfl (by kernel_rfl) (by kernel_rfl) (by kernel_rfl) (fun _ _ _ h=>h) (Or.inl ⟨by rfl,?hy17b⟩) (by assumption) ?rest17b
     case hy17b=>(intro w' hSw;(try dsimp only at hSw);go_simp;try with_reducible rfl)
     simp only [Act.put,List.setIfInBounds_toArray,List.set_cons_zero,List.set_cons_succ]
     refine' wpAnyH_take (i:=18) (oi:={ dst:=some 33,op:=Op.pick (Operand.tmp 18) (Operand.const (Value.bool true)) (Operand.tmp 32),type:=4,pos:= "check.go:105",after:=#[{ on:=3,ground:=Ground.data },{ on:=17,ground:=Ground.data }],guard:=none }) (v:=_) (fuel:=0) rfl (by kernel_rfl) (by kernel_rfl) (by kernel_rfl) (fun _ _ _ h=>h) (Or.inl ⟨by rfl,?hy18b⟩) (by assumption) ?rest18b
     case hy18b=>(intro w' hSw;(try dsimp only at hSw);go_simp;try with_reducible rfl)
     simp only [Act.put,List.setIfInBounds_toArray,List.set_cons_zero,List.set_cons_succ]
     refine wpAnyH_done (by kernel_rfl) ?_ _
     have hb03:=bx hbd hb3
     have HB3:=Lib.hid (HBK.out.onOld hb03)
     have CN3:=Lib.hid (CNd.out.next hb3)
     have CB3:=Lib.hid (CBd.out.next hb3)
     have r0:=CN3.out.at 0 rfl
     have s0:=CB3.out.at 0 rfl
     have s1:=CB3.out.at 1 rfl
     clear hHeld
     go_wp2_with fail
     refine (jhw ⟨doms,tabs⟩ nm _ _ HB3.out).mono ?_
     rintro e w4 ⟨rfl,hb4⟩
     have hb04:=bx hb03 hb4
     have CB4:=Lib.hid (CB3.out.next hb4)
     simp only
     cases hfd:jdj doms nm with
     | none =>
      have HM:Hid (je7 doms (tabs.take (0+1))=true):=ya5 hx.out HGD.out hfd
      clear hfd
      simp only [Option.getD_none,Option.isSome_none,domV,jnc]
      have hbz4:=jaa w4 (.cells #[.string ⟨#[]⟩,.int .i64 0,.int .i64 0] 58)
      go_wp2
      exact ⟨⟨0+1,by omega,by go_num,HM,CB4.out.next hbz4,bx hb04 hbz4⟩,by simp [intOf];omega⟩
     | some dd =>
      obtain ⟨dn,dl,dh⟩:=dd
      have HNO:Hid (R=false):=by show _=_;rw [← HR.out];exact jnj hx.out hfd
      clear hfd
      simp only [Option.getD_some,Option.isSome_some,domV]
      have hbz4:=jaa w4 (.cells #[.string dn,.int .i64 dl,.int .i64 dh] 58)
      go_wp2
      go_ret
      exact ⟨jad HNO.out.symm,bx hb04 hbz4⟩
    ·obtain ⟨j,rfl⟩:∃ j,k=j+1:=⟨k-1,by omega⟩
     obtain ⟨b',o',pn,ppol,pcomp,pins,prules,pvi,pvr,e',hSb',hx',p0',-⟩:=H.out.tab_at (k:=j) (by omega)
     obtain ⟨rfl,rfl⟩:=jc5 e'
     have hSb2:b<w.heap.size:=hSb'
     have hgb:b<wa.drew.heap.size:=Nat.lt_of_lt_of_le hSb2 hb2.size
     have p0:=(hb2.cell (p:=⟨b,o+j*5,none⟩) hSb2).trans p0'
     have hj2:IntKind.i64.wrap (j:Int)=(j:Int):=IntWalk.i64_in _ (by omega)
     have hj0:(0:Int)≤j:=by omega
     have hj1:(j:Int)<tabs.length:=by omega
     have hj3:(0:Int)<(j:Int)+1:=by omega
     clear p0' e'
     cases hle:leS nm pn
     ·have HLE:=Lib.hid hle
      have hle':(Op.bytesLess nm.toList pn.toList || nm.toList == pn.toList)=false:=hle
      clear hle
      go_wp2_with fail
      refine wp_region_held_drew (S:=(fun w':World=>w'.cell? ⟨wr.heap.size,0,none⟩=some (.string nm)∧w'.cell? ⟨wr.heap.size,1,none⟩=some (.int .i64 pol)∧w'.cell? ⟨wr.heap.size,2,none⟩=some (.bool comp)∧w'.cell? ⟨wr.heap.size,3,none⟩=some (.slice Ai ins.length ci)∧w'.cell? ⟨wr.heap.size,4,none⟩=some (.slice Ar rules.length cr)∧w'.cell? ⟨w.heap.size,0,none⟩=some (.slice A doms.length c)∧w'.cell? ⟨w.heap.size,1,none⟩=some (.slice (some ⟨b,o,none⟩) tabs.length d)∧w'.cell? ⟨b,o+j*5,none⟩=some (.string pn))) (by kernel_rfl) ⟨q0,q1,q2,q3,q4,k0,k1,p0⟩ (fun hHeld=>?_)
      generalize wa.drew=wd at *
      refine' wpAnyH_take (i:=0) (oi:={ dst:=some 15,op:=Op.load 56 (Operand.tmp 4),type:=56,pos:= "check.go:105",after:=#[],guard:=none }) (v:=_) (fuel:=18) rfl (by kernel_rfl) (by kernel_rfl) (by kernel_rfl) (fun _ _ _ h=>h) (Or.inl ⟨by rfl,?hy0c⟩) (by assumption) ?rest0c
      case hy0c=>(intro w' hSw;(try dsimp only at hSw);go_simp;try with_reducible rfl)
      simp only [Act.put,List.setIfInBounds_toArray,List.set_cons_zero,List.set_cons_succ]
      refine wpAnyH_ready (rs:=[1]) (fuel:=17) (by kernel_rfl) (by simp) ?_
      refine AllReadyH.cons (o:={ dst:=some 16,op:=Op.call { callee:=Callee.value (Operand.func 83),args:=#[Operand.tmp 15],argTypes:=#[56] },type:=4,pos:= "check.go:105",after:=#[{ on:=0,ground:=Ground.data }],guard:=none }) rfl (fun K hK=>?_) AllReadyH.nil
      go_simp
      go_at_call 83
      refine HG.out.mono ?_
      rintro e w3 ⟨rfl,hb3⟩
      go_wp2_with fail
      refine hK.out _ _ ⟨(hb3.cell (p:=⟨wr.heap.size,0,none⟩) hgr).trans hHeld.1,(hb3.cell (p:=⟨wr.heap.size,1,none⟩) hgr).trans hHeld.2.1,(hb3.cell (p:=⟨wr.heap.size,2,none⟩) hgr).trans hHeld.2.2.1,(hb3.cell (p:=⟨wr.heap.size,3,none⟩) hgr).trans hHeld.2.2.2.1,(hb3.cell (p:=⟨wr.heap.size,4,none⟩) hgr).trans hHeld.2.2.2.2.1,(hb3.cell (p:=⟨w.heap.size,0,none⟩) hgw).trans hHeld.2.2.2.2.2.1,(hb3.cell (p:=⟨w.heap.size,1,none⟩) hgw).trans hHeld.2.2.2.2.2.2.1,(hb3.cell (p:=⟨b,o+j*5,none⟩) hgb).trans hHeld.2.2.2.2.2.2.2⟩ (fun hHeld=>?_)
      clear hK K
      (try simp only [Act.put,List.setIfInBounds_toArray,List.set_cons_zero,List.set_cons_succ])
      refine' wpAnyH_take (i:=2) (oi:={ dst:=some 17,op:=Op.unOp UnOp.not 4 (Operand.tmp 16),type:=4,pos:= "check.go:105",after:=#[{ on:=1,ground:=Ground.data }],guard:=none }) (v:=_) (fuel:=16) rfl (by kernel_rfl) (by kernel_rfl) (by kernel_rfl) (fun _ _ _ h=>h) (Or.inl ⟨by rfl,?hy2c⟩) (by assumption) ?rest2c
      case hy2c=>(intro w' hSw;(try dsimp only at hSw);go_simp;try with_reducible rfl)
      simp only [Act.put,List.setIfInBounds_toArray,List.set_cons_zero,List.set_cons_succ]
      refine' wpAnyH_take (i:=3) (oi:={ dst:=some 18,op:=Op.move (Operand.tmp 17),type:=4,pos:= "check.go:105",after:=#[{ on:=2,ground:=Ground.data },{ on:=1,ground:=Ground.chain }],guard:=none }) (v:=_) (fuel:=15) rfl (by kernel_rfl) (by kernel_rfl) (by kernel_rfl) (fun _ _ _ h=>h) (Or.inl ⟨by rfl,?hy3c⟩) (by assumption) ?rest3c
      case hy3c=>(intro w' hSw;(try dsimp only at hSw);go_simp;try with_reducible rfl)
      simp only [Act.put,List.setIfInBounds_toArray,List.set_cons_zero,List.set_cons_succ]
      refine' wpAnyH_take (i:=4) (oi:={ dst:=some 19,op:=Op.move (Operand.tmp 3),type:=3,pos:= "check.go:105",after:=#[{ on:=3,ground:=Ground.guard }],guard:=some (3,false) }) (v:=_) (fuel:=14) rfl (by kernel_rfl) (by kernel_rfl) (by kernel_rfl) (fun _ _ _ h=>h) (Or.inl ⟨by rfl,?hy4c⟩) (by assumption) ?rest4c
      case hy4c=>(intro w' hSw;(try dsimp only at hSw);go_simp;try with_reducible rfl)
      simp only [Act.put,List.setIfInBounds_toArray,List.set_cons_zero,List.set_cons_succ]
      refine' wpAnyH_take (i:=5) (oi:={ dst:=some 20,op:=Op.binOp BinOp.gtr 3 (Operand.tmp 19) (Operand.const (Value.int IntKind.i64 0)) 3,type:=4,pos:= "check.go:105",after:=#[{ on:=4,ground:=Ground.data },{ on:=3,ground:=Ground.guard }],guard:=some (3,false) }) (v:=_) (fuel:=13) rfl (by kernel_rfl) (by kernel_rfl) (by kernel_rfl) (fun _ _ _ h=>h) (Or.inl ⟨by rfl,?hy5c⟩) (by assumption) ?rest5c
      case hy5c=>(intro w' hSw;(try dsimp only at hSw);go_simp;try with_reducible rfl)
      simp only [Act.put,List.setIfInBounds_toArray,List.set_cons_zero,List.set_cons_succ]
      refine' wpAnyH_take (i:=6) (oi:={ dst:=some 21,op:=Op.move (Operand.tmp 20),type:=4,pos:= "check.go:105",after:=#[{ on:=5,ground:=Ground.data },{ on:=3,ground:=Ground.chain },{ on:=3,ground:=Ground.guard }],guard:=some (3,false) }) (v:=_) (fuel:=12) rfl (by kernel_rfl) (by kernel_rfl) (by kernel_rfl) (fun _ _ _ h=>h) (Or.inl ⟨by rfl,?hy6c⟩) (by assumption) ?rest6c
      case hy6c=>(intro w' hSw;(try dsimp only at hSw);go_simp;try with_reducible rfl)
      simp only [Act.put,List.setIfInBounds_toArray,List.set_cons_zero,List.set_cons_succ]
      refine' wpAnyH_take (i:=7) (oi:={ dst:=some 22,op:=Op.fieldAddr 56 (Operand.tmp 4) 0,type:=0,pos:= "check.go:105",after:=#[{ on:=6,ground:=Ground.guard }],guard:=some (6,true) }) (v:=_) (fuel:=11) rfl (by kernel_rfl) (by kernel_rfl) (by kernel_rfl) (fun _ _ _ h=>h) (Or.inl ⟨by rfl,?hy7c⟩) (by assumption) ?rest7c
      case hy7c=>(intro w' hSw;(try dsimp only at hSw);go_simp;try with_reducible rfl)
      simp only [Act.put,List.setIfInBounds_toArray,List.set_cons_zero,List.set_cons_succ]
      refine' wpAnyH_take (i:=8) (oi:={ dst:=some 23,op:=Op.load 9 (Operand.tmp 22),type:=9,pos:= "check.go:105",after:=#[{ on:=7,ground:=Ground.data },{ on:=6,ground:=Ground.guard }],guard:=some (6,true) }) (v:=_) (fuel:=10) rfl (by kernel_rfl) (by kernel_rfl) (by kernel_rfl) (fun _ _ _ h=>h) (Or.inl ⟨by rfl,?hy8c⟩) (by assumption) ?rest8c
      case hy8c=>(intro w' hSw;(try dsimp only at hSw);go_simp;try with_reducible rfl)
      simp only [Act.put,List.setIfInBounds_toArray,List.set_cons_zero,List.set_cons_succ]
      refine' wpAnyH_take (i:=9) (oi:={ dst:=some 24,op:=Op.fieldAddr 38 (Operand.tmp 1) 1,type:=0,pos:= "check.go:105",after:=#[{ on:=6,ground:=Ground.guard }],guard:=some (6,true) }) (v:=_) (fuel:=9) rfl (by kernel_rfl) (by kernel_rfl) (by kernel_rfl) (fun _ _ _ h=>h) (Or.inl ⟨by rfl,?hy9c⟩) (by assumption) ?rest9c
      case hy9c=>(intro w' hSw;(try dsimp only at hSw);go_simp;try with_reducible rfl)
      simp only [Act.put,List.setIfInBounds_toArray,List.set_cons_zero,List.set_cons_succ]
      refine' wpAnyH_take (i:=10) (oi:={ dst:=some 25,op:=Op.load 36 (Operand.tmp 24),type:=36,pos:= "check.go:105",after:=#[{ on:=9,ground:=Ground.data },{ on:=6,ground:=Ground.guard }],guard:=some (6,true) }) (v:=_) (fuel:=8) rfl (by kernel_rfl) (by kernel_rfl) (by kernel_rfl) (fun _ _ _ h=>h) (Or.inl ⟨by rfl,?hy10c⟩) (by assumption) ?rest10c
      case hy10c=>(intro w' hSw;(try dsimp only at hSw);go_simp;try with_reducible rfl)
      simp only [Act.put,List.setIfInBounds_toArray,List.set_cons_zero,List.set_cons_succ]
      refine' wpAnyH_take (i:=11) (oi:={ dst:=some 26,op:=Op.move (Operand.tmp 3),type:=3,pos:= "check.go:105",after:=#[{ on:=6,ground:=Ground.guard }],guard:=some (6,true) }) (v:=_) (fuel:=7) rfl (by kernel_rfl) (by kernel_rfl) (by kernel_rfl) (fun _ _ _ h=>h) (Or.inl ⟨by rfl,?hy11c⟩) (by assumption) ?rest11c
      case hy11c=>(intro w' hSw;(try dsimp only at hSw);go_simp;try with_reducible rfl)
      simp only [Act.put,List.setIfInBounds_toArray,List.set_cons_zero,List.set_cons_succ]
      refine' wpAnyH_take (i:=12) (oi:={ dst:=some 27,op:=Op.binOp BinOp.sub 3 (Operand.tmp 26) (Operand.const (Value.int IntKind.i64 1)) 3,type:=3,pos:= "check.go:105",after:=#[{ on:=11,ground:=Ground.data },{ on:=6,ground:=Ground.guard }],guard:=some (6,true) }) (v:=_) (fuel:=6) rfl (by kernel_rfl) (by kernel_rfl) (by kernel_rfl) (fun _ _ _ h=>h) (Or.inl ⟨by rfl,?hy12c⟩) (by assumption) ?rest12c
      case hy12c=>(intro w' hSw;(try dsimp only at hSw);go_simp;try with_reducible rfl)
      simp only [Act.put,List.setIfInBounds_toArray,List.set_cons_zero,List.set_cons_succ]
      refine' wpAnyH_take (i:=13) (oi:={ dst:=some 28,op:=Op.indexAddr 36 (Operand.tmp 25) (Operand.tmp 27),type:=0,pos:= "check.go:105",after:=#[{ on:=10,ground:=Ground.data },{ on:=12,ground:=Ground.data },{ on:=6,ground:=Ground.guard }],guard:=some (6,true) }) (v:=_) (fuel:=5) rfl (by kernel_rfl) (by kernel_rfl) (by kernel_rfl) (fun _ _ _ h=>h) (Or.inl ⟨by rfl,?hy13c⟩) (by assumption) ?rest13c
      case hy13c=>(intro w' hSw;(try dsimp only at hSw);go_simp;try with_reducible rfl)
      simp only [Act.put,List.setIfInBounds_toArray,List.set_cons_zero,List.set_cons_succ]
      refine' wpAnyH_take (i:=14) (oi:={ dst:=some 29,op:=Op.fieldAddr 56 (Operand.tmp 28) 0,type:=0,pos:= "check.go:105",after:=#[{ on:=13,ground:=Ground.data },{ on:=6,ground:=Ground.guard }],guard:=some (6,true) }) (v:=_) (fuel:=4) rfl (by kernel_rfl) (by kernel_rfl) (by kernel_rfl) (fun _ _ _ h=>h) (Or.inl ⟨by rfl,?hy14c⟩) (by assumption) ?rest14c
      case hy14c=>(intro w' hSw;(try dsimp only at hSw);go_simp;try with_reducible rfl)
      simp only [Act.put,List.setIfInBounds_toArray,List.set_cons_zero,List.set_cons_succ]
      refine' wpAnyH_take (i:=15) (oi:={ dst:=some 30,op:=Op.load 9 (Operand.tmp 29),type:=9,pos:= "check.go:105",after:=#[{ on:=14,ground:=Ground.data },{ on:=6,ground:=Ground.guard }],guard:=some (6,true) }) (v:=_) (fuel:=3) rfl (by kernel_rfl) (by kernel_rfl) (by kernel_rfl) (fun _ _ _ h=>h) (Or.inl ⟨by rfl,?hy15c⟩) (by assumption) ?rest15c
      case hy15c=>(intro w' hSw;(try dsimp only at hSw);go_simp;try with_reducible rfl)
      simp only [Act.put,List.setIfInBounds_toArray,List.set_cons_zero,List.set_cons_succ]
      refine' wpAnyH_take (i:=16) (oi:={ dst:=some 31,op:=Op.binOp BinOp.leq 9 (Operand.tmp 23) (Operand.tmp 30) 9,type:=4,pos:= "check.go:105",after:=#[{ on:=8,ground:=Ground.data },{ on:=15,ground:=Ground.data },{ on:=6,ground:=Ground.guard }],guard:=some (6,true) }) (v:=_) (fuel:=2) rfl (by kernel_rfl) (by kernel_rfl) (by kernel_rfl) (fun _ _ _ h=>h) (Or.inl ⟨by rfl,?hy16c⟩) (by assumption) ?rest16c
      case hy16c=>(intro w' hSw;(try dsimp only at hSw);go_simp;try with_reducible rfl)
      simp only [Act.put,List.setIfInBounds_toArray,List.set_cons_zero,List.set_cons_succ]
      refine' wpAnyH_take (i:=17) (oi:={ dst:=some 32,op:=Op.pick (Operand.tmp 21) (Operand.tmp 31) (Operand.const (Value.bool false)),type:=4,pos:= "check.go:105",after:=#[{ on:=6,ground:=Ground.data },{ on:=16,ground:=Ground.data },{ on:=3,ground:=Ground.guard }],guard:=some (3,false) }) (v:=_) (fuel:=1) rfl (by kernel_rfl) (by kernel_rfl) (by kernel_rfl) (fun _ _ _ h=>h) (Or.inl ⟨by rfl,?hy17c⟩) (by assumption) ?rest17c
      case hy17c=>(intro w' hSw;(try dsimp only at hSw);go_simp;try with_reducible rfl)
      simp only [Act.put,List.setIfInBounds_toArray,List.set_cons_zero,List.set_cons_succ]
      refine' wpAnyH_take (i:=18) (oi:={ dst:=some 33,op:=Op.pick (Operand.tmp 18) (Operand.const (Value.bool true)) (Operand.tmp 32),type:=4,pos:= "check.go:105",after:=#[{ on:=3,ground:=Ground.data },{ on:=17,ground:=Ground.data }],guard:=none }) (v:=_) (fuel:=0) rfl (by kernel_rfl) (by kernel_rfl) (by kernel_rfl) (fun _ _ _ h=>h) (Or.inl ⟨by rfl,?hy18c⟩) (by assumption) ?rest18c
      case hy18c=>(intro w' hSw;(try dsimp only at hSw);go_simp;try with_reducible rfl)
      simp only [Act.put,List.setIfInBounds_toArray,List.set_cons_zero,List.set_cons_succ]
      refine wpAnyH_done (by kernel_rfl) ?_ _
      have hb03:=bx hbd hb3
      have HB3:=Lib.hid (HBK.out.onOld hb03)
      have CN3:=Lib.hid (CNd.out.next hb3)
      have CB3:=Lib.hid (CBd.out.next hb3)
      have r0:=CN3.out.at 0 rfl
      have s0:=CB3.out.at 0 rfl
      have s1:=CB3.out.at 1 rfl
      clear hHeld
      go_wp2_with fail
      refine (jhw ⟨doms,tabs⟩ nm _ _ HB3.out).mono ?_
      rintro e w4 ⟨rfl,hb4⟩
      have hb04:=bx hb03 hb4
      have CB4:=Lib.hid (CB3.out.next hb4)
      simp only
      cases hfd:jdj doms nm with
      | none =>
       have HM:Hid (je7 doms (tabs.take (j+1+1))=true):=ydp hx.out hx'.out hf.out HGD.out HLE.out hfd
       clear hfd
       simp only [Option.getD_none,Option.isSome_none,domV,jnc]
       have hbz4:=jaa w4 (.cells #[.string ⟨#[]⟩,.int .i64 0,.int .i64 0] 58)
       go_wp2
       exact ⟨⟨j+1+1,by omega,by go_num,HM,CB4.out.next hbz4,bx hb04 hbz4⟩,by simp [intOf];omega⟩
      | some dd =>
       obtain ⟨dn,dl,dh⟩:=dd
       have HNO:Hid (R=false):=by show _=_;rw [← HR.out];exact jnj hx.out hfd
       clear hfd
       simp only [Option.getD_some,Option.isSome_some,domV]
       have hbz4:=jaa w4 (.cells #[.string dn,.int .i64 dl,.int .i64 dh] 58)
       go_wp2
       go_ret
       exact ⟨jad HNO.out.symm,bx hb04 hbz4⟩
     ·have HNO:Hid (R=false):=by show _=_;rw [← HR.out];exact yg6 hx.out hx'.out hle
      have hle':(Op.bytesLess nm.toList pn.toList || nm.toList == pn.toList)=true:=hle
      clear hle
      go_wp2_with fail
      refine wp_region_held_drew (S:=(fun w':World=>w'.cell? ⟨wr.heap.size,0,none⟩=some (.string nm)∧w'.cell? ⟨wr.heap.size,1,none⟩=some (.int .i64 pol)∧w'.cell? ⟨wr.heap.size,2,none⟩=some (.bool comp)∧w'.cell? ⟨wr.heap.size,3,none⟩=some (.slice Ai ins.length ci)∧w'.cell? ⟨wr.heap.size,4,none⟩=some (.slice Ar rules.length cr)∧w'.cell? ⟨w.heap.size,0,none⟩=some (.slice A doms.length c)∧w'.cell? ⟨w.heap.size,1,none⟩=some (.slice (some ⟨b,o,none⟩) tabs.length d)∧w'.cell? ⟨b,o+j*5,none⟩=some (.string pn))) (by kernel_rfl) ⟨q0,q1,q2,q3,q4,k0,k1,p0⟩ (fun hHeld=>?_)
      generalize wa.drew=wd at *
      refine' wpAnyH_take (i:=0) (oi:={ dst:=some 15,op:=Op.load 56 (Operand.tmp 4),type:=56,pos:= "check.go:105",after:=#[],guard:=none }) (v:=_) (fuel:=18) rfl (by kernel_rfl) (by kernel_rfl) (by kernel_rfl) (fun _ _ _ h=>h) (Or.inl ⟨by rfl,?hy0d⟩) (by assumption) ?rest0d
      case hy0d=>(intro w' hSw;(try dsimp only at hSw);go_simp;try with_reducible rfl)
      simp only [Act.put,List.setIfInBounds_toArray,List.set_cons_zero,List.set_cons_succ]
      refine wpAnyH_ready (rs:=[1]) (fuel:=17) (by kernel_rfl) (by simp) ?_
      refine AllReadyH.cons (o:={ dst:=some 16,op:=Op.call { callee:=Callee.value (Operand.func 83),args:=#[Operand.tmp 15],argTypes:=#[56] },type:=4,pos:= "check.go:105",after:=#[{ on:=0,ground:=Ground.data }],guard:=none }) rfl (fun K hK=>?_) AllReadyH.nil
      go_simp
      go_at_call 83
      refine HG.out.mono ?_
      rintro e w3 ⟨rfl,hb3⟩
      go_wp2_with fail
      refine hK.out _ _ ⟨(hb3.cell (p:=⟨wr.heap.size,0,none⟩) hgr).trans hHeld.1,(hb3.cell (p:=⟨wr.heap.size,1,none⟩) hgr).trans hHeld.2.1,(hb3.cell (p:=⟨wr.heap.size,2,none⟩) hgr).trans hHeld.2.2.1,(hb3.cell (p:=⟨wr.heap.size,3,none⟩) hgr).trans hHeld.2.2.2.1,(hb3.cell (p:=⟨wr.heap.size,4,none⟩) hgr).trans hHeld.2.2.2.2.1,(hb3.cell (p:=⟨w.heap.size,0,none⟩) hgw).trans hHeld.2.2.2.2.2.1,(hb3.cell (p:=⟨w.heap.size,1,none⟩) hgw).trans hHeld.2.2.2.2.2.2.1,(hb3.cell (p:=⟨b,o+j*5,none⟩) hgb).trans hHeld.2.2.2.2.2.2.2⟩ (fun hHeld=>?_)
      clear hK K
      (try simp only [Act.put,List.setIfInBounds_toArray,List.set_cons_zero,List.set_cons_succ])
      refine' wpAnyH_take (i:=2) (oi:={ dst:=some 17,op:=Op.unOp UnOp.not 4 (Operand.tmp 16),type:=4,pos:= "check.go:105",after:=#[{ on:=1,ground:=Ground.data }],guard:=none }) (v:=_) (fuel:=16) rfl (by kernel_rfl) (by kernel_rfl) (by kernel_rfl) (fun _ _ _ h=>h) (Or.inl ⟨by rfl,?hy2d⟩) (by assumption) ?rest2d
      case hy2d=>(intro w' hSw;(try dsimp only at hSw);go_simp;try with_reducible rfl)
      simp only [Act.put,List.setIfInBounds_toArray,List.set_cons_zero,List.set_cons_succ]
      refine' wpAnyH_take (i:=3) (oi:={ dst:=some 18,op:=Op.move (Operand.tmp 17),type:=4,pos:= "check.go:105",after:=#[{ on:=2,ground:=Ground.data },{ on:=1,ground:=Ground.chain }],guard:=none }) (v:=_) (fuel:=15) rfl (by kernel_rfl) (by kernel_rfl) (by kernel_rfl) (fun _ _ _ h=>h) (Or.inl ⟨by rfl,?hy3d⟩) (by assumption) ?rest3d
      case hy3d=>(intro w' hSw;(try dsimp only at hSw);go_simp;try with_reducible rfl)
      simp only [Act.put,List.setIfInBounds_toArray,List.set_cons_zero,List.set_cons_succ]
      refine' wpAnyH_take (i:=4) (oi:={ dst:=some 19,op:=Op.move (Operand.tmp 3),type:=3,pos:= "check.go:105",after:=#[{ on:=3,ground:=Ground.guard }],guard:=some (3,false) }) (v:=_) (fuel:=14) rfl (by kernel_rfl) (by kernel_rfl) (by kernel_rfl) (fun _ _ _ h=>h) (Or.inl ⟨by rfl,?hy4d⟩) (by assumption) ?rest4d
      case hy4d=>(intro w' hSw;(try dsimp only at hSw);go_simp;try with_reducible rfl)
      simp only [Act.put,List.setIfInBounds_toArray,List.set_cons_zero,List.set_cons_succ]
      refine' wpAnyH_take (i:=5) (oi:={ dst:=some 20,op:=Op.binOp BinOp.gtr 3 (Operand.tmp 19) (Operand.const (Value.int IntKind.i64 0)) 3,type:=4,pos:= "check.go:105",after:=#[{ on:=4,ground:=Ground.data },{ on:=3,ground:=Ground.guard }],guard:=some (3,false) }) (v:=_) (fuel:=13) rfl (by kernel_rfl) (by kernel_rfl) (by kernel_rfl) (fun _ _ _ h=>h) (Or.inl ⟨by rfl,?hy5d⟩) (by assumption) ?rest5d
      case hy5d=>(intro w' hSw;(try dsimp only at hSw);go_simp;try with_reducible rfl)
      simp only [Act.put,List.setIfInBounds_toArray,List.set_cons_zero,List.set_cons_succ]
      refine' wpAnyH_take (i:=6) (oi:={ dst:=some 21,op:=Op.move (Operand.tmp 20),type:=4,pos:= "check.go:105",after:=#[{ on:=5,ground:=Ground.data },{ on:=3,ground:=Ground.chain },{ on:=3,ground:=Ground.guard }],guard:=some (3,false) }) (v:=_) (fuel:=12) rfl (by kernel_rfl) (by kernel_rfl) (by kernel_rfl) (fun _ _ _ h=>h) (Or.inl ⟨by rfl,?hy6d⟩) (by assumption) ?rest6d
      case hy6d=>(intro w' hSw;(try dsimp only at hSw);go_simp;try with_reducible rfl)
      simp only [Act.put,List.setIfInBounds_toArray,List.set_cons_zero,List.set_cons_succ]
      refine' wpAnyH_take (i:=7) (oi:={ dst:=some 22,op:=Op.fieldAddr 56 (Operand.tmp 4) 0,type:=0,pos:= "check.go:105",after:=#[{ on:=6,ground:=Ground.guard }],guard:=some (6,true) }) (v:=_) (fuel:=11) rfl (by kernel_rfl) (by kernel_rfl) (by kernel_rfl) (fun _ _ _ h=>h) (Or.inl ⟨by rfl,?hy7d⟩) (by assumption) ?rest7d
      case hy7d=>(intro w' hSw;(try dsimp only at hSw);go_simp;try with_reducible rfl)
      simp only [Act.put,List.setIfInBounds_toArray,List.set_cons_zero,List.set_cons_succ]
      refine' wpAnyH_take (i:=8) (oi:={ dst:=some 23,op:=Op.load 9 (Operand.tmp 22),type:=9,pos:= "check.go:105",after:=#[{ on:=7,ground:=Ground.data },{ on:=6,ground:=Ground.guard }],guard:=some (6,true) }) (v:=_) (fuel:=10) rfl (by kernel_rfl) (by kernel_rfl) (by kernel_rfl) (fun _ _ _ h=>h) (Or.inl ⟨by rfl,?hy8d⟩) (by assumption) ?rest8d
      case hy8d=>(intro w' hSw;(try dsimp only at hSw);go_simp;try with_reducible rfl)
      simp only [Act.put,List.setIfInBounds_toArray,List.set_cons_zero,List.set_cons_succ]
      refine' wpAnyH_take (i:=9) (oi:={ dst:=some 24,op:=Op.fieldAddr 38 (Operand.tmp 1) 1,type:=0,pos:= "check.go:105",after:=#[{ on:=6,ground:=Ground.guard }],guard:=some (6,true) }) (v:=_) (fuel:=9) rfl (by kernel_rfl) (by kernel_rfl) (by kernel_rfl) (fun _ _ _ h=>h) (Or.inl ⟨by rfl,?hy9d⟩) (by assumption) ?rest9d
      case hy9d=>(intro w' hSw;(try dsimp only at hSw);go_simp;try with_reducible rfl)
      simp only [Act.put,List.setIfInBounds_toArray,List.set_cons_zero,List.set_cons_succ]
      refine' wpAnyH_take (i:=10) (oi:={ dst:=some 25,op:=Op.load 36 (Operand.tmp 24),type:=36,pos:= "check.go:105",after:=#[{ on:=9,ground:=Ground.data },{ on:=6,ground:=Ground.guard }],guard:=some (6,true) }) (v:=_) (fuel:=8) rfl (by kernel_rfl) (by kernel_rfl) (by kernel_rfl) (fun _ _ _ h=>h) (Or.inl ⟨by rfl,?hy10d⟩) (by assumption) ?rest10d
      case hy10d=>(intro w' hSw;(try dsimp only at hSw);go_simp;try with_reducible rfl)
      simp only [Act.put,List.setIfInBounds_toArray,List.set_cons_zero,List.set_cons_succ]
      refine' wpAnyH_take (i:=11) (oi:={ dst:=some 26,op:=Op.move (Operand.tmp 3),type:=3,pos:= "check.go:105",after:=#[{ on:=6,ground:=Ground.guard }],guard:=some (6,true) }) (v:=_) (fuel:=7) rfl (by kernel_rfl) (by kernel_rfl) (by kernel_rfl) (fun _ _ _ h=>h) (Or.inl ⟨by rfl,?hy11d⟩) (by assumption) ?rest11d
      case hy11d=>(intro w' hSw;(try dsimp only at hSw);go_simp;try with_reducible rfl)
      simp only [Act.put,List.setIfInBounds_toArray,List.set_cons_zero,List.set_cons_succ]
      refine' wpAnyH_take (i:=12) (oi:={ dst:=some 27,op:=Op.binOp BinOp.sub 3 (Operand.tmp 26) (Operand.const (Value.int IntKind.i64 1)) 3,type:=3,pos:= "check.go:105",after:=#[{ on:=11,ground:=Ground.data },{ on:=6,ground:=Ground.guard }],guard:=some (6,true) }) (v:=_) (fuel:=6) rfl (by kernel_rfl) (by kernel_rfl) (by kernel_rfl) (fun _ _ _ h=>h) (Or.inl ⟨by rfl,?hy12d⟩) (by assumption) ?rest12d
      case hy12d=>(intro w' hSw;(try dsimp only at hSw);go_simp;try with_reducible rfl)
      simp only [Act.put,List.setIfInBounds_toArray,List.set_cons_zero,List.set_cons_succ]
      refine' wpAnyH_take (i:=13) (oi:={ dst:=some 28,op:=Op.indexAddr 36 (Operand.tmp 25) (Operand.tmp 27),type:=0,pos:= "check.go:105",after:=#[{ on:=10,ground:=Ground.data },{ on:=12,ground:=Ground.data },{ on:=6,ground:=Ground.guard }],guard:=some (6,true) }) (v:=_) (fuel:=5) rfl (by kernel_rfl) (by kernel_rfl) (by kernel_rfl) (fun _ _ _ h=>h) (Or.inl ⟨by rfl,?hy13d⟩) (by assumption) ?rest13d
      case hy13d=>(intro w' hSw;(try dsimp only at hSw);go_simp;try with_reducible rfl)
      simp only [Act.put,List.setIfInBounds_toArray,List.set_cons_zero,List.set_cons_succ]
      refine' wpAnyH_take (i:=14) (oi:={ dst:=some 29,op:=Op.fieldAddr 56 (Operand.tmp 28) 0,type:=0,pos:= "check.go:105",after:=#[{ on:=13,ground:=Ground.data },{ on:=6,ground:=Ground.guard }],guard:=some (6,true) }) (v:=_) (fuel:=4) rfl (by kernel_rfl) (by kernel_rfl) (by kernel_rfl) (fun _ _ _ h=>h) (Or.inl ⟨by rfl,?hy14d⟩) (by assumption) ?rest14d
      case hy14d=>(intro w' hSw;(try dsimp only at hSw);go_simp;try with_reducible rfl)
      simp only [Act.put,List.setIfInBounds_toArray,List.set_cons_zero,List.set_cons_succ]
      refine' wpAnyH_take (i:=15) (oi:={ dst:=some 30,op:=Op.load 9 (Operand.tmp 29),type:=9,pos:= "check.go:105",after:=#[{ on:=14,ground:=Ground.data },{ on:=6,ground:=Ground.guard }],guard:=some (6,true) }) (v:=_) (fuel:=3) rfl (by kernel_rfl) (by kernel_rfl) (by kernel_rfl) (fun _ _ _ h=>h) (Or.inl ⟨by rfl,?hy15d⟩) (by assumption) ?rest15d
      case hy15d=>(intro w' hSw;(try dsimp only at hSw);go_simp;try with_reducible rfl)
      simp only [Act.put,List.setIfInBounds_toArray,List.set_cons_zero,List.set_cons_succ]
      refine' wpAnyH_take (i:=16) (oi:={ dst:=some 31,op:=Op.binOp BinOp.leq 9 (Operand.tmp 23) (Operand.tmp 30) 9,type:=4,pos:= "check.go:105",after:=#[{ on:=8,ground:=Ground.data },{ on:=15,ground:=Ground.data },{ on:=6,ground:=Ground.guard }],guard:=some (6,true) }) (v:=_) (fuel:=2) rfl (by kernel_rfl) (by kernel_rfl) (by kernel_rfl) (fun _ _ _ h=>h) (Or.inl ⟨by rfl,?hy16d⟩) (by assumption) ?rest16d
      case hy16d=>(intro w' hSw;(try dsimp only at hSw);go_simp;try with_reducible rfl)
      simp only [Act.put,List.setIfInBounds_toArray,List.set_cons_zero,List.set_cons_succ]
      refine' wpAnyH_take (i:=17) (oi:={ dst:=some 32,op:=Op.pick (Operand.tmp 21) (Operand.tmp 31) (Operand.const (Value.bool false)),type:=4,pos:= "check.go:105",after:=#[{ on:=6,ground:=Ground.data },{ on:=16,ground:=Ground.data },{ on:=3,ground:=Ground.guard }],guard:=some (3,false) }) (v:=_) (fuel:=1) rfl (by kernel_rfl) (by kernel_rfl) (by kernel_rfl) (fun _ _ _ h=>h) (Or.inl ⟨by rfl,?hy17d⟩) (by assumption) ?rest17d
      case hy17d=>(intro w' hSw;(try dsimp only at hSw);go_simp;try with_reducible rfl)
      simp only [Act.put,List.setIfInBounds_toArray,List.set_cons_zero,List.set_cons_succ]
      refine' wpAnyH_take (i:=18) (oi:={ dst:=some 33,op:=Op.pick (Operand.tmp 18) (Operand.const (Value.bool true)) (Operand.tmp 32),type:=4,pos:= "check.go:105",after:=#[{ on:=3,ground:=Ground.data },{ on:=17,ground:=Ground.data }],guard:=none }) (v:=_) (fuel:=0) rfl (by kernel_rfl) (by kernel_rfl) (by kernel_rfl) (fun _ _ _ h=>h) (Or.inl ⟨by rfl,?hy18d⟩) (by assumption) ?rest18d
      case hy18d=>(intro w' hSw;(try dsimp only at hSw);go_simp;try with_reducible rfl)
      simp only [Act.put,List.setIfInBounds_toArray,List.set_cons_zero,List.set_cons_succ]
      refine wpAnyH_done (by kernel_rfl) ?_ _
      go_wp2
      go_ret
      exact ⟨jad HNO.out.symm,bx hbd hb3⟩
  ·have e:tabs.take k=tabs:=List.take_of_length_le (by omega)
   have hf':=hf.out
   rw [e] at hf'
   have HF:Hid (R=true):=by show _=_;rw [← HR.out];exact hf'
   clear hf'
   go_wp2
   go_ret
   exact ⟨jad HF.out.symm,hb⟩
end Go.Proofs.YthmlndmlnlfhnaaGreatDoor
