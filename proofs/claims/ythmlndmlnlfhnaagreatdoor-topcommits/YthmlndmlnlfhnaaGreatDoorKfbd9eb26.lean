import Derived.Test.YthmlndmlnlfhnaaGreatDoorProg
import Derived.Test.YthmlndmlnlfhnaaGreatDoorChecked
import Derived.Test.YthmlndmlnlfhnaaGreatDoorKda032838
set_option maxRecDepth 100000
set_option maxHeartbeats 16000000
namespace Go.Proofs.YthmlndmlnlfhnaaGreatDoor
open Go.RowKit
theorem jwl:Tryz.prog.underlying 35=some (.slice 58):=by kernel_rfl
theorem yjk:(Tryz.prog.info? 58).map (fun i=>(i.zero,i.size,i.bytes))=some (some (.agg #[.string ⟨#[]⟩,.int .i64 0,.int .i64 0]),3,32):=by kernel_rfl
theorem yal (v:Value) (n:Nat) (us:List Value) (w:World) (h:Raw w 3 v n us) (hbig:n*32≤140737488355328) :
  Calls Tryz.prog 75 #[v] w fun e w'=>∃ v',e = .returned v'∧w'.ownsRow w.heap.size 58 3 v' n us∧Below w.heap.size w w':=by
 obtain ⟨A,c,rfl,h2,h3,h4,h5,h6,h7⟩:=h
 have q22:∀ (w:World) (a:Option Addr) (n c n' c':Nat),(binOp .eql 35 (.slice a n c) (.slice none n' c')).run Tryz.prog w = .ok (.bool a.isNone) w:=fun w a n c n' c'=>Lib.run_eql_slice_nil w _ _ a n c n' c' jwl
 cases A with
 | none =>
  have hc:=h4 rfl
  subst hc
  obtain rfl:n=0:=by omega
  obtain rfl:us = []:=List.length_eq_zero_iff.1 (by simpa using h5)
  go_enter Tryz.func75,Tryz.ntmps75
  go_wp2
  go_ret
  exact ⟨_,rfl,World.ownsRow_nil _ _ _ _,Below.refl _ _⟩
 | some a =>
  have hnew:Hid (∀ W:World,(∀ p:Addr,p.block<w.heap.size→W.cell? p=w.cell? p)→∀ j u,us[j]? = some u→W.cell? (a.add j)=some u):=by
   intro W hW j u hj
   have h0:0<n:=by
    have:=(List.getElem?_eq_some_iff.1 hj).1
    rcases Nat.eq_zero_or_pos n with h0 | h0
    ·rw [h0] at h5;omega
    ·exact h0
   obtain ⟨b,o,e,h8⟩:=h6 h0
   injection e with e
   subst e
   rw [Addr.add_lit]
   have:=h8 j u hj
   rw [hW _ (World.block_lt_of_cell? w _ this)]
   exact this
  clear h6
  go_enter Tryz.func75,Tryz.ntmps75
  go_wp2_with (at_builtin;refine jav _ rfl _ _ 35 rfl w.heap.size 58 3 32 (.agg #[.string ⟨#[]⟩,.int .i64 0,.int .i64 0]) jwl yjk rfl (by decide) _ 0 [] rfl (World.ownsRow_made w #[] 0 (Nat.le_refl _) (Nat.zero_le _) (by simp)) a n c us rfl h5 (hnew.out _ (fun p hp=>(jac w _).cell hp)) h7 (by omega) (by omega) (by simp) ?_;intro v' w1 hown hgrow hmv)
  go_ret
  refine ⟨v',rfl,by simpa using hown,?_⟩
  exact ((Below.refl _ w).alloc (Nat.le_refl _) _).grown hgrow (by simp) (by intro k hk;injection hk with hk;subst hk;exact Nat.le_refl _)
theorem jww:Tryz.prog.underlying 36=some (.slice 56):=by kernel_rfl
theorem yj0:(Tryz.prog.info? 56).map (fun i=>(i.zero,i.size,i.bytes))=some (some (.agg #[.string ⟨#[]⟩,.int .i64 0,.bool false,.slice none 0 0,.slice none 0 0]),5,80):=by kernel_rfl
theorem yjt (v:Value) (n:Nat) (us:List Value) (w:World) (h:Raw w 5 v n us) (hbig:n*80≤140737488355328) :
  Calls Tryz.prog 107 #[v] w fun e w'=>∃ v',e = .returned v'∧w'.ownsRow w.heap.size 56 5 v' n us∧Below w.heap.size w w':=by
 obtain ⟨A,c,rfl,h2,h3,h4,h5,h6,h7⟩:=h
 have q22:∀ (w:World) (a:Option Addr) (n c n' c':Nat),(binOp .eql 36 (.slice a n c) (.slice none n' c')).run Tryz.prog w = .ok (.bool a.isNone) w:=fun w a n c n' c'=>Lib.run_eql_slice_nil w _ _ a n c n' c' jww
 cases A with
 | none =>
  have hc:=h4 rfl
  subst hc
  obtain rfl:n=0:=by omega
  obtain rfl:us = []:=List.length_eq_zero_iff.1 (by simpa using h5)
  go_enter Tryz.func107,Tryz.ntmps107
  go_wp2
  go_ret
  exact ⟨_,rfl,World.ownsRow_nil _ _ _ _,Below.refl _ _⟩
 | some a =>
  have hnew:Hid (∀ W:World,(∀ p:Addr,p.block<w.heap.size→W.cell? p=w.cell? p)→∀ j u,us[j]? = some u→W.cell? (a.add j)=some u):=by
   intro W hW j u hj
   have h0:0<n:=by
    have:=(List.getElem?_eq_some_iff.1 hj).1
    rcases Nat.eq_zero_or_pos n with h0 | h0
    ·rw [h0] at h5;omega
    ·exact h0
   obtain ⟨b,o,e,h8⟩:=h6 h0
   injection e with e
   subst e
   rw [Addr.add_lit]
   have:=h8 j u hj
   rw [hW _ (World.block_lt_of_cell? w _ this)]
   exact this
  clear h6
  go_enter Tryz.func107,Tryz.ntmps107
  go_wp2_with (at_builtin;refine jav _ rfl _ _ 36 rfl w.heap.size 56 5 80 (.agg #[.string ⟨#[]⟩,.int .i64 0,.bool false,.slice none 0 0,.slice none 0 0]) jww yj0 rfl (by decide) _ 0 [] rfl (World.ownsRow_made w #[] 0 (Nat.le_refl _) (Nat.zero_le _) (by simp)) a n c us rfl h5 (hnew.out _ (fun p hp=>(jac w _).cell hp)) h7 (by omega) (by omega) (by simp) ?_;intro v' w1 hown hgrow hmv)
  go_ret
  refine ⟨v',rfl,by simpa using hown,?_⟩
  exact ((Below.refl _ w).alloc (Nat.le_refl _) _).grown hgrow (by simp) (by intro k hk;injection hk with hk;subst hk;exact Nat.le_refl _)
theorem jt4:Tryz.prog.underlying 54=some (.slice 82):=by kernel_rfl
theorem ygz:(Tryz.prog.info? 82).map (fun i=>(i.zero,i.size,i.bytes))=some (some (.agg #[.slice none 0 0,.int .i64 0]),2,32):=by kernel_rfl
theorem ygy (v:Value) (n:Nat) (us:List Value) (w:World) (h:Raw w 2 v n us) (hbig:n*32≤140737488355328) :
  Calls Tryz.prog 118 #[v] w fun e w'=>∃ v',e = .returned v'∧w'.ownsRow w.heap.size 82 2 v' n us∧Below w.heap.size w w':=by
 obtain ⟨A,c,rfl,h2,h3,h4,h5,h6,h7⟩:=h
 have q22:∀ (w:World) (a:Option Addr) (n c n' c':Nat),(binOp .eql 54 (.slice a n c) (.slice none n' c')).run Tryz.prog w = .ok (.bool a.isNone) w:=fun w a n c n' c'=>Lib.run_eql_slice_nil w _ _ a n c n' c' jt4
 cases A with
 | none =>
  have hc:=h4 rfl
  subst hc
  obtain rfl:n=0:=by omega
  obtain rfl:us = []:=List.length_eq_zero_iff.1 (by simpa using h5)
  go_enter Tryz.func118,Tryz.ntmps118
  go_wp2
  go_ret
  exact ⟨_,rfl,World.ownsRow_nil _ _ _ _,Below.refl _ _⟩
 | some a =>
  have hnew:Hid (∀ W:World,(∀ p:Addr,p.block<w.heap.size→W.cell? p=w.cell? p)→∀ j u,us[j]? = some u→W.cell? (a.add j)=some u):=by
   intro W hW j u hj
   have h0:0<n:=by
    have:=(List.getElem?_eq_some_iff.1 hj).1
    rcases Nat.eq_zero_or_pos n with h0 | h0
    ·rw [h0] at h5;omega
    ·exact h0
   obtain ⟨b,o,e,h8⟩:=h6 h0
   injection e with e
   subst e
   rw [Addr.add_lit]
   have:=h8 j u hj
   rw [hW _ (World.block_lt_of_cell? w _ this)]
   exact this
  clear h6
  go_enter Tryz.func118,Tryz.ntmps118
  go_wp2_with (at_builtin;refine jav _ rfl _ _ 54 rfl w.heap.size 82 2 32 (.agg #[.slice none 0 0,.int .i64 0]) jt4 ygz rfl (by decide) _ 0 [] rfl (World.ownsRow_made w #[] 0 (Nat.le_refl _) (Nat.zero_le _) (by simp)) a n c us rfl h5 (hnew.out _ (fun p hp=>(jac w _).cell hp)) h7 (by omega) (by omega) (by simp) ?_;intro v' w1 hown hgrow hmv)
  go_ret
  refine ⟨v',rfl,by simpa using hown,?_⟩
  exact ((Below.refl _ w).alloc (Nat.le_refl _) _).grown hgrow (by simp) (by intro k hk;injection hk with hk;subst hk;exact Nat.le_refl _)
theorem jtz:Tryz.prog.underlying 80=some (.slice 85):=by kernel_rfl
theorem ygn:(Tryz.prog.info? 85).map (fun i=>(i.zero,i.size,i.bytes))=some (some (.agg #[.bool false,.slice none 0 0]),2,32):=by kernel_rfl
theorem ygv (v:Value) (n:Nat) (us:List Value) (w:World) (h:Raw w 2 v n us) (hbig:n*32≤140737488355328) :
  Calls Tryz.prog 158 #[v] w fun e w'=>∃ v',e = .returned v'∧w'.ownsRow w.heap.size 85 2 v' n us∧Below w.heap.size w w':=by
 obtain ⟨A,c,rfl,h2,h3,h4,h5,h6,h7⟩:=h
 have q22:∀ (w:World) (a:Option Addr) (n c n' c':Nat),(binOp .eql 80 (.slice a n c) (.slice none n' c')).run Tryz.prog w = .ok (.bool a.isNone) w:=fun w a n c n' c'=>Lib.run_eql_slice_nil w _ _ a n c n' c' jtz
 cases A with
 | none =>
  have hc:=h4 rfl
  subst hc
  obtain rfl:n=0:=by omega
  obtain rfl:us = []:=List.length_eq_zero_iff.1 (by simpa using h5)
  go_enter Tryz.func158,Tryz.ntmps158
  go_wp2
  go_ret
  exact ⟨_,rfl,World.ownsRow_nil _ _ _ _,Below.refl _ _⟩
 | some a =>
  have hnew:Hid (∀ W:World,(∀ p:Addr,p.block<w.heap.size→W.cell? p=w.cell? p)→∀ j u,us[j]? = some u→W.cell? (a.add j)=some u):=by
   intro W hW j u hj
   have h0:0<n:=by
    have:=(List.getElem?_eq_some_iff.1 hj).1
    rcases Nat.eq_zero_or_pos n with h0 | h0
    ·rw [h0] at h5;omega
    ·exact h0
   obtain ⟨b,o,e,h8⟩:=h6 h0
   injection e with e
   subst e
   rw [Addr.add_lit]
   have:=h8 j u hj
   rw [hW _ (World.block_lt_of_cell? w _ this)]
   exact this
  clear h6
  go_enter Tryz.func158,Tryz.ntmps158
  go_wp2_with (at_builtin;refine jav _ rfl _ _ 80 rfl w.heap.size 85 2 32 (.agg #[.bool false,.slice none 0 0]) jtz ygn rfl (by decide) _ 0 [] rfl (World.ownsRow_made w #[] 0 (Nat.le_refl _) (Nat.zero_le _) (by simp)) a n c us rfl h5 (hnew.out _ (fun p hp=>(jac w _).cell hp)) h7 (by omega) (by omega) (by simp) ?_;intro v' w1 hown hgrow hmv)
  go_ret
  refine ⟨v',rfl,by simpa using hown,?_⟩
  exact ((Below.refl _ w).alloc (Nat.le_refl _) _).grown hgrow (by simp) (by intro k hk;injection hk with hk;subst hk;exact Nat.le_refl _)
theorem jwv:Tryz.prog.underlying 83=some (.slice 87):=by kernel_rfl
theorem yjz:(Tryz.prog.info? 87).map (fun i=>(i.zero,i.size,i.bytes))=some (some (.agg #[.int .i64 0,.int .i64 0]),2,16):=by kernel_rfl
theorem yjs (v:Value) (n:Nat) (us:List Value) (w:World) (h:Raw w 2 v n us) (hbig:n*16≤140737488355328) :
  Calls Tryz.prog 159 #[v] w fun e w'=>∃ v',e = .returned v'∧w'.ownsRow w.heap.size 87 2 v' n us∧Below w.heap.size w w':=by
 obtain ⟨A,c,rfl,h2,h3,h4,h5,h6,h7⟩:=h
 have q22:∀ (w:World) (a:Option Addr) (n c n' c':Nat),(binOp .eql 83 (.slice a n c) (.slice none n' c')).run Tryz.prog w = .ok (.bool a.isNone) w:=fun w a n c n' c'=>Lib.run_eql_slice_nil w _ _ a n c n' c' jwv
 cases A with
 | none =>
  have hc:=h4 rfl
  subst hc
  obtain rfl:n=0:=by omega
  obtain rfl:us = []:=List.length_eq_zero_iff.1 (by simpa using h5)
  go_enter Tryz.func159,Tryz.ntmps159
  go_wp2
  go_ret
  exact ⟨_,rfl,World.ownsRow_nil _ _ _ _,Below.refl _ _⟩
 | some a =>
  have hnew:Hid (∀ W:World,(∀ p:Addr,p.block<w.heap.size→W.cell? p=w.cell? p)→∀ j u,us[j]? = some u→W.cell? (a.add j)=some u):=by
   intro W hW j u hj
   have h0:0<n:=by
    have:=(List.getElem?_eq_some_iff.1 hj).1
    rcases Nat.eq_zero_or_pos n with h0 | h0
    ·rw [h0] at h5;omega
    ·exact h0
   obtain ⟨b,o,e,h8⟩:=h6 h0
   injection e with e
   subst e
   rw [Addr.add_lit]
   have:=h8 j u hj
   rw [hW _ (World.block_lt_of_cell? w _ this)]
   exact this
  clear h6
  go_enter Tryz.func159,Tryz.ntmps159
  go_wp2_with (at_builtin;refine jav _ rfl _ _ 83 rfl w.heap.size 87 2 16 (.agg #[.int .i64 0,.int .i64 0]) jwv yjz rfl (by decide) _ 0 [] rfl (World.ownsRow_made w #[] 0 (Nat.le_refl _) (Nat.zero_le _) (by simp)) a n c us rfl h5 (hnew.out _ (fun p hp=>(jac w _).cell hp)) h7 (by omega) (by omega) (by simp) ?_;intro v' w1 hown hgrow hmv)
  go_ret
  refine ⟨v',rfl,by simpa using hown,?_⟩
  exact ((Below.refl _ w).alloc (Nat.le_refl _) _).grown hgrow (by simp) (by intro k hk;injection hk with hk;subst hk;exact Nat.le_refl _)
theorem jwx:Tryz.prog.underlying 39=some (.slice 9):=by kernel_rfl
theorem yj1:(Tryz.prog.info? 9).map (fun i=>(i.zero,i.size,i.bytes))=some (some (.string ⟨#[]⟩),1,16):=by kernel_rfl
theorem yju (v:Value) (n:Nat) (us:List Value) (w:World) (h:Raw w 1 v n us) (hbig:n*16≤140737488355328) :
  Calls Tryz.prog 81 #[v] w fun e w'=>∃ v',e = .returned v'∧w'.ownsRow w.heap.size 9 1 v' n us∧Below w.heap.size w w':=by
 obtain ⟨A,c,rfl,h2,h3,h4,h5,h6,h7⟩:=h
 have q22:∀ (w:World) (a:Option Addr) (n c n' c':Nat),(binOp .eql 39 (.slice a n c) (.slice none n' c')).run Tryz.prog w = .ok (.bool a.isNone) w:=fun w a n c n' c'=>Lib.run_eql_slice_nil w _ _ a n c n' c' jwx
 cases A with
 | none =>
  have hc:=h4 rfl
  subst hc
  obtain rfl:n=0:=by omega
  obtain rfl:us = []:=List.length_eq_zero_iff.1 (by simpa using h5)
  go_enter Tryz.func81,Tryz.ntmps81
  go_wp2
  go_ret
  exact ⟨_,rfl,World.ownsRow_nil _ _ _ _,Below.refl _ _⟩
 | some a =>
  have hnew:Hid (∀ W:World,(∀ p:Addr,p.block<w.heap.size→W.cell? p=w.cell? p)→∀ j u,us[j]? = some u→W.cell? (a.add j)=some u):=by
   intro W hW j u hj
   have h0:0<n:=by
    have:=(List.getElem?_eq_some_iff.1 hj).1
    rcases Nat.eq_zero_or_pos n with h0 | h0
    ·rw [h0] at h5;omega
    ·exact h0
   obtain ⟨b,o,e,h8⟩:=h6 h0
   injection e with e
   subst e
   rw [Addr.add_lit]
   have:=h8 j u hj
   rw [hW _ (World.block_lt_of_cell? w _ this)]
   exact this
  clear h6
  go_enter Tryz.func81,Tryz.ntmps81
  go_wp2_with (at_builtin;refine jav _ rfl _ _ 39 rfl w.heap.size 9 1 16 (.string ⟨#[]⟩) jwx yj1 rfl (by decide) _ 0 [] rfl (World.ownsRow_made w #[] 0 (Nat.le_refl _) (Nat.zero_le _) (by simp)) a n c us rfl h5 (hnew.out _ (fun p hp=>(jac w _).cell hp)) h7 (by omega) (by omega) (by simp) ?_;intro v' w1 hown hgrow hmv)
  go_ret
  refine ⟨v',rfl,by simpa using hown,?_⟩
  exact ((Below.refl _ w).alloc (Nat.le_refl _) _).grown hgrow (by simp) (by intro k hk;injection hk with hk;subst hk;exact Nat.le_refl _)
end Go.Proofs.YthmlndmlnlfhnaaGreatDoor
