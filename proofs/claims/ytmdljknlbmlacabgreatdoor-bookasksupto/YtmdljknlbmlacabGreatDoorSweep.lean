/- Statements of a program that leave the order of their parts open, where several of the parts store into one map: whatever the order, what is said of the map and of the parts still to come holds on. No condition; no program is named. -/
import Derived.Test.YtmdljknlbmlacabGreatDoorMem
import Derived.Deep.RegionHeld3
import Derived.Maps.OwnSet
namespace Go.Proofs.YtmdljknlbmlacabGreatDoor
open Go.RowKit

def subs : List Nat → List (List Nat)
  | [] => [[]]
  | x :: l => subs l ++ (subs l).map (x :: ·)
def undone (base : Array Bool) (rem : List Nat) : Array Bool := rem.foldl (fun l i => l.setIfInBounds i false) base
/-- that the parts `todo`, and none besides, may come up while one of them is left -/
def sweepOk (md : Region.Mode) (ops : Array Oper) (base : Array Bool) (todo : List Nat) : Bool :=
  (subs todo).all fun rem => rem.all fun i => decide (Region.ready md ops (undone base rem) = rem) && decide ((undone base rem).setIfInBounds i true = undone base (rem.erase i)) && decide (rem.erase i ∈ subs todo)

theorem wpAnyH_sweep {P : Program} {md : Region.Mode} {ops : Array Oper} {Q : Exit → Act → World → Prop} {S : World → Prop} {a : Act} {n : Nat} (base : Array Bool) (todo : List Nat) (J : List Nat → World → Prop)
    (hok : sweepOk md ops base todo = true)
    (hstep : ∀ rem w i, i ∈ rem → rem ∈ subs todo → J rem w → wpOp P ops Q i (fun a' w' => a' = a ∧ S w' ∧ J (rem.erase i) w') a w)
    (hend : ∀ w, J [] w → wpAnyH P md ops Q S n base a w) :
    ∀ (m : Nat) (rem : List Nat) (w : World), rem.length = m → rem ∈ subs todo → J rem w → wpAnyH P md ops Q S (m + n) (undone base rem) a w := by
  intro m
  induction m with
  | zero =>
    intro rem w hl _ hJ
    obtain rfl : rem = [] := List.length_eq_zero_iff.1 hl
    rw [Nat.zero_add]
    exact hend w hJ
  | succ m ih =>
    intro rem w hl hs hJ
    have hok' := hok
    unfold sweepOk at hok'
    have h1 := List.all_eq_true.1 (List.all_eq_true.1 hok' rem hs)
    have hne : rem ≠ [] := by intro h; rw [h] at hl; simp at hl
    have h2 : ∀ i ∈ rem, Region.ready md ops (undone base rem) = rem ∧ (undone base rem).setIfInBounds i true = undone base (rem.erase i) ∧ rem.erase i ∈ subs todo := fun i hi => by
      have := h1 i hi
      simp only [Bool.and_eq_true, decide_eq_true_eq] at this
      exact ⟨this.1.1, this.1.2, this.2⟩
    obtain ⟨x, hx⟩ := List.exists_mem_of_ne_nil _ hne
    rw [show m + 1 + n = (m + n) + 1 by omega]
    refine wpAnyH_all (h2 x hx).1 hne fun i hi => wpOp_mono ?_ (hstep rem w i hi hs hJ)
    rintro a' w' ⟨rfl, hS, hJ'⟩
    refine ⟨hS, ?_⟩
    rw [(h2 i hi).2.1]
    exact ih _ _ (by rw [List.length_erase_of_mem hi]; omega) (h2 i hi).2.2 hJ'

theorem wpAnyH_swept {P : Program} {md : Region.Mode} {ops : Array Oper} {Q : Exit → Act → World → Prop} {S : World → Prop} {a : Act} {w : World} {fuel : Nat} {listed : Array Bool} (n : Nat) (base : Array Bool) (todo : List Nat) (J : List Nat → World → Prop)
    (hl : listed = undone base todo) (hf : fuel = todo.length + n) (hin : todo ∈ subs todo) (hok : sweepOk md ops base todo = true)
    (hJ : J todo w)
    (hstep : ∀ rem w i, i ∈ rem → rem ∈ subs todo → J rem w → wpOp P ops Q i (fun a' w' => a' = a ∧ S w' ∧ J (rem.erase i) w') a w)
    (hend : ∀ w, J [] w → wpAnyH P md ops Q S n base a w) : wpAnyH P md ops Q S fuel listed a w := by
  subst hl hf
  exact wpAnyH_sweep base todo J hok hstep hend _ _ _ rfl hin hJ

theorem mem_subs {todo : List Nat} : ∀ {rem : List Nat} {i : Nat}, rem ∈ subs todo → i ∈ rem → i ∈ todo := by
  induction todo with
  | nil => intro rem i h hi; simp [subs] at h; subst h; cases hi
  | cons x l ih =>
    intro rem i h hi
    unfold subs at h
    rcases List.mem_append.1 h with h | h
    · exact List.mem_cons_of_mem _ (ih h hi)
    · obtain ⟨r, hr, rfl⟩ := List.mem_map.1 h
      rcases List.mem_cons.1 hi with rfl | hi
      · exact List.mem_cons_self
      · exact List.mem_cons_of_mem _ (ih hr hi)

theorem wpOp_insert {P : Program} {ops : Array Oper} {Q : Exit → Act → World → Prop} {i : Nat} {o : Oper} {a : Act} {w w' : World} {K : Act → World → Prop} {t : TypeId} {m k v : Operand} {vm vk vv : Value}
    (ho : ops[i]? = some o) (hop : o.op = Op.insert t m k v) (hd : o.dst = none) (hg : o.guard = none) (hm : a.eval m = vm) (hk : a.eval k = vk) (hv : a.eval v = vv)
    (hrun : (Instr.mapUpdate t vm vk vv).run P w = .ok () w') (h : K a w') : wpOp P ops Q i K a w := by
  unfold wpOp
  rw [ho]
  have hw : Region.wanted o (yielded ops a.tmps) = true := by simp [Region.wanted, hg]
  simp only [hw, if_true]
  left
  unfold Oper.wp execOp
  simp only [hop, hm, hk, hv, hrun, Sem.run_bind, Result.andThen_ok, Sem.run_pure]
  simp only [Oper.upon, hd, Act.put]
  exact h

end Go.Proofs.YtmdljknlbmlacabGreatDoor
