/- Maps keyed by texts, as functions from texts to values: made, read, written, struck, counted. Conditions: keys have at most maxLen bytes, and the map has room; the program is a variable. book.waitsFor, the closures of Order and slices.IndexFunc and ContainsFunc over them, each as a Lean function of what its arguments read as. Conditions: the table reads as lists in old memory; the map of waiting names is read as a list of names. book.Order, as a Lean function of what its argument reads as. Conditions: the book reads as lists in old memory; the names of its tables are different; names and lists fit into 2^47 bytes. book.Order, as a Lean function of what its argument reads as. Conditions: the book reads as lists in old memory; the names of its tables are different; names and lists fit into 2^47 bytes. -/
import Derived.Test.YtmdljknlbmlacabGreatDoorBookW
import Derived.Maps.OwnSet
import Derived.Maps.Views
import Derived.StringKeys
import Derived.Test.YtmdljknlbmlacabGreatDoorBookA
import Derived.Shelf.Abstract
import Derived.Deep.RegionLaw
namespace Go.Proofs.YtmdljknlbmlacabGreatDoor
open Go.RowKit Go.Maps Go.WideMaps

def holdV (v : Value) : Option (DataW Value × List MemPlace) := some (.held v, [])
def kS (s : ByteArray) : Lit := .string s.data.toList
theorem kS_ne {s t : ByteArray} (h : s ≠ t) : kS s ≠ kS t := by
  intro e
  injection e with e
  apply h
  cases s; cases t
  simp at e
  rw [e]
/-- block b is a map keyed by texts, of c entries; f says what stands at each; n: any bound on the entries -/
def MapS (P : Program) (k : TypeId) (w : World) (b n c : Nat) (f : ByteArray → Option Value) : Prop :=
  ∃ D : DataW Value, w.ownsMap P k holdV b n D ∧ Maps.size D = c ∧ ∀ s, Maps.has D (kS s) = (f s).isSome ∧ ∀ z, D.atKey (kS s) (.held z) = .held ((f s).getD z)

section
variable {P : Program} {k t e : TypeId} {w w' : World} {b n c : Nat} {f : ByteArray → Option Value} {s : ByteArray} {z : Value}
theorem MapS.made (P : Program) (k : TypeId) (w : World) : MapS P k (w.alloc (.map #[] 0)) w.heap.size 0 0 (fun _ => none) :=
  ⟨.map [], World.ownsMap_made w P k holdV, rfl, fun _ => ⟨rfl, fun _ => rfl⟩⟩
theorem MapS.lt (h : MapS P k w b n c f) : b < w.heap.size := by obtain ⟨D, h1, _⟩ := h; exact h1.lt
theorem MapS.mono (h : MapS P k w b n c f) {n' : Nat} (hn : n ≤ n') : MapS P k w b n' c f := by obtain ⟨D, h1, h2⟩ := h; exact ⟨D, h1.mono hn, h2⟩
theorem MapS.kept {row : Option Nat} (h : MapS P k w b n c f) (hg : w.grownBy w' row) (hne : some b ≠ row) : MapS P k w' b n c f := by
  obtain ⟨D, h1, h2⟩ := h; exact ⟨D, h1.kept hg hne, h2⟩
theorem MapS.below (h : MapS P k w b n c f) (hb : Below w.heap.size w w') : MapS P k w' b n c f := h.kept (row := none) (grown_of_below hb) (by simp)
theorem MapS.belowAt {B : Nat} (h : MapS P k w b n c f) (hb : Below B w w') (hB : b < B) : MapS P k w' b n c f := by
  obtain ⟨D, ⟨es, clock, h1, hr⟩, h2⟩ := h
  exact ⟨D, ⟨es, clock, (hb.block b hB).trans h1, hr⟩, h2⟩
theorem MapS.alloc (h : MapS P k w b n c f) (o : Obj) : MapS P k (w.alloc o) b n c f := by obtain ⟨D, h1, h2⟩ := h; exact ⟨D, h1.alloc o, h2⟩
theorem MapS.drew (h : MapS P k w b n c f) : MapS P k w.drew b n c f := h
theorem MapS.setCell (h : MapS P k w b n c f) {a : Addr} (ha : b ≠ a.block) (u : Value) : MapS P k (w.setCell a u) b n c f := by obtain ⟨D, h1, h2⟩ := h; exact ⟨D, h1.setCell ha u, h2⟩
theorem MapS.congr {g : ByteArray → Option Value} (h : MapS P k w b n c f) (hg : ∀ s, f s = g s) : MapS P k w b n c g := by
  have : f = g := funext hg
  subst this; exact h

theorem MapS.look (h : MapS P k w b n c f) (hk : P.underlying k = some .string) (ht : P.underlying t = some (.map k e)) (hz : (zeroValue e).run P w = .ok z w) (hs : s.size ≤ maxLen) :
    (Instr.lookup t (.map (some b)) (.string s) false).run P w = .ok ((f s).getD z) w := by
  obtain ⟨D, h1, _, h2⟩ := h
  obtain ⟨v, ps, hrun, hv⟩ := h1.lookup (string_keyed hk) ht hz (zd := .held z) (zp := []) rfl (keyOf_string_mk hk hs)
  have e1 : D.atKey (Lit.string s.data.toList) (.held z) = .held ((f s).getD z) := (h2 s).2 z
  have e2 : (DataW.held v : DataW Value) = D.atKey (Lit.string s.data.toList) (.held z) := congrArg Prod.fst (Option.some.inj hv)
  rw [e1] at e2
  injection e2 with e2
  rw [hrun, e2]
theorem MapS.lookOk (h : MapS P k w b n c f) (hk : P.underlying k = some .string) (ht : P.underlying t = some (.map k e)) (hz : (zeroValue e).run P w = .ok z w) (hs : s.size ≤ maxLen) :
    (Instr.lookup t (.map (some b)) (.string s) true).run P w = .ok (.tuple #[(f s).getD z, .bool (f s).isSome]) w := by
  obtain ⟨D, h1, _, h2⟩ := h
  obtain ⟨v, ps, hrun, hv⟩ := h1.look_ok (string_keyed hk) ht hz (zd := .held z) (zp := []) rfl (keyOf_string_mk hk hs)
  have e1 : D.atKey (Lit.string s.data.toList) (.held z) = .held ((f s).getD z) := (h2 s).2 z
  have e2 : (DataW.held v : DataW Value) = D.atKey (Lit.string s.data.toList) (.held z) := congrArg Prod.fst (Option.some.inj hv)
  rw [e1] at e2
  injection e2 with e2
  have e3 : Maps.has D (Lit.string s.data.toList) = (f s).isSome := (h2 s).1
  rw [hrun, e2, e3]
theorem MapS.len (h : MapS P k w b n c f) (ht : P.underlying t = some (.map k e)) (ty : TypeId) : (Builtin.len_ #[t] ty #[.map (some b)]).run P w = .ok (.int .i64 c) w := by
  obtain ⟨D, h1, rfl, _⟩ := h
  exact h1.len ht ty
theorem put_read {D : DataW Value} (h1 : w.ownsMap P k holdV b n D) (h2 : ∀ s, Maps.has D (kS s) = (f s).isSome ∧ ∀ z, D.atKey (kS s) (.held z) = .held ((f s).getD z)) (v : Value) (s x : ByteArray) :
    Maps.has (D.put (kS s) (.held v)) (kS x) = (if sameS x s then some v else f x).isSome ∧ ∀ z, (D.put (kS s) (.held v)).atKey (kS x) (.held z) = .held ((if sameS x s then some v else f x).getD z) := by
  by_cases e : x = s
  · subst e
    rw [sameS_refl]
    exact ⟨has_put_same h1.isMap (by simp [WideAt.IsKeyLit, kS]) _, fun z => atKey_put_same h1.isMap (by simp [WideAt.IsKeyLit, kS]) _ _⟩
  · rw [sameS_ne.2 e]
    exact ⟨(has_put_other (kS_ne e) _).trans (h2 x).1, fun z => (atKey_put_other (kS_ne e) _ _).trans ((h2 x).2 z)⟩
theorem MapS.put (h : MapS P k w b n c f) (hk : P.underlying k = some .string) (ht : P.underlying t = some (.map k e)) (hs : s.size ≤ maxLen) (hn : n < maxLen) (v : Value) :
    ∃ w', (Instr.mapUpdate t (.map (some b)) (.string s) v).run P w = .ok () w' ∧ MapS P k w' b (n + 1) (if (f s).isSome then c else c + 1) (fun x => if sameS x s then some v else f x) ∧ w.grownBy w' (some b) := by
  obtain ⟨D, h1, rfl, h2⟩ := h
  obtain ⟨w', hrun, ho, hg⟩ := h1.update (string_keyed hk) ht hn (keyOf_string_mk hk hs) (val := v) (d := .held v) (ps := []) rfl
  refine ⟨w', hrun, ⟨D.put (kS s) (.held v), ho, ?_, put_read h1 h2 v s⟩, hg⟩
  rw [size_put (h1.tidy (string_keyed hk)), (h2 s).1]
theorem MapS.del (h : MapS P k w b n c f) (hk : P.underlying k = some .string) (ht : P.underlying t = some (.map k e)) (hs : s.size ≤ maxLen) (ty : TypeId) :
    ∃ w', (Builtin.delete_ #[t, k] ty #[.map (some b), .string s]).run P w = .ok (.tuple #[]) w' ∧ MapS P k w' b n (if (f s).isSome then c - 1 else c) (fun x => if sameS x s then none else f x) ∧ w.grownBy w' (some b) := by
  obtain ⟨D, h1, rfl, h2⟩ := h
  obtain ⟨w', hrun, ho, hg⟩ := h1.drop (string_keyed hk) ht (keyOf_string_mk hk hs) ty
  refine ⟨w', hrun, ⟨D.del (kS s), ho, ?_, fun x => ?_⟩, hg.grown⟩
  · have e1 := size_del (k := kS s) (h1.tidy (string_keyed hk))
    rw [(h2 s).1] at e1
    split at e1 <;> rename_i hh <;> simp [hh] <;> omega
  · by_cases ex : x = s
    · subst ex
      simp only [sameS_refl]
      exact ⟨has_del_same, fun z => atKey_del_same _⟩
    · simp only [sameS_ne.2 ex]
      exact ⟨(has_del_other (kS_ne ex)).trans (h2 x).1, fun z => (atKey_del_other (kS_ne ex) _).trans ((h2 x).2 z)⟩
end

section
variable {P : Program} (w : World) {ops : Array Oper} {rest : List Oper} {o : Oper} {a : Act} {Q : Exit → Act → World → Prop}
theorem wpList_lookS (hg : o.guard = none) (m x : Operand) (t : TypeId) (hop : o.op = Op.lookup t m x false) (k e : TypeId) (hk : P.underlying k = some .string) (ht : P.underlying t = some (.map k e)) {z : Value} (hz : (zeroValue e).run P w = .ok z w)
    (b n c : Nat) (f : ByteArray → Option Value) (hm : a.eval m = .map (some b)) (hown : MapS P k w b n c f) (s : ByteArray) (hx : a.eval x = .string s) (hs : s.size ≤ maxLen) (v : Value) (hv : (f s).getD z = v)
    (hK : wpList P ops Q rest (a.put o.dst v) w) : wpList P ops Q (o :: rest) a w := by
  refine wpList_plain hg fun K' hK' => ?_
  unfold Oper.wp
  simp [execOp, hop, hm, hx, hown.look hk ht hz hs, hv, Result.andThen]
  exact hK' _ _ hK
theorem wpList_putS (hg : o.guard = none) (m x v : Operand) (t : TypeId) (hop : o.op = Op.mapUpdate t m x v) (k e : TypeId) (hk : P.underlying k = some .string) (ht : P.underlying t = some (.map k e))
    (b n c : Nat) (f : ByteArray → Option Value) (hm : a.eval m = .map (some b)) (hown : MapS P k w b n c f) (s : ByteArray) (hx : a.eval x = .string s) (hs : s.size ≤ maxLen) (hn : n < maxLen) (val : Value) (hv : a.eval v = val)
    (hK : ∀ w', MapS P k w' b (n + 1) (if (f s).isSome then c else c + 1) (fun x => if sameS x s then some val else f x) → w.grownBy w' (some b) → wpList P ops Q rest (a.put o.dst undef) w') : wpList P ops Q (o :: rest) a w := by
  refine wpList_plain hg fun K' hK' => ?_
  obtain ⟨w', hrun, r1, r2⟩ := hown.put hk ht hs hn val
  unfold Oper.wp
  simp [execOp, hop, hm, hx, hv, hrun, Result.andThen]
  exact hK' _ _ (hK w' r1 r2)
theorem wpList_delS (hg : o.guard = none) (m x : Operand) (t k : TypeId) (hop : o.op = Op.call { callee := Callee.builtin Builtin.delete, args := #[m, x], argTypes := #[t, k] }) (e : TypeId) (hk : P.underlying k = some .string) (ht : P.underlying t = some (.map k e))
    (b n c : Nat) (f : ByteArray → Option Value) (hm : a.eval m = .map (some b)) (hown : MapS P k w b n c f) (s : ByteArray) (hx : a.eval x = .string s) (hs : s.size ≤ maxLen)
    (hK : ∀ w', MapS P k w' b n (if (f s).isSome then c - 1 else c) (fun x => if sameS x s then none else f x) → w.grownBy w' (some b) → wpList P ops Q rest (a.put o.dst (.tuple #[])) w') : wpList P ops Q (o :: rest) a w := by
  refine wpList_plain hg fun K' hK' => ?_
  obtain ⟨w', hrun, r1, r2⟩ := hown.del hk ht hs o.type
  unfold Oper.wp
  simp [execOp, hop, resolve, invoke, builtin, hm, hx, hrun, Result.andThen]
  exact hK' _ _ (hK w' r1 r2)
theorem wpList_lenS (hg : o.guard = none) (m : Operand) (t : TypeId) (hop : o.op = Op.call { callee := Callee.builtin Builtin.len, args := #[m], argTypes := #[t] }) (k e : TypeId) (ht : P.underlying t = some (.map k e))
    (b n c : Nat) (f : ByteArray → Option Value) (hm : a.eval m = .map (some b)) (hown : MapS P k w b n c f) (hK : wpList P ops Q rest (a.put o.dst (.int .i64 c)) w) : wpList P ops Q (o :: rest) a w := by
  refine wpList_plain hg fun K' hK' => ?_
  unfold Oper.wp
  simp [execOp, hop, resolve, invoke, builtin, hm, hown.len ht o.type, Result.andThen]
  exact hK' _ _ hK
end

section
variable {P : Program} {ops : Array Oper} {o : Oper} {a : Act} {w : World} {K : Act → World → Prop} {Q : Exit → Act → World → Prop} {X : Prop}
/-- the same inside a statement that leaves its order open -/
theorem step_delS (hg : o.guard = none) (m x : Operand) (t k : TypeId) (hop : o.op = Op.call { callee := Callee.builtin Builtin.delete, args := #[m, x], argTypes := #[t, k] }) (e : TypeId) (hk : P.underlying k = some .string) (ht : P.underlying t = some (.map k e))
    (b n c : Nat) (f : ByteArray → Option Value) (hm : a.eval m = .map (some b)) (hown : MapS P k w b n c f) (s : ByteArray) (hx : a.eval x = .string s) (hs : s.size ≤ maxLen)
    (hK : ∀ w', MapS P k w' b n (if (f s).isSome then c - 1 else c) (fun x => if sameS x s then none else f x) → w.grownBy w' (some b) → K (a.put o.dst (.tuple #[])) w') :
    if Region.wanted o (yielded ops a.tmps) = true then Oper.wp P o a w K Q else X := by
  have hw : Region.wanted o (yielded ops a.tmps) = true := by simp [Region.wanted, hg]
  rw [if_pos hw]
  obtain ⟨w', hrun, r1, r2⟩ := hown.del hk ht hs o.type
  unfold Oper.wp
  simp [execOp, hop, resolve, invoke, builtin, hm, hx, hrun, Result.andThen]
  exact hK w' r1 r2
theorem step_putS (hg : o.guard = none) (m x v : Operand) (t : TypeId) (hop : o.op = Op.mapUpdate t m x v) (k e : TypeId) (hk : P.underlying k = some .string) (ht : P.underlying t = some (.map k e))
    (b n c : Nat) (f : ByteArray → Option Value) (hm : a.eval m = .map (some b)) (hown : MapS P k w b n c f) (s : ByteArray) (hx : a.eval x = .string s) (hs : s.size ≤ maxLen) (hn : n < maxLen) (val : Value) (hv : a.eval v = val)
    (hK : ∀ w', MapS P k w' b (n + 1) (if (f s).isSome then c else c + 1) (fun x => if sameS x s then some val else f x) → w.grownBy w' (some b) → K (a.put o.dst undef) w') :
    if Region.wanted o (yielded ops a.tmps) = true then Oper.wp P o a w K Q else X := by
  have hw : Region.wanted o (yielded ops a.tmps) = true := by simp [Region.wanted, hg]
  rw [if_pos hw]
  obtain ⟨w', hrun, r1, r2⟩ := hown.put hk ht hs hn val
  unfold Oper.wp
  simp [execOp, hop, hm, hx, hv, hrun, Result.andThen]
  exact hK w' r1 r2
end

/- maps of texts to true; of texts to answers; of texts to places -/
def boolF (l : List ByteArray) : ByteArray → Option Value := fun s => if hasN l s then some (.bool true) else none
theorem boolF_nil (s : ByteArray) : (fun _ => none : ByteArray → Option Value) s = boolF [] s := rfl
theorem hasN_append (l m : List ByteArray) (s : ByteArray) : hasN (l ++ m) s = (hasN l s || hasN m s) := by simp [hasN]
theorem boolF_put (l : List ByteArray) (s x : ByteArray) : (if sameS x s then some (.bool true) else boolF l x) = boolF (l ++ [s]) x := by
  unfold boolF
  rw [hasN_append]
  have : hasN [s] x = sameS x s := by simp [hasN]
  rw [this]
  cases sameS x s <;> cases hasN l x <;> rfl
theorem boolF_del (l : List ByteArray) (s x : ByteArray) : (if sameS x s then none else boolF l x) = boolF (dropN l s) x := by
  unfold boolF
  by_cases e : x = s
  · subst e
    rw [sameS_refl, hasN_false.2 (fun h => (mem_dropN.1 h).2 rfl)]; rfl
  · rw [sameS_ne.2 e]
    have : hasN (dropN l s) x = hasN l x := by
      cases h : hasN l x
      · rw [hasN_false] at h ⊢; exact fun hh => h (mem_dropN.1 hh).1
      · rw [hasN_iff] at h ⊢; exact mem_dropN.2 ⟨h, e⟩
    rw [this]; rfl
theorem boolF_get (l : List ByteArray) (s : ByteArray) : (boolF l s).getD (.bool false) = .bool (hasN l s) := by
  unfold boolF; cases hasN l s <;> rfl
theorem boolF_some (l : List ByteArray) (s : ByteArray) : (boolF l s).isSome = hasN l s := by
  unfold boolF; cases hasN l s <;> rfl
def ansVal (a : AnsD) : Value := .agg #[.string a.1, .bool a.2.1, .int .i64 a.2.2]
def ansF (k : ByteArray → Option AnsD) : ByteArray → Option Value := fun s => (k s).map ansVal
theorem ansF_put (k : ByteArray → Option AnsD) (s x : ByteArray) (a : AnsD) : (if sameS x s then some (ansVal a) else ansF k x) = ansF (putA k s a) x := by
  unfold ansF putA
  cases sameS x s <;> rfl
theorem ansF_get (k : ByteArray → Option AnsD) (s : ByteArray) : (ansF k s).getD (ansVal zeroA) = ansVal ((k s).getD zeroA) := by
  unfold ansF; cases k s <;> rfl
theorem found_get (k : ByteArray → Option AnsD) (s : ByteArray) : ((k s).getD zeroA).2.1 = foundA k s := by unfold foundA zeroA; cases k s <;> rfl
theorem num_get (k : ByteArray → Option AnsD) (s : ByteArray) : ((k s).getD zeroA).2.2 = numA k s := by unfold numA zeroA; cases k s <;> rfl
def placeF (l : List ByteArray) (s : ByteArray) : Option Int := Option.map (fun i : Nat => (i : Int) + 1) (l.findIdx? (sameS s))
def placeV (l : List ByteArray) : ByteArray → Option Value := fun s => (placeF l s).map (.int .i64)
theorem placeF_at {l : List ByteArray} (hn : l.Nodup) {i : Nat} {s : ByteArray} (h : l[i]? = some s) : placeF l s = some ((i : Int) + 1) := by
  unfold placeF
  have : l.findIdx? (sameS s) = some i := by
    rw [List.findIdx?_eq_some_iff_getElem]
    obtain ⟨hi, e⟩ := List.getElem?_eq_some_iff.1 h
    refine ⟨hi, by rw [e]; exact sameS_refl s, fun j hj => ?_⟩
    rw [Bool.not_eq_true, sameS_ne]
    intro e2
    exact (List.pairwise_iff_getElem.1 hn) j i (by omega) hi hj (by rw [e, ← e2])
  rw [this]; rfl
theorem placeF_more {l : List ByteArray} {s x : ByteArray} (hs : s ∉ l) : placeF (l ++ [s]) x = if sameS x s then some ((l.length : Int) + 1) else placeF l x := by
  unfold placeF
  rw [List.findIdx?_append]
  by_cases e : x = s
  · subst e
    rw [sameS_refl]
    have : l.findIdx? (sameS x) = none := by
      rw [List.findIdx?_eq_none_iff]
      intro y hy
      rw [sameS_ne]; rintro rfl; exact hs hy
    rw [this]
    simp [List.findIdx?_cons, sameS_refl]
  · rw [sameS_ne.2 e]
    simp [List.findIdx?_cons, sameS_ne.2 e]
theorem placeV_put {l : List ByteArray} {s x : ByteArray} (hs : s ∉ l) : (if sameS x s then some (.int .i64 ((l.length : Int) + 1)) else placeV l x) = placeV (l ++ [s]) x := by
  unfold placeV
  rw [placeF_more hs]
  cases sameS x s <;> rfl
theorem placeV_get (l : List ByteArray) (s : ByteArray) : (placeV l s).getD (.int .i64 0) = .int .i64 ((placeF l s).getD 0) := by
  unfold placeV; cases placeF l s <;> rfl
theorem placeF_pos {l : List ByteArray} {s : ByteArray} {n : Int} (h : placeF l s = some n) : 1 ≤ n ∧ n ≤ l.length := by
  unfold placeF at h
  rw [Option.map_eq_some_iff] at h
  obtain ⟨i, h1, rfl⟩ := h
  have := (List.findIdx?_eq_some_iff_getElem.1 h1).1
  omega

end Go.Proofs.YtmdljknlbmlacabGreatDoor
namespace Go.Proofs.YtmdljknlbmlacabGreatDoor
open Go.RowKit Go.Shelf

theorem b_under : Tryz.prog.underlying 91 = some (.map 9 4) := by kernel_rfl
theorem b_zero (w : World) : (zeroValue 4).run Tryz.prog w = .ok (.bool false) w := by kernel_rfl
theorem b_make (w : World) : (Instr.makeMap 91 none).run Tryz.prog w = .ok (.map (some w.heap.size)) (w.alloc (.map #[] 0)) := rfl
theorem wait_look {w : World} {b n c : Nat} {l : List ByteArray} (h : MapS Tryz.prog 9 w b n c (boolF l)) (s : ByteArray) (hs : s.size ≤ maxLen) :
    (Instr.lookup 91 (.map (some b)) (.string s) false).run Tryz.prog w = .ok (.bool (hasN l s)) w := by
  rw [h.look Tryz.underlying9 b_under (b_zero w) hs, boolF_get]

/-- a cell that holds the map of waiting names -/
structure WaitAt (w : World) (M mb n c : Nat) (wait : List ByteArray) : Prop where
  cell : w.cell? ⟨M, 0, none⟩ = some (.map (some mb))
  lt : M < w.heap.size
  map : MapS Tryz.prog 9 w mb n c (boolF wait)
theorem WaitAt.next {w w' : World} {M mb n c : Nat} {wait : List ByteArray} (h : WaitAt w M mb n c wait) (hb : Below w.heap.size w w') : WaitAt w' M mb n c wait :=
  ⟨(hb.cell (p := ⟨M, 0, none⟩) h.lt).trans h.cell, Nat.lt_of_lt_of_le h.lt hb.size, h.map.below hb⟩

set_option maxHeartbeats 400000 in
theorem waits_fn (wait : List ByteArray) (s : ByteArray) (w : World) (M mb n c : Nat) (h : WaitAt w M mb n c wait) (hs : s.size ≤ maxLen) :
    Calls Tryz.prog 70 #[.string s, .pointer (some ⟨M, 0, none⟩)] w fun e w' => e = .returned (.bool (hasN wait s)) ∧ Below w.heap.size w w' := by
  have c1 := h.cell
  have hl := wait_look h.map s hs
  generalize hasN wait s = R at *
  go_enter Tryz.func70, Tryz.ntmps70
  go_wp2
  go_ret
  exact ⟨rfl, Below.refl _ _⟩

set_option maxHeartbeats 1000000 in
theorem index_waits (wait : List ByteArray) (l : List ByteArray) (v : Value) (w : World) (M mb n c : Nat) (h : WaitAt w M mb n c wait) (hl : Sl Enc.str w (Old w) l v) (hs : ∀ s, s ∈ l → s.size ≤ maxLen) :
    Calls Tryz.prog 102 #[v, .func (.func 70) #[] #[.pointer (some ⟨M, 0, none⟩)]] w fun e w' => (∃ j : Int, e = .returned (.int .i64 j) ∧ (0 ≤ j) = (l.any (hasN wait) = true) ∧ -1 ≤ j) ∧ Below w.heap.size w w' := by
  have H := Lib.hid hl
  have HW := Lib.hid h
  have HS := Lib.hid hs
  obtain ⟨A, cp, rfl, hc1, hc2, -⟩ := hl
  unfold maxLen at hc2
  clear h hs
  have eg : ∀ args w, (callFunc 70 args).run Tryz.prog w = .ok (.enter 70 args) w := enters_of Tryz.func70 (by kernel_rfl) rfl
  go_enter Tryz.func102, Tryz.ntmps102
  go_wp2
  go_loopw [8] (fun i wr => ∃ k : Nat, k ≤ l.length ∧ i = .int .i64 k ∧ Hid ((l.take k).any (hasN wait) = false) ∧ Below w.heap.size w wr) (fun i _ => l.length - (intOf i).toNat)
  case atStart => exact ⟨0, Nat.zero_le _, rfl, rfl, Below.refl _ _⟩
  case round =>
    obtain ⟨k, hk, rfl, hf, hb⟩ := hrel
    by_cases hlt : k < l.length
    · obtain ⟨b, o, x, rfl, _, hx, c1⟩ := (H.out.below (fun _ h => h) hb).str_at hlt
      have HX := Lib.hid (HS.out x (List.mem_of_getElem? hx.out))
      have HW1 := Lib.hid (HW.out.next hb)
      go_wp2_with fail
      refine (waits_fn wait x _ M mb n c HW1.out HX.out).mono ?_
      rintro e w1 ⟨rfl, hb1⟩
      have hb01 := bx hb hb1
      cases hq : hasN wait x
      · have HQ := Lib.hid hq
        clear hq
        go_wp2
        refine ⟨⟨k + 1, by omega, by go_num, ?_, hb01⟩, by simp [intOf]; omega⟩
        show (l.take (k + 1)).any (hasN wait) = false
        rw [take_at hx.out, List.any_append, hf.out]
        simp only [List.any_cons, List.any_nil, Bool.or_false, Bool.false_or]
        exact HQ.out
      · have HQ := Lib.hid hq
        clear hq
        go_wp2
        go_ret
        refine ⟨⟨_, rfl, ?_, by omega⟩, hb01⟩
        have : l.any (hasN wait) = true := List.any_eq_true.2 ⟨x, List.mem_of_getElem? hx.out, HQ.out⟩
        simp [this]
    · go_wp2
      go_ret
      have e : l.take k = l := List.take_of_length_le (by omega)
      have hf' := hf.out
      rw [e] at hf'
      exact ⟨⟨_, rfl, by rw [hf']; simp, by omega⟩, hb⟩

set_option maxHeartbeats 400000 in
theorem contains_waits (wait : List ByteArray) (l : List ByteArray) (v : Value) (w : World) (M mb n c : Nat) (h : WaitAt w M mb n c wait) (hl : Sl Enc.str w (Old w) l v) (hs : ∀ s, s ∈ l → s.size ≤ maxLen) :
    Calls Tryz.prog 69 #[v, .func (.func 70) #[] #[.pointer (some ⟨M, 0, none⟩)]] w fun e w' => e = .returned (.bool (l.any (hasN wait))) ∧ Below w.heap.size w w' := by
  have H := Lib.hid hl
  have HW := Lib.hid h
  have HS := Lib.hid hs
  obtain ⟨A, cp, rfl, hc1, hc2, -⟩ := hl
  clear h hs
  go_enter Tryz.func69, Tryz.ntmps69
  go_wp2_with fail
  refine (index_waits wait l _ _ M mb n c HW.out H.out HS.out).mono ?_
  rintro e w1 ⟨⟨j, rfl, hj, hj1⟩, hb1⟩
  have HJ := Lib.hid hj
  clear hj
  go_wp2
  go_ret
  refine ⟨ret_bool ?_, hb1⟩
  have := HJ.out
  by_cases h0 : 0 ≤ j
  · rw [this] at h0; rw [h0]; simpa using (this ▸ h0 : 0 ≤ j)
  · have h1 : ¬ l.any (hasN wait) = true := by rw [← this]; exact h0
    rw [Bool.eq_false_iff.2 h1]; simpa using h0

theorem small_ins {t : TabD} (h : smallT t) : ∀ s, s ∈ t.ins → s.size ≤ maxLen := fun s hs => by have := h.2.1 s hs; unfold maxLen; omega
theorem small_name {t : TabD} (h : smallT t) : t.name.size ≤ maxLen := by have := h.1; unfold maxLen; omega

set_option maxHeartbeats 400000 in
theorem book_waitsFor (wait : List ByteArray) (t : TabD) (v : Value) (w : World) (mb n c : Nat) (h : MapS Tryz.prog 9 w mb n c (boolF wait)) (ht : TabAt w (Old w) t v) (hs : smallT t) :
    Calls Tryz.prog 39 #[v, .map (some mb)] w fun e w' => e = .returned (.bool (waitsB wait t)) ∧ Below w.heap.size w w' := by
  have HS := Lib.hid (small_ins hs)
  have HM := Lib.hid h
  clear hs h
  obtain ⟨nm, pol, comp, ins, rules⟩ := t
  obtain ⟨vi, vr, rfl, hi, hr⟩ := ht
  simp only at hi hr HS
  have HE : Hid (waitsB wait ⟨nm, pol, comp, ins, rules⟩ = ins.any (hasN wait)) := rfl
  generalize waitsB wait ⟨nm, pol, comp, ins, rules⟩ = R at *
  have HI := Lib.hid hi
  obtain ⟨Ai, ci, rfl, hi1, hi2, -⟩ := hi
  obtain ⟨Ar, cr, rfl, hr1, hr2, -⟩ := hr
  have hb0 := below_alloc1 w (.cells #[.string nm, .int .i64 pol, .bool comp, .slice Ai ins.length ci, .slice Ar rules.length cr] 59)
  have C0 := Lib.hid (Cs.new w [.string nm, .int .i64 pol, .bool comp, .slice Ai ins.length ci, .slice Ar rules.length cr] 59)
  have hz0 : (w.alloc (.cells #[.string nm, .int .i64 pol, .bool comp, .slice Ai ins.length ci, .slice Ar rules.length cr] 59)).heap.size = w.heap.size + 1 := by simp
  change Hid (Cs (w.alloc (.cells #[.string nm, .int .i64 pol, .bool comp, .slice Ai ins.length ci, .slice Ar rules.length cr] 59)) _ _) at C0
  generalize hw0 : w.alloc (.cells #[.string nm, .int .i64 pol, .bool comp, .slice Ai ins.length ci, .slice Ar rules.length cr] 59) = w0 at *
  have hb1 := below_alloc1 w0 (.cells #[.map (some mb)] 91)
  have C1 := Lib.hid (Cs.new w0 [.map (some mb)] 91)
  change Hid (Cs (w0.alloc (.cells #[.map (some mb)] 91)) _ _) at C1
  rw [hz0] at C1
  have C01 := Lib.hid (C0.out.next hb1)
  have k3 := C01.out.at 3 rfl
  have hb01 := bx hb0 hb1
  have HW : Hid (WaitAt (w0.alloc (.cells #[.map (some mb)] 91)) (w.heap.size + 1) mb n c wait) := ⟨C1.out.at 0 rfl, C1.out.1, HM.out.below hb01⟩
  have HI1 := Lib.hid (HI.out.onOld hb01)
  generalize hw1 : w0.alloc (.cells #[.map (some mb)] 91) = w1 at *
  go_enter Tryz.func39, Tryz.ntmps39
  go_wp2_with fail
  clear hw0 hw1
  refine (contains_waits wait ins _ _ (w.heap.size + 1) mb n c HW.out HI1.out HS.out).mono ?_
  rintro e w2 ⟨rfl, hb2⟩
  go_wp2
  go_ret
  exact ⟨ret_bool HE.out.symm, bx hb01 hb2⟩

set_option maxHeartbeats 1000000 in
theorem order_fn (wait : List ByteArray) (t : TabD) (v : Value) (w : World) (M mb n c : Nat) (h : WaitAt w M mb n c wait) (ht : TabAt w (Old w) t v) (hs : smallT t) :
    Calls Tryz.prog 38 #[v, .pointer (some ⟨M, 0, none⟩)] w fun e w' => e = .returned (.bool (readyT wait t)) ∧ Below w.heap.size w w' := by
  have HS := Lib.hid hs
  have HNM := Lib.hid (small_name hs)
  have HW := Lib.hid h
  have HT := Lib.hid ht
  clear hs h
  have HE : Hid (readyT wait t = (hasN wait t.name && !waitsB wait t)) := rfl
  generalize readyT wait t = R at *
  obtain ⟨vi, vr, rfl, hi, hr⟩ := ht
  obtain ⟨Ai, ci, rfl, hi1, hi2, -⟩ := hi
  obtain ⟨Ar, cr, rfl, hr1, hr2, -⟩ := hr
  have hb0 := below_alloc1 w (.cells #[.string t.name, .int .i64 t.pol, .bool t.comp, .slice Ai t.ins.length ci, .slice Ar t.rules.length cr] 59)
  have C0 := Lib.hid (Cs.new w [.string t.name, .int .i64 t.pol, .bool t.comp, .slice Ai t.ins.length ci, .slice Ar t.rules.length cr] 59)
  change Hid (Cs (w.alloc (.cells #[.string t.name, .int .i64 t.pol, .bool t.comp, .slice Ai t.ins.length ci, .slice Ar t.rules.length cr] 59)) _ _) at C0
  generalize hw0 : w.alloc (.cells #[.string t.name, .int .i64 t.pol, .bool t.comp, .slice Ai t.ins.length ci, .slice Ar t.rules.length cr] 59) = w0 at *
  have k0 := C0.out.at 0 rfl
  have k1 := C0.out.at 1 rfl
  have k2 := C0.out.at 2 rfl
  have k3 := C0.out.at 3 rfl
  have k4 := C0.out.at 4 rfl
  have HW0 := Lib.hid (HW.out.next hb0)
  have HT0 := Lib.hid (HT.out.onOld hb0)
  have cM := HW0.out.cell
  have hl := wait_look HW0.out.map t.name HNM.out
  generalize hnn : hasN wait t.name = nn at *
  have HNN := Lib.hid hnn
  clear hnn
  cases nn
  · have HR : Hid (R = false) := by show _ = _; rw [HE.out]; rfl
    go_enter Tryz.func38, Tryz.ntmps38
    go_wp2
    go_ret
    exact ⟨ret_bool HR.out.symm, hb0⟩
  · go_enter Tryz.func38, Tryz.ntmps38
    go_wp2_with fail
    refine (book_waitsFor wait t _ _ mb n c HW0.out.map HT0.out HS.out).mono ?_
    rintro e w2 ⟨rfl, hb2⟩
    have HE2 : Hid (R = !waitsB wait t) := by show _ = _; rw [HE.out]; rfl
    clear HE
    generalize waitsB wait t = q at *
    cases q
    · go_wp2
      go_ret
      exact ⟨ret_bool HE2.out.symm, bx hb0 hb2⟩
    · go_wp2
      go_ret
      exact ⟨ret_bool HE2.out.symm, bx hb0 hb2⟩

end Go.Proofs.YtmdljknlbmlacabGreatDoor
namespace Go.Proofs.YtmdljknlbmlacabGreatDoor
open Go.RowKit Go.Shelf

set_option maxHeartbeats 1000000 in
theorem index_order (wait : List ByteArray) (l : List TabD) (v : Value) (w : World) (M mb n c : Nat) (h : WaitAt w M mb n c wait) (hl : Sl Enc.tab w (Old w) l v) (hs : ∀ t, t ∈ l → smallT t) :
    Calls Tryz.prog 37 #[v, .func (.func 38) #[] #[.pointer (some ⟨M, 0, none⟩)]] w fun e w' => ((e = .returned (.int .i64 (-1)) ∧ Hid (l.find? (readyT wait) = none)) ∨ ∃ (k : Nat) (t : TabD), e = .returned (.int .i64 k) ∧ k < l.length ∧ Hid (l[k]? = some t) ∧ Hid (l.find? (readyT wait) = some t)) ∧ Below w.heap.size w w' := by
  have H := Lib.hid hl
  have HW := Lib.hid h
  have HS := Lib.hid hs
  obtain ⟨A, cp, rfl, hc1, hc2, -⟩ := hl
  unfold maxLen at hc2
  clear h hs
  have eg : ∀ args w, (callFunc 38 args).run Tryz.prog w = .ok (.enter 38 args) w := enters_of Tryz.func38 (by kernel_rfl) rfl
  go_enter Tryz.func37, Tryz.ntmps37
  go_wp2
  go_loopw [8] (fun i wr => ∃ k : Nat, k ≤ l.length ∧ i = .int .i64 k ∧ Hid ((l.take k).find? (readyT wait) = none) ∧ Below w.heap.size w wr) (fun i _ => l.length - (intOf i).toNat)
  case atStart => exact ⟨0, Nat.zero_le _, rfl, rfl, Below.refl _ _⟩
  case round =>
    obtain ⟨k, hk, rfl, hf, hb⟩ := hrel
    by_cases hlt : k < l.length
    · obtain ⟨b, o, nm, pol, comp, ins, rules, vi, vr, rfl, _, hx, c1, c2, c3, c4, c5, hi, hr⟩ := (H.out.onOld hb).tab_at hlt
      have HT : Hid (TabAt wr (Old wr) ⟨nm, pol, comp, ins, rules⟩ (.agg #[.string nm, .int .i64 pol, .bool comp, vi, vr])) := ⟨_, _, rfl, hi, hr⟩
      obtain ⟨Ai, ci, rfl, -, -⟩ := hi.form
      obtain ⟨Ar, cr, rfl, -, -⟩ := hr.form
      clear hi hr
      have HX := Lib.hid (HS.out _ (List.mem_of_getElem? hx.out))
      have HW1 := Lib.hid (HW.out.next hb)
      go_wp2_with fail
      refine (order_fn wait ⟨nm, pol, comp, ins, rules⟩ _ _ M mb n c HW1.out HT.out HX.out).mono ?_
      rintro e w1 ⟨rfl, hb1⟩
      have hb01 := bx hb hb1
      cases hq : readyT wait ⟨nm, pol, comp, ins, rules⟩
      · have HQ := Lib.hid (find_more hf.out hx.out hq)
        clear hq
        go_wp2
        exact ⟨⟨k + 1, by omega, by go_num, HQ, hb01⟩, by simp [intOf]; omega⟩
      · have HQ := Lib.hid (find_at hf.out hx.out hq)
        clear hq
        go_wp2
        go_ret
        exact ⟨.inr ⟨k, _, rfl, hlt, hx, HQ⟩, hb01⟩
    · have e : l.take k = l := List.take_of_length_le (by omega)
      have hf' := hf.out
      rw [e] at hf'
      have HQ := Lib.hid hf'
      clear hf'
      go_wp2
      go_ret
      exact ⟨.inl ⟨rfl, HQ⟩, hb⟩

def lenV : Value → Nat
  | .slice _ n _ => n
  | _ => 0
theorem str_under : Tryz.prog.underlying 39 = some (.slice 9) := by kernel_rfl
theorem str_info : (Tryz.prog.info? 9).map (fun i => (i.zero, i.size, i.bytes)) = some (some (.string ⟨#[]⟩), 1, 16) := by kernel_rfl
theorem cell_one_newS (w : World) (v : Value) (e : Nat) : ∀ j u, [v][j]? = some u → (w.alloc (.cells #[v] e)).cell? ((⟨w.heap.size, 0, none⟩ : Addr).add j) = some u := by
  intro j u hu
  match j with
  | 0 => simp at hu; subst hu; exact cell_new _ _ _ _ _ rfl
  | j + 1 => simp at hu
def OrderPost (R : Option (List ByteArray)) (w : World) (e : Ending) (w' : World) : Prop := ∃ v, e = .returned (.tuple #[v, .bool R.isSome]) ∧ Sl Enc.str w' (From w.heap.size w') (R.getD []) v ∧ Below w.heap.size w w'
theorem wait_len {w : World} {b n c : Nat} {f : ByteArray → Option Value} (h : MapS Tryz.prog 9 w b n c f) (ty : TypeId) : (Builtin.len_ #[91] ty #[.map (some b)]).run Tryz.prog w = .ok (.int .i64 c) w := h.len b_under ty
theorem names_take {l : List TabD} {k : Nat} {t : TabD} (h : l[k]? = some t) : namesT (l.take (k + 1)) = namesT (l.take k) ++ [t.name] := by unfold namesT; rw [take_at h, List.map_append]; rfl
theorem names_new {l : List TabD} (hn : (namesT l).Nodup) {k : Nat} {t : TabD} (h : l[k]? = some t) : t.name ∉ namesT (l.take k) := by
  intro hm
  have e : l = l.take k ++ t :: l.drop (k + 1) := by rw [← drop_at h, List.take_append_drop]
  rw [e] at hn
  unfold namesT at hn hm
  rw [List.map_append, List.nodup_append] at hn
  exact hn.2.2 _ hm t.name (by simp) rfl
theorem WaitAt.put {w w' : World} {M mb n c : Nat} {wait : List ByteArray} {s : ByteArray} (h : WaitAt w M mb n c wait) (hne : M ≠ mb) (hs : s ∉ wait) (hm : MapS Tryz.prog 9 w' mb (n + 1) (if (boolF wait s).isSome then c else c + 1) (fun x => if sameS x s then some (.bool true) else boolF wait x)) (hg : w.grownBy w' (some mb)) : WaitAt w' M mb (n + 1) (c + 1) (wait ++ [s]) := by
  rw [boolF_some, hasN_false.2 hs] at hm
  refine ⟨(World.cell?_of_block (a := ⟨M, 0, none⟩) (hg.block _ h.lt (by intro e; injection e with e; exact hne e))).trans h.cell, Nat.lt_of_lt_of_le h.lt hg.size, hm.congr fun x => boolF_put wait s x⟩
theorem WaitAt.del {w w' : World} {M mb n c : Nat} {wait : List ByteArray} {s : ByteArray} (h : WaitAt w M mb n c wait) (hne : M ≠ mb) (hs : s ∈ wait) (hm : MapS Tryz.prog 9 w' mb n (if (boolF wait s).isSome then c - 1 else c) (fun x => if sameS x s then none else boolF wait x)) (hg : w.grownBy w' (some mb)) : WaitAt w' M mb n (c - 1) (dropN wait s) := by
  rw [boolF_some, hasN_iff.2 hs] at hm
  refine ⟨(World.cell?_of_block (a := ⟨M, 0, none⟩) (hg.block _ h.lt (by intro e; injection e with e; exact hne e))).trans h.cell, Nat.lt_of_lt_of_le h.lt hg.size, hm.congr fun x => boolF_del wait s x⟩
theorem WaitAt.kept {w w' : World} {M mb n c : Nat} {wait : List ByteArray} {row : Option Nat} (h : WaitAt w M mb n c wait) (hg : w.grownBy w' row) (h1 : some M ≠ row) (h2 : some mb ≠ row) : WaitAt w' M mb n c wait :=
  ⟨(World.cell?_of_block (a := ⟨M, 0, none⟩) (hg.block _ h.lt h1)).trans h.cell, Nat.lt_of_lt_of_le h.lt hg.size, h.map.kept hg h2⟩
/-- a write into an elder block leaves a row of the call's own as it is -/
theorem OwnG.aside {α : Type} {E : Enc α} {w w' : World} {base lo e g : Nat} {v : Value} {l : List α} (h : OwnG E w base lo e v l) (hg : w.grownBy w' (some g)) (hb : g < base) (hl : g < lo) : OwnG E w' base lo e v l := by
  have hlt := h.lt
  obtain ⟨us, h1, h2⟩ := h
  refine ⟨us, ownsRow_keep h1 (fun k hk => hg.block k (hlt k hk).2 (by intro e; injection e with e; have := (hlt k hk).1; omega)), ?_⟩
  exact (h2.keep (w' := w') fun p hp => World.cell?_of_block (hg.block _ hp.2.1 (by intro e; injection e with e; have := hp.1; omega))).more fun k hk => ⟨hk.1, Nat.lt_of_lt_of_le hk.2.1 hg.size, hk.2.2⟩

end Go.Proofs.YtmdljknlbmlacabGreatDoor
namespace Go.Proofs.YtmdljknlbmlacabGreatDoor
open Go.RowKit Go.Shelf

set_option maxHeartbeats 2000000 in
theorem book_Order (b : BookD) (v : Value) (w : World) (h : BookAt w (Old w) b v) (hs : smallB b) (hn : (namesT b.tabs).Nodup) (hlen : b.tabs.length * 16 ≤ 140737488355328) :
    Calls Tryz.prog 15 #[v] w (OrderPost (orderO b.tabs) w) := by
  have HSM := Lib.hid hs.2
  have HN := Lib.hid hn
  clear hs hn
  obtain ⟨doms, tabs⟩ := b
  obtain ⟨vd, vt, rfl, h1, h2⟩ := h
  simp only at h1 h2 hlen HSM HN ⊢
  have H := Lib.hid h2
  obtain ⟨A, c, rfl, hc1, hc2, -⟩ := h1
  obtain ⟨B, d, rfl, hd1, hd2, -⟩ := h2
  unfold maxLen at hc2 hd2
  have HE : Hid (orderO tabs = orderF tabs tabs.length (namesT tabs)) := rfl
  generalize orderO tabs = R at *
  have hb0 := below_alloc1 w (.cells #[.slice A doms.length c, .slice B tabs.length d] 25)
  have C0 := Lib.hid (Cs.new w [.slice A doms.length c, .slice B tabs.length d] 25)
  have hz0 : (w.alloc (.cells #[.slice A doms.length c, .slice B tabs.length d] 25)).heap.size = w.heap.size + 1 := by simp
  change Hid (Cs (w.alloc (.cells #[.slice A doms.length c, .slice B tabs.length d] 25)) _ _) at C0
  generalize hw0 : w.alloc (.cells #[.slice A doms.length c, .slice B tabs.length d] 25) = w0 at *
  have hb1 := below_alloc1 w0 (.map #[] 0)
  have M1 := Lib.hid (MapS.made Tryz.prog 9 w0)
  have hmk : (Instr.makeMap 91 none).run Tryz.prog w0 = .ok (.map (some (w.heap.size + 1))) (w0.alloc (.map #[] 0)) := by rw [← hz0]; exact b_make w0
  have hz1 : (w0.alloc (.map #[] 0)).heap.size = w.heap.size + 2 := by simp; omega
  rw [hz0] at M1
  generalize hw1 : w0.alloc (.map #[] 0) = w1 at *
  have hb2 := below_alloc1 w1 (.cells #[.map (some (w.heap.size + 1))] 91)
  have C2 := Lib.hid (Cs.new w1 [.map (some (w.heap.size + 1))] 91)
  change Hid (Cs (w1.alloc (.cells #[.map (some (w.heap.size + 1))] 91)) _ _) at C2
  rw [hz1] at C2
  have hb02 := bx hb0 (bx hb1 hb2)
  have C02 := Lib.hid (C0.out.next (bx hb1 hb2))
  have W2 : Hid (WaitAt (w1.alloc (.cells #[.map (some (w.heap.size + 1))] 91)) (w.heap.size + 2) (w.heap.size + 1) 0 0 []) := ⟨C2.out.at 0 rfl, C2.out.1, (M1.out.below hb2).congr boolF_nil⟩
  generalize hw2 : w1.alloc (.cells #[.map (some (w.heap.size + 1))] 91) = w2 at *
  have k1 := C02.out.at 1 rfl
  go_enter Tryz.func15, Tryz.ntmps15
  go_wp2
  go_loopw [13] (fun i wr => ∃ k : Nat, k ≤ tabs.length ∧ i = .int .i64 k ∧ Hid (WaitAt wr (w.heap.size + 2) (w.heap.size + 1) k k (namesT (tabs.take k))) ∧ Hid (Cs wr w.heap.size [.slice A doms.length c, .slice B tabs.length d]) ∧ Below w.heap.size w wr) (fun i _ => tabs.length - (intOf i).toNat)
  case atStart => exact ⟨0, Nat.zero_le _, rfl, W2, C02, hb02⟩
  case round =>
    clear hmk hw0 hw1 hw2 hb0 hb1 hb2 hb02 k1
    obtain ⟨k, hk, rfl, HW, CB, hb⟩ := hrel
    by_cases hlt : k < tabs.length
    · obtain ⟨b, o, nm, pol, comp, ins, rules, vi, vr, rfl, _, hx, c1, c2, c3, c4, c5, hi, hr⟩ := (H.out.onOld hb).tab_at hlt
      obtain ⟨Ai, ci, rfl, -, -⟩ := hi.form
      obtain ⟨Ar, cr, rfl, -, -⟩ := hr.form
      clear hi hr
      have HNM := Lib.hid (small_name (HSM.out _ (List.mem_of_getElem? hx.out)))
      have hbz := below_alloc1 wr (.cells #[.string nm, .int .i64 pol, .bool comp, .slice Ai ins.length ci, .slice Ar rules.length cr] 59)
      have hbl2 := bx hb hbz
      have CN := Lib.hid (Cs.new wr [.string nm, .int .i64 pol, .bool comp, .slice Ai ins.length ci, .slice Ar rules.length cr] 59)
      change Hid (Cs (wr.alloc (.cells #[.string nm, .int .i64 pol, .bool comp, .slice Ai ins.length ci, .slice Ar rules.length cr] 59)) _ _) at CN
      have HWa := Lib.hid (HW.out.next hbz)
      have CBa := Lib.hid (CB.out.next hbz)
      have q0 := CN.out.at 0 rfl
      have cM := HWa.out.cell
      have hkm : k < maxLen := by unfold maxLen; omega
      generalize hwa : wr.alloc (.cells #[.string nm, .int .i64 pol, .bool comp, .slice Ai ins.length ci, .slice Ar rules.length cr] 59) = wa at *
      go_wp2_with (at_mapUpdate; refine wpList_putS _ rfl _ _ _ 91 rfl 9 4 Tryz.underlying9 b_under (w.heap.size + 1) k k _ rfl HWa.out.map nm rfl HNM.out hkm (.bool true) rfl ?_; intro w4 hm4 hg4)
      have HW4 := Lib.hid (HWa.out.put (by omega) (names_new HN.out hx.out) hm4 hg4)
      rw [← names_take hx.out] at HW4
      exact ⟨⟨k + 1, by omega, by go_num, HW4, CBa.out.grown hg4 (by omega), hbl2.grown hg4 hbl2.size (fun _ hj => by injection hj with hj; omega)⟩, by simp [intOf]; omega⟩
    · have ek : k = tabs.length := by omega
      subst ek
      rw [List.take_length] at HW
      clear hlt hk
      have hM3 := HW.out.lt
      go_wp2
      go_loopw [7] (fun u wr => ∃ wait done : List ByteArray, Hid (WaitAt wr (w.heap.size + 2) (w.heap.size + 1) tabs.length wait.length wait) ∧ Hid wait.Nodup ∧ Hid (∀ s, s ∈ wait → s ∈ namesT tabs) ∧ Hid (done.length + wait.length = tabs.length) ∧ Hid (R = (orderF tabs wait.length wait).map (done ++ ·)) ∧ Hid (OwnG Enc.str wr (w.heap.size + 3) (w.heap.size + 3) 9 u done) ∧ Hid (Cs wr w.heap.size [.slice A doms.length c, .slice B tabs.length d]) ∧ Below w.heap.size w wr) (fun u _ => tabs.length - lenV u)
      case atStart =>
        refine ⟨namesT tabs, [], ?_, HN, fun s h => h, ?_, ?_, OwnG.nil, CB, hb⟩
        · have e : (namesT tabs).length = tabs.length := by simp [namesT]
          show WaitAt _ _ _ _ _ _
          rw [e]; exact HW.out
        · show ([] : List ByteArray).length + (namesT tabs).length = _
          simp [namesT]
        · show R = _
          rw [HE.out]
          have e : (namesT tabs).length = tabs.length := by simp [namesT]
          rw [e]
          cases orderF tabs tabs.length (namesT tabs) <;> rfl
      case round =>
        clear HW CB hb hM3
        rename World => wr
        obtain ⟨wait, done, HW, HND, HSUB, HSUM, HO, HOW, CB, hb⟩ := hrel
        obtain ⟨Au, cu, rfl, hu1, hu2, -⟩ := HOW.out.form
        have cM := HW.out.cell
        have hlen' := wait_len HW.out.map
        have kB1 := CB.out.at 1 rfl
        have hM3 := HW.out.lt
        by_cases hw0 : wait.length = 0
        · have hwe : wait = [] := List.length_eq_zero_iff.1 hw0
          subst hwe
          have hlen2 : ∀ ty : TypeId, (Builtin.len_ #[91] ty #[.map (some (w.heap.size + 1))]).run Tryz.prog wr = .ok (.int .i64 0) wr := hlen'
          clear hlen'
          have HR : Hid (R = some done) := by show _ = _; rw [HO.out]; simp [orderF]
          go_wp2
          go_ret2
          rw [HR.out]
          exact ⟨_, rfl, (HOW.out.sl (Nat.le_refl _)).more (fun k hk => ⟨by have := hk.1; omega, hk.2⟩), hb⟩
        · have hgt : (0 : Int) < wait.length := by omega
          have HWE := Lib.hid (HSM.out)
          have HTB := Lib.hid (H.out.onOld hb)
          have HSU := HSUM.out
          go_wp2_with fail
          refine (index_order wait tabs _ _ (w.heap.size + 2) (w.heap.size + 1) _ _ HW.out HTB.out HSM.out).mono ?_
          rintro e w1 ⟨hcase, hb1⟩
          have hb01 := bx hb hb1
          have HW1 := Lib.hid (HW.out.next hb1)
          have CB1 := Lib.hid (CB.out.next hb1)
          have HO1 := Lib.hid (HOW.out.next hb1)
          obtain ⟨m, hm⟩ : ∃ m, wait.length = m + 1 := ⟨wait.length - 1, by omega⟩
          have HO2 : Hid (R = (match tabs.find? (readyT wait) with | none => none | some t => (orderF tabs m (dropN wait t.name)).map (t.name :: ·)).map (done ++ ·)) := by show _ = _; rw [HO.out, hm]; rfl
          have HM := Lib.hid hm
          clear HW CB HOW HO hm cM hlen' kB1
          rcases hcase with ⟨rfl, HF⟩ | ⟨k, t, rfl, hkl, HX, HF⟩
          · have HR : Hid (R = none) := by show _ = _; rw [HO2.out, HF.out]; rfl
            go_wp2
            go_ret2
            rw [HR.out]
            exact ⟨_, rfl, Sl.nil, hb01⟩
          · obtain ⟨b2, o2, nm, pol, comp, ins, rules, vi, vr, rfl, hS2, hx2, c1, -⟩ := H.out.tab_at hkl
            have het := HX.out.symm.trans hx2.out
            injection het with het
            subst het
            have hS2' : b2 < w.heap.size := hS2
            have hSM := HSM.out _ (List.mem_of_getElem? hx2.out)
            have HNM := Lib.hid (small_name hSM)
            have HIN := Lib.hid ((ready_iff.1 (List.find?_some HF.out)).1)
            have HO3 : Hid (R = (orderF tabs m (dropN wait nm)).map (fun x => done ++ nm :: x)) := by show _ = _; rw [HO2.out, HF.out]; simp only [Option.map_map]; rfl
            have HDL := Lib.hid (dropN_length HND.out HIN.out)
            have hk0 : (0 : Int) ≤ k := by omega
            have hk1 : (k : Int) < tabs.length := by omega
            have c1a := (hb01.cell (p := ⟨b2, o2 + k * 5, none⟩) hS2').trans c1
            have kB := CB1.out.at 1 rfl
            have hbz := below_alloc1 w1 (.cells #[.string nm] 9)
            have HOa := Lib.hid (HO1.out.alloc (.cells #[.string nm] 9))
            have HWa := Lib.hid (HW1.out.next hbz)
            have CBa := Lib.hid (CB1.out.next hbz)
            have hba := bx hb01 hbz
            have hba3 : w.heap.size + 3 ≤ (w1.alloc (.cells #[.string nm] 9)).heap.size := HWa.out.lt
            have hbd : (done.length + 1) * 16 ≤ 140737488355328 := by omega
            have hbm : done.length + 1 ≤ maxLen := by unfold maxLen; omega
            clear HX HSM hSM HO2 HF HWE HTB
            go_wp2_with (at_builtin; refine wpList_append_one (E := Enc.str) _ rfl _ _ 39 rfl (w.heap.size + 3) (w.heap.size + 3) 9 16 (.string ⟨#[]⟩) str_under str_info rfl (by decide) _ _ rfl HOa.out ⟨w1.heap.size, 0, none⟩ nm [.string nm] rfl rfl (cell_one_newS _ _ _) hbd hbm hba3 ?_; intro v5 w5 hown5 hgrow5 hmv5)
            have hlt5 := HOa.out.lt
            have HW5 := Lib.hid (HWa.out.kept hgrow5 (fun e => by have := (hlt5 _ e.symm).1; omega) (fun e => by have := (hlt5 _ e.symm).1; omega))
            have CB5 := Lib.hid (CBa.out.keep (hgrow5.block _ CBa.out.1 (fun e => by have := (hlt5 _ e.symm).1; omega)) hgrow5.size)
            have hb5 := hba.grown hgrow5 hba.size (fun _ hj => by have := (hlt5 _ hj).1; omega)
            have c5 := (hb5.cell (p := ⟨b2, o2 + k * 5, none⟩) hS2').trans c1
            have kB5 := CB5.out.at 1 rfl
            have cM5 := HW5.out.cell
            clear c1a kB hbz HOa HWa CBa hlt5
            go_region_law (refine step_delS rfl (.tmp 39) (.tmp 45) 91 9 rfl 4 Tryz.underlying9 b_under (w.heap.size + 1) tabs.length wait.length (boolF wait) (by simp [Act.eval]) HW5.out.map nm (by simp [Act.eval]) HNM.out ?_; intro w6 hm6 hg6)
            all_goals go_wp2
            all_goals
              have hd5 : Below w5.heap.size w5 w5.drew := (Below.refl _ _).drew
              have HW6 := Lib.hid ((HW5.out.next hd5).del (by omega) HIN.out hm6 hg6)
              have hb5d := bx hb5 hd5
              have hb6 : Below w.heap.size w w6 := hb5d.grown hg6 hb5d.size (fun _ hj => by injection hj with hj; omega)
              have hdl := HDL.out
              obtain ⟨A5, c5', e5, -, -, -⟩ := hown5.form
              have hown6 : OwnG Enc.str w6 (w.heap.size + 3) (w.heap.size + 3) 9 v5 (done ++ [nm]) := (hown5.next hd5).aside hg6 (by omega) (by omega)
              refine ⟨⟨dropN wait nm, done ++ [nm], ?_, dropN_nodup _ HND.out, fun s hs => HSUB.out s (mem_dropN.1 hs).1, ?_, ?_, hown6, (CB5.out.next hd5).grown hg6 (by omega), hb6⟩, ?_⟩
              · show WaitAt _ _ _ _ _ _
                rw [show (dropN wait nm).length = wait.length - 1 by omega]
                exact HW6.out
              · show (done ++ [nm]).length + _ = _
                rw [List.length_append]
                show done.length + 1 + _ = _
                omega
              · show R = _
                rw [HO3.out, show (dropN wait nm).length = m by have := HM.out; omega]
                cases orderF tabs m (dropN wait nm) <;> simp
              · subst e5
                show tabs.length - (done ++ [nm]).length < tabs.length - done.length
                rw [List.length_append]
                show tabs.length - (done.length + 1) < _
                omega

end Go.Proofs.YtmdljknlbmlacabGreatDoor
