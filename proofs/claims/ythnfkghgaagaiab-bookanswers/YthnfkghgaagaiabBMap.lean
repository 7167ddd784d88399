/- Maps keyed by texts, as functions from texts to values: made, read, written, struck, counted. Conditions: keys have at most maxLen bytes, and the map has room; the program is a variable. -/
import Derived.Test.YthnfkghgaagaiabBookV
import Derived.Maps.OwnSet
import Derived.Maps.Views
import Derived.StringKeys
namespace Go.Proofs.Ythnfkghgaagaiab
open Go.RowKit Go.Maps Go.WideMaps

def holdV (v : Value) : Option (DataW Value × List MemPlace) := some (.held v, [])
def kS (s : ByteArray) : Lit := .string s.data.toList
theorem kS_ne {s t : ByteArray} (h : s ≠ t) : kS s ≠ kS t := by
  intro e
  injection e with e
  apply h
  cases s; cases t
  simp at e
  rw [e]
/-- block b is a map keyed by texts, of c entries; f says what stands at each; n: any bound on the entries -/
def MapS (P : Program) (k : TypeId) (w : World) (b n c : Nat) (f : ByteArray → Option Value) : Prop :=
  ∃ D : DataW Value, w.ownsMap P k holdV b n D ∧ Maps.size D = c ∧ ∀ s, Maps.has D (kS s) = (f s).isSome ∧ ∀ z, D.atKey (kS s) (.held z) = .held ((f s).getD z)

section
variable {P : Program} {k t e : TypeId} {w w' : World} {b n c : Nat} {f : ByteArray → Option Value} {s : ByteArray} {z : Value}
theorem MapS.made (P : Program) (k : TypeId) (w : World) : MapS P k (w.alloc (.map #[] 0)) w.heap.size 0 0 (fun _ => none) :=
  ⟨.map [], World.ownsMap_made w P k holdV, rfl, fun _ => ⟨rfl, fun _ => rfl⟩⟩
theorem MapS.lt (h : MapS P k w b n c f) : b < w.heap.size := by obtain ⟨D, h1, _⟩ := h; exact h1.lt
theorem MapS.mono (h : MapS P k w b n c f) {n' : Nat} (hn : n ≤ n') : MapS P k w b n' c f := by obtain ⟨D, h1, h2⟩ := h; exact ⟨D, h1.mono hn, h2⟩
theorem MapS.kept {row : Option Nat} (h : MapS P k w b n c f) (hg : w.grownBy w' row) (hne : some b ≠ row) : MapS P k w' b n c f := by
  obtain ⟨D, h1, h2⟩ := h; exact ⟨D, h1.kept hg hne, h2⟩
theorem MapS.below (h : MapS P k w b n c f) (hb : Below w.heap.size w w') : MapS P k w' b n c f := h.kept (row := none) (grown_of_below hb) (by simp)
theorem MapS.belowAt {B : Nat} (h : MapS P k w b n c f) (hb : Below B w w') (hB : b < B) : MapS P k w' b n c f := by
  obtain ⟨D, ⟨es, clock, h1, hr⟩, h2⟩ := h
  exact ⟨D, ⟨es, clock, (hb.block b hB).trans h1, hr⟩, h2⟩
theorem MapS.alloc (h : MapS P k w b n c f) (o : Obj) : MapS P k (w.alloc o) b n c f := by obtain ⟨D, h1, h2⟩ := h; exact ⟨D, h1.alloc o, h2⟩
theorem MapS.drew (h : MapS P k w b n c f) : MapS P k w.drew b n c f := h
theorem MapS.setCell (h : MapS P k w b n c f) {a : Addr} (ha : b ≠ a.block) (u : Value) : MapS P k (w.setCell a u) b n c f := by obtain ⟨D, h1, h2⟩ := h; exact ⟨D, h1.setCell ha u, h2⟩
theorem MapS.congr {g : ByteArray → Option Value} (h : MapS P k w b n c f) (hg : ∀ s, f s = g s) : MapS P k w b n c g := by
  have : f = g := funext hg
  subst this; exact h

theorem MapS.look (h : MapS P k w b n c f) (hk : P.underlying k = some .string) (ht : P.underlying t = some (.map k e)) (hz : (zeroValue e).run P w = .ok z w) (hs : s.size ≤ maxLen) :
    (Instr.lookup t (.map (some b)) (.string s) false).run P w = .ok ((f s).getD z) w := by
  obtain ⟨D, h1, _, h2⟩ := h
  obtain ⟨v, ps, hrun, hv⟩ := h1.lookup (string_keyed hk) ht hz (zd := .held z) (zp := []) rfl (keyOf_string_mk hk hs)
  have e1 : D.atKey (Lit.string s.data.toList) (.held z) = .held ((f s).getD z) := (h2 s).2 z
  have e2 : (DataW.held v : DataW Value) = D.atKey (Lit.string s.data.toList) (.held z) := congrArg Prod.fst (Option.some.inj hv)
  rw [e1] at e2
  injection e2 with e2
  rw [hrun, e2]
theorem MapS.lookOk (h : MapS P k w b n c f) (hk : P.underlying k = some .string) (ht : P.underlying t = some (.map k e)) (hz : (zeroValue e).run P w = .ok z w) (hs : s.size ≤ maxLen) :
    (Instr.lookup t (.map (some b)) (.string s) true).run P w = .ok (.tuple #[(f s).getD z, .bool (f s).isSome]) w := by
  obtain ⟨D, h1, _, h2⟩ := h
  obtain ⟨v, ps, hrun, hv⟩ := h1.look_ok (string_keyed hk) ht hz (zd := .held z) (zp := []) rfl (keyOf_string_mk hk hs)
  have e1 : D.atKey (Lit.string s.data.toList) (.held z) = .held ((f s).getD z) := (h2 s).2 z
  have e2 : (DataW.held v : DataW Value) = D.atKey (Lit.string s.data.toList) (.held z) := congrArg Prod.fst (Option.some.inj hv)
  rw [e1] at e2
  injection e2 with e2
  have e3 : Maps.has D (Lit.string s.data.toList) = (f s).isSome := (h2 s).1
  rw [hrun, e2, e3]
theorem MapS.len (h : MapS P k w b n c f) (ht : P.underlying t = some (.map k e)) (ty : TypeId) : (Builtin.len_ #[t] ty #[.map (some b)]).run P w = .ok (.int .i64 c) w := by
  obtain ⟨D, h1, rfl, _⟩ := h
  exact h1.len ht ty
theorem put_read {D : DataW Value} (h1 : w.ownsMap P k holdV b n D) (h2 : ∀ s, Maps.has D (kS s) = (f s).isSome ∧ ∀ z, D.atKey (kS s) (.held z) = .held ((f s).getD z)) (v : Value) (s x : ByteArray) :
    Maps.has (D.put (kS s) (.held v)) (kS x) = (if sameS x s then some v else f x).isSome ∧ ∀ z, (D.put (kS s) (.held v)).atKey (kS x) (.held z) = .held ((if sameS x s then some v else f x).getD z) := by
  by_cases e : x = s
  · subst e
    rw [sameS_refl]
    exact ⟨has_put_same h1.isMap (by simp [WideAt.IsKeyLit, kS]) _, fun z => atKey_put_same h1.isMap (by simp [WideAt.IsKeyLit, kS]) _ _⟩
  · rw [sameS_ne.2 e]
    exact ⟨(has_put_other (kS_ne e) _).trans (h2 x).1, fun z => (atKey_put_other (kS_ne e) _ _).trans ((h2 x).2 z)⟩
theorem MapS.put (h : MapS P k w b n c f) (hk : P.underlying k = some .string) (ht : P.underlying t = some (.map k e)) (hs : s.size ≤ maxLen) (hn : n < maxLen) (v : Value) :
    ∃ w', (Instr.mapUpdate t (.map (some b)) (.string s) v).run P w = .ok () w' ∧ MapS P k w' b (n + 1) (if (f s).isSome then c else c + 1) (fun x => if sameS x s then some v else f x) ∧ w.grownBy w' (some b) := by
  obtain ⟨D, h1, rfl, h2⟩ := h
  obtain ⟨w', hrun, ho, hg⟩ := h1.update (string_keyed hk) ht hn (keyOf_string_mk hk hs) (val := v) (d := .held v) (ps := []) rfl
  refine ⟨w', hrun, ⟨D.put (kS s) (.held v), ho, ?_, put_read h1 h2 v s⟩, hg⟩
  rw [size_put (h1.tidy (string_keyed hk)), (h2 s).1]
theorem MapS.del (h : MapS P k w b n c f) (hk : P.underlying k = some .string) (ht : P.underlying t = some (.map k e)) (hs : s.size ≤ maxLen) (ty : TypeId) :
    ∃ w', (Builtin.delete_ #[t, k] ty #[.map (some b), .string s]).run P w = .ok (.tuple #[]) w' ∧ MapS P k w' b n (if (f s).isSome then c - 1 else c) (fun x => if sameS x s then none else f x) ∧ w.grownBy w' (some b) := by
  obtain ⟨D, h1, rfl, h2⟩ := h
  obtain ⟨w', hrun, ho, hg⟩ := h1.drop (string_keyed hk) ht (keyOf_string_mk hk hs) ty
  refine ⟨w', hrun, ⟨D.del (kS s), ho, ?_, fun x => ?_⟩, hg.grown⟩
  · have e1 := size_del (k := kS s) (h1.tidy (string_keyed hk))
    rw [(h2 s).1] at e1
    split at e1 <;> rename_i hh <;> simp [hh] <;> omega
  · by_cases ex : x = s
    · subst ex
      simp only [sameS_refl]
      exact ⟨has_del_same, fun z => atKey_del_same _⟩
    · simp only [sameS_ne.2 ex]
      exact ⟨(has_del_other (kS_ne ex)).trans (h2 x).1, fun z => (atKey_del_other (kS_ne ex) _).trans ((h2 x).2 z)⟩
end

section
variable {P : Program} (w : World) {ops : Array Oper} {rest : List Oper} {o : Oper} {a : Act} {Q : Exit → Act → World → Prop}
theorem wpList_lookS (hg : o.guard = none) (m x : Operand) (t : TypeId) (hop : o.op = Op.lookup t m x false) (k e : TypeId) (hk : P.underlying k = some .string) (ht : P.underlying t = some (.map k e)) {z : Value} (hz : (zeroValue e).run P w = .ok z w)
    (b n c : Nat) (f : ByteArray → Option Value) (hm : a.eval m = .map (some b)) (hown : MapS P k w b n c f) (s : ByteArray) (hx : a.eval x = .string s) (hs : s.size ≤ maxLen) (v : Value) (hv : (f s).getD z = v)
    (hK : wpList P ops Q rest (a.put o.dst v) w) : wpList P ops Q (o :: rest) a w := by
  refine wpList_plain hg fun K' hK' => ?_
  unfold Oper.wp
  simp [execOp, hop, hm, hx, hown.look hk ht hz hs, hv, Result.andThen]
  exact hK' _ _ hK
theorem wpList_putS (hg : o.guard = none) (m x v : Operand) (t : TypeId) (hop : o.op = Op.mapUpdate t m x v) (k e : TypeId) (hk : P.underlying k = some .string) (ht : P.underlying t = some (.map k e))
    (b n c : Nat) (f : ByteArray → Option Value) (hm : a.eval m = .map (some b)) (hown : MapS P k w b n c f) (s : ByteArray) (hx : a.eval x = .string s) (hs : s.size ≤ maxLen) (hn : n < maxLen) (val : Value) (hv : a.eval v = val)
    (hK : ∀ w', MapS P k w' b (n + 1) (if (f s).isSome then c else c + 1) (fun x => if sameS x s then some val else f x) → w.grownBy w' (some b) → wpList P ops Q rest (a.put o.dst undef) w') : wpList P ops Q (o :: rest) a w := by
  refine wpList_plain hg fun K' hK' => ?_
  obtain ⟨w', hrun, r1, r2⟩ := hown.put hk ht hs hn val
  unfold Oper.wp
  simp [execOp, hop, hm, hx, hv, hrun, Result.andThen]
  exact hK' _ _ (hK w' r1 r2)
theorem wpList_delS (hg : o.guard = none) (m x : Operand) (t k : TypeId) (hop : o.op = Op.call { callee := Callee.builtin Builtin.delete, args := #[m, x], argTypes := #[t, k] }) (e : TypeId) (hk : P.underlying k = some .string) (ht : P.underlying t = some (.map k e))
    (b n c : Nat) (f : ByteArray → Option Value) (hm : a.eval m = .map (some b)) (hown : MapS P k w b n c f) (s : ByteArray) (hx : a.eval x = .string s) (hs : s.size ≤ maxLen)
    (hK : ∀ w', MapS P k w' b n (if (f s).isSome then c - 1 else c) (fun x => if sameS x s then none else f x) → w.grownBy w' (some b) → wpList P ops Q rest (a.put o.dst (.tuple #[])) w') : wpList P ops Q (o :: rest) a w := by
  refine wpList_plain hg fun K' hK' => ?_
  obtain ⟨w', hrun, r1, r2⟩ := hown.del hk ht hs o.type
  unfold Oper.wp
  simp [execOp, hop, resolve, invoke, builtin, hm, hx, hrun, Result.andThen]
  exact hK' _ _ (hK w' r1 r2)
theorem wpList_lenS (hg : o.guard = none) (m : Operand) (t : TypeId) (hop : o.op = Op.call { callee := Callee.builtin Builtin.len, args := #[m], argTypes := #[t] }) (k e : TypeId) (ht : P.underlying t = some (.map k e))
    (b n c : Nat) (f : ByteArray → Option Value) (hm : a.eval m = .map (some b)) (hown : MapS P k w b n c f) (hK : wpList P ops Q rest (a.put o.dst (.int .i64 c)) w) : wpList P ops Q (o :: rest) a w := by
  refine wpList_plain hg fun K' hK' => ?_
  unfold Oper.wp
  simp [execOp, hop, resolve, invoke, builtin, hm, hown.len ht o.type, Result.andThen]
  exact hK' _ _ hK
end

section
variable {P : Program} {ops : Array Oper} {o : Oper} {a : Act} {w : World} {K : Act → World → Prop} {Q : Exit → Act → World → Prop} {X : Prop}
/-- the same inside a statement that leaves its order open -/
theorem step_delS (hg : o.guard = none) (m x : Operand) (t k : TypeId) (hop : o.op = Op.call { callee := Callee.builtin Builtin.delete, args := #[m, x], argTypes := #[t, k] }) (e : TypeId) (hk : P.underlying k = some .string) (ht : P.underlying t = some (.map k e))
    (b n c : Nat) (f : ByteArray → Option Value) (hm : a.eval m = .map (some b)) (hown : MapS P k w b n c f) (s : ByteArray) (hx : a.eval x = .string s) (hs : s.size ≤ maxLen)
    (hK : ∀ w', MapS P k w' b n (if (f s).isSome then c - 1 else c) (fun x => if sameS x s then none else f x) → w.grownBy w' (some b) → K (a.put o.dst (.tuple #[])) w') :
    if Region.wanted o (yielded ops a.tmps) = true then Oper.wp P o a w K Q else X := by
  have hw : Region.wanted o (yielded ops a.tmps) = true := by simp [Region.wanted, hg]
  rw [if_pos hw]
  obtain ⟨w', hrun, r1, r2⟩ := hown.del hk ht hs o.type
  unfold Oper.wp
  simp [execOp, hop, resolve, invoke, builtin, hm, hx, hrun, Result.andThen]
  exact hK w' r1 r2
theorem step_putS (hg : o.guard = none) (m x v : Operand) (t : TypeId) (hop : o.op = Op.mapUpdate t m x v) (k e : TypeId) (hk : P.underlying k = some .string) (ht : P.underlying t = some (.map k e))
    (b n c : Nat) (f : ByteArray → Option Value) (hm : a.eval m = .map (some b)) (hown : MapS P k w b n c f) (s : ByteArray) (hx : a.eval x = .string s) (hs : s.size ≤ maxLen) (hn : n < maxLen) (val : Value) (hv : a.eval v = val)
    (hK : ∀ w', MapS P k w' b (n + 1) (if (f s).isSome then c else c + 1) (fun x => if sameS x s then some val else f x) → w.grownBy w' (some b) → K (a.put o.dst undef) w') :
    if Region.wanted o (yielded ops a.tmps) = true then Oper.wp P o a w K Q else X := by
  have hw : Region.wanted o (yielded ops a.tmps) = true := by simp [Region.wanted, hg]
  rw [if_pos hw]
  obtain ⟨w', hrun, r1, r2⟩ := hown.put hk ht hs hn val
  unfold Oper.wp
  simp [execOp, hop, hm, hx, hv, hrun, Result.andThen]
  exact hK w' r1 r2
end

/- maps of texts to true; of texts to answers; of texts to places -/
def boolF (l : List ByteArray) : ByteArray → Option Value := fun s => if hasN l s then some (.bool true) else none
theorem boolF_nil (s : ByteArray) : (fun _ => none : ByteArray → Option Value) s = boolF [] s := rfl
theorem hasN_append (l m : List ByteArray) (s : ByteArray) : hasN (l ++ m) s = (hasN l s || hasN m s) := by simp [hasN]
theorem boolF_put (l : List ByteArray) (s x : ByteArray) : (if sameS x s then some (.bool true) else boolF l x) = boolF (l ++ [s]) x := by
  unfold boolF
  rw [hasN_append]
  have : hasN [s] x = sameS x s := by simp [hasN]
  rw [this]
  cases sameS x s <;> cases hasN l x <;> rfl
theorem boolF_del (l : List ByteArray) (s x : ByteArray) : (if sameS x s then none else boolF l x) = boolF (dropN l s) x := by
  unfold boolF
  by_cases e : x = s
  · subst e
    rw [sameS_refl, hasN_false.2 (fun h => (mem_dropN.1 h).2 rfl)]; rfl
  · rw [sameS_ne.2 e]
    have : hasN (dropN l s) x = hasN l x := by
      cases h : hasN l x
      · rw [hasN_false] at h ⊢; exact fun hh => h (mem_dropN.1 hh).1
      · rw [hasN_iff] at h ⊢; exact mem_dropN.2 ⟨h, e⟩
    rw [this]; rfl
theorem boolF_get (l : List ByteArray) (s : ByteArray) : (boolF l s).getD (.bool false) = .bool (hasN l s) := by
  unfold boolF; cases hasN l s <;> rfl
theorem boolF_some (l : List ByteArray) (s : ByteArray) : (boolF l s).isSome = hasN l s := by
  unfold boolF; cases hasN l s <;> rfl
def ansVal (a : AnsD) : Value := .agg #[.string a.1, .bool a.2.1, .int .i64 a.2.2]
def ansF (k : ByteArray → Option AnsD) : ByteArray → Option Value := fun s => (k s).map ansVal
theorem ansF_put (k : ByteArray → Option AnsD) (s x : ByteArray) (a : AnsD) : (if sameS x s then some (ansVal a) else ansF k x) = ansF (putA k s a) x := by
  unfold ansF putA
  cases sameS x s <;> rfl
theorem ansF_get (k : ByteArray → Option AnsD) (s : ByteArray) : (ansF k s).getD (ansVal zeroA) = ansVal ((k s).getD zeroA) := by
  unfold ansF; cases k s <;> rfl
theorem found_get (k : ByteArray → Option AnsD) (s : ByteArray) : ((k s).getD zeroA).2.1 = foundA k s := by unfold foundA zeroA; cases k s <;> rfl
theorem num_get (k : ByteArray → Option AnsD) (s : ByteArray) : ((k s).getD zeroA).2.2 = numA k s := by unfold numA zeroA; cases k s <;> rfl
def placeF (l : List ByteArray) (s : ByteArray) : Option Int := Option.map (fun i : Nat => (i : Int) + 1) (l.findIdx? (sameS s))
def placeV (l : List ByteArray) : ByteArray → Option Value := fun s => (placeF l s).map (.int .i64)
theorem placeF_at {l : List ByteArray} (hn : l.Nodup) {i : Nat} {s : ByteArray} (h : l[i]? = some s) : placeF l s = some ((i : Int) + 1) := by
  unfold placeF
  have : l.findIdx? (sameS s) = some i := by
    rw [List.findIdx?_eq_some_iff_getElem]
    obtain ⟨hi, e⟩ := List.getElem?_eq_some_iff.1 h
    refine ⟨hi, by rw [e]; exact sameS_refl s, fun j hj => ?_⟩
    rw [Bool.not_eq_true, sameS_ne]
    intro e2
    exact (List.pairwise_iff_getElem.1 hn) j i (by omega) hi hj (by rw [e, ← e2])
  rw [this]; rfl
theorem placeF_more {l : List ByteArray} {s x : ByteArray} (hs : s ∉ l) : placeF (l ++ [s]) x = if sameS x s then some ((l.length : Int) + 1) else placeF l x := by
  unfold placeF
  rw [List.findIdx?_append]
  by_cases e : x = s
  · subst e
    rw [sameS_refl]
    have : l.findIdx? (sameS x) = none := by
      rw [List.findIdx?_eq_none_iff]
      intro y hy
      rw [sameS_ne]; rintro rfl; exact hs hy
    rw [this]
    simp [List.findIdx?_cons, sameS_refl]
  · rw [sameS_ne.2 e]
    simp [List.findIdx?_cons, sameS_ne.2 e]
theorem placeV_put {l : List ByteArray} {s x : ByteArray} (hs : s ∉ l) : (if sameS x s then some (.int .i64 ((l.length : Int) + 1)) else placeV l x) = placeV (l ++ [s]) x := by
  unfold placeV
  rw [placeF_more hs]
  cases sameS x s <;> rfl
theorem placeV_get (l : List ByteArray) (s : ByteArray) : (placeV l s).getD (.int .i64 0) = .int .i64 ((placeF l s).getD 0) := by
  unfold placeV; cases placeF l s <;> rfl
theorem placeF_pos {l : List ByteArray} {s : ByteArray} {n : Int} (h : placeF l s = some n) : 1 ≤ n ∧ n ≤ l.length := by
  unfold placeF at h
  rw [Option.map_eq_some_iff] at h
  obtain ⟨i, h1, rfl⟩ := h
  have := (List.findIdx?_eq_some_iff_getElem.1 h1).1
  omega

end Go.Proofs.Ythnfkghgaagaiab
