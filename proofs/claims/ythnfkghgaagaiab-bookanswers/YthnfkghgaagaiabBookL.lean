/- book.Ask, as a Lean function of what its arguments read as. Conditions: the book and the numbers read as lists in old memory; names and lists fit into 2^47 bytes. -/
import Derived.Test.YthnfkghgaagaiabBookJ
import Derived.Test.YthnfkghgaagaiabBookK
namespace Go.Proofs.Ythnfkghgaagaiab
open Go.RowKit

def Enc.ans : Enc AnsD := Enc.str.pair (Enc.bool.pair Enc.int)
theorem Enc.ans_rd {w : World} {S : Nat → Prop} {d : AnsD} {cs : List Value} : Enc.ans.rd w S d cs ↔ cs = [.string d.1, .bool d.2.1, .int .i64 d.2.2] := by
  constructor
  · rintro ⟨c1, _, rfl, h1, c2, c3, rfl, h2, h3⟩
    have h1' : c1 = [.string d.1] := h1
    have h2' : c2 = [.bool d.2.1] := h2
    have h3' : c3 = [.int .i64 d.2.2] := h3
    subst h1' h2' h3'
    rfl
  · rintro rfl
    exact ⟨[.string d.1], _, rfl, rfl, [.bool d.2.1], _, rfl, rfl, rfl⟩
theorem Sl.ans_at {w : World} {S : Nat → Prop} {l : List AnsD} {A : Option Addr} {n c : Nat} (h : Sl Enc.ans w S l (.slice A n c)) {k : Nat} (hk : k < l.length) :
    ∃ b o nm f m, A = some ⟨b, o, none⟩ ∧ S b ∧ Hid (l[k]? = some (nm, f, m)) ∧ w.cell? ⟨b, o + k * 3, none⟩ = some (.string nm) ∧ w.cell? ⟨b, o + k * 3 + 1, none⟩ = some (.bool f) ∧ w.cell? ⟨b, o + k * 3 + 2, none⟩ = some (.int .i64 m) := by
  obtain ⟨b, o, cs, rfl, hS, hr, hc⟩ := h.at hk
  rw [Enc.ans_rd] at hr
  subst hr
  exact ⟨b, o, l[k].1, l[k].2.1, l[k].2.2, rfl, hS, List.getElem?_eq_getElem hk, hc 0 _ rfl, hc 1 _ rfl, hc 2 _ rfl⟩
theorem ans_under : Try.prog.underlying 52 = some (.slice 59) := by kernel_rfl
theorem ans_info : (Try.prog.info? 59).map (fun i => (i.zero, i.size, i.bytes)) = some (some (.agg #[.string ⟨#[]⟩, .bool false, .int .i64 0]), 3, 32) := by kernel_rfl
theorem cell_new3 (w : World) (x y z : Value) (e : Nat) : ∀ j u, [x, y, z][j]? = some u → (w.alloc (.cells #[x, y, z] e)).cell? ((⟨w.heap.size, 0, none⟩ : Addr).add j) = some u := by
  intro j u hu
  have ea : (⟨w.heap.size, 0, none⟩ : Addr).add j = ⟨w.heap.size, 0 + j, none⟩ := by unfold Addr.add; split <;> simp_all
  rw [ea, Nat.zero_add]
  exact cell_new _ _ _ _ _ (by simpa using hu)
def AskPost (R : List AnsD × Int) (w : World) (e : Ending) (w' : World) : Prop := ∃ v, e = .returned (.tuple #[v, .int .i64 R.2]) ∧ Sl Enc.ans w' (From w.heap.size w') R.1 v ∧ Below w.heap.size w w'
theorem AskPost.no {R : List AnsD × Int} {w w' : World} {c : Int} (h : R = ([], c)) (hb : Below w.heap.size w w') : AskPost R w (.returned (.tuple #[.slice none 0 0, .int .i64 c])) w' := by
  subst h; exact ⟨_, rfl, Sl.nil, hb⟩

theorem domK_snoc {d : DomD} {n : Int} : ∀ (ds : List DomD) (l : List Int) (K : ByteArray → Option AnsD), ds.length = l.length → domK (ds ++ [d]) (l ++ [n]) K = putA (domK ds l K) d.1 (d.1, true, n)
  | [], [], K, _ => rfl
  | a :: ds, m :: l, K, h => by simp only [List.cons_append, domK]; exact domK_snoc ds l _ (by simpa using h)
  | [], _ :: _, _, h => by simp at h
  | _ :: _, [], _, h => by simp at h
theorem inDoms_snoc {d : DomD} {n : Int} : ∀ (ds : List DomD) (l : List Int), ds.length = l.length → inDoms (ds ++ [d]) (l ++ [n]) = (inDoms ds l && (decide (d.2.1 ≤ n) && decide (n ≤ d.2.2)))
  | [], [], _ => by simp [inDoms]
  | a :: ds, m :: l, h => by simp only [List.cons_append, inDoms]; rw [inDoms_snoc ds l (by simpa using h)]; simp [Bool.and_assoc]
  | [], _ :: _, h => by simp at h
  | _ :: _, [], h => by simp at h
theorem inDoms_front : ∀ {ds : List DomD} {l : List Int} (k : Nat), inDoms ds l = true → inDoms (ds.take k) (l.take k) = true
  | [], l, k, _ => by simp [inDoms]
  | a :: ds, [], k, _ => by cases k <;> simp [inDoms]
  | a :: ds, m :: l, 0, _ => rfl
  | a :: ds, m :: l, k + 1, h => by
    simp only [inDoms, Bool.and_eq_true] at h
    simp only [List.take_succ_cons, inDoms, Bool.and_eq_true]
    exact ⟨h.1, inDoms_front k h.2⟩
theorem dom_more {ds : List DomD} {l : List Int} (hl : ds.length = l.length) {k : Nat} {d : DomD} {n : Int} (h : ds[k]? = some d) (h' : l[k]? = some n) (K : ByteArray → Option AnsD) :
    domK (ds.take (k + 1)) (l.take (k + 1)) K = putA (domK (ds.take k) (l.take k) K) d.1 (d.1, true, n) ∧ inDoms (ds.take (k + 1)) (l.take (k + 1)) = (inDoms (ds.take k) (l.take k) && (decide (d.2.1 ≤ n) && decide (n ≤ d.2.2))) := by
  have e : (ds.take k).length = (l.take k).length := by rw [List.length_take, List.length_take, hl]
  rw [take_at h, take_at h']
  exact ⟨domK_snoc _ _ _ e, inDoms_snoc _ _ e⟩
theorem inDoms_no {ds : List DomD} {l : List Int} (hl : ds.length = l.length) {k : Nat} {d : DomD} {n : Int} (h : ds[k]? = some d) (h' : l[k]? = some n) (hx : (decide (d.2.1 ≤ n) && decide (n ≤ d.2.2)) = false) : inDoms ds l = false := by
  cases hh : inDoms ds l
  · rfl
  · have := inDoms_front (k + 1) hh
    rw [(dom_more hl h h' (fun _ => none)).2, hx] at this
    simp at this
theorem askK_snoc {ts : List TabD} {s : ByteArray} : ∀ (l : List ByteArray) (K : ByteArray → Option AnsD), askK ts (l ++ [s]) K = putA (askK ts l K) s (ansOf (askK ts l K) ((findT ts s).getD zeroT))
  | [], K => rfl
  | a :: l, K => by simp only [List.cons_append, askK]; exact askK_snoc l _
theorem ask_check {b : BookD} {l : List Int} (h : (checkV b).2.2 ≠ 0) : askV b l = ([], (checkV b).2.2) := by unfold askV; rw [if_pos h]
theorem ask_len {b : BookD} {l : List Int} (h : (checkV b).2.2 = 0) (hl : l.length ≠ b.doms.length) : askV b l = ([], 1) := by unfold askV; rw [if_neg (by simp [h]), if_pos hl]
theorem ask_range {b : BookD} {l : List Int} (h : (checkV b).2.2 = 0) (hl : l.length = b.doms.length) (hi : inDoms b.doms l = false) : askV b l = ([], 2) := by unfold askV; rw [if_neg (by simp [h]), if_neg (by simp [hl]), if_pos hi]
theorem ask_all {b : BookD} {l : List Int} (h : (checkV b).2.2 = 0) (hl : l.length = b.doms.length) (hi : inDoms b.doms l = true) : askV b l = (ansL b l, 0) := by unfold askV; rw [if_neg (by simp [h]), if_neg (by simp [hl]), if_neg (by simp [hi])]; rfl

end Go.Proofs.Ythnfkghgaagaiab
