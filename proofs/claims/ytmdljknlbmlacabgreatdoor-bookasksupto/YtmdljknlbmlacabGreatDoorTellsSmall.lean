/- What a bound on the bulk of a table's reading gives: the names of its inputs, joined, are short. No condition. -/
import Derived.Test.YtmdljknlbmlacabGreatDoorTabOpens
import Derived.Test.YtmdljknlbmlacabGreatDoorCards
import Derived.Lib.Join
namespace Go.Proofs.YtmdljknlbmlacabGreatDoor
open Go.ChangeShapes Go.WideShapes Go.ChangeAt Go.RowKit Go.Deep

theorem bulk_one {H : Type} (d : DataW H) : 1 ≤ Rows.uptoBulk d := by
  cases d <;> first | (simp [Rows.uptoBulk]; done) | (rename_i l; cases l <;> simp [Rows.uptoBulk])
theorem bulk_part {H : Type} {d : DataW H} : ∀ {l : List (DataW H)}, d ∈ l → Rows.uptoBulk d ≤ Rows.uptoBulkAll l
  | x :: l, h => by
    simp only [Rows.uptoBulkAll]
    rcases List.mem_cons.1 h with rfl | h
    · omega
    · have := bulk_part h; omega
theorem bulk_len {H : Type} : ∀ l : List (DataW H), l.length ≤ Rows.uptoBulkAll l
  | [] => by simp [Rows.uptoBulkAll]
  | x :: l => by have := bulk_one x; have := bulk_len l; simp only [Rows.uptoBulkAll, List.length_cons]; omega

theorem join_le {L : List (List UInt8)} {sep : List UInt8} {M : Nat} (h : ∀ x, x ∈ L → x.length ≤ M) : (Lib.join L sep).length ≤ L.length * (M + sep.length) := by
  induction L with
  | nil => simp [Lib.join]
  | cons x L ih =>
    have h1 := h x List.mem_cons_self
    have h2 := ih fun y hy => h y (List.mem_cons_of_mem _ hy)
    cases L with
    | nil => rw [Lib.join_one]; simp; omega
    | cons y L =>
      have e : (Lib.join (x :: y :: L) sep).length = x.length + sep.length + (Lib.join (y :: L) sep).length := by simp [Lib.join]; omega
      rw [e, List.length_cons, Nat.add_mul]
      omega

/-- a slice of strings -/
theorem strs_small {H : Type} {enc : TypeId × Value → H} {W : World} {base : Nat} {spare : Nat → Bool} {held : Bool} {fuel : Nat} {vi : Value} {ins : List ByteArray} {x : DataW H × List MemPlace}
    (h : DataW.trod enc Tryz.prog W base spare held fuel 39 [vi] = some x) (hi : Sl Enc.str W (Old W) ins vi) : ins.length ≤ Rows.uptoBulk x.1 ∧ ∀ s, s ∈ ins → s.size ≤ Rows.uptoBulk x.1 := by
  have hu : Tryz.prog.underlying 39 = some (.slice 9) := by kernel_rfl
  have HI := Lib.hid hi
  obtain ⟨A, c, rfl, hc1, hc2, hn, h4⟩ := hi
  rcases open_slice hu h with ⟨e1, rfl⟩ | ⟨a, len, cap, m, n, D, Pl, e1, hb, hl, hm, hmm, rfl, hx⟩
  · injection e1 with e1 _
    injection e1 with _ e2 _
    obtain rfl : ins = [] := List.length_eq_zero_iff.1 e2
    exact ⟨by simp, by simp⟩
  · injection e1 with e1 _
    injection e1 with e2 e3 e4
    have hlm : len ≤ m := by rw [hmm]; split <;> omega
    have hle : Rows.uptoBulkAll ((List.range len).map D) ≤ Rows.uptoBulk (DataW.slice (H := H) ((List.range len).map D) ((List.range (m - len)).map fun j => D (len + j))) := by simp only [Rows.uptoBulk]; omega
    have hc9 : Tryz.prog.cellsOf 9 = 1 := by kernel_rfl
    refine ⟨?_, fun s hs => ?_⟩
    · have h1 := bulk_len ((List.range len).map D)
      rw [List.length_map, List.length_range] at h1
      show ins.length ≤ Rows.uptoBulk (DataW.slice _ _)
      omega
    · obtain ⟨i, hi', rfl⟩ := List.getElem_of_mem hs
      obtain ⟨b, o, y, e5, _, hy, hcell⟩ := HI.out.str_at hi'
      have hyi : y = ins[i] := by have := hy.out; rw [List.getElem?_eq_getElem hi'] at this; exact (Option.some.inj this).symm
      subst hyi
      rw [e2] at e5
      injection e5 with e5
      subst e5
      obtain ⟨cs', g1, g2⟩ := hx i (by omega)
      obtain ⟨_, hl', hcs⟩ := World.cells?_some g1
      rw [hc9] at hl'
      have h0 := hcs 0 (by rw [hc9]; omega)
      obtain ⟨s, es, ed, _⟩ := DataW.trod_string Tryz.underlying9 g2
      subst es
      rw [hc9] at h0
      have h1 : W.cell? ⟨b, o + i, none⟩ = some (.string s) := by
        rcases Nat.eq_zero_or_pos i with hz | hp
        · simpa [Addr.add, hz] using h0
        · simpa [Addr.add, Nat.ne_of_gt hp] using h0
      rw [hcell] at h1
      injection h1 with h1
      injection h1 with h1
      have h2 : Rows.uptoBulk (D i) ≤ Rows.uptoBulkAll ((List.range len).map D) := bulk_part (List.mem_map.2 ⟨i, List.mem_range.2 (by omega), rfl⟩)
      have e6 : D i = .lit (.string s.data.toList) := by have := congrArg Prod.fst ed; simpa using this
      rw [e6] at h2
      have h3 : Rows.uptoBulk (DataW.lit (H := H) (.string s.data.toList)) = s.data.toList.length + 1 := by simp [Rows.uptoBulk]
      rw [h3] at h2
      have h4' : (ins[i]).size = s.data.toList.length := by rw [h1]; exact Array.length_toList.symm
      show (ins[i]).size ≤ Rows.uptoBulk (DataW.slice _ _)
      omega

/-- a table -/
theorem ins_small {H : Type} {enc : TypeId × Value → H} {W : World} {base : Nat} {spare : Nat → Bool} {held : Bool} {t : TabD} {v : Value} {d : DataW H} {p : List MemPlace}
    (h : DataW.Trod enc Tryz.prog W base spare held 59 v d p) (ht : TabAt W (Old W) t v) : t.ins.length ≤ Rows.uptoBulk d ∧ ∀ s, s ∈ t.ins → s.size ≤ Rows.uptoBulk d := by
  obtain ⟨vi, vr, rfl, hi, -⟩ := ht
  obtain ⟨fuel, hf⟩ := h
  have hf' : DataW.trod enc Tryz.prog W base spare held fuel 59 [.string t.name, .int .i64 t.pol, .bool t.comp, vi, vr] = some (d, p) := hf
  obtain ⟨xs, n, _, hx, hl, hxl, hg⟩ := DataW.trod_struct Tryz.underlying59 hf'
  have g3 := hg 3 _ rfl
  have hc : Tryz.prog.cellsOf 39 = 1 := by kernel_rfl
  have g3' : DataW.trod enc Tryz.prog W base spare held n 39 [vi] = xs[3]? := by simpa [hc] using g3
  have hlt : 3 < xs.length := by rw [hxl]; decide
  rw [List.getElem?_eq_getElem hlt] at g3'
  obtain ⟨h1, h2⟩ := strs_small g3' hi
  have hd : d = .agg (xs.map (·.1)) := by have := congrArg Prod.fst hx; simpa using this
  have h3 : Rows.uptoBulk (xs[3].1) ≤ Rows.uptoBulkAll (xs.map (·.1)) := bulk_part (List.mem_map.2 ⟨_, List.getElem_mem hlt, rfl⟩)
  have h4 : Rows.uptoBulk d = Rows.uptoBulkAll (xs.map (·.1)) + 1 := by rw [hd]; simp [Rows.uptoBulk]
  exact ⟨by omega, fun s hs => by have := h2 s hs; omega⟩

theorem hlen_small {ins : List ByteArray} {B : Nat} (hB : B ≤ 1048576) (h1 : ins.length ≤ B) (h2 : ∀ s, s ∈ ins → s.size ≤ B) : (Lib.join (ins.map (·.data.toList)) [44]).length ≤ 140737488355328 := by
  have h := join_le (L := ins.map (·.data.toList)) (sep := [44]) (M := B) (fun x hx => by
    obtain ⟨s, hs, rfl⟩ := List.mem_map.1 hx
    have := h2 s hs
    show s.data.toList.length ≤ B
    rw [Array.length_toList]
    exact this)
  rw [List.length_map] at h
  have h3 : ins.length * (B + [(44 : UInt8)].length) ≤ 1048576 * 1048577 := Nat.mul_le_mul (by omega) (by simp; omega)
  omega

end Go.Proofs.YtmdljknlbmlacabGreatDoor
