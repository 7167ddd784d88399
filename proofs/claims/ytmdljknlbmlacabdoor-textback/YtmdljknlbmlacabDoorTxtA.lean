/- The parser's small methods skip, cut, takes, wants, ended, word, option, each as a Lean function of the state that the receiver reads as. Conditions: the receiver is a parser in memory; the text has at most 2000 bytes. -/
import Derived.Test.YtmdljknlbmlacabDoorTxtMem
import Derived.Test.YtmdljknlbmlacabDoorShelfX
import Derived.Test.YtmdljknlbmlacabDoorProg
import Derived.Test.YtmdljknlbmlacabDoorChecked
import Derived.Shelf.Strings.SlTrimAscii
import Derived.Shelf.Strings.Prefix
namespace Go.Proofs.YtmdljknlbmlacabDoor
open Go.RowKit Go.Shelf

theorem lib_TrimLeft (l : Bs) (w : World) :
    Calls Tryd.prog 45 #[.string (bs l), .string ⟨#[32, 10]⟩] w fun e w' => e = .returned (.string (bs (skipL l))) ∧ Below w.heap.size w w' := by
  have h := Any.strings_TrimLeft_laid Tryd.trimLeft (by kernel_rfl) (bs l) ⟨#[32, 10]⟩ w (by decide) (ascii_of_all (by decide))
  rw [bs_data] at h
  exact h
theorem lib_HasPrefix (l m : Bs) (w : World) :
    Calls Tryd.prog 46 #[.string (bs l), .string (bs m)] w fun e w' => e = .returned (.bool (m.isPrefixOf l)) ∧ w' = w := by
  have h := Any.strings_HasPrefix Tryd.hasPrefix (bs l) (bs m) w
  rw [bs_data, bs_data] at h
  exact h

set_option maxHeartbeats 400000 in
theorem p_skip (p : PS) (g : Nat) (w : World) (h : PA w g p) :
    Calls Tryd.prog 30 #[.pointer (some ⟨g, 0, none⟩)] w fun e w' => e = .returned (.tuple #[]) ∧ PA w' g ⟨skipL p.rest, p.bad⟩ ∧ w.grownBy w' (some g) := by
  obtain ⟨r, b⟩ := p
  have H := Lib.hid h
  obtain ⟨hg, c0, c1, f0, f1⟩ := h
  simp only at c0 c1
  go_enter Tryd.func30, Tryd.ntmps30
  go_wp2_with fail
  refine (lib_TrimLeft r _).mono ?_
  rintro e w1 ⟨rfl, hb1⟩
  obtain ⟨hg1, d0, d1, e0, e1⟩ := H.out.next hb1
  go_wp2
  go_end0
  exact ⟨rfl, (H.out.next hb1).set0 _, World.grownBy.trans' (grown_below hb1) (grown_set ..)⟩

theorem bs_extract (l : Bs) (a b : Nat) : (bs l).extract a b = bs ((l.drop a).take (b - a)) := by
  have := Lib.extract_data (bs l) a b
  rw [bs_data] at this
  rw [← this, bs_of]

set_option maxHeartbeats 400000 in
theorem p_cut (p : PS) (n : Nat) (g : Nat) (w : World) (h : PA w g p) (hn : n ≤ p.rest.length) (hs : p.rest.length ≤ 2000) :
    Calls Tryd.prog 31 #[.pointer (some ⟨g, 0, none⟩), .int .i64 n] w fun e w' => e = .returned (.string (bs (p.rest.take n))) ∧ PA w' g ⟨p.rest.drop n, p.bad⟩ ∧ w.grownBy w' (some g) := by
  obtain ⟨r, b⟩ := p
  have H := Lib.hid h
  obtain ⟨hg, c0, c1, f0, f1⟩ := h
  simp only at c0 c1 hn hs
  have hsz : (bs r).size = r.length := bs_size r
  go_enter Tryd.func31, Tryd.ntmps31
  go_wp2
  go_ret
  have e1 : (bs r).extract 0 n = bs (r.take n) := by rw [bs_extract]; simp
  have e2 : (bs r).extract n r.length = bs (r.drop n) := by rw [bs_extract, List.take_of_length_le (by simp)]
  rw [e2]
  refine ⟨?_, H.out.set0 _, grown_set ..⟩
  show Ending.returned (.string ((bs r).extract 0 n)) = _
  rw [e1]

set_option maxHeartbeats 400000 in
theorem p_takes (sym : Bs) (p : PS) (g : Nat) (w : World) (h : PA w g p) (hs : p.rest.length ≤ 2000) :
    Calls Tryd.prog 37 #[.pointer (some ⟨g, 0, none⟩), .string (bs sym)] w fun e w' => e = .returned (.bool (takesP sym p).1) ∧ PA w' g (takesP sym p).2 ∧ w.grownBy w' (some g) := by
  have hlen := skip_len p.rest
  obtain ⟨r, b⟩ := p
  have H := Lib.hid h
  have hsz : (bs sym).size = sym.length := bs_size sym
  simp only at hs hlen
  by_cases hq : sym.isPrefixOf (skipL r) = true
  · have hl : sym.length ≤ (skipL r).length := (List.isPrefixOf_iff_prefix.1 hq).length_le
    have e : takesP sym ⟨r, b⟩ = (true, ⟨(skipL r).drop sym.length, b⟩) := by unfold takesP; simp only [hq, if_true]
    rw [e]
    clear e
    have HQ := Lib.hid hq
    clear hq
    go_enter Tryd.func37, Tryd.ntmps37
    go_wp2_with fail
    refine (p_skip ⟨r, b⟩ g _ H.out).mono ?_
    rintro e w1 ⟨rfl, h1, hb1⟩
    have H1 := Lib.hid h1
    have B1 := Lib.hid hb1
    obtain ⟨hg1, d0, d1, e0, e1⟩ := h1
    simp only at d0 d1
    clear hb1
    go_wp2_with fail
    refine (lib_HasPrefix (skipL r) sym _).mono ?_
    rintro e w2 ⟨rfl, rfl⟩
    rw [HQ.out]
    go_wp2_with fail
    refine (p_cut ⟨skipL r, b⟩ sym.length g _ H1.out hl (by simp only; omega)).mono ?_
    rintro e w3 ⟨rfl, h3, hb3⟩
    go_wp2
    go_ret
    exact ⟨rfl, h3, World.grownBy.trans' B1.out hb3⟩
  · have hq' : sym.isPrefixOf (skipL r) = false := Bool.eq_false_iff.2 hq
    have e : takesP sym ⟨r, b⟩ = (false, ⟨skipL r, b⟩) := by unfold takesP; simp only [hq']; rfl
    rw [e]
    clear e hq
    have HQ := Lib.hid hq'
    clear hq'
    go_enter Tryd.func37, Tryd.ntmps37
    go_wp2_with fail
    refine (p_skip ⟨r, b⟩ g _ H.out).mono ?_
    rintro e w1 ⟨rfl, h1, hb1⟩
    have H1 := Lib.hid h1
    have B1 := Lib.hid hb1
    obtain ⟨hg1, d0, d1, e0, e1⟩ := h1
    simp only at d0 d1
    clear hb1
    go_wp2_with fail
    refine (lib_HasPrefix (skipL r) sym _).mono ?_
    rintro e w2 ⟨rfl, rfl⟩
    rw [HQ.out]
    go_wp2
    go_ret
    exact ⟨rfl, H1.out, B1.out⟩

set_option maxHeartbeats 400000 in
theorem p_wants (sym : Bs) (p : PS) (g : Nat) (w : World) (h : PA w g p) (hs : p.rest.length ≤ 2000) :
    Calls Tryd.prog 33 #[.pointer (some ⟨g, 0, none⟩), .string (bs sym)] w fun e w' => e = .returned (.tuple #[]) ∧ PA w' g (wantsP sym p) ∧ w.grownBy w' (some g) := by
  have H := Lib.hid h
  have HB : Hid ((takesP sym p).2.bad = p.bad) := rfl
  go_enter Tryd.func33, Tryd.ntmps33
  go_wp2_with fail
  refine (p_takes sym p g _ H.out hs).mono ?_
  rintro e w1 ⟨rfl, h1, hb1⟩
  have H1 := Lib.hid h1
  have B1 := Lib.hid hb1
  obtain ⟨hg1, d0, d1, e0, e1⟩ := h1
  clear hb1
  have HE : Hid (wantsP sym p = ⟨(takesP sym p).2.rest, p.bad || !(takesP sym p).1⟩) := rfl
  cases hq : (takesP sym p).1
  · have HQ := Lib.hid hq
    clear hq
    go_wp2
    first | go_end0 | refine bodyPost_ret (results_none rfl _ _ _) rfl ?_
    refine ⟨rfl, ?_, World.grownBy.trans' B1.out (grown_set ..)⟩
    have := H1.out.set1 true
    rw [HE.out, HQ.out]
    simpa using this
  · have HQ := Lib.hid hq
    clear hq
    go_wp2
    first | go_end0 | refine bodyPost_ret (results_none rfl _ _ _) rfl ?_
    refine ⟨rfl, ?_, B1.out⟩
    rw [HE.out, HQ.out]
    have := H1.out
    rw [← HB.out]
    simpa using this

set_option maxHeartbeats 400000 in
theorem p_ended (p : PS) (g : Nat) (w : World) (h : PA w g p) :
    Calls Tryd.prog 17 #[.pointer (some ⟨g, 0, none⟩)] w fun e w' => e = .returned (.bool (endedB p)) ∧ PA w' g ⟨skipL p.rest, p.bad⟩ ∧ w.grownBy w' (some g) := by
  obtain ⟨r, b⟩ := p
  have H := Lib.hid h
  have HE : Hid (endedB ⟨r, b⟩ = (!b && (skipL r).isEmpty)) := rfl
  go_enter Tryd.func17, Tryd.ntmps17
  go_wp2_with fail
  refine (p_skip ⟨r, b⟩ g _ H.out).mono ?_
  rintro e w1 ⟨rfl, h1, hb1⟩
  have H1 := Lib.hid h1
  have B1 := Lib.hid hb1
  obtain ⟨hg1, d0, d1, e0, e1⟩ := h1
  simp only at d0 d1
  clear hb1
  cases b
  · by_cases h0 : skipL r = []
    · have hb : bs (skipL r) = ⟨#[]⟩ := by rw [h0]; rfl
      have HX : Hid ((skipL r).isEmpty = true) := by show _ = true; rw [h0]; rfl
      rw [hb] at d0
      go_wp2
      go_ret
      refine ⟨ret_bool ?_, H1.out, B1.out⟩
      rw [HE.out, HX.out]; rfl
    · have hx : ((bs (skipL r)).toList == []) = false := by
        rw [ByteArray.toList_eq, bs_data]
        cases h : skipL r with
        | nil => exact absurd h h0
        | cons a l => rfl
      have hx2 : (bs (skipL r)).toList.isEmpty = false := by
        rw [ByteArray.toList_eq, bs_data]
        cases h : skipL r with
        | nil => exact absurd h h0
        | cons a l => rfl
      have hx3 : ¬ (bs (skipL r)).toList = [] := by
        rw [ByteArray.toList_eq, bs_data]; exact h0
      have HX : Hid ((skipL r).isEmpty = false) := by
        show _ = false
        cases h : skipL r with
        | nil => exact absurd h h0
        | cons a l => rfl
      go_wp2
      go_ret
      refine ⟨ret_bool ?_, H1.out, B1.out⟩
      rw [HE.out, HX.out]; rfl
  · go_wp2
    go_ret
    exact ⟨ret_bool (by rw [HE.out]; rfl), H1.out, B1.out⟩

theorem while_at {f : UInt8 → Bool} {l : Bs} {k : Nat} (h1 : (l.take k).all f = true) (h2 : l.length ≤ k ∨ ∃ b, l[k]? = some b ∧ f b = false) : l.takeWhile f = l.take k ∧ l.dropWhile f = l.drop k := by
  have := tw (f := f) (v := l.take k) (rest := l.drop k) (List.all_eq_true.1 h1) (by
    rcases h2 with h2 | ⟨b, hb, hf⟩
    · rw [List.drop_of_length_le h2]; intro b hb; simp at hb
    · intro c hc
      rw [List.head?_drop, hb] at hc
      injection hc with hc
      rw [← hc]; exact hf)
  rw [List.take_append_drop] at this
  exact this
theorem bs_at (l : Bs) (k : Nat) (h : k < (bs l).size) : l[k]? = some ((bs l)[k]) := by
  have h' : k < l.length := by rw [bs_size] at h; exact h
  rw [List.getElem?_eq_getElem h']
  rfl
theorem take_all {f : UInt8 → Bool} {l : Bs} {k : Nat} {b : UInt8} (h : (l.take k).all f = true) (hb : l[k]? = some b) (hf : f b = true) : (l.take (k + 1)).all f = true := by
  rw [List.take_add_one, hb, List.all_append, h]
  simp [hf]

set_option maxHeartbeats 1000000 in
theorem p_word (p : PS) (g : Nat) (w : World) (h : PA w g p) (hs : p.rest.length ≤ 2000) :
    Calls Tryd.prog 15 #[.pointer (some ⟨g, 0, none⟩)] w fun e w' => e = .returned (.string (bs (wordP p).1)) ∧ PA w' g (wordP p).2 ∧ w.grownBy w' (some g) := by
  have hlen := skip_len p.rest
  obtain ⟨r, b⟩ := p
  have H := Lib.hid h
  simp only at hs hlen
  have HE : Hid (wordP ⟨r, b⟩ = ((skipL r).takeWhile letterB, ⟨(skipL r).dropWhile letterB, b⟩)) := rfl
  go_enter Tryd.func15, Tryd.ntmps15
  go_wp2_with fail
  refine (p_skip ⟨r, b⟩ g _ H.out).mono ?_
  rintro e w1 ⟨rfl, h1, hb1⟩
  have H1 := Lib.hid h1
  have B1 := Lib.hid hb1
  obtain ⟨hg1, d0, d1, e0, e1⟩ := h1
  simp only at d0 d1
  clear hb1
  obtain ⟨S, hS⟩ : ∃ S, S = bs (skipL r) := ⟨_, rfl⟩
  have hsz : S.size = (skipL r).length := by rw [hS]; exact bs_size _
  rw [← hS] at d0
  have HS := Lib.hid hS
  clear hS
  have hszi : (S.size : Int) ≤ 2000 := by omega
  go_wp2
  go_loopw [3] (fun i wr => ∃ k : Nat, k ≤ S.size ∧ i = .int .i64 k ∧ Hid (((skipL r).take k).all letterB = true) ∧ wr = w1) (fun i _ => S.size - (intOf i).toNat)
  case atStart => exact ⟨0, Nat.zero_le _, rfl, rfl, rfl⟩
  case round =>
    obtain ⟨k, hk, rfl, hf, rfl⟩ := hrel
    have hcut : (S.size ≤ k ∨ ∃ b, (skipL r)[k]? = some b ∧ letterB b = false) → Hid ((skipL r).takeWhile letterB = (skipL r).take k ∧ (skipL r).dropWhile letterB = (skipL r).drop k) := fun hh => while_at hf.out (by rcases hh with hh | hh; exact .inl (by omega); exact .inr hh)
    by_cases hlt : k < S.size
    · have hlt' : (k : Int) < S.size := by omega
      have HX : Hid ((skipL r)[k]? = some (S[k])) := by
        have h1 := HS.out
        subst h1
        exact bs_at _ _ hlt
      by_cases h1 : S[k].toNat < 97
      · have h1' : (S[k].toNat : Int) < 97 := by omega
        have HL : Hid (letterB S[k] = false) := by simp [letterB, Hid]; omega
        have HC := hcut (.inr ⟨_, HX.out, HL.out⟩)
        clear hcut
        go_wp2_with fail
        refine (p_cut ⟨skipL r, b⟩ k g _ H1.out (by simp only; omega) (by simp only; omega)).mono ?_
        rintro e w3 ⟨rfl, h3, hb3⟩
        go_wp2
        go_ret
        refine ⟨?_, ?_, World.grownBy.trans' B1.out hb3⟩
        · rw [HE.out, HC.out.1]; rfl
        · rw [HE.out, HC.out.2]; exact h3
      · by_cases h2 : 122 < S[k].toNat
        · have h1' : 97 ≤ (S[k].toNat : Int) := by omega
          have h2' : 122 < (S[k].toNat : Int) := by omega
          have HL : Hid (letterB S[k] = false) := by simp [letterB, Hid]; omega
          have HC := hcut (.inr ⟨_, HX.out, HL.out⟩)
          clear hcut
          go_wp2_with fail
          refine (p_cut ⟨skipL r, b⟩ k g _ H1.out (by simp only; omega) (by simp only; omega)).mono ?_
          rintro e w3 ⟨rfl, h3, hb3⟩
          go_wp2
          go_ret
          refine ⟨?_, ?_, World.grownBy.trans' B1.out hb3⟩
          · rw [HE.out, HC.out.1]; rfl
          · rw [HE.out, HC.out.2]; exact h3
        · have h1' : 97 ≤ (S[k].toNat : Int) := by omega
          have h2' : (S[k].toNat : Int) ≤ 122 := by omega
          have HL : Hid (letterB S[k] = true) := by simp [letterB, Hid]; omega
          clear hcut
          go_wp2
          exact ⟨⟨k + 1, by omega, by go_num, take_all hf.out HX.out HL.out, by first | trivial | rfl⟩, by simp [intOf]; omega⟩
    · have hge : (S.size : Int) ≤ k := by omega
      have HC := hcut (.inl (by omega))
      clear hcut
      go_wp2_with fail
      refine (p_cut ⟨skipL r, b⟩ k g _ H1.out (by simp only; omega) (by simp only; omega)).mono ?_
      rintro e w3 ⟨rfl, h3, hb3⟩
      go_wp2
      go_ret
      refine ⟨?_, ?_, World.grownBy.trans' B1.out hb3⟩
      · rw [HE.out, HC.out.1]; rfl
      · rw [HE.out, HC.out.2]; exact h3

theorem bs_nil_iff (l : Bs) : (bs l).toList = [] ↔ l = [] := by rw [ByteArray.toList_eq, bs_data]
theorem bs_toList (l : Bs) : (bs l).toList = l := by rw [ByteArray.toList_eq, bs_data]

set_option maxHeartbeats 400000 in
theorem p_option (v : Bs) (p : PS) (g : Nat) (w : World) (h : PA w g p) (hs : p.rest.length ≤ 2000) :
    Calls Tryd.prog 35 #[.pointer (some ⟨g, 0, none⟩), .string (bs v)] w fun e w' => e = .returned (.bool (optionP v p).1) ∧ PA w' g (optionP v p).2 ∧ w.grownBy w' (some g) := by
  have H := Lib.hid h
  have HE : Hid (optionP v p = (decide ((wordP p).1 = v), ⟨(wordP p).2.rest, p.bad || (decide ((wordP p).1 ≠ []) && decide ((wordP p).1 ≠ v))⟩)) := rfl
  have HB : Hid ((wordP p).2.bad = p.bad) := rfl
  go_enter Tryd.func35, Tryd.ntmps35
  go_wp2_with fail
  refine (p_word p g _ H.out hs).mono ?_
  rintro e w1 ⟨rfl, h1, hb1⟩
  have H1 := Lib.hid h1
  have B1 := Lib.hid hb1
  obtain ⟨hg1, d0, d1, e0, e1⟩ := h1
  clear hb1
  have hx := bs_toList (wordP p).1
  have hv := bs_toList v
  generalize hW : (wordP p).1 = W at *
  by_cases h0 : W = []
  · subst h0
    by_cases h2 : v = []
    · subst h2
      go_wp2
      go_ret
      refine ⟨ret_bool (by rw [HE.out]; rfl), ?_, B1.out⟩
      rw [HE.out]
      have := H1.out
      rw [← HB.out]
      simpa using this
    · have k1 : ([] == v) = false := by cases v with | nil => exact absurd rfl h2 | cons a l => rfl
      have k2 : ¬ [] = v := fun h => h2 h.symm
      go_wp2
      go_ret
      refine ⟨ret_bool (by rw [HE.out]; simp [k2]), ?_, B1.out⟩
      rw [HE.out]
      have := H1.out
      rw [← HB.out]
      simpa using this
  · have k0 : W.isEmpty = false := by cases W with | nil => exact absurd rfl h0 | cons a l => rfl
    by_cases h2 : W = v
    · subst h2
      go_wp2
      go_ret
      refine ⟨ret_bool (by rw [HE.out]; simp), ?_, B1.out⟩
      rw [HE.out]
      have := H1.out
      rw [← HB.out]
      simpa using this
    · have k1 : (W == v) = false := beq_eq_false_iff_ne.2 h2
      go_wp2
      go_ret
      refine ⟨ret_bool (by rw [HE.out]; simp [h2]), ?_, World.grownBy.trans' B1.out (grown_set ..)⟩
      rw [HE.out]
      have := H1.out.set1 true
      simpa [h0, h2] using this

end Go.Proofs.YtmdljknlbmlacabDoor
