/- What is printed of a good table or domain is read as it, and is at most 2000 bytes long. No condition; no program is named. -/
import Derived.Test.YtmdljknlbmlacabDoorTxt
namespace Go.Proofs.YtmdljknlbmlacabDoor
open Go.RowKit

def hdNot (f : UInt8 → Bool) (l : Bs) : Prop := ∀ b, l.head? = some b → f b = false
def Sim (p q : PS) : Prop := skipL p.rest = skipL q.rest ∧ p.bad = q.bad

theorem skip_sp (l : Bs) : skipL (32 :: l) = skipL l := by simp [skipL, spB]
theorem skip_nl (l : Bs) : skipL (10 :: l) = skipL l := by simp [skipL, spB]
theorem skip_ns {b : UInt8} {l : Bs} (h : spB b = false) : skipL (b :: l) = b :: l := by simp [skipL, h]
theorem skip_skip (l : Bs) : skipL (skipL l) = skipL l := by
  unfold skipL
  induction l with
  | nil => rfl
  | cons a l ih =>
    by_cases h : spB a = true
    · simp [h, ih]
    · simp [h]
theorem skip_len (l : Bs) : (skipL l).length ≤ l.length := (List.dropWhile_sublist _).length_le
theorem Sim.refl (p : PS) : Sim p p := ⟨rfl, rfl⟩
theorem Sim.skip (l : Bs) (b : Bool) : Sim ⟨skipL l, b⟩ ⟨l, b⟩ := ⟨skip_skip l, rfl⟩
theorem Sim.symm {p q : PS} (h : Sim p q) : Sim q p := ⟨h.1.symm, h.2.symm⟩

theorem wordP_sim {p q : PS} (h : Sim p q) : wordP p = wordP q := by unfold wordP; rw [h.1, h.2]
theorem strP_sim {p q : PS} (h : Sim p q) : strP p = strP q := by unfold strP; rw [wordP_sim h]
theorem takesP_sim {p q : PS} (h : Sim p q) (s : Bs) : takesP s p = takesP s q := by unfold takesP; rw [h.1, h.2]
theorem wantsP_sim {p q : PS} (h : Sim p q) (s : Bs) : wantsP s p = wantsP s q := by unfold wantsP; rw [takesP_sim h, h.2]
theorem numberP_sim {p q : PS} (h : Sim p q) : numberP p = numberP q := by unfold numberP; rw [h.1, h.2]
theorem optionP_sim {p q : PS} (h : Sim p q) (s : Bs) : optionP s p = optionP s q := by unfold optionP; rw [wordP_sim h, h.2]
theorem rangeP_sim {p q : PS} (h : Sim p q) : rangeP p = rangeP q := by unfold rangeP; rw [numberP_sim h]
theorem listP_sim {α : Type} {item : PS → α × PS} {s : Bs} {p q : PS} (hi : item p = item q) : listP item s p = listP item s q := by unfold listP; rw [hi]
theorem cellP_sim {p q : PS} (h : Sim p q) : cellP p = cellP q := by unfold cellP; rw [takesP_sim h]
theorem cellsP_sim {p q : PS} (h : Sim p q) : cellsP p = cellsP q := listP_sim (cellP_sim h)
theorem ruleP_sim {p q : PS} (h : Sim p q) : ruleP p = ruleP q := by unfold ruleP; rw [cellsP_sim h]

theorem tw {f : UInt8 → Bool} {v rest : Bs} (hw : ∀ b ∈ v, f b = true) (hr : hdNot f rest) : (v ++ rest).takeWhile f = v ∧ (v ++ rest).dropWhile f = rest := by
  induction v with
  | nil =>
    cases rest with
    | nil => exact ⟨rfl, rfl⟩
    | cons a r => have := hr a rfl; simp [this]
  | cons a v ih =>
    have ha := hw a (by simp)
    have := ih fun b hb => hw b (by simp [hb])
    simp [ha, this]

theorem letter_ns {b : UInt8} (h : letterB b = true) : spB b = false := by
  simp [letterB] at h
  simp [spB]
  constructor <;> (rintro rfl; revert h; decide)
theorem digit_ns {b : UInt8} (h : digB b = true) : spB b = false := by
  simp [digB] at h
  simp [spB]
  constructor <;> (rintro rfl; revert h; decide)

theorem skip_word {v rest : Bs} (h0 : v ≠ []) (hw : ∀ b ∈ v, letterB b = true) : skipL (v ++ rest) = v ++ rest := by
  cases v with
  | nil => exact absurd rfl h0
  | cons a v => exact skip_ns (letter_ns (hw a (by simp)))
theorem word_read {v rest : Bs} (b : Bool) (h0 : v ≠ []) (hw : ∀ b ∈ v, letterB b = true) (hr : hdNot letterB rest) : wordP ⟨v ++ rest, b⟩ = (v, ⟨rest, b⟩) := by
  unfold wordP
  simp only [skip_word h0 hw, (tw hw hr).1, (tw hw hr).2]
theorem word_none {l : Bs} (b : Bool) (h : hdNot letterB (skipL l)) : wordP ⟨l, b⟩ = ([], ⟨skipL l, b⟩) := by
  have := tw (v := []) (rest := skipL l) (f := letterB) (by simp) h
  simp only [List.nil_append] at this
  unfold wordP
  simp only [this.1, this.2]

/- numbers -/
theorem u8_48 {d : Nat} (h : d < 10) : (UInt8.ofNat (48 + d)).toNat = 48 + d := by simp [UInt8.toNat_ofNat']; omega
theorem dig_48 {d : Nat} (h : d < 10) : digB (UInt8.ofNat (48 + d)) = true := by
  unfold digB
  rw [u8_48 h]; simp; omega
theorem dec_digits (u : Nat) : (∀ b ∈ Lib.decDigits u, digB b = true) ∧ Lib.decDigits u ≠ [] := by
  induction u using Nat.strongRecOn with
  | _ u ih =>
    rw [Lib.decDigits]
    by_cases h : u < 10
    · rw [dif_pos h]
      refine ⟨fun b hb => ?_, by simp⟩
      rw [List.mem_singleton] at hb
      rw [hb]; exact dig_48 h
    · rw [dif_neg h]
      have ih := ih (u / 10) (by omega)
      refine ⟨fun b hb => ?_, by simp⟩
      rcases List.mem_append.1 hb with hb | hb
      · exact ih.1 b hb
      · rw [List.mem_singleton] at hb
        rw [hb]; exact dig_48 (by omega)

theorem decFrom_snoc (l : Bs) (d : UInt8) (m e : Nat) (acc : Nat) (h : Lib.decFrom acc l = some m) (hd : Lib.digitVal d = some e) : Lib.decFrom acc (l ++ [d]) = some (m * 10 + e) := by
  induction l generalizing acc with
  | nil =>
    simp [Lib.decFrom] at h
    subst h
    simp [Lib.decFrom, hd]
  | cons a l ih =>
    simp only [Lib.decFrom, List.cons_append] at h ⊢
    cases hv : Lib.digitVal a with
    | none => rw [hv] at h; cases h
    | some x => rw [hv] at h; simp only at h ⊢; exact ih _ h
theorem val_48 {d : Nat} (h : d < 10) : Lib.digitVal (UInt8.ofNat (48 + d)) = some d := by
  unfold Lib.digitVal
  rw [u8_48 h, if_pos (by omega)]
  congr 1; omega
theorem dec_back (u : Nat) : Lib.decFrom 0 (Lib.decDigits u) = some u := by
  induction u using Nat.strongRecOn with
  | _ u ih =>
    rw [Lib.decDigits]
    by_cases h : u < 10
    · rw [dif_pos h]
      simp only [Lib.decFrom, val_48 h]
      simp
    · rw [dif_neg h]
      rw [decFrom_snoc _ _ (u / 10) (u % 10) 0 (ih _ (by omega)) (val_48 (by omega))]
      congr 1
      omega
theorem dec_len : ∀ (k u : Nat), u < 10 ^ (k + 1) → (Lib.decDigits u).length ≤ k + 1
  | 0, u, h => by
    rw [Lib.decDigits, dif_pos (by simpa using h)]; simp
  | k + 1, u, h => by
    rw [Lib.decDigits]
    by_cases h' : u < 10
    · rw [dif_pos h']; simp
    · rw [dif_neg h']
      have := dec_len k (u / 10) (by rw [Nat.pow_succ] at h; omega)
      simp; omega

def inB (n : Int) : Prop := -1000000 ≤ n ∧ n ≤ 1000000
theorem itoa_len {n : Int} (h : inB n) : (Lib.itoa n).length ≤ 8 := by
  unfold Lib.itoa
  obtain ⟨h0, h1⟩ := h
  split
  · have := dec_len 6 n.natAbs (by omega)
    simp; omega
  · have := dec_len 6 n.toNat (by omega)
    omega
theorem itoa_form (n : Int) : ∃ (s : Bs) (u : Nat), Lib.itoa n = s ++ Lib.decDigits u ∧ ((s = [45] ∧ n = -(u : Int)) ∨ (s = [] ∧ n = (u : Int))) := by
  unfold Lib.itoa
  by_cases h : n < 0
  · rw [if_pos h]; exact ⟨[45], n.natAbs, rfl, .inl ⟨rfl, by omega⟩⟩
  · rw [if_neg h]; exact ⟨[], n.toNat, rfl, .inr ⟨rfl, by omega⟩⟩
theorem dec_head (u : Nat) : ∃ d r, Lib.decDigits u = d :: r ∧ digB d = true := by
  obtain ⟨h1, h2⟩ := dec_digits u
  cases h : Lib.decDigits u with
  | nil => exact absurd h h2
  | cons d r => exact ⟨d, r, rfl, h1 d (by rw [h]; simp)⟩
theorem atoi_itoa (n : Int) : Lib.atoi (Lib.itoa n) = some n := by
  obtain ⟨s, u, e, h⟩ := itoa_form n
  obtain ⟨d, r, hd, hb⟩ := dec_head u
  have hn : Lib.decNat (Lib.decDigits u) = some u := by
    unfold Lib.decNat
    rw [if_neg (by rw [hd]; simp), dec_back]
  rw [e]
  rcases h with ⟨rfl, rfl⟩ | ⟨rfl, rfl⟩
  · simp [Lib.atoi, hn]
  · rw [List.nil_append, hd]
    have h1 : (d == 45) = false := by
      rw [beq_eq_false_iff_ne]; rintro rfl; revert hb; decide
    have h2 : (d == 43) = false := by
      rw [beq_eq_false_iff_ne]; rintro rfl; revert hb; decide
    rw [hd] at hn
    simp [Lib.atoi, h1, h2, hn]
theorem numV_itoa {n : Int} (h : inB n) : numV (Lib.itoa n) = some n := by
  unfold numV
  rw [Lib.atoiAll_short _ (by have := itoa_len h; omega), atoi_itoa]
  simp [Lib.NumEnd.ofOption]
theorem numLen_itoa (n : Int) {rest : Bs} (hr : hdNot digB rest) : numLen (Lib.itoa n ++ rest) = (Lib.itoa n).length := by
  obtain ⟨s, u, e, h⟩ := itoa_form n
  obtain ⟨d, r, hd, hb⟩ := dec_head u
  have ht := (tw (f := digB) (v := Lib.decDigits u) (dec_digits u).1 hr).1
  rw [e]
  unfold numLen
  rcases h with ⟨rfl, rfl⟩ | ⟨rfl, rfl⟩
  · have e1 : ([45] ++ Lib.decDigits u) ++ rest = 45 :: (Lib.decDigits u ++ rest) := by simp
    rw [e1, if_pos (by simp), List.drop_succ_cons, List.drop_zero, ht]
    simp; omega
  · rw [List.nil_append, if_neg, ht]
    rw [hd]
    simp
    intro h
    subst h
    revert hb; decide
theorem itoa_head (n : Int) : ∃ d r, Lib.itoa n = d :: r ∧ (d = 45 ∨ digB d = true) := by
  obtain ⟨s, u, e, h⟩ := itoa_form n
  obtain ⟨d, r, hd, hb⟩ := dec_head u
  rcases h with ⟨rfl, rfl⟩ | ⟨rfl, rfl⟩
  · exact ⟨45, _, by rw [e]; rfl, .inl rfl⟩
  · exact ⟨d, r, by rw [e, hd]; rfl, .inr hb⟩
theorem skip_itoa (n : Int) (rest : Bs) : skipL (Lib.itoa n ++ rest) = Lib.itoa n ++ rest := by
  obtain ⟨d, r, e, h⟩ := itoa_head n
  rw [e]
  rcases h with rfl | h
  · exact skip_ns (by decide)
  · exact skip_ns (digit_ns h)
theorem number_read {n : Int} {rest : Bs} (b : Bool) (h : inB n) (hr : hdNot digB rest) : numberP ⟨Lib.itoa n ++ rest, b⟩ = (n, ⟨rest, b⟩) := by
  unfold numberP
  simp only [skip_itoa, numLen_itoa n hr, List.take_left', List.drop_left', numV_itoa h]

theorem takes_yes (s rest : Bs) (b : Bool) (h : skipL (s ++ rest) = s ++ rest) : takesP s ⟨s ++ rest, b⟩ = (true, ⟨rest, b⟩) := by
  unfold takesP
  simp only [h]
  have : s.isPrefixOf (s ++ rest) = true := by simp
  simp [this]
theorem takes_no (s l : Bs) (b : Bool) (h : s.isPrefixOf (skipL l) = false) : takesP s ⟨l, b⟩ = (false, ⟨skipL l, b⟩) := by
  unfold takesP
  simp [h]
theorem wants_yes (s rest : Bs) (b : Bool) (h : skipL (s ++ rest) = s ++ rest) : wantsP s ⟨s ++ rest, b⟩ = ⟨rest, b⟩ := by
  unfold wantsP
  rw [takes_yes s rest b h]
  simp

/- lists -/
def Reads {α : Type} (item : PS → α × PS) (txt : α → Bs) (ok : Bs → Prop) (x : α) : Prop :=
  ∀ rest b, ok rest → ∃ r, item ⟨txt x ++ rest, b⟩ = (x, ⟨r, b⟩) ∧ skipL r = skipL rest
theorem sep_read {α : Type} {item : PS → α × PS} {txt : α → Bs} {ok : Bs → Prop} {c : UInt8} (hc : spB c = false) (hsim : ∀ {p q : PS}, Sim p q → item p = item q) (hok : ∀ l, ok (c :: l)) {rest : Bs} (hr : ok rest) (hne : [c].isPrefixOf (skipL rest) = false) :
    ∀ (xs : List α) (n : Nat) (r : Bs) (b : Bool), (∀ x ∈ xs, Reads item txt ok x) → xs.length < n → skipL r = skipL (Lib.joinTail [c] (xs.map txt) ++ rest) → ∃ r', sepP item [c] n ⟨r, b⟩ = (xs, ⟨r', b⟩) ∧ skipL r' = skipL rest
  | [], n, r, b, _, hn, hs => by
    cases n with
    | zero => omega
    | succ n =>
      have hs' : skipL r = skipL rest := by simpa [Lib.joinTail] using hs
      have := takes_no [c] r b (by rw [hs']; exact hne)
      refine ⟨skipL r, ?_, by rw [skip_skip, hs']⟩
      unfold sepP
      rw [this]; simp
  | x :: xs, n, r, b, hx, hn, hs => by
    cases n with
    | zero => omega
    | succ n =>
      have e : Lib.joinTail [c] ((x :: xs).map txt) ++ rest = [c] ++ (txt x ++ (Lib.joinTail [c] (xs.map txt) ++ rest)) := by simp [Lib.joinTail]
      rw [e] at hs
      have hk : skipL ([c] ++ (txt x ++ (Lib.joinTail [c] (xs.map txt) ++ rest))) = [c] ++ (txt x ++ (Lib.joinTail [c] (xs.map txt) ++ rest)) := skip_ns hc
      have h1 : takesP [c] ⟨r, b⟩ = (true, ⟨txt x ++ (Lib.joinTail [c] (xs.map txt) ++ rest), b⟩) := by
        rw [takesP_sim (p := ⟨r, b⟩) (q := ⟨[c] ++ (txt x ++ (Lib.joinTail [c] (xs.map txt) ++ rest)), b⟩) ⟨hs, rfl⟩]
        exact takes_yes _ _ _ hk
      have hok' : ok (Lib.joinTail [c] (xs.map txt) ++ rest) := by
        cases xs with
        | nil => simpa [Lib.joinTail] using hr
        | cons y ys => simpa [Lib.joinTail] using hok _
      obtain ⟨r1, h2, h3⟩ := hx x (by simp) _ b hok'
      obtain ⟨r2, h4, h5⟩ := sep_read hc hsim hok hr hne xs n r1 b (fun y hy => hx y (by simp [hy])) (by simp at hn; omega) h3
      refine ⟨r2, ?_, h5⟩
      unfold sepP
      simp only [h1, h2, h4, if_true]
theorem list_read {α : Type} {item : PS → α × PS} {txt : α → Bs} {ok : Bs → Prop} {c : UInt8} (hc : spB c = false) (hsim : ∀ {p q : PS}, Sim p q → item p = item q) (hok : ∀ l, ok (c :: l)) {rest : Bs} (hr : ok rest) (hne : [c].isPrefixOf (skipL rest) = false)
    {xs : List α} (h0 : xs ≠ []) (hx : ∀ x ∈ xs, Reads item txt ok x) (b : Bool) : ∃ r', listP item [c] ⟨Lib.join (xs.map txt) [c] ++ rest, b⟩ = (xs, ⟨r', b⟩) ∧ skipL r' = skipL rest := by
  cases xs with
  | nil => exact absurd rfl h0
  | cons x xs =>
    rw [List.map_cons, Lib.join_cons, List.append_assoc]
    have hok' : ok (Lib.joinTail [c] (xs.map txt) ++ rest) := by
      cases xs with
      | nil => simpa [Lib.joinTail] using hr
      | cons y ys => simpa [Lib.joinTail] using hok _
    obtain ⟨r1, h2, h3⟩ := hx x (by simp) _ b hok'
    have hlen : xs.length < r1.length + 1 := by
      have a1 := skip_len r1
      rw [h3] at a1
      cases xs with
      | nil => simp
      | cons y ys =>
        have e : Lib.joinTail [c] ((y :: ys).map txt) ++ rest = c :: (txt y ++ (Lib.joinTail [c] (ys.map txt) ++ rest)) := by simp [Lib.joinTail]
        rw [e, skip_ns hc] at a1
        have a2 : ∀ zs : List α, zs.length ≤ (Lib.joinTail [c] (zs.map txt)).length := by
          intro zs
          induction zs with
          | nil => simp
          | cons z zs ih => simp [Lib.joinTail] at ih ⊢; omega
        have := a2 ys
        simp at a1 ⊢
        omega
    obtain ⟨r2, h4, h5⟩ := sep_read hc hsim hok hr hne xs _ r1 b (fun y hy => hx y (by simp [hy])) hlen h3
    refine ⟨r2, ?_, h5⟩
    unfold listP
    simp only [h2, h4]

/- the parts of a table -/
def okR (l : Bs) : Prop := hdNot digB l ∧ [46, 46].isPrefixOf (skipL l) = false
def okC (l : Bs) : Prop := okR l ∧ [124].isPrefixOf (skipL l) = false
theorem okR_of {c : UInt8} (h : spB c = false) (h1 : digB c = false) (h2 : c ≠ 46) (l : Bs) : okR (c :: l) := by
  refine ⟨fun b hb => by simp at hb; subst hb; exact h1, ?_⟩
  rw [skip_ns h]
  simp [List.isPrefixOf, Ne.symm h2]
theorem okC_of {c : UInt8} (h : spB c = false) (h1 : digB c = false) (h2 : c ≠ 46) (h3 : c ≠ 124) (l : Bs) : okC (c :: l) := by
  refine ⟨okR_of h h1 h2 l, ?_⟩
  rw [skip_ns h]
  simp [List.isPrefixOf, Ne.symm h3]

def okRange (r : Int × Int) : Prop := inB r.1 ∧ inB r.2 ∧ r.1 ≤ r.2
theorem range_read {r : Int × Int} (h : okRange r) : Reads rangeP rangeT okR r := by
  obtain ⟨x, y⟩ := r
  obtain ⟨h1, h2, h3⟩ := h
  simp only at h1 h2 h3
  intro rest b hr
  unfold rangeT endsT
  simp only
  by_cases hlt : x < y
  · rw [if_pos hlt]
    have e : Lib.itoa x ++ [46, 46] ++ Lib.itoa y ++ rest = Lib.itoa x ++ ([46, 46] ++ (Lib.itoa y ++ rest)) := by simp
    have k1 := number_read (rest := [46, 46] ++ (Lib.itoa y ++ rest)) b h1 (fun b hb => by simp at hb; subst hb; decide)
    have k2 := takes_yes [46, 46] (Lib.itoa y ++ rest) b (skip_ns (by decide))
    have k3 := number_read (rest := rest) b h2 hr.1
    refine ⟨rest, ?_, rfl⟩
    unfold rangeP
    rw [e]
    simp only [k1, k2, k3, if_true]
    rw [decide_eq_false (by omega)]
    simp
  · rw [if_neg hlt]
    obtain rfl : x = y := by omega
    have k1 := number_read (rest := rest) b h1 hr.1
    have k2 := takes_no [46, 46] rest b hr.2
    refine ⟨skipL rest, ?_, skip_skip rest⟩
    unfold rangeP
    simp only [k1, k2]
    simp
theorem hdNot_cons {f : UInt8 → Bool} {c : UInt8} {l : Bs} (h : f c = false) : hdNot f (c :: l) := fun b hb => by simp at hb; subst hb; exact h
theorem rangeT_head (r : Int × Int) : ∃ d m, rangeT r = d :: m ∧ (d = 45 ∨ digB d = true) := by
  obtain ⟨d, m, e, h⟩ := itoa_head r.1
  unfold rangeT endsT
  split
  · exact ⟨d, m ++ [46, 46] ++ Lib.itoa r.2, by rw [e]; simp, h⟩
  · exact ⟨d, m, e, h⟩
theorem join_head {xs : List Bs} {x : Bs} {sep : Bs} {d : UInt8} {m : Bs} (h : x = d :: m) : ∃ k, Lib.join (x :: xs) sep = d :: k := by
  rw [Lib.join_cons, h]
  exact ⟨m ++ Lib.joinTail sep xs, rfl⟩
def okCell (c : CellD) : Prop := (c.2 = [] → c.1 = false) ∧ ∀ r ∈ c.2, okRange r
theorem num_head_ns {d : UInt8} (h : d = 45 ∨ digB d = true) : spB d = false ∧ letterB d = false ∧ d ≠ 42 ∧ d ≠ 125 := by
  rcases h with rfl | h
  · decide
  · refine ⟨digit_ns h, ?_, ?_, ?_⟩
    · simp [digB] at h
      simp [letterB]
      omega
    · rintro rfl; revert h; decide
    · rintro rfl; revert h; decide
theorem option_none {word l : Bs} (b : Bool) (hw : word ≠ []) (h : hdNot letterB (skipL l)) : optionP word ⟨l, b⟩ = (false, ⟨skipL l, b⟩) := by
  unfold optionP
  rw [word_none b h]
  simp [Ne.symm hw]
theorem option_yes {word rest : Bs} (b : Bool) (h0 : word ≠ []) (hw : ∀ b ∈ word, letterB b = true) (hr : hdNot letterB rest) : optionP word ⟨word ++ rest, b⟩ = (true, ⟨rest, b⟩) := by
  unfold optionP
  rw [word_read b h0 hw hr]
  simp
theorem cell_read {c : CellD} (h : okCell c) : Reads cellP cellT okC c := by
  obtain ⟨ng, rs⟩ := c
  obtain ⟨h1, h2⟩ := h
  simp only at h1 h2
  intro rest b hr
  cases rs with
  | nil =>
    have := h1 rfl
    subst this
    refine ⟨rest, ?_, rfl⟩
    have k := takes_yes [42] rest b (skip_ns (by decide))
    unfold cellP cellT
    simp only [List.length_nil, if_true, k]
  | cons r rs =>
    obtain ⟨d, m, hd, hdd⟩ := rangeT_head r
    obtain ⟨k, hk⟩ := join_head (xs := rs.map rangeT) (sep := [124]) hd
    obtain ⟨n1, n2, n3, n4⟩ := num_head_ns hdd
    have hj : Lib.join ((r :: rs).map rangeT) [124] = d :: k := hk
    obtain ⟨r', q1, q2⟩ := list_read (item := rangeP) (txt := rangeT) (ok := okR) (c := 124) (by decide) (fun h => rangeP_sim h) (okR_of (by decide) (by decide) (by decide)) hr.1 hr.2 (xs := r :: rs) (by simp) (fun x hx => range_read (h2 x hx)) b
    rw [hj] at q1
    refine ⟨r', ?_, q2⟩
    unfold cellT
    simp only [List.length_cons, Nat.add_eq_zero_iff, Nat.one_ne_zero, and_false, if_false]
    rw [hj]
    cases ng with
    | false =>
      have t1 := takes_no [42] (d :: (k ++ rest)) b (by rw [skip_ns n1]; simp [List.isPrefixOf, Ne.symm n3])
      rw [skip_ns n1] at t1
      have t2 := option_none (word := [110, 111, 116]) (l := d :: (k ++ rest)) b (by simp) (by rw [skip_ns n1]; exact hdNot_cons n2)
      rw [skip_ns n1] at t2
      have e : (if false = true then [110, 111, 116, 32] else []) ++ (d :: k) ++ rest = d :: (k ++ rest) := by simp
      rw [e]
      unfold cellP rangesP
      simp only [t1, t2]
      rw [List.cons_append] at q1
      simp only [q1]
      simp
    | true =>
      have t1 := takes_no [42] ([110, 111, 116] ++ (32 :: (d :: k ++ rest))) b (by rw [List.cons_append, skip_ns (by decide)]; simp [List.isPrefixOf])
      rw [List.cons_append, skip_ns (by decide), ← List.cons_append] at t1
      have t2 := option_yes (word := [110, 111, 116]) (rest := 32 :: (d :: k ++ rest)) b (by simp) (by decide) (hdNot_cons (by decide))
      have t3 : rangesP ⟨32 :: (d :: k ++ rest), b⟩ = rangesP ⟨d :: k ++ rest, b⟩ := listP_sim (rangeP_sim ⟨skip_sp _, rfl⟩)
      have e : (if true = true then [110, 111, 116, 32] else []) ++ (d :: k) ++ rest = [110, 111, 116] ++ (32 :: (d :: k ++ rest)) := by simp
      rw [e]
      unfold cellP
      simp only [t1, t2, t3]
      unfold rangesP
      simp only [q1]
      simp

def okRule (r : RuleD) : Prop := r.1 ≠ [] ∧ (∀ c ∈ r.1, okCell c) ∧ inB r.2
theorem rule_read {r : RuleD} (h : okRule r) (rest : Bs) (b : Bool) : ruleP ⟨ruleT r ++ (59 :: rest), b⟩ = (r, ⟨rest, b⟩) := by
  obtain ⟨cs, n⟩ := r
  obtain ⟨h0, h1, h2⟩ := h
  simp only at h0 h1 h2
  have e : ruleT (cs, n) ++ (59 :: rest) = Lib.join (cs.map cellT) [44] ++ (32 :: ([61, 62] ++ (32 :: (Lib.itoa n ++ (59 :: rest))))) := by simp [ruleT]
  have hok : okC (32 :: ([61, 62] ++ (32 :: (Lib.itoa n ++ (59 :: rest))))) := by
    refine ⟨⟨hdNot_cons (by decide), ?_⟩, ?_⟩ <;> (rw [skip_sp, List.cons_append, skip_ns (by decide)]; simp [List.isPrefixOf])
  obtain ⟨r', q1, q2⟩ := list_read (item := cellP) (txt := cellT) (ok := okC) (c := 44) (by decide) (fun h => cellP_sim h) (okC_of (by decide) (by decide) (by decide) (by decide)) hok (by rw [skip_sp, List.cons_append, skip_ns (by decide)]; simp [List.isPrefixOf]) (xs := cs) h0 (fun x hx => cell_read (h1 x hx)) b
  have q1' : cellsP ⟨Lib.join (cs.map cellT) [44] ++ (32 :: ([61, 62] ++ (32 :: (Lib.itoa n ++ (59 :: rest))))), b⟩ = (cs, ⟨r', b⟩) := q1
  have k1 : wantsP [61, 62] ⟨r', b⟩ = ⟨32 :: (Lib.itoa n ++ (59 :: rest)), b⟩ := by
    rw [wantsP_sim (p := ⟨r', b⟩) (q := ⟨[61, 62] ++ (32 :: (Lib.itoa n ++ (59 :: rest))), b⟩) ⟨by rw [q2, skip_sp], rfl⟩]
    exact wants_yes _ _ _ (skip_ns (by decide))
  have k2 : numberP ⟨32 :: (Lib.itoa n ++ (59 :: rest)), b⟩ = (n, ⟨59 :: rest, b⟩) := by
    rw [numberP_sim (p := ⟨32 :: (Lib.itoa n ++ (59 :: rest)), b⟩) (q := ⟨Lib.itoa n ++ (59 :: rest), b⟩) ⟨skip_sp _, rfl⟩]
    exact number_read b h2 (hdNot_cons (by decide))
  have k3 : wantsP [59] ⟨59 :: rest, b⟩ = ⟨rest, b⟩ := wants_yes [59] rest b (skip_ns (by decide))
  rw [e]
  unfold ruleP
  simp only [q1', k1, k2, k3]

def lineT (r : RuleD) : Bs := [32, 32] ++ ruleT r ++ [59, 10]
theorem cellT_head (c : CellD) : ∃ d m, cellT c = d :: m ∧ spB d = false ∧ d ≠ 125 := by
  obtain ⟨ng, rs⟩ := c
  cases rs with
  | nil => exact ⟨42, [], rfl, by decide, by decide⟩
  | cons r rs =>
    cases ng with
    | true => exact ⟨110, _, by simp [cellT]; rfl, by decide, by decide⟩
    | false =>
      obtain ⟨d, m, hd, hdd⟩ := rangeT_head r
      obtain ⟨k, hk⟩ := join_head (xs := rs.map rangeT) (sep := [124]) hd
      obtain ⟨n1, n2, n3, n4⟩ := num_head_ns hdd
      exact ⟨d, k, by simp [cellT, hk], n1, n4⟩
theorem ruleT_head {r : RuleD} (h : r.1 ≠ []) : ∃ d m, ruleT r = d :: m ∧ spB d = false ∧ d ≠ 125 := by
  obtain ⟨cs, n⟩ := r
  cases cs with
  | nil => exact absurd rfl h
  | cons c cs =>
    obtain ⟨d, m, hd, n1, n2⟩ := cellT_head c
    obtain ⟨k, hk⟩ := join_head (xs := cs.map cellT) (sep := [44]) hd
    exact ⟨d, k ++ [32, 61, 62, 32] ++ Lib.itoa n, by simp [ruleT, hk], n1, n2⟩
theorem rules_read : ∀ (l : List RuleD) (n : Nat) (r : Bs), (∀ x ∈ l, okRule x) → l.length < n → skipL r = skipL ((l.map lineT).flatten ++ [125, 10]) → rulesP n ⟨r, false⟩ = (l, ⟨[10], false⟩)
  | [], n, r, _, hn, hs => by
    cases n with
    | zero => omega
    | succ n =>
      have hs' : skipL r = skipL [125, 10] := by simpa using hs
      have k : takesP [125] ⟨r, false⟩ = (true, ⟨[10], false⟩) := by
        rw [takesP_sim (p := ⟨r, false⟩) (q := ⟨[125] ++ [10], false⟩) ⟨hs', rfl⟩]
        exact takes_yes _ _ _ (skip_ns (by decide))
      unfold rulesP
      simp only [k]
      simp
  | x :: l, n, r, hx, hn, hs => by
    cases n with
    | zero => omega
    | succ n =>
      have hx0 := hx x (by simp)
      obtain ⟨d, m, hd, n1, n2⟩ := ruleT_head hx0.1
      have e : ((x :: l).map lineT).flatten ++ [125, 10] = 32 :: 32 :: (ruleT x ++ (59 :: (10 :: ((l.map lineT).flatten ++ [125, 10])))) := by simp [lineT]
      have hs' : skipL r = ruleT x ++ (59 :: (10 :: ((l.map lineT).flatten ++ [125, 10]))) := by
        rw [hs, e, skip_sp, skip_sp, hd, List.cons_append, skip_ns n1]
      have k := takes_no [125] r false (by rw [hs', hd]; simp [List.isPrefixOf, Ne.symm n2])
      rw [hs'] at k
      have k2 := rule_read hx0 (10 :: ((l.map lineT).flatten ++ [125, 10])) false
      have k3 := rules_read l n (10 :: ((l.map lineT).flatten ++ [125, 10])) (fun y hy => hx y (by simp [hy])) (by simp at hn; omega) (skip_nl _)
      unfold rulesP
      simp only [k, k2, k3]
      simp

/- names, policies, the head -/
theorem nameB_parts {s : ByteArray} (h : nameB s = true) : s.data.toList ≠ [] ∧ s.data.toList.length ≤ 8 ∧ ∀ b ∈ s.data.toList, letterB b = true := by
  simp only [nameB, Bool.and_eq_true, decide_eq_true_eq, List.all_eq_true] at h
  obtain ⟨⟨h1, h2⟩, h3⟩ := h
  have e : s.data.toList.length = s.size := rfl
  exact ⟨fun h => by rw [h] at e; simp at e; omega, by omega, h3⟩
theorem bs_back (s : ByteArray) : (⟨s.data.toList.toArray⟩ : ByteArray) = s := by cases s; simp
theorem str_read {s : ByteArray} (h : nameB s = true) : Reads strP (·.data.toList) (hdNot letterB) s := by
  intro rest b hr
  obtain ⟨h1, h2, h3⟩ := nameB_parts h
  refine ⟨rest, ?_, rfl⟩
  unfold strP
  simp only [word_read b h1 h3 hr, bs_back]
theorem polT_cases {n : Int} (h1 : 1 ≤ n) (h2 : n ≤ 7) : ∃ k : Fin 7, n = (k.1 : Int) + 1 ∧ polT n = polW.getD k.1 [] := by
  refine ⟨⟨n.toNat - 1, by omega⟩, by simp only; omega, rfl⟩
theorem polW_ok : ∀ k : Fin 7, polW.findIdx? (· == polW.getD k.1 []) = some k.1 ∧ (polW.getD k.1 []).all letterB = true ∧ polW.getD k.1 [] ≠ [] ∧ (polW.getD k.1 []).length ≤ 6 := by decide
theorem pol_read {n : Int} (h1 : 1 ≤ n) (h2 : n ≤ 7) {rest : Bs} (b : Bool) (hr : hdNot letterB rest) : polP ⟨polT n ++ rest, b⟩ = (n, ⟨rest, b⟩) := by
  obtain ⟨k, rfl, e⟩ := polT_cases h1 h2
  obtain ⟨q1, q2, q3, q4⟩ := polW_ok k
  have := word_read (v := polT ((k.1 : Int) + 1)) (rest := rest) b (by rw [e]; exact q3) (by rw [e]; exact List.all_eq_true.1 q2) hr
  unfold polP
  simp only [this]
  rw [e, q1]
def compW : Bs := [99, 111, 109, 112, 108, 101, 116, 101]
def restT (t : TabD) : Bs := (t.rules.map lineT).flatten ++ [125, 10]
theorem tabTx_eq (t : TabD) : tabTx t = tableW ++ (32 :: (t.name.data.toList ++ (32 :: (polT t.pol ++ (32 :: ((if t.comp then compW ++ [32] else []) ++ ([40] ++ (Lib.join (t.ins.map (·.data.toList)) [44] ++ ([41] ++ (32 :: ([123] ++ (10 :: restT t))))))))))))  := by
  have e : ∀ (x : Bs) (l : List Bs), Lib.join (x :: l) [] = x ++ l.flatten := by
    intro x l
    rw [Lib.join_cons]
    simp [Lib.joinTail]
  unfold tabTx headT restT
  rw [List.cons_append, List.nil_append, List.cons_append, e]
  cases t.comp <;> simp [Lib.join_cons, Lib.joinTail, compW] <;> rfl
def okTab (t : TabD) : Prop := nameB t.name = true ∧ (1 ≤ t.pol ∧ t.pol ≤ 7) ∧ (t.ins ≠ [] ∧ ∀ s ∈ t.ins, nameB s = true) ∧ ∀ r ∈ t.rules, okRule r
theorem tab_read {t : TabD} (h : okTab t) : wordP ⟨tabTx t, false⟩ = (tableW, (wordP ⟨tabTx t, false⟩).2) ∧ tabP (wordP ⟨tabTx t, false⟩).2 = (t, ⟨[10], false⟩) := by
  obtain ⟨h1, ⟨h2, h3⟩, ⟨h4, h5⟩, h6⟩ := h
  rw [tabTx_eq]
  obtain ⟨X, hX⟩ : ∃ X, X = restT t := ⟨_, rfl⟩
  rw [← hX]
  have k0 := word_read (v := tableW) (rest := 32 :: (t.name.data.toList ++ (32 :: (polT t.pol ++ (32 :: ((if t.comp then compW ++ [32] else []) ++ ([40] ++ (Lib.join (t.ins.map (·.data.toList)) [44] ++ ([41] ++ (32 :: ([123] ++ (10 :: X))))))))))))  false (by decide) (by decide) (hdNot_cons (by decide))
  rw [k0]
  refine ⟨rfl, ?_⟩
  simp only
  have hsp : letterB 32 = false := by decide
  obtain ⟨r1, k1, k1'⟩ := str_read h1 (32 :: (polT t.pol ++ (32 :: ((if t.comp then compW ++ [32] else []) ++ ([40] ++ (Lib.join (t.ins.map (·.data.toList)) [44] ++ ([41] ++ (32 :: ([123] ++ (10 :: X)))))))))) false (hdNot_cons hsp)
  have k1s : strP ⟨32 :: (t.name.data.toList ++ (32 :: (polT t.pol ++ (32 :: ((if t.comp then compW ++ [32] else []) ++ ([40] ++ (Lib.join (t.ins.map (·.data.toList)) [44] ++ ([41] ++ (32 :: ([123] ++ (10 :: X)))))))))))  , false⟩ = (t.name, ⟨r1, false⟩) := by
    rw [← k1]
    exact strP_sim ⟨skip_sp _, rfl⟩
  have polsim : ∀ {p q : PS}, Sim p q → polP p = polP q := fun h => by unfold polP; rw [wordP_sim h]
  have k2 : polP ⟨r1, false⟩ = (t.pol, ⟨32 :: ((if t.comp then compW ++ [32] else []) ++ ([40] ++ (Lib.join (t.ins.map (·.data.toList)) [44] ++ ([41] ++ (32 :: ([123] ++ (10 :: X))))))), false⟩) := by
    rw [← pol_read h2 h3 false (hdNot_cons hsp)]
    exact polsim ⟨by rw [k1', skip_sp], rfl⟩
  obtain ⟨Y, hY⟩ : ∃ Y, Y = Lib.join (t.ins.map (·.data.toList)) [44] ++ ([41] ++ (32 :: ([123] ++ (10 :: X)))) := ⟨_, rfl⟩
  have k3 : ∃ r3, optionP compW ⟨32 :: ((if t.comp then compW ++ [32] else []) ++ ([40] ++ Y)), false⟩ = (t.comp, ⟨r3, false⟩) ∧ skipL r3 = skipL ([40] ++ Y) := by
    cases t.comp with
    | true =>
      refine ⟨32 :: ([40] ++ Y), ?_, skip_sp _⟩
      have := option_yes (word := compW) (rest := 32 :: ([40] ++ Y)) false (by decide) (by decide) (hdNot_cons hsp)
      rw [← this]
      refine optionP_sim ⟨?_, rfl⟩ _
      first | (rw [skip_sp]; done) | (rw [skip_sp]; rfl)
    | false =>
      refine ⟨[40] ++ Y, ?_, rfl⟩
      have e : skipL (32 :: ([40] ++ Y)) = [40] ++ Y := by rw [skip_sp]; exact skip_ns (by decide)
      have := option_none (word := compW) (l := 32 :: ([40] ++ Y)) false (by decide) (by rw [e]; exact hdNot_cons (by decide))
      rw [e] at this
      simpa using this
  obtain ⟨r3, k3, k3'⟩ := k3
  rw [hY] at k3
  have k4 : wantsP [40] ⟨r3, false⟩ = ⟨Y, false⟩ := by
    rw [wantsP_sim (p := ⟨r3, false⟩) (q := ⟨[40] ++ Y, false⟩) ⟨k3', rfl⟩]
    exact wants_yes _ _ _ (skip_ns (by decide))
  obtain ⟨r5, k5, k5'⟩ := list_read (item := strP) (txt := (·.data.toList)) (ok := hdNot letterB) (c := 44) (by decide) (fun h => strP_sim h) (fun l => hdNot_cons (by decide)) (rest := [41] ++ (32 :: ([123] ++ (10 :: X)))) (hdNot_cons (by decide)) (by rw [List.cons_append, skip_ns (by decide)]; simp [List.isPrefixOf]) h4 (fun x hx => str_read (h5 x hx)) false
  rw [← hY] at k5
  have k6 : wantsP [41] ⟨r5, false⟩ = ⟨32 :: ([123] ++ (10 :: X)), false⟩ := by
    rw [wantsP_sim (p := ⟨r5, false⟩) (q := ⟨[41] ++ (32 :: ([123] ++ (10 :: X))), false⟩) ⟨k5', rfl⟩]
    exact wants_yes _ _ _ (skip_ns (by decide))
  have k7 : wantsP [123] ⟨32 :: ([123] ++ (10 :: X)), false⟩ = ⟨10 :: X, false⟩ := by
    rw [wantsP_sim (p := ⟨32 :: ([123] ++ (10 :: X)), false⟩) (q := ⟨[123] ++ (10 :: X), false⟩) ⟨skip_sp _, rfl⟩]
    exact wants_yes _ _ _ (skip_ns (by decide))
  have hlen : t.rules.length < needP ⟨10 :: X, false⟩ + 1 := by
    have : ∀ l : List RuleD, l.length ≤ ((l.map lineT).flatten).length := by
      intro l
      induction l with
      | nil => simp
      | cons x l ih => simp [lineT] at ih ⊢; omega
    have := this t.rules
    rw [hX]
    simp [needP, restT] at this ⊢
    omega
  have k8 := rules_read t.rules _ (10 :: X) h6 hlen (by rw [skip_nl, hX]; rfl)
  unfold tabP headP inputsP
  change optionP [99, 111, 109, 112, 108, 101, 116, 101] _ = _ at k3
  simp only [k1s, k2, k3, k4, k5, k6, k7, k8]

theorem dom_read {d : DomD} (h1 : nameB d.1 = true) (h2 : inB d.2.1) (h3 : inB d.2.2) : wordP ⟨domT d, false⟩ = (domainW, (wordP ⟨domT d, false⟩).2) ∧ domP (wordP ⟨domT d, false⟩).2 = (d, ⟨[10], false⟩) := by
  obtain ⟨nm, lo, hi⟩ := d
  simp only at h1 h2 h3
  have e : domT (nm, lo, hi) = domainW ++ (32 :: (nm.data.toList ++ (32 :: (Lib.itoa lo ++ ([46, 46] ++ (Lib.itoa hi ++ [10])))))) := by simp [domT, endsT]
  rw [e]
  have hsp : letterB 32 = false := by decide
  have k0 := word_read (v := domainW) (rest := 32 :: (nm.data.toList ++ (32 :: (Lib.itoa lo ++ ([46, 46] ++ (Lib.itoa hi ++ [10])))))) false (by decide) (by decide) (hdNot_cons hsp)
  rw [k0]
  refine ⟨rfl, ?_⟩
  simp only
  obtain ⟨r1, k1, k1'⟩ := str_read h1 (32 :: (Lib.itoa lo ++ ([46, 46] ++ (Lib.itoa hi ++ [10])))) false (hdNot_cons hsp)
  have k1s : strP ⟨32 :: (nm.data.toList ++ (32 :: (Lib.itoa lo ++ ([46, 46] ++ (Lib.itoa hi ++ [10]))))), false⟩ = (nm, ⟨r1, false⟩) := by
    rw [← k1]
    exact strP_sim ⟨skip_sp _, rfl⟩
  have k2 : numberP ⟨r1, false⟩ = (lo, ⟨[46, 46] ++ (Lib.itoa hi ++ [10]), false⟩) := by
    rw [← number_read (rest := [46, 46] ++ (Lib.itoa hi ++ [10])) false h2 (hdNot_cons (by decide))]
    exact numberP_sim ⟨by rw [k1', skip_sp], rfl⟩
  have k3 : wantsP [46, 46] ⟨[46, 46] ++ (Lib.itoa hi ++ [10]), false⟩ = ⟨Lib.itoa hi ++ [10], false⟩ := wants_yes _ _ _ (skip_ns (by decide))
  have k4 := number_read (rest := [10]) false h3 (hdNot_cons (by decide))
  unfold domP
  simp only [k1s, k2, k3, k4]

/- good tables and domains -/
theorem goodFrom_ok : ∀ (l : List (Int × Int)) (k : Int), goodFrom k l = true → ∀ r ∈ l, okRange r
  | [], _, _ => by simp
  | a :: l, k, h => by
    simp only [goodFrom, Bool.and_eq_true, decide_eq_true_eq] at h
    intro r hr
    have ih := goodFrom_ok l _ h.2
    rcases List.mem_cons.1 hr with rfl | hr
    · unfold okRange inB
      omega
    · exact ih r hr
theorem goodT_ok {t : TabD} (h : goodT t = true) : okTab t := by
  simp only [goodT, Bool.and_eq_true, decide_eq_true_eq, goodIns, goodRs, List.all_eq_true] at h
  obtain ⟨⟨⟨⟨h1, h2⟩, h3⟩, ⟨h4, h5⟩, h6⟩, ⟨h7, h8⟩, h9⟩ := h
  have hins : ∀ (l : List ByteArray) (s : List ByteArray), insOk s l = true → ∀ x ∈ l, nameB x = true := by
    intro l
    induction l with
    | nil => simp
    | cons a l ih =>
      intro s hs x hx
      simp only [insOk, Bool.and_eq_true] at hs
      rcases List.mem_cons.1 hx with rfl | hx
      · first | exact hs.1.1 | exact hs.1 | simp_all
      · exact ih _ hs.2 x hx
  refine ⟨h1, ⟨h2, h3⟩, ⟨fun h => by rw [h] at h4; simp at h4, hins _ _ h6⟩, fun r hr => ?_⟩
  have hr := h9 r hr
  simp only [goodR, Bool.and_eq_true, decide_eq_true_eq, List.all_eq_true] at hr
  obtain ⟨⟨⟨q1, q2⟩, q3⟩, q4⟩ := hr
  refine ⟨fun h => by rw [h] at q3; simp at q3; omega, fun c hc => ?_, ⟨q1, q2⟩⟩
  have hc := q4 c hc
  simp only [goodC, Bool.and_eq_true, decide_eq_true_eq] at hc
  refine ⟨fun h => ?_, goodFrom_ok _ _ hc.2⟩
  have := hc.1.1
  rw [h] at this
  simpa using this

theorem join_len {m : Nat} {c : UInt8} : ∀ {xs : List Bs}, (∀ x ∈ xs, x.length ≤ m) → (Lib.join xs [c]).length ≤ xs.length * (m + 1)
  | [], _ => by simp [Lib.join]
  | x :: xs, h => by
    have tail : ∀ ys : List Bs, (∀ y ∈ ys, y.length ≤ m) → (Lib.joinTail [c] ys).length ≤ ys.length * (m + 1) := by
      intro ys
      induction ys with
      | nil => simp [Lib.joinTail]
      | cons y ys ih =>
        intro hy
        have a := hy y (by simp)
        have b := ih fun z hz => hy z (by simp [hz])
        have e : Lib.joinTail [c] (y :: ys) = [c] ++ y ++ Lib.joinTail [c] ys := by simp [Lib.joinTail]
        rw [e]
        simp only [List.length_append, List.length_cons, List.length_nil, Nat.succ_mul]
        omega
    rw [Lib.join_cons]
    have a := h x (by simp)
    have b := tail xs fun z hz => h z (by simp [hz])
    simp only [List.length_append, List.length_cons, Nat.succ_mul]
    omega
theorem flat_len {m : Nat} : ∀ {xs : List Bs}, (∀ x ∈ xs, x.length ≤ m) → xs.flatten.length ≤ xs.length * m
  | [], _ => by simp
  | x :: xs, h => by
    have a := h x (by simp)
    have b := flat_len (xs := xs) fun z hz => h z (by simp [hz])
    simp only [List.flatten_cons, List.length_append, List.length_cons, Nat.succ_mul]
    omega
theorem rangeT_len {r : Int × Int} (h : okRange r) : (rangeT r).length ≤ 18 := by
  have a := itoa_len h.1
  have b := itoa_len h.2.1
  unfold rangeT endsT
  split
  · simp; omega
  · omega
theorem cellT_len {c : CellD} (h : goodC c = true) : (cellT c).length ≤ 80 := by
  simp only [goodC, Bool.and_eq_true, decide_eq_true_eq] at h
  have hr := goodFrom_ok _ _ h.2
  have a := join_len (m := 18) (c := 124) (xs := c.2.map rangeT) (fun x hx => by
    obtain ⟨r, hr', rfl⟩ := List.mem_map.1 hx
    exact rangeT_len (hr r hr'))
  have b : c.2.length * 19 ≤ 4 * 19 := Nat.mul_le_mul_right _ h.1.2
  unfold cellT
  split
  · simp
  · rw [List.length_map] at a
    rw [List.length_append]
    split <;> simp <;> omega
theorem lineT_len {n : Int} {r : RuleD} (hn : n ≤ 3) (h : goodR n r = true) : (lineT r).length ≤ 259 := by
  simp only [goodR, Bool.and_eq_true, decide_eq_true_eq, List.all_eq_true] at h
  obtain ⟨⟨⟨q1, q2⟩, q3⟩, q4⟩ := h
  have a := join_len (m := 80) (c := 44) (xs := r.1.map cellT) (fun x hx => by
    obtain ⟨c, hc, rfl⟩ := List.mem_map.1 hx
    exact cellT_len (q4 c hc))
  have b := itoa_len ⟨q1, q2⟩
  have c : r.1.length * 81 ≤ 3 * 81 := Nat.mul_le_mul_right _ (by omega)
  rw [List.length_map] at a
  unfold lineT ruleT
  simp
  omega
theorem tabTx_len {t : TabD} (h : goodT t = true) : (tabTx t).length ≤ 1700 := by
  have hok := goodT_ok h
  simp only [goodT, Bool.and_eq_true, decide_eq_true_eq, goodIns, goodRs, List.all_eq_true] at h
  obtain ⟨⟨⟨⟨h1, h2⟩, h3⟩, ⟨h4, h5⟩, h6⟩, ⟨h7, h8⟩, h9⟩ := h
  have a := (nameB_parts h1).2.1
  have b := join_len (m := 8) (c := 44) (xs := t.ins.map (·.data.toList)) (fun x hx => by
    obtain ⟨s, hs, rfl⟩ := List.mem_map.1 hx
    exact (nameB_parts (hok.2.2.1.2 s hs)).2.1)
  rw [List.length_map] at b
  have b2 : t.ins.length * 9 ≤ 3 * 9 := Nat.mul_le_mul_right _ (by omega)
  have c := flat_len (m := 259) (xs := t.rules.map lineT) (fun x hx => by
    obtain ⟨r, hr, rfl⟩ := List.mem_map.1 hx
    exact lineT_len (by omega) (h9 r hr))
  rw [List.length_map] at c
  have c2 : t.rules.length * 259 ≤ 6 * 259 := Nat.mul_le_mul_right _ (by omega)
  obtain ⟨k, _, e⟩ := polT_cases h2 h3
  have d := (polW_ok k).2.2.2
  rw [← e] at d
  rw [tabTx_eq]
  have f : (if t.comp = true then compW ++ [32] else []).length ≤ 9 := by split <;> decide
  have g : tableW.length = 5 := rfl
  simp only [List.length_append, List.length_cons, List.length_nil, restT]
  omega
theorem goodD_parts {d : DomD} (h : goodD d = true) : nameB d.1 = true ∧ inB d.2.1 ∧ inB d.2.2 := by
  simp only [goodD, Bool.and_eq_true, decide_eq_true_eq] at h
  obtain ⟨⟨⟨h1, h2⟩, h3⟩, h4⟩ := h
  exact ⟨h1, ⟨by omega, by omega⟩, ⟨by omega, by omega⟩⟩
theorem domT_len {d : DomD} (h : goodD d = true) : (domT d).length ≤ 50 := by
  obtain ⟨h1, h2, h3⟩ := goodD_parts h
  have a := (nameB_parts h1).2.1
  have b := itoa_len h2
  have c := itoa_len h3
  have g : domainW.length = 6 := rfl
  simp only [domT, endsT, List.length_append, List.length_cons, List.length_nil]
  omega
theorem ended_nl : endedB ⟨[10], false⟩ = true := by decide
theorem parse_tab {t : TabD} (h : goodT t = true) : parseV (tabTx t) = (zeroD, t, true, 0) := by
  obtain ⟨k1, k2⟩ := tab_read (goodT_ok h)
  have hl := tabTx_len h
  have e1 : (wordP ⟨tabTx t, false⟩).1 = tableW := by rw [k1]
  unfold parseV
  rw [if_neg (by omega), if_neg (by rw [e1]; rintro ⟨h, _⟩; revert h; decide), if_pos ⟨e1, by rw [k2]; exact ended_nl, by rw [k2]; exact h⟩, k2]
theorem parse_dom {d : DomD} (h : goodD d = true) : parseV (domT d) = (d, zeroT, false, 0) := by
  obtain ⟨h1, h2, h3⟩ := goodD_parts h
  obtain ⟨k1, k2⟩ := dom_read h1 h2 h3
  have hl := domT_len h
  have e1 : (wordP ⟨domT d, false⟩).1 = domainW := by rw [k1]
  unfold parseV
  rw [if_neg (by omega), if_pos ⟨e1, by rw [k2]; exact ended_nl, by rw [k2]; exact h⟩, k2]
/-- what is read is good; without success it is nothing -/
theorem parse_cases (s : Bs) : (∃ d, parseV s = (d, zeroT, false, 0) ∧ goodD d = true) ∨ (∃ t, parseV s = (zeroD, t, true, 0) ∧ goodT t = true) ∨ ∃ e, parseV s = (zeroD, zeroT, false, e) ∧ e ≠ 0 := by
  unfold parseV
  split
  · exact .inr (.inr ⟨5, rfl, by decide⟩)
  · split
    · rename_i h; exact .inl ⟨_, rfl, h.2.2⟩
    · split
      · rename_i h; exact .inr (.inl ⟨_, rfl, h.2.2⟩)
      · exact .inr (.inr ⟨1, rfl, by decide⟩)

end Go.Proofs.YtmdljknlbmlacabDoor
