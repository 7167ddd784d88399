/- text.GoodDomain and text.Parse, as Lean functions of what their arguments read as. Conditions: the text has at most 2^47 bytes; the package variables that strconv and the policies read are as their initialisers lay them. -/
import Derived.Test.YtmdljknlbmlacabDoorTxtE
import Derived.Test.YtmdljknlbmlacabDoorTableF
import Derived.Test.YtmdljknlbmlacabDoorGoodDom
namespace Go.Proofs.YtmdljknlbmlacabDoor
open Go.RowKit Go.Shelf

def put3 (w : World) (b : Nat) (x y z : Value) : World := ((w.setCell ⟨b, 0, none⟩ x).setCell ⟨b, 1, none⟩ y).setCell ⟨b, 2, none⟩ z
theorem Cs.put3 {w : World} {b : Nat} {a1 a2 a3 : Value} (h : Cs w b [a1, a2, a3]) (x y z : Value) : Cs (put3 w b x y z) b [x, y, z] :=
  ((h.set 0 (by simp) x).set 1 (by simp) y).set 2 (by simp) z
theorem below_put3 (w : World) (b : Nat) (x y z : Value) : Below b w (put3 w b x y z) := ((below_set ..).trans (below_set ..)).trans (below_set ..)
theorem size_put3 (w : World) (b : Nat) (x y z : Value) : (put3 w b x y z).heap.size = w.heap.size := by simp [put3, World.setCell]
theorem put3_block (w : World) (b : Nat) (x y z : Value) (k : Nat) (h : k ≠ b) : (put3 w b x y z).heap[k]? = w.heap[k]? := by
  unfold put3
  rw [RowKit.Below.heap_setCell _ _ _ _ h, RowKit.Below.heap_setCell _ _ _ _ h, RowKit.Below.heap_setCell _ _ _ _ h]
theorem ret_parse {fn : Func} {p q r s : Tmp} {tmps : Array Value} {W : World} {b c : Nat} {x y z a1 a2 a3 a4 a5 : Value} (h : fn.results = #[.cell p 27, .cell q 25, .tmp r, .tmp s]) (hp : tmps.getD p undef = .pointer (some ⟨b, 0, none⟩)) (hq : tmps.getD q undef = .pointer (some ⟨c, 0, none⟩)) (ht : Cs W b [x, y, z]) (hu : Cs W c [a1, a2, a3, a4, a5]) :
    (results fn tmps).run Tryd.prog W = .ok (.tuple #[.agg #[x, y, z], .agg #[a1, a2, a3, a4, a5], tmps.getD r undef, tmps.getD s undef]) W := by
  have q0 := ht.at 0 rfl
  have q1 := ht.at 1 rfl
  have q2 := ht.at 2 rfl
  have r0 := hu.at 0 rfl
  have r1 := hu.at 1 rfl
  have r2 := hu.at 2 rfl
  have r3 := hu.at 3 rfl
  have r4 := hu.at 4 rfl
  have hp' : tmps[p]?.getD undef = .pointer (some ⟨b, 0, none⟩) := by simpa using hp
  have hq' : tmps[q]?.getD undef = .pointer (some ⟨c, 0, none⟩) := by simpa using hq
  simp [results, h, hp', hq', go_sem, q0, q1, q2, r0, r1, r2, r3, r4]
def ParsePost (R : DomD × TabD × Bool × Int) (w : World) (e : Ending) (w' : World) : Prop :=
  ∃ v, e = .returned (.tuple #[domV R.1, v, .bool R.2.2.1, .int .i64 R.2.2.2]) ∧ TabAt w' (From w.heap.size w') R.2.1 v ∧ Below w.heap.size w w'
theorem TabAt.zero {w : World} {S : Nat → Prop} : TabAt w S zeroT (.agg #[.string ⟨#[]⟩, .int .i64 0, .bool false, .slice none 0 0, .slice none 0 0]) := ⟨_, _, rfl, Sl.nil, Sl.nil⟩
theorem parseV_eq (l : Bs) : (2000 < l.length → parseV l = (zeroD, zeroT, false, 5)) ∧ (¬ 2000 < l.length →
    ((wordP ⟨l, false⟩).1 = domainW → endedB (domP (wordP ⟨l, false⟩).2).2 = true → goodD (domP (wordP ⟨l, false⟩).2).1 = true → parseV l = ((domP (wordP ⟨l, false⟩).2).1, zeroT, false, 0)) ∧
    ((wordP ⟨l, false⟩).1 = domainW → ¬ (endedB (domP (wordP ⟨l, false⟩).2).2 = true ∧ goodD (domP (wordP ⟨l, false⟩).2).1 = true) → parseV l = (zeroD, zeroT, false, 1)) ∧
    ((wordP ⟨l, false⟩).1 = tableW → endedB (tabP (wordP ⟨l, false⟩).2).2 = true → goodT (tabP (wordP ⟨l, false⟩).2).1 = true → parseV l = (zeroD, (tabP (wordP ⟨l, false⟩).2).1, true, 0)) ∧
    ((wordP ⟨l, false⟩).1 = tableW → ¬ (endedB (tabP (wordP ⟨l, false⟩).2).2 = true ∧ goodT (tabP (wordP ⟨l, false⟩).2).1 = true) → parseV l = (zeroD, zeroT, false, 1)) ∧
    ((wordP ⟨l, false⟩).1 ≠ domainW → (wordP ⟨l, false⟩).1 ≠ tableW → parseV l = (zeroD, zeroT, false, 1))) := by
  have hne : domainW ≠ tableW := by decide
  unfold parseV
  refine ⟨fun h => if_pos h, fun h => ?_⟩
  rw [if_neg h]
  refine ⟨fun h1 h2 h3 => if_pos ⟨h1, h2, h3⟩, fun h1 h2 => ?_, fun h1 h2 h3 => ?_, fun h1 h2 => ?_, fun h1 h2 => ?_⟩
  · rw [if_neg (fun hh => h2 hh.2), if_neg (fun hh => hne (h1.symm.trans hh.1))]
  · rw [if_neg (fun hh => hne (hh.1.symm.trans h1)), if_pos ⟨h1, h2, h3⟩]
  · rw [if_neg (fun hh => hne (hh.1.symm.trans h1)), if_neg (fun hh => h2 hh.2)]
  · rw [if_neg (fun hh => h1 hh.1), if_neg (fun hh => h2 hh.1)]

theorem strP_size (p : PS) : (strP p).1.size ≤ p.rest.length := by
  have h := (List.takeWhile_sublist letterB (l := skipL p.rest)).length_le
  have h2 := skip_len p.rest
  show (bs (wordP p).1).size ≤ _
  rw [bs_size]
  exact Nat.le_trans h h2
theorem sepP_all {α : Type} {item : PS → α × PS} (hi : ∀ p, (item p).2.rest.length ≤ p.rest.length) {s : Bs} {N : Nat} {Q : α → Prop} (hQ : ∀ p, p.rest.length ≤ N → Q (item p).1) : ∀ (n : Nat) (p : PS), p.rest.length ≤ N → ∀ x ∈ (sepP item s n p).1, Q x
  | 0, p, _ => by simp [sepP]
  | n + 1, p, hp => by
    have a := takesP_len s p
    have b := hi (takesP s p).2
    have ht : (takesP s p).2.rest.length ≤ N := by omega
    have c := sepP_all hi hQ n (item (takesP s p).2).2 (s := s) (by omega)
    unfold sepP
    split
    · intro x hx
      rcases List.mem_cons.1 hx with rfl | hx
      · exact hQ _ ht
      · exact c x hx
    · simp
theorem inputsP_all (p : PS) {N : Nat} (hp : p.rest.length ≤ N) : ∀ s ∈ (inputsP p).1, s.size ≤ N := by
  have a := strP_len p
  have c := sepP_all (item := strP) (s := [44]) (N := N) (Q := fun s => s.size ≤ N) strP_len (fun q hq => Nat.le_trans (strP_size q) hq) ((strP p).2.rest.length + 1) (strP p).2 (by omega)
  intro s hs
  rcases List.mem_cons.1 (show s ∈ (strP p).1 :: (sepP strP [44] ((strP p).2.rest.length + 1) (strP p).2).1 from hs) with rfl | hs
  · exact Nat.le_trans (strP_size p) hp
  · exact c s hs
theorem rulesP_count : ∀ (n : Nat) (p : PS), (rulesP n p).1.length ≤ needP p
  | 0, p => by simp [rulesP]
  | n + 1, p => by
    unfold rulesP
    split
    · simp
    · rename_i hb
      split
      · simp
      · rename_i ht
        have a := needP_next p (by simpa using hb) (by simpa using ht)
        have b := rulesP_count n (ruleP (takesP [125] p).2).2
        simp only [List.length_cons]
        omega
theorem tabP_small (p : PS) (hp : p.rest.length ≤ 2000) : smallT (tabP p).1 := by
  have h1 := strP_len p
  have h2 := polP_len (strP p).2
  have h3 := optionP_len [99, 111, 109, 112, 108, 101, 116, 101] (polP (strP p).2).2
  have h4 := wantsP_len [40] (optionP [99, 111, 109, 112, 108, 101, 116, 101] (polP (strP p).2).2).2
  have h5 := inputsP_len (wantsP [40] (optionP [99, 111, 109, 112, 108, 101, 116, 101] (polP (strP p).2).2).2)
  have h6 := wantsP_len [41] (inputsP (wantsP [40] (optionP [99, 111, 109, 112, 108, 101, 116, 101] (polP (strP p).2).2).2)).2
  have h7 := wantsP_len [123] (wantsP [41] (inputsP (wantsP [40] (optionP [99, 111, 109, 112, 108, 101, 116, 101] (polP (strP p).2).2).2)).2)
  refine ⟨Nat.le_trans (strP_size p) (by omega), fun s hs => ?_, ?_⟩
  · have := inputsP_all (wantsP [40] (optionP [99, 111, 109, 112, 108, 101, 116, 101] (polP (strP p).2).2).2) (N := 2000) (by omega) s hs
    omega
  · have a := rulesP_count (needP (headP p).2 + 1) (headP p).2
    have b : needP (headP p).2 ≤ (headP p).2.rest.length + 1 := by unfold needP; split <;> omega
    have c : (headP p).2.rest.length ≤ 2000 := by
      show (wantsP [123] (wantsP [41] (inputsP (wantsP [40] (optionP [99, 111, 109, 112, 108, 101, 116, 101] (polP (strP p).2).2).2)).2)).rest.length ≤ 2000
      omega
    show (rulesP (needP (headP p).2 + 1) (headP p).2).1.length * 32 ≤ _
    omega
theorem TabAt.keepS {w w' : World} {S : Nat → Prop} {t : TabD} {v : Value} (h : TabAt w S t v) (hk : ∀ k, S k → w'.heap[k]? = w.heap[k]?) : TabAt w' S t v := by
  obtain ⟨vi, vr, e, h1, h2⟩ := h
  exact ⟨vi, vr, e, h1.keep fun q hq => World.cell?_of_block (hk _ hq), h2.keep fun q hq => World.cell?_of_block (hk _ hq)⟩
theorem TabAt.moreS {w : World} {S S' : Nat → Prop} {t : TabD} {v : Value} (h : TabAt w S t v) (hS : ∀ k, S k → S' k) : TabAt w S' t v := by
  obtain ⟨vi, vr, e, h1, h2⟩ := h
  exact ⟨vi, vr, e, h1.more hS, h2.more hS⟩
theorem TabAt.drewF {w : World} {lo : Nat} {t : TabD} {v : Value} (h : TabAt w (From lo w) t v) : TabAt w.drew (From lo w.drew) t v := (h.keepS (w' := w.drew) fun _ _ => rfl).moreS fun _ hk => hk
def put5 (w : World) (b : Nat) (x y z u v : Value) : World := ((((w.setCell ⟨b, 0, none⟩ x).setCell ⟨b, 1, none⟩ y).setCell ⟨b, 2, none⟩ z).setCell ⟨b, 3, none⟩ u).setCell ⟨b, 4, none⟩ v
theorem put5_block (w : World) (b : Nat) (x y z u v : Value) (k : Nat) (h : k ≠ b) : (put5 w b x y z u v).heap[k]? = w.heap[k]? := by
  unfold put5
  rw [RowKit.Below.heap_setCell _ _ _ _ h, RowKit.Below.heap_setCell _ _ _ _ h, RowKit.Below.heap_setCell _ _ _ _ h, RowKit.Below.heap_setCell _ _ _ _ h, RowKit.Below.heap_setCell _ _ _ _ h]
/-- both results are stored -/
def putDT (w : World) (b : Nat) (x y z a1 a2 a3 a4 a5 : Value) : World := put5 (put3 w b x y z) (b + 1) a1 a2 a3 a4 a5
theorem putDT_ends {w W : World} {x y z a1 a2 a3 a4 a5 : Value} {d1 d2 d3 e1 e2 e3 e4 e5 : Value} (Ca : Cs W w.heap.size [d1, d2, d3]) (Cb : Cs W (w.heap.size + 1) [e1, e2, e3, e4, e5]) (Bx : Below w.heap.size w W) :
    Cs (putDT W w.heap.size x y z a1 a2 a3 a4 a5) w.heap.size [x, y, z] ∧ Cs (putDT W w.heap.size x y z a1 a2 a3 a4 a5) (w.heap.size + 1) [a1, a2, a3, a4, a5] ∧ Below w.heap.size w (putDT W w.heap.size x y z a1 a2 a3 a4 a5) ∧ (putDT W w.heap.size x y z a1 a2 a3 a4 a5).heap.size = W.heap.size ∧ ∀ k, k ≠ w.heap.size → k ≠ w.heap.size + 1 → (putDT W w.heap.size x y z a1 a2 a3 a4 a5).heap[k]? = W.heap[k]? := by
  have Cx := Ca.put3 x y z
  have b3 := below_put3 W w.heap.size x y z
  have Cb2 := Cb.keep (put3_block W w.heap.size x y z (w.heap.size + 1) (by omega)) (Nat.le_of_eq (size_put3 W w.heap.size x y z).symm)
  have b5 := below_put5 (put3 W w.heap.size x y z) (w.heap.size + 1) a1 a2 a3 a4 a5
  refine ⟨Cx.below b5 (by omega), Cb2.put5 a1 a2 a3 a4 a5, Bx.trans (b3.trans (b5.mono (by omega))), (size_put5 ..).trans (size_put3 ..), fun k h1 h2 => ?_⟩
  unfold putDT
  rw [put5_block _ _ _ _ _ _ _ _ h2, put3_block _ _ _ _ _ _ h1]

set_option maxRecDepth 100000 in
set_option maxHeartbeats 2000000 in
theorem text_Parse (l : Bs) (w : World) (hv : VarsOk w) (hs : l.length ≤ 140737488355328) :
    Calls Tryd.prog 6 #[.string (bs l)] w (ParsePost (parseV l) w) := by
  have hsz : (bs l).size = l.length := bs_size l
  have hwa := below_alloc1 w (.cells #[.string ⟨#[]⟩, .int .i64 0, .int .i64 0] 27)
  have Ca := Lib.hid (Cs.new w [.string ⟨#[]⟩, .int .i64 0, .int .i64 0] 27)
  have hza : (w.alloc (.cells #[.string ⟨#[]⟩, .int .i64 0, .int .i64 0] 27)).heap.size = w.heap.size + 1 := by simp
  have HV := Lib.hid (hv.next hwa)
  generalize hwe : w.alloc (.cells #[.string ⟨#[]⟩, .int .i64 0, .int .i64 0] 27) = wa at *
  have hwb := below_alloc1 wa (.cells #[.string ⟨#[]⟩, .int .i64 0, .bool false, .slice none 0 0, .slice none 0 0] 25)
  have Cb0 := Lib.hid (Cs.new wa [.string ⟨#[]⟩, .int .i64 0, .bool false, .slice none 0 0, .slice none 0 0] 25)
  have hzb : (wa.alloc (.cells #[.string ⟨#[]⟩, .int .i64 0, .bool false, .slice none 0 0, .slice none 0 0] 25)).heap.size = w.heap.size + 2 := by simp; omega
  rw [hza] at Cb0
  have HV0 := Lib.hid (HV.out.next hwb)
  have Ca0 := Lib.hid (Ca.out.next hwb)
  have B0 := Lib.hid (bx hwa hwb)
  generalize hwf : wa.alloc (.cells #[.string ⟨#[]⟩, .int .i64 0, .bool false, .slice none 0 0, .slice none 0 0] 25) = w0 at *
  have AB := Lib.hid hv.above
  have HE := parseV_eq l
  generalize hR : parseV l = R at *
  clear hR hwa hwb Ca HV
  by_cases hlong : 2000 < l.length
  · have HE' := Lib.hid (HE.1 hlong)
    clear HE HV0 AB
    have hl' : (2000 : Int) < l.length := by omega
    go_enter Tryd.func6, Tryd.ntmps6
    obtain ⟨Cz, Cy, Bz, zz, kz⟩ := putDT_ends (x := (.string ⟨#[]⟩)) (y := (.int .i64 0)) (z := (.int .i64 0)) (a1 := (.string ⟨#[]⟩)) (a2 := (.int .i64 0)) (a3 := (.bool false)) (a4 := (.slice none 0 0)) (a5 := (.slice none 0 0)) Ca0.out Cb0.out B0.out
    have CZ := Lib.hid Cz
    have CY := Lib.hid Cy
    have BZ := Lib.hid Bz
    have TB : Hid (TabAt (putDT w0 w.heap.size (.string ⟨#[]⟩) (.int .i64 0) (.int .i64 0) (.string ⟨#[]⟩) (.int .i64 0) (.bool false) (.slice none 0 0) (.slice none 0 0)) (From w.heap.size (putDT w0 w.heap.size (.string ⟨#[]⟩) (.int .i64 0) (.int .i64 0) (.string ⟨#[]⟩) (.int .i64 0) (.bool false) (.slice none 0 0) (.slice none 0 0))) zeroT (.agg #[.string ⟨#[]⟩, .int .i64 0, .bool false, .slice none 0 0, .slice none 0 0])) := TabAt.zero
    clear Cz Cy Bz zz kz
    unfold putDT put5 put3 at CZ CY BZ TB
    obtain ⟨az, ac, af⟩ := Ca0.out
    have ac0 := ac 0 _ rfl
    have af0 := af 0 (by simp)
    have ac1 := ac 1 _ rfl
    have af1 := af 1 (by simp)
    have ac2 := ac 2 _ rfl
    have af2 := af 2 (by simp)
    clear ac af
    obtain ⟨bz, bc, bf⟩ := Cb0.out
    have bc0 := bc 0 _ rfl
    have bf0 := bf 0 (by simp)
    have bc1 := bc 1 _ rfl
    have bf1 := bf 1 (by simp)
    have bc2 := bc 2 _ rfl
    have bf2 := bf 2 (by simp)
    have bc3 := bc 3 _ rfl
    have bf3 := bf 3 (by simp)
    have bc4 := bc 4 _ rfl
    have bf4 := bf 4 (by simp)
    clear bc bf
    go_wp2
    refine bodyPost_ret (ret_parse (b := w.heap.size) (c := w.heap.size + 1) rfl rfl rfl CZ.out CY.out) rfl ?_
    rw [HE'.out]
    exact ⟨_, rfl, TB.out, BZ.out⟩
  · have HE' := Lib.hid (HE.2 hlong)
    clear HE
    have hl' : (l.length : Int) ≤ 2000 := by omega
    have hl2 : l.length ≤ 2000 := by omega
    have hwg := below_alloc1 w0 (.cells #[.string (bs l), .bool false] 48)
    have hz1 : (w0.alloc (.cells #[.string (bs l), .bool false] 48)).heap.size = w.heap.size + 3 := by simp; omega
    have P1 := PA.new w0 l 48
    rw [hzb] at P1
    have X1 : Hid (PX (w0.alloc (.cells #[.string (bs l), .bool false] 48)) (w.heap.size + 2) ⟨l, false⟩) := ⟨P1, HV0.out.next hwg, AB.out.mono (by omega)⟩
    have Ca1 := Lib.hid (Ca0.out.next hwg)
    have Cb1 := Lib.hid (Cb0.out.next hwg)
    have B1 := Lib.hid (bx B0.out hwg)
    generalize hwh : w0.alloc (.cells #[.string (bs l), .bool false] 48) = w1 at *
    clear P1 hwg HV0 AB Ca0 Cb0 B0
    go_enter Tryd.func6, Tryd.ntmps6
    go_wp2_with fail
    refine (p_word ⟨l, false⟩ (w.heap.size + 2) _ X1.out.1 hl2).mono ?_
    rintro e w2 ⟨rfl, h2, hb2⟩
    have X2 := Lib.hid (X1.out.grown h2 hb2)
    have Ca2 := Lib.hid (Ca1.out.grown hb2 (by omega))
    have Cb2 := Lib.hid (Cb1.out.grown hb2 (by omega))
    have B2 := Lib.hid (B1.out.trans (below_of_grown hb2 (by omega) (fun r hr => by injection hr with hr; omega)))
    have hz2 := hb2.size
    clear hwe hwf hwh
    have L2 := wordP_len ⟨l, false⟩
    clear h2 hb2
    generalize hP2 : wordP ⟨l, false⟩ = P2 at *
    obtain ⟨W, p2⟩ := P2
    simp only at X2 L2 HE'
    by_cases hW : W = domainW
    · subst hW
      have eW : bs domainW = ⟨#[100, 111, 109, 97, 105, 110]⟩ := rfl
      rw [eW]
      go_wp2_with fail
      refine (p_domain p2 (w.heap.size + 2) _ X2.out (by omega)).mono ?_
      rintro e w3 ⟨rfl, h3, hb3⟩
      have X3 := Lib.hid (X2.out.grown h3 hb3)
      have Ca3 := Lib.hid (Ca2.out.grown hb3 (by omega))
      have Cb3 := Lib.hid (Cb2.out.grown hb3 (by omega))
      have B3 := Lib.hid (B2.out.trans (below_of_grown hb3 (by omega) (fun r hr => by injection hr with hr; omega)))
      have hz3 := hb3.size
      clear h3 hb3
      have L3 := strP_size p2
      change (domP p2).1.1.size ≤ _ at L3
      generalize hP3 : domP p2 = P3 at *
      obtain ⟨⟨nm, lo, hi⟩, p3⟩ := P3
      simp only at X3 HE' L3
      have hw3a := below_alloc1 w3 (.cells #[.string nm, .int .i64 lo, .int .i64 hi] 27)
      have hz4 : (w3.alloc (.cells #[.string nm, .int .i64 lo, .int .i64 hi] 27)).heap.size = w3.heap.size + 1 := by simp
      have X4 := Lib.hid (X3.out.next hw3a)
      have Ca4 := Lib.hid (Ca3.out.next hw3a)
      have Cb4 := Lib.hid (Cb3.out.next hw3a)
      have B4 := Lib.hid (B3.out.trans (hw3a.mono (by omega)))
      have D4 := Lib.hid (Cs.new w3 [.string nm, .int .i64 lo, .int .i64 hi] 27)
      go_wp2_with fail
      generalize w3.alloc (.cells #[.string nm, .int .i64 lo, .int .i64 hi] 27) = w4 at *
      go_wp2_with fail
      refine (p_ended p3 (w.heap.size + 2) _ X4.out.1).mono ?_
      rintro e w5 ⟨rfl, h5, hb5⟩
      have X5 := Lib.hid (X4.out.grown h5 hb5)
      have Ca5 := Lib.hid (Ca4.out.grown hb5 (by omega))
      have Cb5 := Lib.hid (Cb4.out.grown hb5 (by omega))
      have B5 := Lib.hid (B4.out.trans (below_of_grown hb5 (by omega) (fun r hr => by injection hr with hr; omega)))
      have hz5 := hb5.size
      have D5 := Lib.hid (D4.out.grown hb5 (by omega))
      clear h5 hb5
      cases hE : endedB p3
      · have HN := Lib.hid (HE'.out.2.1 (by first | trivial | rfl) (by rw [hE]; simp))
        clear HE' hE
        obtain ⟨Cz, Cy, Bz, zz, kz⟩ := putDT_ends (x := (.string ⟨#[]⟩)) (y := (.int .i64 0)) (z := (.int .i64 0)) (a1 := (.string ⟨#[]⟩)) (a2 := (.int .i64 0)) (a3 := (.bool false)) (a4 := (.slice none 0 0)) (a5 := (.slice none 0 0)) Ca5.out Cb5.out B5.out
        have CZ := Lib.hid Cz
        have CY := Lib.hid Cy
        have BZ := Lib.hid Bz
        have TB : Hid (TabAt (putDT w5 w.heap.size (.string ⟨#[]⟩) (.int .i64 0) (.int .i64 0) (.string ⟨#[]⟩) (.int .i64 0) (.bool false) (.slice none 0 0) (.slice none 0 0)) (From w.heap.size (putDT w5 w.heap.size (.string ⟨#[]⟩) (.int .i64 0) (.int .i64 0) (.string ⟨#[]⟩) (.int .i64 0) (.bool false) (.slice none 0 0) (.slice none 0 0))) zeroT (.agg #[.string ⟨#[]⟩, .int .i64 0, .bool false, .slice none 0 0, .slice none 0 0])) := TabAt.zero
        clear Cz Cy Bz zz kz
        unfold putDT put5 put3 at CZ CY BZ TB
        obtain ⟨az, ac, af⟩ := Ca5.out
        have ac0 := ac 0 _ rfl
        have af0 := af 0 (by simp)
        have ac1 := ac 1 _ rfl
        have af1 := af 1 (by simp)
        have ac2 := ac 2 _ rfl
        have af2 := af 2 (by simp)
        clear ac af
        obtain ⟨bz, bc, bf⟩ := Cb5.out
        have bc0 := bc 0 _ rfl
        have bf0 := bf 0 (by simp)
        have bc1 := bc 1 _ rfl
        have bf1 := bf 1 (by simp)
        have bc2 := bc 2 _ rfl
        have bf2 := bf 2 (by simp)
        have bc3 := bc 3 _ rfl
        have bf3 := bf 3 (by simp)
        have bc4 := bc 4 _ rfl
        have bf4 := bf 4 (by simp)
        clear bc bf
        go_wp2
        refine bodyPost_ret (ret_parse (b := w.heap.size) (c := w.heap.size + 1) rfl rfl rfl CZ.out CY.out) rfl ?_
        rw [HN.out]
        exact ⟨_, rfl, TB.out, BZ.out⟩
      · have e0 := D5.out.at 0 rfl
        have e1 := D5.out.at 1 rfl
        have e2 := D5.out.at 2 rfl
        go_wp2_with fail
        refine (text_GoodDomain nm lo hi _ (by omega)).mono ?_
        rintro e w6 ⟨rfl, hb6⟩
        have Ca6 := Lib.hid (Ca5.out.next hb6)
        have Cb6 := Lib.hid (Cb5.out.next hb6)
        have D6 := Lib.hid (D5.out.next hb6)
        have B6 := Lib.hid (B5.out.trans (hb6.mono (by omega)))
        clear e0 e1 e2 hb6
        cases hG : goodD (nm, lo, hi)
        · have HN := Lib.hid (HE'.out.2.1 (by first | trivial | rfl) (by rw [hE, hG]; simp))
          clear HE' hE hG
          obtain ⟨Cz, Cy, Bz, zz, kz⟩ := putDT_ends (x := (.string ⟨#[]⟩)) (y := (.int .i64 0)) (z := (.int .i64 0)) (a1 := (.string ⟨#[]⟩)) (a2 := (.int .i64 0)) (a3 := (.bool false)) (a4 := (.slice none 0 0)) (a5 := (.slice none 0 0)) Ca6.out Cb6.out B6.out
          have CZ := Lib.hid Cz
          have CY := Lib.hid Cy
          have BZ := Lib.hid Bz
          have TB : Hid (TabAt (putDT w6 w.heap.size (.string ⟨#[]⟩) (.int .i64 0) (.int .i64 0) (.string ⟨#[]⟩) (.int .i64 0) (.bool false) (.slice none 0 0) (.slice none 0 0)) (From w.heap.size (putDT w6 w.heap.size (.string ⟨#[]⟩) (.int .i64 0) (.int .i64 0) (.string ⟨#[]⟩) (.int .i64 0) (.bool false) (.slice none 0 0) (.slice none 0 0))) zeroT (.agg #[.string ⟨#[]⟩, .int .i64 0, .bool false, .slice none 0 0, .slice none 0 0])) := TabAt.zero
          clear Cz Cy Bz zz kz
          unfold putDT put5 put3 at CZ CY BZ TB
          obtain ⟨az, ac, af⟩ := Ca6.out
          have ac0 := ac 0 _ rfl
          have af0 := af 0 (by simp)
          have ac1 := ac 1 _ rfl
          have af1 := af 1 (by simp)
          have ac2 := ac 2 _ rfl
          have af2 := af 2 (by simp)
          clear ac af
          obtain ⟨bz, bc, bf⟩ := Cb6.out
          have bc0 := bc 0 _ rfl
          have bf0 := bf 0 (by simp)
          have bc1 := bc 1 _ rfl
          have bf1 := bf 1 (by simp)
          have bc2 := bc 2 _ rfl
          have bf2 := bf 2 (by simp)
          have bc3 := bc 3 _ rfl
          have bf3 := bf 3 (by simp)
          have bc4 := bc 4 _ rfl
          have bf4 := bf 4 (by simp)
          clear bc bf
          go_wp2
          refine bodyPost_ret (ret_parse (b := w.heap.size) (c := w.heap.size + 1) rfl rfl rfl CZ.out CY.out) rfl ?_
          rw [HN.out]
          exact ⟨_, rfl, TB.out, BZ.out⟩
        · have HN := Lib.hid (HE'.out.1 (by first | trivial | rfl) hE hG)
          clear HE' hE hG
          have e0 := D6.out.at 0 rfl
          have e1 := D6.out.at 1 rfl
          have e2 := D6.out.at 2 rfl
          obtain ⟨Cz, Cy, Bz, zz, kz⟩ := putDT_ends (x := (.string nm)) (y := (.int .i64 lo)) (z := (.int .i64 hi)) (a1 := (.string ⟨#[]⟩)) (a2 := (.int .i64 0)) (a3 := (.bool false)) (a4 := (.slice none 0 0)) (a5 := (.slice none 0 0)) Ca6.out Cb6.out B6.out
          have CZ := Lib.hid Cz
          have CY := Lib.hid Cy
          have BZ := Lib.hid Bz
          have TB : Hid (TabAt (putDT w6 w.heap.size (.string nm) (.int .i64 lo) (.int .i64 hi) (.string ⟨#[]⟩) (.int .i64 0) (.bool false) (.slice none 0 0) (.slice none 0 0)) (From w.heap.size (putDT w6 w.heap.size (.string nm) (.int .i64 lo) (.int .i64 hi) (.string ⟨#[]⟩) (.int .i64 0) (.bool false) (.slice none 0 0) (.slice none 0 0))) zeroT (.agg #[.string ⟨#[]⟩, .int .i64 0, .bool false, .slice none 0 0, .slice none 0 0])) := TabAt.zero
          clear Cz Cy Bz zz kz
          unfold putDT put5 put3 at CZ CY BZ TB
          obtain ⟨az, ac, af⟩ := Ca6.out
          have ac0 := ac 0 _ rfl
          have af0 := af 0 (by simp)
          have ac1 := ac 1 _ rfl
          have af1 := af 1 (by simp)
          have ac2 := ac 2 _ rfl
          have af2 := af 2 (by simp)
          clear ac af
          obtain ⟨bz, bc, bf⟩ := Cb6.out
          have bc0 := bc 0 _ rfl
          have bf0 := bf 0 (by simp)
          have bc1 := bc 1 _ rfl
          have bf1 := bf 1 (by simp)
          have bc2 := bc 2 _ rfl
          have bf2 := bf 2 (by simp)
          have bc3 := bc 3 _ rfl
          have bf3 := bf 3 (by simp)
          have bc4 := bc 4 _ rfl
          have bf4 := bf 4 (by simp)
          clear bc bf
          go_wp2
          refine bodyPost_ret (ret_parse (b := w.heap.size) (c := w.heap.size + 1) rfl rfl rfl CZ.out CY.out) rfl ?_
          rw [HN.out]
          exact ⟨_, rfl, TB.out, BZ.out⟩
    · by_cases hT : W = tableW
      · subst hT
        have eW : bs tableW = ⟨#[116, 97, 98, 108, 101]⟩ := rfl
        rw [eW]
        go_wp2_with fail
        refine (p_table p2 (w.heap.size + 2) _ X2.out (by omega)).mono ?_
        rintro e w3 ⟨v3, rfl, ht3, h3, hb3⟩
        have X3 := Lib.hid (X2.out.grown h3 hb3)
        have Ca3 := Lib.hid (Ca2.out.grown hb3 (by omega))
        have Cb3 := Lib.hid (Cb2.out.grown hb3 (by omega))
        have B3 := Lib.hid (B2.out.trans (below_of_grown hb3 (by omega) (fun r hr => by injection hr with hr; omega)))
        have hz3 := hb3.size
        clear h3 hb3
        have L3 := tabP_small p2 (by omega)
        generalize hP3 : tabP p2 = P3 at *
        obtain ⟨t, p3⟩ := P3
        simp only at X3 HE' L3 ht3
        have T3 := Lib.hid ht3
        obtain ⟨nm, pol, comp, ins, rules⟩ := t
        obtain ⟨vi, vr, rfl, hi3, hr3⟩ := ht3
        simp only at hi3 hr3
        obtain ⟨Ai, ci, rfl, -, -⟩ := hi3.form
        obtain ⟨Ar, cr, rfl, -, -⟩ := hr3.form
        clear hi3 hr3
        have L3' := Lib.hid L3
        clear L3
        have hw3a := below_alloc1 w3 (.cells #[.string nm, .int .i64 pol, .bool comp, .slice Ai ins.length ci, .slice Ar rules.length cr] 25)
        have hz4 : (w3.alloc (.cells #[.string nm, .int .i64 pol, .bool comp, .slice Ai ins.length ci, .slice Ar rules.length cr] 25)).heap.size = w3.heap.size + 1 := by simp
        have X4 := Lib.hid (X3.out.next hw3a)
        have Ca4 := Lib.hid (Ca3.out.next hw3a)
        have Cb4 := Lib.hid (Cb3.out.next hw3a)
        have B4 := Lib.hid (B3.out.trans (hw3a.mono (by omega)))
        have D4 := Lib.hid (Cs.new w3 [.string nm, .int .i64 pol, .bool comp, .slice Ai ins.length ci, .slice Ar rules.length cr] 25)
        have T4 := Lib.hid (T3.out.keepS (w' := w3.alloc (.cells #[.string nm, .int .i64 pol, .bool comp, .slice Ai ins.length ci, .slice Ar rules.length cr] 25)) (fun k hk => hw3a.block k hk.2))
        go_wp2_with fail
        generalize w3.alloc (.cells #[.string nm, .int .i64 pol, .bool comp, .slice Ai ins.length ci, .slice Ar rules.length cr] 25) = w4 at *
        go_wp2_with fail
        refine (p_ended p3 (w.heap.size + 2) _ X4.out.1).mono ?_
        rintro e w5 ⟨rfl, h5, hb5⟩
        have X5 := Lib.hid (X4.out.grown h5 hb5)
        have Ca5 := Lib.hid (Ca4.out.grown hb5 (by omega))
        have Cb5 := Lib.hid (Cb4.out.grown hb5 (by omega))
        have B5 := Lib.hid (B4.out.trans (below_of_grown hb5 (by omega) (fun r hr => by injection hr with hr; omega)))
        have hz5 := hb5.size
        have D5 := Lib.hid (D4.out.grown hb5 (by omega))
        have T5 := Lib.hid (T4.out.keepS (w' := w5) (fun k hk => hb5.block k (by have := hk.2; omega) (by intro e; injection e with e; have := hk.1; omega)))
        clear h5 hb5
        cases hE : endedB p3
        · have HN := Lib.hid (HE'.out.2.2.2.1 (by first | trivial | rfl) (by rw [hE]; simp))
          clear HE' hE
          obtain ⟨Cz, Cy, Bz, zz, kz⟩ := putDT_ends (x := (.string ⟨#[]⟩)) (y := (.int .i64 0)) (z := (.int .i64 0)) (a1 := (.string ⟨#[]⟩)) (a2 := (.int .i64 0)) (a3 := (.bool false)) (a4 := (.slice none 0 0)) (a5 := (.slice none 0 0)) Ca5.out Cb5.out B5.out
          have CZ := Lib.hid Cz
          have CY := Lib.hid Cy
          have BZ := Lib.hid Bz
          have TB : Hid (TabAt (putDT w5 w.heap.size (.string ⟨#[]⟩) (.int .i64 0) (.int .i64 0) (.string ⟨#[]⟩) (.int .i64 0) (.bool false) (.slice none 0 0) (.slice none 0 0)) (From w.heap.size (putDT w5 w.heap.size (.string ⟨#[]⟩) (.int .i64 0) (.int .i64 0) (.string ⟨#[]⟩) (.int .i64 0) (.bool false) (.slice none 0 0) (.slice none 0 0))) zeroT (.agg #[.string ⟨#[]⟩, .int .i64 0, .bool false, .slice none 0 0, .slice none 0 0])) := TabAt.zero
          clear Cz Cy Bz zz kz
          unfold putDT put5 put3 at CZ CY BZ TB
          obtain ⟨az, ac, af⟩ := Ca5.out
          have ac0 := ac 0 _ rfl
          have af0 := af 0 (by simp)
          have ac1 := ac 1 _ rfl
          have af1 := af 1 (by simp)
          have ac2 := ac 2 _ rfl
          have af2 := af 2 (by simp)
          clear ac af
          obtain ⟨bz, bc, bf⟩ := Cb5.out
          have bc0 := bc 0 _ rfl
          have bf0 := bf 0 (by simp)
          have bc1 := bc 1 _ rfl
          have bf1 := bf 1 (by simp)
          have bc2 := bc 2 _ rfl
          have bf2 := bf 2 (by simp)
          have bc3 := bc 3 _ rfl
          have bf3 := bf 3 (by simp)
          have bc4 := bc 4 _ rfl
          have bf4 := bf 4 (by simp)
          clear bc bf
          go_wp2
          refine bodyPost_ret (ret_parse (b := w.heap.size) (c := w.heap.size + 1) rfl rfl rfl CZ.out CY.out) rfl ?_
          rw [HN.out]
          exact ⟨_, rfl, TB.out, BZ.out⟩
        · have e0 := D5.out.at 0 rfl
          have e1 := D5.out.at 1 rfl
          have e2 := D5.out.at 2 rfl
          have e3 := D5.out.at 3 rfl
          have e4 := D5.out.at 4 rfl
          go_wp2_with fail
          refine (table_Good ⟨nm, pol, comp, ins, rules⟩ _ _ (T5.out.moreS (fun k hk => by have := hk.2; show k < w5.heap.size; omega)) L3'.out).mono ?_
          rintro e w6 ⟨rfl, hb6⟩
          have Ca6 := Lib.hid (Ca5.out.next hb6)
          have Cb6 := Lib.hid (Cb5.out.next hb6)
          have D6 := Lib.hid (D5.out.next hb6)
          have B6 := Lib.hid (B5.out.trans (hb6.mono (by omega)))
          have T6 := Lib.hid (T5.out.keepS (w' := w6) (fun k hk => hb6.block k (by have := hk.2; omega)))
          have hz6 := hb6.size
          clear e0 e1 e2 e3 e4 hb6
          cases hG : goodT ⟨nm, pol, comp, ins, rules⟩
          · have HN := Lib.hid (HE'.out.2.2.2.1 (by first | trivial | rfl) (by rw [hE, hG]; simp))
            clear HE' hE hG
            obtain ⟨Cz, Cy, Bz, zz, kz⟩ := putDT_ends (x := (.string ⟨#[]⟩)) (y := (.int .i64 0)) (z := (.int .i64 0)) (a1 := (.string ⟨#[]⟩)) (a2 := (.int .i64 0)) (a3 := (.bool false)) (a4 := (.slice none 0 0)) (a5 := (.slice none 0 0)) Ca6.out Cb6.out B6.out
            have CZ := Lib.hid Cz
            have CY := Lib.hid Cy
            have BZ := Lib.hid Bz
            have TB : Hid (TabAt (putDT w6 w.heap.size (.string ⟨#[]⟩) (.int .i64 0) (.int .i64 0) (.string ⟨#[]⟩) (.int .i64 0) (.bool false) (.slice none 0 0) (.slice none 0 0)) (From w.heap.size (putDT w6 w.heap.size (.string ⟨#[]⟩) (.int .i64 0) (.int .i64 0) (.string ⟨#[]⟩) (.int .i64 0) (.bool false) (.slice none 0 0) (.slice none 0 0))) zeroT (.agg #[.string ⟨#[]⟩, .int .i64 0, .bool false, .slice none 0 0, .slice none 0 0])) := TabAt.zero
            clear Cz Cy Bz zz kz
            unfold putDT put5 put3 at CZ CY BZ TB
            obtain ⟨az, ac, af⟩ := Ca6.out
            have ac0 := ac 0 _ rfl
            have af0 := af 0 (by simp)
            have ac1 := ac 1 _ rfl
            have af1 := af 1 (by simp)
            have ac2 := ac 2 _ rfl
            have af2 := af 2 (by simp)
            clear ac af
            obtain ⟨bz, bc, bf⟩ := Cb6.out
            have bc0 := bc 0 _ rfl
            have bf0 := bf 0 (by simp)
            have bc1 := bc 1 _ rfl
            have bf1 := bf 1 (by simp)
            have bc2 := bc 2 _ rfl
            have bf2 := bf 2 (by simp)
            have bc3 := bc 3 _ rfl
            have bf3 := bf 3 (by simp)
            have bc4 := bc 4 _ rfl
            have bf4 := bf 4 (by simp)
            clear bc bf
            go_wp2
            refine bodyPost_ret (ret_parse (b := w.heap.size) (c := w.heap.size + 1) rfl rfl rfl CZ.out CY.out) rfl ?_
            rw [HN.out]
            exact ⟨_, rfl, TB.out, BZ.out⟩
          · have HN := Lib.hid (HE'.out.2.2.1 (by first | trivial | rfl) hE hG)
            clear HE' hE hG
            have e0 := D6.out.at 0 rfl
            have e1 := D6.out.at 1 rfl
            have e2 := D6.out.at 2 rfl
            have e3 := D6.out.at 3 rfl
            have e4 := D6.out.at 4 rfl
            have hne0 : w3.heap.size ≠ w.heap.size := by omega
            have hne1 : w3.heap.size ≠ w.heap.size + 1 := by omega
            obtain ⟨Cz, Cy, Bz, zz, kz⟩ := putDT_ends (x := (.string ⟨#[]⟩)) (y := (.int .i64 0)) (z := (.int .i64 0)) (a1 := (.string nm)) (a2 := (.int .i64 pol)) (a3 := (.bool comp)) (a4 := (.slice Ai ins.length ci)) (a5 := (.slice Ar rules.length cr)) Ca6.out Cb6.out B6.out
            have CZ := Lib.hid Cz
            have CY := Lib.hid Cy
            have BZ := Lib.hid Bz
            have TB : Hid (TabAt (putDT w6 w.heap.size (.string ⟨#[]⟩) (.int .i64 0) (.int .i64 0) (.string nm) (.int .i64 pol) (.bool comp) (.slice Ai ins.length ci) (.slice Ar rules.length cr)) (From w.heap.size (putDT w6 w.heap.size (.string ⟨#[]⟩) (.int .i64 0) (.int .i64 0) (.string nm) (.int .i64 pol) (.bool comp) (.slice Ai ins.length ci) (.slice Ar rules.length cr))) ⟨nm, pol, comp, ins, rules⟩ (.agg #[.string nm, .int .i64 pol, .bool comp, .slice Ai ins.length ci, .slice Ar rules.length cr])) := (T6.out.keepS (fun k hk => kz k (by have := hk.1; omega) (by have := hk.1; omega))).moreS (fun k hk => ⟨by have := hk.1; omega, by have := hk.2; rw [zz]; omega⟩)
            clear Cz Cy Bz zz kz
            unfold putDT put5 put3 at CZ CY BZ TB
            obtain ⟨az, ac, af⟩ := Ca6.out
            have ac0 := ac 0 _ rfl
            have af0 := af 0 (by simp)
            have ac1 := ac 1 _ rfl
            have af1 := af 1 (by simp)
            have ac2 := ac 2 _ rfl
            have af2 := af 2 (by simp)
            clear ac af
            obtain ⟨bz, bc, bf⟩ := Cb6.out
            have bc0 := bc 0 _ rfl
            have bf0 := bf 0 (by simp)
            have bc1 := bc 1 _ rfl
            have bf1 := bf 1 (by simp)
            have bc2 := bc 2 _ rfl
            have bf2 := bf 2 (by simp)
            have bc3 := bc 3 _ rfl
            have bf3 := bf 3 (by simp)
            have bc4 := bc 4 _ rfl
            have bf4 := bf 4 (by simp)
            clear bc bf
            go_wp2_with fail
            go_region
            go_wp2
            refine bodyPost_ret (ret_parse (b := w.heap.size) (c := w.heap.size + 1) rfl rfl rfl CZ.out.drew CY.out.drew) rfl ?_
            rw [HN.out]
            exact ⟨_, rfl, TB.out.drewF, BZ.out.drew⟩
      · have HN := Lib.hid (HE'.out.2.2.2.2 hW hT)
        clear HE'
        have k0 := bs_toList W
        have k1 : (W == [100, 111, 109, 97, 105, 110]) = false := beq_eq_false_iff_ne.2 hW
        have k2 : (W == [116, 97, 98, 108, 101]) = false := beq_eq_false_iff_ne.2 hT
        have k3 : ¬ W = [100, 111, 109, 97, 105, 110] := hW
        have k4 : ¬ W = [116, 97, 98, 108, 101] := hT
        clear hW hT
        obtain ⟨Cz, Cy, Bz, zz, kz⟩ := putDT_ends (x := (.string ⟨#[]⟩)) (y := (.int .i64 0)) (z := (.int .i64 0)) (a1 := (.string ⟨#[]⟩)) (a2 := (.int .i64 0)) (a3 := (.bool false)) (a4 := (.slice none 0 0)) (a5 := (.slice none 0 0)) Ca2.out Cb2.out B2.out
        have CZ := Lib.hid Cz
        have CY := Lib.hid Cy
        have BZ := Lib.hid Bz
        have TB : Hid (TabAt (putDT w2 w.heap.size (.string ⟨#[]⟩) (.int .i64 0) (.int .i64 0) (.string ⟨#[]⟩) (.int .i64 0) (.bool false) (.slice none 0 0) (.slice none 0 0)) (From w.heap.size (putDT w2 w.heap.size (.string ⟨#[]⟩) (.int .i64 0) (.int .i64 0) (.string ⟨#[]⟩) (.int .i64 0) (.bool false) (.slice none 0 0) (.slice none 0 0))) zeroT (.agg #[.string ⟨#[]⟩, .int .i64 0, .bool false, .slice none 0 0, .slice none 0 0])) := TabAt.zero
        clear Cz Cy Bz zz kz
        unfold putDT put5 put3 at CZ CY BZ TB
        obtain ⟨az, ac, af⟩ := Ca2.out
        have ac0 := ac 0 _ rfl
        have af0 := af 0 (by simp)
        have ac1 := ac 1 _ rfl
        have af1 := af 1 (by simp)
        have ac2 := ac 2 _ rfl
        have af2 := af 2 (by simp)
        clear ac af
        obtain ⟨bz, bc, bf⟩ := Cb2.out
        have bc0 := bc 0 _ rfl
        have bf0 := bf 0 (by simp)
        have bc1 := bc 1 _ rfl
        have bf1 := bf 1 (by simp)
        have bc2 := bc 2 _ rfl
        have bf2 := bf 2 (by simp)
        have bc3 := bc 3 _ rfl
        have bf3 := bf 3 (by simp)
        have bc4 := bc 4 _ rfl
        have bf4 := bf 4 (by simp)
        clear bc bf
        go_wp2
        refine bodyPost_ret (ret_parse (b := w.heap.size) (c := w.heap.size + 1) rfl rfl rfl CZ.out CY.out) rfl ?_
        rw [HN.out]
        exact ⟨_, rfl, TB.out, BZ.out⟩

end Go.Proofs.YtmdljknlbmlacabDoor
