/- ratebookref.IsName, as a Lean function of its text. Condition: the text has at most 2^47 bytes. -/
import Derived.Test.YtmdljknlbmlacabGreatDoorTableF
import Derived.Test.YtmdljknlbmlacabGreatDoorShelfT
import Derived.Shelf.Strings.SlTrimAscii
namespace Go.Proofs.YtmdljknlbmlacabGreatDoor
open Go.RowKit Go.Shelf

def abc : ByteArray := ⟨#[97, 98, 99, 100, 101, 102, 103, 104, 105, 106, 107, 108, 109, 110, 111, 112, 113, 114, 115, 116, 117, 118, 119, 120, 121, 122]⟩
theorem abc_letter (b : UInt8) : abc.data.toList.contains b = letterB b := by
  have : ∀ n : Fin 256, abc.data.toList.contains (UInt8.ofNat n.1) = letterB (UInt8.ofNat n.1) := by decide +kernel
  have h := this ⟨b.toNat, b.toNat_lt⟩
  simpa using h
theorem dropWhile_nil {α : Type} {p : α → Bool} {l : List α} : l.dropWhile p = [] ↔ l.all p = true := by
  induction l with
  | nil => simp
  | cons a l ih =>
    by_cases h : p a = true
    · simp [h, ih]
    · simp [h]
theorem trim_abc (l : List UInt8) : (Lib.trimS l abc.data.toList = []) ↔ l.all letterB = true := by
  unfold Lib.trimS Lib.trimLeftS Lib.trimRightS
  have e : (fun b => abc.data.toList.contains b) = letterB := funext abc_letter
  rw [e, dropWhile_nil]
  constructor
  · intro h
    cases hd : l.reverse.dropWhile letterB with
    | nil =>
      have := dropWhile_nil.1 hd
      simpa using this
    | cons a m =>
      rw [hd] at h
      have ha : letterB a = true := by
        have := List.all_eq_true.1 h a (by simp)
        exact this
      have hf := List.head?_dropWhile_not letterB l.reverse
      rw [hd] at hf
      simp [ha] at hf
  · intro h
    have : l.reverse.dropWhile letterB = [] := dropWhile_nil.2 (by simpa using h)
    rw [this]; rfl

set_option maxHeartbeats 400000 in
theorem ref_IsName (s : ByteArray) (w : World) (hs : s.size ≤ 140737488355328) :
    Calls Tryz.prog 57 #[.string s] w fun e w' => e = .returned (.bool (nameB s)) ∧ Below w.heap.size w w' := by
  have hcon := Any.strings_Trim_laid Tryz.trim (by kernel_rfl) s abc w (by omega) (by decide) (ascii_of_all (by decide))
  change Calls Tryz.prog 94 #[.string s, .string abc] w (fun e w' => e = .returned (.string ⟨(Lib.trimS s.data.toList abc.data.toList).toArray⟩) ∧ Below w.heap.size w w') at hcon
  have HT := Lib.hid (trim_abc s.data.toList)
  generalize Lib.trimS s.data.toList abc.data.toList = T at hcon HT
  unfold abc at hcon
  by_cases h0 : s.size = 0
  · have e0 : s.toList.isEmpty = true := by
      rw [ByteArray.toList_eq]
      have : s.data.toList = [] := List.length_eq_zero_iff.1 h0
      rw [this]; rfl
    have e1 : s.toList = [] := List.isEmpty_iff.1 e0
    have HE : Hid (nameB s = false) := by simp [nameB, h0, Hid]
    go_enter Tryz.func57, Tryz.ntmps57
    go_wp2
    go_ret
    exact ⟨ret_bool HE.out.symm, Below.refl _ _⟩
  · have e1 : ¬ s.toList = [] := by
      rw [ByteArray.toList_eq]
      intro h
      refine h0 ?_
      show s.data.toList.length = 0
      rw [h]; rfl
    have e0 : s.toList.isEmpty = false := by
      cases h : s.toList.isEmpty
      · rfl
      · exact absurd (List.isEmpty_iff.1 h) e1
    by_cases h9 : s.size < 9
    · have h9' : (s.size : Int) < 9 := by omega
      have HE : Hid (nameB s = s.data.toList.all letterB) := by
        show _ = _
        unfold nameB
        rw [decide_eq_true (show 0 < s.size by omega), decide_eq_true (show s.size ≤ 8 by omega)]; rfl
      go_enter Tryz.func57, Tryz.ntmps57
      go_wp2_with fail
      refine hcon.mono ?_
      rintro e w1 ⟨rfl, hb1⟩
      go_wp2
      go_ret
      refine ⟨ret_bool ?_, hb1⟩
      rw [HE.out]
      have h2 : T.isEmpty = decide (T = []) := by cases T <;> rfl
      rw [h2]
      cases ha : s.data.toList.all letterB
      · exact decide_eq_false fun h => by rw [HT.out.1 h] at ha; cases ha
      · exact decide_eq_true (HT.out.2 ha)
    · have h9' : 9 ≤ (s.size : Int) := by omega
      have HE : Hid (nameB s = false) := by
        show _ = _
        unfold nameB
        rw [decide_eq_false (show ¬ s.size ≤ 8 by omega)]; simp
      go_enter Tryz.func57, Tryz.ntmps57
      go_wp2
      go_ret
      exact ⟨ret_bool HE.out.symm, Below.refl _ _⟩

end Go.Proofs.YtmdljknlbmlacabGreatDoor
