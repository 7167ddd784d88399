/- ratebookkeep.texts returns true. Condition: the package variables that strconv and the policies read are as their initialisers lay them. -/
import Derived.Test.YtmdljknlbmlacabDoorTxtH
namespace Go.Proofs.YtmdljknlbmlacabDoor
open Go.RowKit Go.Shelf

theorem dom_bare {d : DomD} (h1 : nameB d.1 = true) (h2 : inB d.2.1) (h3 : inB d.2.2) : wordP ⟨domainW ++ [32] ++ d.1.data.toList ++ [32] ++ endsT d.2.1 d.2.2, false⟩ = (domainW, (wordP ⟨domainW ++ [32] ++ d.1.data.toList ++ [32] ++ endsT d.2.1 d.2.2, false⟩).2) ∧ domP (wordP ⟨domainW ++ [32] ++ d.1.data.toList ++ [32] ++ endsT d.2.1 d.2.2, false⟩).2 = (d, ⟨[], false⟩) := by
  obtain ⟨nm, lo, hi⟩ := d
  simp only at h1 h2 h3 ⊢
  have e : domainW ++ [32] ++ nm.data.toList ++ [32] ++ endsT lo hi = domainW ++ (32 :: (nm.data.toList ++ (32 :: (Lib.itoa lo ++ ([46, 46] ++ (Lib.itoa hi ++ [])))))) := by simp [endsT]
  rw [e]
  have hsp : letterB 32 = false := by decide
  have k0 := word_read (v := domainW) (rest := 32 :: (nm.data.toList ++ (32 :: (Lib.itoa lo ++ ([46, 46] ++ (Lib.itoa hi ++ [])))))) false (by decide) (by decide) (hdNot_cons hsp)
  rw [k0]
  refine ⟨rfl, ?_⟩
  simp only
  obtain ⟨r1, k1, k1'⟩ := str_read h1 (32 :: (Lib.itoa lo ++ ([46, 46] ++ (Lib.itoa hi ++ [])))) false (hdNot_cons hsp)
  have k1s : strP ⟨32 :: (nm.data.toList ++ (32 :: (Lib.itoa lo ++ ([46, 46] ++ (Lib.itoa hi ++ []))))), false⟩ = (nm, ⟨r1, false⟩) := by
    rw [← k1]
    exact strP_sim ⟨skip_sp _, rfl⟩
  have k2 : numberP ⟨r1, false⟩ = (lo, ⟨[46, 46] ++ (Lib.itoa hi ++ []), false⟩) := by
    rw [← number_read (rest := [46, 46] ++ (Lib.itoa hi ++ [])) false h2 (hdNot_cons (by decide))]
    exact numberP_sim ⟨by rw [k1', skip_sp], rfl⟩
  have k3 : wantsP [46, 46] ⟨[46, 46] ++ (Lib.itoa hi ++ []), false⟩ = ⟨Lib.itoa hi ++ [], false⟩ := wants_yes _ _ _ (skip_ns (by decide))
  have k4 := number_read (rest := []) false h3 (fun b hb => by simp at hb)
  unfold domP
  simp only [k1s, k2, k3, k4]
theorem parse_bare {d : DomD} (h : goodD d = true) : parseV (domainW ++ [32] ++ d.1.data.toList ++ [32] ++ endsT d.2.1 d.2.2) = (d, zeroT, false, 0) := by
  obtain ⟨h1, h2, h3⟩ := goodD_parts h
  obtain ⟨k1, k2⟩ := dom_bare h1 h2 h3
  have hl := domT_len h
  have e1 : (wordP ⟨domainW ++ [32] ++ d.1.data.toList ++ [32] ++ endsT d.2.1 d.2.2, false⟩).1 = domainW := by rw [k1]
  unfold domT at hl
  rw [List.length_append] at hl
  unfold parseV
  rw [if_neg (by omega), if_pos ⟨e1, by rw [k2]; rfl, by rw [k2]; exact h⟩, k2]
theorem itoa_1 : Lib.itoa 1 = [49] := by
  unfold Lib.itoa
  rw [if_neg (by decide), Lib.decDigits, dif_pos (by decide)]; rfl
theorem itoa_9 : Lib.itoa 9 = [57] := by
  unfold Lib.itoa
  rw [if_neg (by decide), Lib.decDigits, dif_pos (by decide)]; rfl
def dA : DomD := (⟨#[97]⟩, 1, 9)
def dAtext : Bs := [100, 111, 109, 97, 105, 110, 32, 97, 32, 49, 46, 46, 57]
theorem dA_good : goodD dA = true := by decide
theorem dA_parse : parseV dAtext = (dA, zeroT, false, 0) := by
  have h := parse_bare dA_good
  have e : domainW ++ [32] ++ dA.1.data.toList ++ [32] ++ endsT dA.2.1 dA.2.2 = dAtext := by
    show domainW ++ [32] ++ [97] ++ [32] ++ (Lib.itoa 1 ++ [46, 46] ++ Lib.itoa 9) = dAtext
    rw [itoa_1, itoa_9]; rfl
  rw [e] at h
  exact h
theorem dA_text : domT dA = dAtext ++ [10] := by
  show domainW ++ [32] ++ [97] ++ [32] ++ (Lib.itoa 1 ++ [46, 46] ++ Lib.itoa 9) ++ [10] = _
  rw [itoa_1, itoa_9]; rfl


theorem text_Parse' (l : Bs) (w : World) (hv : VarsOk w) (hs : l.length ≤ 140737488355328) (nm : ByteArray) (lo hi : Int) (tn : ByteArray) (pol : Int) (comp : Bool) (ins : List ByteArray) (rules : List RuleD) (is : Bool) (er : Int) (hR : parseV l = ((nm, lo, hi), ⟨tn, pol, comp, ins, rules⟩, is, er)) :
    Calls Tryd.prog 6 #[.string (bs l)] w fun e w' => ∃ Ai ci Ar cr, e = .returned (.tuple #[.agg #[.string nm, .int .i64 lo, .int .i64 hi], .agg #[.string tn, .int .i64 pol, .bool comp, .slice Ai ins.length ci, .slice Ar rules.length cr], .bool is, .int .i64 er]) ∧ TabAt w' (From w.heap.size w') ⟨tn, pol, comp, ins, rules⟩ (.agg #[.string tn, .int .i64 pol, .bool comp, .slice Ai ins.length ci, .slice Ar rules.length cr]) ∧ Below w.heap.size w w' := by
  have h := text_Parse l w hv hs
  rw [hR] at h
  refine h.mono ?_
  rintro e w' ⟨v, he, ht, hb⟩
  obtain ⟨vi, vr, rfl, hi', hr'⟩ := ht
  obtain ⟨Ai, ci, rfl, -, -⟩ := hi'.form
  obtain ⟨Ar, cr, rfl, -, -⟩ := hr'.form
  exact ⟨Ai, ci, Ar, cr, he, ⟨_, _, rfl, hi', hr'⟩, hb⟩
/-- the two results of a call of Parse, stored into two new blocks -/
def lay2 (w : World) (x y z a1 a2 a3 a4 a5 : Value) : World := (w.alloc (.cells #[x, y, z] 27)).alloc (.cells #[a1, a2, a3, a4, a5] 25)
theorem lay2_ok (w : World) (x y z a1 a2 a3 a4 a5 : Value) :
    Cs (lay2 w x y z a1 a2 a3 a4 a5) w.heap.size [x, y, z] ∧ Cs (lay2 w x y z a1 a2 a3 a4 a5) (w.heap.size + 1) [a1, a2, a3, a4, a5] ∧ Below w.heap.size w (lay2 w x y z a1 a2 a3 a4 a5) := by
  have h1 := below_alloc1 w (.cells #[x, y, z] 27)
  have C1 := Cs.new w [x, y, z] 27
  have hz : (w.alloc (.cells #[x, y, z] 27)).heap.size = w.heap.size + 1 := by simp
  unfold lay2
  change Cs (w.alloc (.cells #[x, y, z] 27)) _ _ at C1
  generalize w.alloc (.cells #[x, y, z] 27) = w1 at *
  have h2 := below_alloc1 w1 (.cells #[a1, a2, a3, a4, a5] 25)
  have C2 := Cs.new w1 [a1, a2, a3, a4, a5] 25
  rw [hz] at C2
  exact ⟨C1.next h2, C2, bx h1 h2⟩

set_option maxRecDepth 100000 in
set_option maxHeartbeats 1000000 in
theorem keep_texts (w : World) (hv : VarsOk w) :
    Calls Tryd.prog 9 #[] w fun e w' => e = .returned (.bool true) ∧ Below w.heap.size w w' := by
  have HV := Lib.hid hv
  have hp := text_Parse' dAtext w hv (by decide) ⟨#[97]⟩ 1 9 ⟨#[]⟩ 0 false [] [] false 0 dA_parse
  go_enter Tryd.func9, Tryd.ntmps9
  go_wp2_with fail
  refine hp.mono ?_
  rintro e w1 ⟨Ai, ci, Ar, cr, rfl, -, hb1⟩
  have HV1 := Lib.hid (HV.out.next hb1)
  clear hp
  obtain ⟨Cx, Cy, Bz⟩ := lay2_ok w1 (.string ⟨#[97]⟩) (.int .i64 1) (.int .i64 9) (.string ⟨#[]⟩) (.int .i64 0) (.bool false) (.slice Ai 0 ci) (.slice Ar 0 cr)
  unfold lay2 at Cx Cy Bz
  clear Cx Cy
  go_wp2_with fail
  generalize (w1.alloc (.cells #[.string ⟨#[97]⟩, .int .i64 1, .int .i64 9] 27)).alloc (.cells #[.string ⟨#[]⟩, .int .i64 0, .bool false, .slice Ai 0 ci, .slice Ar 0 cr] 25) = w2 at *
  have hd := text_Domain ⟨#[97]⟩ 1 9 w2 (HV1.out.next Bz) (by decide)
  rw [show goodD (⟨#[97]⟩, 1, 9) = true from dA_good, if_pos rfl, show domT (⟨#[97]⟩, 1, 9) = dAtext ++ [10] from dA_text] at hd
  refine hd.mono ?_
  rintro e w3 ⟨rfl, hb3⟩
  have e1 : bs (dAtext ++ [10]) = ⟨#[100, 111, 109, 97, 105, 110, 32, 97, 32, 49, 46, 46, 57, 10]⟩ := rfl
  rw [e1]
  clear hd e1
  go_wp2
  go_ret
  exact ⟨rfl, bx hb1 (bx Bz hb3)⟩

end Go.Proofs.YtmdljknlbmlacabDoor
