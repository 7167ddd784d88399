/- ratebooklaw.BookAsks returns true. Conditions: the book and the list read as lists in old memory; names and lists, and the names of inputs joined, fit into 2^47 bytes. Its parts: ratebookref.SameAnswers at two lists that read as the same: it answers true. ratebookref.value, which calls itself without a bound: of a book with an order it answers what the table of answers K says. Conditions: the argument's slices read as lists in old memory; names and lists fit into 2^47 bytes; each input of a table is a domain or a table of lower rank. ratebookref.AskBook as a Lean function of what its arguments read as. Conditions: the book and the list read as lists in old memory; names and lists fit into 2^47 bytes. -/
import Derived.Test.YtmdljknlbmlacabGreatDoorBookM
import Derived.Test.YtmdljknlbmlacabGreatDoorRefBookC
import Derived.Test.YtmdljknlbmlacabGreatDoorRefSays
import Derived.Test.YtmdljknlbmlacabGreatDoorRefSameT
import Derived.Test.YtmdljknlbmlacabGreatDoorRefBookD
import Derived.Test.YtmdljknlbmlacabGreatDoorRefBookF
import Derived.Test.YtmdljknlbmlacabGreatDoorKeepBooks
namespace Go.Proofs.YtmdljknlbmlacabGreatDoor
open Go.RowKit

theorem domK_at {ds : List DomD} : ∀ {l : List Int} {K : ByteArray → Option AnsD} {k : Nat} {d : DomD} {n : Int}, (ds.map (·.1)).Nodup → ds[k]? = some d → l[k]? = some n → domK ds l K d.1 = some (d.1, true, n) := by
  induction ds with
  | nil => intro l K k d n _ h; simp at h
  | cons e ds ih =>
    intro l K k d n hn h h'
    cases l with
    | nil => simp at h'
    | cons m l =>
      simp only [domK]
      simp only [List.map_cons, List.nodup_cons] at hn
      cases k with
      | zero =>
        simp at h h'
        subst h h'
        rw [domK_none (fun x hx e => hn.1 (List.mem_map.2 ⟨x, hx, e⟩)), putA_same]
      | succ k => exact ih hn.2 (by simpa using h) (by simpa using h')

set_option maxHeartbeats 1000000 in
theorem ref_SameAnswers (a : List AnsD) (va vb : Value) (w : World) (ha : Sl Enc.ans w (Old w) a va) (hb : Sl Enc.ans w (Old w) a vb) :
    Calls Tryz.prog 14 #[va, vb] w fun e w' => e = .returned (.bool true) ∧ Below w.heap.size w w' := by
  have HA := Lib.hid ha
  have HB := Lib.hid hb
  obtain ⟨A, c, rfl, hc1, hc2, -⟩ := ha
  obtain ⟨B, d, rfl, hd1, hd2, -⟩ := hb
  unfold maxLen at hc2 hd2
  have hne : ((a.length : Int) != (a.length : Int)) = false := by simp
  go_enter Tryz.func14, Tryz.ntmps14
  go_wp2
  go_loopw [13] (fun i wr => ∃ k : Nat, k ≤ a.length ∧ i = .int .i64 k ∧ Below w.heap.size w wr) (fun i _ => a.length - (intOf i).toNat)
  case atStart => exact ⟨0, Nat.zero_le _, rfl, Below.refl _ _⟩
  case round =>
    obtain ⟨k, hk, rfl, hbl⟩ := hrel
    by_cases hka : k < a.length
    · obtain ⟨ba, oa, nm, f, m, rfl, _, hx, a1, a2, a3⟩ := (HA.out.onOld hbl).ans_at hka
      obtain ⟨bb, ob, nm', f', m', rfl, _, hy, b1, b2, b3⟩ := (HB.out.onOld hbl).ans_at hka
      obtain ⟨rfl, rfl, rfl⟩ : nm' = nm ∧ f' = f ∧ m' = m := by
        have e := hx.out.symm.trans hy.out
        injection e with e
        injection e with e1 e2
        injection e2 with e2 e3
        exact ⟨e1.symm, e2.symm, e3.symm⟩
      have h1 : (k : Int) < a.length := by omega
      have h3 : (0 : Int) ≤ k := by omega
      have n1 := bytes_ne_self nm'
      have n2 : (f' != f') = false := by simp
      have n3 : (m' != m') = false := by simp
      go_wp2_with fail
      go_quiet (fail)
      go_wp2
      exact ⟨⟨k + 1, by omega, by go_num, below_drewN hbl _⟩, by simp [intOf]; omega⟩
    · go_wp2
      go_ret
      exact ⟨rfl, hbl⟩

set_option maxRecDepth 100000 in
set_option maxHeartbeats 4000000 in
theorem ref_value (b : BookD) (l : List Int) (hs : smallB b) (K : ByteArray → Option AnsD) (hdk : ∀ (k : Nat) (d : DomD) (n : Int), b.doms[k]? = some d → l[k]? = some n → K d.1 = some (d.1, true, n))
    (htk : ∀ t, t ∈ b.tabs → K t.name = some (ansOf K t)) (hl : l.length = b.doms.length) (rk : ByteArray → Nat)
    (hrk : ∀ t, t ∈ b.tabs → ∀ s, s ∈ t.ins → (findD b.doms s).isSome = true ∨ ((findT b.tabs s).isSome = true ∧ rk s < rk t.name)) (h3 : ∀ t, t ∈ b.tabs → t.ins.length ≤ 3) :
    ∀ (n : Nat) (s : ByteArray), ((findD b.doms s).isSome = true ∨ ((findT b.tabs s).isSome = true ∧ rk s < n)) → ∀ (v vl : Value) (w : World), BookAt w (Old w) b v → Sl Enc.int w (Old w) l vl →
    Calls Tryz.prog 36 #[v, vl, .string s] w fun e w' => e = .returned (.tuple #[.int .i64 (numA K s), .bool (foundA K s)]) ∧ Below w.heap.size w w' := by
  intro n
  induction n using Nat.strongRecOn with
  | ind n ih =>
  intro s hsr v vl w h hvl
  have IH := Lib.hid ih
  clear ih
  have HDK := Lib.hid hdk
  have HB := Lib.hid h
  have HV := Lib.hid hvl
  have HTS := Lib.hid (findT_small hs s)
  have HLE := Lib.hid hl
  have HSR : Hid (findD b.doms s = none → ∃ t, t ∈ b.tabs ∧ findT b.tabs s = some t ∧ t.ins.length ≤ 3 ∧ K s = some (ansOf K t) ∧ ∀ x, x ∈ t.ins → ∃ m, m < n ∧ ((findD b.doms x).isSome = true ∨ ((findT b.tabs x).isSome = true ∧ rk x < m))) := by
    intro hn
    rcases hsr with h0 | ⟨h0, h1⟩
    · rw [hn] at h0; cases h0
    · obtain ⟨t, ht⟩ := Option.isSome_iff_exists.1 h0
      obtain ⟨h2, h4⟩ := findT_some ht
      refine ⟨t, h2, ht, h3 t h2, by rw [← h4]; exact htk t h2, fun x hx => ⟨rk t.name, by rw [h4]; exact h1, hrk t h2 x hx⟩⟩
  clear hsr htk hrk h3 hdk hs hl
  obtain ⟨vd, vtb, rfl, h1, h2⟩ := h
  have HD := Lib.hid h1
  obtain ⟨A, c, rfl, hc1, hc2, -⟩ := h1
  obtain ⟨B, d, rfl, hd1, hd2, -⟩ := h2
  obtain ⟨Al, cl, rfl, hl1, hl2, -⟩ := hvl
  unfold maxLen at hc2 hd2 hl2
  have hb0 := below_alloc1 w (.cells #[.slice A b.doms.length c, .slice B b.tabs.length d] 25)
  have C0 := Lib.hid (Cs.new w [.slice A b.doms.length c, .slice B b.tabs.length d] 25)
  change Hid (Cs (w.alloc (.cells #[.slice A b.doms.length c, .slice B b.tabs.length d] 25)) _ _) at C0
  generalize hw0 : w.alloc (.cells #[.slice A b.doms.length c, .slice B b.tabs.length d] 25) = w0 at *
  have k0 := C0.out.at 0 rfl
  obtain ⟨N, hN⟩ : ∃ N, N = numA K s := ⟨_, rfl⟩
  obtain ⟨F, hF⟩ : ∃ F, F = foundA K s := ⟨_, rfl⟩
  rw [← hN, ← hF]
  have HNN := Lib.hid hN
  have HFF := Lib.hid hF
  clear hN hF
  go_enter Tryz.func36, Tryz.ntmps36
  go_wp2
  go_loopw [23] (fun i wr => ∃ k : Nat, k ≤ b.doms.length ∧ i = .int .i64 k ∧ Hid ((b.doms.take k).find? (fun d => sameS d.1 s) = none) ∧ Below w0.heap.size w0 wr) (fun i _ => b.doms.length - (intOf i).toNat)
  case atStart => exact ⟨0, Nat.zero_le _, rfl, rfl, Below.refl _ _⟩
  case round =>
    clear hw0 k0
    obtain ⟨k, hk, rfl, hf, hbl⟩ := hrel
    have hb := bx hb0 hbl
    have CB := Lib.hid (C0.out.next hbl)
    by_cases hlt : k < b.doms.length
    · obtain ⟨bb, o, nm, lo, hi, rfl, _, hx, c1, c2, c3⟩ := (HD.out.onOld hb).dom_at hlt
      have hlk : k < l.length := by rw [HLE.out]; exact hlt
      have hk0 : (0 : Int) ≤ k := by omega
      have hk1 : (k : Int) < b.doms.length := by omega
      have hk2 : (k : Int) < l.length := by omega
      have hbz := below_alloc1 wr (.cells #[.string nm, .int .i64 lo, .int .i64 hi] 69)
      have CN := Lib.hid (Cs.new wr [.string nm, .int .i64 lo, .int .i64 hi] 69)
      change Hid (Cs (wr.alloc (.cells #[.string nm, .int .i64 lo, .int .i64 hi] 69)) _ _) at CN
      have hblz := bx hbl hbz
      have hb0z := bx hb0 hblz
      have q0 := CN.out.at 0 rfl
      generalize hwz : wr.alloc (.cells #[.string nm, .int .i64 lo, .int .i64 hi] 69) = wz at *
      by_cases hq : (nm.toList == s.toList) = true
      · obtain ⟨bl, ol, x, rfl, _, hy, a1⟩ := (HV.out.onOld hb0z).num_at hlk
        have es : nm = s := sameS_eq.1 hq
        have HKS : Hid (N = x ∧ F = true) := by
          have e := HDK.out k _ _ hx.out hy.out
          simp only [es] at e
          rw [HNN.out, HFF.out]
          unfold numA foundA
          rw [e]
          exact ⟨rfl, rfl⟩
        clear es
        go_wp2
        go_ret2
        rw [HKS.out.1, HKS.out.2]
        exact ⟨rfl, hb0z⟩
      · have hq' : (nm.toList == s.toList) = false := by simpa using hq
        have HN := Lib.hid (find_more (p := fun d : DomD => sameS d.1 s) hf.out hx.out hq')
        clear hq
        go_wp2
        exact ⟨⟨k + 1, by omega, by go_num, HN, hblz⟩, by simp [intOf]; omega⟩
    · have HF0 : Hid (findD b.doms s = none) := by
        have := hf.out
        rw [List.take_of_length_le (by omega)] at this
        exact this
      obtain ⟨nt, hmem, hft, hl3, hks, hrks⟩ := HSR.out HF0.out
      have HKS := Lib.hid hks
      have HRK := Lib.hid hrks
      clear hks hrks hmem
      have HBk := Lib.hid (HB.out.onOld hb)
      have kB0 := CB.out.at 0 rfl
      have kB1 := CB.out.at 1 rfl
      go_wp2_with fail
      refine (ref_tableNamed b s _ _ HBk.out).mono ?_
      rintro e w2 ⟨vt2, rfl, ht2, hb2⟩
      rw [hft] at ht2 HTS
      rw [hft]
      simp only [Option.getD_some] at ht2 HTS
      have HT2 := Lib.hid ht2
      obtain ⟨vi, vr, rfl, hi2, hr2⟩ := ht2
      have HI2 := Lib.hid hi2
      obtain ⟨Ai, ci, rfl, hci, hcm⟩ := hi2.form
      obtain ⟨Ar, cr, rfl, -, -⟩ := hr2.form
      unfold maxLen at hcm
      clear hi2 hr2 kB0 kB1 hft
      simp only [Option.isSome_some]
      have hbz := below_alloc1 w2 (.cells #[.string nt.name, .int .i64 nt.pol, .bool nt.comp, .slice Ai nt.ins.length ci, .slice Ar nt.rules.length cr] 59)
      have CN := Lib.hid (Cs.new w2 [.string nt.name, .int .i64 nt.pol, .bool nt.comp, .slice Ai nt.ins.length ci, .slice Ar nt.rules.length cr] 59)
      change Hid (Cs (w2.alloc (.cells #[.string nt.name, .int .i64 nt.pol, .bool nt.comp, .slice Ai nt.ins.length ci, .slice Ar nt.rules.length cr] 59)) _ _) at CN
      have hb02 := bx hb (bx hb2 hbz)
      have C2 := Lib.hid (CB.out.next (bx hb2 hbz))
      have HIz := Lib.hid (HI2.out.onOld hbz)
      have HTz := Lib.hid (HT2.out.onOld hbz)
      have q3 := CN.out.at 3 rfl
      generalize hwz : w2.alloc (.cells #[.string nt.name, .int .i64 nt.pol, .bool nt.comp, .slice Ai nt.ins.length ci, .slice Ar nt.rules.length cr] 59) = wz at *
      go_wp2
      go_loopw [12, 46] (fun u i wr => ∃ k : Nat, k ≤ nt.ins.length ∧ i = .int .i64 k ∧ Hid (OwnG Enc.int wr wz.heap.size wz.heap.size 3 u ((nt.ins.take k).map (numA K))) ∧ Hid ((nt.ins.take k).all (foundA K) = true) ∧ Below wz.heap.size wz wr) (fun _ i _ => nt.ins.length - (intOf i).toNat)
      case atStart => exact ⟨0, Nat.zero_le _, rfl, OwnG.nil, rfl, Below.refl _ _⟩
      case round =>
        clear hwz q3
        rename World => wt
        obtain ⟨k, hk, rfl, HO, HFA, hbl⟩ := hrel
        have hbt := bx hb02 hbl
        have CBt := Lib.hid (C2.out.next hbl)
        have CNt := Lib.hid (CN.out.next hbl)
        by_cases hlt : k < nt.ins.length
        · obtain ⟨bb, o, x, rfl, _, hx, c1⟩ := (HIz.out.onOld hbl).str_at hlt
          obtain ⟨m, hm1, hm2⟩ := HRK.out x (List.mem_of_getElem? hx.out)
          have HBt := Lib.hid (HB.out.onOld hbt)
          have HVt := Lib.hid (HV.out.onOld hbt)
          have kB0 := CBt.out.at 0 rfl
          have kB1 := CBt.out.at 1 rfl
          go_wp2_with fail
          refine (IH.out m hm1 x hm2 _ _ _ HBt.out HVt.out).mono ?_
          rintro e w3 ⟨rfl, hb3⟩
          clear kB0 kB1 c1
          have hbl3 := bx hbl hb3
          have hb03 := bx hb02 hbl3
          have HO3 := Lib.hid (HO.out.next hb3)
          cases hfx : foundA K x
          · have HNO : Hid (N = 0 ∧ F = false) := by
              have ea : nt.ins.all (foundA K) = false := all_no hx.out hfx
              rw [HNN.out, HFF.out]
              unfold numA foundA
              rw [HKS.out]
              unfold ansOf
              rw [if_neg (by rw [ea]; decide)]
              exact ⟨rfl, rfl⟩
            clear hfx
            go_wp2
            go_ret2
            rw [HNO.out.1, HNO.out.2]
            exact ⟨rfl, hb03⟩
          · have HFB := Lib.hid (all_more HFA.out hx.out hfx)
            clear hfx
            generalize hnx : numA K x = nx at *
            have HTK : Hid ((nt.ins.take (k + 1)).map (numA K) = (nt.ins.take k).map (numA K) ++ [nx]) := by
              show _ = _
              rw [take_at hx.out, List.map_append]
              simp only [List.map_cons, List.map_nil]
              rw [hnx]
            clear hnx
            have hbb := below_alloc1 w3 (.cells #[.int .i64 nx] 3)
            have HOb := Lib.hid (HO3.out.next hbb)
            have hblb := bx hbl3 hbb
            have hszb := hblb.size
            have hlen : ((nt.ins.take k).map (numA K)).length ≤ 3 := by rw [List.length_map, List.length_take]; omega
            go_wp2_with (at_builtin; refine wpList_append_one (E := Enc.int) _ rfl _ _ 27 rfl wz.heap.size wz.heap.size 3 8 (.int .i64 0) under_intsT infoIntT rfl (by decide) _ _ rfl HOb.out ⟨w3.heap.size, 0, none⟩ nx [.int .i64 nx] rfl rfl (cell_one_new _ _ _) (by omega) (by unfold maxLen; omega) hszb ?_; intro v' wy hown' hgrowy hmvy)
            refine ⟨⟨k + 1, by omega, by go_num, ?_, HFB, hblb.grown hgrowy hszb (fun _ hr => (HOb.out.lt _ hr).1)⟩, by simp [intOf]; omega⟩
            show OwnG _ _ _ _ _ _ _
            rw [HTK.out]
            exact hown'
        · have e : nt.ins.take k = nt.ins := List.take_of_length_le (by omega)
          rw [e] at HO HFA
          have HSO := Lib.hid (HO.out.slOld (Nat.le_refl _))
          have HTt := Lib.hid (HTz.out.onOld hbl)
          have HYES : Hid (N = (saysV nt (nt.ins.map (numA K))).1 ∧ F = (saysV nt (nt.ins.map (numA K))).2.1) := by
            rw [HNN.out, HFF.out]
            unfold numA foundA
            rw [HKS.out]
            simp only [Option.map_some, Option.getD_some]
            unfold ansOf
            rw [if_pos HFA.out]
            exact ⟨rfl, rfl⟩
          have t0 := CNt.out.at 0 rfl
          have t1 := CNt.out.at 1 rfl
          have t2 := CNt.out.at 2 rfl
          have t3 := CNt.out.at 3 rfl
          have t4 := CNt.out.at 4 rfl
          go_wp2_with fail
          refine (ref_SaysOf nt (nt.ins.map (numA K)) _ _ _ HTt.out HSO.out HTS.out (by omega)).mono ?_
          rintro e w5 ⟨rfl, hb5⟩
          go_wp2
          go_ret2
          rw [HYES.out.1, HYES.out.2]
          exact ⟨rfl, bx hbt hb5⟩

end Go.Proofs.YtmdljknlbmlacabGreatDoor

namespace Go.Proofs.YtmdljknlbmlacabGreatDoor
open Go.RowKit

theorem ask_ranks {b : BookD} (hc : (checkV b).2.2 = 0) {l : List Int} (hl : l.length = b.doms.length) (hi : inDoms b.doms l = true) :
    ∃ rk : ByteArray → Nat, (∀ (k : Nat) (d : DomD) (n : Int), b.doms[k]? = some d → l[k]? = some n → askR b l d.1 = some (d.1, true, n)) ∧
      (∀ t, t ∈ b.tabs → askR b l t.name = some (ansOf (askR b l) t)) ∧
      (∀ t, t ∈ b.tabs → ∀ s, s ∈ t.ins → (findD b.doms s).isSome = true ∨ ((findT b.tabs s).isSome = true ∧ rk s < rk t.name)) ∧ ∀ t, t ∈ b.tabs → t.ins.length ≤ 3 := by
  obtain ⟨h1, h2, hgd, hgt, hbox, ⟨o, ho⟩, hbad⟩ := check_ok hc
  have hnd := good_nodup hgt
  have hP := orderO_facts hnd ho
  have hdn : (b.doms.map (·.1)).Nodup := by
    have hgd' := hgd
    unfold goodDs at hgd'; rw [Bool.and_eq_true] at hgd'; exact rise_nodup hgd'.2
  have f := ask_facts hc hl hi
  refine ⟨fun s => o.findIdx (fun x => sameS x s), ?_, fun t ht => (f.2 t ht).1, ?_, fun t ht => (goodIns_iff.1 (goodT_iff.1 (good_tab hgt ht)).2.2.2.1).2.1⟩
  · intro k d n hk hn
    have hd := List.mem_of_getElem? hk
    have hnt : d.1 ∉ namesT b.tabs := by
      intro hm
      obtain ⟨u, hu, e⟩ := List.mem_map.1 hm
      exact findD_none (good_apart hgt hu) hd e.symm
    rw [f.1 _ hnt]
    exact domK_at hdn hk hn
  · intro t ht s hs
    obtain ⟨r, _, _, hfrom⟩ := rng_from hgd hgt (List.all_eq_true.1 (hbox t ht) s hs)
    rcases hfrom with ⟨d, _, _, hfd, _⟩ | ⟨_, u, hu, hun, _⟩
    · exact Or.inl (by rw [hfd]; rfl)
    · have hm : s ∈ namesT b.tabs := List.mem_map.2 ⟨u, hu, hun⟩
      refine Or.inr ⟨findT_isSome.2 hm, ?_⟩
      have key : ∀ x, x ∈ namesT b.tabs → o[o.findIdx (fun y => sameS y x)]? = some x := by
        intro x hx
        have hxo := (hP.mem x).2 hx
        have hlt : o.findIdx (fun y => sameS y x) < o.length := List.findIdx_lt_length_of_exists ⟨x, hxo, sameS_refl x⟩
        rw [List.getElem?_eq_getElem hlt]
        have hq := List.findIdx_getElem (w := hlt)
        rw [sameS_eq.1 hq]
      exact hP.before hnd (fun _ h => h) ht hs (key t.name (List.mem_map.2 ⟨t, ht, rfl⟩)) (key s hm)

theorem ask_as {K : ByteArray → Option AnsD} {t : TabD} (h : K t.name = some (ansOf K t)) : (K t.name).getD zeroA = (t.name, foundA K t.name, numA K t.name) := by
  have e : (ansOf K t).1 = t.name := ansOf_name
  unfold foundA numA
  rw [h]
  simp only [Option.getD_some, Option.map_some]
  rw [← e]

set_option maxRecDepth 100000 in
set_option maxHeartbeats 4000000 in
theorem ref_AskBook (b : BookD) (l : List Int) (v vl : Value) (w : World) (h : BookAt w (Old w) b v) (hl : Sl Enc.int w (Old w) l vl) (hs : smallB b) (hii : ∀ t, t ∈ b.tabs → t.ins.length * 16 ≤ 140737488355328) :
    Calls Tryz.prog 13 #[v, vl] w (AskPost (askV b l) w) := by
  have HS := Lib.hid hs
  have HII := Lib.hid hii
  have HB := Lib.hid h
  have HL := Lib.hid hl
  have HX1 : Hid ((checkV b).2.2 ≠ 0 → askV b l = ([], (checkV b).2.2)) := ask_check
  have HX2 : Hid ((checkV b).2.2 = 0 → l.length ≠ b.doms.length → askV b l = ([], 1)) := ask_len
  have HX3 : Hid ((checkV b).2.2 = 0 → l.length = b.doms.length → inDoms b.doms l = false → askV b l = ([], 2)) := ask_range
  have HX4 : Hid ((checkV b).2.2 = 0 → l.length = b.doms.length → inDoms b.doms l = true → askV b l = (ansL b l, 0)) := ask_all
  clear hs hii
  generalize askV b l = R at *
  obtain ⟨vd, vt, rfl, h1, h2⟩ := h
  have HD := Lib.hid h1
  have HTS := Lib.hid h2
  obtain ⟨A, c, rfl, hc1, hc2, -⟩ := h1
  obtain ⟨B, d, rfl, hd1, hd2, -⟩ := h2
  obtain ⟨L, e, rfl, he1, he2, -⟩ := hl
  unfold maxLen at hc2 hd2 he2
  have hb0 := below_alloc1 w (.cells #[.slice A b.doms.length c, .slice B b.tabs.length d] 25)
  have C0 := Lib.hid (Cs.new w [.slice A b.doms.length c, .slice B b.tabs.length d] 25)
  change Hid (Cs (w.alloc (.cells #[.slice A b.doms.length c, .slice B b.tabs.length d] 25)) _ _) at C0
  generalize hw0 : w.alloc (.cells #[.slice A b.doms.length c, .slice B b.tabs.length d] 25) = w0 at *
  have k0 := C0.out.at 0 rfl
  have k1 := C0.out.at 1 rfl
  have HB0 := Lib.hid (HB.out.onOld hb0)
  go_enter Tryz.func13, Tryz.ntmps13
  go_wp2_with fail
  clear hw0
  refine (ref_CheckBook b _ _ HB0.out HS.out HII.out).mono ?_
  rintro ee w1 ⟨v1, rfl, hn1, hb1⟩
  obtain ⟨A1, c1, rfl, -, -⟩ := hn1.form
  clear hn1 k0 k1
  have hb01 := bx hb0 hb1
  have C1 := Lib.hid (C0.out.next hb1)
  have k0 := C1.out.at 0 rfl
  have k1 := C1.out.at 1 rfl
  by_cases hcd : ¬ (checkV b).2.2 = 0
  · have HR := Lib.hid (HX1.out hcd)
    generalize (checkV b).2.2 = cd at *
    have hcd' : (cd == 0) = false := by simpa using hcd
    go_wp2
    go_ret2
    exact AskPost.no HR.out hb01
  have hcd := Decidable.not_not.1 hcd
  have HC0 := Lib.hid hcd
  rw [hcd]
  clear hcd HX1
  by_cases hll : ¬ l.length = b.doms.length
  · have HR := Lib.hid (HX2.out HC0.out hll)
    have hll' : ((l.length : Int) == (b.doms.length : Int)) = false := beq_eq_false_iff_ne.2 (by omega)
    go_wp2
    go_ret2
    exact AskPost.no HR.out hb01
  have hll := Decidable.not_not.1 hll
  have HLL := Lib.hid hll
  have hll' : ((l.length : Int) == (b.doms.length : Int)) = true := by rw [beq_iff_eq]; omega
  have HX5 := Lib.hid (HX3.out HC0.out hll)
  have HX6 := Lib.hid (HX4.out HC0.out hll)
  have HOK := Lib.hid (check_ok HC0.out)
  have hd4 : b.doms.length ≤ 4 := HOK.out.1
  have ht4 : b.tabs.length ≤ 4 := HOK.out.2.1
  have hl4 : l.length ≤ 4 := by omega
  clear HX2 HX3 HX4 hll
  go_wp2
  have hne : ((l.length : Int) != (b.doms.length : Int)) = false := by simp only [bne, hll']; rfl
  (try simp only [hne])
  go_loopw [34] (fun i wr => ∃ k : Nat, k ≤ b.doms.length ∧ i = .int .i64 k ∧ Hid (inDoms (b.doms.take k) (l.take k) = true) ∧ Below w1.heap.size w1 wr) (fun i _ => b.doms.length - (intOf i).toNat)
  case atStart => exact ⟨0, Nat.zero_le _, rfl, rfl, Below.refl _ _⟩
  case round =>
    clear k0 k1 HB0 hll'
    obtain ⟨k, hk, rfl, HIN, hbl⟩ := hrel
    have hb := bx hb01 hbl
    have CB := Lib.hid (C1.out.next hbl)
    by_cases hlt : k < b.doms.length
    · obtain ⟨bb, o, nm, lo, hi, rfl, hSb, hx, c1, c2, c3⟩ := (HD.out.onOld hb).dom_at hlt
      obtain ⟨bi, oi, nn, rfl, hSi, hxn, ci⟩ := (HL.out.onOld hb).num_at (k := k) (by have := HLL.out; omega)
      have hbz := below_alloc1 wr (.cells #[.string nm, .int .i64 lo, .int .i64 hi] 69)
      have hb2 := bx hb hbz
      have hbl2 := bx hbl hbz
      have CN := Lib.hid (Cs.new wr [.string nm, .int .i64 lo, .int .i64 hi] 69)
      change Hid (Cs (wr.alloc (.cells #[.string nm, .int .i64 lo, .int .i64 hi] 69)) _ _) at CN
      have q1 := CN.out.at 1 rfl
      have q2 := CN.out.at 2 rfl
      have cia := (hbz.cell (p := ⟨bi, oi + k, none⟩) hSi).trans ci
      have HDM := Lib.hid (dom_more HLL.out.symm hx.out hxn.out (fun _ => none))
      have HDN := Lib.hid (inDoms_no HLL.out.symm hx.out hxn.out)
      have hk0 : (0 : Int) ≤ k := by omega
      have hk1 : (k : Int) < l.length := by have := HLL.out; omega
      generalize hwa : wr.alloc (.cells #[.string nm, .int .i64 lo, .int .i64 hi] 69) = wa at *
      by_cases h1 : nn < lo
      · have HR := Lib.hid (HX5.out (HDN.out (by simp; omega)))
        go_wp2_with fail
        go_quiet (fail)
        go_wp2
        go_ret2
        exact AskPost.no HR.out (below_drewN hb2 _)
      · have h1' : decide (nn < lo) = false := decide_eq_false h1
        by_cases h2 : hi < nn
        · have HR := Lib.hid (HX5.out (HDN.out (by simp; omega)))
          go_wp2_with fail
          go_quiet (fail)
          go_wp2
          go_ret2
          exact AskPost.no HR.out (below_drewN hb2 _)
        · have h2' : decide (hi < nn) = false := decide_eq_false h2
          have HIN2 : Hid (inDoms (b.doms.take (k + 1)) (l.take (k + 1)) = true) := by
            show _ = _
            rw [HDM.out.2, HIN.out]; simp; omega
          go_wp2_with fail
          go_quiet (fail)
          go_wp2
          exact ⟨⟨k + 1, by omega, by go_num, HIN2, below_drewN hbl2 _⟩, by simp [intOf]; omega⟩
    · have ek : k = b.doms.length := by omega
      subst ek
      rw [List.take_length, List.take_of_length_le (by have := HLL.out; omega)] at HIN
      have HR := Lib.hid (HX6.out HIN.out)
      obtain ⟨rk, r1, r2, r3, r4⟩ := ask_ranks HC0.out HLL.out HIN.out
      have HVAL : Hid (∀ t, t ∈ b.tabs → ∀ (v vl : Value) (w : World), BookAt w (Old w) b v → Sl Enc.int w (Old w) l vl →
          Calls Tryz.prog 36 #[v, vl, .string t.name] w fun e w' => e = .returned (.tuple #[.int .i64 (numA (askR b l) t.name), .bool (foundA (askR b l) t.name)]) ∧ Below w.heap.size w w') :=
        fun t ht => ref_value b l HS.out (askR b l) r1 r2 HLL.out rk r3 r4 (rk t.name + 1) t.name (Or.inr ⟨findT_isSome.2 (List.mem_map.2 ⟨t, ht, rfl⟩), Nat.lt_succ_self _⟩)
      have HAS : Hid (∀ t, t ∈ b.tabs → (askR b l t.name).getD zeroA = (t.name, foundA (askR b l) t.name, numA (askR b l) t.name)) := fun t ht => ask_as (r2 t ht)
      have HR2 : Hid (R = (b.tabs.map (fun t => (askR b l t.name).getD zeroA), 0)) := HR
      clear r1 r2 r3 r4 HR
      generalize askR b l = KK at *
      clear hlt hk HIN HX5 HX6
      have k0 := CB.out.at 0 rfl
      have k1 := CB.out.at 1 rfl
      rename World => w6
      go_wp2
      go_loopw [11, 59] (fun u i wr => ∃ k : Nat, k ≤ b.tabs.length ∧ i = .int .i64 k ∧ Hid (OwnG Enc.ans wr w6.heap.size w6.heap.size 84 u ((b.tabs.take k).map (fun t => (KK t.name).getD zeroA))) ∧ Below w6.heap.size w6 wr) (fun _ i _ => b.tabs.length - (intOf i).toNat)
      case atStart => exact ⟨0, Nat.zero_le _, rfl, OwnG.nil, Below.refl _ _⟩
      case round =>
        clear k0 k1
        rename World => wt
        obtain ⟨k, hk, rfl, HO, hblt⟩ := hrel
        have hbt := bx hb hblt
        by_cases hlt : k < b.tabs.length
        · obtain ⟨bb, o, nm, pol, comp, ins, rules, vi, vr, rfl, hSb, hx, c1, c2, c3, c4, c5', hi, hr⟩ := (HTS.out.onOld hbt).tab_at hlt
          obtain ⟨Ai, ci, rfl, -, -⟩ := hi.form
          obtain ⟨Ar, cr, rfl, -, -⟩ := hr.form
          clear hi hr
          have HMEM := Lib.hid (List.mem_of_getElem? hx.out)
          have hbz := below_alloc1 wt (.cells #[.string nm, .int .i64 pol, .bool comp, .slice Ai ins.length ci, .slice Ar rules.length cr] 59)
          have CN := Lib.hid (Cs.new wt [.string nm, .int .i64 pol, .bool comp, .slice Ai ins.length ci, .slice Ar rules.length cr] 59)
          change Hid (Cs (wt.alloc (.cells #[.string nm, .int .i64 pol, .bool comp, .slice Ai ins.length ci, .slice Ar rules.length cr] 59)) _ _) at CN
          have hblz := bx hblt hbz
          have hb0z := bx hb hblz
          have HOz := Lib.hid (HO.out.next hbz)
          have CBz := Lib.hid (CB.out.next hblz)
          have HBz := Lib.hid (HB.out.onOld hb0z)
          have HLz := Lib.hid (HL.out.onOld hb0z)
          have q0 := CN.out.at 0 rfl
          have k0 := CBz.out.at 0 rfl
          have k1 := CBz.out.at 1 rfl
          generalize hwa : wt.alloc (.cells #[.string nm, .int .i64 pol, .bool comp, .slice Ai ins.length ci, .slice Ar rules.length cr] 59) = wa at *
          go_wp2_with fail
          clear hwa
          refine (HVAL.out _ HMEM.out _ _ _ HBz.out HLz.out).mono ?_
          rintro ee w7 ⟨rfl, hb7⟩
          have CN7 := Lib.hid (CN.out.next hb7)
          have HAQ : Hid ((KK nm).getD zeroA = (nm, foundA KK nm, numA KK nm)) := HAS.out _ HMEM.out
          simp only
          generalize foundA KK nm = af at *
          generalize numA KK nm = am at *
          clear q0 k0 k1
          have q0 := CN7.out.at 0 rfl
          have hbl7 := bx hblz hb7
          have hbb := below_alloc1 w7 (.cells #[.string nm, .bool af, .int .i64 am] 84)
          have HOb := Lib.hid ((HOz.out.next hb7).next hbb)
          have hblb := bx hbl7 hbb
          have hszb := hblb.size
          have hlen : ((b.tabs.take k).map (fun t => (KK t.name).getD zeroA)).length ≤ 4 := by rw [List.length_map, List.length_take]; omega
          have HY : Hid (Enc.ans.rd (w7.alloc (.cells #[.string nm, .bool af, .int .i64 am] 84)) (Off w6.heap.size (w7.alloc (.cells #[.string nm, .bool af, .int .i64 am] 84)) u11) (nm, af, am) [.string nm, .bool af, .int .i64 am]) := Enc.ans_rd.2 rfl
          have HTK : Hid ((b.tabs.take (k + 1)).map (fun t => (KK t.name).getD zeroA) = (b.tabs.take k).map (fun t => (KK t.name).getD zeroA) ++ [(nm, af, am)]) := by
            show _ = _
            rw [take_at hx.out, List.map_append]
            simp only [List.map_cons, List.map_nil]
            rw [HAQ.out]
          go_wp2_with (at_builtin; refine wpList_append_one (E := Enc.ans) _ rfl _ _ 35 rfl w6.heap.size w6.heap.size 84 32 (.agg #[.string ⟨#[]⟩, .bool false, .int .i64 0]) ans_under ans_info rfl (by decide) _ _ rfl HOb.out ⟨w7.heap.size, 0, none⟩ (nm, af, am) [.string nm, .bool af, .int .i64 am] rfl HY.out (cell_new3 _ _ _ _ _) (by omega) (by unfold maxLen; omega) hszb ?_; intro v' wz hown' hgrowz hmvz)
          refine ⟨⟨k + 1, by omega, by go_num, ?_, hblb.grown hgrowz hszb (fun _ hr => (HOb.out.lt _ hr).1)⟩, by simp [intOf]; omega⟩
          show OwnG _ _ _ _ _ _ _
          rw [HTK.out]
          exact hown'
        · have e : b.tabs.take k = b.tabs := List.take_of_length_le (by omega)
          rw [e] at HO
          go_wp2
          go_ret2
          rw [HR2.out]
          exact ⟨_, rfl, (HO.out.sl (Nat.le_refl _)).more (fun k hk => ⟨Nat.le_trans hb.size hk.1, hk.2⟩), hbt⟩

end Go.Proofs.YtmdljknlbmlacabGreatDoor

namespace Go.Proofs.YtmdljknlbmlacabGreatDoor
open Go.RowKit

theorem check_place {b : BookD} (h : (checkV b).2.2 = 0 ∨ (checkV b).2.2 = 6 ∨ (checkV b).2.2 = 8 ∨ (checkV b).2.2 = 7) : b.tabs.length ≤ 4 ∧ goodTs b = true := by
  unfold checkV at h
  split at h
  · simp at h
  · rename_i h1
    split at h
    · simp at h
    · rename_i h2
      exact ⟨by omega, by cases hg : goodTs b <;> simp_all⟩

set_option maxRecDepth 100000 in
set_option maxHeartbeats 4000000 in
theorem law_BookAsks (b : BookD) (l : List Int) (v vl : Value) (w : World) (h : BookAt w (Old w) b v) (hl : Sl Enc.int w (Old w) l vl) (hs : smallB b) (hd : b.doms.length * 32 ≤ 140737488355328) (ht : b.tabs.length * 80 ≤ 140737488355328) (hc : ∀ t, t ∈ b.tabs → copyT t) (hj : ∀ t, t ∈ b.tabs → joinT t) (hl8 : l.length * 8 ≤ 140737488355328) :
    Calls Tryz.prog 4 #[v, vl] w fun e w' => e = .returned (.bool true) ∧ Below w.heap.size w w' := by
  have HS := Lib.hid hs
  have HB := Lib.hid h
  have HL := Lib.hid hl
  have HC := Lib.hid hc
  have HJ := Lib.hid hj
  have HII : Hid (∀ t, t ∈ b.tabs → t.ins.length * 16 ≤ 140737488355328) := fun t ht => (hc t ht).1
  clear hs hc hj
  obtain ⟨vd, vt, rfl, h1, h2⟩ := h
  obtain ⟨A, c, rfl, hc1, hc2, -⟩ := h1
  obtain ⟨B, d, rfl, hd1, hd2, -⟩ := h2
  obtain ⟨L, le, rfl, he1, he2, -⟩ := hl
  unfold maxLen at he2
  have hb0 := below_alloc1 w (.cells #[.slice A b.doms.length c, .slice B b.tabs.length d] 25)
  have C0 := Lib.hid (Cs.new w [.slice A b.doms.length c, .slice B b.tabs.length d] 25)
  change Hid (Cs (w.alloc (.cells #[.slice A b.doms.length c, .slice B b.tabs.length d] 25)) _ _) at C0
  generalize hw0 : w.alloc (.cells #[.slice A b.doms.length c, .slice B b.tabs.length d] 25) = w0 at *
  have k0 := C0.out.at 0 rfl
  have k1 := C0.out.at 1 rfl
  have HB0 := Lib.hid (HB.out.onOld hb0)
  go_enter Tryz.func4, Tryz.ntmps4
  go_wp2_with fail
  clear hw0
  refine (ref_CopyBook b _ _ HB0.out hd ht HC.out).mono ?_
  rintro e w1 ⟨u, rfl, hu, hb1⟩
  have HU := Lib.hid hu
  obtain ⟨ud, ut, rfl, g1, g2⟩ := hu
  obtain ⟨A1, c1, rfl, -, -⟩ := g1.form
  obtain ⟨B1, d1, rfl, -, -⟩ := g2.form
  clear g1 g2 k0 k1
  have hbz := below_alloc1 w1 (.cells #[.slice A1 b.doms.length c1, .slice B1 b.tabs.length d1] 25)
  have CU := Lib.hid (Cs.new w1 [.slice A1 b.doms.length c1, .slice B1 b.tabs.length d1] 25)
  change Hid (Cs (w1.alloc (.cells #[.slice A1 b.doms.length c1, .slice B1 b.tabs.length d1] 25)) _ _) at CU
  have hb02 := bx hb0 (bx hb1 hbz)
  have C2 := Lib.hid (C0.out.next (bx hb1 hbz))
  have HU2 := Lib.hid (HU.out.onOld hbz)
  have HL2 := Lib.hid (HL.out.onOld hb02)
  have u0 := CU.out.at 0 rfl
  have u1 := CU.out.at 1 rfl
  have hgu := CU.out.1
  generalize hw2 : w1.alloc (.cells #[.slice A1 b.doms.length c1, .slice B1 b.tabs.length d1] 25) = w2 at *
  go_wp2_with fail
  clear hw2
  go_region_held3 (fun w' => w'.cell? ⟨w1.heap.size, 0, none⟩ = some (.slice A1 b.doms.length c1) ∧ w'.cell? ⟨w1.heap.size, 1, none⟩ = some (.slice B1 b.tabs.length d1)) (first | exact ⟨u0, u1⟩ | exact ⟨f0, f1⟩ | exact ⟨g0, g1⟩)
    (first
     | (refine step_append_all (E := Enc.int) rfl (.const (.slice none 0 0)) (.tmp 22) 27 rfl w2.heap.size w2.heap.size 3 8 (.int .i64 0) under_intsT infoIntT rfl (by decide) (.slice none 0 0) [] (by simp [Act.eval]) OwnG.nil (.slice L l.length le) l (by simp [Act.eval]) (Old w2) ?_ (fun _ _ h => h) (by simp; omega) (by unfold maxLen; simp; omega) (Nat.le_refl _) ?_; exact HL2.out; intro v5 w5 ho5 hg5 hmv5; clear hmv5; rw [List.nil_append] at ho5; have hn5 := Lib.hid (ho5.slOld (Nat.le_refl _)); obtain ⟨A5, c5, rfl, -, -⟩ := ho5.form; have hb5 : Below w2.heap.size w2 w5 := (Below.refl _ _).drew.grown hg5 (Nat.le_refl _) (fun _ h => by cases h); have f0 := (hb5.cell (p := ⟨w1.heap.size, 0, none⟩) hgu).trans u0; have f1 := (hb5.cell (p := ⟨w1.heap.size, 1, none⟩) hgu).trans u1; have hgu5 := Nat.lt_of_lt_of_le hgu hb5.size; clear ho5 hg5)
     | (go_at_call 12; refine (book_Ask b l _ _ _ ?_ ?_ HS.out).mono ?_; exact HU2.out.onOld hb5; exact hn5.out; rintro e6 w6 ⟨v6, rfl, hn6, hb6⟩; have HN6 := Lib.hid (hn6.more (fun _ h => h.2) : Sl Enc.ans w6 (Old w6) (askV b l).1 v6); obtain ⟨A6, c6, rfl, -, -⟩ := hn6.form; clear hn6; have g0 := (hb6.cell (p := ⟨w1.heap.size, 0, none⟩) hgu5).trans f0; have g1 := (hb6.cell (p := ⟨w1.heap.size, 1, none⟩) hgu5).trans f1))
  have hb26 := bx hb5 hb6
  have hb06 := bx hb02 hb26
  have C6 := Lib.hid (C2.out.next hb26)
  have CU6 := Lib.hid (CU.out.next hb26)
  have HU6 := Lib.hid (HU2.out.onOld hb26)
  have HB6 := Lib.hid (HB.out.onOld hb06)
  have HL6 := Lib.hid (HL.out.onOld hb06)
  clear u0 u1 f0 f1 g0 g1 hn5 hb5 hb6 hgu5
  have k0 := C6.out.at 0 rfl
  have k1 := C6.out.at 1 rfl
  go_wp2_with fail
  refine (ref_AskBook b l _ _ _ HB6.out HL6.out HS.out HII.out).mono ?_
  rintro e7 w7 ⟨v7, rfl, hn7, hb7⟩
  have HN7 := Lib.hid (hn7.more (fun _ h => h.2) : Sl Enc.ans w7 (Old w7) (askV b l).1 v7)
  obtain ⟨A7, c7, rfl, -, -⟩ := hn7.form
  have hb07 := bx hb06 hb7
  have C7 := Lib.hid (C6.out.next hb7)
  have CU7 := Lib.hid (CU6.out.next hb7)
  have HU7 := Lib.hid (HU6.out.onOld hb7)
  have HB7 := Lib.hid (HB.out.onOld hb07)
  have HN67 := Lib.hid (HN6.out.onOld hb7)
  clear hn7 k0 k1
  generalize askV b l = R at *
  obtain ⟨ra, rc⟩ := R
  simp only at HN7 HN67 ⊢
  have y1 : (rc == rc) = true := by simp
  have y2 : (rc != rc) = false := by simp
  go_wp2_with fail
  refine (ref_SameAnswers ra _ _ _ HN67.out HN7.out).mono ?_
  rintro e8 w8 ⟨rfl, hb8⟩
  have hb08 := bx hb07 hb8
  have C8 := Lib.hid (C7.out.next hb8)
  have CU8 := Lib.hid (CU7.out.next hb8)
  have HU8 := Lib.hid (HU7.out.onOld hb8)
  have HB8 := Lib.hid (HB7.out.onOld hb8)
  have k0 := C8.out.at 0 rfl
  have k1 := C8.out.at 1 rfl
  have u0 := CU8.out.at 0 rfl
  have u1 := CU8.out.at 1 rfl
  go_wp2_with fail
  refine (ref_SameBook b _ _ _ HU8.out HB8.out HJ.out).mono ?_
  rintro e9 w9 ⟨rfl, hb9⟩
  clear k0 k1 u0 u1
  go_wp2_with fail
  refine (law_books _).mono ?_
  rintro e10 w10 ⟨rfl, hb10⟩
  have hb8t := bx hb9 hb10
  have hb0t := bx hb08 hb8t
  have Ct := Lib.hid (C8.out.next hb8t)
  have CUt := Lib.hid (CU8.out.next hb8t)
  have HUt := Lib.hid (HU8.out.onOld hb8t)
  have HBt := Lib.hid (HB.out.onOld hb0t)
  have k0 := Ct.out.at 0 rfl
  have k1 := Ct.out.at 1 rfl
  go_wp2_with fail
  refine (ref_CheckBook b _ _ HBt.out HS.out HII.out).mono ?_
  rintro e11 w11 ⟨v11, rfl, hn11, hb11⟩
  obtain ⟨A11, c11, rfl, -, -⟩ := hn11.form
  clear hn11 k0 k1
  have hb0u := bx hb0t hb11
  have Cu := Lib.hid (Ct.out.next hb11)
  have CUu := Lib.hid (CUt.out.next hb11)
  have HUu := Lib.hid (HUt.out.onOld hb11)
  have HPL : Hid ((checkV b).2.2 = 0 ∨ (checkV b).2.2 = 6 ∨ (checkV b).2.2 = 8 ∨ (checkV b).2.2 = 7 → b.tabs.length ≤ 4 ∧ goodTs b = true) := check_place
  generalize (checkV b).1 = q1 at *
  generalize (checkV b).2.1.length = q2 at *
  generalize (checkV b).2.2 = cd at *
  by_cases hG : ¬ (cd = 0 ∨ cd = 6 ∨ cd = 8 ∨ cd = 7)
  · have z0 : (cd == 0) = false := beq_eq_false_iff_ne.2 (by omega)
    have z6 : (cd == 6) = false := beq_eq_false_iff_ne.2 (by omega)
    have z8 : (cd == 8) = false := beq_eq_false_iff_ne.2 (by omega)
    have z7 : (cd == 7) = false := beq_eq_false_iff_ne.2 (by omega)
    have x0 : (cd != 0) = true := by rw [bne, z0]; rfl
    have x6 : (cd != 6) = true := by rw [bne, z6]; rfl
    have x8 : (cd != 8) = true := by rw [bne, z8]; rfl
    have x7 : (cd != 7) = true := by rw [bne, z7]; rfl
    clear z0 z6 z8 z7
    go_wp2
    go_ret
    exact ⟨rfl, hb0u⟩
  have hG := Decidable.not_not.1 hG
  obtain ⟨ht4, hgt⟩ := HPL.out hG
  have HGT := Lib.hid hgt
  have HND := Lib.hid (good_nodup hgt)
  clear hgt HPL
  have u0 := CUu.out.at 0 rfl
  have u1 := CUu.out.at 1 rfl
  rcases hG with rfl | rfl | rfl | rfl
  all_goals
    go_wp2_with fail
    refine (book_Order b _ _ HUu.out HS.out HND.out (by omega)).mono ?_
    rintro e12 w12 ⟨v12, rfl, hn12, hb12⟩
    have HN12 := Lib.hid (hn12.more (fun _ h => h.2) : Sl Enc.str w12 (Old w12) ((orderO b.tabs).getD []) v12)
    obtain ⟨A12, c12, rfl, hle12, hm12⟩ := hn12.form
    have hb012 := bx hb0u hb12
    have C12 := Lib.hid (Cu.out.next hb12)
    have HB12 := Lib.hid (HB.out.onOld hb012)
    clear hn12 u0 u1
    have k0 := C12.out.at 0 rfl
    have k1 := C12.out.at 1 rfl
    go_wp2_with fail
    refine (ref_OrderOf b _ _ HB12.out HS.out HND.out ht4 (fun t ht => good_tab HGT.out ht)).mono ?_
    rintro e13 w13 ⟨v13, rfl, hn13, hb13⟩
    have HN13 := Lib.hid (hn13.more (fun _ h => h.2) : Sl Enc.str w13 (Old w13) ((orderO b.tabs).getD []) v13)
    obtain ⟨A13, c13, rfl, -, hm13⟩ := hn13.form
    have HN123 := Lib.hid (HN12.out.onOld hb13)
    have hb013 := bx hb012 hb13
    clear hn13 k0 k1
    generalize (orderO b.tabs).getD [] = OL at *
    generalize (orderO b.tabs).isSome = OB at *
    unfold maxLen at hm12 hm13
    have n1 : ((OL.length : Int) != (OL.length : Int)) = false := by simp
    have n1' : ((OL.length : Int) == (OL.length : Int)) = true := by simp
    have n2 : (OB != OB) = false := by simp
    have n2' : (OB == OB) = true := by simp
    have hol : OL.length ≤ 2 ^ 63 - 1 := by omega
    go_wp2
    go_loopw [94] (fun i wr => ∃ k : Nat, k ≤ OL.length ∧ i = .int .i64 k ∧ Below w13.heap.size w13 wr) (fun i _ => OL.length - (intOf i).toNat)
    case atStart => exact ⟨0, Nat.zero_le _, rfl, Below.refl _ _⟩
    case round =>
      obtain ⟨k, hk, rfl, hbl⟩ := hrel
      by_cases hka : k < OL.length
      · obtain ⟨ba, oa, x, rfl, _, hx, a1⟩ := (HN123.out.onOld hbl).str_at hka
        obtain ⟨bb, ob, y, rfl, _, hy, b1⟩ := (HN13.out.onOld hbl).str_at hka
        obtain rfl : y = x := by
          have e := hx.out.symm.trans hy.out
          injection e with e
          exact e.symm
        have h1 : (k : Int) < OL.length := by omega
        have h3 : (0 : Int) ≤ k := by omega
        have m1 := bytes_ne_self y
        have m2 : (y.toList == y.toList) = true := by simp
        have m3 : (y.toList != y.toList) = false := by simp
        go_wp2_with fail
        go_quiet (fail)
        go_wp2
        exact ⟨⟨k + 1, by omega, by go_num, below_drewN hbl _⟩, by simp [intOf]; omega⟩
      · go_wp2
        go_ret
        exact ⟨rfl, bx hb013 hbl⟩

end Go.Proofs.YtmdljknlbmlacabGreatDoor
