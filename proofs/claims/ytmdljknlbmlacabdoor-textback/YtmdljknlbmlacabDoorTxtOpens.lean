/- Arguments that are domains read as Lean data; what the listed package variables hold. No condition. -/
import Derived.Test.YtmdljknlbmlacabDoorTabOpens
import Derived.Test.YtmdljknlbmlacabDoorTxtB
import Derived.Stop.LaidErr
import Derived.Lib.LaidTab
namespace Go.Proofs.YtmdljknlbmlacabDoor
open Go.ChangeShapes Go.WideShapes Go.ChangeAt Go.RowKit Go.Deep

theorem opensDomP {fs : Array Field} (hu : Tryd.prog.underlying 27 = some (.struct fs)) {f0 f1 f2 : Field} (hf : fs = #[f0, f1, f2]) (o0 : f0.offset = 0) (o1 : f1.offset = 1) (o2 : f2.offset = 2)
    (t0 : f0.type = 9) (t1 : f1.type = 3) (t2 : f2.type = 3) : Opens Tryd.prog Enc.dom 27 (fun d => d.1.size ≤ reachBytes) := by
  have h := opens_struct (E := Enc.dom) (t := 27) hu (by kernel_rfl) (by
    rw [hf]
    exact opensF_cons (off := 0) o0 (by rw [t0]; kernel_rfl) (by rw [t0]; exact opens_str Tryd.underlying9) (opensF_cons o1 (by rw [t1]; kernel_rfl) (by rw [t1]; exact opens_int Tryd.underlying3) (opensF_one o2 (by rw [t2]; kernel_rfl) (by rw [t2]; exact opens_int Tryd.underlying3))))
  intro H enc W base spare held fuel cs x h1 h2
  obtain ⟨y, hy, f0, f1, _⟩ := h H enc W base spare held fuel cs x h1 h2
  exact ⟨y, hy, f0⟩
set_option maxRecDepth 100000 in
theorem opensDom : Opens Tryd.prog Enc.dom 27 (fun d => d.1.size ≤ reachBytes) := opensDomP Tryd.underlying27 rfl rfl rfl rfl rfl rfl rfl
set_option maxRecDepth 100000 in
/-- an argument that is a domain -/
theorem openDom {H : Type} {enc : TypeId × Value → H} {W : World} {base b0 : Nat} {spare : Nat → Bool} {held : Bool} {r : Reach} {v : Value} {d : DataW H} {p : List MemPlace} (hv : Value.okWide Tryd.prog W r b0 27 v)
    (h : DataW.Trod enc Tryd.prog W base spare held 27 v d p) {ts : List TypeId} {ds : List (DataW H)} (hsz : (DataW.weightsEach Tryd.prog ts ds).all (· ≤ reachBytes) = true) {j : Nat} (ht : ts[j]? = some 27) (hd : ds[j]? = some d) :
    ∃ (nm : ByteArray) (lo hi : Int), v = .agg #[.string nm, .int .i64 lo, .int .i64 hi] ∧ nm.size ≤ reachBytes := by
  obtain ⟨cs, rfl, _⟩ := okWide_struct Tryd.underlying27 hv
  obtain ⟨fuel, hf⟩ := h
  have hf' : DataW.trod enc Tryd.prog W base spare held fuel 27 cs.toList = some (d, p) := hf
  obtain ⟨⟨nm, lo, hi⟩, ht', hy⟩ := opensDom H enc W base spare held fuel _ _ hf' (fun n hn => by simpa using List.all_eq_true.1 hsz _ (DataW.weights_mem_each ht hd n hn))
  obtain ⟨c1, _, e, h1, c2, c3, rfl, h2, h3⟩ := ht'
  have h1' : c1 = [.string nm] := h1
  have h2' : c2 = [.int .i64 lo] := h2
  have h3' : c3 = [.int .i64 hi] := h3
  subst h1' h2' h3'
  refine ⟨nm, lo, hi, ?_, hy⟩
  have : cs = [.string nm, .int .i64 lo, .int .i64 hi].toArray := by rw [show [.string nm, .int .i64 lo, .int .i64 hi] = cs.toList from e.symm]
  rw [this]

/-- an array of texts that reads as the texts zs holds them, cell for cell -/
theorem cells_of_strs {H : Type} {enc : TypeId × Value → H} {P : Program} {w : World} {base : Nat} {sp : Nat → Bool} {held : Bool} {fuel : Nat} {t e : TypeId} {n : Nat} {cs : List Value} {zs : List (List UInt8)} {p : List MemPlace}
    (ht : P.underlying t = some (.array n e)) (he : P.underlying e = some .string) (hce : P.cellsOf e = 1) (hct : P.cellsOf t = n)
    (h : DataW.trod enc P w base sp held fuel t cs = some (.agg (zs.map fun z => (DataW.lit (.string z) : DataW H)), p)) : cs = zs.map fun z => Value.string (bs z) := by
  cases fuel with
  | zero => simp [DataW.trod] at h
  | succ fuel =>
    simp only [DataW.trod, ht, hce, hct, Nat.mul_one] at h
    split at h
    · rename_i hl
      obtain ⟨xs, hm, hx⟩ := Option.map_eq_some_iff.1 h
      have hxs : xs.map (·.1) = zs.map fun z => (DataW.lit (.string z) : DataW H) := by
        have := congrArg Prod.fst hx
        simpa using this
      have hxl : xs.length = n := by simpa using Lib.mapM_length hm
      have hzl : zs.length = n := by
        have := congrArg List.length hxs
        simp at this
        omega
      apply List.ext_getElem?
      intro i
      by_cases hi : i < n
      · obtain ⟨b, hb, hf⟩ := Lib.mapM_at hm i i (by simp [hi])
        obtain ⟨s, hc, rfl, _⟩ := DataW.trod_string he hf
        have h1 : cs[i]? = some (.string s) := by
          have := congrArg (·[0]?) hc
          simpa [List.getElem?_take, List.getElem?_drop] using this
        have h2 : (xs.map (·.1))[i]? = some (DataW.lit (.string s.data.toList) : DataW H) := by simp [hb]
        rw [hxs] at h2
        simp only [List.getElem?_map, Option.map_eq_some_iff, DataW.lit.injEq, Lit.string.injEq] at h2
        obtain ⟨z, hz, e⟩ := h2
        rw [h1, List.getElem?_map, hz]
        simp only [Option.map_some]
        rw [e, bs_of]
      · rw [List.getElem?_eq_none (by omega), List.getElem?_eq_none (by simp; omega)]
    · cases h
theorem strs_of_head {P : Program} {W : World} {name : String} {zs : List (List UInt8)} {rest : List (String × DataW Unit)} {g : Nat} {t e : TypeId} {n : Nat}
    (hg : P.globalNamed name = some g) (hty : (P.globals[g]?).map (·.type) = some t) (ht : P.underlying t = some (.array n e)) (he : P.underlying e = some .string) (hce : P.cellsOf e = 1) (hct : P.cellsOf t = n)
    (h : laidMet P ((name, .agg (zs.map fun z => .lit (.string z))) :: rest) W) : W.var? P name = some ((zs.map fun z => Value.string (bs z)).toArray) := by
  obtain ⟨ps, ⟨g', t', cs, fuel, p, q, hg', ht', hvar, hd, _, _⟩, _⟩ := h
  obtain rfl := Option.some.inj (hg.symm.trans hg')
  obtain rfl := Option.some.inj (hty.symm.trans ht')
  rw [hvar, ← cells_of_strs ht he hce hct hd]

theorem x_star : "*" ++ "errors.errorString" = "*errors.errorString" := by decide
theorem x_row (u : TypeId) (h : Tryd.prog.typeName? 3 u = some "*errors.errorString") : u = 144 :=
  typeName_ptr_named (nm := "errors.errorString") (by rw [x_star]; kernel_rfl) (by kernel_rfl) (by decide) u (by rw [x_star]; exact h)
theorem pow10_datum : (Rows.laid_internal_strconv_uint64pow10 : DataW Unit) = Lib.tabData .u64 Lib.pow10Tab := by rfl
theorem pol_datum : (Rows.laid_ratebook_text_policies : DataW Unit) = .agg (([] :: polW).map fun z => .lit (.string z)) := by rfl

theorem vars_of_laid {W : World} {x1 x2 x4 : String × DataW Unit} {r : List (String × DataW Unit)}
    (h : laidMet Tryd.prog (x1 :: x2 :: ("internal/strconv.uint64pow10", Rows.laid_internal_strconv_uint64pow10) :: x4 :: ("strconv.ErrRange", Rows.laid_strconv_ErrRange) :: ("strconv.ErrSyntax", Rows.laid_strconv_ErrSyntax) :: ("ratebook/text.policies", Rows.laid_ratebook_text_policies) :: r) W) : VarsOk W := by
  have h3 := h.tail.tail
  have h5 := h3.tail.tail
  have h6 := h5.tail
  have h7 := h6.tail
  rw [pow10_datum] at h3
  rw [pol_datum] at h7
  obtain ⟨a5, s5, v5, -, -, -⟩ := laid_sentinel h5 (g := 4) (by kernel_rfl) (by kernel_rfl) Tryd.underlying69 x_row Tryd.underlying144 Tryd.underlying146 rfl rfl Tryd.underlying9 (by kernel_rfl) (by kernel_rfl)
  obtain ⟨a6, s6, v6, -, -, -⟩ := laid_sentinel h6 (g := 3) (by kernel_rfl) (by kernel_rfl) Tryd.underlying69 x_row Tryd.underlying144 Tryd.underlying146 rfl rfl Tryd.underlying9 (by kernel_rfl) (by kernel_rfl)
  exact ⟨Lib.tabIs_of_head (g := 2) (t := 121) (e := 102) (n := 20) (by kernel_rfl) (by kernel_rfl) (by kernel_rfl) (by kernel_rfl) (by kernel_rfl) (by kernel_rfl) h3,
    ⟨_, _, v6⟩, ⟨_, _, v5⟩,
    strs_of_head (g := 0) (t := 60) (e := 9) (n := 8) (by kernel_rfl) (by kernel_rfl) (by kernel_rfl) (by kernel_rfl) (by kernel_rfl) (by kernel_rfl) h7⟩

end Go.Proofs.YtmdljknlbmlacabDoor
