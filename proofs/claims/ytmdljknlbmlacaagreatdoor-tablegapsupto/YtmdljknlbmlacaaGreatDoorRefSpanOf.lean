/- ratebookref.SpanOf, as a Lean function of the data that its argument reads as. Condition: the table is good. -/
import Derived.Test.YtmdljknlbmlacaaGreatDoorRefTells
namespace Go.Proofs.YtmdljknlbmlacaaGreatDoor
open Go.RowKit

theorem foldl_min_top {l : List Int} {m : Int} (h : ∀ x, x ∈ l → x ≤ m) (h0 : 0 < l.length) : l.foldl min m = minL l := by
  obtain ⟨⟨h1, h2⟩, h3⟩ := foldl_min l m
  obtain ⟨p, q⟩ := minL_spec h0
  have h4 := h2 _ p
  rcases h3 with h3 | h3
  · have := h _ p; omega
  · have := q _ h3; omega
theorem foldl_max_bot {l : List Int} {m : Int} (h : ∀ x, x ∈ l → m ≤ x) (h0 : 0 < l.length) : l.foldl max m = maxL l := by
  obtain ⟨⟨h1, h2⟩, h3⟩ := foldl_max l m
  obtain ⟨p, q⟩ := maxL_spec h0
  have h4 := h2 _ p
  rcases h3 with h3 | h3
  · have := h _ p; omega
  · have := q _ h3; omega

end Go.Proofs.YtmdljknlbmlacaaGreatDoor
