/- Texts on the program that the proof leans on, part 32. -/
import Derived.Test.YtjgpghaofhcfnaaYbe
set_option linter.unusedVariables false
set_option linter.unusedSimpArgs false

namespace Go.Proofs.Ytjgpghaofhcfnaa.Ld
theorem sunk_mono {b : Bk} (hs : 1 ≤ b.sink) {x y : Int} (h : x ≤ y) : sunk b x ≤ sunk b y := by
 unfold sunk
 exact Int.ediv_le_ediv (by omega) (by omega)
theorem atWorst_less {b : Bk} (hs : 1 ≤ b.sink) {sh hour : Nat} {x y : Int} (h : x ≤ y) (hy : atWorst b sh hour y = true) : atWorst b sh hour x = true := by
 unfold atWorst at *
 rw [List.all_eq_true] at *
 intro t ht
 have h1 := hy t ht
 have h2 := sunk_mono hs h
 simp only [inside, window, Bool.and_eq_true] at h1 ⊢
 obtain ⟨h3, h4⟩ := h1
 have h5 := of_decide_eq_true h3
 exact ⟨decide_eq_true (Int.max_le.2 ⟨(Int.max_le.1 h5).1, by have := (Int.max_le.1 h5).2; omega⟩), h4⟩
theorem lands_two {b : Bk} {sh hour : Nat} {x : Int} : lands b sh hour x = 2 ↔ atWorst b sh hour x = true := by
 unfold lands
 split
 · simp_all
 · split <;> simp_all
theorem lands_less {b : Bk} {sh hour : Nat} {x : Int} (h : atWorst b sh hour x = false) : lands b sh hour x < 2 := by
 unfold lands
 rw [h]
 simp
 split <;> omega
theorem findR_cases (f : Nat → Bool) (v : Nat → Int) (n : Nat) : (findR f v n = (0, 4) ∧ ∀ i, i < n → f i = false) ∨ ∃ k, k < n ∧ f k = true ∧ (∀ i, i < k → f i = false) ∧ findR f v n = (v k, 0) := by
 unfold findR
 cases h : (List.range n).find? f with
 | none => exact .inl ⟨rfl, fun i hi => by have := (List.find?_range_eq_none.1 h) i hi; simpa using this⟩
 | some k =>
  obtain ⟨h1, h2, h3⟩ := List.find?_range_eq_some.1 h
  exact .inr ⟨k, by simpa using h2, h1, fun i hi => by simpa using h3 i hi, rfl⟩
theorem studyE_in {b : Bk} (hv : valid b = true) : studyE b true = if truths b = [] then 22 else 0 := by
 have hc : check b = 0 := by simp [check, hv]
 unfold studyE
 rw [hc]
 by_cases h : truths b = [] <;> simp [h]
theorem isSlip_in {b : Bk} {q m : Nat} (hq : q < b.tides.length) (hm : m = 0 ∨ m = 1) : isSlip b q m = true := by
 simp [isSlip, isHour, isShore]
 omega
theorem most_spec {b : Bk} (hv : valid b = true) {q m : Nat} (hq : q < b.tides.length) (hm : m = 0 ∨ m = 1) {y : Int} (h0 : 0 ≤ y) (h1 : y ≤ 200) :
 (mostR b m q = (0, 22) ∧ landsR b m q y = (0, 22)) ∨
 (mostR b m q = (0, 4) ∧ ∃ kind, landsR b m q y = (kind, 0) ∧ kind < 2) ∨
 (∃ most kind, 0 ≤ most ∧ most ≤ 200 ∧ mostR b m q = (most, 0) ∧ landsR b m q y = (kind, 0) ∧ landsR b m q most = (2, 0) ∧ (kind = 2 ↔ y ≤ most)) := by
 have hs : 1 ≤ b.sink := by obtain ⟨hp, -⟩ := valid_parts hv; exact (sized_bd hp).2.2.1
 have hsl := isSlip_in hq hm
 have hl : ∀ z : Int, 0 ≤ z → z ≤ 200 → isLoad z = true := fun z hz hz2 => by simp [isLoad, hz, hz2]
 have hland : ∀ z : Int, 0 ≤ z → z ≤ 200 → landsR b m q z = if truths b = [] then (0, 22) else (lands b m q z, 0) := fun z hz hz2 => by
  unfold landsR
  rw [hsl, hl z hz hz2, Bool.true_and, studyE_in hv]
  by_cases ht : truths b = [] <;> simp [ht]
 have hmost : mostR b m q = if truths b = [] then (0, 22) else findR (fun k => atWorst b m q (200 - (k : Int))) (fun k => 200 - (k : Int)) 201 := by
  unfold mostR
  rw [hsl, studyE_in hv]
  by_cases ht : truths b = [] <;> simp [ht]
 by_cases ht : truths b = []
 · exact .inl ⟨by rw [hmost, if_pos ht], by rw [hland y h0 h1, if_pos ht]⟩
 · rw [if_neg ht] at hmost
   have hy := hland y h0 h1
   rw [if_neg ht] at hy
   rcases findR_cases (fun k => atWorst b m q (200 - (k : Int))) (fun k => 200 - (k : Int)) 201 with ⟨h2, h3⟩ | ⟨k, hk, h2, h3, h4⟩
   · refine .inr (.inl ⟨hmost.trans h2, _, hy, lands_less ?_⟩)
     have h5 := h3 (200 - y).toNat (by omega)
     rwa [show (200 : Int) - ((200 - y).toNat : Int) = y by omega] at h5
   · refine .inr (.inr ⟨200 - (k : Int), _, by omega, by omega, hmost.trans h4, hy, ?_, ?_⟩)
     · rw [hland _ (by omega) (by omega), if_neg ht, lands_two.2 h2]
     · rw [lands_two]
       constructor
       · intro h5
         by_cases h6 : y ≤ 200 - (k : Int)
         · exact h6
         · have h7 := h3 (200 - y).toNat (by omega)
           simp only [show (200 : Int) - ((200 - y).toNat : Int) = y by omega] at h7
           rw [h5] at h7
           cases h7
       · exact fun h5 => atWorst_less hs h5 h2
end Go.Proofs.Ytjgpghaofhcfnaa.Ld
