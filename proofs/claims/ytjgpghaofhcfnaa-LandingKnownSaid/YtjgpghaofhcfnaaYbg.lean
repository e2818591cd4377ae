/- Texts on the program that the proof leans on, part 33. -/
import Derived.Test.YtjgpghaofhcfnaaYav
import Derived.Test.YtjgpghaofhcfnaaYba
import Derived.Test.YtjgpghaofhcfnaaYbb
import Derived.Test.YtjgpghaofhcfnaaYbf
import Derived.Test.YtjgpghaofhcfnaaYau
set_option linter.unusedVariables false
set_option linter.unusedSimpArgs false

namespace Go.Proofs.Ytjgpghaofhcfnaa.Ch
open Ld (someOf someOf_no someOf_yes)
def turnsOk (days : Int) : Int → List Int → Bool
  | _, [] => true
  | before, d :: l => !(decide (d ≤ before) || decide (days < d)) && turnsOk days d l
def climbs (l : List Int) (below : Int) : Bool := turnsOk (below - 1) (-1) l
theorem turnsOk_mono (hi : Int) (a b : Int) (h : a ≤ b) (l : List Int) (hl : turnsOk hi b l = true) : turnsOk hi a l = true := by
 cases l with
 | nil => rfl
 | cons x l =>
  simp only [turnsOk, Bool.and_eq_true] at hl ⊢
  refine ⟨?_, hl.2⟩
  have := hl.1
  simp at this ⊢
  omega
theorem turnsOk_append (hi : Int) (l : List Int) (x : Int) : ∀ a, turnsOk hi a l = true → (∀ y ∈ l, y < x) → a < x → x ≤ hi → turnsOk hi a (l ++ [x]) = true := by
 induction l with
 | nil =>
  intro a _ _ ha hx
  simp [turnsOk]
  omega
 | cons y l ih =>
  intro a hl hy ha hx
  simp only [turnsOk, Bool.and_eq_true, List.cons_append] at hl ⊢
  exact ⟨hl.1, ih y hl.2 (fun z hz => hy z (List.mem_cons_of_mem _ hz)) (hy y List.mem_cons_self) hx⟩
theorem turnsOk_hi {h k : Int} (hk : h ≤ k) (l : List Int) : ∀ a, turnsOk h a l = true → turnsOk k a l = true := by
 induction l with
 | nil => intro a _; rfl
 | cons x l ih =>
  intro a hl
  simp only [turnsOk, Bool.and_eq_true] at hl ⊢
  refine ⟨?_, ih x hl.2⟩
  have := hl.1
  simp at this ⊢
  omega
theorem mem_someOf {F : Nat → Bool} {n : Nat} {x : Int} : x ∈ someOf F n ↔ ∃ k : Nat, x = k ∧ k < n ∧ F k = true := by
 simp only [someOf, List.mem_map, List.mem_filter, List.mem_range]
 constructor
 · rintro ⟨k, ⟨h1, h2⟩, rfl⟩; exact ⟨k, rfl, h1, h2⟩
 · rintro ⟨k, rfl, h1, h2⟩; exact ⟨k, ⟨h1, h2⟩, rfl⟩
theorem climbs_someOf (F : Nat → Bool) (n : Nat) : climbs (someOf F n) n = true := by
 unfold climbs
 induction n with
 | zero => rfl
 | succ n ih =>
  have ih2 := turnsOk_hi (show (n : Int) - 1 ≤ ((n + 1 : Nat) : Int) - 1 by omega) _ _ ih
  cases hF : F n
  · rw [someOf_no hF]; exact ih2
  · rw [someOf_yes hF]
    refine turnsOk_append _ _ _ _ ih2 (fun y hy => ?_) (by omega) (by omega)
    obtain ⟨k, rfl, hk, -⟩ := mem_someOf.1 hy
    omega
theorem indexOf_nonneg {l : List Int} {x : Int} : 0 ≤ indexOf l x ↔ x ∈ l := by
 unfold indexOf
 split
 · rename_i h; exact ⟨fun _ => h, fun _ => Int.natCast_nonneg _⟩
 · rename_i h; exact ⟨fun h2 => by omega, fun h2 => absurd h2 h⟩
end Go.Proofs.Ytjgpghaofhcfnaa.Ch
namespace Go.Proofs.Ytjgpghaofhcfnaa
open Go.RowKit
set_option maxHeartbeats 1000000 in
theorem at_any (l : List Int) (x : Int) (v : Value) (w : World) (h : Sl w w.heap.size 1 v l.length (l.map I)) :
 Calls Try.prog 36 #[v, I x] w fun e w' => e = .returned (I (Ch.indexOf l x)) ∧ Below w.heap.size w w' := by
 have hm := h.le
 unfold maxLen at hm
 obtain ⟨A, c, rfl⟩ := h.form
 go_enter Try.func36, Try.ntmps36
 go_wp2_with fail
 go_loopw [5] (fun i wr => Below w.heap.size w wr ∧ ∃ k : Nat, k ≤ l.length ∧ i = I k ∧ ∀ j (hj : j < l.length), j < k → l[j] ≠ x) (fun i _ => l.length - (intOf i).toNat)
 case atStart => exact ⟨Below.refl _ _, 0, Nat.zero_le _, rfl, fun j _ hj => by omega⟩
 case round =>
  obtain ⟨hw, k, hk, rfl, hF⟩ := hrel
  have h2 := h.below hw (Nat.le_refl _)
  clear h
  have HF := Lib.hid hF
  have HW := Lib.hid hw
  clear hF hw
  by_cases hlt : k < l.length
  · obtain ⟨b', off', c', hv, hb', ck⟩ := h2.int hlt
    injection hv with hA _ hc
    subst hA hc
    clear h2
    have hki : (k : Int) < l.length := by omega
    by_cases hx : l[k] = x
    · have hb : (l[k] == x) = true := by simp [hx]
      have HX := Lib.hid hx
      clear hx
      go_wp2_with fail
      go_ret
      exact ⟨ret_i (Ch.indexOf_found hlt HX.out HF.out).symm, HW.out⟩
    · have hb : (l[k] == x) = false := by simp [hx]
      have HX := Lib.hid hx
      clear hx
      go_wp2_with fail
      go_roundw
      case rel =>
       refine ⟨HW.out, k + 1, by omega, by go_num, fun j hj hjk => ?_⟩
       rcases Nat.lt_succ_iff_lt_or_eq.1 hjk with h' | h'
       · exact HF.out j hj h'
       · subst h'; exact HX.out
      case measure => simp [intOf]; omega
  · obtain rfl : k = l.length := by omega
    go_wp2_with fail
    go_ret
    exact ⟨ret_i (Ch.indexOf_none (fun j hj => HF.out j hj hj)).symm, HW.out⟩
set_option maxHeartbeats 400000 in
theorem covers_any (s t : Ld.Sp) (w : World) :
 Calls Try.prog 30 #[vSp s, vSp t] w fun e w' => e = .returned (.bool (decide (s.lo ≤ t.lo) && decide (t.hi ≤ s.hi))) ∧ Below w.heap.size w w' := by
 obtain ⟨a, b⟩ := s
 obtain ⟨c, d⟩ := t
 by_cases h1 : a ≤ c <;> by_cases h2 : d ≤ b
 all_goals
  go_enter Try.func30, Try.ntmps30
  go_wp2
  go_ret
  exact ⟨ret_b (by simp [h1, h2]), ((Below.refl _ _).alloc (Nat.le_refl _) _).alloc (by simp) _⟩
set_option maxHeartbeats 400000 in
theorem containsSp_any (s : Ld.Sp) (n : Int) (w : World) :
 Calls Try.prog 22 #[vSp s, I n] w fun e w' => e = .returned (.bool (Ld.between n s.lo s.hi)) ∧ Below w.heap.size w w' := by
 obtain ⟨a, b⟩ := s
 go_enter Try.func22, Try.ntmps22
 go_wp2_with fail
 refine (in_any _ _ _ _).mono ?_
 rintro e w1 ⟨rfl, hB1⟩
 have HB := Lib.hid (((Below.refl w.heap.size w).alloc (Nat.le_refl _) (.cells #[I a, I b] 24)).trans (hB1.mono (by simp)))
 clear hB1
 go_wp2_with fail
 go_ret
 exact ⟨rfl, HB.out⟩
end Go.Proofs.Ytjgpghaofhcfnaa
namespace Go.Proofs.Ytjgpghaofhcfnaa.Ld
theorem sink_pos {b : Bk} (hv : valid b = true) : 1 ≤ b.sink := by obtain ⟨hp, -⟩ := valid_parts hv; exact (sized_bd hp).2.2.1
theorem isLoad_in {y : Int} (h0 : 0 ≤ y) (h1 : y ≤ 200) : isLoad y = true := by simp [isLoad, h0, h1]
theorem isShore_in {m : Nat} (hm : m = 0 ∨ m = 1) : isShore m = true := by simp [isShore]; omega
theorem landsR_in {b : Bk} (hv : valid b = true) {q m : Nat} (hq : q < b.tides.length) (hm : m = 0 ∨ m = 1) {y : Int} (h0 : 0 ≤ y) (h1 : y ≤ 200) :
 landsR b m q y = if truths b = [] then (0, 22) else (lands b m q y, 0) := by
 unfold landsR
 rw [isSlip_in hq hm, isLoad_in h0 h1, Bool.true_and, studyE_in hv]
 by_cases ht : truths b = [] <;> simp [ht]
theorem firstR_in {b : Bk} (hv : valid b = true) {m : Nat} (hm : m = 0 ∨ m = 1) {y : Int} (h0 : 0 ≤ y) (h1 : y ≤ 200) :
 firstR b m y = if truths b = [] then (0, 22) else findR (fun k => atWorst b m k y) (fun k => (k : Int)) b.tides.length := by
 unfold firstR
 rw [isShore_in hm, isLoad_in h0 h1, Bool.true_and, studyE_in hv]
 by_cases ht : truths b = [] <;> simp [ht]
theorem bothL_in {b : Bk} (hv : valid b = true) {y : Int} (h0 : 0 ≤ y) (h1 : y ≤ 200) :
 bothL b y = if truths b = [] then [] else someOf (fun k => bothAt b k y) b.tides.length := by
 unfold bothL
 rw [isLoad_in h0 h1, studyE_in hv]
 by_cases ht : truths b = [] <;> simp [ht]
theorem bothE_in {b : Bk} (hv : valid b = true) {y : Int} (h0 : 0 ≤ y) (h1 : y ≤ 200) :
 studyE b (isLoad y) = if truths b = [] then 22 else 0 := by
 rw [isLoad_in h0 h1, studyE_in hv]
theorem lands_le {b : Bk} {sh hour : Nat} {x : Int} : lands b sh hour x ≤ 2 := by
 unfold lands
 split
 · omega
 · split <;> omega
theorem first_spec {b : Bk} (hv : valid b = true) {q m : Nat} (hq : q < b.tides.length) (hm : m = 0 ∨ m = 1) {y : Int} (h0 : 0 ≤ y) (h1 : y ≤ 200) :
 (firstR b m y = (0, 22) ∧ bothL b y = [] ∧ studyE b (isLoad y) = 22) ∨
 (studyE b (isLoad y) = 0 ∧ Ch.climbs (bothL b y) b.tides.length = true ∧ ∃ k0 k1, k0 ≤ 2 ∧ k1 ≤ 2 ∧ landsR b 0 q y = (k0, 0) ∧ landsR b 1 q y = (k1, 0) ∧ (0 ≤ Ch.indexOf (bothL b y) q ↔ k0 = 2 ∧ k1 = 2) ∧
  ((firstR b m y = (0, 4) ∧ (if m = 1 then k1 else k0) < 2 ∧ bothL b y = []) ∨
   ∃ f : Nat, f < b.tides.length ∧ firstR b m y = ((f : Int), 0) ∧ landsR b m f y = (2, 0) ∧ ((if m = 1 then k1 else k0) < 2 ∨ (f : Int) ≤ q) ∧ (bothL b y = [] ∨ ∃ h t, bothL b y = h :: t ∧ (f : Int) ≤ h))) := by
 have hl := fun {m : Nat} (hm : m = 0 ∨ m = 1) => landsR_in hv hq hm h0 h1
 have hf := firstR_in hv hm h0 h1
 have hb := bothL_in hv h0 h1
 have he := bothE_in hv h0 h1
 by_cases ht : truths b = []
 · rw [if_pos ht] at hf hb he
   exact .inl ⟨hf, hb, he⟩
 · rw [if_neg ht] at hf hb he
   have hl0 := hl (m := 0) (.inl rfl)
   have hl1 := hl (m := 1) (.inr rfl)
   rw [if_neg ht] at hl0 hl1
   have how : (if m = 1 then lands b 1 q y else lands b 0 q y) = lands b m q y := by rcases hm with rfl | rfl <;> rfl
   refine .inr ⟨he, by rw [hb]; exact Ch.climbs_someOf _ _, lands b 0 q y, lands b 1 q y, lands_le, lands_le, hl0, hl1, ?_, ?_⟩
   · rw [Ch.indexOf_nonneg, hb, Ch.mem_someOf, lands_two, lands_two]
     constructor
     · rintro ⟨k, hk, -, h2⟩
       have : k = q := by omega
       subst this
       simpa [bothAt] using h2
     · rintro ⟨h2, h3⟩
       exact ⟨q, rfl, hq, by simp [bothAt, h2, h3]⟩
   · rw [how]
     have hbm : ∀ k, bothAt b k y = true → atWorst b m k y = true := by
      intro k hk
      simp only [bothAt, Bool.and_eq_true] at hk
      rcases hm with rfl | rfl
      · exact hk.1
      · exact hk.2
     rcases findR_cases (fun k => atWorst b m k y) (fun k => (k : Int)) b.tides.length with ⟨h2, h3⟩ | ⟨k, hk, h2, h3, h4⟩
     · refine .inl ⟨hf.trans h2, lands_less (h3 q hq), ?_⟩
       rw [hb]
       by_cases hs : someOf (fun k => bothAt b k y) b.tides.length = []
       · exact hs
       · obtain ⟨x, hx⟩ := List.exists_mem_of_ne_nil _ hs
         obtain ⟨j, -, hj, h5⟩ := Ch.mem_someOf.1 hx
         have h6 := h3 j hj
         simp only [hbm j h5] at h6
         cases h6
     · refine .inr ⟨k, hk, hf.trans h4, ?_, ?_, ?_⟩
       · rw [landsR_in hv hk hm h0 h1, if_neg ht, lands_two.2 h2]
       · by_cases hkq : k ≤ q
         · exact .inr (by omega)
         · exact .inl (lands_less (h3 q (by omega)))
       · rw [hb]
         cases hs : someOf (fun k => bothAt b k y) b.tides.length with
         | nil => exact .inl rfl
         | cons x l =>
          refine .inr ⟨x, l, rfl, ?_⟩
          have hx : x ∈ someOf (fun k => bothAt b k y) b.tides.length := by rw [hs]; exact List.mem_cons_self
          obtain ⟨j, rfl, hj, h5⟩ := Ch.mem_someOf.1 hx
          by_cases hjk : k ≤ j
          · omega
          · have h6 := h3 j (by omega)
            simp only [hbm j h5] at h6
            cases h6
end Go.Proofs.Ytjgpghaofhcfnaa.Ld
