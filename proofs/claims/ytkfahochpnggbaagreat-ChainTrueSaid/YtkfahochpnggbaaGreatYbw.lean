/- Texts on the program that the proof leans on, part 49. -/
import Derived.Test.YtkfahochpnggbaaGreatYar
import Derived.Test.YtkfahochpnggbaaGreatYbo
import Derived.Test.YtkfahochpnggbaaGreatYbt
import Derived.Test.YtkfahochpnggbaaGreatYax
import Derived.Test.YtkfahochpnggbaaGreatYau
set_option linter.unusedVariables false
set_option linter.unusedSimpArgs false

/- Contracts of the statements' helpers: At, Contains, Covers. -/
namespace Go.Proofs.YtkfahochpnggbaaGreat
open Go.RowKit

set_option maxHeartbeats 1000000 in
theorem at_any (l : List Int) (x : Int) (v : Value) (w : World) (h : Sl w w.heap.size 1 v l.length (l.map I)) :
    Calls Tryz.prog 34 #[v, I x] w fun e w' => e = .returned (I (Ch.indexOf l x)) ∧ Below w.heap.size w w' := by
  have hm := h.le
  unfold maxLen at hm
  obtain ⟨A, c, rfl⟩ := h.form
  go_enter Tryz.func34, Tryz.ntmps34
  go_wp2_with fail
  go_loopw [5] (fun i wr => Below w.heap.size w wr ∧ ∃ k : Nat, k ≤ l.length ∧ i = I k ∧ ∀ j (hj : j < l.length), j < k → l[j] ≠ x) (fun i _ => l.length - (intOf i).toNat)
  case atStart => exact ⟨Below.refl _ _, 0, Nat.zero_le _, rfl, fun j _ hj => by omega⟩
  case round =>
    obtain ⟨hw, k, hk, rfl, hF⟩ := hrel
    have h2 := h.below hw (Nat.le_refl _)
    clear h
    have HF := Lib.hid hF
    have HW := Lib.hid hw
    clear hF hw
    by_cases hlt : k < l.length
    · obtain ⟨b', off', c', hv, hb', ck⟩ := h2.int hlt
      injection hv with hA _ hc
      subst hA hc
      clear h2
      have hki : (k : Int) < l.length := by omega
      by_cases hx : l[k] = x
      · have hb : (l[k] == x) = true := by simp [hx]
        have HX := Lib.hid hx
        clear hx
        go_wp2_with fail
        go_ret
        exact ⟨ret_i (Ch.indexOf_found hlt HX.out HF.out).symm, HW.out⟩
      · have hb : (l[k] == x) = false := by simp [hx]
        have HX := Lib.hid hx
        clear hx
        go_wp2_with fail
        go_roundw
        case rel =>
          refine ⟨HW.out, k + 1, by omega, by go_num, fun j hj hjk => ?_⟩
          rcases Nat.lt_succ_iff_lt_or_eq.1 hjk with h' | h'
          · exact HF.out j hj h'
          · subst h'; exact HX.out
        case measure => simp [intOf]; omega
    · obtain rfl : k = l.length := by omega
      go_wp2_with fail
      go_ret
      exact ⟨ret_i (Ch.indexOf_none (fun j hj => HF.out j hj hj)).symm, HW.out⟩

set_option maxHeartbeats 400000 in
theorem covers_any (s t : Ch.Sp) (w : World) :
    Calls Tryz.prog 39 #[vSp s, vSp t] w fun e w' => e = .returned (.bool (decide (s.lo ≤ t.lo) && decide (t.hi ≤ s.hi))) ∧ Below w.heap.size w w' := by
  obtain ⟨a, b⟩ := s
  obtain ⟨c, d⟩ := t
  by_cases h1 : a ≤ c <;> by_cases h2 : d ≤ b
  all_goals
    go_enter Tryz.func39, Tryz.ntmps39
    go_wp2
    go_ret
    exact ⟨ret_b (by simp [h1, h2]), ((Below.refl _ _).alloc (Nat.le_refl _) _).alloc (by simp) _⟩

set_option maxHeartbeats 400000 in
theorem containsSp_any (s : Ch.Sp) (n : Int) (w : World) :
    Calls Tryz.prog 33 #[vSp s, I n] w fun e w' => e = .returned (.bool (Ch.between n s.lo s.hi)) ∧ Below w.heap.size w w' := by
  obtain ⟨a, b⟩ := s
  go_enter Tryz.func33, Tryz.ntmps33
  go_wp2_with fail
  refine (in_any _ _ _ _).mono ?_
  rintro e w1 ⟨rfl, hB1⟩
  have HB := Lib.hid (((Below.refl w.heap.size w).alloc (Nat.le_refl _) (.cells #[I a, I b] 51)).trans (hB1.mono (by simp)))
  clear hB1
  go_wp2_with fail
  go_ret
  exact ⟨rfl, HB.out⟩

end Go.Proofs.YtkfahochpnggbaaGreat

/- Mathematics of ChainFirst: firsts of what stays so; what is too thin stays it; lists that climb. -/
namespace Go.Proofs.YtkfahochpnggbaaGreat.Ch

theorem firstDay_le {F : Nat → Bool} {n d : Nat} (hm : ∀ j k, j ≤ k → F j = true → F k = true) (hd : d < n) : F d = true ↔ firstDay F n ≤ d := by
  by_cases h : ∃ k, k < n ∧ F k = true
  · obtain ⟨k, hk, hF⟩ : ∃ k, (k < n ∧ F k = true) ∧ ∀ j, j < k → ¬ (j < n ∧ F j = true) := by
      obtain ⟨k, hk⟩ := h
      induction k using Nat.strongRecOn with
      | _ k ih =>
        by_cases h2 : ∃ j, j < k ∧ (j < n ∧ F j = true)
        · obtain ⟨j, hj, hj2⟩ := h2
          exact ih j hj hj2
        · exact ⟨k, hk, fun j hj hj2 => h2 ⟨j, hj, hj2⟩⟩
    have hb : ∀ j, j < k → F j = false := fun j hj => by
      cases hc : F j
      · rfl
      · exact absurd ⟨by omega, hc⟩ (hF j hj)
    rw [firstDay_found hk.1 hk.2 hb]
    constructor
    · intro h3
      by_cases h4 : k ≤ d
      · exact h4
      · rw [hb d (by omega)] at h3; cases h3
    · intro h3; exact hm k d h3 hk.2
  · have hb : ∀ j, j < n → F j = false := fun j hj => by
      cases hc : F j
      · rfl
      · exact absurd ⟨j, hj, hc⟩ h
    rw [firstDay_none hb, hb d hd]
    simp
    omega
/-- What is told of the first day: the day, or none. -/
theorem dayOf_iff {b : Bk} {F : Nat → Bool} (hm : ∀ j k, j ≤ k → F j = true → F k = true) {d : Nat} (hd : (d : Int) ≤ b.days) {x y : Int} (h : dayOf b F = (x, y)) :
    (y = 0 ∨ (y = 4 ∧ x = 0)) ∧ (F d = true ↔ (y = 0 ∧ x ≤ d)) := by
  have h1 := firstDay_le hm (show d < b.days.toNat + 1 by omega)
  unfold dayOf at h
  split at h
  · injection h with e1 e2
    refine ⟨.inl e2.symm, ?_⟩
    rw [h1, ← e1, ← e2]
    omega
  · injection h with e1 e2
    refine ⟨.inr ⟨e2.symm, e1.symm⟩, ?_⟩
    rw [h1, ← e2]
    constructor
    · intro h3; omega
    · intro h3; omega

theorem thick_anti {b : Bk} (h : valid b = true) {t : Tr} (ht : t ∈ truths b) (s : Nat) {d e : Nat} (hde : d ≤ e) :
    (thickOn b s e t).lo ≤ (thickOn b s d t).lo ∧ (thickOn b s e t).hi ≤ (thickOn b s d t).hi := by
  have := lost_mono b s hde fun p hp => (wear_bd h ht p hp).1
  simp only [thickOn]
  omega
theorem may_mono {b : Bk} (h : valid b = true) (hne : truths b ≠ []) (s : Nat) : ∀ j k, j ≤ k → mayThin b s (truths b) j = true → mayThin b s (truths b) k = true := by
  intro j k hjk hj
  simp only [mayThin, decide_eq_true_eq] at hj ⊢
  obtain ⟨t, ht, he⟩ := List.mem_map.1 (minL_mem (l := (truths b).map fun t => (thickOn b s j t).lo) (fun hF => hne (List.map_eq_nil_iff.1 hF)))
  have h1 := (thick_anti h ht s hjk).1
  have h2 := minL_le (List.mem_map.2 ⟨t, ht, rfl⟩ : (thickOn b s k t).lo ∈ (truths b).map fun t => (thickOn b s k t).lo)
  omega
theorem sure_mono {b : Bk} (h : valid b = true) (hne : truths b ≠ []) (s : Nat) : ∀ j k, j ≤ k → sureThin b s (truths b) j = true → sureThin b s (truths b) k = true := by
  intro j k hjk hj
  simp only [sureThin, decide_eq_true_eq] at hj ⊢
  obtain ⟨t, ht, he⟩ := List.mem_map.1 (maxL_mem (l := (truths b).map fun t => (thickOn b s k t).hi) (fun hF => hne (List.map_eq_nil_iff.1 hF)))
  have h1 := (thick_anti h ht s hjk).2
  have h2 := le_maxL (List.mem_map.2 ⟨t, ht, rfl⟩ : (thickOn b s j t).hi ∈ (truths b).map fun t => (thickOn b s j t).hi)
  omega

/-- Does each number of a list lie below another, and above the one before it? -/
def climbs (l : List Int) (below : Int) : Bool := turnsOk (below - 1) (-1) l
theorem turnsOk_mono (hi : Int) (a b : Int) (h : a ≤ b) (l : List Int) (hl : turnsOk hi b l = true) : turnsOk hi a l = true := by
  cases l with
  | nil => rfl
  | cons x l =>
    simp only [turnsOk, Bool.and_eq_true] at hl ⊢
    refine ⟨?_, hl.2⟩
    have := hl.1
    simp at this ⊢
    omega
theorem turnsOk_append (hi : Int) (l : List Int) (x : Int) : ∀ a, turnsOk hi a l = true → (∀ y ∈ l, y < x) → a < x → x ≤ hi → turnsOk hi a (l ++ [x]) = true := by
  induction l with
  | nil =>
    intro a _ _ ha hx
    simp [turnsOk]
    omega
  | cons y l ih =>
    intro a hl hy ha hx
    simp only [turnsOk, Bool.and_eq_true, List.cons_append] at hl ⊢
    exact ⟨hl.1, ih y hl.2 (fun z hz => hy z (List.mem_cons_of_mem _ hz)) (hy y List.mem_cons_self) hx⟩
theorem turnsOk_hi {h k : Int} (hk : h ≤ k) (l : List Int) : ∀ a, turnsOk h a l = true → turnsOk k a l = true := by
  induction l with
  | nil => intro a _; rfl
  | cons x l ih =>
    intro a hl
    simp only [turnsOk, Bool.and_eq_true] at hl ⊢
    refine ⟨?_, ih x hl.2⟩
    have := hl.1
    simp at this ⊢
    omega
theorem mem_someOf {F : Nat → Bool} {n : Nat} {x : Int} : x ∈ someOf F n ↔ ∃ k : Nat, x = k ∧ k < n ∧ F k = true := by
  simp only [someOf, List.mem_map, List.mem_filter, List.mem_range]
  constructor
  · rintro ⟨k, ⟨h1, h2⟩, rfl⟩; exact ⟨k, rfl, h1, h2⟩
  · rintro ⟨k, rfl, h1, h2⟩; exact ⟨k, ⟨h1, h2⟩, rfl⟩
theorem climbs_someOf (F : Nat → Bool) (n : Nat) : climbs (someOf F n) n = true := by
  unfold climbs
  induction n with
  | zero => rfl
  | succ n ih =>
    have ih2 := turnsOk_hi (show (n : Int) - 1 ≤ ((n + 1 : Nat) : Int) - 1 by omega) _ _ ih
    cases hF : F n
    · rw [someOf_no hF]; exact ih2
    · rw [someOf_yes hF]
      refine turnsOk_append _ _ _ _ ih2 (fun y hy => ?_) (by omega) (by omega)
      obtain ⟨k, rfl, hk, -⟩ := mem_someOf.1 hy
      omega
theorem indexOf_nonneg {l : List Int} {x : Int} : 0 ≤ indexOf l x ↔ x ∈ l := by
  unfold indexOf
  split
  · rename_i h; exact ⟨fun _ => h, fun _ => Int.natCast_nonneg _⟩
  · rename_i h; exact ⟨fun h2 => by omega, fun h2 => absurd h2 h⟩

/-- What is told of a section on a day. -/
theorem told_firsts {b : Bk} (h : valid b = true) (hne : truths b ≠ []) {s d : Nat} (hs : s < b.secs.length) (hd : (d : Int) ≤ b.days) {lo hi x y x' y' : Int} (hT : thickSp b s d = ⟨lo, hi⟩) (hx : thinR b s = (x, y)) (hx' : goneR b s = (x', y')) :
    (y = 0 ∨ (y = 4 ∧ x = 0)) ∧ (y' = 0 ∨ (y' = 4 ∧ x' = 0)) ∧ (lo < b.rule ↔ (y = 0 ∧ x ≤ d)) ∧ (hi < b.rule ↔ (y' = 0 ∧ x' ≤ d)) ∧
    climbs (cutL b d) b.secs.length = true ∧ (0 ≤ indexOf (cutL b d) s ↔ lo < b.rule) := by
  have h0 : isSection b s = true := by simp [isSection]; omega
  have h1 : (isSection b s && isDay b d) = true := by
    simp only [isSection, isDay, Bool.and_eq_true, decide_eq_true_eq]
    exact ⟨⟨Int.natCast_nonneg _, Int.ofNat_lt.2 hs⟩, Int.natCast_nonneg _, hd⟩
  have h2 : isDay b d = true := by rw [h0] at h1; exact h1
  rw [thickSp, if_pos (studyE_ok h h1 hne), Int.toNat_natCast, Int.toNat_natCast] at hT
  injection hT with e1 e2
  rw [thinR, if_pos (studyE_ok h h0 hne), Int.toNat_natCast] at hx
  rw [goneR, if_pos (studyE_ok h h0 hne), Int.toNat_natCast] at hx'
  obtain ⟨a1, a2⟩ := dayOf_iff (may_mono h hne s) hd hx
  obtain ⟨c1, c2⟩ := dayOf_iff (sure_mono h hne s) hd hx'
  have m1 : mayThin b s (truths b) d = decide (lo < b.rule) := by rw [mayThin, e1]
  have m2 : sureThin b s (truths b) d = decide (hi < b.rule) := by rw [sureThin, e2]
  rw [m1] at a2
  rw [m2] at c2
  simp only [decide_eq_true_eq] at a2 c2
  have hc : cutL b d = someOf (fun s => mayThin b s (truths b) d) b.secs.length := by rw [cutL, if_pos (studyE_ok h h2 hne), Int.toNat_natCast]
  refine ⟨a1, c1, a2, c2, by rw [hc]; exact climbs_someOf _ _, ?_⟩
  rw [indexOf_nonneg, hc, mem_someOf]
  constructor
  · rintro ⟨k, hk, hk2, hk3⟩
    obtain rfl : s = k := by omega
    rw [m1] at hk3
    simpa using hk3
  · intro h3
    exact ⟨s, rfl, hs, by rw [m1]; simpa using h3⟩
/-- On the next day it is no thicker. -/
theorem next_thick {b : Bk} (h : valid b = true) (hne : truths b ≠ []) {s d : Nat} (hs : s < b.secs.length) (hd : (d : Int) + 1 ≤ b.days) {lo hi lo' hi' : Int} (hT : thickSp b s d = ⟨lo, hi⟩) (hT' : thickSp b s (d + 1) = ⟨lo', hi'⟩) : lo' ≤ lo ∧ hi' ≤ hi := by
  have h1 : (isSection b s && isDay b d) = true := by
    simp only [isSection, isDay, Bool.and_eq_true, decide_eq_true_eq]
    exact ⟨⟨Int.natCast_nonneg _, Int.ofNat_lt.2 hs⟩, Int.natCast_nonneg _, by omega⟩
  have h2 : (isSection b s && isDay b (d + 1)) = true := by
    simp only [isSection, isDay, Bool.and_eq_true, decide_eq_true_eq]
    exact ⟨⟨Int.natCast_nonneg _, Int.ofNat_lt.2 hs⟩, by omega, by omega⟩
  rw [thickSp, if_pos (studyE_ok h h1 hne), Int.toNat_natCast, Int.toNat_natCast] at hT
  rw [thickSp, if_pos (studyE_ok h h2 hne), Int.toNat_natCast, show ((d : Int) + 1).toNat = d + 1 by omega] at hT'
  injection hT with e1 e2
  injection hT' with f1 f2
  have hnil : ∀ F : Tr → Int, (truths b).map F ≠ [] := fun F hF => hne (List.map_eq_nil_iff.1 hF)
  have m1 := minL_mem (hnil fun t => (thickOn b s d t).lo)
  have m2 := maxL_mem (hnil fun t => (thickOn b s (d + 1) t).hi)
  obtain ⟨t1, ht1, g1⟩ := List.mem_map.1 m1
  obtain ⟨t2, ht2, g2⟩ := List.mem_map.1 m2
  have k1 := minL_le (List.mem_map.2 ⟨t1, ht1, rfl⟩ : (thickOn b s (d + 1) t1).lo ∈ (truths b).map fun t => (thickOn b s (d + 1) t).lo)
  have k2 := le_maxL (List.mem_map.2 ⟨t2, ht2, rfl⟩ : (thickOn b s d t2).hi ∈ (truths b).map fun t => (thickOn b s d t).hi)
  have q1 := (thick_anti h ht1 s (show d ≤ d + 1 by omega)).1
  have q2 := (thick_anti h ht2 s (show d ≤ d + 1 by omega)).2
  omega

end Go.Proofs.YtkfahochpnggbaaGreat.Ch
