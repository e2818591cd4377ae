/- Texts on the program that the proof leans on, part 46. -/
import Derived.Test.YtkfahochpnggbaaGreatYbp
import Derived.Test.YtkfahochpnggbaaGreatYaz
set_option linter.unusedVariables false
set_option linter.unusedSimpArgs false

/- Mathematics: bounds of how thick a section is; what is lost never comes back; which surveys fit. -/
namespace Go.Proofs.YtkfahochpnggbaaGreat.Ch

theorem surveyedL_in (b : Bk) (f : Nat → Int) (s : Int) (t : Sp) (l : List Sv) : t.lo ≤ (surveyedL b f s t l).lo ∧ (surveyedL b f s t l).hi ≤ t.hi := by
  unfold surveyedL
  induction l generalizing t with
  | nil => exact ⟨Int.le_refl _, Int.le_refl _⟩
  | cons x l ih =>
    rw [List.foldl_cons]
    split
    · have := ih (meet t (read b f x))
      simp only [meet] at this ⊢
      omega
    · exact ih t
theorem surveyed_in (b : Bk) (f : Nat → Int) (s : Nat) : (secAt b s).thick.lo ≤ (surveyed b f s).lo ∧ (surveyed b f s).hi ≤ (secAt b s).thick.hi := surveyedL_in b f s _ _

theorem lain_sum (b : Bk) {s : Nat} (hs : s < b.secs.length) (hn : b.secs.length ≤ 4) (d : Nat) : lain b s d 0 + lain b s d 1 + lain b s d 2 + lain b s d 3 = d := by
  induction d with
  | zero => rfl
  | succ d ih =>
    have hp := place_bd b s d (Int.natCast_nonneg _) (by omega)
    simp only [lain]
    generalize place b s d = q at *
    have hq : q = 0 ∨ q = 1 ∨ q = 2 ∨ q = 3 := by omega
    rcases hq with rfl | rfl | rfl | rfl <;> simp <;> omega
theorem lost_le (b : Bk) {f : Nat → Int} {s : Nat} (hs : s < b.secs.length) (hn : b.secs.length ≤ 4) (d : Nat) {m : Int} (hf : ∀ p, p < 4 → f p ≤ m) : lost b f s d ≤ d * m := by
  have h := lain_sum b hs hn d
  have k : ∀ p, p < 4 → lain b s d p * f p ≤ lain b s d p * m := fun p hp => Int.mul_le_mul_of_nonneg_left (hf p hp) (lain_bd b s d p).1
  have h0 := k 0 (by omega)
  have h1 := k 1 (by omega)
  have h2 := k 2 (by omega)
  have h3 := k 3 (by omega)
  have e : (d : Int) * m = lain b s d 0 * m + lain b s d 1 * m + lain b s d 2 * m + lain b s d 3 * m := by
    rw [← h, Int.add_mul, Int.add_mul, Int.add_mul]
  unfold lost
  omega
theorem lost_nonneg (b : Bk) {f : Nat → Int} (s : Nat) (d : Nat) (hf : ∀ p, p < 4 → 0 ≤ f p) : 0 ≤ lost b f s d := by
  have k : ∀ p, p < 4 → 0 ≤ lain b s d p * f p := fun p hp => Int.mul_nonneg (lain_bd b s d p).1 (hf p hp)
  have h0 := k 0 (by omega)
  have h1 := k 1 (by omega)
  have h2 := k 2 (by omega)
  have h3 := k 3 (by omega)
  unfold lost
  omega
theorem lost_succ (b : Bk) {f : Nat → Int} (s : Nat) (d : Nat) (hf : ∀ p, p < 4 → 0 ≤ f p) : lost b f s d ≤ lost b f s (d + 1) := by
  have k : ∀ p, p < 4 → lain b s d p * f p ≤ lain b s (d + 1) p * f p := fun p hp => Int.mul_le_mul_of_nonneg_right (by simp only [lain]; split <;> omega) (hf p hp)
  have h0 := k 0 (by omega)
  have h1 := k 1 (by omega)
  have h2 := k 2 (by omega)
  have h3 := k 3 (by omega)
  unfold lost
  omega
theorem lost_mono (b : Bk) {f : Nat → Int} (s : Nat) {d e : Nat} (h : d ≤ e) (hf : ∀ p, p < 4 → 0 ≤ f p) : lost b f s d ≤ lost b f s e := by
  induction e with
  | zero =>
    have h0 : d = 0 := Nat.le_zero.1 h
    subst h0
    exact Int.le_refl _
  | succ e ih =>
    by_cases he : d ≤ e
    · exact Int.le_trans (ih he) (lost_succ b s e hf)
    · obtain rfl : d = e + 1 := by omega
      exact Int.le_refl _

theorem worst_ge (l : List Sec) {x : Sec} (h : x ∈ l) : x.wear.hi ≤ worst l := by
  unfold worst
  have key : ∀ (l : List Sec) (m : Int), m ≤ l.foldl (fun m s => max m s.wear.hi) m ∧ ∀ y ∈ l, y.wear.hi ≤ l.foldl (fun m s => max m s.wear.hi) m := by
    intro l
    induction l with
    | nil => intro m; exact ⟨Int.le_refl _, by simp⟩
    | cons z l ih =>
      intro m
      rw [List.foldl_cons]
      obtain ⟨h1, h2⟩ := ih (max m z.wear.hi)
      refine ⟨by omega, fun y hy => ?_⟩
      rcases List.mem_cons.1 hy with rfl | hy
      · omega
      · exact h2 y hy
  exact (key l 0).2 x h
theorem secAt_mem {b : Bk} {s : Nat} (hs : s < b.secs.length) : secAt b s ∈ b.secs := by
  rw [secAt, List.getD_eq_getElem?_getD, List.getElem?_eq_getElem hs]
  exact List.getElem_mem hs
theorem lasts_at {b : Bk} (h : valid b = true) {s : Nat} (hs : s < b.secs.length) : b.days * worst b.secs ≤ (secAt b s).thick.lo := by
  simp only [valid, Bool.and_eq_true] at h
  have := List.all_eq_true.1 h.1.1.2 _ (secAt_mem hs)
  simp at this
  omega
theorem wear_bd {b : Bk} (h : valid b = true) {t : Tr} (ht : t ∈ truths b) : ∀ p, p < 4 → 0 ≤ t.wear p ∧ t.wear p ≤ worst b.secs := by
  intro p _
  have hw := worst_le b.secs (by simp only [valid, Bool.and_eq_true] at h; exact h.1.1.1.2)
  by_cases hp : p < b.secs.length
  · have h1 := (truths_is ht).wear p hp
    have h2 := sec_facts h hp
    have h3 := worst_ge b.secs (secAt_mem hp)
    omega
  · rw [truths_out ht p (by omega)]
    omega
/-- In each truth each section is from 0 to 200 thick on each day. -/
theorem thick_bd {b : Bk} (h : valid b = true) {t : Tr} (ht : t ∈ truths b) {s d : Nat} (hs : s < b.secs.length) (hd : (d : Int) ≤ b.days) :
    0 ≤ (thickOn b s d t).lo ∧ (thickOn b s d t).lo ≤ (thickOn b s d t).hi ∧ (thickOn b s d t).hi ≤ 200 := by
  have hn := secs_le h
  have hw := wear_bd h ht
  have h1 := lost_nonneg b s d fun p hp => (hw p hp).1
  have h2 := lost_le b hs hn.2 d fun p hp => (hw p hp).2
  have h3 := lasts_at h hs
  have h4 := sec_facts h hs
  obtain ⟨h5, h6⟩ := (truths_is ht).first s hs
  have h7 := surveyed_in b t.wear s
  have hwo := worst_le b.secs (by simp only [valid, Bool.and_eq_true] at h; exact h.1.1.1.2)
  have h8 := Int.mul_le_mul_of_nonneg_right hd hwo.1
  simp [isEmpty] at h6
  simp only [thickOn, h5]
  omega
/-- A survey without an error fits a truth, if it reads between both ends. -/
theorem fitsIn_iff {b : Bk} (h : valid b = true) {t : Tr} (ht : t ∈ truths b) {s d : Nat} (hs : s < b.secs.length) (r : Int) :
    fitsIn b ⟨s, d, r, 0⟩ t = true ↔ (thickOn b s d t).lo ≤ r ∧ r ≤ (thickOn b s d t).hi := by
  obtain ⟨h5, h6⟩ := (truths_is ht).first s hs
  simp [isEmpty] at h6
  rw [← h5] at h6
  simp only [fitsIn, meet, read, isEmpty, thickOn, Int.toNat_natCast]
  simp
  omega
theorem ends_fits {b : Bk} (h : valid b = true) (ht : truths b ≠ []) {s d : Nat} (hs : s < b.secs.length) (hd : (d : Int) ≤ b.days) {lo hi : Int} (hT : thickSp b s d = ⟨lo, hi⟩) :
    0 ≤ lo ∧ hi ≤ 200 ∧ lo ≤ hi ∧ (truths b).any (fitsIn b ⟨s, d, lo, 0⟩) = true ∧ (truths b).any (fitsIn b ⟨s, d, hi, 0⟩) = true ∧ (truths b).any (fitsIn b ⟨s, d, lo - 1, 0⟩) = false ∧ (truths b).any (fitsIn b ⟨s, d, hi + 1, 0⟩) = false := by
  have h1 : (isSection b s && isDay b d) = true := by
    simp only [isSection, isDay, Bool.and_eq_true, decide_eq_true_eq]
    exact ⟨⟨Int.natCast_nonneg _, Int.ofNat_lt.2 hs⟩, Int.natCast_nonneg _, hd⟩
  rw [thickSp, if_pos (studyE_ok h h1 ht), Int.toNat_natCast, Int.toNat_natCast] at hT
  injection hT with e1 e2
  have hne : ∀ F : Tr → Int, (truths b).map F ≠ [] := fun F hF => ht (List.map_eq_nil_iff.1 hF)
  have m1 := minL_mem (hne fun t => (thickOn b s d t).lo)
  have m2 := maxL_mem (hne fun t => (thickOn b s d t).hi)
  rw [e1] at m1
  rw [e2] at m2
  obtain ⟨t1, ht1, f1⟩ := List.mem_map.1 m1
  obtain ⟨t2, ht2, f2⟩ := List.mem_map.1 m2
  have b1 := thick_bd h ht1 hs hd
  have b2 := thick_bd h ht2 hs hd
  have l1 : ∀ t ∈ truths b, lo ≤ (thickOn b s d t).lo := fun t htt => by rw [← e1]; exact minL_le (List.mem_map.2 ⟨t, htt, rfl⟩)
  have l2 : ∀ t ∈ truths b, (thickOn b s d t).hi ≤ hi := fun t htt => by rw [← e2]; exact le_maxL (List.mem_map.2 ⟨t, htt, rfl⟩)
  have := l1 t2 ht2
  refine ⟨by omega, by omega, by omega, ?_, ?_, ?_, ?_⟩
  · exact List.any_eq_true.2 ⟨t1, ht1, (fitsIn_iff h ht1 hs _).2 ⟨by omega, by omega⟩⟩
  · exact List.any_eq_true.2 ⟨t2, ht2, (fitsIn_iff h ht2 hs _).2 ⟨by omega, by omega⟩⟩
  · rw [List.any_eq_false]
    intro t htt hc
    have := (fitsIn_iff h htt hs _).1 hc
    have := l1 t htt
    omega
  · rw [List.any_eq_false]
    intro t htt hc
    have := (fitsIn_iff h htt hs _).1 hc
    have := l2 t htt
    omega

end Go.Proofs.YtkfahochpnggbaaGreat.Ch
