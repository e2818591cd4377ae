/- Texts on the program that the proof leans on, part 53. -/
import Derived.Test.YtkfahochpnggbaaGreatYbw
set_option linter.unusedVariables false
set_option linter.unusedSimpArgs false

/- Mathematics of ChainMore: the truths of a book with one survey more. -/
namespace Go.Proofs.YtkfahochpnggbaaGreat.Ch

/-- A book with one survey more. -/
def moreB (b : Bk) (y : Sv) : Bk := { b with svs := b.svs ++ [y] }
theorem more_valid {b : Bk} {y : Sv} (h : valid b = true) (hy : isSurvey b y = true) (hl : b.svs.length < 8) : valid (moreB b y) = true := by
  simp only [valid, Bool.and_eq_true] at h ⊢
  obtain ⟨⟨⟨⟨h1, h2⟩, h3⟩, h4⟩, h5⟩ := h
  refine ⟨⟨⟨⟨?_, h2⟩, h3⟩, h4⟩, ?_⟩
  · simp [sized, bnds, between, moreB] at h1 ⊢
    omega
  · have he : isSurvey (moreB b y) = isSurvey b := rfl
    simp only [allSurveys, he]
    simp only [allSurveys] at h5
    show (b.svs ++ [y]).all (isSurvey b) = true
    rw [List.all_append, h5]
    simp [hy]
theorem svs_le {b : Bk} (h : valid b = true) : b.svs.length ≤ 8 := by
  simp only [valid, Bool.and_eq_true] at h
  have h1 := h.1.1.1.1
  simp [sized, bnds, between] at h1
  omega
theorem more_lain (b : Bk) (y : Sv) (s : Int) (d p : Nat) : lain (moreB b y) s d p = lain b s d p := by
  induction d with
  | zero => rfl
  | succ d ih => simp only [lain, ih]; rfl
theorem more_lost (b : Bk) (y : Sv) (f : Nat → Int) (s : Int) (d : Nat) : lost (moreB b y) f s d = lost b f s d := by
  simp only [lost, more_lain]
theorem more_read (b : Bk) (y : Sv) (f : Nat → Int) (x : Sv) : read (moreB b y) f x = read b f x := by
  simp only [read, more_lost]
theorem more_surveyed (b : Bk) (y : Sv) (f : Nat → Int) (s : Nat) : surveyed (moreB b y) f s = if y.sec = (s : Int) then meet (surveyed b f s) (read b f y) else surveyed b f s := by
  have hL : ∀ t l, surveyedL (moreB b y) f s t l = surveyedL b f s t l := fun t l => by simp only [surveyedL, more_read]
  show surveyedL (moreB b y) f s _ (b.svs ++ [y]) = _
  rw [surveyedL_snoc, hL, more_read]
  rfl
theorem meet_nonempty {a c : Sp} (h : isEmpty (meet a c) = false) : isEmpty a = false := by
  simp only [isEmpty, decide_eq_false_iff_not, Int.not_lt] at h ⊢
  have h2 : max a.lo c.lo ≤ min a.hi c.hi := h
  omega
theorem read_congr (b : Bk) {f g : Nat → Int} (x : Sv) {s : Nat} (hx : x.sec = s) (hs : s < b.secs.length) (h : ∀ q, q < b.secs.length → f q = g q) : read b f x = read b g x := by
  simp only [read, hx, lost_congr b s hs _ (h s hs) (h _ (by omega))]
/-- Each truth of the longer book is, but for how thick sections are first, one of the shorter, in which the survey fits. -/
theorem more_down {b : Bk} {y : Sv} (hy : isSurvey b y = true) {t : Tr} (ht : t ∈ truths (moreB b y)) :
    ∃ u ∈ truths b, (∀ q, q < b.secs.length → u.wear q = t.wear q) ∧ fitsIn b y u = true ∧ ∀ s, s < b.secs.length → (u.first s).lo ≤ (t.first s).lo ∧ (t.first s).hi ≤ (u.first s).hi := by
  have hi := truths_is ht
  have hn : (moreB b y).secs.length = b.secs.length := rfl
  have hsurv : ∀ s, s < b.secs.length → isEmpty (surveyed b t.wear s) = false := fun s hs => by
    have h1 := (hi.first s hs).2
    rw [more_surveyed] at h1
    split at h1
    · exact meet_nonempty h1
    · exact h1
  obtain ⟨u, hu, hw⟩ := truths_all b t.wear (fun q hq => hi.wear q hq) hsurv
  have hu2 := truths_is hu
  have hsame : ∀ s, s < b.secs.length → u.first s = surveyed b t.wear s := fun s hs => by
    rw [(hu2.first s hs).1]
    exact surveyed_congr b s hs (hw s hs) (hw _ (by omega))
  refine ⟨u, hu, hw, ?_, fun s hs => ?_⟩
  · simp only [isSurvey, isSection, Bool.and_eq_true, decide_eq_true_eq] at hy
    obtain ⟨s, hs⟩ : ∃ s : Nat, y.sec = s := ⟨y.sec.toNat, by omega⟩
    have hsn : s < b.secs.length := by omega
    have h1 := (hi.first s hsn).2
    rw [more_surveyed, if_pos hs] at h1
    rw [fitsIn, hs, Int.toNat_natCast, hsame s hsn, read_congr b y hs hsn (fun q hq => hw q hq), h1]
    rfl
  · rw [hsame s hs, (hi.first s hs).1, more_surveyed]
    split
    · simp only [meet]; omega
    · omega
theorem more_up {b : Bk} {y : Sv} {u : Tr} (hu : u ∈ truths b) (hf : fitsIn b y u = true) : truths (moreB b y) ≠ [] := by
  have hu2 := truths_is hu
  obtain ⟨t, ht, -⟩ := truths_all (moreB b y) u.wear (fun q hq => hu2.wear q hq) (fun s hs => by
    have hf1 := hu2.first s hs
    rw [more_surveyed]
    split
    · rename_i hy
      rw [fitsIn, hy, Int.toNat_natCast, hf1.1] at hf
      simpa using hf
    · exact hf1.2)
  exact List.ne_nil_of_mem ht
theorem more_right {b : Bk} {y : Sv} (hy : isSurvey b y = true) : truths (moreB b y) ≠ [] ↔ (truths b).any (fitsIn b y) = true := by
  rw [List.any_eq_true]
  constructor
  · intro h
    obtain ⟨t, ht⟩ := List.exists_mem_of_ne_nil _ h
    obtain ⟨u, hu, -, hf, -⟩ := more_down hy ht
    exact ⟨u, hu, hf⟩
  · rintro ⟨u, hu, hf⟩
    exact more_up hu hf

/-- What is so no later is told no later. -/
theorem dayOf_sub {b : Bk} (hb : 0 ≤ b.days) {F G : Nat → Bool} (hF : ∀ j k, j ≤ k → F j = true → F k = true) (hG : ∀ j k, j ≤ k → G j = true → G k = true) (hsub : ∀ d : Nat, (d : Int) ≤ b.days → F d = true → G d = true) {x y x' y' : Int} (h : dayOf b F = (x, y)) (h' : dayOf b G = (x', y')) :
    y = 4 ∨ (y = 0 ∧ y' = 0 ∧ x' ≤ x) := by
  by_cases hc : firstDay F (b.days.toNat + 1) ≤ b.days.toNat
  · have h0 := h
    rw [dayOf, if_pos hc] at h0
    injection h0 with e1 e2
    have hd : ((firstDay F (b.days.toNat + 1) : Nat) : Int) ≤ b.days := by omega
    have a1 := (dayOf_iff hF hd h).2
    have a2 := (dayOf_iff hG hd h').2
    have h1 := hsub _ hd (a1.2 ⟨e2.symm, by omega⟩)
    have h2 := a2.1 h1
    right
    omega
  · rw [dayOf, if_neg hc] at h
    injection h with e1 e2
    exact .inl e2.symm

theorem more_thick {b : Bk} {y : Sv} {t u : Tr} (hw : ∀ q, q < b.secs.length → u.wear q = t.wear q) (hfst : ∀ s, s < b.secs.length → (u.first s).lo ≤ (t.first s).lo ∧ (t.first s).hi ≤ (u.first s).hi) {s : Nat} (hs : s < b.secs.length) (d : Nat) :
    (thickOn b s d u).lo ≤ (thickOn (moreB b y) s d t).lo ∧ (thickOn (moreB b y) s d t).hi ≤ (thickOn b s d u).hi := by
  have h1 := hfst s hs
  simp only [thickOn, more_lost]
  rw [lost_congr b s hs d (hw s hs) (hw _ (by omega))]
  omega
/-- Nothing can be so that could not be before. -/
theorem more_facts {b : Bk} {y : Sv} (h : valid b = true) (hy : isSurvey b y = true) (hl : b.svs.length < 8) (hne : truths (moreB b y) ≠ []) {i d : Nat} (hi : i < b.secs.length) (hd : (d : Int) ≤ b.days)
    {s t u v : Sp} (hs : thickSp b i d = s) (ht : thickSp (moreB b y) i d = t) (hu : wearSp b i = u) (hv : wearSp (moreB b y) i = v)
    {x0 y0 x1 y1 z0 w0 z1 w1 : Int} (g1 : thinR b i = (x0, y0)) (g2 : thinR (moreB b y) i = (x1, y1)) (g3 : goneR b i = (z0, w0)) (g4 : goneR (moreB b y) i = (z1, w1)) :
    s.lo ≤ t.lo ∧ t.hi ≤ s.hi ∧ t.lo ≤ t.hi ∧ u.lo ≤ v.lo ∧ v.hi ≤ u.hi ∧ (y1 = 4 ∨ (y1 = 0 ∧ y0 = 0 ∧ x0 ≤ x1)) ∧ (w0 = 4 ∨ (w0 = 0 ∧ w1 = 0 ∧ z1 ≤ z0)) := by
  have hx := more_valid h hy hl
  have hdy := days_le h
  have hnb : truths b ≠ [] := by
    obtain ⟨t0, ht0⟩ := List.exists_mem_of_ne_nil _ hne
    obtain ⟨u0, hu0, -⟩ := more_down hy ht0
    exact List.ne_nil_of_mem hu0
  have p1 : isSection b i = true := by simp [isSection]; omega
  have p1x : isSection (moreB b y) i = true := p1
  have p2 : (isSection b i && isDay b d) = true := by
    simp only [isSection, isDay, Bool.and_eq_true, decide_eq_true_eq]
    exact ⟨⟨Int.natCast_nonneg _, Int.ofNat_lt.2 hi⟩, Int.natCast_nonneg _, hd⟩
  have p2x : (isSection (moreB b y) i && isDay (moreB b y) d) = true := p2
  rw [thickSp, if_pos (studyE_ok h p2 hnb), Int.toNat_natCast, Int.toNat_natCast] at hs
  rw [thickSp, if_pos (studyE_ok hx p2x hne), Int.toNat_natCast, Int.toNat_natCast] at ht
  rw [wearSp, if_pos (studyE_ok h p1 hnb), Int.toNat_natCast] at hu
  rw [wearSp, if_pos (studyE_ok hx p1x hne), Int.toNat_natCast] at hv
  rw [thinR, if_pos (studyE_ok h p1 hnb), Int.toNat_natCast] at g1
  rw [thinR, if_pos (studyE_ok hx p1x hne), Int.toNat_natCast] at g2
  rw [goneR, if_pos (studyE_ok h p1 hnb), Int.toNat_natCast] at g3
  rw [goneR, if_pos (studyE_ok hx p1x hne), Int.toNat_natCast] at g4
  have hnil : ∀ (x : Bk) (F : Tr → Int), truths x ≠ [] → (truths x).map F ≠ [] := fun x F hn hF => hn (List.map_eq_nil_iff.1 hF)
  have lo : ∀ e : Nat, minL ((truths b).map fun t => (thickOn b i e t).lo) ≤ minL ((truths (moreB b y)).map fun t => (thickOn (moreB b y) i e t).lo) := fun e => by
    obtain ⟨t1, ht1, q1⟩ := List.mem_map.1 (minL_mem (hnil _ (fun t => (thickOn (moreB b y) i e t).lo) hne))
    obtain ⟨u1, hu1, hw1, -, hf1⟩ := more_down hy ht1
    have := (more_thick (y := y) hw1 hf1 hi e).1
    have := minL_le (List.mem_map.2 ⟨u1, hu1, rfl⟩ : (thickOn b i e u1).lo ∈ (truths b).map fun t => (thickOn b i e t).lo)
    omega
  have hi' : ∀ e : Nat, maxL ((truths (moreB b y)).map fun t => (thickOn (moreB b y) i e t).hi) ≤ maxL ((truths b).map fun t => (thickOn b i e t).hi) := fun e => by
    obtain ⟨t1, ht1, q1⟩ := List.mem_map.1 (maxL_mem (hnil _ (fun t => (thickOn (moreB b y) i e t).hi) hne))
    obtain ⟨u1, hu1, hw1, -, hf1⟩ := more_down hy ht1
    have := (more_thick (y := y) hw1 hf1 hi e).2
    have := le_maxL (List.mem_map.2 ⟨u1, hu1, rfl⟩ : (thickOn b i e u1).hi ∈ (truths b).map fun t => (thickOn b i e t).hi)
    omega
  refine ⟨?_, ?_, ?_, ?_, ?_, ?_, ?_⟩
  · rw [← hs, ← ht]; exact lo d
  · rw [← hs, ← ht]; exact hi' d
  · rw [← ht]
    obtain ⟨t1, ht1⟩ := List.exists_mem_of_ne_nil _ hne
    have b1 := (thick_bd hx ht1 (s := i) (d := d) hi hd).2.1
    have b2 := minL_le (List.mem_map.2 ⟨t1, ht1, rfl⟩ : (thickOn (moreB b y) i d t1).lo ∈ (truths (moreB b y)).map fun t => (thickOn (moreB b y) i d t).lo)
    have b3 := le_maxL (List.mem_map.2 ⟨t1, ht1, rfl⟩ : (thickOn (moreB b y) i d t1).hi ∈ (truths (moreB b y)).map fun t => (thickOn (moreB b y) i d t).hi)
    show minL _ ≤ maxL _
    omega
  · rw [← hu, ← hv]
    obtain ⟨t1, ht1, q1⟩ := List.mem_map.1 (minL_mem (hnil _ (fun t => (wearOf i t).lo) hne))
    obtain ⟨u1, hu1, hw1, -, hf1⟩ := more_down hy ht1
    have h1 : (wearOf i u1).lo = (wearOf i t1).lo := hw1 i hi
    have h2 := minL_le (List.mem_map.2 ⟨u1, hu1, rfl⟩ : (wearOf i u1).lo ∈ (truths b).map fun t => (wearOf i t).lo)
    show minL _ ≤ minL _
    omega
  · rw [← hu, ← hv]
    obtain ⟨t1, ht1, q1⟩ := List.mem_map.1 (maxL_mem (hnil _ (fun t => (wearOf i t).hi) hne))
    obtain ⟨u1, hu1, hw1, -, hf1⟩ := more_down hy ht1
    have h1 : (wearOf i u1).hi = (wearOf i t1).hi := hw1 i hi
    have h2 := le_maxL (List.mem_map.2 ⟨u1, hu1, rfl⟩ : (wearOf i u1).hi ∈ (truths b).map fun t => (wearOf i t).hi)
    show maxL _ ≤ maxL _
    omega
  · refine dayOf_sub (show 0 ≤ b.days by omega) (may_mono hx hne i) (may_mono h hnb i) (fun e _ he => ?_) g2 g1
    simp only [mayThin, decide_eq_true_eq] at he ⊢
    have := lo e
    have : (moreB b y).rule = b.rule := rfl
    omega
  · refine dayOf_sub (by omega) (sure_mono h hnb i) (sure_mono hx hne i) (fun e _ he => ?_) g3 g4
    simp only [sureThin, decide_eq_true_eq] at he ⊢
    have := hi' e
    have : (moreB b y).rule = b.rule := rfl
    omega

/-- What is told of the survey, and of the book with it. -/
theorem more_cases {b : Bk} {y : Sv} (h : valid b = true) (hy : isSurvey b y = true) (hl : b.svs.length < 8) :
    check (moreB b y) = 0 ∧
    ((studyE b (isSurvey b y) = 12 ∧ fitsR b y = false ∧ right (moreB b y) = false) ∨ (studyE b (isSurvey b y) = 0 ∧ fitsR b y = false ∧ right (moreB b y) = false) ∨
      (truths (moreB b y) ≠ [] ∧ truths b ≠ [] ∧ studyE b (isSurvey b y) = 0 ∧ fitsR b y = true ∧ right (moreB b y) = true)) := by
  have hx := more_valid h hy hl
  refine ⟨by simp [check, hx], ?_⟩
  by_cases hb : truths b = []
  · have hE : studyE b (isSurvey b y) = 12 := by simp [studyE, h, hy, hb]
    have hne : truths (moreB b y) = [] := by
      by_cases hn : truths (moreB b y) = []
      · exact hn
      · have := (more_right hy).1 hn
        rw [hb] at this
        simp at this
    exact .inl ⟨hE, by rw [fitsR, hE, if_neg (by omega)], by simp [right, hne]⟩
  · have hE : studyE b (isSurvey b y) = 0 := studyE_ok h hy hb
    by_cases hn : truths (moreB b y) = []
    · refine .inr (.inl ⟨hE, ?_, by simp [right, hn]⟩)
      rw [fitsR, if_pos hE]
      cases hc : (truths b).any (fitsIn b y)
      · rfl
      · exact absurd hn ((more_right hy).2 hc)
    · refine .inr (.inr ⟨hn, hb, hE, ?_, ?_⟩)
      · rw [fitsR, if_pos hE]; exact (more_right hy).1 hn
      · simp [right, hx, hn]

end Go.Proofs.YtkfahochpnggbaaGreat.Ch
