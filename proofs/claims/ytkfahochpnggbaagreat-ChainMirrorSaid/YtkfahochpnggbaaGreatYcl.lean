/- Texts on the program that the proof leans on, part 64. -/
import Derived.Test.YtkfahochpnggbaaGreatYch
import Derived.Test.YtkfahochpnggbaaGreatYcd
import Derived.Test.YtkfahochpnggbaaGreatYci
set_option linter.unusedVariables false
set_option linter.unusedSimpArgs false

/- Mathematics of ChainMirror: a chain whose places are told from its other end. -/
namespace Go.Proofs.YtkfahochpnggbaaGreat.Ch

def mirS (n : Nat) (x : Sv) : Sv := ⟨(n : Int) - 1 - x.sec, x.day, x.read, x.err⟩
/-- The book whose places are told from the other end. -/
def mirB (b : Bk) : Bk := ⟨b.secs.reverse, b.turns, b.svs.map (mirS b.secs.length), b.rule, b.days⟩
theorem mir_n (b : Bk) : (mirB b).secs.length = b.secs.length := by simp [mirB]
theorem mir_mir (b : Bk) : mirB (mirB b) = b := by
  cases b with
  | mk secs turns svs rule days =>
    simp only [mirB, List.reverse_reverse, List.length_reverse, List.map_map]
    have : (mirS secs.length ∘ mirS secs.length) = id := by
      funext x
      cases x
      simp only [mirS, Function.comp, id]
      congr 1
      omega
    rw [this, List.map_id]
theorem worst_iff (l : List Sec) (m : Int) : worst l ≤ m ↔ 0 ≤ m ∧ ∀ x ∈ l, x.wear.hi ≤ m := by
  unfold worst
  suffices ∀ a : Int, l.foldl (fun m s => max m s.wear.hi) a ≤ m ↔ a ≤ m ∧ ∀ x ∈ l, x.wear.hi ≤ m from this 0
  induction l with
  | nil => intro a; simp
  | cons y l ih =>
    intro a
    rw [List.foldl_cons, ih]
    constructor
    · rintro ⟨h1, h2⟩
      refine ⟨by omega, fun x hx => ?_⟩
      rcases List.mem_cons.1 hx with rfl | hx
      · omega
      · exact h2 x hx
    · rintro ⟨h1, h2⟩
      have := h2 y List.mem_cons_self
      exact ⟨by omega, fun x hx => h2 x (List.mem_cons_of_mem _ hx)⟩
theorem worst_rev (l : List Sec) : worst l.reverse = worst l := by
  have h1 := (worst_iff l.reverse (worst l)).2 (by
    have := (worst_iff l (worst l)).1 (Int.le_refl _)
    exact ⟨this.1, fun x hx => this.2 x (List.mem_reverse.1 hx)⟩)
  have h2 := (worst_iff l (worst l.reverse)).2 (by
    have := (worst_iff l.reverse (worst l.reverse)).1 (Int.le_refl _)
    exact ⟨this.1, fun x hx => this.2 x (List.mem_reverse.2 hx)⟩)
  omega
theorem mir_valid {b : Bk} (h : valid b = true) : valid (mirB b) = true := by
  simp only [valid, Bool.and_eq_true] at h ⊢
  obtain ⟨⟨⟨⟨h1, h2⟩, h3⟩, h4⟩, h5⟩ := h
  refine ⟨⟨⟨⟨?_, ?_⟩, ?_⟩, h4⟩, ?_⟩
  · simp [sized, bnds, between, mirB] at h1 ⊢
    omega
  · simp only [allSections, mirB, List.all_reverse] at h2 ⊢
    exact h2
  · simp only [lastsAll, mirB, List.all_reverse, worst_rev] at h3 ⊢
    exact h3
  · simp only [allSurveys, List.all_eq_true] at h5
    show ((b.svs.map (mirS b.secs.length)).all (isSurvey (mirB b))) = true
    rw [List.all_map, List.all_eq_true]
    intro x hx
    have h6 := h5 x hx
    simp only [isSurvey, Bool.and_eq_true] at h6
    have h7 := h6.1.1.1
    unfold isSection at h7
    rw [Bool.and_eq_true, decide_eq_true_eq, decide_eq_true_eq] at h7
    have k1 : isSection (mirB b) ((b.secs.length : Int) - 1 - x.sec) = true := by
      unfold isSection
      rw [mir_n, Bool.and_eq_true, decide_eq_true_eq, decide_eq_true_eq]
      omega
    show (isSection (mirB b) ((b.secs.length : Int) - 1 - x.sec) && isDay b x.day && between x.read 0 200 && between x.err 0 5) = true
    rw [k1, h6.1.1.2, h6.1.2, h6.2]
    rfl
theorem mir_secAt (b : Bk) {s : Nat} (hs : s < b.secs.length) : secAt (mirB b) (b.secs.length - 1 - s) = secAt b s := by
  simp only [secAt, mirB, List.getD_eq_getElem?_getD]
  rw [List.getElem?_reverse (by omega), show b.secs.length - 1 - (b.secs.length - 1 - s) = s by omega]
theorem mir_place (b : Bk) {s : Nat} (hs : s < b.secs.length) (d : Int) : place (mirB b) ((b.secs.length - 1 - s : Nat) : Int) d = (b.secs.length : Int) - 1 - place b s d := by
  unfold place
  have : turned (mirB b) d = turned b d := rfl
  rw [this, mir_n]
  split <;> omega
theorem mir_lain (b : Bk) {s : Nat} (hs : s < b.secs.length) {p : Nat} (hp : p < b.secs.length) (d : Nat) : lain (mirB b) ((b.secs.length - 1 - s : Nat) : Int) d p = lain b s d (b.secs.length - 1 - p) := by
  induction d with
  | zero => rfl
  | succ d ih =>
    simp only [lain, ih, mir_place b hs]
    congr 1
    by_cases h : (p : Int) = (b.secs.length : Int) - 1 - place b s d
    · rw [if_pos h, if_pos (by omega)]
    · rw [if_neg h, if_neg (by omega)]
theorem mir_lost (b : Bk) {s : Nat} (hs : s < b.secs.length) (hn : b.secs.length ≤ 4) {f g : Nat → Int} (hg : ∀ p, p < b.secs.length → g p = f (b.secs.length - 1 - p)) (d : Nat) :
    lost (mirB b) g ((b.secs.length - 1 - s : Nat) : Int) d = lost b f s d := by
  have hs' : b.secs.length - 1 - s < (mirB b).secs.length := by rw [mir_n]; omega
  have z : ∀ p, b.secs.length ≤ p → lain b s d p = 0 := fun p hp => lain_other b s hs d p (by omega) (by omega)
  have z' : ∀ p, b.secs.length ≤ p → lain (mirB b) ((b.secs.length - 1 - s : Nat) : Int) d p = 0 := fun p hp => lain_other (mirB b) _ hs' d p (by omega) (by rw [mir_n]; omega)
  have e : ∀ p, p < b.secs.length → lain (mirB b) ((b.secs.length - 1 - s : Nat) : Int) d p * g p = lain b s d (b.secs.length - 1 - p) * f (b.secs.length - 1 - p) := fun p hp => by rw [mir_lain b hs hp, hg p hp]
  generalize hN : b.secs.length = N at *
  simp only [lost]
  have hN4 : N = 1 ∨ N = 2 ∨ N = 3 ∨ N = 4 := by omega
  rcases hN4 with rfl | rfl | rfl | rfl
  · rw [e 0 (by omega), z' 1 (by omega), z' 2 (by omega), z' 3 (by omega), z 1 (by omega), z 2 (by omega), z 3 (by omega)]
    simp
  · rw [e 0 (by omega), e 1 (by omega), z' 2 (by omega), z' 3 (by omega), z 2 (by omega), z 3 (by omega)]
    simp
    omega
  · rw [e 0 (by omega), e 1 (by omega), e 2 (by omega), z' 3 (by omega), z 3 (by omega)]
    simp
    omega
  · rw [e 0 (by omega), e 1 (by omega), e 2 (by omega), e 3 (by omega)]
    simp
    omega
theorem mir_surveyed {b : Bk} (hv : ∀ x ∈ b.svs, 0 ≤ x.sec ∧ x.sec < b.secs.length) {s : Nat} (hs : s < b.secs.length) (hn : b.secs.length ≤ 4) {f g : Nat → Int} (hg : ∀ p, p < b.secs.length → g p = f (b.secs.length - 1 - p)) :
    surveyed (mirB b) g (b.secs.length - 1 - s) = surveyed b f s := by
  have hr : ∀ x ∈ b.svs, read (mirB b) g (mirS b.secs.length x) = read b f x := fun x hx => by
    have := hv x hx
    obtain ⟨q, hq⟩ : ∃ q : Nat, x.sec = q := ⟨x.sec.toNat, by omega⟩
    have hql : q < b.secs.length := by omega
    have e : (b.secs.length : Int) - 1 - x.sec = ((b.secs.length - 1 - q : Nat) : Int) := by omega
    rw [hq] at e
    simp only [read, mirS, hq, e, mir_lost b hql hn hg]
  show surveyedL (mirB b) g _ (secAt (mirB b) (b.secs.length - 1 - s)).thick (b.svs.map (mirS b.secs.length)) = surveyedL b f s (secAt b s).thick b.svs
  rw [mir_secAt b hs]
  unfold surveyedL
  rw [List.foldl_map]
  suffices ∀ (l : List Sv), (∀ x ∈ l, x ∈ b.svs) → ∀ t : Sp, l.foldl (fun u x => if (mirS b.secs.length x).sec = ((b.secs.length - 1 - s : Nat) : Int) then meet u (read (mirB b) g (mirS b.secs.length x)) else u) t = l.foldl (fun u x => if x.sec = (s : Int) then meet u (read b f x) else u) t from this b.svs (fun _ h => h) _
  intro l
  induction l with
  | nil => intro _ t; rfl
  | cons x l ih =>
    intro hl t
    have hx := hl x List.mem_cons_self
    rw [List.foldl_cons, List.foldl_cons, hr x hx, ih (fun y hy => hl y (List.mem_cons_of_mem _ hy))]
    congr 1
    have e : (mirS b.secs.length x).sec = ((b.secs.length - 1 - s : Nat) : Int) ↔ x.sec = (s : Int) := by
      simp only [mirS]
      omega
    by_cases h : x.sec = (s : Int)
    · rw [if_pos h, if_pos (e.2 h)]
    · rw [if_neg h, if_neg (fun h' => h (e.1 h'))]
theorem svs_in {b : Bk} (h : valid b = true) : ∀ x ∈ b.svs, 0 ≤ x.sec ∧ x.sec < b.secs.length := by
  simp only [valid, Bool.and_eq_true] at h
  intro x hx
  have := List.all_eq_true.1 h.2 x hx
  simp only [isSurvey, isSection, Bool.and_eq_true, decide_eq_true_eq] at this
  exact this.1.1.1
/-- Two truths that say the same, from both ends. -/
def Corr (n : Nat) (t u : Tr) : Prop := (∀ p, p < n → u.wear p = t.wear (n - 1 - p)) ∧ ∀ s, s < n → u.first (n - 1 - s) = t.first s
theorem mir_truth {b : Bk} (hv : ∀ x ∈ b.svs, 0 ≤ x.sec ∧ x.sec < b.secs.length) (hn : b.secs.length ≤ 4) {t : Tr} (ht : t ∈ truths b) : ∃ u ∈ truths (mirB b), Corr b.secs.length t u := by
  have hi := truths_is ht
  have hg : ∀ p, p < b.secs.length → (fun p => t.wear (b.secs.length - 1 - p)) p = t.wear (b.secs.length - 1 - p) := fun p _ => rfl
  obtain ⟨u, hu, hw⟩ := truths_all (mirB b) (fun p => t.wear (b.secs.length - 1 - p)) (fun q hq => by
    rw [mir_n] at hq
    have h1 := hi.wear (b.secs.length - 1 - q) (by omega)
    have h2 := mir_secAt b (s := b.secs.length - 1 - q) (by omega)
    rw [show b.secs.length - 1 - (b.secs.length - 1 - q) = q by omega] at h2
    rw [h2]
    exact h1) (fun s hs => by
    rw [mir_n] at hs
    have h1 := mir_surveyed hv (s := b.secs.length - 1 - s) (by omega) hn hg
    rw [show b.secs.length - 1 - (b.secs.length - 1 - s) = s by omega] at h1
    rw [h1]
    exact (hi.first _ (by omega)).2)
  rw [mir_n] at hw
  refine ⟨u, hu, fun p hp => hw p hp, fun s hs => ?_⟩
  have hu2 := (truths_is hu).first (b.secs.length - 1 - s) (by rw [mir_n]; omega)
  rw [hu2.1, (hi.first s hs).1]
  exact mir_surveyed hv hs hn fun p hp => hw p hp
theorem mir_back {b : Bk} (hv : ∀ x ∈ b.svs, 0 ≤ x.sec ∧ x.sec < b.secs.length) (hn : b.secs.length ≤ 4) {u : Tr} (hu : u ∈ truths (mirB b)) : ∃ t ∈ truths b, Corr b.secs.length t u := by
  have hv' : ∀ x ∈ (mirB b).svs, 0 ≤ x.sec ∧ x.sec < (mirB b).secs.length := by
    intro x hx
    obtain ⟨y, hy, rfl⟩ := List.mem_map.1 hx
    have := hv y hy
    rw [mir_n]
    simp only [mirS]
    omega
  obtain ⟨t, ht, h1, h2⟩ := mir_truth hv' (by rw [mir_n]; exact hn) hu
  rw [mir_mir] at ht
  rw [mir_n] at h1 h2
  refine ⟨t, ht, fun p hp => ?_, fun s hs => ?_⟩
  · rw [h1 (b.secs.length - 1 - p) (by omega), show b.secs.length - 1 - (b.secs.length - 1 - p) = p by omega]
  · have := h2 (b.secs.length - 1 - s) (by omega)
    rw [show b.secs.length - 1 - (b.secs.length - 1 - s) = s by omega] at this
    exact this.symm
theorem minL_ext {l m : List Int} (hl : l ≠ []) (hm : m ≠ []) (h1 : ∀ x ∈ l, x ∈ m) (h2 : ∀ x ∈ m, x ∈ l) : minL l = minL m :=
  Int.le_antisymm (minL_le (h2 _ (minL_mem hm))) (minL_le (h1 _ (minL_mem hl)))
theorem maxL_ext {l m : List Int} (hl : l ≠ []) (hm : m ≠ []) (h1 : ∀ x ∈ l, x ∈ m) (h2 : ∀ x ∈ m, x ∈ l) : maxL l = maxL m :=
  Int.le_antisymm (le_maxL (h1 _ (maxL_mem hl))) (le_maxL (h2 _ (maxL_mem hm)))
theorem mir_none {b : Bk} (hv : ∀ x ∈ b.svs, 0 ≤ x.sec ∧ x.sec < b.secs.length) (hn : b.secs.length ≤ 4) : truths (mirB b) = [] ↔ truths b = [] := by
  constructor
  · intro h
    by_cases hb : truths b = []
    · exact hb
    · obtain ⟨t, ht⟩ := List.exists_mem_of_ne_nil _ hb
      obtain ⟨u, hu, -⟩ := mir_truth hv hn ht
      rw [h] at hu
      simp at hu
  · intro h
    by_cases hb : truths (mirB b) = []
    · exact hb
    · obtain ⟨u, hu⟩ := List.exists_mem_of_ne_nil _ hb
      obtain ⟨t, ht, -⟩ := mir_back hv hn hu
      rw [h] at ht
      simp at ht
/-- What is least and greatest in all truths is the same from both ends. -/
theorem mir_minmax {b : Bk} (hv : ∀ x ∈ b.svs, 0 ≤ x.sec ∧ x.sec < b.secs.length) (hn : b.secs.length ≤ 4) (F G : Tr → Int) (h : ∀ t u, Corr b.secs.length t u → G u = F t) :
    minL ((truths (mirB b)).map G) = minL ((truths b).map F) ∧ maxL ((truths (mirB b)).map G) = maxL ((truths b).map F) := by
  by_cases hb : truths b = []
  · have := (mir_none hv hn).2 hb
    rw [this, hb]
    exact ⟨rfl, rfl⟩
  · have hb' : truths (mirB b) ≠ [] := fun h => hb ((mir_none hv hn).1 h)
    have n1 : (truths (mirB b)).map G ≠ [] := fun h => hb' (List.map_eq_nil_iff.1 h)
    have n2 : (truths b).map F ≠ [] := fun h => hb (List.map_eq_nil_iff.1 h)
    have s1 : ∀ x ∈ (truths (mirB b)).map G, x ∈ (truths b).map F := fun x hx => by
      obtain ⟨u, hu, rfl⟩ := List.mem_map.1 hx
      obtain ⟨t, ht, hc⟩ := mir_back hv hn hu
      exact List.mem_map.2 ⟨t, ht, (h t u hc).symm⟩
    have s2 : ∀ x ∈ (truths b).map F, x ∈ (truths (mirB b)).map G := fun x hx => by
      obtain ⟨t, ht, rfl⟩ := List.mem_map.1 hx
      obtain ⟨u, hu, hc⟩ := mir_truth hv hn ht
      exact List.mem_map.2 ⟨u, hu, h t u hc⟩
    exact ⟨minL_ext n1 n2 s1 s2, maxL_ext n1 n2 s1 s2⟩
theorem mir_thickOn {b : Bk} (L : List Int) (hn : b.secs.length ≤ 4) {t u : Tr} (hc : Corr b.secs.length t u) {s : Nat} (hs : s < b.secs.length) (d : Nat) :
    thickOn (withTurns (mirB b) L) (b.secs.length - 1 - s) d u = thickOn (withTurns b L) s d t := by
  have h1 : lost (withTurns (mirB b) L) u.wear ((b.secs.length - 1 - s : Nat) : Int) d = lost (withTurns b L) t.wear s d := mir_lost (withTurns b L) hs hn hc.1 d
  simp only [thickOn, hc.2 s hs, h1]
theorem mir_may {b : Bk} (hv : ∀ x ∈ b.svs, 0 ≤ x.sec ∧ x.sec < b.secs.length) (hn : b.secs.length ≤ 4) (L : List Int) {s : Nat} (hs : s < b.secs.length) :
    mayThin (withTurns (mirB b) L) (b.secs.length - 1 - s) (truths (mirB b)) = mayThin (withTurns b L) s (truths b) := by
  funext d
  have h := (mir_minmax hv hn (fun t => (thickOn (withTurns b L) s d t).lo) (fun u => (thickOn (withTurns (mirB b) L) (b.secs.length - 1 - s) d u).lo) (fun t u hc => by rw [mir_thickOn L hn hc hs])).1
  simp only [mayThin]
  rw [h]
  rfl

end Go.Proofs.YtkfahochpnggbaaGreat.Ch

/- Mathematics of ChainMirror: the same is told from both ends. -/
namespace Go.Proofs.YtkfahochpnggbaaGreat.Ch

theorem mir_study {b : Bk} (h : valid b = true) (p : Bool) : studyE (mirB b) p = studyE b p := by
  have hn := (secs_le h).2
  have := mir_none (svs_in h) hn
  simp only [studyE, h, mir_valid h]
  by_cases hb : truths b = []
  · rw [if_pos hb, if_pos (this.2 hb)]
  · rw [if_neg hb, if_neg (fun h' => hb (this.1 h'))]
theorem mir_isSection {b : Bk} {i : Nat} (hi : i < b.secs.length) : isSection (mirB b) ((b.secs.length - 1 - i : Nat) : Int) = isSection b i := by
  unfold isSection
  rw [mir_n, Bool.eq_iff_iff, Bool.and_eq_true, Bool.and_eq_true, decide_eq_true_eq, decide_eq_true_eq, decide_eq_true_eq, decide_eq_true_eq]
  omega
theorem mir_thick {b : Bk} (h : valid b = true) {i : Nat} (hi : i < b.secs.length) (d : Int) :
    thickSp (mirB b) ((b.secs.length - 1 - i : Nat) : Int) d = thickSp b i d := by
  have hn := (secs_le h).2
  have hd : isDay (mirB b) d = isDay b d := rfl
  simp only [thickSp, mir_study h, mir_isSection hi, hd, Int.toNat_natCast]
  have := mir_minmax (svs_in h) hn (fun t => (thickOn b i d.toNat t).lo) (fun u => (thickOn (mirB b) (b.secs.length - 1 - i) d.toNat u).lo) (fun t u hc => by
    have := mir_thickOn b.turns hn hc hi d.toNat
    show (thickOn (withTurns (mirB b) b.turns) _ _ u).lo = (thickOn (withTurns b b.turns) _ _ t).lo
    rw [this])
  have h2 := mir_minmax (svs_in h) hn (fun t => (thickOn b i d.toNat t).hi) (fun u => (thickOn (mirB b) (b.secs.length - 1 - i) d.toNat u).hi) (fun t u hc => by
    have := mir_thickOn b.turns hn hc hi d.toNat
    show (thickOn (withTurns (mirB b) b.turns) _ _ u).hi = (thickOn (withTurns b b.turns) _ _ t).hi
    rw [this])
  rw [this.1, h2.2]
theorem mir_wear {b : Bk} (h : valid b = true) {i : Nat} (hi : i < b.secs.length) :
    wearSp (mirB b) ((b.secs.length - 1 - i : Nat) : Int) = wearSp b i := by
  have hn := (secs_le h).2
  simp only [wearSp, mir_study h, mir_isSection hi, Int.toNat_natCast]
  have hc0 : ∀ t u, Corr b.secs.length t u → u.wear (b.secs.length - 1 - i) = t.wear i := fun t u hc => by
    have := hc.1 (b.secs.length - 1 - i) (by omega)
    rw [show b.secs.length - 1 - (b.secs.length - 1 - i) = i by omega] at this
    exact this
  have h1 := mir_minmax (svs_in h) hn (fun t => (wearOf i t).lo) (fun u => (wearOf (b.secs.length - 1 - i) u).lo) (fun t u hc => hc0 t u hc)
  have h2 := mir_minmax (svs_in h) hn (fun t => (wearOf i t).hi) (fun u => (wearOf (b.secs.length - 1 - i) u).hi) (fun t u hc => hc0 t u hc)
  rw [h1.1, h2.2]
theorem mir_may1 {b : Bk} (h : valid b = true) {i : Nat} (hi : i < b.secs.length) : mayThin (mirB b) (b.secs.length - 1 - i) (truths (mirB b)) = mayThin b i (truths b) :=
  mir_may (svs_in h) (secs_le h).2 b.turns hi
theorem mir_thin {b : Bk} (h : valid b = true) {i : Nat} (hi : i < b.secs.length) : thinR (mirB b) ((b.secs.length - 1 - i : Nat) : Int) = thinR b i := by
  simp only [thinR, mir_study h, mir_isSection hi, Int.toNat_natCast, mir_may1 h hi]
  rfl
theorem someOf_rev {n : Nat} (hn : n ≤ 4) {F G : Nat → Bool} (h : ∀ s, s < n → G (n - 1 - s) = F s) : (someOf G n).length = (someOf F n).length := by
  have hN : n = 0 ∨ n = 1 ∨ n = 2 ∨ n = 3 ∨ n = 4 := by omega
  rcases hN with rfl | rfl | rfl | rfl | rfl
  · rfl
  · have h0 := h 0 (by omega)
    simp at h0
    simp [someOf, List.range_succ, List.filter_cons, h0]
  · have h0 := h 0 (by omega)
    have h1 := h 1 (by omega)
    simp at h0 h1
    simp [someOf, List.range_succ, List.filter_cons, h0, h1]
    cases F 0 <;> cases F 1 <;> rfl
  · have h0 := h 0 (by omega)
    have h1 := h 1 (by omega)
    have h2 := h 2 (by omega)
    simp at h0 h1 h2
    simp [someOf, List.range_succ, List.filter_cons, h0, h1, h2]
    cases F 0 <;> cases F 1 <;> cases F 2 <;> rfl
  · have h0 := h 0 (by omega)
    have h1 := h 1 (by omega)
    have h2 := h 2 (by omega)
    have h3 := h 3 (by omega)
    simp at h0 h1 h2 h3
    simp [someOf, List.range_succ, List.filter_cons, h0, h1, h2, h3]
    cases F 0 <;> cases F 1 <;> cases F 2 <;> cases F 3 <;> rfl
theorem mir_cut {b : Bk} (h : valid b = true) (d : Int) : (cutL (mirB b) d).length = (cutL b d).length ∧ ∀ x ∈ cutL b d, (b.secs.length : Int) - 1 - x ∈ cutL (mirB b) d := by
  have hn := (secs_le h).2
  have hd : isDay (mirB b) d = isDay b d := rfl
  have hF : ∀ s, s < b.secs.length → (fun s => mayThin (mirB b) s (truths (mirB b)) d.toNat) (b.secs.length - 1 - s) = (fun s => mayThin b s (truths b) d.toNat) s := fun s hs => by
    show mayThin (mirB b) (b.secs.length - 1 - s) (truths (mirB b)) d.toNat = _
    rw [mir_may1 h hs]
  simp only [cutL, mir_study h, hd, mir_n]
  split
  · refine ⟨someOf_rev hn hF, fun x hx => ?_⟩
    obtain ⟨k, rfl, hk, hk2⟩ := mem_someOf.1 hx
    refine mem_someOf.2 ⟨b.secs.length - 1 - k, by omega, by omega, ?_⟩
    exact (hF k hk).trans hk2
  · exact ⟨rfl, fun x hx => by simp at hx⟩
theorem foldl_min_ext {l m : List Int} (h : ∀ x, x ∈ l ↔ x ∈ m) (a : Int) : l.foldl min a = m.foldl min a := by
  obtain ⟨p1, p2⟩ := foldl_min_le l a
  obtain ⟨q1, q2⟩ := foldl_min_le m a
  have h1 : l.foldl min a ≤ m.foldl min a := by
    rcases foldl_min_mem m a with e | e
    · rw [e]; exact p1
    · exact p2 _ ((h _).2 e)
  have h2 : m.foldl min a ≤ l.foldl min a := by
    rcases foldl_min_mem l a with e | e
    · rw [e]; exact q1
    · exact q2 _ ((h _).1 e)
  omega
theorem mir_soonest {b : Bk} (h : valid b = true) (L : List Int) : soonest (withTurns (mirB b) L) (truths (mirB b)) = soonest (withTurns b L) (truths b) := by
  have hm : ∀ i, i < b.secs.length → mayThin (withTurns (mirB b) L) (b.secs.length - 1 - i) (truths (mirB b)) = mayThin (withTurns b L) i (truths b) := fun i hi => mir_may (svs_in h) (secs_le h).2 L hi
  unfold soonest
  refine foldl_min_ext (fun x => ?_) _
  have e1 : (withTurns (mirB b) L).secs.length = b.secs.length := mir_n b
  have e2 : (withTurns b L).secs.length = b.secs.length := rfl
  rw [e1, e2]
  simp only [firsts, List.mem_map, List.mem_range]
  constructor
  · rintro ⟨s, hs, rfl⟩
    refine ⟨b.secs.length - 1 - s, by omega, ?_⟩
    have := hm (b.secs.length - 1 - s) (by omega)
    rw [show b.secs.length - 1 - (b.secs.length - 1 - s) = s by omega] at this
    rw [this]
    rfl
  · rintro ⟨s, hs, rfl⟩
    refine ⟨b.secs.length - 1 - s, by omega, ?_⟩
    rw [hm s hs]
    rfl
theorem mir_turn {b : Bk} (h : valid b = true) : turnR (mirB b) = turnR b := by
  have hc : ∀ day, canTurn (mirB b) day = canTurn b day := fun day => by
    simp only [canTurn, mirB, List.all_map]
    rfl
  have hf : ∀ k, turnFold (mirB b) (truths (mirB b)) k = turnFold b (truths b) k := by
    intro k
    induction k with
    | zero =>
      show (0, soonest (mirB b) (truths (mirB b))) = (0, soonest b (truths b))
      have := mir_soonest h b.turns
      congr 1
    | succ k ih =>
      rw [turnFold_succ, turnFold_succ, ih]
      have ht : (mirB b).turns = b.turns := rfl
      simp only [turnStep, hc, ht, mir_soonest h]
  have hdd : (mirB b).days = b.days := rfl
  simp only [turnR, mir_study h, hdd, hf]
theorem kept_map (f : Sv → Sv) (l : List Sv) (no : List Int) : ∀ k, k ≤ l.length → keptTo (l.map f) no k = (keptTo l no k).map f := by
  intro k
  induction k with
  | zero => intro _; rfl
  | succ k ih =>
    intro hk
    by_cases hin : (k : Int) ∈ no
    · rw [keptTo_no hin, keptTo_no hin, ih (by omega)]
    · rw [keptTo_yes (by simp; omega) hin, keptTo_yes (by omega) hin, ih (by omega), List.map_append]
      simp
theorem mir_without (b : Bk) (no : List Int) : without (mirB b) no = mirB (without b no) := by
  have e : withoutL (b.svs.map (mirS b.secs.length)) no = (withoutL b.svs no).map (mirS b.secs.length) := by
    unfold withoutL
    rw [List.length_map]
    exact kept_map _ _ _ _ (Nat.le_refl _)
  simp only [without, mirB]
  rw [e]
theorem mir_wrong {b : Bk} (h : valid b = true) : wrongL (mirB b) = wrongL b := by
  have hn := (secs_le h).2
  have hF : trueWithout (mirB b) = trueWithout b := by
    funext no
    have hv : ∀ x ∈ (without b no).svs, 0 ≤ x.sec ∧ x.sec < (without b no).secs.length := fun x hx => svs_in h x (keptTo_mem (Nat.le_refl _) x hx)
    have := mir_none hv hn
    rw [← mir_without] at this
    simp only [trueWithout]
    rw [Bool.eq_iff_iff, decide_eq_true_eq, decide_eq_true_eq]
    exact not_congr this
  have hl : (mirB b).svs.length = b.svs.length := by simp [mirB]
  rw [wrongL, wrongL, if_pos h, if_pos (mir_valid h), hF, hl]

end Go.Proofs.YtkfahochpnggbaaGreat.Ch

/- Contract of the statements' helper mirror. -/
namespace Go.Proofs.YtkfahochpnggbaaGreat
open Go.RowKit

abbrev vSec0 : Value := .agg #[I 0, I 0, I 0, I 0]
theorem infoSec : (Tryz.prog.info? 76).map (fun i => (i.zero, i.size, i.bytes)) = some (some vSec0, 4, 32) := by kernel_rfl
theorem underSecs : Tryz.prog.underlying 22 = some (.slice 76) := by kernel_rfl

set_option maxRecDepth 100000 in
set_option maxHeartbeats 4000000 in
theorem mirror_any (b : Ch.Bk) (S T V : Value) (w : World) (hb : RB w w.heap.size b S T V) (hn1 : 1 ≤ b.secs.length) (hn4 : b.secs.length ≤ 4) (hm : b.svs.length ≤ 8) (hsv : ∀ x ∈ b.svs, 0 ≤ x.sec ∧ x.sec < b.secs.length) :
    Calls Tryz.prog 41 #[vBk S T V b.rule b.days] w fun e w' => (∃ S' V', e = .returned (vBk S' T V' b.rule b.days) ∧ RB w' w'.heap.size (Ch.mirB b) S' T V' ∧ Fresh w.heap.size S' ∧ Fresh w.heap.size V') ∧ Below w.heap.size w w' := by
  obtain ⟨A0, k0, rfl⟩ := hb.secs.form
  obtain ⟨A1, k1, rfl⟩ := hb.turns.form
  obtain ⟨A2, k2, rfl⟩ := hb.svs.form
  have HB := Lib.hid hb
  have HSV := Lib.hid hsv
  clear hb hsv
  go_enter Tryz.func41, Tryz.ntmps41
  go_wp2_with fail
  refine name_world ?_
  intro W1 hW1
  have hb1 : Below w.heap.size w W1 := by rw [hW1]; exact ((Below.refl _ _).alloc (Nat.le_refl _) _).alloc (by simp) _
  have rB : W1.heap[w.heap.size]? = some (.cells #[.slice A0 b.secs.length k0, .slice A1 b.turns.length k1, .slice A2 b.svs.length k2, I b.rule, I b.days] 26 (0, 0)) := by rw [hW1]; exact (Below.heap_alloc _ _ _ (by simp)).trans (heap_at _ _ rfl)
  have rO : W1.heap[w.heap.size + 1]? = some (.cells #[.slice none 0 0, .slice none 0 0, .slice none 0 0, I 0, I 0] 26 (0, 0)) := by rw [hW1]; exact heap_at _ _ (by simp)
  have hz1 : W1.heap.size = w.heap.size + 1 + 1 := by rw [hW1]; simp
  have hlB : w.heap.size < W1.heap.size := by omega
  have qB0 := cell_of_row W1 _ 0 _ _ _ rB
  have qB1 := cell_of_row W1 _ 1 _ _ _ rB
  have qB2 := cell_of_row W1 _ 2 _ _ _ rB
  have qB3 := cell_of_row W1 _ 3 _ _ _ rB
  have qB4 := cell_of_row W1 _ 4 _ _ _ rB
  simp only [List.getElem?_toArray, List.getElem?_cons_zero, List.getElem?_cons_succ] at qB0 qB1 qB2 qB3 qB4
  have RBw := Lib.hid rB
  have ROw := Lib.hid rO
  have HB1 := Lib.hid hb1
  have HZ1 := Lib.hid hz1
  clear hW1 rB rO hb1 hz1
  refine name_act ?_
  intro A hA
  obtain ⟨R, hR⟩ : ∃ R : Act → World → Prop, R = fun a' w' => (∃ u8 u9 u10 u11, a' = ((((((A.put (some 8) u8).put (some 9) u9).put (some 10) u10).put (some 11) u11).put (some 3) (.pointer (some ⟨W1.heap.size, 0, none⟩))).put (some 4) (I b.secs.length))) ∧ w'.heap[W1.heap.size]? = some (.cells #[.slice A0 b.secs.length k0, .slice A1 b.turns.length k1, .slice A2 b.svs.length k2, I b.rule, I b.days] 26 (0, 0)) ∧ w'.heap.size = W1.heap.size + 1 ∧ Held W1 w' := ⟨_, rfl⟩
  have HR := Lib.hid hR
  clear hR
  refine wp_between R ?first1 ?rest1
  case first1 =>
    subst hA
    refine wp_region_held_drew (S := fun w' => Held W1 w') (by kernel_rfl) (held_start W1) (fun _ => ?_)
    refine wpAnyH_take (i := 0) (oi := { dst := some 8, op := Go.Op.load 26 (Go.Operand.tmp 1), type := 26, pos := "outright.go:241", after := #[], guard := none }) (v := ?v17) rfl (by kernel_rfl) (by kernel_rfl) (by kernel_rfl) (fun _ _ _ h => h) (Or.inl ⟨by rfl, ?hy17⟩) (held_start W1) ?r17
    case hy17 =>
      intro w' hSw
      have hq := hSw.1
      clear hSw
      go_simp
      with_reducible rfl
    try simp only [Act.put, List.setIfInBounds_toArray, List.set_cons_zero, List.set_cons_succ]
    refine wpAnyH_take (i := 1) (oi := { dst := some 9, op := Go.Op.fieldAddr 26 (Go.Operand.tmp 1) 0, type := 0, pos := "outright.go:241", after := #[], guard := none }) (v := ?v18) rfl (by kernel_rfl) (by kernel_rfl) (by kernel_rfl) (fun _ _ _ h => h) (Or.inl ⟨by rfl, ?hy18⟩) (held_start W1) ?r18
    case hy18 =>
      intro w' hSw
      have hq := hSw.1
      clear hSw
      go_simp
      with_reducible rfl
    try simp only [Act.put, List.setIfInBounds_toArray, List.set_cons_zero, List.set_cons_succ]
    refine wpAnyH_take (i := 2) (oi := { dst := some 10, op := Go.Op.load 22 (Go.Operand.tmp 9), type := 22, pos := "outright.go:241", after := #[{ on := 1, ground := Go.Ground.data }], guard := none }) (v := ?v19) rfl (by kernel_rfl) (by kernel_rfl) (by kernel_rfl) (fun _ _ _ h => h) (Or.inl ⟨by rfl, ?hy19⟩) (held_start W1) ?r19
    case hy19 =>
      intro w' hSw
      have hq := hSw.1
      clear hSw
      go_simp
      with_reducible rfl
    try simp only [Act.put, List.setIfInBounds_toArray, List.set_cons_zero, List.set_cons_succ]
    refine wpAnyH_take (i := 3) (oi := { dst := some 11, op := Go.Op.call { callee := Go.Callee.builtin Go.Builtin.len, args := #[Go.Operand.tmp 10], argTypes := #[22] }, type := 3, pos := "outright.go:241", after := #[{ on := 2, ground := Go.Ground.data }], guard := none }) (v := ?v20) rfl (by kernel_rfl) (by kernel_rfl) (by kernel_rfl) (fun _ _ _ h => h) (Or.inl ⟨by rfl, ?hy20⟩) (held_start W1) ?r20
    case hy20 =>
      intro w' hSw
      have hq := hSw.1
      clear hSw
      go_simp
      with_reducible rfl
    try simp only [Act.put, List.setIfInBounds_toArray, List.set_cons_zero, List.set_cons_succ]
    refine wpAnyH_ready (rs := [4]) (by kernel_rfl) (by simp) ?_
    refine AllReadyH.cons rfl (fun K hK => ?_) AllReadyH.nil
    go_simp
    refine hK.out _ _ (held_alloc (held_start W1) _) (fun _ => ?_)
    clear hK K
    try simp only [Act.put, List.setIfInBounds_toArray, List.set_cons_zero, List.set_cons_succ]
    refine name_anyH ?_
    intro w21 hWw21
    have hrw21 : w21.heap[W1.heap.size]? = some (.cells #[.slice none 0 0, .slice none 0 0, .slice none 0 0, I 0, I 0] 26 (0, 0)) := by rw [hWw21]; exact heap_at _ _ rfl
    have hSw21 : Held W1 w21 := by rw [hWw21]; exact held_alloc (held_start W1) _
    have hzw21 : w21.heap.size = W1.heap.size + 1 := by rw [hWw21]; simp
    clear hWw21
    refine wpAnyH_ready (rs := [5]) (by kernel_rfl) (by simp) ?_
    refine AllReadyH.cons rfl (fun K hK => ?_) AllReadyH.nil
    rw [if_pos (by rfl)]
    refine wp_store_row 26 _ _ rfl _ _ rfl rfl _ _ hrw21 (by kernel_rfl) rfl (by simp [Value.oneCell']) ?_
    have hSw22 := held_row hSw21 (Nat.le_refl _) (#[.slice A0 b.secs.length k0, .slice A1 b.turns.length k1, .slice A2 b.svs.length k2, I b.rule, I b.days])
    refine hK.out _ _ hSw22 (fun _ => ?_)
    clear hK K
    try simp only [Act.put, List.setIfInBounds_toArray, List.set_cons_zero, List.set_cons_succ]
    have hrw22 := setRow_heap _ _ _ (#[.slice A0 b.secs.length k0, .slice A1 b.turns.length k1, .slice A2 b.svs.length k2, I b.rule, I b.days]) _ _ hrw21
    refine wpAnyH_take (i := 6) (oi := { dst := some 4, op := Go.Op.assign (Go.Operand.tmp 11), type := 3, pos := "outright.go:241", after := #[{ on := 3, ground := Go.Ground.data }, { on := 5, ground := Go.Ground.chain }, { on := 0, ground := Go.Ground.phase }, { on := 1, ground := Go.Ground.phase }, { on := 2, ground := Go.Ground.phase }, { on := 3, ground := Go.Ground.phase }, { on := 4, ground := Go.Ground.phase }, { on := 5, ground := Go.Ground.phase }], guard := none }) (v := ?v23) rfl (by kernel_rfl) (by kernel_rfl) (by kernel_rfl) (fun _ _ _ h => h) (Or.inl ⟨by rfl, ?hy23⟩) hSw22 ?r23
    case hy23 =>
      intro w' hSw
      have hq := hSw.1
      clear hSw
      go_simp
      with_reducible rfl
    try simp only [Act.put, List.setIfInBounds_toArray, List.set_cons_zero, List.set_cons_succ]
    refine wpAnyH_done (by kernel_rfl) ?_ _
    show R _ _
    rw [HR.out]
    simp only [Act.put, List.setIfInBounds_toArray, List.set_cons_zero, List.set_cons_succ]
    exact ⟨⟨_, _, _, _, rfl⟩, hrw22, by simp [World.setRow, hzw21], hSw22⟩
  case rest1 =>
    intro a' w4 hra
    rw [HR.out] at hra
    clear HR
    obtain ⟨⟨u8, u9, u10, u11, rfl⟩, rX, hz4, hHE⟩ := hra
    subst hA
    try simp only [Act.put, List.setIfInBounds_toArray, List.set_cons_zero, List.set_cons_succ]
    rw [HZ1.out] at rX hz4 ⊢
    have hB4 := hHE.2.2
    have hF0 : w4.frozen? ⟨w.heap.size + 1 + 1, 0, none⟩ = false := by simp [World.frozen?, rX]
    have hF2 : w4.frozen? ⟨w.heap.size + 1 + 1, 2, none⟩ = false := by simp [World.frozen?, rX]
    have qX0 := cell_of_row w4 _ 0 _ _ _ rX
    have qX2 := cell_of_row w4 _ 2 _ _ _ rX
    simp only [List.getElem?_toArray, List.getElem?_cons_zero, List.getElem?_cons_succ] at qX0 qX2
    have RX4 := Lib.hid rX
    have HB4 := Lib.hid hB4
    have HZ4 := Lib.hid hz4
    have hnw : IntKind.i64.wrap ((b.secs.length : Int) - 1) = (b.secs.length : Int) - 1 := IntWalk.i64_in _ (by omega)
    clear rX hB4 hHE hz4 qB0 qB1 qB2 qB3 qB4 hlB
    go_wp2_with fail
    refine name_world ?_
    intro W5 hW5
    have hB5 : Below (w.heap.size + 1 + 1) w4 W5 := by rw [hW5]; exact ((Below.refl _ _).setCell (p := ⟨w.heap.size + 1 + 1, 0, none⟩) (Nat.le_refl _) _).setCell (p := ⟨w.heap.size + 1 + 1, 2, none⟩) (Nat.le_refl _) _
    have rX : W5.heap[w.heap.size + 1 + 1]? = some (.cells #[.slice none 0 0, .slice A1 b.turns.length k1, .slice none 0 0, I b.rule, I b.days] 26 (0, 0)) := by rw [hW5]; simp [World.setCell, Array.getElem?_modify, RX4.out]
    have HB5 := Lib.hid (show Below (w.heap.size + 1 + 1) W1 W5 from by have := HB4.out; rw [HZ1.out] at this; exact this.trans hB5)
    clear hW5 hB5 qX0 qX2 hF0 hF2 RX4 HB4 HZ4
    go_loopw [5] (fun iv wr => ∃ (k : Nat) (i : Int) (v : Value), i + k + 1 = b.secs.length ∧ -1 ≤ i ∧ iv = I i ∧ Below (w.heap.size + 1 + 1) W5 wr ∧ wr.heap[w.heap.size + 1 + 1]? = some (.cells #[v, .slice A1 b.turns.length k1, .slice none 0 0, I b.rule, I b.days] 26 (0, 0)) ∧ wr.ownsRow (w.heap.size + 1 + 1 + 1) 76 4 v (b.secs.reverse.take k).length ((b.secs.reverse.take k).flatMap cSec)) (fun iv _ => (intOf iv + 1).toNat)
    case atStart => exact ⟨0, (b.secs.length : Int) - 1, .slice none 0 0, by omega, by omega, rfl, Below.refl _ _, rX, World.ownsRow_nil _ _ _ _⟩
    case round =>
      obtain ⟨k, i, v, hki, him, rfl, hB, rX, hown⟩ := hrel
      have hB1r : Below (w.heap.size + 1 + 1) W1 wr := HB5.out.trans hB
      have hbw : Below w.heap.size w wr := HB1.out.trans (hB1r.mono (by omega))
      have rBr := (hB1r.block w.heap.size (by omega)).trans RBw.out
      have HBr := Lib.hid hB
      have HB1R := Lib.hid hB1r
      have HBW := Lib.hid hbw
      have RX2 := Lib.hid rX
      have HOWNr := Lib.hid hown
      clear hB hB1r hbw rX hown
      by_cases hi0 : 0 ≤ i
      · obtain ⟨j, rfl⟩ : ∃ j : Nat, i = j := ⟨i.toNat, by omega⟩
        have hj : j < b.secs.length := by omega
        have hji : (j : Int) < b.secs.length := by omega
        have hjw : IntKind.i64.wrap ((j : Int) - 1) = (j : Int) - 1 := IntWalk.i64_in _ (by omega)
        obtain ⟨w2, hw2⟩ : ∃ u : World, u = wr := ⟨_, rfl⟩
        rw [← hw2] at HBr HB1R HBW RX2 HOWNr rBr ⊢
        clear hw2
        obtain ⟨bl, off, c', hv, hbl, q0, q1, q2, q3⟩ := (HB.out.below HBW.out (Nat.le_refl _)).sec hj
        injection hv with hA _ hc
        subst hA hc
        have hrk : b.secs.reverse.take (k + 1) = b.secs.reverse.take k ++ [b.secs[j]] := by
          rw [List.take_succ_eq_append_getElem (by simp; omega), List.getElem_reverse]
          congr 2
          have : b.secs.length - 1 - k = j := by omega
          simp only [this]
        generalize hx : b.secs[j] = x at q0 q1 q2 q3 hrk
        have qB0 := cell_of_row w2 _ 0 _ _ _ rBr
        simp only [List.getElem?_toArray, List.getElem?_cons_zero, List.getElem?_cons_succ] at qB0
        have hle : (b.secs.reverse.take k).length ≤ 4 := by rw [List.length_take, List.length_reverse]; omega
        obtain ⟨m, hm'⟩ : ∃ m, (b.secs.reverse.take k).length = m := ⟨_, rfl⟩
        obtain ⟨xs, hxs⟩ : ∃ xs, (b.secs.reverse.take k).flatMap cSec = xs := ⟨_, rfl⟩
        have hown2 := HOWNr.out
        rw [hm', hxs] at hown2
        rw [hm'] at hle
        have HM := Lib.hid hm'
        have HXS := Lib.hid hxs
        have HRK := Lib.hid hrk
        have HOWN2 := Lib.hid hown2
        have hwF : w.heap.size < w.heap.size + 1 + 1 := by omega
        have hblF : bl < w.heap.size + 1 + 1 := by omega
        clear hown2 hm' hxs hx hrk rBr HOWNr
        go_wp2_with fail
        refine name_act ?_
        intro A hA
        obtain ⟨R, hR⟩ : ∃ R : Act → World → Prop, R = fun a' w' => ∃ g cap : Nat, (∃ u20 u21 u22 u23 u24 u25 u26 u27 u28 u29, a' = ((((((((((A.put (some 20) u20).put (some 21) u21).put (some 22) u22).put (some 23) u23).put (some 24) u24).put (some 25) u25).put (some 26) u26).put (some 27) u27).put (some 28) u28).put (some 29) u29)) ∧ w'.heap[w.heap.size + 1 + 1]? = some (.cells #[(.slice (some ⟨g, 0, none⟩) (m + 1) cap), .slice A1 b.turns.length k1, .slice none 0 0, I b.rule, I b.days] 26 (0, 0)) ∧ w'.ownsRow (w.heap.size + 1 + 1 + 1) 76 4 (.slice (some ⟨g, 0, none⟩) (m + 1) cap) (m + 1) (xs ++ cSec x) ∧ HeldB (w.heap.size + 1 + 1) w2 w' := ⟨_, rfl⟩
        have HR := Lib.hid hR
        clear hR
        refine wp_between R ?first ?rest
        case first =>
          subst hA
          have hX0 : w2.drew.heap[w.heap.size + 1 + 1]? = _ := RX2.out
          have hS0 : HeldB (w.heap.size + 1 + 1) w2 w2.drew := heldB_of (Below.refl _ _).drew
          have ho0 : w2.drew.ownsRow (w.heap.size + 1 + 1 + 1) 76 4 v m xs := HOWN2.out
          have hz0 : w.heap.size + 1 + 1 + 1 ≤ w2.drew.heap.size := heap_lt RX2.out
          have hFw : w.heap.size + 1 + 1 ≤ w2.heap.size := Nat.le_of_lt (heap_lt RX2.out)
          refine wp_region_held_drew (S := fun w' => HeldB (w.heap.size + 1 + 1) w2 w') (by kernel_rfl) hS0 (fun _ => ?_)
          refine wpAnyH_take (i := 0) (oi := { dst := some 20, op := Go.Op.fieldAddr 26 (Go.Operand.tmp 3) 0, type := 0, pos := "outright.go:244", after := #[], guard := none }) (v := ?v1) rfl (by kernel_rfl) (by kernel_rfl) (by kernel_rfl) (fun _ _ _ h => h) (Or.inl ⟨by rfl, ?hy1⟩) hS0 ?r1
          case hy1 =>
            intro w' hSw
            have hq := hSw.1
            clear hSw
            go_simp
            with_reducible rfl
          try simp only [Act.put, List.setIfInBounds_toArray, List.set_cons_zero, List.set_cons_succ]
          refine wpAnyH_take (i := 2) (oi := { dst := some 22, op := Go.Op.fieldAddr 26 (Go.Operand.tmp 1) 0, type := 0, pos := "outright.go:244", after := #[], guard := none }) (v := ?v2) rfl (by kernel_rfl) (by kernel_rfl) (by kernel_rfl) (fun _ _ _ h => h) (Or.inl ⟨by rfl, ?hy2⟩) hS0 ?r2
          case hy2 =>
            intro w' hSw
            have hq := hSw.1
            clear hSw
            go_simp
            with_reducible rfl
          try simp only [Act.put, List.setIfInBounds_toArray, List.set_cons_zero, List.set_cons_succ]
          refine wpAnyH_take (i := 3) (oi := { dst := some 23, op := Go.Op.load 22 (Go.Operand.tmp 22), type := 22, pos := "outright.go:244", after := #[{ on := 2, ground := Go.Ground.data }], guard := none }) (v := ?v3) rfl (by kernel_rfl) (by kernel_rfl) (by kernel_rfl) (fun _ _ _ h => h) (Or.inl ⟨by rfl, ?hy3⟩) hS0 ?r3
          case hy3 =>
            intro w' hSw
            have hq := hSw.1
            clear hSw
            go_simp
            with_reducible rfl
          try simp only [Act.put, List.setIfInBounds_toArray, List.set_cons_zero, List.set_cons_succ]
          refine wpAnyH_take (i := 4) (oi := { dst := some 24, op := Go.Op.move (Go.Operand.tmp 5), type := 3, pos := "outright.go:244", after := #[], guard := none }) (v := ?v4) rfl (by kernel_rfl) (by kernel_rfl) (by kernel_rfl) (fun _ _ _ h => h) (Or.inl ⟨by rfl, ?hy4⟩) hS0 ?r4
          case hy4 =>
            intro w' hSw
            have hq := hSw.1
            clear hSw
            go_simp
            with_reducible rfl
          try simp only [Act.put, List.setIfInBounds_toArray, List.set_cons_zero, List.set_cons_succ]
          refine wpAnyH_take (i := 5) (oi := { dst := some 25, op := Go.Op.indexAddr 22 (Go.Operand.tmp 23) (Go.Operand.tmp 24), type := 0, pos := "outright.go:244", after := #[{ on := 3, ground := Go.Ground.data }, { on := 4, ground := Go.Ground.data }], guard := none }) (v := ?v5) rfl (by kernel_rfl) (by kernel_rfl) (by kernel_rfl) (fun _ _ _ h => h) (Or.inl ⟨by rfl, ?hy5⟩) hS0 ?r5
          case hy5 =>
            intro w' hSw
            have hq := hSw.1
            clear hSw
            go_simp
            with_reducible rfl
          try simp only [Act.put, List.setIfInBounds_toArray, List.set_cons_zero, List.set_cons_succ]
          refine wpAnyH_take (i := 6) (oi := { dst := some 26, op := Go.Op.load 76 (Go.Operand.tmp 25), type := 76, pos := "outright.go:244", after := #[{ on := 5, ground := Go.Ground.data }], guard := none }) (v := ?v6) rfl (by kernel_rfl) (by kernel_rfl) (by kernel_rfl) (fun _ _ _ h => h) (Or.inl ⟨by rfl, ?hy6⟩) hS0 ?r6
          case hy6 =>
            intro w' hSw
            have hq := hSw.1
            clear hSw
            go_simp
            with_reducible rfl
          try simp only [Act.put, List.setIfInBounds_toArray, List.set_cons_zero, List.set_cons_succ]
          refine wpAnyH_ready (rs := [1, 7]) (by kernel_rfl) (by simp) ?_
          refine AllReadyH.cons rfl (fun K hK => ?_) (AllReadyH.cons rfl (fun K hK => ?_) AllReadyH.nil)
          · have qXw7 := cell_of_row w2.drew _ 0 _ _ _ hX0
            simp only [List.getElem?_toArray, List.getElem?_cons_zero, List.getElem?_cons_succ] at qXw7
            go_simp
            refine hK.out _ _ hS0 (fun _ => ?_)
            clear hK K qXw7
            try simp only [Act.put, List.setIfInBounds_toArray, List.set_cons_zero, List.set_cons_succ]
            refine wpAnyH_ready (rs := [7]) (by kernel_rfl) (by simp) ?_
            refine AllReadyH.cons rfl (fun K hK => ?_) AllReadyH.nil
            go_simp
            refine hK.out _ _ (heldB_of (hS0.2.alloc (Nat.le_trans hFw hS0.2.size) _)) (fun _ => ?_)
            clear hK K
            try simp only [Act.put, List.setIfInBounds_toArray, List.set_cons_zero, List.set_cons_succ]
            refine name_anyH ?_
            intro w8 hWw8
            have hAw8 : Below w2.drew.heap.size w2.drew w8 := by rw [hWw8]; exact (Below.refl _ _).alloc (Nat.le_refl _) _
            have hSw8 : HeldB (w.heap.size + 1 + 1) w2 w8 := heldB_of (hS0.2.trans (hAw8.mono (Nat.le_trans hFw hS0.2.size)))
            have hr5w8 : w8.heap[w2.drew.heap.size]? = some (.cells #[I x.thick.lo, I x.thick.hi, I x.wear.lo, I x.wear.hi] 76 (0, 0)) := by rw [hWw8]; exact heap_at _ _ rfl
            have how8 : w8.ownsRow (w.heap.size + 1 + 1 + 1) 76 4 v m xs := by rw [hWw8]; exact ho0.alloc _
            have hzw8 : w.heap.size + 1 + 1 + 1 ≤ w8.heap.size := Nat.le_trans hz0 hAw8.size
            clear hWw8
            have hrXw8 := (hAw8.block _ (heap_lt hX0)).trans hX0
            refine wpAnyH_ready (rs := [8]) (by kernel_rfl) (by simp) ?_
            refine AllReadyH.cons rfl (fun K hK => ?_) AllReadyH.nil
            obtain ⟨i0, hi, hq0, hq1, hq2⟩ := info_parts infoSec
            obtain ⟨vw9, w9, hrunw9, how9, hgw9, -, -⟩ := run_append_own_at (P := Tryz.prog) w8 (w.heap.size + 1 + 1 + 1) 22 22 76 i0 vSec0 4 32 underSecs hi hq0 hq1 hq2 rfl (by decide) v m xs how8 ⟨w2.drew.heap.size, 0, none⟩ 1 1 (cSec x) rfl (fun j u hj => by rw [Addr.add_lit, Nat.zero_add, cell_of_row _ _ j _ _ _ hr5w8]; simpa [cSec] using hj) (by intro u hu; simp [cSec] at hu; rcases hu with rfl | rfl | rfl | rfl <;> rfl) (by unfold maxLen; omega) (by omega) hzw8
            have hAw9 : Below (w.heap.size + 1 + 1 + 1) w8 w9 := ⟨hgw9.os, hgw9.tape, hgw9.output, hgw9.size, fun i hi => hgw9.block i (Nat.lt_of_lt_of_le hi hzw8) (fun e => by have := (how8.lt i e.symm).1; omega)⟩
            clear hi hq0 hq1 hq2
            rw [if_pos (by rfl)]
            refine wp_append_run (t := 22) (v0 := v) (vx := .slice (some ⟨w2.drew.heap.size, 0, none⟩) 1 1) (v' := vw9) (w' := w9) (by rfl) (by simp [go_sem]) (by simp [go_sem]) hrunw9 ?_
            clear hrunw9
            have hSw9 := heldB_of (hSw8.2.trans (hAw9.mono (Nat.le_succ _)))
            refine hK.out _ _ hSw9 (fun _ => ?_)
            clear hK K
            have hrXw9 := (hAw9.block _ (Nat.lt_succ_self _)).trans hrXw8
            obtain ⟨gw9, capw9, rfl⟩ := own_form how9
            try simp only [Act.put, List.setIfInBounds_toArray, List.set_cons_zero, List.set_cons_succ]
            have qXw9 := cell_of_row w9 _ 0 _ _ _ hrXw9
            simp only [List.getElem?_toArray, List.getElem?_cons_zero, List.getElem?_cons_succ] at qXw9
            have fXw9 : w9.frozen? ⟨w.heap.size + 1 + 1, 0, none⟩ = false := by simp [World.frozen?, hrXw9]
            refine wpAnyH_take (i := 9) (oi := { dst := some 29, op := Go.Op.fieldAddr 26 (Go.Operand.tmp 3) 0, type := 0, pos := "outright.go:244", after := #[{ on := 0, ground := Go.Ground.phase }, { on := 1, ground := Go.Ground.phase }, { on := 2, ground := Go.Ground.phase }, { on := 3, ground := Go.Ground.phase }, { on := 4, ground := Go.Ground.phase }, { on := 5, ground := Go.Ground.phase }, { on := 6, ground := Go.Ground.phase }, { on := 7, ground := Go.Ground.phase }, { on := 8, ground := Go.Ground.phase }], guard := none }) (v := ?v10) rfl (by kernel_rfl) (by kernel_rfl) (by kernel_rfl) (fun _ _ _ h => h) (Or.inl ⟨by rfl, ?hy10⟩) hSw9 ?r10
            case hy10 =>
              intro w' hSw
              have hq := hSw.1
              clear hSw
              go_simp
              with_reducible rfl
            try simp only [Act.put, List.setIfInBounds_toArray, List.set_cons_zero, List.set_cons_succ]
            refine wpAnyH_ready (rs := [10]) (by kernel_rfl) (by simp) ?_
            refine AllReadyH.cons rfl (fun K hK => ?_) AllReadyH.nil
            go_simp
            have hSw11 := heldB_of (hSw9.2.setCell (p := ⟨w.heap.size + 1 + 1, 0, none⟩) (Nat.le_refl _) (.slice (some ⟨gw9, 0, none⟩) (m + 1) capw9))
            refine hK.out _ _ hSw11 (fun _ => ?_)
            clear hK K
            try simp only [Act.put, List.setIfInBounds_toArray, List.set_cons_zero, List.set_cons_succ]
            refine wpAnyH_done (by kernel_rfl) ?_ _
            show R _ _
            rw [HR.out]
            simp only [Act.put, List.setIfInBounds_toArray, List.set_cons_zero, List.set_cons_succ]
            refine ⟨gw9, capw9, ⟨_, _, _, _, _, _, _, _, _, _, rfl⟩, by simp [World.setCell, Array.getElem?_modify, hrXw9], how9.kept (row := some (w.heap.size + 1 + 1)) ⟨rfl, rfl, rfl, by simp [World.setCell], fun k _ hk => Below.heap_setCell _ _ _ _ (fun e => hk (by rw [e]))⟩ (.inr ?_), hSw11⟩
            have := (how9.lt gw9 rfl).1
            simp [Value.ownBlock]
            omega
          · go_simp
            refine hK.out _ _ (heldB_of (hS0.2.alloc (Nat.le_trans hFw hS0.2.size) _)) (fun _ => ?_)
            clear hK K
            try simp only [Act.put, List.setIfInBounds_toArray, List.set_cons_zero, List.set_cons_succ]
            refine name_anyH ?_
            intro w12 hWw12
            have hAw12 : Below w2.drew.heap.size w2.drew w12 := by rw [hWw12]; exact (Below.refl _ _).alloc (Nat.le_refl _) _
            have hSw12 : HeldB (w.heap.size + 1 + 1) w2 w12 := heldB_of (hS0.2.trans (hAw12.mono (Nat.le_trans hFw hS0.2.size)))
            have hr5w12 : w12.heap[w2.drew.heap.size]? = some (.cells #[I x.thick.lo, I x.thick.hi, I x.wear.lo, I x.wear.hi] 76 (0, 0)) := by rw [hWw12]; exact heap_at _ _ rfl
            have how12 : w12.ownsRow (w.heap.size + 1 + 1 + 1) 76 4 v m xs := by rw [hWw12]; exact ho0.alloc _
            have hzw12 : w.heap.size + 1 + 1 + 1 ≤ w12.heap.size := Nat.le_trans hz0 hAw12.size
            clear hWw12
            have hrXw12 := (hAw12.block _ (heap_lt hX0)).trans hX0
            refine wpAnyH_ready (rs := [1]) (by kernel_rfl) (by simp) ?_
            refine AllReadyH.cons rfl (fun K hK => ?_) AllReadyH.nil
            have qXw13 := cell_of_row w12 _ 0 _ _ _ hrXw12
            simp only [List.getElem?_toArray, List.getElem?_cons_zero, List.getElem?_cons_succ] at qXw13
            go_simp
            refine hK.out _ _ hSw12 (fun _ => ?_)
            clear hK K qXw13
            try simp only [Act.put, List.setIfInBounds_toArray, List.set_cons_zero, List.set_cons_succ]
            refine wpAnyH_ready (rs := [8]) (by kernel_rfl) (by simp) ?_
            refine AllReadyH.cons rfl (fun K hK => ?_) AllReadyH.nil
            obtain ⟨i0, hi, hq0, hq1, hq2⟩ := info_parts infoSec
            obtain ⟨vw14, w14, hrunw14, how14, hgw14, -, -⟩ := run_append_own_at (P := Tryz.prog) w12 (w.heap.size + 1 + 1 + 1) 22 22 76 i0 vSec0 4 32 underSecs hi hq0 hq1 hq2 rfl (by decide) v m xs how12 ⟨w2.drew.heap.size, 0, none⟩ 1 1 (cSec x) rfl (fun j u hj => by rw [Addr.add_lit, Nat.zero_add, cell_of_row _ _ j _ _ _ hr5w12]; simpa [cSec] using hj) (by intro u hu; simp [cSec] at hu; rcases hu with rfl | rfl | rfl | rfl <;> rfl) (by unfold maxLen; omega) (by omega) hzw12
            have hAw14 : Below (w.heap.size + 1 + 1 + 1) w12 w14 := ⟨hgw14.os, hgw14.tape, hgw14.output, hgw14.size, fun i hi => hgw14.block i (Nat.lt_of_lt_of_le hi hzw12) (fun e => by have := (how12.lt i e.symm).1; omega)⟩
            clear hi hq0 hq1 hq2
            rw [if_pos (by rfl)]
            refine wp_append_run (t := 22) (v0 := v) (vx := .slice (some ⟨w2.drew.heap.size, 0, none⟩) 1 1) (v' := vw14) (w' := w14) (by rfl) (by simp [go_sem]) (by simp [go_sem]) hrunw14 ?_
            clear hrunw14
            have hSw14 := heldB_of (hSw12.2.trans (hAw14.mono (Nat.le_succ _)))
            refine hK.out _ _ hSw14 (fun _ => ?_)
            clear hK K
            have hrXw14 := (hAw14.block _ (Nat.lt_succ_self _)).trans hrXw12
            obtain ⟨gw14, capw14, rfl⟩ := own_form how14
            try simp only [Act.put, List.setIfInBounds_toArray, List.set_cons_zero, List.set_cons_succ]
            have qXw14 := cell_of_row w14 _ 0 _ _ _ hrXw14
            simp only [List.getElem?_toArray, List.getElem?_cons_zero, List.getElem?_cons_succ] at qXw14
            have fXw14 : w14.frozen? ⟨w.heap.size + 1 + 1, 0, none⟩ = false := by simp [World.frozen?, hrXw14]
            refine wpAnyH_take (i := 9) (oi := { dst := some 29, op := Go.Op.fieldAddr 26 (Go.Operand.tmp 3) 0, type := 0, pos := "outright.go:244", after := #[{ on := 0, ground := Go.Ground.phase }, { on := 1, ground := Go.Ground.phase }, { on := 2, ground := Go.Ground.phase }, { on := 3, ground := Go.Ground.phase }, { on := 4, ground := Go.Ground.phase }, { on := 5, ground := Go.Ground.phase }, { on := 6, ground := Go.Ground.phase }, { on := 7, ground := Go.Ground.phase }, { on := 8, ground := Go.Ground.phase }], guard := none }) (v := ?v15) rfl (by kernel_rfl) (by kernel_rfl) (by kernel_rfl) (fun _ _ _ h => h) (Or.inl ⟨by rfl, ?hy15⟩) hSw14 ?r15
            case hy15 =>
              intro w' hSw
              have hq := hSw.1
              clear hSw
              go_simp
              with_reducible rfl
            try simp only [Act.put, List.setIfInBounds_toArray, List.set_cons_zero, List.set_cons_succ]
            refine wpAnyH_ready (rs := [10]) (by kernel_rfl) (by simp) ?_
            refine AllReadyH.cons rfl (fun K hK => ?_) AllReadyH.nil
            go_simp
            have hSw16 := heldB_of (hSw14.2.setCell (p := ⟨w.heap.size + 1 + 1, 0, none⟩) (Nat.le_refl _) (.slice (some ⟨gw14, 0, none⟩) (m + 1) capw14))
            refine hK.out _ _ hSw16 (fun _ => ?_)
            clear hK K
            try simp only [Act.put, List.setIfInBounds_toArray, List.set_cons_zero, List.set_cons_succ]
            refine wpAnyH_done (by kernel_rfl) ?_ _
            show R _ _
            rw [HR.out]
            simp only [Act.put, List.setIfInBounds_toArray, List.set_cons_zero, List.set_cons_succ]
            refine ⟨gw14, capw14, ⟨_, _, _, _, _, _, _, _, _, _, rfl⟩, by simp [World.setCell, Array.getElem?_modify, hrXw14], how14.kept (row := some (w.heap.size + 1 + 1)) ⟨rfl, rfl, rfl, by simp [World.setCell], fun k _ hk => Below.heap_setCell _ _ _ _ (fun e => hk (by rw [e]))⟩ (.inr ?_), hSw16⟩
            have := (how14.lt gw14 rfl).1
            simp [Value.ownBlock]
            omega
        case rest =>
          intro a' w3 hra
          rw [HR.out] at hra
          clear HR
          obtain ⟨g, cap, ⟨u20, u21, u22, u23, u24, u25, u26, u27, u28, u29, rfl⟩, rX3, hown3, hHE⟩ := hra
          subst hA
          try simp only [Act.put, List.setIfInBounds_toArray, List.set_cons_zero, List.set_cons_succ]
          go_wp2_with fail
          go_roundw
          case rel =>
            refine ⟨k + 1, (j : Int) - 1, _, by omega, by omega, by go_num, HBr.out.trans hHE.2, rX3, ?_⟩
            rw [HRK.out, List.length_append, List.flatMap_append, HM.out, HXS.out]
            simpa using hown3
          case measure => simp [intOf] <;> omega
      · have him1 : i = -1 := by omega
        subst him1
        have hkn : k = b.secs.length := by omega
        subst hkn
        have htk : b.secs.reverse.take b.secs.length = b.secs.reverse := by rw [← List.length_reverse, List.take_length]
        have hown := HOWNr.out
        rw [htk, List.length_reverse] at hown
        have HOWN := Lib.hid hown
        clear hown HOWNr htk hi0 him hki
        have rOr := (HB1R.out.block (w.heap.size + 1) (by omega)).trans ROw.out
        obtain ⟨w6, hw6⟩ : ∃ w6 : World, w6 = wr := ⟨_, rfl⟩
        rw [← hw6] at HBr HB1R HBW RX2 HOWN rBr rOr ⊢
        clear hw6
        have RB6 := Lib.hid rBr
        have RO6 := Lib.hid rOr
        have lX6 := heap_lt RX2.out
        have lB6 := heap_lt RB6.out
        have HFRESH := Lib.hid (show ∀ g o n c, v = .slice (some ⟨g, o, none⟩) n c → w.heap.size + 1 + 1 + 1 ≤ g ∧ g < w6.heap.size from fun g o n c e => HOWN.out.lt g (by rw [e]; rfl))
        have hslv := sl_ownN HOWN.out (Nat.le_refl _)
        obtain ⟨Av, cv, rfl⟩ := hslv.form
        have HSLV := Lib.hid hslv
        have hnwr : IntKind.i64.wrap ((b.secs.length : Int) - 1) = (b.secs.length : Int) - 1 := IntWalk.i64_in _ (by omega)
        clear rBr rOr hslv
        go_wp2_with fail
        go_loopw [6] (fun iv wr => ∃ (k : Nat) (u : Value), k ≤ b.svs.length ∧ iv = I k ∧ Out (fun j => j = w.heap.size + 1 + 1) w6 wr ∧ wr.heap[w.heap.size + 1 + 1]? = some (.cells #[.slice Av b.secs.length cv, .slice A1 b.turns.length k1, u, I b.rule, I b.days] 26 (0, 0)) ∧ wr.ownsRow w6.heap.size 34 4 u ((b.svs.take k).map (Ch.mirS b.secs.length)).length (((b.svs.take k).map (Ch.mirS b.secs.length)).flatMap cSv)) (fun iv _ => b.svs.length - (intOf iv).toNat)
        case atStart => exact ⟨0, .slice none 0 0, by omega, rfl, ⟨rfl, rfl, rfl, Nat.le_refl _, fun _ _ _ => rfl⟩, RX2.out, World.ownsRow_nil _ _ _ _⟩
        case round =>
          obtain ⟨k, u, hk, rfl, hO, rX, hown⟩ := hrel
          have hbw : Below w.heap.size w wr := ⟨hO.os.trans HBW.out.os, hO.tape.trans HBW.out.tape, hO.output.trans HBW.out.output, Nat.le_trans HBW.out.size hO.size, fun i hi => (hO.keep i (by omega) (by omega)).trans (HBW.out.block i hi)⟩
          have rBr := (hO.keep w.heap.size (by omega) (by omega)).trans RB6.out
          have hzo := hO.size
          have qB2 := cell_of_row wr _ 2 _ _ _ rBr
          simp only [List.getElem?_toArray, List.getElem?_cons_zero, List.getElem?_cons_succ] at qB2
          have HO := Lib.hid hO
          have HBWr := Lib.hid hbw
          have RX3 := Lib.hid rX
          have HOWN3 := Lib.hid hown
          clear hO hbw rX hown rBr
          by_cases hlt : k < b.svs.length
          · have hki2 : (k : Int) < b.svs.length := by omega
            have hxs := HSV.out b.svs[k] (List.getElem_mem hlt)
            obtain ⟨bl, off, c', hv, hbl, g0, g1, g2, g3⟩ := (HB.out.svs.below HBWr.out (Nat.le_refl _)).at4 hlt
            injection hv with hA _ hc
            subst hA hc
            have q0 := g0.trans (by have := flat4 cSv (fun _ => rfl) b.svs k 0 hlt (by omega); simpa [cSv] using this : _ = some (I b.svs[k].sec))
            have q1 := g1.trans (by have := flat4 cSv (fun _ => rfl) b.svs k 1 hlt (by omega); simpa [cSv] using this : _ = some (I b.svs[k].day))
            have q2 := g2.trans (by have := flat4 cSv (fun _ => rfl) b.svs k 2 hlt (by omega); simpa [cSv] using this : _ = some (I b.svs[k].read))
            have q3 := g3.trans (by have := flat4 cSv (fun _ => rfl) b.svs k 3 hlt (by omega); simpa [cSv] using this : _ = some (I b.svs[k].err))
            have hnx : (b.svs.take (k + 1)).map (Ch.mirS b.secs.length) = (b.svs.take k).map (Ch.mirS b.secs.length) ++ [Ch.mirS b.secs.length b.svs[k]] := by rw [List.take_succ_eq_append_getElem hlt, List.map_append]; rfl
            generalize hx : b.svs[k] = x at q0 q1 q2 q3 hnx hxs
            have hwx : IntKind.i64.wrap ((b.secs.length : Int) - 1 - x.sec) = (b.secs.length : Int) - 1 - x.sec := IntWalk.i64_in _ (by omega)
            have hml : ((b.svs.take k).map (Ch.mirS b.secs.length)).length ≤ 8 := by rw [List.length_map, List.length_take]; omega
            obtain ⟨m, hmm⟩ : ∃ m, ((b.svs.take k).map (Ch.mirS b.secs.length)).length = m := ⟨_, rfl⟩
            obtain ⟨xs, hxx⟩ : ∃ xs, ((b.svs.take k).map (Ch.mirS b.secs.length)).flatMap cSv = xs := ⟨_, rfl⟩
            have hown2 := HOWN3.out
            rw [hmm, hxx] at hown2
            rw [hmm] at hml
            have HM := Lib.hid hmm
            have HXX := Lib.hid hxx
            have HNX := Lib.hid hnx
            have HOWN2 := Lib.hid hown2
            clear g0 g1 g2 g3 hown2 hmm hxx hnx hx HOWN3
            go_upto_region 12 with fail
            refine name_world ?_
            intro w7 hw7
            have hA7 : Below wr.heap.size wr w7 := by rw [hw7]; exact (Below.refl _ _).alloc (Nat.le_refl _) _
            have ry : w7.heap[wr.heap.size]? = some (.cells #[I ((b.secs.length : Int) - 1 - x.sec), I x.day, I x.read, I x.err] 34 (0, 0)) := by rw [hw7]; exact heap_at _ _ rfl
            have hown7 : w7.ownsRow w6.heap.size 34 4 u m xs := by rw [hw7]; exact HOWN2.out.alloc _
            have hz7 : w6.heap.size ≤ w7.heap.size := Nat.le_trans hzo hA7.size
            have rX7 := (hA7.block _ (heap_lt RX3.out)).trans RX3.out
            have y0 := cell_of_row w7 _ 0 _ _ _ ry
            have y1 := cell_of_row w7 _ 1 _ _ _ ry
            have y2 := cell_of_row w7 _ 2 _ _ _ ry
            have y3 := cell_of_row w7 _ 3 _ _ _ ry
            have qX := cell_of_row w7 _ 2 _ _ _ rX7
            simp only [List.getElem?_toArray, List.getElem?_cons_zero, List.getElem?_cons_succ] at y0 y1 y2 y3 qX
            have HA7 := Lib.hid hA7
            have HOWN7 := Lib.hid hown7
            have RX7 := Lib.hid rX7
            obtain ⟨i0, hi, hz0, hz1', hz2'⟩ := info_parts infoSv
            clear hw7 hA7 hown7 rX7 ry q0 q1 q2 q3 qB2
            go_wp2_with (at_builtin; go_must (refine wpList_append_own_at _ rfl _ _ 24 rfl w6.heap.size 34 i0 (vSv ⟨0, 0, 0, 0⟩) 4 32 underSvs hi hz0 hz1' hz2' rfl (by decide) u m xs rfl (HOWN7.out.alloc _) ⟨w7.heap.size, 0, none⟩ 1 1 (cSv ⟨(b.secs.length : Int) - 1 - x.sec, x.day, x.read, x.err⟩) rfl rfl (cSv_cells w7 ⟨(b.secs.length : Int) - 1 - x.sec, x.day, x.read, x.err⟩) (by intro u hu; simp [cSv] at hu; rcases hu with rfl | rfl | rfl | rfl <;> rfl) (by unfold maxLen; omega) (by omega) (by simp; omega) ?_; intro v' w8 hown' hgrow hnil hat; obtain ⟨g, cap, rfl⟩ := own_form hown'; have HOW := Lib.hid hown'; have hAB : Below w6.heap.size w7 w8 := Below.trans ((Below.refl _ _).alloc (by omega) _) ⟨hgrow.os, hgrow.tape, hgrow.output, hgrow.size, fun i hi => hgrow.block i (by simp; omega) (fun e => by have := (HOWN7.out.lt i e.symm).1; omega)⟩; have RX8 := Lib.hid ((hAB.block _ lX6).trans RX7.out); have HAB := Lib.hid hAB; have qX8 := cell_of_row w8 _ 2 _ _ _ RX8.out; simp only [List.getElem?_toArray, List.getElem?_cons_zero, List.getElem?_cons_succ] at qX8; have fX8 : w8.frozen? ⟨w.heap.size + 1 + 1, 2, none⟩ = false := (by simp [World.frozen?, RX8.out]); clear hown' hgrow hnil hat hAB qX))
            go_roundw
            case rel =>
              refine ⟨k + 1, .slice (some ⟨g, 0, none⟩) (m + 1) cap, by omega, by go_num, ⟨HAB.out.os.trans (HA7.out.os.trans HO.out.os), HAB.out.tape.trans (HA7.out.tape.trans HO.out.tape), HAB.out.output.trans (HA7.out.output.trans HO.out.output), ?_, fun i hi hne => ?_⟩, by simp [World.setCell, Array.getElem?_modify, RX8.out], ?_⟩
              · have := HAB.out.size
                simp [World.setCell]
                omega
              · exact (Below.heap_setCell _ _ _ _ (fun e => hne e)).trans ((HAB.out.block i hi).trans ((HA7.out.block i (by omega)).trans (HO.out.keep i hi hne)))
              · rw [HNX.out, List.length_append, List.flatMap_append, HM.out, HXX.out]
                have hk2 := World.ownsRow.kept (row := some (w.heap.size + 1 + 1)) HOW.out (w' := w8.setCell ⟨w.heap.size + 1 + 1, 2, none⟩ (.slice (some ⟨g, 0, none⟩) (m + 1) cap)) ⟨rfl, rfl, rfl, by simp [World.setCell], fun k _ hk => Below.heap_setCell _ _ _ _ (fun e => hk (by rw [e]))⟩ (.inr (by
                  have := (HOW.out.lt g rfl).1
                  simp [Value.ownBlock]
                  omega))
                simpa [Ch.mirS] using hk2
            case measure => simp [intOf]; omega
          · obtain rfl : k = b.svs.length := by omega
            have rO2 := (HO.out.keep (w.heap.size + 1) (by omega) (by omega)).trans RO6.out
            have hown := HOWN3.out
            rw [List.take_length, List.length_map] at hown
            have HOWNu := Lib.hid hown
            have hsl := sl_ownN hown (Nat.le_refl _)
            obtain ⟨Au, cu, rfl⟩ := hsl.form
            have HSLU := Lib.hid hsl
            have rX2 := RX3.out
            clear hown hsl HOWN3
            have qX0 := cell_of_row wr _ 0 _ _ _ rX2
            have qO0 := cell_of_row wr _ 0 _ _ _ rO2
            have zO0 : wr.frozen? ⟨w.heap.size + 1, 0, none⟩ = false := by simp [World.frozen?, rO2]
            have qX1 := cell_of_row wr _ 1 _ _ _ rX2
            have qO1 := cell_of_row wr _ 1 _ _ _ rO2
            have zO1 : wr.frozen? ⟨w.heap.size + 1, 1, none⟩ = false := by simp [World.frozen?, rO2]
            have qX2 := cell_of_row wr _ 2 _ _ _ rX2
            have qO2 := cell_of_row wr _ 2 _ _ _ rO2
            have zO2 : wr.frozen? ⟨w.heap.size + 1, 2, none⟩ = false := by simp [World.frozen?, rO2]
            have qX3 := cell_of_row wr _ 3 _ _ _ rX2
            have qO3 := cell_of_row wr _ 3 _ _ _ rO2
            have zO3 : wr.frozen? ⟨w.heap.size + 1, 3, none⟩ = false := by simp [World.frozen?, rO2]
            have qX4 := cell_of_row wr _ 4 _ _ _ rX2
            have qO4 := cell_of_row wr _ 4 _ _ _ rO2
            have zO4 : wr.frozen? ⟨w.heap.size + 1, 4, none⟩ = false := by simp [World.frozen?, rO2]
            simp only [List.getElem?_toArray, List.getElem?_cons_zero, List.getElem?_cons_succ] at qX0 qX1 qX2 qX3 qX4 qO0 qO1 qO2 qO3 qO4
            clear rX2 rO2
            go_wp2_with fail
            have hneu : ∀ g o n c, (Value.slice Au b.svs.length cu) = .slice (some ⟨g, o, none⟩) n c → g ≠ w.heap.size + 1 := fun g o n c e => by
              have := (HOWNu.out.lt g (by rw [e]; rfl)).1
              omega
            have hbe : Below w.heap.size w (((((wr.setCell ⟨w.heap.size + 1, 0, none⟩ (.slice Av b.secs.length cv)).setCell ⟨w.heap.size + 1, 1, none⟩ (.slice A1 b.turns.length k1)).setCell ⟨w.heap.size + 1, 2, none⟩ (.slice Au b.svs.length cu)).setCell ⟨w.heap.size + 1, 3, none⟩ (I b.rule)).setCell ⟨w.heap.size + 1, 4, none⟩ (I b.days)) := by
              refine Below.setCell (Below.setCell (Below.setCell (Below.setCell (Below.setCell HBWr.out ?_ _) ?_ _) ?_ _) ?_ _) ?_ _
              all_goals (simp)
            refine bodyPost_ret (v := vBk (.slice Av b.secs.length cv) (.slice A1 b.turns.length k1) (.slice Au b.svs.length cu) b.rule b.days) (by simp [results, Tryz.results41, go_sem, qO0, qO1, qO2, qO3, qO4]) rfl ⟨⟨_, _, rfl, ⟨?_, (HB.out.turns.below hbe (Nat.le_refl _)).more hbe.size, ?_⟩, fun g o n c e => by have := (HFRESH.out g o n c e).1; omega, fun g o n c e => by have := (HOWNu.out.lt g (by rw [e]; rfl)).1; omega⟩, hbe⟩
            · rw [Ch.mir_n]
              show Sl _ _ 4 _ b.secs.length (b.secs.reverse.flatMap cSec)
              refine Sl.more (HSLV.out.same (fun g o n c e => ?_)) (by simp [World.setCell]; omega)
              have h1 := HFRESH.out g o n c e
              have h2 : g ≠ w.heap.size + 1 := by omega
              exact (Below.heap_setCell _ _ _ _ h2).trans ((Below.heap_setCell _ _ _ _ h2).trans ((Below.heap_setCell _ _ _ _ h2).trans ((Below.heap_setCell _ _ _ _ h2).trans ((Below.heap_setCell _ _ _ _ h2).trans (HO.out.keep g h1.2 (by omega))))))
            · rw [show (Ch.mirB b).svs.length = b.svs.length from List.length_map _]
              show Sl _ _ 4 _ b.svs.length ((b.svs.map (Ch.mirS b.secs.length)).flatMap cSv)
              refine Sl.more (HSLU.out.same (fun g o n c e => ?_)) (by simp [World.setCell])
              have h1 := hneu g o n c e
              exact (Below.heap_setCell _ _ _ _ h1).trans ((Below.heap_setCell _ _ _ _ h1).trans ((Below.heap_setCell _ _ _ _ h1).trans ((Below.heap_setCell _ _ _ _ h1).trans (Below.heap_setCell _ _ _ _ h1))))

end Go.Proofs.YtkfahochpnggbaaGreat
