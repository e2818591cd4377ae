/- Texts on the program that the proof leans on, part 48. -/
import Derived.Test.YtjgpghaofhcfnaaYbr
import Derived.Test.YtjgpghaofhcfnaaYbu
import Derived.Test.YtjgpghaofhcfnaaYax
set_option linter.unusedVariables false
set_option linter.unusedSimpArgs false

/- The mathematics of LandingMore. -/
namespace Go.Proofs.Ytjgpghaofhcfnaa.Ld

theorem okAt_more {b : Bk} {s : Sd} {t : Tr} {h : Nat} {n : Int} (hx : okAt (moreB b s) t h n = true) : okAt b t h n = true := by
  simp only [okAt, moreB, depths, List.filter_append, List.map_append, List.all_append, Bool.and_eq_true] at hx ⊢
  exact ⟨hx.1.1, hx.2.1⟩
theorem water_more {b : Bk} {s : Sd} {t : Tr} {h : Nat} (hx : water (moreB b s) t h ≠ none) :
    water b t h ≠ none ∧ (water b t h).lo ≤ (water (moreB b s) t h).lo ∧ (water (moreB b s) t h).hi ≤ (water b t h).hi := by
  obtain ⟨h1, h2, h3, h4, h5⟩ := water_ends hx
  have e : tide (moreB b s) h = tide b h := rfl
  rw [e] at h3 h5
  obtain ⟨k1, k2, -⟩ := water_in h3 (by omega) (okAt_more h1)
  obtain ⟨-, -, k4⟩ := water_in (by omega) h5 (okAt_more h2)
  exact ⟨k1, k2, k4⟩
theorem truths_more {b : Bk} {s : Sd} {t : Tr} (ht : t ∈ truths (moreB b s)) : t ∈ truths b := by
  unfold truths at ht ⊢
  rw [List.mem_filter] at ht ⊢
  refine ⟨ht.1, ?_⟩
  have h := ht.2
  unfold allows at h ⊢
  rw [List.all_eq_true] at h ⊢
  intro y hy
  have h1 := h y (List.mem_append_left _ hy)
  have hn : water (moreB b s) t y.hour.toNat ≠ none := fun hn => by
    rw [(empty_iff (water_fair _ _ _)).2 hn] at h1
    cases h1
  have h2 := (water_more hn).1
  cases he : isEmpty (water b t y.hour.toNat) with
  | false => rfl
  | true => exact absurd ((empty_iff (water_fair _ _ _)).1 he) h2
theorem worst_best {b : Bk} (hv : valid b = true) (hne : truths b ≠ []) {sh hour : Nat} (hh : hour < b.tides.length) {y : Int} (h : atWorst b sh hour y = true) : atBest b sh hour y = true := by
  obtain ⟨t, ht⟩ := List.exists_mem_of_ne_nil _ hne
  have h1 := List.all_eq_true.1 h t ht
  have hw := ne_le (water_fair b t hour) (water_ne hv ht hh)
  obtain ⟨-, -, -, h4, -⟩ := valid_parts hv
  have hd := draught_bd h4
  refine List.any_eq_true.2 ⟨t, ht, ?_⟩
  simp only [inside, window, Bool.and_eq_true] at h1
  obtain ⟨h2, h3⟩ := h1
  have h3 := of_decide_eq_true h3
  obtain ⟨h5, h6⟩ := Int.max_le.1 (of_decide_eq_true h2)
  simp only [isEmpty, meet, window, Bool.not_eq_true']
  exact decide_eq_false (Int.not_lt.2 (Int.max_le.2 ⟨Int.le_min.2 ⟨by omega, by omega⟩, Int.le_min.2 ⟨Int.max_le.2 ⟨by omega, by omega⟩, Int.max_le.2 ⟨by omega, by omega⟩⟩⟩))
theorem worst_more {b : Bk} {s : Sd} (hx : valid (moreB b s) = true) {sh hour : Nat} (hh : hour < b.tides.length) {y : Int} (h : atWorst b sh hour y = true) : atWorst (moreB b s) sh hour y = true := by
  refine List.all_eq_true.2 fun t ht => ?_
  have h1 := List.all_eq_true.1 h t (truths_more ht)
  obtain ⟨-, h2, h3⟩ := water_more (water_ne hx ht hh)
  have e : window (moreB b s) t sh y (moreB b s).empty.hi = window b t sh y b.empty.hi := rfl
  rw [e]
  simp only [inside, Bool.and_eq_true] at h1 ⊢
  have h4 := of_decide_eq_true h1.1
  have h5 := of_decide_eq_true h1.2
  exact ⟨decide_eq_true (by omega), decide_eq_true (by omega)⟩
theorem best_more {b : Bk} {s : Sd} (hx : valid (moreB b s) = true) {sh hour : Nat} (hh : hour < b.tides.length) {y : Int} (h : atBest (moreB b s) sh hour y = true) : atBest b sh hour y = true := by
  obtain ⟨t, ht, h1⟩ := List.any_eq_true.1 h
  refine List.any_eq_true.2 ⟨t, truths_more ht, ?_⟩
  obtain ⟨-, h2, h3⟩ := water_more (water_ne hx ht hh)
  have e : window (moreB b s) t sh y (moreB b s).empty.lo = window b t sh y b.empty.lo := rfl
  rw [e] at h1
  simp only [isEmpty, meet, Bool.not_eq_true'] at h1 ⊢
  have h4 := Int.not_lt.1 (of_decide_eq_false h1)
  obtain ⟨h5, h6⟩ := Int.max_le.1 h4
  obtain ⟨h7, h8⟩ := Int.le_min.1 h5
  obtain ⟨h9, h10⟩ := Int.le_min.1 h6
  exact decide_eq_false (Int.not_lt.2 (Int.max_le.2 ⟨Int.le_min.2 ⟨by omega, by omega⟩, Int.le_min.2 ⟨by omega, by omega⟩⟩))
theorem height_more {b : Bk} {s : Sd} (hx : valid (moreB b s) = true) (hne : truths (moreB b s) ≠ []) {hour : Nat} (hh : hour < b.tides.length) :
    (height b hour).lo ≤ (height (moreB b s) hour).lo ∧ (height (moreB b s) hour).hi ≤ (height b hour).hi := by
  have hX := height_hull (moreB b s) hour
  have hB := height_hull b hour
  have hn : height (moreB b s) hour ≠ none := fun h => by
    obtain ⟨t, ht⟩ := List.exists_mem_of_ne_nil _ hne
    exact water_ne hx ht hh (hX.none_iff.1 h _ (List.mem_map.2 ⟨t, ht, rfl⟩))
  have key : ∀ w ∈ (truths (moreB b s)).map (fun t => water (moreB b s) t hour), w ≠ none → (height b hour).lo ≤ w.lo ∧ w.hi ≤ (height b hour).hi := by
    intro w hw hwn
    obtain ⟨t, ht, rfl⟩ := List.mem_map.1 hw
    obtain ⟨h1, h2, h3⟩ := water_more hwn
    have h4 := hB.cover _ (List.mem_map.2 ⟨t, truths_more ht, rfl⟩) h1
    omega
  obtain ⟨w, hw, hwn, e⟩ := hX.low hn
  obtain ⟨w', hw', hwn', e'⟩ := hX.high hn
  have k1 := key w hw hwn
  have k2 := key w' hw' hwn'
  omega
theorem known_more {b : Bk} {s : Sd} (hne : truths (moreB b s) ≠ []) :
    ((known (truths b)).1.lo ≤ (known (truths (moreB b s))).1.lo ∧ (known (truths (moreB b s))).1.hi ≤ (known (truths b)).1.hi) ∧
    ((known (truths b)).2.lo ≤ (known (truths (moreB b s))).2.lo ∧ (known (truths (moreB b s))).2.hi ≤ (known (truths b)).2.hi) := by
  obtain ⟨hX1, hX2⟩ := known_hull (truths (moreB b s))
  obtain ⟨hB1, hB2⟩ := known_hull (truths b)
  have go : ∀ (f : Tr → Int) (x y : Sp), Hull ((truths (moreB b s)).map fun t => just (f t)) x → Hull ((truths b).map fun t => just (f t)) y → y.lo ≤ x.lo ∧ x.hi ≤ y.hi := by
    intro f x y hx hy
    have hn : x ≠ none := fun h => by
      obtain ⟨t, ht⟩ := List.exists_mem_of_ne_nil _ hne
      exact just_ne _ (hx.none_iff.1 h _ (List.mem_map.2 ⟨t, ht, rfl⟩))
    obtain ⟨w, hw, hwn, e⟩ := hx.low hn
    obtain ⟨w', hw', hwn', e'⟩ := hx.high hn
    obtain ⟨t, ht, rfl⟩ := List.mem_map.1 hw
    obtain ⟨t', ht', rfl⟩ := List.mem_map.1 hw'
    have k1 := hy.cover _ (List.mem_map.2 ⟨t, truths_more ht, rfl⟩) hwn
    have k2 := hy.cover _ (List.mem_map.2 ⟨t', truths_more ht', rfl⟩) hwn'
    omega
  exact ⟨go _ _ _ hX1 hB1, go _ _ _ hX2 hB2⟩

theorem isHour_in {b : Bk} {q : Nat} (hq : q < b.tides.length) : isHour b q = true := by
  simp [isHour]; omega

theorem more_spec {b : Bk} {s : Sd} (hv : valid b = true) {q m : Nat} (hq : q < b.tides.length) (hm : m = 0 ∨ m = 1) {y : Int} (h0 : 0 ≤ y) (h1 : y ≤ 200) :
    (check (moreB b s) = 20 ∧ studyE (moreB b s) (isHour (moreB b s) q) = 20) ∨ (check (moreB b s) = 0 ∧ studyE (moreB b s) (isHour (moreB b s) q) = 22) ∨
    (studyE (moreB b s) (isHour (moreB b s) q) = 0 ∧ studyE b (isHour b q) = 0 ∧ studyE b (isShore m) = 0 ∧ studyE (moreB b s) (isShore m) = 0 ∧
      (decide ((heightR b q).lo ≤ (heightR (moreB b s) q).lo) && decide ((heightR (moreB b s) q).hi ≤ (heightR b q).hi)) = true ∧
      (decide ((floorR b m).lo ≤ (floorR (moreB b s) m).lo) && decide ((floorR (moreB b s) m).hi ≤ (floorR b m).hi)) = true ∧
      ∃ ka kb, (ka = 1 ∨ kb = ka) ∧ landsR b m q y = (ka, 0) ∧ landsR (moreB b s) m q y = (kb, 0) ∧
      (mostR b m q = (0, 4) ∨ ∃ v u, v ≤ u ∧ mostR b m q = (v, 0) ∧ mostR (moreB b s) m q = (u, 0))) := by
  have hqx : q < (moreB b s).tides.length := hq
  by_cases hx : valid (moreB b s) = true
  case neg =>
    have hc : check (moreB b s) = 20 := by unfold check; rw [if_neg hx]
    exact .inl ⟨hc, by unfold studyE; rw [hc]; rfl⟩
  right
  have hc : check (moreB b s) = 0 := by unfold check; rw [if_pos hx]
  have eX := studyE_in hx
  by_cases hne : truths (moreB b s) = []
  · rw [if_pos hne] at eX
    exact .inl ⟨hc, by rw [isHour_in hqx]; exact eX⟩
  right
  rw [if_neg hne] at eX
  have hnb : truths b ≠ [] := by
    obtain ⟨t, ht⟩ := List.exists_mem_of_ne_nil _ hne
    exact List.ne_nil_of_mem (truths_more ht)
  have eB := studyE_in hv
  rw [if_neg hnb] at eB
  have i1 : studyE b (isHour b q) = 0 := by rw [isHour_in hq]; exact eB
  have i2 : studyE (moreB b s) (isHour (moreB b s) q) = 0 := by rw [isHour_in hqx]; exact eX
  have i3 : studyE b (isShore m) = 0 := by rw [isShore_in hm]; exact eB
  have i4 : studyE (moreB b s) (isShore m) = 0 := by rw [isShore_in hm]; exact eX
  have hlb := landsR_in hv hq hm h0 h1
  have hlx := landsR_in hx hqx hm h0 h1
  have hmb := mostR_in hv hq hm
  have hmx := mostR_in hx hqx hm
  rw [if_neg hnb] at hlb hmb
  rw [if_neg hne] at hlx hmx
  refine ⟨i2, i1, i3, i4, ?_, ?_, _, _, ?_, hlb, hlx, ?_⟩
  · have h := height_more hx hne hq
    unfold heightR
    rw [if_pos i1, if_pos i2]
    rw [Int.toNat_natCast, decide_eq_true h.1, decide_eq_true h.2]
    rfl
  · have h := known_more hne
    unfold floorR
    rw [if_pos i3, if_pos i4]
    rcases hm with rfl | rfl
    · have z0 : ((0 : Nat) : Int) = 0 := rfl
      rw [if_pos z0, if_pos z0, decide_eq_true h.1.1, decide_eq_true h.1.2]; rfl
    · have z1 : ¬ ((1 : Nat) : Int) = 0 := by decide
      rw [if_neg z1, if_neg z1, decide_eq_true h.2.1, decide_eq_true h.2.2]; rfl
  · cases hw : atWorst b m q y with
    | true => right; rw [lands_two.2 hw, lands_two.2 (worst_more hx hq hw)]
    | false =>
      cases hb : atBest b m q y with
      | true => left; unfold lands; rw [hw, hb]; rfl
      | false =>
        right
        have hbx : atBest (moreB b s) m q y = false := by
          cases h : atBest (moreB b s) m q y with
          | false => rfl
          | true => rw [best_more hx hq h] at hb; cases hb
        have hwx : atWorst (moreB b s) m q y = false := by
          cases h : atWorst (moreB b s) m q y with
          | false => rfl
          | true => rw [worst_best hx hne hqx h] at hbx; cases hbx
        unfold lands
        rw [hw, hb, hbx, hwx]
  · rcases findR_easier (f := fun k => atWorst b m q (200 - (k : Int))) (g := fun k => atWorst (moreB b s) m q (200 - (k : Int))) (v := fun k => 200 - (k : Int)) (n := 201) (fun i hi => worst_more hx hq) with h2 | ⟨j, k, hjk, hk, h2, h3⟩
    · exact .inl (hmb.trans h2)
    · exact .inr ⟨_, _, by omega, hmb.trans h2, hmx.trans h3⟩

end Go.Proofs.Ytjgpghaofhcfnaa.Ld
