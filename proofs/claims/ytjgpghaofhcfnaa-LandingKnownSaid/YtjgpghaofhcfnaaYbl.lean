/- Texts on the program that the proof leans on, part 38. -/
import Derived.Test.YtjgpghaofhcfnaaYbg
set_option linter.unusedVariables false
set_option linter.unusedSimpArgs false

namespace Go.Proofs.Ytjgpghaofhcfnaa.Ld
structure Easier (b x : Bk) : Prop where
 ok : valid x = true
 tides : x.tides = b.tides
 sounds : x.sounds = b.sounds
 floor0 : x.s0.floor = b.s0.floor
 floor1 : x.s1.floor = b.s1.floor
 low : ∀ k, (shore x k).lo ≤ (shore b k).lo
 high : ∀ k, (shore b k).hi ≤ (shore x k).hi
 light : x.empty.lo ≤ b.empty.lo
 heavy : x.empty.hi ≤ b.empty.hi
 under : x.under ≤ b.under
 sink : b.sink ≤ x.sink
theorem water_same {b x : Bk} (ht : x.tides = b.tides) (hs : x.sounds = b.sounds) (t : Tr) (h : Nat) : water x t h = water b t h := by
 have e : waterStep x t h = waterStep b t h := by
  funext w n
  simp [waterStep, okAt, hs]
 unfold water tide
 rw [e, ht]
theorem truths_same {b x : Bk} (ht : x.tides = b.tides) (hs : x.sounds = b.sounds) (h0 : x.s0.floor = b.s0.floor) (h1 : x.s1.floor = b.s1.floor) : truths x = truths b := by
 have e : allows x = allows b := by
  funext t
  unfold allows
  rw [hs]
  simp only [water_same ht hs]
 unfold truths digs
 rw [e, h0, h1]
theorem sunk_less {b x : Bk} (hb : 1 ≤ b.sink) (h : b.sink ≤ x.sink) (y : Int) (hy : 0 ≤ y) : sunk x y ≤ sunk b y := by
 unfold sunk
 have h1 := Int.emod_lt_of_pos (y + b.sink - 1) (show (0 : Int) < b.sink by omega)
 have h2 := Int.mul_ediv_add_emod (y + b.sink - 1) b.sink
 obtain ⟨k, hk⟩ : ∃ k, (y + b.sink - 1) / b.sink = k := ⟨_, rfl⟩
 rw [hk] at h2 ⊢
 have hk0 : 0 ≤ k := by rw [← hk]; exact Int.ediv_nonneg (by omega) (by omega)
 have h3 : b.sink * k ≤ x.sink * k := Int.mul_le_mul_of_nonneg_right h hk0
 refine Int.le_of_lt_add_one (Int.ediv_lt_of_lt_mul (by omega) ?_)
 rw [Int.add_mul, Int.one_mul, Int.mul_comm k]
 omega
theorem worst_easier {b x : Bk} (hb : 1 ≤ b.sink) (h : Easier b x) {sh hour : Nat} {y : Int} (hy : 0 ≤ y) (hw : atWorst b sh hour y = true) : atWorst x sh hour y = true := by
 unfold atWorst at hw ⊢
 rw [truths_same h.tides h.sounds h.floor0 h.floor1]
 rw [List.all_eq_true] at hw ⊢
 intro t ht
 have h1 := hw t ht
 rw [water_same h.tides h.sounds]
 simp only [inside, window, Bool.and_eq_true] at h1 ⊢
 have e1 := h.low sh
 have e2 := h.high sh
 have e3 := h.heavy
 have e4 := h.under
 have e5 := sunk_less hb h.sink y hy
 obtain ⟨h2, h3⟩ := h1
 have h3 := of_decide_eq_true h3
 obtain ⟨h4, h5⟩ := Int.max_le.1 (of_decide_eq_true h2)
 exact ⟨decide_eq_true (Int.max_le.2 ⟨by omega, by omega⟩), decide_eq_true (by omega)⟩
theorem best_easier {b x : Bk} (hb : 1 ≤ b.sink) (h : Easier b x) {sh hour : Nat} {y : Int} (hy : 0 ≤ y) (hw : atBest b sh hour y = true) : atBest x sh hour y = true := by
 unfold atBest at hw ⊢
 rw [truths_same h.tides h.sounds h.floor0 h.floor1]
 rw [List.any_eq_true] at hw ⊢
 obtain ⟨t, ht, h1⟩ := hw
 refine ⟨t, ht, ?_⟩
 rw [water_same h.tides h.sounds]
 simp only [isEmpty, meet, window, Bool.not_eq_true'] at h1 ⊢
 have e1 := h.low sh
 have e2 := h.high sh
 have e3 := h.light
 have e4 := h.under
 have e5 := sunk_less hb h.sink y hy
 obtain ⟨h2, h3⟩ := Int.max_le.1 (Int.not_lt.1 (of_decide_eq_false h1))
 obtain ⟨h4, h5⟩ := Int.le_min.1 h2
 obtain ⟨h6, h7⟩ := Int.le_min.1 h3
 obtain ⟨h8, h9⟩ := Int.max_le.1 h6
 obtain ⟨h10, h11⟩ := Int.max_le.1 h7
 exact decide_eq_false (Int.not_lt.2 (Int.max_le.2 ⟨Int.le_min.2 ⟨by omega, by omega⟩, Int.le_min.2 ⟨Int.max_le.2 ⟨by omega, by omega⟩, Int.max_le.2 ⟨by omega, by omega⟩⟩⟩))
theorem lands_easier {b x : Bk} (hb : 1 ≤ b.sink) (h : Easier b x) {sh hour : Nat} {y : Int} (hy : 0 ≤ y) : lands b sh hour y ≤ lands x sh hour y := by
 unfold lands
 cases hw : atWorst b sh hour y with
 | true => rw [worst_easier hb h hy hw]; exact Int.le_refl _
 | false =>
  cases hx : atWorst x sh hour y with
  | true => simp only [Bool.false_eq_true, if_false, if_true]; split <;> omega
  | false =>
   cases hb2 : atBest b sh hour y with
   | true => rw [best_easier hb h hy hb2]; simp
   | false => simp only [Bool.false_eq_true, if_false]; split <;> omega
theorem findR_easier {f g : Nat → Bool} {v : Nat → Int} {n : Nat} (h : ∀ i, i < n → f i = true → g i = true) :
 findR f v n = (0, 4) ∨ ∃ j k, j ≤ k ∧ k < n ∧ findR f v n = (v k, 0) ∧ findR g v n = (v j, 0) := by
 rcases findR_cases f v n with ⟨h2, -⟩ | ⟨k, hk, h2, h3, h4⟩
 · exact .inl h2
 · rcases findR_cases g v n with ⟨-, h5⟩ | ⟨j, hj, h5, h6, h7⟩
   · exact absurd (h5 k hk) (by rw [h k hk h2]; decide)
   · refine .inr ⟨j, k, ?_, hk, h4, h7⟩
     by_cases hjk : j ≤ k
     · exact hjk
     · exact absurd (h6 k (by omega)) (by rw [h k hk h2]; decide)
theorem mostR_in {b : Bk} (hv : valid b = true) {q m : Nat} (hq : q < b.tides.length) (hm : m = 0 ∨ m = 1) :
 mostR b m q = if truths b = [] then (0, 22) else findR (fun k => atWorst b m q (200 - (k : Int))) (fun k => 200 - (k : Int)) 201 := by
 unfold mostR
 rw [isSlip_in hq hm, studyE_in hv]
 by_cases ht : truths b = [] <;> simp [ht]
theorem easier_spec {b x : Bk} (hv : valid b = true) (h : Easier b x) {q m : Nat} (hq : q < b.tides.length) (hm : m = 0 ∨ m = 1) {y : Int} (h0 : 0 ≤ y) (h1 : y ≤ 200) :
 (landsR b m q y = (0, 22) ∧ landsR x m q y = (0, 22)) ∨
 (∃ ka kb, ka ≤ kb ∧ landsR b m q y = (ka, 0) ∧ landsR x m q y = (kb, 0) ∧ studyE b (isLoad y) = 0 ∧ studyE x (isLoad y) = 0 ∧ (∀ z ∈ bothL b y, z ∈ bothL x y) ∧
  (mostR b m q = (0, 4) ∨ ∃ v u, v ≤ u ∧ mostR b m q = (v, 0) ∧ mostR x m q = (u, 0)) ∧
  (firstR b m y = (0, 4) ∨ ∃ f g, g ≤ f ∧ firstR b m y = (f, 0) ∧ firstR x m y = (g, 0))) := by
 have hs := sink_pos hv
 have hqx : q < x.tides.length := by rw [h.tides]; exact hq
 have hlb := landsR_in hv hq hm h0 h1
 have hlx := landsR_in h.ok hqx hm h0 h1
 have hfb := firstR_in hv hm h0 h1
 have hfx := firstR_in h.ok hm h0 h1
 have hbb := bothL_in hv h0 h1
 have hbx := bothL_in h.ok h0 h1
 have heb := bothE_in hv h0 h1
 have hex := bothE_in h.ok h0 h1
 have hmb := mostR_in hv hq hm
 have hmx := mostR_in h.ok hqx hm
 have htr := truths_same h.tides h.sounds h.floor0 h.floor1
 rw [htr] at hlx hfx hbx hex hmx
 by_cases ht : truths b = []
 · rw [if_pos ht] at hlb hlx
   exact .inl ⟨hlb, hlx⟩
 · rw [if_neg ht] at hlb hlx hfb hfx hbb hbx heb hex hmb hmx
   refine .inr ⟨_, _, lands_easier hs h h0, hlb, hlx, heb, hex, ?_, ?_, ?_⟩
   · intro z hz
     rw [hbb] at hz
     rw [hbx, h.tides]
     obtain ⟨k, rfl, hk, hF⟩ := Ch.mem_someOf.1 hz
     refine Ch.mem_someOf.2 ⟨k, rfl, hk, ?_⟩
     simp only [bothAt, Bool.and_eq_true] at hF ⊢
     exact ⟨worst_easier hs h h0 hF.1, worst_easier hs h h0 hF.2⟩
   · rcases findR_easier (f := fun k => atWorst b m q (200 - (k : Int))) (g := fun k => atWorst x m q (200 - (k : Int))) (v := fun k => 200 - (k : Int)) (n := 201) (fun i hi => worst_easier hs h (by omega)) with h2 | ⟨j, k, hjk, hk, h2, h3⟩
     · exact .inl (hmb.trans h2)
     · exact .inr ⟨_, _, by omega, hmb.trans h2, hmx.trans h3⟩
   · rw [h.tides] at hfx
     rcases findR_easier (f := fun k => atWorst b m k y) (g := fun k => atWorst x m k y) (v := fun k => (k : Int)) (n := b.tides.length) (fun i hi => worst_easier hs h h0) with h2 | ⟨j, k, hjk, hk, h2, h3⟩
     · exact .inl (hfb.trans h2)
     · exact .inr ⟨_, _, by omega, hfb.trans h2, hfx.trans h3⟩
theorem less_one (n : Int) : (max 0 (n - 1) = 0 ∧ n ≤ 1) ∨ (max 0 (n - 1) = n - 1 ∧ 1 ≤ n) := by
 rw [Int.max_def]
 split <;> omega
theorem valid_easier {b x : Bk} (hv : valid b = true) (ht : x.tides = b.tides) (hs : x.sounds = b.sounds) (h0 : x.s0.floor = b.s0.floor) (h1 : x.s1.floor = b.s1.floor)
 (hl0 : -40 ≤ x.s0.lo ∧ x.s0.lo ≤ b.s0.lo) (hl1 : -40 ≤ x.s1.lo ∧ x.s1.lo ≤ b.s1.lo) (hh0 : b.s0.hi ≤ x.s0.hi ∧ x.s0.hi ≤ 80) (hh1 : b.s1.hi ≤ x.s1.hi ∧ x.s1.hi ≤ 80)
 (he : x.empty = b.empty ∨ (x.empty.lo = max 0 (b.empty.lo - 1) ∧ x.empty.hi = max 0 (b.empty.hi - 1))) (hu : 0 ≤ x.under ∧ x.under ≤ b.under) (hk : b.sink ≤ x.sink ∧ x.sink ≤ 20) : Easier b x := by
 obtain ⟨p1, p2, p3, p4, p5⟩ := valid_parts hv
 have d4 := draught_bd p4
 have f0 := floor_bd p3 0
 have f1 := floor_bd p3 1
 have g0 : shore b 0 = b.s0 := rfl
 have g1 : shore b 1 = b.s1 := rfl
 rw [g0] at f0
 rw [g1] at f1
 have s1 := sized_bd p1
 have hE : isDraught x.empty = true := by
  rcases he with he | ⟨e1, e2⟩
  · rw [he]; exact p4
  · have k4 : b.empty.hi - b.empty.lo ≤ 4 := (known_bd p4).2.2.2
    have l1 := less_one b.empty.lo
    have l2 := less_one b.empty.hi
    have hd : ∀ s : Sp, 0 ≤ s.lo → s.lo ≤ s.hi → s.hi ≤ 40 → s.hi - s.lo ≤ 4 → isDraught s = true := fun s a1 a2 a3 a4 => by
     simp [isDraught, isKnown, isEmpty, inside]
     omega
    refine hd _ ?_ ?_ ?_ ?_ <;> simp only [e1, e2] <;> omega
 have hok : valid x = true := by
  simp only [valid, Bool.and_eq_true]
  refine ⟨⟨⟨⟨?_, ?_⟩, ?_⟩, hE⟩, ?_⟩
  · simp only [sized, bnds, between, ht, hs, List.all_cons, List.all_nil, Bool.and_true, Bool.and_eq_true, decide_eq_true_eq]
    omega
  · unfold allTides; rw [ht]; exact p2
  · simp only [allShores, okShore, Bool.and_eq_true] at p3 ⊢
    rw [h0, h1]
    refine ⟨⟨⟨p3.1.1.1, ?_⟩, ?_⟩, ⟨p3.2.1.1, ?_⟩, ?_⟩
    · have : ¬ x.s0.hi < x.s0.lo := by omega
      show (!decide (x.s0.hi < x.s0.lo)) = true
      rw [decide_eq_false this]
      rfl
    · show (decide (-40 ≤ x.s0.lo) && decide (x.s0.hi ≤ 80)) = true
      rw [decide_eq_true hl0.1, decide_eq_true hh0.2]
      rfl
    · have : ¬ x.s1.hi < x.s1.lo := by omega
      show (!decide (x.s1.hi < x.s1.lo)) = true
      rw [decide_eq_false this]
      rfl
    · show (decide (-40 ≤ x.s1.lo) && decide (x.s1.hi ≤ 80)) = true
      rw [decide_eq_true hl1.1, decide_eq_true hh1.2]
      rfl
  · have e : okSound x = okSound b := by
     funext s
     simp [okSound, isSlip, isHour, ht]
    unfold allSounds
    rw [hs, e]
    exact p5
 have hlow : ∀ k, (shore x k).lo ≤ (shore b k).lo := by
  intro k
  unfold shore
  split <;> omega
 have hhigh : ∀ k, (shore b k).hi ≤ (shore x k).hi := by
  intro k
  unfold shore
  split <;> omega
 refine ⟨hok, ht, hs, h0, h1, hlow, hhigh, ?_, ?_, by omega, by omega⟩
 · rcases he with he | ⟨e1, e2⟩
   · rw [he]; exact Int.le_refl _
   · have := less_one b.empty.lo; rw [e1]; omega
 · rcases he with he | ⟨e1, e2⟩
   · rw [he]; exact Int.le_refl _
   · have := less_one b.empty.hi; rw [e2]; omega
end Go.Proofs.Ytjgpghaofhcfnaa.Ld
