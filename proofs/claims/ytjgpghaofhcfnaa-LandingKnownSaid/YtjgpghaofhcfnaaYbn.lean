/- Texts on the program that the proof leans on, part 40. -/
import Derived.Test.YtjgpghaofhcfnaaYbl
import Derived.Test.YtjgpghaofhcfnaaYbm
import Derived.Test.YtjgpghaofhcfnaaYax
set_option linter.unusedVariables false
set_option linter.unusedSimpArgs false

namespace Go.Proofs.Ytjgpghaofhcfnaa.Ld
def tideB (b : Bk) (q : Nat) (n : Int) : Bk := { b with tides := b.tides.set q ⟨n, n⟩ }
def floorB (b : Bk) (m : Nat) (n : Int) : Bk := if m = 0 then { b with s0 := { b.s0 with floor := ⟨n, n⟩ } } else { b with s1 := { b.s1 with floor := ⟨n, n⟩ } }
theorem point_height {n : Int} (h0 : -40 ≤ n) (h1 : n ≤ 80) : isHeight ⟨n, n⟩ = true := by
 show (!decide (n < n) && (decide (-40 ≤ n) && decide (n ≤ 80)) && decide (n - n ≤ 4)) = true
 rw [decide_eq_true h0, decide_eq_true h1, decide_eq_true (show n - n ≤ 4 by omega), decide_eq_false (show ¬ n < n by omega)]
 rfl
theorem tideB_valid {b : Bk} (hv : valid b = true) {q : Nat} {n : Int} (h0 : -40 ≤ n) (h1 : n ≤ 80) : valid (tideB b q n) = true := by
 simp only [valid, Bool.and_eq_true] at hv ⊢
 obtain ⟨⟨⟨⟨p1, p2⟩, p3⟩, p4⟩, p5⟩ := hv
 have hl : (tideB b q n).tides.length = b.tides.length := by simp [tideB]
 refine ⟨⟨⟨⟨?_, ?_⟩, p3⟩, p4⟩, ?_⟩
 · unfold sized bnds at p1 ⊢
   rw [hl]
   exact p1
 · refine List.all_eq_true.2 fun s hs => ?_
   rcases List.mem_or_eq_of_mem_set hs with hs | rfl
   · exact List.all_eq_true.1 p2 s hs
   · exact point_height h0 h1
 · have e : okSound (tideB b q n) = okSound b := by
    funext s
    simp only [okSound, isSlip, isHour, hl]
   unfold allSounds
   rw [e]
   exact p5
theorem tideB_other {b : Bk} {q h : Nat} {n : Int} (hne : h ≠ q) : tide (tideB b q n) h = tide b h := by
 unfold tide tideB
 simp only [List.getD_eq_getElem?_getD]
 rw [List.getElem?_set_ne (by omega)]
theorem tideB_same {b : Bk} {q : Nat} {n : Int} (hq : q < b.tides.length) : tide (tideB b q n) q = ⟨n, n⟩ := by
 unfold tide tideB
 simp [List.getD_eq_getElem?_getD, hq]
theorem water_tide {b : Bk} {q h : Nat} {n : Int} (t : Tr) (hne : h ≠ q) : water (tideB b q n) t h = water b t h := by
 have e : waterStep (tideB b q n) t h = waterStep b t h := rfl
 unfold water
 rw [e, tideB_other hne]
theorem water_point {b : Bk} {q : Nat} {n : Int} (hq : q < b.tides.length) (t : Tr) : water (tideB b q n) t q ≠ none ↔ okAt b t q n = true := by
 constructor
 · intro h
   obtain ⟨h1, -, h3, h4, h5⟩ := water_ends h
   rw [tideB_same hq] at h3 h5
   have e : (water (tideB b q n) t q).lo = n := by
    have h3 : n ≤ (water (tideB b q n) t q).lo := h3
    have h5 : (water (tideB b q n) t q).hi ≤ n := h5
    omega
   rw [e] at h1
   exact h1
 · intro h
   have h2 : okAt (tideB b q n) t q n = true := h
   exact (water_in (by rw [tideB_same hq]; exact Int.le_refl _) (by rw [tideB_same hq]; exact Int.le_refl _) h2).1
theorem allows_iff {b : Bk} (t : Tr) : allows b t = true ↔ ∀ s ∈ b.sounds, water b t s.hour.toNat ≠ none := by
 unfold allows
 rw [List.all_eq_true]
 constructor
 · intro h s hs hn
   have h1 := h s hs
   rw [(empty_iff (water_fair _ _ _)).2 hn] at h1
   cases h1
 · intro h s hs
   cases he : isEmpty (water b t s.hour.toNat) with
   | false => rfl
   | true => exact absurd ((empty_iff (water_fair _ _ _)).1 he) (h s hs)
theorem mem_truths {b : Bk} {t : Tr} : t ∈ truths b ↔ t ∈ digs b ∧ ∀ s ∈ b.sounds, water b t s.hour.toNat ≠ none := by
 unfold truths
 rw [List.mem_filter, allows_iff]
theorem mem_tide {b : Bk} {q : Nat} (hq : q < b.tides.length) {n : Int} (h0 : (tide b q).lo ≤ n) (h1 : n ≤ (tide b q).hi) (t : Tr) :
 t ∈ truths (tideB b q n) ↔ t ∈ truths b ∧ okAt b t q n = true := by
 rw [mem_truths, mem_truths]
 have hd : digs (tideB b q n) = digs b := rfl
 have hs : (tideB b q n).sounds = b.sounds := rfl
 rw [hd, hs]
 constructor
 · rintro ⟨h2, h3⟩
   have hok : okAt b t q n = true := by
    by_cases hc : ∃ s ∈ b.sounds, s.hour = q
    · obtain ⟨s, hs, e⟩ := hc
      have h4 := h3 s hs
      rw [show s.hour.toNat = q by omega] at h4
      exact (water_point hq t).1 h4
    · have hd : ∀ k : Int, depths b.sounds q k = [] := by
       intro k
       unfold depths
       rw [List.map_eq_nil_iff, List.filter_eq_nil_iff]
       intro s hs2 hc2
       simp only [atSlip, Bool.and_eq_true, decide_eq_true_eq] at hc2
       exact hc ⟨s, hs2, hc2.1⟩
      simp [okAt, hd]
   refine ⟨⟨h2, fun s hs => ?_⟩, hok⟩
   by_cases hc : s.hour.toNat = q
   · rw [hc]
     exact (water_in h0 h1 hok).1
   · have h4 := h3 s hs
     rw [water_tide t hc] at h4
     exact h4
 · rintro ⟨⟨h2, h3⟩, hok⟩
   refine ⟨h2, fun s hs => ?_⟩
   by_cases hc : s.hour.toNat = q
   · rw [hc]
     exact (water_point hq t).2 hok
   · rw [water_tide t hc]
     exact h3 s hs
theorem possible_iff {b : Bk} : possible b = true ↔ ∃ t, t ∈ truths b := by
 unfold possible
 cases truths b with
 | nil => simp
 | cons x l => simp
theorem floorB_valid {b : Bk} (hv : valid b = true) {m : Nat} {n : Int} (h0 : -40 ≤ n) (h1 : n ≤ 80) : valid (floorB b m n) = true := by
 unfold floorB
 simp only [valid, Bool.and_eq_true, allShores, okShore] at hv
 obtain ⟨⟨⟨⟨p1, p2⟩, p3⟩, p4⟩, p5⟩ := hv
 split <;> simp only [valid, Bool.and_eq_true, allShores, okShore]
 · exact ⟨⟨⟨⟨p1, p2⟩, ⟨⟨point_height h0 h1, p3.1.1.2⟩, p3.1.2⟩, p3.2⟩, p4⟩, p5⟩
 · exact ⟨⟨⟨⟨p1, p2⟩, p3.1, ⟨point_height h0 h1, p3.2.1.2⟩, p3.2.2⟩, p4⟩, p5⟩
theorem water_floor (b : Bk) (m : Nat) (n : Int) (t : Tr) (h : Nat) : water (floorB b m n) t h = water b t h := by
 unfold floorB
 split <;> rfl
theorem mem_digs {b : Bk} {t : Tr} : t ∈ digs b ↔ (b.s0.floor.lo ≤ t.f0 ∧ t.f0 ≤ b.s0.floor.hi) ∧ (b.s1.floor.lo ≤ t.f1 ∧ t.f1 ≤ b.s1.floor.hi) := by
 unfold digs
 rw [List.mem_flatMap]
 constructor
 · rintro ⟨x, hx, h⟩
   obtain ⟨y, hy, rfl⟩ := List.mem_map.1 h
   exact ⟨mem_nums.1 hx, mem_nums.1 hy⟩
 · rintro ⟨h1, h2⟩
   exact ⟨t.f0, mem_nums.2 h1, List.mem_map.2 ⟨t.f1, mem_nums.2 h2, rfl⟩⟩
theorem mem_floor {b : Bk} {m : Nat} (hm : m = 0 ∨ m = 1) {n : Int} (h0 : (shore b m).floor.lo ≤ n) (h1 : n ≤ (shore b m).floor.hi) (t : Tr) :
 t ∈ truths (floorB b m n) ↔ t ∈ truths b ∧ t.at m = n := by
 rw [mem_truths, mem_truths]
 have hs : (floorB b m n).sounds = b.sounds := by unfold floorB; split <;> rfl
 rw [hs]
 simp only [water_floor]
 have hd : t ∈ digs (floorB b m n) ↔ t ∈ digs b ∧ t.at m = n := by
  rw [mem_digs, mem_digs]
  rcases hm with rfl | rfl
  · have e : floorB b 0 n = { b with s0 := { b.s0 with floor := ⟨n, n⟩ } } := rfl
    have h0 : b.s0.floor.lo ≤ n := h0
    have h1 : n ≤ b.s0.floor.hi := h1
    have e2 : t.at 0 = t.f0 := rfl
    rw [e, e2]
    show ((n ≤ t.f0 ∧ t.f0 ≤ n) ∧ _) ↔ _
    constructor
    · rintro ⟨⟨a1, a2⟩, a3⟩; exact ⟨⟨⟨by omega, by omega⟩, a3⟩, by omega⟩
    · rintro ⟨⟨-, a3⟩, a4⟩; exact ⟨⟨by omega, by omega⟩, a3⟩
  · have e : floorB b 1 n = { b with s1 := { b.s1 with floor := ⟨n, n⟩ } } := rfl
    have h0 : b.s1.floor.lo ≤ n := h0
    have h1 : n ≤ b.s1.floor.hi := h1
    have e2 : t.at 1 = t.f1 := rfl
    rw [e, e2]
    show (_ ∧ (n ≤ t.f1 ∧ t.f1 ≤ n)) ↔ _
    constructor
    · rintro ⟨a3, a1, a2⟩; exact ⟨⟨a3, by omega, by omega⟩, by omega⟩
    · rintro ⟨⟨a3, -⟩, a4⟩; exact ⟨a3, by omega, by omega⟩
 rw [hd]
 constructor
 · rintro ⟨⟨a, c⟩, d⟩; exact ⟨⟨a, d⟩, c⟩
 · rintro ⟨⟨a, d⟩, c⟩; exact ⟨⟨a, c⟩, d⟩
structure EndsOf (P : Int → Prop) (all s : Sp) : Prop where
 low : all.lo ≤ s.lo
 high : s.hi ≤ all.hi
 le : s.lo ≤ s.hi
 atLow : P s.lo
 atHigh : P s.hi
 only : ∀ n, all.lo ≤ n → n ≤ all.hi → P n → s.lo ≤ n ∧ n ≤ s.hi
theorem height_ends {b : Bk} (hv : valid b = true) (hne : truths b ≠ []) {q : Nat} (hq : q < b.tides.length) : EndsOf (fun n => possible (tideB b q n) = true) (tide b q) (height b q) := by
 have hH := height_hull b q
 have hn : height b q ≠ none := fun h => by
  obtain ⟨t, ht⟩ := List.exists_mem_of_ne_nil _ hne
  exact water_ne hv ht hq (hH.none_iff.1 h _ (List.mem_map.2 ⟨t, ht, rfl⟩))
 obtain ⟨w, hw, hwn, e⟩ := hH.low hn
 obtain ⟨w', hw', hwn', e'⟩ := hH.high hn
 obtain ⟨t, ht, rfl⟩ := List.mem_map.1 hw
 obtain ⟨t', ht', rfl⟩ := List.mem_map.1 hw'
 obtain ⟨k1, k2, k3, k4, k5⟩ := water_ends hwn
 obtain ⟨l1, l2, l3, l4, l5⟩ := water_ends hwn'
 have c1 := hH.cover _ hw' hwn'
 rw [← e] at k1 k3 k4
 rw [← e'] at l2 l4 l5
 have hle := ne_le hH.fair hn
 refine ⟨k3, l5, hle, possible_iff.2 ⟨t, (mem_tide hq k3 (by omega) t).2 ⟨ht, k1⟩⟩, possible_iff.2 ⟨t', (mem_tide hq (by omega) l5 t').2 ⟨ht', l2⟩⟩, ?_⟩
 intro n h0 h1 hp
 obtain ⟨u, hu⟩ := possible_iff.1 hp
 obtain ⟨hu1, hu2⟩ := (mem_tide hq h0 h1 u).1 hu
 obtain ⟨g1, g2, g3⟩ := water_in h0 h1 hu2
 have c2 := hH.cover _ (List.mem_map.2 ⟨u, hu1, rfl⟩) g1
 omega
theorem known_ends {b : Bk} (hne : truths b ≠ []) {m : Nat} (hm : m = 0 ∨ m = 1) : EndsOf (fun n => possible (floorB b m n) = true) (shore b m).floor (if (m : Int) = 0 then (known (truths b)).1 else (known (truths b)).2) := by
 obtain ⟨H1, H2⟩ := known_hull (truths b)
 have key : ∀ r : Sp, Hull ((truths b).map fun t => just (t.at m)) r → EndsOf (fun n => possible (floorB b m n) = true) (shore b m).floor r := by
  intro r hH
  have hn : r ≠ none := fun h => by
   obtain ⟨t, ht⟩ := List.exists_mem_of_ne_nil _ hne
   exact just_ne _ (hH.none_iff.1 h _ (List.mem_map.2 ⟨t, ht, rfl⟩))
  have hin : ∀ t ∈ truths b, (shore b m).floor.lo ≤ t.at m ∧ t.at m ≤ (shore b m).floor.hi := by
   intro t ht
   have h1 := mem_digs.1 (mem_truths.1 ht).1
   rcases hm with rfl | rfl
   · exact h1.1
   · exact h1.2
  obtain ⟨w, hw, hwn, e⟩ := hH.low hn
  obtain ⟨w', hw', hwn', e'⟩ := hH.high hn
  obtain ⟨t, ht, rfl⟩ := List.mem_map.1 hw
  obtain ⟨t', ht', rfl⟩ := List.mem_map.1 hw'
  have e : r.lo = t.at m := e
  have e' : r.hi = t'.at m := e'
  have i1 := hin t ht
  have i2 := hin t' ht'
  refine ⟨by omega, by omega, ne_le hH.fair hn, possible_iff.2 ⟨t, (mem_floor hm (by omega) (by omega) t).2 ⟨ht, e.symm⟩⟩, possible_iff.2 ⟨t', (mem_floor hm (by omega) (by omega) t').2 ⟨ht', e'.symm⟩⟩, ?_⟩
  intro n h0 h1 hp
  obtain ⟨u, hu⟩ := possible_iff.1 hp
  obtain ⟨hu1, hu2⟩ := (mem_floor hm h0 h1 u).1 hu
  have c2 := hH.cover _ (List.mem_map.2 ⟨u, hu1, rfl⟩) (just_ne _)
  have c3 : r.lo ≤ u.at m ∧ u.at m ≤ r.hi := c2
  omega
 rcases hm with rfl | rfl
 · exact key _ H1
 · exact key _ H2
theorem hour_in {b : Bk} {q : Nat} (hq : q < b.tides.length) : isHour b q = true := by
 simp [isHour]; omega
theorem ends_spec {b : Bk} (hv : valid b = true) {q m : Nat} (hq : q < b.tides.length) (hm : m = 0 ∨ m = 1) :
 (studyE b (isHour b q) = 22 ∧ studyE b (isShore m) = 22 ∧ heightR b q = ⟨0, 0⟩ ∧ floorR b m = ⟨0, 0⟩) ∨
 (studyE b (isHour b q) = 0 ∧ studyE b (isShore m) = 0 ∧ EndsOf (fun n => possible (tideB b q n) = true) (tide b q) (heightR b q) ∧ EndsOf (fun n => possible (floorB b m n) = true) (shore b m).floor (floorR b m)) := by
 have eB := studyE_in hv
 have e1 := hour_in hq
 have e2 := isShore_in hm
 by_cases hne : truths b = []
 · rw [if_pos hne] at eB
   have i1 : studyE b (isHour b q) = 22 := by rw [e1]; exact eB
   have i2 : studyE b (isShore m) = 22 := by rw [e2]; exact eB
   exact .inl ⟨i1, i2, by unfold heightR; rw [i1]; rfl, by unfold floorR; rw [i2]; rfl⟩
 · rw [if_neg hne] at eB
   have i1 : studyE b (isHour b q) = 0 := by rw [e1]; exact eB
   have i2 : studyE b (isShore m) = 0 := by rw [e2]; exact eB
   refine .inr ⟨i1, i2, ?_, ?_⟩
   · unfold heightR
     rw [if_pos i1, Int.toNat_natCast]
     exact height_ends hv hne hq
   · unfold floorR
     rw [if_pos i2]
     exact known_ends hne hm
end Go.Proofs.Ytjgpghaofhcfnaa.Ld
