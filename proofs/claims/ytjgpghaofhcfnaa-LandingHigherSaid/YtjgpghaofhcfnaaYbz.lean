/- Texts on the program that the proof leans on, part 52. -/
import Derived.Test.YtjgpghaofhcfnaaYbn
import Derived.Test.YtjgpghaofhcfnaaYbu
import Derived.Test.YtjgpghaofhcfnaaYax
import Derived.Test.YtjgpghaofhcfnaaYbd
set_option linter.unusedVariables false
set_option linter.unusedSimpArgs false

/- The mathematics of LandingHigher. -/
namespace Go.Proofs.Ytjgpghaofhcfnaa.Ld

/-- A span so much higher. -/
def upSp (s : Sp) (d : Int) : Sp := ⟨s.lo + d, s.hi + d⟩
def upSh (s : Sh) (d : Int) : Sh := ⟨upSp s.floor d, s.lo + d, s.hi + d⟩
def upTr (t : Tr) (d : Int) : Tr := ⟨t.f0 + d, t.f1 + d⟩
/-- A book in which all heights are so much higher. -/
def upB (b : Bk) (d : Int) : Bk := { b with tides := b.tides.map fun s => upSp s d, s0 := upSh b.s0 d, s1 := upSh b.s1 d }
/-- The water, so much higher, if there is any. -/
def upW (s : Sp) (d : Int) : Sp := if s = none then none else upSp s d

theorem up_tide (b : Bk) (d : Int) {h : Nat} (hh : h < b.tides.length) : tide (upB b d) h = upSp (tide b h) d := by
  simp [tide, upB, List.getD_eq_getElem?_getD, hh]
theorem up_okAt (b : Bk) (d : Int) (t : Tr) (h : Nat) (n : Int) : okAt (upB b d) (upTr t d) h (n + d) = okAt b t h n := by
  have e0 : ∀ x : Int, (n + d) - (x + d) = n - x := fun x => by omega
  simp only [okAt, upB, upTr, e0]
theorem up_join {s t : Sp} (d : Int) (hs : Fair s) (ht : Fair t) : join (upW s d) (upW t d) = upW (join s t) d := by
  by_cases h1 : s = none
  · subst h1
    have e : ∀ x : Sp, join none x = x := fun x => by simp [join, isEmpty, none]
    have e2 : upW none d = none := by unfold upW; rw [if_pos rfl]
    rw [e2, e, e]
  · have a1 := ne_le hs h1
    have e1 : isEmpty s = false := by simp [isEmpty]; omega
    have u1 : upW s d = upSp s d := by unfold upW; rw [if_neg h1]
    have e2 : isEmpty (upSp s d) = false := by simp [isEmpty, upSp]; omega
    by_cases h2 : t = none
    · subst h2
      have e3 : upW none d = none := by unfold upW; rw [if_pos rfl]
      have e4 : isEmpty none = true := rfl
      unfold join
      rw [e3, u1, e2, e4, e1]
      simp [u1]
    · have a2 := ne_le ht h2
      have e3 : isEmpty t = false := by simp [isEmpty]; omega
      have u2 : upW t d = upSp t d := by unfold upW; rw [if_neg h2]
      have e4 : isEmpty (upSp t d) = false := by simp [isEmpty, upSp]; omega
      have j1 : join s t = ⟨min s.lo t.lo, max s.hi t.hi⟩ := by unfold join; rw [e1, e3]; rfl
      have j2 : join (upSp s d) (upSp t d) = ⟨min (s.lo + d) (t.lo + d), max (s.hi + d) (t.hi + d)⟩ := by unfold join; rw [e2, e4]; rfl
      have hn : join s t ≠ none := fun h => h1 ((joined hs ht).none_iff.1 h).1
      rw [u1, u2, j2]
      unfold upW
      rw [if_neg hn, j1]
      unfold upSp
      refine sp_ext ?_ ?_
      · show min (s.lo + d) (t.lo + d) = min s.lo t.lo + d; omega
      · show max (s.hi + d) (t.hi + d) = max s.hi t.hi + d; omega
theorem up_folds (d : Int) (l : List Sp) : ∀ w, Fair w → (∀ s ∈ l, Fair s) → (l.map fun s => upW s d).foldl join (upW w d) = upW (l.foldl join w) d := by
  induction l with
  | nil => intro w _ _; rfl
  | cons s l ih =>
    intro w hw hl
    rw [List.map_cons, List.foldl_cons, List.foldl_cons, up_join d hw (hl s List.mem_cons_self)]
    exact ih _ (joined hw (hl s List.mem_cons_self)).fair (fun x hx => hl x (List.mem_cons_of_mem _ hx))
theorem up_nums (s : Sp) (d : Int) : nums (upSp s d) = (nums s).map fun n => n + d := by
  unfold nums upSp
  rw [show (s.hi + d - (s.lo + d) + 1).toNat = (s.hi - s.lo + 1).toNat by congr 1; omega, List.map_map]
  refine List.map_congr_left fun k _ => ?_
  show s.lo + d + (k : Int) = s.lo + (k : Int) + d
  omega
theorem upW_none (d : Int) : upW none d = none := by unfold upW; rw [if_pos rfl]
theorem up_heightSp (b : Bk) (d : Int) (t : Tr) (h : Nat) (n : Int) : heightSp (upB b d) (upTr t d) h (n + d) = upW (heightSp b t h n) d := by
  unfold heightSp
  rw [up_okAt]
  by_cases hc : okAt b t h n = true
  · rw [if_pos hc, if_pos hc]
    unfold upW
    rw [if_neg (just_ne n)]
    rfl
  · rw [if_neg hc, if_neg hc, upW_none]
theorem up_water (b : Bk) (d : Int) (t : Tr) {h : Nat} (hh : h < b.tides.length) : water (upB b d) (upTr t d) h = upW (water b t h) d := by
  unfold water
  rw [water_fold _ _ _ _ _ fair_none, water_fold _ _ _ _ _ fair_none, up_tide b d hh, up_nums, List.map_map]
  have e : ((fun n => heightSp (upB b d) (upTr t d) h n) ∘ fun n : Int => n + d) = (fun s => upW s d) ∘ (heightSp b t h) := by
    funext n
    exact up_heightSp b d t h n
  rw [show (heightSp (upB b d) (upTr t d) h ∘ fun n : Int => n + d) = (fun s => upW s d) ∘ (heightSp b t h) from e, ← List.map_map]
  have := up_folds d ((nums (tide b h)).map (heightSp b t h)) none fair_none (fun s hs => by
    obtain ⟨n, -, rfl⟩ := List.mem_map.1 hs
    unfold heightSp
    split
    · exact fair_just n
    · exact fair_none)
  rw [upW_none] at this
  exact this
theorem upW_ne {s : Sp} {d : Int} (hf : Fair s) : upW s d = none ↔ s = none := by
  constructor
  · intro h
    by_cases hn : s = none
    · exact hn
    · exfalso
      have h1 := ne_le hf hn
      unfold upW at h
      rw [if_neg hn] at h
      have e1 : s.lo + d = 1 := congrArg Sp.lo h
      have e2 : s.hi + d = 0 := congrArg Sp.hi h
      omega
  · rintro rfl; exact upW_none d
theorem upW_empty {s : Sp} {d : Int} (hf : Fair s) : isEmpty (upW s d) = isEmpty s := by
  by_cases hn : s = none
  · subst hn; rw [upW_none]
  · have h1 := ne_le hf hn
    unfold upW
    rw [if_neg hn]
    have e1 : isEmpty s = false := by simp [isEmpty]; omega
    have e2 : isEmpty (upSp s d) = false := by simp [isEmpty, upSp]; omega
    rw [e1, e2]
theorem up_digs (b : Bk) (d : Int) : digs (upB b d) = (digs b).map fun t => upTr t d := by
  unfold digs
  have e0 : (upB b d).s0.floor = upSp b.s0.floor d := rfl
  have e1 : (upB b d).s1.floor = upSp b.s1.floor d := rfl
  rw [e0, e1, up_nums, up_nums, List.flatMap_map, List.map_flatMap]
  congr 1
  funext x
  rw [List.map_map, List.map_map]
  rfl
theorem up_allows {b : Bk} (hv : valid b = true) (d : Int) (t : Tr) : allows (upB b d) (upTr t d) = allows b t := by
  obtain ⟨-, -, -, -, h5⟩ := valid_parts hv
  have e : (upB b d).sounds = b.sounds := rfl
  have e2 : ∀ s ∈ b.sounds, water (upB b d) (upTr t d) s.hour.toNat = upW (water b t s.hour.toNat) d := fun s hs => by
    have h := sound_bd h5 hs
    exact up_water b d t (by omega)
  unfold allows
  rw [e]
  rw [Bool.eq_iff_iff, List.all_eq_true, List.all_eq_true]
  constructor
  · intro h s hs
    have h1 := h s hs
    rw [e2 s hs, upW_empty (water_fair _ _ _)] at h1
    exact h1
  · intro h s hs
    rw [e2 s hs, upW_empty (water_fair _ _ _)]
    exact h s hs
theorem up_truths {b : Bk} (hv : valid b = true) (d : Int) : truths (upB b d) = (truths b).map fun t => upTr t d := by
  unfold truths
  rw [up_digs, List.filter_map]
  congr 1
  refine List.filter_congr fun t _ => ?_
  exact up_allows hv d t
theorem up_sunk (b : Bk) (d y : Int) : sunk (upB b d) y = sunk b y := rfl
theorem up_shore (b : Bk) (d : Int) (k : Nat) : shore (upB b d) k = upSh (shore b k) d := by
  unfold shore
  split <;> rfl
theorem up_at (t : Tr) (d : Int) (k : Nat) : (upTr t d).at k = t.at k + d := by
  unfold Tr.at
  split <;> rfl
theorem up_window (b : Bk) (d : Int) (t : Tr) (sh : Nat) (y e : Int) : window (upB b d) (upTr t d) sh y e = upSp (window b t sh y e) d := by
  unfold window
  rw [up_shore, up_at, up_sunk]
  refine sp_ext ?_ rfl
  show max ((shore b sh).lo + d) (t.at sh + d + e + sunk b y + b.under) = max (shore b sh).lo (t.at sh + e + sunk b y + b.under) + d
  omega
theorem up_inside (s t : Sp) (d : Int) : inside (upSp s d) (upSp t d) = inside s t := by
  have e1 : ∀ x y : Int, decide (x + d ≤ y + d) = decide (x ≤ y) := fun x y => by
    by_cases h : x ≤ y
    · rw [decide_eq_true h, decide_eq_true (by omega)]
    · rw [decide_eq_false h, decide_eq_false (by omega)]
  unfold inside upSp
  rw [e1, e1]
theorem up_meet (s t : Sp) (d : Int) : isEmpty (meet (upSp s d) (upSp t d)) = isEmpty (meet s t) := by
  show decide (min (s.hi + d) (t.hi + d) < max (s.lo + d) (t.lo + d)) = decide (min s.hi t.hi < max s.lo t.lo)
  by_cases h : min s.hi t.hi < max s.lo t.lo
  · rw [decide_eq_true h, decide_eq_true (by omega)]
  · rw [decide_eq_false h, decide_eq_false (by omega)]
theorem up_worst {b : Bk} (hv : valid b = true) (d : Int) {sh hour : Nat} (hh : hour < b.tides.length) (y : Int) : atWorst (upB b d) sh hour y = atWorst b sh hour y := by
  unfold atWorst
  rw [up_truths hv, List.all_map, Bool.eq_iff_iff, List.all_eq_true, List.all_eq_true]
  have key : ∀ t ∈ truths b, inside (water (upB b d) (upTr t d) hour) (window (upB b d) (upTr t d) sh y (upB b d).empty.hi) = inside (water b t hour) (window b t sh y b.empty.hi) := by
    intro t ht
    rw [up_water b d t hh, up_window]
    unfold upW
    rw [if_neg (water_ne hv ht hh)]
    exact up_inside _ _ d
  constructor
  · intro h t ht; rw [← key t ht]; exact h t ht
  · intro h t ht
    show inside (water (upB b d) (upTr t d) hour) (window (upB b d) (upTr t d) sh y (upB b d).empty.hi) = true
    rw [key t ht]; exact h t ht
theorem up_best {b : Bk} (hv : valid b = true) (d : Int) {sh hour : Nat} (hh : hour < b.tides.length) (y : Int) : atBest (upB b d) sh hour y = atBest b sh hour y := by
  unfold atBest
  rw [up_truths hv, List.any_map, Bool.eq_iff_iff, List.any_eq_true, List.any_eq_true]
  have key : ∀ t ∈ truths b, isEmpty (meet (water (upB b d) (upTr t d) hour) (window (upB b d) (upTr t d) sh y (upB b d).empty.lo)) = isEmpty (meet (water b t hour) (window b t sh y b.empty.lo)) := by
    intro t ht
    rw [up_water b d t hh, up_window]
    unfold upW
    rw [if_neg (water_ne hv ht hh)]
    exact up_meet _ _ d
  constructor
  · rintro ⟨t, ht, h⟩; exact ⟨t, ht, by rw [← key t ht]; exact h⟩
  · rintro ⟨t, ht, h⟩
    refine ⟨t, ht, ?_⟩
    show (!isEmpty (meet (water (upB b d) (upTr t d) hour) (window (upB b d) (upTr t d) sh y (upB b d).empty.lo))) = true
    rw [key t ht]; exact h
theorem up_height {b : Bk} (hv : valid b = true) (d : Int) {hour : Nat} (hh : hour < b.tides.length) : height (upB b d) hour = upW (height b hour) d := by
  have e : ∀ x : Bk, height x hour = ((truths x).map fun t => water x t hour).foldl join none := fun x => by unfold height; rw [List.foldl_map]
  rw [e, e, up_truths hv, List.map_map]
  have e2 : ((fun t => water (upB b d) t hour) ∘ fun t => upTr t d) = (fun s => upW s d) ∘ fun t => water b t hour := by
    funext t
    exact up_water b d t hh
  rw [e2, ← List.map_map]
  have := up_folds d ((truths b).map fun t => water b t hour) none fair_none (fun s hs => by
    obtain ⟨t, -, rfl⟩ := List.mem_map.1 hs
    exact water_fair b t hour)
  rw [upW_none] at this
  exact this

theorem up_empty {b : Bk} (hv : valid b = true) (d : Int) : truths (upB b d) = [] ↔ truths b = [] := by
  rw [up_truths hv, List.map_eq_nil_iff]
theorem up_possible {b : Bk} (hv : valid b = true) (d : Int) : possible (upB b d) = possible b := by
  unfold possible
  rw [up_truths hv]
  cases truths b <;> rfl
theorem up_without (b : Bk) (d : Int) (no : List Int) : without (upB b d) no = upB (without b no) d := rfl

theorem higher_spec {b : Bk} (hv : valid b = true) {d : Int} (hx : valid (upB b d) = true) {q m : Nat} (hq : q < b.tides.length) (hm : m = 0 ∨ m = 1) {y : Int} (h0 : 0 ≤ y) (h1 : y ≤ 200) :
    studyE (upB b d) (isHour (upB b d) q) = studyE b (isHour b q) ∧
    (studyE b (isHour b q) = 0 → heightR (upB b d) q = ⟨(heightR b q).lo + d, (heightR b q).hi + d⟩) ∧
    landsR (upB b d) m q y = landsR b m q y ∧ mostR (upB b d) m q = mostR b m q ∧ firstR (upB b d) m y = firstR b m y ∧
    studyE (upB b d) (isLoad y) = studyE b (isLoad y) ∧ bothL (upB b d) y = bothL b y ∧ wrongL (upB b d) = wrongL b := by
  have hl : (upB b d).tides.length = b.tides.length := by simp [upB]
  have hqx : q < (upB b d).tides.length := by rw [hl]; exact hq
  have eB := studyE_in hv
  have eX := studyE_in hx
  have hem := up_empty hv d
  have ih : ∀ {x : Bk}, q < x.tides.length → isHour x q = true := fun h => by simp [isHour]; omega
  have lands_up : ∀ hour, hour < b.tides.length → ∀ sh, lands (upB b d) sh hour y = lands b sh hour y := fun hour hh sh => by
    unfold lands
    rw [up_worst hv d hh, up_best hv d hh]
  have both_up : ∀ k, k < b.tides.length → bothAt (upB b d) k y = bothAt b k y := fun k hk => by
    unfold bothAt
    rw [up_worst hv d hk, up_worst hv d hk]
  by_cases ht : truths b = []
  · have htx : truths (upB b d) = [] := hem.2 ht
    rw [if_pos ht] at eB
    rw [if_pos htx] at eX
    refine ⟨by rw [ih hqx, ih hq, eB, eX], fun h => (by rw [ih hq, eB] at h; cases h), ?_, ?_, ?_, ?_, ?_, ?_⟩
    · rw [landsR_in hv hq hm h0 h1, landsR_in hx hqx hm h0 h1, if_pos ht, if_pos htx]
    · unfold mostR
      rw [isSlip_in hq hm, isSlip_in hqx hm, eB, eX]
      rfl
    · rw [firstR_in hv hm h0 h1, firstR_in hx hm h0 h1, if_pos ht, if_pos htx]
    · rw [bothE_in hv h0 h1, bothE_in hx h0 h1, if_pos ht, if_pos htx]
    · rw [bothL_in hv h0 h1, bothL_in hx h0 h1, if_pos ht, if_pos htx]
    · unfold wrongL
      rw [if_pos hv, if_pos hx]
      have : trueWithout (upB b d) = trueWithout b := by
        funext no
        unfold trueWithout
        rw [up_without, up_possible (without_valid hv no)]
      rw [this]
      rfl
  · have htx : truths (upB b d) ≠ [] := fun h => ht (hem.1 h)
    rw [if_neg ht] at eB
    rw [if_neg htx] at eX
    have i1 : studyE b (isHour b q) = 0 := by rw [ih hq]; exact eB
    have i2 : studyE (upB b d) (isHour (upB b d) q) = 0 := by rw [ih hqx]; exact eX
    refine ⟨by rw [i1, i2], fun _ => ?_, ?_, ?_, ?_, ?_, ?_, ?_⟩
    · unfold heightR
      rw [if_pos i1, if_pos i2, Int.toNat_natCast, up_height hv d hq]
      have hn : height b q ≠ none := fun h => by
        obtain ⟨t, ht2⟩ := List.exists_mem_of_ne_nil _ ht
        exact water_ne hv ht2 hq ((height_hull b q).none_iff.1 h _ (List.mem_map.2 ⟨t, ht2, rfl⟩))
      unfold upW
      rw [if_neg hn]
      rfl
    · rw [landsR_in hv hq hm h0 h1, landsR_in hx hqx hm h0 h1, if_neg ht, if_neg htx, lands_up q hq m]
    · unfold mostR
      rw [isSlip_in hq hm, isSlip_in hqx hm, eB, eX, if_pos rfl, if_pos rfl]
      congr 1
      funext k
      simp only [Int.toNat_natCast]
      exact up_worst hv d hq _
    · rw [firstR_in hv hm h0 h1, firstR_in hx hm h0 h1, if_neg ht, if_neg htx, hl]
      unfold findR
      have e : (List.range b.tides.length).find? (fun k => atWorst (upB b d) m k y) = (List.range b.tides.length).find? (fun k => atWorst b m k y) := by
        have key : ∀ l : List Nat, (∀ k ∈ l, k < b.tides.length) → l.find? (fun k => atWorst (upB b d) m k y) = l.find? (fun k => atWorst b m k y) := by
          intro l
          induction l with
          | nil => intro _; rfl
          | cons k l ih2 =>
            intro hk
            rw [List.find?_cons, List.find?_cons, up_worst hv d (hk k List.mem_cons_self), ih2 (fun j hj => hk j (List.mem_cons_of_mem _ hj))]
        exact key _ (fun k hk => List.mem_range.1 hk)
      rw [e]
    · rw [bothE_in hv h0 h1, bothE_in hx h0 h1, if_neg ht, if_neg htx]
    · rw [bothL_in hv h0 h1, bothL_in hx h0 h1, if_neg ht, if_neg htx, hl]
      unfold someOf
      congr 1
      exact List.filter_congr fun k hk => both_up k (List.mem_range.1 hk)
    · unfold wrongL
      rw [if_pos hv, if_pos hx]
      have : trueWithout (upB b d) = trueWithout b := by
        funext no
        unfold trueWithout
        rw [up_without, up_possible (without_valid hv no)]
      rw [this]
      rfl

end Go.Proofs.Ytjgpghaofhcfnaa.Ld

/- Contract of the statements' helper up. -/
namespace Go.Proofs.Ytjgpghaofhcfnaa
open Go.RowKit

set_option maxHeartbeats 2000000 in
theorem up_any (s : Ld.Sp) (d : Int) (h0 : -100 ≤ s.lo ∧ s.lo ≤ 100) (h1 : -100 ≤ s.hi ∧ s.hi ≤ 100) (hd : -20 ≤ d ∧ d ≤ 20) (w : World) :
    Calls Try.prog 41 #[vSp s, I d] w fun e w' => e = .returned (vSp (Ld.upSp s d)) ∧ Below w.heap.size w w' := by
  obtain ⟨a, b⟩ := s
  replace h0 : -100 ≤ a ∧ a ≤ 100 := h0
  replace h1 : -100 ≤ b ∧ b ≤ 100 := h1
  have e1 : IntKind.i64.wrap (a + d) = a + d := IntWalk.i64_in _ (by omega)
  have e2 : IntKind.i64.wrap (b + d) = b + d := IntWalk.i64_in _ (by omega)
  clear h0 h1 hd
  go_enter Try.func41, Try.ntmps41
  go_wp2_with fail
  refine name_calls ?_
  intro W hW
  have hB0 : Below w.heap.size w W := by rw [hW]; exact ((Below.refl _ _).alloc (Nat.le_refl _) _).alloc (by simp) _
  have rO : W.heap[w.heap.size + 1]? = some (.cells #[I 0, I 0] 24 (0, 0)) := by rw [hW]; exact heap_at _ _ (by simp)
  clear hW
  refine (range_any _ _ _).mono ?_
  rintro e w1 ⟨rfl, hB1⟩
  have hr := (hB1.block _ (heap_lt rO)).trans rO
  have HB := Lib.hid (hB0.trans (hB1.mono hB0.size))
  clear hB1 hB0 rO
  have c0 := cell_of_row w1 _ 0 _ _ _ hr
  have c1 := cell_of_row w1 _ 1 _ _ _ hr
  have z0 : w1.frozen? ⟨w.heap.size + 1, 0, none⟩ = false := by simp [World.frozen?, hr]
  have z1 : w1.frozen? ⟨w.heap.size + 1, 1, none⟩ = false := by simp [World.frozen?, hr]
  simp only [List.getElem?_toArray, List.getElem?_cons_zero, List.getElem?_cons_succ] at c0 c1
  go_wp2_with fail
  refine bodyPost_ret (v := vSp ⟨a + d, b + d⟩) (by simp [results, Try.results41, go_sem, c0, c1]) rfl ⟨rfl, ?_⟩
  exact (HB.out.setCell (by simp) _).setCell (by simp) _

end Go.Proofs.Ytjgpghaofhcfnaa
