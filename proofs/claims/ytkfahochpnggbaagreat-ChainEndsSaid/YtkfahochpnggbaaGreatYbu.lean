/- Texts on the program that the proof leans on, part 47. -/
import Derived.Test.YtkfahochpnggbaaGreatYbn
import Derived.Test.YtkfahochpnggbaaGreatYbo
import Derived.Test.YtkfahochpnggbaaGreatYbt
set_option linter.unusedVariables false
set_option linter.unusedSimpArgs false

/- Contract of ChainEnds: it returns true, whatever the book and the numbers. -/
namespace Go.Proofs.YtkfahochpnggbaaGreat
open Go.RowKit

set_option maxRecDepth 100000 in
set_option maxHeartbeats 4000000 in
theorem ChainEnds_any (b : Ch.Bk) (S T V : Value) (n0 n1 : Int) (w : World) (hb : RB w w.heap.size b S T V) :
    Calls Tryz.prog 7 #[vBk S T V b.rule b.days, .agg #[I n0, I n1]] w fun e w' => e = .returned (.bool true) ∧ Below w.heap.size w w' := by
  obtain ⟨A0, k0, rfl⟩ := hb.secs.form
  obtain ⟨A1, k1, rfl⟩ := hb.turns.form
  obtain ⟨A2, k2, rfl⟩ := hb.svs.form
  obtain ⟨o, ho⟩ : ∃ o : Obj, o = .cells #[.slice A0 b.secs.length k0, .slice A1 b.turns.length k1, .slice A2 b.svs.length k2, I b.rule, I b.days] 26 := ⟨_, rfl⟩
  obtain ⟨o2, ho2⟩ : ∃ o : Obj, o = .cells #[I n0, I n1] 27 := ⟨_, rfl⟩
  obtain ⟨W0, hW0⟩ : ∃ W : World, W = (w.alloc o).alloc o2 := ⟨_, rfl⟩
  have hb0 : Below w.heap.size w W0 := by rw [hW0]; exact ((Below.refl _ _).alloc (Nat.le_refl _) _).alloc (by simp) _
  have rB : W0.heap[w.heap.size]? = some o := by rw [hW0]; exact (Below.heap_alloc _ _ _ (by simp)).trans (heap_at _ _ rfl)
  have rN : W0.heap[w.heap.size + 1]? = some o2 := by rw [hW0]; exact heap_at _ _ (by simp)
  have lB : w.heap.size < W0.heap.size := by rw [hW0]; simp; omega
  have lN : w.heap.size + 1 < W0.heap.size := by rw [hW0]; simp
  go_enter Tryz.func7, Tryz.ntmps7
  go_wp2_with fail
  rw [← ho, ← ho2, ← hW0]
  subst ho ho2
  clear hW0
  have hRB := (hb.below hb0 (Nat.le_refl _)).more hb0.size
  refine (sound_any b _ _ _ W0 hRB).mono ?_
  rintro e w1 ⟨rfl, hB1⟩
  replace rB := (hB1.block _ lB).trans rB
  replace lB := Nat.lt_of_lt_of_le lB hB1.size
  replace rN := (hB1.block _ lN).trans rN
  replace lN := Nat.lt_of_lt_of_le lN hB1.size
  have hb1 := hb0.trans (hB1.mono hb0.size)
  clear hRB hb0 hB1
  by_cases hck : Ch.check b = 0
  case neg =>
    rw [decide_eq_false hck]
    clear rB rN lB lN
    go_wp2_with fail
    refine (forged_any _).mono ?_
    rintro e w2 ⟨rfl, hB2⟩
    have HB := Lib.hid (hb1.trans (hB2.mono hb1.size))
    clear hB2 hb1 hck
    go_wp2_with fail
    go_ret
    exact ⟨rfl, HB.out⟩
  rw [decide_eq_true hck]
  have hval : Ch.valid b = true := by
    unfold Ch.check at hck
    split at hck
    · assumption
    · omega
  have hn := Ch.secs_le hval
  have hdy := Ch.days_le hval
  obtain ⟨i, hi⟩ : ∃ i : Nat, (i : Int) = n0 % b.secs.length := ⟨_, Int.toNat_of_nonneg (Int.emod_nonneg _ (by omega))⟩
  obtain ⟨d, hd⟩ : ∃ d : Nat, (d : Int) = n1 % (b.days + 1) := ⟨_, Int.toNat_of_nonneg (Int.emod_nonneg _ (by omega))⟩
  have hi1 : i < b.secs.length := by have := Int.emod_lt_of_pos n0 (show (0 : Int) < b.secs.length by omega); omega
  have hd1 : (d : Int) ≤ b.days := by have := Int.emod_lt_of_pos n1 (show (0 : Int) < b.days + 1 by omega); omega
  have hpr : (Ch.isSection b i && Ch.isDay b d) = true := by simp only [Ch.isSection, Ch.isDay, Bool.and_eq_true, decide_eq_true_eq]; exact ⟨⟨Int.natCast_nonneg _, Int.ofNat_lt.2 hi1⟩, Int.natCast_nonneg _, hd1⟩
  have hsv : ∀ r : Int, 0 ≤ r → r ≤ 200 → Ch.isSurvey b ⟨i, d, r, 0⟩ = true := fun r h1 h2 => by
    rw [Bool.and_eq_true] at hpr
    simp only [Ch.isSurvey, Ch.between, hpr.1, hpr.2, Bool.true_and, Bool.and_eq_true, decide_eq_true_eq]
    exact ⟨⟨h1, h2⟩, by omega, by omega⟩
  have HRB := Lib.hid (show ∀ W', Below w.heap.size w W' → RB W' W'.heap.size b (.slice A0 b.secs.length k0) (.slice A1 b.turns.length k1) (.slice A2 b.svs.length k2) from fun W' h => (hb.below h (Nat.le_refl _)).more h.size)
  clear hb hck
  have hd1w : IntKind.i64.wrap (b.days + 1) = b.days + 1 := IntWalk.i64_in _ (by omega)
  have HVAL := Lib.hid hval
  have HPR := Lib.hid hpr
  have HSV := Lib.hid hsv
  clear hval hpr hsv
  have qB0 := cell_of_row w1 _ 0 _ _ _ rB
  have qB4 := cell_of_row w1 _ 4 _ _ _ rB
  simp only [List.getElem?_toArray, List.getElem?_cons_zero, List.getElem?_cons_succ] at qB0 qB4
  have qN0 := cell_of_row w1 _ 0 _ _ _ rN
  have qN1 := cell_of_row w1 _ 1 _ _ _ rN
  simp only [List.getElem?_toArray, List.getElem?_cons_zero, List.getElem?_cons_succ] at qN0 qN1
  go_wp2_with fail
  go_region_held3 (fun w' => Held w1 w') (first | assumption | exact held_start _ | exact held_step (by assumption) (by assumption) | exact held_step (by assumption) (held_start _) | go_keep)
    (first | (go_at_call 27; refine (mod_any _ _ (by omega) (by omega) _).mono ?_; rintro e w2 ⟨rfl, hB2⟩))
  have hHE : Held w1 w2 := by assumption
  rw [← hi, ← hd]
  obtain ⟨u, hu⟩ : ∃ u : World, u = w2 := ⟨_, rfl⟩
  rw [← hu] at hHE ⊢
  clear hu hB2
  have hBu := hHE.2.2
  replace rB := (hBu.block _ lB).trans rB
  replace lB := Nat.lt_of_lt_of_le lB hBu.size
  have hbu := hb1.trans (hBu.mono hb1.size)
  clear qB0 qB4 qN0 qN1 rN lN hHE hBu hb1 hi hd hd1w
  have qB0 := cell_of_row u _ 0 _ _ _ rB
  have qB1 := cell_of_row u _ 1 _ _ _ rB
  have qB2 := cell_of_row u _ 2 _ _ _ rB
  have qB3 := cell_of_row u _ 3 _ _ _ rB
  have qB4 := cell_of_row u _ 4 _ _ _ rB
  simp only [List.getElem?_toArray, List.getElem?_cons_zero, List.getElem?_cons_succ] at qB0 qB1 qB2 qB3 qB4
  go_wp2_with fail
  clear qB0 qB1 qB2 qB3 qB4
  refine (Thick_any b _ _ _ i d _ (HRB.out _ hbu)).mono ?_
  rintro e w3 ⟨rfl, hB3⟩
  replace rB := (hB3.block _ lB).trans rB
  replace lB := Nat.lt_of_lt_of_le lB hB3.size
  have hb3 := hbu.trans (hB3.mono hbu.size)
  clear hB3 hbu
  have HT := Lib.hid (rfl : Ch.thickSp b i d = Ch.thickSp b i d)
  clear HT
  by_cases ht : Ch.truths b = []
  · have hE : ∀ p, p = true → Ch.studyE b p = 12 := fun p hp => by simp [Ch.studyE, HVAL.out, hp, ht]
    have hTs : Ch.thickSp b i d = ⟨0, 0⟩ := by rw [Ch.thickSp, hE _ HPR.out, if_neg (by omega)]
    have hFe := hE _ (HSV.out 0 (by omega) (by omega))
    rw [hTs, hE _ HPR.out]
    clear hE hTs ht
    have qB0 := cell_of_row w3 _ 0 _ _ _ rB
    have qB1 := cell_of_row w3 _ 1 _ _ _ rB
    have qB2 := cell_of_row w3 _ 2 _ _ _ rB
    have qB3 := cell_of_row w3 _ 3 _ _ _ rB
    have qB4 := cell_of_row w3 _ 4 _ _ _ rB
    simp only [List.getElem?_toArray, List.getElem?_cons_zero, List.getElem?_cons_succ] at qB0 qB1 qB2 qB3 qB4
    go_wp2_with fail
    clear qB0 qB1 qB2 qB3 qB4
    refine name_world ?_
    intro W hW
    have hA0 : Below w3.heap.size w3 W := by rw [hW]; exact (Below.refl _ _).alloc (Nat.le_refl _) _
    have rS : W.heap[w3.heap.size]? = some (.cells #[I 0, I 0] 51 (0, 0)) := by rw [hW]; exact heap_at _ _ rfl
    have lS : w3.heap.size < W.heap.size := by rw [hW]; simp
    replace rB := (hA0.block _ lB).trans rB
    replace lB := Nat.lt_of_lt_of_le lB hA0.size
    have hbW := hb3.trans (hA0.mono hb3.size)
    clear hW hA0 hb3
    have HB := Lib.hid (show ∀ w', Held W w' → Below w.heap.size w w' from fun w' h => hbW.trans (h.2.2.mono hbW.size))
    have qB0 := cell_of_row W _ 0 _ _ _ rB
    have qB1 := cell_of_row W _ 1 _ _ _ rB
    have qB2 := cell_of_row W _ 2 _ _ _ rB
    have qB3 := cell_of_row W _ 3 _ _ _ rB
    have qB4 := cell_of_row W _ 4 _ _ _ rB
    simp only [List.getElem?_toArray, List.getElem?_cons_zero, List.getElem?_cons_succ] at qB0 qB1 qB2 qB3 qB4
    obtain ⟨F, hF⟩ : ∃ F : Bool, F = Ch.fitsR b ⟨i, d, 0, 0⟩ := ⟨_, rfl⟩
    have HFIT := Lib.hid (show ∀ w', Held W w' → Calls Tryz.prog 35 #[vBk (.slice A0 b.secs.length k0) (.slice A1 b.turns.length k1) (.slice A2 b.svs.length k2) b.rule b.days, vSv ⟨i, d, 0, 0⟩] w' fun e w1 => e = .returned (.tuple #[.bool F, I 12]) ∧ Below w'.heap.size w' w1 from fun w' h => by
      have h1 := Fits_any b _ _ _ ⟨i, d, 0, 0⟩ w' (HRB.out _ (HB.out _ h))
      rw [← hF, hFe] at h1
      exact h1)
    clear hF hFe
    go_region_held3 (fun w' => Held W w') (first | assumption | exact held_start _ | exact held_step (by assumption) (by assumption) | exact held_step (by assumption) (held_start _) | go_keep)
      (first | (go_at_call 36; refine (survey_any _ _ _ _ _).mono ?_; rintro e w4 ⟨rfl, hB4⟩)
             | (go_at_call 35; refine (HFIT.out _ (by first | assumption | exact held_step (by assumption) (by assumption) | exact held_step (by assumption) (held_start _))).mono ?_; rintro e w4 ⟨rfl, hB4⟩))
    have hHE : Held W w4 := by assumption
    obtain ⟨u4, hu⟩ : ∃ u : World, u = w4 := ⟨_, rfl⟩
    rw [← hu] at hHE ⊢
    clear hu hB4
    have hBu := hHE.2.2
    replace rS := (hBu.block _ lS).trans rS
    replace lS := Nat.lt_of_lt_of_le lS hBu.size
    have hbu := hbW.trans (hBu.mono hbW.size)
    clear hHE hBu hbW HB HFIT HRB rB lB qB0 qB1 qB2 qB3 qB4
    have HB := Lib.hid (show ∀ w', Held u4 w' → Below w.heap.size w w' from fun w' h => hbu.trans (h.2.2.mono hbu.size))
    clear hbu
    have qS0 := cell_of_row u4 _ 0 _ _ _ rS
    have qS1 := cell_of_row u4 _ 1 _ _ _ rS
    simp only [List.getElem?_toArray, List.getElem?_cons_zero, List.getElem?_cons_succ] at qS0 qS1
    go_wp2_with fail
    go_region_held3 (fun w' => Held u4 w') (first | assumption | exact held_start _ | exact held_step (by assumption) (by assumption) | exact held_step (by assumption) (held_start _) | go_keep)
      (first | (go_at_call 37; refine (point_any _ _).mono ?_; rintro e w5 ⟨rfl, hB5⟩)
             | (go_at_call 18; refine (forged_any _).mono ?_; rintro e w5 ⟨rfl, hB5⟩))
    have hb5 : Below w.heap.size w w5 := HB.out _ (by assumption)
    have HB5 := Lib.hid hb5
    clear hb5 hB5
    go_wp2_with fail
    go_ret
    exact ⟨rfl, HB5.out⟩
  · have hE : ∀ p, p = true → Ch.studyE b p = 0 := fun p hp => Ch.studyE_ok HVAL.out hp ht
    obtain ⟨⟨lo, hh⟩, hTs⟩ : ∃ s : Ch.Sp, Ch.thickSp b i d = s := ⟨_, rfl⟩
    obtain ⟨g1, g2, g3, g4, g5, g6, g7⟩ := Ch.ends_fits HVAL.out ht hi1 hd1 hTs
    have HE := Lib.hid hE
    rw [hTs, hE _ HPR.out]
    clear hE hTs
    have qB0 := cell_of_row w3 _ 0 _ _ _ rB
    have qB1 := cell_of_row w3 _ 1 _ _ _ rB
    have qB2 := cell_of_row w3 _ 2 _ _ _ rB
    have qB3 := cell_of_row w3 _ 3 _ _ _ rB
    have qB4 := cell_of_row w3 _ 4 _ _ _ rB
    simp only [List.getElem?_toArray, List.getElem?_cons_zero, List.getElem?_cons_succ] at qB0 qB1 qB2 qB3 qB4
    have m1 : IntKind.i64.wrap (lo - 1) = lo - 1 := IntWalk.i64_in _ (by omega)
    have m2 : IntKind.i64.wrap (hh + 1) = hh + 1 := IntWalk.i64_in _ (by omega)
    have H4 := Lib.hid g4
    have H5 := Lib.hid g5
    have H6 := Lib.hid g6
    have H7 := Lib.hid g7
    clear g4 g5 g6 g7
    go_wp2_with fail
    refine name_world ?_
    intro W hW
    have hA0 : Below w3.heap.size w3 W := by rw [hW]; exact ((Below.refl _ _).alloc (Nat.le_refl _) _).alloc (by simp) _
    have rR : W.heap[w3.heap.size + 1]? = some (.cells #[I lo, I hh, I (lo - 1), I (hh + 1)] 3 (0, 0)) := by rw [hW]; exact heap_at _ _ (by simp)
    have lR : w3.heap.size + 1 < W.heap.size := by rw [hW]; simp
    clear qB0 qB1 qB2 qB3 qB4
    replace rB := (hA0.block _ lB).trans rB
    replace lB := Nat.lt_of_lt_of_le lB hA0.size
    have hbW := hb3.trans (hA0.mono hb3.size)
    clear hW hA0 hb3 m1 m2
    have hfit : ∀ (r : Int) (B : Bool), 0 ≤ r → r ≤ 200 → (Ch.truths b).any (Ch.fitsIn b ⟨i, d, r, 0⟩) = B → ∀ w', Below w.heap.size w w' → Calls Tryz.prog 35 #[vBk (.slice A0 b.secs.length k0) (.slice A1 b.turns.length k1) (.slice A2 b.svs.length k2) b.rule b.days, vSv ⟨i, d, r, 0⟩] w' fun e w1 => e = .returned (.tuple #[.bool B, I 0]) ∧ Below w'.heap.size w' w1 := by
      intro r B r0 r1 hB w' h
      have h1 := Fits_any b _ _ _ ⟨i, d, r, 0⟩ w' (HRB.out _ h)
      have h2 := HE.out _ (HSV.out r r0 r1)
      rw [Ch.fitsR, if_pos h2, h2, hB] at h1
      exact h1
    have hk4 : ∀ k : Nat, k < 4 → ∃ r, #[I lo, I hh, I (lo - 1), I (hh + 1)][k]? = some (I r) ∧ ((Ch.between r 0 200 = false ∧ ¬ (k : Int) < 2) ∨ (Ch.between r 0 200 = true ∧ ∀ w', Below w.heap.size w w' → Calls Tryz.prog 35 #[vBk (.slice A0 b.secs.length k0) (.slice A1 b.turns.length k1) (.slice A2 b.svs.length k2) b.rule b.days, vSv ⟨i, d, r, 0⟩] w' fun e w1 => e = .returned (.tuple #[.bool (decide ((k : Int) < 2)), I 0]) ∧ Below w'.heap.size w' w1)) := by
      intro k hk
      match k, hk with
      | 0, _ => exact ⟨lo, rfl, .inr ⟨by simp [Ch.between]; omega, hfit lo _ (by omega) (by omega) H4.out⟩⟩
      | 1, _ => exact ⟨hh, rfl, .inr ⟨by simp [Ch.between]; omega, hfit hh _ (by omega) (by omega) H5.out⟩⟩
      | 2, _ =>
        by_cases h0 : 0 ≤ lo - 1
        · exact ⟨lo - 1, rfl, .inr ⟨by simp [Ch.between]; omega, hfit (lo - 1) _ (by omega) (by omega) H6.out⟩⟩
        · exact ⟨lo - 1, rfl, .inl ⟨by simp [Ch.between]; omega, by omega⟩⟩
      | 3, _ =>
        by_cases h0 : hh + 1 ≤ 200
        · exact ⟨hh + 1, rfl, .inr ⟨by simp [Ch.between]; omega, hfit (hh + 1) _ (by omega) (by omega) H7.out⟩⟩
        · exact ⟨hh + 1, rfl, .inl ⟨by simp [Ch.between]; omega, by omega⟩⟩
    have HK4 := Lib.hid hk4
    have HBW := Lib.hid hbW
    have RR := Lib.hid rR
    have RB := Lib.hid rB
    clear hfit hk4 hbW rR rB H4 H5 H6 H7 HE HSV HPR HVAL HRB ht
    go_loopw [12] (fun x wr => ∃ k : Nat, k ≤ 4 ∧ x = I k ∧ Below W.heap.size W wr) (fun x _ => 4 - (intOf x).toNat)
    case atStart => exact ⟨0, by omega, rfl, Below.refl _ _⟩
    case round =>
      obtain ⟨k, hk, rfl, hBr⟩ := hrel
      have hbr := HBW.out.trans (hBr.mono HBW.out.size)
      have hlR := Nat.lt_of_lt_of_le lR hBr.size
      have hlB := Nat.lt_of_lt_of_le lB hBr.size
      have rR := (hBr.block _ lR).trans RR.out
      have rB := (hBr.block _ lB).trans RB.out
      have HBR := Lib.hid hBr
      have HbR := Lib.hid hbr
      clear hBr hbr
      by_cases hlt : k < 4
      · have hlti : (k : Int) < 4 := by omega
        obtain ⟨r, hr, hcase⟩ := HK4.out k hlt
        have qR := (cell_of_row wr _ k _ _ _ rR).trans hr
        have HC := Lib.hid hcase
        have HR := Lib.hid hr
        have R1 := Lib.hid rR
        have R2 := Lib.hid rB
        clear hr hcase rR rB
        go_wp2_with fail
        refine (in_any _ _ _ _).mono ?_
        rintro e u1 ⟨rfl, hU1⟩
        have hb1' := HbR.out.trans (hU1.mono HbR.out.size)
        have hB1' := HBR.out.trans (hU1.mono HBR.out.size)
        rcases HC.out with ⟨c1, c2⟩ | ⟨c1, c2⟩
        · rw [c1]
          clear hU1 qR c1
          go_wp2_with fail
          go_roundw
          case rel => exact ⟨k + 1, by omega, by go_num, hB1'⟩
          case measure => simp [intOf]; omega
        · rw [c1]
          have hlRu := Nat.lt_of_lt_of_le hlR hU1.size
          have hlBu := Nat.lt_of_lt_of_le hlB hU1.size
          have rR := (hU1.block _ hlR).trans R1.out
          have rB := (hU1.block _ hlB).trans R2.out
          have qR := (cell_of_row u1 _ k _ _ _ rR).trans HR.out
          have HFIT := Lib.hid (show ∀ w', Held u1 w' → Calls Tryz.prog 35 #[vBk (.slice A0 b.secs.length k0) (.slice A1 b.turns.length k1) (.slice A2 b.svs.length k2) b.rule b.days, vSv ⟨i, d, r, 0⟩] w' fun e w1 => e = .returned (.tuple #[.bool (decide ((k : Int) < 2)), I 0]) ∧ Below w'.heap.size w' w1 from fun w' h => c2 w' (hb1'.trans (h.2.2.mono hb1'.size)))
          have HB1 := Lib.hid hB1'
          have qB0 := cell_of_row u1 _ 0 _ _ _ rB
          have qB1 := cell_of_row u1 _ 1 _ _ _ rB
          have qB2 := cell_of_row u1 _ 2 _ _ _ rB
          have qB3 := cell_of_row u1 _ 3 _ _ _ rB
          have qB4 := cell_of_row u1 _ 4 _ _ _ rB
          simp only [List.getElem?_toArray, List.getElem?_cons_zero, List.getElem?_cons_succ] at qB0 qB1 qB2 qB3 qB4
          clear hU1 c1 c2 HC rB rR hb1' hB1'
          go_wp2_with fail
          go_region_held3 (fun w' => Held u1 w') (first | assumption | exact held_start _ | exact held_step (by assumption) (by assumption) | exact held_step (by assumption) (held_start _) | go_keep)
            (first | (go_at_call 36; refine (survey_any _ _ _ _ _).mono ?_; rintro e w4 ⟨rfl, hB4⟩)
                   | (go_at_call 35; refine (HFIT.out _ (by first | assumption | exact held_step (by assumption) (by assumption) | exact held_step (by assumption) (held_start _))).mono ?_; rintro e w4 ⟨rfl, hB4⟩))
          have hHE : Held u1 w4 := by assumption
          have hB5 := HB1.out.trans (hHE.2.2.mono HB1.out.size)
          by_cases h2 : (k : Int) < 2
          · have hd2 : decide ((k : Int) < 2) = true := decide_eq_true h2
            rw [hd2]
            clear HFIT hHE hB4 hd2 qR qB0 qB1 qB2 qB3 qB4
            go_wp2_with fail
            go_roundw
            case rel => exact ⟨k + 1, by omega, by go_num, hB5⟩
            case measure => simp [intOf]; omega
          · have hd2 : decide ((k : Int) < 2) = false := decide_eq_false h2
            rw [hd2]
            clear HFIT hHE hB4 hd2 qR qB0 qB1 qB2 qB3 qB4
            go_wp2_with fail
            go_roundw
            case rel => exact ⟨k + 1, by omega, by go_num, hB5⟩
            case measure => simp [intOf]; omega
      · obtain rfl : k = 4 := by omega
        clear rR rB HK4
        go_wp2_with fail
        refine (forged_any _).mono ?_
        rintro e w7 ⟨rfl, hB7⟩
        have HB7 := Lib.hid (HbR.out.trans (hB7.mono HbR.out.size))
        clear hB7
        go_wp2_with fail
        go_ret
        exact ⟨rfl, HB7.out⟩

end Go.Proofs.YtkfahochpnggbaaGreat
