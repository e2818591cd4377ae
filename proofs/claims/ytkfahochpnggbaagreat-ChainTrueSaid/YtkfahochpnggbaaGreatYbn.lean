/- Texts on the program that the proof leans on, part 40. -/
import Derived.Test.YtkfahochpnggbaaGreatYbk
import Derived.Test.YtkfahochpnggbaaGreatYbl
import Derived.Test.YtkfahochpnggbaaGreatYbm
import Derived.Test.YtkfahochpnggbaaGreatYbi
set_option linter.unusedVariables false
set_option linter.unusedSimpArgs false

/- Contract of the statement's own examples: forged returns true. -/
namespace Go.Proofs.YtkfahochpnggbaaGreat
open Go.RowKit

theorem alike_same (l : List Int) (v u : Value) (w : World) (hv : Sl w w.heap.size 1 v l.length (l.map I)) (hu : Sl w w.heap.size 1 u l.length (l.map I)) :
    Calls Tryz.prog 43 #[v, u] w fun e w' => e = .returned (.bool true) ∧ Below w.heap.size w w' :=
  (alike_any l l v u w hv hu).mono fun e w' h => ⟨by rw [h.1]; simp, h.2⟩

set_option maxRecDepth 100000 in
set_option maxHeartbeats 4000000 in
theorem forged_any (w : World) :
    Calls Tryz.prog 18 #[] w fun e w' => e = .returned (.bool true) ∧ Below w.heap.size w w' := by
  go_enter Tryz.func18, Tryz.ntmps18
  go_wp2_with fail
  refine (own_book _).mono ?_
  rintro e w1 ⟨⟨S, T, V, rfl, hRB, -, -, -⟩, hB1⟩
  obtain ⟨B10, m10, rfl⟩ := hRB.secs.form
  obtain ⟨B11, m11, rfl⟩ := hRB.turns.form
  obtain ⟨B12, m12, rfl⟩ := hRB.svs.form
  go_wp2_with fail
  refine (Thick_any Ch.ownB _ _ _ 0 12 _ hRB).mono ?_
  rintro e w2 ⟨rfl, hB2⟩
  rw [Ch.f_thick_own, Ch.f_thick_own_e]
  have hb := hB1.trans (hB2.mono hB1.size)
  have hbX := hb.alloc hb.size (.cells #[.int .i64 22, .int .i64 36] 51)
  have hp1 := heap_at w2 (.cells #[.int .i64 22, .int .i64 36] 51) rfl
  have hl1 : w2.heap.size < (w2.alloc (.cells #[.int .i64 22, .int .i64 36] 51)).heap.size := by simp
  clear hRB hB1 hB2 hb
  go_wp2_with fail
  refine (surveyed_book _).mono ?_
  rintro e w3 ⟨⟨S, T, V, rfl, hRB, -, -, -⟩, hB1⟩
  obtain ⟨B30, m30, rfl⟩ := hRB.secs.form
  obtain ⟨B31, m31, rfl⟩ := hRB.turns.form
  obtain ⟨B32, m32, rfl⟩ := hRB.svs.form
  go_wp2_with fail
  refine (Thick_any Ch.surveyedB _ _ _ 1 12 _ hRB).mono ?_
  rintro e w4 ⟨rfl, hB2⟩
  rw [Ch.f_thick_sur, Ch.f_thick_sur_e]
  have hbs := hB1.trans (hB2.mono hB1.size)
  have hbs := hbs.alloc hbs.size (.cells #[.int .i64 26, .int .i64 33] 51)
  replace hp1 := (hbs.block _ hl1).trans hp1
  replace hl1 := Nat.lt_of_lt_of_le hl1 hbs.size
  have hbX := hbX.trans (hbs.mono hbX.size)
  have hp2 := heap_at w4 (.cells #[.int .i64 26, .int .i64 33] 51) rfl
  have hl2 : w4.heap.size < (w4.alloc (.cells #[.int .i64 26, .int .i64 33] 51)).heap.size := by simp
  clear hRB hB1 hB2 hbs
  go_wp2_with fail
  refine (surveyed_book _).mono ?_
  rintro e w5 ⟨⟨S, T, V, rfl, hRB, -, -, -⟩, hB1⟩
  obtain ⟨B50, m50, rfl⟩ := hRB.secs.form
  obtain ⟨B51, m51, rfl⟩ := hRB.turns.form
  obtain ⟨B52, m52, rfl⟩ := hRB.svs.form
  go_wp2_with fail
  refine (Wear_any Ch.surveyedB _ _ _ 0 _ hRB).mono ?_
  rintro e w6 ⟨rfl, hB2⟩
  rw [Ch.f_wear, Ch.f_wear_e]
  have hbs := hB1.trans (hB2.mono hB1.size)
  have hbs := hbs.alloc hbs.size (.cells #[.int .i64 1, .int .i64 1] 51)
  replace hp1 := (hbs.block _ hl1).trans hp1
  replace hl1 := Nat.lt_of_lt_of_le hl1 hbs.size
  replace hp2 := (hbs.block _ hl2).trans hp2
  replace hl2 := Nat.lt_of_lt_of_le hl2 hbs.size
  have hbX := hbX.trans (hbs.mono hbX.size)
  have hp3 := heap_at w6 (.cells #[.int .i64 1, .int .i64 1] 51) rfl
  have hl3 : w6.heap.size < (w6.alloc (.cells #[.int .i64 1, .int .i64 1] 51)).heap.size := by simp
  clear hRB hB1 hB2 hbs
  go_wp2_with fail
  refine (own_book _).mono ?_
  rintro e w7 ⟨⟨S, T, V, rfl, hRB, -, -, -⟩, hB1⟩
  obtain ⟨B70, m70, rfl⟩ := hRB.secs.form
  obtain ⟨B71, m71, rfl⟩ := hRB.turns.form
  obtain ⟨B72, m72, rfl⟩ := hRB.svs.form
  go_wp2_with fail
  refine (Thin_any Ch.ownB _ _ _ 1 _ hRB).mono ?_
  rintro e w8 ⟨rfl, hB2⟩
  rw [Ch.f_thin]
  have hbs := hB1.trans (hB2.mono hB1.size)
  replace hp1 := (hbs.block _ hl1).trans hp1
  replace hl1 := Nat.lt_of_lt_of_le hl1 hbs.size
  replace hp2 := (hbs.block _ hl2).trans hp2
  replace hl2 := Nat.lt_of_lt_of_le hl2 hbs.size
  replace hp3 := (hbs.block _ hl3).trans hp3
  replace hl3 := Nat.lt_of_lt_of_le hl3 hbs.size
  have hbX := hbX.trans (hbs.mono hbX.size)
  clear hRB hB1 hB2 hbs
  go_wp2_with fail
  refine (own_book _).mono ?_
  rintro e w9 ⟨⟨S, T, V, rfl, hRB, -, -, -⟩, hB1⟩
  obtain ⟨B90, m90, rfl⟩ := hRB.secs.form
  obtain ⟨B91, m91, rfl⟩ := hRB.turns.form
  obtain ⟨B92, m92, rfl⟩ := hRB.svs.form
  go_wp2_with fail
  refine (Cut_any Ch.ownB _ _ _ 8 _ hRB).mono ?_
  rintro e w10 ⟨⟨v, rfl, hv⟩, hB2⟩
  rw [Ch.f_cut] at hv
  rw [Ch.f_cut_e]
  have hbs := hB1.trans (hB2.mono hB1.size)
  replace hp1 := (hbs.block _ hl1).trans hp1
  replace hl1 := Nat.lt_of_lt_of_le hl1 hbs.size
  replace hp2 := (hbs.block _ hl2).trans hp2
  replace hl2 := Nat.lt_of_lt_of_le hl2 hbs.size
  replace hp3 := (hbs.block _ hl3).trans hp3
  replace hl3 := Nat.lt_of_lt_of_le hl3 hbs.size
  have hbX := hbX.trans (hbs.mono hbX.size)
  clear hRB hB1 hB2 hbs
  obtain ⟨vA, vc, rfl⟩ := hv.form
  have HV := Lib.hid (show ∀ w', Held w10 w' → Sl w' w'.heap.size 1 (.slice vA [0, 1].length vc) [0, 1].length ([0, 1].map I) from fun w' h => (hv.below h.2.2 (Nat.le_refl _)).more h.2.2.size)
  have c1 := cell_of_row w10 _ 0 _ _ _ hp1
  have d1 := cell_of_row w10 _ 1 _ _ _ hp1
  have c2 := cell_of_row w10 _ 0 _ _ _ hp2
  have d2 := cell_of_row w10 _ 1 _ _ _ hp2
  have c3 := cell_of_row w10 _ 0 _ _ _ hp3
  have d3 := cell_of_row w10 _ 1 _ _ _ hp3
  simp only [List.getElem?_toArray, List.getElem?_cons_zero, List.getElem?_cons_succ] at c1 d1 c2 d2 c3 d3
  have HBX := Lib.hid hbX
  clear hp1 hp2 hp3 hv hbX
  go_wp2_with fail
  go_region_held3 (fun w' => Held w10 w') (first | assumption | exact held_start _ | exact held_step (by assumption) (by assumption) | exact held_step (by assumption) (held_start _) | exact held_alloc (by assumption) _ | go_keep)
    (first | (go_at_call 49; refine (range_any _ _ _).mono ?_; rintro e w1 ⟨rfl, hB1⟩)
           | (go_at_call 37; refine (point_any _ _).mono ?_; rintro e w1 ⟨rfl, hB1⟩)
           | (go_at_call 43; refine (alike_same [0, 1] _ _ _ (HV.out _ (by first | assumption | exact held_alloc (by assumption) _)) (sl_new (by rfl) (by decide) (by simp) (heap_at _ _ rfl))).mono ?_; rintro e w1 ⟨rfl, hB1⟩))
  rename_i hHE
  have hbX := HBX.out.trans (hHE.2.2.mono HBX.out.size)
  obtain ⟨u, hu⟩ : ∃ u : World, u = w1 := ⟨_, rfl⟩
  rw [← hu]
  rw [← hu] at hbX
  clear hu hHE HBX HV c1 d1 c2 d2 c3 d3 hl1 hl2 hl3 hB1
  go_wp2_with fail
  refine (surveyed_book _).mono ?_
  rintro e w11 ⟨⟨S, T, V, rfl, hRB, -, -, -⟩, hB1⟩
  obtain ⟨B110, m110, rfl⟩ := hRB.secs.form
  obtain ⟨B111, m111, rfl⟩ := hRB.turns.form
  obtain ⟨B112, m112, rfl⟩ := hRB.svs.form
  go_wp2_with fail
  refine (survey_any 1 6 39 0 _).mono ?_
  rintro e w12 ⟨rfl, hB2⟩
  go_wp2_with fail
  refine (Fits_any Ch.surveyedB _ _ _ ⟨1, 6, 39, 0⟩ _ ((hRB.below hB2 (Nat.le_refl _)).more hB2.size)).mono ?_
  rintro e w13 ⟨rfl, hB3⟩
  rw [Ch.f_fits, Ch.f_fits_e]
  have hbs := (hB1.trans (hB2.mono hB1.size)).trans (hB3.mono (Nat.le_trans hB1.size hB2.size))
  have hbX := hbX.trans (hbs.mono hbX.size)
  clear hRB hB1 hB2 hB3 hbs
  go_wp2_with fail
  refine (straight_book _).mono ?_
  rintro e w14 ⟨⟨S, T, V, rfl, hRB, -, -, -⟩, hB1⟩
  obtain ⟨B140, m140, rfl⟩ := hRB.secs.form
  obtain ⟨B141, m141, rfl⟩ := hRB.turns.form
  obtain ⟨B142, m142, rfl⟩ := hRB.svs.form
  go_wp2_with fail
  refine (Turn_any Ch.straightB _ _ _ _ hRB).mono ?_
  rintro e w15 ⟨rfl, hB2⟩
  rw [Ch.f_turn]
  have hbs := hB1.trans (hB2.mono hB1.size)
  have hbX := hbX.trans (hbs.mono hbX.size)
  clear hRB hB1 hB2 hbs
  go_wp2_with fail
  refine (torn_book _).mono ?_
  rintro e w16 ⟨⟨S, T, V, rfl, hRB, -, -, -⟩, hB1⟩
  obtain ⟨B160, m160, rfl⟩ := hRB.secs.form
  obtain ⟨B161, m161, rfl⟩ := hRB.turns.form
  obtain ⟨B162, m162, rfl⟩ := hRB.svs.form
  go_wp2_with fail
  refine (Wrong_any Ch.tornB _ _ _ _ hRB).mono ?_
  rintro e w17 ⟨⟨v, rfl, hv⟩, hB2⟩
  rw [Ch.f_wrong] at hv
  rw [Ch.f_wrong_e]
  have hbs := hB1.trans (hB2.mono hB1.size)
  have hbX := hbX.trans (hbs.mono hbX.size)
  clear hRB hB1 hB2 hbs
  obtain ⟨vA2, vc2, rfl⟩ := hv.form
  go_wp2_with fail
  refine (surveyed_book _).mono ?_
  rintro e w18 ⟨⟨S, T, V, rfl, hRB, -, -, -⟩, hB1⟩
  obtain ⟨B180, m180, rfl⟩ := hRB.secs.form
  obtain ⟨B181, m181, rfl⟩ := hRB.turns.form
  obtain ⟨B182, m182, rfl⟩ := hRB.svs.form
  go_wp2_with fail
  refine (Right_any Ch.surveyedB _ _ _ _ hRB).mono ?_
  rintro e w19 ⟨rfl, hB2⟩
  rw [Ch.f_right, Ch.f_right_e]
  have hbs := hB1.trans (hB2.mono hB1.size)
  have hbX := hbX.trans (hbs.mono hbX.size)
  replace hv := (hv.below hbs (Nat.le_refl _)).more hbs.size
  clear hRB hB1 hB2 hbs
  go_wp2_with fail
  refine (own_book _).mono ?_
  rintro e w20 ⟨⟨S, T, V, rfl, hRB, -, -, -⟩, hB1⟩
  obtain ⟨B200, m200, rfl⟩ := hRB.secs.form
  obtain ⟨B201, m201, rfl⟩ := hRB.turns.form
  obtain ⟨B202, m202, rfl⟩ := hRB.svs.form
  go_wp2_with fail
  refine (Gone_any Ch.ownB _ _ _ 0 _ hRB).mono ?_
  rintro e w21 ⟨rfl, hB2⟩
  rw [Ch.f_gone]
  have hbs := hB1.trans (hB2.mono hB1.size)
  have hbX := hbX.trans (hbs.mono hbX.size)
  replace hv := (hv.below hbs (Nat.le_refl _)).more hbs.size
  clear hRB hB1 hB2 hbs
  have hba : Below w21.heap.size w21 (w21.alloc (.cells #[.int .i64 1] 3)) := (Below.refl _ _).alloc (Nat.le_refl _) _
  have hv2 := (hv.below hba (Nat.le_refl _)).more hba.size
  have hbX := hbX.trans (hba.mono hbX.size)
  go_wp2_with fail
  refine (alike_same [1] _ _ _ hv2 (sl_new (by rfl) (by decide) (by simp) (heap_at _ _ rfl))).mono ?_
  rintro e w22 ⟨rfl, hB1⟩
  have hbX := hbX.trans (hB1.mono hbX.size)
  have HBX := Lib.hid hbX
  clear hv hv2 hbX hba hB1
  go_wp2_with fail
  go_ret
  exact ⟨rfl, HBX.out⟩

end Go.Proofs.YtkfahochpnggbaaGreat
