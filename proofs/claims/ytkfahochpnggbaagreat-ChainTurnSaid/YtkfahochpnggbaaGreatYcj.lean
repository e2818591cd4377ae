/- Texts on the program that the proof leans on, part 62. -/
import Derived.Test.YtkfahochpnggbaaGreatYbn
import Derived.Test.YtkfahochpnggbaaGreatYbo
import Derived.Test.YtkfahochpnggbaaGreatYci
set_option linter.unusedVariables false
set_option linter.unusedSimpArgs false

/- Contract of ChainTurn: it returns true, whatever the book and the number. -/
namespace Go.Proofs.YtkfahochpnggbaaGreat
open Go.RowKit

theorem Ch.from_days {b : Ch.Bk} (h : Ch.valid b = true) : 1 ≤ Ch.fromOf b.svs ∧ Ch.fromOf b.svs ≤ b.days := by
  have hd := Ch.days_le h
  simp only [Ch.valid, Bool.and_eq_true] at h
  have h5 := List.all_eq_true.1 h.2
  refine ⟨((Ch.fromOf_le b.svs (Ch.fromOf b.svs)).1 (Int.le_refl _)).1, (Ch.fromOf_le b.svs b.days).2 ⟨hd.1, fun x hx => ?_⟩⟩
  have := h5 x hx
  simp only [Ch.isSurvey, Ch.isDay, Bool.and_eq_true, decide_eq_true_eq] at this
  exact this.1.1.2.2
theorem Ch.turn_law {b : Ch.Bk} (h : Ch.valid b = true) (hl : b.turns.length < 4) (hne : Ch.truths b ≠ []) (day : Int) (h1 : Ch.fromOf b.svs ≤ day) (h2 : day ≤ b.days) (h3 : day ∉ b.turns) :
    Ch.valid (Ch.turnB b day) = true ∧ Ch.lawSoon (Ch.turnB b day) = Ch.lateS b day := by
  obtain ⟨g1, g2⟩ := (Ch.fromOf_le b.svs day).1 h1
  obtain ⟨a1, a2, a3⟩ := Ch.turn_book h hl g1 h2 h3 g2
  exact ⟨a1, by rw [Ch.lawSoon, a2, if_neg hne, a3]⟩
theorem Ch.lateS_pos {b : Ch.Bk} (h : Ch.valid b = true) (day : Int) : 0 ≤ Ch.lateS b day := by
  have hd := Ch.days_le h
  exact (Ch.firsts_bd (Ch.withTurns b (b.turns ++ [day])) (Ch.truths b) _ (show 0 ≤ b.days by omega)).1

set_option maxRecDepth 100000 in
set_option maxHeartbeats 8000000 in
theorem ChainTurn_any (b : Ch.Bk) (S T V : Value) (n : Int) (w : World) (hb : RB w w.heap.size b S T V) :
    Calls Tryz.prog 11 #[vBk S T V b.rule b.days, I n] w fun e w' => e = .returned (.bool true) ∧ Below w.heap.size w w' := by
  obtain ⟨A0, k0, rfl⟩ := hb.secs.form
  obtain ⟨A1, k1, rfl⟩ := hb.turns.form
  obtain ⟨A2, k2, rfl⟩ := hb.svs.form
  have HRB := Lib.hid (show ∀ W', Below w.heap.size w W' → RB W' W'.heap.size b (.slice A0 b.secs.length k0) (.slice A1 b.turns.length k1) (.slice A2 b.svs.length k2) from fun W' h => (hb.below h (Nat.le_refl _)).more h.size)
  have HSV := Lib.hid (show ∀ W', Below w.heap.size w W' → Sl W' w.heap.size 4 (.slice A2 b.svs.length k2) b.svs.length (b.svs.flatMap cSv) from fun W' h => (hb.below h (Nat.le_refl _)).svs)
  have FORGE := Lib.hid (show ∀ W', Below w.heap.size w W' → Calls Tryz.prog 18 #[] W' fun e w' => e = .returned (.bool true) ∧ Below w.heap.size w w' from fun W' h => (forged_any W').mono fun e w' ⟨h1, h2⟩ => ⟨h1, h.trans (h2.mono h.size)⟩)
  clear hb
  go_enter Tryz.func11, Tryz.ntmps11
  go_wp2_with fail
  refine name_calls ?_
  intro W0 hW0
  have hb0 : Below w.heap.size w W0 := by rw [hW0]; exact (Below.refl _ _).alloc (Nat.le_refl _) _
  have rB : W0.heap[w.heap.size]? = some (.cells #[.slice A0 b.secs.length k0, .slice A1 b.turns.length k1, .slice A2 b.svs.length k2, I b.rule, I b.days] 26 (0, 0)) := by rw [hW0]; exact heap_at _ _ rfl
  have lB : w.heap.size < W0.heap.size := by rw [hW0]; simp
  clear hW0
  refine (sound_any b _ _ _ W0 (HRB.out _ hb0)).mono ?_
  rintro e w1 ⟨rfl, hB1⟩
  replace rB := (hB1.block _ lB).trans rB
  replace lB := Nat.lt_of_lt_of_le lB hB1.size
  have hb1 := hb0.trans (hB1.mono hb0.size)
  clear hB1 hb0
  by_cases hck : Ch.check b = 0
  case neg =>
    rw [decide_eq_false hck]
    clear rB lB hck
    go_wp2_with fail
    refine (FORGE.out _ hb1).mono ?_
    rintro e w2 ⟨rfl, hBf⟩
    have HBF := Lib.hid hBf
    clear hBf
    go_wp2_with fail
    go_ret
    exact ⟨rfl, HBF.out⟩
  rw [decide_eq_true hck]
  have hval : Ch.valid b = true := by
    unfold Ch.check at hck
    split at hck
    · assumption
    · omega
  clear hck
  have hdy := Ch.days_le hval
  have ht4 : b.turns.length ≤ 4 := by
    have h1 := hval
    simp only [Ch.valid, Bool.and_eq_true] at h1
    have h2 := h1.1.1.1.1
    simp [Ch.sized, Ch.bnds, Ch.between] at h2
    omega
  have qB0 := cell_of_row w1 _ 0 _ _ _ rB
  have qB1 := cell_of_row w1 _ 1 _ _ _ rB
  have qB2 := cell_of_row w1 _ 2 _ _ _ rB
  have qB3 := cell_of_row w1 _ 3 _ _ _ rB
  have qB4 := cell_of_row w1 _ 4 _ _ _ rB
  simp only [List.getElem?_toArray, List.getElem?_cons_zero, List.getElem?_cons_succ] at qB0 qB1 qB2 qB3 qB4
  by_cases h4 : (b.turns.length : Int) = 4
  · have h4b : ((b.turns.length : Int) == 4) = true := by simp [h4]
    clear h4 rB lB hval hdy ht4
    go_wp2_with fail
    refine (FORGE.out _ hb1).mono ?_
    rintro e w2 ⟨rfl, hBf⟩
    have HBF := Lib.hid hBf
    clear hBf
    go_wp2_with fail
    go_ret
    exact ⟨rfl, HBF.out⟩
  have h4b : ((b.turns.length : Int) == 4) = false := by simp [h4]
  have hl4 : b.turns.length < 4 := by omega
  clear h4 ht4
  go_wp2_with fail
  clear h4b
  clear qB0 qB1 qB2 qB3 qB4
  obtain ⟨⟨day, te⟩, hte⟩ : ∃ s : Int × Int, Ch.turnR b = s := ⟨_, rfl⟩
  have c1 := Turn_any b (.slice A0 b.secs.length k0) (.slice A1 b.turns.length k1) (.slice A2 b.svs.length k2) w1 (HRB.out _ hb1)
  rw [hte] at c1
  refine c1.mono ?_
  rintro e w2 ⟨rfl, hB2⟩
  clear c1
  replace rB := (hB2.block _ lB).trans rB
  replace lB := Nat.lt_of_lt_of_le lB hB2.size
  have hb2 := hb1.trans (hB2.mono hb1.size)
  clear hB2 hb1
  have qB0 := cell_of_row w2 _ 0 _ _ _ rB
  have qB1 := cell_of_row w2 _ 1 _ _ _ rB
  have qB2 := cell_of_row w2 _ 2 _ _ _ rB
  have qB3 := cell_of_row w2 _ 3 _ _ _ rB
  have qB4 := cell_of_row w2 _ 4 _ _ _ rB
  simp only [List.getElem?_toArray, List.getElem?_cons_zero, List.getElem?_cons_succ] at qB0 qB1 qB2 qB3 qB4
  go_wp2_with fail
  clear qB0 qB1 qB2 qB3 qB4
  refine (soonestLaw_any b (.slice A0 b.secs.length k0) (.slice A1 b.turns.length k1) (.slice A2 b.svs.length k2) w2 (HRB.out _ hb2) hval).mono ?_
  rintro e w3 ⟨rfl, hB3⟩
  replace rB := (hB3.block _ lB).trans rB
  replace lB := Nat.lt_of_lt_of_le lB hB3.size
  have hb3 := hb2.trans (hB3.mono hb2.size)
  clear hB3 hb2
  by_cases hne : Ch.truths b = []
  · have hE : Ch.studyE b true = 12 := by simp [Ch.studyE, hval, hne]
    rw [Ch.turnR, hE, if_neg (by omega)] at hte
    injection hte with e1 e2
    subst e1 e2
    rw [Ch.lawSoon, if_pos hne]
    clear hne hE rB lB hval hl4 hdy
    go_wp2_with fail
    refine (FORGE.out _ hb3).mono ?_
    rintro e w4 ⟨rfl, hBf⟩
    have HBF := Lib.hid hBf
    clear hBf
    go_wp2_with fail
    go_ret
    exact ⟨rfl, HBF.out⟩
  have hfr := Ch.from_days hval
  have hs8 := Ch.svs_le hval
  have hcase := Ch.turn_facts hval hne hte
  have hTB := fun o h1 h2 h3 => Ch.turn_law hval hl4 hne o h1 h2 h3
  have hL0 := fun o => Ch.lateS_pos hval o
  have hs0 := (Ch.firsts_bd b (Ch.truths b) b.secs.length (by omega)).1
  rw [Ch.lawSoon, if_neg hne]
  obtain ⟨s0, hS0⟩ : ∃ x, Ch.soonest b (Ch.truths b) = x := ⟨_, rfl⟩
  have hs0' : 0 ≤ s0 := by rw [← hS0]; exact hs0
  rw [hS0] at hcase ⊢
  obtain ⟨fr, hF⟩ : ∃ x, Ch.fromOf b.svs = x := ⟨_, rfl⟩
  rw [hF] at hfr hcase
  have HF := Lib.hid hF
  have HTB := Lib.hid (show ∀ o, fr ≤ o → o ≤ b.days → o ∉ b.turns → Ch.valid (Ch.turnB b o) = true ∧ Ch.lawSoon (Ch.turnB b o) = Ch.lateS b o from fun o h1 h2 h3 => hTB o (by rw [hF]; exact h1) h2 h3)
  have HL0 := Lib.hid hL0
  have HCASE := Lib.hid hcase
  have HVAL := Lib.hid hval
  have hfr1 := hfr.1
  have hfr2 := hfr.2
  have hdr : decide (s0 < 0) = false := decide_eq_false (by omega)
  have RB3 := Lib.hid rB
  have HB3 := Lib.hid hb3
  clear hcase hTB hL0 hs0 hS0 hF hne hte hval hl4 hfr rB hb3
  go_wp2_with fail
  go_loopw [8, 9] (fun fv i wr => ∃ k : Nat, k ≤ b.svs.length ∧ i = I k ∧ fv = I (Ch.fromOf (b.svs.take k)) ∧ Below w3.heap.size w3 wr) (fun _ i _ => b.svs.length - (intOf i).toNat)
  case atStart => exact ⟨0, Nat.zero_le _, rfl, rfl, Below.refl _ _⟩
  case round =>
    obtain ⟨k, hk, rfl, rfl, hB⟩ := hrel
    have rB := (hB.block _ lB).trans RB3.out
    replace lB := Nat.lt_of_lt_of_le lB hB.size
    have hb_r := HB3.out.trans (hB.mono HB3.out.size)
    have HBr := Lib.hid hB
    clear hB
    have qB2 := cell_of_row wr _ 2 _ _ _ rB
    simp only [List.getElem?_toArray, List.getElem?_cons_zero, List.getElem?_cons_succ] at qB2
    obtain ⟨D, hD⟩ : ∃ D, Ch.fromOf (b.svs.take k) = D := ⟨_, rfl⟩
    rw [hD]
    by_cases hlt : k < b.svs.length
    · have hki : (k : Int) < b.svs.length := by omega
      obtain ⟨bl, off, c', hv, hbl, g0, g1, g2, g3⟩ := (HSV.out wr hb_r).at4 hlt
      injection hv with hA _ hc
      subst hA hc
      have q1 := g1.trans (by have := flat4 cSv (fun _ => rfl) b.svs k 1 hlt (by omega); simpa [cSv] using this : _ = some (I b.svs[k].day))
      have hnx : Ch.fromOf (b.svs.take (k + 1)) = max D b.svs[k].day := by
        rw [List.take_succ_eq_append_getElem hlt, Ch.fromOf, List.foldl_append, ← hD]
        rfl
      generalize hx : b.svs[k].day = x at q1 hnx
      have HNX := Lib.hid hnx
      have HBR := Lib.hid hb_r
      clear g0 g1 g2 g3 hnx hx hD rB hb_r
      rcases Int.le_total D x with hle | hle
      · have hmx : max D x = x := by omega
        go_wp2_with fail
        all_goals
          go_roundw
          case rel => exact ⟨k + 1, by omega, by go_num, by rw [HNX.out]; simp; try omega, HBr.out⟩
          case measure => simp [intOf]; omega
      · have hmx : max D x = D := by omega
        go_wp2_with fail
        all_goals
          go_roundw
          case rel => exact ⟨k + 1, by omega, by go_num, by rw [HNX.out]; simp; try omega, HBr.out⟩
          case measure => simp [intOf]; omega
    · obtain rfl : k = b.svs.length := by omega
      rw [List.take_length, HF.out] at hD
      subst hD
      have HR0 := Lib.hid hb_r
      have w1a : IntKind.i64.wrap (b.days - fr) = b.days - fr := IntWalk.i64_in _ (by omega)
      have w1b : IntKind.i64.wrap (b.days - fr + 1) = b.days - fr + 1 := IntWalk.i64_in _ (by omega)
      rcases HCASE.out with ⟨rfl, rfl, hbest⟩ | ⟨rfl, hd1, hd2, hd3, hd4, hbest⟩
      · have HBEST := Lib.hid hbest
        clear hbest HCASE
        have qB4 := cell_of_row wr _ 4 _ _ _ rB
        simp only [List.getElem?_toArray, List.getElem?_cons_zero, List.getElem?_cons_succ] at qB4
        go_wp2_with fail
        clear qB4
        refine (mod_any n (b.days - fr + 1) (by omega) (by omega) wr).mono ?_
        rintro e v1 ⟨rfl, hB_v1⟩
        replace rB := (hB_v1.block _ lB).trans rB
        replace lB := Nat.lt_of_lt_of_le lB hB_v1.size
        have hb_v1 := hb_r.trans (hB_v1.mono hb_r.size)
        clear hB_v1 hb_r
        obtain ⟨r, hr⟩ : ∃ r, n % (b.days - fr + 1) = r := ⟨_, rfl⟩
        have hr0 : 0 ≤ r := by rw [← hr]; exact Int.emod_nonneg _ (by omega)
        have hr1 : r < b.days - fr + 1 := by rw [← hr]; exact Int.emod_lt_of_pos _ (by omega)
        rw [hr]
        have hwo : IntKind.i64.wrap (fr + r) = fr + r := IntWalk.i64_in _ (by omega)
        clear hr
        have qB1 := cell_of_row v1 _ 1 _ _ _ rB
        simp only [List.getElem?_toArray, List.getElem?_cons_zero, List.getElem?_cons_succ] at qB1
        go_wp2_with fail
        clear qB1
        refine (at_any b.turns (fr + r) _ v1 (HRB.out _ hb_v1).turns).mono ?_
        rintro e v2 ⟨rfl, hB_v2⟩
        replace rB := (hB_v2.block _ lB).trans rB
        replace lB := Nat.lt_of_lt_of_le lB hB_v2.size
        have hb_v2 := hb_v1.trans (hB_v2.mono hb_v1.size)
        clear hB_v2 hb_v1 hwo
        obtain ⟨q2, hq2⟩ : ∃ q : Int, Ch.indexOf b.turns (fr + r) = q := ⟨_, rfl⟩
        have hmem := (Ch.indexOf_nonneg (l := b.turns) (x := fr + r))
        rw [hq2] at hmem ⊢
        clear hq2
        by_cases hin : fr + r ∈ b.turns
        · have hq0 : 0 ≤ q2 := hmem.2 hin
          clear hmem hin rB lB
          go_wp2_with fail
          refine (FORGE.out _ hb_v2).mono ?_
          rintro e v3 ⟨rfl, hBf⟩
          have HBF := Lib.hid hBf
          clear hBf
          go_wp2_with fail
          go_ret
          exact ⟨rfl, HBF.out⟩
        have hq0 : q2 < 0 := by
          by_cases hc : 0 ≤ q2
          · exact absurd (hmem.1 hc) hin
          · omega
        have hqd : decide (0 ≤ q2) = false := decide_eq_false (by omega)
        have hot := HTB.out (fr + r) (by omega) (by omega) hin
        have hno := HBEST.out (fr + r) (by omega) (by omega) hin
        obtain ⟨late, hlt⟩ : ∃ x, Ch.lateS b (fr + r) = x := ⟨_, rfl⟩
        have hl0 : 0 ≤ late := by rw [← hlt]; exact HL0.out _
        rw [hlt] at hno hot
        have HOT := Lib.hid hot
        have HNO := Lib.hid hno
        clear hmem hin hlt hno hot
        have qB0 := cell_of_row v2 _ 0 _ _ _ rB
        have qB1 := cell_of_row v2 _ 1 _ _ _ rB
        have qB2 := cell_of_row v2 _ 2 _ _ _ rB
        have qB3 := cell_of_row v2 _ 3 _ _ _ rB
        have qB4 := cell_of_row v2 _ 4 _ _ _ rB
        simp only [List.getElem?_toArray, List.getElem?_cons_zero, List.getElem?_cons_succ] at qB0 qB1 qB2 qB3 qB4
        go_wp2_with fail
        clear qB0 qB1 qB2 qB3 qB4
        refine (with_any b (.slice A0 b.secs.length k0) (.slice A1 b.turns.length k1) (.slice A2 b.svs.length k2) (fr + r) v2 (HRB.out _ hb_v2) hdy.1 hdy.2).mono ?_
        rintro e v4 ⟨⟨T_v4, rfl, hR_v4⟩, hB_v4⟩
        replace rB := (hB_v4.block _ lB).trans rB
        replace lB := Nat.lt_of_lt_of_le lB hB_v4.size
        have hb_v4 := hb_v2.trans (hB_v4.mono hb_v2.size)
        have hT_v4 := hR_v4.turns
        obtain ⟨A_v4, k_v4, rfl⟩ := hT_v4.form
        clear hT_v4 hB_v4 hb_v2
        have hs_v4 := soonestLaw_any (Ch.turnB b (fr + r)) _ _ _ v4 hR_v4 HOT.out.1
        rw [HOT.out.2] at hs_v4
        have HS_v4 := Lib.hid hs_v4
        clear hs_v4 hR_v4
        go_wp2_with fail
        refine HS_v4.out.mono ?_
        rintro e v5 ⟨rfl, hB_v5⟩
        replace rB := (hB_v5.block _ lB).trans rB
        replace lB := Nat.lt_of_lt_of_le lB hB_v5.size
        have hb_v5 := hb_v4.trans (hB_v5.mono hb_v4.size)
        clear hB_v5 hb_v4 HS_v4
        clear rB lB
        rcases Int.lt_or_eq_of_le HNO.out with h5 | h5
        · clear HNO
          go_wp2_with fail
          refine (FORGE.out _ hb_v5).mono ?_
          rintro e v6 ⟨rfl, hBf⟩
          have HBF := Lib.hid hBf
          clear hBf
          go_wp2_with fail
          go_ret
          exact ⟨rfl, HBF.out⟩
        · subst h5
          have hll : decide (late < late) = false := decide_eq_false (by omega)
          go_wp2_with fail
          refine (FORGE.out _ hb_v5).mono ?_
          rintro e v6 ⟨rfl, hBf⟩
          have HBF := Lib.hid hBf
          clear hBf
          go_wp2_with fail
          go_ret
          exact ⟨rfl, HBF.out⟩
      · have HBEST := Lib.hid hbest
        have hdw := HTB.out day hd1 hd2 hd3
        have HDW := Lib.hid hdw
        obtain ⟨L, hL⟩ : ∃ x, Ch.lateS b day = x := ⟨_, rfl⟩
        rw [hL] at hd4
        clear hbest HCASE hdw
        have HBEST := Lib.hid (show ∀ o : Int, fr ≤ o → o ≤ b.days → o ∉ b.turns → Ch.lateS b o < L ∨ (Ch.lateS b o = L ∧ day ≤ o) from by rw [← hL]; exact HBEST.out)
        have HDW := Lib.hid (show Ch.valid (Ch.turnB b day) = true ∧ Ch.lawSoon (Ch.turnB b day) = L from by rw [← hL]; exact HDW.out)
        clear hL
        have hnd : decide (L ≤ s0) = false := decide_eq_false (by omega)
        have hbw : Ch.between day fr b.days = true := by simp [Ch.between]; omega
        have qB0 := cell_of_row wr _ 0 _ _ _ rB
        have qB1 := cell_of_row wr _ 1 _ _ _ rB
        have qB2 := cell_of_row wr _ 2 _ _ _ rB
        have qB3 := cell_of_row wr _ 3 _ _ _ rB
        have qB4 := cell_of_row wr _ 4 _ _ _ rB
        simp only [List.getElem?_toArray, List.getElem?_cons_zero, List.getElem?_cons_succ] at qB0 qB1 qB2 qB3 qB4
        go_wp2_with fail
        clear qB0 qB1 qB2 qB3 qB4
        refine (with_any b (.slice A0 b.secs.length k0) (.slice A1 b.turns.length k1) (.slice A2 b.svs.length k2) day wr (HRB.out _ hb_r) hdy.1 hdy.2).mono ?_
        rintro e x1 ⟨⟨T_x1, rfl, hR_x1⟩, hB_x1⟩
        replace rB := (hB_x1.block _ lB).trans rB
        replace lB := Nat.lt_of_lt_of_le lB hB_x1.size
        have hb_x1 := hb_r.trans (hB_x1.mono hb_r.size)
        have hT_x1 := hR_x1.turns
        obtain ⟨A_x1, k_x1, rfl⟩ := hT_x1.form
        clear hT_x1 hB_x1 hb_r
        have hs_x1 := soonestLaw_any (Ch.turnB b day) _ _ _ x1 hR_x1 HDW.out.1
        rw [HDW.out.2] at hs_x1
        have HS_x1 := Lib.hid hs_x1
        clear hs_x1 hR_x1
        go_wp2_with fail
        refine HS_x1.out.mono ?_
        rintro e x2 ⟨rfl, hB_x2⟩
        replace rB := (hB_x2.block _ lB).trans rB
        replace lB := Nat.lt_of_lt_of_le lB hB_x2.size
        have hb_x2 := hb_x1.trans (hB_x2.mono hb_x1.size)
        clear hB_x2 hb_x1 HS_x1
        have qB1 := cell_of_row x2 _ 1 _ _ _ rB
        have qB4 := cell_of_row x2 _ 4 _ _ _ rB
        simp only [List.getElem?_toArray, List.getElem?_cons_zero, List.getElem?_cons_succ] at qB1 qB4
        go_wp2_with fail
        clear qB1 qB4
        refine (in_any day fr b.days x2).mono ?_
        rintro e x3 ⟨rfl, hB_x3⟩
        rw [hbw]
        replace rB := (hB_x3.block _ lB).trans rB
        replace lB := Nat.lt_of_lt_of_le lB hB_x3.size
        have hb_x3 := hb_x2.trans (hB_x3.mono hb_x2.size)
        clear hB_x3 hb_x2 hbw
        have qB1 := cell_of_row x3 _ 1 _ _ _ rB
        simp only [List.getElem?_toArray, List.getElem?_cons_zero, List.getElem?_cons_succ] at qB1
        go_wp2_with fail
        clear qB1
        refine (at_any b.turns day _ x3 (HRB.out _ hb_x3).turns).mono ?_
        rintro e x4 ⟨rfl, hB_x4⟩
        replace rB := (hB_x4.block _ lB).trans rB
        replace lB := Nat.lt_of_lt_of_le lB hB_x4.size
        have hb_x4 := hb_x3.trans (hB_x4.mono hb_x3.size)
        clear hB_x4 hb_x3
        obtain ⟨q1, hq1⟩ : ∃ q : Int, Ch.indexOf b.turns day = q := ⟨_, rfl⟩
        have hqn : q1 < 0 := by
          by_cases hc : 0 ≤ q1
          · rw [← hq1] at hc
            exact absurd (Ch.indexOf_nonneg.1 hc) hd3
          · omega
        have hqnd : decide (0 ≤ q1) = false := decide_eq_false (by omega)
        rw [hq1]
        clear hq1 hd3
        have qB4 := cell_of_row x4 _ 4 _ _ _ rB
        simp only [List.getElem?_toArray, List.getElem?_cons_zero, List.getElem?_cons_succ] at qB4
        go_wp2_with fail
        clear qB4
        refine (mod_any n (b.days - fr + 1) (by omega) (by omega) x4).mono ?_
        rintro e v1 ⟨rfl, hB_v1⟩
        replace rB := (hB_v1.block _ lB).trans rB
        replace lB := Nat.lt_of_lt_of_le lB hB_v1.size
        have hb_v1 := hb_x4.trans (hB_v1.mono hb_x4.size)
        clear hB_v1 hb_x4
        obtain ⟨r, hr⟩ : ∃ r, n % (b.days - fr + 1) = r := ⟨_, rfl⟩
        have hr0 : 0 ≤ r := by rw [← hr]; exact Int.emod_nonneg _ (by omega)
        have hr1 : r < b.days - fr + 1 := by rw [← hr]; exact Int.emod_lt_of_pos _ (by omega)
        rw [hr]
        have hwo : IntKind.i64.wrap (fr + r) = fr + r := IntWalk.i64_in _ (by omega)
        clear hr
        have qB1 := cell_of_row v1 _ 1 _ _ _ rB
        simp only [List.getElem?_toArray, List.getElem?_cons_zero, List.getElem?_cons_succ] at qB1
        go_wp2_with fail
        clear qB1
        refine (at_any b.turns (fr + r) _ v1 (HRB.out _ hb_v1).turns).mono ?_
        rintro e v2 ⟨rfl, hB_v2⟩
        replace rB := (hB_v2.block _ lB).trans rB
        replace lB := Nat.lt_of_lt_of_le lB hB_v2.size
        have hb_v2 := hb_v1.trans (hB_v2.mono hb_v1.size)
        clear hB_v2 hb_v1 hwo
        obtain ⟨q2, hq2⟩ : ∃ q : Int, Ch.indexOf b.turns (fr + r) = q := ⟨_, rfl⟩
        have hmem := (Ch.indexOf_nonneg (l := b.turns) (x := fr + r))
        rw [hq2] at hmem ⊢
        clear hq2
        by_cases hin : fr + r ∈ b.turns
        · have hq0 : 0 ≤ q2 := hmem.2 hin
          clear hmem hin rB lB
          go_wp2_with fail
          refine (FORGE.out _ hb_v2).mono ?_
          rintro e v3 ⟨rfl, hBf⟩
          have HBF := Lib.hid hBf
          clear hBf
          go_wp2_with fail
          go_ret
          exact ⟨rfl, HBF.out⟩
        have hq0 : q2 < 0 := by
          by_cases hc : 0 ≤ q2
          · exact absurd (hmem.1 hc) hin
          · omega
        have hqd : decide (0 ≤ q2) = false := decide_eq_false (by omega)
        have hot := HTB.out (fr + r) (by omega) (by omega) hin
        have hno := HBEST.out (fr + r) (by omega) (by omega) hin
        obtain ⟨late, hlt⟩ : ∃ x, Ch.lateS b (fr + r) = x := ⟨_, rfl⟩
        have hl0 : 0 ≤ late := by rw [← hlt]; exact HL0.out _
        rw [hlt] at hno hot
        have HOT := Lib.hid hot
        have HNO := Lib.hid hno
        clear hmem hin hlt hno hot
        have qB0 := cell_of_row v2 _ 0 _ _ _ rB
        have qB1 := cell_of_row v2 _ 1 _ _ _ rB
        have qB2 := cell_of_row v2 _ 2 _ _ _ rB
        have qB3 := cell_of_row v2 _ 3 _ _ _ rB
        have qB4 := cell_of_row v2 _ 4 _ _ _ rB
        simp only [List.getElem?_toArray, List.getElem?_cons_zero, List.getElem?_cons_succ] at qB0 qB1 qB2 qB3 qB4
        go_wp2_with fail
        clear qB0 qB1 qB2 qB3 qB4
        refine (with_any b (.slice A0 b.secs.length k0) (.slice A1 b.turns.length k1) (.slice A2 b.svs.length k2) (fr + r) v2 (HRB.out _ hb_v2) hdy.1 hdy.2).mono ?_
        rintro e v4 ⟨⟨T_v4, rfl, hR_v4⟩, hB_v4⟩
        replace rB := (hB_v4.block _ lB).trans rB
        replace lB := Nat.lt_of_lt_of_le lB hB_v4.size
        have hb_v4 := hb_v2.trans (hB_v4.mono hb_v2.size)
        have hT_v4 := hR_v4.turns
        obtain ⟨A_v4, k_v4, rfl⟩ := hT_v4.form
        clear hT_v4 hB_v4 hb_v2
        have hs_v4 := soonestLaw_any (Ch.turnB b (fr + r)) _ _ _ v4 hR_v4 HOT.out.1
        rw [HOT.out.2] at hs_v4
        have HS_v4 := Lib.hid hs_v4
        clear hs_v4 hR_v4
        go_wp2_with fail
        refine HS_v4.out.mono ?_
        rintro e v5 ⟨rfl, hB_v5⟩
        replace rB := (hB_v5.block _ lB).trans rB
        replace lB := Nat.lt_of_lt_of_le lB hB_v5.size
        have hb_v5 := hb_v4.trans (hB_v5.mono hb_v4.size)
        clear hB_v5 hb_v4 HS_v4
        clear rB lB
        rcases HNO.out with h5 | ⟨h5, h6⟩
        · clear HNO
          go_wp2_with fail
          refine (FORGE.out _ hb_v5).mono ?_
          rintro e v6 ⟨rfl, hBf⟩
          have HBF := Lib.hid hBf
          clear hBf
          go_wp2_with fail
          go_ret
          exact ⟨rfl, HBF.out⟩
        · subst h5
          have hll : decide (late < late) = false := decide_eq_false (by omega)
          clear HNO
          go_wp2_with fail
          refine (FORGE.out _ hb_v5).mono ?_
          rintro e v6 ⟨rfl, hBf⟩
          have HBF := Lib.hid hBf
          clear hBf
          go_wp2_with fail
          go_ret
          exact ⟨rfl, HBF.out⟩

end Go.Proofs.YtkfahochpnggbaaGreat
