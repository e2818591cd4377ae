/- Texts on the program that the proof leans on, part 35. -/
import Derived.Test.YtkfahochpnggbaaGreatYbh
set_option linter.unusedVariables false
set_option linter.unusedSimpArgs false

/- Contract of chain's Turn. -/
namespace Go.Proofs.YtkfahochpnggbaaGreat
open Go.RowKit

namespace Ch
/-- The best day so far, and how late it makes the first day on which any section may be too thin. -/
def turnStep (b : Bk) (l : List Tr) (acc : Int × Int) (day : Nat) : Int × Int :=
  if canTurn b day then (if acc.2 < soonest (withTurns b (b.turns ++ [(day : Int)])) l then ((day : Int), soonest (withTurns b (b.turns ++ [(day : Int)])) l) else acc) else acc
def turnFold (b : Bk) (l : List Tr) (k : Nat) : Int × Int := (List.range k).foldl (turnStep b l) (0, soonest b l)
theorem turnFold_succ (b : Bk) (l : List Tr) (k : Nat) : turnFold b l (k + 1) = turnStep b l (turnFold b l k) k := by simp [turnFold, List.range_succ]
/-- The day on which the chain should be turned. -/
def turnR (b : Bk) : Int × Int := if studyE b true = 0 then (if (turnFold b (truths b) (b.days.toNat + 1)).1 = 0 then (0, 4) else ((turnFold b (truths b) (b.days.toNat + 1)).1, 0)) else (0, studyE b true)
end Ch

set_option maxRecDepth 100000 in
set_option maxHeartbeats 2000000 in
theorem Turn_any (b : Ch.Bk) (S T V : Value) (w : World) (hb : RB w w.heap.size b S T V) :
    Calls Tryz.prog 42 #[vBk S T V b.rule b.days] w fun e w' => e = .returned (.tuple #[I (Ch.turnR b).1, I (Ch.turnR b).2]) ∧ Below w.heap.size w w' := by
  obtain ⟨A0, c0, rfl⟩ := hb.secs.form
  obtain ⟨A1, c1, rfl⟩ := hb.turns.form
  obtain ⟨A2, c2, rfl⟩ := hb.svs.form
  have hB0 : Below w.heap.size w (w.alloc (.cells #[.slice A0 b.secs.length c0, .slice A1 b.turns.length c1, .slice A2 b.svs.length c2, I b.rule, I b.days] 26)) := (Below.refl _ _).alloc (Nat.le_refl _) _
  go_enter Tryz.func42, Tryz.ntmps42
  go_wp2_with fail
  refine (study_told b _ _ _ true _ ((hb.below hB0 (Nat.le_refl _)).more hB0.size)).mono ?_
  rintro e w1 ⟨L, rfl, hT, hB1⟩
  obtain ⟨B, k, d, B1, k1, d1, B2, k2, d2, x, y, m, B3, k3, d3, rfl⟩ := hT.form
  have hb1 : Below w.heap.size w w1 := hB0.trans (hB1.mono hB0.size)
  have HB1 := Lib.hid hb1
  clear hB0 hB1 hb1
  by_cases h0 : Ch.studyE b true = 0
  · obtain ⟨hv, -, hne, r, R, hL, hM, hR⟩ := hT.2 h0
    have H0 := Lib.hid h0
    rw [h0]
    have hf := fine_of_valid hv
    have hlen := Ch.truths_len hf.secs hf.n4
    obtain ⟨AR, cR, rfl⟩ := hR.form
    simp at hL
    obtain ⟨⟨rfl, rfl, rfl⟩, ⟨rfl, rfl, rfl⟩, ⟨rfl, rfl, rfl⟩, rfl, rfl, rfl, rfl, rfl, rfl⟩ := hL
    have hd0 : 0 ≤ b.days := by
      have hv' := hv
      simp only [Ch.valid, Bool.and_eq_true] at hv'
      have := Ch.sized_days hv'.1.1.1.1
      omega
    have ht4 : b.turns.length ≤ 4 := by
      have hv' := hv
      simp only [Ch.valid, Bool.and_eq_true] at hv'
      have := hv'.1.1.1.1
      simp [Ch.sized, Ch.bnds, Ch.between] at this
      omega
    have hto := hf.truths
    have HB := Lib.hid hb
    have HM := Lib.hid (show ∀ W', Below w1.heap.size w1 W' → RM W' W'.heap.size b (.map (some r)) from fun W' h => (hM.below h (Nat.le_refl _)).more h.size)
    have HRS := Lib.hid (show ∀ W', Below w1.heap.size w1 W' → Trs W' W'.heap.size (.slice B3 (Ch.truths b).length d3) (Ch.truths b) from fun W' h => (hR.below h (Nat.le_refl _)).more h.size)
    have HNE := Lib.hid hne
    have HTO := Lib.hid hto
    have HF := Lib.hid hf
    clear hT hM hR hne hv h0 hb hto hf
    go_upto_region 4 with fail
    refine name_world ?_
    intro W2 hW2
    have hb2 : Below w1.heap.size w1 W2 := by
      rw [hW2]
      first | exact (Below.refl _ _).alloc (Nat.le_refl _) _ | (repeat (refine Below.setCell ?_ (by simp <;> omega) _); exact (Below.refl _ _).alloc (Nat.le_refl _) _)
    have hrow : W2.heap[w1.heap.size]? = some (cLg (.slice B b.secs.length d) (.slice B1 b.turns.length d1) (.slice B2 b.svs.length d2) b.rule b.days (.map (some r)) (.slice B3 (Ch.truths b).length d3)) := by rw [hW2]; exact heap_at _ _ rfl
    have hlw := heap_lt hrow
    have HROW := Lib.hid hrow
    have HB2 := Lib.hid (HB1.out.trans (hb2.mono HB1.out.size))
    have HB12 := Lib.hid hb2
    have a0 := cell_of_row W2 _ 0 _ _ _ hrow
    have a1 := cell_of_row W2 _ 1 _ _ _ hrow
    have a2 := cell_of_row W2 _ 2 _ _ _ hrow
    have a3 := cell_of_row W2 _ 3 _ _ _ hrow
    have a4 := cell_of_row W2 _ 4 _ _ _ hrow
    have a5 := cell_of_row W2 _ 5 _ _ _ hrow
    have a6 := cell_of_row W2 _ 6 _ _ _ hrow
    simp only [List.getElem?_toArray, List.getElem?_cons_zero, List.getElem?_cons_succ] at a0 a1 a2 a3 a4 a5 a6
    clear hW2 hb2 hrow
    go_wp2_with fail
    refine (soonest_any b _ _ _ _ _ (Ch.truths b) HTO.out HNE.out hlen W2 (HM.out _ HB12.out) (HRS.out _ HB12.out) HF.out.n4 hd0 HF.out.days _ _ rfl).mono ?_
    rintro e w3 ⟨rfl, hB3⟩
    have hrow3 := (hB3.block _ hlw).trans HROW.out
    have b4 := cell_of_row w3 _ 4 _ _ _ hrow3
    simp only [List.getElem?_toArray, List.getElem?_cons_zero, List.getElem?_cons_succ] at b4
    obtain ⟨nd, hnd⟩ := Int.eq_ofNat_of_zero_le hd0
    have hd30 := HF.out.days
    have HB3 := Lib.hid hB3
    have HND := Lib.hid hnd
    have hnd30 : nd ≤ 30 := by omega
    have hnd30i : (b.days : Int) ≤ 30 := by omega
    clear hrow3 hB3 a0 a1 a2 a3 a4 a5 a6 hnd
    go_wp2_with fail
    go_loopw [6, 7, 24] (fun x y i wr => ∃ k : Nat, (k : Int) ≤ b.days + 1 ∧ i = I k ∧ x = I (Ch.turnFold b (Ch.truths b) k).1 ∧ y = I (Ch.turnFold b (Ch.truths b) k).2 ∧ Below W2.heap.size W2 wr) (fun _ _ i _ => (b.days + 1 - intOf i).toNat)
    case atStart => exact ⟨0, by omega, rfl, rfl, rfl, HB3.out⟩
    case round =>
      obtain ⟨k, hk, rfl, rfl, rfl, hBr⟩ := hrel
      have hrowr := (hBr.block _ hlw).trans HROW.out
      have c0 := cell_of_row wr _ 0 _ _ _ hrowr
      have c1 := cell_of_row wr _ 1 _ _ _ hrowr
      have c2 := cell_of_row wr _ 2 _ _ _ hrowr
      have c3 := cell_of_row wr _ 3 _ _ _ hrowr
      have c4 := cell_of_row wr _ 4 _ _ _ hrowr
      have c5 := cell_of_row wr _ 5 _ _ _ hrowr
      have c6 := cell_of_row wr _ 6 _ _ _ hrowr
      simp only [List.getElem?_toArray, List.getElem?_cons_zero, List.getElem?_cons_succ] at c0 c1 c2 c3 c4 c5 c6
      have hbw : Below w.heap.size w wr := HB2.out.trans (hBr.mono HB2.out.size)
      have hb1r : Below w1.heap.size w1 wr := HB12.out.trans (hBr.mono HB12.out.size)
      have HBR := Lib.hid hBr
      have HBW := Lib.hid hbw
      have HB1R := Lib.hid hb1r
      have HROWR := Lib.hid hrowr
      clear hBr hbw hb1r hrowr b4
      by_cases hlt : (k : Int) < b.days + 1
      · have HTS := Lib.hid (Ch.turnFold_succ b (Ch.truths b) k)
        generalize hacc : Ch.turnFold b (Ch.truths b) k = acc at *
        have HACC := Lib.hid hacc
        clear hacc
        obtain ⟨best, late⟩ := acc
        go_wp2_with fail
        refine (canTurn_any b _ _ _ _ _ b.rule b.days k _ _ _ rfl wr ((HB.out.below HBW.out (Nat.le_refl _)).more HBW.out.size)).mono ?_
        rintro e w4 ⟨rfl, hB4⟩
        have hrow4 := (hB4.block _ (heap_lt HROWR.out)).trans HROWR.out
        clear c0 c1 c2 c3 c4 c5 c6
        have g0 := cell_of_row w4 _ 0 _ _ _ hrow4
        have g1 := cell_of_row w4 _ 1 _ _ _ hrow4
        have g2 := cell_of_row w4 _ 2 _ _ _ hrow4
        have g3 := cell_of_row w4 _ 3 _ _ _ hrow4
        have g4 := cell_of_row w4 _ 4 _ _ _ hrow4
        have g5 := cell_of_row w4 _ 5 _ _ _ hrow4
        have g6 := cell_of_row w4 _ 6 _ _ _ hrow4
        simp only [List.getElem?_toArray, List.getElem?_cons_zero, List.getElem?_cons_succ] at g0 g1 g2 g3 g4 g5 g6
        have HB4 := Lib.hid hB4
        have HROW4 := Lib.hid hrow4
        clear hB4 hrow4
        cases hct : Ch.canTurn b k
        · have HST := Lib.hid (show Ch.turnStep b (Ch.truths b) (best, late) k = (best, late) by simp [Ch.turnStep, hct])
          clear hct
          go_wp2_with fail
          go_roundw
          case rel => exact ⟨k + 1, by omega, by go_num, by rw [HTS.out, HST.out], by rw [HTS.out, HST.out], HBR.out.trans (HB4.out.mono HBR.out.size)⟩
          case measure => simp [intOf]; omega
        · have hbw4 : Below w.heap.size w w4 := HBW.out.trans (HB4.out.mono HBW.out.size)
          have HCT := Lib.hid hct
          have HBW4 := Lib.hid hbw4
          clear hct hbw4
          go_wp2_with fail
          refine (turned_any b _ _ _ _ _ k _ rfl _ _ _ rfl HF.out.n4 hd0 HF.out.days ht4 w4 ((HB.out.below HBW4.out (Nat.le_refl _)).more HBW4.out.size)).mono ?_
          rintro e w5 ⟨⟨T', M', rfl, ⟨AT, nT, cT, rfl⟩, ⟨m', rfl⟩, hM'⟩, hB5⟩
          have HB5 := Lib.hid hB5
          have HM5 := Lib.hid hM'
          have h15 : Below w1.heap.size w1 w5 := (HB1R.out.trans (HB4.out.mono HB1R.out.size)).trans (hB5.mono (HB1R.out.trans (HB4.out.mono HB1R.out.size)).size)
          have hsoon : Calls Tryz.prog 92 #[vLg (.slice B b.secs.length d) (.slice AT nT cT) (.slice B2 b.svs.length d2) b.rule b.days (.map m') (.slice B3 (Ch.truths b).length d3)] w5 fun e w' => e = .returned (I (Ch.soonest (Ch.withTurns b (b.turns ++ [(k : Int)])) (Ch.truths b))) ∧ Below w5.heap.size w5 w' :=
            soonest_any (Ch.withTurns b (b.turns ++ [(k : Int)])) _ _ _ _ _ (Ch.truths b) HTO.out HNE.out hlen w5 HM5.out (HRS.out _ h15) HF.out.n4 hd0 HF.out.days _ _ rfl
          have HSOON := Lib.hid hsoon
          clear hB5 hM' h15 hsoon g0 g1 g2 g3 g4 g5 g6
          go_wp2_with fail
          refine HSOON.out.mono ?_
          rintro e w6 ⟨rfl, hB6⟩
          have hb6 : Below W2.heap.size W2 w6 := (((HBR.out.trans (HB4.out.mono HBR.out.size)).trans (HB5.out.mono (HBR.out.trans (HB4.out.mono HBR.out.size)).size))).trans (hB6.mono ((HBR.out.trans (HB4.out.mono HBR.out.size)).trans (HB5.out.mono (HBR.out.trans (HB4.out.mono HBR.out.size)).size)).size)
          have HB6 := Lib.hid hb6
          clear hB6 hb6
          by_cases hgt : late < Ch.soonest (Ch.withTurns b (b.turns ++ [(k : Int)])) (Ch.truths b)
          · have HST := Lib.hid (show Ch.turnStep b (Ch.truths b) (best, late) k = ((k : Int), Ch.soonest (Ch.withTurns b (b.turns ++ [(k : Int)])) (Ch.truths b)) by simp [Ch.turnStep, HCT.out, hgt])
            generalize Ch.soonest (Ch.withTurns b (b.turns ++ [(k : Int)])) (Ch.truths b) = sn at *
            go_wp2_with fail
            go_roundw
            case rel => exact ⟨k + 1, by omega, by go_num, by rw [HTS.out, HST.out], by rw [HTS.out, HST.out], HB6.out⟩
            case measure => simp [intOf]; omega
          · have HST := Lib.hid (show Ch.turnStep b (Ch.truths b) (best, late) k = (best, late) by simp [Ch.turnStep, HCT.out, hgt])
            generalize Ch.soonest (Ch.withTurns b (b.turns ++ [(k : Int)])) (Ch.truths b) = sn at *
            go_wp2_with fail
            go_roundw
            case rel => exact ⟨k + 1, by omega, by go_num, by rw [HTS.out, HST.out], by rw [HTS.out, HST.out], HB6.out⟩
            case measure => simp [intOf]; omega
      · have hkk : k = b.days.toNat + 1 := by omega
        have hrs : Ch.turnR b = if (Ch.turnFold b (Ch.truths b) k).1 = 0 then (0, 4) else ((Ch.turnFold b (Ch.truths b) k).1, 0) := by rw [Ch.turnR, if_pos H0.out, hkk]
        have HRSS := Lib.hid hrs
        clear hrs hkk
        generalize Ch.turnFold b (Ch.truths b) k = acc at *
        obtain ⟨best, late⟩ := acc
        by_cases hb0 : best = 0
        · have hbb : (best == 0) = true := by simp [hb0]
          have HB0 := Lib.hid hb0
          clear hb0
          go_wp2_with fail
          go_ret2
          exact ⟨by rw [HRSS.out, if_pos (by exact HB0.out)] <;> rfl, HBW.out⟩
        · have hbb : (best == 0) = false := by simp [hb0]
          have HB0 := Lib.hid hb0
          clear hb0
          go_wp2_with fail
          go_ret2
          exact ⟨by rw [HRSS.out, if_neg (by exact HB0.out)] <;> rfl, HBW.out⟩
  · have hrs : Ch.turnR b = (0, Ch.studyE b true) := by rw [Ch.turnR, if_neg h0]
    have HRSS := Lib.hid hrs
    have hne : (Ch.studyE b true != 0) = true := by simpa using h0
    have hnd : (Ch.studyE b true == 0) = false := by simpa using h0
    clear hT h0 hrs hb
    go_wp2_with fail
    go_ret2
    refine ⟨by rw [HRSS.out] <;> rfl, ?_⟩
    have hba : Below w.heap.size w w1 := HB1.out
    first | exact hba.alloc hba.size _ | (repeat (refine Below.setCell ?_ (by simp <;> omega) _); exact hba.alloc hba.size _)

end Go.Proofs.YtkfahochpnggbaaGreat
