/- Texts on the program that the proof leans on, part 61. -/
import Derived.Test.YtkfahochpnggbaaGreatYch
set_option linter.unusedVariables false
set_option linter.unusedSimpArgs false

/- Contract of the statements' helper with. -/
namespace Go.Proofs.YtkfahochpnggbaaGreat
open Go.RowKit

theorem own_form {w : World} {base n size : Nat} {t : TypeId} {v : Value} {xs : List Value} (h : w.ownsRow base t size v (n + 1) xs) : ∃ g cap, v = .slice (some ⟨g, 0, none⟩) (n + 1) cap := by
  rcases h with ⟨hx, ⟨rfl, hc⟩ | ⟨g, cap, cur, rfl, hxx⟩⟩
  · omega
  · exact ⟨g, cap, rfl⟩

set_option maxRecDepth 100000 in
set_option maxHeartbeats 4000000 in
theorem with_any (b : Ch.Bk) (S T V : Value) (day : Int) (w : World) (hb : RB w w.heap.size b S T V) (h0 : 1 ≤ b.days) (h30 : b.days ≤ 30) :
    Calls Tryz.prog 45 #[vBk S T V b.rule b.days, I day] w fun e w' => (∃ T', e = .returned (vBk S T' V b.rule b.days) ∧ RB w' w'.heap.size (Ch.turnB b day) S T' V) ∧ Below w.heap.size w w' := by
  obtain ⟨A0, k0, rfl⟩ := hb.secs.form
  obtain ⟨A1, k1, rfl⟩ := hb.turns.form
  obtain ⟨A2, k2, rfl⟩ := hb.svs.form
  have HB := Lib.hid hb
  clear hb
  go_enter Tryz.func45, Tryz.ntmps45
  go_wp2_with fail
  refine name_world ?_
  intro W1 hW1
  have hb1 : Below w.heap.size w W1 := by rw [hW1]; exact (((Below.refl _ _).alloc (Nat.le_refl _) _).alloc (by simp) _).alloc (by simp; omega) _
  have rB : W1.heap[w.heap.size]? = some (.cells #[.slice A0 b.secs.length k0, .slice A1 b.turns.length k1, .slice A2 b.svs.length k2, I b.rule, I b.days] 26 (0, 0)) := by rw [hW1]; exact (Below.heap_alloc _ _ _ (by simp; omega)).trans ((Below.heap_alloc _ _ _ (by simp)).trans (heap_at _ _ rfl))
  have rO : W1.heap[w.heap.size + 1]? = some (.cells #[.slice none 0 0, .slice none 0 0, .slice none 0 0, I 0, I 0] 26 (0, 0)) := by rw [hW1]; exact (Below.heap_alloc _ _ _ (by simp)).trans (heap_at _ _ (by simp))
  have rX : W1.heap[w.heap.size + 1 + 1]? = some (.cells #[.slice A0 b.secs.length k0, .slice none 0 0, .slice A2 b.svs.length k2, I b.rule, I b.days] 26 (0, 0)) := by rw [hW1]; exact heap_at _ _ (by simp)
  have hz1 : W1.heap.size = w.heap.size + 3 := by rw [hW1]; simp
  have HB1 := Lib.hid hb1
  have RB := Lib.hid rB
  have RO := Lib.hid rO
  have HZ1 := Lib.hid hz1
  obtain ⟨P, hP⟩ : ∃ P, P = Ch.pickTo b.turns day := ⟨_, rfl⟩
  have hlen : ∀ k, (P k).length ≤ k := fun k => by rw [hP]; exact Ch.pickTo_len _ _ _
  have hyes : ∀ k : Nat, ((k : Int) + 1 = day ∨ (k : Int) + 1 ∈ b.turns) → P (k + 1) = P k ++ [(k : Int) + 1] := fun k h => by rw [hP]; exact Ch.pickTo_yes h
  have hno : ∀ k : Nat, ¬ ((k : Int) + 1 = day ∨ (k : Int) + 1 ∈ b.turns) → P (k + 1) = P k := fun k h => by rw [hP]; exact Ch.pickTo_no h
  have hP0 : P 0 = [] := by rw [hP]; rfl
  have HP := Lib.hid hP
  have HLEN := Lib.hid hlen
  have HYES := Lib.hid hyes
  have HNO := Lib.hid hno
  clear hP hlen hyes hno
  go_loopw [6] (fun i wr => ∃ (k : Nat) (v : Value), (k : Int) ≤ b.days ∧ i = I ((k : Int) + 1) ∧ Below (w.heap.size + 1 + 1) W1 wr ∧ wr.heap[w.heap.size + 1 + 1]? = some (.cells #[.slice A0 b.secs.length k0, v, .slice A2 b.svs.length k2, I b.rule, I b.days] 26 (0, 0)) ∧ wr.ownsRow (w.heap.size + 1 + 1 + 1) 3 1 v (P k).length ((P k).map I)) (fun i _ => b.days.toNat + 1 - (intOf i).toNat)
  case atStart => exact ⟨0, .slice none 0 0, by omega, rfl, Below.refl _ _, rX, by rw [hP0]; exact World.ownsRow_nil _ _ _ _⟩
  case round =>
    obtain ⟨k, v, hk, rfl, hB, rX, hown⟩ := hrel
    have hbw : Below w.heap.size w wr := HB1.out.trans (hB.mono (by omega))
    have rBr := (hB.block w.heap.size (by omega)).trans RB.out
    have qB1 := cell_of_row wr _ 1 _ _ _ rBr
    have qB4 := cell_of_row wr _ 4 _ _ _ rBr
    simp only [List.getElem?_toArray, List.getElem?_cons_zero, List.getElem?_cons_succ] at qB1 qB4
    have HBr := Lib.hid hB
    have HBW := Lib.hid hbw
    have RX := Lib.hid rX
    have HOWN := Lib.hid hown
    clear hB hbw rX hown rB rO rBr hb1 hz1 hW1 hP0
    have hk1 : IntKind.i64.wrap ((k : Int) + 1 + 1) = (k : Int) + 1 + 1 := IntWalk.i64_in _ (by omega)
    by_cases hlt : (k : Int) + 1 ≤ b.days
    · have hl := HLEN.out k
      obtain ⟨m, hm⟩ : ∃ m, (P k).length = m := ⟨_, rfl⟩
      obtain ⟨xs, hxs⟩ : ∃ xs, (P k).map I = xs := ⟨_, rfl⟩
      rw [hm] at hl
      have HM := Lib.hid hm
      have HXS := Lib.hid hxs
      clear hm hxs
      by_cases hday : (k : Int) + 1 = day
      · have hdb : ((k : Int) + 1 == day) = true := by simp [hday]
        have HK := Lib.hid (HYES.out k (.inl hday))
        have hown2 := HOWN.out
        rw [HM.out, HXS.out] at hown2
        have HOWN2 := Lib.hid hown2
        have HB12 := Lib.hid HBr.out
        have RX2 := Lib.hid RX.out
        have qX := cell_of_row wr _ 1 _ _ _ RX2.out
        simp only [List.getElem?_toArray, List.getElem?_cons_zero, List.getElem?_cons_succ] at qX
        have hzw := heap_lt RX2.out
        obtain ⟨i0, hi, hz0, hz1', hz2'⟩ := info_parts infoInt
        clear hday hown2
        go_wp2_with (at_builtin; go_must (refine wpList_append_own_at _ rfl _ _ 23 rfl (w.heap.size + 1 + 1 + 1) 3 i0 (I 0) 1 8 under23 hi hz0 hz1' hz2' rfl (by decide) v m xs rfl (HOWN2.out.alloc _) ⟨wr.heap.size, 0, none⟩ 1 1 [I ((k : Int) + 1)] rfl rfl (cell_one_new _ _ _) (by simp [Value.oneCell']) (by unfold maxLen; omega) (by omega) (by simp; omega) ?_; intro v' w3 hown' hgrow hnil hat; obtain ⟨g, cap, rfl⟩ := own_form hown'; have HOW := Lib.hid hown'; have hAB : Below (w.heap.size + 1 + 1 + 1) wr w3 := Below.trans ((Below.refl _ _).alloc (by omega) _) ⟨hgrow.os, hgrow.tape, hgrow.output, hgrow.size, fun i hi => hgrow.block i (by simp; omega) (fun e => by have := (HOWN2.out.lt i e.symm).1; omega)⟩; have RX3 := Lib.hid ((hAB.block _ (Nat.lt_succ_self _)).trans RX2.out); have HAB := Lib.hid hAB; have qX3 := cell_of_row w3 _ 1 _ _ _ RX3.out; simp only [List.getElem?_toArray, List.getElem?_cons_zero, List.getElem?_cons_succ] at qX3; have fX3 : w3.frozen? ⟨w.heap.size + 1 + 1, 1, none⟩ = false := (by simp [World.frozen?, RX3.out]); clear hown' hgrow hnil hat hAB qX))
        go_roundw
        case rel =>
          refine ⟨k + 1, .slice (some ⟨g, 0, none⟩) (m + 1) cap, by omega, by go_num, ?_, by simp [World.setCell, Array.getElem?_modify, RX3.out], ?_⟩
          · exact (HB12.out.trans (HAB.out.mono (Nat.le_succ _))).setCell (p := ⟨w.heap.size + 1 + 1, 1, none⟩) (Nat.le_refl _) _
          · rw [HK.out, List.length_append, List.map_append, HM.out, HXS.out]
            refine World.ownsRow.kept (row := some (w.heap.size + 1 + 1)) HOW.out ⟨rfl, rfl, rfl, by simp [World.setCell], fun k _ hk => Below.heap_setCell _ _ _ _ (fun e => hk (by rw [e]))⟩ (.inr ?_)
            have := (HOW.out.lt g rfl).1
            simp [Value.ownBlock]
            omega
        case measure => simp [intOf]; omega
      · have hdb : ((k : Int) + 1 == day) = false := by simp [hday]
        go_wp2_with fail
        refine (at_any b.turns ((k : Int) + 1) _ wr ((HB.out.turns.below HBW.out (Nat.le_refl _)).more HBW.out.size)).mono ?_
        rintro e w2 ⟨rfl, hB2⟩
        clear qB1 qB4
        obtain ⟨q, hq⟩ : ∃ q : Int, Ch.indexOf b.turns ((k : Int) + 1) = q := ⟨_, rfl⟩
        have hmem := (Ch.indexOf_nonneg (l := b.turns) (x := (k : Int) + 1))
        rw [hq] at hmem ⊢
        have HB12 := Lib.hid (show Below (w.heap.size + 1 + 1) W1 w2 from HBr.out.trans (hB2.mono (Nat.le_of_lt (heap_lt RX.out))))
        have RX2 := Lib.hid ((hB2.block _ (heap_lt RX.out)).trans RX.out)
        have hown2 := HOWN.out.kept (grown_of_below hB2 none) (by cases v.ownBlock <;> simp)
        rw [HM.out, HXS.out] at hown2
        have HOWN2 := Lib.hid hown2
        clear hB2 hown2 hq
        by_cases hin : (k : Int) + 1 ∈ b.turns
        · have hq0 : 0 ≤ q := hmem.2 hin
          have HK := Lib.hid (HYES.out k (.inr hin))
          have qX := cell_of_row w2 _ 1 _ _ _ RX2.out
          simp only [List.getElem?_toArray, List.getElem?_cons_zero, List.getElem?_cons_succ] at qX
          have hzw := heap_lt RX2.out
          obtain ⟨i0, hi, hz0, hz1', hz2'⟩ := info_parts infoInt
          clear hmem hin hday
          go_wp2_with (at_builtin; go_must (refine wpList_append_own_at _ rfl _ _ 23 rfl (w.heap.size + 1 + 1 + 1) 3 i0 (I 0) 1 8 under23 hi hz0 hz1' hz2' rfl (by decide) v m xs rfl (HOWN2.out.alloc _) ⟨w2.heap.size, 0, none⟩ 1 1 [I ((k : Int) + 1)] rfl rfl (cell_one_new _ _ _) (by simp [Value.oneCell']) (by unfold maxLen; omega) (by omega) (by simp; omega) ?_; intro v' w3 hown' hgrow hnil hat; obtain ⟨g, cap, rfl⟩ := own_form hown'; have HOW := Lib.hid hown'; have hAB : Below (w.heap.size + 1 + 1 + 1) w2 w3 := Below.trans ((Below.refl _ _).alloc (by omega) _) ⟨hgrow.os, hgrow.tape, hgrow.output, hgrow.size, fun i hi => hgrow.block i (by simp; omega) (fun e => by have := (HOWN2.out.lt i e.symm).1; omega)⟩; have RX3 := Lib.hid ((hAB.block _ (Nat.lt_succ_self _)).trans RX2.out); have HAB := Lib.hid hAB; have qX3 := cell_of_row w3 _ 1 _ _ _ RX3.out; simp only [List.getElem?_toArray, List.getElem?_cons_zero, List.getElem?_cons_succ] at qX3; have fX3 : w3.frozen? ⟨w.heap.size + 1 + 1, 1, none⟩ = false := (by simp [World.frozen?, RX3.out]); clear hown' hgrow hnil hat hAB qX))
          go_roundw
          case rel =>
            refine ⟨k + 1, .slice (some ⟨g, 0, none⟩) (m + 1) cap, by omega, by go_num, ?_, by simp [World.setCell, Array.getElem?_modify, RX3.out], ?_⟩
            · exact (HB12.out.trans (HAB.out.mono (Nat.le_succ _))).setCell (p := ⟨w.heap.size + 1 + 1, 1, none⟩) (Nat.le_refl _) _
            · rw [HK.out, List.length_append, List.map_append, HM.out, HXS.out]
              refine World.ownsRow.kept (row := some (w.heap.size + 1 + 1)) HOW.out ⟨rfl, rfl, rfl, by simp [World.setCell], fun k _ hk => Below.heap_setCell _ _ _ _ (fun e => hk (by rw [e]))⟩ (.inr ?_)
              have := (HOW.out.lt g rfl).1
              simp [Value.ownBlock]
              omega
          case measure => simp [intOf]; omega
        · have hq0 : q < 0 := by
            by_cases hc : 0 ≤ q
            · exact absurd (hmem.1 hc) hin
            · omega
          have hqd : decide (0 ≤ q) = false := decide_eq_false (by omega)
          have HK := Lib.hid (HNO.out k (fun h => h.elim hday hin))
          clear hmem hin hday
          go_wp2_with fail
          go_roundw
          case rel => exact ⟨k + 1, v, by omega, by go_num, HB12.out, RX2.out, by rw [HK.out, HM.out, HXS.out]; exact HOWN2.out⟩
          case measure => simp [intOf]; omega
    · have hkd : (k : Int) = b.days := by omega
      have hlt' : b.days < (k : Int) + 1 := by omega
      have rO2 := (HBr.out.block (w.heap.size + 1) (by omega)).trans RO.out
      have hsl := sl_own HOWN.out (Nat.le_refl _)
      have HSL := Lib.hid hsl
      obtain ⟨Au, cu, rfl⟩ := hsl.form
      clear hsl
      have rX2 := RX.out
      have qX0 := cell_of_row wr _ 0 _ _ _ rX2
      have qO0 := cell_of_row wr _ 0 _ _ _ rO2
      have zO0 : wr.frozen? ⟨w.heap.size + 1, 0, none⟩ = false := by simp [World.frozen?, rO2]
      have qX1 := cell_of_row wr _ 1 _ _ _ rX2
      have qO1 := cell_of_row wr _ 1 _ _ _ rO2
      have zO1 : wr.frozen? ⟨w.heap.size + 1, 1, none⟩ = false := by simp [World.frozen?, rO2]
      have qX2 := cell_of_row wr _ 2 _ _ _ rX2
      have qO2 := cell_of_row wr _ 2 _ _ _ rO2
      have zO2 : wr.frozen? ⟨w.heap.size + 1, 2, none⟩ = false := by simp [World.frozen?, rO2]
      have qX3 := cell_of_row wr _ 3 _ _ _ rX2
      have qO3 := cell_of_row wr _ 3 _ _ _ rO2
      have zO3 : wr.frozen? ⟨w.heap.size + 1, 3, none⟩ = false := by simp [World.frozen?, rO2]
      have qX4 := cell_of_row wr _ 4 _ _ _ rX2
      have qO4 := cell_of_row wr _ 4 _ _ _ rO2
      have zO4 : wr.frozen? ⟨w.heap.size + 1, 4, none⟩ = false := by simp [World.frozen?, rO2]
      simp only [List.getElem?_toArray, List.getElem?_cons_zero, List.getElem?_cons_succ] at qX0 qX1 qX2 qX3 qX4 qO0 qO1 qO2 qO3 qO4
      have HKD := Lib.hid hkd
      clear rX2 rO2 hkd hlt
      go_wp2_with fail
      have hne : ∀ g o n c, (Value.slice Au (P k).length cu) = .slice (some ⟨g, o, none⟩) n c → g ≠ w.heap.size + 1 := fun g o n c e => by
        have := (HOWN.out.lt g (by rw [e]; rfl)).1
        omega
      have hPe : P k = Ch.pickTo b.turns day b.days.toNat := by rw [HP.out, show b.days.toNat = k by have := HKD.out; omega]
      have hbe : Below w.heap.size w (((((wr.setCell ⟨w.heap.size + 1, 0, none⟩ (.slice A0 b.secs.length k0)).setCell ⟨w.heap.size + 1, 1, none⟩ (.slice Au (P k).length cu)).setCell ⟨w.heap.size + 1, 2, none⟩ (.slice A2 b.svs.length k2)).setCell ⟨w.heap.size + 1, 3, none⟩ (I b.rule)).setCell ⟨w.heap.size + 1, 4, none⟩ (I b.days)) := by
        refine Below.setCell (Below.setCell (Below.setCell (Below.setCell (Below.setCell HBW.out ?_ _) ?_ _) ?_ _) ?_ _) ?_ _
        all_goals (simp)
      refine bodyPost_ret (v := vBk (.slice A0 b.secs.length k0) (.slice Au (P k).length cu) (.slice A2 b.svs.length k2) b.rule b.days) (by simp [results, Tryz.results45, go_sem, qO0, qO1, qO2, qO3, qO4]) rfl ⟨⟨_, rfl, ?_⟩, hbe⟩
      refine ⟨(HB.out.secs.below hbe (Nat.le_refl _)).more hbe.size, ?_, (HB.out.svs.below hbe (Nat.le_refl _)).more hbe.size⟩
      show Sl _ _ 1 _ (Ch.pickTo b.turns day b.days.toNat).length ((Ch.pickTo b.turns day b.days.toNat).map I)
      rw [← hPe]
      refine Sl.more (HSL.out.same (fun g o n c e => ?_)) (by simp [World.setCell])
      have h1 := hne g o n c e
      exact (Below.heap_setCell _ _ _ _ h1).trans ((Below.heap_setCell _ _ _ _ h1).trans ((Below.heap_setCell _ _ _ _ h1).trans ((Below.heap_setCell _ _ _ _ h1).trans (Below.heap_setCell _ _ _ _ h1))))

end Go.Proofs.YtkfahochpnggbaaGreat
