/- Texts on the program that the proof leans on, part 43. -/
import Derived.Test.YtjgpghaofhcfnaaYbk
import Derived.Test.YtjgpghaofhcfnaaYbp
set_option linter.unusedVariables false
set_option linter.unusedSimpArgs false

namespace Go.Proofs.Ytjgpghaofhcfnaa
open Go.RowKit
set_option maxRecDepth 100000 in
set_option maxHeartbeats 8000000 in
theorem rightly_any (b : Ld.Bk) (T D H : Value) (k : Ld.Kn) (hv : Ld.valid b = true) (hk : Ld.Truly b k) (w : World) (hB : RB w w.heap.size b T D) (hH : Sl w w.heap.size 1 H k.heights.length (k.heights.map I)) :
 Calls Try.prog 15 #[vBk T D b, vKn H k] w fun e w' => (∃ V', e = .returned (vBk T V' b) ∧ Sl w' w'.heap.size 3 V' (Ld.rightly b k).sounds.length ((Ld.rightly b k).sounds.flatMap cSd)) ∧ Below w.heap.size w w' := by
 obtain ⟨A0, k0, rfl⟩ := hB.tides.form
 obtain ⟨A2, k2, rfl⟩ := hB.sounds.form
 obtain ⟨AH, hc, rfl⟩ := hH.form
 have hvp := Ld.valid_parts hv
 have hs6 := (Ld.sized_bd hvp.1).2.2.2.2.2.2
 have HVP := Lib.hid hvp
 have HK := Lib.hid hk
 have HB := Lib.hid hB
 have HH := Lib.hid hH
 clear hvp hk hB hH hv
 go_enter Try.func15, Try.ntmps15
 go_wp2_with fail
 refine name_world ?_
 intro W1 hW1
 have hb1 : Below w.heap.size w W1 := by rw [hW1]; exact ((((Below.refl _ _).alloc (Nat.le_refl _) _).alloc (by simp) _).alloc (by simp <;> omega) _).alloc (by simp <;> omega) _
 have rB : W1.heap[w.heap.size]? = some (.cells (rBk (.slice A0 b.tides.length k0) (.slice A2 b.sounds.length k2) b) 30 (0, 0)) := by rw [hW1]; exact (Below.heap_alloc _ _ _ (by simp <;> omega)).trans ((Below.heap_alloc _ _ _ (by simp <;> omega)).trans ((Below.heap_alloc _ _ _ (by simp)).trans (heap_at _ _ rfl)))
 have rK : W1.heap[w.heap.size + 1]? = some (.cells #[.slice AH k.heights.length hc, I k.f0, I k.f1, I k.empty] 37 (0, 0)) := by rw [hW1]; exact (Below.heap_alloc _ _ _ (by simp <;> omega)).trans ((Below.heap_alloc _ _ _ (by simp)).trans (heap_at _ _ (by simp)))
 have rO : W1.heap[w.heap.size + 1 + 1]? = some (.cells #[.slice none 0 0, I 0, I 0, I 0, I 0, I 0, I 0, I 0, I 0, I 0, I 0, I 0, I 0, .slice none 0 0] 30 (0, 0)) := by rw [hW1]; exact (Below.heap_alloc _ _ _ (by simp)).trans (heap_at _ _ (by simp))
 have rX : W1.heap[w.heap.size + 1 + 1 + 1]? = some (.cells (rBk (.slice A0 b.tides.length k0) (.slice none 0 0) b) 30 (0, 0)) := by rw [hW1]; exact heap_at _ _ (by simp)
 obtain ⟨X, hX⟩ : ∃ X : Nat, X = w.heap.size + 1 + 1 + 1 := ⟨_, rfl⟩
 rw [← hX] at rX ⊢
 have hX0 : w.heap.size < X := by omega
 have hX1 : w.heap.size + 1 < X := by omega
 have hX2 : w.heap.size + 1 + 1 < X := by omega
 have HB1 := Lib.hid hb1
 have RB := Lib.hid rB
 have RK := Lib.hid rK
 have RO := Lib.hid rO
 clear hW1 hX hb1 rB rK rO
 go_loopw [6] (fun i wr => ∃ (j : Nat) (v : Value), j ≤ b.sounds.length ∧ i = I j ∧ Below X W1 wr ∧ wr.heap[X]? = some (.cells (rBk (.slice A0 b.tides.length k0) v b) 30 (0, 0)) ∧ wr.ownsRow (X + 1) 64 3 v (Ld.rightTo b k j).length ((Ld.rightTo b k j).flatMap cSd)) (fun i _ => b.sounds.length - (intOf i).toNat)
 case atStart => exact ⟨0, .slice none 0 0, Nat.zero_le _, rfl, Below.refl _ _, rX, World.ownsRow_nil _ _ _ _⟩
 case round =>
  obtain ⟨j, v, hj, rfl, hBw, rXr, hown⟩ := hrel
  have hbw : Below w.heap.size w wr := HB1.out.trans (hBw.mono (Nat.le_of_lt hX0))
  have rBr := (hBw.block _ hX0).trans RB.out
  have rKr := (hBw.block _ hX1).trans RK.out
  have qB13 := cell_of_row wr _ 13 _ _ _ rBr
  simp only [List.getElem?_toArray, List.getElem?_cons_zero, List.getElem?_cons_succ] at qB13
  have HBr := Lib.hid hBw
  have HBW := Lib.hid hbw
  have RXR := Lib.hid rXr
  have RBR := Lib.hid rBr
  have RKR := Lib.hid rKr
  have HOWN := Lib.hid hown
  clear hBw hbw rXr rBr rKr hown
  by_cases hlt : j < b.sounds.length
  · have hji : (j : Int) < b.sounds.length := by omega
    have hle := Ld.rightTo_len b k j
    obtain ⟨sb, so, c', hv, hsb, q0, q1, q2⟩ := (HB.out.sounds.below HBW.out (Nat.le_refl _)).sd hlt
    injection hv with hA _ hcc
    subst hA hcc
    have hsd := Ld.sound_bd HVP.out.2.2.2.2 (List.getElem_mem hlt)
    have HYES := Lib.hid (Ld.rightTo_yes (k := k) hlt)
    have HNO := Lib.hid (Ld.rightTo_no (k := k) hlt)
    obtain ⟨x, hx⟩ : ∃ x, b.sounds[j] = x := ⟨_, rfl⟩
    rw [hx] at q0 q1 q2 hsd
    have HX := Lib.hid hx
    obtain ⟨hn, hhn⟩ : ∃ n : Nat, x.hour = n := ⟨x.hour.toNat, by omega⟩
    obtain ⟨sn, hsn⟩ : ∃ n : Nat, x.shore = n := ⟨x.shore.toNat, by omega⟩
    have hs01 : sn = 0 ∨ sn = 1 := by omega
    have hh1 : hn < b.tides.length := by omega
    have hlen : hn < k.heights.length := by rw [HK.out.len]; exact hh1
    have hzz : k.high hn = k.heights[hn] := by unfold Ld.Kn.high; rw [List.getD_eq_getElem?_getD, List.getElem?_eq_getElem hlen]; rfl
    obtain ⟨hb, ho, c2, hv2, hhb, ch⟩ := (HH.out.below HBW.out (Nat.le_refl _)).int hlen
    injection hv2 with hA2 _ hc2
    subst hA2 hc2
    have htb := HK.out.high hn hh1
    have htd := Ld.tide_bd HVP.out.2.1 hh1
    have hfb0 := Ld.floor_bd HVP.out.2.2.1 0
    have hfb1 := Ld.floor_bd HVP.out.2.2.1 1
    have ht0 := HK.out.at0
    have ht1 := HK.out.at1
    rw [show Ld.shore b 0 = b.s0 from rfl] at hfb0
    rw [show Ld.shore b 1 = b.s1 from rfl] at hfb1
    have hfl : -40 ≤ k.tr.at sn ∧ k.tr.at sn ≤ 80 := by
     rcases hs01 with rfl | rfl
     · show -40 ≤ k.f0 ∧ k.f0 ≤ 80; omega
     · show -40 ≤ k.f1 ∧ k.f1 ≤ 80; omega
    have hdeep : (Ld.rightSd k x).deep = k.high hn - k.tr.at sn := by
     show k.high x.hour.toNat - k.tr.at x.shore.toNat = _
     rw [hhn, hsn, Int.toNat_natCast, Int.toNat_natCast]
    rw [← hzz] at ch
    obtain ⟨z, hz⟩ : ∃ z, k.high hn = z := ⟨_, rfl⟩
    obtain ⟨f, hf⟩ : ∃ f, k.tr.at sn = f := ⟨_, rfl⟩
    rw [hz] at ch htb hdeep
    rw [hf] at hfl hdeep
    have e1 : IntKind.i64.wrap (z - f) = z - f := IntWalk.i64_in _ (by omega)
    have hff : (sn = 0 → k.f0 = f) ∧ (sn = 1 → k.f1 = f) := ⟨fun h => by subst h; exact hf, fun h => by subst h; exact hf⟩
    have qK0 := cell_of_row wr _ 0 _ _ _ RKR.out
    have qK1 := cell_of_row wr _ 1 _ _ _ RKR.out
    have qK2 := cell_of_row wr _ 2 _ _ _ RKR.out
    simp only [List.getElem?_toArray, List.getElem?_cons_zero, List.getElem?_cons_succ] at qK0 qK1 qK2
    have qF : wr.cell? ⟨w.heap.size + 1, 1 + sn, none⟩ = some (I f) := hs01.elim (fun h => by subst h; rw [← hff.1 rfl]; exact qK1) (fun h => by subst h; rw [← hff.2 rfl]; exact qK2)
    have hni : (hn : Int) < k.heights.length := by omega
    have hsi : (sn : Int) < 2 := by omega
    rw [hhn] at q0
    rw [hsn] at q1
    have HD := Lib.hid hdeep
    have HHN := Lib.hid hhn
    have HSN := Lib.hid hsn
    have lK := heap_lt RKR.out
    have lBb := heap_lt RBR.out
    have lhb : hb < wr.heap.size := Nat.lt_of_lt_of_le hhb HBW.out.size
    have lsb : sb < wr.heap.size := Nat.lt_of_lt_of_le hsb HBW.out.size
    have lXr := heap_lt RXR.out
    clear hx hhn hsn hs01 hzz hz hf hff htb htd hfb0 hfb1 ht0 ht1 hfl hdeep hlen hh1 qK1 qK2 hsd hhb hsb
    go_upto_region 7 with fail
    refine name_world ?_
    intro W2 hW2
    have hA2 : Below wr.heap.size wr W2 := by rw [hW2]; exact (Below.refl _ _).alloc (Nat.le_refl _) _
    have rY : W2.heap[wr.heap.size]? = some (.cells #[I hn, I sn, I x.deep] 64 (0, 0)) := by rw [hW2]; exact heap_at _ _ rfl
    have qF2 := (hA2.cell (p := ⟨w.heap.size + 1, 1 + sn, none⟩) lK).trans qF
    have qH2 := (hA2.cell (p := ⟨w.heap.size + 1, 0, none⟩) lK).trans qK0
    have ch2 := (hA2.cell (p := ⟨hb, ho + hn, none⟩) lhb).trans ch
    have qY0 := cell_of_row W2 _ 0 _ _ _ rY
    have qY1 := cell_of_row W2 _ 1 _ _ _ rY
    have qY2 := cell_of_row W2 _ 2 _ _ _ rY
    simp only [List.getElem?_toArray, List.getElem?_cons_zero, List.getElem?_cons_succ] at qY0 qY1 qY2
    have fY2 : W2.frozen? ⟨wr.heap.size, 2, none⟩ = false := by simp [World.frozen?, rY]
    have HA2 := Lib.hid hA2
    have RY := Lib.hid rY
    clear hW2 hA2 rY qF qK0 ch qB13 q0 q1 q2
    go_region
    go_upto_region 8 with fail
    refine name_world ?_
    intro W3 hW3
    have rY3 : W3.heap[wr.heap.size]? = some (.cells #[I hn, I sn, I (z - f)] 64 (0, 0)) := by rw [hW3]; simp [World.setCell, World.drew, Array.getElem?_modify, RY.out]
    have hB3 : Below wr.heap.size wr W3 := by rw [hW3]; exact (HA2.out.setCell (p := ⟨wr.heap.size, 2, none⟩) (Nat.le_refl _) _).drew
    clear hW3 qF2 qH2 ch2 qY0 qY1 qY2 fY2 HA2 RY
    have qY2 := cell_of_row W3 _ 2 _ _ _ rY3
    simp only [List.getElem?_toArray, List.getElem?_cons_zero, List.getElem?_cons_succ] at qY2
    go_wp2_with fail
    refine (in_any (z - f) 0 120 _).mono ?_
    rintro e w5 ⟨rfl, hB5⟩
    have rY5 := (hB5.block _ (heap_lt rY3)).trans rY3
    have hB35 := hB3.trans (hB5.mono hB3.size)
    have rX5 := (hB35.block _ lXr).trans RXR.out
    have own5 := HOWN.out.kept (grown_of_below hB35 none) (by cases v.ownBlock <;> simp)
    have HB35 := Lib.hid hB35
    have hx1 : Below X W1 w5 := HBr.out.trans (hB35.mono (Nat.le_of_lt lXr))
    have HX1 := Lib.hid hx1
    clear hB3 hB5 hB35 hx1 rY3 qY2
    cases hin : Ld.between (z - f) 0 120
    · have hno := HNO.out (by rw [HX.out, HD.out]; exact hin)
      have HNN := Lib.hid hno
      have RX5 := Lib.hid rX5
      have OWN5 := Lib.hid own5
      clear hno hin rY5 rX5 own5
      go_wp2_with fail
      go_roundw
      case rel => exact ⟨j + 1, v, by omega, by go_num, HX1.out, RX5.out, by rw [HNN.out]; exact OWN5.out⟩
      case measure => simp [intOf]; omega
    · have hyes := HYES.out (by rw [HX.out, HD.out]; exact hin)
      have hcs : cSd (Ld.rightSd k x) = cSd ⟨hn, sn, z - f⟩ := by
       show [I x.hour, I x.shore, I (Ld.rightSd k x).deep] = _
       rw [HHN.out, HSN.out, HD.out]
       rfl
      rw [HX.out] at hyes
      have HYY := Lib.hid hyes
      have HCS := Lib.hid hcs
      obtain ⟨n', hn'⟩ : ∃ n', (Ld.rightTo b k j).length = n' := ⟨_, rfl⟩
      obtain ⟨xs, hxs⟩ : ∃ xs, (Ld.rightTo b k j).flatMap cSd = xs := ⟨_, rfl⟩
      rw [hn', hxs] at own5
      rw [hn'] at hle
      have HM := Lib.hid hn'
      have HXS := Lib.hid hxs
      obtain ⟨y, hy⟩ : ∃ y : Ld.Sd, y = ⟨hn, sn, z - f⟩ := ⟨_, rfl⟩
      have rY6 : w5.heap[wr.heap.size]? = some (.cells #[I y.hour, I y.shore, I y.deep] 64 (0, 0)) := by rw [hy]; exact rY5
      rw [← hy] at hcs
      have HCY := Lib.hid hcs
      have hzX : X + 1 ≤ w5.heap.size := heap_lt rX5
      have ownA := own5.alloc (.cells #[I y.hour, I y.shore, I y.deep] 64)
      have rXA : (w5.alloc (.cells #[I y.hour, I y.shore, I y.deep] 64)).heap[X]? = some (.cells (rBk (.slice A0 b.tides.length k0) v b) 30 (0, 0)) := (Below.heap_alloc _ _ _ (heap_lt rX5)).trans rX5
      have hone : ∀ u ∈ cSd y, u.oneCell' = true := by intro u hu; simp [cSd] at hu; rcases hu with rfl | rfl | rfl <;> rfl
      have qX13 := cell_of_row w5 _ 13 _ _ _ rX5
      have qY0 := cell_of_row w5 _ 0 _ _ _ rY6
      have qY1 := cell_of_row w5 _ 1 _ _ _ rY6
      have qY2 := cell_of_row w5 _ 2 _ _ _ rY6
      simp only [List.getElem?_toArray, List.getElem?_cons_zero, List.getElem?_cons_succ] at qX13 qY0 qY1 qY2
      have OWN5 := Lib.hid own5
      have OWNA := Lib.hid ownA
      have RXA := Lib.hid rXA
      have HON := Lib.hid hone
      have HZX := Lib.hid hzX
      obtain ⟨i0, hi, hz0, hz1, hz2⟩ := info_parts infoSd
      clear hyes hcs hin rY5 rY6 rX5 own5 ownA rXA hone hy hn' hxs hzX
      go_wp2_with (at_builtin; go_must (refine wpList_append_own_at _ rfl _ _ 28 rfl (X + 1) 64 i0 (vSd ⟨0, 0, 0⟩) 3 24 underSds hi hz0 hz1 hz2 rfl (by decide) v n' xs (by rfl) OWNA.out ⟨w5.heap.size, 0, none⟩ 1 1 (cSd y) (by rfl) rfl (cSd_cells w5 y) HON.out (by unfold maxLen; omega) (by omega) (Nat.le_trans HZX.out (by simp)) ?_; intro v' w6 hown' hgrow hnil hat; obtain ⟨Av, cv, rfl⟩ := (sl_ownN hown' (Nat.le_refl _)).form; have HOW := Lib.hid hown'; have HGR := Lib.hid hgrow; have rX6 := (hgrow.block _ (heap_lt RXA.out) (fun e => by have := (OWNA.out.lt _ e.symm).1; omega)).trans RXA.out; have qX13' := cell_of_row w6 _ 13 _ _ _ rX6; simp only [List.getElem?_toArray, List.getElem?_cons_zero, List.getElem?_cons_succ] at qX13'; have fX13 : w6.frozen? ⟨X, 13, none⟩ = false := (by simp [World.frozen?, rX6]); have RX6 := Lib.hid rX6; clear hown' hgrow hnil hat rX6))
      go_roundw
      case rel =>
       refine ⟨j + 1, .slice Av (n' + 1) cv, by omega, by go_num, ?_, by simp [World.setCell, Array.getElem?_modify, RX6.out], ?_⟩
       · refine Below.setCell (p := ⟨X, 13, none⟩) (HX1.out.trans (Below.trans ((Below.refl _ _).alloc (Nat.le_refl _) _ |>.mono (Nat.le_of_lt HZX.out)) ⟨HGR.out.os, HGR.out.tape, HGR.out.output, HGR.out.size, fun i hi2 => HGR.out.block i (by simp; have := HZX.out; omega) (fun e => by have := (OWNA.out.lt _ e.symm).1; omega)⟩)) (Nat.le_refl _) _
       · rw [HYY.out, List.length_append, List.flatMap_append, HM.out, HXS.out]
         have e5 : ([Ld.rightSd k x]).flatMap cSd = cSd y := by rw [← HCY.out]; simp
         rw [e5]
         refine HOW.out.kept (row := some X) ⟨rfl, rfl, rfl, by simp [World.setCell], fun k _ hk => Below.heap_setCell _ _ _ _ (fun e => hk (by rw [e]))⟩ (.inr ?_)
         intro e
         have := (HOW.out.lt _ e).1
         omega
      case measure => simp [intOf]; omega
  · obtain rfl : j = b.sounds.length := by omega
    have rO2 := (HBr.out.block (w.heap.size + 1 + 1) hX2).trans RO.out
    have hsl := sl_ownN HOWN.out (Nat.le_refl _)
    have HSL := Lib.hid hsl
    obtain ⟨Au, cu, rfl⟩ := hsl.form
    clear hsl
    have rX2 := RXR.out
    have qX0 := cell_of_row wr _ 0 _ _ _ rX2
    have qO0 := cell_of_row wr _ 0 _ _ _ rO2
    have zO0 : wr.frozen? ⟨w.heap.size + 1 + 1, 0, none⟩ = false := by simp [World.frozen?, rO2]
    have qX1 := cell_of_row wr _ 1 _ _ _ rX2
    have qO1 := cell_of_row wr _ 1 _ _ _ rO2
    have zO1 : wr.frozen? ⟨w.heap.size + 1 + 1, 1, none⟩ = false := by simp [World.frozen?, rO2]
    have qX2 := cell_of_row wr _ 2 _ _ _ rX2
    have qO2 := cell_of_row wr _ 2 _ _ _ rO2
    have zO2 : wr.frozen? ⟨w.heap.size + 1 + 1, 2, none⟩ = false := by simp [World.frozen?, rO2]
    have qX3 := cell_of_row wr _ 3 _ _ _ rX2
    have qO3 := cell_of_row wr _ 3 _ _ _ rO2
    have zO3 : wr.frozen? ⟨w.heap.size + 1 + 1, 3, none⟩ = false := by simp [World.frozen?, rO2]
    have qX4 := cell_of_row wr _ 4 _ _ _ rX2
    have qO4 := cell_of_row wr _ 4 _ _ _ rO2
    have zO4 : wr.frozen? ⟨w.heap.size + 1 + 1, 4, none⟩ = false := by simp [World.frozen?, rO2]
    have qX5 := cell_of_row wr _ 5 _ _ _ rX2
    have qO5 := cell_of_row wr _ 5 _ _ _ rO2
    have zO5 : wr.frozen? ⟨w.heap.size + 1 + 1, 5, none⟩ = false := by simp [World.frozen?, rO2]
    have qX6 := cell_of_row wr _ 6 _ _ _ rX2
    have qO6 := cell_of_row wr _ 6 _ _ _ rO2
    have zO6 : wr.frozen? ⟨w.heap.size + 1 + 1, 6, none⟩ = false := by simp [World.frozen?, rO2]
    have qX7 := cell_of_row wr _ 7 _ _ _ rX2
    have qO7 := cell_of_row wr _ 7 _ _ _ rO2
    have zO7 : wr.frozen? ⟨w.heap.size + 1 + 1, 7, none⟩ = false := by simp [World.frozen?, rO2]
    have qX8 := cell_of_row wr _ 8 _ _ _ rX2
    have qO8 := cell_of_row wr _ 8 _ _ _ rO2
    have zO8 : wr.frozen? ⟨w.heap.size + 1 + 1, 8, none⟩ = false := by simp [World.frozen?, rO2]
    have qX9 := cell_of_row wr _ 9 _ _ _ rX2
    have qO9 := cell_of_row wr _ 9 _ _ _ rO2
    have zO9 : wr.frozen? ⟨w.heap.size + 1 + 1, 9, none⟩ = false := by simp [World.frozen?, rO2]
    have qX10 := cell_of_row wr _ 10 _ _ _ rX2
    have qO10 := cell_of_row wr _ 10 _ _ _ rO2
    have zO10 : wr.frozen? ⟨w.heap.size + 1 + 1, 10, none⟩ = false := by simp [World.frozen?, rO2]
    have qX11 := cell_of_row wr _ 11 _ _ _ rX2
    have qO11 := cell_of_row wr _ 11 _ _ _ rO2
    have zO11 : wr.frozen? ⟨w.heap.size + 1 + 1, 11, none⟩ = false := by simp [World.frozen?, rO2]
    have qX12 := cell_of_row wr _ 12 _ _ _ rX2
    have qO12 := cell_of_row wr _ 12 _ _ _ rO2
    have zO12 : wr.frozen? ⟨w.heap.size + 1 + 1, 12, none⟩ = false := by simp [World.frozen?, rO2]
    have qX13 := cell_of_row wr _ 13 _ _ _ rX2
    have qO13 := cell_of_row wr _ 13 _ _ _ rO2
    have zO13 : wr.frozen? ⟨w.heap.size + 1 + 1, 13, none⟩ = false := by simp [World.frozen?, rO2]
    simp only [List.getElem?_toArray, List.getElem?_cons_zero, List.getElem?_cons_succ] at qX0 qX1 qX2 qX3 qX4 qX5 qX6 qX7 qX8 qX9 qX10 qX11 qX12 qX13 qO0 qO1 qO2 qO3 qO4 qO5 qO6 qO7 qO8 qO9 qO10 qO11 qO12 qO13
    clear rX2 rO2
    go_wp2_with fail
    have hne : ∀ g o n c, (Value.slice Au (Ld.rightTo b k b.sounds.length).length cu) = .slice (some ⟨g, o, none⟩) n c → g ≠ w.heap.size + 1 + 1 := fun g o n c e => by
     have := (HOWN.out.lt g (by rw [e]; rfl)).1
     omega
    refine bodyPost_ret (v := vBk (.slice A0 b.tides.length k0) (.slice Au (Ld.rightTo b k b.sounds.length).length cu) b) (by simp [results, Try.results15, go_sem, qO0, qO1, qO2, qO3, qO4, qO5, qO6, qO7, qO8, qO9, qO10, qO11, qO12, qO13]) rfl ⟨⟨_, rfl, ?_⟩, ?_⟩
    · refine Sl.more (HSL.out.same (fun g o n c e => ?_)) (by simp [World.setCell])
      have h1 := hne g o n c e
      exact (Below.heap_setCell _ _ _ _ h1).trans ((Below.heap_setCell _ _ _ _ h1).trans ((Below.heap_setCell _ _ _ _ h1).trans ((Below.heap_setCell _ _ _ _ h1).trans ((Below.heap_setCell _ _ _ _ h1).trans ((Below.heap_setCell _ _ _ _ h1).trans ((Below.heap_setCell _ _ _ _ h1).trans ((Below.heap_setCell _ _ _ _ h1).trans ((Below.heap_setCell _ _ _ _ h1).trans ((Below.heap_setCell _ _ _ _ h1).trans ((Below.heap_setCell _ _ _ _ h1).trans ((Below.heap_setCell _ _ _ _ h1).trans ((Below.heap_setCell _ _ _ _ h1).trans (Below.heap_setCell _ _ _ _ h1)))))))))))))
    · refine Below.setCell (Below.setCell (Below.setCell (Below.setCell (Below.setCell (Below.setCell (Below.setCell (Below.setCell (Below.setCell (Below.setCell (Below.setCell (Below.setCell (Below.setCell (Below.setCell HBW.out ?_ _) ?_ _) ?_ _) ?_ _) ?_ _) ?_ _) ?_ _) ?_ _) ?_ _) ?_ _) ?_ _) ?_ _) ?_ _) ?_ _
      all_goals (simp <;> omega)
end Go.Proofs.Ytjgpghaofhcfnaa
