/- Texts on the program that the proof leans on, part 29. -/
import Derived.Test.YtjgpghaofhcfnaaYbb
set_option linter.unusedVariables false
set_option linter.unusedSimpArgs false

namespace Go.Proofs.Ytjgpghaofhcfnaa
open Go.RowKit
namespace Ld
theorem sound_facts {b : Bk} (h : check b = 0) : between b.tides.length 1 24 = true ∧ (decide (0 ≤ b.empty.lo) && decide (b.empty.lo ≤ b.empty.hi) && decide (b.empty.hi ≤ 40)) = true ∧ between b.sink 1 20 = true ∧ between b.under 0 10 = true ∧ b.sounds.length ≤ 6 ∧
 (∀ k (hk : k < b.tides.length), (decide (-40 ≤ b.tides[k].lo) && decide (b.tides[k].lo ≤ b.tides[k].hi) && decide (b.tides[k].hi ≤ 80)) = true) ∧
 (∀ k : Nat, (decide (-40 ≤ (shore b k).floor.lo) && decide ((shore b k).floor.lo ≤ (shore b k).floor.hi) && decide ((shore b k).floor.hi ≤ 80)) = true ∧ between (shore b k).lo (-40) (shore b k).hi = true ∧ (shore b k).hi ≤ 80) ∧
 (∀ k (hk : k < b.sounds.length), between b.sounds[k].hour 0 ((b.tides.length : Int) - 1) = true ∧ between b.sounds[k].shore 0 1 = true) := by
 have hv : valid b = true := by
  unfold check at h
  split at h
  · assumption
  · omega
 obtain ⟨h1, h2, h3, h4, h5⟩ := valid_parts hv
 have s1 := sized_bd h1
 refine ⟨by simp [between]; omega, ?_, by simp [between]; omega, by simp [between]; omega, s1.2.2.2.2.2.2, ?_, ?_, ?_⟩
 · have := known_bd h4
   simp only at this
   simp
   omega
 · intro k hk
   have := known_bd (List.all_eq_true.1 h2 _ (List.getElem_mem hk))
   simp [heights] at this ⊢
   omega
 · intro k
   have h6 := floor_bd h3 k
   refine ⟨by simp; omega, by simp [between]; omega, by omega⟩
 · intro k hk
   have := List.all_eq_true.1 h5 _ (List.getElem_mem hk)
   simp [okSound, isSlip, isHour, isShore, between] at this ⊢
   omega
end Ld
set_option maxRecDepth 100000 in
set_option maxHeartbeats 4000000 in
theorem sound_any (b : Ld.Bk) (T D : Value) (w : World) (hb : RB w w.heap.size b T D) :
 Calls Try.prog 12 #[vBk T D b] w fun e w' => e = .returned (.bool (decide (Ld.check b = 0))) ∧ Below w.heap.size w w' := by
 obtain ⟨A0, c0, rfl⟩ := hb.tides.form
 obtain ⟨A1, c1, rfl⟩ := hb.sounds.form
 have HRB := Lib.hid hb
 clear hb
 have hB0 : Below w.heap.size w (w.alloc (.cells (rBk (.slice A0 b.tides.length c0) (.slice A1 b.sounds.length c1) b) 30)) := (Below.refl _ _).alloc (Nat.le_refl _) _
 go_enter Try.func12, Try.ntmps12
 go_wp2_with fail
 refine (check_any b _ _ _ (HRB.out.up hB0)).mono ?_
 rintro e w1 ⟨rfl, hB1⟩
 have hb1 : Below w.heap.size w w1 := hB0.trans (hB1.mono hB0.size)
 have e1 : w1.heap[w.heap.size]? = some (.cells (rBk (.slice A0 b.tides.length c0) (.slice A1 b.sounds.length c1) b) 30 (0, 0)) := (hB1.block _ (by simp)).trans (heap_at _ _ rfl)
 clear hB0 hB1
 by_cases hc : Ld.check b = 0
 · rw [hc]
   obtain ⟨f1, f2, f3, f4, f5, f6, f7, f8⟩ := Ld.sound_facts hc
   have hd : decide (Ld.check b = 0) = true := by simp [hc]
   have HD := Lib.hid hd
   have f5' : (b.sounds.length : Int) ≤ 6 := by omega
   have F6 := Lib.hid f6
   have F7 := Lib.hid f7
   have F8 := Lib.hid f8
   have f9 : (1 : Int) ≤ b.tides.length := by simp [Ld.between] at f1; omega
   have f10 : (b.tides.length : Int) ≤ 24 := by simp [Ld.between] at f1; omega
   clear f6 f7 f8 hc hd
   have a0 := cell_of_row w1 _ 0 _ _ _ e1
   have a9 := cell_of_row w1 _ 9 _ _ _ e1
   have a10 := cell_of_row w1 _ 10 _ _ _ e1
   have a11 := cell_of_row w1 _ 11 _ _ _ e1
   have a12 := cell_of_row w1 _ 12 _ _ _ e1
   have a13 := cell_of_row w1 _ 13 _ _ _ e1
   simp only [List.getElem?_toArray, List.getElem?_cons_zero, List.getElem?_cons_succ] at a0 a9 a10 a11 a12 a13
   have hz := heap_lt e1
   have HB1 := Lib.hid hb1
   have E1 := Lib.hid e1
   clear e1 hb1
   go_wp2_with fail
   refine (in_any _ _ _ _).mono ?_
   rintro e w2 ⟨rfl, hB2⟩
   rw [f1]
   have hb2 := HB1.out.trans (hB2.mono HB1.out.size)
   have e2 := (hB2.block _ hz).trans E1.out
   clear a0 a9 a10 a11 a12 a13 hz hB2
   have a0 := cell_of_row w2 _ 0 _ _ _ e2
   have a9 := cell_of_row w2 _ 9 _ _ _ e2
   have a10 := cell_of_row w2 _ 10 _ _ _ e2
   have a11 := cell_of_row w2 _ 11 _ _ _ e2
   have a12 := cell_of_row w2 _ 12 _ _ _ e2
   have a13 := cell_of_row w2 _ 13 _ _ _ e2
   simp only [List.getElem?_toArray, List.getElem?_cons_zero, List.getElem?_cons_succ] at a0 a9 a10 a11 a12 a13
   have hz := heap_lt e2
   have HB2 := Lib.hid hb2
   have E2 := Lib.hid e2
   clear e2 hb2
   go_wp2_with fail
   refine (validSp_any b.empty _ _ _).mono ?_
   rintro e w3 ⟨rfl, hB3⟩
   rw [f2]
   have hb3 := HB2.out.trans (hB3.mono HB2.out.size)
   have e3 := (hB3.block _ hz).trans E2.out
   clear a0 a9 a10 a11 a12 a13 hz hB3
   have a0 := cell_of_row w3 _ 0 _ _ _ e3
   have a9 := cell_of_row w3 _ 9 _ _ _ e3
   have a10 := cell_of_row w3 _ 10 _ _ _ e3
   have a11 := cell_of_row w3 _ 11 _ _ _ e3
   have a12 := cell_of_row w3 _ 12 _ _ _ e3
   have a13 := cell_of_row w3 _ 13 _ _ _ e3
   simp only [List.getElem?_toArray, List.getElem?_cons_zero, List.getElem?_cons_succ] at a0 a9 a10 a11 a12 a13
   have hz := heap_lt e3
   have HB3 := Lib.hid hb3
   have E3 := Lib.hid e3
   clear e3 hb3
   go_wp2_with fail
   refine (in_any _ _ _ _).mono ?_
   rintro e w4 ⟨rfl, hB4⟩
   rw [f3]
   have hb4 := HB3.out.trans (hB4.mono HB3.out.size)
   have e4 := (hB4.block _ hz).trans E3.out
   clear a0 a9 a10 a11 a12 a13 hz hB4
   have a0 := cell_of_row w4 _ 0 _ _ _ e4
   have a9 := cell_of_row w4 _ 9 _ _ _ e4
   have a10 := cell_of_row w4 _ 10 _ _ _ e4
   have a11 := cell_of_row w4 _ 11 _ _ _ e4
   have a12 := cell_of_row w4 _ 12 _ _ _ e4
   have a13 := cell_of_row w4 _ 13 _ _ _ e4
   simp only [List.getElem?_toArray, List.getElem?_cons_zero, List.getElem?_cons_succ] at a0 a9 a10 a11 a12 a13
   have hz := heap_lt e4
   have HB4 := Lib.hid hb4
   have E4 := Lib.hid e4
   clear e4 hb4
   go_wp2_with fail
   refine (in_any _ _ _ _).mono ?_
   rintro e w5 ⟨rfl, hB5⟩
   rw [f4]
   have hb5 := HB4.out.trans (hB5.mono HB4.out.size)
   have e5 := (hB5.block _ hz).trans E4.out
   clear a0 a9 a10 a11 a12 a13 hz hB5
   have a0 := cell_of_row w5 _ 0 _ _ _ e5
   have a13 := cell_of_row w5 _ 13 _ _ _ e5
   simp only [List.getElem?_toArray, List.getElem?_cons_zero, List.getElem?_cons_succ] at a0 a13
   have HB5 := Lib.hid hb5
   have E5 := Lib.hid e5
   have hl5 := heap_lt e5
   clear hb5 e5
   go_wp2_with fail
   clear a0 a13
   go_loopw [3, 4] (fun ok i wr => ok = .bool true ∧ ∃ k : Nat, k ≤ b.tides.length ∧ i = I k ∧ Below w5.heap.size w5 wr) (fun _ i _ => b.tides.length - (intOf i).toNat)
   case atStart => exact ⟨rfl, 0, Nat.zero_le _, rfl, Below.refl _ _⟩
   case round =>
    obtain ⟨rfl, k, hk, rfl, hBr⟩ := hrel
    have er := (hBr.block _ hl5).trans E5.out
    have hbr := HB5.out.trans (hBr.mono HB5.out.size)
    have a0 := cell_of_row wr _ 0 _ _ _ er
    have a13 := cell_of_row wr _ 13 _ _ _ er
    simp only [List.getElem?_toArray, List.getElem?_cons_zero, List.getElem?_cons_succ] at a0 a13
    have ER := Lib.hid er
    have HBR := Lib.hid hbr
    have HB5R := Lib.hid hBr
    have hzr := heap_lt er
    by_cases hlt : k < b.tides.length
    · have hlti : (k : Int) < b.tides.length := by omega
      have g1 := F6.out k hlt
      obtain ⟨bl, off, cc, hv, hbl, s0, s1⟩ := (HRB.out.up hbr).tide hlt
      injection hv with hA _ hcc
      subst hA hcc
      clear hbr hBr er
      go_wp2_with fail
      refine (validSp_any b.tides[k] _ _ _).mono ?_
      rintro e u1 ⟨rfl, hU1⟩
      rw [g1]
      have hb6 := HB5R.out.trans (hU1.mono HB5R.out.size)
      clear hU1 s0 s1 a0 a13
      go_wp2_with fail
      go_roundw
      case rel => exact ⟨rfl, k + 1, by omega, by go_num, hb6⟩
      case measure => simp [intOf]; omega
    · obtain rfl : k = b.tides.length := by omega
      clear hBr hlt HB5R hbr er
      obtain ⟨wo, rfl⟩ : ∃ wo : World, wo = wr := ⟨_, rfl⟩
      clear E5 HB5 hl5 F6
      go_wp2_with fail
      clear a0 a13
      go_loopw [3, 5] (fun ok i wr => ok = .bool true ∧ ∃ k : Nat, k ≤ 2 ∧ i = I k ∧ Below wo.heap.size wo wr) (fun _ i _ => 2 - (intOf i).toNat)
      case atStart => exact ⟨rfl, 0, Nat.zero_le _, rfl, Below.refl _ _⟩
      case round =>
       obtain ⟨rfl, k, hk, rfl, hBr⟩ := hrel
       have er := (hBr.block _ hzr).trans ER.out
       have hbr := HBR.out.trans (hBr.mono HBR.out.size)
       have a0 := cell_of_row wr _ 0 _ _ _ er
       have a1 := cell_of_row wr _ 1 _ _ _ er
       have a2 := cell_of_row wr _ 2 _ _ _ er
       have a3 := cell_of_row wr _ 3 _ _ _ er
       have a4 := cell_of_row wr _ 4 _ _ _ er
       have a5 := cell_of_row wr _ 5 _ _ _ er
       have a6 := cell_of_row wr _ 6 _ _ _ er
       have a7 := cell_of_row wr _ 7 _ _ _ er
       have a8 := cell_of_row wr _ 8 _ _ _ er
       have a13 := cell_of_row wr _ 13 _ _ _ er
       simp only [List.getElem?_toArray, List.getElem?_cons_zero, List.getElem?_cons_succ] at a0 a1 a2 a3 a4 a5 a6 a7 a8 a13
       have ER2 := Lib.hid er
       have HBR2 := Lib.hid hbr
       have HBO := Lib.hid hBr
       have hzs := heap_lt er
       clear hbr hBr er
       have hcase : k = 0 ∨ k = 1 ∨ k = 2 := by omega
       rcases hcase with rfl | rfl | rfl
       · obtain ⟨g1, g2, g3⟩ := F7.out 0
         change (decide (-40 ≤ b.s0.floor.lo) && decide (b.s0.floor.lo ≤ b.s0.floor.hi) && decide (b.s0.floor.hi ≤ 80)) = true at g1
         change Ld.between b.s0.lo (-40) b.s0.hi = true at g2
         change b.s0.hi ≤ 80 at g3
         have hA0 : Below wr.heap.size wr (wr.alloc (.cells #[I b.s0.floor.lo, I b.s0.floor.hi, I b.s0.lo, I b.s0.hi] 26)) := (Below.refl _ _).alloc (Nat.le_refl _) _
         go_wp2_with fail
         refine (validSp_any b.s0.floor _ _ _).mono ?_
         rintro e u1 ⟨rfl, hU1⟩
         rw [g1]
         have hrow1 := (hU1.block wr.heap.size (by simp)).trans (heap_at wr (.cells #[I b.s0.floor.lo, I b.s0.floor.hi, I b.s0.lo, I b.s0.hi] 26) rfl)
         have y2 := cell_of_row u1 _ 2 _ _ _ hrow1
         have y3 := cell_of_row u1 _ 3 _ _ _ hrow1
         simp only [List.getElem?_toArray, List.getElem?_cons_zero, List.getElem?_cons_succ] at y2 y3
         have hb6 := hA0.trans (hU1.mono hA0.size)
         have HB6 := Lib.hid hb6
         have HROW1 := Lib.hid hrow1
         have hzu := heap_lt hrow1
         clear hU1 hA0 hrow1 hb6 a0 a1 a2 a3 a4 a5 a6 a7 a8 a13
         go_wp2_with fail
         refine (in_any _ _ _ _).mono ?_
         rintro e u2 ⟨rfl, hU2⟩
         rw [g2]
         have hrow2 := (hU2.block _ hzu).trans HROW1.out
         have v3 := cell_of_row u2 _ 3 _ _ _ hrow2
         simp only [List.getElem?_toArray, List.getElem?_cons_zero, List.getElem?_cons_succ] at v3
         have hb7 := HB6.out.trans (hU2.mono HB6.out.size)
         have HB7 := Lib.hid (HBO.out.trans (hb7.mono HBO.out.size))
         clear hU2 hb7 hrow2 y2 y3
         go_wp2_with fail
         go_roundw
         case rel => exact ⟨rfl, 1, by omega, by go_num, HB7.out⟩
         case measure => simp [intOf]
       · obtain ⟨g1, g2, g3⟩ := F7.out 1
         change (decide (-40 ≤ b.s1.floor.lo) && decide (b.s1.floor.lo ≤ b.s1.floor.hi) && decide (b.s1.floor.hi ≤ 80)) = true at g1
         change Ld.between b.s1.lo (-40) b.s1.hi = true at g2
         change b.s1.hi ≤ 80 at g3
         have hA0 : Below wr.heap.size wr (wr.alloc (.cells #[I b.s1.floor.lo, I b.s1.floor.hi, I b.s1.lo, I b.s1.hi] 26)) := (Below.refl _ _).alloc (Nat.le_refl _) _
         go_wp2_with fail
         refine (validSp_any b.s1.floor _ _ _).mono ?_
         rintro e u1 ⟨rfl, hU1⟩
         rw [g1]
         have hrow1 := (hU1.block wr.heap.size (by simp)).trans (heap_at wr (.cells #[I b.s1.floor.lo, I b.s1.floor.hi, I b.s1.lo, I b.s1.hi] 26) rfl)
         have y2 := cell_of_row u1 _ 2 _ _ _ hrow1
         have y3 := cell_of_row u1 _ 3 _ _ _ hrow1
         simp only [List.getElem?_toArray, List.getElem?_cons_zero, List.getElem?_cons_succ] at y2 y3
         have hb6 := hA0.trans (hU1.mono hA0.size)
         have HB6 := Lib.hid hb6
         have HROW1 := Lib.hid hrow1
         have hzu := heap_lt hrow1
         clear hU1 hA0 hrow1 hb6 a0 a1 a2 a3 a4 a5 a6 a7 a8 a13
         go_wp2_with fail
         refine (in_any _ _ _ _).mono ?_
         rintro e u2 ⟨rfl, hU2⟩
         rw [g2]
         have hrow2 := (hU2.block _ hzu).trans HROW1.out
         have v3 := cell_of_row u2 _ 3 _ _ _ hrow2
         simp only [List.getElem?_toArray, List.getElem?_cons_zero, List.getElem?_cons_succ] at v3
         have hb7 := HB6.out.trans (hU2.mono HB6.out.size)
         have HB7 := Lib.hid (HBO.out.trans (hb7.mono HBO.out.size))
         clear hU2 hb7 hrow2 y2 y3
         go_wp2_with fail
         go_roundw
         case rel => exact ⟨rfl, 2, by omega, by go_num, HB7.out⟩
         case measure => simp [intOf]
       · clear HBO
         obtain ⟨wp, rfl⟩ : ∃ wp : World, wp = wr := ⟨_, rfl⟩
         clear ER HBR hzr F7
         go_wp2_with fail
         clear a0 a1 a2 a3 a4 a5 a6 a7 a8 a13
         go_loopw [3, 7] (fun ok i wr => ok = .bool true ∧ ∃ k : Nat, k ≤ b.sounds.length ∧ i = I k ∧ Below wp.heap.size wp wr) (fun _ i _ => b.sounds.length - (intOf i).toNat)
         case atStart => exact ⟨rfl, 0, Nat.zero_le _, rfl, Below.refl _ _⟩
         case round =>
          obtain ⟨rfl, k, hk, rfl, hBr⟩ := hrel
          have er := (hBr.block _ hzs).trans ER2.out
          have hbr := HBR2.out.trans (hBr.mono HBR2.out.size)
          have a0 := cell_of_row wr _ 0 _ _ _ er
          have a13 := cell_of_row wr _ 13 _ _ _ er
          simp only [List.getElem?_toArray, List.getElem?_cons_zero, List.getElem?_cons_succ] at a0 a13
          have ER3 := Lib.hid er
          have HBR3 := Lib.hid hbr
          have HBP := Lib.hid hBr
          have hzt := heap_lt er
          by_cases hlt : k < b.sounds.length
          · have hlti : (k : Int) < b.sounds.length := by omega
            obtain ⟨g1, g2⟩ := F8.out k hlt
            obtain ⟨bl, off, cc, hv, hbl, s0, s1, s2⟩ := Sl.sd (HRB.out.up hbr).sounds hlt
            injection hv with hA _ hcc
            subst hA hcc
            generalize b.sounds[k] = x at g1 g2 s0 s1 s2
            have hA0 : Below wr.heap.size wr (wr.alloc (.cells #[I x.hour, I x.shore, I x.deep] 64)) := (Below.refl _ _).alloc (Nat.le_refl _) _
            have hrow := heap_at wr (.cells #[I x.hour, I x.shore, I x.deep] 64) rfl
            have HR := Lib.hid hrow
            have HA := Lib.hid hA0
            clear hbr hBr er hrow hA0
            go_wp2_with fail
            refine (in_any _ _ _ _).mono ?_
            rintro e u1 ⟨rfl, hU1⟩
            rw [g1]
            have hrow1 := (hU1.block _ (heap_lt HR.out)).trans HR.out
            have y1 := cell_of_row u1 _ 1 _ _ _ hrow1
            simp only [List.getElem?_toArray, List.getElem?_cons_zero, List.getElem?_cons_succ] at y1
            have hb6 := HA.out.trans (hU1.mono HA.out.size)
            have HB6 := Lib.hid hb6
            clear hU1 hrow1 hb6 a0 a13 s0 s1 s2
            go_wp2_with fail
            refine (in_any _ _ _ _).mono ?_
            rintro e u2 ⟨rfl, hU2⟩
            rw [g2]
            have hb7 := HB6.out.trans (hU2.mono HB6.out.size)
            have HB7 := Lib.hid (HBP.out.trans (hb7.mono HBP.out.size))
            clear hU2 hb7 y1
            go_wp2_with fail
            go_roundw
            case rel =>
             refine ⟨_, _, _, _, _, _, _, _, _, _, _, _, _, _, _, _, _, _, _, _, _, _, _, _, _, _, _, _, _, _, ⟨rfl, k + 1, by omega, ?_, HB7.out⟩, rfl⟩
             go_num
            case measure => simp [intOf]; omega
          · obtain rfl : k = b.sounds.length := by omega
            clear hBr hlt hbr er
            go_wp2_with fail
            go_ret
            exact ⟨ret_b HD.out.symm, HBR3.out⟩
 · have hd : decide (Ld.check b = 0) = false := by simp [hc]
   have HD := Lib.hid hd
   have hne : (Ld.check b == 0) = false := by simp [hc]
   have HB1 := Lib.hid hb1
   clear hd hc hb1 e1
   go_wp2_with fail
   go_loopw [3, 4] (fun ok i wr => ok = .bool false ∧ i = I 0 ∧ wr = w1) (fun _ _ _ => 0)
   case atStart => exact ⟨rfl, rfl, rfl⟩
   case round =>
    obtain ⟨rfl, rfl, hw⟩ := hrel
    subst hw
    go_wp2_with fail
    obtain ⟨wo, rfl⟩ : ∃ wo : World, wo = wr := ⟨_, rfl⟩
    go_loopw [3, 5] (fun ok i wr => ok = .bool false ∧ i = I 0 ∧ wr = wo) (fun _ _ _ => 0)
    case atStart => exact ⟨rfl, rfl, rfl⟩
    case round =>
     obtain ⟨rfl, rfl, hw⟩ := hrel
     subst hw
     go_wp2_with fail
     obtain ⟨wp, rfl⟩ : ∃ wp : World, wp = wr := ⟨_, rfl⟩
     go_loopw [3, 7] (fun ok i wr => ok = .bool false ∧ i = I 0 ∧ wr = wp) (fun _ _ _ => 0)
     case atStart => exact ⟨rfl, rfl, rfl⟩
     case round =>
      obtain ⟨rfl, rfl, hw⟩ := hrel
      subst hw
      go_wp2_with fail
      go_ret
      exact ⟨ret_b HD.out.symm, HB1.out⟩
end Go.Proofs.Ytjgpghaofhcfnaa
namespace Go.Proofs.Ytjgpghaofhcfnaa
open Go.RowKit
set_option maxHeartbeats 400000 in
theorem mod_any (n many : Int) (h0 : 0 < many) (hm : many ≤ 1000) (w : World) :
 Calls Try.prog 16 #[I n, I many] w fun e w' => e = .returned (I (n % many)) ∧ Below w.heap.size w w' := by
 have h1 : ¬ many ≤ 0 := by omega
 have h2 : (many == 0) = false := by simp; omega
 have hp := Int.emod_nonneg n (b := many) (by omega)
 have hq := Int.emod_lt_of_pos n h0
 by_cases hc : 0 ≤ n ∨ many ∣ n
 · have h3 : n.tmod many = n % many := by rw [Int.tmod_eq_emod, if_pos hc]; simp
   have h4 : ¬ n % many < 0 := by omega
   clear hc
   go_enter Try.func16, Try.ntmps16
   go_wp2
   go_ret
   exact ⟨rfl, Below.refl _ _⟩
 · have h3 : n.tmod many = n % many - many := by rw [Int.tmod_eq_emod, if_neg hc]; omega
   have h4 : n % many - many < 0 := by omega
   have h5 : IntKind.i64.wrap (n % many - many + many) = n % many := by rw [IntWalk.i64_in] <;> omega
   clear hc
   go_enter Try.func16, Try.ntmps16
   go_wp2
   go_ret
   exact ⟨rfl, Below.refl _ _⟩
end Go.Proofs.Ytjgpghaofhcfnaa
