/- Texts on the program that the proof leans on, part 41. -/
import Derived.Test.YtkfahochpnggbaaGreatYac
import Derived.Test.YtkfahochpnggbaaGreatYaa
set_option linter.unusedVariables false
set_option linter.unusedSimpArgs false

/- Contracts of the statements' small helpers: Inside, Valid, Mod; sound. -/
namespace Go.Proofs.YtkfahochpnggbaaGreat
open Go.RowKit

set_option maxHeartbeats 400000 in
theorem in_any (n lo hi : Int) (w : World) :
    Calls Tryz.prog 38 #[I n, I lo, I hi] w fun e w' => e = .returned (.bool (Ch.between n lo hi)) ∧ Below w.heap.size w w' := by
  by_cases h1 : lo ≤ n <;> by_cases h2 : n ≤ hi
  all_goals
    go_enter Tryz.func38, Tryz.ntmps38
    go_wp2
    go_ret
    exact ⟨ret_b (by simp [Ch.between, h1, h2]), Below.refl _ _⟩

set_option maxHeartbeats 400000 in
theorem validSp_any (s : Ch.Sp) (lo hi : Int) (w : World) :
    Calls Tryz.prog 72 #[vSp s, I lo, I hi] w fun e w' => e = .returned (.bool (decide (lo ≤ s.lo) && decide (s.lo ≤ s.hi) && decide (s.hi ≤ hi))) ∧ Below w.heap.size w w' := by
  obtain ⟨a, b⟩ := s
  by_cases h1 : lo ≤ a <;> by_cases h2 : a ≤ b <;> by_cases h3 : b ≤ hi
  all_goals
    go_enter Tryz.func72, Tryz.ntmps72
    go_wp2
    go_ret
    exact ⟨ret_b (by simp [h1, h2, h3]), (Below.refl _ _).alloc (Nat.le_refl _) _⟩

end Go.Proofs.YtkfahochpnggbaaGreat

/- Contract of the statements' sound: whether there is a book. -/
namespace Go.Proofs.YtkfahochpnggbaaGreat
open Go.RowKit

namespace Ch
theorem sound_facts {b : Bk} (h : check b = 0) : between b.secs.length 1 4 = true ∧ between b.days 1 30 = true ∧ between b.rule 0 200 = true ∧ b.turns.length ≤ 4 ∧ b.svs.length ≤ 8 ∧
    (∀ k (hk : k < b.secs.length), (decide (0 ≤ b.secs[k].thick.lo) && decide (b.secs[k].thick.lo ≤ b.secs[k].thick.hi) && decide (b.secs[k].thick.hi ≤ 200)) = true ∧ (decide (0 ≤ b.secs[k].wear.lo) && decide (b.secs[k].wear.lo ≤ b.secs[k].wear.hi) && decide (b.secs[k].wear.hi ≤ 3)) = true) ∧
    (∀ k (hk : k < b.svs.length), between b.svs[k].sec 0 ((b.secs.length : Int) - 1) = true ∧ between b.svs[k].day 0 b.days = true ∧ between b.svs[k].err 0 5 = true) := by
  have hv : valid b = true := by
    unfold check at h
    split at h
    · assumption
    · omega
  simp only [valid, Bool.and_eq_true] at hv
  obtain ⟨⟨⟨⟨h1, h2⟩, -⟩, -⟩, h5⟩ := hv
  simp only [sized, bnds, List.all_cons, List.all_nil, Bool.and_eq_true] at h1
  refine ⟨h1.1, h1.2.1, h1.2.2.1, ?_, ?_, ?_, ?_⟩
  · have := h1.2.2.2.1; simp [between] at this; omega
  · have := h1.2.2.2.2; simp [between] at this; omega
  · intro k hk
    have := List.all_eq_true.1 h2 _ (List.getElem_mem hk)
    simp [okSec, isSpan] at this ⊢
    omega
  · intro k hk
    have := List.all_eq_true.1 h5 _ (List.getElem_mem hk)
    simp [isSurvey, isSection, isDay, between] at this ⊢
    omega
end Ch

set_option maxRecDepth 100000 in
set_option maxHeartbeats 4000000 in
theorem sound_any (b : Ch.Bk) (S T V : Value) (w : World) (hb : RB w w.heap.size b S T V) :
    Calls Tryz.prog 21 #[vBk S T V b.rule b.days] w fun e w' => e = .returned (.bool (decide (Ch.check b = 0))) ∧ Below w.heap.size w w' := by
  obtain ⟨A0, c0, rfl⟩ := hb.secs.form
  obtain ⟨A1, c1, rfl⟩ := hb.turns.form
  obtain ⟨A2, c2, rfl⟩ := hb.svs.form
  obtain ⟨o, ho⟩ : ∃ o : Obj, o = .cells #[.slice A0 b.secs.length c0, .slice A1 b.turns.length c1, .slice A2 b.svs.length c2, I b.rule, I b.days] 26 := ⟨_, rfl⟩
  have hb_0 : Below w.heap.size w (w.alloc o) := (Below.refl _ _).alloc (Nat.le_refl _) _
  have hr := heap_at w o rfl
  have hl0 : w.heap.size < (w.alloc o).heap.size := by simp
  have hb0 := hb_0
  subst ho
  have c0_0 := cell_of_row _ _ 0 _ _ _ hr
  have c1_0 := cell_of_row _ _ 1 _ _ _ hr
  have c2_0 := cell_of_row _ _ 2 _ _ _ hr
  have c3_0 := cell_of_row _ _ 3 _ _ _ hr
  have c4_0 := cell_of_row _ _ 4 _ _ _ hr
  simp only [List.getElem?_toArray, List.getElem?_cons_zero, List.getElem?_cons_succ] at c0_0 c1_0 c2_0 c3_0 c4_0
  clear hr
  go_enter Tryz.func21, Tryz.ntmps21
  go_wp2_with fail
  refine (check_any b _ _ _ _ ((hb.below hb_0 (Nat.le_refl _)).more hb_0.size)).mono ?_
  rintro e w1 ⟨rfl, hB1⟩
  clear hb_0
  have hl1 := Nat.lt_of_lt_of_le hl0 hB1.size
  have c0_1 := (hB1.cell (p := ⟨w.heap.size, 0, none⟩) hl0).trans c0_0
  have c1_1 := (hB1.cell (p := ⟨w.heap.size, 1, none⟩) hl0).trans c1_0
  have c2_1 := (hB1.cell (p := ⟨w.heap.size, 2, none⟩) hl0).trans c2_0
  have c3_1 := (hB1.cell (p := ⟨w.heap.size, 3, none⟩) hl0).trans c3_0
  have c4_1 := (hB1.cell (p := ⟨w.heap.size, 4, none⟩) hl0).trans c4_0
  have hb1 := hb0.trans (hB1.mono hb0.size)
  clear hB1 hl0 hb0 c0_0 c1_0 c2_0 c3_0 c4_0
  by_cases hc : Ch.check b = 0
  · rw [hc]
    obtain ⟨f1, f2, f3, f4, f5, f6, f7⟩ := Ch.sound_facts hc
    have hd : decide (Ch.check b = 0) = true := by simp [hc]
    have HD := Lib.hid hd
    clear hd
    have f4' : (b.turns.length : Int) ≤ 4 := by omega
    have f5' : (b.svs.length : Int) ≤ 8 := by omega
    have F6 := Lib.hid f6
    have F7 := Lib.hid f7
    have HB := Lib.hid hb
    have HC := Lib.hid hc
    have f8 : (1 : Int) ≤ b.secs.length := by simp [Ch.between] at f1; omega
    have f9 : (b.secs.length : Int) ≤ 4 := by simp [Ch.between] at f1; omega
    clear f6 f7 hb hc
    go_wp2_with fail
    refine (in_any _ _ _ _).mono ?_
    rintro e w2 ⟨rfl, hB2⟩
    rw [f1]
    have hl2 := Nat.lt_of_lt_of_le hl1 hB2.size
    have c0_2 := (hB2.cell (p := ⟨w.heap.size, 0, none⟩) hl1).trans c0_1
    have c1_2 := (hB2.cell (p := ⟨w.heap.size, 1, none⟩) hl1).trans c1_1
    have c2_2 := (hB2.cell (p := ⟨w.heap.size, 2, none⟩) hl1).trans c2_1
    have c3_2 := (hB2.cell (p := ⟨w.heap.size, 3, none⟩) hl1).trans c3_1
    have c4_2 := (hB2.cell (p := ⟨w.heap.size, 4, none⟩) hl1).trans c4_1
    have hb2 := hb1.trans (hB2.mono hb1.size)
    clear hB2 hl1 hb1 c0_1 c1_1 c2_1 c3_1 c4_1
    go_wp2_with fail
    refine (in_any _ _ _ _).mono ?_
    rintro e w3 ⟨rfl, hB3⟩
    rw [f2]
    have hl3 := Nat.lt_of_lt_of_le hl2 hB3.size
    have c0_3 := (hB3.cell (p := ⟨w.heap.size, 0, none⟩) hl2).trans c0_2
    have c1_3 := (hB3.cell (p := ⟨w.heap.size, 1, none⟩) hl2).trans c1_2
    have c2_3 := (hB3.cell (p := ⟨w.heap.size, 2, none⟩) hl2).trans c2_2
    have c3_3 := (hB3.cell (p := ⟨w.heap.size, 3, none⟩) hl2).trans c3_2
    have c4_3 := (hB3.cell (p := ⟨w.heap.size, 4, none⟩) hl2).trans c4_2
    have hb3 := hb2.trans (hB3.mono hb2.size)
    clear hB3 hl2 hb2 c0_2 c1_2 c2_2 c3_2 c4_2
    go_wp2_with fail
    refine (in_any _ _ _ _).mono ?_
    rintro e w4 ⟨rfl, hB4⟩
    rw [f3]
    have hl4 := Nat.lt_of_lt_of_le hl3 hB4.size
    have c0_4 := (hB4.cell (p := ⟨w.heap.size, 0, none⟩) hl3).trans c0_3
    have c1_4 := (hB4.cell (p := ⟨w.heap.size, 1, none⟩) hl3).trans c1_3
    have c2_4 := (hB4.cell (p := ⟨w.heap.size, 2, none⟩) hl3).trans c2_3
    have c3_4 := (hB4.cell (p := ⟨w.heap.size, 3, none⟩) hl3).trans c3_3
    have c4_4 := (hB4.cell (p := ⟨w.heap.size, 4, none⟩) hl3).trans c4_3
    have hb4 := hb3.trans (hB4.mono hb3.size)
    clear hB4 hl3 hb3 c0_3 c1_3 c2_3 c3_3 c4_3
    have HB4 := Lib.hid hb4
    clear hb4
    go_wp2_with fail
    go_loopw [3, 4] (fun ok i wr => ok = .bool true ∧ ∃ k : Nat, k ≤ b.secs.length ∧ i = I k ∧ Below w4.heap.size w4 wr) (fun _ i _ => b.secs.length - (intOf i).toNat)
    case atStart => exact ⟨rfl, 0, Nat.zero_le _, rfl, Below.refl _ _⟩
    case round =>
      obtain ⟨rfl, k, hk, rfl, hBr⟩ := hrel
      have hzr := Nat.lt_of_lt_of_le hl4 hBr.size
      have d0 := (hBr.cell (p := ⟨w.heap.size, 0, none⟩) hl4).trans c0_4
      have d2 := (hBr.cell (p := ⟨w.heap.size, 2, none⟩) hl4).trans c2_4
      have d4 := (hBr.cell (p := ⟨w.heap.size, 4, none⟩) hl4).trans c4_4
      have hbr := HB4.out.trans (hBr.mono HB4.out.size)
      have HBR := Lib.hid hbr
      have HB4R := Lib.hid hBr
      by_cases hlt : k < b.secs.length
      · have hlti : (k : Int) < b.secs.length := by omega
        obtain ⟨g1, g2⟩ := F6.out k hlt
        obtain ⟨bl, off, cc, hv, hbl, s0, s1, s2, s3⟩ := (HB.out.below hbr (Nat.le_refl _)).sec hlt
        injection hv with hA _ hcc
        subst hA hcc
        have hblr : bl < wr.heap.size := by omega
        clear hbr hBr
        go_wp2_with fail
        refine (validSp_any b.secs[k].thick _ _ _).mono ?_
        rintro e u1 ⟨rfl, hU1⟩
        rw [g1]
        have e0 := (hU1.cell (p := ⟨w.heap.size, 0, none⟩) hzr).trans d0
        have t0 := (hU1.cell (p := ⟨bl, off + k * 4, none⟩) hblr).trans s0
        have t1 := (hU1.cell (p := ⟨bl, off + k * 4 + 1, none⟩) hblr).trans s1
        have t2 := (hU1.cell (p := ⟨bl, off + k * 4 + 2, none⟩) hblr).trans s2
        have t3 := (hU1.cell (p := ⟨bl, off + k * 4 + 3, none⟩) hblr).trans s3
        have hb5 := HB4R.out.trans (hU1.mono HB4R.out.size)
        clear hU1 d0 d2 d4 s0 s1 s2 s3
        go_wp2_with fail
        refine (validSp_any b.secs[k].wear _ _ _).mono ?_
        rintro e u2 ⟨rfl, hU2⟩
        rw [g2]
        have hb6 := hb5.trans (hU2.mono hb5.size)
        clear hU2 hb5 e0 t0 t1 t2 t3
        go_wp2_with fail
        go_roundw
        case rel => exact ⟨rfl, k + 1, by omega, by go_num, hb6⟩
        case measure => simp [intOf]; omega
      · obtain rfl : k = b.secs.length := by omega
        clear hBr hlt HB4R
        clear hbr
        obtain ⟨wo, rfl⟩ : ∃ wo : World, wo = wr := ⟨_, rfl⟩
        clear c0_4 c1_4 c2_4 c3_4 c4_4 HB4 hl4 F6
        go_wp2_with fail
        go_loopw [3, 5] (fun ok i wr => ok = .bool true ∧ ∃ k : Nat, k ≤ b.svs.length ∧ i = I k ∧ Below wo.heap.size wo wr) (fun _ i _ => b.svs.length - (intOf i).toNat)
        case atStart => exact ⟨rfl, 0, Nat.zero_le _, rfl, Below.refl _ _⟩
        case round =>
          obtain ⟨rfl, k, hk, rfl, hBr⟩ := hrel
          have hzw := Nat.lt_of_lt_of_le hzr hBr.size
          have x0 := (hBr.cell (p := ⟨w.heap.size, 0, none⟩) hzr).trans d0
          have x2 := (hBr.cell (p := ⟨w.heap.size, 2, none⟩) hzr).trans d2
          have x4 := (hBr.cell (p := ⟨w.heap.size, 4, none⟩) hzr).trans d4
          have hbr := HBR.out.trans (hBr.mono HBR.out.size)
          have HBW := Lib.hid hbr
          have HBR2 := Lib.hid hBr
          by_cases hlt : k < b.svs.length
          · have hlti : (k : Int) < b.svs.length := by omega
            obtain ⟨g1, g2, g3⟩ := F7.out k hlt
            obtain ⟨bl, off, cc, hv, hbl, s0, s1, s2, s3⟩ := (HB.out.below hbr (Nat.le_refl _)).sv hlt
            injection hv with hA _ hcc
            subst hA hcc
            have hblr : bl < wr.heap.size := by omega
            obtain ⟨o, ho⟩ : ∃ o : Obj, o = .cells #[I b.svs[k].sec, I b.svs[k].day, I b.svs[k].read, I b.svs[k].err] 34 := ⟨_, rfl⟩
            have hA0 : Below wr.heap.size wr (wr.alloc o) := (Below.refl _ _).alloc (Nat.le_refl _) _
            have hrow := heap_at wr o rfl
            have hlA : wr.heap.size < (wr.alloc o).heap.size := by simp
            have x0a := (hA0.cell (p := ⟨w.heap.size, 0, none⟩) hzw).trans x0
            have x4a := (hA0.cell (p := ⟨w.heap.size, 4, none⟩) hzw).trans x4
            have hzA := Nat.lt_of_lt_of_le hzw hA0.size
            have hbA := HBR2.out.trans (hA0.mono HBR2.out.size)
            subst ho
            clear hbr hBr hA0
            go_wp2_with fail
            refine (in_any _ _ _ _).mono ?_
            rintro e u1 ⟨rfl, hU1⟩
            rw [g1]
            have hrow1 := (hU1.block _ hlA).trans hrow
            have x4b := (hU1.cell (p := ⟨w.heap.size, 4, none⟩) hzA).trans x4a
            have y1 := cell_of_row u1 _ 1 _ _ _ hrow1
            simp only [List.getElem?_toArray, List.getElem?_cons_zero, List.getElem?_cons_succ] at y1
            have hb5 := hbA.trans (hU1.mono hbA.size)
            have hlB := Nat.lt_of_lt_of_le hlA hU1.size
            clear hU1 hbA hrow x0a x4a
            go_wp2_with fail
            refine (in_any _ _ _ _).mono ?_
            rintro e u2 ⟨rfl, hU2⟩
            rw [g2]
            have hrow2 := (hU2.block _ hlB).trans hrow1
            have y3 := cell_of_row u2 _ 3 _ _ _ hrow2
            simp only [List.getElem?_toArray, List.getElem?_cons_zero, List.getElem?_cons_succ] at y3
            have hb6 := hb5.trans (hU2.mono hb5.size)
            clear hU2 hb5 hrow1 y1 x4b
            go_wp2_with fail
            refine (in_any _ _ _ _).mono ?_
            rintro e u3 ⟨rfl, hU3⟩
            rw [g3]
            have hb7 := hb6.trans (hU3.mono hb6.size)
            clear hU3 hb6 hrow2 y3
            go_wp2_with fail
            go_roundw
            case rel => exact ⟨rfl, k + 1, by omega, by go_num, hb7⟩
            case measure => simp [intOf]; omega
          · obtain rfl : k = b.svs.length := by omega
            clear hBr hlt HBR2 hbr
            go_wp2_with fail
            go_ret
            exact ⟨ret_b HD.out.symm, HBW.out⟩
  · have hd : decide (Ch.check b = 0) = false := by simp [hc]
    have HD := Lib.hid hd
    have hne : (Ch.check b == 0) = false := by simp [hc]
    have HB1 := Lib.hid hb1
    clear hd hc hb1
    go_wp2_with fail
    go_loopw [3, 4] (fun ok i wr => ok = .bool false ∧ i = I 0 ∧ wr = w1) (fun _ _ _ => 0)
    case atStart => exact ⟨rfl, rfl, rfl⟩
    case round =>
      obtain ⟨rfl, rfl, hw⟩ := hrel
      subst hw
      go_wp2_with fail
      obtain ⟨wo, rfl⟩ : ∃ wo : World, wo = wr := ⟨_, rfl⟩
      go_loopw [3, 5] (fun ok i wr => ok = .bool false ∧ i = I 0 ∧ wr = wo) (fun _ _ _ => 0)
      case atStart => exact ⟨rfl, rfl, rfl⟩
      case round =>
        obtain ⟨rfl, rfl, hw⟩ := hrel
        subst hw
        go_wp2_with fail
        go_ret
        exact ⟨ret_b HD.out.symm, HB1.out⟩

end Go.Proofs.YtkfahochpnggbaaGreat

/- Contract of Mod. -/
namespace Go.Proofs.YtkfahochpnggbaaGreat
open Go.RowKit

set_option maxHeartbeats 400000 in
theorem mod_any (n many : Int) (h0 : 0 < many) (hm : many ≤ 1000) (w : World) :
    Calls Tryz.prog 27 #[I n, I many] w fun e w' => e = .returned (I (n % many)) ∧ Below w.heap.size w w' := by
  have h1 : ¬ many ≤ 0 := by omega
  have h2 : (many == 0) = false := by simp; omega
  have hp := Int.emod_nonneg n (b := many) (by omega)
  have hq := Int.emod_lt_of_pos n h0
  by_cases hc : 0 ≤ n ∨ many ∣ n
  · have h3 : n.tmod many = n % many := by rw [Int.tmod_eq_emod, if_pos hc]; simp
    have h4 : ¬ n % many < 0 := by omega
    clear hc
    go_enter Tryz.func27, Tryz.ntmps27
    go_wp2
    go_ret
    exact ⟨rfl, Below.refl _ _⟩
  · have h3 : n.tmod many = n % many - many := by rw [Int.tmod_eq_emod, if_neg hc]; omega
    have h4 : n % many - many < 0 := by omega
    have h5 : IntKind.i64.wrap (n % many - many + many) = n % many := by rw [IntWalk.i64_in] <;> omega
    clear hc
    go_enter Tryz.func27, Tryz.ntmps27
    go_wp2
    go_ret
    exact ⟨rfl, Below.refl _ _⟩

end Go.Proofs.YtkfahochpnggbaaGreat
