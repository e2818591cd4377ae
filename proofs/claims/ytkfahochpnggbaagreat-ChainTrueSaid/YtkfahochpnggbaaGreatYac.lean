/- Texts on the program that the proof leans on, part 3. -/
import Derived.Test.YtkfahochpnggbaaGreatYab
set_option linter.unusedVariables false
set_option linter.unusedSimpArgs false

/- Contracts of chain's checks of a book: how long sections last; turns; surveys; all of it. -/
namespace Go.Proofs.YtkfahochpnggbaaGreat
open Go.RowKit

set_option maxHeartbeats 1000000 in
theorem lastsAll_any (b : Ch.Bk) (S T V : Value) (w : World) (hb : RB w w.heap.size b S T V) (hs : Ch.sized b = true) (ha : Ch.allSections b = true) :
    Calls Tryz.prog 132 #[vBk S T V b.rule b.days] w fun e w' => e = .returned (.bool (Ch.lastsAll b)) ∧ Below w.heap.size w w' := by
  obtain ⟨A, c, rfl⟩ := hb.secs.form
  obtain ⟨hd1, hd2⟩ := Ch.sized_days hs
  obtain ⟨hn1, hn2⟩ := Ch.sized_secs hs
  go_enter Tryz.func132, Tryz.ntmps132
  go_wp2
  go_loopw [3, 11] (fun m i wr => ∃ k : Nat, k ≤ b.secs.length ∧ i = I k ∧ m = I (Ch.worst (b.secs.take k)) ∧ Below (w.heap.size + 1) (w.alloc (.cells #[.slice A b.secs.length c, T, V, I b.rule, I b.days] 26)) wr) (fun _ i _ => b.secs.length - (intOf i).toNat)
  case atStart => exact ⟨0, Nat.zero_le _, rfl, rfl, Below.refl _ _⟩
  case round =>
    obtain ⟨k, hk, rfl, rfl, hB⟩ := hrel
    have hz : w.heap.size < wr.heap.size := by have := hB.size; simp at this; omega
    have hBw : Below w.heap.size w wr := ((Below.refl _ _).alloc (Nat.le_refl _) _).trans (hB.mono (by omega))
    have hS : wr.cell? ⟨w.heap.size, 0, none⟩ = some (.slice A b.secs.length c) := (hB.cell (p := ⟨w.heap.size, 0, none⟩) (Nat.lt_succ_self _)).trans (by simp)
    by_cases hlt : k < b.secs.length
    · obtain ⟨bl, off, c', hv, hbl, h0, h1, h2, h3⟩ := (hb.below hBw (Nat.le_refl _)).sec hlt
      injection hv with hA _ hc
      subst hA hc
      have hw := Ch.worst_snoc (b.secs.take k) b.secs[k]
      rw [← List.take_succ_eq_append_getElem hlt] at hw
      by_cases hlt2 : Ch.worst (b.secs.take k) < b.secs[k].wear.hi
      all_goals
        have hw' := Lib.hid hw
        clear hw
        go_wp2_with fail
        go_roundw
        case rel => exact ⟨k + 1, by omega, by go_num, by rw [hw'.out]; go_num, hB.alloc (by omega) _⟩
        case measure => simp [intOf]; omega
    · obtain rfl : k = b.secs.length := by omega
      have hwl := Ch.worst_le b.secs ha
      rw [List.take_length]
      have hmul : 0 ≤ b.days * Ch.worst b.secs ∧ b.days * Ch.worst b.secs ≤ 90 := by
        obtain ⟨h1, h2⟩ := hwl
        exact ⟨Int.mul_nonneg (by omega) h1, by
          have := Int.mul_le_mul hd2 h2 h1 (by omega : (0:Int) ≤ 30); omega⟩
      go_wp2_with fail
      clear hBw hS
      go_loopw [24] (fun i wr => ∃ k : Nat, k ≤ b.secs.length ∧ i = I k ∧ Below (w.heap.size + 1) (w.alloc (.cells #[.slice A b.secs.length c, T, V, I b.rule, I b.days] 26)) wr ∧ (b.secs.take k).all (fun s => !decide (s.thick.lo < b.days * Ch.worst b.secs)) = true) (fun i _ => b.secs.length - (intOf i).toNat)
      case atStart => exact ⟨0, Nat.zero_le _, rfl, hB, rfl⟩
      case round =>
        clear hB hz
        obtain ⟨k, hk, rfl, hB, hall⟩ := hrel
        have hz : w.heap.size < wr.heap.size := by have := hB.size; simp at this; omega
        have hBw : Below w.heap.size w wr := ((Below.refl _ _).alloc (Nat.le_refl _) _).trans (hB.mono (by omega))
        have hday : wr.cell? ⟨w.heap.size, 4, none⟩ = some (I b.days) := (hB.cell (p := ⟨w.heap.size, 4, none⟩) (Nat.lt_succ_self _)).trans (by simp)
        by_cases hlt : k < b.secs.length
        · obtain ⟨bl, off, c', hv, hbl, h0, h1, h2, h3⟩ := (hb.below hBw (Nat.le_refl _)).sec hlt
          injection hv with hA _ hc
          subst hA hc
          by_cases hlt2 : b.secs[k].thick.lo < b.days * Ch.worst b.secs
          · go_wp2_with fail
            go_ret
            exact ⟨ret_b (Eq.symm (by unfold Ch.lastsAll; exact all_false hlt (by simp [hlt2]))), hBw.alloc (by omega) _⟩
          · go_wp2_with fail
            go_roundw
            case rel => exact ⟨k + 1, by omega, by go_num, hB.alloc (by omega) _, by rw [List.take_succ_eq_append_getElem hlt, List.all_append, hall]; simp [hlt2]⟩
            case measure => simp [intOf]; omega
        · obtain rfl : k = b.secs.length := by omega
          go_wp2_with fail
          go_ret
          exact ⟨ret_b (by unfold Ch.lastsAll; rw [← hall, List.take_length]), hBw⟩

set_option maxHeartbeats 1000000 in
theorem allTurns_any (b : Ch.Bk) (S T V : Value) (w : World) (hb : RB w w.heap.size b S T V) :
    Calls Tryz.prog 133 #[vBk S T V b.rule b.days] w fun e w' => e = .returned (.bool (Ch.allTurns b)) ∧ Below w.heap.size w w' := by
  obtain ⟨A0, k0, rfl⟩ := hb.secs.form
  obtain ⟨A, c, rfl⟩ := hb.turns.form
  obtain ⟨A2, k2, rfl⟩ := hb.svs.form
  go_enter Tryz.func133, Tryz.ntmps133
  go_wp2_with fail
  refine (increase_any b.turns 1 b.days _ _ ((hb.turns.below ((Below.refl _ _).alloc (Nat.le_refl _) _) (Nat.le_refl _)).more (by simp))).mono ?_
  rintro e w1 ⟨rfl, hB1⟩
  have HB := Lib.hid (((Below.refl w.heap.size w).alloc (Nat.le_refl _) (.cells #[.slice A0 b.secs.length k0, .slice A b.turns.length c, .slice A2 b.svs.length k2, I b.rule, I b.days] 26)).trans (hB1.mono (by simp)))
  clear hB1
  go_wp2_with fail
  go_ret
  exact ⟨ret_b rfl, HB.out⟩

set_option maxHeartbeats 1000000 in
theorem isSection_any (b : Ch.Bk) (A : Option Addr) (c : Nat) (T V : Value) (n : Int) (w : World) :
    Calls Tryz.prog 84 #[vBk (.slice A b.secs.length c) T V b.rule b.days, I n] w fun e w' => e = .returned (.bool (Ch.isSection b n)) ∧ Below w.heap.size w w' := by
  by_cases h1 : 0 ≤ n <;> by_cases h2 : n < b.secs.length
  all_goals
    go_enter Tryz.func84, Tryz.ntmps84
    go_wp2
    go_ret
    exact ⟨ret_b (by rw [Bool.eq_iff_iff]; simp [Ch.isSection]; omega), (Below.refl _ _).alloc (Nat.le_refl _) _⟩

set_option maxHeartbeats 1000000 in
theorem isDay_any (b : Ch.Bk) (S T V : Value) (n : Int) (w : World) :
    Calls Tryz.prog 82 #[vBk S T V b.rule b.days, I n] w fun e w' => e = .returned (.bool (Ch.isDay b n)) ∧ Below w.heap.size w w' := by
  by_cases h1 : 0 ≤ n <;> by_cases h2 : n ≤ b.days
  all_goals
    go_enter Tryz.func82, Tryz.ntmps82
    go_wp2
    go_ret
    exact ⟨ret_b (by rw [Bool.eq_iff_iff]; simp [Ch.isDay]; omega), (Below.refl _ _).alloc (Nat.le_refl _) _⟩

end Go.Proofs.YtkfahochpnggbaaGreat

/- Contracts of chain's checks: a survey, all surveys, a book. -/
namespace Go.Proofs.YtkfahochpnggbaaGreat
open Go.RowKit

set_option maxHeartbeats 2000000 in
theorem isSurvey_any (b : Ch.Bk) (A : Option Addr) (c : Nat) (T V : Value) (s : Ch.Sv) (w : World) :
    Calls Tryz.prog 89 #[vBk (.slice A b.secs.length c) T V b.rule b.days, vSv s] w fun e w' => e = .returned (.bool (Ch.isSurvey b s)) ∧ Below w.heap.size w w' := by
  obtain ⟨sc, dy, rd, er⟩ := s
  have hB0 : Below w.heap.size w ((w.alloc (.cells #[.slice A b.secs.length c, T, V, I b.rule, I b.days] 26)).alloc (.cells #[I sc, I dy, I rd, I er] 34)) := ((Below.refl _ _).alloc (Nat.le_refl _) _).alloc (by simp) _
  go_enter Tryz.func89, Tryz.ntmps89
  go_wp2_with fail
  refine (isSection_any b A c T V sc _).mono ?_
  rintro e w1 ⟨rfl, hB1⟩
  have hb1 : Below w.heap.size w w1 := hB0.trans (hB1.mono (by simp; omega))
  have hc1 := bcell hB1
  have hz1 : w.heap.size + 1 < w1.heap.size := by have := hB1.size; simp at this; omega
  by_cases h1 : Ch.isSection b sc = true
  · go_wp2_with fail
    refine (isDay_any b _ T V dy _).mono ?_
    rintro e w2 ⟨rfl, hB2⟩
    have hb2 : Below w.heap.size w w2 := hb1.trans (hB2.mono hb1.size)
    have hc2 := bcell hB2
    have hz2 : w.heap.size + 1 < w2.heap.size := by have := hB2.size; omega
    by_cases h2 : Ch.isDay b dy = true
    · go_wp2_with fail
      have hB3 : Below w.heap.size w (w2.alloc (.cells (([(rd, 0, 200), (er, 0, 5)] : List (Int × Int × Int)).flatMap cBd).toArray 151)) := hb2.alloc hb2.size _
      refine (hold_any [(rd, 0, 200), (er, 0, 5)] _ _ (sl_new (t := 151) (by rfl) (by simp [maxLen]) (by simp) (heap_at _ _ rfl))).mono ?_
      rintro e w4 ⟨rfl, hB4⟩
      have hb4 : Below w.heap.size w w4 := hB3.trans (hB4.mono hB3.size)
      have hr : Ch.isSurvey b ⟨sc, dy, rd, er⟩ = [(rd, 0, 200), (er, 0, 5)].all fun x : Int × Int × Int => Ch.between x.1 x.2.1 x.2.2 := by simp [Ch.isSurvey, h1, h2]
      have HR := Lib.hid hr
      clear hr
      go_wp2_with fail
      go_ret
      exact ⟨ret_b (by rw [HR.out]; simp), hb4⟩
    · go_wp2_with fail
      go_ret
      exact ⟨ret_b (by simp [Ch.isSurvey, h2]), hb2⟩
  · go_wp2_with fail
    go_ret
    exact ⟨ret_b (by simp [Ch.isSurvey, h1]), hb1⟩

set_option maxHeartbeats 1000000 in
theorem allSurveys_any (b : Ch.Bk) (S T V : Value) (w : World) (hb : RB w w.heap.size b S T V) :
    Calls Tryz.prog 134 #[vBk S T V b.rule b.days] w fun e w' => e = .returned (.bool (Ch.allSurveys b)) ∧ Below w.heap.size w w' := by
  obtain ⟨A, c, rfl⟩ := hb.secs.form
  obtain ⟨A2, c2, rfl⟩ := hb.svs.form
  have hm := hb.svs.le
  unfold maxLen at hm
  go_enter Tryz.func134, Tryz.ntmps134
  go_wp2
  go_loopw [8] (fun i wr => ∃ k : Nat, k ≤ b.svs.length ∧ i = I k ∧ Below (w.heap.size + 1) (w.alloc (.cells #[.slice A b.secs.length c, T, .slice A2 b.svs.length c2, I b.rule, I b.days] 26)) wr ∧ (b.svs.take k).all (Ch.isSurvey b) = true) (fun i _ => b.svs.length - (intOf i).toNat)
  case atStart => exact ⟨0, Nat.zero_le _, rfl, Below.refl _ _, rfl⟩
  case round =>
    obtain ⟨k, hk, rfl, hB, hall⟩ := hrel
    have hz : w.heap.size < wr.heap.size := by have := hB.size; simp at this; omega
    have hBw : Below w.heap.size w wr := ((Below.refl _ _).alloc (Nat.le_refl _) _).trans (hB.mono (by omega))
    have hq : ∀ j, j < 5 → wr.cell? ⟨w.heap.size, j, none⟩ = #[.slice A b.secs.length c, T, .slice A2 b.svs.length c2, I b.rule, I b.days][j]? := fun j _ => (hB.cell (p := ⟨w.heap.size, j, none⟩) (Nat.lt_succ_self _)).trans (by simp)
    have q0 := hq 0 (by omega)
    have q1 := hq 1 (by omega)
    have q2 := hq 2 (by omega)
    have q3 := hq 3 (by omega)
    have q4 := hq 4 (by omega)
    clear hq
    by_cases hlt : k < b.svs.length
    · obtain ⟨bl, off, c', hv, hbl, h0, h1, h2, h3⟩ := (hb.below hBw (Nat.le_refl _)).sv hlt
      injection hv with hA _ hc
      subst hA hc
      go_wp2_with fail
      refine (isSurvey_any b A c T _ b.svs[k] _).mono ?_
      rintro e w1 ⟨rfl, hB1⟩
      have hb1 : Below (w.heap.size + 1) (w.alloc (.cells #[.slice A b.secs.length c, T, .slice (some ⟨bl, off, none⟩) b.svs.length c2, I b.rule, I b.days] 26)) w1 := (hB.alloc (by omega) _).trans (hB1.mono (by simp; omega))
      by_cases hs1 : Ch.isSurvey b b.svs[k] = true
      · go_wp2_with fail
        go_roundw
        case rel => exact ⟨k + 1, by omega, by go_num, hb1, by rw [List.take_succ_eq_append_getElem hlt, List.all_append, hall]; simp [hs1]⟩
        case measure => simp [intOf]; omega
      · go_wp2_with fail
        go_ret
        exact ⟨ret_b (Eq.symm (by unfold Ch.allSurveys; exact all_false hlt (by simp [hs1]))), ((Below.refl _ _).alloc (Nat.le_refl _) _).trans (hb1.mono (by omega))⟩
    · obtain rfl : k = b.svs.length := by omega
      go_wp2_with fail
      go_ret
      exact ⟨ret_b (by unfold Ch.allSurveys; rw [← hall, List.take_length]), hBw⟩

end Go.Proofs.YtkfahochpnggbaaGreat

/- Contracts of chain's checks: a book. -/
namespace Go.Proofs.YtkfahochpnggbaaGreat
open Go.RowKit

set_option maxHeartbeats 2000000 in
theorem valid_any (b : Ch.Bk) (S T V : Value) (w : World) (hb : RB w w.heap.size b S T V) :
    Calls Tryz.prog 97 #[vBk S T V b.rule b.days] w fun e w' => e = .returned (.bool (Ch.valid b)) ∧ Below w.heap.size w w' := by
  have hB0 : Below w.heap.size w (w.alloc (.cells #[S, T, V, I b.rule, I b.days] 26)) := (Below.refl _ _).alloc (Nat.le_refl _) _
  go_enter Tryz.func97, Tryz.ntmps97
  go_wp2_with fail
  refine (sized_any b S T V _ ((hb.below hB0 (Nat.le_refl _)).more (by simp))).mono ?_
  rintro e w1 ⟨rfl, hB1⟩
  have hb1 : Below w.heap.size w w1 := hB0.trans (hB1.mono (by simp))
  have hc1 := bcell hB1
  have hz1 : w.heap.size < w1.heap.size := by have := hB1.size; simp at this; omega
  by_cases h1 : Ch.sized b = true
  · go_wp2_with fail
    refine (allSections_any b S T V _ ((hb.below hb1 (Nat.le_refl _)).more (by omega))).mono ?_
    rintro e w2 ⟨rfl, hB2⟩
    have hb2 : Below w.heap.size w w2 := hb1.trans (hB2.mono hb1.size)
    have hc2 := bcell hB2
    have hz2 : w.heap.size < w2.heap.size := by have := hB2.size; omega
    by_cases h2 : Ch.allSections b = true
    · go_wp2_with fail
      refine (lastsAll_any b S T V _ ((hb.below hb2 (Nat.le_refl _)).more (by omega)) h1 h2).mono ?_
      rintro e w3 ⟨rfl, hB3⟩
      have hb3 : Below w.heap.size w w3 := hb2.trans (hB3.mono hb2.size)
      have hc3 := bcell hB3
      have hz3 : w.heap.size < w3.heap.size := by have := hB3.size; omega
      by_cases h3 : Ch.lastsAll b = true
      · go_wp2_with fail
        refine (allTurns_any b S T V _ ((hb.below hb3 (Nat.le_refl _)).more (by omega))).mono ?_
        rintro e w4 ⟨rfl, hB4⟩
        have hb4 : Below w.heap.size w w4 := hb3.trans (hB4.mono hb3.size)
        have hc4 := bcell hB4
        have hz4 : w.heap.size < w4.heap.size := by have := hB4.size; omega
        by_cases h4 : Ch.allTurns b = true
        · go_wp2_with fail
          refine (allSurveys_any b S T V _ ((hb.below hb4 (Nat.le_refl _)).more (by omega))).mono ?_
          rintro e w5 ⟨rfl, hB5⟩
          have hb5 : Below w.heap.size w w5 := hb4.trans (hB5.mono hb4.size)
          go_wp2_with fail
          go_ret
          exact ⟨ret_b (by simp [Ch.valid, h1, h2, h3, h4]), hb5⟩
        · go_wp2_with fail
          go_ret
          exact ⟨ret_b (by simp [Ch.valid, h4]), hb4⟩
      · go_wp2_with fail
        go_ret
        exact ⟨ret_b (by simp [Ch.valid, h3]), hb3⟩
    · go_wp2_with fail
      go_ret
      exact ⟨ret_b (by simp [Ch.valid, h2]), hb2⟩
  · go_wp2_with fail
    go_ret
    exact ⟨ret_b (by simp [Ch.valid, h1]), hb1⟩

set_option maxHeartbeats 1000000 in
theorem check_any (b : Ch.Bk) (S T V : Value) (w : World) (hb : RB w w.heap.size b S T V) :
    Calls Tryz.prog 52 #[vBk S T V b.rule b.days] w fun e w' => e = .returned (I (Ch.check b)) ∧ Below w.heap.size w w' := by
  have hB0 : Below w.heap.size w (w.alloc (.cells #[S, T, V, I b.rule, I b.days] 26)) := (Below.refl _ _).alloc (Nat.le_refl _) _
  go_enter Tryz.func52, Tryz.ntmps52
  go_wp2_with fail
  refine (valid_any b S T V _ ((hb.below hB0 (Nat.le_refl _)).more (by simp))).mono ?_
  rintro e w1 ⟨rfl, hB1⟩
  have hb1 : Below w.heap.size w w1 := hB0.trans (hB1.mono (by simp))
  by_cases h1 : Ch.valid b = true
  all_goals
    go_wp2_with fail
    go_ret
    exact ⟨ret_i (by simp [Ch.check, h1]), hb1⟩

end Go.Proofs.YtkfahochpnggbaaGreat
