/- Texts on the program that the proof leans on, part 17. -/
import Derived.Test.YtkfahochpnggbaaGreatYap
set_option linter.unusedVariables false
set_option linter.unusedSimpArgs false

/- Contract of chain's first. -/
namespace Go.Proofs.YtkfahochpnggbaaGreat
open Go.RowKit

theorem under103 : Tryz.prog.underlying 140 = some (.array 2 139) := by kernel_rfl
theorem info102 : (Tryz.prog.info? 139).map (fun i => (i.zero, i.size, i.bytes)) = some (some .nilFunc, 1, 8) := by kernel_rfl
theorem index0 (f g : Value) (hf : ∃ a x y, f = .func a x y) (W : World) : (Instr.index 140 (.agg #[f, g]) (.int .i64 0)).run Tryz.prog W = .ok f W := by
  obtain ⟨a, x, y, rfl⟩ := hf
  obtain ⟨i, h1, h2, h3, h4⟩ := info_parts info102
  simp [Instr.index, run_underlying under103, asIntOf, sizeOf, typeInfo, h1, h3, go_sem]
theorem index1 (f g : Value) (hf : ∃ a x y, g = .func a x y) (W : World) : (Instr.index 140 (.agg #[f, g]) (.int .i64 1)).run Tryz.prog W = .ok g W := by
  obtain ⟨a, x, y, rfl⟩ := hf
  obtain ⟨i, h1, h2, h3, h4⟩ := info_parts info102
  simp [Instr.index, run_underlying under103, asIntOf, sizeOf, typeInfo, h1, h3, go_sem]

namespace Ch
/-- The first day on which it is so; the number of days, if there is none. -/
def firstDay (F : Nat → Bool) (n : Nat) : Nat := ((List.range n).find? F).getD n
def mayThin (b : Bk) (s : Nat) (l : List Tr) (d : Nat) : Bool := decide (minL (l.map fun t => (thickOn b s d t).lo) < b.rule)
def sureThin (b : Bk) (s : Nat) (l : List Tr) (d : Nat) : Bool := decide (maxL (l.map fun t => (thickOn b s d t).hi) < b.rule)
theorem firstDay_none {F : Nat → Bool} {n : Nat} (h : ∀ j, j < n → F j = false) : firstDay F n = n := by
  have : (List.range n).find? F = none := List.find?_eq_none.2 (fun x hx => by rw [h x (List.mem_range.1 hx)]; simp)
  simp [firstDay, this]
theorem firstDay_found {F : Nat → Bool} {n k : Nat} (hk : k < n) (h1 : F k = true) (h : ∀ j, j < k → F j = false) : firstDay F n = k := by
  have : (List.range n).find? F = some k := by
    rw [List.find?_range_eq_some]
    exact ⟨h1, List.mem_range.2 hk, fun j hj => by rw [h j hj]; rfl⟩
  simp [firstDay, this]
end Ch

set_option maxRecDepth 100000 in
set_option maxHeartbeats 1000000 in
theorem first_may (b : Ch.Bk) (S T V M R : Value) (l : List Ch.Tr) (hwe : ∀ t ∈ l, Ch.TrOk t) (hl : l ≠ []) (hlen : l.length ≤ 256) (s : Nat) (w : World) (hM : RM w w.heap.size b M) (hR : Trs w w.heap.size R l) (hn : b.secs.length ≤ 4) (hd0 : 0 ≤ b.days) (hdays : b.days ≤ 30) (hs : s < b.secs.length)
    (n0 c0 : Nat) (A0 : Option Addr) (hS : S = .slice A0 n0 c0) :
    Calls Tryz.prog 121 #[vLg S T V b.rule b.days M R, .int .i64 0, I s] w fun e w' => e = .returned (I (Ch.firstDay (Ch.mayThin b s l) (b.days.toNat + 1))) ∧ Below w.heap.size w w' := by
  obtain ⟨AR, cR, rfl⟩ := hR.form
  obtain ⟨nd, hnd⟩ := Int.eq_ofNat_of_zero_le hd0
  have hcall : ∀ (d : Nat) W', d ≤ nd → Below w.heap.size w W' → Calls Tryz.prog 146 #[.agg #[S, T, V, I b.rule, I nd, M, .slice AR l.length cR], .agg #[I s, I d]] W' fun e w' => e = .returned (.bool (Ch.mayThin b s l d)) ∧ Below W'.heap.size W' w' :=
    fun d W' hd hB => by
      rw [← hnd]
      exact mayBe_any b S T V M _ l hwe hl hlen s d W' ((hM.below hB (Nat.le_refl _)).more hB.size) ((hR.below hB (Nat.le_refl _)).more hB.size) hn hdays ⟨hs, by omega⟩ n0 c0 A0 hS
  subst hS
  have HCALL := Lib.hid hcall
  have hnd30 : nd ≤ 30 := by omega
  have htn : b.days.toNat = nd := by omega
  rw [hnd, Int.toNat_natCast]
  clear hcall hwe hl hM hR hdays hd0 hnd htn
  generalize Ch.mayThin b s l = F at HCALL ⊢
  have hB0 : Below w.heap.size w (w.alloc (cLg (.slice A0 n0 c0) T V b.rule nd M (.slice AR l.length cR))) := (Below.refl _ _).alloc (Nat.le_refl _) _
  have hix0 := index0 (.func (.func 146) #[] #[]) (.func (.func 147) #[] #[]) ⟨_, _, _, rfl⟩
  have hix1 := index1 (.func (.func 146) #[] #[]) (.func (.func 147) #[] #[]) ⟨_, _, _, rfl⟩
  go_enter Tryz.func121, Tryz.ntmps121
  go_wp2_with fail
  refine (verdicts_any _).mono ?_
  rintro e w1 ⟨rfl, hB1⟩
  have hb1 : Below w.heap.size w w1 := hB0.trans (hB1.mono hB0.size)
  have hlB : w1.heap[w.heap.size]? = some (cLg (.slice A0 n0 c0) T V b.rule nd M (.slice AR l.length cR)) := (hB1.block _ (by simp)).trans (heap_at _ _ rfl)
  have hlw : w.heap.size < w1.heap.size := heap_lt hlB
  have a4 := cell_of_row w1 _ 4 _ _ _ hlB
  simp only [List.getElem?_toArray, List.getElem?_cons_zero, List.getElem?_cons_succ] at a4
  have HLB := Lib.hid hlB
  clear hlB hB1 hB0
  go_wp2_with fail
  go_loopw [16] (fun i wr => ∃ k : Nat, k ≤ nd + 1 ∧ i = I k ∧ (∀ j, j < k → F j = false) ∧ Below w1.heap.size w1 wr) (fun i _ => nd + 1 - (intOf i).toNat)
  case atStart => exact ⟨0, Nat.zero_le _, rfl, fun j hj => by omega, Below.refl _ _⟩
  case round =>
    obtain ⟨k, hk, rfl, hF, hBr⟩ := hrel
    have hbw : Below w.heap.size w wr := hb1.trans (hBr.mono hb1.size)
    have hlr := (hBr.block _ hlw).trans HLB.out
    have b0 := cell_of_row wr _ 0 _ _ _ hlr
    have b1 := cell_of_row wr _ 1 _ _ _ hlr
    have b2 := cell_of_row wr _ 2 _ _ _ hlr
    have b3 := cell_of_row wr _ 3 _ _ _ hlr
    have b4 := cell_of_row wr _ 4 _ _ _ hlr
    have b5 := cell_of_row wr _ 5 _ _ _ hlr
    have b6 := cell_of_row wr _ 6 _ _ _ hlr
    simp only [List.getElem?_toArray, List.getElem?_cons_zero, List.getElem?_cons_succ] at b0 b1 b2 b3 b4 b5 b6
    have HF := Lib.hid hF
    clear hlr hF a4
    by_cases hlt : k < nd + 1
    · have hki : (k : Int) < (nd : Int) + 1 := by omega
      go_wp2_with fail
      refine (HCALL.out k wr (by omega) hbw).mono ?_
      rintro e w2 ⟨rfl, hB2⟩
      have hb2 : Below w.heap.size w w2 := hbw.trans (hB2.mono hbw.size)
      clear b0 b1 b2 b3 b4 b5 b6
      cases hFk : F k
      · have HFK := Lib.hid hFk
        clear hFk
        go_wp2_with fail
        go_roundw
        case rel =>
          refine ⟨k + 1, by omega, by go_num, fun j hj => ?_, hBr.trans (hB2.mono hBr.size)⟩
          rcases Nat.lt_succ_iff_lt_or_eq.1 hj with h | h
          · exact HF.out j h
          · rw [h]; exact HFK.out
        case measure => simp [intOf]; omega
      · have HFK := Lib.hid hFk
        clear hFk
        go_wp2_with fail
        go_ret
        exact ⟨by rw [Ch.firstDay_found hlt HFK.out HF.out] <;> rfl, hb2⟩
    · obtain rfl : k = nd + 1 := by omega
      go_wp2_with fail
      go_ret
      exact ⟨by rw [Ch.firstDay_none HF.out]; simp, hbw⟩

set_option maxRecDepth 100000 in
set_option maxHeartbeats 1000000 in
theorem first_sure (b : Ch.Bk) (S T V M R : Value) (l : List Ch.Tr) (hwe : ∀ t ∈ l, Ch.TrOk t) (hl : l ≠ []) (hlen : l.length ≤ 256) (s : Nat) (w : World) (hM : RM w w.heap.size b M) (hR : Trs w w.heap.size R l) (hn : b.secs.length ≤ 4) (hd0 : 0 ≤ b.days) (hdays : b.days ≤ 30) (hs : s < b.secs.length)
    (n0 c0 : Nat) (A0 : Option Addr) (hS : S = .slice A0 n0 c0) :
    Calls Tryz.prog 121 #[vLg S T V b.rule b.days M R, .int .i64 1, I s] w fun e w' => e = .returned (I (Ch.firstDay (Ch.sureThin b s l) (b.days.toNat + 1))) ∧ Below w.heap.size w w' := by
  obtain ⟨AR, cR, rfl⟩ := hR.form
  obtain ⟨nd, hnd⟩ := Int.eq_ofNat_of_zero_le hd0
  have hcall : ∀ (d : Nat) W', d ≤ nd → Below w.heap.size w W' → Calls Tryz.prog 147 #[.agg #[S, T, V, I b.rule, I nd, M, .slice AR l.length cR], .agg #[I s, I d]] W' fun e w' => e = .returned (.bool (Ch.sureThin b s l d)) ∧ Below W'.heap.size W' w' :=
    fun d W' hd hB => by
      rw [← hnd]
      exact surely_any b S T V M _ l hwe hl hlen s d W' ((hM.below hB (Nat.le_refl _)).more hB.size) ((hR.below hB (Nat.le_refl _)).more hB.size) hn hdays ⟨hs, by omega⟩ n0 c0 A0 hS
  subst hS
  have HCALL := Lib.hid hcall
  have hnd30 : nd ≤ 30 := by omega
  have htn : b.days.toNat = nd := by omega
  rw [hnd, Int.toNat_natCast]
  clear hcall hwe hl hM hR hdays hd0 hnd htn
  generalize Ch.sureThin b s l = F at HCALL ⊢
  have hB0 : Below w.heap.size w (w.alloc (cLg (.slice A0 n0 c0) T V b.rule nd M (.slice AR l.length cR))) := (Below.refl _ _).alloc (Nat.le_refl _) _
  have hix0 := index0 (.func (.func 146) #[] #[]) (.func (.func 147) #[] #[]) ⟨_, _, _, rfl⟩
  have hix1 := index1 (.func (.func 146) #[] #[]) (.func (.func 147) #[] #[]) ⟨_, _, _, rfl⟩
  go_enter Tryz.func121, Tryz.ntmps121
  go_wp2_with fail
  refine (verdicts_any _).mono ?_
  rintro e w1 ⟨rfl, hB1⟩
  have hb1 : Below w.heap.size w w1 := hB0.trans (hB1.mono hB0.size)
  have hlB : w1.heap[w.heap.size]? = some (cLg (.slice A0 n0 c0) T V b.rule nd M (.slice AR l.length cR)) := (hB1.block _ (by simp)).trans (heap_at _ _ rfl)
  have hlw : w.heap.size < w1.heap.size := heap_lt hlB
  have a4 := cell_of_row w1 _ 4 _ _ _ hlB
  simp only [List.getElem?_toArray, List.getElem?_cons_zero, List.getElem?_cons_succ] at a4
  have HLB := Lib.hid hlB
  clear hlB hB1 hB0
  go_wp2_with fail
  go_loopw [16] (fun i wr => ∃ k : Nat, k ≤ nd + 1 ∧ i = I k ∧ (∀ j, j < k → F j = false) ∧ Below w1.heap.size w1 wr) (fun i _ => nd + 1 - (intOf i).toNat)
  case atStart => exact ⟨0, Nat.zero_le _, rfl, fun j hj => by omega, Below.refl _ _⟩
  case round =>
    obtain ⟨k, hk, rfl, hF, hBr⟩ := hrel
    have hbw : Below w.heap.size w wr := hb1.trans (hBr.mono hb1.size)
    have hlr := (hBr.block _ hlw).trans HLB.out
    have b0 := cell_of_row wr _ 0 _ _ _ hlr
    have b1 := cell_of_row wr _ 1 _ _ _ hlr
    have b2 := cell_of_row wr _ 2 _ _ _ hlr
    have b3 := cell_of_row wr _ 3 _ _ _ hlr
    have b4 := cell_of_row wr _ 4 _ _ _ hlr
    have b5 := cell_of_row wr _ 5 _ _ _ hlr
    have b6 := cell_of_row wr _ 6 _ _ _ hlr
    simp only [List.getElem?_toArray, List.getElem?_cons_zero, List.getElem?_cons_succ] at b0 b1 b2 b3 b4 b5 b6
    have HF := Lib.hid hF
    clear hlr hF a4
    by_cases hlt : k < nd + 1
    · have hki : (k : Int) < (nd : Int) + 1 := by omega
      go_wp2_with fail
      refine (HCALL.out k wr (by omega) hbw).mono ?_
      rintro e w2 ⟨rfl, hB2⟩
      have hb2 : Below w.heap.size w w2 := hbw.trans (hB2.mono hbw.size)
      clear b0 b1 b2 b3 b4 b5 b6
      cases hFk : F k
      · have HFK := Lib.hid hFk
        clear hFk
        go_wp2_with fail
        go_roundw
        case rel =>
          refine ⟨k + 1, by omega, by go_num, fun j hj => ?_, hBr.trans (hB2.mono hBr.size)⟩
          rcases Nat.lt_succ_iff_lt_or_eq.1 hj with h | h
          · exact HF.out j h
          · rw [h]; exact HFK.out
        case measure => simp [intOf]; omega
      · have HFK := Lib.hid hFk
        clear hFk
        go_wp2_with fail
        go_ret
        exact ⟨by rw [Ch.firstDay_found hlt HFK.out HF.out] <;> rfl, hb2⟩
    · obtain rfl : k = nd + 1 := by omega
      go_wp2_with fail
      go_ret
      exact ⟨by rw [Ch.firstDay_none HF.out]; simp, hbw⟩

end Go.Proofs.YtkfahochpnggbaaGreat
