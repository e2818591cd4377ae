/- Texts on the program that the proof leans on, part 16. -/
import Derived.Test.YtkfahochpnggbaaGreatYao
set_option linter.unusedVariables false
set_option linter.unusedSimpArgs false

/- Contracts of chain's Right; mayBeThin, surelyIsThin. -/
namespace Go.Proofs.YtkfahochpnggbaaGreat
open Go.RowKit

/-- Whether a book can be true. -/
def Ch.right (b : Ch.Bk) : Bool := Ch.valid b && decide (Ch.truths b ≠ [])

set_option maxHeartbeats 1000000 in
theorem Right_any (b : Ch.Bk) (S T V : Value) (w : World) (hb : RB w w.heap.size b S T V) :
    Calls Tryz.prog 25 #[vBk S T V b.rule b.days] w fun e w' => e = .returned (.tuple #[.bool (Ch.right b), I (Ch.check b)]) ∧ Below w.heap.size w w' := by
  obtain ⟨A, c, rfl⟩ := hb.secs.form
  obtain ⟨A1, c1, rfl⟩ := hb.turns.form
  obtain ⟨A2, c2, rfl⟩ := hb.svs.form
  have hB0 : Below w.heap.size w (w.alloc (.cells #[.slice A b.secs.length c, .slice A1 b.turns.length c1, .slice A2 b.svs.length c2, I b.rule, I b.days] 26)) := (Below.refl _ _).alloc (Nat.le_refl _) _
  go_enter Tryz.func25, Tryz.ntmps25
  go_wp2_with fail
  refine (check_any b _ _ _ _ ((hb.below hB0 (Nat.le_refl _)).more hB0.size)).mono ?_
  rintro e w1 ⟨rfl, hB1⟩
  have hb1 : Below w.heap.size w w1 := hB0.trans (hB1.mono hB0.size)
  have e0 : w1.heap[w.heap.size]? = some (.cells #[.slice A b.secs.length c, .slice A1 b.turns.length c1, .slice A2 b.svs.length c2, I b.rule, I b.days] 26 (0, 0)) := (hB1.block _ (by simp)).trans (heap_at _ _ rfl)
  have g0 : ∀ j, w1.cell? ⟨w.heap.size, j, none⟩ = #[.slice A b.secs.length c, .slice A1 b.turns.length c1, .slice A2 b.svs.length c2, I b.rule, I b.days][j]? := fun j => cell_of_row w1 _ j _ _ _ e0
  by_cases hv : Ch.valid b = true
  · have hc : Ch.check b = 0 := by simp [Ch.check, hv]
    have hf := fine_of_valid hv
    have hd0 : 0 ≤ b.days := by
      have hv' := hv
      simp only [Ch.valid, Bool.and_eq_true] at hv'
      have := Ch.sized_days hv'.1.1.1.1
      omega
    have HV := Lib.hid hv
    have HC := Lib.hid hc
    rw [hc]
    clear hc hv hB0 hB1 e0
    go_wp2_with fail
    refine (lay_any b _ _ _ w1 ((hb.below hb1 (Nat.le_refl _)).more hb1.size) hf.n4 hd0 hf.days).mono ?_
    rintro e w2 ⟨⟨M, rfl, hM⟩, hB2⟩
    have hb2 : Below w.heap.size w w2 := hb1.trans (hB2.mono hb1.size)
    clear g0
    go_wp2_with fail
    refine (possible_any b _ _ _ M b.rule w2 hf ((hb.below hb2 (Nat.le_refl _)).more hb2.size) hM).mono ?_
    rintro e w3 ⟨rfl, hB3⟩
    go_wp2_with fail
    go_ret2
    exact ⟨by rw [HC.out]; simp [Ch.right, HV.out], hb2.trans (hB3.mono hb2.size)⟩
  · have hv : Ch.valid b = false := by simpa using hv
    have hc : Ch.check b = 10 := by simp [Ch.check, hv]
    have HV := Lib.hid hv
    have HC := Lib.hid hc
    rw [hc]
    clear hc hv hB0 hB1 e0 g0
    go_wp2_with fail
    go_ret2
    exact ⟨by rw [HC.out]; simp [Ch.right, HV.out], hb1⟩

end Go.Proofs.YtkfahochpnggbaaGreat

/- Contracts of chain's verdicts: mayBeThin. -/
namespace Go.Proofs.YtkfahochpnggbaaGreat
open Go.RowKit

theorem thickOn_ex (S T V M R : Value) (rule days : Int) (n c : Nat) (A : Option Addr) (s d : Int) (w : World) (hS : S = .slice A n c) :
    Calls Tryz.prog 86 #[vLg S T V rule days M R, vSpot s d] w fun e w' => (e = .returned (.func (.func 118) #[] #[.pointer (some ⟨w.heap.size + 1, 0, none⟩), .pointer (some ⟨w.heap.size, 0, none⟩)]) ∧ w'.heap[w.heap.size + 1]? = some (.cells #[I s, I d] 106 (0, 0)) ∧ w'.heap[w.heap.size]? = some (cLg S T V rule days M R)) ∧ Below w.heap.size w w' := by
  refine (thickOn_any S T V M R rule days n c A s d w hS).mono ?_
  rintro e w' ⟨rfl, rfl⟩
  exact ⟨⟨rfl, heap_at _ _ (by simp), (Below.heap_alloc _ _ _ (by simp)).trans (heap_at _ _ rfl)⟩, ((Below.refl _ _).alloc (Nat.le_refl _) _).alloc (by simp) _⟩

set_option maxRecDepth 100000 in
set_option maxHeartbeats 1000000 in
theorem mayBe_any (b : Ch.Bk) (S T V M R : Value) (l : List Ch.Tr) (hwe : ∀ t ∈ l, Ch.TrOk t) (hl : l ≠ []) (hlen : l.length ≤ 256) (s d : Nat) (w : World) (hM : RM w w.heap.size b M) (hR : Trs w w.heap.size R l) (hn : b.secs.length ≤ 4) (hdays : b.days ≤ 30) (hg : Good b s d)
    (n0 c0 : Nat) (A0 : Option Addr) (hS : S = .slice A0 n0 c0) :
    Calls Tryz.prog 146 #[vLg S T V b.rule b.days M R, vSpot s d] w fun e w' => e = .returned (.bool (decide (Ch.minL (l.map fun t => (Ch.thickOn b s d t).lo) < b.rule))) ∧ Below w.heap.size w w' := by
  obtain ⟨AR, cR, rfl⟩ := hR.form
  have hreach : ∀ sb lb W', Below w.heap.size w W' → W'.heap[sb]? = some (.cells #[I s, I d] 106 (0, 0)) → W'.heap[lb]? = some (cLg S T V b.rule b.days M (.slice AR l.length cR)) → Calls Tryz.prog 115 #[vLg S T V b.rule b.days M (.slice AR l.length cR), vLow, .func (.func 118) #[] #[.pointer (some ⟨sb, 0, none⟩), .pointer (some ⟨lb, 0, none⟩)]] W' fun e w' => e = .returned (I (Ch.minL (l.map fun t => (Ch.thickOn b s d t).lo))) ∧ Below W'.heap.size W' w' :=
    fun sb lb W' hB hsb hlb => reach_thick_low b S T V M _ b.rule l hwe hl hlen s d sb lb W' ((hM.below hB (Nat.le_refl _)).more hB.size) ((hR.below hB (Nat.le_refl _)).more hB.size) hn hdays hg n0 c0 A0 hS hsb hlb
  subst hS
  have HREACH := Lib.hid hreach
  clear hreach hwe hl hM hR hg
  generalize Ch.minL (l.map fun t => (Ch.thickOn b s d t).lo) = mn at HREACH ⊢
  go_enter Tryz.func146, Tryz.ntmps146
  go_wp2_with fail
  refine name_world ?_
  intro W hW
  have hB : Below w.heap.size w W := by rw [hW]; exact ((Below.refl _ _).alloc (Nat.le_refl _) _).alloc (by simp) _
  have hlB : W.heap[w.heap.size]? = some (cLg (.slice A0 n0 c0) T V b.rule b.days M (.slice AR l.length cR)) := by rw [hW]; exact (Below.heap_alloc _ _ _ (by simp)).trans (heap_at _ _ rfl)
  have hsB : W.heap[w.heap.size + 1]? = some (.cells #[I s, I d] 106 (0, 0)) := by rw [hW]; exact heap_at _ _ (by simp)
  have hz : W.heap.size = w.heap.size + 2 := by rw [hW]; simp
  have a0 := cell_of_row W _ 0 _ _ _ hlB
  have a1 := cell_of_row W _ 1 _ _ _ hlB
  have a2 := cell_of_row W _ 2 _ _ _ hlB
  have a3 := cell_of_row W _ 3 _ _ _ hlB
  have a4 := cell_of_row W _ 4 _ _ _ hlB
  have a5 := cell_of_row W _ 5 _ _ _ hlB
  have a6 := cell_of_row W _ 6 _ _ _ hlB
  have z0 := cell_of_row W _ 0 _ _ _ hsB
  have z1 := cell_of_row W _ 1 _ _ _ hsB
  simp only [List.getElem?_toArray, List.getElem?_cons_zero, List.getElem?_cons_succ] at a0 a1 a2 a3 a4 a5 a6 z0 z1
  have hlt0 : w.heap.size < W.heap.size := by omega
  have hlt1 : w.heap.size + 1 < W.heap.size := by omega
  have hBz := hB.size
  have HB := Lib.hid (show ∀ w', Held W w' → Below w.heap.size w w' from fun w' h => hB.trans (h.2.2.mono hBz))
  clear hz hW hlB hsB
  go_region_held3 (fun w' => Held W w') (first | assumption | exact held_start _ | exact held_step (by assumption) (by assumption) | exact held_step (by assumption) (held_start _) | go_keep)
    (first | (go_at_call 116; refine (low_any _).mono ?_; rintro e w1 ⟨rfl, hB1⟩; try (have rS2 := Lib.hid ((hB1.block _ (heap_lt rS.out)).trans rS.out); have rL2 := Lib.hid ((hB1.block _ (heap_lt rL.out)).trans rL.out)))
           | (go_at_call 86; refine (thickOn_ex _ _ _ _ _ b.rule b.days n0 c0 A0 _ _ _ rfl).mono ?_; rintro e w1 ⟨⟨rfl, rs, rl⟩, hB1⟩; have rS := Lib.hid rs; have rL := Lib.hid rl; clear rs rl)
           | (go_at_call 115; refine (HREACH.out _ _ _ (HB.out _ (by first | assumption | exact held_start _)) (by first | exact rS2.out | exact rS.out) (by first | exact rL2.out | exact rL.out)).mono ?_; rintro e w1 ⟨rfl, hB1⟩))
  have hb1 : Below w.heap.size w w1 := HB.out _ (by assumption)
  have HB1 := Lib.hid hb1
  clear hb1 hB1
  go_wp2_with fail
  go_ret
  exact ⟨rfl, HB1.out⟩

set_option maxRecDepth 100000 in
set_option maxHeartbeats 1000000 in
theorem surely_any (b : Ch.Bk) (S T V M R : Value) (l : List Ch.Tr) (hwe : ∀ t ∈ l, Ch.TrOk t) (hl : l ≠ []) (hlen : l.length ≤ 256) (s d : Nat) (w : World) (hM : RM w w.heap.size b M) (hR : Trs w w.heap.size R l) (hn : b.secs.length ≤ 4) (hdays : b.days ≤ 30) (hg : Good b s d)
    (n0 c0 : Nat) (A0 : Option Addr) (hS : S = .slice A0 n0 c0) :
    Calls Tryz.prog 147 #[vLg S T V b.rule b.days M R, vSpot s d] w fun e w' => e = .returned (.bool (decide (Ch.maxL (l.map fun t => (Ch.thickOn b s d t).hi) < b.rule))) ∧ Below w.heap.size w w' := by
  obtain ⟨AR, cR, rfl⟩ := hR.form
  have hreach : ∀ sb lb W', Below w.heap.size w W' → W'.heap[sb]? = some (.cells #[I s, I d] 106 (0, 0)) → W'.heap[lb]? = some (cLg S T V b.rule b.days M (.slice AR l.length cR)) → Calls Tryz.prog 115 #[vLg S T V b.rule b.days M (.slice AR l.length cR), vHigh, .func (.func 118) #[] #[.pointer (some ⟨sb, 0, none⟩), .pointer (some ⟨lb, 0, none⟩)]] W' fun e w' => e = .returned (I (Ch.maxL (l.map fun t => (Ch.thickOn b s d t).hi))) ∧ Below W'.heap.size W' w' :=
    fun sb lb W' hB hsb hlb => reach_thick_high b S T V M _ b.rule l hwe hl hlen s d sb lb W' ((hM.below hB (Nat.le_refl _)).more hB.size) ((hR.below hB (Nat.le_refl _)).more hB.size) hn hdays hg n0 c0 A0 hS hsb hlb
  subst hS
  have HREACH := Lib.hid hreach
  clear hreach hwe hl hM hR hg
  generalize Ch.maxL (l.map fun t => (Ch.thickOn b s d t).hi) = mn at HREACH ⊢
  go_enter Tryz.func147, Tryz.ntmps147
  go_wp2_with fail
  refine name_world ?_
  intro W hW
  have hB : Below w.heap.size w W := by rw [hW]; exact ((Below.refl _ _).alloc (Nat.le_refl _) _).alloc (by simp) _
  have hlB : W.heap[w.heap.size]? = some (cLg (.slice A0 n0 c0) T V b.rule b.days M (.slice AR l.length cR)) := by rw [hW]; exact (Below.heap_alloc _ _ _ (by simp)).trans (heap_at _ _ rfl)
  have hsB : W.heap[w.heap.size + 1]? = some (.cells #[I s, I d] 106 (0, 0)) := by rw [hW]; exact heap_at _ _ (by simp)
  have hz : W.heap.size = w.heap.size + 2 := by rw [hW]; simp
  have a0 := cell_of_row W _ 0 _ _ _ hlB
  have a1 := cell_of_row W _ 1 _ _ _ hlB
  have a2 := cell_of_row W _ 2 _ _ _ hlB
  have a3 := cell_of_row W _ 3 _ _ _ hlB
  have a4 := cell_of_row W _ 4 _ _ _ hlB
  have a5 := cell_of_row W _ 5 _ _ _ hlB
  have a6 := cell_of_row W _ 6 _ _ _ hlB
  have z0 := cell_of_row W _ 0 _ _ _ hsB
  have z1 := cell_of_row W _ 1 _ _ _ hsB
  simp only [List.getElem?_toArray, List.getElem?_cons_zero, List.getElem?_cons_succ] at a0 a1 a2 a3 a4 a5 a6 z0 z1
  have hlt0 : w.heap.size < W.heap.size := by omega
  have hlt1 : w.heap.size + 1 < W.heap.size := by omega
  have hBz := hB.size
  have HB := Lib.hid (show ∀ w', Held W w' → Below w.heap.size w w' from fun w' h => hB.trans (h.2.2.mono hBz))
  clear hz hW hlB hsB
  go_region_held3 (fun w' => Held W w') (first | assumption | exact held_start _ | exact held_step (by assumption) (by assumption) | exact held_step (by assumption) (held_start _) | go_keep)
    (first | (go_at_call 117; refine (high_any _).mono ?_; rintro e w1 ⟨rfl, hB1⟩; try (have rS2 := Lib.hid ((hB1.block _ (heap_lt rS.out)).trans rS.out); have rL2 := Lib.hid ((hB1.block _ (heap_lt rL.out)).trans rL.out)))
           | (go_at_call 86; refine (thickOn_ex _ _ _ _ _ b.rule b.days n0 c0 A0 _ _ _ rfl).mono ?_; rintro e w1 ⟨⟨rfl, rs, rl⟩, hB1⟩; have rS := Lib.hid rs; have rL := Lib.hid rl; clear rs rl)
           | (go_at_call 115; refine (HREACH.out _ _ _ (HB.out _ (by first | assumption | exact held_start _)) (by first | exact rS2.out | exact rS.out) (by first | exact rL2.out | exact rL.out)).mono ?_; rintro e w1 ⟨rfl, hB1⟩))
  have hb1 : Below w.heap.size w w1 := HB.out _ (by assumption)
  have HB1 := Lib.hid hb1
  clear hb1 hB1
  go_wp2_with fail
  go_ret
  exact ⟨rfl, HB1.out⟩

set_option maxHeartbeats 400000 in
theorem verdicts_any (w : World) :
    Calls Tryz.prog 114 #[] w fun e w' => e = .returned (.agg #[.func (.func 146) #[] #[], .func (.func 147) #[] #[]]) ∧ Below w.heap.size w w' := by
  go_enter Tryz.func114, Tryz.ntmps114
  go_wp2_with fail
  refine bodyPost_ret (v := .agg #[.func (.func 146) #[] #[], .func (.func 147) #[] #[]]) (by simp [results, Tryz.results114, go_sem]) rfl ⟨rfl, ?_⟩
  exact (Below.refl _ _).alloc (Nat.le_refl _) _

end Go.Proofs.YtkfahochpnggbaaGreat
