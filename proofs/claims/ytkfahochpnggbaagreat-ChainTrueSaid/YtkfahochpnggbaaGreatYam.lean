/- Texts on the program that the proof leans on, part 13. -/
import Derived.Test.YtkfahochpnggbaaGreatYal
set_option linter.unusedVariables false
set_option linter.unusedSimpArgs false

/- Contracts of chain's reach: the other end. -/
namespace Go.Proofs.YtkfahochpnggbaaGreat
open Go.RowKit

set_option maxRecDepth 100000 in
set_option maxHeartbeats 1000000 in
theorem reach_thick_high (b : Ch.Bk) (S T V M R : Value) (rule : Int) (l : List Ch.Tr) (hwe : ∀ t ∈ l, Ch.WearOk t.wear ∧ ∀ s, -1000 ≤ (t.first s).lo ∧ (t.first s).hi ≤ 1000 ∧ (t.first s).lo ≤ 1000 ∧ -1000 ≤ (t.first s).hi) (hl : l ≠ []) (hlen : l.length ≤ 256) (s d : Nat) (sb lb : Nat) (w : World) (hM : RM w w.heap.size b M) (hR : Trs w w.heap.size R l) (hn : b.secs.length ≤ 4) (hdays : b.days ≤ 30) (hg : Good b s d)
    (n0 c0 : Nat) (A0 : Option Addr) (hS : S = .slice A0 n0 c0)
    (hsb : w.heap[sb]? = some (.cells #[I s, I d] 106 (0, 0))) (hlb : w.heap[lb]? = some (cLg S T V rule b.days M R)) :
    Calls Tryz.prog 115 #[vLg S T V rule b.days M R, vHigh, .func (.func 118) #[] #[.pointer (some ⟨sb, 0, none⟩), .pointer (some ⟨lb, 0, none⟩)]] w fun e w' => e = .returned (I (Ch.maxL (l.map fun t => (Ch.thickOn b s d t).hi))) ∧ Below w.heap.size w w' := by
  have h0 : 0 < l.length := List.length_pos_iff.2 hl
  have hm := hR.le
  unfold maxLen at hm
  obtain ⟨rb, ro, rc, rfl, hrb, hrc⟩ := hR.tr h0
  subst hS
  have HSB := Lib.hid hsb
  have HLB := Lib.hid hlb
  have HR := Lib.hid hR
  have HM := Lib.hid hM
  have HL := Lib.hid hl
  have HG := Lib.hid hg
  clear hsb hlb hR hM hl hrc hg
  have hmk := make_ints l.length (by omega)
  have htell : ∀ (t : Ch.Tr), (Ch.WearOk t.wear ∧ ∀ s, -1000 ≤ (t.first s).lo ∧ (t.first s).hi ≤ 1000 ∧ (t.first s).lo ≤ 1000 ∧ -1000 ≤ (t.first s).hi) → ∀ W', Below w.heap.size w W' → Calls Tryz.prog 118 #[vTr t, .pointer (some ⟨sb, 0, none⟩), .pointer (some ⟨lb, 0, none⟩)] W' fun e w' => e = .returned (vSp (Ch.thickOn b s d t)) ∧ Below W'.heap.size W' w' :=
    fun t ht W' hB => thickOnF_any b _ T V M _ rule t ht.1 ht.2 s d sb lb W' ((HM.out.below hB (Nat.le_refl _)).more hB.size) hn hdays HG.out ((hB.block _ (heap_lt HSB.out)).trans HSB.out) ((hB.block _ (heap_lt HLB.out)).trans HLB.out)
  have HTELL := Lib.hid htell
  clear htell
  go_enter Tryz.func115, Tryz.ntmps115
  go_wp2_with fail
  refine name_world ?_
  intro W0 hW0
  have hB0 : Below w.heap.size w W0 := by rw [hW0]; exact (((Below.refl _ _).alloc (Nat.le_refl _) _).alloc (by simp) _).alloc (by simp; omega) _
  have hab : W0.heap[w.heap.size + 1 + 1]? = some (.cells (madeCells #[I 0] l.length) 3 (0, 0)) := by rw [hW0]; exact heap_at _ _ (by simp)
  have heb : W0.heap[w.heap.size + 1]? = some (.cells #[.func (.func 150) #[] #[], .func (.func 151) #[] #[]] 146 (0, 0)) := by rw [hW0]; exact (Below.heap_alloc _ _ _ (by simp)).trans (heap_at _ _ (by simp))
  have hz0 : W0.heap.size = w.heap.size + 3 := by rw [hW0]; simp
  clear hW0
  have HAB := Lib.hid hab
  have HEB := Lib.hid heb
  have HWE := Lib.hid hwe
  clear hab heb hwe
  go_loopw [17] (fun i wr => ∃ k : Nat, k ≤ l.length ∧ i = I k ∧ ReachAt (fun t => (Ch.thickOn b s d t).hi) l (w.heap.size + 1 + 1) W0 k wr) (fun i _ => l.length - (intOf i).toNat)
  case atStart => exact ⟨0, Nat.zero_le _, rfl, _, HAB.out, size_madeCells _ _, fun j _ hj => by omega, Below.refl _ _⟩
  case round =>
    obtain ⟨k, hk, rfl, cells, hcs, hcz, hcj, hBr⟩ := hrel
    have hbw : Below w.heap.size w wr := hB0.trans (hBr.mono (by omega))
    have hebr := (hBr.block (w.heap.size + 1) (by omega)).trans HEB.out
    have e0 := cell_of_row wr _ 0 _ _ _ hebr
    have e1 := cell_of_row wr _ 1 _ _ _ hebr
    simp only [List.getElem?_toArray, List.getElem?_cons_zero, List.getElem?_cons_succ] at e0 e1
    have hab1 := heap_lt hcs
    have HCS := Lib.hid hcs
    have HCZ := Lib.hid hcz
    have HCJ := Lib.hid hcj
    by_cases hlt : k < l.length
    · obtain ⟨rb', ro', rc', hv, hrb', hrc⟩ := (Sl.below HR.out hbw (Nat.le_refl _) : Trs wr _ _ _).tr hlt
      injection hv with hA _ hc
      injection hA with hA
      injection hA with hA1 hA2
      subst hA1 hA2 hc
      have t0 := hrc 0 (by omega)
      have t1 := hrc 1 (by omega)
      have t2 := hrc 2 (by omega)
      have t3 := hrc 3 (by omega)
      have t4 := hrc 4 (by omega)
      have t5 := hrc 5 (by omega)
      have t6 := hrc 6 (by omega)
      have t7 := hrc 7 (by omega)
      have t8 := hrc 8 (by omega)
      have t9 := hrc 9 (by omega)
      have t10 := hrc 10 (by omega)
      have t11 := hrc 11 (by omega)
      simp only [cTr, List.getElem?_cons_zero, List.getElem?_cons_succ, Nat.add_zero] at t0 t1 t2 t3 t4 t5 t6 t7 t8 t9 t10 t11
      have htw := HWE.out _ (List.getElem_mem hlt)
      generalize hte : l[k] = t at t0 t1 t2 t3 t4 t5 t6 t7 t8 t9 t10 t11 htw
      have HTE := Lib.hid hte
      have HTW := Lib.hid htw
      have hki : (k : Int) < l.length := by omega
      clear hrc hcs hcz hcj hte htw hebr
      go_wp2_with fail
      refine name_world ?_
      intro W hW
      have hz : W.heap.size = wr.heap.size + 1 := by rw [hW]; simp
      have hbW : Below wr.heap.size wr W := by rw [hW]; exact (Below.refl _ _).alloc (Nat.le_refl _) _
      have hrow : W.heap[wr.heap.size]? = some (oTr t) := by rw [hW]; exact heap_at _ _ rfl
      have HROW := Lib.hid hrow
      have q0 := cell_of_row W _ 0 _ _ _ hrow
      have q1 := cell_of_row W _ 1 _ _ _ hrow
      have q2 := cell_of_row W _ 2 _ _ _ hrow
      have q3 := cell_of_row W _ 3 _ _ _ hrow
      have q4 := cell_of_row W _ 4 _ _ _ hrow
      have q5 := cell_of_row W _ 5 _ _ _ hrow
      have q6 := cell_of_row W _ 6 _ _ _ hrow
      have q7 := cell_of_row W _ 7 _ _ _ hrow
      have q8 := cell_of_row W _ 8 _ _ _ hrow
      have q9 := cell_of_row W _ 9 _ _ _ hrow
      have q10 := cell_of_row W _ 10 _ _ _ hrow
      have q11 := cell_of_row W _ 11 _ _ _ hrow
      have heW := (hbW.block (w.heap.size + 1) (by omega)).trans ((hBr.block (w.heap.size + 1) (by omega)).trans HEB.out)
      have u0 := cell_of_row W _ 0 _ _ _ heW
      have hcW := (hbW.block (w.heap.size + 1 + 1) hab1).trans HCS.out
      have HCW := Lib.hid hcW
      simp only [List.getElem?_toArray, List.getElem?_cons_zero, List.getElem?_cons_succ] at q0 q1 q2 q3 q4 q5 q6 q7 q8 q9 q10 q11 u0
      have hkc : k < cells.size := by rw [HCZ.out]; exact hlt
      have n0 : W.cell? ⟨w.heap.size + 1 + 1, k, none⟩ = some cells[k] := by rw [cell_of_row W _ k _ _ _ hcW]; simp [hkc]
      have n1 : W.frozen? ⟨w.heap.size + 1 + 1, k, none⟩ = false := by simp [World.frozen?, hcW]
      have hlF : w.heap.size + 1 + 1 < W.heap.size := by omega
      have hl1 : w.heap.size + 1 < W.heap.size := by omega
      have hlr : wr.heap.size < W.heap.size := by omega
      have hner : wr.heap.size ≠ w.heap.size + 1 + 1 := by omega
      have hFW : w.heap.size + 1 + 1 ≤ W.heap.size := by omega
      have hbWd : Below w.heap.size w W.drew := (hbw.trans (hbW.mono hbw.size)).trans (Below.refl _ _).drew
      have HBW := Lib.hid hbWd
      clear hW hrow heW hcW t0 t1 t2 t3 t4 t5 t6 t7 t8 t9 t10 t11 e0 e1 hz hbWd
      go_region_held3 (fun w' => Apart (w.heap.size + 1 + 1) W w') (first | assumption | exact apart_start _ _ | exact apart_step hFW (by assumption) (by assumption) | exact apart_step hFW (by assumption) (apart_start _ _) | exact apart_set (by assumption) _ _ | exact apart_set (apart_step hFW (by assumption) (by assumption)) _ _ | go_keep)
        (first | (go_at_call 118; refine (HTELL.out t HTW.out _ HBW.out).mono ?_; rintro e w1 ⟨rfl, hB1⟩; have m0 : w1.cell? ⟨w.heap.size + 1 + 1, k, none⟩ = some cells[k] := (hB1.cell (p := ⟨w.heap.size + 1 + 1, k, none⟩) hlF).trans n0; have m1 : w1.frozen? ⟨w.heap.size + 1 + 1, k, none⟩ = false := (hB1.frozen (p := ⟨w.heap.size + 1 + 1, k, none⟩) hlF).trans n1; have hF1 := (hB1.block _ hlF).trans HCW.out; have HF1 := Lib.hid hF1; have hlF1 : w.heap.size + 1 + 1 < w1.heap.size := Nat.lt_of_lt_of_le hlF hB1.size; clear hF1)
               | (go_at_call 150; refine (highF_any _ _).mono ?_; rintro e w2 ⟨rfl, hB2⟩; have r0 := (hB2.cell (p := ⟨w.heap.size + 1 + 1, k, none⟩) hlF1).trans m0; have r1 := (hB2.frozen (p := ⟨w.heap.size + 1 + 1, k, none⟩) hlF1).trans m1; have hF2 := (hB2.block _ hlF1).trans HF1.out; have HF2 := Lib.hid hF2; clear hF2))
      have hap : Apart (w.heap.size + 1 + 1) W (w2.setCell ⟨w.heap.size + 1 + 1, k, none⟩ (I (Ch.thickOn b s d t).hi)) := apart_set (apart_step hFW hB2 (apart_step hFW hB1 (apart_start _ _))) _ _
      have HAP := Lib.hid hap
      clear hap hB1 hB2 n0 n1 m0 m1 r0 r1 q0 q1 q2 q3 q4 q5 q6 q7 q8 q9 q10 q11 u0
      go_wp2_with fail
      go_roundw
      case rel =>
        refine ⟨k + 1, by omega, by go_num, cells.setIfInBounds k (I (Ch.thickOn b s d t).hi), set_row HF2.out _ _, by rw [Array.size_setIfInBounds]; exact HCZ.out, fun j hj hjk => ?_, (hBr.trans (hbW.mono (by omega))).trans HAP.out.2.1⟩
        rw [Array.getElem?_setIfInBounds]
        by_cases hjk2 : k = j
        · subst hjk2
          rw [if_pos rfl, if_pos hkc, HTE.out]
        · rw [if_neg hjk2]
          exact HCJ.out j hj (by omega)
      case measure => simp [intOf]; omega
    · obtain rfl : k = l.length := by omega
      clear hcs hcz hcj hebr
      go_wp2_with fail
      have hsl : Sl wr wr.heap.size 1 (.slice (some ⟨w.heap.size + 1 + 1, 0, none⟩) l.length l.length) (l.map fun t => (Ch.thickOn b s d t).hi).length ((l.map fun t => (Ch.thickOn b s d t).hi).map I) := by
        refine ⟨by simp, some ⟨w.heap.size + 1 + 1, 0, none⟩, l.length, by simp, by simp, by unfold maxLen; omega, fun _ => ⟨_, 0, rfl, hab1, fun j u hu => ?_⟩⟩
        rw [Nat.zero_add, cell_of_row wr _ j _ _ _ HCS.out]
        have hjl : j < l.length := by have := (List.getElem?_eq_some_iff.1 hu).1; simpa using this
        rw [HCJ.out j hjl hjl]
        simpa [hjl] using hu
      refine (max_any (l.map fun t => (Ch.thickOn b s d t).hi) (by simpa using HL.out) _ wr hsl).mono ?_
      rintro e w9 ⟨rfl, hB9⟩
      go_wp2_with fail
      go_ret
      exact ⟨rfl, hbw.trans (hB9.mono hbw.size)⟩

end Go.Proofs.YtkfahochpnggbaaGreat
