/- Texts on the program that the proof leans on, part 25. -/
import Derived.Test.YtkfahochpnggbaaGreatYas
set_option linter.unusedVariables false
set_option linter.unusedSimpArgs false

/- Contracts of chain's asked.right; slices.IndexFunc, slices.ContainsFunc at truths. -/
namespace Go.Proofs.YtkfahochpnggbaaGreat
open Go.RowKit

/-- Whether a survey can be right, if places wear as in this truth. -/
def Ch.fitsIn (b : Ch.Bk) (x : Ch.Sv) (t : Ch.Tr) : Bool := !Ch.isEmpty (Ch.meet (t.first x.sec.toNat) (Ch.read b t.wear x))
abbrev vAsk (S T V : Value) (rule days : Int) (M R : Value) (x : Ch.Sv) : Value := .agg #[S, T, V, I rule, I days, M, R, I x.sec, I x.day, I x.read, I x.err]

set_option maxRecDepth 100000 in
set_option maxHeartbeats 2000000 in
theorem right_any (b : Ch.Bk) (S T V M R : Value) (rule : Int) (t : Ch.Tr) (hw : Ch.WearOk t.wear) (x : Ch.Sv) (w : World) (hM : RM w w.heap.size b M) (hn : b.secs.length ≤ 4) (hdays : b.days ≤ 30) (hx : SvOk b x)
    (n0 c0 : Nat) (A0 : Option Addr) (hS : S = .slice A0 n0 c0) :
    Calls Tryz.prog 91 #[vAsk S T V rule b.days M R x, vTr t] w fun e w' => e = .returned (.bool (Ch.fitsIn b x t)) ∧ Below w.heap.size w w' := by
  obtain ⟨sc, dy, rd, er⟩ := x
  obtain ⟨s, rfl⟩ : ∃ s : Nat, sc = s := ⟨sc.toNat, by have := hx.sec0; simp only at this; omega⟩
  have hs4 : s < 4 := by have := hx.sec1; simp only at this; omega
  have hs4i : (s : Int) < 4 := by omega
  have hs0 : (0 : Int) ≤ s := by omega
  subst hS
  have hB : Below w.heap.size w ((w.alloc (.cells #[.slice A0 n0 c0, T, V, I rule, I b.days, M, R, I s, I dy, I rd, I er] 117)).alloc (oTr t)) := ((Below.refl _ _).alloc (Nat.le_refl _) _).alloc (by simp) _
  go_enter Tryz.func91, Tryz.ntmps91
  go_wp2_with fail
  refine name_world ?_
  intro W hW
  replace hB : Below w.heap.size w W := by rw [hW]; exact hB
  have haB : W.heap[w.heap.size]? = some (.cells #[.slice A0 n0 c0, T, V, I rule, I b.days, M, R, I s, I dy, I rd, I er] 117 (0, 0)) := by rw [hW]; exact (Below.heap_alloc _ _ _ (by simp)).trans (heap_at _ _ rfl)
  have hrow : W.heap[w.heap.size + 1]? = some (oTr t) := by rw [hW]; exact heap_at _ _ (by simp)
  have hz : W.heap.size = w.heap.size + 2 := by rw [hW]; simp
  have a0 := cell_of_row W _ 0 _ _ _ haB
  have a1 := cell_of_row W _ 1 _ _ _ haB
  have a2 := cell_of_row W _ 2 _ _ _ haB
  have a3 := cell_of_row W _ 3 _ _ _ haB
  have a4 := cell_of_row W _ 4 _ _ _ haB
  have a5 := cell_of_row W _ 5 _ _ _ haB
  have a6 := cell_of_row W _ 6 _ _ _ haB
  have a7 := cell_of_row W _ 7 _ _ _ haB
  have a8 := cell_of_row W _ 8 _ _ _ haB
  have a9 := cell_of_row W _ 9 _ _ _ haB
  have a10 := cell_of_row W _ 10 _ _ _ haB
  have p0 := tr_wear hrow (show 0 < 4 by omega)
  have p1 := tr_wear hrow (show 1 < 4 by omega)
  have p2 := tr_wear hrow (show 2 < 4 by omega)
  have p3 := tr_wear hrow (show 3 < 4 by omega)
  have q0 := tr_lo hrow hs4
  have q1 := tr_hi hrow hs4
  simp only [List.getElem?_toArray, List.getElem?_cons_zero, List.getElem?_cons_succ] at a0 a1 a2 a3 a4 a5 a6 a7 a8 a9 a10
  have hlt0 : w.heap.size < W.heap.size := by omega
  have hlt1 : w.heap.size + 1 < W.heap.size := by omega
  have hBz := hB.size
  have HB := Lib.hid (show ∀ w', Held W w' → Below w.heap.size w w' from fun w' h => hB.trans (h.2.2.mono hBz))
  have HM := Lib.hid (show ∀ w', Held W w' → RM w' w'.heap.size b M from fun w' h => (hM.below (hB.trans (h.2.2.mono hBz)) (Nat.le_refl _)).more (Nat.le_trans hBz h.2.2.size))
  have HX := Lib.hid hx
  clear hz hW haB hrow hM hx
  go_region_held3 (fun w' => Held W w') (first | assumption | exact held_start _ | exact held_step (by assumption) (by assumption) | exact held_step (by assumption) (held_start _) | go_keep)
    (first | (go_at_call 126; refine (read_any b _ T V M R rule t.wear hw ⟨s, dy, rd, er⟩ _ (HM.out _ (by first | assumption | exact held_start _)) hn hdays HX.out).mono ?_; rintro e w1 ⟨rfl, hB1⟩)
           | (go_at_call 125; refine (meet_any _ _ _ _ _).mono ?_; rintro e w1 ⟨rfl, hB1⟩)
           | (go_at_call 124; refine (isEmpty_any _ _ _).mono ?_; rintro e w1 ⟨rfl, hB1⟩))
  have hb1 : Below w.heap.size w w1 := HB.out _ (by assumption)
  have HB1 := Lib.hid hb1
  clear hb1 hB1
  go_wp2_with fail
  go_ret
  exact ⟨rfl, HB1.out⟩

/-- What is asked of a function value that says whether it is so of a truth. -/
def Says (f : Value) (F : Ch.Tr → Bool) (l : List Ch.Tr) (w : World) : Prop :=
  ∃ g fs cs, f = .func (.func g) fs cs ∧ ∀ t ∈ l, ∀ W', Below w.heap.size w W' → Calls Tryz.prog g (fs ++ #[vTr t] ++ cs) W' fun e w' => e = .returned (.bool (F t)) ∧ Below W'.heap.size W' w'

end Go.Proofs.YtkfahochpnggbaaGreat

/- Contracts of slices.IndexFunc, slices.ContainsFunc at truths, at a method value. -/
namespace Go.Proofs.YtkfahochpnggbaaGreat
open Go.RowKit

/-- A number that is not below 0 just if there is one. -/
def IndexPost (l : List Ch.Tr) (F : Ch.Tr → Bool) (w : World) (e : Ending) (w' : World) : Prop :=
  ∃ n : Int, e = .returned (I n) ∧ (0 ≤ n ↔ l.any F = true) ∧ Below w.heap.size w w'

set_option maxRecDepth 100000 in
set_option maxHeartbeats 1000000 in
theorem indexFunc_any (l : List Ch.Tr) (F : Ch.Tr → Bool) (R ask : Value) (w : World) (hR : Trs w w.heap.size R l) (hg : ∀ t ∈ l, ∀ W', Below w.heap.size w W' → Calls Tryz.prog 91 #[ask, vTr t] W' fun e w' => e = .returned (.bool (F t)) ∧ Below W'.heap.size W' w') :
    Calls Tryz.prog 123 #[R, .func (.func 91) #[ask] #[]] w (IndexPost l F w) := by
  have hm := hR.le
  unfold maxLen at hm
  obtain ⟨AR, cR, rfl⟩ := hR.form
  have HR := Lib.hid hR
  have HG := Lib.hid hg
  clear hR hg
  go_enter Tryz.func123, Tryz.ntmps123
  go_wp2_with fail
  go_loopw [8] (fun i wr => ∃ k : Nat, k ≤ l.length ∧ i = I k ∧ (∀ j (hj : j < l.length), j < k → F l[j] = false) ∧ Below w.heap.size w wr) (fun i _ => l.length - (intOf i).toNat)
  case atStart => exact ⟨0, Nat.zero_le _, rfl, fun j _ hj => by omega, Below.refl _ _⟩
  case round =>
    obtain ⟨k, hk, rfl, hF, hBr⟩ := hrel
    have HF := Lib.hid hF
    clear hF
    by_cases hlt : k < l.length
    · obtain ⟨rb', ro', rc', hv, hrb', hrc⟩ := (Sl.below HR.out hBr (Nat.le_refl _) : Trs wr _ _ _).tr hlt
      injection hv with hA _ hc
      subst hA hc
      have t0 := hrc 0 (by omega)
      have t1 := hrc 1 (by omega)
      have t2 := hrc 2 (by omega)
      have t3 := hrc 3 (by omega)
      have t4 := hrc 4 (by omega)
      have t5 := hrc 5 (by omega)
      have t6 := hrc 6 (by omega)
      have t7 := hrc 7 (by omega)
      have t8 := hrc 8 (by omega)
      have t9 := hrc 9 (by omega)
      have t10 := hrc 10 (by omega)
      have t11 := hrc 11 (by omega)
      simp only [cTr, List.getElem?_cons_zero, List.getElem?_cons_succ, Nat.add_zero] at t0 t1 t2 t3 t4 t5 t6 t7 t8 t9 t10 t11
      have hcall := HG.out _ (List.getElem_mem hlt) wr hBr
      generalize hte : l[k] = t at t0 t1 t2 t3 t4 t5 t6 t7 t8 t9 t10 t11 hcall
      have HTE := Lib.hid hte
      have HCALL := Lib.hid hcall
      have hki : (k : Int) < l.length := by omega
      clear hrc hte hcall
      go_wp2_with fail
      refine HCALL.out.mono ?_
      rintro e w1 ⟨rfl, hB1⟩
      have hb1 := hBr.trans (hB1.mono hBr.size)
      clear t0 t1 t2 t3 t4 t5 t6 t7 t8 t9 t10 t11
      cases hFk : F t
      · have HFK := Lib.hid hFk
        clear hFk
        go_wp2_with fail
        go_roundw
        case rel =>
          refine ⟨k + 1, by omega, by go_num, fun j hj hjk => ?_, hb1⟩
          rcases Nat.lt_succ_iff_lt_or_eq.1 hjk with h | h
          · exact HF.out j hj h
          · subst h; rw [HTE.out]; exact HFK.out
        case measure => simp [intOf]; omega
      · have HFK := Lib.hid hFk
        clear hFk
        go_wp2_with fail
        go_ret
        exact ⟨k, rfl, ⟨fun _ => List.any_eq_true.2 ⟨l[k], List.getElem_mem hlt, by rw [HTE.out]; exact HFK.out⟩, fun _ => by omega⟩, hb1⟩
    · obtain rfl : k = l.length := by omega
      go_wp2_with fail
      go_ret
      refine ⟨-1, rfl, ⟨fun h => by omega, fun h => ?_⟩, hBr⟩
      obtain ⟨t, ht, hft⟩ := List.any_eq_true.1 h
      obtain ⟨j, hj, rfl⟩ := List.mem_iff_getElem.1 ht
      rw [HF.out j hj hj] at hft
      cases hft

set_option maxHeartbeats 1000000 in
theorem containsFunc_any (l : List Ch.Tr) (F : Ch.Tr → Bool) (R ask : Value) (w : World) (hR : Trs w w.heap.size R l) (hg : ∀ t ∈ l, ∀ W', Below w.heap.size w W' → Calls Tryz.prog 91 #[ask, vTr t] W' fun e w' => e = .returned (.bool (F t)) ∧ Below W'.heap.size W' w') :
    Calls Tryz.prog 90 #[R, .func (.func 91) #[ask] #[]] w fun e w' => e = .returned (.bool (l.any F)) ∧ Below w.heap.size w w' := by
  have h := indexFunc_any l F R ask w hR hg
  obtain ⟨AR, cR, rfl⟩ := hR.form
  have H := Lib.hid h
  clear h hg hR
  go_enter Tryz.func90, Tryz.ntmps90
  go_wp2_with fail
  refine H.out.mono ?_
  rintro e w1 ⟨n, rfl, hn, hB1⟩
  have HN := Lib.hid hn
  clear hn
  by_cases h0 : 0 ≤ n
  · go_wp2_with fail
    go_ret
    exact ⟨ret_b (HN.out.1 h0).symm, hB1⟩
  · go_wp2_with fail
    go_ret
    refine ⟨ret_b ?_, hB1⟩
    cases h : l.any F
    · simp; omega
    · have := HN.out.2 h; omega

end Go.Proofs.YtkfahochpnggbaaGreat
