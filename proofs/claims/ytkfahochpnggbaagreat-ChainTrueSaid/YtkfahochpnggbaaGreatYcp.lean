/- Proved: for every book of a chain and any two numbers prowlaw01.ChainTrue returns true and leaves its arguments as they were. Conditions: none beyond the given row. -/
import Derived.Test.YtkfahochpnggbaaGreatYbn
import Derived.Test.YtkfahochpnggbaaGreatYbo
import Derived.Test.YtkfahochpnggbaaGreatYbw
import Derived.Test.YtkfahochpnggbaaGreatYcn
import Derived.Test.YtkfahochpnggbaaGreatYco
import Derived.Test.YtkfahochpnggbaaGreatYbs
set_option linter.unusedVariables false
set_option linter.unusedSimpArgs false

/- Contract of ChainTrue: it returns true, whatever the book and the numbers. -/
namespace Go.Proofs.YtkfahochpnggbaaGreat
open Go.RowKit

theorem contains_yes (s : Ch.Sp) (n : Int) (h : s.lo ≤ n ∧ n ≤ s.hi) (w : World) :
    Calls Tryz.prog 33 #[vSp s, I n] w fun e w' => e = .returned (.bool true) ∧ Below w.heap.size w w' :=
  (containsSp_any s n w).mono fun e w' k => ⟨by rw [k.1]; simp [Ch.between, h.1, h.2], k.2⟩

set_option maxRecDepth 100000 in
set_option maxHeartbeats 8000000 in
theorem ChainTrue_any (b : Ch.Bk) (S T V v0 : Value) (bits : List Int) (n0 n1 : Int) (w : World) (hb : RB w w.heap.size b S T V) (hv : Sl w w.heap.size 1 v0 bits.length (bits.map I)) :
    Calls Tryz.prog 6 #[vBk S T V b.rule b.days, v0, .agg #[I n0, I n1]] w fun e w' => e = .returned (.bool true) ∧ Below w.heap.size w w' := by
  obtain ⟨A0, k0, rfl⟩ := hb.secs.form
  obtain ⟨A1, k1, rfl⟩ := hb.turns.form
  obtain ⟨A2, k2, rfl⟩ := hb.svs.form
  obtain ⟨Av, kv, rfl⟩ := hv.form
  obtain ⟨o, ho⟩ : ∃ o : Obj, o = .cells #[.slice A0 b.secs.length k0, .slice A1 b.turns.length k1, .slice A2 b.svs.length k2, I b.rule, I b.days] 26 := ⟨_, rfl⟩
  obtain ⟨o2, ho2⟩ : ∃ o : Obj, o = .cells #[I n0, I n1] 27 := ⟨_, rfl⟩
  obtain ⟨W0, hW0⟩ : ∃ W : World, W = (w.alloc o).alloc o2 := ⟨_, rfl⟩
  have hb0 : Below w.heap.size w W0 := by rw [hW0]; exact ((Below.refl _ _).alloc (Nat.le_refl _) _).alloc (by simp) _
  have rB : W0.heap[w.heap.size]? = some o := by rw [hW0]; exact (Below.heap_alloc _ _ _ (by simp)).trans (heap_at _ _ rfl)
  have rN : W0.heap[w.heap.size + 1]? = some o2 := by rw [hW0]; exact heap_at _ _ (by simp)
  have lB : w.heap.size < W0.heap.size := by rw [hW0]; simp; omega
  have lN : w.heap.size + 1 < W0.heap.size := by rw [hW0]; simp
  go_enter Tryz.func6, Tryz.ntmps6
  go_wp2_with fail
  rw [← ho, ← ho2, ← hW0]
  subst ho ho2
  clear hW0
  have hRB := (hb.below hb0 (Nat.le_refl _)).more hb0.size
  refine (sound_any b _ _ _ W0 hRB).mono ?_
  rintro e w1 ⟨rfl, hB1⟩
  replace rB := (hB1.block _ lB).trans rB
  replace lB := Nat.lt_of_lt_of_le lB hB1.size
  replace rN := (hB1.block _ lN).trans rN
  replace lN := Nat.lt_of_lt_of_le lN hB1.size
  have hb1 := hb0.trans (hB1.mono hb0.size)
  clear hRB hb0 hB1
  by_cases hck : Ch.check b = 0
  case neg =>
    rw [decide_eq_false hck]
    clear rB rN lB lN
    go_wp2_with fail
    refine (forged_any _).mono ?_
    rintro e w2 ⟨rfl, hB2⟩
    have HB := Lib.hid (hb1.trans (hB2.mono hb1.size))
    clear hB2 hb1 hck
    go_wp2_with fail
    go_ret
    exact ⟨rfl, HB.out⟩
  rw [decide_eq_true hck]
  have hval : Ch.valid b = true := by
    unfold Ch.check at hck
    split at hck
    · assumption
    · omega
  have hn := Ch.secs_le hval
  have hdy := Ch.days_le hval
  have HRB0 := Lib.hid (show ∀ W', Below w.heap.size w W' → RB W' W'.heap.size b (.slice A0 b.secs.length k0) (.slice A1 b.turns.length k1) (.slice A2 b.svs.length k2) from fun W' h => (hb.below h (Nat.le_refl _)).more h.size)
  have HBITS := Lib.hid (show ∀ W', Below w.heap.size w W' → Sl W' W'.heap.size 1 (.slice Av bits.length kv) bits.length (bits.map I) from fun W' h => (hv.below h (Nat.le_refl _)).more h.size)
  have FORGE := Lib.hid (show ∀ W', Below w.heap.size w W' → Calls Tryz.prog 18 #[] W' fun e w' => e = .returned (.bool true) ∧ Below w.heap.size w w' from fun W' h => (forged_any W').mono fun e w' ⟨h1, h2⟩ => ⟨h1, h.trans (h2.mono h.size)⟩)
  have HVAL := Lib.hid hval
  clear hb hv hck hval
  have qB0 := cell_of_row w1 _ 0 _ _ _ rB
  have qB1 := cell_of_row w1 _ 1 _ _ _ rB
  have qB2 := cell_of_row w1 _ 2 _ _ _ rB
  have qB3 := cell_of_row w1 _ 3 _ _ _ rB
  have qB4 := cell_of_row w1 _ 4 _ _ _ rB
  simp only [List.getElem?_toArray, List.getElem?_cons_zero, List.getElem?_cons_succ] at qB0 qB1 qB2 qB3 qB4
  go_wp2_with fail
  clear qB0 qB1 qB2 qB3 qB4
  refine (truly_any b _ _ _ _ bits w1 (HRB0.out _ hb1) (HBITS.out _ hb1) HVAL.out).mono ?_
  rintro e w2 ⟨⟨v1, v2, th, ws, rfl, hto, hs1, hs2⟩, hB_w2⟩
  replace rB := (hB_w2.block _ lB).trans rB
  replace lB := Nat.lt_of_lt_of_le lB hB_w2.size
  replace rN := (hB_w2.block _ lN).trans rN
  replace lN := Nat.lt_of_lt_of_le lN hB_w2.size
  have hb_w2 := hb1.trans (hB_w2.mono hb1.size)
  obtain ⟨A3, k3, rfl⟩ := hs1.form
  obtain ⟨A4, k4, rfl⟩ := hs2.form
  have HTO := Lib.hid hto
  have HS1 := Lib.hid hs1
  have HS2 := Lib.hid hs2
  clear hB_w2 hb1 hto hs1 hs2
  have qB0 := cell_of_row w2 _ 0 _ _ _ rB
  have qB1 := cell_of_row w2 _ 1 _ _ _ rB
  have qB2 := cell_of_row w2 _ 2 _ _ _ rB
  have qB3 := cell_of_row w2 _ 3 _ _ _ rB
  have qB4 := cell_of_row w2 _ 4 _ _ _ rB
  simp only [List.getElem?_toArray, List.getElem?_cons_zero, List.getElem?_cons_succ] at qB0 qB1 qB2 qB3 qB4
  go_wp2_with fail
  clear qB0 qB1 qB2 qB3 qB4
  refine (wornLaw_any b _ _ _ _ _ th ws w2 (HRB0.out _ hb_w2) HS1.out HS2.out HTO.out HVAL.out).mono ?_
  rintro e w3 ⟨⟨v3, rfl, hD⟩, hB_w3⟩
  replace rB := (hB_w3.block _ lB).trans rB
  replace lB := Nat.lt_of_lt_of_le lB hB_w3.size
  replace rN := (hB_w3.block _ lN).trans rN
  replace lN := Nat.lt_of_lt_of_le lN hB_w3.size
  have hb_w3 := hb_w2.trans (hB_w3.mono hb_w2.size)
  have HS3 := Lib.hid ((HS2.out.below hB_w3 (Nat.le_refl _)).more hB_w3.size)
  obtain ⟨D, hDD⟩ : ∃ D, Ch.trueRows b th ws (b.days.toNat + 1) = D := ⟨_, rfl⟩
  have hdl : (D.length : Int) = b.days + 1 := by rw [← hDD]; simp [Ch.trueRows]; omega
  have hrw : ∀ d (h : d < D.length), D[d].length = b.secs.length := by subst hDD; intro d h; simp [Ch.trueRows, Ch.true_len]
  have hbd : ∀ d s, 0 ≤ (D.getD d []).getD s 0 ∧ (D.getD d []).getD s 0 ≤ 200 := fun d s => by rw [← hDD]; exact Ch.rows_bd HVAL.out HTO.out (by omega) d s
  have hget : ∀ d s : Nat, (d : Int) ≤ b.days → s < b.secs.length → (D.getD d []).getD s 0 = Ch.trueOn b th ws d s := fun d s hd hs => by rw [← hDD]; exact Ch.rows_getD th ws (by omega) hs
  have hrr : ∀ m, Ch.Rightly (fun d s => (D.getD d []).getD s 0) b.svs m → Ch.Rightly (Ch.trueOn b th ws) b.svs m := fun m h => by rw [← hDD] at h; exact Ch.rows_rightly HVAL.out (by omega) h
  rw [hDD] at hD
  obtain ⟨A5, k5, rfl⟩ := hD.form
  have HD := Lib.hid hD
  have HDL := Lib.hid hdl
  have HRW := Lib.hid hrw
  have HBD := Lib.hid hbd
  have HGET := Lib.hid hget
  have HRR := Lib.hid hrr
  clear hB_w3 hb_w2 hD hdl hrw hbd hget hrr hDD HS1 HS2
  have qB0 := cell_of_row w3 _ 0 _ _ _ rB
  have qB1 := cell_of_row w3 _ 1 _ _ _ rB
  have qB2 := cell_of_row w3 _ 2 _ _ _ rB
  have qB3 := cell_of_row w3 _ 3 _ _ _ rB
  have qB4 := cell_of_row w3 _ 4 _ _ _ rB
  simp only [List.getElem?_toArray, List.getElem?_cons_zero, List.getElem?_cons_succ] at qB0 qB1 qB2 qB3 qB4
  have qN0 := cell_of_row w3 _ 0 _ _ _ rN
  have qN1 := cell_of_row w3 _ 1 _ _ _ rN
  simp only [List.getElem?_toArray, List.getElem?_cons_zero, List.getElem?_cons_succ] at qN0 qN1
  go_wp2_with fail
  clear qB0 qB1 qB2 qB3 qB4
  clear qN0 qN1
  refine (rightly_any b _ _ _ _ D n0 w3 (HRB0.out _ hb_w3) HD.out HVAL.out HDL.out HRW.out HBD.out).mono ?_
  rintro e w4 ⟨⟨V', m, rfl, hri, hsv⟩, hB_w4⟩
  replace rB := (hB_w4.block _ lB).trans rB
  replace lB := Nat.lt_of_lt_of_le lB hB_w4.size
  replace rN := (hB_w4.block _ lN).trans rN
  replace lN := Nat.lt_of_lt_of_le lN hB_w4.size
  have hb_w4 := hb_w3.trans (hB_w4.mono hb_w3.size)
  obtain ⟨A6, k6, rfl⟩ := hsv.form
  have HRI := Lib.hid (HRR.out m hri)
  have HSV := Lib.hid hsv
  have HS4 := Lib.hid ((HS3.out.below hB_w4 (Nat.le_refl _)).more hB_w4.size)
  have HD4 := Lib.hid ((HD.out.below hB_w4 (Nat.le_refl _)).more hB_w4.size)
  clear hB_w4 hb_w3 hri hsv HRR HS3 HD HBD HBITS
  go_wp2_with fail
  refine name_calls ?_
  intro u hW
  have hA : Below w4.heap.size w4 u := by rw [hW]; exact (Below.refl _ _).alloc (Nat.le_refl _) _
  have rX : u.heap[w4.heap.size]? = some (.cells #[.slice A0 b.secs.length k0, .slice A1 b.turns.length k1, .slice A6 m.length k6, I b.rule, I b.days] 26 (0, 0)) := by rw [hW]; exact heap_at _ _ rfl
  have lX := heap_lt rX
  replace rB := (hA.block _ lB).trans rB
  replace lB := Nat.lt_of_lt_of_le lB hA.size
  replace rN := (hA.block _ lN).trans rN
  replace lN := Nat.lt_of_lt_of_le lN hA.size
  have hb_u := hb_w4.trans (hA.mono hb_w4.size)
  have HRBx := Lib.hid (show ∀ W', Below u.heap.size u W' → RB W' W'.heap.size (Ch.withSvs b m) (.slice A0 b.secs.length k0) (.slice A1 b.turns.length k1) (.slice A6 m.length k6) from fun W' h => ⟨(HRB0.out W' (hb_u.trans (h.mono hb_u.size))).secs, (HRB0.out W' (hb_u.trans (h.mono hb_u.size))).turns, ((HSV.out.below hA (Nat.le_refl _)).below h (hA.size)).more (Nat.le_trans hA.size h.size)⟩)
  have HSU := Lib.hid ((HS4.out.below hA (Nat.le_refl _)).more hA.size)
  have HDU := Lib.hid ((HD4.out.below hA (Nat.le_refl _)).more hA.size)
  have HBU := Lib.hid hb_u
  clear hW hA hb_w4 HSV HS4 HD4 HRB0
  obtain ⟨hck, hrt, hwr⟩ := Ch.true_right HVAL.out HTO.out HRI.out
  obtain ⟨d, hd⟩ : ∃ d : Nat, (d : Int) = n1 % (b.days + 1) := ⟨_, Int.toNat_of_nonneg (Int.emod_nonneg _ (by omega))⟩
  have hd1 : (d : Int) ≤ b.days := by have := Int.emod_lt_of_pos n1 (show (0 : Int) < b.days + 1 by omega); omega
  have hd1w : IntKind.i64.wrap (b.days + 1) = b.days + 1 := IntWalk.i64_in _ (by omega)
  have hvx := Ch.svs_valid HVAL.out HRI.out
  have hne := Ch.true_some HVAL.out HTO.out HRI.out
  obtain ⟨L, hL⟩ : ∃ L : List Int, Ch.cutL (Ch.withSvs b m) d = L := ⟨_, rfl⟩
  have hday : Ch.isDay (Ch.withSvs b m) d = true := by simp only [Ch.isDay, Bool.and_eq_true, decide_eq_true_eq]; exact ⟨Int.natCast_nonneg _, hd1⟩
  have c1 := fun W' h => Right_any (Ch.withSvs b m) (.slice A0 b.secs.length k0) (.slice A1 b.turns.length k1) (.slice A6 m.length k6) W' (HRBx.out W' h)
  have c2 := fun W' h => Wrong_any (Ch.withSvs b m) (.slice A0 b.secs.length k0) (.slice A1 b.turns.length k1) (.slice A6 m.length k6) W' (HRBx.out W' h)
  have c3 := fun W' h => Cut_any (Ch.withSvs b m) (.slice A0 b.secs.length k0) (.slice A1 b.turns.length k1) (.slice A6 m.length k6) d W' (HRBx.out W' h)
  have c4 : ∀ W, Calls Tryz.prog 27 #[I n1, I (b.days + 1)] W fun e w' => e = .returned (I d) ∧ Below W.heap.size W w' := fun W => by
    have := mod_any n1 (b.days + 1) (by omega) (by omega) W
    rw [← hd] at this
    exact this
  simp only [hrt, hck] at c1
  simp only [hwr, hck] at c2
  simp only [hL, Ch.studyE_ok hvx hday hne] at c3
  have D1 := Lib.hid c1
  have D2 := Lib.hid c2
  have D3 := Lib.hid c3
  have D4 := Lib.hid c4
  have HLL := Lib.hid hL
  clear c1 c2 c3 c4 hck hrt hwr hd hvx hne hday hL
  have hb0 : Below u.heap.size u u := Below.refl _ _
  refine (D1.out _ hb0).mono ?_
  rintro e w5 ⟨rfl, hB_w5⟩
  replace rB := (hB_w5.block _ lB).trans rB
  replace lB := Nat.lt_of_lt_of_le lB hB_w5.size
  replace rN := (hB_w5.block _ lN).trans rN
  replace lN := Nat.lt_of_lt_of_le lN hB_w5.size
  replace rX := (hB_w5.block _ lX).trans rX
  replace lX := Nat.lt_of_lt_of_le lX hB_w5.size
  have hb_w5 := hb0.trans (hB_w5.mono hb0.size)
  clear hB_w5 hb0 hb_u
  have qX0 := cell_of_row w5 _ 0 _ _ _ rX
  have qX1 := cell_of_row w5 _ 1 _ _ _ rX
  have qX2 := cell_of_row w5 _ 2 _ _ _ rX
  have qX3 := cell_of_row w5 _ 3 _ _ _ rX
  have qX4 := cell_of_row w5 _ 4 _ _ _ rX
  simp only [List.getElem?_toArray, List.getElem?_cons_zero, List.getElem?_cons_succ] at qX0 qX1 qX2 qX3 qX4
  go_wp2_with fail
  clear qX0 qX1 qX2 qX3 qX4
  refine (D2.out _ hb_w5).mono ?_
  rintro e w6 ⟨⟨v6, rfl, hsl6⟩, hB_w6⟩
  replace rB := (hB_w6.block _ lB).trans rB
  replace lB := Nat.lt_of_lt_of_le lB hB_w6.size
  replace rN := (hB_w6.block _ lN).trans rN
  replace lN := Nat.lt_of_lt_of_le lN hB_w6.size
  replace rX := (hB_w6.block _ lX).trans rX
  replace lX := Nat.lt_of_lt_of_le lX hB_w6.size
  have hb_w6 := hb_w5.trans (hB_w6.mono hb_w5.size)
  obtain ⟨A7, k7, rfl⟩ := hsl6.form
  clear hB_w6 hb_w5 hsl6 D1 D2
  have qN0 := cell_of_row w6 _ 0 _ _ _ rN
  have qN1 := cell_of_row w6 _ 1 _ _ _ rN
  simp only [List.getElem?_toArray, List.getElem?_cons_zero, List.getElem?_cons_succ] at qN0 qN1
  have qB0 := cell_of_row w6 _ 0 _ _ _ rB
  have qB1 := cell_of_row w6 _ 1 _ _ _ rB
  have qB2 := cell_of_row w6 _ 2 _ _ _ rB
  have qB3 := cell_of_row w6 _ 3 _ _ _ rB
  have qB4 := cell_of_row w6 _ 4 _ _ _ rB
  simp only [List.getElem?_toArray, List.getElem?_cons_zero, List.getElem?_cons_succ] at qB0 qB1 qB2 qB3 qB4
  go_wp2_with fail
  clear qN0 qN1
  clear qB0 qB1 qB2 qB3 qB4
  refine (D4.out _).mono ?_
  rintro e w7 ⟨rfl, hB_w7⟩
  replace rB := (hB_w7.block _ lB).trans rB
  replace lB := Nat.lt_of_lt_of_le lB hB_w7.size
  replace rN := (hB_w7.block _ lN).trans rN
  replace lN := Nat.lt_of_lt_of_le lN hB_w7.size
  replace rX := (hB_w7.block _ lX).trans rX
  replace lX := Nat.lt_of_lt_of_le lX hB_w7.size
  have hb_w7 := hb_w6.trans (hB_w7.mono hb_w6.size)
  clear hB_w7 hb_w6 hd1w
  have qX0 := cell_of_row w7 _ 0 _ _ _ rX
  have qX1 := cell_of_row w7 _ 1 _ _ _ rX
  have qX2 := cell_of_row w7 _ 2 _ _ _ rX
  have qX3 := cell_of_row w7 _ 3 _ _ _ rX
  have qX4 := cell_of_row w7 _ 4 _ _ _ rX
  simp only [List.getElem?_toArray, List.getElem?_cons_zero, List.getElem?_cons_succ] at qX0 qX1 qX2 qX3 qX4
  go_wp2_with fail
  clear qX0 qX1 qX2 qX3 qX4
  refine (D3.out _ hb_w7).mono ?_
  rintro e w8 ⟨⟨v8, rfl, hsl8⟩, hB_w8⟩
  replace rB := (hB_w8.block _ lB).trans rB
  replace lB := Nat.lt_of_lt_of_le lB hB_w8.size
  replace rN := (hB_w8.block _ lN).trans rN
  replace lN := Nat.lt_of_lt_of_le lN hB_w8.size
  replace rX := (hB_w8.block _ lX).trans rX
  replace lX := Nat.lt_of_lt_of_le lX hB_w8.size
  have hb_w8 := hb_w7.trans (hB_w8.mono hb_w7.size)
  obtain ⟨A8, k8, rfl⟩ := hsl8.form
  have HSL8 := Lib.hid hsl8
  have RB8 := Lib.hid rB
  have RX8 := Lib.hid rX
  have HB8 := Lib.hid hb_w8
  clear hB_w8 hb_w7 hsl8 D3 D4 rN lN rB rX hb_w8
  go_wp2_with fail
  go_loopw [18] (fun iv wr => ∃ k : Nat, k ≤ b.secs.length ∧ iv = I k ∧ Below w8.heap.size w8 wr) (fun iv _ => b.secs.length - (intOf iv).toNat)
  case atStart => exact ⟨0, Nat.zero_le _, rfl, Below.refl _ _⟩
  case round =>
    obtain ⟨k, hk, rfl, hb_r⟩ := hrel
    have rB := (hb_r.block _ (heap_lt RB8.out)).trans RB8.out
    have rX := (hb_r.block _ (heap_lt RX8.out)).trans RX8.out
    have lB := heap_lt rB
    have lX := heap_lt rX
    by_cases hlt : k < b.secs.length
    · have hki : (k : Int) < b.secs.length := by omega
      have hvx := Ch.svs_valid HVAL.out HRI.out
      have hne := Ch.true_some HVAL.out HTO.out HRI.out
      obtain ⟨⟨s0, s1⟩, hs⟩ : ∃ s : Ch.Sp, Ch.thickSp (Ch.withSvs b m) k d = s := ⟨_, rfl⟩
      obtain ⟨⟨u0, u1⟩, hu⟩ : ∃ s : Ch.Sp, Ch.wearSp (Ch.withSvs b m) k = s := ⟨_, rfl⟩
      obtain ⟨⟨p0, pe⟩, hp⟩ : ∃ s : Int × Int, Ch.thinR (Ch.withSvs b m) k = s := ⟨_, rfl⟩
      obtain ⟨⟨g0, ge⟩, hg⟩ : ∃ s : Int × Int, Ch.goneR (Ch.withSvs b m) k = s := ⟨_, rfl⟩
      obtain ⟨f1, f2, f3, f4, f5, f6, f7, f8⟩ := Ch.true_facts HVAL.out HTO.out HRI.out hlt hd1 hs hu hp hg
      rw [HLL.out] at f7
      have h0 : Ch.isSection (Ch.withSvs b m) k = true := by simp [Ch.isSection, Ch.withSvs]; omega
      have h1 : (Ch.isSection (Ch.withSvs b m) k && Ch.isDay (Ch.withSvs b m) d) = true := by
        rw [h0]
        simp only [Ch.isDay, Bool.and_eq_true, decide_eq_true_eq]
        exact ⟨trivial, Int.natCast_nonneg _, hd1⟩
      have c1 := fun W' (h : Below w8.heap.size w8 W') => Thick_any (Ch.withSvs b m) (.slice A0 b.secs.length k0) (.slice A1 b.turns.length k1) (.slice A6 m.length k6) k d W' (HRBx.out W' (HB8.out.trans (h.mono HB8.out.size)))
      have c2 := fun W' (h : Below w8.heap.size w8 W') => Wear_any (Ch.withSvs b m) (.slice A0 b.secs.length k0) (.slice A1 b.turns.length k1) (.slice A6 m.length k6) k W' (HRBx.out W' (HB8.out.trans (h.mono HB8.out.size)))
      have c3 := fun W' (h : Below w8.heap.size w8 W') => Thin_any (Ch.withSvs b m) (.slice A0 b.secs.length k0) (.slice A1 b.turns.length k1) (.slice A6 m.length k6) k W' (HRBx.out W' (HB8.out.trans (h.mono HB8.out.size)))
      have c4 := fun W' (h : Below w8.heap.size w8 W') => Gone_any (Ch.withSvs b m) (.slice A0 b.secs.length k0) (.slice A1 b.turns.length k1) (.slice A6 m.length k6) k W' (HRBx.out W' (HB8.out.trans (h.mono HB8.out.size)))
      simp only [hs, Ch.studyE_ok hvx h1 hne] at c1
      simp only [hu, Ch.studyE_ok hvx h0 hne] at c2
      simp only [hp] at c3
      simp only [hg] at c4
      have C1 := Lib.hid c1
      have C2 := Lib.hid c2
      have C3 := Lib.hid c3
      have C4 := Lib.hid c4
      have HLW := Lib.hid (show ∀ W', Below w8.heap.size w8 W' → Sl W' W'.heap.size 1 (.slice A8 L.length k8) L.length (L.map I) from fun W' h => (HSL8.out.below h (Nat.le_refl _)).more h.size)
      have HDW := Lib.hid (show ∀ W', Below w8.heap.size w8 W' → SlL W' W'.heap.size (.slice A5 D.length k5) D from fun W' h => (HDU.out.below (HB8.out.trans (h.mono HB8.out.size)) (Nat.le_refl _)).more (Nat.le_trans HB8.out.size h.size))
      have HSW := Lib.hid (show ∀ W', Below w8.heap.size w8 W' → Sl W' W'.heap.size 1 (.slice A4 ws.length k4) ws.length (ws.map I) from fun W' h => (HSU.out.below (HB8.out.trans (h.mono HB8.out.size)) (Nat.le_refl _)).more (Nat.le_trans HB8.out.size h.size))
      obtain ⟨tv, htv⟩ : ∃ tv, Ch.trueOn b th ws d k = tv := ⟨_, rfl⟩
      obtain ⟨xv, hxv⟩ : ∃ xv, ws.getD k 0 = xv := ⟨_, rfl⟩
      rw [htv] at f1 f2 f7 f8
      rw [hxv] at f3 f4
      have HF1 := Lib.hid (show s0 ≤ tv ∧ tv ≤ s1 from ⟨f1, f2⟩)
      have HF2 := Lib.hid (show u0 ≤ xv ∧ xv ≤ u1 from ⟨f3, f4⟩)
      have HF5 := Lib.hid f7
      have HF6 := Lib.hid f8
      have HTV := Lib.hid htv
      have HXV := Lib.hid hxv
      clear c1 c2 c3 c4 hs hu hp hg h0 h1 hvx hne f1 f2 f3 f4 f7 f8 htv hxv
      have qB0 := cell_of_row wr _ 0 _ _ _ rB
      have qB1 := cell_of_row wr _ 1 _ _ _ rB
      have qB2 := cell_of_row wr _ 2 _ _ _ rB
      have qB3 := cell_of_row wr _ 3 _ _ _ rB
      have qB4 := cell_of_row wr _ 4 _ _ _ rB
      simp only [List.getElem?_toArray, List.getElem?_cons_zero, List.getElem?_cons_succ] at qB0 qB1 qB2 qB3 qB4
      have qX0 := cell_of_row wr _ 0 _ _ _ rX
      have qX1 := cell_of_row wr _ 1 _ _ _ rX
      have qX2 := cell_of_row wr _ 2 _ _ _ rX
      have qX3 := cell_of_row wr _ 3 _ _ _ rX
      have qX4 := cell_of_row wr _ 4 _ _ _ rX
      simp only [List.getElem?_toArray, List.getElem?_cons_zero, List.getElem?_cons_succ] at qX0 qX1 qX2 qX3 qX4
      go_wp2_with fail
      clear qX0 qX1 qX2 qX3 qX4
      refine (C1.out _ hb_r).mono ?_
      rintro e y1 ⟨rfl, hB_y1⟩
      replace rB := (hB_y1.block _ lB).trans rB
      replace lB := Nat.lt_of_lt_of_le lB hB_y1.size
      replace rX := (hB_y1.block _ lX).trans rX
      replace lX := Nat.lt_of_lt_of_le lX hB_y1.size
      have hb_y1 := hb_r.trans (hB_y1.mono hb_r.size)
      clear qB0 qB1 qB2 qB3 qB4
      clear hB_y1 hb_r
      have qX0 := cell_of_row y1 _ 0 _ _ _ rX
      have qX1 := cell_of_row y1 _ 1 _ _ _ rX
      have qX2 := cell_of_row y1 _ 2 _ _ _ rX
      have qX3 := cell_of_row y1 _ 3 _ _ _ rX
      have qX4 := cell_of_row y1 _ 4 _ _ _ rX
      simp only [List.getElem?_toArray, List.getElem?_cons_zero, List.getElem?_cons_succ] at qX0 qX1 qX2 qX3 qX4
      go_wp2_with fail
      clear qX0 qX1 qX2 qX3 qX4
      refine name_calls ?_
      intro Y1 hW_Y1
      have hA_Y1 : Below y1.heap.size y1 Y1 := by rw [hW_Y1]; exact (Below.refl _ _).alloc (Nat.le_refl _) _
      have rS : Y1.heap[y1.heap.size]? = some (.cells #[I s0, I s1] 51 (0, 0)) := by rw [hW_Y1]; exact heap_at _ _ rfl
      have lS : y1.heap.size < Y1.heap.size := by rw [hW_Y1]; simp
      replace rB := (hA_Y1.block _ lB).trans rB
      replace lB := Nat.lt_of_lt_of_le lB hA_Y1.size
      replace rX := (hA_Y1.block _ lX).trans rX
      replace lX := Nat.lt_of_lt_of_le lX hA_Y1.size
      have hb_Y1 := hb_y1.trans (hA_Y1.mono hb_y1.size)
      clear hW_Y1 hA_Y1 hb_y1
      refine (C2.out _ hb_Y1).mono ?_
      rintro e y2 ⟨rfl, hB_y2⟩
      replace rB := (hB_y2.block _ lB).trans rB
      replace lB := Nat.lt_of_lt_of_le lB hB_y2.size
      replace rX := (hB_y2.block _ lX).trans rX
      replace lX := Nat.lt_of_lt_of_le lX hB_y2.size
      replace rS := (hB_y2.block _ lS).trans rS
      replace lS := Nat.lt_of_lt_of_le lS hB_y2.size
      have hb_y2 := hb_Y1.trans (hB_y2.mono hb_Y1.size)
      clear hB_y2 hb_Y1
      have qX0 := cell_of_row y2 _ 0 _ _ _ rX
      have qX1 := cell_of_row y2 _ 1 _ _ _ rX
      have qX2 := cell_of_row y2 _ 2 _ _ _ rX
      have qX3 := cell_of_row y2 _ 3 _ _ _ rX
      have qX4 := cell_of_row y2 _ 4 _ _ _ rX
      simp only [List.getElem?_toArray, List.getElem?_cons_zero, List.getElem?_cons_succ] at qX0 qX1 qX2 qX3 qX4
      go_wp2_with fail
      clear qX0 qX1 qX2 qX3 qX4
      refine name_calls ?_
      intro Y2 hW_Y2
      have hA_Y2 : Below y2.heap.size y2 Y2 := by rw [hW_Y2]; exact (Below.refl _ _).alloc (Nat.le_refl _) _
      have rU : Y2.heap[y2.heap.size]? = some (.cells #[I u0, I u1] 51 (0, 0)) := by rw [hW_Y2]; exact heap_at _ _ rfl
      have lU : y2.heap.size < Y2.heap.size := by rw [hW_Y2]; simp
      replace rB := (hA_Y2.block _ lB).trans rB
      replace lB := Nat.lt_of_lt_of_le lB hA_Y2.size
      replace rX := (hA_Y2.block _ lX).trans rX
      replace lX := Nat.lt_of_lt_of_le lX hA_Y2.size
      replace rS := (hA_Y2.block _ lS).trans rS
      replace lS := Nat.lt_of_lt_of_le lS hA_Y2.size
      have hb_Y2 := hb_y2.trans (hA_Y2.mono hb_y2.size)
      clear hW_Y2 hA_Y2 hb_y2
      refine (C3.out _ hb_Y2).mono ?_
      rintro e y3 ⟨rfl, hB_y3⟩
      replace rB := (hB_y3.block _ lB).trans rB
      replace lB := Nat.lt_of_lt_of_le lB hB_y3.size
      replace rX := (hB_y3.block _ lX).trans rX
      replace lX := Nat.lt_of_lt_of_le lX hB_y3.size
      replace rS := (hB_y3.block _ lS).trans rS
      replace lS := Nat.lt_of_lt_of_le lS hB_y3.size
      replace rU := (hB_y3.block _ lU).trans rU
      replace lU := Nat.lt_of_lt_of_le lU hB_y3.size
      have hb_y3 := hb_Y2.trans (hB_y3.mono hb_Y2.size)
      clear hB_y3 hb_Y2
      have qX0 := cell_of_row y3 _ 0 _ _ _ rX
      have qX1 := cell_of_row y3 _ 1 _ _ _ rX
      have qX2 := cell_of_row y3 _ 2 _ _ _ rX
      have qX3 := cell_of_row y3 _ 3 _ _ _ rX
      have qX4 := cell_of_row y3 _ 4 _ _ _ rX
      simp only [List.getElem?_toArray, List.getElem?_cons_zero, List.getElem?_cons_succ] at qX0 qX1 qX2 qX3 qX4
      go_wp2_with fail
      clear qX0 qX1 qX2 qX3 qX4
      refine (C4.out _ hb_y3).mono ?_
      rintro e y4 ⟨rfl, hB_y4⟩
      replace rB := (hB_y4.block _ lB).trans rB
      replace lB := Nat.lt_of_lt_of_le lB hB_y4.size
      replace rX := (hB_y4.block _ lX).trans rX
      replace lX := Nat.lt_of_lt_of_le lX hB_y4.size
      replace rS := (hB_y4.block _ lS).trans rS
      replace lS := Nat.lt_of_lt_of_le lS hB_y4.size
      replace rU := (hB_y4.block _ lU).trans rU
      replace lU := Nat.lt_of_lt_of_le lU hB_y4.size
      have hb_y4 := hb_y3.trans (hB_y4.mono hb_y3.size)
      clear hB_y4 hb_y3
      have hdl : d < D.length := by have := HDL.out; omega
      obtain ⟨bd, od, cd, rw1, hvd, hbd1, qd, hsr⟩ := (HDW.out _ hb_y4).row hdl
      injection hvd with hA _ hc
      subst hA hc
      have hrl := HRW.out d hdl
      have hkr : k < D[d].length := by omega
      obtain ⟨br, or, cr, hvr, hbr1, qr⟩ := hsr.int hkr
      subst hvr
      have htv2 : D[d][k] = tv := by
        rw [← HTV.out, ← HGET.out d k hd1 hlt]
        simp [List.getD_eq_getElem?_getD, hdl, hkr]
      rw [htv2] at qr
      rw [hrl] at qd
      have hkw : k < ws.length := by rw [HTO.out.wrn]; exact hlt
      obtain ⟨bw, ow, cw, hvw, hbw1, qw⟩ := (HSW.out _ hb_y4).int hkw
      injection hvw with hA _ hc
      subst hA hc
      have hxv2 : ws[k] = xv := by rw [← HXV.out]; simp [List.getD_eq_getElem?_getD, hkw]
      rw [hxv2] at qw
      have hdi : (d : Int) < D.length := by omega
      have hwi : (k : Int) < ws.length := by omega
      have RBy := Lib.hid rB
      have HB4 := Lib.hid hb_y4
      have qS0 := cell_of_row y4 _ 0 _ _ _ rS
      have qS1 := cell_of_row y4 _ 1 _ _ _ rS
      simp only [List.getElem?_toArray, List.getElem?_cons_zero, List.getElem?_cons_succ] at qS0 qS1
      have qU0 := cell_of_row y4 _ 0 _ _ _ rU
      have qU1 := cell_of_row y4 _ 1 _ _ _ rU
      simp only [List.getElem?_toArray, List.getElem?_cons_zero, List.getElem?_cons_succ] at qU0 qU1
      clear hsr htv2 hxv2 hrl rB rX rS rU hb_y4 HDW HSW HTV HXV C1 C2 C3 C4
      rcases f5 with rfl | ⟨rfl, rfl⟩
      · rcases f6 with rfl | ⟨rfl, rfl⟩
        · go_wp2_with fail
          refine name_act ?_
          intro A hA
          obtain ⟨R, hR⟩ : ∃ R : Act → World → Prop, R = fun a' w' => (∃ u125 u126 u127 u128 u129 u130 u131 u132 u133 u134 u135 u136 u137 u138 u139 u140 u141 u142 u143 u144 u145 u146 u147 u148 u149 u150 u151 u152 u153 u154 u155 u156 u157 u158 u159 u160, a' = (((((((((((((((((((((((((((((((((((((A.put (some 125) u125).put (some 126) u126).put (some 127) u127).put (some 128) u128).put (some 129) u129).put (some 130) u130).put (some 131) u131).put (some 132) u132).put (some 133) u133).put (some 134) u134).put (some 135) u135).put (some 136) u136).put (some 137) u137).put (some 138) u138).put (some 139) u139).put (some 140) u140).put (some 141) u141).put (some 142) u142).put (some 143) u143).put (some 144) u144).put (some 145) u145).put (some 146) u146).put (some 147) u147).put (some 148) u148).put (some 149) u149).put (some 150) u150).put (some 151) u151).put (some 152) u152).put (some 153) u153).put (some 154) u154).put (some 155) u155).put (some 156) u156).put (some 157) u157).put (some 158) u158).put (some 159) u159).put (some 160) u160).put (some 161) (.bool false))) ∧ Held y4 w' := ⟨_, rfl⟩
          have HR := Lib.hid hR
          clear hR
          refine wp_between R ?first ?rest
          case first =>
            subst hA
            refine wp_region_held_drew (S := fun w' => Held y4 w') (by kernel_rfl) (held_start y4) (fun _ => ?_)
            refine wpAnyH_take (i := 0) (oi := { dst := some 125, op := Go.Op.move (Go.Operand.tmp 20), type := 43, pos := "outright.go:145", after := #[], guard := none }) (v := ?v1) rfl (by kernel_rfl) (by kernel_rfl) (by kernel_rfl) (fun _ _ _ h => h) (Or.inl ⟨by rfl, ?hy1⟩) (held_start y4) ?r1
            case hy1 =>
              intro w' hSw
              have hq := hSw.1
              clear hSw
              go_simp
              with_reducible rfl
            try simp only [Act.put, List.setIfInBounds_toArray, List.set_cons_zero, List.set_cons_succ]
            refine wpAnyH_take (i := 1) (oi := { dst := some 126, op := Go.Op.binOp Go.BinOp.neq 43 (Go.Operand.tmp 125) (Go.Operand.const (Go.Value.int Go.IntKind.i64 0)) 43, type := 4, pos := "outright.go:145", after := #[{ on := 0, ground := Go.Ground.data }], guard := none }) (v := ?v2) rfl (by kernel_rfl) (by kernel_rfl) (by kernel_rfl) (fun _ _ _ h => h) (Or.inl ⟨by rfl, ?hy2⟩) (held_start y4) ?r2
            case hy2 =>
              intro w' hSw
              have hq := hSw.1
              clear hSw
              go_simp
              with_reducible rfl
            try simp only [Act.put, List.setIfInBounds_toArray, List.set_cons_zero, List.set_cons_succ]
            refine wpAnyH_take (i := 2) (oi := { dst := some 127, op := Go.Op.move (Go.Operand.tmp 126), type := 4, pos := "outright.go:145", after := #[{ on := 1, ground := Go.Ground.data }], guard := none }) (v := ?v3) rfl (by kernel_rfl) (by kernel_rfl) (by kernel_rfl) (fun _ _ _ h => h) (Or.inl ⟨by rfl, ?hy3⟩) (held_start y4) ?r3
            case hy3 =>
              intro w' hSw
              have hq := hSw.1
              clear hSw
              go_simp
              with_reducible rfl
            try simp only [Act.put, List.setIfInBounds_toArray, List.set_cons_zero, List.set_cons_succ]
            refine wpAnyH_take (i := 3) (oi := { dst := some 128, op := Go.Op.move (Go.Operand.tmp 22), type := 43, pos := "outright.go:145", after := #[{ on := 2, ground := Go.Ground.guard }], guard := some (2, false) }) (v := ?v4) rfl (by kernel_rfl) (by kernel_rfl) (by kernel_rfl) (fun _ _ _ h => h) (Or.inl ⟨by rfl, ?hy4⟩) (held_start y4) ?r4
            case hy4 =>
              intro w' hSw
              have hq := hSw.1
              clear hSw
              go_simp
              with_reducible rfl
            try simp only [Act.put, List.setIfInBounds_toArray, List.set_cons_zero, List.set_cons_succ]
            refine wpAnyH_take (i := 4) (oi := { dst := some 129, op := Go.Op.binOp Go.BinOp.neq 43 (Go.Operand.tmp 128) (Go.Operand.const (Go.Value.int Go.IntKind.i64 0)) 43, type := 4, pos := "outright.go:145", after := #[{ on := 3, ground := Go.Ground.data }, { on := 2, ground := Go.Ground.guard }], guard := some (2, false) }) (v := ?v5) rfl (by kernel_rfl) (by kernel_rfl) (by kernel_rfl) (fun _ _ _ h => h) (Or.inl ⟨by rfl, ?hy5⟩) (held_start y4) ?r5
            case hy5 =>
              intro w' hSw
              have hq := hSw.1
              clear hSw
              go_simp
              with_reducible rfl
            try simp only [Act.put, List.setIfInBounds_toArray, List.set_cons_zero, List.set_cons_succ]
            refine wpAnyH_take (i := 5) (oi := { dst := some 130, op := Go.Op.pick (Go.Operand.tmp 127) (Go.Operand.const (Go.Value.bool true)) (Go.Operand.tmp 129), type := 4, pos := "outright.go:145", after := #[{ on := 2, ground := Go.Ground.data }, { on := 4, ground := Go.Ground.data }], guard := none }) (v := ?v6) rfl (by kernel_rfl) (by kernel_rfl) (by kernel_rfl) (fun _ _ _ h => h) (Or.inl ⟨by rfl, ?hy6⟩) (held_start y4) ?r6
            case hy6 =>
              intro w' hSw
              have hq := hSw.1
              clear hSw
              go_simp
              with_reducible rfl
            try simp only [Act.put, List.setIfInBounds_toArray, List.set_cons_zero, List.set_cons_succ]
            refine wpAnyH_take (i := 6) (oi := { dst := some 131, op := Go.Op.move (Go.Operand.tmp 130), type := 4, pos := "outright.go:145", after := #[{ on := 5, ground := Go.Ground.data }, { on := 2, ground := Go.Ground.chain }], guard := none }) (v := ?v7) rfl (by kernel_rfl) (by kernel_rfl) (by kernel_rfl) (fun _ _ _ h => h) (Or.inl ⟨by rfl, ?hy7⟩) (held_start y4) ?r7
            case hy7 =>
              intro w' hSw
              have hq := hSw.1
              clear hSw
              go_simp
              with_reducible rfl
            try simp only [Act.put, List.setIfInBounds_toArray, List.set_cons_zero, List.set_cons_succ]
            refine wpAnyH_take (i := 7) (oi := { dst := some 132, op := Go.Op.move (Go.Operand.tmp 24), type := 43, pos := "outright.go:145", after := #[{ on := 6, ground := Go.Ground.guard }], guard := some (6, false) }) (v := ?v8) rfl (by kernel_rfl) (by kernel_rfl) (by kernel_rfl) (fun _ _ _ h => h) (Or.inl ⟨by rfl, ?hy8⟩) (held_start y4) ?r8
            case hy8 =>
              intro w' hSw
              have hq := hSw.1
              clear hSw
              go_simp
              with_reducible rfl
            try simp only [Act.put, List.setIfInBounds_toArray, List.set_cons_zero, List.set_cons_succ]
            refine wpAnyH_take (i := 8) (oi := { dst := some 133, op := Go.Op.binOp Go.BinOp.neq 43 (Go.Operand.tmp 132) (Go.Operand.const (Go.Value.int Go.IntKind.i64 0)) 43, type := 4, pos := "outright.go:145", after := #[{ on := 7, ground := Go.Ground.data }, { on := 6, ground := Go.Ground.guard }], guard := some (6, false) }) (v := ?v9) rfl (by kernel_rfl) (by kernel_rfl) (by kernel_rfl) (fun _ _ _ h => h) (Or.inl ⟨by rfl, ?hy9⟩) (held_start y4) ?r9
            case hy9 =>
              intro w' hSw
              have hq := hSw.1
              clear hSw
              go_simp
              with_reducible rfl
            try simp only [Act.put, List.setIfInBounds_toArray, List.set_cons_zero, List.set_cons_succ]
            refine wpAnyH_take (i := 9) (oi := { dst := some 134, op := Go.Op.move (Go.Operand.tmp 133), type := 4, pos := "outright.go:145", after := #[{ on := 8, ground := Go.Ground.data }, { on := 6, ground := Go.Ground.chain }, { on := 6, ground := Go.Ground.guard }], guard := some (6, false) }) (v := ?v10) rfl (by kernel_rfl) (by kernel_rfl) (by kernel_rfl) (fun _ _ _ h => h) (Or.inl ⟨by rfl, ?hy10⟩) (held_start y4) ?r10
            case hy10 =>
              intro w' hSw
              have hq := hSw.1
              clear hSw
              go_simp
              with_reducible rfl
            try simp only [Act.put, List.setIfInBounds_toArray, List.set_cons_zero, List.set_cons_succ]
            refine wpAnyH_take (i := 10) (oi := { dst := some 135, op := Go.Op.move (Go.Operand.tmp 24), type := 43, pos := "outright.go:145", after := #[{ on := 9, ground := Go.Ground.guard }], guard := some (9, true) }) (v := undef) rfl (by kernel_rfl) (by kernel_rfl) (by kernel_rfl) (fun _ _ _ h => h) (Or.inr ⟨by rfl, rfl⟩) (held_start y4) ?_
            try simp only [Act.put, List.setIfInBounds_toArray, List.set_cons_zero, List.set_cons_succ]
            refine wpAnyH_take (i := 11) (oi := { dst := some 136, op := Go.Op.binOp Go.BinOp.neq 43 (Go.Operand.tmp 135) (Go.Operand.const (Go.Value.int Go.IntKind.i64 4)) 43, type := 4, pos := "outright.go:145", after := #[{ on := 10, ground := Go.Ground.data }, { on := 9, ground := Go.Ground.guard }], guard := some (9, true) }) (v := undef) rfl (by kernel_rfl) (by kernel_rfl) (by kernel_rfl) (fun _ _ _ h => h) (Or.inr ⟨by rfl, rfl⟩) (held_start y4) ?_
            try simp only [Act.put, List.setIfInBounds_toArray, List.set_cons_zero, List.set_cons_succ]
            refine wpAnyH_take (i := 12) (oi := { dst := some 137, op := Go.Op.pick (Go.Operand.tmp 134) (Go.Operand.tmp 136) (Go.Operand.const (Go.Value.bool false)), type := 4, pos := "outright.go:145", after := #[{ on := 9, ground := Go.Ground.data }, { on := 11, ground := Go.Ground.data }, { on := 6, ground := Go.Ground.guard }], guard := some (6, false) }) (v := ?v11) rfl (by kernel_rfl) (by kernel_rfl) (by kernel_rfl) (fun _ _ _ h => h) (Or.inl ⟨by rfl, ?hy11⟩) (held_start y4) ?r11
            case hy11 =>
              intro w' hSw
              have hq := hSw.1
              clear hSw
              go_simp
              with_reducible rfl
            try simp only [Act.put, List.setIfInBounds_toArray, List.set_cons_zero, List.set_cons_succ]
            refine wpAnyH_take (i := 13) (oi := { dst := some 138, op := Go.Op.pick (Go.Operand.tmp 131) (Go.Operand.const (Go.Value.bool true)) (Go.Operand.tmp 137), type := 4, pos := "outright.go:145", after := #[{ on := 6, ground := Go.Ground.data }, { on := 12, ground := Go.Ground.data }], guard := none }) (v := ?v12) rfl (by kernel_rfl) (by kernel_rfl) (by kernel_rfl) (fun _ _ _ h => h) (Or.inl ⟨by rfl, ?hy12⟩) (held_start y4) ?r12
            case hy12 =>
              intro w' hSw
              have hq := hSw.1
              clear hSw
              go_simp
              with_reducible rfl
            try simp only [Act.put, List.setIfInBounds_toArray, List.set_cons_zero, List.set_cons_succ]
            refine wpAnyH_take (i := 14) (oi := { dst := some 139, op := Go.Op.move (Go.Operand.tmp 138), type := 4, pos := "outright.go:145", after := #[{ on := 13, ground := Go.Ground.data }, { on := 9, ground := Go.Ground.chain }], guard := none }) (v := ?v13) rfl (by kernel_rfl) (by kernel_rfl) (by kernel_rfl) (fun _ _ _ h => h) (Or.inl ⟨by rfl, ?hy13⟩) (held_start y4) ?r13
            case hy13 =>
              intro w' hSw
              have hq := hSw.1
              clear hSw
              go_simp
              with_reducible rfl
            try simp only [Act.put, List.setIfInBounds_toArray, List.set_cons_zero, List.set_cons_succ]
            refine wpAnyH_take (i := 15) (oi := { dst := some 140, op := Go.Op.move (Go.Operand.tmp 26), type := 43, pos := "outright.go:145", after := #[{ on := 14, ground := Go.Ground.guard }], guard := some (14, false) }) (v := ?v14) rfl (by kernel_rfl) (by kernel_rfl) (by kernel_rfl) (fun _ _ _ h => h) (Or.inl ⟨by rfl, ?hy14⟩) (held_start y4) ?r14
            case hy14 =>
              intro w' hSw
              have hq := hSw.1
              clear hSw
              go_simp
              with_reducible rfl
            try simp only [Act.put, List.setIfInBounds_toArray, List.set_cons_zero, List.set_cons_succ]
            refine wpAnyH_take (i := 16) (oi := { dst := some 141, op := Go.Op.binOp Go.BinOp.neq 43 (Go.Operand.tmp 140) (Go.Operand.const (Go.Value.int Go.IntKind.i64 0)) 43, type := 4, pos := "outright.go:145", after := #[{ on := 15, ground := Go.Ground.data }, { on := 14, ground := Go.Ground.guard }], guard := some (14, false) }) (v := ?v15) rfl (by kernel_rfl) (by kernel_rfl) (by kernel_rfl) (fun _ _ _ h => h) (Or.inl ⟨by rfl, ?hy15⟩) (held_start y4) ?r15
            case hy15 =>
              intro w' hSw
              have hq := hSw.1
              clear hSw
              go_simp
              with_reducible rfl
            try simp only [Act.put, List.setIfInBounds_toArray, List.set_cons_zero, List.set_cons_succ]
            refine wpAnyH_take (i := 17) (oi := { dst := some 142, op := Go.Op.move (Go.Operand.tmp 141), type := 4, pos := "outright.go:145", after := #[{ on := 16, ground := Go.Ground.data }, { on := 14, ground := Go.Ground.chain }, { on := 14, ground := Go.Ground.guard }], guard := some (14, false) }) (v := ?v16) rfl (by kernel_rfl) (by kernel_rfl) (by kernel_rfl) (fun _ _ _ h => h) (Or.inl ⟨by rfl, ?hy16⟩) (held_start y4) ?r16
            case hy16 =>
              intro w' hSw
              have hq := hSw.1
              clear hSw
              go_simp
              with_reducible rfl
            try simp only [Act.put, List.setIfInBounds_toArray, List.set_cons_zero, List.set_cons_succ]
            refine wpAnyH_take (i := 18) (oi := { dst := some 143, op := Go.Op.move (Go.Operand.tmp 26), type := 43, pos := "outright.go:145", after := #[{ on := 17, ground := Go.Ground.guard }], guard := some (17, true) }) (v := undef) rfl (by kernel_rfl) (by kernel_rfl) (by kernel_rfl) (fun _ _ _ h => h) (Or.inr ⟨by rfl, rfl⟩) (held_start y4) ?_
            try simp only [Act.put, List.setIfInBounds_toArray, List.set_cons_zero, List.set_cons_succ]
            refine wpAnyH_take (i := 19) (oi := { dst := some 144, op := Go.Op.binOp Go.BinOp.neq 43 (Go.Operand.tmp 143) (Go.Operand.const (Go.Value.int Go.IntKind.i64 4)) 43, type := 4, pos := "outright.go:145", after := #[{ on := 18, ground := Go.Ground.data }, { on := 17, ground := Go.Ground.guard }], guard := some (17, true) }) (v := undef) rfl (by kernel_rfl) (by kernel_rfl) (by kernel_rfl) (fun _ _ _ h => h) (Or.inr ⟨by rfl, rfl⟩) (held_start y4) ?_
            try simp only [Act.put, List.setIfInBounds_toArray, List.set_cons_zero, List.set_cons_succ]
            refine wpAnyH_take (i := 20) (oi := { dst := some 145, op := Go.Op.pick (Go.Operand.tmp 142) (Go.Operand.tmp 144) (Go.Operand.const (Go.Value.bool false)), type := 4, pos := "outright.go:145", after := #[{ on := 17, ground := Go.Ground.data }, { on := 19, ground := Go.Ground.data }, { on := 14, ground := Go.Ground.guard }], guard := some (14, false) }) (v := ?v17) rfl (by kernel_rfl) (by kernel_rfl) (by kernel_rfl) (fun _ _ _ h => h) (Or.inl ⟨by rfl, ?hy17⟩) (held_start y4) ?r17
            case hy17 =>
              intro w' hSw
              have hq := hSw.1
              clear hSw
              go_simp
              with_reducible rfl
            try simp only [Act.put, List.setIfInBounds_toArray, List.set_cons_zero, List.set_cons_succ]
            refine wpAnyH_take (i := 21) (oi := { dst := some 146, op := Go.Op.pick (Go.Operand.tmp 139) (Go.Operand.const (Go.Value.bool true)) (Go.Operand.tmp 145), type := 4, pos := "outright.go:145", after := #[{ on := 14, ground := Go.Ground.data }, { on := 20, ground := Go.Ground.data }], guard := none }) (v := ?v18) rfl (by kernel_rfl) (by kernel_rfl) (by kernel_rfl) (fun _ _ _ h => h) (Or.inl ⟨by rfl, ?hy18⟩) (held_start y4) ?r18
            case hy18 =>
              intro w' hSw
              have hq := hSw.1
              clear hSw
              go_simp
              with_reducible rfl
            try simp only [Act.put, List.setIfInBounds_toArray, List.set_cons_zero, List.set_cons_succ]
            refine wpAnyH_take (i := 22) (oi := { dst := some 147, op := Go.Op.move (Go.Operand.tmp 146), type := 4, pos := "outright.go:145", after := #[{ on := 21, ground := Go.Ground.data }, { on := 17, ground := Go.Ground.chain }], guard := none }) (v := ?v19) rfl (by kernel_rfl) (by kernel_rfl) (by kernel_rfl) (fun _ _ _ h => h) (Or.inl ⟨by rfl, ?hy19⟩) (held_start y4) ?r19
            case hy19 =>
              intro w' hSw
              have hq := hSw.1
              clear hSw
              go_simp
              with_reducible rfl
            try simp only [Act.put, List.setIfInBounds_toArray, List.set_cons_zero, List.set_cons_succ]
            refine wpAnyH_take (i := 23) (oi := { dst := some 148, op := Go.Op.load 51 (Go.Operand.tmp 19), type := 51, pos := "outright.go:145", after := #[{ on := 22, ground := Go.Ground.guard }], guard := some (22, false) }) (v := ?v20) rfl (by kernel_rfl) (by kernel_rfl) (by kernel_rfl) (fun _ _ _ h => h) (Or.inl ⟨by rfl, ?hy20⟩) (held_start y4) ?r20
            case hy20 =>
              intro w' hSw
              have hq := hSw.1
              clear hSw
              go_simp
              with_reducible rfl
            try simp only [Act.put, List.setIfInBounds_toArray, List.set_cons_zero, List.set_cons_succ]
            refine wpAnyH_take (i := 24) (oi := { dst := some 149, op := Go.Op.move (Go.Operand.tmp 27), type := 3, pos := "outright.go:145", after := #[{ on := 22, ground := Go.Ground.guard }], guard := some (22, false) }) (v := ?v21) rfl (by kernel_rfl) (by kernel_rfl) (by kernel_rfl) (fun _ _ _ h => h) (Or.inl ⟨by rfl, ?hy21⟩) (held_start y4) ?r21
            case hy21 =>
              intro w' hSw
              have hq := hSw.1
              clear hSw
              go_simp
              with_reducible rfl
            try simp only [Act.put, List.setIfInBounds_toArray, List.set_cons_zero, List.set_cons_succ]
            refine wpAnyH_ready (rs := [25]) (by kernel_rfl) (by simp) ?_
            refine AllReadyH.cons rfl (fun K hK => ?_) AllReadyH.nil
            go_simp
            refine (contains_yes ⟨s0, s1⟩ tv HF1.out _).mono ?_
            rintro e w22 ⟨rfl, hBw22⟩
            have hSw22 := held_step hBw22 (held_start y4)
            refine hK.out _ _ hSw22 (fun _ => ?_)
            clear hK K
            try simp only [Act.put, List.setIfInBounds_toArray, List.set_cons_zero, List.set_cons_succ]
            refine wpAnyH_take (i := 26) (oi := { dst := some 151, op := Go.Op.unOp Go.UnOp.not 4 (Go.Operand.tmp 150), type := 4, pos := "outright.go:145", after := #[{ on := 25, ground := Go.Ground.data }, { on := 22, ground := Go.Ground.guard }], guard := some (22, false) }) (v := ?v23) rfl (by kernel_rfl) (by kernel_rfl) (by kernel_rfl) (fun _ _ _ h => h) (Or.inl ⟨by rfl, ?hy23⟩) hSw22 ?r23
            case hy23 =>
              intro w' hSw
              have hq := hSw.1
              clear hSw
              go_simp
              with_reducible rfl
            try simp only [Act.put, List.setIfInBounds_toArray, List.set_cons_zero, List.set_cons_succ]
            refine wpAnyH_take (i := 27) (oi := { dst := some 152, op := Go.Op.pick (Go.Operand.tmp 147) (Go.Operand.const (Go.Value.bool true)) (Go.Operand.tmp 151), type := 4, pos := "outright.go:145", after := #[{ on := 22, ground := Go.Ground.data }, { on := 26, ground := Go.Ground.data }], guard := none }) (v := ?v24) rfl (by kernel_rfl) (by kernel_rfl) (by kernel_rfl) (fun _ _ _ h => h) (Or.inl ⟨by rfl, ?hy24⟩) hSw22 ?r24
            case hy24 =>
              intro w' hSw
              have hq := hSw.1
              clear hSw
              go_simp
              with_reducible rfl
            try simp only [Act.put, List.setIfInBounds_toArray, List.set_cons_zero, List.set_cons_succ]
            refine wpAnyH_take (i := 28) (oi := { dst := some 153, op := Go.Op.move (Go.Operand.tmp 152), type := 4, pos := "outright.go:145", after := #[{ on := 27, ground := Go.Ground.data }, { on := 25, ground := Go.Ground.chain }], guard := none }) (v := ?v25) rfl (by kernel_rfl) (by kernel_rfl) (by kernel_rfl) (fun _ _ _ h => h) (Or.inl ⟨by rfl, ?hy25⟩) hSw22 ?r25
            case hy25 =>
              intro w' hSw
              have hq := hSw.1
              clear hSw
              go_simp
              with_reducible rfl
            try simp only [Act.put, List.setIfInBounds_toArray, List.set_cons_zero, List.set_cons_succ]
            refine wpAnyH_take (i := 29) (oi := { dst := some 154, op := Go.Op.load 51 (Go.Operand.tmp 21), type := 51, pos := "outright.go:145", after := #[{ on := 28, ground := Go.Ground.guard }], guard := some (28, false) }) (v := ?v26) rfl (by kernel_rfl) (by kernel_rfl) (by kernel_rfl) (fun _ _ _ h => h) (Or.inl ⟨by rfl, ?hy26⟩) hSw22 ?r26
            case hy26 =>
              intro w' hSw
              have hq := hSw.1
              clear hSw
              go_simp
              with_reducible rfl
            try simp only [Act.put, List.setIfInBounds_toArray, List.set_cons_zero, List.set_cons_succ]
            refine wpAnyH_take (i := 30) (oi := { dst := some 155, op := Go.Op.move (Go.Operand.tmp 8), type := 23, pos := "outright.go:145", after := #[{ on := 28, ground := Go.Ground.guard }], guard := some (28, false) }) (v := ?v27) rfl (by kernel_rfl) (by kernel_rfl) (by kernel_rfl) (fun _ _ _ h => h) (Or.inl ⟨by rfl, ?hy27⟩) hSw22 ?r27
            case hy27 =>
              intro w' hSw
              have hq := hSw.1
              clear hSw
              go_simp
              with_reducible rfl
            try simp only [Act.put, List.setIfInBounds_toArray, List.set_cons_zero, List.set_cons_succ]
            refine wpAnyH_take (i := 31) (oi := { dst := some 156, op := Go.Op.move (Go.Operand.tmp 18), type := 3, pos := "outright.go:145", after := #[{ on := 28, ground := Go.Ground.guard }], guard := some (28, false) }) (v := ?v28) rfl (by kernel_rfl) (by kernel_rfl) (by kernel_rfl) (fun _ _ _ h => h) (Or.inl ⟨by rfl, ?hy28⟩) hSw22 ?r28
            case hy28 =>
              intro w' hSw
              have hq := hSw.1
              clear hSw
              go_simp
              with_reducible rfl
            try simp only [Act.put, List.setIfInBounds_toArray, List.set_cons_zero, List.set_cons_succ]
            refine wpAnyH_take (i := 32) (oi := { dst := some 157, op := Go.Op.indexAddr 23 (Go.Operand.tmp 155) (Go.Operand.tmp 156), type := 0, pos := "outright.go:145", after := #[{ on := 30, ground := Go.Ground.data }, { on := 31, ground := Go.Ground.data }, { on := 28, ground := Go.Ground.guard }], guard := some (28, false) }) (v := ?v29) rfl (by kernel_rfl) (by kernel_rfl) (by kernel_rfl) (fun _ _ _ h => h) (Or.inl ⟨by rfl, ?hy29⟩) hSw22 ?r29
            case hy29 =>
              intro w' hSw
              have hq := hSw.1
              clear hSw
              go_simp
              with_reducible rfl
            try simp only [Act.put, List.setIfInBounds_toArray, List.set_cons_zero, List.set_cons_succ]
            refine wpAnyH_take (i := 33) (oi := { dst := some 158, op := Go.Op.load 3 (Go.Operand.tmp 157), type := 3, pos := "outright.go:145", after := #[{ on := 32, ground := Go.Ground.data }, { on := 28, ground := Go.Ground.guard }], guard := some (28, false) }) (v := ?v30) rfl (by kernel_rfl) (by kernel_rfl) (by kernel_rfl) (fun _ _ _ h => h) (Or.inl ⟨by rfl, ?hy30⟩) hSw22 ?r30
            case hy30 =>
              intro w' hSw
              have hq := hSw.1
              clear hSw
              go_simp
              with_reducible rfl
            try simp only [Act.put, List.setIfInBounds_toArray, List.set_cons_zero, List.set_cons_succ]
            refine wpAnyH_ready (rs := [34]) (by kernel_rfl) (by simp) ?_
            refine AllReadyH.cons rfl (fun K hK => ?_) AllReadyH.nil
            go_simp
            refine (contains_yes ⟨u0, u1⟩ xv HF2.out _).mono ?_
            rintro e w31 ⟨rfl, hBw31⟩
            have hSw31 := held_step hBw31 hSw22
            refine hK.out _ _ hSw31 (fun _ => ?_)
            clear hK K
            try simp only [Act.put, List.setIfInBounds_toArray, List.set_cons_zero, List.set_cons_succ]
            refine wpAnyH_take (i := 35) (oi := { dst := some 160, op := Go.Op.unOp Go.UnOp.not 4 (Go.Operand.tmp 159), type := 4, pos := "outright.go:145", after := #[{ on := 34, ground := Go.Ground.data }, { on := 28, ground := Go.Ground.guard }], guard := some (28, false) }) (v := ?v32) rfl (by kernel_rfl) (by kernel_rfl) (by kernel_rfl) (fun _ _ _ h => h) (Or.inl ⟨by rfl, ?hy32⟩) hSw31 ?r32
            case hy32 =>
              intro w' hSw
              have hq := hSw.1
              clear hSw
              go_simp
              with_reducible rfl
            try simp only [Act.put, List.setIfInBounds_toArray, List.set_cons_zero, List.set_cons_succ]
            refine wpAnyH_take (i := 36) (oi := { dst := some 161, op := Go.Op.pick (Go.Operand.tmp 153) (Go.Operand.const (Go.Value.bool true)) (Go.Operand.tmp 160), type := 4, pos := "outright.go:145", after := #[{ on := 28, ground := Go.Ground.data }, { on := 35, ground := Go.Ground.data }], guard := none }) (v := ?v33) rfl (by kernel_rfl) (by kernel_rfl) (by kernel_rfl) (fun _ _ _ h => h) (Or.inl ⟨by rfl, ?hy33⟩) hSw31 ?r33
            case hy33 =>
              intro w' hSw
              have hq := hSw.1
              clear hSw
              go_simp
              with_reducible rfl
            try simp only [Act.put, List.setIfInBounds_toArray, List.set_cons_zero, List.set_cons_succ]
            refine wpAnyH_done (by kernel_rfl) ?_ _
            show R _ _
            rw [HR.out]
            simp only [Act.put, List.setIfInBounds_toArray, List.set_cons_zero, List.set_cons_succ]
            exact ⟨⟨_, _, _, _, _, _, _, _, _, _, _, _, _, _, _, _, _, _, _, _, _, _, _, _, _, _, _, _, _, _, _, _, _, _, _, _, rfl⟩, hSw31⟩
          case rest =>
            intro a' y5 hra
            rw [HR.out] at hra
            clear HR
            obtain ⟨⟨u125, u126, u127, u128, u129, u130, u131, u132, u133, u134, u135, u136, u137, u138, u139, u140, u141, u142, u143, u144, u145, u146, u147, u148, u149, u150, u151, u152, u153, u154, u155, u156, u157, u158, u159, u160, rfl⟩, hHE⟩ := hra
            subst hA
            try simp only [Act.put, List.setIfInBounds_toArray, List.set_cons_zero, List.set_cons_succ]
            have hB5 := hHE.2.2
            have rB5 := (hB5.block _ lB).trans RBy.out
            have q53 := cell_of_row y5 _ 3 _ _ _ rB5
            simp only [List.getElem?_toArray, List.getElem?_cons_zero, List.getElem?_cons_succ] at q53
            have RB5 := Lib.hid rB5
            have lB5 := heap_lt rB5
            have HBY := Lib.hid (HB4.out.trans (hB5.mono HB4.out.size))
            clear qS0 qS1 qU0 qU1 qd qr qw hHE hB5 rB5
            by_cases hr : tv < b.rule
            · have hf5 := HF5.out hr
              have hpd : ¬ (d : Int) < p0 := by omega
              have hq0 := hf5.2.2
              have hrg : ¬ b.rule ≤ tv := by omega
              obtain ⟨q, hq⟩ : ∃ q : Int, Ch.indexOf L k = q := ⟨_, rfl⟩
              rw [hq] at hq0
              have hqd : decide (q < 0) = false := decide_eq_false (by omega)
              have hAT := at_any L k _ y5 (HLW.out _ HBY.out)
              rw [hq] at hAT
              have HAT := Lib.hid hAT
              clear hf5 hq hAT
              go_wp2_with fail
              refine HAT.out.mono ?_
              rintro e y6 ⟨rfl, hB6⟩
              have HBY6 := Lib.hid (HBY.out.trans (hB6.mono HBY.out.size))
              have rB6 := (hB6.block _ lB5).trans RB5.out
              have q63 := cell_of_row y6 _ 3 _ _ _ rB6
              simp only [List.getElem?_toArray, List.getElem?_cons_zero, List.getElem?_cons_succ] at q63
              clear rB6
              clear hB6
              go_wp2_with fail
              go_roundw
              case rel => exact ⟨k + 1, by omega, by go_num, HBY6.out⟩
              case measure => simp [intOf]; omega
            · have hrg : b.rule ≤ tv := by omega
              have hgd : ¬ g0 ≤ (d : Int) := fun h => HF6.out hrg ⟨by trivial, h⟩
              go_wp2_with fail
              go_roundw
              case rel => exact ⟨k + 1, by omega, by go_num, HBY.out⟩
              case measure => simp [intOf]; omega
        · go_wp2_with fail
          refine name_act ?_
          intro A hA
          obtain ⟨R, hR⟩ : ∃ R : Act → World → Prop, R = fun a' w' => (∃ u125 u126 u127 u128 u129 u130 u131 u132 u133 u134 u135 u136 u137 u138 u139 u140 u141 u142 u143 u144 u145 u146 u147 u148 u149 u150 u151 u152 u153 u154 u155 u156 u157 u158 u159 u160, a' = (((((((((((((((((((((((((((((((((((((A.put (some 125) u125).put (some 126) u126).put (some 127) u127).put (some 128) u128).put (some 129) u129).put (some 130) u130).put (some 131) u131).put (some 132) u132).put (some 133) u133).put (some 134) u134).put (some 135) u135).put (some 136) u136).put (some 137) u137).put (some 138) u138).put (some 139) u139).put (some 140) u140).put (some 141) u141).put (some 142) u142).put (some 143) u143).put (some 144) u144).put (some 145) u145).put (some 146) u146).put (some 147) u147).put (some 148) u148).put (some 149) u149).put (some 150) u150).put (some 151) u151).put (some 152) u152).put (some 153) u153).put (some 154) u154).put (some 155) u155).put (some 156) u156).put (some 157) u157).put (some 158) u158).put (some 159) u159).put (some 160) u160).put (some 161) (.bool false))) ∧ Held y4 w' := ⟨_, rfl⟩
          have HR := Lib.hid hR
          clear hR
          refine wp_between R ?first ?rest
          case first =>
            subst hA
            refine wp_region_held_drew (S := fun w' => Held y4 w') (by kernel_rfl) (held_start y4) (fun _ => ?_)
            refine wpAnyH_take (i := 0) (oi := { dst := some 125, op := Go.Op.move (Go.Operand.tmp 20), type := 43, pos := "outright.go:145", after := #[], guard := none }) (v := ?v34) rfl (by kernel_rfl) (by kernel_rfl) (by kernel_rfl) (fun _ _ _ h => h) (Or.inl ⟨by rfl, ?hy34⟩) (held_start y4) ?r34
            case hy34 =>
              intro w' hSw
              have hq := hSw.1
              clear hSw
              go_simp
              with_reducible rfl
            try simp only [Act.put, List.setIfInBounds_toArray, List.set_cons_zero, List.set_cons_succ]
            refine wpAnyH_take (i := 1) (oi := { dst := some 126, op := Go.Op.binOp Go.BinOp.neq 43 (Go.Operand.tmp 125) (Go.Operand.const (Go.Value.int Go.IntKind.i64 0)) 43, type := 4, pos := "outright.go:145", after := #[{ on := 0, ground := Go.Ground.data }], guard := none }) (v := ?v35) rfl (by kernel_rfl) (by kernel_rfl) (by kernel_rfl) (fun _ _ _ h => h) (Or.inl ⟨by rfl, ?hy35⟩) (held_start y4) ?r35
            case hy35 =>
              intro w' hSw
              have hq := hSw.1
              clear hSw
              go_simp
              with_reducible rfl
            try simp only [Act.put, List.setIfInBounds_toArray, List.set_cons_zero, List.set_cons_succ]
            refine wpAnyH_take (i := 2) (oi := { dst := some 127, op := Go.Op.move (Go.Operand.tmp 126), type := 4, pos := "outright.go:145", after := #[{ on := 1, ground := Go.Ground.data }], guard := none }) (v := ?v36) rfl (by kernel_rfl) (by kernel_rfl) (by kernel_rfl) (fun _ _ _ h => h) (Or.inl ⟨by rfl, ?hy36⟩) (held_start y4) ?r36
            case hy36 =>
              intro w' hSw
              have hq := hSw.1
              clear hSw
              go_simp
              with_reducible rfl
            try simp only [Act.put, List.setIfInBounds_toArray, List.set_cons_zero, List.set_cons_succ]
            refine wpAnyH_take (i := 3) (oi := { dst := some 128, op := Go.Op.move (Go.Operand.tmp 22), type := 43, pos := "outright.go:145", after := #[{ on := 2, ground := Go.Ground.guard }], guard := some (2, false) }) (v := ?v37) rfl (by kernel_rfl) (by kernel_rfl) (by kernel_rfl) (fun _ _ _ h => h) (Or.inl ⟨by rfl, ?hy37⟩) (held_start y4) ?r37
            case hy37 =>
              intro w' hSw
              have hq := hSw.1
              clear hSw
              go_simp
              with_reducible rfl
            try simp only [Act.put, List.setIfInBounds_toArray, List.set_cons_zero, List.set_cons_succ]
            refine wpAnyH_take (i := 4) (oi := { dst := some 129, op := Go.Op.binOp Go.BinOp.neq 43 (Go.Operand.tmp 128) (Go.Operand.const (Go.Value.int Go.IntKind.i64 0)) 43, type := 4, pos := "outright.go:145", after := #[{ on := 3, ground := Go.Ground.data }, { on := 2, ground := Go.Ground.guard }], guard := some (2, false) }) (v := ?v38) rfl (by kernel_rfl) (by kernel_rfl) (by kernel_rfl) (fun _ _ _ h => h) (Or.inl ⟨by rfl, ?hy38⟩) (held_start y4) ?r38
            case hy38 =>
              intro w' hSw
              have hq := hSw.1
              clear hSw
              go_simp
              with_reducible rfl
            try simp only [Act.put, List.setIfInBounds_toArray, List.set_cons_zero, List.set_cons_succ]
            refine wpAnyH_take (i := 5) (oi := { dst := some 130, op := Go.Op.pick (Go.Operand.tmp 127) (Go.Operand.const (Go.Value.bool true)) (Go.Operand.tmp 129), type := 4, pos := "outright.go:145", after := #[{ on := 2, ground := Go.Ground.data }, { on := 4, ground := Go.Ground.data }], guard := none }) (v := ?v39) rfl (by kernel_rfl) (by kernel_rfl) (by kernel_rfl) (fun _ _ _ h => h) (Or.inl ⟨by rfl, ?hy39⟩) (held_start y4) ?r39
            case hy39 =>
              intro w' hSw
              have hq := hSw.1
              clear hSw
              go_simp
              with_reducible rfl
            try simp only [Act.put, List.setIfInBounds_toArray, List.set_cons_zero, List.set_cons_succ]
            refine wpAnyH_take (i := 6) (oi := { dst := some 131, op := Go.Op.move (Go.Operand.tmp 130), type := 4, pos := "outright.go:145", after := #[{ on := 5, ground := Go.Ground.data }, { on := 2, ground := Go.Ground.chain }], guard := none }) (v := ?v40) rfl (by kernel_rfl) (by kernel_rfl) (by kernel_rfl) (fun _ _ _ h => h) (Or.inl ⟨by rfl, ?hy40⟩) (held_start y4) ?r40
            case hy40 =>
              intro w' hSw
              have hq := hSw.1
              clear hSw
              go_simp
              with_reducible rfl
            try simp only [Act.put, List.setIfInBounds_toArray, List.set_cons_zero, List.set_cons_succ]
            refine wpAnyH_take (i := 7) (oi := { dst := some 132, op := Go.Op.move (Go.Operand.tmp 24), type := 43, pos := "outright.go:145", after := #[{ on := 6, ground := Go.Ground.guard }], guard := some (6, false) }) (v := ?v41) rfl (by kernel_rfl) (by kernel_rfl) (by kernel_rfl) (fun _ _ _ h => h) (Or.inl ⟨by rfl, ?hy41⟩) (held_start y4) ?r41
            case hy41 =>
              intro w' hSw
              have hq := hSw.1
              clear hSw
              go_simp
              with_reducible rfl
            try simp only [Act.put, List.setIfInBounds_toArray, List.set_cons_zero, List.set_cons_succ]
            refine wpAnyH_take (i := 8) (oi := { dst := some 133, op := Go.Op.binOp Go.BinOp.neq 43 (Go.Operand.tmp 132) (Go.Operand.const (Go.Value.int Go.IntKind.i64 0)) 43, type := 4, pos := "outright.go:145", after := #[{ on := 7, ground := Go.Ground.data }, { on := 6, ground := Go.Ground.guard }], guard := some (6, false) }) (v := ?v42) rfl (by kernel_rfl) (by kernel_rfl) (by kernel_rfl) (fun _ _ _ h => h) (Or.inl ⟨by rfl, ?hy42⟩) (held_start y4) ?r42
            case hy42 =>
              intro w' hSw
              have hq := hSw.1
              clear hSw
              go_simp
              with_reducible rfl
            try simp only [Act.put, List.setIfInBounds_toArray, List.set_cons_zero, List.set_cons_succ]
            refine wpAnyH_take (i := 9) (oi := { dst := some 134, op := Go.Op.move (Go.Operand.tmp 133), type := 4, pos := "outright.go:145", after := #[{ on := 8, ground := Go.Ground.data }, { on := 6, ground := Go.Ground.chain }, { on := 6, ground := Go.Ground.guard }], guard := some (6, false) }) (v := ?v43) rfl (by kernel_rfl) (by kernel_rfl) (by kernel_rfl) (fun _ _ _ h => h) (Or.inl ⟨by rfl, ?hy43⟩) (held_start y4) ?r43
            case hy43 =>
              intro w' hSw
              have hq := hSw.1
              clear hSw
              go_simp
              with_reducible rfl
            try simp only [Act.put, List.setIfInBounds_toArray, List.set_cons_zero, List.set_cons_succ]
            refine wpAnyH_take (i := 10) (oi := { dst := some 135, op := Go.Op.move (Go.Operand.tmp 24), type := 43, pos := "outright.go:145", after := #[{ on := 9, ground := Go.Ground.guard }], guard := some (9, true) }) (v := undef) rfl (by kernel_rfl) (by kernel_rfl) (by kernel_rfl) (fun _ _ _ h => h) (Or.inr ⟨by rfl, rfl⟩) (held_start y4) ?_
            try simp only [Act.put, List.setIfInBounds_toArray, List.set_cons_zero, List.set_cons_succ]
            refine wpAnyH_take (i := 11) (oi := { dst := some 136, op := Go.Op.binOp Go.BinOp.neq 43 (Go.Operand.tmp 135) (Go.Operand.const (Go.Value.int Go.IntKind.i64 4)) 43, type := 4, pos := "outright.go:145", after := #[{ on := 10, ground := Go.Ground.data }, { on := 9, ground := Go.Ground.guard }], guard := some (9, true) }) (v := undef) rfl (by kernel_rfl) (by kernel_rfl) (by kernel_rfl) (fun _ _ _ h => h) (Or.inr ⟨by rfl, rfl⟩) (held_start y4) ?_
            try simp only [Act.put, List.setIfInBounds_toArray, List.set_cons_zero, List.set_cons_succ]
            refine wpAnyH_take (i := 12) (oi := { dst := some 137, op := Go.Op.pick (Go.Operand.tmp 134) (Go.Operand.tmp 136) (Go.Operand.const (Go.Value.bool false)), type := 4, pos := "outright.go:145", after := #[{ on := 9, ground := Go.Ground.data }, { on := 11, ground := Go.Ground.data }, { on := 6, ground := Go.Ground.guard }], guard := some (6, false) }) (v := ?v44) rfl (by kernel_rfl) (by kernel_rfl) (by kernel_rfl) (fun _ _ _ h => h) (Or.inl ⟨by rfl, ?hy44⟩) (held_start y4) ?r44
            case hy44 =>
              intro w' hSw
              have hq := hSw.1
              clear hSw
              go_simp
              with_reducible rfl
            try simp only [Act.put, List.setIfInBounds_toArray, List.set_cons_zero, List.set_cons_succ]
            refine wpAnyH_take (i := 13) (oi := { dst := some 138, op := Go.Op.pick (Go.Operand.tmp 131) (Go.Operand.const (Go.Value.bool true)) (Go.Operand.tmp 137), type := 4, pos := "outright.go:145", after := #[{ on := 6, ground := Go.Ground.data }, { on := 12, ground := Go.Ground.data }], guard := none }) (v := ?v45) rfl (by kernel_rfl) (by kernel_rfl) (by kernel_rfl) (fun _ _ _ h => h) (Or.inl ⟨by rfl, ?hy45⟩) (held_start y4) ?r45
            case hy45 =>
              intro w' hSw
              have hq := hSw.1
              clear hSw
              go_simp
              with_reducible rfl
            try simp only [Act.put, List.setIfInBounds_toArray, List.set_cons_zero, List.set_cons_succ]
            refine wpAnyH_take (i := 14) (oi := { dst := some 139, op := Go.Op.move (Go.Operand.tmp 138), type := 4, pos := "outright.go:145", after := #[{ on := 13, ground := Go.Ground.data }, { on := 9, ground := Go.Ground.chain }], guard := none }) (v := ?v46) rfl (by kernel_rfl) (by kernel_rfl) (by kernel_rfl) (fun _ _ _ h => h) (Or.inl ⟨by rfl, ?hy46⟩) (held_start y4) ?r46
            case hy46 =>
              intro w' hSw
              have hq := hSw.1
              clear hSw
              go_simp
              with_reducible rfl
            try simp only [Act.put, List.setIfInBounds_toArray, List.set_cons_zero, List.set_cons_succ]
            refine wpAnyH_take (i := 15) (oi := { dst := some 140, op := Go.Op.move (Go.Operand.tmp 26), type := 43, pos := "outright.go:145", after := #[{ on := 14, ground := Go.Ground.guard }], guard := some (14, false) }) (v := ?v47) rfl (by kernel_rfl) (by kernel_rfl) (by kernel_rfl) (fun _ _ _ h => h) (Or.inl ⟨by rfl, ?hy47⟩) (held_start y4) ?r47
            case hy47 =>
              intro w' hSw
              have hq := hSw.1
              clear hSw
              go_simp
              with_reducible rfl
            try simp only [Act.put, List.setIfInBounds_toArray, List.set_cons_zero, List.set_cons_succ]
            refine wpAnyH_take (i := 16) (oi := { dst := some 141, op := Go.Op.binOp Go.BinOp.neq 43 (Go.Operand.tmp 140) (Go.Operand.const (Go.Value.int Go.IntKind.i64 0)) 43, type := 4, pos := "outright.go:145", after := #[{ on := 15, ground := Go.Ground.data }, { on := 14, ground := Go.Ground.guard }], guard := some (14, false) }) (v := ?v48) rfl (by kernel_rfl) (by kernel_rfl) (by kernel_rfl) (fun _ _ _ h => h) (Or.inl ⟨by rfl, ?hy48⟩) (held_start y4) ?r48
            case hy48 =>
              intro w' hSw
              have hq := hSw.1
              clear hSw
              go_simp
              with_reducible rfl
            try simp only [Act.put, List.setIfInBounds_toArray, List.set_cons_zero, List.set_cons_succ]
            refine wpAnyH_take (i := 17) (oi := { dst := some 142, op := Go.Op.move (Go.Operand.tmp 141), type := 4, pos := "outright.go:145", after := #[{ on := 16, ground := Go.Ground.data }, { on := 14, ground := Go.Ground.chain }, { on := 14, ground := Go.Ground.guard }], guard := some (14, false) }) (v := ?v49) rfl (by kernel_rfl) (by kernel_rfl) (by kernel_rfl) (fun _ _ _ h => h) (Or.inl ⟨by rfl, ?hy49⟩) (held_start y4) ?r49
            case hy49 =>
              intro w' hSw
              have hq := hSw.1
              clear hSw
              go_simp
              with_reducible rfl
            try simp only [Act.put, List.setIfInBounds_toArray, List.set_cons_zero, List.set_cons_succ]
            refine wpAnyH_take (i := 18) (oi := { dst := some 143, op := Go.Op.move (Go.Operand.tmp 26), type := 43, pos := "outright.go:145", after := #[{ on := 17, ground := Go.Ground.guard }], guard := some (17, true) }) (v := ?v50) rfl (by kernel_rfl) (by kernel_rfl) (by kernel_rfl) (fun _ _ _ h => h) (Or.inl ⟨by rfl, ?hy50⟩) (held_start y4) ?r50
            case hy50 =>
              intro w' hSw
              have hq := hSw.1
              clear hSw
              go_simp
              with_reducible rfl
            try simp only [Act.put, List.setIfInBounds_toArray, List.set_cons_zero, List.set_cons_succ]
            refine wpAnyH_take (i := 19) (oi := { dst := some 144, op := Go.Op.binOp Go.BinOp.neq 43 (Go.Operand.tmp 143) (Go.Operand.const (Go.Value.int Go.IntKind.i64 4)) 43, type := 4, pos := "outright.go:145", after := #[{ on := 18, ground := Go.Ground.data }, { on := 17, ground := Go.Ground.guard }], guard := some (17, true) }) (v := ?v51) rfl (by kernel_rfl) (by kernel_rfl) (by kernel_rfl) (fun _ _ _ h => h) (Or.inl ⟨by rfl, ?hy51⟩) (held_start y4) ?r51
            case hy51 =>
              intro w' hSw
              have hq := hSw.1
              clear hSw
              go_simp
              with_reducible rfl
            try simp only [Act.put, List.setIfInBounds_toArray, List.set_cons_zero, List.set_cons_succ]
            refine wpAnyH_take (i := 20) (oi := { dst := some 145, op := Go.Op.pick (Go.Operand.tmp 142) (Go.Operand.tmp 144) (Go.Operand.const (Go.Value.bool false)), type := 4, pos := "outright.go:145", after := #[{ on := 17, ground := Go.Ground.data }, { on := 19, ground := Go.Ground.data }, { on := 14, ground := Go.Ground.guard }], guard := some (14, false) }) (v := ?v52) rfl (by kernel_rfl) (by kernel_rfl) (by kernel_rfl) (fun _ _ _ h => h) (Or.inl ⟨by rfl, ?hy52⟩) (held_start y4) ?r52
            case hy52 =>
              intro w' hSw
              have hq := hSw.1
              clear hSw
              go_simp
              with_reducible rfl
            try simp only [Act.put, List.setIfInBounds_toArray, List.set_cons_zero, List.set_cons_succ]
            refine wpAnyH_take (i := 21) (oi := { dst := some 146, op := Go.Op.pick (Go.Operand.tmp 139) (Go.Operand.const (Go.Value.bool true)) (Go.Operand.tmp 145), type := 4, pos := "outright.go:145", after := #[{ on := 14, ground := Go.Ground.data }, { on := 20, ground := Go.Ground.data }], guard := none }) (v := ?v53) rfl (by kernel_rfl) (by kernel_rfl) (by kernel_rfl) (fun _ _ _ h => h) (Or.inl ⟨by rfl, ?hy53⟩) (held_start y4) ?r53
            case hy53 =>
              intro w' hSw
              have hq := hSw.1
              clear hSw
              go_simp
              with_reducible rfl
            try simp only [Act.put, List.setIfInBounds_toArray, List.set_cons_zero, List.set_cons_succ]
            refine wpAnyH_take (i := 22) (oi := { dst := some 147, op := Go.Op.move (Go.Operand.tmp 146), type := 4, pos := "outright.go:145", after := #[{ on := 21, ground := Go.Ground.data }, { on := 17, ground := Go.Ground.chain }], guard := none }) (v := ?v54) rfl (by kernel_rfl) (by kernel_rfl) (by kernel_rfl) (fun _ _ _ h => h) (Or.inl ⟨by rfl, ?hy54⟩) (held_start y4) ?r54
            case hy54 =>
              intro w' hSw
              have hq := hSw.1
              clear hSw
              go_simp
              with_reducible rfl
            try simp only [Act.put, List.setIfInBounds_toArray, List.set_cons_zero, List.set_cons_succ]
            refine wpAnyH_take (i := 23) (oi := { dst := some 148, op := Go.Op.load 51 (Go.Operand.tmp 19), type := 51, pos := "outright.go:145", after := #[{ on := 22, ground := Go.Ground.guard }], guard := some (22, false) }) (v := ?v55) rfl (by kernel_rfl) (by kernel_rfl) (by kernel_rfl) (fun _ _ _ h => h) (Or.inl ⟨by rfl, ?hy55⟩) (held_start y4) ?r55
            case hy55 =>
              intro w' hSw
              have hq := hSw.1
              clear hSw
              go_simp
              with_reducible rfl
            try simp only [Act.put, List.setIfInBounds_toArray, List.set_cons_zero, List.set_cons_succ]
            refine wpAnyH_take (i := 24) (oi := { dst := some 149, op := Go.Op.move (Go.Operand.tmp 27), type := 3, pos := "outright.go:145", after := #[{ on := 22, ground := Go.Ground.guard }], guard := some (22, false) }) (v := ?v56) rfl (by kernel_rfl) (by kernel_rfl) (by kernel_rfl) (fun _ _ _ h => h) (Or.inl ⟨by rfl, ?hy56⟩) (held_start y4) ?r56
            case hy56 =>
              intro w' hSw
              have hq := hSw.1
              clear hSw
              go_simp
              with_reducible rfl
            try simp only [Act.put, List.setIfInBounds_toArray, List.set_cons_zero, List.set_cons_succ]
            refine wpAnyH_ready (rs := [25]) (by kernel_rfl) (by simp) ?_
            refine AllReadyH.cons rfl (fun K hK => ?_) AllReadyH.nil
            go_simp
            refine (contains_yes ⟨s0, s1⟩ tv HF1.out _).mono ?_
            rintro e w57 ⟨rfl, hBw57⟩
            have hSw57 := held_step hBw57 (held_start y4)
            refine hK.out _ _ hSw57 (fun _ => ?_)
            clear hK K
            try simp only [Act.put, List.setIfInBounds_toArray, List.set_cons_zero, List.set_cons_succ]
            refine wpAnyH_take (i := 26) (oi := { dst := some 151, op := Go.Op.unOp Go.UnOp.not 4 (Go.Operand.tmp 150), type := 4, pos := "outright.go:145", after := #[{ on := 25, ground := Go.Ground.data }, { on := 22, ground := Go.Ground.guard }], guard := some (22, false) }) (v := ?v58) rfl (by kernel_rfl) (by kernel_rfl) (by kernel_rfl) (fun _ _ _ h => h) (Or.inl ⟨by rfl, ?hy58⟩) hSw57 ?r58
            case hy58 =>
              intro w' hSw
              have hq := hSw.1
              clear hSw
              go_simp
              with_reducible rfl
            try simp only [Act.put, List.setIfInBounds_toArray, List.set_cons_zero, List.set_cons_succ]
            refine wpAnyH_take (i := 27) (oi := { dst := some 152, op := Go.Op.pick (Go.Operand.tmp 147) (Go.Operand.const (Go.Value.bool true)) (Go.Operand.tmp 151), type := 4, pos := "outright.go:145", after := #[{ on := 22, ground := Go.Ground.data }, { on := 26, ground := Go.Ground.data }], guard := none }) (v := ?v59) rfl (by kernel_rfl) (by kernel_rfl) (by kernel_rfl) (fun _ _ _ h => h) (Or.inl ⟨by rfl, ?hy59⟩) hSw57 ?r59
            case hy59 =>
              intro w' hSw
              have hq := hSw.1
              clear hSw
              go_simp
              with_reducible rfl
            try simp only [Act.put, List.setIfInBounds_toArray, List.set_cons_zero, List.set_cons_succ]
            refine wpAnyH_take (i := 28) (oi := { dst := some 153, op := Go.Op.move (Go.Operand.tmp 152), type := 4, pos := "outright.go:145", after := #[{ on := 27, ground := Go.Ground.data }, { on := 25, ground := Go.Ground.chain }], guard := none }) (v := ?v60) rfl (by kernel_rfl) (by kernel_rfl) (by kernel_rfl) (fun _ _ _ h => h) (Or.inl ⟨by rfl, ?hy60⟩) hSw57 ?r60
            case hy60 =>
              intro w' hSw
              have hq := hSw.1
              clear hSw
              go_simp
              with_reducible rfl
            try simp only [Act.put, List.setIfInBounds_toArray, List.set_cons_zero, List.set_cons_succ]
            refine wpAnyH_take (i := 29) (oi := { dst := some 154, op := Go.Op.load 51 (Go.Operand.tmp 21), type := 51, pos := "outright.go:145", after := #[{ on := 28, ground := Go.Ground.guard }], guard := some (28, false) }) (v := ?v61) rfl (by kernel_rfl) (by kernel_rfl) (by kernel_rfl) (fun _ _ _ h => h) (Or.inl ⟨by rfl, ?hy61⟩) hSw57 ?r61
            case hy61 =>
              intro w' hSw
              have hq := hSw.1
              clear hSw
              go_simp
              with_reducible rfl
            try simp only [Act.put, List.setIfInBounds_toArray, List.set_cons_zero, List.set_cons_succ]
            refine wpAnyH_take (i := 30) (oi := { dst := some 155, op := Go.Op.move (Go.Operand.tmp 8), type := 23, pos := "outright.go:145", after := #[{ on := 28, ground := Go.Ground.guard }], guard := some (28, false) }) (v := ?v62) rfl (by kernel_rfl) (by kernel_rfl) (by kernel_rfl) (fun _ _ _ h => h) (Or.inl ⟨by rfl, ?hy62⟩) hSw57 ?r62
            case hy62 =>
              intro w' hSw
              have hq := hSw.1
              clear hSw
              go_simp
              with_reducible rfl
            try simp only [Act.put, List.setIfInBounds_toArray, List.set_cons_zero, List.set_cons_succ]
            refine wpAnyH_take (i := 31) (oi := { dst := some 156, op := Go.Op.move (Go.Operand.tmp 18), type := 3, pos := "outright.go:145", after := #[{ on := 28, ground := Go.Ground.guard }], guard := some (28, false) }) (v := ?v63) rfl (by kernel_rfl) (by kernel_rfl) (by kernel_rfl) (fun _ _ _ h => h) (Or.inl ⟨by rfl, ?hy63⟩) hSw57 ?r63
            case hy63 =>
              intro w' hSw
              have hq := hSw.1
              clear hSw
              go_simp
              with_reducible rfl
            try simp only [Act.put, List.setIfInBounds_toArray, List.set_cons_zero, List.set_cons_succ]
            refine wpAnyH_take (i := 32) (oi := { dst := some 157, op := Go.Op.indexAddr 23 (Go.Operand.tmp 155) (Go.Operand.tmp 156), type := 0, pos := "outright.go:145", after := #[{ on := 30, ground := Go.Ground.data }, { on := 31, ground := Go.Ground.data }, { on := 28, ground := Go.Ground.guard }], guard := some (28, false) }) (v := ?v64) rfl (by kernel_rfl) (by kernel_rfl) (by kernel_rfl) (fun _ _ _ h => h) (Or.inl ⟨by rfl, ?hy64⟩) hSw57 ?r64
            case hy64 =>
              intro w' hSw
              have hq := hSw.1
              clear hSw
              go_simp
              with_reducible rfl
            try simp only [Act.put, List.setIfInBounds_toArray, List.set_cons_zero, List.set_cons_succ]
            refine wpAnyH_take (i := 33) (oi := { dst := some 158, op := Go.Op.load 3 (Go.Operand.tmp 157), type := 3, pos := "outright.go:145", after := #[{ on := 32, ground := Go.Ground.data }, { on := 28, ground := Go.Ground.guard }], guard := some (28, false) }) (v := ?v65) rfl (by kernel_rfl) (by kernel_rfl) (by kernel_rfl) (fun _ _ _ h => h) (Or.inl ⟨by rfl, ?hy65⟩) hSw57 ?r65
            case hy65 =>
              intro w' hSw
              have hq := hSw.1
              clear hSw
              go_simp
              with_reducible rfl
            try simp only [Act.put, List.setIfInBounds_toArray, List.set_cons_zero, List.set_cons_succ]
            refine wpAnyH_ready (rs := [34]) (by kernel_rfl) (by simp) ?_
            refine AllReadyH.cons rfl (fun K hK => ?_) AllReadyH.nil
            go_simp
            refine (contains_yes ⟨u0, u1⟩ xv HF2.out _).mono ?_
            rintro e w66 ⟨rfl, hBw66⟩
            have hSw66 := held_step hBw66 hSw57
            refine hK.out _ _ hSw66 (fun _ => ?_)
            clear hK K
            try simp only [Act.put, List.setIfInBounds_toArray, List.set_cons_zero, List.set_cons_succ]
            refine wpAnyH_take (i := 35) (oi := { dst := some 160, op := Go.Op.unOp Go.UnOp.not 4 (Go.Operand.tmp 159), type := 4, pos := "outright.go:145", after := #[{ on := 34, ground := Go.Ground.data }, { on := 28, ground := Go.Ground.guard }], guard := some (28, false) }) (v := ?v67) rfl (by kernel_rfl) (by kernel_rfl) (by kernel_rfl) (fun _ _ _ h => h) (Or.inl ⟨by rfl, ?hy67⟩) hSw66 ?r67
            case hy67 =>
              intro w' hSw
              have hq := hSw.1
              clear hSw
              go_simp
              with_reducible rfl
            try simp only [Act.put, List.setIfInBounds_toArray, List.set_cons_zero, List.set_cons_succ]
            refine wpAnyH_take (i := 36) (oi := { dst := some 161, op := Go.Op.pick (Go.Operand.tmp 153) (Go.Operand.const (Go.Value.bool true)) (Go.Operand.tmp 160), type := 4, pos := "outright.go:145", after := #[{ on := 28, ground := Go.Ground.data }, { on := 35, ground := Go.Ground.data }], guard := none }) (v := ?v68) rfl (by kernel_rfl) (by kernel_rfl) (by kernel_rfl) (fun _ _ _ h => h) (Or.inl ⟨by rfl, ?hy68⟩) hSw66 ?r68
            case hy68 =>
              intro w' hSw
              have hq := hSw.1
              clear hSw
              go_simp
              with_reducible rfl
            try simp only [Act.put, List.setIfInBounds_toArray, List.set_cons_zero, List.set_cons_succ]
            refine wpAnyH_done (by kernel_rfl) ?_ _
            show R _ _
            rw [HR.out]
            simp only [Act.put, List.setIfInBounds_toArray, List.set_cons_zero, List.set_cons_succ]
            exact ⟨⟨_, _, _, _, _, _, _, _, _, _, _, _, _, _, _, _, _, _, _, _, _, _, _, _, _, _, _, _, _, _, _, _, _, _, _, _, rfl⟩, hSw66⟩
          case rest =>
            intro a' y5 hra
            rw [HR.out] at hra
            clear HR
            obtain ⟨⟨u125, u126, u127, u128, u129, u130, u131, u132, u133, u134, u135, u136, u137, u138, u139, u140, u141, u142, u143, u144, u145, u146, u147, u148, u149, u150, u151, u152, u153, u154, u155, u156, u157, u158, u159, u160, rfl⟩, hHE⟩ := hra
            subst hA
            try simp only [Act.put, List.setIfInBounds_toArray, List.set_cons_zero, List.set_cons_succ]
            have hB5 := hHE.2.2
            have rB5 := (hB5.block _ lB).trans RBy.out
            have q53 := cell_of_row y5 _ 3 _ _ _ rB5
            simp only [List.getElem?_toArray, List.getElem?_cons_zero, List.getElem?_cons_succ] at q53
            have RB5 := Lib.hid rB5
            have lB5 := heap_lt rB5
            have HBY := Lib.hid (HB4.out.trans (hB5.mono HB4.out.size))
            clear qS0 qS1 qU0 qU1 qd qr qw hHE hB5 rB5
            by_cases hr : tv < b.rule
            · have hf5 := HF5.out hr
              have hpd : ¬ (d : Int) < p0 := by omega
              have hq0 := hf5.2.2
              have hrg : ¬ b.rule ≤ tv := by omega
              obtain ⟨q, hq⟩ : ∃ q : Int, Ch.indexOf L k = q := ⟨_, rfl⟩
              rw [hq] at hq0
              have hqd : decide (q < 0) = false := decide_eq_false (by omega)
              have hAT := at_any L k _ y5 (HLW.out _ HBY.out)
              rw [hq] at hAT
              have HAT := Lib.hid hAT
              clear hf5 hq hAT
              go_wp2_with fail
              refine HAT.out.mono ?_
              rintro e y6 ⟨rfl, hB6⟩
              have HBY6 := Lib.hid (HBY.out.trans (hB6.mono HBY.out.size))
              have rB6 := (hB6.block _ lB5).trans RB5.out
              have q63 := cell_of_row y6 _ 3 _ _ _ rB6
              simp only [List.getElem?_toArray, List.getElem?_cons_zero, List.getElem?_cons_succ] at q63
              clear rB6
              clear hB6
              go_wp2_with fail
              go_roundw
              case rel => exact ⟨k + 1, by omega, by go_num, HBY6.out⟩
              case measure => simp [intOf]; omega
            · have hrg : b.rule ≤ tv := by omega
              go_wp2_with fail
              go_roundw
              case rel => exact ⟨k + 1, by omega, by go_num, HBY.out⟩
              case measure => simp [intOf]; omega
      · rcases f6 with rfl | ⟨rfl, rfl⟩
        · go_wp2_with fail
          refine name_act ?_
          intro A hA
          obtain ⟨R, hR⟩ : ∃ R : Act → World → Prop, R = fun a' w' => (∃ u125 u126 u127 u128 u129 u130 u131 u132 u133 u134 u135 u136 u137 u138 u139 u140 u141 u142 u143 u144 u145 u146 u147 u148 u149 u150 u151 u152 u153 u154 u155 u156 u157 u158 u159 u160, a' = (((((((((((((((((((((((((((((((((((((A.put (some 125) u125).put (some 126) u126).put (some 127) u127).put (some 128) u128).put (some 129) u129).put (some 130) u130).put (some 131) u131).put (some 132) u132).put (some 133) u133).put (some 134) u134).put (some 135) u135).put (some 136) u136).put (some 137) u137).put (some 138) u138).put (some 139) u139).put (some 140) u140).put (some 141) u141).put (some 142) u142).put (some 143) u143).put (some 144) u144).put (some 145) u145).put (some 146) u146).put (some 147) u147).put (some 148) u148).put (some 149) u149).put (some 150) u150).put (some 151) u151).put (some 152) u152).put (some 153) u153).put (some 154) u154).put (some 155) u155).put (some 156) u156).put (some 157) u157).put (some 158) u158).put (some 159) u159).put (some 160) u160).put (some 161) (.bool false))) ∧ Held y4 w' := ⟨_, rfl⟩
          have HR := Lib.hid hR
          clear hR
          refine wp_between R ?first ?rest
          case first =>
            subst hA
            refine wp_region_held_drew (S := fun w' => Held y4 w') (by kernel_rfl) (held_start y4) (fun _ => ?_)
            refine wpAnyH_take (i := 0) (oi := { dst := some 125, op := Go.Op.move (Go.Operand.tmp 20), type := 43, pos := "outright.go:145", after := #[], guard := none }) (v := ?v69) rfl (by kernel_rfl) (by kernel_rfl) (by kernel_rfl) (fun _ _ _ h => h) (Or.inl ⟨by rfl, ?hy69⟩) (held_start y4) ?r69
            case hy69 =>
              intro w' hSw
              have hq := hSw.1
              clear hSw
              go_simp
              with_reducible rfl
            try simp only [Act.put, List.setIfInBounds_toArray, List.set_cons_zero, List.set_cons_succ]
            refine wpAnyH_take (i := 1) (oi := { dst := some 126, op := Go.Op.binOp Go.BinOp.neq 43 (Go.Operand.tmp 125) (Go.Operand.const (Go.Value.int Go.IntKind.i64 0)) 43, type := 4, pos := "outright.go:145", after := #[{ on := 0, ground := Go.Ground.data }], guard := none }) (v := ?v70) rfl (by kernel_rfl) (by kernel_rfl) (by kernel_rfl) (fun _ _ _ h => h) (Or.inl ⟨by rfl, ?hy70⟩) (held_start y4) ?r70
            case hy70 =>
              intro w' hSw
              have hq := hSw.1
              clear hSw
              go_simp
              with_reducible rfl
            try simp only [Act.put, List.setIfInBounds_toArray, List.set_cons_zero, List.set_cons_succ]
            refine wpAnyH_take (i := 2) (oi := { dst := some 127, op := Go.Op.move (Go.Operand.tmp 126), type := 4, pos := "outright.go:145", after := #[{ on := 1, ground := Go.Ground.data }], guard := none }) (v := ?v71) rfl (by kernel_rfl) (by kernel_rfl) (by kernel_rfl) (fun _ _ _ h => h) (Or.inl ⟨by rfl, ?hy71⟩) (held_start y4) ?r71
            case hy71 =>
              intro w' hSw
              have hq := hSw.1
              clear hSw
              go_simp
              with_reducible rfl
            try simp only [Act.put, List.setIfInBounds_toArray, List.set_cons_zero, List.set_cons_succ]
            refine wpAnyH_take (i := 3) (oi := { dst := some 128, op := Go.Op.move (Go.Operand.tmp 22), type := 43, pos := "outright.go:145", after := #[{ on := 2, ground := Go.Ground.guard }], guard := some (2, false) }) (v := ?v72) rfl (by kernel_rfl) (by kernel_rfl) (by kernel_rfl) (fun _ _ _ h => h) (Or.inl ⟨by rfl, ?hy72⟩) (held_start y4) ?r72
            case hy72 =>
              intro w' hSw
              have hq := hSw.1
              clear hSw
              go_simp
              with_reducible rfl
            try simp only [Act.put, List.setIfInBounds_toArray, List.set_cons_zero, List.set_cons_succ]
            refine wpAnyH_take (i := 4) (oi := { dst := some 129, op := Go.Op.binOp Go.BinOp.neq 43 (Go.Operand.tmp 128) (Go.Operand.const (Go.Value.int Go.IntKind.i64 0)) 43, type := 4, pos := "outright.go:145", after := #[{ on := 3, ground := Go.Ground.data }, { on := 2, ground := Go.Ground.guard }], guard := some (2, false) }) (v := ?v73) rfl (by kernel_rfl) (by kernel_rfl) (by kernel_rfl) (fun _ _ _ h => h) (Or.inl ⟨by rfl, ?hy73⟩) (held_start y4) ?r73
            case hy73 =>
              intro w' hSw
              have hq := hSw.1
              clear hSw
              go_simp
              with_reducible rfl
            try simp only [Act.put, List.setIfInBounds_toArray, List.set_cons_zero, List.set_cons_succ]
            refine wpAnyH_take (i := 5) (oi := { dst := some 130, op := Go.Op.pick (Go.Operand.tmp 127) (Go.Operand.const (Go.Value.bool true)) (Go.Operand.tmp 129), type := 4, pos := "outright.go:145", after := #[{ on := 2, ground := Go.Ground.data }, { on := 4, ground := Go.Ground.data }], guard := none }) (v := ?v74) rfl (by kernel_rfl) (by kernel_rfl) (by kernel_rfl) (fun _ _ _ h => h) (Or.inl ⟨by rfl, ?hy74⟩) (held_start y4) ?r74
            case hy74 =>
              intro w' hSw
              have hq := hSw.1
              clear hSw
              go_simp
              with_reducible rfl
            try simp only [Act.put, List.setIfInBounds_toArray, List.set_cons_zero, List.set_cons_succ]
            refine wpAnyH_take (i := 6) (oi := { dst := some 131, op := Go.Op.move (Go.Operand.tmp 130), type := 4, pos := "outright.go:145", after := #[{ on := 5, ground := Go.Ground.data }, { on := 2, ground := Go.Ground.chain }], guard := none }) (v := ?v75) rfl (by kernel_rfl) (by kernel_rfl) (by kernel_rfl) (fun _ _ _ h => h) (Or.inl ⟨by rfl, ?hy75⟩) (held_start y4) ?r75
            case hy75 =>
              intro w' hSw
              have hq := hSw.1
              clear hSw
              go_simp
              with_reducible rfl
            try simp only [Act.put, List.setIfInBounds_toArray, List.set_cons_zero, List.set_cons_succ]
            refine wpAnyH_take (i := 7) (oi := { dst := some 132, op := Go.Op.move (Go.Operand.tmp 24), type := 43, pos := "outright.go:145", after := #[{ on := 6, ground := Go.Ground.guard }], guard := some (6, false) }) (v := ?v76) rfl (by kernel_rfl) (by kernel_rfl) (by kernel_rfl) (fun _ _ _ h => h) (Or.inl ⟨by rfl, ?hy76⟩) (held_start y4) ?r76
            case hy76 =>
              intro w' hSw
              have hq := hSw.1
              clear hSw
              go_simp
              with_reducible rfl
            try simp only [Act.put, List.setIfInBounds_toArray, List.set_cons_zero, List.set_cons_succ]
            refine wpAnyH_take (i := 8) (oi := { dst := some 133, op := Go.Op.binOp Go.BinOp.neq 43 (Go.Operand.tmp 132) (Go.Operand.const (Go.Value.int Go.IntKind.i64 0)) 43, type := 4, pos := "outright.go:145", after := #[{ on := 7, ground := Go.Ground.data }, { on := 6, ground := Go.Ground.guard }], guard := some (6, false) }) (v := ?v77) rfl (by kernel_rfl) (by kernel_rfl) (by kernel_rfl) (fun _ _ _ h => h) (Or.inl ⟨by rfl, ?hy77⟩) (held_start y4) ?r77
            case hy77 =>
              intro w' hSw
              have hq := hSw.1
              clear hSw
              go_simp
              with_reducible rfl
            try simp only [Act.put, List.setIfInBounds_toArray, List.set_cons_zero, List.set_cons_succ]
            refine wpAnyH_take (i := 9) (oi := { dst := some 134, op := Go.Op.move (Go.Operand.tmp 133), type := 4, pos := "outright.go:145", after := #[{ on := 8, ground := Go.Ground.data }, { on := 6, ground := Go.Ground.chain }, { on := 6, ground := Go.Ground.guard }], guard := some (6, false) }) (v := ?v78) rfl (by kernel_rfl) (by kernel_rfl) (by kernel_rfl) (fun _ _ _ h => h) (Or.inl ⟨by rfl, ?hy78⟩) (held_start y4) ?r78
            case hy78 =>
              intro w' hSw
              have hq := hSw.1
              clear hSw
              go_simp
              with_reducible rfl
            try simp only [Act.put, List.setIfInBounds_toArray, List.set_cons_zero, List.set_cons_succ]
            refine wpAnyH_take (i := 10) (oi := { dst := some 135, op := Go.Op.move (Go.Operand.tmp 24), type := 43, pos := "outright.go:145", after := #[{ on := 9, ground := Go.Ground.guard }], guard := some (9, true) }) (v := ?v79) rfl (by kernel_rfl) (by kernel_rfl) (by kernel_rfl) (fun _ _ _ h => h) (Or.inl ⟨by rfl, ?hy79⟩) (held_start y4) ?r79
            case hy79 =>
              intro w' hSw
              have hq := hSw.1
              clear hSw
              go_simp
              with_reducible rfl
            try simp only [Act.put, List.setIfInBounds_toArray, List.set_cons_zero, List.set_cons_succ]
            refine wpAnyH_take (i := 11) (oi := { dst := some 136, op := Go.Op.binOp Go.BinOp.neq 43 (Go.Operand.tmp 135) (Go.Operand.const (Go.Value.int Go.IntKind.i64 4)) 43, type := 4, pos := "outright.go:145", after := #[{ on := 10, ground := Go.Ground.data }, { on := 9, ground := Go.Ground.guard }], guard := some (9, true) }) (v := ?v80) rfl (by kernel_rfl) (by kernel_rfl) (by kernel_rfl) (fun _ _ _ h => h) (Or.inl ⟨by rfl, ?hy80⟩) (held_start y4) ?r80
            case hy80 =>
              intro w' hSw
              have hq := hSw.1
              clear hSw
              go_simp
              with_reducible rfl
            try simp only [Act.put, List.setIfInBounds_toArray, List.set_cons_zero, List.set_cons_succ]
            refine wpAnyH_take (i := 12) (oi := { dst := some 137, op := Go.Op.pick (Go.Operand.tmp 134) (Go.Operand.tmp 136) (Go.Operand.const (Go.Value.bool false)), type := 4, pos := "outright.go:145", after := #[{ on := 9, ground := Go.Ground.data }, { on := 11, ground := Go.Ground.data }, { on := 6, ground := Go.Ground.guard }], guard := some (6, false) }) (v := ?v81) rfl (by kernel_rfl) (by kernel_rfl) (by kernel_rfl) (fun _ _ _ h => h) (Or.inl ⟨by rfl, ?hy81⟩) (held_start y4) ?r81
            case hy81 =>
              intro w' hSw
              have hq := hSw.1
              clear hSw
              go_simp
              with_reducible rfl
            try simp only [Act.put, List.setIfInBounds_toArray, List.set_cons_zero, List.set_cons_succ]
            refine wpAnyH_take (i := 13) (oi := { dst := some 138, op := Go.Op.pick (Go.Operand.tmp 131) (Go.Operand.const (Go.Value.bool true)) (Go.Operand.tmp 137), type := 4, pos := "outright.go:145", after := #[{ on := 6, ground := Go.Ground.data }, { on := 12, ground := Go.Ground.data }], guard := none }) (v := ?v82) rfl (by kernel_rfl) (by kernel_rfl) (by kernel_rfl) (fun _ _ _ h => h) (Or.inl ⟨by rfl, ?hy82⟩) (held_start y4) ?r82
            case hy82 =>
              intro w' hSw
              have hq := hSw.1
              clear hSw
              go_simp
              with_reducible rfl
            try simp only [Act.put, List.setIfInBounds_toArray, List.set_cons_zero, List.set_cons_succ]
            refine wpAnyH_take (i := 14) (oi := { dst := some 139, op := Go.Op.move (Go.Operand.tmp 138), type := 4, pos := "outright.go:145", after := #[{ on := 13, ground := Go.Ground.data }, { on := 9, ground := Go.Ground.chain }], guard := none }) (v := ?v83) rfl (by kernel_rfl) (by kernel_rfl) (by kernel_rfl) (fun _ _ _ h => h) (Or.inl ⟨by rfl, ?hy83⟩) (held_start y4) ?r83
            case hy83 =>
              intro w' hSw
              have hq := hSw.1
              clear hSw
              go_simp
              with_reducible rfl
            try simp only [Act.put, List.setIfInBounds_toArray, List.set_cons_zero, List.set_cons_succ]
            refine wpAnyH_take (i := 15) (oi := { dst := some 140, op := Go.Op.move (Go.Operand.tmp 26), type := 43, pos := "outright.go:145", after := #[{ on := 14, ground := Go.Ground.guard }], guard := some (14, false) }) (v := ?v84) rfl (by kernel_rfl) (by kernel_rfl) (by kernel_rfl) (fun _ _ _ h => h) (Or.inl ⟨by rfl, ?hy84⟩) (held_start y4) ?r84
            case hy84 =>
              intro w' hSw
              have hq := hSw.1
              clear hSw
              go_simp
              with_reducible rfl
            try simp only [Act.put, List.setIfInBounds_toArray, List.set_cons_zero, List.set_cons_succ]
            refine wpAnyH_take (i := 16) (oi := { dst := some 141, op := Go.Op.binOp Go.BinOp.neq 43 (Go.Operand.tmp 140) (Go.Operand.const (Go.Value.int Go.IntKind.i64 0)) 43, type := 4, pos := "outright.go:145", after := #[{ on := 15, ground := Go.Ground.data }, { on := 14, ground := Go.Ground.guard }], guard := some (14, false) }) (v := ?v85) rfl (by kernel_rfl) (by kernel_rfl) (by kernel_rfl) (fun _ _ _ h => h) (Or.inl ⟨by rfl, ?hy85⟩) (held_start y4) ?r85
            case hy85 =>
              intro w' hSw
              have hq := hSw.1
              clear hSw
              go_simp
              with_reducible rfl
            try simp only [Act.put, List.setIfInBounds_toArray, List.set_cons_zero, List.set_cons_succ]
            refine wpAnyH_take (i := 17) (oi := { dst := some 142, op := Go.Op.move (Go.Operand.tmp 141), type := 4, pos := "outright.go:145", after := #[{ on := 16, ground := Go.Ground.data }, { on := 14, ground := Go.Ground.chain }, { on := 14, ground := Go.Ground.guard }], guard := some (14, false) }) (v := ?v86) rfl (by kernel_rfl) (by kernel_rfl) (by kernel_rfl) (fun _ _ _ h => h) (Or.inl ⟨by rfl, ?hy86⟩) (held_start y4) ?r86
            case hy86 =>
              intro w' hSw
              have hq := hSw.1
              clear hSw
              go_simp
              with_reducible rfl
            try simp only [Act.put, List.setIfInBounds_toArray, List.set_cons_zero, List.set_cons_succ]
            refine wpAnyH_take (i := 18) (oi := { dst := some 143, op := Go.Op.move (Go.Operand.tmp 26), type := 43, pos := "outright.go:145", after := #[{ on := 17, ground := Go.Ground.guard }], guard := some (17, true) }) (v := undef) rfl (by kernel_rfl) (by kernel_rfl) (by kernel_rfl) (fun _ _ _ h => h) (Or.inr ⟨by rfl, rfl⟩) (held_start y4) ?_
            try simp only [Act.put, List.setIfInBounds_toArray, List.set_cons_zero, List.set_cons_succ]
            refine wpAnyH_take (i := 19) (oi := { dst := some 144, op := Go.Op.binOp Go.BinOp.neq 43 (Go.Operand.tmp 143) (Go.Operand.const (Go.Value.int Go.IntKind.i64 4)) 43, type := 4, pos := "outright.go:145", after := #[{ on := 18, ground := Go.Ground.data }, { on := 17, ground := Go.Ground.guard }], guard := some (17, true) }) (v := undef) rfl (by kernel_rfl) (by kernel_rfl) (by kernel_rfl) (fun _ _ _ h => h) (Or.inr ⟨by rfl, rfl⟩) (held_start y4) ?_
            try simp only [Act.put, List.setIfInBounds_toArray, List.set_cons_zero, List.set_cons_succ]
            refine wpAnyH_take (i := 20) (oi := { dst := some 145, op := Go.Op.pick (Go.Operand.tmp 142) (Go.Operand.tmp 144) (Go.Operand.const (Go.Value.bool false)), type := 4, pos := "outright.go:145", after := #[{ on := 17, ground := Go.Ground.data }, { on := 19, ground := Go.Ground.data }, { on := 14, ground := Go.Ground.guard }], guard := some (14, false) }) (v := ?v87) rfl (by kernel_rfl) (by kernel_rfl) (by kernel_rfl) (fun _ _ _ h => h) (Or.inl ⟨by rfl, ?hy87⟩) (held_start y4) ?r87
            case hy87 =>
              intro w' hSw
              have hq := hSw.1
              clear hSw
              go_simp
              with_reducible rfl
            try simp only [Act.put, List.setIfInBounds_toArray, List.set_cons_zero, List.set_cons_succ]
            refine wpAnyH_take (i := 21) (oi := { dst := some 146, op := Go.Op.pick (Go.Operand.tmp 139) (Go.Operand.const (Go.Value.bool true)) (Go.Operand.tmp 145), type := 4, pos := "outright.go:145", after := #[{ on := 14, ground := Go.Ground.data }, { on := 20, ground := Go.Ground.data }], guard := none }) (v := ?v88) rfl (by kernel_rfl) (by kernel_rfl) (by kernel_rfl) (fun _ _ _ h => h) (Or.inl ⟨by rfl, ?hy88⟩) (held_start y4) ?r88
            case hy88 =>
              intro w' hSw
              have hq := hSw.1
              clear hSw
              go_simp
              with_reducible rfl
            try simp only [Act.put, List.setIfInBounds_toArray, List.set_cons_zero, List.set_cons_succ]
            refine wpAnyH_take (i := 22) (oi := { dst := some 147, op := Go.Op.move (Go.Operand.tmp 146), type := 4, pos := "outright.go:145", after := #[{ on := 21, ground := Go.Ground.data }, { on := 17, ground := Go.Ground.chain }], guard := none }) (v := ?v89) rfl (by kernel_rfl) (by kernel_rfl) (by kernel_rfl) (fun _ _ _ h => h) (Or.inl ⟨by rfl, ?hy89⟩) (held_start y4) ?r89
            case hy89 =>
              intro w' hSw
              have hq := hSw.1
              clear hSw
              go_simp
              with_reducible rfl
            try simp only [Act.put, List.setIfInBounds_toArray, List.set_cons_zero, List.set_cons_succ]
            refine wpAnyH_take (i := 23) (oi := { dst := some 148, op := Go.Op.load 51 (Go.Operand.tmp 19), type := 51, pos := "outright.go:145", after := #[{ on := 22, ground := Go.Ground.guard }], guard := some (22, false) }) (v := ?v90) rfl (by kernel_rfl) (by kernel_rfl) (by kernel_rfl) (fun _ _ _ h => h) (Or.inl ⟨by rfl, ?hy90⟩) (held_start y4) ?r90
            case hy90 =>
              intro w' hSw
              have hq := hSw.1
              clear hSw
              go_simp
              with_reducible rfl
            try simp only [Act.put, List.setIfInBounds_toArray, List.set_cons_zero, List.set_cons_succ]
            refine wpAnyH_take (i := 24) (oi := { dst := some 149, op := Go.Op.move (Go.Operand.tmp 27), type := 3, pos := "outright.go:145", after := #[{ on := 22, ground := Go.Ground.guard }], guard := some (22, false) }) (v := ?v91) rfl (by kernel_rfl) (by kernel_rfl) (by kernel_rfl) (fun _ _ _ h => h) (Or.inl ⟨by rfl, ?hy91⟩) (held_start y4) ?r91
            case hy91 =>
              intro w' hSw
              have hq := hSw.1
              clear hSw
              go_simp
              with_reducible rfl
            try simp only [Act.put, List.setIfInBounds_toArray, List.set_cons_zero, List.set_cons_succ]
            refine wpAnyH_ready (rs := [25]) (by kernel_rfl) (by simp) ?_
            refine AllReadyH.cons rfl (fun K hK => ?_) AllReadyH.nil
            go_simp
            refine (contains_yes ⟨s0, s1⟩ tv HF1.out _).mono ?_
            rintro e w92 ⟨rfl, hBw92⟩
            have hSw92 := held_step hBw92 (held_start y4)
            refine hK.out _ _ hSw92 (fun _ => ?_)
            clear hK K
            try simp only [Act.put, List.setIfInBounds_toArray, List.set_cons_zero, List.set_cons_succ]
            refine wpAnyH_take (i := 26) (oi := { dst := some 151, op := Go.Op.unOp Go.UnOp.not 4 (Go.Operand.tmp 150), type := 4, pos := "outright.go:145", after := #[{ on := 25, ground := Go.Ground.data }, { on := 22, ground := Go.Ground.guard }], guard := some (22, false) }) (v := ?v93) rfl (by kernel_rfl) (by kernel_rfl) (by kernel_rfl) (fun _ _ _ h => h) (Or.inl ⟨by rfl, ?hy93⟩) hSw92 ?r93
            case hy93 =>
              intro w' hSw
              have hq := hSw.1
              clear hSw
              go_simp
              with_reducible rfl
            try simp only [Act.put, List.setIfInBounds_toArray, List.set_cons_zero, List.set_cons_succ]
            refine wpAnyH_take (i := 27) (oi := { dst := some 152, op := Go.Op.pick (Go.Operand.tmp 147) (Go.Operand.const (Go.Value.bool true)) (Go.Operand.tmp 151), type := 4, pos := "outright.go:145", after := #[{ on := 22, ground := Go.Ground.data }, { on := 26, ground := Go.Ground.data }], guard := none }) (v := ?v94) rfl (by kernel_rfl) (by kernel_rfl) (by kernel_rfl) (fun _ _ _ h => h) (Or.inl ⟨by rfl, ?hy94⟩) hSw92 ?r94
            case hy94 =>
              intro w' hSw
              have hq := hSw.1
              clear hSw
              go_simp
              with_reducible rfl
            try simp only [Act.put, List.setIfInBounds_toArray, List.set_cons_zero, List.set_cons_succ]
            refine wpAnyH_take (i := 28) (oi := { dst := some 153, op := Go.Op.move (Go.Operand.tmp 152), type := 4, pos := "outright.go:145", after := #[{ on := 27, ground := Go.Ground.data }, { on := 25, ground := Go.Ground.chain }], guard := none }) (v := ?v95) rfl (by kernel_rfl) (by kernel_rfl) (by kernel_rfl) (fun _ _ _ h => h) (Or.inl ⟨by rfl, ?hy95⟩) hSw92 ?r95
            case hy95 =>
              intro w' hSw
              have hq := hSw.1
              clear hSw
              go_simp
              with_reducible rfl
            try simp only [Act.put, List.setIfInBounds_toArray, List.set_cons_zero, List.set_cons_succ]
            refine wpAnyH_take (i := 29) (oi := { dst := some 154, op := Go.Op.load 51 (Go.Operand.tmp 21), type := 51, pos := "outright.go:145", after := #[{ on := 28, ground := Go.Ground.guard }], guard := some (28, false) }) (v := ?v96) rfl (by kernel_rfl) (by kernel_rfl) (by kernel_rfl) (fun _ _ _ h => h) (Or.inl ⟨by rfl, ?hy96⟩) hSw92 ?r96
            case hy96 =>
              intro w' hSw
              have hq := hSw.1
              clear hSw
              go_simp
              with_reducible rfl
            try simp only [Act.put, List.setIfInBounds_toArray, List.set_cons_zero, List.set_cons_succ]
            refine wpAnyH_take (i := 30) (oi := { dst := some 155, op := Go.Op.move (Go.Operand.tmp 8), type := 23, pos := "outright.go:145", after := #[{ on := 28, ground := Go.Ground.guard }], guard := some (28, false) }) (v := ?v97) rfl (by kernel_rfl) (by kernel_rfl) (by kernel_rfl) (fun _ _ _ h => h) (Or.inl ⟨by rfl, ?hy97⟩) hSw92 ?r97
            case hy97 =>
              intro w' hSw
              have hq := hSw.1
              clear hSw
              go_simp
              with_reducible rfl
            try simp only [Act.put, List.setIfInBounds_toArray, List.set_cons_zero, List.set_cons_succ]
            refine wpAnyH_take (i := 31) (oi := { dst := some 156, op := Go.Op.move (Go.Operand.tmp 18), type := 3, pos := "outright.go:145", after := #[{ on := 28, ground := Go.Ground.guard }], guard := some (28, false) }) (v := ?v98) rfl (by kernel_rfl) (by kernel_rfl) (by kernel_rfl) (fun _ _ _ h => h) (Or.inl ⟨by rfl, ?hy98⟩) hSw92 ?r98
            case hy98 =>
              intro w' hSw
              have hq := hSw.1
              clear hSw
              go_simp
              with_reducible rfl
            try simp only [Act.put, List.setIfInBounds_toArray, List.set_cons_zero, List.set_cons_succ]
            refine wpAnyH_take (i := 32) (oi := { dst := some 157, op := Go.Op.indexAddr 23 (Go.Operand.tmp 155) (Go.Operand.tmp 156), type := 0, pos := "outright.go:145", after := #[{ on := 30, ground := Go.Ground.data }, { on := 31, ground := Go.Ground.data }, { on := 28, ground := Go.Ground.guard }], guard := some (28, false) }) (v := ?v99) rfl (by kernel_rfl) (by kernel_rfl) (by kernel_rfl) (fun _ _ _ h => h) (Or.inl ⟨by rfl, ?hy99⟩) hSw92 ?r99
            case hy99 =>
              intro w' hSw
              have hq := hSw.1
              clear hSw
              go_simp
              with_reducible rfl
            try simp only [Act.put, List.setIfInBounds_toArray, List.set_cons_zero, List.set_cons_succ]
            refine wpAnyH_take (i := 33) (oi := { dst := some 158, op := Go.Op.load 3 (Go.Operand.tmp 157), type := 3, pos := "outright.go:145", after := #[{ on := 32, ground := Go.Ground.data }, { on := 28, ground := Go.Ground.guard }], guard := some (28, false) }) (v := ?v100) rfl (by kernel_rfl) (by kernel_rfl) (by kernel_rfl) (fun _ _ _ h => h) (Or.inl ⟨by rfl, ?hy100⟩) hSw92 ?r100
            case hy100 =>
              intro w' hSw
              have hq := hSw.1
              clear hSw
              go_simp
              with_reducible rfl
            try simp only [Act.put, List.setIfInBounds_toArray, List.set_cons_zero, List.set_cons_succ]
            refine wpAnyH_ready (rs := [34]) (by kernel_rfl) (by simp) ?_
            refine AllReadyH.cons rfl (fun K hK => ?_) AllReadyH.nil
            go_simp
            refine (contains_yes ⟨u0, u1⟩ xv HF2.out _).mono ?_
            rintro e w101 ⟨rfl, hBw101⟩
            have hSw101 := held_step hBw101 hSw92
            refine hK.out _ _ hSw101 (fun _ => ?_)
            clear hK K
            try simp only [Act.put, List.setIfInBounds_toArray, List.set_cons_zero, List.set_cons_succ]
            refine wpAnyH_take (i := 35) (oi := { dst := some 160, op := Go.Op.unOp Go.UnOp.not 4 (Go.Operand.tmp 159), type := 4, pos := "outright.go:145", after := #[{ on := 34, ground := Go.Ground.data }, { on := 28, ground := Go.Ground.guard }], guard := some (28, false) }) (v := ?v102) rfl (by kernel_rfl) (by kernel_rfl) (by kernel_rfl) (fun _ _ _ h => h) (Or.inl ⟨by rfl, ?hy102⟩) hSw101 ?r102
            case hy102 =>
              intro w' hSw
              have hq := hSw.1
              clear hSw
              go_simp
              with_reducible rfl
            try simp only [Act.put, List.setIfInBounds_toArray, List.set_cons_zero, List.set_cons_succ]
            refine wpAnyH_take (i := 36) (oi := { dst := some 161, op := Go.Op.pick (Go.Operand.tmp 153) (Go.Operand.const (Go.Value.bool true)) (Go.Operand.tmp 160), type := 4, pos := "outright.go:145", after := #[{ on := 28, ground := Go.Ground.data }, { on := 35, ground := Go.Ground.data }], guard := none }) (v := ?v103) rfl (by kernel_rfl) (by kernel_rfl) (by kernel_rfl) (fun _ _ _ h => h) (Or.inl ⟨by rfl, ?hy103⟩) hSw101 ?r103
            case hy103 =>
              intro w' hSw
              have hq := hSw.1
              clear hSw
              go_simp
              with_reducible rfl
            try simp only [Act.put, List.setIfInBounds_toArray, List.set_cons_zero, List.set_cons_succ]
            refine wpAnyH_done (by kernel_rfl) ?_ _
            show R _ _
            rw [HR.out]
            simp only [Act.put, List.setIfInBounds_toArray, List.set_cons_zero, List.set_cons_succ]
            exact ⟨⟨_, _, _, _, _, _, _, _, _, _, _, _, _, _, _, _, _, _, _, _, _, _, _, _, _, _, _, _, _, _, _, _, _, _, _, _, rfl⟩, hSw101⟩
          case rest =>
            intro a' y5 hra
            rw [HR.out] at hra
            clear HR
            obtain ⟨⟨u125, u126, u127, u128, u129, u130, u131, u132, u133, u134, u135, u136, u137, u138, u139, u140, u141, u142, u143, u144, u145, u146, u147, u148, u149, u150, u151, u152, u153, u154, u155, u156, u157, u158, u159, u160, rfl⟩, hHE⟩ := hra
            subst hA
            try simp only [Act.put, List.setIfInBounds_toArray, List.set_cons_zero, List.set_cons_succ]
            have hB5 := hHE.2.2
            have rB5 := (hB5.block _ lB).trans RBy.out
            have q53 := cell_of_row y5 _ 3 _ _ _ rB5
            simp only [List.getElem?_toArray, List.getElem?_cons_zero, List.getElem?_cons_succ] at q53
            have HBY := Lib.hid (HB4.out.trans (hB5.mono HB4.out.size))
            clear qS0 qS1 qU0 qU1 qd qr qw hHE hB5 rB5
            by_cases hr : tv < b.rule
            · exact absurd (HF5.out hr).1 (by omega)
            · have hrg : b.rule ≤ tv := by omega
              have hgd : ¬ g0 ≤ (d : Int) := fun h => HF6.out hrg ⟨by trivial, h⟩
              go_wp2_with fail
              go_roundw
              case rel => exact ⟨k + 1, by omega, by go_num, HBY.out⟩
              case measure => simp [intOf]; omega
        · go_wp2_with fail
          refine name_act ?_
          intro A hA
          obtain ⟨R, hR⟩ : ∃ R : Act → World → Prop, R = fun a' w' => (∃ u125 u126 u127 u128 u129 u130 u131 u132 u133 u134 u135 u136 u137 u138 u139 u140 u141 u142 u143 u144 u145 u146 u147 u148 u149 u150 u151 u152 u153 u154 u155 u156 u157 u158 u159 u160, a' = (((((((((((((((((((((((((((((((((((((A.put (some 125) u125).put (some 126) u126).put (some 127) u127).put (some 128) u128).put (some 129) u129).put (some 130) u130).put (some 131) u131).put (some 132) u132).put (some 133) u133).put (some 134) u134).put (some 135) u135).put (some 136) u136).put (some 137) u137).put (some 138) u138).put (some 139) u139).put (some 140) u140).put (some 141) u141).put (some 142) u142).put (some 143) u143).put (some 144) u144).put (some 145) u145).put (some 146) u146).put (some 147) u147).put (some 148) u148).put (some 149) u149).put (some 150) u150).put (some 151) u151).put (some 152) u152).put (some 153) u153).put (some 154) u154).put (some 155) u155).put (some 156) u156).put (some 157) u157).put (some 158) u158).put (some 159) u159).put (some 160) u160).put (some 161) (.bool false))) ∧ Held y4 w' := ⟨_, rfl⟩
          have HR := Lib.hid hR
          clear hR
          refine wp_between R ?first ?rest
          case first =>
            subst hA
            refine wp_region_held_drew (S := fun w' => Held y4 w') (by kernel_rfl) (held_start y4) (fun _ => ?_)
            refine wpAnyH_take (i := 0) (oi := { dst := some 125, op := Go.Op.move (Go.Operand.tmp 20), type := 43, pos := "outright.go:145", after := #[], guard := none }) (v := ?v104) rfl (by kernel_rfl) (by kernel_rfl) (by kernel_rfl) (fun _ _ _ h => h) (Or.inl ⟨by rfl, ?hy104⟩) (held_start y4) ?r104
            case hy104 =>
              intro w' hSw
              have hq := hSw.1
              clear hSw
              go_simp
              with_reducible rfl
            try simp only [Act.put, List.setIfInBounds_toArray, List.set_cons_zero, List.set_cons_succ]
            refine wpAnyH_take (i := 1) (oi := { dst := some 126, op := Go.Op.binOp Go.BinOp.neq 43 (Go.Operand.tmp 125) (Go.Operand.const (Go.Value.int Go.IntKind.i64 0)) 43, type := 4, pos := "outright.go:145", after := #[{ on := 0, ground := Go.Ground.data }], guard := none }) (v := ?v105) rfl (by kernel_rfl) (by kernel_rfl) (by kernel_rfl) (fun _ _ _ h => h) (Or.inl ⟨by rfl, ?hy105⟩) (held_start y4) ?r105
            case hy105 =>
              intro w' hSw
              have hq := hSw.1
              clear hSw
              go_simp
              with_reducible rfl
            try simp only [Act.put, List.setIfInBounds_toArray, List.set_cons_zero, List.set_cons_succ]
            refine wpAnyH_take (i := 2) (oi := { dst := some 127, op := Go.Op.move (Go.Operand.tmp 126), type := 4, pos := "outright.go:145", after := #[{ on := 1, ground := Go.Ground.data }], guard := none }) (v := ?v106) rfl (by kernel_rfl) (by kernel_rfl) (by kernel_rfl) (fun _ _ _ h => h) (Or.inl ⟨by rfl, ?hy106⟩) (held_start y4) ?r106
            case hy106 =>
              intro w' hSw
              have hq := hSw.1
              clear hSw
              go_simp
              with_reducible rfl
            try simp only [Act.put, List.setIfInBounds_toArray, List.set_cons_zero, List.set_cons_succ]
            refine wpAnyH_take (i := 3) (oi := { dst := some 128, op := Go.Op.move (Go.Operand.tmp 22), type := 43, pos := "outright.go:145", after := #[{ on := 2, ground := Go.Ground.guard }], guard := some (2, false) }) (v := ?v107) rfl (by kernel_rfl) (by kernel_rfl) (by kernel_rfl) (fun _ _ _ h => h) (Or.inl ⟨by rfl, ?hy107⟩) (held_start y4) ?r107
            case hy107 =>
              intro w' hSw
              have hq := hSw.1
              clear hSw
              go_simp
              with_reducible rfl
            try simp only [Act.put, List.setIfInBounds_toArray, List.set_cons_zero, List.set_cons_succ]
            refine wpAnyH_take (i := 4) (oi := { dst := some 129, op := Go.Op.binOp Go.BinOp.neq 43 (Go.Operand.tmp 128) (Go.Operand.const (Go.Value.int Go.IntKind.i64 0)) 43, type := 4, pos := "outright.go:145", after := #[{ on := 3, ground := Go.Ground.data }, { on := 2, ground := Go.Ground.guard }], guard := some (2, false) }) (v := ?v108) rfl (by kernel_rfl) (by kernel_rfl) (by kernel_rfl) (fun _ _ _ h => h) (Or.inl ⟨by rfl, ?hy108⟩) (held_start y4) ?r108
            case hy108 =>
              intro w' hSw
              have hq := hSw.1
              clear hSw
              go_simp
              with_reducible rfl
            try simp only [Act.put, List.setIfInBounds_toArray, List.set_cons_zero, List.set_cons_succ]
            refine wpAnyH_take (i := 5) (oi := { dst := some 130, op := Go.Op.pick (Go.Operand.tmp 127) (Go.Operand.const (Go.Value.bool true)) (Go.Operand.tmp 129), type := 4, pos := "outright.go:145", after := #[{ on := 2, ground := Go.Ground.data }, { on := 4, ground := Go.Ground.data }], guard := none }) (v := ?v109) rfl (by kernel_rfl) (by kernel_rfl) (by kernel_rfl) (fun _ _ _ h => h) (Or.inl ⟨by rfl, ?hy109⟩) (held_start y4) ?r109
            case hy109 =>
              intro w' hSw
              have hq := hSw.1
              clear hSw
              go_simp
              with_reducible rfl
            try simp only [Act.put, List.setIfInBounds_toArray, List.set_cons_zero, List.set_cons_succ]
            refine wpAnyH_take (i := 6) (oi := { dst := some 131, op := Go.Op.move (Go.Operand.tmp 130), type := 4, pos := "outright.go:145", after := #[{ on := 5, ground := Go.Ground.data }, { on := 2, ground := Go.Ground.chain }], guard := none }) (v := ?v110) rfl (by kernel_rfl) (by kernel_rfl) (by kernel_rfl) (fun _ _ _ h => h) (Or.inl ⟨by rfl, ?hy110⟩) (held_start y4) ?r110
            case hy110 =>
              intro w' hSw
              have hq := hSw.1
              clear hSw
              go_simp
              with_reducible rfl
            try simp only [Act.put, List.setIfInBounds_toArray, List.set_cons_zero, List.set_cons_succ]
            refine wpAnyH_take (i := 7) (oi := { dst := some 132, op := Go.Op.move (Go.Operand.tmp 24), type := 43, pos := "outright.go:145", after := #[{ on := 6, ground := Go.Ground.guard }], guard := some (6, false) }) (v := ?v111) rfl (by kernel_rfl) (by kernel_rfl) (by kernel_rfl) (fun _ _ _ h => h) (Or.inl ⟨by rfl, ?hy111⟩) (held_start y4) ?r111
            case hy111 =>
              intro w' hSw
              have hq := hSw.1
              clear hSw
              go_simp
              with_reducible rfl
            try simp only [Act.put, List.setIfInBounds_toArray, List.set_cons_zero, List.set_cons_succ]
            refine wpAnyH_take (i := 8) (oi := { dst := some 133, op := Go.Op.binOp Go.BinOp.neq 43 (Go.Operand.tmp 132) (Go.Operand.const (Go.Value.int Go.IntKind.i64 0)) 43, type := 4, pos := "outright.go:145", after := #[{ on := 7, ground := Go.Ground.data }, { on := 6, ground := Go.Ground.guard }], guard := some (6, false) }) (v := ?v112) rfl (by kernel_rfl) (by kernel_rfl) (by kernel_rfl) (fun _ _ _ h => h) (Or.inl ⟨by rfl, ?hy112⟩) (held_start y4) ?r112
            case hy112 =>
              intro w' hSw
              have hq := hSw.1
              clear hSw
              go_simp
              with_reducible rfl
            try simp only [Act.put, List.setIfInBounds_toArray, List.set_cons_zero, List.set_cons_succ]
            refine wpAnyH_take (i := 9) (oi := { dst := some 134, op := Go.Op.move (Go.Operand.tmp 133), type := 4, pos := "outright.go:145", after := #[{ on := 8, ground := Go.Ground.data }, { on := 6, ground := Go.Ground.chain }, { on := 6, ground := Go.Ground.guard }], guard := some (6, false) }) (v := ?v113) rfl (by kernel_rfl) (by kernel_rfl) (by kernel_rfl) (fun _ _ _ h => h) (Or.inl ⟨by rfl, ?hy113⟩) (held_start y4) ?r113
            case hy113 =>
              intro w' hSw
              have hq := hSw.1
              clear hSw
              go_simp
              with_reducible rfl
            try simp only [Act.put, List.setIfInBounds_toArray, List.set_cons_zero, List.set_cons_succ]
            refine wpAnyH_take (i := 10) (oi := { dst := some 135, op := Go.Op.move (Go.Operand.tmp 24), type := 43, pos := "outright.go:145", after := #[{ on := 9, ground := Go.Ground.guard }], guard := some (9, true) }) (v := ?v114) rfl (by kernel_rfl) (by kernel_rfl) (by kernel_rfl) (fun _ _ _ h => h) (Or.inl ⟨by rfl, ?hy114⟩) (held_start y4) ?r114
            case hy114 =>
              intro w' hSw
              have hq := hSw.1
              clear hSw
              go_simp
              with_reducible rfl
            try simp only [Act.put, List.setIfInBounds_toArray, List.set_cons_zero, List.set_cons_succ]
            refine wpAnyH_take (i := 11) (oi := { dst := some 136, op := Go.Op.binOp Go.BinOp.neq 43 (Go.Operand.tmp 135) (Go.Operand.const (Go.Value.int Go.IntKind.i64 4)) 43, type := 4, pos := "outright.go:145", after := #[{ on := 10, ground := Go.Ground.data }, { on := 9, ground := Go.Ground.guard }], guard := some (9, true) }) (v := ?v115) rfl (by kernel_rfl) (by kernel_rfl) (by kernel_rfl) (fun _ _ _ h => h) (Or.inl ⟨by rfl, ?hy115⟩) (held_start y4) ?r115
            case hy115 =>
              intro w' hSw
              have hq := hSw.1
              clear hSw
              go_simp
              with_reducible rfl
            try simp only [Act.put, List.setIfInBounds_toArray, List.set_cons_zero, List.set_cons_succ]
            refine wpAnyH_take (i := 12) (oi := { dst := some 137, op := Go.Op.pick (Go.Operand.tmp 134) (Go.Operand.tmp 136) (Go.Operand.const (Go.Value.bool false)), type := 4, pos := "outright.go:145", after := #[{ on := 9, ground := Go.Ground.data }, { on := 11, ground := Go.Ground.data }, { on := 6, ground := Go.Ground.guard }], guard := some (6, false) }) (v := ?v116) rfl (by kernel_rfl) (by kernel_rfl) (by kernel_rfl) (fun _ _ _ h => h) (Or.inl ⟨by rfl, ?hy116⟩) (held_start y4) ?r116
            case hy116 =>
              intro w' hSw
              have hq := hSw.1
              clear hSw
              go_simp
              with_reducible rfl
            try simp only [Act.put, List.setIfInBounds_toArray, List.set_cons_zero, List.set_cons_succ]
            refine wpAnyH_take (i := 13) (oi := { dst := some 138, op := Go.Op.pick (Go.Operand.tmp 131) (Go.Operand.const (Go.Value.bool true)) (Go.Operand.tmp 137), type := 4, pos := "outright.go:145", after := #[{ on := 6, ground := Go.Ground.data }, { on := 12, ground := Go.Ground.data }], guard := none }) (v := ?v117) rfl (by kernel_rfl) (by kernel_rfl) (by kernel_rfl) (fun _ _ _ h => h) (Or.inl ⟨by rfl, ?hy117⟩) (held_start y4) ?r117
            case hy117 =>
              intro w' hSw
              have hq := hSw.1
              clear hSw
              go_simp
              with_reducible rfl
            try simp only [Act.put, List.setIfInBounds_toArray, List.set_cons_zero, List.set_cons_succ]
            refine wpAnyH_take (i := 14) (oi := { dst := some 139, op := Go.Op.move (Go.Operand.tmp 138), type := 4, pos := "outright.go:145", after := #[{ on := 13, ground := Go.Ground.data }, { on := 9, ground := Go.Ground.chain }], guard := none }) (v := ?v118) rfl (by kernel_rfl) (by kernel_rfl) (by kernel_rfl) (fun _ _ _ h => h) (Or.inl ⟨by rfl, ?hy118⟩) (held_start y4) ?r118
            case hy118 =>
              intro w' hSw
              have hq := hSw.1
              clear hSw
              go_simp
              with_reducible rfl
            try simp only [Act.put, List.setIfInBounds_toArray, List.set_cons_zero, List.set_cons_succ]
            refine wpAnyH_take (i := 15) (oi := { dst := some 140, op := Go.Op.move (Go.Operand.tmp 26), type := 43, pos := "outright.go:145", after := #[{ on := 14, ground := Go.Ground.guard }], guard := some (14, false) }) (v := ?v119) rfl (by kernel_rfl) (by kernel_rfl) (by kernel_rfl) (fun _ _ _ h => h) (Or.inl ⟨by rfl, ?hy119⟩) (held_start y4) ?r119
            case hy119 =>
              intro w' hSw
              have hq := hSw.1
              clear hSw
              go_simp
              with_reducible rfl
            try simp only [Act.put, List.setIfInBounds_toArray, List.set_cons_zero, List.set_cons_succ]
            refine wpAnyH_take (i := 16) (oi := { dst := some 141, op := Go.Op.binOp Go.BinOp.neq 43 (Go.Operand.tmp 140) (Go.Operand.const (Go.Value.int Go.IntKind.i64 0)) 43, type := 4, pos := "outright.go:145", after := #[{ on := 15, ground := Go.Ground.data }, { on := 14, ground := Go.Ground.guard }], guard := some (14, false) }) (v := ?v120) rfl (by kernel_rfl) (by kernel_rfl) (by kernel_rfl) (fun _ _ _ h => h) (Or.inl ⟨by rfl, ?hy120⟩) (held_start y4) ?r120
            case hy120 =>
              intro w' hSw
              have hq := hSw.1
              clear hSw
              go_simp
              with_reducible rfl
            try simp only [Act.put, List.setIfInBounds_toArray, List.set_cons_zero, List.set_cons_succ]
            refine wpAnyH_take (i := 17) (oi := { dst := some 142, op := Go.Op.move (Go.Operand.tmp 141), type := 4, pos := "outright.go:145", after := #[{ on := 16, ground := Go.Ground.data }, { on := 14, ground := Go.Ground.chain }, { on := 14, ground := Go.Ground.guard }], guard := some (14, false) }) (v := ?v121) rfl (by kernel_rfl) (by kernel_rfl) (by kernel_rfl) (fun _ _ _ h => h) (Or.inl ⟨by rfl, ?hy121⟩) (held_start y4) ?r121
            case hy121 =>
              intro w' hSw
              have hq := hSw.1
              clear hSw
              go_simp
              with_reducible rfl
            try simp only [Act.put, List.setIfInBounds_toArray, List.set_cons_zero, List.set_cons_succ]
            refine wpAnyH_take (i := 18) (oi := { dst := some 143, op := Go.Op.move (Go.Operand.tmp 26), type := 43, pos := "outright.go:145", after := #[{ on := 17, ground := Go.Ground.guard }], guard := some (17, true) }) (v := ?v122) rfl (by kernel_rfl) (by kernel_rfl) (by kernel_rfl) (fun _ _ _ h => h) (Or.inl ⟨by rfl, ?hy122⟩) (held_start y4) ?r122
            case hy122 =>
              intro w' hSw
              have hq := hSw.1
              clear hSw
              go_simp
              with_reducible rfl
            try simp only [Act.put, List.setIfInBounds_toArray, List.set_cons_zero, List.set_cons_succ]
            refine wpAnyH_take (i := 19) (oi := { dst := some 144, op := Go.Op.binOp Go.BinOp.neq 43 (Go.Operand.tmp 143) (Go.Operand.const (Go.Value.int Go.IntKind.i64 4)) 43, type := 4, pos := "outright.go:145", after := #[{ on := 18, ground := Go.Ground.data }, { on := 17, ground := Go.Ground.guard }], guard := some (17, true) }) (v := ?v123) rfl (by kernel_rfl) (by kernel_rfl) (by kernel_rfl) (fun _ _ _ h => h) (Or.inl ⟨by rfl, ?hy123⟩) (held_start y4) ?r123
            case hy123 =>
              intro w' hSw
              have hq := hSw.1
              clear hSw
              go_simp
              with_reducible rfl
            try simp only [Act.put, List.setIfInBounds_toArray, List.set_cons_zero, List.set_cons_succ]
            refine wpAnyH_take (i := 20) (oi := { dst := some 145, op := Go.Op.pick (Go.Operand.tmp 142) (Go.Operand.tmp 144) (Go.Operand.const (Go.Value.bool false)), type := 4, pos := "outright.go:145", after := #[{ on := 17, ground := Go.Ground.data }, { on := 19, ground := Go.Ground.data }, { on := 14, ground := Go.Ground.guard }], guard := some (14, false) }) (v := ?v124) rfl (by kernel_rfl) (by kernel_rfl) (by kernel_rfl) (fun _ _ _ h => h) (Or.inl ⟨by rfl, ?hy124⟩) (held_start y4) ?r124
            case hy124 =>
              intro w' hSw
              have hq := hSw.1
              clear hSw
              go_simp
              with_reducible rfl
            try simp only [Act.put, List.setIfInBounds_toArray, List.set_cons_zero, List.set_cons_succ]
            refine wpAnyH_take (i := 21) (oi := { dst := some 146, op := Go.Op.pick (Go.Operand.tmp 139) (Go.Operand.const (Go.Value.bool true)) (Go.Operand.tmp 145), type := 4, pos := "outright.go:145", after := #[{ on := 14, ground := Go.Ground.data }, { on := 20, ground := Go.Ground.data }], guard := none }) (v := ?v125) rfl (by kernel_rfl) (by kernel_rfl) (by kernel_rfl) (fun _ _ _ h => h) (Or.inl ⟨by rfl, ?hy125⟩) (held_start y4) ?r125
            case hy125 =>
              intro w' hSw
              have hq := hSw.1
              clear hSw
              go_simp
              with_reducible rfl
            try simp only [Act.put, List.setIfInBounds_toArray, List.set_cons_zero, List.set_cons_succ]
            refine wpAnyH_take (i := 22) (oi := { dst := some 147, op := Go.Op.move (Go.Operand.tmp 146), type := 4, pos := "outright.go:145", after := #[{ on := 21, ground := Go.Ground.data }, { on := 17, ground := Go.Ground.chain }], guard := none }) (v := ?v126) rfl (by kernel_rfl) (by kernel_rfl) (by kernel_rfl) (fun _ _ _ h => h) (Or.inl ⟨by rfl, ?hy126⟩) (held_start y4) ?r126
            case hy126 =>
              intro w' hSw
              have hq := hSw.1
              clear hSw
              go_simp
              with_reducible rfl
            try simp only [Act.put, List.setIfInBounds_toArray, List.set_cons_zero, List.set_cons_succ]
            refine wpAnyH_take (i := 23) (oi := { dst := some 148, op := Go.Op.load 51 (Go.Operand.tmp 19), type := 51, pos := "outright.go:145", after := #[{ on := 22, ground := Go.Ground.guard }], guard := some (22, false) }) (v := ?v127) rfl (by kernel_rfl) (by kernel_rfl) (by kernel_rfl) (fun _ _ _ h => h) (Or.inl ⟨by rfl, ?hy127⟩) (held_start y4) ?r127
            case hy127 =>
              intro w' hSw
              have hq := hSw.1
              clear hSw
              go_simp
              with_reducible rfl
            try simp only [Act.put, List.setIfInBounds_toArray, List.set_cons_zero, List.set_cons_succ]
            refine wpAnyH_take (i := 24) (oi := { dst := some 149, op := Go.Op.move (Go.Operand.tmp 27), type := 3, pos := "outright.go:145", after := #[{ on := 22, ground := Go.Ground.guard }], guard := some (22, false) }) (v := ?v128) rfl (by kernel_rfl) (by kernel_rfl) (by kernel_rfl) (fun _ _ _ h => h) (Or.inl ⟨by rfl, ?hy128⟩) (held_start y4) ?r128
            case hy128 =>
              intro w' hSw
              have hq := hSw.1
              clear hSw
              go_simp
              with_reducible rfl
            try simp only [Act.put, List.setIfInBounds_toArray, List.set_cons_zero, List.set_cons_succ]
            refine wpAnyH_ready (rs := [25]) (by kernel_rfl) (by simp) ?_
            refine AllReadyH.cons rfl (fun K hK => ?_) AllReadyH.nil
            go_simp
            refine (contains_yes ⟨s0, s1⟩ tv HF1.out _).mono ?_
            rintro e w129 ⟨rfl, hBw129⟩
            have hSw129 := held_step hBw129 (held_start y4)
            refine hK.out _ _ hSw129 (fun _ => ?_)
            clear hK K
            try simp only [Act.put, List.setIfInBounds_toArray, List.set_cons_zero, List.set_cons_succ]
            refine wpAnyH_take (i := 26) (oi := { dst := some 151, op := Go.Op.unOp Go.UnOp.not 4 (Go.Operand.tmp 150), type := 4, pos := "outright.go:145", after := #[{ on := 25, ground := Go.Ground.data }, { on := 22, ground := Go.Ground.guard }], guard := some (22, false) }) (v := ?v130) rfl (by kernel_rfl) (by kernel_rfl) (by kernel_rfl) (fun _ _ _ h => h) (Or.inl ⟨by rfl, ?hy130⟩) hSw129 ?r130
            case hy130 =>
              intro w' hSw
              have hq := hSw.1
              clear hSw
              go_simp
              with_reducible rfl
            try simp only [Act.put, List.setIfInBounds_toArray, List.set_cons_zero, List.set_cons_succ]
            refine wpAnyH_take (i := 27) (oi := { dst := some 152, op := Go.Op.pick (Go.Operand.tmp 147) (Go.Operand.const (Go.Value.bool true)) (Go.Operand.tmp 151), type := 4, pos := "outright.go:145", after := #[{ on := 22, ground := Go.Ground.data }, { on := 26, ground := Go.Ground.data }], guard := none }) (v := ?v131) rfl (by kernel_rfl) (by kernel_rfl) (by kernel_rfl) (fun _ _ _ h => h) (Or.inl ⟨by rfl, ?hy131⟩) hSw129 ?r131
            case hy131 =>
              intro w' hSw
              have hq := hSw.1
              clear hSw
              go_simp
              with_reducible rfl
            try simp only [Act.put, List.setIfInBounds_toArray, List.set_cons_zero, List.set_cons_succ]
            refine wpAnyH_take (i := 28) (oi := { dst := some 153, op := Go.Op.move (Go.Operand.tmp 152), type := 4, pos := "outright.go:145", after := #[{ on := 27, ground := Go.Ground.data }, { on := 25, ground := Go.Ground.chain }], guard := none }) (v := ?v132) rfl (by kernel_rfl) (by kernel_rfl) (by kernel_rfl) (fun _ _ _ h => h) (Or.inl ⟨by rfl, ?hy132⟩) hSw129 ?r132
            case hy132 =>
              intro w' hSw
              have hq := hSw.1
              clear hSw
              go_simp
              with_reducible rfl
            try simp only [Act.put, List.setIfInBounds_toArray, List.set_cons_zero, List.set_cons_succ]
            refine wpAnyH_take (i := 29) (oi := { dst := some 154, op := Go.Op.load 51 (Go.Operand.tmp 21), type := 51, pos := "outright.go:145", after := #[{ on := 28, ground := Go.Ground.guard }], guard := some (28, false) }) (v := ?v133) rfl (by kernel_rfl) (by kernel_rfl) (by kernel_rfl) (fun _ _ _ h => h) (Or.inl ⟨by rfl, ?hy133⟩) hSw129 ?r133
            case hy133 =>
              intro w' hSw
              have hq := hSw.1
              clear hSw
              go_simp
              with_reducible rfl
            try simp only [Act.put, List.setIfInBounds_toArray, List.set_cons_zero, List.set_cons_succ]
            refine wpAnyH_take (i := 30) (oi := { dst := some 155, op := Go.Op.move (Go.Operand.tmp 8), type := 23, pos := "outright.go:145", after := #[{ on := 28, ground := Go.Ground.guard }], guard := some (28, false) }) (v := ?v134) rfl (by kernel_rfl) (by kernel_rfl) (by kernel_rfl) (fun _ _ _ h => h) (Or.inl ⟨by rfl, ?hy134⟩) hSw129 ?r134
            case hy134 =>
              intro w' hSw
              have hq := hSw.1
              clear hSw
              go_simp
              with_reducible rfl
            try simp only [Act.put, List.setIfInBounds_toArray, List.set_cons_zero, List.set_cons_succ]
            refine wpAnyH_take (i := 31) (oi := { dst := some 156, op := Go.Op.move (Go.Operand.tmp 18), type := 3, pos := "outright.go:145", after := #[{ on := 28, ground := Go.Ground.guard }], guard := some (28, false) }) (v := ?v135) rfl (by kernel_rfl) (by kernel_rfl) (by kernel_rfl) (fun _ _ _ h => h) (Or.inl ⟨by rfl, ?hy135⟩) hSw129 ?r135
            case hy135 =>
              intro w' hSw
              have hq := hSw.1
              clear hSw
              go_simp
              with_reducible rfl
            try simp only [Act.put, List.setIfInBounds_toArray, List.set_cons_zero, List.set_cons_succ]
            refine wpAnyH_take (i := 32) (oi := { dst := some 157, op := Go.Op.indexAddr 23 (Go.Operand.tmp 155) (Go.Operand.tmp 156), type := 0, pos := "outright.go:145", after := #[{ on := 30, ground := Go.Ground.data }, { on := 31, ground := Go.Ground.data }, { on := 28, ground := Go.Ground.guard }], guard := some (28, false) }) (v := ?v136) rfl (by kernel_rfl) (by kernel_rfl) (by kernel_rfl) (fun _ _ _ h => h) (Or.inl ⟨by rfl, ?hy136⟩) hSw129 ?r136
            case hy136 =>
              intro w' hSw
              have hq := hSw.1
              clear hSw
              go_simp
              with_reducible rfl
            try simp only [Act.put, List.setIfInBounds_toArray, List.set_cons_zero, List.set_cons_succ]
            refine wpAnyH_take (i := 33) (oi := { dst := some 158, op := Go.Op.load 3 (Go.Operand.tmp 157), type := 3, pos := "outright.go:145", after := #[{ on := 32, ground := Go.Ground.data }, { on := 28, ground := Go.Ground.guard }], guard := some (28, false) }) (v := ?v137) rfl (by kernel_rfl) (by kernel_rfl) (by kernel_rfl) (fun _ _ _ h => h) (Or.inl ⟨by rfl, ?hy137⟩) hSw129 ?r137
            case hy137 =>
              intro w' hSw
              have hq := hSw.1
              clear hSw
              go_simp
              with_reducible rfl
            try simp only [Act.put, List.setIfInBounds_toArray, List.set_cons_zero, List.set_cons_succ]
            refine wpAnyH_ready (rs := [34]) (by kernel_rfl) (by simp) ?_
            refine AllReadyH.cons rfl (fun K hK => ?_) AllReadyH.nil
            go_simp
            refine (contains_yes ⟨u0, u1⟩ xv HF2.out _).mono ?_
            rintro e w138 ⟨rfl, hBw138⟩
            have hSw138 := held_step hBw138 hSw129
            refine hK.out _ _ hSw138 (fun _ => ?_)
            clear hK K
            try simp only [Act.put, List.setIfInBounds_toArray, List.set_cons_zero, List.set_cons_succ]
            refine wpAnyH_take (i := 35) (oi := { dst := some 160, op := Go.Op.unOp Go.UnOp.not 4 (Go.Operand.tmp 159), type := 4, pos := "outright.go:145", after := #[{ on := 34, ground := Go.Ground.data }, { on := 28, ground := Go.Ground.guard }], guard := some (28, false) }) (v := ?v139) rfl (by kernel_rfl) (by kernel_rfl) (by kernel_rfl) (fun _ _ _ h => h) (Or.inl ⟨by rfl, ?hy139⟩) hSw138 ?r139
            case hy139 =>
              intro w' hSw
              have hq := hSw.1
              clear hSw
              go_simp
              with_reducible rfl
            try simp only [Act.put, List.setIfInBounds_toArray, List.set_cons_zero, List.set_cons_succ]
            refine wpAnyH_take (i := 36) (oi := { dst := some 161, op := Go.Op.pick (Go.Operand.tmp 153) (Go.Operand.const (Go.Value.bool true)) (Go.Operand.tmp 160), type := 4, pos := "outright.go:145", after := #[{ on := 28, ground := Go.Ground.data }, { on := 35, ground := Go.Ground.data }], guard := none }) (v := ?v140) rfl (by kernel_rfl) (by kernel_rfl) (by kernel_rfl) (fun _ _ _ h => h) (Or.inl ⟨by rfl, ?hy140⟩) hSw138 ?r140
            case hy140 =>
              intro w' hSw
              have hq := hSw.1
              clear hSw
              go_simp
              with_reducible rfl
            try simp only [Act.put, List.setIfInBounds_toArray, List.set_cons_zero, List.set_cons_succ]
            refine wpAnyH_done (by kernel_rfl) ?_ _
            show R _ _
            rw [HR.out]
            simp only [Act.put, List.setIfInBounds_toArray, List.set_cons_zero, List.set_cons_succ]
            exact ⟨⟨_, _, _, _, _, _, _, _, _, _, _, _, _, _, _, _, _, _, _, _, _, _, _, _, _, _, _, _, _, _, _, _, _, _, _, _, rfl⟩, hSw138⟩
          case rest =>
            intro a' y5 hra
            rw [HR.out] at hra
            clear HR
            obtain ⟨⟨u125, u126, u127, u128, u129, u130, u131, u132, u133, u134, u135, u136, u137, u138, u139, u140, u141, u142, u143, u144, u145, u146, u147, u148, u149, u150, u151, u152, u153, u154, u155, u156, u157, u158, u159, u160, rfl⟩, hHE⟩ := hra
            subst hA
            try simp only [Act.put, List.setIfInBounds_toArray, List.set_cons_zero, List.set_cons_succ]
            have hB5 := hHE.2.2
            have rB5 := (hB5.block _ lB).trans RBy.out
            have q53 := cell_of_row y5 _ 3 _ _ _ rB5
            simp only [List.getElem?_toArray, List.getElem?_cons_zero, List.getElem?_cons_succ] at q53
            have HBY := Lib.hid (HB4.out.trans (hB5.mono HB4.out.size))
            clear qS0 qS1 qU0 qU1 qd qr qw hHE hB5 rB5
            by_cases hr : tv < b.rule
            · exact absurd (HF5.out hr).1 (by omega)
            · have hrg : b.rule ≤ tv := by omega
              go_wp2_with fail
              go_roundw
              case rel => exact ⟨k + 1, by omega, by go_num, HBY.out⟩
              case measure => simp [intOf]; omega
    · obtain rfl : k = b.secs.length := by omega
      have qB0 := cell_of_row wr _ 0 _ _ _ rB
      have qB1 := cell_of_row wr _ 1 _ _ _ rB
      have qB2 := cell_of_row wr _ 2 _ _ _ rB
      have qB3 := cell_of_row wr _ 3 _ _ _ rB
      have qB4 := cell_of_row wr _ 4 _ _ _ rB
      simp only [List.getElem?_toArray, List.getElem?_cons_zero, List.getElem?_cons_succ] at qB0 qB1 qB2 qB3 qB4
      have HXX := Lib.hid (HBU.out.trans ((HB8.out.trans (hb_r.mono HB8.out.size)).mono HBU.out.size))
      clear hb_r rB rX
      go_wp2_with fail
      refine (FORGE.out _ HXX.out).mono ?_
      rintro e x6 ⟨rfl, hB6⟩
      have HB := Lib.hid hB6
      clear hB6
      go_wp2_with fail
      go_ret
      exact ⟨rfl, HB.out⟩

end Go.Proofs.YtkfahochpnggbaaGreat

/- The statement of prowlaw01.ChainTrue, proved: for every book, any list of numbers and any two numbers the call returns true, and each argument reads as it did. -/
namespace Go.Proofs.YtkfahochpnggbaaGreat
open Go.ChangeShapes Go.WideShapes Go.ChangeAt Go.RowKit

section
open Go.Deep
variable {H : Type} {enc : TypeId × Value → H} {w : World} {base : Nat} {spare : Nat → Bool} {held : Bool}
set_option maxRecDepth 100000 in
/-- A list of ints that came in. -/
theorem open_list {r : Reach} {b0 : Nat} {v : Value} {d : DataW H} {p : List MemPlace} (hv : Value.okWide Tryz.prog w r b0 23 v) (h : DataW.Trod enc Tryz.prog w base spare held 23 v d p) :
    ∃ l : List Int, Sl w w.heap.size 1 v l.length (l.map I) := by
  obtain ⟨fuel, hf⟩ := h
  have hc : v.cells.toList = [v] := by
    cases v <;> first | rfl | (exfalso; simp [Value.okWide, Tryz.underlying23, Cell.okWide, Cell.ok] at hv)
  rw [hc] at hf
  exact book_ints hf
end

set_option maxRecDepth 100000 in
theorem chainTrue_lifted (os : Os) (started : os.Started) (H : Type) (enc : TypeId × Value → H) :
    ReturnsInHanded {} Tryz.checked os 6 .any (Rows.chainTrueSpec.pre6 enc Tryz.prog Tryz.f6 Rows.chainTrueRow.domain false) (Rows.chainTrueSpec.post enc Tryz.prog Tryz.f6 false true false false) := by
  refine returnsInHanded_of_change (C := Tryz.checked) knob_own started (by kernel_rfl) Tryz.func6
    (ChangeSpec.witness6 (enc := enc) (C := Tryz.checked) false ⟨#[], #[.agg #[.slice none 0 0, .slice none 0 0, .slice none 0 0, .int .i64 0, .int .i64 0], .slice none 0 0, .agg #[.int .i64 0, .int .i64 0]], []⟩ 8 (by kernel_rfl) (by kernel_rfl) (by kernel_rfl) (by kernel_rfl)) ?_
  intro W base args ds gs before hval0 hW hcnd _
  have hval : ∀ (j : Nat) t v, Tryz.f6.params[j]? = some t → args[j]? = some v → Value.okWide Tryz.prog W .any base t v := hval0
  have hW' := hW
  obtain ⟨p, q, hA0, hV, rfl, hfz, hnd⟩ := hW
  have hA : DataW.TrodAll enc Tryz.prog W 0 (fun _ => true) true Tryz.f6.params.toList args.toList ds p := hA0
  rw [Tryz.params6] at hA hval
  obtain ⟨v0, v1, v2, d0, d1, d2, p0, p1, p2, rfl, rfl, rfl, h0, h1, h2⟩ := trodAll_three hA
  obtain ⟨rfl, rfl⟩ := trodVars_none hV
  clear hA0 hval0
  simp only [List.append_nil] at hW'
  have hlt := hW'.lt
  obtain ⟨b, S, T, V, rfl, hRB⟩ := open_book (hval 0 26 v0 rfl rfl) h0
  obtain ⟨bits, hbits⟩ := open_list (hval 1 23 v1 rfl rfl) h1
  obtain ⟨n0, n1, rfl⟩ := open_two (hval 2 27 v2 rfl rfl) h2
  refine (ChainTrue_any b S T V v1 bits n0 n1 W hRB hbits).mono fun e W' ⟨he, hb⟩ => ?_
  subst he
  refine ⟨_, rfl, post_kept (pa := p0 ++ (p1 ++ p2)) (pv := []) hW' (fun _ _ _ => trodAll_mk1 (shut_bool Tryz.underlying4 _)) (fun sp hsp => trodAll_mk3 ?_ ?_ ?_) (fun _ _ => rfl) (by simp) hb (ok_one (by kernel_rfl) rfl (okWide_bool_mk Tryz.underlying4 _))⟩
  · exact WideElems.Trod_stays laid_out (by kernel_rfl) (of_decide_eq_true (by kernel_rfl)) h0 (fun x hx => hb.same (hlt x (List.mem_append_left _ (List.mem_append_left _ hx)))) (fun x hx => hsp x (List.mem_append_left _ (List.mem_append_left _ hx)))
  · exact WideElems.Trod_stays laid_out (by kernel_rfl) (of_decide_eq_true (by kernel_rfl)) h1 (fun x hx => hb.same (hlt x (List.mem_append_left _ (List.mem_append_right _ hx)))) (fun x hx => hsp x (List.mem_append_left _ (List.mem_append_right _ hx)))
  · exact WideElems.Trod_stays laid_out (by kernel_rfl) (of_decide_eq_true (by kernel_rfl)) h2 (fun x hx => hb.same (hlt x (List.mem_append_right _ hx))) (fun x hx => hsp x (List.mem_append_right _ hx))

theorem chainTrue_over : Rows.chainTrueRow.holds Tryz.pinned (OpenSpec.ofChange Rows.chainTrueSpec) :=
  OpenClaim.holds_of_wide 6 Tryz.f6 rfl rfl rfl rfl rfl rfl rfl ⟨rfl, rfl, rfl, rfl, rfl⟩ rfl rfl rfl rfl rfl (by kernel_rfl) Tryz.func6 (by kernel_rfl)
    (of_decide_eq_true (by kernel_rfl)) (by unfold Func.isWrapper; first | (rw [if_pos (by decide +kernel)]; kernel_rfl) | (rw [if_neg (by decide +kernel)]; exact ⟨rfl, rfl⟩))
    (fun os started H enc _ => chainTrue_lifted os started H enc)

/-- The statement. -/
theorem chainTrue_holds : Rows.ChainTrueSaid := chainTrue_over

end Go.Proofs.YtkfahochpnggbaaGreat
