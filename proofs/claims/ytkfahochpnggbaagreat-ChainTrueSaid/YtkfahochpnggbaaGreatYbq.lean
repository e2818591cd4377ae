/- Texts on the program that the proof leans on, part 43. -/
import Derived.Test.YtkfahochpnggbaaGreatYbn
import Derived.Test.YtkfahochpnggbaaGreatYbo
import Derived.Test.YtkfahochpnggbaaGreatYbp
set_option linter.unusedVariables false
set_option linter.unusedSimpArgs false

/- Contract of ChainPlain: it returns true, whatever the book and the numbers. -/
namespace Go.Proofs.YtkfahochpnggbaaGreat
open Go.RowKit

set_option maxRecDepth 100000 in
set_option maxHeartbeats 4000000 in
theorem ChainPlain_any (b : Ch.Bk) (S T V : Value) (n0 n1 : Int) (w : World) (hb : RB w w.heap.size b S T V) :
    Calls Tryz.prog 13 #[vBk S T V b.rule b.days, .agg #[I n0, I n1]] w fun e w' => e = .returned (.bool true) ∧ Below w.heap.size w w' := by
  obtain ⟨A0, k0, rfl⟩ := hb.secs.form
  obtain ⟨A1, k1, rfl⟩ := hb.turns.form
  obtain ⟨A2, k2, rfl⟩ := hb.svs.form
  obtain ⟨o, ho⟩ : ∃ o : Obj, o = .cells #[.slice A0 b.secs.length k0, .slice A1 b.turns.length k1, .slice A2 b.svs.length k2, I b.rule, I b.days] 26 := ⟨_, rfl⟩
  obtain ⟨o2, ho2⟩ : ∃ o : Obj, o = .cells #[I n0, I n1] 27 := ⟨_, rfl⟩
  obtain ⟨W0, hW0⟩ : ∃ W : World, W = (w.alloc o).alloc o2 := ⟨_, rfl⟩
  have hb0 : Below w.heap.size w W0 := by rw [hW0]; exact ((Below.refl _ _).alloc (Nat.le_refl _) _).alloc (by simp) _
  have rB : W0.heap[w.heap.size]? = some o := by rw [hW0]; exact (Below.heap_alloc _ _ _ (by simp)).trans (heap_at _ _ rfl)
  have rN : W0.heap[w.heap.size + 1]? = some o2 := by rw [hW0]; exact heap_at _ _ (by simp)
  have lB : w.heap.size < W0.heap.size := by rw [hW0]; simp; omega
  have lN : w.heap.size + 1 < W0.heap.size := by rw [hW0]; simp
  go_enter Tryz.func13, Tryz.ntmps13
  go_wp2_with fail
  rw [← ho, ← ho2, ← hW0]
  subst ho ho2
  clear hW0
  have hRB := (hb.below hb0 (Nat.le_refl _)).more hb0.size
  refine (sound_any b _ _ _ W0 hRB).mono ?_
  rintro e w1 ⟨rfl, hB1⟩
  replace rB := (hB1.block _ lB).trans rB
  replace lB := Nat.lt_of_lt_of_le lB hB1.size
  replace rN := (hB1.block _ lN).trans rN
  replace lN := Nat.lt_of_lt_of_le lN hB1.size
  have hb1 := hb0.trans (hB1.mono hb0.size)
  have hRB1 := (hb.below hb1 (Nat.le_refl _)).more hb1.size
  clear hRB hb0 hB1
  by_cases hck : Ch.check b = 0
  case neg =>
    rw [decide_eq_false hck]
    clear rB rN lB lN
    go_wp2_with fail
    refine (forged_any _).mono ?_
    rintro e w2 ⟨rfl, hB2⟩
    have HB := Lib.hid (hb1.trans (hB2.mono hb1.size))
    clear hB2 hb1 hRB1 hck
    go_wp2_with fail
    go_ret
    exact ⟨rfl, HB.out⟩
  rw [decide_eq_true hck]
  have hval : Ch.valid b = true := by
    unfold Ch.check at hck
    split at hck
    · assumption
    · omega
  have hn := Ch.secs_le hval
  have hdy := Ch.days_le hval
  have hrl : 0 ≤ b.rule ∧ b.rule ≤ 200 := by have := (Ch.sound_facts hck).2.2.1; simp [Ch.between] at this; omega
  obtain ⟨i, hi⟩ : ∃ i : Nat, (i : Int) = n0 % b.secs.length := ⟨_, Int.toNat_of_nonneg (Int.emod_nonneg _ (by omega))⟩
  obtain ⟨d, hd⟩ : ∃ d : Nat, (d : Int) = n1 % (b.days + 1) := ⟨_, Int.toNat_of_nonneg (Int.emod_nonneg _ (by omega))⟩
  have hi1 : i < b.secs.length := by have := Int.emod_lt_of_pos n0 (show (0 : Int) < b.secs.length by omega); omega
  have hd1 : (d : Int) ≤ b.days := by have := Int.emod_lt_of_pos n1 (show (0 : Int) < b.days + 1 by omega); omega
  have hT := Ch.plain_thick hval hi1 hd1
  have hTe : Ch.studyE (Ch.plain b) (Ch.isSection (Ch.plain b) i && Ch.isDay (Ch.plain b) d) = 0 := Ch.studyE_ok (Ch.plain_valid hval) (by simp only [Ch.isSection, Ch.isDay, Bool.and_eq_true, decide_eq_true_eq]; exact ⟨⟨Int.natCast_nonneg _, Int.ofNat_lt.2 hi1⟩, Int.natCast_nonneg _, hd1⟩) (Ch.plain_some hval)
  have hWr := Ch.plain_wear hval hi1
  have hWe : Ch.studyE (Ch.plain b) (Ch.isSection (Ch.plain b) i) = 0 := Ch.studyE_ok (Ch.plain_valid hval) (by simp only [Ch.isSection, Bool.and_eq_true, decide_eq_true_eq]; exact ⟨Int.natCast_nonneg _, Int.ofNat_lt.2 hi1⟩) (Ch.plain_some hval)
  have hTh := Ch.plain_thin hval hi1
  have hsf := Ch.sec_facts hval hi1
  obtain ⟨bl, off, kk, hSv, hbl, s0, s1, s2, s3⟩ := hRB1.sec hi1
  injection hSv with hA _ hkk
  subst hA hkk
  have hat : b.secs[i] = Ch.secAt b i := by rw [Ch.secAt, List.getD_eq_getElem?_getD, List.getElem?_eq_getElem hi1]; rfl
  rw [hat] at s0 s1 s2 s3
  obtain ⟨sec, hsec⟩ : ∃ sec, sec = Ch.secAt b i := ⟨_, rfl⟩
  rw [Ch.wantOf] at hTh
  rw [← hsec] at s0 s1 s2 s3 hT hWr hTh hsf
  obtain ⟨⟨a, c⟩, ⟨p, q⟩⟩ := sec
  simp only at s0 s1 s2 s3 hT hWr hTh hsf
  clear hsec hat hck hval
  have hii : (i : Int) < b.secs.length := by omega
  have qB0 := cell_of_row w1 _ 0 _ _ _ rB
  have qB1 := cell_of_row w1 _ 1 _ _ _ rB
  have qB2 := cell_of_row w1 _ 2 _ _ _ rB
  have qB3 := cell_of_row w1 _ 3 _ _ _ rB
  have qB4 := cell_of_row w1 _ 4 _ _ _ rB
  simp only [List.getElem?_toArray, List.getElem?_cons_zero, List.getElem?_cons_succ] at qB0 qB1 qB2 qB3 qB4
  go_wp2_with fail
  clear qB0 qB1 qB2 qB3 qB4
  refine name_world ?_
  intro W hW
  have hA0 : Below w1.heap.size w1 W := by rw [hW]; exact (Below.refl _ _).alloc (Nat.le_refl _) _
  have rX : W.heap[w1.heap.size]? = some (.cells #[.slice (some ⟨bl, off, none⟩) b.secs.length k0, .slice none 0 0, .slice none 0 0, I b.rule, I b.days] 26 (0, 0)) := by rw [hW]; exact heap_at _ _ rfl
  have lX : w1.heap.size < W.heap.size := by rw [hW]; simp
  replace rB := (hA0.block _ lB).trans rB
  replace lB := Nat.lt_of_lt_of_le lB hA0.size
  replace rN := (hA0.block _ lN).trans rN
  replace lN := Nat.lt_of_lt_of_le lN hA0.size
  have hbW := hb1.trans (hA0.mono hb1.size)
  replace s0 := (hA0.cell (p := ⟨bl, off + i * 4, none⟩) hbl).trans s0
  replace s1 := (hA0.cell (p := ⟨bl, off + i * 4 + 1, none⟩) hbl).trans s1
  replace s2 := (hA0.cell (p := ⟨bl, off + i * 4 + 2, none⟩) hbl).trans s2
  replace s3 := (hA0.cell (p := ⟨bl, off + i * 4 + 3, none⟩) hbl).trans s3
  have hblW := Nat.lt_of_lt_of_le hbl hA0.size
  clear hW hA0 hbl hRB1 hb1
  have hd1w : IntKind.i64.wrap (b.days + 1) = b.days + 1 := IntWalk.i64_in _ (by omega)
  have qB0 := cell_of_row W _ 0 _ _ _ rB
  have qB4 := cell_of_row W _ 4 _ _ _ rB
  simp only [List.getElem?_toArray, List.getElem?_cons_zero, List.getElem?_cons_succ] at qB0 qB4
  have qN0 := cell_of_row W _ 0 _ _ _ rN
  have qN1 := cell_of_row W _ 1 _ _ _ rN
  simp only [List.getElem?_toArray, List.getElem?_cons_zero, List.getElem?_cons_succ] at qN0 qN1
  go_region_held3 (fun w' => Held W w') (first | assumption | exact held_start _ | exact held_step (by assumption) (by assumption) | exact held_step (by assumption) (held_start _) | go_keep)
    (first | (go_at_call 27; refine (mod_any _ _ (by omega) (by omega) _).mono ?_; rintro e w2 ⟨rfl, hB2⟩))
  have hHE : Held W w2 := by assumption
  rw [← hi, ← hd]
  obtain ⟨u, hu⟩ : ∃ u : World, u = w2 := ⟨_, rfl⟩
  rw [← hu] at hHE ⊢
  clear hu hB2
  have hBu := hHE.2.2
  replace rB := (hBu.block _ lB).trans rB
  replace lB := Nat.lt_of_lt_of_le lB hBu.size
  replace rX := (hBu.block _ lX).trans rX
  replace lX := Nat.lt_of_lt_of_le lX hBu.size
  have hbu := hbW.trans (hBu.mono hbW.size)
  replace s0 := (hBu.cell (p := ⟨bl, off + i * 4, none⟩) hblW).trans s0
  replace s1 := (hBu.cell (p := ⟨bl, off + i * 4 + 1, none⟩) hblW).trans s1
  replace s2 := (hBu.cell (p := ⟨bl, off + i * 4 + 2, none⟩) hblW).trans s2
  replace s3 := (hBu.cell (p := ⟨bl, off + i * 4 + 3, none⟩) hblW).trans s3
  clear qB0 qB4 qN0 qN1 rN lN hHE hBu hbW hi hd hd1w hblW
  have qB0 := cell_of_row u _ 0 _ _ _ rB
  simp only [List.getElem?_toArray, List.getElem?_cons_zero, List.getElem?_cons_succ] at qB0
  have qX0 := cell_of_row u _ 0 _ _ _ rX
  have qX1 := cell_of_row u _ 1 _ _ _ rX
  have qX2 := cell_of_row u _ 2 _ _ _ rX
  have qX3 := cell_of_row u _ 3 _ _ _ rX
  have qX4 := cell_of_row u _ 4 _ _ _ rX
  simp only [List.getElem?_toArray, List.getElem?_cons_zero, List.getElem?_cons_succ] at qX0 qX1 qX2 qX3 qX4
  go_wp2_with fail
  have hSec := Lib.hid (show ∀ W', Below w.heap.size w W' → RB W' W'.heap.size (Ch.plain b) (.slice (some ⟨bl, off, none⟩) b.secs.length k0) (.slice none 0 0) (.slice none 0 0) from fun W' h => ⟨((hb.below h (Nat.le_refl _)).more h.size).secs, sl_nil _ _ _, sl_nil _ _ _⟩)
  clear hb
  clear s0 s1 s2 s3 qB0 qX0 qX1 qX2 qX3 qX4
  have hA1 : Below u.heap.size u (u.alloc (.cells #[.int .i64 a, .int .i64 c, .int .i64 p, .int .i64 q] 76)) := (Below.refl _ _).alloc (Nat.le_refl _) _
  have rY := heap_at u (.cells #[.int .i64 a, .int .i64 c, .int .i64 p, .int .i64 q] 76) rfl
  have lY : u.heap.size < (u.alloc (.cells #[.int .i64 a, .int .i64 c, .int .i64 p, .int .i64 q] 76)).heap.size := by simp
  replace rB := (hA1.block _ lB).trans rB
  replace lB := Nat.lt_of_lt_of_le lB hA1.size
  replace rX := (hA1.block _ lX).trans rX
  replace lX := Nat.lt_of_lt_of_le lX hA1.size
  have hbv := hbu.trans (hA1.mono hbu.size)
  clear hA1 hbu
  refine (Thick_any (Ch.plain b) _ _ _ i d _ (hSec.out _ hbv)).mono ?_
  rintro e w3 ⟨rfl, hB3⟩
  rw [hT, hTe]
  replace rB := (hB3.block _ lB).trans rB
  replace lB := Nat.lt_of_lt_of_le lB hB3.size
  replace rX := (hB3.block _ lX).trans rX
  replace lX := Nat.lt_of_lt_of_le lX hB3.size
  replace rY := (hB3.block _ lY).trans rY
  replace lY := Nat.lt_of_lt_of_le lY hB3.size
  have hb3 := hbv.trans (hB3.mono hbv.size)
  clear hB3 hbv hT hTe
  have qX0 := cell_of_row w3 _ 0 _ _ _ rX
  have qX1 := cell_of_row w3 _ 1 _ _ _ rX
  have qX2 := cell_of_row w3 _ 2 _ _ _ rX
  have qX3 := cell_of_row w3 _ 3 _ _ _ rX
  have qX4 := cell_of_row w3 _ 4 _ _ _ rX
  simp only [List.getElem?_toArray, List.getElem?_cons_zero, List.getElem?_cons_succ] at qX0 qX1 qX2 qX3 qX4
  go_wp2_with fail
  clear qX0 qX1 qX2 qX3 qX4
  obtain ⟨v3, hv3⟩ : ∃ W : World, W = w3.alloc (.cells #[.int .i64 (a - d * q), .int .i64 (c - d * p)] 51) := ⟨_, rfl⟩
  rw [← hv3]
  have hA2 : Below w3.heap.size w3 v3 := by rw [hv3]; exact (Below.refl _ _).alloc (Nat.le_refl _) _
  have rS : v3.heap[w3.heap.size]? = some (.cells #[.int .i64 (a - d * q), .int .i64 (c - d * p)] 51 (0, 0)) := by rw [hv3]; exact heap_at _ _ rfl
  have lS : w3.heap.size < v3.heap.size := by rw [hv3]; simp
  replace rB := (hA2.block _ lB).trans rB
  replace lB := Nat.lt_of_lt_of_le lB hA2.size
  replace rX := (hA2.block _ lX).trans rX
  replace lX := Nat.lt_of_lt_of_le lX hA2.size
  replace rY := (hA2.block _ lY).trans rY
  replace lY := Nat.lt_of_lt_of_le lY hA2.size
  have hbv := hb3.trans (hA2.mono hb3.size)
  clear hA2 hb3 hv3
  refine (Wear_any (Ch.plain b) _ _ _ i _ (hSec.out _ hbv)).mono ?_
  rintro e w4 ⟨rfl, hB3⟩
  rw [hWr, hWe]
  replace rB := (hB3.block _ lB).trans rB
  replace lB := Nat.lt_of_lt_of_le lB hB3.size
  replace rX := (hB3.block _ lX).trans rX
  replace lX := Nat.lt_of_lt_of_le lX hB3.size
  replace rY := (hB3.block _ lY).trans rY
  replace lY := Nat.lt_of_lt_of_le lY hB3.size
  replace rS := (hB3.block _ lS).trans rS
  replace lS := Nat.lt_of_lt_of_le lS hB3.size
  have hb4 := hbv.trans (hB3.mono hbv.size)
  clear hB3 hbv hWr hWe
  have qX0 := cell_of_row w4 _ 0 _ _ _ rX
  have qX1 := cell_of_row w4 _ 1 _ _ _ rX
  have qX2 := cell_of_row w4 _ 2 _ _ _ rX
  have qX3 := cell_of_row w4 _ 3 _ _ _ rX
  have qX4 := cell_of_row w4 _ 4 _ _ _ rX
  simp only [List.getElem?_toArray, List.getElem?_cons_zero, List.getElem?_cons_succ] at qX0 qX1 qX2 qX3 qX4
  go_wp2_with fail
  clear qX0 qX1 qX2 qX3 qX4
  obtain ⟨v4, hv4⟩ : ∃ W : World, W = w4.alloc (.cells #[.int .i64 p, .int .i64 q] 51) := ⟨_, rfl⟩
  rw [← hv4]
  have hA2 : Below w4.heap.size w4 v4 := by rw [hv4]; exact (Below.refl _ _).alloc (Nat.le_refl _) _
  have rV : v4.heap[w4.heap.size]? = some (.cells #[.int .i64 p, .int .i64 q] 51 (0, 0)) := by rw [hv4]; exact heap_at _ _ rfl
  have lV : w4.heap.size < v4.heap.size := by rw [hv4]; simp
  replace rB := (hA2.block _ lB).trans rB
  replace lB := Nat.lt_of_lt_of_le lB hA2.size
  replace rX := (hA2.block _ lX).trans rX
  replace lX := Nat.lt_of_lt_of_le lX hA2.size
  replace rY := (hA2.block _ lY).trans rY
  replace lY := Nat.lt_of_lt_of_le lY hA2.size
  replace rS := (hA2.block _ lS).trans rS
  replace lS := Nat.lt_of_lt_of_le lS hA2.size
  have hbv := hb4.trans (hA2.mono hb4.size)
  clear hA2 hb4 hv4
  obtain ⟨⟨R1, R2⟩, hR⟩ : ∃ R : Int × Int, R = Ch.thinR (Ch.plain b) i := ⟨_, rfl⟩
  refine (Thin_any (Ch.plain b) _ _ _ i _ (hSec.out _ hbv)).mono ?_
  rintro e w5 ⟨rfl, hB3⟩
  rw [← hR]
  replace rB := (hB3.block _ lB).trans rB
  replace lB := Nat.lt_of_lt_of_le lB hB3.size
  replace rX := (hB3.block _ lX).trans rX
  replace lX := Nat.lt_of_lt_of_le lX hB3.size
  replace rY := (hB3.block _ lY).trans rY
  replace lY := Nat.lt_of_lt_of_le lY hB3.size
  replace rS := (hB3.block _ lS).trans rS
  replace lS := Nat.lt_of_lt_of_le lS hB3.size
  replace rV := (hB3.block _ lV).trans rV
  replace lV := Nat.lt_of_lt_of_le lV hB3.size
  have hb5 := hbv.trans (hB3.mono hbv.size)
  rw [← hR] at hTh
  clear hB3 hbv hR rX lX hSec
  have hq1 : 0 ≤ (d : Int) * q ∧ (d : Int) * q ≤ 90 := ⟨Int.mul_nonneg (by omega) (by omega), by have := Int.mul_le_mul (show (d : Int) ≤ 30 by omega) (show q ≤ 3 by omega) (by omega) (by omega); omega⟩
  have hp1 : 0 ≤ (d : Int) * p ∧ (d : Int) * p ≤ 90 := ⟨Int.mul_nonneg (by omega) (by omega), by have := Int.mul_le_mul (show (d : Int) ≤ 30 by omega) (show p ≤ 3 by omega) (by omega) (by omega); omega⟩
  have mA : IntKind.i64.wrap ((d : Int) * q) = (d : Int) * q := IntWalk.i64_in _ (by omega)
  have mB : IntKind.i64.wrap ((d : Int) * p) = (d : Int) * p := IntWalk.i64_in _ (by omega)
  have mC : IntKind.i64.wrap (a - (d : Int) * q) = a - (d : Int) * q := IntWalk.i64_in _ (by omega)
  have mD : IntKind.i64.wrap (c - (d : Int) * p) = c - (d : Int) * p := IntWalk.i64_in _ (by omega)
  have HB5 := Lib.hid hb5
  have HTH := Lib.hid hTh
  clear hq1 hp1 hb5 hTh
  have qY0 := cell_of_row w5 _ 0 _ _ _ rY
  have qY1 := cell_of_row w5 _ 1 _ _ _ rY
  have qY2 := cell_of_row w5 _ 2 _ _ _ rY
  have qY3 := cell_of_row w5 _ 3 _ _ _ rY
  simp only [List.getElem?_toArray, List.getElem?_cons_zero, List.getElem?_cons_succ] at qY0 qY1 qY2 qY3
  have qS0 := cell_of_row w5 _ 0 _ _ _ rS
  have qS1 := cell_of_row w5 _ 1 _ _ _ rS
  simp only [List.getElem?_toArray, List.getElem?_cons_zero, List.getElem?_cons_succ] at qS0 qS1
  have qV0 := cell_of_row w5 _ 0 _ _ _ rV
  have qV1 := cell_of_row w5 _ 1 _ _ _ rV
  simp only [List.getElem?_toArray, List.getElem?_cons_zero, List.getElem?_cons_succ] at qV0 qV1
  go_wp2_with fail
  go_region_held3 (fun w' => Held w5 w') (first | assumption | exact held_start _ | exact held_step (by assumption) (by assumption) | exact held_step (by assumption) (held_start _) | go_keep)
    (first | (go_at_call 49; refine (range_any _ _ _).mono ?_; rintro e w6 ⟨rfl, hB2⟩))
  have hHE : Held w5 w6 := by assumption
  obtain ⟨u6, hu⟩ : ∃ u : World, u = w6 := ⟨_, rfl⟩
  rw [← hu] at hHE ⊢
  clear hu hB2
  have hBu := hHE.2.2
  replace rB := (hBu.block _ lB).trans rB
  replace lB := Nat.lt_of_lt_of_le lB hBu.size
  replace rY := (hBu.block _ lY).trans rY
  replace lY := Nat.lt_of_lt_of_le lY hBu.size
  have HB6 := Lib.hid (HB5.out.trans (hBu.mono HB5.out.size))
  clear HB5 qY0 qY1 qY2 qY3 qS0 qS1 qV0 qV1 rS lS rV lV hHE hBu mA mB mC mD
  have qB3 := cell_of_row u6 _ 3 _ _ _ rB
  have qB4 := cell_of_row u6 _ 4 _ _ _ rB
  simp only [List.getElem?_toArray, List.getElem?_cons_zero, List.getElem?_cons_succ] at qB3 qB4
  have qY0 := cell_of_row u6 _ 0 _ _ _ rY
  have qY3 := cell_of_row u6 _ 3 _ _ _ rY
  simp only [List.getElem?_toArray, List.getElem?_cons_zero, List.getElem?_cons_succ] at qY0 qY3
  have hd1w : IntKind.i64.wrap (b.days + 1) = b.days + 1 := IntWalk.i64_in _ (by omega)
  by_cases h1 : a < b.rule
  · have hTh := HTH.out
    rw [if_pos h1, if_neg (by omega)] at hTh
    injection hTh with e1 e2
    subst e1 e2
    have h2 : ¬ b.days < 0 := by omega
    clear HTH rB rY lB lY
    go_wp2_with fail
    refine (forged_any _).mono ?_
    rintro e w7 ⟨rfl, hB7⟩
    have HB7 := Lib.hid (HB6.out.trans (hB7.mono HB6.out.size))
    clear hB7
    go_wp2_with fail
    go_ret
    exact ⟨rfl, HB7.out⟩
  by_cases h2 : 0 < q
  · obtain ⟨k, hk⟩ : ∃ k : Nat, (k : Int) = (a - b.rule) / q := ⟨_, Int.toNat_of_nonneg (Int.ediv_nonneg (by omega) (by omega))⟩
    have hTh := HTH.out
    rw [if_neg h1, if_pos h2, ← hk] at hTh
    have hk1 : (k : Int) ≤ 200 := by rw [hk]; have := Int.ediv_le_self q (show 0 ≤ a - b.rule by omega); omega
    have hq0 : (q == 0) = false := by simp; omega
    have mE : IntKind.i64.wrap (a - b.rule) = a - b.rule := IntWalk.i64_in _ (by omega)
    have mF : (a - b.rule).tdiv q = (k : Int) := by rw [Int.tdiv_eq_ediv_of_nonneg (by omega), hk]
    have mG : IntKind.i64.wrap (k : Int) = k := IntWalk.i64_in _ (by omega)
    have mH : IntKind.i64.wrap ((k : Int) + 1) = (k : Int) + 1 := IntWalk.i64_in _ (by omega)
    clear HTH rB rY lB lY hk
    by_cases h3 : (k : Int) + 1 ≤ b.days
    · have hmin : min (b.days + 1) ((k : Int) + 1) = (k : Int) + 1 := by omega
      have h4 : ¬ b.days < (k : Int) + 1 := by omega
      have h5 : ¬ b.days + 1 < (k : Int) + 1 := by omega
      have h6 : (k : Int) + 1 < b.days + 1 := by omega
      rw [hmin, if_neg h4] at hTh
      injection hTh with e1 e2
      subst e1 e2
      go_wp2_with fail
      refine (forged_any _).mono ?_
      rintro e w7 ⟨rfl, hB7⟩
      have HB7 := Lib.hid (HB6.out.trans (hB7.mono HB6.out.size))
      clear hB7
      go_wp2_with fail
      go_ret
      exact ⟨rfl, HB7.out⟩
    · have hmin : min (b.days + 1) ((k : Int) + 1) = b.days + 1 := by omega
      have h4 : b.days < b.days + 1 := by omega
      have h6 : ¬ (k : Int) + 1 < b.days + 1 := by omega
      rw [hmin, if_pos h4] at hTh
      injection hTh with e1 e2
      subst e1 e2
      go_wp2_with fail
      refine (forged_any _).mono ?_
      rintro e w7 ⟨rfl, hB7⟩
      have HB7 := Lib.hid (HB6.out.trans (hB7.mono HB6.out.size))
      clear hB7
      go_wp2_with fail
      go_ret
      exact ⟨rfl, HB7.out⟩
  · have hTh := HTH.out
    have h4 : b.days < b.days + 1 := by omega
    rw [if_neg h1, if_neg h2, if_pos h4] at hTh
    injection hTh with e1 e2
    subst e1 e2
    clear HTH rB rY lB lY
    go_wp2_with fail
    refine (forged_any _).mono ?_
    rintro e w7 ⟨rfl, hB7⟩
    have HB7 := Lib.hid (HB6.out.trans (hB7.mono HB6.out.size))
    clear hB7
    go_wp2_with fail
    go_ret
    exact ⟨rfl, HB7.out⟩

end Go.Proofs.YtkfahochpnggbaaGreat
