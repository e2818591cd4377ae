/- Texts on the program that the proof leans on, part 36. -/
import Derived.Test.YtjgpghaofhcfnaaYbe
import Derived.Test.YtjgpghaofhcfnaaYbc
import Derived.Test.YtjgpghaofhcfnaaYbf
set_option linter.unusedVariables false
set_option linter.unusedSimpArgs false

/- Contract of LandingMost: it returns true, whatever the book and the numbers. -/
namespace Go.Proofs.Ytjgpghaofhcfnaa
open Go.RowKit

set_option maxRecDepth 100000 in
set_option maxHeartbeats 4000000 in
theorem LandingMost_any (b : Ld.Bk) (T D : Value) (n0 n1 n2 : Int) (w : World) (hb : RB w w.heap.size b T D) :
    Calls Try.prog 6 #[vBk T D b, .agg #[I n0, I n1, I n2]] w fun e w' => e = .returned (.bool true) ∧ Below w.heap.size w w' := by
  obtain ⟨A0, k0, rfl⟩ := hb.tides.form
  obtain ⟨A1, k1, rfl⟩ := hb.sounds.form
  obtain ⟨o, ho⟩ : ∃ o : Obj, o = .cells (rBk (.slice A0 b.tides.length k0) (.slice A1 b.sounds.length k1) b) 30 := ⟨_, rfl⟩
  obtain ⟨o2, ho2⟩ : ∃ o : Obj, o = .cells #[I n0, I n1, I n2] 32 := ⟨_, rfl⟩
  obtain ⟨W0, hW0⟩ : ∃ W : World, W = (w.alloc o).alloc o2 := ⟨_, rfl⟩
  have hb0 : Below w.heap.size w W0 := by rw [hW0]; exact ((Below.refl _ _).alloc (Nat.le_refl _) _).alloc (by simp) _
  have rB : W0.heap[w.heap.size]? = some o := by rw [hW0]; exact (Below.heap_alloc _ _ _ (by simp)).trans (heap_at _ _ rfl)
  have rN : W0.heap[w.heap.size + 1]? = some o2 := by rw [hW0]; exact heap_at _ _ (by simp)
  have lB : w.heap.size < W0.heap.size := by rw [hW0]; simp; omega
  have lN : w.heap.size + 1 < W0.heap.size := by rw [hW0]; simp
  go_enter Try.func6, Try.ntmps6
  go_wp2_with fail
  rw [← ho, ← ho2, ← hW0]
  subst ho ho2
  clear hW0
  have hRB := (hb.below hb0 (Nat.le_refl _)).more hb0.size
  refine (sound_any b _ _ W0 hRB).mono ?_
  rintro e w1 ⟨rfl, hB1⟩
  replace rB := (hB1.block _ lB).trans rB
  replace lB := Nat.lt_of_lt_of_le lB hB1.size
  replace rN := (hB1.block _ lN).trans rN
  replace lN := Nat.lt_of_lt_of_le lN hB1.size
  have hb1 := hb0.trans (hB1.mono hb0.size)
  clear hRB hb0 hB1
  by_cases hck : Ld.check b = 0
  case neg =>
    rw [decide_eq_false hck]
    clear rB rN lB lN
    go_wp2_with fail
    refine (moored_any _).mono ?_
    rintro e w2 ⟨rfl, hB2⟩
    have HB2 := Lib.hid (hb1.trans (hB2.mono hb1.size))
    clear hB2
    go_wp2_with fail
    go_ret
    exact ⟨rfl, HB2.out⟩
  rw [decide_eq_true hck]
  have hval : Ld.valid b = true := by
    unfold Ld.check at hck
    split at hck
    · assumption
    · omega
  have hsz := Ld.sized_bd (Ld.valid_parts hval).1
  have HRB := Lib.hid (show ∀ W', Below w.heap.size w W' → RB W' W'.heap.size b (.slice A0 b.tides.length k0) (.slice A1 b.sounds.length k1) from fun W' h => (hb.below h (Nat.le_refl _)).more h.size)
  clear hb hck
  obtain ⟨q, hq⟩ : ∃ q : Nat, (q : Int) = n1 % b.tides.length := ⟨_, Int.toNat_of_nonneg (Int.emod_nonneg _ (by omega))⟩
  have hq1 : q < b.tides.length := by have := Int.emod_lt_of_pos n1 (show (0 : Int) < b.tides.length by omega); omega
  obtain ⟨m, hm⟩ : ∃ m : Nat, (m : Int) = n0 % 2 := ⟨_, Int.toNat_of_nonneg (Int.emod_nonneg _ (by omega))⟩
  have hm1 : m = 0 ∨ m = 1 := by have := Int.emod_lt_of_pos n0 (show (0 : Int) < 2 by omega); omega
  obtain ⟨y, hy⟩ : ∃ y : Int, y = n2 % 201 := ⟨_, rfl⟩
  have hy0 : 0 ≤ y := by have := Int.emod_nonneg n2 (show (201 : Int) ≠ 0 by omega); omega
  have hy1 : y ≤ 200 := by have := Int.emod_lt_of_pos n2 (show (0 : Int) < 201 by omega); omega
  have HVAL := Lib.hid hval
  have HSZ := Lib.hid hsz
  have hs1 : (0 : Int) < b.tides.length := by omega
  have hs2 : (b.tides.length : Int) ≤ 1000 := by omega
  clear hval hsz
  have qB0 := cell_of_row w1 _ 0 _ _ _ rB
  simp only [List.getElem?_toArray, List.getElem?_cons_zero, List.getElem?_cons_succ] at qB0
  have qN0 := cell_of_row w1 _ 0 _ _ _ rN
  have qN1 := cell_of_row w1 _ 1 _ _ _ rN
  have qN2 := cell_of_row w1 _ 2 _ _ _ rN
  simp only [List.getElem?_toArray, List.getElem?_cons_zero, List.getElem?_cons_succ] at qN0 qN1 qN2
  go_wp2_with fail
  go_region_held3 (fun w' => Held w1 w') (first | assumption | exact held_start _ | exact held_step (by assumption) (by assumption) | exact held_step (by assumption) (held_start _) | go_keep)
    (first | (go_at_call 16; refine (mod_any _ _ (by omega) (by omega) _).mono ?_; rintro e w2 ⟨rfl, hB2⟩))
  have hHE : Held w1 w2 := by assumption
  rw [← hm, ← hq, ← hy]
  obtain ⟨u, hu⟩ : ∃ u : World, u = w2 := ⟨_, rfl⟩
  rw [← hu] at hHE ⊢
  clear hu hB2
  have hBu := hHE.2.2
  replace rB := (hBu.block _ lB).trans rB
  replace lB := Nat.lt_of_lt_of_le lB hBu.size
  have hbu := hb1.trans (hBu.mono hb1.size)
  clear qB0 qN0 qN1 qN2 rN lN hHE hBu hb1 hs1 hs2 hm hq hy

  have c1 := fun W' h => most_any b (.slice A0 b.tides.length k0) (.slice A1 b.sounds.length k1) m q W' (HRB.out W' h)
  have c2 := fun W' h => Lands_any b (.slice A0 b.tides.length k0) (.slice A1 b.sounds.length k1) m q y W' (HRB.out W' h)
  have c3 := fun x W' h => Lands_any b (.slice A0 b.tides.length k0) (.slice A1 b.sounds.length k1) m q x W' (HRB.out W' h)
  rcases Ld.most_spec HVAL.out hq1 hm1 hy0 hy1 with ⟨hM, hL⟩ | ⟨hM, kind, hL, hk⟩ | ⟨most, kind, h0, h1, hM, hL, hA, hk⟩
  · simp only [hM] at c1
    simp only [hL] at c2
    clear c3
    have C1 := Lib.hid c1
    have C2 := Lib.hid c2
    clear c1 c2 hM hL
    have qB0 := cell_of_row u _ 0 _ _ _ rB
    have qB1 := cell_of_row u _ 1 _ _ _ rB
    have qB2 := cell_of_row u _ 2 _ _ _ rB
    have qB3 := cell_of_row u _ 3 _ _ _ rB
    have qB4 := cell_of_row u _ 4 _ _ _ rB
    have qB5 := cell_of_row u _ 5 _ _ _ rB
    have qB6 := cell_of_row u _ 6 _ _ _ rB
    have qB7 := cell_of_row u _ 7 _ _ _ rB
    have qB8 := cell_of_row u _ 8 _ _ _ rB
    have qB9 := cell_of_row u _ 9 _ _ _ rB
    have qB10 := cell_of_row u _ 10 _ _ _ rB
    have qB11 := cell_of_row u _ 11 _ _ _ rB
    have qB12 := cell_of_row u _ 12 _ _ _ rB
    have qB13 := cell_of_row u _ 13 _ _ _ rB
    simp only [List.getElem?_toArray, List.getElem?_cons_zero, List.getElem?_cons_succ] at qB0 qB1 qB2 qB3 qB4 qB5 qB6 qB7 qB8 qB9 qB10 qB11 qB12 qB13
    go_wp2_with fail
    clear qB0 qB1 qB2 qB3 qB4 qB5 qB6 qB7 qB8 qB9 qB10 qB11 qB12 qB13
    refine (C1.out _ hbu).mono ?_
    rintro e w3 ⟨rfl, hB3⟩
    replace rB := (hB3.block _ lB).trans rB
    replace lB := Nat.lt_of_lt_of_le lB hB3.size
    have hb3 := hbu.trans (hB3.mono hbu.size)
    clear hB3 hbu
    have qB0 := cell_of_row w3 _ 0 _ _ _ rB
    have qB1 := cell_of_row w3 _ 1 _ _ _ rB
    have qB2 := cell_of_row w3 _ 2 _ _ _ rB
    have qB3 := cell_of_row w3 _ 3 _ _ _ rB
    have qB4 := cell_of_row w3 _ 4 _ _ _ rB
    have qB5 := cell_of_row w3 _ 5 _ _ _ rB
    have qB6 := cell_of_row w3 _ 6 _ _ _ rB
    have qB7 := cell_of_row w3 _ 7 _ _ _ rB
    have qB8 := cell_of_row w3 _ 8 _ _ _ rB
    have qB9 := cell_of_row w3 _ 9 _ _ _ rB
    have qB10 := cell_of_row w3 _ 10 _ _ _ rB
    have qB11 := cell_of_row w3 _ 11 _ _ _ rB
    have qB12 := cell_of_row w3 _ 12 _ _ _ rB
    have qB13 := cell_of_row w3 _ 13 _ _ _ rB
    simp only [List.getElem?_toArray, List.getElem?_cons_zero, List.getElem?_cons_succ] at qB0 qB1 qB2 qB3 qB4 qB5 qB6 qB7 qB8 qB9 qB10 qB11 qB12 qB13
    go_wp2_with fail
    clear qB0 qB1 qB2 qB3 qB4 qB5 qB6 qB7 qB8 qB9 qB10 qB11 qB12 qB13
    refine (C2.out _ hb3).mono ?_
    rintro e w4 ⟨rfl, hB4⟩
    replace rB := (hB4.block _ lB).trans rB
    replace lB := Nat.lt_of_lt_of_le lB hB4.size
    have hb4 := hb3.trans (hB4.mono hb3.size)
    clear hB4 hb3
    go_wp2_with fail
    refine (moored_any _).mono ?_
    rintro e wZ ⟨rfl, hBZ⟩
    have HBZ := Lib.hid (hb4.trans (hBZ.mono hb4.size))
    clear hBZ
    go_wp2_with fail
    go_ret
    exact ⟨rfl, HBZ.out⟩

  · simp only [hM] at c1
    simp only [hL] at c2
    clear c3
    have hk2 : decide (kind < 2) = true := decide_eq_true hk
    have C1 := Lib.hid c1
    have C2 := Lib.hid c2
    clear c1 c2 hM hL
    have qB0 := cell_of_row u _ 0 _ _ _ rB
    have qB1 := cell_of_row u _ 1 _ _ _ rB
    have qB2 := cell_of_row u _ 2 _ _ _ rB
    have qB3 := cell_of_row u _ 3 _ _ _ rB
    have qB4 := cell_of_row u _ 4 _ _ _ rB
    have qB5 := cell_of_row u _ 5 _ _ _ rB
    have qB6 := cell_of_row u _ 6 _ _ _ rB
    have qB7 := cell_of_row u _ 7 _ _ _ rB
    have qB8 := cell_of_row u _ 8 _ _ _ rB
    have qB9 := cell_of_row u _ 9 _ _ _ rB
    have qB10 := cell_of_row u _ 10 _ _ _ rB
    have qB11 := cell_of_row u _ 11 _ _ _ rB
    have qB12 := cell_of_row u _ 12 _ _ _ rB
    have qB13 := cell_of_row u _ 13 _ _ _ rB
    simp only [List.getElem?_toArray, List.getElem?_cons_zero, List.getElem?_cons_succ] at qB0 qB1 qB2 qB3 qB4 qB5 qB6 qB7 qB8 qB9 qB10 qB11 qB12 qB13
    go_wp2_with fail
    clear qB0 qB1 qB2 qB3 qB4 qB5 qB6 qB7 qB8 qB9 qB10 qB11 qB12 qB13
    refine (C1.out _ hbu).mono ?_
    rintro e w3 ⟨rfl, hB3⟩
    replace rB := (hB3.block _ lB).trans rB
    replace lB := Nat.lt_of_lt_of_le lB hB3.size
    have hb3 := hbu.trans (hB3.mono hbu.size)
    clear hB3 hbu
    have qB0 := cell_of_row w3 _ 0 _ _ _ rB
    have qB1 := cell_of_row w3 _ 1 _ _ _ rB
    have qB2 := cell_of_row w3 _ 2 _ _ _ rB
    have qB3 := cell_of_row w3 _ 3 _ _ _ rB
    have qB4 := cell_of_row w3 _ 4 _ _ _ rB
    have qB5 := cell_of_row w3 _ 5 _ _ _ rB
    have qB6 := cell_of_row w3 _ 6 _ _ _ rB
    have qB7 := cell_of_row w3 _ 7 _ _ _ rB
    have qB8 := cell_of_row w3 _ 8 _ _ _ rB
    have qB9 := cell_of_row w3 _ 9 _ _ _ rB
    have qB10 := cell_of_row w3 _ 10 _ _ _ rB
    have qB11 := cell_of_row w3 _ 11 _ _ _ rB
    have qB12 := cell_of_row w3 _ 12 _ _ _ rB
    have qB13 := cell_of_row w3 _ 13 _ _ _ rB
    simp only [List.getElem?_toArray, List.getElem?_cons_zero, List.getElem?_cons_succ] at qB0 qB1 qB2 qB3 qB4 qB5 qB6 qB7 qB8 qB9 qB10 qB11 qB12 qB13
    go_wp2_with fail
    clear qB0 qB1 qB2 qB3 qB4 qB5 qB6 qB7 qB8 qB9 qB10 qB11 qB12 qB13
    refine (C2.out _ hb3).mono ?_
    rintro e w4 ⟨rfl, hB4⟩
    replace rB := (hB4.block _ lB).trans rB
    replace lB := Nat.lt_of_lt_of_le lB hB4.size
    have hb4 := hb3.trans (hB4.mono hb3.size)
    clear hB4 hb3
    go_wp2_with fail
    refine (moored_any _).mono ?_
    rintro e wZ ⟨rfl, hBZ⟩
    have HBZ := Lib.hid (hb4.trans (hBZ.mono hb4.size))
    clear hBZ
    go_wp2_with fail
    go_ret
    exact ⟨rfl, HBZ.out⟩

  · simp only [hM] at c1
    simp only [hL] at c2
    replace c3 := c3 most
    simp only [hA] at c3
    have C3 := Lib.hid c3
    clear c3 hA
    have C1 := Lib.hid c1
    have C2 := Lib.hid c2
    clear c1 c2 hM hL
    have qB0 := cell_of_row u _ 0 _ _ _ rB
    have qB1 := cell_of_row u _ 1 _ _ _ rB
    have qB2 := cell_of_row u _ 2 _ _ _ rB
    have qB3 := cell_of_row u _ 3 _ _ _ rB
    have qB4 := cell_of_row u _ 4 _ _ _ rB
    have qB5 := cell_of_row u _ 5 _ _ _ rB
    have qB6 := cell_of_row u _ 6 _ _ _ rB
    have qB7 := cell_of_row u _ 7 _ _ _ rB
    have qB8 := cell_of_row u _ 8 _ _ _ rB
    have qB9 := cell_of_row u _ 9 _ _ _ rB
    have qB10 := cell_of_row u _ 10 _ _ _ rB
    have qB11 := cell_of_row u _ 11 _ _ _ rB
    have qB12 := cell_of_row u _ 12 _ _ _ rB
    have qB13 := cell_of_row u _ 13 _ _ _ rB
    simp only [List.getElem?_toArray, List.getElem?_cons_zero, List.getElem?_cons_succ] at qB0 qB1 qB2 qB3 qB4 qB5 qB6 qB7 qB8 qB9 qB10 qB11 qB12 qB13
    go_wp2_with fail
    clear qB0 qB1 qB2 qB3 qB4 qB5 qB6 qB7 qB8 qB9 qB10 qB11 qB12 qB13
    refine (C1.out _ hbu).mono ?_
    rintro e w3 ⟨rfl, hB3⟩
    replace rB := (hB3.block _ lB).trans rB
    replace lB := Nat.lt_of_lt_of_le lB hB3.size
    have hb3 := hbu.trans (hB3.mono hbu.size)
    clear hB3 hbu
    have qB0 := cell_of_row w3 _ 0 _ _ _ rB
    have qB1 := cell_of_row w3 _ 1 _ _ _ rB
    have qB2 := cell_of_row w3 _ 2 _ _ _ rB
    have qB3 := cell_of_row w3 _ 3 _ _ _ rB
    have qB4 := cell_of_row w3 _ 4 _ _ _ rB
    have qB5 := cell_of_row w3 _ 5 _ _ _ rB
    have qB6 := cell_of_row w3 _ 6 _ _ _ rB
    have qB7 := cell_of_row w3 _ 7 _ _ _ rB
    have qB8 := cell_of_row w3 _ 8 _ _ _ rB
    have qB9 := cell_of_row w3 _ 9 _ _ _ rB
    have qB10 := cell_of_row w3 _ 10 _ _ _ rB
    have qB11 := cell_of_row w3 _ 11 _ _ _ rB
    have qB12 := cell_of_row w3 _ 12 _ _ _ rB
    have qB13 := cell_of_row w3 _ 13 _ _ _ rB
    simp only [List.getElem?_toArray, List.getElem?_cons_zero, List.getElem?_cons_succ] at qB0 qB1 qB2 qB3 qB4 qB5 qB6 qB7 qB8 qB9 qB10 qB11 qB12 qB13
    go_wp2_with fail
    clear qB0 qB1 qB2 qB3 qB4 qB5 qB6 qB7 qB8 qB9 qB10 qB11 qB12 qB13
    refine (C2.out _ hb3).mono ?_
    rintro e w4 ⟨rfl, hB4⟩
    replace rB := (hB4.block _ lB).trans rB
    replace lB := Nat.lt_of_lt_of_le lB hB4.size
    have hb4 := hb3.trans (hB4.mono hb3.size)
    clear hB4 hb3
    have qB0 := cell_of_row w4 _ 0 _ _ _ rB
    have qB1 := cell_of_row w4 _ 1 _ _ _ rB
    have qB2 := cell_of_row w4 _ 2 _ _ _ rB
    have qB3 := cell_of_row w4 _ 3 _ _ _ rB
    have qB4 := cell_of_row w4 _ 4 _ _ _ rB
    have qB5 := cell_of_row w4 _ 5 _ _ _ rB
    have qB6 := cell_of_row w4 _ 6 _ _ _ rB
    have qB7 := cell_of_row w4 _ 7 _ _ _ rB
    have qB8 := cell_of_row w4 _ 8 _ _ _ rB
    have qB9 := cell_of_row w4 _ 9 _ _ _ rB
    have qB10 := cell_of_row w4 _ 10 _ _ _ rB
    have qB11 := cell_of_row w4 _ 11 _ _ _ rB
    have qB12 := cell_of_row w4 _ 12 _ _ _ rB
    have qB13 := cell_of_row w4 _ 13 _ _ _ rB
    simp only [List.getElem?_toArray, List.getElem?_cons_zero, List.getElem?_cons_succ] at qB0 qB1 qB2 qB3 qB4 qB5 qB6 qB7 qB8 qB9 qB10 qB11 qB12 qB13
    go_wp2_with fail
    clear qB0 qB1 qB2 qB3 qB4 qB5 qB6 qB7 qB8 qB9 qB10 qB11 qB12 qB13
    refine (C3.out _ hb4).mono ?_
    rintro e w5 ⟨rfl, hB5⟩
    replace rB := (hB5.block _ lB).trans rB
    replace lB := Nat.lt_of_lt_of_le lB hB5.size
    have hb5 := hb4.trans (hB5.mono hb4.size)
    clear hB5 hb4
    have hin : (decide (0 ≤ most) && decide (most ≤ 200)) = true := by simp [h0, h1]
    have hin2 : Ld.between most 0 200 = true := by simp [Ld.between, h0, h1]
    go_wp2_with fail
    refine (in_any _ _ _ _).mono ?_
    rintro e w6 ⟨rfl, hB6⟩
    have hb6 := hb5.trans (hB6.mono hb5.size)
    clear hB6 hb5 rB lB
    rw [hin2]
    by_cases hy2 : y ≤ most
    · have hk1 := hk.2 hy2
      subst hk1
      have hy3 : decide (y ≤ most) = true := decide_eq_true hy2
      clear hk
      go_wp2_with fail
      refine (moored_any _).mono ?_
      rintro e wZ ⟨rfl, hBZ⟩
      have HBZ := Lib.hid (hb6.trans (hBZ.mono hb6.size))
      clear hBZ
      go_wp2_with fail
      go_ret
      exact ⟨rfl, HBZ.out⟩
    · have hk1 : decide (kind = 2) = false := decide_eq_false (fun h => hy2 (hk.1 h))
      have hk2 : (kind == 2) = false := by simp; exact fun h => hy2 (hk.1 h)
      have hy3 : decide (y ≤ most) = false := decide_eq_false hy2
      go_wp2_with fail
      refine (moored_any _).mono ?_
      rintro e wZ ⟨rfl, hBZ⟩
      have HBZ := Lib.hid (hb6.trans (hBZ.mono hb6.size))
      clear hBZ
      go_wp2_with fail
      go_ret
      exact ⟨rfl, HBZ.out⟩

end Go.Proofs.Ytjgpghaofhcfnaa
