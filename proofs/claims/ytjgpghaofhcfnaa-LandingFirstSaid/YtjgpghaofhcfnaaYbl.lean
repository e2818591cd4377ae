/- Texts on the program that the proof leans on, part 38. -/
import Derived.Test.YtjgpghaofhcfnaaYbe
import Derived.Test.YtjgpghaofhcfnaaYbc
import Derived.Test.YtjgpghaofhcfnaaYbh
import Derived.Test.YtjgpghaofhcfnaaYbg
set_option linter.unusedVariables false
set_option linter.unusedSimpArgs false

/- Contract of LandingFirst: it returns true, whatever the book and the numbers. -/
namespace Go.Proofs.Ytjgpghaofhcfnaa
open Go.RowKit

set_option maxRecDepth 100000 in
set_option maxHeartbeats 4000000 in
theorem LandingFirst_any (b : Ld.Bk) (T D : Value) (n0 n1 n2 : Int) (w : World) (hb : RB w w.heap.size b T D) :
    Calls Try.prog 7 #[vBk T D b, .agg #[I n0, I n1, I n2]] w fun e w' => e = .returned (.bool true) ∧ Below w.heap.size w w' := by
  obtain ⟨A0, k0, rfl⟩ := hb.tides.form
  obtain ⟨A1, k1, rfl⟩ := hb.sounds.form
  obtain ⟨o, ho⟩ : ∃ o : Obj, o = .cells (rBk (.slice A0 b.tides.length k0) (.slice A1 b.sounds.length k1) b) 30 := ⟨_, rfl⟩
  obtain ⟨o2, ho2⟩ : ∃ o : Obj, o = .cells #[I n0, I n1, I n2] 32 := ⟨_, rfl⟩
  obtain ⟨W0, hW0⟩ : ∃ W : World, W = (w.alloc o).alloc o2 := ⟨_, rfl⟩
  have hb0 : Below w.heap.size w W0 := by rw [hW0]; exact ((Below.refl _ _).alloc (Nat.le_refl _) _).alloc (by simp) _
  have rB : W0.heap[w.heap.size]? = some o := by rw [hW0]; exact (Below.heap_alloc _ _ _ (by simp)).trans (heap_at _ _ rfl)
  have rN : W0.heap[w.heap.size + 1]? = some o2 := by rw [hW0]; exact heap_at _ _ (by simp)
  have lB : w.heap.size < W0.heap.size := by rw [hW0]; simp; omega
  have lN : w.heap.size + 1 < W0.heap.size := by rw [hW0]; simp
  go_enter Try.func7, Try.ntmps7
  go_wp2_with fail
  rw [← ho, ← ho2, ← hW0]
  subst ho ho2
  clear hW0
  have hRB := (hb.below hb0 (Nat.le_refl _)).more hb0.size
  refine (sound_any b _ _ W0 hRB).mono ?_
  rintro e w1 ⟨rfl, hB1⟩
  replace rB := (hB1.block _ lB).trans rB
  replace lB := Nat.lt_of_lt_of_le lB hB1.size
  replace rN := (hB1.block _ lN).trans rN
  replace lN := Nat.lt_of_lt_of_le lN hB1.size
  have hb1 := hb0.trans (hB1.mono hb0.size)
  clear hRB hb0 hB1
  by_cases hck : Ld.check b = 0
  case neg =>
    rw [decide_eq_false hck]
    clear rB rN lB lN
    go_wp2_with fail
    refine (moored_any _).mono ?_
    rintro e w2 ⟨rfl, hB2⟩
    have HB2 := Lib.hid (hb1.trans (hB2.mono hb1.size))
    clear hB2
    go_wp2_with fail
    go_ret
    exact ⟨rfl, HB2.out⟩
  rw [decide_eq_true hck]
  have hval : Ld.valid b = true := by
    unfold Ld.check at hck
    split at hck
    · assumption
    · omega
  have hsz := Ld.sized_bd (Ld.valid_parts hval).1
  have HRB := Lib.hid (show ∀ W', Below w.heap.size w W' → RB W' W'.heap.size b (.slice A0 b.tides.length k0) (.slice A1 b.sounds.length k1) from fun W' h => (hb.below h (Nat.le_refl _)).more h.size)
  clear hb hck
  obtain ⟨q, hq⟩ : ∃ q : Nat, (q : Int) = n1 % b.tides.length := ⟨_, Int.toNat_of_nonneg (Int.emod_nonneg _ (by omega))⟩
  have hq1 : q < b.tides.length := by have := Int.emod_lt_of_pos n1 (show (0 : Int) < b.tides.length by omega); omega
  obtain ⟨m, hm⟩ : ∃ m : Nat, (m : Int) = n0 % 2 := ⟨_, Int.toNat_of_nonneg (Int.emod_nonneg _ (by omega))⟩
  have hm1 : m = 0 ∨ m = 1 := by have := Int.emod_lt_of_pos n0 (show (0 : Int) < 2 by omega); omega
  obtain ⟨y, hy⟩ : ∃ y : Int, y = n2 % 201 := ⟨_, rfl⟩
  have hy0 : 0 ≤ y := by have := Int.emod_nonneg n2 (show (201 : Int) ≠ 0 by omega); omega
  have hy1 : y ≤ 200 := by have := Int.emod_lt_of_pos n2 (show (0 : Int) < 201 by omega); omega
  have HVAL := Lib.hid hval
  have HSZ := Lib.hid hsz
  have hs1 : (0 : Int) < b.tides.length := by omega
  have hs2 : (b.tides.length : Int) ≤ 1000 := by omega
  clear hval hsz
  have qB0 := cell_of_row w1 _ 0 _ _ _ rB
  simp only [List.getElem?_toArray, List.getElem?_cons_zero, List.getElem?_cons_succ] at qB0
  have qN0 := cell_of_row w1 _ 0 _ _ _ rN
  have qN1 := cell_of_row w1 _ 1 _ _ _ rN
  have qN2 := cell_of_row w1 _ 2 _ _ _ rN
  simp only [List.getElem?_toArray, List.getElem?_cons_zero, List.getElem?_cons_succ] at qN0 qN1 qN2
  go_wp2_with fail
  go_region_held3 (fun w' => Held w1 w') (first | assumption | exact held_start _ | exact held_step (by assumption) (by assumption) | exact held_step (by assumption) (held_start _) | go_keep)
    (first | (go_at_call 16; refine (mod_any _ _ (by omega) (by omega) _).mono ?_; rintro e w2 ⟨rfl, hB2⟩))
  have hHE : Held w1 w2 := by assumption
  rw [← hm, ← hq, ← hy]
  obtain ⟨u, hu⟩ : ∃ u : World, u = w2 := ⟨_, rfl⟩
  rw [← hu] at hHE ⊢
  clear hu hB2
  have hBu := hHE.2.2
  replace rB := (hBu.block _ lB).trans rB
  replace lB := Nat.lt_of_lt_of_le lB hBu.size
  have hbu := hb1.trans (hBu.mono hb1.size)
  clear qB0 qN0 qN1 qN2 rN lN hHE hBu hb1 hs1 hs2 hm hq hy

  have c1 := fun W' h => first_any b (.slice A0 b.tides.length k0) (.slice A1 b.sounds.length k1) m y W' (HRB.out W' h)
  have c2 := fun W' h => Both_any b (.slice A0 b.tides.length k0) (.slice A1 b.sounds.length k1) y W' (HRB.out W' h)
  have c3 := fun W' h => Lands_any b (.slice A0 b.tides.length k0) (.slice A1 b.sounds.length k1) 0 q y W' (HRB.out W' h)
  have c4 := fun W' h => Lands_any b (.slice A0 b.tides.length k0) (.slice A1 b.sounds.length k1) 1 q y W' (HRB.out W' h)
  have c5 := fun x W' h => Lands_any b (.slice A0 b.tides.length k0) (.slice A1 b.sounds.length k1) m x y W' (HRB.out W' h)
  obtain ⟨L, hL⟩ : ∃ L : List Int, Ld.bothL b y = L := ⟨_, rfl⟩
  obtain ⟨⟨x, z⟩, hF⟩ : ∃ s : Int × Int, Ld.firstR b m y = s := ⟨_, rfl⟩
  obtain ⟨E, hE⟩ : ∃ E : Int, Ld.studyE b (Ld.isLoad y) = E := ⟨_, rfl⟩
  obtain ⟨⟨k0', z0⟩, hK0⟩ : ∃ s : Int × Int, Ld.landsR b 0 q y = s := ⟨_, rfl⟩
  obtain ⟨⟨k1', z1⟩, hK1⟩ : ∃ s : Int × Int, Ld.landsR b 1 q y = s := ⟨_, rfl⟩
  have hsp := Ld.first_spec HVAL.out hq1 hm1 hy0 hy1
  simp only [hF] at c1
  simp only [hL, hE] at c2
  simp only [hK0] at c3
  simp only [hK1] at c4
  simp only [hF, hL, hE, hK0, hK1] at hsp
  have C1 := Lib.hid c1
  have C2 := Lib.hid c2
  have C3 := Lib.hid c3
  have C4 := Lib.hid c4
  have C5 := Lib.hid c5
  have HSP := Lib.hid hsp
  have ht2 : (b.tides.length : Int) ≤ 24 := by have := HSZ.out; omega
  clear c1 c2 c3 c4 c5 hsp hF hL hE hK0 hK1
  have qB0 := cell_of_row u _ 0 _ _ _ rB
  have qB1 := cell_of_row u _ 1 _ _ _ rB
  have qB2 := cell_of_row u _ 2 _ _ _ rB
  have qB3 := cell_of_row u _ 3 _ _ _ rB
  have qB4 := cell_of_row u _ 4 _ _ _ rB
  have qB5 := cell_of_row u _ 5 _ _ _ rB
  have qB6 := cell_of_row u _ 6 _ _ _ rB
  have qB7 := cell_of_row u _ 7 _ _ _ rB
  have qB8 := cell_of_row u _ 8 _ _ _ rB
  have qB9 := cell_of_row u _ 9 _ _ _ rB
  have qB10 := cell_of_row u _ 10 _ _ _ rB
  have qB11 := cell_of_row u _ 11 _ _ _ rB
  have qB12 := cell_of_row u _ 12 _ _ _ rB
  have qB13 := cell_of_row u _ 13 _ _ _ rB
  simp only [List.getElem?_toArray, List.getElem?_cons_zero, List.getElem?_cons_succ] at qB0 qB1 qB2 qB3 qB4 qB5 qB6 qB7 qB8 qB9 qB10 qB11 qB12 qB13
  go_wp2_with fail
  clear qB0 qB1 qB2 qB3 qB4 qB5 qB6 qB7 qB8 qB9 qB10 qB11 qB12 qB13
  refine (C1.out _ hbu).mono ?_
  rintro e w3 ⟨rfl, hB3⟩
  replace rB := (hB3.block _ lB).trans rB
  replace lB := Nat.lt_of_lt_of_le lB hB3.size
  have hb3 := hbu.trans (hB3.mono hbu.size)
  clear hB3 hbu
  have qB0 := cell_of_row w3 _ 0 _ _ _ rB
  have qB1 := cell_of_row w3 _ 1 _ _ _ rB
  have qB2 := cell_of_row w3 _ 2 _ _ _ rB
  have qB3 := cell_of_row w3 _ 3 _ _ _ rB
  have qB4 := cell_of_row w3 _ 4 _ _ _ rB
  have qB5 := cell_of_row w3 _ 5 _ _ _ rB
  have qB6 := cell_of_row w3 _ 6 _ _ _ rB
  have qB7 := cell_of_row w3 _ 7 _ _ _ rB
  have qB8 := cell_of_row w3 _ 8 _ _ _ rB
  have qB9 := cell_of_row w3 _ 9 _ _ _ rB
  have qB10 := cell_of_row w3 _ 10 _ _ _ rB
  have qB11 := cell_of_row w3 _ 11 _ _ _ rB
  have qB12 := cell_of_row w3 _ 12 _ _ _ rB
  have qB13 := cell_of_row w3 _ 13 _ _ _ rB
  simp only [List.getElem?_toArray, List.getElem?_cons_zero, List.getElem?_cons_succ] at qB0 qB1 qB2 qB3 qB4 qB5 qB6 qB7 qB8 qB9 qB10 qB11 qB12 qB13
  go_wp2_with fail
  clear qB0 qB1 qB2 qB3 qB4 qB5 qB6 qB7 qB8 qB9 qB10 qB11 qB12 qB13
  refine (C2.out _ hb3).mono ?_
  rintro e w4 ⟨⟨v, rfl, hsl⟩, hB4⟩
  replace rB := (hB4.block _ lB).trans rB
  replace lB := Nat.lt_of_lt_of_le lB hB4.size
  have hb4 := hb3.trans (hB4.mono hb3.size)
  clear hB4 hb3
  obtain ⟨Av, cv, rfl⟩ := hsl.form
  have HSL := Lib.hid hsl
  clear hsl
  rcases HSP.out with ⟨hF, rfl, rfl⟩ | ⟨rfl, hcl, ka, kb, h02, h12, hK0, hK1, hix, hrest⟩
  · injection hF with e1 e2
    subst e1 e2
    clear C1 C2 C3 C4 C5 HSP rB lB
    go_wp2_with fail
    refine (moored_any _).mono ?_
    rintro e wZ ⟨rfl, hBZ⟩
    have HBZ := Lib.hid (hb4.trans (hBZ.mono hb4.size))
    clear hBZ
    go_wp2_with fail
    go_ret
    exact ⟨rfl, HBZ.out⟩
  injection hK0 with e1 e2
  subst e2
  subst k0'
  injection hK1 with e1 e2
  subst e2
  subst k1'
  have HCL := Lib.hid hcl
  have HIX := Lib.hid hix
  have HREST := Lib.hid hrest
  clear hcl hix hrest HSP C1 C2
  have qB0 := cell_of_row w4 _ 0 _ _ _ rB
  have qB1 := cell_of_row w4 _ 1 _ _ _ rB
  have qB2 := cell_of_row w4 _ 2 _ _ _ rB
  have qB3 := cell_of_row w4 _ 3 _ _ _ rB
  have qB4 := cell_of_row w4 _ 4 _ _ _ rB
  have qB5 := cell_of_row w4 _ 5 _ _ _ rB
  have qB6 := cell_of_row w4 _ 6 _ _ _ rB
  have qB7 := cell_of_row w4 _ 7 _ _ _ rB
  have qB8 := cell_of_row w4 _ 8 _ _ _ rB
  have qB9 := cell_of_row w4 _ 9 _ _ _ rB
  have qB10 := cell_of_row w4 _ 10 _ _ _ rB
  have qB11 := cell_of_row w4 _ 11 _ _ _ rB
  have qB12 := cell_of_row w4 _ 12 _ _ _ rB
  have qB13 := cell_of_row w4 _ 13 _ _ _ rB
  simp only [List.getElem?_toArray, List.getElem?_cons_zero, List.getElem?_cons_succ] at qB0 qB1 qB2 qB3 qB4 qB5 qB6 qB7 qB8 qB9 qB10 qB11 qB12 qB13
  go_wp2_with fail
  clear qB0 qB1 qB2 qB3 qB4 qB5 qB6 qB7 qB8 qB9 qB10 qB11 qB12 qB13
  refine (C3.out _ hb4).mono ?_
  rintro e w5 ⟨rfl, hB5⟩
  have hsl5 := (HSL.out.below hB5 (Nat.le_refl _)).more hB5.size
  replace rB := (hB5.block _ lB).trans rB
  replace lB := Nat.lt_of_lt_of_le lB hB5.size
  have hb5 := hb4.trans (hB5.mono hb4.size)
  clear hB5 hb4
  have qB0 := cell_of_row w5 _ 0 _ _ _ rB
  have qB1 := cell_of_row w5 _ 1 _ _ _ rB
  have qB2 := cell_of_row w5 _ 2 _ _ _ rB
  have qB3 := cell_of_row w5 _ 3 _ _ _ rB
  have qB4 := cell_of_row w5 _ 4 _ _ _ rB
  have qB5 := cell_of_row w5 _ 5 _ _ _ rB
  have qB6 := cell_of_row w5 _ 6 _ _ _ rB
  have qB7 := cell_of_row w5 _ 7 _ _ _ rB
  have qB8 := cell_of_row w5 _ 8 _ _ _ rB
  have qB9 := cell_of_row w5 _ 9 _ _ _ rB
  have qB10 := cell_of_row w5 _ 10 _ _ _ rB
  have qB11 := cell_of_row w5 _ 11 _ _ _ rB
  have qB12 := cell_of_row w5 _ 12 _ _ _ rB
  have qB13 := cell_of_row w5 _ 13 _ _ _ rB
  simp only [List.getElem?_toArray, List.getElem?_cons_zero, List.getElem?_cons_succ] at qB0 qB1 qB2 qB3 qB4 qB5 qB6 qB7 qB8 qB9 qB10 qB11 qB12 qB13
  go_wp2_with fail
  clear qB0 qB1 qB2 qB3 qB4 qB5 qB6 qB7 qB8 qB9 qB10 qB11 qB12 qB13
  refine (C4.out _ hb5).mono ?_
  rintro e w6 ⟨rfl, hB6⟩
  have hsl6 := (hsl5.below hB6 (Nat.le_refl _)).more hB6.size
  replace rB := (hB6.block _ lB).trans rB
  replace lB := Nat.lt_of_lt_of_le lB hB6.size
  have hb6 := hb5.trans (hB6.mono hb5.size)
  clear hB6 hb5
  have HSL6 := Lib.hid hsl6
  clear hsl5 hsl6 HSL C3 C4
  have qB0 := cell_of_row w6 _ 0 _ _ _ rB
  simp only [List.getElem?_toArray, List.getElem?_cons_zero, List.getElem?_cons_succ] at qB0
  go_wp2_with fail
  refine (climbs_any L b.tides.length (by omega) _ _ HSL6.out).mono ?_
  rintro e w7 ⟨rfl, hB7⟩
  rw [HCL.out]
  have hsl7 := (HSL6.out.below hB7 (Nat.le_refl _)).more hB7.size
  clear qB0
  replace rB := (hB7.block _ lB).trans rB
  replace lB := Nat.lt_of_lt_of_le lB hB7.size
  have hb7 := hb6.trans (hB7.mono hb6.size)
  clear hB7 hb6
  have HSL7 := Lib.hid hsl7
  clear hsl7 HSL6
  have qB0 := cell_of_row w7 _ 0 _ _ _ rB
  simp only [List.getElem?_toArray, List.getElem?_cons_zero, List.getElem?_cons_succ] at qB0
  go_wp2_with fail
  refine (at_any L q _ _ HSL7.out).mono ?_
  rintro e w8 ⟨rfl, hB8⟩
  have hsl8 := (HSL7.out.below hB8 (Nat.le_refl _)).more hB8.size
  clear qB0
  replace rB := (hB8.block _ lB).trans rB
  replace lB := Nat.lt_of_lt_of_le lB hB8.size
  have hb8 := hb7.trans (hB8.mono hb7.size)
  clear hB8 hb7
  have HSL8 := Lib.hid hsl8
  clear hsl8 HSL7
  obtain ⟨j, hj⟩ : ∃ j : Int, Ch.indexOf L q = j := ⟨_, rfl⟩
  have hix := HIX.out
  rw [hj] at hix ⊢
  clear HIX hj
  have HB8 := Lib.hid hb8
  clear hb8
  rcases Decidable.em (ka = 2) with a0 | a0 <;> rcases Decidable.em (kb = 2) with a1 | a1
  · subst a0
    subst a1
    have hj0 : 0 ≤ j := hix.2 ⟨rfl, rfl⟩
    have hj1 : decide (0 ≤ j) = true := decide_eq_true hj0
    clear hix
    rcases hm1 with rfl | rfl
    · skip
      rcases HREST.out with ⟨hF, how, hLn⟩ | ⟨f, hf, hF, hA, how, hh⟩
      · simp at how
      · injection hF with e1 e2
        subst e1 e2
        have c5 := C5.out f
        simp only [hA] at c5
        have C6 := Lib.hid c5
        clear c5 hA C5
        have hfq : (f : Int) ≤ q := by simpa using how
        clear how
        have qB0 := cell_of_row w8 _ 0 _ _ _ rB
        have qB1 := cell_of_row w8 _ 1 _ _ _ rB
        have qB2 := cell_of_row w8 _ 2 _ _ _ rB
        have qB3 := cell_of_row w8 _ 3 _ _ _ rB
        have qB4 := cell_of_row w8 _ 4 _ _ _ rB
        have qB5 := cell_of_row w8 _ 5 _ _ _ rB
        have qB6 := cell_of_row w8 _ 6 _ _ _ rB
        have qB7 := cell_of_row w8 _ 7 _ _ _ rB
        have qB8 := cell_of_row w8 _ 8 _ _ _ rB
        have qB9 := cell_of_row w8 _ 9 _ _ _ rB
        have qB10 := cell_of_row w8 _ 10 _ _ _ rB
        have qB11 := cell_of_row w8 _ 11 _ _ _ rB
        have qB12 := cell_of_row w8 _ 12 _ _ _ rB
        have qB13 := cell_of_row w8 _ 13 _ _ _ rB
        simp only [List.getElem?_toArray, List.getElem?_cons_zero, List.getElem?_cons_succ] at qB0 qB1 qB2 qB3 qB4 qB5 qB6 qB7 qB8 qB9 qB10 qB11 qB12 qB13
        go_wp2_with fail
        clear qB0 qB1 qB2 qB3 qB4 qB5 qB6 qB7 qB8 qB9 qB10 qB11 qB12 qB13
        refine (C6.out _ HB8.out).mono ?_
        rintro e w9 ⟨rfl, hB9⟩
        have hsl9 := (HSL8.out.below hB9 (Nat.le_refl _)).more hB9.size
        have hb9 := HB8.out.trans (hB9.mono HB8.out.size)
        have HB9 := Lib.hid hb9
        have hhh := hh
        clear hB9 hb9 hh C6 HB8 HREST rB lB
        rcases hhh with rfl | ⟨g, t, rfl, hg⟩
        · clear hsl9
          go_wp2_with fail
          refine (moored_any _).mono ?_
          rintro e wZ ⟨rfl, hBZ⟩
          have HBZ := Lib.hid (HB9.out.trans (hBZ.mono HB9.out.size))
          clear hBZ
          go_wp2_with fail
          go_ret
          exact ⟨rfl, HBZ.out⟩
        · obtain ⟨bo, oo, co, hv, hbo, hco⟩ := hsl9.int (k := 0) (by simp)
          injection hv with e1 _ e2
          subst e1 e2
          rw [Nat.add_zero] at hco
          simp only [List.getElem_cons_zero] at hco
          have hln : (((g :: t).length : Nat) : Int) ≠ 0 := by rw [List.length_cons]; omega
          have hl0 : (0 : Int) < ((g :: t).length : Nat) := by rw [List.length_cons]; omega
          have hl1 : ((((g :: t).length : Nat) : Int) == 0) = false := beq_eq_false_iff_ne.2 hln
          have hl2 : decide ((((g :: t).length : Nat) : Int) = 0) = false := decide_eq_false hln
          clear hsl9
          go_wp2_with fail
          refine (moored_any _).mono ?_
          rintro e wZ ⟨rfl, hBZ⟩
          have HBZ := Lib.hid (HB9.out.trans (hBZ.mono HB9.out.size))
          clear hBZ
          go_wp2_with fail
          go_ret
          exact ⟨rfl, HBZ.out⟩
    · skip
      rcases HREST.out with ⟨hF, how, hLn⟩ | ⟨f, hf, hF, hA, how, hh⟩
      · simp at how
      · injection hF with e1 e2
        subst e1 e2
        have c5 := C5.out f
        simp only [hA] at c5
        have C6 := Lib.hid c5
        clear c5 hA C5
        have hfq : (f : Int) ≤ q := by simpa using how
        clear how
        have qB0 := cell_of_row w8 _ 0 _ _ _ rB
        have qB1 := cell_of_row w8 _ 1 _ _ _ rB
        have qB2 := cell_of_row w8 _ 2 _ _ _ rB
        have qB3 := cell_of_row w8 _ 3 _ _ _ rB
        have qB4 := cell_of_row w8 _ 4 _ _ _ rB
        have qB5 := cell_of_row w8 _ 5 _ _ _ rB
        have qB6 := cell_of_row w8 _ 6 _ _ _ rB
        have qB7 := cell_of_row w8 _ 7 _ _ _ rB
        have qB8 := cell_of_row w8 _ 8 _ _ _ rB
        have qB9 := cell_of_row w8 _ 9 _ _ _ rB
        have qB10 := cell_of_row w8 _ 10 _ _ _ rB
        have qB11 := cell_of_row w8 _ 11 _ _ _ rB
        have qB12 := cell_of_row w8 _ 12 _ _ _ rB
        have qB13 := cell_of_row w8 _ 13 _ _ _ rB
        simp only [List.getElem?_toArray, List.getElem?_cons_zero, List.getElem?_cons_succ] at qB0 qB1 qB2 qB3 qB4 qB5 qB6 qB7 qB8 qB9 qB10 qB11 qB12 qB13
        go_wp2_with fail
        clear qB0 qB1 qB2 qB3 qB4 qB5 qB6 qB7 qB8 qB9 qB10 qB11 qB12 qB13
        refine (C6.out _ HB8.out).mono ?_
        rintro e w9 ⟨rfl, hB9⟩
        have hsl9 := (HSL8.out.below hB9 (Nat.le_refl _)).more hB9.size
        have hb9 := HB8.out.trans (hB9.mono HB8.out.size)
        have HB9 := Lib.hid hb9
        have hhh := hh
        clear hB9 hb9 hh C6 HB8 HREST rB lB
        rcases hhh with rfl | ⟨g, t, rfl, hg⟩
        · clear hsl9
          go_wp2_with fail
          refine (moored_any _).mono ?_
          rintro e wZ ⟨rfl, hBZ⟩
          have HBZ := Lib.hid (HB9.out.trans (hBZ.mono HB9.out.size))
          clear hBZ
          go_wp2_with fail
          go_ret
          exact ⟨rfl, HBZ.out⟩
        · obtain ⟨bo, oo, co, hv, hbo, hco⟩ := hsl9.int (k := 0) (by simp)
          injection hv with e1 _ e2
          subst e1 e2
          rw [Nat.add_zero] at hco
          simp only [List.getElem_cons_zero] at hco
          have hln : (((g :: t).length : Nat) : Int) ≠ 0 := by rw [List.length_cons]; omega
          have hl0 : (0 : Int) < ((g :: t).length : Nat) := by rw [List.length_cons]; omega
          have hl1 : ((((g :: t).length : Nat) : Int) == 0) = false := beq_eq_false_iff_ne.2 hln
          have hl2 : decide ((((g :: t).length : Nat) : Int) = 0) = false := decide_eq_false hln
          clear hsl9
          go_wp2_with fail
          refine (moored_any _).mono ?_
          rintro e wZ ⟨rfl, hBZ⟩
          have HBZ := Lib.hid (HB9.out.trans (hBZ.mono HB9.out.size))
          clear hBZ
          go_wp2_with fail
          go_ret
          exact ⟨rfl, HBZ.out⟩
  
  · subst a0
    have kbb : (kb == 2) = false := by simp; omega
    have kbd : decide (kb = 2) = false := decide_eq_false (by omega)
    have kbl : kb < 2 := by omega
    have kbc : decide (kb < 2) = true := decide_eq_true kbl
    have hj0 : j < 0 := by
      by_cases hc : 0 ≤ j
      · have := hix.1 hc; omega
      · omega
    have hj1 : decide (0 ≤ j) = false := decide_eq_false (by omega)
    clear hix
    rcases hm1 with rfl | rfl
    · skip
      rcases HREST.out with ⟨hF, how, hLn⟩ | ⟨f, hf, hF, hA, how, hh⟩
      · simp at how
      · injection hF with e1 e2
        subst e1 e2
        have c5 := C5.out f
        simp only [hA] at c5
        have C6 := Lib.hid c5
        clear c5 hA C5
        have hfq : (f : Int) ≤ q := by simpa using how
        clear how
        have qB0 := cell_of_row w8 _ 0 _ _ _ rB
        have qB1 := cell_of_row w8 _ 1 _ _ _ rB
        have qB2 := cell_of_row w8 _ 2 _ _ _ rB
        have qB3 := cell_of_row w8 _ 3 _ _ _ rB
        have qB4 := cell_of_row w8 _ 4 _ _ _ rB
        have qB5 := cell_of_row w8 _ 5 _ _ _ rB
        have qB6 := cell_of_row w8 _ 6 _ _ _ rB
        have qB7 := cell_of_row w8 _ 7 _ _ _ rB
        have qB8 := cell_of_row w8 _ 8 _ _ _ rB
        have qB9 := cell_of_row w8 _ 9 _ _ _ rB
        have qB10 := cell_of_row w8 _ 10 _ _ _ rB
        have qB11 := cell_of_row w8 _ 11 _ _ _ rB
        have qB12 := cell_of_row w8 _ 12 _ _ _ rB
        have qB13 := cell_of_row w8 _ 13 _ _ _ rB
        simp only [List.getElem?_toArray, List.getElem?_cons_zero, List.getElem?_cons_succ] at qB0 qB1 qB2 qB3 qB4 qB5 qB6 qB7 qB8 qB9 qB10 qB11 qB12 qB13
        go_wp2_with fail
        clear qB0 qB1 qB2 qB3 qB4 qB5 qB6 qB7 qB8 qB9 qB10 qB11 qB12 qB13
        refine (C6.out _ HB8.out).mono ?_
        rintro e w9 ⟨rfl, hB9⟩
        have hsl9 := (HSL8.out.below hB9 (Nat.le_refl _)).more hB9.size
        have hb9 := HB8.out.trans (hB9.mono HB8.out.size)
        have HB9 := Lib.hid hb9
        have hhh := hh
        clear hB9 hb9 hh C6 HB8 HREST rB lB
        rcases hhh with rfl | ⟨g, t, rfl, hg⟩
        · clear hsl9
          go_wp2_with fail
          refine (moored_any _).mono ?_
          rintro e wZ ⟨rfl, hBZ⟩
          have HBZ := Lib.hid (HB9.out.trans (hBZ.mono HB9.out.size))
          clear hBZ
          go_wp2_with fail
          go_ret
          exact ⟨rfl, HBZ.out⟩
        · obtain ⟨bo, oo, co, hv, hbo, hco⟩ := hsl9.int (k := 0) (by simp)
          injection hv with e1 _ e2
          subst e1 e2
          rw [Nat.add_zero] at hco
          simp only [List.getElem_cons_zero] at hco
          have hln : (((g :: t).length : Nat) : Int) ≠ 0 := by rw [List.length_cons]; omega
          have hl0 : (0 : Int) < ((g :: t).length : Nat) := by rw [List.length_cons]; omega
          have hl1 : ((((g :: t).length : Nat) : Int) == 0) = false := beq_eq_false_iff_ne.2 hln
          have hl2 : decide ((((g :: t).length : Nat) : Int) = 0) = false := decide_eq_false hln
          clear hsl9
          go_wp2_with fail
          refine (moored_any _).mono ?_
          rintro e wZ ⟨rfl, hBZ⟩
          have HBZ := Lib.hid (HB9.out.trans (hBZ.mono HB9.out.size))
          clear hBZ
          go_wp2_with fail
          go_ret
          exact ⟨rfl, HBZ.out⟩
    · skip
      rcases HREST.out with ⟨hF, how, hLn⟩ | ⟨f, hf, hF, hA, how, hh⟩
      · injection hF with e1 e2
        subst e1 e2 hLn
        go_wp2_with fail
        refine (moored_any _).mono ?_
        rintro e wZ ⟨rfl, hBZ⟩
        have HBZ := Lib.hid (HB8.out.trans (hBZ.mono HB8.out.size))
        clear hBZ
        go_wp2_with fail
        go_ret
        exact ⟨rfl, HBZ.out⟩
      · injection hF with e1 e2
        subst e1 e2
        have c5 := C5.out f
        simp only [hA] at c5
        have C6 := Lib.hid c5
        clear c5 hA C5
        clear how
        have qB0 := cell_of_row w8 _ 0 _ _ _ rB
        have qB1 := cell_of_row w8 _ 1 _ _ _ rB
        have qB2 := cell_of_row w8 _ 2 _ _ _ rB
        have qB3 := cell_of_row w8 _ 3 _ _ _ rB
        have qB4 := cell_of_row w8 _ 4 _ _ _ rB
        have qB5 := cell_of_row w8 _ 5 _ _ _ rB
        have qB6 := cell_of_row w8 _ 6 _ _ _ rB
        have qB7 := cell_of_row w8 _ 7 _ _ _ rB
        have qB8 := cell_of_row w8 _ 8 _ _ _ rB
        have qB9 := cell_of_row w8 _ 9 _ _ _ rB
        have qB10 := cell_of_row w8 _ 10 _ _ _ rB
        have qB11 := cell_of_row w8 _ 11 _ _ _ rB
        have qB12 := cell_of_row w8 _ 12 _ _ _ rB
        have qB13 := cell_of_row w8 _ 13 _ _ _ rB
        simp only [List.getElem?_toArray, List.getElem?_cons_zero, List.getElem?_cons_succ] at qB0 qB1 qB2 qB3 qB4 qB5 qB6 qB7 qB8 qB9 qB10 qB11 qB12 qB13
        go_wp2_with fail
        clear qB0 qB1 qB2 qB3 qB4 qB5 qB6 qB7 qB8 qB9 qB10 qB11 qB12 qB13
        refine (C6.out _ HB8.out).mono ?_
        rintro e w9 ⟨rfl, hB9⟩
        have hsl9 := (HSL8.out.below hB9 (Nat.le_refl _)).more hB9.size
        have hb9 := HB8.out.trans (hB9.mono HB8.out.size)
        have HB9 := Lib.hid hb9
        have hhh := hh
        clear hB9 hb9 hh C6 HB8 HREST rB lB
        rcases hhh with rfl | ⟨g, t, rfl, hg⟩
        · clear hsl9
          go_wp2_with fail
          refine (moored_any _).mono ?_
          rintro e wZ ⟨rfl, hBZ⟩
          have HBZ := Lib.hid (HB9.out.trans (hBZ.mono HB9.out.size))
          clear hBZ
          go_wp2_with fail
          go_ret
          exact ⟨rfl, HBZ.out⟩
        · obtain ⟨bo, oo, co, hv, hbo, hco⟩ := hsl9.int (k := 0) (by simp)
          injection hv with e1 _ e2
          subst e1 e2
          rw [Nat.add_zero] at hco
          simp only [List.getElem_cons_zero] at hco
          have hln : (((g :: t).length : Nat) : Int) ≠ 0 := by rw [List.length_cons]; omega
          have hl0 : (0 : Int) < ((g :: t).length : Nat) := by rw [List.length_cons]; omega
          have hl1 : ((((g :: t).length : Nat) : Int) == 0) = false := beq_eq_false_iff_ne.2 hln
          have hl2 : decide ((((g :: t).length : Nat) : Int) = 0) = false := decide_eq_false hln
          clear hsl9
          go_wp2_with fail
          refine (moored_any _).mono ?_
          rintro e wZ ⟨rfl, hBZ⟩
          have HBZ := Lib.hid (HB9.out.trans (hBZ.mono HB9.out.size))
          clear hBZ
          go_wp2_with fail
          go_ret
          exact ⟨rfl, HBZ.out⟩
  
  · skip
    subst a1
    have kab : (ka == 2) = false := by simp; omega
    have kad : decide (ka = 2) = false := decide_eq_false (by omega)
    have kal : ka < 2 := by omega
    have kac : decide (ka < 2) = true := decide_eq_true kal
    have hj0 : j < 0 := by
      by_cases hc : 0 ≤ j
      · have := hix.1 hc; omega
      · omega
    have hj1 : decide (0 ≤ j) = false := decide_eq_false (by omega)
    clear hix
    rcases hm1 with rfl | rfl
    · skip
      rcases HREST.out with ⟨hF, how, hLn⟩ | ⟨f, hf, hF, hA, how, hh⟩
      · injection hF with e1 e2
        subst e1 e2 hLn
        go_wp2_with fail
        refine (moored_any _).mono ?_
        rintro e wZ ⟨rfl, hBZ⟩
        have HBZ := Lib.hid (HB8.out.trans (hBZ.mono HB8.out.size))
        clear hBZ
        go_wp2_with fail
        go_ret
        exact ⟨rfl, HBZ.out⟩
      · injection hF with e1 e2
        subst e1 e2
        have c5 := C5.out f
        simp only [hA] at c5
        have C6 := Lib.hid c5
        clear c5 hA C5
        clear how
        have qB0 := cell_of_row w8 _ 0 _ _ _ rB
        have qB1 := cell_of_row w8 _ 1 _ _ _ rB
        have qB2 := cell_of_row w8 _ 2 _ _ _ rB
        have qB3 := cell_of_row w8 _ 3 _ _ _ rB
        have qB4 := cell_of_row w8 _ 4 _ _ _ rB
        have qB5 := cell_of_row w8 _ 5 _ _ _ rB
        have qB6 := cell_of_row w8 _ 6 _ _ _ rB
        have qB7 := cell_of_row w8 _ 7 _ _ _ rB
        have qB8 := cell_of_row w8 _ 8 _ _ _ rB
        have qB9 := cell_of_row w8 _ 9 _ _ _ rB
        have qB10 := cell_of_row w8 _ 10 _ _ _ rB
        have qB11 := cell_of_row w8 _ 11 _ _ _ rB
        have qB12 := cell_of_row w8 _ 12 _ _ _ rB
        have qB13 := cell_of_row w8 _ 13 _ _ _ rB
        simp only [List.getElem?_toArray, List.getElem?_cons_zero, List.getElem?_cons_succ] at qB0 qB1 qB2 qB3 qB4 qB5 qB6 qB7 qB8 qB9 qB10 qB11 qB12 qB13
        go_wp2_with fail
        clear qB0 qB1 qB2 qB3 qB4 qB5 qB6 qB7 qB8 qB9 qB10 qB11 qB12 qB13
        refine (C6.out _ HB8.out).mono ?_
        rintro e w9 ⟨rfl, hB9⟩
        have hsl9 := (HSL8.out.below hB9 (Nat.le_refl _)).more hB9.size
        have hb9 := HB8.out.trans (hB9.mono HB8.out.size)
        have HB9 := Lib.hid hb9
        have hhh := hh
        clear hB9 hb9 hh C6 HB8 HREST rB lB
        rcases hhh with rfl | ⟨g, t, rfl, hg⟩
        · clear hsl9
          go_wp2_with fail
          refine (moored_any _).mono ?_
          rintro e wZ ⟨rfl, hBZ⟩
          have HBZ := Lib.hid (HB9.out.trans (hBZ.mono HB9.out.size))
          clear hBZ
          go_wp2_with fail
          go_ret
          exact ⟨rfl, HBZ.out⟩
        · obtain ⟨bo, oo, co, hv, hbo, hco⟩ := hsl9.int (k := 0) (by simp)
          injection hv with e1 _ e2
          subst e1 e2
          rw [Nat.add_zero] at hco
          simp only [List.getElem_cons_zero] at hco
          have hln : (((g :: t).length : Nat) : Int) ≠ 0 := by rw [List.length_cons]; omega
          have hl0 : (0 : Int) < ((g :: t).length : Nat) := by rw [List.length_cons]; omega
          have hl1 : ((((g :: t).length : Nat) : Int) == 0) = false := beq_eq_false_iff_ne.2 hln
          have hl2 : decide ((((g :: t).length : Nat) : Int) = 0) = false := decide_eq_false hln
          clear hsl9
          go_wp2_with fail
          refine (moored_any _).mono ?_
          rintro e wZ ⟨rfl, hBZ⟩
          have HBZ := Lib.hid (HB9.out.trans (hBZ.mono HB9.out.size))
          clear hBZ
          go_wp2_with fail
          go_ret
          exact ⟨rfl, HBZ.out⟩
    · skip
      rcases HREST.out with ⟨hF, how, hLn⟩ | ⟨f, hf, hF, hA, how, hh⟩
      · simp at how
      · injection hF with e1 e2
        subst e1 e2
        have c5 := C5.out f
        simp only [hA] at c5
        have C6 := Lib.hid c5
        clear c5 hA C5
        have hfq : (f : Int) ≤ q := by simpa using how
        clear how
        have qB0 := cell_of_row w8 _ 0 _ _ _ rB
        have qB1 := cell_of_row w8 _ 1 _ _ _ rB
        have qB2 := cell_of_row w8 _ 2 _ _ _ rB
        have qB3 := cell_of_row w8 _ 3 _ _ _ rB
        have qB4 := cell_of_row w8 _ 4 _ _ _ rB
        have qB5 := cell_of_row w8 _ 5 _ _ _ rB
        have qB6 := cell_of_row w8 _ 6 _ _ _ rB
        have qB7 := cell_of_row w8 _ 7 _ _ _ rB
        have qB8 := cell_of_row w8 _ 8 _ _ _ rB
        have qB9 := cell_of_row w8 _ 9 _ _ _ rB
        have qB10 := cell_of_row w8 _ 10 _ _ _ rB
        have qB11 := cell_of_row w8 _ 11 _ _ _ rB
        have qB12 := cell_of_row w8 _ 12 _ _ _ rB
        have qB13 := cell_of_row w8 _ 13 _ _ _ rB
        simp only [List.getElem?_toArray, List.getElem?_cons_zero, List.getElem?_cons_succ] at qB0 qB1 qB2 qB3 qB4 qB5 qB6 qB7 qB8 qB9 qB10 qB11 qB12 qB13
        go_wp2_with fail
        clear qB0 qB1 qB2 qB3 qB4 qB5 qB6 qB7 qB8 qB9 qB10 qB11 qB12 qB13
        refine (C6.out _ HB8.out).mono ?_
        rintro e w9 ⟨rfl, hB9⟩
        have hsl9 := (HSL8.out.below hB9 (Nat.le_refl _)).more hB9.size
        have hb9 := HB8.out.trans (hB9.mono HB8.out.size)
        have HB9 := Lib.hid hb9
        have hhh := hh
        clear hB9 hb9 hh C6 HB8 HREST rB lB
        rcases hhh with rfl | ⟨g, t, rfl, hg⟩
        · clear hsl9
          go_wp2_with fail
          refine (moored_any _).mono ?_
          rintro e wZ ⟨rfl, hBZ⟩
          have HBZ := Lib.hid (HB9.out.trans (hBZ.mono HB9.out.size))
          clear hBZ
          go_wp2_with fail
          go_ret
          exact ⟨rfl, HBZ.out⟩
        · obtain ⟨bo, oo, co, hv, hbo, hco⟩ := hsl9.int (k := 0) (by simp)
          injection hv with e1 _ e2
          subst e1 e2
          rw [Nat.add_zero] at hco
          simp only [List.getElem_cons_zero] at hco
          have hln : (((g :: t).length : Nat) : Int) ≠ 0 := by rw [List.length_cons]; omega
          have hl0 : (0 : Int) < ((g :: t).length : Nat) := by rw [List.length_cons]; omega
          have hl1 : ((((g :: t).length : Nat) : Int) == 0) = false := beq_eq_false_iff_ne.2 hln
          have hl2 : decide ((((g :: t).length : Nat) : Int) = 0) = false := decide_eq_false hln
          clear hsl9
          go_wp2_with fail
          refine (moored_any _).mono ?_
          rintro e wZ ⟨rfl, hBZ⟩
          have HBZ := Lib.hid (HB9.out.trans (hBZ.mono HB9.out.size))
          clear hBZ
          go_wp2_with fail
          go_ret
          exact ⟨rfl, HBZ.out⟩
  
  · skip
    have kab : (ka == 2) = false := by simp; omega
    have kad : decide (ka = 2) = false := decide_eq_false (by omega)
    have kal : ka < 2 := by omega
    have kac : decide (ka < 2) = true := decide_eq_true kal
    have kbb : (kb == 2) = false := by simp; omega
    have kbd : decide (kb = 2) = false := decide_eq_false (by omega)
    have kbl : kb < 2 := by omega
    have kbc : decide (kb < 2) = true := decide_eq_true kbl
    have hj0 : j < 0 := by
      by_cases hc : 0 ≤ j
      · have := hix.1 hc; omega
      · omega
    have hj1 : decide (0 ≤ j) = false := decide_eq_false (by omega)
    clear hix
    rcases hm1 with rfl | rfl
    · skip
      rcases HREST.out with ⟨hF, how, hLn⟩ | ⟨f, hf, hF, hA, how, hh⟩
      · injection hF with e1 e2
        subst e1 e2 hLn
        go_wp2_with fail
        refine (moored_any _).mono ?_
        rintro e wZ ⟨rfl, hBZ⟩
        have HBZ := Lib.hid (HB8.out.trans (hBZ.mono HB8.out.size))
        clear hBZ
        go_wp2_with fail
        go_ret
        exact ⟨rfl, HBZ.out⟩
      · injection hF with e1 e2
        subst e1 e2
        have c5 := C5.out f
        simp only [hA] at c5
        have C6 := Lib.hid c5
        clear c5 hA C5
        clear how
        have qB0 := cell_of_row w8 _ 0 _ _ _ rB
        have qB1 := cell_of_row w8 _ 1 _ _ _ rB
        have qB2 := cell_of_row w8 _ 2 _ _ _ rB
        have qB3 := cell_of_row w8 _ 3 _ _ _ rB
        have qB4 := cell_of_row w8 _ 4 _ _ _ rB
        have qB5 := cell_of_row w8 _ 5 _ _ _ rB
        have qB6 := cell_of_row w8 _ 6 _ _ _ rB
        have qB7 := cell_of_row w8 _ 7 _ _ _ rB
        have qB8 := cell_of_row w8 _ 8 _ _ _ rB
        have qB9 := cell_of_row w8 _ 9 _ _ _ rB
        have qB10 := cell_of_row w8 _ 10 _ _ _ rB
        have qB11 := cell_of_row w8 _ 11 _ _ _ rB
        have qB12 := cell_of_row w8 _ 12 _ _ _ rB
        have qB13 := cell_of_row w8 _ 13 _ _ _ rB
        simp only [List.getElem?_toArray, List.getElem?_cons_zero, List.getElem?_cons_succ] at qB0 qB1 qB2 qB3 qB4 qB5 qB6 qB7 qB8 qB9 qB10 qB11 qB12 qB13
        go_wp2_with fail
        clear qB0 qB1 qB2 qB3 qB4 qB5 qB6 qB7 qB8 qB9 qB10 qB11 qB12 qB13
        refine (C6.out _ HB8.out).mono ?_
        rintro e w9 ⟨rfl, hB9⟩
        have hsl9 := (HSL8.out.below hB9 (Nat.le_refl _)).more hB9.size
        have hb9 := HB8.out.trans (hB9.mono HB8.out.size)
        have HB9 := Lib.hid hb9
        have hhh := hh
        clear hB9 hb9 hh C6 HB8 HREST rB lB
        rcases hhh with rfl | ⟨g, t, rfl, hg⟩
        · clear hsl9
          go_wp2_with fail
          refine (moored_any _).mono ?_
          rintro e wZ ⟨rfl, hBZ⟩
          have HBZ := Lib.hid (HB9.out.trans (hBZ.mono HB9.out.size))
          clear hBZ
          go_wp2_with fail
          go_ret
          exact ⟨rfl, HBZ.out⟩
        · obtain ⟨bo, oo, co, hv, hbo, hco⟩ := hsl9.int (k := 0) (by simp)
          injection hv with e1 _ e2
          subst e1 e2
          rw [Nat.add_zero] at hco
          simp only [List.getElem_cons_zero] at hco
          have hln : (((g :: t).length : Nat) : Int) ≠ 0 := by rw [List.length_cons]; omega
          have hl0 : (0 : Int) < ((g :: t).length : Nat) := by rw [List.length_cons]; omega
          have hl1 : ((((g :: t).length : Nat) : Int) == 0) = false := beq_eq_false_iff_ne.2 hln
          have hl2 : decide ((((g :: t).length : Nat) : Int) = 0) = false := decide_eq_false hln
          clear hsl9
          go_wp2_with fail
          refine (moored_any _).mono ?_
          rintro e wZ ⟨rfl, hBZ⟩
          have HBZ := Lib.hid (HB9.out.trans (hBZ.mono HB9.out.size))
          clear hBZ
          go_wp2_with fail
          go_ret
          exact ⟨rfl, HBZ.out⟩
    · skip
      rcases HREST.out with ⟨hF, how, hLn⟩ | ⟨f, hf, hF, hA, how, hh⟩
      · injection hF with e1 e2
        subst e1 e2 hLn
        go_wp2_with fail
        refine (moored_any _).mono ?_
        rintro e wZ ⟨rfl, hBZ⟩
        have HBZ := Lib.hid (HB8.out.trans (hBZ.mono HB8.out.size))
        clear hBZ
        go_wp2_with fail
        go_ret
        exact ⟨rfl, HBZ.out⟩
      · injection hF with e1 e2
        subst e1 e2
        have c5 := C5.out f
        simp only [hA] at c5
        have C6 := Lib.hid c5
        clear c5 hA C5
        clear how
        have qB0 := cell_of_row w8 _ 0 _ _ _ rB
        have qB1 := cell_of_row w8 _ 1 _ _ _ rB
        have qB2 := cell_of_row w8 _ 2 _ _ _ rB
        have qB3 := cell_of_row w8 _ 3 _ _ _ rB
        have qB4 := cell_of_row w8 _ 4 _ _ _ rB
        have qB5 := cell_of_row w8 _ 5 _ _ _ rB
        have qB6 := cell_of_row w8 _ 6 _ _ _ rB
        have qB7 := cell_of_row w8 _ 7 _ _ _ rB
        have qB8 := cell_of_row w8 _ 8 _ _ _ rB
        have qB9 := cell_of_row w8 _ 9 _ _ _ rB
        have qB10 := cell_of_row w8 _ 10 _ _ _ rB
        have qB11 := cell_of_row w8 _ 11 _ _ _ rB
        have qB12 := cell_of_row w8 _ 12 _ _ _ rB
        have qB13 := cell_of_row w8 _ 13 _ _ _ rB
        simp only [List.getElem?_toArray, List.getElem?_cons_zero, List.getElem?_cons_succ] at qB0 qB1 qB2 qB3 qB4 qB5 qB6 qB7 qB8 qB9 qB10 qB11 qB12 qB13
        go_wp2_with fail
        clear qB0 qB1 qB2 qB3 qB4 qB5 qB6 qB7 qB8 qB9 qB10 qB11 qB12 qB13
        refine (C6.out _ HB8.out).mono ?_
        rintro e w9 ⟨rfl, hB9⟩
        have hsl9 := (HSL8.out.below hB9 (Nat.le_refl _)).more hB9.size
        have hb9 := HB8.out.trans (hB9.mono HB8.out.size)
        have HB9 := Lib.hid hb9
        have hhh := hh
        clear hB9 hb9 hh C6 HB8 HREST rB lB
        rcases hhh with rfl | ⟨g, t, rfl, hg⟩
        · clear hsl9
          go_wp2_with fail
          refine (moored_any _).mono ?_
          rintro e wZ ⟨rfl, hBZ⟩
          have HBZ := Lib.hid (HB9.out.trans (hBZ.mono HB9.out.size))
          clear hBZ
          go_wp2_with fail
          go_ret
          exact ⟨rfl, HBZ.out⟩
        · obtain ⟨bo, oo, co, hv, hbo, hco⟩ := hsl9.int (k := 0) (by simp)
          injection hv with e1 _ e2
          subst e1 e2
          rw [Nat.add_zero] at hco
          simp only [List.getElem_cons_zero] at hco
          have hln : (((g :: t).length : Nat) : Int) ≠ 0 := by rw [List.length_cons]; omega
          have hl0 : (0 : Int) < ((g :: t).length : Nat) := by rw [List.length_cons]; omega
          have hl1 : ((((g :: t).length : Nat) : Int) == 0) = false := beq_eq_false_iff_ne.2 hln
          have hl2 : decide ((((g :: t).length : Nat) : Int) = 0) = false := decide_eq_false hln
          clear hsl9
          go_wp2_with fail
          refine (moored_any _).mono ?_
          rintro e wZ ⟨rfl, hBZ⟩
          have HBZ := Lib.hid (HB9.out.trans (hBZ.mono HB9.out.size))
          clear hBZ
          go_wp2_with fail
          go_ret
          exact ⟨rfl, HBZ.out⟩

end Go.Proofs.Ytjgpghaofhcfnaa
