/- Texts on the program that the proof leans on, part 46. -/
import Derived.Test.YtjgpghaofhcfnaaYbe
import Derived.Test.YtjgpghaofhcfnaaYbc
import Derived.Test.YtjgpghaofhcfnaaYbg
import Derived.Test.YtjgpghaofhcfnaaYbh
import Derived.Test.YtjgpghaofhcfnaaYbq
import Derived.Test.YtjgpghaofhcfnaaYbr
import Derived.Test.YtjgpghaofhcfnaaYbs
set_option linter.unusedVariables false
set_option linter.unusedSimpArgs false

namespace Go.Proofs.Ytjgpghaofhcfnaa
open Go.RowKit
theorem Ld.most_bd {b : Ld.Bk} {m q : Nat} {v : Int} (hx : Ld.valid b = true) (hq : q < b.tides.length) (hm : m = 0 ∨ m = 1) (h : Ld.mostR b m q = (v, 0)) : 0 ≤ v ∧ v ≤ 200 := by
 rw [Ld.mostR_in hx hq hm] at h
 split at h
 · cases h
 · rcases Ld.findR_cases (fun k' => Ld.atWorst b m q (200 - (k' : Int))) (fun k' => 200 - (k' : Int)) 201 with ⟨h2, -⟩ | ⟨j, hj, -, -, h4⟩
   · rw [h2] at h; cases h
   · rw [h4] at h
     injection h with e1 e2
     omega
theorem Ld.Truly.rightly {b : Ld.Bk} {k : Ld.Kn} (h : Ld.Truly b k) : Ld.Truly (Ld.rightly b k) k := ⟨h.len, h.at0, h.at1, h.empty, h.high⟩
set_option maxRecDepth 100000 in
set_option maxHeartbeats 20000000 in
theorem LandingTrue_any (b : Ld.Bk) (T D : Value) (V1 : Value) (bits : List Int) (n0 n1 n2 : Int) (w : World) (hb : RB w w.heap.size b T D) (hbits : Sl w w.heap.size 1 V1 bits.length (bits.map I)) :
 Calls Try.prog 3 #[vBk T D b, V1, .agg #[I n0, I n1, I n2]] w fun e w' => e = .returned (.bool true) ∧ Below w.heap.size w w' := by
 obtain ⟨A0, k0, rfl⟩ := hb.tides.form
 obtain ⟨A1, k1, rfl⟩ := hb.sounds.form
 obtain ⟨o, ho⟩ : ∃ o : Obj, o = .cells (rBk (.slice A0 b.tides.length k0) (.slice A1 b.sounds.length k1) b) 30 := ⟨_, rfl⟩
 obtain ⟨o2, ho2⟩ : ∃ o : Obj, o = .cells #[I n0, I n1, I n2] 32 := ⟨_, rfl⟩
 obtain ⟨W0, hW0⟩ : ∃ W : World, W = (w.alloc o).alloc o2 := ⟨_, rfl⟩
 have hb0 : Below w.heap.size w W0 := by rw [hW0]; exact ((Below.refl _ _).alloc (Nat.le_refl _) _).alloc (by simp) _
 have rB : W0.heap[w.heap.size]? = some o := by rw [hW0]; exact (Below.heap_alloc _ _ _ (by simp)).trans (heap_at _ _ rfl)
 have rN : W0.heap[w.heap.size + 1]? = some o2 := by rw [hW0]; exact heap_at _ _ (by simp)
 have lB : w.heap.size < W0.heap.size := by rw [hW0]; simp; omega
 have lN : w.heap.size + 1 < W0.heap.size := by rw [hW0]; simp
 go_enter Try.func3, Try.ntmps3
 go_wp2_with fail
 rw [← ho, ← ho2, ← hW0]
 subst ho ho2
 clear hW0
 have hRB := (hb.below hb0 (Nat.le_refl _)).more hb0.size
 refine (sound_any b _ _ W0 hRB).mono ?_
 rintro e w1 ⟨rfl, hB1⟩
 replace rB := (hB1.block _ lB).trans rB
 replace lB := Nat.lt_of_lt_of_le lB hB1.size
 replace rN := (hB1.block _ lN).trans rN
 replace lN := Nat.lt_of_lt_of_le lN hB1.size
 have hb1 := hb0.trans (hB1.mono hb0.size)
 clear hRB hb0 hB1
 by_cases hck : Ld.check b = 0
 case neg =>
  rw [decide_eq_false hck]
  clear rB rN lB lN
  go_wp2_with fail
  refine (moored_any _).mono ?_
  rintro e w2 ⟨rfl, hB2⟩
  have HB2 := Lib.hid (hb1.trans (hB2.mono hb1.size))
  clear hB2
  go_wp2_with fail
  go_ret
  exact ⟨rfl, HB2.out⟩
 rw [decide_eq_true hck]
 have hval : Ld.valid b = true := by
  unfold Ld.check at hck
  split at hck
  · assumption
  · omega
 have hsz := Ld.sized_bd (Ld.valid_parts hval).1
 have HRB := Lib.hid (show ∀ W', Below w.heap.size w W' → RB W' W'.heap.size b (.slice A0 b.tides.length k0) (.slice A1 b.sounds.length k1) from fun W' h => (hb.below h (Nat.le_refl _)).more h.size)
 clear hb hck
 have HBI := Lib.hid (show ∀ W', Below w.heap.size w W' → Sl W' W'.heap.size 1 V1 bits.length (bits.map I) from fun W' h => (hbits.below h (Nat.le_refl _)).more h.size)
 clear hbits
 have qB0 := cell_of_row w1 _ 0 _ _ _ rB
 have qB1 := cell_of_row w1 _ 1 _ _ _ rB
 have qB2 := cell_of_row w1 _ 2 _ _ _ rB
 have qB3 := cell_of_row w1 _ 3 _ _ _ rB
 have qB4 := cell_of_row w1 _ 4 _ _ _ rB
 have qB5 := cell_of_row w1 _ 5 _ _ _ rB
 have qB6 := cell_of_row w1 _ 6 _ _ _ rB
 have qB7 := cell_of_row w1 _ 7 _ _ _ rB
 have qB8 := cell_of_row w1 _ 8 _ _ _ rB
 have qB9 := cell_of_row w1 _ 9 _ _ _ rB
 have qB10 := cell_of_row w1 _ 10 _ _ _ rB
 have qB11 := cell_of_row w1 _ 11 _ _ _ rB
 have qB12 := cell_of_row w1 _ 12 _ _ _ rB
 have qB13 := cell_of_row w1 _ 13 _ _ _ rB
 simp only [List.getElem?_toArray, List.getElem?_cons_zero, List.getElem?_cons_succ] at qB0 qB1 qB2 qB3 qB4 qB5 qB6 qB7 qB8 qB9 qB10 qB11 qB12 qB13
 go_wp2_with fail
 clear qB0 qB1 qB2 qB3 qB4 qB5 qB6 qB7 qB8 qB9 qB10 qB11 qB12 qB13
 refine (truly_any b (.slice A0 b.tides.length k0) (.slice A1 b.sounds.length k1) V1 bits hval _ (HRB.out _ hb1) (HBI.out _ hb1)).mono ?_
 rintro e w2 ⟨⟨H, rfl, hH⟩, hB⟩
 replace rB := (hB.block _ lB).trans rB
 replace lB := Nat.lt_of_lt_of_le lB hB.size
 replace rN := (hB.block _ lN).trans rN
 replace lN := Nat.lt_of_lt_of_le lN hB.size
 have hb2 := hb1.trans (hB.mono hb1.size)
 clear hB hb1
 have hkt := Ld.trulyK_ok hval bits
 obtain ⟨k, hk⟩ : ∃ k, Ld.trulyK b bits = k := ⟨_, rfl⟩
 rw [hk] at hkt hH ⊢
 clear hk HBI
 obtain ⟨AH, kH, rfl⟩ := hH.form
 have HKT := Lib.hid hkt
 have HVAL := Lib.hid hval
 have HSZ := Lib.hid hsz
 have HH := Lib.hid hH
 clear hH hkt hval hsz
 have qB0 := cell_of_row w2 _ 0 _ _ _ rB
 have qB1 := cell_of_row w2 _ 1 _ _ _ rB
 have qB2 := cell_of_row w2 _ 2 _ _ _ rB
 have qB3 := cell_of_row w2 _ 3 _ _ _ rB
 have qB4 := cell_of_row w2 _ 4 _ _ _ rB
 have qB5 := cell_of_row w2 _ 5 _ _ _ rB
 have qB6 := cell_of_row w2 _ 6 _ _ _ rB
 have qB7 := cell_of_row w2 _ 7 _ _ _ rB
 have qB8 := cell_of_row w2 _ 8 _ _ _ rB
 have qB9 := cell_of_row w2 _ 9 _ _ _ rB
 have qB10 := cell_of_row w2 _ 10 _ _ _ rB
 have qB11 := cell_of_row w2 _ 11 _ _ _ rB
 have qB12 := cell_of_row w2 _ 12 _ _ _ rB
 have qB13 := cell_of_row w2 _ 13 _ _ _ rB
 simp only [List.getElem?_toArray, List.getElem?_cons_zero, List.getElem?_cons_succ] at qB0 qB1 qB2 qB3 qB4 qB5 qB6 qB7 qB8 qB9 qB10 qB11 qB12 qB13
 go_wp2_with fail
 clear qB0 qB1 qB2 qB3 qB4 qB5 qB6 qB7 qB8 qB9 qB10 qB11 qB12 qB13
 refine name_calls ?_
 intro w3 hW
 have hA : Below w2.heap.size w2 w3 := by rw [hW]; exact (Below.refl _ _).alloc (Nat.le_refl _) _
 have rK : w3.heap[w2.heap.size]? = some (.cells #[.slice AH k.heights.length kH, I k.f0, I k.f1, I k.empty] 37 (0, 0)) := by rw [hW]; exact heap_at _ _ rfl
 have lK : w2.heap.size < w3.heap.size := by rw [hW]; simp
 clear hW
 obtain ⟨KB, hKB⟩ : ∃ n : Nat, n = w2.heap.size := ⟨_, rfl⟩
 rw [← hKB] at rK lK ⊢
 clear hKB
 have hH3 := (HH.out.below hA (Nat.le_refl _)).more hA.size
 replace rB := (hA.block _ lB).trans rB
 replace lB := Nat.lt_of_lt_of_le lB hA.size
 replace rN := (hA.block _ lN).trans rN
 replace lN := Nat.lt_of_lt_of_le lN hA.size
 have hb3 := hb2.trans (hA.mono hb2.size)
 clear hA hb2
 refine (rightly_any b (.slice A0 b.tides.length k0) (.slice A1 b.sounds.length k1) (.slice AH k.heights.length kH) k HVAL.out HKT.out _ (HRB.out _ hb3) hH3).mono ?_
 rintro e w4 ⟨⟨V', rfl, hV⟩, hB⟩
 have hH4 := (hH3.below hB (Nat.le_refl _)).more hB.size
 clear hH3 HH
 replace rB := (hB.block _ lB).trans rB
 replace lB := Nat.lt_of_lt_of_le lB hB.size
 replace rN := (hB.block _ lN).trans rN
 replace lN := Nat.lt_of_lt_of_le lN hB.size
 replace rK := (hB.block _ lK).trans rK
 replace lK := Nat.lt_of_lt_of_le lK hB.size
 have hb4 := hb3.trans (hB.mono hb3.size)
 clear hB hb3
 have hxv := Ld.rightly_valid (k := k) HVAL.out
 have hxt := HKT.out.rightly
 have hsp := fun q m (hq1 : q < b.tides.length) hm1 y (hy0 : (0 : Int) ≤ y) (hy1 : y ≤ 200) => Ld.true_spec (q := q) (m := m) (y := y) HVAL.out HKT.out hq1 hm1 hy0 hy1
 have hxl : (Ld.rightly b k).tides = b.tides := rfl
 rw [show vBk (.slice A0 b.tides.length k0) V' b = vBk (.slice A0 b.tides.length k0) V' (Ld.rightly b k) from rfl]
 obtain ⟨x, hx⟩ : ∃ x, Ld.rightly b k = x := ⟨_, rfl⟩
 simp only [hx] at hxv hxt hsp hxl hV
 rw [hx]
 obtain ⟨AX, kx, rfl⟩ := hV.form
 have HXV := Lib.hid hxv
 have HXT := Lib.hid hxt
 have HSP := Lib.hid hsp
 have HXL := Lib.hid hxl
 have hR4 : RB w4 w4.heap.size x (.slice A0 b.tides.length k0) (.slice AX x.sounds.length kx) := ⟨by rw [hxl]; exact (HRB.out _ hb4).tides, hV⟩
 have HR4 := Lib.hid hR4
 have HH4 := Lib.hid hH4
 clear hxv hxt hsp hxl hx hV hR4 hH4 HKT
 go_upto_region 3 with fail
 refine name_world ?_
 intro w1 hW
 have hA : Below w4.heap.size w4 w1 := by rw [hW]; exact (Below.refl _ _).alloc (Nat.le_refl _) _
 have rX : w1.heap[w4.heap.size]? = some (.cells (rBk (.slice A0 b.tides.length k0) (.slice AX x.sounds.length kx) x) 30 (0, 0)) := by rw [hW]; exact heap_at _ _ rfl
 have lX : w4.heap.size < w1.heap.size := by rw [hW]; simp
 clear hW
 have HRX := Lib.hid (show ∀ W', Below w1.heap.size w1 W' → RB W' W'.heap.size x (.slice A0 b.tides.length k0) (.slice AX x.sounds.length kx) from fun W' h => (HR4.out.below (hA.trans (h.mono hA.size)) (Nat.le_refl _)).more (Nat.le_trans hA.size h.size))
 have HHX := Lib.hid (show ∀ W', Below w1.heap.size w1 W' → Sl W' W'.heap.size 1 (.slice AH k.heights.length kH) k.heights.length (k.heights.map I) from fun W' h => (HH4.out.below (hA.trans (h.mono hA.size)) (Nat.le_refl _)).more (Nat.le_trans hA.size h.size))
 have hval := HVAL.out
 have hsz := HSZ.out
 clear HR4 HH4 HVAL HSZ
 have hx1 : Below w1.heap.size w1 w1 := Below.refl _ _
 replace rB := (hA.block _ lB).trans rB
 replace lB := Nat.lt_of_lt_of_le lB hA.size
 replace rN := (hA.block _ lN).trans rN
 replace lN := Nat.lt_of_lt_of_le lN hA.size
 replace rK := (hA.block _ lK).trans rK
 replace lK := Nat.lt_of_lt_of_le lK hA.size
 have hb1 := hb4.trans (hA.mono hb4.size)
 clear hA hb4
 obtain ⟨q, hq⟩ : ∃ q : Nat, (q : Int) = n1 % b.tides.length := ⟨_, Int.toNat_of_nonneg (Int.emod_nonneg _ (by omega))⟩
 have hq1 : q < b.tides.length := by have := Int.emod_lt_of_pos n1 (show (0 : Int) < b.tides.length by omega); omega
 obtain ⟨m, hm⟩ : ∃ m : Nat, (m : Int) = n0 % 2 := ⟨_, Int.toNat_of_nonneg (Int.emod_nonneg _ (by omega))⟩
 have hm1 : m = 0 ∨ m = 1 := by have := Int.emod_lt_of_pos n0 (show (0 : Int) < 2 by omega); omega
 obtain ⟨y, hy⟩ : ∃ y : Int, y = n2 % 201 := ⟨_, rfl⟩
 have hy0 : 0 ≤ y := by have := Int.emod_nonneg n2 (show (201 : Int) ≠ 0 by omega); omega
 have hy1 : y ≤ 200 := by have := Int.emod_lt_of_pos n2 (show (0 : Int) < 201 by omega); omega
 have HVAL := Lib.hid hval
 have HSZ := Lib.hid hsz
 have hs1 : (0 : Int) < b.tides.length := by omega
 have hs2 : (b.tides.length : Int) ≤ 1000 := by omega
 clear hval hsz
 have qB0 := cell_of_row w1 _ 0 _ _ _ rB
 simp only [List.getElem?_toArray, List.getElem?_cons_zero, List.getElem?_cons_succ] at qB0
 have qN0 := cell_of_row w1 _ 0 _ _ _ rN
 have qN1 := cell_of_row w1 _ 1 _ _ _ rN
 have qN2 := cell_of_row w1 _ 2 _ _ _ rN
 simp only [List.getElem?_toArray, List.getElem?_cons_zero, List.getElem?_cons_succ] at qN0 qN1 qN2
 go_wp2_with fail
 go_region_held3 (fun w' => Held w1 w') (first | assumption | exact held_start _ | exact held_step (by assumption) (by assumption) | exact held_step (by assumption) (held_start _) | go_keep)
  (first | (go_at_call 16; refine (mod_any _ _ (by omega) (by omega) _).mono ?_; rintro e w2 ⟨rfl, hB2⟩))
 have hHE : Held w1 w2 := by assumption
 rw [← hm, ← hq, ← hy]
 obtain ⟨u, hu⟩ : ∃ u : World, u = w2 := ⟨_, rfl⟩
 rw [← hu] at hHE ⊢
 clear hu hB2
 have hBu := hHE.2.2
 replace rB := (hBu.block _ lB).trans rB
 replace lB := Nat.lt_of_lt_of_le lB hBu.size
 clear rN lN
 replace rK := (hBu.block _ lK).trans rK
 replace lK := Nat.lt_of_lt_of_le lK hBu.size
 replace rX := (hBu.block _ lX).trans rX
 replace lX := Nat.lt_of_lt_of_le lX hBu.size
 skip
 have hbu := hb1.trans (hBu.mono hb1.size)
 have hxu := hx1.trans (hBu.mono hx1.size)
 clear qB0 qN0 qN1 qN2 hHE hBu hb1 hx1 hs1 hs2 hm hq hy
 have hsp := HSP.out q m hq1 hm1 y hy0 hy1
 have hxl : x.tides.length = b.tides.length := by rw [HXL.out]
 have hcx : Ld.check x = 0 := by unfold Ld.check; rw [if_pos HXV.out]
 have c1 := fun W' h => right_any x (.slice A0 b.tides.length k0) (.slice AX x.sounds.length kx) W' (HRX.out W' h)
 have c2 := fun W' h => Wrong_any x (.slice A0 b.tides.length k0) (.slice AX x.sounds.length kx) W' (HRX.out W' h)
 have c3 := fun W' h => Height_any x (.slice A0 b.tides.length k0) (.slice AX x.sounds.length kx) q W' (HRX.out W' h)
 have c4 := fun W' h => floor_any x (.slice A0 b.tides.length k0) (.slice AX x.sounds.length kx) m W' (HRX.out W' h)
 have c5 := fun W' h => Lands_any x (.slice A0 b.tides.length k0) (.slice AX x.sounds.length kx) m q y W' (HRX.out W' h)
 have c6 := fun (a f : Nat) (ha : a = 0 ∨ a = 1) (hf : f < b.tides.length) (z : Int) (hz0 : 0 ≤ z) (hz1 : z ≤ 200) W' h => afloat_any x (.slice A0 b.tides.length k0) (.slice AX x.sounds.length kx) (.slice AH k.heights.length kH) k HXV.out HXT.out a f ha (by rw [HXL.out]; exact hf) z hz0 hz1 W' (HHX.out W' h)
 have c7 := fun W' h => most_any x (.slice A0 b.tides.length k0) (.slice AX x.sounds.length kx) m q W' (HRX.out W' h)
 have c8 := fun W' h => first_any x (.slice A0 b.tides.length k0) (.slice AX x.sounds.length kx) m y W' (HRX.out W' h)
 have c9 := fun W' h => Both_any x (.slice A0 b.tides.length k0) (.slice AX x.sounds.length kx) y W' (HRX.out W' h)
 obtain ⟨s1, s2, s3, s4, s5, s6, s7, ⟨kind, s8, s9, s10, s11⟩, s12, s13, s14, s15⟩ := hsp
 have hkh : k.heights[q]? = some (k.high q) := by
  have h1 : q < k.heights.length := by rw [HXT.out.len, hxl]; exact hq1
  simp [Ld.Kn.high, List.getD_eq_getElem?_getD, h1]
 have s12' : (Ld.mostR x m q).2 = 0 → 0 ≤ (Ld.mostR x m q).1 ∧ (Ld.mostR x m q).1 ≤ 200 ∧ Ld.afloat x k m q (Ld.mostR x m q).1 = true := by
  intro h
  have h1 : Ld.mostR x m q = ((Ld.mostR x m q).1, 0) := by rw [← h]
  obtain ⟨h2, h3⟩ := Ld.most_bd HXV.out (by rw [hxl]; exact hq1) hm1 h1
  exact ⟨h2, h3, s12 _ h1⟩
 have s13' : (Ld.firstR x m y).2 = 0 → ∃ f : Nat, (Ld.firstR x m y).1 = f ∧ f < b.tides.length ∧ Ld.afloat x k m f y = true := by
  intro h
  exact s13 _ (by rw [← h])
 clear s12 s13
 have C6 := Lib.hid c6
 have c10 := c6 m q hm1 hq1 y hy0 hy1
 obtain ⟨fl, g7⟩ : ∃ v, Ld.afloat x k m q y = v := ⟨_, rfl⟩
 simp only [g7] at c10 s10 s11
 obtain ⟨⟨p1, z1⟩, g1⟩ : ∃ v : Ld.Sp, Ld.heightR x q = v := ⟨_, rfl⟩
 obtain ⟨⟨p2, z2⟩, g2⟩ : ∃ v : Ld.Sp, Ld.floorR x m = v := ⟨_, rfl⟩
 obtain ⟨⟨p4, z4⟩, g4⟩ : ∃ v : Int × Int, Ld.mostR x m q = v := ⟨_, rfl⟩
 obtain ⟨⟨p5, z5⟩, g5⟩ : ∃ v : Int × Int, Ld.firstR x m y = v := ⟨_, rfl⟩
 obtain ⟨L, g6⟩ : ∃ L : List Int, Ld.bothL x y = L := ⟨_, rfl⟩
 have hr : Ld.valid x = true := HXV.out
 simp only [g1] at s6 c3
 simp only [g2] at s7 c4
 rw [g4] at s12'
 rw [g5] at s13'
 rw [g6] at s14 s15
 have e1 : (Ld.valid x && Ld.possible x) = true := s1
 simp only [e1, hcx] at c1
 simp only [s2, hcx, List.length_nil, List.map_nil] at c2
 simp only [s3] at c3
 simp only [s4] at c4
 simp only [s8] at c5
 simp only [g4] at c7
 simp only [g5] at c8
 simp only [g6, s5] at c9
 have C1 := Lib.hid c1
 have C2 := Lib.hid c2
 have C3 := Lib.hid c3
 have C4 := Lib.hid c4
 have C5 := Lib.hid c5
 have C7 := Lib.hid c7
 have C8 := Lib.hid c8
 have C9 := Lib.hid c9
 have C10 := Lib.hid c10
 have S6 := Lib.hid s6
 have S7 := Lib.hid s7
 have S9 := Lib.hid s9
 have S10 := Lib.hid s10
 have S11 := Lib.hid s11
 have S14 := Lib.hid s14
 have S15 := Lib.hid s15
 have S12 := Lib.hid s12'
 have S13 := Lib.hid s13'
 have HKH := Lib.hid hkh
 have HNB := Lib.hid hxl
 clear c1 c2 c3 c4 c5 c6 c7 c8 c9 c10 s1 s2 s3 s4 s5 s6 s7 s8 s9 s10 s11 s12' s13' s14 s15 hcx hr e1 hkh hxl g1 g2 g4 g5 g6 g7 HSP HRX
 have qX0 := cell_of_row u _ 0 _ _ _ rX
 have qX1 := cell_of_row u _ 1 _ _ _ rX
 have qX2 := cell_of_row u _ 2 _ _ _ rX
 have qX3 := cell_of_row u _ 3 _ _ _ rX
 have qX4 := cell_of_row u _ 4 _ _ _ rX
 have qX5 := cell_of_row u _ 5 _ _ _ rX
 have qX6 := cell_of_row u _ 6 _ _ _ rX
 have qX7 := cell_of_row u _ 7 _ _ _ rX
 have qX8 := cell_of_row u _ 8 _ _ _ rX
 have qX9 := cell_of_row u _ 9 _ _ _ rX
 have qX10 := cell_of_row u _ 10 _ _ _ rX
 have qX11 := cell_of_row u _ 11 _ _ _ rX
 have qX12 := cell_of_row u _ 12 _ _ _ rX
 have qX13 := cell_of_row u _ 13 _ _ _ rX
 simp only [List.getElem?_toArray, List.getElem?_cons_zero, List.getElem?_cons_succ] at qX0 qX1 qX2 qX3 qX4 qX5 qX6 qX7 qX8 qX9 qX10 qX11 qX12 qX13
 go_wp2_with fail
 clear qX0 qX1 qX2 qX3 qX4 qX5 qX6 qX7 qX8 qX9 qX10 qX11 qX12 qX13
 refine (C1.out _ hxu).mono ?_
 rintro e w5 ⟨rfl, hB⟩
 replace rB := (hB.block _ lB).trans rB
 replace lB := Nat.lt_of_lt_of_le lB hB.size
 replace rK := (hB.block _ lK).trans rK
 replace lK := Nat.lt_of_lt_of_le lK hB.size
 replace rX := (hB.block _ lX).trans rX
 replace lX := Nat.lt_of_lt_of_le lX hB.size
 have hb5 := hbu.trans (hB.mono hbu.size)
 have hx5 := hxu.trans (hB.mono hxu.size)
 clear hB hbu hxu
 have qX0 := cell_of_row w5 _ 0 _ _ _ rX
 have qX1 := cell_of_row w5 _ 1 _ _ _ rX
 have qX2 := cell_of_row w5 _ 2 _ _ _ rX
 have qX3 := cell_of_row w5 _ 3 _ _ _ rX
 have qX4 := cell_of_row w5 _ 4 _ _ _ rX
 have qX5 := cell_of_row w5 _ 5 _ _ _ rX
 have qX6 := cell_of_row w5 _ 6 _ _ _ rX
 have qX7 := cell_of_row w5 _ 7 _ _ _ rX
 have qX8 := cell_of_row w5 _ 8 _ _ _ rX
 have qX9 := cell_of_row w5 _ 9 _ _ _ rX
 have qX10 := cell_of_row w5 _ 10 _ _ _ rX
 have qX11 := cell_of_row w5 _ 11 _ _ _ rX
 have qX12 := cell_of_row w5 _ 12 _ _ _ rX
 have qX13 := cell_of_row w5 _ 13 _ _ _ rX
 simp only [List.getElem?_toArray, List.getElem?_cons_zero, List.getElem?_cons_succ] at qX0 qX1 qX2 qX3 qX4 qX5 qX6 qX7 qX8 qX9 qX10 qX11 qX12 qX13
 go_wp2_with fail
 clear qX0 qX1 qX2 qX3 qX4 qX5 qX6 qX7 qX8 qX9 qX10 qX11 qX12 qX13
 refine (C2.out _ hx5).mono ?_
 rintro e w6 ⟨⟨vw, rfl, hsw⟩, hB⟩
 obtain ⟨Aw, cw, rfl⟩ := hsw.form
 clear hsw
 replace rB := (hB.block _ lB).trans rB
 replace lB := Nat.lt_of_lt_of_le lB hB.size
 replace rK := (hB.block _ lK).trans rK
 replace lK := Nat.lt_of_lt_of_le lK hB.size
 replace rX := (hB.block _ lX).trans rX
 replace lX := Nat.lt_of_lt_of_le lX hB.size
 have hb6 := hb5.trans (hB.mono hb5.size)
 have hx6 := hx5.trans (hB.mono hx5.size)
 clear hB hb5 hx5
 have qX0 := cell_of_row w6 _ 0 _ _ _ rX
 have qX1 := cell_of_row w6 _ 1 _ _ _ rX
 have qX2 := cell_of_row w6 _ 2 _ _ _ rX
 have qX3 := cell_of_row w6 _ 3 _ _ _ rX
 have qX4 := cell_of_row w6 _ 4 _ _ _ rX
 have qX5 := cell_of_row w6 _ 5 _ _ _ rX
 have qX6 := cell_of_row w6 _ 6 _ _ _ rX
 have qX7 := cell_of_row w6 _ 7 _ _ _ rX
 have qX8 := cell_of_row w6 _ 8 _ _ _ rX
 have qX9 := cell_of_row w6 _ 9 _ _ _ rX
 have qX10 := cell_of_row w6 _ 10 _ _ _ rX
 have qX11 := cell_of_row w6 _ 11 _ _ _ rX
 have qX12 := cell_of_row w6 _ 12 _ _ _ rX
 have qX13 := cell_of_row w6 _ 13 _ _ _ rX
 simp only [List.getElem?_toArray, List.getElem?_cons_zero, List.getElem?_cons_succ] at qX0 qX1 qX2 qX3 qX4 qX5 qX6 qX7 qX8 qX9 qX10 qX11 qX12 qX13
 go_wp2_with fail
 clear qX0 qX1 qX2 qX3 qX4 qX5 qX6 qX7 qX8 qX9 qX10 qX11 qX12 qX13
 refine (C3.out _ hx6).mono ?_
 rintro e w7 ⟨rfl, hB⟩
 replace rB := (hB.block _ lB).trans rB
 replace lB := Nat.lt_of_lt_of_le lB hB.size
 replace rK := (hB.block _ lK).trans rK
 replace lK := Nat.lt_of_lt_of_le lK hB.size
 replace rX := (hB.block _ lX).trans rX
 replace lX := Nat.lt_of_lt_of_le lX hB.size
 have hb7 := hb6.trans (hB.mono hb6.size)
 have hx7 := hx6.trans (hB.mono hx6.size)
 clear hB hb6 hx6
 have qX0 := cell_of_row w7 _ 0 _ _ _ rX
 have qX1 := cell_of_row w7 _ 1 _ _ _ rX
 have qX2 := cell_of_row w7 _ 2 _ _ _ rX
 have qX3 := cell_of_row w7 _ 3 _ _ _ rX
 have qX4 := cell_of_row w7 _ 4 _ _ _ rX
 have qX5 := cell_of_row w7 _ 5 _ _ _ rX
 have qX6 := cell_of_row w7 _ 6 _ _ _ rX
 have qX7 := cell_of_row w7 _ 7 _ _ _ rX
 have qX8 := cell_of_row w7 _ 8 _ _ _ rX
 have qX9 := cell_of_row w7 _ 9 _ _ _ rX
 have qX10 := cell_of_row w7 _ 10 _ _ _ rX
 have qX11 := cell_of_row w7 _ 11 _ _ _ rX
 have qX12 := cell_of_row w7 _ 12 _ _ _ rX
 have qX13 := cell_of_row w7 _ 13 _ _ _ rX
 simp only [List.getElem?_toArray, List.getElem?_cons_zero, List.getElem?_cons_succ] at qX0 qX1 qX2 qX3 qX4 qX5 qX6 qX7 qX8 qX9 qX10 qX11 qX12 qX13
 go_wp2_with fail
 clear qX0 qX1 qX2 qX3 qX4 qX5 qX6 qX7 qX8 qX9 qX10 qX11 qX12 qX13
 refine name_calls ?_
 intro w8 hW
 have hA : Below w7.heap.size w7 w8 := by rw [hW]; exact (Below.refl _ _).alloc (Nat.le_refl _) _
 have rS : w8.heap[w7.heap.size]? = some (.cells #[I p1, I z1] 24 (0, 0)) := by rw [hW]; exact heap_at _ _ rfl
 have lS : w7.heap.size < w8.heap.size := by rw [hW]; simp
 clear hW
 replace rB := (hA.block _ lB).trans rB
 replace lB := Nat.lt_of_lt_of_le lB hA.size
 replace rK := (hA.block _ lK).trans rK
 replace lK := Nat.lt_of_lt_of_le lK hA.size
 replace rX := (hA.block _ lX).trans rX
 replace lX := Nat.lt_of_lt_of_le lX hA.size
 have hb8 := hb7.trans (hA.mono hb7.size)
 have hx8 := hx7.trans (hA.mono hx7.size)
 clear hA hb7 hx7
 refine (C4.out _ hx8).mono ?_
 rintro e w9 ⟨rfl, hB⟩
 replace rB := (hB.block _ lB).trans rB
 replace lB := Nat.lt_of_lt_of_le lB hB.size
 replace rK := (hB.block _ lK).trans rK
 replace lK := Nat.lt_of_lt_of_le lK hB.size
 replace rX := (hB.block _ lX).trans rX
 replace lX := Nat.lt_of_lt_of_le lX hB.size
 replace rS := (hB.block _ lS).trans rS
 replace lS := Nat.lt_of_lt_of_le lS hB.size
 have hb9 := hb8.trans (hB.mono hb8.size)
 have hx9 := hx8.trans (hB.mono hx8.size)
 clear hB hb8 hx8
 have qX0 := cell_of_row w9 _ 0 _ _ _ rX
 have qX1 := cell_of_row w9 _ 1 _ _ _ rX
 have qX2 := cell_of_row w9 _ 2 _ _ _ rX
 have qX3 := cell_of_row w9 _ 3 _ _ _ rX
 have qX4 := cell_of_row w9 _ 4 _ _ _ rX
 have qX5 := cell_of_row w9 _ 5 _ _ _ rX
 have qX6 := cell_of_row w9 _ 6 _ _ _ rX
 have qX7 := cell_of_row w9 _ 7 _ _ _ rX
 have qX8 := cell_of_row w9 _ 8 _ _ _ rX
 have qX9 := cell_of_row w9 _ 9 _ _ _ rX
 have qX10 := cell_of_row w9 _ 10 _ _ _ rX
 have qX11 := cell_of_row w9 _ 11 _ _ _ rX
 have qX12 := cell_of_row w9 _ 12 _ _ _ rX
 have qX13 := cell_of_row w9 _ 13 _ _ _ rX
 simp only [List.getElem?_toArray, List.getElem?_cons_zero, List.getElem?_cons_succ] at qX0 qX1 qX2 qX3 qX4 qX5 qX6 qX7 qX8 qX9 qX10 qX11 qX12 qX13
 go_wp2_with fail
 clear qX0 qX1 qX2 qX3 qX4 qX5 qX6 qX7 qX8 qX9 qX10 qX11 qX12 qX13
 refine name_calls ?_
 intro w10 hW
 have hA : Below w9.heap.size w9 w10 := by rw [hW]; exact (Below.refl _ _).alloc (Nat.le_refl _) _
 have rT : w10.heap[w9.heap.size]? = some (.cells #[I p2, I z2] 24 (0, 0)) := by rw [hW]; exact heap_at _ _ rfl
 have lT : w9.heap.size < w10.heap.size := by rw [hW]; simp
 clear hW
 replace rB := (hA.block _ lB).trans rB
 replace lB := Nat.lt_of_lt_of_le lB hA.size
 replace rK := (hA.block _ lK).trans rK
 replace lK := Nat.lt_of_lt_of_le lK hA.size
 replace rX := (hA.block _ lX).trans rX
 replace lX := Nat.lt_of_lt_of_le lX hA.size
 replace rS := (hA.block _ lS).trans rS
 replace lS := Nat.lt_of_lt_of_le lS hA.size
 have hb10 := hb9.trans (hA.mono hb9.size)
 have hx10 := hx9.trans (hA.mono hx9.size)
 clear hA hb9 hx9
 refine (C5.out _ hx10).mono ?_
 rintro e w11 ⟨rfl, hB⟩
 replace rB := (hB.block _ lB).trans rB
 replace lB := Nat.lt_of_lt_of_le lB hB.size
 replace rK := (hB.block _ lK).trans rK
 replace lK := Nat.lt_of_lt_of_le lK hB.size
 replace rX := (hB.block _ lX).trans rX
 replace lX := Nat.lt_of_lt_of_le lX hB.size
 replace rS := (hB.block _ lS).trans rS
 replace lS := Nat.lt_of_lt_of_le lS hB.size
 replace rT := (hB.block _ lT).trans rT
 replace lT := Nat.lt_of_lt_of_le lT hB.size
 have hb11 := hb10.trans (hB.mono hb10.size)
 have hx11 := hx10.trans (hB.mono hx10.size)
 clear hB hb10 hx10
 clear C1 C2 C3 C4 C5
 go_upto_region 11 with fail
 have hfm : w11.cell? ⟨KB, 1 + m, none⟩ = some (I (k.tr.at m)) := by
  have h1 := cell_of_row w11 _ (1 + m) _ _ _ rK
  rw [h1]
  rcases hm1 with rfl | rfl <;> rfl
 obtain ⟨hb, ho, hc, hv, hbl, hcl⟩ := (HHX.out _ hx11).int (k := q) (by rw [HXT.out.len, HNB.out]; exact hq1)
 injection hv with e1 _ e2
 subst e1 e2
 have hhh : k.heights[q]? = some (k.high q) := HKH.out
 rw [List.getElem?_eq_getElem (by rw [HXT.out.len, HNB.out]; exact hq1)] at hhh
 injection hhh with hhh
 rw [hhh] at hcl
 have hcs := S6.out
 have hct := S7.out
 have HCS := Lib.hid (show ∀ W', Calls Try.prog 22 #[vSp ⟨p1, z1⟩, I (k.high q)] W' fun e w' => e = .returned (.bool true) ∧ Below W'.heap.size W' w' from fun W' => by have := containsSp_any ⟨p1, z1⟩ (k.high q) W'; rw [hcs] at this; exact this)
 have HCT := Lib.hid (show ∀ W', Calls Try.prog 22 #[vSp ⟨p2, z2⟩, I (k.tr.at m)] W' fun e w' => e = .returned (.bool true) ∧ Below W'.heap.size W' w' from fun W' => by have := containsSp_any ⟨p2, z2⟩ (k.tr.at m) W'; rw [hct] at this; exact this)
 have HCI := Lib.hid (show ∀ W', Calls Try.prog 23 #[I kind, I 0, I 2] W' fun e w' => e = .returned (.bool true) ∧ Below W'.heap.size W' w' from fun W' => by have := in_any kind 0 2 W'; rw [S9.out] at this; exact this)
 generalize k.high q = hh at hcl HCS
 generalize k.tr.at m = fm at hfm HCT
 clear hcs hct hhh S6 S7 HKH
 have hql : (q : Int) < k.heights.length := by rw [HXT.out.len, HNB.out]; omega
 have hm2 : (m : Int) < 2 := by omega
 refine name_act ?_
 intro A hA
 obtain ⟨R, hR⟩ : ∃ R : Act → World → Prop, R = fun a' w' => (∃ u82 u83 u84 u85 u86 u87 u88 u89 u90 u91 u92 u93 u94 u95 u96 u97 u98 u99 u100 u101 u102 u103 u104 u105 u106 u107 u108 u109 u110 u111 u112 u113 u114 u115 u116 u117 u118 u119 u120 u121 u122 u123 u124 u125 u126 u127 u128 u129 u130 u131, a' = (((((((((((((((((((((((((((((((((((((((((((((((((((A.put (some 82) u82).put (some 83) u83).put (some 84) u84).put (some 85) u85).put (some 86) u86).put (some 87) u87).put (some 88) u88).put (some 89) u89).put (some 90) u90).put (some 91) u91).put (some 92) u92).put (some 93) u93).put (some 94) u94).put (some 95) u95).put (some 96) u96).put (some 97) u97).put (some 98) u98).put (some 99) u99).put (some 100) u100).put (some 101) u101).put (some 102) u102).put (some 103) u103).put (some 104) u104).put (some 105) u105).put (some 106) u106).put (some 107) u107).put (some 108) u108).put (some 109) u109).put (some 110) u110).put (some 111) u111).put (some 112) u112).put (some 113) u113).put (some 114) u114).put (some 115) u115).put (some 116) u116).put (some 117) u117).put (some 118) u118).put (some 119) u119).put (some 120) u120).put (some 121) u121).put (some 122) u122).put (some 123) u123).put (some 124) u124).put (some 125) u125).put (some 126) u126).put (some 127) u127).put (some 128) u128).put (some 129) u129).put (some 130) u130).put (some 131) u131).put (some 132) (.bool false))) ∧ Held w11 w' := ⟨_, rfl⟩
 have HR := Lib.hid hR
 clear hR
 refine wp_between R ?first11 ?rest11
 case first11 =>
  exact true_first11 hA HR rK rS rT lK lS lT hfm hcl hbl HCS HCT HCI hql hm2
 case rest11 =>
  intro a' w12 hra
  rw [HR.out] at hra
  clear HR
  obtain ⟨⟨u82, u83, u84, u85, u86, u87, u88, u89, u90, u91, u92, u93, u94, u95, u96, u97, u98, u99, u100, u101, u102, u103, u104, u105, u106, u107, u108, u109, u110, u111, u112, u113, u114, u115, u116, u117, u118, u119, u120, u121, u122, u123, u124, u125, u126, u127, u128, u129, u130, u131, rfl⟩, hHE⟩ := hra
  subst hA
  try simp only [putL]
  have hB := hHE.2.2
  clear hHE hfm hcl HCS HCT HCI rS rT lS lT
  replace rB := (hB.block _ lB).trans rB
  replace lB := Nat.lt_of_lt_of_le lB hB.size
  replace rK := (hB.block _ lK).trans rK
  replace lK := Nat.lt_of_lt_of_le lK hB.size
  replace rX := (hB.block _ lX).trans rX
  replace lX := Nat.lt_of_lt_of_le lX hB.size
  have hb12 := hb11.trans (hB.mono hb11.size)
  have hx12 := hx11.trans (hB.mono hx11.size)
  clear hB hb11 hx11
  have qX0 := cell_of_row w12 _ 0 _ _ _ rX
  have qX1 := cell_of_row w12 _ 1 _ _ _ rX
  have qX2 := cell_of_row w12 _ 2 _ _ _ rX
  have qX3 := cell_of_row w12 _ 3 _ _ _ rX
  have qX4 := cell_of_row w12 _ 4 _ _ _ rX
  have qX5 := cell_of_row w12 _ 5 _ _ _ rX
  have qX6 := cell_of_row w12 _ 6 _ _ _ rX
  have qX7 := cell_of_row w12 _ 7 _ _ _ rX
  have qX8 := cell_of_row w12 _ 8 _ _ _ rX
  have qX9 := cell_of_row w12 _ 9 _ _ _ rX
  have qX10 := cell_of_row w12 _ 10 _ _ _ rX
  have qX11 := cell_of_row w12 _ 11 _ _ _ rX
  have qX12 := cell_of_row w12 _ 12 _ _ _ rX
  have qX13 := cell_of_row w12 _ 13 _ _ _ rX
  simp only [List.getElem?_toArray, List.getElem?_cons_zero, List.getElem?_cons_succ] at qX0 qX1 qX2 qX3 qX4 qX5 qX6 qX7 qX8 qX9 qX10 qX11 qX12 qX13
  have qK0 := cell_of_row w12 _ 0 _ _ _ rK
  have qK1 := cell_of_row w12 _ 1 _ _ _ rK
  have qK2 := cell_of_row w12 _ 2 _ _ _ rK
  have qK3 := cell_of_row w12 _ 3 _ _ _ rK
  simp only [List.getElem?_toArray, List.getElem?_cons_zero, List.getElem?_cons_succ] at qK0 qK1 qK2 qK3
  go_wp2_with fail
  clear qX0 qX1 qX2 qX3 qX4 qX5 qX6 qX7 qX8 qX9 qX10 qX11 qX12 qX13
  clear qK0 qK1 qK2 qK3
  refine (C10.out _ hx12).mono ?_
  rintro e w13 ⟨rfl, hB⟩
  replace rB := (hB.block _ lB).trans rB
  replace lB := Nat.lt_of_lt_of_le lB hB.size
  replace rK := (hB.block _ lK).trans rK
  replace lK := Nat.lt_of_lt_of_le lK hB.size
  replace rX := (hB.block _ lX).trans rX
  replace lX := Nat.lt_of_lt_of_le lX hB.size
  have hb13 := hb12.trans (hB.mono hb12.size)
  have hx13 := hx12.trans (hB.mono hx12.size)
  clear hB hb12 hx12
  go_upto_region 14 with fail
  refine name_act ?_
  intro A hA
  obtain ⟨R, hR⟩ : ∃ R : Act → World → Prop, R = fun a' w' => (∃ u139 u140 u141 u142 u143 u144 u145 u146 u147 u148 u149 u150, a' = (((((((((((((A.put (some 139) u139).put (some 140) u140).put (some 141) u141).put (some 142) u142).put (some 143) u143).put (some 144) u144).put (some 145) u145).put (some 146) u146).put (some 147) u147).put (some 148) u148).put (some 149) u149).put (some 150) u150).put (some 151) (.bool false))) ∧ Below w13.heap.size w13 w' := ⟨_, rfl⟩
  have HR := Lib.hid hR
  clear hR
  refine wp_between R ?first14 ?rest14
  case first14 =>
   as_aux_lemma =>
    subst hA
    have hk3 : kind = 0 ∨ kind = 1 ∨ kind = 2 := by have h := S9.out; simp [Ld.between] at h; omega
    rcases hk3 with h3 | h3 | h3
    · have hf := S11.out h3
      subst h3 hf
      go_wp2_with fail
      show R _ _
      rw [HR.out]
      try simp only [putL]
      exact ⟨⟨_, _, _, _, _, _, _, _, _, _, _, _, rfl⟩, Below.refl _ _⟩
    · subst h3
      cases fl
      · go_wp2_with fail
        show R _ _
        rw [HR.out]
        try simp only [putL]
        exact ⟨⟨_, _, _, _, _, _, _, _, _, _, _, _, rfl⟩, Below.refl _ _⟩
      · go_wp2_with fail
        show R _ _
        rw [HR.out]
        try simp only [putL]
        exact ⟨⟨_, _, _, _, _, _, _, _, _, _, _, _, rfl⟩, Below.refl _ _⟩
    · have hf := S10.out h3
      subst h3 hf
      go_wp2_with fail
      show R _ _
      rw [HR.out]
      try simp only [putL]
      exact ⟨⟨_, _, _, _, _, _, _, _, _, _, _, _, rfl⟩, Below.refl _ _⟩
  case rest14 =>
   intro a' w14 hra
   rw [HR.out] at hra
   clear HR
   obtain ⟨⟨u139, u140, u141, u142, u143, u144, u145, u146, u147, u148, u149, u150, rfl⟩, hHE⟩ := hra
   subst hA
   try simp only [putL]
   replace rB := (hHE.block _ lB).trans rB
   replace lB := Nat.lt_of_lt_of_le lB hHE.size
   replace rK := (hHE.block _ lK).trans rK
   replace lK := Nat.lt_of_lt_of_le lK hHE.size
   replace rX := (hHE.block _ lX).trans rX
   replace lX := Nat.lt_of_lt_of_le lX hHE.size
   have hb14 := hb13.trans (hHE.mono hb13.size)
   have hx14 := hx13.trans (hHE.mono hx13.size)
   clear hHE hb13 hx13
   have qX0 := cell_of_row w14 _ 0 _ _ _ rX
   have qX1 := cell_of_row w14 _ 1 _ _ _ rX
   have qX2 := cell_of_row w14 _ 2 _ _ _ rX
   have qX3 := cell_of_row w14 _ 3 _ _ _ rX
   have qX4 := cell_of_row w14 _ 4 _ _ _ rX
   have qX5 := cell_of_row w14 _ 5 _ _ _ rX
   have qX6 := cell_of_row w14 _ 6 _ _ _ rX
   have qX7 := cell_of_row w14 _ 7 _ _ _ rX
   have qX8 := cell_of_row w14 _ 8 _ _ _ rX
   have qX9 := cell_of_row w14 _ 9 _ _ _ rX
   have qX10 := cell_of_row w14 _ 10 _ _ _ rX
   have qX11 := cell_of_row w14 _ 11 _ _ _ rX
   have qX12 := cell_of_row w14 _ 12 _ _ _ rX
   have qX13 := cell_of_row w14 _ 13 _ _ _ rX
   simp only [List.getElem?_toArray, List.getElem?_cons_zero, List.getElem?_cons_succ] at qX0 qX1 qX2 qX3 qX4 qX5 qX6 qX7 qX8 qX9 qX10 qX11 qX12 qX13
   go_wp2_with fail
   clear qX0 qX1 qX2 qX3 qX4 qX5 qX6 qX7 qX8 qX9 qX10 qX11 qX12 qX13
   refine (C7.out _ hx14).mono ?_
   rintro e w15 ⟨rfl, hB⟩
   replace rB := (hB.block _ lB).trans rB
   replace lB := Nat.lt_of_lt_of_le lB hB.size
   replace rK := (hB.block _ lK).trans rK
   replace lK := Nat.lt_of_lt_of_le lK hB.size
   replace rX := (hB.block _ lX).trans rX
   replace lX := Nat.lt_of_lt_of_le lX hB.size
   have hb15 := hb14.trans (hB.mono hb14.size)
   have hx15 := hx14.trans (hB.mono hx14.size)
   clear hB hb14 hx14
   go_upto_region 17 with fail
   have qX0 := cell_of_row w15 _ 0 _ _ _ rX
   have qX1 := cell_of_row w15 _ 1 _ _ _ rX
   have qX2 := cell_of_row w15 _ 2 _ _ _ rX
   have qX3 := cell_of_row w15 _ 3 _ _ _ rX
   have qX4 := cell_of_row w15 _ 4 _ _ _ rX
   have qX5 := cell_of_row w15 _ 5 _ _ _ rX
   have qX6 := cell_of_row w15 _ 6 _ _ _ rX
   have qX7 := cell_of_row w15 _ 7 _ _ _ rX
   have qX8 := cell_of_row w15 _ 8 _ _ _ rX
   have qX9 := cell_of_row w15 _ 9 _ _ _ rX
   have qX10 := cell_of_row w15 _ 10 _ _ _ rX
   have qX11 := cell_of_row w15 _ 11 _ _ _ rX
   have qX12 := cell_of_row w15 _ 12 _ _ _ rX
   have qX13 := cell_of_row w15 _ 13 _ _ _ rX
   simp only [List.getElem?_toArray, List.getElem?_cons_zero, List.getElem?_cons_succ] at qX0 qX1 qX2 qX3 qX4 qX5 qX6 qX7 qX8 qX9 qX10 qX11 qX12 qX13
   have qK0 := cell_of_row w15 _ 0 _ _ _ rK
   have qK1 := cell_of_row w15 _ 1 _ _ _ rK
   have qK2 := cell_of_row w15 _ 2 _ _ _ rK
   have qK3 := cell_of_row w15 _ 3 _ _ _ rK
   simp only [List.getElem?_toArray, List.getElem?_cons_zero, List.getElem?_cons_succ] at qK0 qK1 qK2 qK3
   refine name_act ?_
   intro A hA
   obtain ⟨R, hR⟩ : ∃ R : Act → World → Prop, R = fun a' w' => (∃ u159 u160 u161 u162 u163 u164 u165 u166 u167 u168, a' = (((((((((((A.put (some 159) u159).put (some 160) u160).put (some 161) u161).put (some 162) u162).put (some 163) u163).put (some 164) u164).put (some 165) u165).put (some 166) u166).put (some 167) u167).put (some 168) u168).put (some 169) (.bool false))) ∧ Below w15.heap.size w15 w' := ⟨_, rfl⟩
   have HR := Lib.hid hR
   clear hR
   refine wp_between R ?first17 ?rest17
   case first17 =>
    as_aux_lemma =>
     subst hA
     by_cases hz : z4 = 0
     · obtain ⟨h0, h1, h2⟩ := S12.out hz
       have c11 := C6.out m q hm1 hq1 p4 h0 h1
       rw [h2] at c11
       subst hz
       go_wp2_with fail
       refine (c11 _ hx15).mono ?_
       rintro e w16 ⟨rfl, hB⟩
       go_wp2_with fail
       show R _ _
       rw [HR.out]
       try simp only [putL]
       exact ⟨⟨_, _, _, _, _, _, _, _, _, _, rfl⟩, hB⟩
     · have hzb : (z4 == 0) = false := by simp; exact hz
       have hzd : decide (z4 = 0) = false := decide_eq_false hz
       go_wp2_with fail
       show R _ _
       rw [HR.out]
       try simp only [putL]
       exact ⟨⟨_, _, _, _, _, _, _, _, _, _, rfl⟩, Below.refl _ _⟩
   case rest17 =>
    intro a' w16 hra
    rw [HR.out] at hra
    clear HR
    obtain ⟨⟨u159, u160, u161, u162, u163, u164, u165, u166, u167, u168, rfl⟩, hHE⟩ := hra
    subst hA
    try simp only [putL]
    clear qX0 qX1 qX2 qX3 qX4 qX5 qX6 qX7 qX8 qX9 qX10 qX11 qX12 qX13
    clear qK0 qK1 qK2 qK3
    replace rB := (hHE.block _ lB).trans rB
    replace lB := Nat.lt_of_lt_of_le lB hHE.size
    replace rK := (hHE.block _ lK).trans rK
    replace lK := Nat.lt_of_lt_of_le lK hHE.size
    replace rX := (hHE.block _ lX).trans rX
    replace lX := Nat.lt_of_lt_of_le lX hHE.size
    have hb16 := hb15.trans (hHE.mono hb15.size)
    have hx16 := hx15.trans (hHE.mono hx15.size)
    clear hHE hb15 hx15
    have qX0 := cell_of_row w16 _ 0 _ _ _ rX
    have qX1 := cell_of_row w16 _ 1 _ _ _ rX
    have qX2 := cell_of_row w16 _ 2 _ _ _ rX
    have qX3 := cell_of_row w16 _ 3 _ _ _ rX
    have qX4 := cell_of_row w16 _ 4 _ _ _ rX
    have qX5 := cell_of_row w16 _ 5 _ _ _ rX
    have qX6 := cell_of_row w16 _ 6 _ _ _ rX
    have qX7 := cell_of_row w16 _ 7 _ _ _ rX
    have qX8 := cell_of_row w16 _ 8 _ _ _ rX
    have qX9 := cell_of_row w16 _ 9 _ _ _ rX
    have qX10 := cell_of_row w16 _ 10 _ _ _ rX
    have qX11 := cell_of_row w16 _ 11 _ _ _ rX
    have qX12 := cell_of_row w16 _ 12 _ _ _ rX
    have qX13 := cell_of_row w16 _ 13 _ _ _ rX
    simp only [List.getElem?_toArray, List.getElem?_cons_zero, List.getElem?_cons_succ] at qX0 qX1 qX2 qX3 qX4 qX5 qX6 qX7 qX8 qX9 qX10 qX11 qX12 qX13
    go_wp2_with fail
    clear qX0 qX1 qX2 qX3 qX4 qX5 qX6 qX7 qX8 qX9 qX10 qX11 qX12 qX13
    refine (C8.out _ hx16).mono ?_
    rintro e w17 ⟨rfl, hB⟩
    replace rB := (hB.block _ lB).trans rB
    replace lB := Nat.lt_of_lt_of_le lB hB.size
    replace rK := (hB.block _ lK).trans rK
    replace lK := Nat.lt_of_lt_of_le lK hB.size
    replace rX := (hB.block _ lX).trans rX
    replace lX := Nat.lt_of_lt_of_le lX hB.size
    have hb17 := hb16.trans (hB.mono hb16.size)
    have hx17 := hx16.trans (hB.mono hx16.size)
    clear hB hb16 hx16
    go_upto_region 20 with fail
    have qX0 := cell_of_row w17 _ 0 _ _ _ rX
    have qX1 := cell_of_row w17 _ 1 _ _ _ rX
    have qX2 := cell_of_row w17 _ 2 _ _ _ rX
    have qX3 := cell_of_row w17 _ 3 _ _ _ rX
    have qX4 := cell_of_row w17 _ 4 _ _ _ rX
    have qX5 := cell_of_row w17 _ 5 _ _ _ rX
    have qX6 := cell_of_row w17 _ 6 _ _ _ rX
    have qX7 := cell_of_row w17 _ 7 _ _ _ rX
    have qX8 := cell_of_row w17 _ 8 _ _ _ rX
    have qX9 := cell_of_row w17 _ 9 _ _ _ rX
    have qX10 := cell_of_row w17 _ 10 _ _ _ rX
    have qX11 := cell_of_row w17 _ 11 _ _ _ rX
    have qX12 := cell_of_row w17 _ 12 _ _ _ rX
    have qX13 := cell_of_row w17 _ 13 _ _ _ rX
    simp only [List.getElem?_toArray, List.getElem?_cons_zero, List.getElem?_cons_succ] at qX0 qX1 qX2 qX3 qX4 qX5 qX6 qX7 qX8 qX9 qX10 qX11 qX12 qX13
    have qK0 := cell_of_row w17 _ 0 _ _ _ rK
    have qK1 := cell_of_row w17 _ 1 _ _ _ rK
    have qK2 := cell_of_row w17 _ 2 _ _ _ rK
    have qK3 := cell_of_row w17 _ 3 _ _ _ rK
    simp only [List.getElem?_toArray, List.getElem?_cons_zero, List.getElem?_cons_succ] at qK0 qK1 qK2 qK3
    have qB0 := cell_of_row w17 _ 0 _ _ _ rB
    simp only [List.getElem?_toArray, List.getElem?_cons_zero, List.getElem?_cons_succ] at qB0
    refine name_act ?_
    intro A hA
    obtain ⟨R, hR⟩ : ∃ R : Act → World → Prop, R = fun a' w' => (∃ u177 u178 u179 u180 u181 u182 u183 u184 u185 u186 u187 u188 u189 u190 u191 u192 u193 u194 u195, a' = ((((((((((((((((((((A.put (some 177) u177).put (some 178) u178).put (some 179) u179).put (some 180) u180).put (some 181) u181).put (some 182) u182).put (some 183) u183).put (some 184) u184).put (some 185) u185).put (some 186) u186).put (some 187) u187).put (some 188) u188).put (some 189) u189).put (some 190) u190).put (some 191) u191).put (some 192) u192).put (some 193) u193).put (some 194) u194).put (some 195) u195).put (some 196) (.bool false))) ∧ Below w17.heap.size w17 w' := ⟨_, rfl⟩
    have HR := Lib.hid hR
    clear hR
    refine wp_between R ?first20 ?rest20
    case first20 =>
     as_aux_lemma =>
      subst hA
      have hlw : IntKind.i64.wrap ((b.tides.length : Int) - 1) = (b.tides.length : Int) - 1 := IntWalk.i64_in _ (by have := HSZ.out; omega)
      by_cases hz : z5 = 0
      · obtain ⟨f, h0, h1, h2⟩ := S13.out hz
        have c11 := C6.out m f hm1 h1 y hy0 hy1
        rw [h2] at c11
        have C11 := Lib.hid c11
        have hbt : Ld.between (f : Int) 0 ((b.tides.length : Int) - 1) = true := by simp [Ld.between]; omega
        have HBT := Lib.hid hbt
        subst hz h0
        clear c11 hbt
        go_wp2_with fail
        refine (in_any _ _ _ _).mono ?_
        rintro e w18 ⟨rfl, hB⟩
        rw [HBT.out]
        replace rB := (hB.block _ lB).trans rB
        replace lB := Nat.lt_of_lt_of_le lB hB.size
        replace rK := (hB.block _ lK).trans rK
        replace lK := Nat.lt_of_lt_of_le lK hB.size
        replace rX := (hB.block _ lX).trans rX
        replace lX := Nat.lt_of_lt_of_le lX hB.size
        have hb18 := hb17.trans (hB.mono hb17.size)
        have hx18 := hx17.trans (hB.mono hx17.size)
        have HB18 := Lib.hid hB
        clear hB qX0 qX1 qX2 qX3 qX4 qX5 qX6 qX7 qX8 qX9 qX10 qX11 qX12 qX13 qK0 qK1 qK2 qK3 qB0
        have qX0 := cell_of_row w18 _ 0 _ _ _ rX
        have qX1 := cell_of_row w18 _ 1 _ _ _ rX
        have qX2 := cell_of_row w18 _ 2 _ _ _ rX
        have qX3 := cell_of_row w18 _ 3 _ _ _ rX
        have qX4 := cell_of_row w18 _ 4 _ _ _ rX
        have qX5 := cell_of_row w18 _ 5 _ _ _ rX
        have qX6 := cell_of_row w18 _ 6 _ _ _ rX
        have qX7 := cell_of_row w18 _ 7 _ _ _ rX
        have qX8 := cell_of_row w18 _ 8 _ _ _ rX
        have qX9 := cell_of_row w18 _ 9 _ _ _ rX
        have qX10 := cell_of_row w18 _ 10 _ _ _ rX
        have qX11 := cell_of_row w18 _ 11 _ _ _ rX
        have qX12 := cell_of_row w18 _ 12 _ _ _ rX
        have qX13 := cell_of_row w18 _ 13 _ _ _ rX
        simp only [List.getElem?_toArray, List.getElem?_cons_zero, List.getElem?_cons_succ] at qX0 qX1 qX2 qX3 qX4 qX5 qX6 qX7 qX8 qX9 qX10 qX11 qX12 qX13
        have qK0 := cell_of_row w18 _ 0 _ _ _ rK
        have qK1 := cell_of_row w18 _ 1 _ _ _ rK
        have qK2 := cell_of_row w18 _ 2 _ _ _ rK
        have qK3 := cell_of_row w18 _ 3 _ _ _ rK
        simp only [List.getElem?_toArray, List.getElem?_cons_zero, List.getElem?_cons_succ] at qK0 qK1 qK2 qK3
        go_wp2_with fail
        refine (C11.out _ hx18).mono ?_
        rintro e w19 ⟨rfl, hB2⟩
        go_wp2_with fail
        show R _ _
        rw [HR.out]
        try simp only [putL]
        exact ⟨⟨_, _, _, _, _, _, _, _, _, _, _, _, _, _, _, _, _, _, _, rfl⟩, HB18.out.trans (hB2.mono HB18.out.size)⟩
      · have hzb : (z5 == 0) = false := by simp; exact hz
        have hzd : decide (z5 = 0) = false := decide_eq_false hz
        go_wp2_with fail
        show R _ _
        rw [HR.out]
        try simp only [putL]
        exact ⟨⟨_, _, _, _, _, _, _, _, _, _, _, _, _, _, _, _, _, _, _, rfl⟩, Below.refl _ _⟩
    case rest20 =>
     intro a' w20 hra
     rw [HR.out] at hra
     clear HR
     obtain ⟨⟨u177, u178, u179, u180, u181, u182, u183, u184, u185, u186, u187, u188, u189, u190, u191, u192, u193, u194, u195, rfl⟩, hHE⟩ := hra
     subst hA
     try simp only [putL]
     clear qX0 qX1 qX2 qX3 qX4 qX5 qX6 qX7 qX8 qX9 qX10 qX11 qX12 qX13
     clear qK0 qK1 qK2 qK3
     clear qB0
     replace rB := (hHE.block _ lB).trans rB
     replace lB := Nat.lt_of_lt_of_le lB hHE.size
     replace rK := (hHE.block _ lK).trans rK
     replace lK := Nat.lt_of_lt_of_le lK hHE.size
     replace rX := (hHE.block _ lX).trans rX
     replace lX := Nat.lt_of_lt_of_le lX hHE.size
     have hb20 := hb17.trans (hHE.mono hb17.size)
     have hx20 := hx17.trans (hHE.mono hx17.size)
     clear hHE hb17 hx17
     have qX0 := cell_of_row w20 _ 0 _ _ _ rX
     have qX1 := cell_of_row w20 _ 1 _ _ _ rX
     have qX2 := cell_of_row w20 _ 2 _ _ _ rX
     have qX3 := cell_of_row w20 _ 3 _ _ _ rX
     have qX4 := cell_of_row w20 _ 4 _ _ _ rX
     have qX5 := cell_of_row w20 _ 5 _ _ _ rX
     have qX6 := cell_of_row w20 _ 6 _ _ _ rX
     have qX7 := cell_of_row w20 _ 7 _ _ _ rX
     have qX8 := cell_of_row w20 _ 8 _ _ _ rX
     have qX9 := cell_of_row w20 _ 9 _ _ _ rX
     have qX10 := cell_of_row w20 _ 10 _ _ _ rX
     have qX11 := cell_of_row w20 _ 11 _ _ _ rX
     have qX12 := cell_of_row w20 _ 12 _ _ _ rX
     have qX13 := cell_of_row w20 _ 13 _ _ _ rX
     simp only [List.getElem?_toArray, List.getElem?_cons_zero, List.getElem?_cons_succ] at qX0 qX1 qX2 qX3 qX4 qX5 qX6 qX7 qX8 qX9 qX10 qX11 qX12 qX13
     go_wp2_with fail
     clear qX0 qX1 qX2 qX3 qX4 qX5 qX6 qX7 qX8 qX9 qX10 qX11 qX12 qX13
     refine (C9.out _ hx20).mono ?_
     rintro e w21 ⟨⟨vl, rfl, hsl⟩, hB⟩
     replace rB := (hB.block _ lB).trans rB
     replace lB := Nat.lt_of_lt_of_le lB hB.size
     replace rK := (hB.block _ lK).trans rK
     replace lK := Nat.lt_of_lt_of_le lK hB.size
     replace rX := (hB.block _ lX).trans rX
     replace lX := Nat.lt_of_lt_of_le lX hB.size
     have hb21 := hb20.trans (hB.mono hb20.size)
     have hx21 := hx20.trans (hB.mono hx20.size)
     clear hB hb20 hx20
     obtain ⟨AL, cL, rfl⟩ := hsl.form
     have HSL := Lib.hid hsl
     clear hsl S9 S10 S11
     have qB0 := cell_of_row w21 _ 0 _ _ _ rB
     simp only [List.getElem?_toArray, List.getElem?_cons_zero, List.getElem?_cons_succ] at qB0
     go_wp2_with fail
     refine (climbs_any L b.tides.length (by have := HSZ.out; omega) _ _ HSL.out).mono ?_
     rintro e w22 ⟨rfl, hB⟩
     rw [S14.out]
     have hsl := (HSL.out.below hB (Nat.le_refl _)).more hB.size
     have HSM := Lib.hid hsl
     clear hsl HSL qB0
     replace rB := (hB.block _ lB).trans rB
     replace lB := Nat.lt_of_lt_of_le lB hB.size
     replace rK := (hB.block _ lK).trans rK
     replace lK := Nat.lt_of_lt_of_le lK hB.size
     replace rX := (hB.block _ lX).trans rX
     replace lX := Nat.lt_of_lt_of_le lX hB.size
     have hb22 := hb21.trans (hB.mono hb21.size)
     have hx22 := hx21.trans (hB.mono hx21.size)
     clear hB hb21 hx21
     clear rB lB
     have HB22 := Lib.hid hb22
     have HX22 := Lib.hid hx22
     have RK := Lib.hid rK
     have RX := Lib.hid rX
     clear hb22 hx22 rK rX
     have hlm := HSM.out.le
     unfold maxLen at hlm
     go_wp2_with fail
     go_loopw [29] (fun i wr => ∃ j : Nat, j ≤ L.length ∧ i = I j ∧ Below w22.heap.size w22 wr) (fun i _ => L.length - (intOf i).toNat)
     case atStart => exact ⟨0, Nat.zero_le _, rfl, Below.refl _ _⟩
     case round =>
      obtain ⟨j, hj, rfl, hBw⟩ := hrel
      have HBW := Lib.hid hBw
      have HBT := Lib.hid (HB22.out.trans (hBw.mono HB22.out.size))
      clear hBw
      by_cases hlt : j < L.length
      · have hji : (j : Int) < L.length := by omega
        have hsl := (HSM.out.below HBW.out (Nat.le_refl _)).more HBW.out.size
        obtain ⟨lb, lo, lc, hv, hlb, hcl⟩ := hsl.int hlt
        injection hv with e1 _ e2
        subst e1 e2
        obtain ⟨f, hf, hf1, hf2, hf3⟩ := S15.out _ (List.getElem_mem hlt)
        rw [hf] at hcl
        have c0 := C6.out 0 f (.inl rfl) hf1 y hy0 hy1
        have c1 := C6.out 1 f (.inr rfl) hf1 y hy0 hy1
        rw [hf2] at c0
        rw [hf3] at c1
        have hxr := HX22.out.trans (HBW.out.mono HX22.out.size)
        have C0 := Lib.hid (show ∀ W', Held wr W' → _ from fun W' h => c0 W' (hxr.trans (h.2.2.mono hxr.size)))
        have C1 := Lib.hid (show ∀ W', Held wr W' → _ from fun W' h => c1 W' (hxr.trans (h.2.2.mono hxr.size)))
        have rX := (HBW.out.block _ lX).trans RX.out
        have rK := (HBW.out.block _ lK).trans RK.out
        clear c0 c1 hsl hf hf2 hf3 hxr
        have lXr := heap_lt rX
        have lKr := heap_lt rK
        have RXr := Lib.hid rX
        have RKr := Lib.hid rK
        clear rX rK
        go_upto_region 28 with fail
        refine name_act ?_
        intro A hA
        obtain ⟨R, hR⟩ : ∃ R : Act → World → Prop, R = fun a' w' => (∃ u219 u220 u221 u222 u223 u224 u225 u226 u227 u228 u229 u230 u231 u232 u233 u234 u235 u236 u237, a' = ((((((((((((((((((((A.put (some 219) u219).put (some 220) u220).put (some 221) u221).put (some 222) u222).put (some 223) u223).put (some 224) u224).put (some 225) u225).put (some 226) u226).put (some 227) u227).put (some 228) u228).put (some 229) u229).put (some 230) u230).put (some 231) u231).put (some 232) u232).put (some 233) u233).put (some 234) u234).put (some 235) u235).put (some 236) u236).put (some 237) u237).put (some 238) (.bool false))) ∧ Held wr w' := ⟨_, rfl⟩
        have HR := Lib.hid hR
        clear hR
        refine wp_between R ?first28 ?rest28
        case first28 =>
         exact true_first28 hA HR RXr.out RKr.out lXr lKr hcl hlb hji C0 C1
        case rest28 =>
         intro a' w30 hra
         rw [HR.out] at hra
         clear HR
         obtain ⟨⟨u219, u220, u221, u222, u223, u224, u225, u226, u227, u228, u229, u230, u231, u232, u233, u234, u235, u236, u237, rfl⟩, hHE⟩ := hra
         subst hA
         try simp only [putL]
         go_wp2_with fail
         go_roundw
         case rel => exact ⟨j + 1, by omega, by go_num, HBW.out.trans (hHE.2.2.mono HBW.out.size)⟩
         case measure => simp [intOf]; omega
      · obtain rfl : j = L.length := by omega
        go_wp2_with fail
        refine (moored_any _).mono ?_
        rintro e wZ ⟨rfl, hBZ⟩
        have HBZ := Lib.hid (HBT.out.trans (hBZ.mono HBT.out.size))
        clear hBZ
        go_wp2_with fail
        go_ret
        exact ⟨rfl, HBZ.out⟩
end Go.Proofs.Ytjgpghaofhcfnaa
