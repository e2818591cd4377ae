/- Texts on the program that the proof leans on, part 49. -/
import Derived.Test.YtjgpghaofhcfnaaYbe
import Derived.Test.YtjgpghaofhcfnaaYbc
import Derived.Test.YtjgpghaofhcfnaaYbg
import Derived.Test.YtjgpghaofhcfnaaYbv
set_option linter.unusedVariables false
set_option linter.unusedSimpArgs false

/- Contract of LandingMore: it returns true, whatever the book, the sounding and the numbers. -/
namespace Go.Proofs.Ytjgpghaofhcfnaa
open Go.RowKit

set_option maxRecDepth 100000 in
set_option maxHeartbeats 4000000 in
theorem LandingMore_any (b : Ld.Bk) (T D : Value) (s : Ld.Sd) (n0 n1 n2 : Int) (w : World) (hb : RB w w.heap.size b T D) :
    Calls Try.prog 5 #[vBk T D b, vSd s, .agg #[I n0, I n1, I n2]] w fun e w' => e = .returned (.bool true) ∧ Below w.heap.size w w' := by
  obtain ⟨A0, k0, rfl⟩ := hb.tides.form
  obtain ⟨A1, k1, rfl⟩ := hb.sounds.form
  obtain ⟨o, ho⟩ : ∃ o : Obj, o = .cells (rBk (.slice A0 b.tides.length k0) (.slice A1 b.sounds.length k1) b) 30 := ⟨_, rfl⟩
  obtain ⟨o2, ho2⟩ : ∃ o : Obj, o = .cells #[I n0, I n1, I n2] 32 := ⟨_, rfl⟩
  obtain ⟨o3, ho3⟩ : ∃ o : Obj, o = .cells #[I s.hour, I s.shore, I s.deep] 64 := ⟨_, rfl⟩
  obtain ⟨W0, hW0⟩ : ∃ W : World, W = ((w.alloc o).alloc o3).alloc o2 := ⟨_, rfl⟩
  have hb0 : Below w.heap.size w W0 := by rw [hW0]; exact (((Below.refl _ _).alloc (Nat.le_refl _) _).alloc (by simp) _).alloc (by simp; omega) _
  have rB : W0.heap[w.heap.size]? = some o := by rw [hW0]; exact (Below.heap_alloc _ _ _ (by simp; omega)).trans ((Below.heap_alloc _ _ _ (by simp)).trans (heap_at _ _ rfl))
  have rS : W0.heap[w.heap.size + 1]? = some o3 := by rw [hW0]; exact (Below.heap_alloc _ _ _ (by simp)).trans (heap_at _ _ (by simp))
  have rN : W0.heap[w.heap.size + 1 + 1]? = some o2 := by rw [hW0]; exact heap_at _ _ (by simp)
  have lB : w.heap.size < W0.heap.size := by rw [hW0]; simp; omega
  have lS : w.heap.size + 1 < W0.heap.size := by rw [hW0]; simp
  have lN : w.heap.size + 1 + 1 < W0.heap.size := by rw [hW0]; simp
  go_enter Try.func5, Try.ntmps5
  go_wp2_with fail
  rw [← ho, ← ho3, ← ho2, ← hW0]
  subst ho ho2 ho3
  clear hW0
  have hRB := (hb.below hb0 (Nat.le_refl _)).more hb0.size
  refine (sound_any b _ _ W0 hRB).mono ?_
  rintro e w1 ⟨rfl, hB1⟩
  replace rB := (hB1.block _ lB).trans rB
  replace lB := Nat.lt_of_lt_of_le lB hB1.size
  replace rS := (hB1.block _ lS).trans rS
  replace lS := Nat.lt_of_lt_of_le lS hB1.size
  replace rN := (hB1.block _ lN).trans rN
  replace lN := Nat.lt_of_lt_of_le lN hB1.size
  have hb1 := hb0.trans (hB1.mono hb0.size)
  clear hRB hb0 hB1
  by_cases hck : Ld.check b = 0
  case neg =>
    rw [decide_eq_false hck]
    clear rB rN lB lN rS lS
    go_wp2_with fail
    refine (moored_any _).mono ?_
    rintro e w2 ⟨rfl, hB2⟩
    have HB2 := Lib.hid (hb1.trans (hB2.mono hb1.size))
    clear hB2
    go_wp2_with fail
    go_ret
    exact ⟨rfl, HB2.out⟩
  rw [decide_eq_true hck]
  have hval : Ld.valid b = true := by
    unfold Ld.check at hck
    split at hck
    · assumption
    · omega
  have hsz := Ld.sized_bd (Ld.valid_parts hval).1
  have HRB := Lib.hid (show ∀ W', Below w.heap.size w W' → RB W' W'.heap.size b (.slice A0 b.tides.length k0) (.slice A1 b.sounds.length k1) from fun W' h => (hb.below h (Nat.le_refl _)).more h.size)
  clear hb hck

  by_cases h6 : b.sounds.length = 6
  · have h6i : (b.sounds.length : Int) = 6 := by omega
    have h6b : ((b.sounds.length : Int) == 6) = true := by simp; omega
    have h6d : decide ((b.sounds.length : Int) = 6) = true := decide_eq_true h6i
    have qB13 := cell_of_row w1 _ 13 _ _ _ rB
    simp only [List.getElem?_toArray, List.getElem?_cons_zero, List.getElem?_cons_succ] at qB13
    clear rN lN rS lS
    go_wp2_with fail
    refine (moored_any _).mono ?_
    rintro e w2 ⟨rfl, hB2⟩
    have HB2 := Lib.hid (hb1.trans (hB2.mono hb1.size))
    clear hB2
    go_wp2_with fail
    go_ret
    exact ⟨rfl, HB2.out⟩
  have h6i : ¬ (b.sounds.length : Int) = 6 := by omega
  have h6b : ((b.sounds.length : Int) == 6) = false := by simp; omega
  have h6d : decide ((b.sounds.length : Int) = 6) = false := decide_eq_false h6i

  obtain ⟨q, hq⟩ : ∃ q : Nat, (q : Int) = n1 % b.tides.length := ⟨_, Int.toNat_of_nonneg (Int.emod_nonneg _ (by omega))⟩
  have hq1 : q < b.tides.length := by have := Int.emod_lt_of_pos n1 (show (0 : Int) < b.tides.length by omega); omega
  obtain ⟨m, hm⟩ : ∃ m : Nat, (m : Int) = n0 % 2 := ⟨_, Int.toNat_of_nonneg (Int.emod_nonneg _ (by omega))⟩
  have hm1 : m = 0 ∨ m = 1 := by have := Int.emod_lt_of_pos n0 (show (0 : Int) < 2 by omega); omega
  obtain ⟨y, hy⟩ : ∃ y : Int, y = n2 % 201 := ⟨_, rfl⟩
  have hy0 : 0 ≤ y := by have := Int.emod_nonneg n2 (show (201 : Int) ≠ 0 by omega); omega
  have hy1 : y ≤ 200 := by have := Int.emod_lt_of_pos n2 (show (0 : Int) < 201 by omega); omega
  have HVAL := Lib.hid hval
  have HSZ := Lib.hid hsz
  have hs1 : (0 : Int) < b.tides.length := by omega
  have hs2 : (b.tides.length : Int) ≤ 1000 := by omega
  clear hval hsz
  have qB0 := cell_of_row w1 _ 0 _ _ _ rB
  simp only [List.getElem?_toArray, List.getElem?_cons_zero, List.getElem?_cons_succ] at qB0
  have qN0 := cell_of_row w1 _ 0 _ _ _ rN
  have qN1 := cell_of_row w1 _ 1 _ _ _ rN
  have qN2 := cell_of_row w1 _ 2 _ _ _ rN
  simp only [List.getElem?_toArray, List.getElem?_cons_zero, List.getElem?_cons_succ] at qN0 qN1 qN2
  have qB13 := cell_of_row w1 _ 13 _ _ _ rB
  simp only [List.getElem?_toArray, List.getElem?_cons_zero, List.getElem?_cons_succ] at qB13
  go_wp2_with fail
  clear qB13 h6i h6b h6d h6
  go_region_held3 (fun w' => Held w1 w') (first | assumption | exact held_start _ | exact held_step (by assumption) (by assumption) | exact held_step (by assumption) (held_start _) | go_keep)
    (first | (go_at_call 16; refine (mod_any _ _ (by omega) (by omega) _).mono ?_; rintro e w2 ⟨rfl, hB2⟩))
  have hHE : Held w1 w2 := by assumption
  rw [← hm, ← hq, ← hy]
  obtain ⟨u, hu⟩ : ∃ u : World, u = w2 := ⟨_, rfl⟩
  rw [← hu] at hHE ⊢
  clear hu hB2
  have hBu := hHE.2.2
  replace rB := (hBu.block _ lB).trans rB
  replace lB := Nat.lt_of_lt_of_le lB hBu.size
  clear rN lN
  skip
  replace rS := (hBu.block _ lS).trans rS
  replace lS := Nat.lt_of_lt_of_le lS hBu.size
  have hbu := hb1.trans (hBu.mono hb1.size)
  clear qB0 qN0 qN1 qN2 hHE hBu hb1 hs1 hs2 hm hq hy

  have qB0 := cell_of_row u _ 0 _ _ _ rB
  have qB1 := cell_of_row u _ 1 _ _ _ rB
  have qB2 := cell_of_row u _ 2 _ _ _ rB
  have qB3 := cell_of_row u _ 3 _ _ _ rB
  have qB4 := cell_of_row u _ 4 _ _ _ rB
  have qB5 := cell_of_row u _ 5 _ _ _ rB
  have qB6 := cell_of_row u _ 6 _ _ _ rB
  have qB7 := cell_of_row u _ 7 _ _ _ rB
  have qB8 := cell_of_row u _ 8 _ _ _ rB
  have qB9 := cell_of_row u _ 9 _ _ _ rB
  have qB10 := cell_of_row u _ 10 _ _ _ rB
  have qB11 := cell_of_row u _ 11 _ _ _ rB
  have qB12 := cell_of_row u _ 12 _ _ _ rB
  have qB13 := cell_of_row u _ 13 _ _ _ rB
  simp only [List.getElem?_toArray, List.getElem?_cons_zero, List.getElem?_cons_succ] at qB0 qB1 qB2 qB3 qB4 qB5 qB6 qB7 qB8 qB9 qB10 qB11 qB12 qB13
  have qS0 := cell_of_row u _ 0 _ _ _ rS
  have qS1 := cell_of_row u _ 1 _ _ _ rS
  have qS2 := cell_of_row u _ 2 _ _ _ rS
  simp only [List.getElem?_toArray, List.getElem?_cons_zero, List.getElem?_cons_succ] at qS0 qS1 qS2
  go_wp2_with fail
  clear qB0 qB1 qB2 qB3 qB4 qB5 qB6 qB7 qB8 qB9 qB10 qB11 qB12 qB13
  clear qS0 qS1 qS2
  have hsl6 := HSZ.out
  refine (withBk_any b _ _ s _ (HRB.out _ hbu) (by omega)).mono ?_
  rintro e w3 ⟨⟨V', rfl, hV⟩, hB3⟩
  clear rS lS
  replace rB := (hB3.block _ lB).trans rB
  replace lB := Nat.lt_of_lt_of_le lB hB3.size
  have hb3 := hbu.trans (hB3.mono hbu.size)
  clear hB3 hbu
  obtain ⟨Ax, kx, rfl⟩ := hV.form
  have HV := Lib.hid hV
  clear hV hsl6
  have qB0 := cell_of_row w3 _ 0 _ _ _ rB
  have qB1 := cell_of_row w3 _ 1 _ _ _ rB
  have qB2 := cell_of_row w3 _ 2 _ _ _ rB
  have qB3 := cell_of_row w3 _ 3 _ _ _ rB
  have qB4 := cell_of_row w3 _ 4 _ _ _ rB
  have qB5 := cell_of_row w3 _ 5 _ _ _ rB
  have qB6 := cell_of_row w3 _ 6 _ _ _ rB
  have qB7 := cell_of_row w3 _ 7 _ _ _ rB
  have qB8 := cell_of_row w3 _ 8 _ _ _ rB
  have qB9 := cell_of_row w3 _ 9 _ _ _ rB
  have qB10 := cell_of_row w3 _ 10 _ _ _ rB
  have qB11 := cell_of_row w3 _ 11 _ _ _ rB
  have qB12 := cell_of_row w3 _ 12 _ _ _ rB
  have qB13 := cell_of_row w3 _ 13 _ _ _ rB
  simp only [List.getElem?_toArray, List.getElem?_cons_zero, List.getElem?_cons_succ] at qB0 qB1 qB2 qB3 qB4 qB5 qB6 qB7 qB8 qB9 qB10 qB11 qB12 qB13
  go_wp2_with fail
  clear qB0 qB1 qB2 qB3 qB4 qB5 qB6 qB7 qB8 qB9 qB10 qB11 qB12 qB13
  refine name_calls ?_
  intro W3 hW3
  have hA3 : Below w3.heap.size w3 W3 := by rw [hW3]; exact (Below.refl _ _).alloc (Nat.le_refl _) _
  have rX : W3.heap[w3.heap.size]? = some (.cells (rBk (.slice A0 b.tides.length k0) (.slice Ax (Ld.moreB b s).sounds.length kx) b) 30 (0, 0)) := by rw [hW3]; exact heap_at _ _ rfl
  have lX : w3.heap.size < W3.heap.size := by rw [hW3]; simp
  obtain ⟨X, hX⟩ : ∃ X : Nat, X = w3.heap.size := ⟨_, rfl⟩
  have HV3 := Lib.hid ((HV.out.below hA3 (Nat.le_refl _)).more hA3.size)
  replace rB := (hA3.block _ lB).trans rB
  replace lB := Nat.lt_of_lt_of_le lB hA3.size
  have hbW3 := hb3.trans (hA3.mono hb3.size)
  clear hW3 hA3 hb3 HV
  rw [← hX] at rX lX ⊢
  clear hX
  have HBW3 := Lib.hid hbW3
  have hRX : ∀ W', Below W3.heap.size W3 W' → RB W' W'.heap.size (Ld.moreB b s) (.slice A0 b.tides.length k0) (.slice Ax (Ld.moreB b s).sounds.length kx) := fun W' h => ⟨(HRB.out W' (HBW3.out.trans (h.mono HBW3.out.size))).tides, (HV3.out.below h (Nat.le_refl _)).more h.size⟩
  have HRX := Lib.hid hRX
  clear hRX
  have hsp := Ld.more_spec (s := s) HVAL.out hq1 hm1 hy0 hy1
  have c0 := fun W' h => check_any (Ld.moreB b s) (.slice A0 b.tides.length k0) (.slice Ax (Ld.moreB b s).sounds.length kx) W' (HRX.out W' h)
  have c1 := fun W' h => Height_any b (.slice A0 b.tides.length k0) (.slice A1 b.sounds.length k1) q W' (HRB.out W' h)
  have c2 := fun W' h => Height_any (Ld.moreB b s) (.slice A0 b.tides.length k0) (.slice Ax (Ld.moreB b s).sounds.length kx) q W' (HRX.out W' h)
  have c3 := fun W' h => floor_any b (.slice A0 b.tides.length k0) (.slice A1 b.sounds.length k1) m W' (HRB.out W' h)
  have c4 := fun W' h => floor_any (Ld.moreB b s) (.slice A0 b.tides.length k0) (.slice Ax (Ld.moreB b s).sounds.length kx) m W' (HRX.out W' h)
  have c5 := fun W' h => Lands_any b (.slice A0 b.tides.length k0) (.slice A1 b.sounds.length k1) m q y W' (HRB.out W' h)
  have c6 := fun W' h => Lands_any (Ld.moreB b s) (.slice A0 b.tides.length k0) (.slice Ax (Ld.moreB b s).sounds.length kx) m q y W' (HRX.out W' h)
  have c7 := fun W' h => most_any b (.slice A0 b.tides.length k0) (.slice A1 b.sounds.length k1) m q W' (HRB.out W' h)
  have c8 := fun W' h => most_any (Ld.moreB b s) (.slice A0 b.tides.length k0) (.slice Ax (Ld.moreB b s).sounds.length kx) m q W' (HRX.out W' h)
  obtain ⟨⟨p1, z1⟩, h1⟩ : ∃ v : Ld.Sp, Ld.heightR b q = v := ⟨_, rfl⟩
  obtain ⟨⟨p2, z2⟩, h2⟩ : ∃ v : Ld.Sp, Ld.heightR (Ld.moreB b s) q = v := ⟨_, rfl⟩
  obtain ⟨⟨p3, z3⟩, h3⟩ : ∃ v : Ld.Sp, Ld.floorR b m = v := ⟨_, rfl⟩
  obtain ⟨⟨p4, z4⟩, h4⟩ : ∃ v : Ld.Sp, Ld.floorR (Ld.moreB b s) m = v := ⟨_, rfl⟩
  obtain ⟨⟨p5, z5⟩, h5⟩ : ∃ v : Int × Int, Ld.landsR b m q y = v := ⟨_, rfl⟩
  obtain ⟨⟨p6, z6⟩, h6⟩ : ∃ v : Int × Int, Ld.landsR (Ld.moreB b s) m q y = v := ⟨_, rfl⟩
  obtain ⟨⟨p7, z7⟩, h7⟩ : ∃ v : Int × Int, Ld.mostR b m q = v := ⟨_, rfl⟩
  obtain ⟨⟨p8, z8⟩, h8⟩ : ∃ v : Int × Int, Ld.mostR (Ld.moreB b s) m q = v := ⟨_, rfl⟩
  obtain ⟨e0, g0⟩ : ∃ E : Int, Ld.check (Ld.moreB b s) = E := ⟨_, rfl⟩
  obtain ⟨e1, g1⟩ : ∃ E : Int, Ld.studyE b (Ld.isHour b q) = E := ⟨_, rfl⟩
  obtain ⟨e2, g2⟩ : ∃ E : Int, Ld.studyE (Ld.moreB b s) (Ld.isHour (Ld.moreB b s) q) = E := ⟨_, rfl⟩
  obtain ⟨e3, g3⟩ : ∃ E : Int, Ld.studyE b (Ld.isShore m) = E := ⟨_, rfl⟩
  obtain ⟨e4, g4⟩ : ∃ E : Int, Ld.studyE (Ld.moreB b s) (Ld.isShore m) = E := ⟨_, rfl⟩
  simp only [h1, h2, h3, h4, h5, h6, h7, h8, g0, g1, g2, g3, g4] at hsp
  simp only [g0] at c0
  simp only [h1, g1] at c1
  simp only [h2, g2] at c2
  simp only [h3, g3] at c3
  simp only [h4, g4] at c4
  simp only [h5] at c5
  simp only [h6] at c6
  simp only [h7] at c7
  simp only [h8] at c8
  have C0 := Lib.hid c0
  have C1 := Lib.hid c1
  have C2 := Lib.hid c2
  have C3 := Lib.hid c3
  have C4 := Lib.hid c4
  have C5 := Lib.hid c5
  have C6 := Lib.hid c6
  have C7 := Lib.hid c7
  have C8 := Lib.hid c8
  have HSP := Lib.hid hsp
  clear c0 c1 c2 c3 c4 c5 c6 c7 c8 h1 h2 h3 h4 h5 h6 h7 h8 g0 g1 g2 g3 g4 hsp

  obtain ⟨w4, hw4⟩ : ∃ v : World, v = W3 := ⟨_, rfl⟩
  have hb4 : Below w.heap.size w w4 := by rw [hw4]; exact HBW3.out
  have hx4 : Below W3.heap.size W3 w4 := by rw [hw4]; exact Below.refl _ _
  rw [← hw4] at rX lX rB lB ⊢
  clear hw4 hbW3
  refine (C1.out _ hb4).mono ?_
  rintro e w5 ⟨rfl, hB⟩
  replace rB := (hB.block _ lB).trans rB
  replace lB := Nat.lt_of_lt_of_le lB hB.size
  replace rX := (hB.block _ lX).trans rX
  replace lX := Nat.lt_of_lt_of_le lX hB.size
  have hb5 := hb4.trans (hB.mono hb4.size)
  have hx5 := hx4.trans (hB.mono hx4.size)
  clear hB hb4 hx4

  have qX0 := cell_of_row w5 _ 0 _ _ _ rX
  have qX1 := cell_of_row w5 _ 1 _ _ _ rX
  have qX2 := cell_of_row w5 _ 2 _ _ _ rX
  have qX3 := cell_of_row w5 _ 3 _ _ _ rX
  have qX4 := cell_of_row w5 _ 4 _ _ _ rX
  have qX5 := cell_of_row w5 _ 5 _ _ _ rX
  have qX6 := cell_of_row w5 _ 6 _ _ _ rX
  have qX7 := cell_of_row w5 _ 7 _ _ _ rX
  have qX8 := cell_of_row w5 _ 8 _ _ _ rX
  have qX9 := cell_of_row w5 _ 9 _ _ _ rX
  have qX10 := cell_of_row w5 _ 10 _ _ _ rX
  have qX11 := cell_of_row w5 _ 11 _ _ _ rX
  have qX12 := cell_of_row w5 _ 12 _ _ _ rX
  have qX13 := cell_of_row w5 _ 13 _ _ _ rX
  simp only [List.getElem?_toArray, List.getElem?_cons_zero, List.getElem?_cons_succ] at qX0 qX1 qX2 qX3 qX4 qX5 qX6 qX7 qX8 qX9 qX10 qX11 qX12 qX13
  go_wp2_with fail
  clear qX0 qX1 qX2 qX3 qX4 qX5 qX6 qX7 qX8 qX9 qX10 qX11 qX12 qX13
  refine name_calls ?_
  intro w6 hW
  have hA : Below w5.heap.size w5 w6 := by rw [hW]; exact (Below.refl _ _).alloc (Nat.le_refl _) _
  have rP : w6.heap[w5.heap.size]? = some (.cells #[I p1, I z1] 24 (0, 0)) := by rw [hW]; exact heap_at _ _ rfl
  have lP : w5.heap.size < w6.heap.size := by rw [hW]; simp
  clear hW
  replace rB := (hA.block _ lB).trans rB
  replace lB := Nat.lt_of_lt_of_le lB hA.size
  replace rX := (hA.block _ lX).trans rX
  replace lX := Nat.lt_of_lt_of_le lX hA.size
  have hb6 := hb5.trans (hA.mono hb5.size)
  have hx6 := hx5.trans (hA.mono hx5.size)
  clear hA hb5 hx5

  refine (C2.out _ hx6).mono ?_
  rintro e w7 ⟨rfl, hB⟩
  replace rB := (hB.block _ lB).trans rB
  replace lB := Nat.lt_of_lt_of_le lB hB.size
  replace rX := (hB.block _ lX).trans rX
  replace lX := Nat.lt_of_lt_of_le lX hB.size
  replace rP := (hB.block _ lP).trans rP
  replace lP := Nat.lt_of_lt_of_le lP hB.size
  have hb7 := hb6.trans (hB.mono hb6.size)
  have hx7 := hx6.trans (hB.mono hx6.size)
  clear hB hb6 hx6

  rcases HSP.out with ⟨rfl, rfl⟩ | ⟨rfl, rfl⟩ | ⟨rfl, rfl, rfl, rfl, cv1, cv2, ka, kb, hk, hA, hA2, hmost⟩
  · skip
    have qX0 := cell_of_row w7 _ 0 _ _ _ rX
    have qX1 := cell_of_row w7 _ 1 _ _ _ rX
    have qX2 := cell_of_row w7 _ 2 _ _ _ rX
    have qX3 := cell_of_row w7 _ 3 _ _ _ rX
    have qX4 := cell_of_row w7 _ 4 _ _ _ rX
    have qX5 := cell_of_row w7 _ 5 _ _ _ rX
    have qX6 := cell_of_row w7 _ 6 _ _ _ rX
    have qX7 := cell_of_row w7 _ 7 _ _ _ rX
    have qX8 := cell_of_row w7 _ 8 _ _ _ rX
    have qX9 := cell_of_row w7 _ 9 _ _ _ rX
    have qX10 := cell_of_row w7 _ 10 _ _ _ rX
    have qX11 := cell_of_row w7 _ 11 _ _ _ rX
    have qX12 := cell_of_row w7 _ 12 _ _ _ rX
    have qX13 := cell_of_row w7 _ 13 _ _ _ rX
    simp only [List.getElem?_toArray, List.getElem?_cons_zero, List.getElem?_cons_succ] at qX0 qX1 qX2 qX3 qX4 qX5 qX6 qX7 qX8 qX9 qX10 qX11 qX12 qX13
    go_wp2_with fail
    clear qX0 qX1 qX2 qX3 qX4 qX5 qX6 qX7 qX8 qX9 qX10 qX11 qX12 qX13
    refine name_calls ?_
    intro w8 hW
    have hA : Below w7.heap.size w7 w8 := by rw [hW]; exact (Below.refl _ _).alloc (Nat.le_refl _) _
    have rQ : w8.heap[w7.heap.size]? = some (.cells #[I p2, I z2] 24 (0, 0)) := by rw [hW]; exact heap_at _ _ rfl
    have lQ : w7.heap.size < w8.heap.size := by rw [hW]; simp
    clear hW
    replace rB := (hA.block _ lB).trans rB
    replace lB := Nat.lt_of_lt_of_le lB hA.size
    replace rX := (hA.block _ lX).trans rX
    replace lX := Nat.lt_of_lt_of_le lX hA.size
    replace rP := (hA.block _ lP).trans rP
    replace lP := Nat.lt_of_lt_of_le lP hA.size
    have hb8 := hb7.trans (hA.mono hb7.size)
    have hx8 := hx7.trans (hA.mono hx7.size)
    clear hA hb7 hx7
    refine (C0.out _ hx8).mono ?_
    rintro e w9 ⟨rfl, hB⟩
    replace rB := (hB.block _ lB).trans rB
    replace lB := Nat.lt_of_lt_of_le lB hB.size
    replace rX := (hB.block _ lX).trans rX
    replace lX := Nat.lt_of_lt_of_le lX hB.size
    replace rP := (hB.block _ lP).trans rP
    replace lP := Nat.lt_of_lt_of_le lP hB.size
    replace rQ := (hB.block _ lQ).trans rQ
    replace lQ := Nat.lt_of_lt_of_le lQ hB.size
    have hb9 := hb8.trans (hB.mono hb8.size)
    have hx9 := hx8.trans (hB.mono hx8.size)
    clear hB hb8 hx8
    clear C0 C1 C2 C3 C4 C5 C6 C7 C8 HSP rB lB rX lX rP lP rQ lQ
    go_wp2_with fail
    refine (moored_any _).mono ?_
    rintro e wZ ⟨rfl, hBZ⟩
    have HBZ := Lib.hid (hb9.trans (hBZ.mono hb9.size))
    clear hBZ
    go_wp2_with fail
    go_ret
    exact ⟨rfl, HBZ.out⟩

  · skip
    have qX0 := cell_of_row w7 _ 0 _ _ _ rX
    have qX1 := cell_of_row w7 _ 1 _ _ _ rX
    have qX2 := cell_of_row w7 _ 2 _ _ _ rX
    have qX3 := cell_of_row w7 _ 3 _ _ _ rX
    have qX4 := cell_of_row w7 _ 4 _ _ _ rX
    have qX5 := cell_of_row w7 _ 5 _ _ _ rX
    have qX6 := cell_of_row w7 _ 6 _ _ _ rX
    have qX7 := cell_of_row w7 _ 7 _ _ _ rX
    have qX8 := cell_of_row w7 _ 8 _ _ _ rX
    have qX9 := cell_of_row w7 _ 9 _ _ _ rX
    have qX10 := cell_of_row w7 _ 10 _ _ _ rX
    have qX11 := cell_of_row w7 _ 11 _ _ _ rX
    have qX12 := cell_of_row w7 _ 12 _ _ _ rX
    have qX13 := cell_of_row w7 _ 13 _ _ _ rX
    simp only [List.getElem?_toArray, List.getElem?_cons_zero, List.getElem?_cons_succ] at qX0 qX1 qX2 qX3 qX4 qX5 qX6 qX7 qX8 qX9 qX10 qX11 qX12 qX13
    go_wp2_with fail
    clear qX0 qX1 qX2 qX3 qX4 qX5 qX6 qX7 qX8 qX9 qX10 qX11 qX12 qX13
    refine name_calls ?_
    intro w8 hW
    have hA : Below w7.heap.size w7 w8 := by rw [hW]; exact (Below.refl _ _).alloc (Nat.le_refl _) _
    have rQ : w8.heap[w7.heap.size]? = some (.cells #[I p2, I z2] 24 (0, 0)) := by rw [hW]; exact heap_at _ _ rfl
    have lQ : w7.heap.size < w8.heap.size := by rw [hW]; simp
    clear hW
    replace rB := (hA.block _ lB).trans rB
    replace lB := Nat.lt_of_lt_of_le lB hA.size
    replace rX := (hA.block _ lX).trans rX
    replace lX := Nat.lt_of_lt_of_le lX hA.size
    replace rP := (hA.block _ lP).trans rP
    replace lP := Nat.lt_of_lt_of_le lP hA.size
    have hb8 := hb7.trans (hA.mono hb7.size)
    have hx8 := hx7.trans (hA.mono hx7.size)
    clear hA hb7 hx7
    refine (C0.out _ hx8).mono ?_
    rintro e w9 ⟨rfl, hB⟩
    replace rB := (hB.block _ lB).trans rB
    replace lB := Nat.lt_of_lt_of_le lB hB.size
    replace rX := (hB.block _ lX).trans rX
    replace lX := Nat.lt_of_lt_of_le lX hB.size
    replace rP := (hB.block _ lP).trans rP
    replace lP := Nat.lt_of_lt_of_le lP hB.size
    replace rQ := (hB.block _ lQ).trans rQ
    replace lQ := Nat.lt_of_lt_of_le lQ hB.size
    have hb9 := hb8.trans (hB.mono hb8.size)
    have hx9 := hx8.trans (hB.mono hx8.size)
    clear hB hb8 hx8
    clear C0 C1 C2 C3 C4 C5 C6 C7 C8 HSP rB lB rX lX rP lP rQ lQ
    go_wp2_with fail
    refine (moored_any _).mono ?_
    rintro e wZ ⟨rfl, hBZ⟩
    have HBZ := Lib.hid (hb9.trans (hBZ.mono hb9.size))
    clear hBZ
    go_wp2_with fail
    go_ret
    exact ⟨rfl, HBZ.out⟩

  injection hA with i1 i2
  injection hA2 with i3 i4
  subst i2 i4
  subst p5 p6
  have HMOST := Lib.hid hmost
  have HK := Lib.hid hk
  have CV1 := Lib.hid cv1
  have CV2 := Lib.hid cv2
  clear hmost hk cv1 cv2 HSP C0 C1 C2
  have qB0 := cell_of_row w7 _ 0 _ _ _ rB
  have qB1 := cell_of_row w7 _ 1 _ _ _ rB
  have qB2 := cell_of_row w7 _ 2 _ _ _ rB
  have qB3 := cell_of_row w7 _ 3 _ _ _ rB
  have qB4 := cell_of_row w7 _ 4 _ _ _ rB
  have qB5 := cell_of_row w7 _ 5 _ _ _ rB
  have qB6 := cell_of_row w7 _ 6 _ _ _ rB
  have qB7 := cell_of_row w7 _ 7 _ _ _ rB
  have qB8 := cell_of_row w7 _ 8 _ _ _ rB
  have qB9 := cell_of_row w7 _ 9 _ _ _ rB
  have qB10 := cell_of_row w7 _ 10 _ _ _ rB
  have qB11 := cell_of_row w7 _ 11 _ _ _ rB
  have qB12 := cell_of_row w7 _ 12 _ _ _ rB
  have qB13 := cell_of_row w7 _ 13 _ _ _ rB
  simp only [List.getElem?_toArray, List.getElem?_cons_zero, List.getElem?_cons_succ] at qB0 qB1 qB2 qB3 qB4 qB5 qB6 qB7 qB8 qB9 qB10 qB11 qB12 qB13
  go_wp2_with fail
  clear qB0 qB1 qB2 qB3 qB4 qB5 qB6 qB7 qB8 qB9 qB10 qB11 qB12 qB13
  refine name_calls ?_
  intro w8 hW
  have hA : Below w7.heap.size w7 w8 := by rw [hW]; exact (Below.refl _ _).alloc (Nat.le_refl _) _
  have rQ : w8.heap[w7.heap.size]? = some (.cells #[I p2, I z2] 24 (0, 0)) := by rw [hW]; exact heap_at _ _ rfl
  have lQ : w7.heap.size < w8.heap.size := by rw [hW]; simp
  clear hW
  replace rB := (hA.block _ lB).trans rB
  replace lB := Nat.lt_of_lt_of_le lB hA.size
  replace rX := (hA.block _ lX).trans rX
  replace lX := Nat.lt_of_lt_of_le lX hA.size
  replace rP := (hA.block _ lP).trans rP
  replace lP := Nat.lt_of_lt_of_le lP hA.size
  have hb8 := hb7.trans (hA.mono hb7.size)
  have hx8 := hx7.trans (hA.mono hx7.size)
  clear hA hb7 hx7

  refine (C3.out _ hb8).mono ?_
  rintro e w9 ⟨rfl, hB⟩
  replace rB := (hB.block _ lB).trans rB
  replace lB := Nat.lt_of_lt_of_le lB hB.size
  replace rX := (hB.block _ lX).trans rX
  replace lX := Nat.lt_of_lt_of_le lX hB.size
  replace rP := (hB.block _ lP).trans rP
  replace lP := Nat.lt_of_lt_of_le lP hB.size
  replace rQ := (hB.block _ lQ).trans rQ
  replace lQ := Nat.lt_of_lt_of_le lQ hB.size
  have hb9 := hb8.trans (hB.mono hb8.size)
  have hx9 := hx8.trans (hB.mono hx8.size)
  clear hB hb8 hx8

  have qX0 := cell_of_row w9 _ 0 _ _ _ rX
  have qX1 := cell_of_row w9 _ 1 _ _ _ rX
  have qX2 := cell_of_row w9 _ 2 _ _ _ rX
  have qX3 := cell_of_row w9 _ 3 _ _ _ rX
  have qX4 := cell_of_row w9 _ 4 _ _ _ rX
  have qX5 := cell_of_row w9 _ 5 _ _ _ rX
  have qX6 := cell_of_row w9 _ 6 _ _ _ rX
  have qX7 := cell_of_row w9 _ 7 _ _ _ rX
  have qX8 := cell_of_row w9 _ 8 _ _ _ rX
  have qX9 := cell_of_row w9 _ 9 _ _ _ rX
  have qX10 := cell_of_row w9 _ 10 _ _ _ rX
  have qX11 := cell_of_row w9 _ 11 _ _ _ rX
  have qX12 := cell_of_row w9 _ 12 _ _ _ rX
  have qX13 := cell_of_row w9 _ 13 _ _ _ rX
  simp only [List.getElem?_toArray, List.getElem?_cons_zero, List.getElem?_cons_succ] at qX0 qX1 qX2 qX3 qX4 qX5 qX6 qX7 qX8 qX9 qX10 qX11 qX12 qX13
  go_wp2_with fail
  clear qX0 qX1 qX2 qX3 qX4 qX5 qX6 qX7 qX8 qX9 qX10 qX11 qX12 qX13
  refine name_calls ?_
  intro w10 hW
  have hA : Below w9.heap.size w9 w10 := by rw [hW]; exact (Below.refl _ _).alloc (Nat.le_refl _) _
  have rU : w10.heap[w9.heap.size]? = some (.cells #[I p3, I z3] 24 (0, 0)) := by rw [hW]; exact heap_at _ _ rfl
  have lU : w9.heap.size < w10.heap.size := by rw [hW]; simp
  clear hW
  replace rB := (hA.block _ lB).trans rB
  replace lB := Nat.lt_of_lt_of_le lB hA.size
  replace rX := (hA.block _ lX).trans rX
  replace lX := Nat.lt_of_lt_of_le lX hA.size
  replace rP := (hA.block _ lP).trans rP
  replace lP := Nat.lt_of_lt_of_le lP hA.size
  replace rQ := (hA.block _ lQ).trans rQ
  replace lQ := Nat.lt_of_lt_of_le lQ hA.size
  have hb10 := hb9.trans (hA.mono hb9.size)
  have hx10 := hx9.trans (hA.mono hx9.size)
  clear hA hb9 hx9

  refine (C4.out _ hx10).mono ?_
  rintro e w11 ⟨rfl, hB⟩
  replace rB := (hB.block _ lB).trans rB
  replace lB := Nat.lt_of_lt_of_le lB hB.size
  replace rX := (hB.block _ lX).trans rX
  replace lX := Nat.lt_of_lt_of_le lX hB.size
  replace rP := (hB.block _ lP).trans rP
  replace lP := Nat.lt_of_lt_of_le lP hB.size
  replace rQ := (hB.block _ lQ).trans rQ
  replace lQ := Nat.lt_of_lt_of_le lQ hB.size
  replace rU := (hB.block _ lU).trans rU
  replace lU := Nat.lt_of_lt_of_le lU hB.size
  have hb11 := hb10.trans (hB.mono hb10.size)
  have hx11 := hx10.trans (hB.mono hx10.size)
  clear hB hb10 hx10

  have qB0 := cell_of_row w11 _ 0 _ _ _ rB
  have qB1 := cell_of_row w11 _ 1 _ _ _ rB
  have qB2 := cell_of_row w11 _ 2 _ _ _ rB
  have qB3 := cell_of_row w11 _ 3 _ _ _ rB
  have qB4 := cell_of_row w11 _ 4 _ _ _ rB
  have qB5 := cell_of_row w11 _ 5 _ _ _ rB
  have qB6 := cell_of_row w11 _ 6 _ _ _ rB
  have qB7 := cell_of_row w11 _ 7 _ _ _ rB
  have qB8 := cell_of_row w11 _ 8 _ _ _ rB
  have qB9 := cell_of_row w11 _ 9 _ _ _ rB
  have qB10 := cell_of_row w11 _ 10 _ _ _ rB
  have qB11 := cell_of_row w11 _ 11 _ _ _ rB
  have qB12 := cell_of_row w11 _ 12 _ _ _ rB
  have qB13 := cell_of_row w11 _ 13 _ _ _ rB
  simp only [List.getElem?_toArray, List.getElem?_cons_zero, List.getElem?_cons_succ] at qB0 qB1 qB2 qB3 qB4 qB5 qB6 qB7 qB8 qB9 qB10 qB11 qB12 qB13
  go_wp2_with fail
  clear qB0 qB1 qB2 qB3 qB4 qB5 qB6 qB7 qB8 qB9 qB10 qB11 qB12 qB13
  refine name_calls ?_
  intro w12 hW
  have hA : Below w11.heap.size w11 w12 := by rw [hW]; exact (Below.refl _ _).alloc (Nat.le_refl _) _
  have rV : w12.heap[w11.heap.size]? = some (.cells #[I p4, I z4] 24 (0, 0)) := by rw [hW]; exact heap_at _ _ rfl
  have lV : w11.heap.size < w12.heap.size := by rw [hW]; simp
  clear hW
  replace rB := (hA.block _ lB).trans rB
  replace lB := Nat.lt_of_lt_of_le lB hA.size
  replace rX := (hA.block _ lX).trans rX
  replace lX := Nat.lt_of_lt_of_le lX hA.size
  replace rP := (hA.block _ lP).trans rP
  replace lP := Nat.lt_of_lt_of_le lP hA.size
  replace rQ := (hA.block _ lQ).trans rQ
  replace lQ := Nat.lt_of_lt_of_le lQ hA.size
  replace rU := (hA.block _ lU).trans rU
  replace lU := Nat.lt_of_lt_of_le lU hA.size
  have hb12 := hb11.trans (hA.mono hb11.size)
  have hx12 := hx11.trans (hA.mono hx11.size)
  clear hA hb11 hx11

  refine (C5.out _ hb12).mono ?_
  rintro e w13 ⟨rfl, hB⟩
  replace rB := (hB.block _ lB).trans rB
  replace lB := Nat.lt_of_lt_of_le lB hB.size
  replace rX := (hB.block _ lX).trans rX
  replace lX := Nat.lt_of_lt_of_le lX hB.size
  replace rP := (hB.block _ lP).trans rP
  replace lP := Nat.lt_of_lt_of_le lP hB.size
  replace rQ := (hB.block _ lQ).trans rQ
  replace lQ := Nat.lt_of_lt_of_le lQ hB.size
  replace rU := (hB.block _ lU).trans rU
  replace lU := Nat.lt_of_lt_of_le lU hB.size
  replace rV := (hB.block _ lV).trans rV
  replace lV := Nat.lt_of_lt_of_le lV hB.size
  have hb13 := hb12.trans (hB.mono hb12.size)
  have hx13 := hx12.trans (hB.mono hx12.size)
  clear hB hb12 hx12

  have qX0 := cell_of_row w13 _ 0 _ _ _ rX
  have qX1 := cell_of_row w13 _ 1 _ _ _ rX
  have qX2 := cell_of_row w13 _ 2 _ _ _ rX
  have qX3 := cell_of_row w13 _ 3 _ _ _ rX
  have qX4 := cell_of_row w13 _ 4 _ _ _ rX
  have qX5 := cell_of_row w13 _ 5 _ _ _ rX
  have qX6 := cell_of_row w13 _ 6 _ _ _ rX
  have qX7 := cell_of_row w13 _ 7 _ _ _ rX
  have qX8 := cell_of_row w13 _ 8 _ _ _ rX
  have qX9 := cell_of_row w13 _ 9 _ _ _ rX
  have qX10 := cell_of_row w13 _ 10 _ _ _ rX
  have qX11 := cell_of_row w13 _ 11 _ _ _ rX
  have qX12 := cell_of_row w13 _ 12 _ _ _ rX
  have qX13 := cell_of_row w13 _ 13 _ _ _ rX
  simp only [List.getElem?_toArray, List.getElem?_cons_zero, List.getElem?_cons_succ] at qX0 qX1 qX2 qX3 qX4 qX5 qX6 qX7 qX8 qX9 qX10 qX11 qX12 qX13
  go_wp2_with fail
  clear qX0 qX1 qX2 qX3 qX4 qX5 qX6 qX7 qX8 qX9 qX10 qX11 qX12 qX13
  refine (C6.out _ hx13).mono ?_
  rintro e w14 ⟨rfl, hB⟩
  replace rB := (hB.block _ lB).trans rB
  replace lB := Nat.lt_of_lt_of_le lB hB.size
  replace rX := (hB.block _ lX).trans rX
  replace lX := Nat.lt_of_lt_of_le lX hB.size
  replace rP := (hB.block _ lP).trans rP
  replace lP := Nat.lt_of_lt_of_le lP hB.size
  replace rQ := (hB.block _ lQ).trans rQ
  replace lQ := Nat.lt_of_lt_of_le lQ hB.size
  replace rU := (hB.block _ lU).trans rU
  replace lU := Nat.lt_of_lt_of_le lU hB.size
  replace rV := (hB.block _ lV).trans rV
  replace lV := Nat.lt_of_lt_of_le lV hB.size
  have hb14 := hb13.trans (hB.mono hb13.size)
  have hx14 := hx13.trans (hB.mono hx13.size)
  clear hB hb13 hx13
  have qB0 := cell_of_row w14 _ 0 _ _ _ rB
  have qB1 := cell_of_row w14 _ 1 _ _ _ rB
  have qB2 := cell_of_row w14 _ 2 _ _ _ rB
  have qB3 := cell_of_row w14 _ 3 _ _ _ rB
  have qB4 := cell_of_row w14 _ 4 _ _ _ rB
  have qB5 := cell_of_row w14 _ 5 _ _ _ rB
  have qB6 := cell_of_row w14 _ 6 _ _ _ rB
  have qB7 := cell_of_row w14 _ 7 _ _ _ rB
  have qB8 := cell_of_row w14 _ 8 _ _ _ rB
  have qB9 := cell_of_row w14 _ 9 _ _ _ rB
  have qB10 := cell_of_row w14 _ 10 _ _ _ rB
  have qB11 := cell_of_row w14 _ 11 _ _ _ rB
  have qB12 := cell_of_row w14 _ 12 _ _ _ rB
  have qB13 := cell_of_row w14 _ 13 _ _ _ rB
  simp only [List.getElem?_toArray, List.getElem?_cons_zero, List.getElem?_cons_succ] at qB0 qB1 qB2 qB3 qB4 qB5 qB6 qB7 qB8 qB9 qB10 qB11 qB12 qB13
  go_wp2_with fail
  clear qB0 qB1 qB2 qB3 qB4 qB5 qB6 qB7 qB8 qB9 qB10 qB11 qB12 qB13
  refine (C7.out _ hb14).mono ?_
  rintro e w15 ⟨rfl, hB⟩
  replace rB := (hB.block _ lB).trans rB
  replace lB := Nat.lt_of_lt_of_le lB hB.size
  replace rX := (hB.block _ lX).trans rX
  replace lX := Nat.lt_of_lt_of_le lX hB.size
  replace rP := (hB.block _ lP).trans rP
  replace lP := Nat.lt_of_lt_of_le lP hB.size
  replace rQ := (hB.block _ lQ).trans rQ
  replace lQ := Nat.lt_of_lt_of_le lQ hB.size
  replace rU := (hB.block _ lU).trans rU
  replace lU := Nat.lt_of_lt_of_le lU hB.size
  replace rV := (hB.block _ lV).trans rV
  replace lV := Nat.lt_of_lt_of_le lV hB.size
  have hb15 := hb14.trans (hB.mono hb14.size)
  have hx15 := hx14.trans (hB.mono hx14.size)
  clear hB hb14 hx14
  have qX0 := cell_of_row w15 _ 0 _ _ _ rX
  have qX1 := cell_of_row w15 _ 1 _ _ _ rX
  have qX2 := cell_of_row w15 _ 2 _ _ _ rX
  have qX3 := cell_of_row w15 _ 3 _ _ _ rX
  have qX4 := cell_of_row w15 _ 4 _ _ _ rX
  have qX5 := cell_of_row w15 _ 5 _ _ _ rX
  have qX6 := cell_of_row w15 _ 6 _ _ _ rX
  have qX7 := cell_of_row w15 _ 7 _ _ _ rX
  have qX8 := cell_of_row w15 _ 8 _ _ _ rX
  have qX9 := cell_of_row w15 _ 9 _ _ _ rX
  have qX10 := cell_of_row w15 _ 10 _ _ _ rX
  have qX11 := cell_of_row w15 _ 11 _ _ _ rX
  have qX12 := cell_of_row w15 _ 12 _ _ _ rX
  have qX13 := cell_of_row w15 _ 13 _ _ _ rX
  simp only [List.getElem?_toArray, List.getElem?_cons_zero, List.getElem?_cons_succ] at qX0 qX1 qX2 qX3 qX4 qX5 qX6 qX7 qX8 qX9 qX10 qX11 qX12 qX13
  go_wp2_with fail
  clear qX0 qX1 qX2 qX3 qX4 qX5 qX6 qX7 qX8 qX9 qX10 qX11 qX12 qX13
  refine (C8.out _ hx15).mono ?_
  rintro e w16 ⟨rfl, hB⟩
  replace rB := (hB.block _ lB).trans rB
  replace lB := Nat.lt_of_lt_of_le lB hB.size
  replace rX := (hB.block _ lX).trans rX
  replace lX := Nat.lt_of_lt_of_le lX hB.size
  replace rP := (hB.block _ lP).trans rP
  replace lP := Nat.lt_of_lt_of_le lP hB.size
  replace rQ := (hB.block _ lQ).trans rQ
  replace lQ := Nat.lt_of_lt_of_le lQ hB.size
  replace rU := (hB.block _ lU).trans rU
  replace lU := Nat.lt_of_lt_of_le lU hB.size
  replace rV := (hB.block _ lV).trans rV
  replace lV := Nat.lt_of_lt_of_le lV hB.size
  have hb16 := hb15.trans (hB.mono hb15.size)
  have hx16 := hx15.trans (hB.mono hx15.size)
  clear hB hb15 hx15

  clear rB lB rX lX C3 C4 C5 C6 C7 C8
  have qP0 := cell_of_row w16 _ 0 _ _ _ rP
  have qP1 := cell_of_row w16 _ 1 _ _ _ rP
  simp only [List.getElem?_toArray, List.getElem?_cons_zero, List.getElem?_cons_succ] at qP0 qP1
  have qQ0 := cell_of_row w16 _ 0 _ _ _ rQ
  have qQ1 := cell_of_row w16 _ 1 _ _ _ rQ
  simp only [List.getElem?_toArray, List.getElem?_cons_zero, List.getElem?_cons_succ] at qQ0 qQ1
  have qU0 := cell_of_row w16 _ 0 _ _ _ rU
  have qU1 := cell_of_row w16 _ 1 _ _ _ rU
  simp only [List.getElem?_toArray, List.getElem?_cons_zero, List.getElem?_cons_succ] at qU0 qU1
  have qV0 := cell_of_row w16 _ 0 _ _ _ rV
  have qV1 := cell_of_row w16 _ 1 _ _ _ rV
  simp only [List.getElem?_toArray, List.getElem?_cons_zero, List.getElem?_cons_succ] at qV0 qV1
  go_wp2_with fail
  clear qP0 qP1 qQ0 qQ1 qU0 qU1 qV0 qV1
  refine (covers_any ⟨p1, z1⟩ ⟨p2, z2⟩ _).mono ?_
  rintro e w17 ⟨rfl, hB⟩
  rw [CV1.out]
  replace rP := (hB.block _ lP).trans rP
  replace lP := Nat.lt_of_lt_of_le lP hB.size
  replace rQ := (hB.block _ lQ).trans rQ
  replace lQ := Nat.lt_of_lt_of_le lQ hB.size
  replace rU := (hB.block _ lU).trans rU
  replace lU := Nat.lt_of_lt_of_le lU hB.size
  replace rV := (hB.block _ lV).trans rV
  replace lV := Nat.lt_of_lt_of_le lV hB.size
  have hb17 := hb16.trans (hB.mono hb16.size)
  have hx17 := hx16.trans (hB.mono hx16.size)
  clear hB hb16 hx16
  have qP0 := cell_of_row w17 _ 0 _ _ _ rP
  have qP1 := cell_of_row w17 _ 1 _ _ _ rP
  simp only [List.getElem?_toArray, List.getElem?_cons_zero, List.getElem?_cons_succ] at qP0 qP1
  have qQ0 := cell_of_row w17 _ 0 _ _ _ rQ
  have qQ1 := cell_of_row w17 _ 1 _ _ _ rQ
  simp only [List.getElem?_toArray, List.getElem?_cons_zero, List.getElem?_cons_succ] at qQ0 qQ1
  have qU0 := cell_of_row w17 _ 0 _ _ _ rU
  have qU1 := cell_of_row w17 _ 1 _ _ _ rU
  simp only [List.getElem?_toArray, List.getElem?_cons_zero, List.getElem?_cons_succ] at qU0 qU1
  have qV0 := cell_of_row w17 _ 0 _ _ _ rV
  have qV1 := cell_of_row w17 _ 1 _ _ _ rV
  simp only [List.getElem?_toArray, List.getElem?_cons_zero, List.getElem?_cons_succ] at qV0 qV1
  go_wp2_with fail
  clear qP0 qP1 qQ0 qQ1 qU0 qU1 qV0 qV1
  refine (covers_any ⟨p3, z3⟩ ⟨p4, z4⟩ _).mono ?_
  rintro e w18 ⟨rfl, hB⟩
  rw [CV2.out]
  have HB18 := Lib.hid (hb17.trans (hB.mono hb17.size))
  clear hB hb17 hx17 rP lP rQ lQ rU lU rV lV
  rcases HK.out with rfl | rfl <;> rcases HMOST.out with hMo | ⟨v, u', hvu, hMo, hMo2⟩

  · injection hMo with i1 i2
    subst i2
    clear i1
    go_wp2_with fail
    refine (moored_any _).mono ?_
    rintro e wZ ⟨rfl, hBZ⟩
    have HBZ := Lib.hid (HB18.out.trans (hBZ.mono HB18.out.size))
    clear hBZ
    go_wp2_with fail
    go_ret
    exact ⟨rfl, HBZ.out⟩

  · injection hMo with i1 i2
    subst i2
    injection hMo2 with i5 i6
    subst i6
    have dm : p7 ≤ p8 := by omega
    have dm2 : decide (p7 ≤ p8) = true := decide_eq_true dm
    clear i5 hvu
    clear i1
    go_wp2_with fail
    refine (moored_any _).mono ?_
    rintro e wZ ⟨rfl, hBZ⟩
    have HBZ := Lib.hid (HB18.out.trans (hBZ.mono HB18.out.size))
    clear hBZ
    go_wp2_with fail
    go_ret
    exact ⟨rfl, HBZ.out⟩

  · injection hMo with i1 i2
    subst i2
    clear i1
    by_cases hk1 : kb = 1
    · subst hk1
      go_wp2_with fail
      refine (moored_any _).mono ?_
      rintro e wZ ⟨rfl, hBZ⟩
      have HBZ := Lib.hid (HB18.out.trans (hBZ.mono HB18.out.size))
      clear hBZ
      go_wp2_with fail
      go_ret
      exact ⟨rfl, HBZ.out⟩
    · have hkb : (kb == 1) = false := by simp; exact hk1
      have hkd : decide (kb = 1) = false := decide_eq_false hk1
      go_wp2_with fail
      refine (moored_any _).mono ?_
      rintro e wZ ⟨rfl, hBZ⟩
      have HBZ := Lib.hid (HB18.out.trans (hBZ.mono HB18.out.size))
      clear hBZ
      go_wp2_with fail
      go_ret
      exact ⟨rfl, HBZ.out⟩

  · injection hMo with i1 i2
    subst i2
    injection hMo2 with i5 i6
    subst i6
    have dm : p7 ≤ p8 := by omega
    have dm2 : decide (p7 ≤ p8) = true := decide_eq_true dm
    clear i5 hvu
    clear i1
    by_cases hk1 : kb = 1
    · subst hk1
      go_wp2_with fail
      refine (moored_any _).mono ?_
      rintro e wZ ⟨rfl, hBZ⟩
      have HBZ := Lib.hid (HB18.out.trans (hBZ.mono HB18.out.size))
      clear hBZ
      go_wp2_with fail
      go_ret
      exact ⟨rfl, HBZ.out⟩
    · have hkb : (kb == 1) = false := by simp; exact hk1
      have hkd : decide (kb = 1) = false := decide_eq_false hk1
      go_wp2_with fail
      refine (moored_any _).mono ?_
      rintro e wZ ⟨rfl, hBZ⟩
      have HBZ := Lib.hid (HB18.out.trans (hBZ.mono HB18.out.size))
      clear hBZ
      go_wp2_with fail
      go_ret
      exact ⟨rfl, HBZ.out⟩


end Go.Proofs.Ytjgpghaofhcfnaa
