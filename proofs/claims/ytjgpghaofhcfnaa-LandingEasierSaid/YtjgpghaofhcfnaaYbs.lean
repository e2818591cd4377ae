/- Texts on the program that the proof leans on, part 45. -/
import Derived.Test.YtjgpghaofhcfnaaYbe
import Derived.Test.YtjgpghaofhcfnaaYbc
import Derived.Test.YtjgpghaofhcfnaaYbd
import Derived.Test.YtjgpghaofhcfnaaYbg
import Derived.Test.YtjgpghaofhcfnaaYbr
import Derived.Deep.CutRange
import Derived.Deep.CutBlock
set_option linter.unusedVariables false
set_option linter.unusedSimpArgs false

/- Contract of LandingEasier: it returns true, whatever the book and the numbers. -/
namespace Go.Proofs.Ytjgpghaofhcfnaa
open Go.RowKit

theorem row_val {T D : Value} {x : Ld.Bk} {A : Array Value} (h : A = rBk T D x) : A = rBk T D x := h

set_option maxRecDepth 100000 in
set_option maxHeartbeats 20000000 in
theorem LandingEasier_any (b : Ld.Bk) (T D : Value) (n0 n1 n2 n3 : Int) (w : World) (hb : RB w w.heap.size b T D) :
    Calls Try.prog 9 #[vBk T D b, .agg #[I n0, I n1, I n2, I n3]] w fun e w' => e = .returned (.bool true) ∧ Below w.heap.size w w' := by
  obtain ⟨A0, k0, rfl⟩ := hb.tides.form
  obtain ⟨A1, k1, rfl⟩ := hb.sounds.form
  obtain ⟨o, ho⟩ : ∃ o : Obj, o = .cells (rBk (.slice A0 b.tides.length k0) (.slice A1 b.sounds.length k1) b) 30 := ⟨_, rfl⟩
  obtain ⟨o2, ho2⟩ : ∃ o : Obj, o = .cells #[I n0, I n1, I n2, I n3] 57 := ⟨_, rfl⟩
  obtain ⟨W0, hW0⟩ : ∃ W : World, W = (w.alloc o).alloc o2 := ⟨_, rfl⟩
  have hb0 : Below w.heap.size w W0 := by rw [hW0]; exact ((Below.refl _ _).alloc (Nat.le_refl _) _).alloc (by simp) _
  have rB : W0.heap[w.heap.size]? = some o := by rw [hW0]; exact (Below.heap_alloc _ _ _ (by simp)).trans (heap_at _ _ rfl)
  have rN : W0.heap[w.heap.size + 1]? = some o2 := by rw [hW0]; exact heap_at _ _ (by simp)
  have lB : w.heap.size < W0.heap.size := by rw [hW0]; simp; omega
  have lN : w.heap.size + 1 < W0.heap.size := by rw [hW0]; simp
  go_enter Try.func9, Try.ntmps9
  go_wp2_with fail
  rw [← ho, ← ho2, ← hW0]
  subst ho ho2
  clear hW0
  have hRB := (hb.below hb0 (Nat.le_refl _)).more hb0.size
  refine (sound_any b _ _ W0 hRB).mono ?_
  rintro e w1 ⟨rfl, hB1⟩
  replace rB := (hB1.block _ lB).trans rB
  replace lB := Nat.lt_of_lt_of_le lB hB1.size
  replace rN := (hB1.block _ lN).trans rN
  replace lN := Nat.lt_of_lt_of_le lN hB1.size
  have hb1 := hb0.trans (hB1.mono hb0.size)
  clear hRB hb0 hB1
  by_cases hck : Ld.check b = 0
  case neg =>
    rw [decide_eq_false hck]
    clear rB rN lB lN
    go_wp2_with fail
    refine (moored_any _).mono ?_
    rintro e w2 ⟨rfl, hB2⟩
    have HB2 := Lib.hid (hb1.trans (hB2.mono hb1.size))
    clear hB2
    go_wp2_with fail
    go_ret
    exact ⟨rfl, HB2.out⟩
  rw [decide_eq_true hck]
  have hval : Ld.valid b = true := by
    unfold Ld.check at hck
    split at hck
    · assumption
    · omega
  have hsz := Ld.sized_bd (Ld.valid_parts hval).1
  have HRB := Lib.hid (show ∀ W', Below w.heap.size w W' → RB W' W'.heap.size b (.slice A0 b.tides.length k0) (.slice A1 b.sounds.length k1) from fun W' h => (hb.below h (Nat.le_refl _)).more h.size)
  clear hb hck
  obtain ⟨q, hq⟩ : ∃ q : Nat, (q : Int) = n1 % b.tides.length := ⟨_, Int.toNat_of_nonneg (Int.emod_nonneg _ (by omega))⟩
  have hq1 : q < b.tides.length := by have := Int.emod_lt_of_pos n1 (show (0 : Int) < b.tides.length by omega); omega
  obtain ⟨m, hm⟩ : ∃ m : Nat, (m : Int) = n0 % 2 := ⟨_, Int.toNat_of_nonneg (Int.emod_nonneg _ (by omega))⟩
  have hm1 : m = 0 ∨ m = 1 := by have := Int.emod_lt_of_pos n0 (show (0 : Int) < 2 by omega); omega
  obtain ⟨y, hy⟩ : ∃ y : Int, y = n2 % 201 := ⟨_, rfl⟩
  have hy0 : 0 ≤ y := by have := Int.emod_nonneg n2 (show (201 : Int) ≠ 0 by omega); omega
  have hy1 : y ≤ 200 := by have := Int.emod_lt_of_pos n2 (show (0 : Int) < 201 by omega); omega
  have HVAL := Lib.hid hval
  have HSZ := Lib.hid hsz
  have hs1 : (0 : Int) < b.tides.length := by omega
  have hs2 : (b.tides.length : Int) ≤ 1000 := by omega
  clear hval hsz
  have qB0 := cell_of_row w1 _ 0 _ _ _ rB
  simp only [List.getElem?_toArray, List.getElem?_cons_zero, List.getElem?_cons_succ] at qB0
  have qN0 := cell_of_row w1 _ 0 _ _ _ rN
  have qN1 := cell_of_row w1 _ 1 _ _ _ rN
  have qN2 := cell_of_row w1 _ 2 _ _ _ rN
  simp only [List.getElem?_toArray, List.getElem?_cons_zero, List.getElem?_cons_succ] at qN0 qN1 qN2
  go_wp2_with fail
  go_region_held3 (fun w' => Held w1 w') (first | assumption | exact held_start _ | exact held_step (by assumption) (by assumption) | exact held_step (by assumption) (held_start _) | go_keep)
    (first | (go_at_call 16; refine (mod_any _ _ (by omega) (by omega) _).mono ?_; rintro e w2 ⟨rfl, hB2⟩))
  have hHE : Held w1 w2 := by assumption
  rw [← hm, ← hq, ← hy]
  obtain ⟨u, hu⟩ : ∃ u : World, u = w2 := ⟨_, rfl⟩
  rw [← hu] at hHE ⊢
  clear hu hB2
  have hBu := hHE.2.2
  replace rB := (hBu.block _ lB).trans rB
  replace lB := Nat.lt_of_lt_of_le lB hBu.size
  replace rN := (hBu.block _ lN).trans rN
  replace lN := Nat.lt_of_lt_of_le lN hBu.size
  have hbu := hb1.trans (hBu.mono hb1.size)
  clear qB0 qN0 qN1 qN2 hHE hBu hb1 hs1 hs2 hm hq hy

  obtain ⟨d, hd⟩ : ∃ d : Int, d = n3 % 5 := ⟨_, rfl⟩
  have hd0 : d = 0 ∨ d = 1 ∨ d = 2 ∨ d = 3 ∨ d = 4 := by have := Int.emod_nonneg n3 (show (5 : Int) ≠ 0 by omega); have := Int.emod_lt_of_pos n3 (show (0 : Int) < 5 by omega); omega
  have qB0 := cell_of_row u _ 0 _ _ _ rB
  have qB1 := cell_of_row u _ 1 _ _ _ rB
  have qB2 := cell_of_row u _ 2 _ _ _ rB
  have qB3 := cell_of_row u _ 3 _ _ _ rB
  have qB4 := cell_of_row u _ 4 _ _ _ rB
  have qB5 := cell_of_row u _ 5 _ _ _ rB
  have qB6 := cell_of_row u _ 6 _ _ _ rB
  have qB7 := cell_of_row u _ 7 _ _ _ rB
  have qB8 := cell_of_row u _ 8 _ _ _ rB
  have qB9 := cell_of_row u _ 9 _ _ _ rB
  have qB10 := cell_of_row u _ 10 _ _ _ rB
  have qB11 := cell_of_row u _ 11 _ _ _ rB
  have qB12 := cell_of_row u _ 12 _ _ _ rB
  have qB13 := cell_of_row u _ 13 _ _ _ rB
  simp only [List.getElem?_toArray, List.getElem?_cons_zero, List.getElem?_cons_succ] at qB0 qB1 qB2 qB3 qB4 qB5 qB6 qB7 qB8 qB9 qB10 qB11 qB12 qB13
  have qN3 := cell_of_row u _ 3 _ _ _ rN
  simp only [List.getElem?_toArray, List.getElem?_cons_zero, List.getElem?_cons_succ] at qN3
  go_wp2_with fail
  clear qB0 qB1 qB2 qB3 qB4 qB5 qB6 qB7 qB8 qB9 qB10 qB11 qB12 qB13
  clear qN3
  refine name_calls ?_
  intro W hW
  have hbW := hbu.alloc hbu.size (.cells (rBk (.slice A0 b.tides.length k0) (.slice A1 b.sounds.length k1) b) 30)
  have rBW : W.heap[w.heap.size]? = some (.cells (rBk (.slice A0 b.tides.length k0) (.slice A1 b.sounds.length k1) b) 30 (0, 0)) := by rw [hW]; exact (Below.heap_alloc _ _ _ lB).trans rB
  have rX : W.heap[u.heap.size]? = some (.cells (rBk (.slice A0 b.tides.length k0) (.slice A1 b.sounds.length k1) b) 30 (0, 0)) := by rw [hW]; exact heap_at _ _ rfl
  have lW : u.heap.size < W.heap.size := by rw [hW]; simp
  rw [← hW] at hbW
  have lBX : w.heap.size < u.heap.size := lB
  clear hW rB lB rN lN hbu
  refine (mod_any n3 5 (by omega) (by omega) _).mono ?_
  rintro e w3 ⟨rfl, hB3⟩
  rw [← hd]
  have rB := (hB3.block _ (heap_lt rBW)).trans rBW
  replace rX := (hB3.block _ lW).trans rX
  have hb3 := hbW.trans (hB3.mono hbW.size)
  clear hB3 hbW hd lW rBW
  obtain ⟨X, hX⟩ : ∃ X : Nat, X = u.heap.size := ⟨_, rfl⟩
  rw [← hX] at rX lBX ⊢
  clear hX
  go_upto_block 0 with fail
  go_cut [] from 46 to 97 (fun wx => ∃ x : Ld.Bk, Ld.Easier b x ∧ wx.heap[X]? = some (.cells (rBk (.slice A0 b.tides.length k0) (.slice A1 b.sounds.length k1) x) 30 (0, 0)) ∧ wx.heap[w.heap.size]? = some (.cells (rBk (.slice A0 b.tides.length k0) (.slice A1 b.sounds.length k1) b) 30 (0, 0)) ∧ Below w.heap.size w wx)
  case first =>
    have hvp := Ld.valid_parts HVAL.out
    have f0 := Ld.floor_bd hvp.2.2.1 0
    have f1 := Ld.floor_bd hvp.2.2.1 1
    rw [show Ld.shore b 0 = b.s0 from rfl] at f0
    rw [show Ld.shore b 1 = b.s1 from rfl] at f1
    have hdr := Ld.draught_bd hvp.2.2.2.1
    have hsz := HSZ.out
    have g1 : IntKind.i64.wrap (b.s0.lo - 1) = b.s0.lo - 1 := IntWalk.i64_in _ (by omega)
    have g2 : IntKind.i64.wrap (b.s1.lo - 1) = b.s1.lo - 1 := IntWalk.i64_in _ (by omega)
    have g3 : IntKind.i64.wrap (b.s0.hi + 1) = b.s0.hi + 1 := IntWalk.i64_in _ (by omega)
    have g4 : IntKind.i64.wrap (b.s1.hi + 1) = b.s1.hi + 1 := IntWalk.i64_in _ (by omega)
    have g5 : IntKind.i64.wrap (b.under - 1) = b.under - 1 := IntWalk.i64_in _ (by omega)
    have g6 : IntKind.i64.wrap (b.sink + 1) = b.sink + 1 := IntWalk.i64_in _ (by omega)
    have g7 : IntKind.i64.wrap (b.empty.lo - 1) = b.empty.lo - 1 := IntWalk.i64_in _ (by omega)
    have g8 : IntKind.i64.wrap (b.empty.hi - 1) = b.empty.hi - 1 := IntWalk.i64_in _ (by omega)
    have hXle : w.heap.size ≤ X := Nat.le_of_lt lBX
    have hXne : w.heap.size ≠ X := Nat.ne_of_lt lBX
    have HF0 := Lib.hid f0
    have HF1 := Lib.hid f1
    clear f0 f1 hdr hvp hsz
    rcases hd0 with rfl | rfl | rfl | rfl | rfl
    · rcases hm1 with rfl | rfl
      · skip
        rcases Int.lt_or_le (-40) (b.s0.lo - 1) with hc | hc
        · have hc2 := hc
          have qB3 := cell_of_row w3 _ 3 _ _ _ rB
          simp only [List.getElem?_toArray, List.getElem?_cons_zero, List.getElem?_cons_succ] at qB3
          have qX3 := cell_of_row w3 _ 3 _ _ _ rX
          simp only [List.getElem?_toArray, List.getElem?_cons_zero, List.getElem?_cons_succ] at qX3
          have fX : w3.frozen? ⟨X, 3, none⟩ = false := by simp [World.frozen?, rX]
          go_wp2_with fail
          go_meet
          case rel =>
            have hsz := HSZ.out
            have f0 := HF0.out
            have f1 := HF1.out
            refine ⟨{ b with s0 := { b.s0 with lo := b.s0.lo - 1 } }, Ld.valid_easier HVAL.out rfl rfl rfl rfl ?_ ?_ ?_ ?_ (.inl rfl) ?_ ?_, by simp [World.setCell, Array.getElem?_modify, rX], (Below.heap_setCell _ _ _ _ hXne).trans rB, hb3.setCell (p := ⟨X, 3, none⟩) hXle _⟩ <;> (dsimp only; omega)
        · have hc2 := hc
          have qB3 := cell_of_row w3 _ 3 _ _ _ rB
          simp only [List.getElem?_toArray, List.getElem?_cons_zero, List.getElem?_cons_succ] at qB3
          have qX3 := cell_of_row w3 _ 3 _ _ _ rX
          simp only [List.getElem?_toArray, List.getElem?_cons_zero, List.getElem?_cons_succ] at qX3
          have fX : w3.frozen? ⟨X, 3, none⟩ = false := by simp [World.frozen?, rX]
          go_wp2_with fail
          go_meet
          case rel =>
            have hsz := HSZ.out
            have f0 := HF0.out
            have f1 := HF1.out
            refine ⟨{ b with s0 := { b.s0 with lo := -40 } }, Ld.valid_easier HVAL.out rfl rfl rfl rfl ?_ ?_ ?_ ?_ (.inl rfl) ?_ ?_, by simp [World.setCell, Array.getElem?_modify, rX], (Below.heap_setCell _ _ _ _ hXne).trans rB, hb3.setCell (p := ⟨X, 3, none⟩) hXle _⟩ <;> (dsimp only; omega)
      · skip
        rcases Int.lt_or_le (-40) (b.s1.lo - 1) with hc | hc
        · have hc2 := hc
          have qB7 := cell_of_row w3 _ 7 _ _ _ rB
          simp only [List.getElem?_toArray, List.getElem?_cons_zero, List.getElem?_cons_succ] at qB7
          have qX7 := cell_of_row w3 _ 7 _ _ _ rX
          simp only [List.getElem?_toArray, List.getElem?_cons_zero, List.getElem?_cons_succ] at qX7
          have fX : w3.frozen? ⟨X, 7, none⟩ = false := by simp [World.frozen?, rX]
          go_wp2_with fail
          go_meet
          case rel =>
            have hsz := HSZ.out
            have f0 := HF0.out
            have f1 := HF1.out
            refine ⟨{ b with s1 := { b.s1 with lo := b.s1.lo - 1 } }, Ld.valid_easier HVAL.out rfl rfl rfl rfl ?_ ?_ ?_ ?_ (.inl rfl) ?_ ?_, by simp [World.setCell, Array.getElem?_modify, rX], (Below.heap_setCell _ _ _ _ hXne).trans rB, hb3.setCell (p := ⟨X, 7, none⟩) hXle _⟩ <;> (dsimp only; omega)
        · have hc2 := hc
          have qB7 := cell_of_row w3 _ 7 _ _ _ rB
          simp only [List.getElem?_toArray, List.getElem?_cons_zero, List.getElem?_cons_succ] at qB7
          have qX7 := cell_of_row w3 _ 7 _ _ _ rX
          simp only [List.getElem?_toArray, List.getElem?_cons_zero, List.getElem?_cons_succ] at qX7
          have fX : w3.frozen? ⟨X, 7, none⟩ = false := by simp [World.frozen?, rX]
          go_wp2_with fail
          go_meet
          case rel =>
            have hsz := HSZ.out
            have f0 := HF0.out
            have f1 := HF1.out
            refine ⟨{ b with s1 := { b.s1 with lo := -40 } }, Ld.valid_easier HVAL.out rfl rfl rfl rfl ?_ ?_ ?_ ?_ (.inl rfl) ?_ ?_, by simp [World.setCell, Array.getElem?_modify, rX], (Below.heap_setCell _ _ _ _ hXne).trans rB, hb3.setCell (p := ⟨X, 7, none⟩) hXle _⟩ <;> (dsimp only; omega)
    · rcases hm1 with rfl | rfl
      · skip
        rcases Int.lt_or_le (b.s0.hi + 1) 80 with hc | hc
        · have hc2 := hc
          have qB4 := cell_of_row w3 _ 4 _ _ _ rB
          simp only [List.getElem?_toArray, List.getElem?_cons_zero, List.getElem?_cons_succ] at qB4
          have qX4 := cell_of_row w3 _ 4 _ _ _ rX
          simp only [List.getElem?_toArray, List.getElem?_cons_zero, List.getElem?_cons_succ] at qX4
          have fX : w3.frozen? ⟨X, 4, none⟩ = false := by simp [World.frozen?, rX]
          go_wp2_with fail
          go_meet
          case rel =>
            have hsz := HSZ.out
            have f0 := HF0.out
            have f1 := HF1.out
            refine ⟨{ b with s0 := { b.s0 with hi := b.s0.hi + 1 } }, Ld.valid_easier HVAL.out rfl rfl rfl rfl ?_ ?_ ?_ ?_ (.inl rfl) ?_ ?_, by simp [World.setCell, Array.getElem?_modify, rX], (Below.heap_setCell _ _ _ _ hXne).trans rB, hb3.setCell (p := ⟨X, 4, none⟩) hXle _⟩ <;> (dsimp only; omega)
        · have hc2 := hc
          have qB4 := cell_of_row w3 _ 4 _ _ _ rB
          simp only [List.getElem?_toArray, List.getElem?_cons_zero, List.getElem?_cons_succ] at qB4
          have qX4 := cell_of_row w3 _ 4 _ _ _ rX
          simp only [List.getElem?_toArray, List.getElem?_cons_zero, List.getElem?_cons_succ] at qX4
          have fX : w3.frozen? ⟨X, 4, none⟩ = false := by simp [World.frozen?, rX]
          go_wp2_with fail
          go_meet
          case rel =>
            have hsz := HSZ.out
            have f0 := HF0.out
            have f1 := HF1.out
            refine ⟨{ b with s0 := { b.s0 with hi := 80 } }, Ld.valid_easier HVAL.out rfl rfl rfl rfl ?_ ?_ ?_ ?_ (.inl rfl) ?_ ?_, by simp [World.setCell, Array.getElem?_modify, rX], (Below.heap_setCell _ _ _ _ hXne).trans rB, hb3.setCell (p := ⟨X, 4, none⟩) hXle _⟩ <;> (dsimp only; omega)
      · skip
        rcases Int.lt_or_le (b.s1.hi + 1) 80 with hc | hc
        · have hc2 := hc
          have qB8 := cell_of_row w3 _ 8 _ _ _ rB
          simp only [List.getElem?_toArray, List.getElem?_cons_zero, List.getElem?_cons_succ] at qB8
          have qX8 := cell_of_row w3 _ 8 _ _ _ rX
          simp only [List.getElem?_toArray, List.getElem?_cons_zero, List.getElem?_cons_succ] at qX8
          have fX : w3.frozen? ⟨X, 8, none⟩ = false := by simp [World.frozen?, rX]
          go_wp2_with fail
          go_meet
          case rel =>
            have hsz := HSZ.out
            have f0 := HF0.out
            have f1 := HF1.out
            refine ⟨{ b with s1 := { b.s1 with hi := b.s1.hi + 1 } }, Ld.valid_easier HVAL.out rfl rfl rfl rfl ?_ ?_ ?_ ?_ (.inl rfl) ?_ ?_, by simp [World.setCell, Array.getElem?_modify, rX], (Below.heap_setCell _ _ _ _ hXne).trans rB, hb3.setCell (p := ⟨X, 8, none⟩) hXle _⟩ <;> (dsimp only; omega)
        · have hc2 := hc
          have qB8 := cell_of_row w3 _ 8 _ _ _ rB
          simp only [List.getElem?_toArray, List.getElem?_cons_zero, List.getElem?_cons_succ] at qB8
          have qX8 := cell_of_row w3 _ 8 _ _ _ rX
          simp only [List.getElem?_toArray, List.getElem?_cons_zero, List.getElem?_cons_succ] at qX8
          have fX : w3.frozen? ⟨X, 8, none⟩ = false := by simp [World.frozen?, rX]
          go_wp2_with fail
          go_meet
          case rel =>
            have hsz := HSZ.out
            have f0 := HF0.out
            have f1 := HF1.out
            refine ⟨{ b with s1 := { b.s1 with hi := 80 } }, Ld.valid_easier HVAL.out rfl rfl rfl rfl ?_ ?_ ?_ ?_ (.inl rfl) ?_ ?_, by simp [World.setCell, Array.getElem?_modify, rX], (Below.heap_setCell _ _ _ _ hXne).trans rB, hb3.setCell (p := ⟨X, 8, none⟩) hXle _⟩ <;> (dsimp only; omega)
    · skip
      rcases Int.lt_or_le 1 b.under with hc | hc
      · have hc2 := hc
        have qB12 := cell_of_row w3 _ 12 _ _ _ rB
        simp only [List.getElem?_toArray, List.getElem?_cons_zero, List.getElem?_cons_succ] at qB12
        have qX12 := cell_of_row w3 _ 12 _ _ _ rX
        simp only [List.getElem?_toArray, List.getElem?_cons_zero, List.getElem?_cons_succ] at qX12
        have fX : w3.frozen? ⟨X, 12, none⟩ = false := by simp [World.frozen?, rX]
        go_wp2_with fail
        go_meet
        case rel =>
          have hsz := HSZ.out
          have f0 := HF0.out
          have f1 := HF1.out
          refine ⟨{ b with under := b.under - 1 }, Ld.valid_easier HVAL.out rfl rfl rfl rfl ?_ ?_ ?_ ?_ (.inl rfl) ?_ ?_, by simp [World.setCell, Array.getElem?_modify, rX], (Below.heap_setCell _ _ _ _ hXne).trans rB, hb3.setCell (p := ⟨X, 12, none⟩) hXle _⟩ <;> (dsimp only; omega)
      · have hc2 := hc
        have qB12 := cell_of_row w3 _ 12 _ _ _ rB
        simp only [List.getElem?_toArray, List.getElem?_cons_zero, List.getElem?_cons_succ] at qB12
        have qX12 := cell_of_row w3 _ 12 _ _ _ rX
        simp only [List.getElem?_toArray, List.getElem?_cons_zero, List.getElem?_cons_succ] at qX12
        have fX : w3.frozen? ⟨X, 12, none⟩ = false := by simp [World.frozen?, rX]
        go_wp2_with fail
        go_meet
        case rel =>
          have hsz := HSZ.out
          have f0 := HF0.out
          have f1 := HF1.out
          refine ⟨{ b with under := 0 }, Ld.valid_easier HVAL.out rfl rfl rfl rfl ?_ ?_ ?_ ?_ (.inl rfl) ?_ ?_, by simp [World.setCell, Array.getElem?_modify, rX], (Below.heap_setCell _ _ _ _ hXne).trans rB, hb3.setCell (p := ⟨X, 12, none⟩) hXle _⟩ <;> (dsimp only; omega)
    · skip
      rcases Int.lt_or_le (b.sink + 1) 20 with hc | hc
      · have hc2 := hc
        have qB11 := cell_of_row w3 _ 11 _ _ _ rB
        simp only [List.getElem?_toArray, List.getElem?_cons_zero, List.getElem?_cons_succ] at qB11
        have qX11 := cell_of_row w3 _ 11 _ _ _ rX
        simp only [List.getElem?_toArray, List.getElem?_cons_zero, List.getElem?_cons_succ] at qX11
        have fX : w3.frozen? ⟨X, 11, none⟩ = false := by simp [World.frozen?, rX]
        go_wp2_with fail
        go_meet
        case rel =>
          have hsz := HSZ.out
          have f0 := HF0.out
          have f1 := HF1.out
          refine ⟨{ b with sink := b.sink + 1 }, Ld.valid_easier HVAL.out rfl rfl rfl rfl ?_ ?_ ?_ ?_ (.inl rfl) ?_ ?_, by simp [World.setCell, Array.getElem?_modify, rX], (Below.heap_setCell _ _ _ _ hXne).trans rB, hb3.setCell (p := ⟨X, 11, none⟩) hXle _⟩ <;> (dsimp only; omega)
      · have hc2 := hc
        have qB11 := cell_of_row w3 _ 11 _ _ _ rB
        simp only [List.getElem?_toArray, List.getElem?_cons_zero, List.getElem?_cons_succ] at qB11
        have qX11 := cell_of_row w3 _ 11 _ _ _ rX
        simp only [List.getElem?_toArray, List.getElem?_cons_zero, List.getElem?_cons_succ] at qX11
        have fX : w3.frozen? ⟨X, 11, none⟩ = false := by simp [World.frozen?, rX]
        go_wp2_with fail
        go_meet
        case rel =>
          have hsz := HSZ.out
          have f0 := HF0.out
          have f1 := HF1.out
          refine ⟨{ b with sink := 20 }, Ld.valid_easier HVAL.out rfl rfl rfl rfl ?_ ?_ ?_ ?_ (.inl rfl) ?_ ?_, by simp [World.setCell, Array.getElem?_modify, rX], (Below.heap_setCell _ _ _ _ hXne).trans rB, hb3.setCell (p := ⟨X, 11, none⟩) hXle _⟩ <;> (dsimp only; omega)
    · rcases Int.lt_or_le 1 b.empty.lo with hc | hc <;> rcases Int.lt_or_le 1 b.empty.hi with hc2 | hc2
      · skip
        have qB9 := cell_of_row w3 _ 9 _ _ _ rB
        have qB10 := cell_of_row w3 _ 10 _ _ _ rB
        simp only [List.getElem?_toArray, List.getElem?_cons_zero, List.getElem?_cons_succ] at qB9 qB10
        go_wp2_with fail
        refine (range_any _ _ _).mono ?_
        rintro e w4 ⟨rfl, hB4⟩
        replace rB := (hB4.block _ (heap_lt rB)).trans rB
        replace rX := (hB4.block _ (heap_lt rX)).trans rX
        have hb4 := hb3.trans (hB4.mono hb3.size)
        clear hB4 hb3 qB9 qB10
        have qX9 := cell_of_row w4 _ 9 _ _ _ rX
        have qX10 := cell_of_row w4 _ 10 _ _ _ rX
        simp only [List.getElem?_toArray, List.getElem?_cons_zero, List.getElem?_cons_succ] at qX9 qX10
        have fX : w4.frozen? ⟨X, 9, none⟩ = false := by simp [World.frozen?, rX]
        have fX2 : w4.frozen? ⟨X, 10, none⟩ = false := by simp [World.frozen?, rX]
        go_wp2_with fail
        go_meet
        case rel =>
          have hsz := HSZ.out
          have f0 := HF0.out
          have f1 := HF1.out
          refine ⟨{ b with empty := ⟨b.empty.lo - 1, b.empty.hi - 1⟩ }, Ld.valid_easier HVAL.out rfl rfl rfl rfl ?_ ?_ ?_ ?_ (.inr ⟨?_, ?_⟩) ?_ ?_, by simp [World.setCell, Array.getElem?_modify, rX], (Below.heap_setCell _ _ _ _ hXne).trans ((Below.heap_setCell _ _ _ _ hXne).trans rB), (hb4.setCell (p := ⟨X, 9, none⟩) hXle _).setCell (p := ⟨X, 10, none⟩) hXle _⟩ <;> (dsimp only; omega)
      · skip
        have qB9 := cell_of_row w3 _ 9 _ _ _ rB
        have qB10 := cell_of_row w3 _ 10 _ _ _ rB
        simp only [List.getElem?_toArray, List.getElem?_cons_zero, List.getElem?_cons_succ] at qB9 qB10
        go_wp2_with fail
        refine (range_any _ _ _).mono ?_
        rintro e w4 ⟨rfl, hB4⟩
        replace rB := (hB4.block _ (heap_lt rB)).trans rB
        replace rX := (hB4.block _ (heap_lt rX)).trans rX
        have hb4 := hb3.trans (hB4.mono hb3.size)
        clear hB4 hb3 qB9 qB10
        have qX9 := cell_of_row w4 _ 9 _ _ _ rX
        have qX10 := cell_of_row w4 _ 10 _ _ _ rX
        simp only [List.getElem?_toArray, List.getElem?_cons_zero, List.getElem?_cons_succ] at qX9 qX10
        have fX : w4.frozen? ⟨X, 9, none⟩ = false := by simp [World.frozen?, rX]
        have fX2 : w4.frozen? ⟨X, 10, none⟩ = false := by simp [World.frozen?, rX]
        go_wp2_with fail
        go_meet
        case rel =>
          have hsz := HSZ.out
          have f0 := HF0.out
          have f1 := HF1.out
          refine ⟨{ b with empty := ⟨b.empty.lo - 1, 0⟩ }, Ld.valid_easier HVAL.out rfl rfl rfl rfl ?_ ?_ ?_ ?_ (.inr ⟨?_, ?_⟩) ?_ ?_, by simp [World.setCell, Array.getElem?_modify, rX], (Below.heap_setCell _ _ _ _ hXne).trans ((Below.heap_setCell _ _ _ _ hXne).trans rB), (hb4.setCell (p := ⟨X, 9, none⟩) hXle _).setCell (p := ⟨X, 10, none⟩) hXle _⟩ <;> (dsimp only; omega)
      · skip
        have qB9 := cell_of_row w3 _ 9 _ _ _ rB
        have qB10 := cell_of_row w3 _ 10 _ _ _ rB
        simp only [List.getElem?_toArray, List.getElem?_cons_zero, List.getElem?_cons_succ] at qB9 qB10
        go_wp2_with fail
        refine (range_any _ _ _).mono ?_
        rintro e w4 ⟨rfl, hB4⟩
        replace rB := (hB4.block _ (heap_lt rB)).trans rB
        replace rX := (hB4.block _ (heap_lt rX)).trans rX
        have hb4 := hb3.trans (hB4.mono hb3.size)
        clear hB4 hb3 qB9 qB10
        have qX9 := cell_of_row w4 _ 9 _ _ _ rX
        have qX10 := cell_of_row w4 _ 10 _ _ _ rX
        simp only [List.getElem?_toArray, List.getElem?_cons_zero, List.getElem?_cons_succ] at qX9 qX10
        have fX : w4.frozen? ⟨X, 9, none⟩ = false := by simp [World.frozen?, rX]
        have fX2 : w4.frozen? ⟨X, 10, none⟩ = false := by simp [World.frozen?, rX]
        go_wp2_with fail
        go_meet
        case rel =>
          have hsz := HSZ.out
          have f0 := HF0.out
          have f1 := HF1.out
          refine ⟨{ b with empty := ⟨0, b.empty.hi - 1⟩ }, Ld.valid_easier HVAL.out rfl rfl rfl rfl ?_ ?_ ?_ ?_ (.inr ⟨?_, ?_⟩) ?_ ?_, by simp [World.setCell, Array.getElem?_modify, rX], (Below.heap_setCell _ _ _ _ hXne).trans ((Below.heap_setCell _ _ _ _ hXne).trans rB), (hb4.setCell (p := ⟨X, 9, none⟩) hXle _).setCell (p := ⟨X, 10, none⟩) hXle _⟩ <;> (dsimp only; omega)
      · skip
        have qB9 := cell_of_row w3 _ 9 _ _ _ rB
        have qB10 := cell_of_row w3 _ 10 _ _ _ rB
        simp only [List.getElem?_toArray, List.getElem?_cons_zero, List.getElem?_cons_succ] at qB9 qB10
        go_wp2_with fail
        refine (range_any _ _ _).mono ?_
        rintro e w4 ⟨rfl, hB4⟩
        replace rB := (hB4.block _ (heap_lt rB)).trans rB
        replace rX := (hB4.block _ (heap_lt rX)).trans rX
        have hb4 := hb3.trans (hB4.mono hb3.size)
        clear hB4 hb3 qB9 qB10
        have qX9 := cell_of_row w4 _ 9 _ _ _ rX
        have qX10 := cell_of_row w4 _ 10 _ _ _ rX
        simp only [List.getElem?_toArray, List.getElem?_cons_zero, List.getElem?_cons_succ] at qX9 qX10
        have fX : w4.frozen? ⟨X, 9, none⟩ = false := by simp [World.frozen?, rX]
        have fX2 : w4.frozen? ⟨X, 10, none⟩ = false := by simp [World.frozen?, rX]
        go_wp2_with fail
        go_meet
        case rel =>
          have hsz := HSZ.out
          have f0 := HF0.out
          have f1 := HF1.out
          refine ⟨{ b with empty := ⟨0, 0⟩ }, Ld.valid_easier HVAL.out rfl rfl rfl rfl ?_ ?_ ?_ ?_ (.inr ⟨?_, ?_⟩) ?_ ?_, by simp [World.setCell, Array.getElem?_modify, rX], (Below.heap_setCell _ _ _ _ hXne).trans ((Below.heap_setCell _ _ _ _ hXne).trans rB), (hb4.setCell (p := ⟨X, 9, none⟩) hXle _).setCell (p := ⟨X, 10, none⟩) hXle _⟩ <;> (dsimp only; omega)
  case rest =>
    obtain ⟨x, hx, rX, rB, hbc⟩ := hcut
    have lB := heap_lt rB
    have lX := heap_lt rX
    clear hb3 lBX hd0
    have hRX : ∀ W', Below w.heap.size w W' → RB W' W'.heap.size x (.slice A0 b.tides.length k0) (.slice A1 b.sounds.length k1) := fun W' h => ⟨by rw [hx.tides]; exact (HRB.out W' h).tides, by rw [hx.sounds]; exact (HRB.out W' h).sounds⟩
    have hsp := Ld.easier_spec HVAL.out hx hq1 hm1 hy0 hy1
    have c1 := fun W' h => Lands_any b (.slice A0 b.tides.length k0) (.slice A1 b.sounds.length k1) m q y W' (HRB.out W' h)
    have c2 := fun W' h => Lands_any x (.slice A0 b.tides.length k0) (.slice A1 b.sounds.length k1) m q y W' (hRX W' h)
    have c3 := fun W' h => most_any b (.slice A0 b.tides.length k0) (.slice A1 b.sounds.length k1) m q W' (HRB.out W' h)
    have c4 := fun W' h => most_any x (.slice A0 b.tides.length k0) (.slice A1 b.sounds.length k1) m q W' (hRX W' h)
    have c5 := fun W' h => first_any b (.slice A0 b.tides.length k0) (.slice A1 b.sounds.length k1) m y W' (HRB.out W' h)
    have c6 := fun W' h => first_any x (.slice A0 b.tides.length k0) (.slice A1 b.sounds.length k1) m y W' (hRX W' h)
    have c7 := fun W' h => Both_any b (.slice A0 b.tides.length k0) (.slice A1 b.sounds.length k1) y W' (HRB.out W' h)
    have c8 := fun W' h => Both_any x (.slice A0 b.tides.length k0) (.slice A1 b.sounds.length k1) y W' (hRX W' h)
    clear hRX hx
    obtain ⟨⟨p1, z1⟩, h1⟩ : ∃ s : Int × Int, Ld.landsR b m q y = s := ⟨_, rfl⟩
    obtain ⟨⟨p2, z2⟩, h2⟩ : ∃ s : Int × Int, Ld.landsR x m q y = s := ⟨_, rfl⟩
    obtain ⟨⟨p3, z3⟩, h3⟩ : ∃ s : Int × Int, Ld.mostR b m q = s := ⟨_, rfl⟩
    obtain ⟨⟨p4, z4⟩, h4⟩ : ∃ s : Int × Int, Ld.mostR x m q = s := ⟨_, rfl⟩
    obtain ⟨⟨p5, z5⟩, h5⟩ : ∃ s : Int × Int, Ld.firstR b m y = s := ⟨_, rfl⟩
    obtain ⟨⟨p6, z6⟩, h6⟩ : ∃ s : Int × Int, Ld.firstR x m y = s := ⟨_, rfl⟩
    obtain ⟨L, h7⟩ : ∃ L : List Int, Ld.bothL b y = L := ⟨_, rfl⟩
    obtain ⟨M, h8⟩ : ∃ L : List Int, Ld.bothL x y = L := ⟨_, rfl⟩
    obtain ⟨e7, h9⟩ : ∃ E : Int, Ld.studyE b (Ld.isLoad y) = E := ⟨_, rfl⟩
    obtain ⟨e8, h10⟩ : ∃ E : Int, Ld.studyE x (Ld.isLoad y) = E := ⟨_, rfl⟩
    simp only [h1, h2, h3, h4, h5, h6, h7, h8, h9, h10] at hsp
    simp only [h1] at c1
    simp only [h2] at c2
    simp only [h3] at c3
    simp only [h4] at c4
    simp only [h5] at c5
    simp only [h6] at c6
    simp only [h7, h9] at c7
    simp only [h8, h10] at c8
    have C1 := Lib.hid c1
    have C2 := Lib.hid c2
    have C3 := Lib.hid c3
    have C4 := Lib.hid c4
    have C5 := Lib.hid c5
    have C6 := Lib.hid c6
    have C7 := Lib.hid c7
    have C8 := Lib.hid c8
    have HSP := Lib.hid hsp
    clear c1 c2 c3 c4 c5 c6 c7 c8 h1 h2 h3 h4 h5 h6 h7 h8 h9 h10 hsp
    have qB0 := cell_of_row wc _ 0 _ _ _ rB
    have qB1 := cell_of_row wc _ 1 _ _ _ rB
    have qB2 := cell_of_row wc _ 2 _ _ _ rB
    have qB3 := cell_of_row wc _ 3 _ _ _ rB
    have qB4 := cell_of_row wc _ 4 _ _ _ rB
    have qB5 := cell_of_row wc _ 5 _ _ _ rB
    have qB6 := cell_of_row wc _ 6 _ _ _ rB
    have qB7 := cell_of_row wc _ 7 _ _ _ rB
    have qB8 := cell_of_row wc _ 8 _ _ _ rB
    have qB9 := cell_of_row wc _ 9 _ _ _ rB
    have qB10 := cell_of_row wc _ 10 _ _ _ rB
    have qB11 := cell_of_row wc _ 11 _ _ _ rB
    have qB12 := cell_of_row wc _ 12 _ _ _ rB
    have qB13 := cell_of_row wc _ 13 _ _ _ rB
    simp only [List.getElem?_toArray, List.getElem?_cons_zero, List.getElem?_cons_succ] at qB0 qB1 qB2 qB3 qB4 qB5 qB6 qB7 qB8 qB9 qB10 qB11 qB12 qB13
    go_wp2_with fail
    clear qB0 qB1 qB2 qB3 qB4 qB5 qB6 qB7 qB8 qB9 qB10 qB11 qB12 qB13
    refine (C1.out _ hbc).mono ?_
    rintro e w1 ⟨rfl, hB⟩
    replace rB := (hB.block _ lB).trans rB
    replace lB := Nat.lt_of_lt_of_le lB hB.size
    replace rX := (hB.block _ lX).trans rX
    replace lX := Nat.lt_of_lt_of_le lX hB.size
    have hb1 := hbc.trans (hB.mono hbc.size)
    clear hB hbc
    have qX0 := cell_of_row w1 _ 0 _ _ _ rX
    have qX1 := cell_of_row w1 _ 1 _ _ _ rX
    have qX2 := cell_of_row w1 _ 2 _ _ _ rX
    have qX3 := cell_of_row w1 _ 3 _ _ _ rX
    have qX4 := cell_of_row w1 _ 4 _ _ _ rX
    have qX5 := cell_of_row w1 _ 5 _ _ _ rX
    have qX6 := cell_of_row w1 _ 6 _ _ _ rX
    have qX7 := cell_of_row w1 _ 7 _ _ _ rX
    have qX8 := cell_of_row w1 _ 8 _ _ _ rX
    have qX9 := cell_of_row w1 _ 9 _ _ _ rX
    have qX10 := cell_of_row w1 _ 10 _ _ _ rX
    have qX11 := cell_of_row w1 _ 11 _ _ _ rX
    have qX12 := cell_of_row w1 _ 12 _ _ _ rX
    have qX13 := cell_of_row w1 _ 13 _ _ _ rX
    simp only [List.getElem?_toArray, List.getElem?_cons_zero, List.getElem?_cons_succ] at qX0 qX1 qX2 qX3 qX4 qX5 qX6 qX7 qX8 qX9 qX10 qX11 qX12 qX13
    go_wp2_with fail
    clear qX0 qX1 qX2 qX3 qX4 qX5 qX6 qX7 qX8 qX9 qX10 qX11 qX12 qX13
    refine (C2.out _ hb1).mono ?_
    rintro e w2 ⟨rfl, hB⟩
    replace rB := (hB.block _ lB).trans rB
    replace lB := Nat.lt_of_lt_of_le lB hB.size
    replace rX := (hB.block _ lX).trans rX
    replace lX := Nat.lt_of_lt_of_le lX hB.size
    have hb2 := hb1.trans (hB.mono hb1.size)
    clear hB hb1
    rcases HSP.out with ⟨hA, hA2⟩ | ⟨ka, kb, hk, hA, hA2, rfl, rfl, hsub, hmost, hfirst⟩
    · injection hA with i1 i2
      injection hA2 with i3 i4
      subst i2 i4
      clear C1 C2 C3 C4 C5 C6 C7 C8 HSP rB lB rX lX
      go_wp2_with fail
      refine (moored_any _).mono ?_
      rintro e wZ ⟨rfl, hBZ⟩
      have HBZ := Lib.hid (hb2.trans (hBZ.mono hb2.size))
      clear hBZ
      go_wp2_with fail
      go_ret
      exact ⟨rfl, HBZ.out⟩
    injection hA with i1 i2
    injection hA2 with i3 i4
    subst i2 i4
    subst p1 p2
    have HSUB := Lib.hid hsub
    have HMOST := Lib.hid hmost
    have HFIRST := Lib.hid hfirst
    clear hsub hmost hfirst HSP C1 C2
    have qB0 := cell_of_row w2 _ 0 _ _ _ rB
    have qB1 := cell_of_row w2 _ 1 _ _ _ rB
    have qB2 := cell_of_row w2 _ 2 _ _ _ rB
    have qB3 := cell_of_row w2 _ 3 _ _ _ rB
    have qB4 := cell_of_row w2 _ 4 _ _ _ rB
    have qB5 := cell_of_row w2 _ 5 _ _ _ rB
    have qB6 := cell_of_row w2 _ 6 _ _ _ rB
    have qB7 := cell_of_row w2 _ 7 _ _ _ rB
    have qB8 := cell_of_row w2 _ 8 _ _ _ rB
    have qB9 := cell_of_row w2 _ 9 _ _ _ rB
    have qB10 := cell_of_row w2 _ 10 _ _ _ rB
    have qB11 := cell_of_row w2 _ 11 _ _ _ rB
    have qB12 := cell_of_row w2 _ 12 _ _ _ rB
    have qB13 := cell_of_row w2 _ 13 _ _ _ rB
    simp only [List.getElem?_toArray, List.getElem?_cons_zero, List.getElem?_cons_succ] at qB0 qB1 qB2 qB3 qB4 qB5 qB6 qB7 qB8 qB9 qB10 qB11 qB12 qB13
    go_wp2_with fail
    clear qB0 qB1 qB2 qB3 qB4 qB5 qB6 qB7 qB8 qB9 qB10 qB11 qB12 qB13
    refine (C3.out _ hb2).mono ?_
    rintro e w3 ⟨rfl, hB⟩
    replace rB := (hB.block _ lB).trans rB
    replace lB := Nat.lt_of_lt_of_le lB hB.size
    replace rX := (hB.block _ lX).trans rX
    replace lX := Nat.lt_of_lt_of_le lX hB.size
    have hb3 := hb2.trans (hB.mono hb2.size)
    clear hB hb2
    have qX0 := cell_of_row w3 _ 0 _ _ _ rX
    have qX1 := cell_of_row w3 _ 1 _ _ _ rX
    have qX2 := cell_of_row w3 _ 2 _ _ _ rX
    have qX3 := cell_of_row w3 _ 3 _ _ _ rX
    have qX4 := cell_of_row w3 _ 4 _ _ _ rX
    have qX5 := cell_of_row w3 _ 5 _ _ _ rX
    have qX6 := cell_of_row w3 _ 6 _ _ _ rX
    have qX7 := cell_of_row w3 _ 7 _ _ _ rX
    have qX8 := cell_of_row w3 _ 8 _ _ _ rX
    have qX9 := cell_of_row w3 _ 9 _ _ _ rX
    have qX10 := cell_of_row w3 _ 10 _ _ _ rX
    have qX11 := cell_of_row w3 _ 11 _ _ _ rX
    have qX12 := cell_of_row w3 _ 12 _ _ _ rX
    have qX13 := cell_of_row w3 _ 13 _ _ _ rX
    simp only [List.getElem?_toArray, List.getElem?_cons_zero, List.getElem?_cons_succ] at qX0 qX1 qX2 qX3 qX4 qX5 qX6 qX7 qX8 qX9 qX10 qX11 qX12 qX13
    go_wp2_with fail
    clear qX0 qX1 qX2 qX3 qX4 qX5 qX6 qX7 qX8 qX9 qX10 qX11 qX12 qX13
    refine (C4.out _ hb3).mono ?_
    rintro e w4 ⟨rfl, hB⟩
    replace rB := (hB.block _ lB).trans rB
    replace lB := Nat.lt_of_lt_of_le lB hB.size
    replace rX := (hB.block _ lX).trans rX
    replace lX := Nat.lt_of_lt_of_le lX hB.size
    have hb4 := hb3.trans (hB.mono hb3.size)
    clear hB hb3
    have qB0 := cell_of_row w4 _ 0 _ _ _ rB
    have qB1 := cell_of_row w4 _ 1 _ _ _ rB
    have qB2 := cell_of_row w4 _ 2 _ _ _ rB
    have qB3 := cell_of_row w4 _ 3 _ _ _ rB
    have qB4 := cell_of_row w4 _ 4 _ _ _ rB
    have qB5 := cell_of_row w4 _ 5 _ _ _ rB
    have qB6 := cell_of_row w4 _ 6 _ _ _ rB
    have qB7 := cell_of_row w4 _ 7 _ _ _ rB
    have qB8 := cell_of_row w4 _ 8 _ _ _ rB
    have qB9 := cell_of_row w4 _ 9 _ _ _ rB
    have qB10 := cell_of_row w4 _ 10 _ _ _ rB
    have qB11 := cell_of_row w4 _ 11 _ _ _ rB
    have qB12 := cell_of_row w4 _ 12 _ _ _ rB
    have qB13 := cell_of_row w4 _ 13 _ _ _ rB
    simp only [List.getElem?_toArray, List.getElem?_cons_zero, List.getElem?_cons_succ] at qB0 qB1 qB2 qB3 qB4 qB5 qB6 qB7 qB8 qB9 qB10 qB11 qB12 qB13
    go_wp2_with fail
    clear qB0 qB1 qB2 qB3 qB4 qB5 qB6 qB7 qB8 qB9 qB10 qB11 qB12 qB13
    refine (C5.out _ hb4).mono ?_
    rintro e w5 ⟨rfl, hB⟩
    replace rB := (hB.block _ lB).trans rB
    replace lB := Nat.lt_of_lt_of_le lB hB.size
    replace rX := (hB.block _ lX).trans rX
    replace lX := Nat.lt_of_lt_of_le lX hB.size
    have hb5 := hb4.trans (hB.mono hb4.size)
    clear hB hb4
    have qX0 := cell_of_row w5 _ 0 _ _ _ rX
    have qX1 := cell_of_row w5 _ 1 _ _ _ rX
    have qX2 := cell_of_row w5 _ 2 _ _ _ rX
    have qX3 := cell_of_row w5 _ 3 _ _ _ rX
    have qX4 := cell_of_row w5 _ 4 _ _ _ rX
    have qX5 := cell_of_row w5 _ 5 _ _ _ rX
    have qX6 := cell_of_row w5 _ 6 _ _ _ rX
    have qX7 := cell_of_row w5 _ 7 _ _ _ rX
    have qX8 := cell_of_row w5 _ 8 _ _ _ rX
    have qX9 := cell_of_row w5 _ 9 _ _ _ rX
    have qX10 := cell_of_row w5 _ 10 _ _ _ rX
    have qX11 := cell_of_row w5 _ 11 _ _ _ rX
    have qX12 := cell_of_row w5 _ 12 _ _ _ rX
    have qX13 := cell_of_row w5 _ 13 _ _ _ rX
    simp only [List.getElem?_toArray, List.getElem?_cons_zero, List.getElem?_cons_succ] at qX0 qX1 qX2 qX3 qX4 qX5 qX6 qX7 qX8 qX9 qX10 qX11 qX12 qX13
    go_wp2_with fail
    clear qX0 qX1 qX2 qX3 qX4 qX5 qX6 qX7 qX8 qX9 qX10 qX11 qX12 qX13
    refine (C6.out _ hb5).mono ?_
    rintro e w6 ⟨rfl, hB⟩
    replace rB := (hB.block _ lB).trans rB
    replace lB := Nat.lt_of_lt_of_le lB hB.size
    replace rX := (hB.block _ lX).trans rX
    replace lX := Nat.lt_of_lt_of_le lX hB.size
    have hb6 := hb5.trans (hB.mono hb5.size)
    clear hB hb5
    have qB0 := cell_of_row w6 _ 0 _ _ _ rB
    have qB1 := cell_of_row w6 _ 1 _ _ _ rB
    have qB2 := cell_of_row w6 _ 2 _ _ _ rB
    have qB3 := cell_of_row w6 _ 3 _ _ _ rB
    have qB4 := cell_of_row w6 _ 4 _ _ _ rB
    have qB5 := cell_of_row w6 _ 5 _ _ _ rB
    have qB6 := cell_of_row w6 _ 6 _ _ _ rB
    have qB7 := cell_of_row w6 _ 7 _ _ _ rB
    have qB8 := cell_of_row w6 _ 8 _ _ _ rB
    have qB9 := cell_of_row w6 _ 9 _ _ _ rB
    have qB10 := cell_of_row w6 _ 10 _ _ _ rB
    have qB11 := cell_of_row w6 _ 11 _ _ _ rB
    have qB12 := cell_of_row w6 _ 12 _ _ _ rB
    have qB13 := cell_of_row w6 _ 13 _ _ _ rB
    simp only [List.getElem?_toArray, List.getElem?_cons_zero, List.getElem?_cons_succ] at qB0 qB1 qB2 qB3 qB4 qB5 qB6 qB7 qB8 qB9 qB10 qB11 qB12 qB13
    go_wp2_with fail
    clear qB0 qB1 qB2 qB3 qB4 qB5 qB6 qB7 qB8 qB9 qB10 qB11 qB12 qB13
    refine (C7.out _ hb6).mono ?_
    rintro e w7 ⟨⟨v, rfl, hsl⟩, hB⟩
    replace rB := (hB.block _ lB).trans rB
    replace lB := Nat.lt_of_lt_of_le lB hB.size
    replace rX := (hB.block _ lX).trans rX
    replace lX := Nat.lt_of_lt_of_le lX hB.size
    have hb7 := hb6.trans (hB.mono hb6.size)
    clear hB hb6
    obtain ⟨Av, cv, rfl⟩ := hsl.form
    have HSL := Lib.hid hsl
    clear hsl
    have qX0 := cell_of_row w7 _ 0 _ _ _ rX
    have qX1 := cell_of_row w7 _ 1 _ _ _ rX
    have qX2 := cell_of_row w7 _ 2 _ _ _ rX
    have qX3 := cell_of_row w7 _ 3 _ _ _ rX
    have qX4 := cell_of_row w7 _ 4 _ _ _ rX
    have qX5 := cell_of_row w7 _ 5 _ _ _ rX
    have qX6 := cell_of_row w7 _ 6 _ _ _ rX
    have qX7 := cell_of_row w7 _ 7 _ _ _ rX
    have qX8 := cell_of_row w7 _ 8 _ _ _ rX
    have qX9 := cell_of_row w7 _ 9 _ _ _ rX
    have qX10 := cell_of_row w7 _ 10 _ _ _ rX
    have qX11 := cell_of_row w7 _ 11 _ _ _ rX
    have qX12 := cell_of_row w7 _ 12 _ _ _ rX
    have qX13 := cell_of_row w7 _ 13 _ _ _ rX
    simp only [List.getElem?_toArray, List.getElem?_cons_zero, List.getElem?_cons_succ] at qX0 qX1 qX2 qX3 qX4 qX5 qX6 qX7 qX8 qX9 qX10 qX11 qX12 qX13
    go_wp2_with fail
    clear qX0 qX1 qX2 qX3 qX4 qX5 qX6 qX7 qX8 qX9 qX10 qX11 qX12 qX13
    refine (C8.out _ hb7).mono ?_
    rintro e w8 ⟨⟨v, rfl, hslM⟩, hB⟩
    have hsl := (HSL.out.below hB (Nat.le_refl _)).more hB.size
    replace rB := (hB.block _ lB).trans rB
    replace lB := Nat.lt_of_lt_of_le lB hB.size
    replace rX := (hB.block _ lX).trans rX
    replace lX := Nat.lt_of_lt_of_le lX hB.size
    have hb8 := hb7.trans (hB.mono hb7.size)
    clear hB hb7
    obtain ⟨Am, cm, rfl⟩ := hslM.form
    have HSLL := Lib.hid hsl
    have HSLM := Lib.hid hslM
    have HB8 := Lib.hid hb8
    have hll := hsl.le
    unfold maxLen at hll
    clear hsl hslM hb8 HSL rB rX lB lX C3 C4 C5 C6 C7 C8
    obtain ⟨w9, hw9⟩ : ∃ u : World, u = w8 := ⟨_, rfl⟩
    go_upto_region 25 with fail
    go_cut [206] from 166 to 205 (fun s wx => s = .bool false ∧ wx = w8)
    case first =>
      have dk : decide (kb < ka) = false := decide_eq_false (by omega)
      rcases HMOST.out with hMo | ⟨v, u', hvu, hMo, hMo2⟩ <;> rcases HFIRST.out with hFi | ⟨f, g, hfg, hFi, hFi2⟩
      · injection hMo with i1 i2
        subst i2
        injection hFi with i3 i4
        subst i4
        clear i1 i3
        go_wp2_with fail
        go_meet
        case rel => exact ⟨rfl, rfl⟩
      · injection hMo with i1 i2
        subst i2
        injection hFi with i3 i4
        subst i4
        injection hFi2 with i7 i8
        subst i8
        have df : decide (p5 < p6) = false := decide_eq_false (by omega)
        clear i1 i3 i7 hfg
        go_wp2_with fail
        go_meet
        case rel => exact ⟨rfl, rfl⟩
      · injection hMo with i1 i2
        subst i2
        injection hFi with i3 i4
        subst i4
        injection hMo2 with i5 i6
        subst i6
        have dm : decide (p4 < p3) = false := decide_eq_false (by omega)
        clear i1 i3 i5 hvu
        go_wp2_with fail
        go_meet
        case rel => exact ⟨rfl, rfl⟩
      · injection hMo with i1 i2
        subst i2
        injection hFi with i3 i4
        subst i4
        injection hMo2 with i5 i6
        subst i6
        have dm : decide (p4 < p3) = false := decide_eq_false (by omega)
        injection hFi2 with i7 i8
        subst i8
        have df : decide (p5 < p6) = false := decide_eq_false (by omega)
        clear i1 i3 i5 hvu i7 hfg
        go_wp2_with fail
        go_meet
        case rel => exact ⟨rfl, rfl⟩
    case rest =>
      obtain ⟨rfl, rfl⟩ := hcut
      clear HMOST HFIRST hw9
      trace_state
      go_wp2_with fail
      go_loopw [25] (fun i wr => ∃ k : Nat, k ≤ L.length ∧ i = I k ∧ Below wc.heap.size wc wr) (fun i _ => L.length - (intOf i).toNat)
      case atStart => exact ⟨0, Nat.zero_le _, rfl, Below.refl _ _⟩
      case round =>
        obtain ⟨k, hk, rfl, hB⟩ := hrel
        by_cases hlt : k < L.length
        · obtain ⟨bo, oo, co, hv, hbo, hco⟩ := (HSLL.out.below hB (Nat.le_refl _)).int hlt
          injection hv with e1 _ e2
          subst e1 e2
          have hki : (k : Int) < L.length := by omega
          have hin := HSUB.out _ (List.getElem_mem hlt)
          have HB := Lib.hid hB
          clear hB
          generalize hz : L[k] = z at hco hin
          clear hz
          go_wp2_with fail
          refine (at_any M z _ wr ((HSLM.out.below HB.out (Nat.le_refl _)).more HB.out.size)).mono ?_
          rintro e w10 ⟨rfl, hB10⟩
          have hj := Ch.indexOf_nonneg.2 hin
          obtain ⟨j, hj2⟩ : ∃ j : Int, Ch.indexOf M z = j := ⟨_, rfl⟩
          rw [hj2] at hj ⊢
          have dj : decide (j < 0) = false := decide_eq_false (by omega)
          have HB2 := Lib.hid (HB.out.trans (hB10.mono HB.out.size))
          clear hB10 hj2 hin
          go_wp2_with fail
          go_roundw
          case rel => exact ⟨k + 1, by omega, by go_num, HB2.out⟩
          case measure => simp [intOf]; omega
        · obtain rfl : k = L.length := by omega
          have HB := Lib.hid (HB8.out.trans (hB.mono HB8.out.size))
          clear hB
          go_wp2_with fail
          refine (moored_any _).mono ?_
          rintro e wZ ⟨rfl, hBZ⟩
          have HBZ := Lib.hid (HB.out.trans (hBZ.mono HB.out.size))
          clear hBZ
          go_wp2_with fail
          go_ret
          exact ⟨rfl, HBZ.out⟩

end Go.Proofs.Ytjgpghaofhcfnaa
