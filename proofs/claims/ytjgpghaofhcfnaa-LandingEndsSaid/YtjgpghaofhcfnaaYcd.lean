/- Texts on the program that the proof leans on, part 56. -/
import Derived.Test.YtjgpghaofhcfnaaYbd
import Derived.Test.YtjgpghaofhcfnaaYby
set_option linter.unusedVariables false
set_option linter.unusedSimpArgs false

/- Contract of the statements' helper floor. -/
namespace Go.Proofs.Ytjgpghaofhcfnaa
open Go.RowKit

set_option maxRecDepth 100000 in
set_option maxHeartbeats 8000000 in
theorem floorBk_any (b : Ld.Bk) (T D : Value) (m : Nat) (hm : m = 0 ∨ m = 1) (n : Int) (w : World) (hb : RB w w.heap.size b T D) :
    Calls Try.prog 33 #[vBk T D b, I m, I n] w fun e w' => e = .returned (vBk T D (Ld.floorB b m n)) ∧ Below w.heap.size w w' := by
  obtain ⟨A0, k0, rfl⟩ := hb.tides.form
  obtain ⟨A1, k1, rfl⟩ := hb.sounds.form
  clear hb
  rcases hm with rfl | rfl <;> go_enter Try.func33, Try.ntmps33
  · go_upto_region 2 with fail
    refine name_world ?_
    intro W hW
    have hbW : Below w.heap.size w W := by rw [hW]; exact (((Below.refl _ _).alloc (Nat.le_refl _) _).alloc (by simp) _).alloc (by simp <;> omega) _
    have rO : W.heap[w.heap.size + 1]? = some (.cells #[.slice none 0 0, I 0, I 0, I 0, I 0, I 0, I 0, I 0, I 0, I 0, I 0, I 0, I 0, .slice none 0 0] 30 (0, 0)) := by rw [hW]; exact (Below.heap_alloc _ _ _ (by simp)).trans (heap_at _ _ (by simp))
    have rX : W.heap[w.heap.size + 1 + 1]? = some (.cells (rBk (.slice A0 b.tides.length k0) (.slice A1 b.sounds.length k1) b) 30 (0, 0)) := by rw [hW]; exact heap_at _ _ (by simp)
    clear hW
    go_wp2_with fail
    refine (point_any n _).mono ?_
    rintro e w4 ⟨rfl, hB⟩
    have rX4 := (hB.block _ (heap_lt rX)).trans rX
    have rO4 := (hB.block _ (heap_lt rO)).trans rO
    have hb4 := hbW.trans (hB.mono hbW.size)
    clear hB hbW rX rO
    have qY0 := cell_of_row w4 _ 1 _ _ _ rX4
    have qY1 := cell_of_row w4 _ 2 _ _ _ rX4
    simp only [List.getElem?_toArray, List.getElem?_cons_zero, List.getElem?_cons_succ] at qY0 qY1
    have fY0 : w4.frozen? ⟨w.heap.size + 1 + 1, 1, none⟩ = false := by simp [World.frozen?, rX4]
    have fY1 : w4.frozen? ⟨w.heap.size + 1 + 1, 2, none⟩ = false := by simp [World.frozen?, rX4]
    go_upto_region 3 with fail
    refine name_world ?_
    intro W5 hW5
    have rX5 : W5.heap[w.heap.size + 1 + 1]? = some (.cells (rBk (.slice A0 b.tides.length k0) (.slice A1 b.sounds.length k1) { b with s0 := { b.s0 with floor := ⟨n, n⟩ } }) 30 (0, 0)) := by rw [hW5]; simp [World.setCell, Array.getElem?_modify, rX4]
    have hne : w.heap.size + 1 ≠ w.heap.size + 1 + 1 := by omega
    have rO5 : W5.heap[w.heap.size + 1]? = some (.cells #[.slice none 0 0, I 0, I 0, I 0, I 0, I 0, I 0, I 0, I 0, I 0, I 0, I 0, I 0, .slice none 0 0] 30 (0, 0)) := by rw [hW5]; exact (Below.heap_setCell _ _ _ _ hne).trans ((Below.heap_setCell _ _ _ _ hne).trans rO4)
    have hX1 : w.heap.size ≤ w.heap.size + 1 + 1 := by omega
    have HBY := Lib.hid (show Below w.heap.size w W5 by rw [hW5]; exact (hb4.setCell (p := ⟨w.heap.size + 1 + 1, 1, none⟩) hX1 _).setCell (p := ⟨w.heap.size + 1 + 1, 2, none⟩) hX1 _)
    clear hW5 qY0 qY1 fY0 fY1 rX4 rO4 hb4
    have qX0 := cell_of_row W5 _ 0 _ _ _ rX5
    have qO0 := cell_of_row W5 _ 0 _ _ _ rO5
    have zO0 : W5.frozen? ⟨w.heap.size + 1, 0, none⟩ = false := by simp [World.frozen?, rO5]
    have qX1 := cell_of_row W5 _ 1 _ _ _ rX5
    have qO1 := cell_of_row W5 _ 1 _ _ _ rO5
    have zO1 : W5.frozen? ⟨w.heap.size + 1, 1, none⟩ = false := by simp [World.frozen?, rO5]
    have qX2 := cell_of_row W5 _ 2 _ _ _ rX5
    have qO2 := cell_of_row W5 _ 2 _ _ _ rO5
    have zO2 : W5.frozen? ⟨w.heap.size + 1, 2, none⟩ = false := by simp [World.frozen?, rO5]
    have qX3 := cell_of_row W5 _ 3 _ _ _ rX5
    have qO3 := cell_of_row W5 _ 3 _ _ _ rO5
    have zO3 : W5.frozen? ⟨w.heap.size + 1, 3, none⟩ = false := by simp [World.frozen?, rO5]
    have qX4 := cell_of_row W5 _ 4 _ _ _ rX5
    have qO4 := cell_of_row W5 _ 4 _ _ _ rO5
    have zO4 : W5.frozen? ⟨w.heap.size + 1, 4, none⟩ = false := by simp [World.frozen?, rO5]
    have qX5 := cell_of_row W5 _ 5 _ _ _ rX5
    have qO5 := cell_of_row W5 _ 5 _ _ _ rO5
    have zO5 : W5.frozen? ⟨w.heap.size + 1, 5, none⟩ = false := by simp [World.frozen?, rO5]
    have qX6 := cell_of_row W5 _ 6 _ _ _ rX5
    have qO6 := cell_of_row W5 _ 6 _ _ _ rO5
    have zO6 : W5.frozen? ⟨w.heap.size + 1, 6, none⟩ = false := by simp [World.frozen?, rO5]
    have qX7 := cell_of_row W5 _ 7 _ _ _ rX5
    have qO7 := cell_of_row W5 _ 7 _ _ _ rO5
    have zO7 : W5.frozen? ⟨w.heap.size + 1, 7, none⟩ = false := by simp [World.frozen?, rO5]
    have qX8 := cell_of_row W5 _ 8 _ _ _ rX5
    have qO8 := cell_of_row W5 _ 8 _ _ _ rO5
    have zO8 : W5.frozen? ⟨w.heap.size + 1, 8, none⟩ = false := by simp [World.frozen?, rO5]
    have qX9 := cell_of_row W5 _ 9 _ _ _ rX5
    have qO9 := cell_of_row W5 _ 9 _ _ _ rO5
    have zO9 : W5.frozen? ⟨w.heap.size + 1, 9, none⟩ = false := by simp [World.frozen?, rO5]
    have qX10 := cell_of_row W5 _ 10 _ _ _ rX5
    have qO10 := cell_of_row W5 _ 10 _ _ _ rO5
    have zO10 : W5.frozen? ⟨w.heap.size + 1, 10, none⟩ = false := by simp [World.frozen?, rO5]
    have qX11 := cell_of_row W5 _ 11 _ _ _ rX5
    have qO11 := cell_of_row W5 _ 11 _ _ _ rO5
    have zO11 : W5.frozen? ⟨w.heap.size + 1, 11, none⟩ = false := by simp [World.frozen?, rO5]
    have qX12 := cell_of_row W5 _ 12 _ _ _ rX5
    have qO12 := cell_of_row W5 _ 12 _ _ _ rO5
    have zO12 : W5.frozen? ⟨w.heap.size + 1, 12, none⟩ = false := by simp [World.frozen?, rO5]
    have qX13 := cell_of_row W5 _ 13 _ _ _ rX5
    have qO13 := cell_of_row W5 _ 13 _ _ _ rO5
    have zO13 : W5.frozen? ⟨w.heap.size + 1, 13, none⟩ = false := by simp [World.frozen?, rO5]
    simp only [List.getElem?_toArray, List.getElem?_cons_zero, List.getElem?_cons_succ] at qX0 qX1 qX2 qX3 qX4 qX5 qX6 qX7 qX8 qX9 qX10 qX11 qX12 qX13 qO0 qO1 qO2 qO3 qO4 qO5 qO6 qO7 qO8 qO9 qO10 qO11 qO12 qO13
    clear rX5 rO5
    go_wp2_with fail
    refine bodyPost_ret (v := vBk (.slice A0 b.tides.length k0) (.slice A1 b.sounds.length k1) { b with s0 := { b.s0 with floor := ⟨n, n⟩ } }) (by simp [results, Try.results33, go_sem, qO0, qO1, qO2, qO3, qO4, qO5, qO6, qO7, qO8, qO9, qO10, qO11, qO12, qO13]) rfl ⟨rfl, ?_⟩
    refine Below.setCell (Below.setCell (Below.setCell (Below.setCell (Below.setCell (Below.setCell (Below.setCell (Below.setCell (Below.setCell (Below.setCell (Below.setCell (Below.setCell (Below.setCell (Below.setCell HBY.out ?_ _) ?_ _) ?_ _) ?_ _) ?_ _) ?_ _) ?_ _) ?_ _) ?_ _) ?_ _) ?_ _) ?_ _) ?_ _) ?_ _
    all_goals (simp)
  · go_upto_region 2 with fail
    refine name_world ?_
    intro W hW
    have hbW : Below w.heap.size w W := by rw [hW]; exact (((Below.refl _ _).alloc (Nat.le_refl _) _).alloc (by simp) _).alloc (by simp <;> omega) _
    have rO : W.heap[w.heap.size + 1]? = some (.cells #[.slice none 0 0, I 0, I 0, I 0, I 0, I 0, I 0, I 0, I 0, I 0, I 0, I 0, I 0, .slice none 0 0] 30 (0, 0)) := by rw [hW]; exact (Below.heap_alloc _ _ _ (by simp)).trans (heap_at _ _ (by simp))
    have rX : W.heap[w.heap.size + 1 + 1]? = some (.cells (rBk (.slice A0 b.tides.length k0) (.slice A1 b.sounds.length k1) b) 30 (0, 0)) := by rw [hW]; exact heap_at _ _ (by simp)
    clear hW
    go_wp2_with fail
    refine (point_any n _).mono ?_
    rintro e w4 ⟨rfl, hB⟩
    have rX4 := (hB.block _ (heap_lt rX)).trans rX
    have rO4 := (hB.block _ (heap_lt rO)).trans rO
    have hb4 := hbW.trans (hB.mono hbW.size)
    clear hB hbW rX rO
    have qY0 := cell_of_row w4 _ 5 _ _ _ rX4
    have qY1 := cell_of_row w4 _ 6 _ _ _ rX4
    simp only [List.getElem?_toArray, List.getElem?_cons_zero, List.getElem?_cons_succ] at qY0 qY1
    have fY0 : w4.frozen? ⟨w.heap.size + 1 + 1, 5, none⟩ = false := by simp [World.frozen?, rX4]
    have fY1 : w4.frozen? ⟨w.heap.size + 1 + 1, 6, none⟩ = false := by simp [World.frozen?, rX4]
    go_upto_region 3 with fail
    refine name_world ?_
    intro W5 hW5
    have rX5 : W5.heap[w.heap.size + 1 + 1]? = some (.cells (rBk (.slice A0 b.tides.length k0) (.slice A1 b.sounds.length k1) { b with s1 := { b.s1 with floor := ⟨n, n⟩ } }) 30 (0, 0)) := by rw [hW5]; simp [World.setCell, Array.getElem?_modify, rX4]
    have hne : w.heap.size + 1 ≠ w.heap.size + 1 + 1 := by omega
    have rO5 : W5.heap[w.heap.size + 1]? = some (.cells #[.slice none 0 0, I 0, I 0, I 0, I 0, I 0, I 0, I 0, I 0, I 0, I 0, I 0, I 0, .slice none 0 0] 30 (0, 0)) := by rw [hW5]; exact (Below.heap_setCell _ _ _ _ hne).trans ((Below.heap_setCell _ _ _ _ hne).trans rO4)
    have hX1 : w.heap.size ≤ w.heap.size + 1 + 1 := by omega
    have HBY := Lib.hid (show Below w.heap.size w W5 by rw [hW5]; exact (hb4.setCell (p := ⟨w.heap.size + 1 + 1, 5, none⟩) hX1 _).setCell (p := ⟨w.heap.size + 1 + 1, 6, none⟩) hX1 _)
    clear hW5 qY0 qY1 fY0 fY1 rX4 rO4 hb4
    have qX0 := cell_of_row W5 _ 0 _ _ _ rX5
    have qO0 := cell_of_row W5 _ 0 _ _ _ rO5
    have zO0 : W5.frozen? ⟨w.heap.size + 1, 0, none⟩ = false := by simp [World.frozen?, rO5]
    have qX1 := cell_of_row W5 _ 1 _ _ _ rX5
    have qO1 := cell_of_row W5 _ 1 _ _ _ rO5
    have zO1 : W5.frozen? ⟨w.heap.size + 1, 1, none⟩ = false := by simp [World.frozen?, rO5]
    have qX2 := cell_of_row W5 _ 2 _ _ _ rX5
    have qO2 := cell_of_row W5 _ 2 _ _ _ rO5
    have zO2 : W5.frozen? ⟨w.heap.size + 1, 2, none⟩ = false := by simp [World.frozen?, rO5]
    have qX3 := cell_of_row W5 _ 3 _ _ _ rX5
    have qO3 := cell_of_row W5 _ 3 _ _ _ rO5
    have zO3 : W5.frozen? ⟨w.heap.size + 1, 3, none⟩ = false := by simp [World.frozen?, rO5]
    have qX4 := cell_of_row W5 _ 4 _ _ _ rX5
    have qO4 := cell_of_row W5 _ 4 _ _ _ rO5
    have zO4 : W5.frozen? ⟨w.heap.size + 1, 4, none⟩ = false := by simp [World.frozen?, rO5]
    have qX5 := cell_of_row W5 _ 5 _ _ _ rX5
    have qO5 := cell_of_row W5 _ 5 _ _ _ rO5
    have zO5 : W5.frozen? ⟨w.heap.size + 1, 5, none⟩ = false := by simp [World.frozen?, rO5]
    have qX6 := cell_of_row W5 _ 6 _ _ _ rX5
    have qO6 := cell_of_row W5 _ 6 _ _ _ rO5
    have zO6 : W5.frozen? ⟨w.heap.size + 1, 6, none⟩ = false := by simp [World.frozen?, rO5]
    have qX7 := cell_of_row W5 _ 7 _ _ _ rX5
    have qO7 := cell_of_row W5 _ 7 _ _ _ rO5
    have zO7 : W5.frozen? ⟨w.heap.size + 1, 7, none⟩ = false := by simp [World.frozen?, rO5]
    have qX8 := cell_of_row W5 _ 8 _ _ _ rX5
    have qO8 := cell_of_row W5 _ 8 _ _ _ rO5
    have zO8 : W5.frozen? ⟨w.heap.size + 1, 8, none⟩ = false := by simp [World.frozen?, rO5]
    have qX9 := cell_of_row W5 _ 9 _ _ _ rX5
    have qO9 := cell_of_row W5 _ 9 _ _ _ rO5
    have zO9 : W5.frozen? ⟨w.heap.size + 1, 9, none⟩ = false := by simp [World.frozen?, rO5]
    have qX10 := cell_of_row W5 _ 10 _ _ _ rX5
    have qO10 := cell_of_row W5 _ 10 _ _ _ rO5
    have zO10 : W5.frozen? ⟨w.heap.size + 1, 10, none⟩ = false := by simp [World.frozen?, rO5]
    have qX11 := cell_of_row W5 _ 11 _ _ _ rX5
    have qO11 := cell_of_row W5 _ 11 _ _ _ rO5
    have zO11 : W5.frozen? ⟨w.heap.size + 1, 11, none⟩ = false := by simp [World.frozen?, rO5]
    have qX12 := cell_of_row W5 _ 12 _ _ _ rX5
    have qO12 := cell_of_row W5 _ 12 _ _ _ rO5
    have zO12 : W5.frozen? ⟨w.heap.size + 1, 12, none⟩ = false := by simp [World.frozen?, rO5]
    have qX13 := cell_of_row W5 _ 13 _ _ _ rX5
    have qO13 := cell_of_row W5 _ 13 _ _ _ rO5
    have zO13 : W5.frozen? ⟨w.heap.size + 1, 13, none⟩ = false := by simp [World.frozen?, rO5]
    simp only [List.getElem?_toArray, List.getElem?_cons_zero, List.getElem?_cons_succ] at qX0 qX1 qX2 qX3 qX4 qX5 qX6 qX7 qX8 qX9 qX10 qX11 qX12 qX13 qO0 qO1 qO2 qO3 qO4 qO5 qO6 qO7 qO8 qO9 qO10 qO11 qO12 qO13
    clear rX5 rO5
    go_wp2_with fail
    refine bodyPost_ret (v := vBk (.slice A0 b.tides.length k0) (.slice A1 b.sounds.length k1) { b with s1 := { b.s1 with floor := ⟨n, n⟩ } }) (by simp [results, Try.results33, go_sem, qO0, qO1, qO2, qO3, qO4, qO5, qO6, qO7, qO8, qO9, qO10, qO11, qO12, qO13]) rfl ⟨rfl, ?_⟩
    refine Below.setCell (Below.setCell (Below.setCell (Below.setCell (Below.setCell (Below.setCell (Below.setCell (Below.setCell (Below.setCell (Below.setCell (Below.setCell (Below.setCell (Below.setCell (Below.setCell HBY.out ?_ _) ?_ _) ?_ _) ?_ _) ?_ _) ?_ _) ?_ _) ?_ _) ?_ _) ?_ _) ?_ _) ?_ _) ?_ _) ?_ _
    all_goals (simp)

end Go.Proofs.Ytjgpghaofhcfnaa
