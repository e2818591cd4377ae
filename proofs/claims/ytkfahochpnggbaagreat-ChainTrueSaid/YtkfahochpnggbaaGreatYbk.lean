/- Texts on the program that the proof leans on, part 37. -/
import Derived.Test.YtkfahochpnggbaaGreatYbj
import Derived.Test.YtkfahochpnggbaaGreatYax
set_option linter.unusedVariables false
set_option linter.unusedSimpArgs false

/- Contracts of the law's own books: own, surveyed, torn, straight. -/
namespace Go.Proofs.YtkfahochpnggbaaGreat
open Go.RowKit

theorem bk0_row (w : World) : (w.alloc (.cells #[.slice none 0 0, .slice none 0 0, .slice none 0 0, I 0, I 0] 26)).heap[w.heap.size]? = some (.cells #[.slice none 0 0, .slice none 0 0, .slice none 0 0, I 0, I 0] 26 (0, 0)) := heap_at w _ rfl
theorem fresh_nil (n : Nat) : Fresh n (.slice none 0 0) := fun g o m c e => by injection e with e1; cases e1
theorem fresh_at {n b o m c : Nat} (h : n ≤ b) : Fresh n (.slice (some ⟨b, o, none⟩) m c) := fun g o m c e => by injection e with e1; injection e1 with e1; injection e1 with e1; omega
theorem Fresh.less {n m : Nat} {v : Value} (h : Fresh n v) (hm : m ≤ n) : Fresh m v := fun g o k c e => Nat.le_trans hm (h g o k c e)
theorem RB.apart {w w' : World} {B n : Nat} {b : Ch.Bk} {S T V : Value} (h : RB w B b S T V) (hS : Fresh n S) (hT : Fresh n T) (hV : Fresh n V) (hk : ∀ g, n ≤ g → w'.heap[g]? = w.heap[g]?) : RB w' B b S T V :=
  ⟨h.secs.same fun g o m c e => hk g (hS g o m c e), h.turns.same fun g o m c e => hk g (hT g o m c e), h.svs.same fun g o m c e => hk g (hV g o m c e)⟩
theorem set5_apart (w : World) (b : Nat) (u0 u1 u2 u3 u4 : Value) (g : Nat) (h : b + 1 ≤ g) : (((((w.setCell ⟨b, 0, none⟩ u0).setCell ⟨b, 1, none⟩ u1).setCell ⟨b, 2, none⟩ u2).setCell ⟨b, 3, none⟩ u3).setCell ⟨b, 4, none⟩ u4).heap[g]? = w.heap[g]? := by
  rw [Below.heap_setCell _ _ _ _ (show g ≠ b by omega), Below.heap_setCell _ _ _ _ (show g ≠ b by omega), Below.heap_setCell _ _ _ _ (show g ≠ b by omega), Below.heap_setCell _ _ _ _ (show g ≠ b by omega), Below.heap_setCell _ _ _ _ (show g ≠ b by omega)]
theorem set5_below {W w : World} {B : Nat} (h : Below B W w) (b : Nat) (hb : B ≤ b) (u0 u1 u2 u3 u4 : Value) : Below B W (((((w.setCell ⟨b, 0, none⟩ u0).setCell ⟨b, 1, none⟩ u1).setCell ⟨b, 2, none⟩ u2).setCell ⟨b, 3, none⟩ u3).setCell ⟨b, 4, none⟩ u4) :=
  ((((h.setCell (p := ⟨b, 0, none⟩) hb u0).setCell (p := ⟨b, 1, none⟩) hb u1).setCell (p := ⟨b, 2, none⟩) hb u2).setCell (p := ⟨b, 3, none⟩) hb u3).setCell (p := ⟨b, 4, none⟩) hb u4

set_option maxHeartbeats 1000000 in
theorem straight_book (w : World) :
    Calls Tryz.prog 65 #[] w fun e w' => (∃ S T V, e = .returned (vBk S T V 30 12) ∧ RB w' w'.heap.size Ch.straightB S T V ∧ Fresh w.heap.size S ∧ Fresh w.heap.size T ∧ Fresh w.heap.size V) ∧ Below w.heap.size w w' := by
  have hB0 : Below w.heap.size w (w.alloc (.cells #[.slice none 0 0, .slice none 0 0, .slice none 0 0, I 0, I 0] 26)) := (Below.refl _ _).alloc (Nat.le_refl _) _
  have hh := bk0_row w
  go_enter Tryz.func65, Tryz.ntmps65
  go_wp2_with fail
  refine (book_any [] [] _ _ _ (sl_nil _ _ _) (sl_nil _ _ _)).mono ?_
  rintro e w1 ⟨⟨S, rfl, hRB, hFS⟩, hB1⟩
  have hb := hB0.trans (hB1.mono (by simp))
  have hr := (hB1.block w.heap.size (by simp)).trans hh
  replace hFS := hFS.less (m := w.heap.size + 1) (by simp)
  clear hB1
  obtain ⟨B0, m0, rfl⟩ := hRB.secs.form
  have HB := Lib.hid hb
  have HRB := Lib.hid hRB
  have HFS := Lib.hid hFS
  have c0 := cell_of_row w1 _ 0 _ _ _ hr
  have c1 := cell_of_row w1 _ 1 _ _ _ hr
  have c2 := cell_of_row w1 _ 2 _ _ _ hr
  have c3 := cell_of_row w1 _ 3 _ _ _ hr
  have c4 := cell_of_row w1 _ 4 _ _ _ hr
  simp only [List.getElem?_toArray, List.getElem?_cons_zero, List.getElem?_cons_succ] at c0 c1 c2 c3 c4
  have z : ∀ j, w1.frozen? ⟨w.heap.size, j, none⟩ = false := fun j => by simp [World.frozen?, hr]
  have z0 := z 0
  have z1 := z 1
  have z2 := z 2
  have z3 := z 3
  have z4 := z 4
  clear hh hB0 hr hb z hRB hFS
  go_wp2_with fail
  refine bodyPost_ret (v := vBk (.slice B0 2 m0) (.slice none 0 0) (.slice none 0 0) 30 12) (by simp [results, Tryz.results65, go_sem, c0, c1, c2, c3, c4, Ch.bookOf]) rfl ?_
  have hap := HRB.out.apart HFS.out (n := w.heap.size + 1) (fresh_nil _) (fresh_nil _) (set5_apart w1 w.heap.size (.slice B0 2 m0) (.slice none 0 0) (.slice none 0 0) (I 30) (I 12))
  refine ⟨⟨_, _, _, rfl, hap.more (by simp), HFS.out.less (by simp), fresh_nil _, fresh_nil _⟩, set5_below HB.out _ (Nat.le_refl _) _ _ _ _ _⟩

set_option maxHeartbeats 1000000 in
theorem own_book (w : World) :
    Calls Tryz.prog 50 #[] w fun e w' => (∃ S T V, e = .returned (vBk S T V 30 12) ∧ RB w' w'.heap.size Ch.ownB S T V ∧ Fresh w.heap.size S ∧ Fresh w.heap.size T ∧ Fresh w.heap.size V) ∧ Below w.heap.size w w' := by
  have hB0 : Below w.heap.size w (w.alloc (.cells #[.slice none 0 0, .slice none 0 0, .slice none 0 0, I 0, I 0] 26)) := (Below.refl _ _).alloc (Nat.le_refl _) _
  have hh := bk0_row w
  go_enter Tryz.func50, Tryz.ntmps50
  go_wp2_with fail
  have hT : Sl ((w.alloc (.cells #[.slice none 0 0, .slice none 0 0, .slice none 0 0, I 0, I 0] 26)).alloc (.cells #[I 6] 3)) ((w.alloc (.cells #[.slice none 0 0, .slice none 0 0, .slice none 0 0, I 0, I 0] 26)).alloc (.cells #[I 6] 3)).heap.size 1 (.slice (some ⟨w.heap.size + 1, 0, none⟩) 1 1) 1 [I 6] := sl_new (by rfl) (by decide) (by simp) (heap_at _ _ (by simp))
  refine (book_any [6] [] _ _ _ hT (sl_nil _ _ _)).mono ?_
  rintro e w1 ⟨⟨S, rfl, hRB, hFS⟩, hB1⟩
  have hb := hB0.trans (((Below.refl _ _).alloc (by simp) _).trans (hB1.mono (by simp; omega)))
  have hr := (hB1.block w.heap.size (by simp; omega)).trans ((Below.heap_alloc _ _ _ (by simp)).trans hh)
  replace hFS := hFS.less (m := w.heap.size + 1) (by simp)
  clear hB1 hT
  obtain ⟨B0, m0, rfl⟩ := hRB.secs.form
  have HB := Lib.hid hb
  have HRB := Lib.hid hRB
  have HFS := Lib.hid hFS
  have c0 := cell_of_row w1 _ 0 _ _ _ hr
  have c1 := cell_of_row w1 _ 1 _ _ _ hr
  have c2 := cell_of_row w1 _ 2 _ _ _ hr
  have c3 := cell_of_row w1 _ 3 _ _ _ hr
  have c4 := cell_of_row w1 _ 4 _ _ _ hr
  simp only [List.getElem?_toArray, List.getElem?_cons_zero, List.getElem?_cons_succ] at c0 c1 c2 c3 c4
  have z : ∀ j, w1.frozen? ⟨w.heap.size, j, none⟩ = false := fun j => by simp [World.frozen?, hr]
  have z0 := z 0
  have z1 := z 1
  have z2 := z 2
  have z3 := z 3
  have z4 := z 4
  clear hh hB0 hr hb z hRB hFS
  go_wp2_with fail
  refine bodyPost_ret (v := vBk (.slice B0 2 m0) (.slice (some ⟨w.heap.size + 1, 0, none⟩) 1 1) (.slice none 0 0) 30 12) (by simp [results, Tryz.results50, go_sem, c0, c1, c2, c3, c4, Ch.bookOf]) rfl ?_
  have hap := HRB.out.apart HFS.out (n := w.heap.size + 1) (fresh_at (by omega)) (fresh_nil _) (set5_apart w1 w.heap.size (.slice B0 2 m0) (.slice (some ⟨w.heap.size + 1, 0, none⟩) 1 1) (.slice none 0 0) (I 30) (I 12))
  refine ⟨⟨_, _, _, rfl, hap.more (by simp), HFS.out.less (by simp), fresh_at (by omega), fresh_nil _⟩, set5_below HB.out _ (Nat.le_refl _) _ _ _ _ _⟩

set_option maxHeartbeats 1000000 in
theorem surveyed_book (w : World) :
    Calls Tryz.prog 54 #[] w fun e w' => (∃ S T V, e = .returned (vBk S T V 30 12) ∧ RB w' w'.heap.size Ch.surveyedB S T V ∧ Fresh w.heap.size S ∧ Fresh w.heap.size T ∧ Fresh w.heap.size V) ∧ Below w.heap.size w w' := by
  have hB0 : Below w.heap.size w (w.alloc (.cells #[.slice none 0 0, .slice none 0 0, .slice none 0 0, I 0, I 0] 26)) := (Below.refl _ _).alloc (Nat.le_refl _) _
  have hh := bk0_row w
  go_enter Tryz.func54, Tryz.ntmps54
  go_wp2_with fail
  obtain ⟨W, hW⟩ : ∃ W : World, W = ((w.alloc (.cells #[.slice none 0 0, .slice none 0 0, .slice none 0 0, I 0, I 0] 26)).alloc (.cells #[I 6] 3)) := ⟨_, rfl⟩
  have hT : Sl W W.heap.size 1 (.slice (some ⟨w.heap.size + 1, 0, none⟩) 1 1) 1 [I 6] := by rw [hW]; exact sl_new (by rfl) (by decide) (by simp) (heap_at _ _ (by simp))
  have hbW : Below w.heap.size w W := by rw [hW]; exact hB0.alloc (by simp) _
  have hhW : W.heap[w.heap.size]? = some (.cells #[.slice none 0 0, .slice none 0 0, .slice none 0 0, I 0, I 0] 26 (0, 0)) := by rw [hW]; exact (Below.heap_alloc _ _ _ (by simp)).trans hh
  have hzW : W.heap.size = w.heap.size + 2 := by rw [hW]; simp
  clear hh hB0
  rw [← hW]
  clear hW
  refine (survey_any 0 6 34 1 _).mono ?_
  rintro e u0 ⟨rfl, hU0⟩
  go_wp2_with fail
  have hU := hU0
  have hV : Sl (u0.alloc (.cells #[I 0, I 6, I 34, I 1] 34)) (u0.alloc (.cells #[I 0, I 6, I 34, I 1] 34)).heap.size 4 (.slice (some ⟨u0.heap.size, 0, none⟩) 1 1) 1 [I 0, I 6, I 34, I 1] := sl_new (by rfl) (by decide) (by simp) (heap_at _ _ rfl)
  have hA : Below u0.heap.size u0 (u0.alloc (.cells #[I 0, I 6, I 34, I 1] 34)) := (Below.refl _ _).alloc (Nat.le_refl _) _
  have hT2 := ((hT.below hU (Nat.le_refl _)).below (hA.mono hU.size) (Nat.le_refl _)).more (B' := (u0.alloc (.cells #[I 0, I 6, I 34, I 1] 34)).heap.size) (Nat.le_trans hU.size hA.size)
  refine (book_any [6] [⟨0, 6, 34, 1⟩] _ _ _ hT2 hV).mono ?_
  rintro e w1 ⟨⟨S, rfl, hRB, hFS⟩, hB1⟩
  have hUA := hU.trans (hA.mono hU.size)
  have hUB := hUA.trans (hB1.mono hUA.size)
  have hb := hbW.trans (hUB.mono hbW.size)
  have hr := (hUB.block w.heap.size (by omega)).trans hhW
  have hul : w.heap.size + 2 ≤ u0.heap.size := by have := hU.size; omega
  replace hFS := hFS.less (m := w.heap.size + 1) (by simp; omega)
  clear hB1 hT hV hT2 hUB hUA hA hU hU0 hhW hbW
  obtain ⟨B0, m0, rfl⟩ := hRB.secs.form
  have HB := Lib.hid hb
  have HRB := Lib.hid hRB
  have HFS := Lib.hid hFS
  have c0 := cell_of_row w1 _ 0 _ _ _ hr
  have c1 := cell_of_row w1 _ 1 _ _ _ hr
  have c2 := cell_of_row w1 _ 2 _ _ _ hr
  have c3 := cell_of_row w1 _ 3 _ _ _ hr
  have c4 := cell_of_row w1 _ 4 _ _ _ hr
  simp only [List.getElem?_toArray, List.getElem?_cons_zero, List.getElem?_cons_succ] at c0 c1 c2 c3 c4
  have z : ∀ j, w1.frozen? ⟨w.heap.size, j, none⟩ = false := fun j => by simp [World.frozen?, hr]
  have z0 := z 0
  have z1 := z 1
  have z2 := z 2
  have z3 := z 3
  have z4 := z 4
  clear hr hb z hRB hFS
  go_wp2_with fail
  refine bodyPost_ret (v := vBk (.slice B0 2 m0) (.slice (some ⟨w.heap.size + 1, 0, none⟩) 1 1) (.slice (some ⟨u0.heap.size, 0, none⟩) 1 1) 30 12) (by simp [results, Tryz.results54, go_sem, c0, c1, c2, c3, c4, Ch.bookOf]) rfl ?_
  have hap := HRB.out.apart HFS.out (n := w.heap.size + 1) (fresh_at (by omega)) (fresh_at (by omega)) (set5_apart w1 w.heap.size (.slice B0 2 m0) (.slice (some ⟨w.heap.size + 1, 0, none⟩) 1 1) (.slice (some ⟨u0.heap.size, 0, none⟩) 1 1) (I 30) (I 12))
  refine ⟨⟨_, _, _, rfl, hap.more (by simp), HFS.out.less (by simp), fresh_at (by omega), fresh_at (by omega)⟩, set5_below HB.out _ (Nat.le_refl _) _ _ _ _ _⟩

set_option maxHeartbeats 1000000 in
theorem torn_book (w : World) :
    Calls Tryz.prog 53 #[] w fun e w' => (∃ S T V, e = .returned (vBk S T V 30 12) ∧ RB w' w'.heap.size Ch.tornB S T V ∧ Fresh w.heap.size S ∧ Fresh w.heap.size T ∧ Fresh w.heap.size V) ∧ Below w.heap.size w w' := by
  have hB0 : Below w.heap.size w (w.alloc (.cells #[.slice none 0 0, .slice none 0 0, .slice none 0 0, I 0, I 0] 26)) := (Below.refl _ _).alloc (Nat.le_refl _) _
  have hh := bk0_row w
  go_enter Tryz.func53, Tryz.ntmps53
  go_wp2_with fail
  obtain ⟨W, hW⟩ : ∃ W : World, W = ((w.alloc (.cells #[.slice none 0 0, .slice none 0 0, .slice none 0 0, I 0, I 0] 26)).alloc (.cells #[I 6] 3)) := ⟨_, rfl⟩
  have hT : Sl W W.heap.size 1 (.slice (some ⟨w.heap.size + 1, 0, none⟩) 1 1) 1 [I 6] := by rw [hW]; exact sl_new (by rfl) (by decide) (by simp) (heap_at _ _ (by simp))
  have hbW : Below w.heap.size w W := by rw [hW]; exact hB0.alloc (by simp) _
  have hhW : W.heap[w.heap.size]? = some (.cells #[.slice none 0 0, .slice none 0 0, .slice none 0 0, I 0, I 0] 26 (0, 0)) := by rw [hW]; exact (Below.heap_alloc _ _ _ (by simp)).trans hh
  have hzW : W.heap.size = w.heap.size + 2 := by rw [hW]; simp
  clear hh hB0
  rw [← hW]
  clear hW
  refine (survey_any 0 6 34 1 _).mono ?_
  rintro e u0 ⟨rfl, hU0⟩
  go_wp2_with fail
  refine (survey_any 0 6 40 1 _).mono ?_
  rintro e u1 ⟨rfl, hU1⟩
  go_wp2_with fail
  have hU := hU0.trans (hU1.mono hU0.size)
  have hV : Sl (u1.alloc (.cells #[I 0, I 6, I 34, I 1, I 0, I 6, I 40, I 1] 34)) (u1.alloc (.cells #[I 0, I 6, I 34, I 1, I 0, I 6, I 40, I 1] 34)).heap.size 4 (.slice (some ⟨u1.heap.size, 0, none⟩) 2 2) 2 [I 0, I 6, I 34, I 1, I 0, I 6, I 40, I 1] := sl_new (by rfl) (by decide) (by simp) (heap_at _ _ rfl)
  have hA : Below u1.heap.size u1 (u1.alloc (.cells #[I 0, I 6, I 34, I 1, I 0, I 6, I 40, I 1] 34)) := (Below.refl _ _).alloc (Nat.le_refl _) _
  have hT2 := ((hT.below hU (Nat.le_refl _)).below (hA.mono hU.size) (Nat.le_refl _)).more (B' := (u1.alloc (.cells #[I 0, I 6, I 34, I 1, I 0, I 6, I 40, I 1] 34)).heap.size) (Nat.le_trans hU.size hA.size)
  refine (book_any [6] [⟨0, 6, 34, 1⟩, ⟨0, 6, 40, 1⟩] _ _ _ hT2 hV).mono ?_
  rintro e w1 ⟨⟨S, rfl, hRB, hFS⟩, hB1⟩
  have hUA := hU.trans (hA.mono hU.size)
  have hUB := hUA.trans (hB1.mono hUA.size)
  have hb := hbW.trans (hUB.mono hbW.size)
  have hr := (hUB.block w.heap.size (by omega)).trans hhW
  have hul : w.heap.size + 2 ≤ u1.heap.size := by have := hU.size; omega
  replace hFS := hFS.less (m := w.heap.size + 1) (by simp; omega)
  clear hB1 hT hV hT2 hUB hUA hA hU hU0 hU1 hhW hbW
  obtain ⟨B0, m0, rfl⟩ := hRB.secs.form
  have HB := Lib.hid hb
  have HRB := Lib.hid hRB
  have HFS := Lib.hid hFS
  have c0 := cell_of_row w1 _ 0 _ _ _ hr
  have c1 := cell_of_row w1 _ 1 _ _ _ hr
  have c2 := cell_of_row w1 _ 2 _ _ _ hr
  have c3 := cell_of_row w1 _ 3 _ _ _ hr
  have c4 := cell_of_row w1 _ 4 _ _ _ hr
  simp only [List.getElem?_toArray, List.getElem?_cons_zero, List.getElem?_cons_succ] at c0 c1 c2 c3 c4
  have z : ∀ j, w1.frozen? ⟨w.heap.size, j, none⟩ = false := fun j => by simp [World.frozen?, hr]
  have z0 := z 0
  have z1 := z 1
  have z2 := z 2
  have z3 := z 3
  have z4 := z 4
  clear hr hb z hRB hFS
  go_wp2_with fail
  refine bodyPost_ret (v := vBk (.slice B0 2 m0) (.slice (some ⟨w.heap.size + 1, 0, none⟩) 1 1) (.slice (some ⟨u1.heap.size, 0, none⟩) 2 2) 30 12) (by simp [results, Tryz.results53, go_sem, c0, c1, c2, c3, c4, Ch.bookOf]) rfl ?_
  have hap := HRB.out.apart HFS.out (n := w.heap.size + 1) (fresh_at (by omega)) (fresh_at (by omega)) (set5_apart w1 w.heap.size (.slice B0 2 m0) (.slice (some ⟨w.heap.size + 1, 0, none⟩) 1 1) (.slice (some ⟨u1.heap.size, 0, none⟩) 2 2) (I 30) (I 12))
  refine ⟨⟨_, _, _, rfl, hap.more (by simp), HFS.out.less (by simp), fresh_at (by omega), fresh_at (by omega)⟩, set5_below HB.out _ (Nat.le_refl _) _ _ _ _ _⟩

end Go.Proofs.YtkfahochpnggbaaGreat
