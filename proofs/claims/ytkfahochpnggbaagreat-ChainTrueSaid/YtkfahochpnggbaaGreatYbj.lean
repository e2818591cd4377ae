/- Texts on the program that the proof leans on, part 36. -/
import Derived.Test.YtkfahochpnggbaaGreatYbd
set_option linter.unusedVariables false
set_option linter.unusedSimpArgs false

/- Contracts of the law's makers of books: Range, Point, section, survey, book, own, surveyed, torn, straight. -/
namespace Go.Proofs.YtkfahochpnggbaaGreat
open Go.RowKit

namespace Ch
def bookOf (turns : List Int) (svs : List Sv) : Bk := ⟨[⟨⟨40, 42⟩, ⟨1, 2⟩⟩, ⟨⟨38, 39⟩, ⟨0, 1⟩⟩], turns, svs, 30, 12⟩
def ownB : Bk := bookOf [6] []
def surveyedB : Bk := bookOf [6] [⟨0, 6, 34, 1⟩]
def tornB : Bk := bookOf [6] [⟨0, 6, 34, 1⟩, ⟨0, 6, 40, 1⟩]
def straightB : Bk := bookOf [] []
end Ch

set_option maxHeartbeats 400000 in
theorem range_any (a b : Int) (w : World) :
    Calls Tryz.prog 49 #[I a, I b] w fun e w' => e = .returned (vSp ⟨a, b⟩) ∧ Below w.heap.size w w' := by
  go_enter Tryz.func49, Tryz.ntmps49
  go_wp2
  refine bodyPost_ret (v := vSp ⟨a, b⟩) (by simp [results, Tryz.results49, go_sem]) rfl ⟨rfl, ?_⟩
  exact (Below.refl _ _).alloc (Nat.le_refl _) _

set_option maxHeartbeats 400000 in
theorem point_any (a : Int) (w : World) :
    Calls Tryz.prog 37 #[I a] w fun e w' => e = .returned (vSp ⟨a, a⟩) ∧ Below w.heap.size w w' := by
  have hB0 : Below w.heap.size w (w.alloc (.cells #[I 0, I 0] 51)) := (Below.refl _ _).alloc (Nat.le_refl _) _
  have hh := heap_at w (.cells #[I 0, I 0] 51) rfl
  go_enter Tryz.func37, Tryz.ntmps37
  go_wp2_with fail
  refine (range_any a a _).mono ?_
  rintro e w1 ⟨rfl, hB1⟩
  have hr : w1.heap[w.heap.size]? = some (.cells #[I 0, I 0] 51 (0, 0)) := (hB1.block _ (by simp)).trans hh
  have c0 := cell_of_row w1 _ 0 _ _ _ hr
  have c1 := cell_of_row w1 _ 1 _ _ _ hr
  have z0 : w1.frozen? ⟨w.heap.size, 0, none⟩ = false := by simp [World.frozen?, hr]
  have z1 : w1.frozen? ⟨w.heap.size, 1, none⟩ = false := by simp [World.frozen?, hr]
  simp only [List.getElem?_toArray, List.getElem?_cons_zero, List.getElem?_cons_succ] at c0 c1
  go_wp2_with fail
  refine bodyPost_ret (v := vSp ⟨a, a⟩) (by simp [results, Tryz.results37, go_sem, c0, c1]) rfl ⟨rfl, ?_⟩
  exact ((hB0.trans (hB1.mono (by simp))).setCell (by simp) _).setCell (by simp) _

set_option maxHeartbeats 400000 in
theorem survey_any (a b c d : Int) (w : World) :
    Calls Tryz.prog 36 #[I a, I b, I c, I d] w fun e w' => e = .returned (vSv ⟨a, b, c, d⟩) ∧ Below w.heap.size w w' := by
  go_enter Tryz.func36, Tryz.ntmps36
  go_wp2
  refine bodyPost_ret (v := vSv ⟨a, b, c, d⟩) (by simp [results, Tryz.results36, go_sem]) rfl ⟨rfl, ?_⟩
  exact (Below.refl _ _).alloc (Nat.le_refl _) _

set_option maxHeartbeats 400000 in
theorem section_any (s t : Ch.Sp) (w : World) :
    Calls Tryz.prog 55 #[vSp s, vSp t] w fun e w' => e = .returned (.agg #[I s.lo, I s.hi, I t.lo, I t.hi]) ∧ Below w.heap.size w w' := by
  go_enter Tryz.func55, Tryz.ntmps55
  go_wp2
  refine bodyPost_ret (v := .agg #[I s.lo, I s.hi, I t.lo, I t.hi]) (by simp [results, Tryz.results55, go_sem]) rfl ⟨rfl, ?_⟩
  exact (((Below.refl _ _).alloc (Nat.le_refl _) _).alloc (by simp) _).alloc (by simp; omega) _

set_option maxHeartbeats 1000000 in
theorem book_any (turns : List Int) (svs : List Ch.Sv) (T V : Value) (w : World) (hT : Sl w w.heap.size 1 T turns.length (turns.map I)) (hV : Sl w w.heap.size 4 V svs.length (svs.flatMap cSv)) :
    Calls Tryz.prog 51 #[T, V] w fun e w' => (∃ S, e = .returned (vBk S T V 30 12) ∧ RB w' w'.heap.size (Ch.bookOf turns svs) S T V ∧ Fresh w.heap.size S) ∧ Below w.heap.size w w' := by
  obtain ⟨A1, k1, rfl⟩ := hT.form
  obtain ⟨A2, k2, rfl⟩ := hV.form
  obtain ⟨o, ho⟩ : ∃ o : Obj, o = (.cells #[.slice none 0 0, .slice none 0 0, .slice none 0 0, I 0, I 0] 26) := ⟨_, rfl⟩
  have hB0 : Below w.heap.size w (w.alloc o) := (Below.refl _ _).alloc (Nat.le_refl _) _
  have hh := heap_at w o rfl
  have hs : w.heap.size < (w.alloc o).heap.size := by simp
  subst ho
  go_enter Tryz.func51, Tryz.ntmps51
  go_wp2_with fail
  refine (range_any 40 42 _).mono ?_
  rintro e w1 ⟨rfl, hB1⟩
  go_wp2_with fail
  refine (range_any 1 2 _).mono ?_
  rintro e w2 ⟨rfl, hB2⟩
  go_wp2_with fail
  refine (section_any ⟨40, 42⟩ ⟨1, 2⟩ _).mono ?_
  rintro e w3 ⟨rfl, hB3⟩
  go_wp2_with fail
  refine (range_any 38 39 _).mono ?_
  rintro e w4 ⟨rfl, hB4⟩
  go_wp2_with fail
  refine (range_any 0 1 _).mono ?_
  rintro e w5 ⟨rfl, hB5⟩
  go_wp2_with fail
  refine (section_any ⟨38, 39⟩ ⟨0, 1⟩ _).mono ?_
  rintro e w6 ⟨rfl, hB6⟩
  have hB13 := (hB1.trans (hB2.mono hB1.size)).trans (hB3.mono (Nat.le_trans hB1.size hB2.size))
  have hB46 := (hB4.trans (hB5.mono hB4.size)).trans (hB6.mono (Nat.le_trans hB4.size hB5.size))
  have hB16 := hB13.trans (hB46.mono hB13.size)
  clear hB1 hB2 hB3 hB4 hB5 hB6 hB13 hB46
  have hr : w6.heap[w.heap.size]? = some (.cells #[.slice none 0 0, .slice none 0 0, .slice none 0 0, I 0, I 0] 26 (0, 0)) := (hB16.block _ hs).trans hh
  have hb := hB0.trans (hB16.mono hB0.size)
  have hl : w.heap.size < w6.heap.size := Nat.lt_of_lt_of_le hs hB16.size
  have HB := Lib.hid hb
  have c0 := cell_of_row w6 _ 0 _ _ _ hr
  have c1 := cell_of_row w6 _ 1 _ _ _ hr
  have c2 := cell_of_row w6 _ 2 _ _ _ hr
  have c3 := cell_of_row w6 _ 3 _ _ _ hr
  have c4 := cell_of_row w6 _ 4 _ _ _ hr
  simp only [List.getElem?_toArray, List.getElem?_cons_zero, List.getElem?_cons_succ] at c0 c1 c2 c3 c4
  have z : ∀ j, w6.frozen? ⟨w.heap.size, j, none⟩ = false := fun j => by simp [World.frozen?, hr]
  have z0 := z 0
  have z1 := z 1
  have z2 := z 2
  have z3 := z 3
  have z4 := z 4
  clear hh hB0 hB16 hr hb hs z
  have HT := Lib.hid hT
  have HV := Lib.hid hV
  clear hT hV
  go_wp2_with fail
  refine bodyPost_ret (v := vBk (.slice (some ⟨w6.heap.size, 0, none⟩) 2 2) (.slice A1 turns.length k1) (.slice A2 svs.length k2) 30 12) (by simp [results, Tryz.results51, go_sem, c0, c1, c2, c3, c4, hl]) rfl ?_
  have hbe := HB.out
  have hbs := (((((hbe.setCell (p := ⟨w.heap.size, 0, none⟩) (Nat.le_refl _) (.slice (some ⟨w6.heap.size, 0, none⟩) 2 2)).setCell (p := ⟨w.heap.size, 1, none⟩) (Nat.le_refl _) (.slice A1 turns.length k1)).setCell (p := ⟨w.heap.size, 2, none⟩) (Nat.le_refl _) (.slice A2 svs.length k2)).setCell (p := ⟨w.heap.size, 3, none⟩) (Nat.le_refl _) (.int .i64 30)).setCell (p := ⟨w.heap.size, 4, none⟩) (Nat.le_refl _) (.int .i64 12)).alloc (by simp; omega) (.cells #[I 40, I 42, I 1, I 2, I 38, I 39, I 0, I 1] 76)
  have hsz := hbs.size
  refine ⟨⟨_, rfl, ⟨?_, (HT.out.below hbs (Nat.le_refl _)).more hsz, (HV.out.below hbs (Nat.le_refl _)).more hsz⟩, fun g o m c e => by injection e with e1; injection e1 with e1; injection e1 with e1; omega⟩, hbs⟩
  refine sl_new (by rfl) (by decide) ?_ (heap_at _ _ (by simp))
  simp

end Go.Proofs.YtkfahochpnggbaaGreat
