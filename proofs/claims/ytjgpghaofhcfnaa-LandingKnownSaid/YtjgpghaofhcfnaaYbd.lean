/- Texts on the program that the proof leans on, part 30. -/
import Derived.Test.YtjgpghaofhcfnaaYbb
import Derived.Test.YtjgpghaofhcfnaaYav
import Derived.Test.YtjgpghaofhcfnaaYaw
import Derived.Test.YtjgpghaofhcfnaaYax
set_option linter.unusedVariables false
set_option linter.unusedSimpArgs false

namespace Go.Proofs.Ytjgpghaofhcfnaa
open Go.RowKit
namespace Ld
def bookOf (l : List Sd) : Bk := ⟨[⟨10, 12⟩, ⟨14, 15⟩, ⟨18, 20⟩, ⟨16, 17⟩], ⟨⟨2, 3⟩, 10, 19⟩, ⟨⟨4, 5⟩, 12, 20⟩, ⟨5, 6⟩, 10, 1, l⟩
def ownB : Bk := bookOf []
def soundedB : Bk := bookOf [⟨0, 0, 10⟩]
def tornB : Bk := bookOf [⟨0, 0, 10⟩, ⟨0, 1, 6⟩]
theorem says_height : heightR soundedB 0 = ⟨12, 12⟩ ∧ studyE soundedB (isHour soundedB 0) = 0 := by decide +kernel
theorem says_lands : landsR ownB 0 1 20 = (2, 0) := by decide +kernel
theorem says_most : mostR ownB 1 1 = (20, 0) := by decide +kernel
theorem says_first : firstR ownB 0 50 = (3, 0) := by decide +kernel
theorem says_both : bothL soundedB 0 = [0, 1, 3] ∧ studyE soundedB (isLoad 0) = 0 := by decide +kernel
theorem says_wrong : wrongL tornB = [0] ∧ check tornB = 0 := by decide +kernel
theorem says_right : valid ownB = true ∧ possible ownB = true ∧ check ownB = 0 := by decide +kernel
theorem says_floor : floorR ownB 0 = ⟨2, 3⟩ ∧ studyE ownB (isShore 0) = 0 := by decide +kernel
end Ld
end Go.Proofs.Ytjgpghaofhcfnaa
namespace Go.Proofs.Ytjgpghaofhcfnaa
open Go.RowKit
set_option maxHeartbeats 400000 in
theorem range_any (a b : Int) (w : World) :
 Calls Try.prog 40 #[I a, I b] w fun e w' => e = .returned (vSp ⟨a, b⟩) ∧ Below w.heap.size w w' := by
 go_enter Try.func40, Try.ntmps40
 go_wp2
 refine bodyPost_ret (v := vSp ⟨a, b⟩) (by simp [results, Try.results40, go_sem]) rfl ⟨rfl, ?_⟩
 exact (Below.refl _ _).alloc (Nat.le_refl _) _
set_option maxHeartbeats 400000 in
theorem point_any (a : Int) (w : World) :
 Calls Try.prog 29 #[I a] w fun e w' => e = .returned (vSp ⟨a, a⟩) ∧ Below w.heap.size w w' := by
 have hB0 : Below w.heap.size w (w.alloc (.cells #[I 0, I 0] 24)) := (Below.refl _ _).alloc (Nat.le_refl _) _
 have hh := heap_at w (.cells #[I 0, I 0] 24) rfl
 go_enter Try.func29, Try.ntmps29
 go_wp2_with fail
 refine (range_any a a _).mono ?_
 rintro e w1 ⟨rfl, hB1⟩
 have hr : w1.heap[w.heap.size]? = some (.cells #[I 0, I 0] 24 (0, 0)) := (hB1.block _ (by simp)).trans hh
 have c0 := cell_of_row w1 _ 0 _ _ _ hr
 have c1 := cell_of_row w1 _ 1 _ _ _ hr
 have z0 : w1.frozen? ⟨w.heap.size, 0, none⟩ = false := by simp [World.frozen?, hr]
 have z1 : w1.frozen? ⟨w.heap.size, 1, none⟩ = false := by simp [World.frozen?, hr]
 simp only [List.getElem?_toArray, List.getElem?_cons_zero, List.getElem?_cons_succ] at c0 c1
 go_wp2_with fail
 refine bodyPost_ret (v := vSp ⟨a, a⟩) (by simp [results, Try.results29, go_sem, c0, c1]) rfl ⟨rfl, ?_⟩
 exact ((hB0.trans (hB1.mono (by simp))).setCell (by simp) _).setCell (by simp) _
theorem infoBkR : (Try.prog.info? 30).map (·.size) = some 14 := by kernel_rfl
set_option maxHeartbeats 2000000 in
theorem book_any (l : List Ld.Sd) (V : Value) (w : World) (hV : Sl w w.heap.size 3 V l.length (l.flatMap cSd)) :
 Calls Try.prog 44 #[V] w fun e w' => (∃ S, e = .returned (vBk S V (Ld.bookOf l)) ∧ RB w' w'.heap.size (Ld.bookOf l) S V ∧ Fresh w.heap.size S) ∧ Below w.heap.size w w' := by
 obtain ⟨A1, k1, rfl⟩ := hV.form
 have hB0 : Below w.heap.size w (w.alloc (.cells (rBk (.slice none 0 0) (.slice none 0 0) zBk) 30)) := (Below.refl _ _).alloc (Nat.le_refl _) _
 have hh := heap_at w (.cells (rBk (.slice none 0 0) (.slice none 0 0) zBk) 30) rfl
 have HV := Lib.hid hV
 have HB0 := Lib.hid hB0
 have HH := Lib.hid hh
 have hs : w.heap.size < (w.alloc (.cells (rBk (.slice none 0 0) (.slice none 0 0) zBk) 30)).heap.size := by simp
 clear hV hB0 hh
 go_enter Try.func44, Try.ntmps44
 go_wp2_with fail
 refine (range_any 10 12 _).mono ?_
 rintro e w1 ⟨rfl, hB1⟩
 go_wp2_with fail
 refine (range_any 14 15 _).mono ?_
 rintro e w2 ⟨rfl, hB2⟩
 go_wp2_with fail
 refine (range_any 18 20 _).mono ?_
 rintro e w3 ⟨rfl, hB3⟩
 go_wp2_with fail
 refine (range_any 16 17 _).mono ?_
 rintro e w4 ⟨rfl, hB4⟩
 have hB14 := (hB1.trans (hB2.mono hB1.size)).trans ((hB3.trans (hB4.mono hB3.size)).mono (Nat.le_trans hB1.size hB2.size))
 have hb4 := HB0.out.trans (hB14.mono HB0.out.size)
 have e4 := (hB14.block _ hs).trans HH.out
 have hl4 := heap_lt e4
 have HB4 := Lib.hid hb4
 have E4 := Lib.hid e4
 clear hB1 hB2 hB3 hB4 hB14 hb4 e4
 go_wp2_with fail
 refine (range_any 2 3 _).mono ?_
 rintro e w5 ⟨rfl, hB5⟩
 go_wp2_with fail
 refine (range_any 4 5 _).mono ?_
 rintro e w6 ⟨rfl, hB6⟩
 go_wp2_with fail
 refine (range_any 5 6 _).mono ?_
 rintro e w7 ⟨rfl, hB7⟩
 have hA : Below w4.heap.size w4 (w4.alloc (.cells #[I 10, I 12, I 14, I 15, I 18, I 20, I 16, I 17] 24)) := (Below.refl _ _).alloc (Nat.le_refl _) _
 have hB57 := (hB5.trans (hB6.mono hB5.size)).trans (hB7.mono (Nat.le_trans hB5.size hB6.size))
 have rS := (hB57.block w4.heap.size (by simp)).trans (heap_at w4 (.cells #[I 10, I 12, I 14, I 15, I 18, I 20, I 16, I 17] 24) rfl)
 have hb7 := hA.trans (hB57.mono hA.size)
 have e7 := (hb7.block _ hl4).trans E4.out
 have HB7 := Lib.hid (HB4.out.trans (hb7.mono HB4.out.size))
 have RS := Lib.hid rS
 have E7 := Lib.hid e7
 clear hA hB5 hB6 hB7 hB57 rS hb7 e7
 go_wp2_with (refine wpList_store_row rfl 30 (Operand.tmp 2) (Operand.tmp 15) rfl w.heap.size (rBk (.slice (some ⟨w4.heap.size, 0, none⟩) 4 4) (.slice A1 l.length k1) (Ld.bookOf l)) rfl rfl 30 _ E7.out infoBkR rfl (by simp [Value.oneCell']) ?_)
 refine name_post ?_
 intro W hW
 have hrow : W.heap[w.heap.size]? = some (.cells (rBk (.slice (some ⟨w4.heap.size, 0, none⟩) 4 4) (.slice A1 l.length k1) (Ld.bookOf l)) 30 (0, 0)) := by rw [hW]; exact setRow_heap _ _ _ _ _ _ E7.out
 have hrs : W.heap[w4.heap.size]? = some (.cells #[I 10, I 12, I 14, I 15, I 18, I 20, I 16, I 17] 24 (0, 0)) := by rw [hW]; exact (setRow_other _ _ _ _ (by omega)).trans RS.out
 have hbW : Below w.heap.size w W := by rw [hW]; exact below_setRow HB7.out (Nat.le_refl _) _
 have hq : ∀ j : Nat, W.cell? ⟨w.heap.size, j, none⟩ = (rBk (.slice (some ⟨w4.heap.size, 0, none⟩) 4 4) (.slice A1 l.length k1) (Ld.bookOf l))[j]? := fun j => cell_of_row W _ j _ _ _ hrow
 clear hW
 refine bodyPost_ret (v := vBk (.slice (some ⟨w4.heap.size, 0, none⟩) 4 4) (.slice A1 l.length k1) (Ld.bookOf l)) (by simp [results, Try.results44, go_sem, hq]) rfl ⟨⟨_, rfl, ⟨?_, (HV.out.below hbW (Nat.le_refl _)).more hbW.size⟩, fun g o m c e => by have := HB4.out.size; injection e with e1; injection e1 with e1; injection e1 with e1; omega⟩, hbW⟩
 refine sl_new (by rfl) (by decide) ?_ hrs
 exact heap_lt hrs
end Go.Proofs.Ytjgpghaofhcfnaa
namespace Go.Proofs.Ytjgpghaofhcfnaa
open Go.RowKit
theorem fresh_nil (n : Nat) : Fresh n (.slice none 0 0) := fun g o m c e => by injection e with e1; cases e1
theorem RB.row {w : World} {B n : Nat} {b : Ld.Bk} {T D : Value} {cs : Array Value} (h : RB w B b T D) (hT : Fresh (n + 1) T) (hD : Fresh (n + 1) D) : RB (w.setRow n cs) B b T D :=
 ⟨h.tides.same fun g o m c e => setRow_other _ _ _ _ (by have := hT g o m c e; omega), h.sounds.same fun g o m c e => setRow_other _ _ _ _ (by have := hD g o m c e; omega)⟩
set_option maxHeartbeats 2000000 in
theorem own_book (w : World) :
 Calls Try.prog 43 #[] w fun e w' => (∃ T D, e = .returned (vBk T D Ld.ownB) ∧ RB w' w'.heap.size Ld.ownB T D) ∧ Below w.heap.size w w' := by
 have hB0 : Below w.heap.size w (w.alloc (.cells (rBk (.slice none 0 0) (.slice none 0 0) zBk) 30)) := (Below.refl _ _).alloc (Nat.le_refl _) _
 have hh : (w.alloc (.cells (rBk (.slice none 0 0) (.slice none 0 0) zBk) 30)).heap[w.heap.size]? = some (.cells (rBk (.slice none 0 0) (.slice none 0 0) zBk) 30 (0, 0)) := heap_at _ _ rfl
 have hV : Sl (w.alloc (.cells (rBk (.slice none 0 0) (.slice none 0 0) zBk) 30)) (w.alloc (.cells (rBk (.slice none 0 0) (.slice none 0 0) zBk) 30)).heap.size 3 (.slice none 0 0) ([] : List Ld.Sd).length (([] : List Ld.Sd).flatMap cSd) := sl_nil _ _ _
 have hz : w.heap.size < (w.alloc (.cells (rBk (.slice none 0 0) (.slice none 0 0) zBk) 30)).heap.size := by simp <;> omega
 have HV := Lib.hid hV
 have HB0 := Lib.hid hB0
 have HH := Lib.hid hh
 clear hV hB0 hh
 go_enter Try.func43, Try.ntmps43
 go_wp2_with fail
 refine (book_any [] _ _ HV.out).mono ?_
 rintro e w1 ⟨⟨S, rfl, hRB, hFS⟩, hB1⟩
 obtain ⟨AS, cS, rfl⟩ := hRB.tides.form
 have hb := HB0.out.trans (hB1.mono HB0.out.size)
 have hr := (hB1.block w.heap.size hz).trans HH.out
 have hFS' : Fresh (w.heap.size + 1) (.slice AS (Ld.bookOf []).tides.length cS) := fun g o m c e => by have := hFS g o m c e; simp at this; omega
 have HR := Lib.hid hr
 have HB := Lib.hid hb
 have HRB := Lib.hid hRB
 have HFS := Lib.hid hFS'
 clear hB1 hr hb hRB hFS hFS' hz
 go_wp2_with (refine wpList_store_row rfl 30 (Operand.tmp 0) (Operand.tmp 1) rfl w.heap.size (rBk (.slice AS (Ld.bookOf []).tides.length cS) (.slice none 0 0) (Ld.bookOf [])) rfl rfl 30 _ HR.out infoBkR rfl (by simp [Value.oneCell']) ?_)
 refine name_post ?_
 intro W hW
 have hrow : W.heap[w.heap.size]? = some (.cells (rBk (.slice AS (Ld.bookOf []).tides.length cS) (.slice none 0 0) (Ld.bookOf [])) 30 (0, 0)) := by rw [hW]; exact setRow_heap _ _ _ _ _ _ HR.out
 have hbW : Below w.heap.size w W := by rw [hW]; exact below_setRow HB.out (Nat.le_refl _) _
 have hrb : RB W W.heap.size Ld.ownB (.slice AS (Ld.bookOf []).tides.length cS) (.slice none 0 0) := by
  rw [hW]
  have h := HRB.out.row (n := w.heap.size) (cs := rBk (.slice AS (Ld.bookOf []).tides.length cS) (.slice none 0 0) (Ld.bookOf [])) HFS.out (fresh_nil _)
  exact ⟨h.tides.more (by simp), h.sounds.more (by simp)⟩
 have hq : ∀ j : Nat, W.cell? ⟨w.heap.size, j, none⟩ = (rBk (.slice AS (Ld.bookOf []).tides.length cS) (.slice none 0 0) (Ld.bookOf []))[j]? := fun j => cell_of_row W _ j _ _ _ hrow
 clear hW
 exact bodyPost_ret (v := vBk (.slice AS (Ld.bookOf []).tides.length cS) (.slice none 0 0) (Ld.bookOf [])) (by simp [results, Try.results43, go_sem, hq]) rfl ⟨⟨_, _, rfl, hrb⟩, hbW⟩
set_option maxHeartbeats 2000000 in
theorem sounded_book (w : World) :
 Calls Try.prog 46 #[] w fun e w' => (∃ T D, e = .returned (vBk T D Ld.soundedB) ∧ RB w' w'.heap.size Ld.soundedB T D) ∧ Below w.heap.size w w' := by
 have hB0 : Below w.heap.size w ((w.alloc (.cells (rBk (.slice none 0 0) (.slice none 0 0) zBk) 30)).alloc (.cells #[I 0, I 0, I 10] 64)) := ((Below.refl _ _).alloc (Nat.le_refl _) _).alloc (by simp) _
 have hh : ((w.alloc (.cells (rBk (.slice none 0 0) (.slice none 0 0) zBk) 30)).alloc (.cells #[I 0, I 0, I 10] 64)).heap[w.heap.size]? = some (.cells (rBk (.slice none 0 0) (.slice none 0 0) zBk) 30 (0, 0)) := (Below.heap_alloc _ _ _ (by simp)).trans (heap_at _ _ rfl)
 have hV : Sl ((w.alloc (.cells (rBk (.slice none 0 0) (.slice none 0 0) zBk) 30)).alloc (.cells #[I 0, I 0, I 10] 64)) ((w.alloc (.cells (rBk (.slice none 0 0) (.slice none 0 0) zBk) 30)).alloc (.cells #[I 0, I 0, I 10] 64)).heap.size 3 (.slice (some ⟨w.heap.size + 1, 0, none⟩) 1 1) ([⟨0, 0, 10⟩] : List Ld.Sd).length (([⟨0, 0, 10⟩] : List Ld.Sd).flatMap cSd) := sl_new (by rfl) (by decide) (by simp) (heap_at _ _ (by simp))
 have hz : w.heap.size < ((w.alloc (.cells (rBk (.slice none 0 0) (.slice none 0 0) zBk) 30)).alloc (.cells #[I 0, I 0, I 10] 64)).heap.size := by simp <;> omega
 have HV := Lib.hid hV
 have HB0 := Lib.hid hB0
 have HH := Lib.hid hh
 clear hV hB0 hh
 go_enter Try.func46, Try.ntmps46
 go_wp2_with fail
 refine (book_any [⟨0, 0, 10⟩] _ _ HV.out).mono ?_
 rintro e w1 ⟨⟨S, rfl, hRB, hFS⟩, hB1⟩
 obtain ⟨AS, cS, rfl⟩ := hRB.tides.form
 have hb := HB0.out.trans (hB1.mono HB0.out.size)
 have hr := (hB1.block w.heap.size hz).trans HH.out
 have hFS' : Fresh (w.heap.size + 1) (.slice AS (Ld.bookOf [⟨0, 0, 10⟩]).tides.length cS) := fun g o m c e => by have := hFS g o m c e; simp at this; omega
 have HR := Lib.hid hr
 have HB := Lib.hid hb
 have HRB := Lib.hid hRB
 have HFS := Lib.hid hFS'
 clear hB1 hr hb hRB hFS hFS' hz
 go_wp2_with (refine wpList_store_row rfl 30 (Operand.tmp 0) (Operand.tmp 3) rfl w.heap.size (rBk (.slice AS (Ld.bookOf [⟨0, 0, 10⟩]).tides.length cS) (.slice (some ⟨w.heap.size + 1, 0, none⟩) 1 1) (Ld.bookOf [⟨0, 0, 10⟩])) rfl rfl 30 _ HR.out infoBkR rfl (by simp [Value.oneCell']) ?_)
 refine name_post ?_
 intro W hW
 have hrow : W.heap[w.heap.size]? = some (.cells (rBk (.slice AS (Ld.bookOf [⟨0, 0, 10⟩]).tides.length cS) (.slice (some ⟨w.heap.size + 1, 0, none⟩) 1 1) (Ld.bookOf [⟨0, 0, 10⟩])) 30 (0, 0)) := by rw [hW]; exact setRow_heap _ _ _ _ _ _ HR.out
 have hbW : Below w.heap.size w W := by rw [hW]; exact below_setRow HB.out (Nat.le_refl _) _
 have hrb : RB W W.heap.size Ld.soundedB (.slice AS (Ld.bookOf [⟨0, 0, 10⟩]).tides.length cS) (.slice (some ⟨w.heap.size + 1, 0, none⟩) 1 1) := by
  rw [hW]
  have h := HRB.out.row (n := w.heap.size) (cs := rBk (.slice AS (Ld.bookOf [⟨0, 0, 10⟩]).tides.length cS) (.slice (some ⟨w.heap.size + 1, 0, none⟩) 1 1) (Ld.bookOf [⟨0, 0, 10⟩])) HFS.out (fun g o m c e => by injection e with e1; injection e1 with e1; injection e1 with e1; omega)
  exact ⟨h.tides.more (by simp), h.sounds.more (by simp)⟩
 have hq : ∀ j : Nat, W.cell? ⟨w.heap.size, j, none⟩ = (rBk (.slice AS (Ld.bookOf [⟨0, 0, 10⟩]).tides.length cS) (.slice (some ⟨w.heap.size + 1, 0, none⟩) 1 1) (Ld.bookOf [⟨0, 0, 10⟩]))[j]? := fun j => cell_of_row W _ j _ _ _ hrow
 clear hW
 exact bodyPost_ret (v := vBk (.slice AS (Ld.bookOf [⟨0, 0, 10⟩]).tides.length cS) (.slice (some ⟨w.heap.size + 1, 0, none⟩) 1 1) (Ld.bookOf [⟨0, 0, 10⟩])) (by simp [results, Try.results46, go_sem, hq]) rfl ⟨⟨_, _, rfl, hrb⟩, hbW⟩
set_option maxHeartbeats 2000000 in
theorem torn_book (w : World) :
 Calls Try.prog 45 #[] w fun e w' => (∃ T D, e = .returned (vBk T D Ld.tornB) ∧ RB w' w'.heap.size Ld.tornB T D) ∧ Below w.heap.size w w' := by
 have hB0 : Below w.heap.size w ((w.alloc (.cells (rBk (.slice none 0 0) (.slice none 0 0) zBk) 30)).alloc (.cells #[I 0, I 0, I 10, I 0, I 1, I 6] 64)) := ((Below.refl _ _).alloc (Nat.le_refl _) _).alloc (by simp) _
 have hh : ((w.alloc (.cells (rBk (.slice none 0 0) (.slice none 0 0) zBk) 30)).alloc (.cells #[I 0, I 0, I 10, I 0, I 1, I 6] 64)).heap[w.heap.size]? = some (.cells (rBk (.slice none 0 0) (.slice none 0 0) zBk) 30 (0, 0)) := (Below.heap_alloc _ _ _ (by simp)).trans (heap_at _ _ rfl)
 have hV : Sl ((w.alloc (.cells (rBk (.slice none 0 0) (.slice none 0 0) zBk) 30)).alloc (.cells #[I 0, I 0, I 10, I 0, I 1, I 6] 64)) ((w.alloc (.cells (rBk (.slice none 0 0) (.slice none 0 0) zBk) 30)).alloc (.cells #[I 0, I 0, I 10, I 0, I 1, I 6] 64)).heap.size 3 (.slice (some ⟨w.heap.size + 1, 0, none⟩) 2 2) ([⟨0, 0, 10⟩, ⟨0, 1, 6⟩] : List Ld.Sd).length (([⟨0, 0, 10⟩, ⟨0, 1, 6⟩] : List Ld.Sd).flatMap cSd) := sl_new (by rfl) (by decide) (by simp) (heap_at _ _ (by simp))
 have hz : w.heap.size < ((w.alloc (.cells (rBk (.slice none 0 0) (.slice none 0 0) zBk) 30)).alloc (.cells #[I 0, I 0, I 10, I 0, I 1, I 6] 64)).heap.size := by simp <;> omega
 have HV := Lib.hid hV
 have HB0 := Lib.hid hB0
 have HH := Lib.hid hh
 clear hV hB0 hh
 go_enter Try.func45, Try.ntmps45
 go_wp2_with fail
 refine (book_any [⟨0, 0, 10⟩, ⟨0, 1, 6⟩] _ _ HV.out).mono ?_
 rintro e w1 ⟨⟨S, rfl, hRB, hFS⟩, hB1⟩
 obtain ⟨AS, cS, rfl⟩ := hRB.tides.form
 have hb := HB0.out.trans (hB1.mono HB0.out.size)
 have hr := (hB1.block w.heap.size hz).trans HH.out
 have hFS' : Fresh (w.heap.size + 1) (.slice AS (Ld.bookOf [⟨0, 0, 10⟩, ⟨0, 1, 6⟩]).tides.length cS) := fun g o m c e => by have := hFS g o m c e; simp at this; omega
 have HR := Lib.hid hr
 have HB := Lib.hid hb
 have HRB := Lib.hid hRB
 have HFS := Lib.hid hFS'
 clear hB1 hr hb hRB hFS hFS' hz
 go_wp2_with (refine wpList_store_row rfl 30 (Operand.tmp 0) (Operand.tmp 4) rfl w.heap.size (rBk (.slice AS (Ld.bookOf [⟨0, 0, 10⟩, ⟨0, 1, 6⟩]).tides.length cS) (.slice (some ⟨w.heap.size + 1, 0, none⟩) 2 2) (Ld.bookOf [⟨0, 0, 10⟩, ⟨0, 1, 6⟩])) rfl rfl 30 _ HR.out infoBkR rfl (by simp [Value.oneCell']) ?_)
 refine name_post ?_
 intro W hW
 have hrow : W.heap[w.heap.size]? = some (.cells (rBk (.slice AS (Ld.bookOf [⟨0, 0, 10⟩, ⟨0, 1, 6⟩]).tides.length cS) (.slice (some ⟨w.heap.size + 1, 0, none⟩) 2 2) (Ld.bookOf [⟨0, 0, 10⟩, ⟨0, 1, 6⟩])) 30 (0, 0)) := by rw [hW]; exact setRow_heap _ _ _ _ _ _ HR.out
 have hbW : Below w.heap.size w W := by rw [hW]; exact below_setRow HB.out (Nat.le_refl _) _
 have hrb : RB W W.heap.size Ld.tornB (.slice AS (Ld.bookOf [⟨0, 0, 10⟩, ⟨0, 1, 6⟩]).tides.length cS) (.slice (some ⟨w.heap.size + 1, 0, none⟩) 2 2) := by
  rw [hW]
  have h := HRB.out.row (n := w.heap.size) (cs := rBk (.slice AS (Ld.bookOf [⟨0, 0, 10⟩, ⟨0, 1, 6⟩]).tides.length cS) (.slice (some ⟨w.heap.size + 1, 0, none⟩) 2 2) (Ld.bookOf [⟨0, 0, 10⟩, ⟨0, 1, 6⟩])) HFS.out (fun g o m c e => by injection e with e1; injection e1 with e1; injection e1 with e1; omega)
  exact ⟨h.tides.more (by simp), h.sounds.more (by simp)⟩
 have hq : ∀ j : Nat, W.cell? ⟨w.heap.size, j, none⟩ = (rBk (.slice AS (Ld.bookOf [⟨0, 0, 10⟩, ⟨0, 1, 6⟩]).tides.length cS) (.slice (some ⟨w.heap.size + 1, 0, none⟩) 2 2) (Ld.bookOf [⟨0, 0, 10⟩, ⟨0, 1, 6⟩]))[j]? := fun j => cell_of_row W _ j _ _ _ hrow
 clear hW
 exact bodyPost_ret (v := vBk (.slice AS (Ld.bookOf [⟨0, 0, 10⟩, ⟨0, 1, 6⟩]).tides.length cS) (.slice (some ⟨w.heap.size + 1, 0, none⟩) 2 2) (Ld.bookOf [⟨0, 0, 10⟩, ⟨0, 1, 6⟩])) (by simp [results, Try.results45, go_sem, hq]) rfl ⟨⟨_, _, rfl, hrb⟩, hbW⟩
end Go.Proofs.Ytjgpghaofhcfnaa
namespace Go.Proofs.Ytjgpghaofhcfnaa
open Go.RowKit
namespace Ch
theorem alike_no {l m : List Int} {k : Nat} (h1 : k < l.length) (h2 : k < m.length) (h : l[k] ≠ m[k]) : decide (l = m) = false := by
 rw [decide_eq_false_iff_not]
 intro e
 subst e
 exact h rfl
theorem alike_yes {l m : List Int} (hn : l.length = m.length) (h : ∀ j (h1 : j < l.length) (h2 : j < m.length), l[j] = m[j]) : decide (l = m) = true := by
 rw [decide_eq_true_iff]
 exact List.ext_getElem hn h
theorem alike_len {l m : List Int} (hn : l.length ≠ m.length) : decide (l = m) = false := by
 rw [decide_eq_false_iff_not]
 intro e
 subst e
 exact hn rfl
end Ch
set_option maxHeartbeats 1000000 in
theorem alike_any (l m : List Int) (v u : Value) (w : World) (hv : Sl w w.heap.size 1 v l.length (l.map I)) (hu : Sl w w.heap.size 1 u m.length (m.map I)) :
 Calls Try.prog 42 #[v, u] w fun e w' => e = .returned (.bool (decide (l = m))) ∧ Below w.heap.size w w' := by
 have hm := hv.le
 have hm2 := hu.le
 unfold maxLen at hm hm2
 obtain ⟨A, c, rfl⟩ := hv.form
 obtain ⟨A1, c1, rfl⟩ := hu.form
 go_enter Try.func42, Try.ntmps42
 by_cases hn : l.length = m.length
 · have hn' : (l.length : Int) = m.length := by omega
   have HN := Lib.hid hn
   clear hn
   go_wp2_with fail
   go_loopw [5] (fun i wr => Below w.heap.size w wr ∧ ∃ k : Nat, k ≤ l.length ∧ i = I k ∧ ∀ j (h1 : j < l.length) (h2 : j < m.length), j < k → l[j] = m[j]) (fun i _ => l.length - (intOf i).toNat)
   case atStart => exact ⟨Below.refl _ _, 0, Nat.zero_le _, rfl, fun j _ _ hj => by omega⟩
   case round =>
    obtain ⟨hw, k, hk, rfl, hF⟩ := hrel
    have hv2 := hv.below hw (Nat.le_refl _)
    have hu2 := hu.below hw (Nat.le_refl _)
    clear hv hu
    have HW := Lib.hid hw
    clear hw
    have HF := Lib.hid hF
    clear hF
    by_cases hlt : k < l.length
    · have hlt2 : k < m.length := by rw [← HN.out]; exact hlt
      obtain ⟨b', off', c', hv', hb', ck⟩ := hv2.int hlt
      injection hv' with hA _ hc
      subst hA hc
      clear hv2
      obtain ⟨b2, off2, c2, hu', hb2, ck2⟩ := hu2.int hlt2
      injection hu' with hA2 _ hc2
      subst hA2 hc2
      clear hu2
      have hki : (k : Int) < l.length := by omega
      by_cases hx : l[k] = m[k]
      · have hb : (l[k] != m[k]) = false := by simp [hx]
        have HX := Lib.hid hx
        clear hx
        go_wp2_with fail
        go_region
        all_goals
         go_wp2_with fail
         go_roundw
         case rel =>
          refine ⟨HW.out.drew, k + 1, by omega, by go_num, fun j h1 h2 hjk => ?_⟩
          rcases Nat.lt_succ_iff_lt_or_eq.1 hjk with h' | h'
          · exact HF.out j h1 h2 h'
          · subst h'; exact HX.out
         case measure => simp [intOf]; omega
      · have hb : (l[k] != m[k]) = true := by simp [hx]
        have HX := Lib.hid hx
        clear hx
        go_wp2_with fail
        go_region
        all_goals
         go_wp2_with fail
         go_ret
         exact ⟨ret_b (Ch.alike_no hlt hlt2 HX.out).symm, HW.out.drew⟩
    · obtain rfl : k = l.length := by omega
      go_wp2_with fail
      go_ret
      exact ⟨ret_b (Ch.alike_yes HN.out (fun j h1 h2 => HF.out j h1 h2 h1)).symm, HW.out⟩
 · have hn' : ¬ (l.length : Int) = m.length := by omega
   have HN := Lib.hid hn
   clear hn
   go_wp2_with fail
   go_ret
   exact ⟨ret_b (Ch.alike_len HN.out).symm, Below.refl _ _⟩
end Go.Proofs.Ytjgpghaofhcfnaa
