/- Texts on the program that the proof leans on, part 28. -/
import Derived.Test.YtjgpghaofhcfnaaYaz
import Derived.Test.YtjgpghaofhcfnaaYba
import Derived.Test.YtjgpghaofhcfnaaYas
set_option linter.unusedVariables false
set_option linter.unusedSimpArgs false

namespace Go.Proofs.Ytjgpghaofhcfnaa
open Go.RowKit
attribute [local go_sem] Oper.semAt_some
namespace Ld
def without (b : Bk) (no : List Int) : Bk := { b with sounds := withoutL b.sounds no }
theorem without_valid {b : Bk} (h : valid b = true) (no : List Int) : valid (without b no) = true := by
 have hl : (withoutL b.sounds no).length ≤ b.sounds.length := keptTo_le _ _ _
 have hm : ∀ x ∈ withoutL b.sounds no, x ∈ b.sounds := keptTo_mem (Nat.le_refl _)
 unfold valid at h ⊢
 simp only [Bool.and_eq_true] at h ⊢
 obtain ⟨⟨⟨⟨h1, h2⟩, h3⟩, h4⟩, h5⟩ := h
 refine ⟨⟨⟨⟨?_, h2⟩, h3⟩, h4⟩, ?_⟩
 · simp [sized, bnds, between, without] at h1 ⊢
   omega
 · exact List.all_eq_true.2 fun x hx => List.all_eq_true.1 h5 x (hm x hx)
def trueWithout (b : Bk) (no : List Int) : Bool := possible (without b no)
def wrongL (b : Bk) : List Int := if valid b = true then (Ch.fewest b.sounds.length (trueWithout b) (b.sounds.length + 1)).getD [] else []
end Ld
set_option maxRecDepth 100000 in
set_option maxHeartbeats 4000000 in
theorem wrongF_any (b : Ld.Bk) (hv : Ld.valid b = true) (T D : Value) (lx : Nat) (no : List Int) (v : Value) (w : World) (hx : w.heap[lx]? = some (.cells (rBk T D b) 30 (0, 0))) (hb : RB w w.heap.size b T D) (hs : Sl w w.heap.size 1 v no.length (no.map I)) :
 Calls Try.prog 52 #[v, vPtr lx] w fun e w' => e = .returned (.bool (Ld.trueWithout b no)) ∧ Below w.heap.size w w' := by
 obtain ⟨A0, c0, rfl⟩ := hb.tides.form
 obtain ⟨A1, c1, rfl⟩ := hb.sounds.form
 obtain ⟨Av, cv, rfl⟩ := hs.form
 obtain ⟨hl, -⟩ := valid_sd hv
 have a0 := cell_of_row w _ 0 _ _ _ hx
 have a1 := cell_of_row w _ 1 _ _ _ hx
 have a2 := cell_of_row w _ 2 _ _ _ hx
 have a3 := cell_of_row w _ 3 _ _ _ hx
 have a4 := cell_of_row w _ 4 _ _ _ hx
 have a5 := cell_of_row w _ 5 _ _ _ hx
 have a6 := cell_of_row w _ 6 _ _ _ hx
 have a7 := cell_of_row w _ 7 _ _ _ hx
 have a8 := cell_of_row w _ 8 _ _ _ hx
 have a9 := cell_of_row w _ 9 _ _ _ hx
 have a10 := cell_of_row w _ 10 _ _ _ hx
 have a11 := cell_of_row w _ 11 _ _ _ hx
 have a12 := cell_of_row w _ 12 _ _ _ hx
 have a13 := cell_of_row w _ 13 _ _ _ hx
 simp only [List.getElem?_toArray, List.getElem?_cons_zero, List.getElem?_cons_succ] at a0 a1 a2 a3 a4 a5 a6 a7 a8 a9 a10 a11 a12 a13
 have HX := Lib.hid hx
 have HB := Lib.hid hb
 have HS := Lib.hid hs
 have HV := Lib.hid hv
 have hxl := heap_lt hx
 clear hx hb hs hv
 go_enter Try.func52, Try.ntmps52
 go_wp2_with fail
 have hba : Below w.heap.size w (w.alloc (.cells (rBk (.slice A0 b.tides.length c0) (.slice A1 b.sounds.length c1) b) 30)) := (Below.refl _ _).alloc (Nat.le_refl _) _
 refine (Without_any b.sounds hl no _ _ _ (HB.out.up hba).sounds ((HS.out.below hba (Nat.le_refl _)).more hba.size)).mono ?_
 rintro e w1 ⟨⟨V', rfl, hV', hfr⟩, hB1⟩
 obtain ⟨AV', cV', rfl⟩ := hV'.form
 have hb1 := hba.trans (hB1.mono hba.size)
 have r0 : w1.heap[w.heap.size]? = some (.cells (rBk (.slice A0 b.tides.length c0) (.slice A1 b.sounds.length c1) b) 30 (0, 0)) := (hB1.block _ (by simp)).trans (heap_at _ _ rfl)
 have b0 := cell_of_row w1 _ 0 _ _ _ r0
 have b1 := cell_of_row w1 _ 1 _ _ _ r0
 have b2 := cell_of_row w1 _ 2 _ _ _ r0
 have b3 := cell_of_row w1 _ 3 _ _ _ r0
 have b4 := cell_of_row w1 _ 4 _ _ _ r0
 have b5 := cell_of_row w1 _ 5 _ _ _ r0
 have b6 := cell_of_row w1 _ 6 _ _ _ r0
 have b7 := cell_of_row w1 _ 7 _ _ _ r0
 have b8 := cell_of_row w1 _ 8 _ _ _ r0
 have b9 := cell_of_row w1 _ 9 _ _ _ r0
 have b10 := cell_of_row w1 _ 10 _ _ _ r0
 have b11 := cell_of_row w1 _ 11 _ _ _ r0
 have b12 := cell_of_row w1 _ 12 _ _ _ r0
 have b13 := cell_of_row w1 _ 13 _ _ _ r0
 simp only [List.getElem?_toArray, List.getElem?_cons_zero, List.getElem?_cons_succ] at b0 b1 b2 b3 b4 b5 b6 b7 b8 b9 b10 b11 b12 b13
 have hz1 := heap_lt r0
 have f13 : w1.frozen? ⟨w.heap.size, 13, none⟩ = false := by simp [World.frozen?, r0]
 have R0 := Lib.hid r0
 have HB1 := Lib.hid hb1
 have HV' := Lib.hid hV'
 have HFR := Lib.hid hfr
 clear a0 a1 a2 a3 a4 a5 a6 a7 a8 a9 a10 a11 a12 a13 r0 hba hB1 hb1 hV' hfr
 go_upto_region 3 with fail
 refine name_world ?_
 intro W hW
 have hrow : W.heap[w.heap.size]? = some (.cells (rBk (.slice A0 b.tides.length c0) (.slice AV' (Ld.withoutL b.sounds no).length cV') (Ld.without b no)) 30 (0, 0)) := by rw [hW]; simp [World.setCell, Array.getElem?_modify, R0.out, Ld.without]
 have hbW : Below w.heap.size w W := by rw [hW]; exact HB1.out.setCell (by simp) _
 have hSW : Sl W W.heap.size 3 (.slice AV' (Ld.withoutL b.sounds no).length cV') (Ld.withoutL b.sounds no).length ((Ld.withoutL b.sounds no).flatMap cSd) := by
  rw [hW]
  refine Sl.more (HV'.out.same (fun g o m' c' e => ?_)) (by simp [World.setCell])
  have hg := HFR.out g o m' c' e
  simp at hg
  exact Below.heap_setCell _ _ _ _ (by simp; omega)
 have hrb : RB W W.heap.size (Ld.without b no) (.slice A0 b.tides.length c0) (.slice AV' (Ld.without b no).sounds.length cV') := ⟨(HB.out.up hbW).tides, hSW⟩
 have HRB := Lib.hid hrb
 have HBW := Lib.hid hbW
 have HWV := Lib.hid (Ld.without_valid HV.out no)
 clear hW hSW hrb b0 b1 b2 b3 b4 b5 b6 b7 b8 b9 b10 b11 b12 b13 f13 hbW
 have d0 := cell_of_row W _ 0 _ _ _ hrow
 have d1 := cell_of_row W _ 1 _ _ _ hrow
 have d2 := cell_of_row W _ 2 _ _ _ hrow
 have d3 := cell_of_row W _ 3 _ _ _ hrow
 have d4 := cell_of_row W _ 4 _ _ _ hrow
 have d5 := cell_of_row W _ 5 _ _ _ hrow
 have d6 := cell_of_row W _ 6 _ _ _ hrow
 have d7 := cell_of_row W _ 7 _ _ _ hrow
 have d8 := cell_of_row W _ 8 _ _ _ hrow
 have d9 := cell_of_row W _ 9 _ _ _ hrow
 have d10 := cell_of_row W _ 10 _ _ _ hrow
 have d11 := cell_of_row W _ 11 _ _ _ hrow
 have d12 := cell_of_row W _ 12 _ _ _ hrow
 have d13 := cell_of_row W _ 13 _ _ _ hrow
 simp only [List.getElem?_toArray, List.getElem?_cons_zero, List.getElem?_cons_succ] at d0 d1 d2 d3 d4 d5 d6 d7 d8 d9 d10 d11 d12 d13
 clear hrow
 obtain ⟨hl2, hok2⟩ := valid_sd HWV.out
 have HOK := Lib.hid hok2
 clear hok2
 go_wp2_with fail
 refine (lay_any (Ld.without b no) _ _ W HRB.out hl2 HOK.out).mono ?_
 rintro e w2 ⟨⟨r, rfl, hsm⟩, hB2⟩
 have hb2 := HBW.out.trans (hB2.mono HBW.out.size)
 have HLED := Lib.hid (⟨HRB.out.up hB2, _, hsm⟩ : Led (Ld.without b no) (.slice A0 b.tides.length c0) (.slice AV' (Ld.without b no).sounds.length cV') r w2)
 have HB2 := Lib.hid hb2
 clear hB2 hb2 hsm d0 d1 d2 d3 d4 d5 d6 d7 d8 d9 d10 d11 d12 d13
 go_wp2_with fail
 refine (possible_any (Ld.without b no) _ _ r _ w2 HLED.out HWV.out).mono ?_
 rintro e w3 ⟨rfl, hB3⟩
 have hb3 := HB2.out.trans (hB3.mono HB2.out.size)
 have HB3 := Lib.hid hb3
 clear hB3 hb3
 go_wp2_with fail
 go_ret
 exact ⟨ret_b (by rw [Ld.trueWithout]), HB3.out⟩
set_option maxRecDepth 100000 in
set_option maxHeartbeats 4000000 in
theorem Wrong_any (b : Ld.Bk) (T D : Value) (w : World) (hb : RB w w.heap.size b T D) :
 Calls Try.prog 18 #[vBk T D b] w fun e w' => (∃ v, e = .returned (.tuple #[v, I (Ld.check b)]) ∧ Sl w' w'.heap.size 1 v (Ld.wrongL b).length ((Ld.wrongL b).map I)) ∧ Below w.heap.size w w' := by
 obtain ⟨A0, c0, rfl⟩ := hb.tides.form
 obtain ⟨A1, c1, rfl⟩ := hb.sounds.form
 have HRB := Lib.hid hb
 have hm := hb.sounds.le
 unfold maxLen at hm
 clear hb
 have hB0 : Below w.heap.size w (w.alloc (.cells (rBk (.slice A0 b.tides.length c0) (.slice A1 b.sounds.length c1) b) 30)) := (Below.refl _ _).alloc (Nat.le_refl _) _
 go_enter Try.func18, Try.ntmps18
 go_wp2_with fail
 refine (check_any b _ _ _ (HRB.out.up hB0)).mono ?_
 rintro e w1 ⟨rfl, hB1⟩
 have hb1 : Below w.heap.size w w1 := hB0.trans (hB1.mono hB0.size)
 have e0 : w1.heap[w.heap.size]? = some (.cells (rBk (.slice A0 b.tides.length c0) (.slice A1 b.sounds.length c1) b) 30 (0, 0)) := (hB1.block _ (by simp)).trans (heap_at _ _ rfl)
 by_cases hv : Ld.valid b = true
 · have hc : Ld.check b = 0 := by simp [Ld.check, hv]
   obtain ⟨hl, -⟩ := valid_sd hv
   obtain ⟨hp1, -⟩ := Ld.valid_parts hv
   have h6 := (Ld.sized_bd hp1).2.2.2.2.2.2
   have b13 := cell_of_row w1 _ 13 _ _ _ e0
   simp only [List.getElem?_toArray, List.getElem?_cons_zero, List.getElem?_cons_succ] at b13
   have HV := Lib.hid hv
   have HC := Lib.hid hc
   have E0 := Lib.hid e0
   have HB1 := Lib.hid hb1
   rw [hc]
   clear hc hv hB0 hB1 e0 hb1 hp1
   go_wp2_with fail
   refine (fewest_any b.sounds.length (by omega) (Ld.trueWithout b) w.heap.size _ (fun x sl W' hW hsl => wrongF_any b HV.out _ _ w.heap.size x sl W' ((hW.block _ (heap_lt E0.out)).trans E0.out) (HRB.out.up (HB1.out.trans (hW.mono HB1.out.size))) hsl)).mono ?_
   rintro e w3 ⟨v, rfl, hsl, hB3⟩
   obtain ⟨Av, cv, rfl⟩ := hsl.form
   have HSL := Lib.hid hsl
   have HB3 := Lib.hid (HB1.out.trans (hB3.mono HB1.out.size))
   clear hsl hB3 b13
   go_wp2_with fail
   go_ret2
   exact ⟨⟨_, by rw [HC.out] <;> rfl, by unfold Ld.wrongL; rw [if_pos HV.out]; exact HSL.out⟩, HB3.out⟩
 · have hv : Ld.valid b = false := by simpa using hv
   have hc : Ld.check b = 20 := by simp [Ld.check, hv]
   have HV := Lib.hid hv
   have HC := Lib.hid hc
   rw [hc]
   clear hc hv hB0 hB1 e0
   go_wp2_with fail
   go_ret2
   exact ⟨⟨_, by rw [HC.out] <;> rfl, by unfold Ld.wrongL; rw [if_neg (by rw [HV.out]; simp)]; exact sl_nil _ _ _⟩, hb1⟩
end Go.Proofs.Ytjgpghaofhcfnaa
namespace Go.Proofs.Ytjgpghaofhcfnaa
open Go.RowKit
set_option maxHeartbeats 400000 in
theorem in_any (n lo hi : Int) (w : World) :
 Calls Try.prog 23 #[I n, I lo, I hi] w fun e w' => e = .returned (.bool (Ld.between n lo hi)) ∧ Below w.heap.size w w' := by
 by_cases h1 : lo ≤ n <;> by_cases h2 : n ≤ hi
 all_goals
  go_enter Try.func23, Try.ntmps23
  go_wp2
  go_ret
  exact ⟨ret_b (by simp [Ld.between, h1, h2]), Below.refl _ _⟩
set_option maxHeartbeats 400000 in
theorem validSp_any (s : Ld.Sp) (lo hi : Int) (w : World) :
 Calls Try.prog 47 #[vSp s, I lo, I hi] w fun e w' => e = .returned (.bool (decide (lo ≤ s.lo) && decide (s.lo ≤ s.hi) && decide (s.hi ≤ hi))) ∧ Below w.heap.size w w' := by
 obtain ⟨a, b⟩ := s
 by_cases h1 : lo ≤ a <;> by_cases h2 : a ≤ b <;> by_cases h3 : b ≤ hi
 all_goals
  go_enter Try.func47, Try.ntmps47
  go_wp2
  go_ret
  exact ⟨ret_b (by simp [h1, h2, h3]), (Below.refl _ _).alloc (Nat.le_refl _) _⟩
end Go.Proofs.Ytjgpghaofhcfnaa
