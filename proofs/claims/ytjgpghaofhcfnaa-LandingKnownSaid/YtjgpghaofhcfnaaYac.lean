/- Texts on the program that the proof leans on, part 3. -/
import Derived.Test.YtjgpghaofhcfnaaRows
import Derived.Test.YtjgpghaofhcfnaaYab
set_option linter.unusedVariables false
set_option linter.unusedSimpArgs false

namespace Go.Proofs.Ytjgpghaofhcfnaa
open Go.RowKit
attribute [local go_sem] Oper.semAt_some
abbrev I (n : Int) : Value := .int .i64 n
abbrev vSp (s : Ld.Sp) : Value := .agg #[I s.lo, I s.hi]
abbrev vPtr (b : Nat) : Value := .pointer (some ⟨b, 0, none⟩)
set_option maxHeartbeats 400000 in
theorem isEmpty_any (s : Ld.Sp) (w : World) :
 Calls Try.prog 91 #[vSp s] w fun e w' => e = .returned (.bool (Ld.isEmpty s)) ∧ Below w.heap.size w w' := by
 obtain ⟨lo, hi⟩ := s
 go_enter Try.func91, Try.ntmps91
 go_wp2
 go_ret
 exact ⟨rfl, (Below.refl _ _).alloc (Nat.le_refl _) _⟩
set_option maxHeartbeats 400000 in
theorem meet_any (s t : Ld.Sp) (w : World) :
 Calls Try.prog 108 #[vSp s, vSp t] w fun e w' => e = .returned (vSp (Ld.meet s t)) ∧ Below w.heap.size w w' := by
 obtain ⟨a, b⟩ := s
 obtain ⟨c, d⟩ := t
 by_cases h1 : a < c <;> by_cases h2 : d < b
 all_goals
  go_enter Try.func108, Try.ntmps108
  go_wp2
  refine bodyPost_ret (v := vSp (Ld.meet ⟨a, b⟩ ⟨c, d⟩)) (by simp [results, Try.results108, go_sem, Ld.meet]; omega) rfl ⟨rfl, ?_⟩
  exact (((Below.refl _ _).alloc (Nat.le_refl _) _).alloc (by simp) _).alloc (by simp; omega) _
set_option maxHeartbeats 400000 in
theorem just_any (n : Int) (w : World) :
 Calls Try.prog 90 #[I n] w fun e w' => e = .returned (vSp (Ld.just n)) ∧ Below w.heap.size w w' := by
 go_enter Try.func90, Try.ntmps90
 go_wp2
 refine bodyPost_ret (v := vSp (Ld.just n)) (by simp [results, Try.results90, go_sem, Ld.just]) rfl ⟨rfl, ?_⟩
 exact (Below.refl _ _).alloc (Nat.le_refl _) _
set_option maxHeartbeats 400000 in
theorem nothing_any (w : World) :
 Calls Try.prog 74 #[] w fun e w' => e = .returned (vSp Ld.none) ∧ Below w.heap.size w w' := by
 go_enter Try.func74, Try.ntmps74
 go_wp2
 refine bodyPost_ret (v := vSp Ld.none) (by simp [results, Try.results74, go_sem, Ld.none]) rfl ⟨rfl, ?_⟩
 exact (Below.refl _ _).alloc (Nat.le_refl _) _
theorem name_post {P : Program} {fn : Func} {R : Ending → World → Prop} {e : Exit} {a : Act} {w : World} (h : ∀ W, W = w → bodyPost P fn R e a W) : bodyPost P fn R e a w := h w rfl
set_option maxHeartbeats 1000000 in
theorem join_any (s t : Ld.Sp) (w : World) :
 Calls Try.prog 75 #[vSp s, vSp t] w fun e w' => e = .returned (vSp (Ld.join s t)) ∧ Below w.heap.size w w' := by
 obtain ⟨a, b⟩ := s
 obtain ⟨c, d⟩ := t
 have hB0 : Below w.heap.size w (((w.alloc (.cells #[I a, I b] 24)).alloc (.cells #[I c, I d] 24)).alloc (.cells #[I 0, I 0] 24)) := (((Below.refl _ _).alloc (Nat.le_refl _) _).alloc (by simp) _).alloc (by simp; omega) _
 obtain ⟨J, hJ⟩ : ∃ J, Ld.join ⟨a, b⟩ ⟨c, d⟩ = J := ⟨_, rfl⟩
 rw [hJ]
 go_enter Try.func75, Try.ntmps75
 go_wp2_with fail
 refine (isEmpty_any ⟨a, b⟩ _).mono ?_
 rintro e w1 ⟨he, hB1⟩
 have hb1 : Below w.heap.size w w1 := hB0.trans (hB1.mono hB0.size)
 have hc1 := bcell hB1
 have hz1 : w.heap.size + 1 + 1 < w1.heap.size := by have := hB1.size; simp at this; omega
 have hz0 : w.heap.size + 1 < w1.heap.size := by omega
 have hz00 : w.heap.size < w1.heap.size := by omega
 have r1 : w1.heap[w.heap.size + 1 + 1]? = some (.cells #[I 0, I 0] 24 (0, 0)) := (hB1.block _ (by simp)).trans (heap_at _ _ (by simp))
 have f1 : ∀ o, w1.frozen? ⟨w.heap.size + 1 + 1, o, none⟩ = false := fun o => by simp [World.frozen?, r1]
 have R1 := Lib.hid r1
 have HJ := Lib.hid hJ
 clear r1 hJ
 by_cases h1 : b < a
 · obtain rfl : e = .returned (.bool true) := by rw [he]; simp [Ld.isEmpty, h1]
   clear he
   have hj : J = ⟨c, d⟩ := by rw [← HJ.out]; simp [Ld.join, Ld.isEmpty, h1]
   have HJJ := Lib.hid hj
   clear hj
   go_wp2_with fail
   refine name_post ?_
   intro W hW
   have hrow : W.heap[w.heap.size + 1 + 1]? = some (.cells #[I c, I d] 24 (0, 0)) := by rw [hW]; simp [World.setCell, Array.getElem?_modify, R1.out]
   have hbW : Below w.heap.size w W := by rw [hW]; exact (hb1.setCell (by simp; omega) _).setCell (by simp; omega) _
   have hq : ∀ j : Nat, W.cell? ⟨w.heap.size + 1 + 1, j, none⟩ = #[I c, I d][j]? := fun j => cell_of_row W _ j _ _ _ hrow
   clear hW
   exact bodyPost_ret (v := vSp ⟨c, d⟩) (by simp [results, Try.results75, go_sem, hq]) rfl ⟨by rw [HJJ.out], hbW⟩
 · obtain rfl : e = .returned (.bool false) := by rw [he]; simp [Ld.isEmpty]; omega
   clear he
   go_wp2_with fail
   refine (isEmpty_any ⟨c, d⟩ _).mono ?_
   rintro e w2 ⟨he, hB2⟩
   have hb2 : Below w.heap.size w w2 := hb1.trans (hB2.mono hb1.size)
   have hc2 := bcell hB2
   have r2 : w2.heap[w.heap.size + 1 + 1]? = some (.cells #[I 0, I 0] 24 (0, 0)) := (hB2.block _ hz1).trans R1.out
   have f2 : ∀ o, w2.frozen? ⟨w.heap.size + 1 + 1, o, none⟩ = false := fun o => by simp [World.frozen?, r2]
   have R2 := Lib.hid r2
   clear r2 f1
   by_cases h2 : d < c
   · obtain rfl : e = .returned (.bool true) := by rw [he]; simp [Ld.isEmpty, h2]
     clear he
     have hj : J = ⟨a, b⟩ := by
      have q1 : Ld.isEmpty ⟨a, b⟩ = false := by simp [Ld.isEmpty]; omega
      have q2 : Ld.isEmpty ⟨c, d⟩ = true := by simp [Ld.isEmpty]; omega
      rw [← HJ.out]; unfold Ld.join; rw [q1, q2]; rfl
     have HJJ := Lib.hid hj
     clear hj
     go_wp2_with fail
     refine name_post ?_
     intro W hW
     have hrow : W.heap[w.heap.size + 1 + 1]? = some (.cells #[I a, I b] 24 (0, 0)) := by rw [hW]; simp [World.setCell, Array.getElem?_modify, R2.out]
     have hbW : Below w.heap.size w W := by rw [hW]; exact (hb2.setCell (by simp; omega) _).setCell (by simp; omega) _
     have hq : ∀ j : Nat, W.cell? ⟨w.heap.size + 1 + 1, j, none⟩ = #[I a, I b][j]? := fun j => cell_of_row W _ j _ _ _ hrow
     clear hW
     exact bodyPost_ret (v := vSp ⟨a, b⟩) (by simp [results, Try.results75, go_sem, hq]) rfl ⟨by rw [HJJ.out], hbW⟩
   · obtain rfl : e = .returned (.bool false) := by rw [he]; simp [Ld.isEmpty]; omega
     clear he
     have hj : J = ⟨min a c, max b d⟩ := by
      have q1 : Ld.isEmpty ⟨a, b⟩ = false := by simp [Ld.isEmpty]; omega
      have q2 : Ld.isEmpty ⟨c, d⟩ = false := by simp [Ld.isEmpty]; omega
      rw [← HJ.out]; unfold Ld.join; rw [q1, q2]; rfl
     have HJJ := Lib.hid hj
     clear hj
     rcases Int.lt_or_le c a with h3 | h3 <;> rcases Int.lt_or_le b d with h4 | h4
     · have e1 : min a c = c := by omega
       have e2 : max b d = d := by omega
       have HE := Lib.hid (And.intro e1 e2)
       clear e1 e2
       go_wp2_with fail
       refine name_post ?_
       intro W hW
       have hrow : W.heap[w.heap.size + 1 + 1]? = some (.cells #[I c, I d] 24 (0, 0)) := by rw [hW]; simp [World.setCell, Array.getElem?_modify, R2.out]
       have hbW : Below w.heap.size w W := by rw [hW]; exact (hb2.setCell (by simp; omega) _).setCell (by simp; omega) _
       have hq : ∀ j : Nat, W.cell? ⟨w.heap.size + 1 + 1, j, none⟩ = #[I c, I d][j]? := fun j => cell_of_row W _ j _ _ _ hrow
       clear hW
       exact bodyPost_ret (v := vSp ⟨c, d⟩) (by simp [results, Try.results75, go_sem, hq]) rfl ⟨by rw [HJJ.out, HE.out.1, HE.out.2], hbW⟩
     · have e1 : min a c = c := by omega
       have e2 : max b d = b := by omega
       have HE := Lib.hid (And.intro e1 e2)
       clear e1 e2
       go_wp2_with fail
       refine name_post ?_
       intro W hW
       have hrow : W.heap[w.heap.size + 1 + 1]? = some (.cells #[I c, I b] 24 (0, 0)) := by rw [hW]; simp [World.setCell, Array.getElem?_modify, R2.out]
       have hbW : Below w.heap.size w W := by rw [hW]; exact (hb2.setCell (by simp; omega) _).setCell (by simp; omega) _
       have hq : ∀ j : Nat, W.cell? ⟨w.heap.size + 1 + 1, j, none⟩ = #[I c, I b][j]? := fun j => cell_of_row W _ j _ _ _ hrow
       clear hW
       exact bodyPost_ret (v := vSp ⟨c, b⟩) (by simp [results, Try.results75, go_sem, hq]) rfl ⟨by rw [HJJ.out, HE.out.1, HE.out.2], hbW⟩
     · have e1 : min a c = a := by omega
       have e2 : max b d = d := by omega
       have HE := Lib.hid (And.intro e1 e2)
       clear e1 e2
       go_wp2_with fail
       refine name_post ?_
       intro W hW
       have hrow : W.heap[w.heap.size + 1 + 1]? = some (.cells #[I a, I d] 24 (0, 0)) := by rw [hW]; simp [World.setCell, Array.getElem?_modify, R2.out]
       have hbW : Below w.heap.size w W := by rw [hW]; exact (hb2.setCell (by simp; omega) _).setCell (by simp; omega) _
       have hq : ∀ j : Nat, W.cell? ⟨w.heap.size + 1 + 1, j, none⟩ = #[I a, I d][j]? := fun j => cell_of_row W _ j _ _ _ hrow
       clear hW
       exact bodyPost_ret (v := vSp ⟨a, d⟩) (by simp [results, Try.results75, go_sem, hq]) rfl ⟨by rw [HJJ.out, HE.out.1, HE.out.2], hbW⟩
     · have e1 : min a c = a := by omega
       have e2 : max b d = b := by omega
       have HE := Lib.hid (And.intro e1 e2)
       clear e1 e2
       go_wp2_with fail
       refine name_post ?_
       intro W hW
       have hrow : W.heap[w.heap.size + 1 + 1]? = some (.cells #[I a, I b] 24 (0, 0)) := by rw [hW]; simp [World.setCell, Array.getElem?_modify, R2.out]
       have hbW : Below w.heap.size w W := by rw [hW]; exact (hb2.setCell (by simp; omega) _).setCell (by simp; omega) _
       have hq : ∀ j : Nat, W.cell? ⟨w.heap.size + 1 + 1, j, none⟩ = #[I a, I b][j]? := fun j => cell_of_row W _ j _ _ _ hrow
       clear hW
       exact bodyPost_ret (v := vSp ⟨a, b⟩) (by simp [results, Try.results75, go_sem, hq]) rfl ⟨by rw [HJJ.out, HE.out.1, HE.out.2], hbW⟩
set_option maxHeartbeats 400000 in
theorem holds_any (n lo hi : Int) (w : World) :
 Calls Try.prog 110 #[.agg #[I n, I lo, I hi]] w fun e w' => e = .returned (.bool (Ld.between n lo hi)) ∧ Below w.heap.size w w' := by
 by_cases h1 : lo ≤ n <;> by_cases h2 : n ≤ hi
 all_goals
  go_enter Try.func110, Try.ntmps110
  go_wp2
  go_ret
  exact ⟨ret_b (by simp [Ld.between, h1, h2]), (Below.refl _ _).alloc (Nat.le_refl _) _⟩
set_option maxHeartbeats 400000 in
theorem inside_any (s t : Ld.Sp) (w : World) :
 Calls Try.prog 98 #[vSp s, vSp t] w fun e w' => e = .returned (.bool (Ld.inside s t)) ∧ Below w.heap.size w w' := by
 obtain ⟨lo, hi⟩ := s
 obtain ⟨tlo, thi⟩ := t
 by_cases h1 : tlo ≤ lo <;> by_cases h2 : hi ≤ thi
 all_goals
  go_enter Try.func98, Try.ntmps98
  go_wp2
  go_ret
  exact ⟨ret_b (by simp [Ld.inside, h1, h2]), ((Below.refl _ _).alloc (Nat.le_refl _) _).alloc (by simp) _⟩
set_option maxHeartbeats 1000000 in
theorem isKnown_any (s t : Ld.Sp) (wide : Int) (w : World) (hl : -1000 ≤ t.lo) (hh : t.hi ≤ 1000) :
 Calls Try.prog 100 #[vSp s, vSp t, I wide] w fun e w' => e = .returned (.bool (Ld.isKnown s t wide)) ∧ Below w.heap.size w w' := by
 obtain ⟨lo, hi⟩ := s
 obtain ⟨tlo, thi⟩ := t
 have hB0 : Below w.heap.size w ((w.alloc (.cells #[I lo, I hi] 24)).alloc (.cells #[I tlo, I thi] 24)) := ((Below.refl _ _).alloc (Nat.le_refl _) _).alloc (by simp) _
 simp only at hl hh
 go_enter Try.func100, Try.ntmps100
 go_wp2_with fail
 refine (isEmpty_any ⟨lo, hi⟩ _).mono ?_
 rintro e w1 ⟨he, hB1⟩
 have hb1 : Below w.heap.size w w1 := hB0.trans (hB1.mono hB0.size)
 have hc1 := bcell hB1
 have hz1 : w.heap.size + 1 < w1.heap.size := by have := hB1.size; simp at this; omega
 have hz0 : w.heap.size < w1.heap.size := by omega
 by_cases h1 : hi < lo
 · obtain rfl : e = .returned (.bool true) := by rw [he]; simp [Ld.isEmpty, h1]
   clear he
   go_wp2_with fail
   go_ret
   exact ⟨ret_b (by simp [Ld.isKnown, Ld.isEmpty, h1]), hb1⟩
 · obtain rfl : e = .returned (.bool false) := by rw [he]; simp [Ld.isEmpty]; omega
   clear he
   by_cases h2 : tlo ≤ lo ∧ hi ≤ thi
   · obtain ⟨h2, h3⟩ := h2
     go_wp2_with fail
     refine (inside_any ⟨lo, hi⟩ ⟨tlo, thi⟩ _).mono ?_
     rintro e w2 ⟨he, hB2⟩
     obtain rfl : e = .returned (.bool true) := by rw [he]; simp [Ld.inside, h2, h3]
     clear he
     have hb2 : Below w.heap.size w w2 := hb1.trans (hB2.mono hb1.size)
     have hc2 := bcell hB2
     have hz2 : w.heap.size + 1 < w2.heap.size := by have := hB2.size; omega
     by_cases h4 : hi - lo ≤ wide
     all_goals
      go_wp2_with fail
      go_ret
      exact ⟨ret_b (by rw [Bool.eq_iff_iff]; simp [Ld.isKnown, Ld.isEmpty, Ld.inside]; omega), hb2⟩
   · have hr : Ld.isKnown ⟨lo, hi⟩ ⟨tlo, thi⟩ wide = false := by simp [Ld.isKnown, Ld.isEmpty, Ld.inside]; omega
     have HR := Lib.hid hr
     clear hr
     go_wp2_with fail
     refine (inside_any ⟨lo, hi⟩ ⟨tlo, thi⟩ _).mono ?_
     rintro e w2 ⟨he, hB2⟩
     obtain rfl : e = .returned (.bool false) := by rw [he]; congr 2; rw [Bool.eq_false_iff]; simp [Ld.inside]; omega
     clear he
     have hb2 : Below w.heap.size w w2 := hb1.trans (hB2.mono hb1.size)
     go_wp2_with fail
     go_ret
     exact ⟨ret_b HR.out.symm, hb2⟩
def cBd (x : Int × Int × Int) : List Value := [I x.1, I x.2.1, I x.2.2]
set_option maxHeartbeats 1000000 in
theorem hold_any (l : List (Int × Int × Int)) (v : Value) (w : World) (h : Sl w w.heap.size 3 v l.length (l.flatMap cBd)) :
 Calls Try.prog 96 #[v] w fun e w' => e = .returned (.bool (l.all fun x => Ld.between x.1 x.2.1 x.2.2)) ∧ Below w.heap.size w w' := by
 obtain ⟨A, c, rfl⟩ := h.form
 have hm := h.le
 unfold maxLen at hm
 go_enter Try.func96, Try.ntmps96
 go_wp2
 go_loopw [7] (fun i wr => ∃ k : Nat, k ≤ l.length ∧ i = I k ∧ Below w.heap.size w wr ∧ (l.take k).all (fun x => Ld.between x.1 x.2.1 x.2.2) = true) (fun i _ => l.length - (intOf i).toNat)
 case atStart => exact ⟨0, Nat.zero_le _, rfl, Below.refl _ _, rfl⟩
 case round =>
  obtain ⟨k, hk, rfl, hB, hall⟩ := hrel
  have hz := hB.size
  by_cases hlt : k < l.length
  · obtain ⟨bl, off, c', hv, hbl, h0, h1, h2⟩ := (h.below hB (Nat.le_refl _)).at3 hlt
    injection hv with hA _ hc
    subst hA hc
    have e0 : (l.flatMap cBd)[k * 3]? = some (I l[k].1) := by have := flatN 3 cBd (fun _ => rfl) l k 0 hlt (by omega); simpa [cBd] using this
    have e1 : (l.flatMap cBd)[k * 3 + 1]? = some (I l[k].2.1) := by have := flatN 3 cBd (fun _ => rfl) l k 1 hlt (by omega); simpa [cBd] using this
    have e2 : (l.flatMap cBd)[k * 3 + 2]? = some (I l[k].2.2) := by have := flatN 3 cBd (fun _ => rfl) l k 2 hlt (by omega); simpa [cBd] using this
    rw [e0] at h0
    rw [e1] at h1
    rw [e2] at h2
    clear e0 e1 e2
    go_wp2_with fail
    refine (holds_any _ _ _ _).mono ?_
    rintro e w1 ⟨rfl, hB1⟩
    have hb1 : Below w.heap.size w w1 := (hB.alloc hz _).trans (hB1.mono (by simp; omega))
    by_cases hs1 : Ld.between l[k].1 l[k].2.1 l[k].2.2 = true
    · go_wp2_with fail
      go_roundw
      case rel => exact ⟨k + 1, by omega, by go_num, hb1, by rw [List.take_succ_eq_append_getElem hlt, List.all_append, hall]; simp [hs1]⟩
      case measure => simp [intOf]; omega
    · go_wp2_with fail
      go_ret
      exact ⟨ret_b (Eq.symm (all_false hlt (by simp [hs1]))), hb1⟩
  · obtain rfl : k = l.length := by omega
    go_wp2_with fail
    go_ret
    exact ⟨ret_b (by rw [← hall, List.take_length]), hB⟩
end Go.Proofs.Ytjgpghaofhcfnaa
