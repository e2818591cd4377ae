/- Texts on the program that the proof leans on, part 31. -/
import Derived.Test.YtkfahochpnggbaaGreatYbd
set_option linter.unusedVariables false
set_option linter.unusedSimpArgs false

/- Contract of chain's Wrong. -/
namespace Go.Proofs.YtkfahochpnggbaaGreat
open Go.RowKit
attribute [local go_sem] Oper.semAt_some

theorem Fine.without {b : Ch.Bk} (h : Fine b) (no : List Int) : Fine (Ch.without b no) :=
  ⟨h.n4, h.days, h.secs, fun x hx => by
    have := h.svs x (Ch.keptTo_mem (Nat.le_refl _) x hx)
    exact ⟨this.sec0, this.sec1, this.day0, this.day1, this.read0, this.read1, this.err0, this.err1⟩, Nat.le_trans (Ch.keptTo_le _ _ _) h.m8⟩
theorem RM.without {w : World} {B : Nat} {b : Ch.Bk} {M : Value} (h : RM w B b M) (no : List Int) : RM w B (Ch.without b no) M := by
  obtain ⟨r, es, clock, hM, hr, hh, h1, h2⟩ := h
  refine ⟨r, es, clock, hM, hr, hh, fun e he => ?_, h2⟩
  obtain ⟨s, d, hg, hk, hv⟩ := h1 e he
  exact ⟨s, d, hg, hk, by rw [hv, show Ch.lain (Ch.without b no) s d = Ch.lain b s d from funext (Ch.lain_without b no s d)]⟩

/-- Whether without these surveys the book can be true. -/
def Ch.trueWithout (b : Ch.Bk) (no : List Int) : Bool := decide (Ch.truths (Ch.without b no) ≠ [])

set_option maxHeartbeats 1000000 in
theorem wrongF_any (b : Ch.Bk) (hf : Fine b) (S T V M : Value) (lx : Nat) (no : List Int) (v : Value) (w : World) (hx : w.heap[lx]? = some (cLg S T V b.rule b.days M (.slice none 0 0))) (hb : RB w w.heap.size b S T V) (hM : RM w w.heap.size b M) (hv : Sl w w.heap.size 1 v no.length (no.map I)) :
    Calls Tryz.prog 79 #[v, vPtr lx] w fun e w' => e = .returned (.bool (Ch.trueWithout b no)) ∧ Below w.heap.size w w' := by
  obtain ⟨A0, c0, rfl⟩ := hb.secs.form
  obtain ⟨A1, c1, rfl⟩ := hb.turns.form
  obtain ⟨A2, c2, rfl⟩ := hb.svs.form
  obtain ⟨r, es, clock, rfl, hr, hrest⟩ := hM
  have hM : RM w w.heap.size b (.map (some r)) := ⟨r, es, clock, rfl, hr, hrest⟩
  clear hrest hr
  obtain ⟨Av, cv, rfl⟩ := hv.form
  have a0 := cell_of_row w _ 0 _ _ _ hx
  have a1 := cell_of_row w _ 1 _ _ _ hx
  have a2 := cell_of_row w _ 2 _ _ _ hx
  have a3 := cell_of_row w _ 3 _ _ _ hx
  have a4 := cell_of_row w _ 4 _ _ _ hx
  have a5 := cell_of_row w _ 5 _ _ _ hx
  have a6 := cell_of_row w _ 6 _ _ _ hx
  simp only [List.getElem?_toArray, List.getElem?_cons_zero, List.getElem?_cons_succ] at a0 a1 a2 a3 a4 a5 a6
  have HB := Lib.hid hb
  have HM := Lib.hid hM
  have HV := Lib.hid hv
  have HF := Lib.hid hf
  have hm8 := hf.m8
  clear hx hb hM hv hf
  go_enter Tryz.func79, Tryz.ntmps79
  go_wp2_with fail
  refine (without_any b (by omega) _ _ _ _ _ b.rule b.days no _ _ _ _ rfl _ _ _ rfl _ rfl _ _ _ rfl w HB.out.svs HV.out).mono ?_
  rintro e w1 ⟨⟨V', rfl, hV'⟩, hB1⟩
  obtain ⟨AV', cV', rfl⟩ := hV'.form
  clear a0 a1 a2 a3 a4 a5 a6
  have hb1 : RB w1 w1.heap.size (Ch.without b no) (.slice A0 b.secs.length c0) (.slice A1 b.turns.length c1) (.slice AV' (Ch.without b no).svs.length cV') := ⟨(HB.out.secs.below hB1 (Nat.le_refl _)).more hB1.size, (HB.out.turns.below hB1 (Nat.le_refl _)).more hB1.size, hV'⟩
  have HB1 := Lib.hid hB1
  have HRB := Lib.hid hb1
  clear hB1 hb1 hV'
  go_wp2_with fail
  refine (possible_any (Ch.without b no) _ _ _ _ b.rule w1 (HF.out.without no) HRB.out (((HM.out.below HB1.out (Nat.le_refl _)).more HB1.out.size).without no)).mono ?_
  rintro e w2 ⟨rfl, hB2⟩
  go_wp2_with fail
  go_ret
  exact ⟨ret_b (by simp [Ch.trueWithout]), HB1.out.trans (hB2.mono HB1.out.size)⟩

/-- The fewest surveys that must be wrong. -/
def Ch.wrongL (b : Ch.Bk) : List Int := if Ch.valid b = true then (Ch.fewest b.svs.length (Ch.trueWithout b) (b.svs.length + 1)).getD [] else []

set_option maxHeartbeats 1000000 in
theorem Wrong_any (b : Ch.Bk) (S T V : Value) (w : World) (hb : RB w w.heap.size b S T V) :
    Calls Tryz.prog 26 #[vBk S T V b.rule b.days] w fun e w' => (∃ v, e = .returned (.tuple #[v, I (Ch.check b)]) ∧ Sl w' w'.heap.size 1 v (Ch.wrongL b).length ((Ch.wrongL b).map I)) ∧ Below w.heap.size w w' := by
  obtain ⟨A, c, rfl⟩ := hb.secs.form
  obtain ⟨A1, c1, rfl⟩ := hb.turns.form
  obtain ⟨A2, c2, rfl⟩ := hb.svs.form
  have hB0 : Below w.heap.size w (w.alloc (.cells #[.slice A b.secs.length c, .slice A1 b.turns.length c1, .slice A2 b.svs.length c2, I b.rule, I b.days] 26)) := (Below.refl _ _).alloc (Nat.le_refl _) _
  go_enter Tryz.func26, Tryz.ntmps26
  go_wp2_with fail
  refine (check_any b _ _ _ _ ((hb.below hB0 (Nat.le_refl _)).more hB0.size)).mono ?_
  rintro e w1 ⟨rfl, hB1⟩
  have hb1 : Below w.heap.size w w1 := hB0.trans (hB1.mono hB0.size)
  have e0 : w1.heap[w.heap.size]? = some (.cells #[.slice A b.secs.length c, .slice A1 b.turns.length c1, .slice A2 b.svs.length c2, I b.rule, I b.days] 26 (0, 0)) := (hB1.block _ (by simp)).trans (heap_at _ _ rfl)
  have g0 : ∀ j, w1.cell? ⟨w.heap.size, j, none⟩ = #[.slice A b.secs.length c, .slice A1 b.turns.length c1, .slice A2 b.svs.length c2, I b.rule, I b.days][j]? := fun j => cell_of_row w1 _ j _ _ _ e0
  by_cases hv : Ch.valid b = true
  · have hc : Ch.check b = 0 := by simp [Ch.check, hv]
    have hf := fine_of_valid hv
    have hd0 : 0 ≤ b.days := by
      have hv' := hv
      simp only [Ch.valid, Bool.and_eq_true] at hv'
      have := Ch.sized_days hv'.1.1.1.1
      omega
    have HV := Lib.hid hv
    have HC := Lib.hid hc
    rw [hc]
    clear hc hv hB0 hB1 e0
    go_wp2_with fail
    refine (lay_any b _ _ _ w1 ((hb.below hb1 (Nat.le_refl _)).more hb1.size) hf.n4 hd0 hf.days).mono ?_
    rintro e w2 ⟨⟨M, rfl, hM⟩, hB2⟩
    obtain ⟨r, es, clock, rfl, hr, hrest⟩ := hM
    have hM : RM w2 w2.heap.size b (.map (some r)) := ⟨r, es, clock, rfl, hr, hrest⟩
    clear hrest hr
    have hb2 : Below w.heap.size w w2 := hb1.trans (hB2.mono hb1.size)
    have hrb2 := (hb.below hb2 (Nat.le_refl _)).more hb2.size
    have HB2 := Lib.hid hb2
    have HM := Lib.hid hM
    have HRB := Lib.hid hrb2
    have HF := Lib.hid hf
    have hm8 := hf.m8
    clear g0 hB2 hb2 hM hrb2 hf hb1 hb
    go_wp2_with fail
    have hbx : Below w2.heap.size w2 (w2.alloc (cLg (.slice A b.secs.length c) (.slice A1 b.turns.length c1) (.slice A2 b.svs.length c2) b.rule b.days (.map (some r)) (.slice none 0 0))) := (Below.refl _ _).alloc (Nat.le_refl _) _
    refine (fewest_any b.svs.length (by omega) (Ch.trueWithout b) w2.heap.size _ (fun x sl W' hW hsl => ?_)).mono ?_
    · have hbW := hbx.trans (hW.mono hbx.size)
      exact wrongF_any b HF.out _ _ _ _ w2.heap.size x sl W' ((hW.block _ (by simp)).trans (heap_at _ _ rfl)) ((HRB.out.below hbW (Nat.le_refl _)).more hbW.size) ((HM.out.below hbW (Nat.le_refl _)).more hbW.size) hsl
    rintro e w3 ⟨v, rfl, hsl, hB3⟩
    obtain ⟨Av, cv, rfl⟩ := hsl.form
    have HSL := Lib.hid hsl
    have HB3 := Lib.hid (hbx.trans (hB3.mono hbx.size))
    clear hsl hB3 hbx
    go_wp2_with fail
    go_ret2
    exact ⟨⟨_, by rw [HC.out] <;> rfl, by unfold Ch.wrongL; rw [if_pos HV.out]; exact HSL.out⟩, HB2.out.trans (HB3.out.mono HB2.out.size)⟩
  · have hv : Ch.valid b = false := by simpa using hv
    have hc : Ch.check b = 10 := by simp [Ch.check, hv]
    have HV := Lib.hid hv
    have HC := Lib.hid hc
    rw [hc]
    clear hc hv hB0 hB1 e0 g0
    go_wp2_with fail
    go_ret2
    exact ⟨⟨_, by rw [HC.out] <;> rfl, by unfold Ch.wrongL; rw [if_neg (by rw [HV.out]; simp)]; exact sl_nil _ _ _⟩, hb1⟩

end Go.Proofs.YtkfahochpnggbaaGreat
