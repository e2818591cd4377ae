/- Texts on the program that the proof leans on, part 51. -/
import Derived.Test.YtkfahochpnggbaaGreatYbn
import Derived.Test.YtkfahochpnggbaaGreatYbo
import Derived.Test.YtkfahochpnggbaaGreatYbx
set_option linter.unusedVariables false
set_option linter.unusedSimpArgs false

/- Contract of ChainFirst: it returns true, whatever the book and the numbers. -/
namespace Go.Proofs.YtkfahochpnggbaaGreat
open Go.RowKit

/-- What is told, in all cases. -/
theorem first_cases {b : Ch.Bk} (h : Ch.valid b = true) {i d : Nat} (hi : i < b.secs.length) (hd : (d : Int) ≤ b.days) {lo hh x y x' y' : Int} (hT : Ch.thickSp b i d = ⟨lo, hh⟩) (hx : Ch.thinR b i = (x, y)) (hx' : Ch.goneR b i = (x', y')) :
    (Ch.truths b = [] ∧ Ch.studyE b (Ch.isSection b i && Ch.isDay b d) = 12 ∧ Ch.studyE b (Ch.isDay b d) = 12 ∧ x = 0 ∧ y = 12 ∧ x' = 0 ∧ y' = 12 ∧ Ch.cutL b d = []) ∨
    (Ch.truths b ≠ [] ∧ Ch.studyE b (Ch.isSection b i && Ch.isDay b d) = 0 ∧ Ch.studyE b (Ch.isDay b d) = 0 ∧ Ch.climbs (Ch.cutL b d) b.secs.length = true ∧ (0 ≤ Ch.indexOf (Ch.cutL b d) i ↔ lo < b.rule) ∧
      ((lo < b.rule ∧ y = 0 ∧ x ≤ d) ∨ (¬ lo < b.rule ∧ y = 0 ∧ ¬ x ≤ d) ∨ (¬ lo < b.rule ∧ y = 4 ∧ x = 0)) ∧
      ((hh < b.rule ∧ y' = 0 ∧ x' ≤ d) ∨ (¬ hh < b.rule ∧ y' = 0 ∧ ¬ x' ≤ d) ∨ (¬ hh < b.rule ∧ y' = 4 ∧ x' = 0))) := by
  have h0 : Ch.isSection b i = true := by simp [Ch.isSection]; omega
  have h2 : Ch.isDay b d = true := by simp [Ch.isDay]; omega
  have h1 : (Ch.isSection b i && Ch.isDay b d) = true := by rw [h0, h2]; rfl
  by_cases ht : Ch.truths b = []
  · have hE : ∀ p, p = true → Ch.studyE b p = 12 := fun p hp => by simp [Ch.studyE, h, hp, ht]
    rw [Ch.thinR, hE _ h0, if_neg (by omega)] at hx
    rw [Ch.goneR, hE _ h0, if_neg (by omega)] at hx'
    injection hx with e1 e2
    injection hx' with e3 e4
    exact .inl ⟨ht, hE _ h1, hE _ h2, e1.symm, e2.symm, e3.symm, e4.symm, by rw [Ch.cutL, hE _ h2, if_neg (by omega)]⟩
  · obtain ⟨a1, a2, a3, a4, a5, a6⟩ := Ch.told_firsts h ht hi hd hT hx hx'
    refine .inr ⟨ht, Ch.studyE_ok h h1 ht, Ch.studyE_ok h h2 ht, a5, a6, ?_, ?_⟩
    · by_cases hlo : lo < b.rule
      · exact .inl ⟨hlo, a3.1 hlo⟩
      · rcases a1 with hy | hy
        · exact .inr (.inl ⟨hlo, hy, fun hc => hlo (a3.2 ⟨hy, hc⟩)⟩)
        · exact .inr (.inr ⟨hlo, hy⟩)
    · by_cases hlo : hh < b.rule
      · exact .inl ⟨hlo, a4.1 hlo⟩
      · rcases a2 with hy | hy
        · exact .inr (.inl ⟨hlo, hy, fun hc => hlo (a4.2 ⟨hy, hc⟩)⟩)
        · exact .inr (.inr ⟨hlo, hy⟩)

set_option maxRecDepth 100000 in
set_option maxHeartbeats 4000000 in
theorem ChainFirst_any (b : Ch.Bk) (S T V : Value) (n0 n1 : Int) (w : World) (hb : RB w w.heap.size b S T V) :
    Calls Tryz.prog 9 #[vBk S T V b.rule b.days, .agg #[I n0, I n1]] w fun e w' => e = .returned (.bool true) ∧ Below w.heap.size w w' := by
  obtain ⟨A0, k0, rfl⟩ := hb.secs.form
  obtain ⟨A1, k1, rfl⟩ := hb.turns.form
  obtain ⟨A2, k2, rfl⟩ := hb.svs.form
  obtain ⟨o, ho⟩ : ∃ o : Obj, o = .cells #[.slice A0 b.secs.length k0, .slice A1 b.turns.length k1, .slice A2 b.svs.length k2, I b.rule, I b.days] 26 := ⟨_, rfl⟩
  obtain ⟨o2, ho2⟩ : ∃ o : Obj, o = .cells #[I n0, I n1] 27 := ⟨_, rfl⟩
  obtain ⟨W0, hW0⟩ : ∃ W : World, W = (w.alloc o).alloc o2 := ⟨_, rfl⟩
  have hb0 : Below w.heap.size w W0 := by rw [hW0]; exact ((Below.refl _ _).alloc (Nat.le_refl _) _).alloc (by simp) _
  have rB : W0.heap[w.heap.size]? = some o := by rw [hW0]; exact (Below.heap_alloc _ _ _ (by simp)).trans (heap_at _ _ rfl)
  have rN : W0.heap[w.heap.size + 1]? = some o2 := by rw [hW0]; exact heap_at _ _ (by simp)
  have lB : w.heap.size < W0.heap.size := by rw [hW0]; simp; omega
  have lN : w.heap.size + 1 < W0.heap.size := by rw [hW0]; simp
  go_enter Tryz.func9, Tryz.ntmps9
  go_wp2_with fail
  rw [← ho, ← ho2, ← hW0]
  subst ho ho2
  clear hW0
  have hRB := (hb.below hb0 (Nat.le_refl _)).more hb0.size
  refine (sound_any b _ _ _ W0 hRB).mono ?_
  rintro e w1 ⟨rfl, hB1⟩
  replace rB := (hB1.block _ lB).trans rB
  replace lB := Nat.lt_of_lt_of_le lB hB1.size
  replace rN := (hB1.block _ lN).trans rN
  replace lN := Nat.lt_of_lt_of_le lN hB1.size
  have hb1 := hb0.trans (hB1.mono hb0.size)
  clear hRB hb0 hB1
  by_cases hck : Ch.check b = 0
  case neg =>
    rw [decide_eq_false hck]
    clear rB rN lB lN
    go_wp2_with fail
    refine (forged_any _).mono ?_
    rintro e w2 ⟨rfl, hB2⟩
    have HB := Lib.hid (hb1.trans (hB2.mono hb1.size))
    clear hB2 hb1 hck
    go_wp2_with fail
    go_ret
    exact ⟨rfl, HB.out⟩
  rw [decide_eq_true hck]
  have hval : Ch.valid b = true := by
    unfold Ch.check at hck
    split at hck
    · assumption
    · omega
  have hn := Ch.secs_le hval
  have hdy := Ch.days_le hval
  obtain ⟨i, hi⟩ : ∃ i : Nat, (i : Int) = n0 % b.secs.length := ⟨_, Int.toNat_of_nonneg (Int.emod_nonneg _ (by omega))⟩
  obtain ⟨d, hd⟩ : ∃ d : Nat, (d : Int) = n1 % (b.days + 1) := ⟨_, Int.toNat_of_nonneg (Int.emod_nonneg _ (by omega))⟩
  have hi1 : i < b.secs.length := by have := Int.emod_lt_of_pos n0 (show (0 : Int) < b.secs.length by omega); omega
  have hd1 : (d : Int) ≤ b.days := by have := Int.emod_lt_of_pos n1 (show (0 : Int) < b.days + 1 by omega); omega
  have hpr : (Ch.isSection b i && Ch.isDay b d) = true := by simp only [Ch.isSection, Ch.isDay, Bool.and_eq_true, decide_eq_true_eq]; exact ⟨⟨Int.natCast_nonneg _, Int.ofNat_lt.2 hi1⟩, Int.natCast_nonneg _, hd1⟩
  have HRB := Lib.hid (show ∀ W', Below w.heap.size w W' → RB W' W'.heap.size b (.slice A0 b.secs.length k0) (.slice A1 b.turns.length k1) (.slice A2 b.svs.length k2) from fun W' h => (hb.below h (Nat.le_refl _)).more h.size)
  clear hb hck
  have hd1w : IntKind.i64.wrap (b.days + 1) = b.days + 1 := IntWalk.i64_in _ (by omega)
  have HVAL := Lib.hid hval
  have HPR := Lib.hid hpr
  clear hval hpr
  have qB0 := cell_of_row w1 _ 0 _ _ _ rB
  have qB4 := cell_of_row w1 _ 4 _ _ _ rB
  simp only [List.getElem?_toArray, List.getElem?_cons_zero, List.getElem?_cons_succ] at qB0 qB4
  have qN0 := cell_of_row w1 _ 0 _ _ _ rN
  have qN1 := cell_of_row w1 _ 1 _ _ _ rN
  simp only [List.getElem?_toArray, List.getElem?_cons_zero, List.getElem?_cons_succ] at qN0 qN1
  go_wp2_with fail
  go_region_held3 (fun w' => Held w1 w') (first | assumption | exact held_start _ | exact held_step (by assumption) (by assumption) | exact held_step (by assumption) (held_start _) | go_keep)
    (first | (go_at_call 27; refine (mod_any _ _ (by omega) (by omega) _).mono ?_; rintro e w2 ⟨rfl, hB2⟩))
  have hHE : Held w1 w2 := by assumption
  rw [← hi, ← hd]
  obtain ⟨u, hu⟩ : ∃ u : World, u = w2 := ⟨_, rfl⟩
  rw [← hu] at hHE ⊢
  clear hu hB2
  have hBu := hHE.2.2
  replace rB := (hBu.block _ lB).trans rB
  replace lB := Nat.lt_of_lt_of_le lB hBu.size
  have hbu := hb1.trans (hBu.mono hb1.size)
  clear qB0 qB4 qN0 qN1 rN lN hHE hBu hb1 hi hd hd1w
  have qB0 := cell_of_row u _ 0 _ _ _ rB
  have qB1 := cell_of_row u _ 1 _ _ _ rB
  have qB2 := cell_of_row u _ 2 _ _ _ rB
  have qB3 := cell_of_row u _ 3 _ _ _ rB
  have qB4 := cell_of_row u _ 4 _ _ _ rB
  simp only [List.getElem?_toArray, List.getElem?_cons_zero, List.getElem?_cons_succ] at qB0 qB1 qB2 qB3 qB4
  go_wp2_with fail
  clear qB0 qB1 qB2 qB3 qB4
  obtain ⟨⟨lo, hh⟩, hT⟩ : ∃ s : Ch.Sp, Ch.thickSp b i d = s := ⟨_, rfl⟩
  obtain ⟨⟨x, y⟩, hx⟩ : ∃ s : Int × Int, Ch.thinR b i = s := ⟨_, rfl⟩
  obtain ⟨⟨x', y'⟩, hx'⟩ : ∃ s : Int × Int, Ch.goneR b i = s := ⟨_, rfl⟩
  obtain ⟨L, hL⟩ : ∃ L : List Int, Ch.cutL b d = L := ⟨_, rfl⟩
  obtain ⟨E, hE⟩ : ∃ E : Int, Ch.studyE b (Ch.isSection b i && Ch.isDay b d) = E := ⟨_, rfl⟩
  obtain ⟨E4, hE4⟩ : ∃ E : Int, Ch.studyE b (Ch.isDay b d) = E := ⟨_, rfl⟩
  have hcs := first_cases HVAL.out hi1 hd1 hT hx hx'
  have hnext := fun (hne : Ch.truths b ≠ []) (hd2 : (d : Int) + 1 ≤ b.days) lo' hi' => Ch.next_thick (lo' := lo') (hi' := hi') HVAL.out hne hi1 hd2 hT
  have c1 := fun W' h => Thick_any b (.slice A0 b.secs.length k0) (.slice A1 b.turns.length k1) (.slice A2 b.svs.length k2) i d W' (HRB.out W' h)
  have c2 := fun W' h => Thin_any b (.slice A0 b.secs.length k0) (.slice A1 b.turns.length k1) (.slice A2 b.svs.length k2) i W' (HRB.out W' h)
  have c3 := fun W' h => Gone_any b (.slice A0 b.secs.length k0) (.slice A1 b.turns.length k1) (.slice A2 b.svs.length k2) i W' (HRB.out W' h)
  have c4 := fun W' h => Cut_any b (.slice A0 b.secs.length k0) (.slice A1 b.turns.length k1) (.slice A2 b.svs.length k2) d W' (HRB.out W' h)
  simp only [hT, hE] at c1
  simp only [hx] at c2
  simp only [hx'] at c3
  simp only [hL, hE4] at c4
  rw [hE, hE4, hL] at hcs
  have C1 := Lib.hid c1
  have C2 := Lib.hid c2
  have C3 := Lib.hid c3
  have C4 := Lib.hid c4
  have HCS := Lib.hid hcs
  have HNEXT := Lib.hid hnext
  clear c1 c2 c3 c4 hcs hnext hT hx hx' hL hE hE4
  refine (C1.out _ hbu).mono ?_
  rintro e w3 ⟨rfl, hB3⟩
  replace rB := (hB3.block _ lB).trans rB
  replace lB := Nat.lt_of_lt_of_le lB hB3.size
  have hb3 := hbu.trans (hB3.mono hbu.size)
  clear hB3 hbu
  have qB0 := cell_of_row w3 _ 0 _ _ _ rB
  have qB1 := cell_of_row w3 _ 1 _ _ _ rB
  have qB2 := cell_of_row w3 _ 2 _ _ _ rB
  have qB3 := cell_of_row w3 _ 3 _ _ _ rB
  have qB4 := cell_of_row w3 _ 4 _ _ _ rB
  simp only [List.getElem?_toArray, List.getElem?_cons_zero, List.getElem?_cons_succ] at qB0 qB1 qB2 qB3 qB4
  go_wp2_with fail
  clear qB0 qB1 qB2 qB3 qB4
  refine name_calls ?_
  intro W hW
  have hA0 : Below w3.heap.size w3 W := by rw [hW]; exact (Below.refl _ _).alloc (Nat.le_refl _) _
  have rS : W.heap[w3.heap.size]? = some (.cells #[I lo, I hh] 51 (0, 0)) := by rw [hW]; exact heap_at _ _ rfl
  have lS : w3.heap.size < W.heap.size := by rw [hW]; simp
  replace rB := (hA0.block _ lB).trans rB
  replace lB := Nat.lt_of_lt_of_le lB hA0.size
  have hbW := hb3.trans (hA0.mono hb3.size)
  clear hW hA0 hb3
  refine (C2.out _ hbW).mono ?_
  rintro e w4 ⟨rfl, hB4⟩
  replace rB := (hB4.block _ lB).trans rB
  replace lB := Nat.lt_of_lt_of_le lB hB4.size
  replace rS := (hB4.block _ lS).trans rS
  replace lS := Nat.lt_of_lt_of_le lS hB4.size
  have hb4 := hbW.trans (hB4.mono hbW.size)
  clear hB4 hbW
  have qB0 := cell_of_row w4 _ 0 _ _ _ rB
  have qB1 := cell_of_row w4 _ 1 _ _ _ rB
  have qB2 := cell_of_row w4 _ 2 _ _ _ rB
  have qB3 := cell_of_row w4 _ 3 _ _ _ rB
  have qB4 := cell_of_row w4 _ 4 _ _ _ rB
  simp only [List.getElem?_toArray, List.getElem?_cons_zero, List.getElem?_cons_succ] at qB0 qB1 qB2 qB3 qB4
  go_wp2_with fail
  clear qB0 qB1 qB2 qB3 qB4
  refine (C3.out _ hb4).mono ?_
  rintro e w5 ⟨rfl, hB5⟩
  replace rB := (hB5.block _ lB).trans rB
  replace lB := Nat.lt_of_lt_of_le lB hB5.size
  replace rS := (hB5.block _ lS).trans rS
  replace lS := Nat.lt_of_lt_of_le lS hB5.size
  have hb5 := hb4.trans (hB5.mono hb4.size)
  clear hB5 hb4
  have qB0 := cell_of_row w5 _ 0 _ _ _ rB
  have qB1 := cell_of_row w5 _ 1 _ _ _ rB
  have qB2 := cell_of_row w5 _ 2 _ _ _ rB
  have qB3 := cell_of_row w5 _ 3 _ _ _ rB
  have qB4 := cell_of_row w5 _ 4 _ _ _ rB
  simp only [List.getElem?_toArray, List.getElem?_cons_zero, List.getElem?_cons_succ] at qB0 qB1 qB2 qB3 qB4
  go_wp2_with fail
  clear qB0 qB1 qB2 qB3 qB4
  refine (C4.out _ hb5).mono ?_
  rintro e w6 ⟨⟨v, rfl, hsl⟩, hB6⟩
  replace rB := (hB6.block _ lB).trans rB
  replace lB := Nat.lt_of_lt_of_le lB hB6.size
  replace rS := (hB6.block _ lS).trans rS
  replace lS := Nat.lt_of_lt_of_le lS hB6.size
  have hb6 := hb5.trans (hB6.mono hb5.size)
  clear hB6 hb5 C1 C2 C3 C4
  obtain ⟨Av, cv, rfl⟩ := hsl.form
  have HSL := Lib.hid hsl
  have HB6 := Lib.hid hb6
  have RB6 := Lib.hid rB
  have RS6 := Lib.hid rS
  clear hsl hb6 rB rS
  rcases HCS.out with ⟨-, rfl, rfl, rfl, rfl, rfl, rfl, rfl⟩ | ⟨hne, rfl, rfl, hcl, hix, hm, hsr⟩
  · clear HCS HNEXT
    go_wp2_with fail
    refine (forged_any _).mono ?_
    rintro e w7 ⟨rfl, hB7⟩
    have HB7 := Lib.hid (HB6.out.trans (hB7.mono HB6.out.size))
    clear hB7
    go_wp2_with fail
    go_ret
    exact ⟨rfl, HB7.out⟩
  have HNE := Lib.hid hne
  have HCL := Lib.hid hcl
  have HIX := Lib.hid hix
  have HMM := Lib.hid hm
  have HSR := Lib.hid hsr
  clear hne hcl hix hm hsr HCS
  rcases HMM.out with hm | hm | hm <;> rcases HSR.out with hsr | hsr | hsr
  · obtain ⟨m1, m2, m3⟩ := hm
    obtain ⟨s1, s2, s3⟩ := hsr
    subst m2 s2
    have rB := RB6.out
    have rS := RS6.out
    have qB0 := cell_of_row w6 _ 0 _ _ _ rB
    have qB3 := cell_of_row w6 _ 3 _ _ _ rB
    have qB4 := cell_of_row w6 _ 4 _ _ _ rB
    simp only [List.getElem?_toArray, List.getElem?_cons_zero, List.getElem?_cons_succ] at qB0 qB3 qB4
    have qS0 := cell_of_row w6 _ 0 _ _ _ rS
    have qS1 := cell_of_row w6 _ 1 _ _ _ rS
    simp only [List.getElem?_toArray, List.getElem?_cons_zero, List.getElem?_cons_succ] at qS0 qS1
    go_wp2_with fail
    refine (climbs_any L b.secs.length (by omega) _ _ HSL.out).mono ?_
    rintro e w7 ⟨rfl, hB7⟩
    rw [HCL.out]
    clear qB0 qB3 qB4
    clear qS0 qS1
    replace rB := (hB7.block _ lB).trans rB
    replace lB := Nat.lt_of_lt_of_le lB hB7.size
    replace rS := (hB7.block _ lS).trans rS
    replace lS := Nat.lt_of_lt_of_le lS hB7.size
    have hb7 := HB6.out.trans (hB7.mono HB6.out.size)
    have hsl7 := (HSL.out.below hB7 (Nat.le_refl _)).more hB7.size
    have HSL7 := Lib.hid hsl7
    clear hB7 hsl7
    have qB0 := cell_of_row w7 _ 0 _ _ _ rB
    have qB3 := cell_of_row w7 _ 3 _ _ _ rB
    have qB4 := cell_of_row w7 _ 4 _ _ _ rB
    simp only [List.getElem?_toArray, List.getElem?_cons_zero, List.getElem?_cons_succ] at qB0 qB3 qB4
    have qS0 := cell_of_row w7 _ 0 _ _ _ rS
    have qS1 := cell_of_row w7 _ 1 _ _ _ rS
    simp only [List.getElem?_toArray, List.getElem?_cons_zero, List.getElem?_cons_succ] at qS0 qS1
    go_wp2_with fail
    go_region
    go_wp2_with fail
    refine (at_any L i _ w7.drew (HSL7.out.below (Below.refl _ _).drew (Nat.le_refl _))).mono ?_
    rintro e w8 ⟨rfl, hB8⟩
    obtain ⟨q, hq⟩ : ∃ q : Int, Ch.indexOf L i = q := ⟨_, rfl⟩
    have hix := HIX.out
    rw [hq] at hix ⊢
    have hq0 : 0 ≤ q := hix.2 m1
    have HB8 := Lib.hid (show Below w7.heap.size w7 w8 from (Below.refl _ _).drew.trans hB8)
    have hB8 := HB8.out
    clear hq hix
    clear qB0 qB3 qB4
    clear qS0 qS1
    replace rB := (hB8.block _ lB).trans rB
    replace lB := Nat.lt_of_lt_of_le lB hB8.size
    replace rS := (hB8.block _ lS).trans rS
    replace lS := Nat.lt_of_lt_of_le lS hB8.size
    have hb8 := hb7.trans (hB8.mono hb7.size)
    have HB9 := Lib.hid hb8
    clear hb7 hB8 hb8
    have qB0 := cell_of_row w8 _ 0 _ _ _ rB
    have qB1 := cell_of_row w8 _ 1 _ _ _ rB
    have qB2 := cell_of_row w8 _ 2 _ _ _ rB
    have qB3 := cell_of_row w8 _ 3 _ _ _ rB
    have qB4 := cell_of_row w8 _ 4 _ _ _ rB
    simp only [List.getElem?_toArray, List.getElem?_cons_zero, List.getElem?_cons_succ] at qB0 qB1 qB2 qB3 qB4
    have qS0 := cell_of_row w8 _ 0 _ _ _ rS
    have qS1 := cell_of_row w8 _ 1 _ _ _ rS
    simp only [List.getElem?_toArray, List.getElem?_cons_zero, List.getElem?_cons_succ] at qS0 qS1
    by_cases hdd : (d : Int) = b.days
    · clear HNEXT
      go_wp2_with fail
      refine (forged_any _).mono ?_
      rintro e w9 ⟨rfl, hB9⟩
      have HB := Lib.hid (HB9.out.trans (hB9.mono HB9.out.size))
      clear hB9
      go_wp2_with fail
      go_ret
      exact ⟨rfl, HB.out⟩
    · have hd2 : (d : Int) + 1 ≤ b.days := by omega
      have hdw : IntKind.i64.wrap ((d : Int) + 1) = (d : Int) + 1 := IntWalk.i64_in _ (by omega)
      have hE2 : Ch.studyE b (Ch.isSection b i && Ch.isDay b ((d : Int) + 1)) = 0 := Ch.studyE_ok HVAL.out (by simp only [Ch.isSection, Ch.isDay, Bool.and_eq_true, decide_eq_true_eq]; exact ⟨⟨Int.natCast_nonneg _, Int.ofNat_lt.2 hi1⟩, by omega, hd2⟩) HNE.out
      obtain ⟨⟨lo2, hh2⟩, hT2⟩ : ∃ s : Ch.Sp, Ch.thickSp b i ((d : Int) + 1) = s := ⟨_, rfl⟩
      obtain ⟨g1, g2⟩ := HNEXT.out HNE.out hd2 lo2 hh2 hT2
      have c5 := fun W' h => Thick_any b (.slice A0 b.secs.length k0) (.slice A1 b.turns.length k1) (.slice A2 b.svs.length k2) i ((d : Int) + 1) W' (HRB.out W' h)
      simp only [hT2, hE2] at c5
      have C5 := Lib.hid c5
      clear c5 hT2 hE2
      go_wp2_with fail
      refine (C5.out _ HB9.out).mono ?_
      rintro e w9 ⟨rfl, hB9⟩
      clear qB0 qB1 qB2 qB3 qB4
      clear qS0 qS1
      replace rB := (hB9.block _ lB).trans rB
      replace lB := Nat.lt_of_lt_of_le lB hB9.size
      replace rS := (hB9.block _ lS).trans rS
      replace lS := Nat.lt_of_lt_of_le lS hB9.size
      have HB10 := Lib.hid (HB9.out.trans (hB9.mono HB9.out.size))
      clear hB9 C5 HNEXT
      have qS0 := cell_of_row w9 _ 0 _ _ _ rS
      have qS1 := cell_of_row w9 _ 1 _ _ _ rS
      simp only [List.getElem?_toArray, List.getElem?_cons_zero, List.getElem?_cons_succ] at qS0 qS1
      go_wp2_with fail
      refine name_calls ?_
      intro W9 hW9
      have hA9 : Below w9.heap.size w9 W9 := by rw [hW9]; exact (Below.refl _ _).alloc (Nat.le_refl _) _
      clear hW9
      refine (forged_any _).mono ?_
      rintro e w10 ⟨rfl, hB10⟩
      have HB := Lib.hid (HB10.out.trans ((hA9.trans (hB10.mono hA9.size)).mono HB10.out.size))
      clear hB10 hA9
      go_wp2_with fail
      go_ret
      exact ⟨rfl, HB.out⟩
  · obtain ⟨m1, m2, m3⟩ := hm
    obtain ⟨s1, s2, s3⟩ := hsr
    subst m2 s2
    replace s1 : b.rule ≤ hh := by omega
    have ds1 : decide (hh < b.rule) = false := decide_eq_false (by omega)
    have ds3 : decide (x' ≤ (d : Int)) = false := decide_eq_false (by omega)
    replace s3 : (d : Int) < x' := by omega
    have rB := RB6.out
    have rS := RS6.out
    have qB0 := cell_of_row w6 _ 0 _ _ _ rB
    have qB3 := cell_of_row w6 _ 3 _ _ _ rB
    have qB4 := cell_of_row w6 _ 4 _ _ _ rB
    simp only [List.getElem?_toArray, List.getElem?_cons_zero, List.getElem?_cons_succ] at qB0 qB3 qB4
    have qS0 := cell_of_row w6 _ 0 _ _ _ rS
    have qS1 := cell_of_row w6 _ 1 _ _ _ rS
    simp only [List.getElem?_toArray, List.getElem?_cons_zero, List.getElem?_cons_succ] at qS0 qS1
    go_wp2_with fail
    refine (climbs_any L b.secs.length (by omega) _ _ HSL.out).mono ?_
    rintro e w7 ⟨rfl, hB7⟩
    rw [HCL.out]
    clear qB0 qB3 qB4
    clear qS0 qS1
    replace rB := (hB7.block _ lB).trans rB
    replace lB := Nat.lt_of_lt_of_le lB hB7.size
    replace rS := (hB7.block _ lS).trans rS
    replace lS := Nat.lt_of_lt_of_le lS hB7.size
    have hb7 := HB6.out.trans (hB7.mono HB6.out.size)
    have hsl7 := (HSL.out.below hB7 (Nat.le_refl _)).more hB7.size
    have HSL7 := Lib.hid hsl7
    clear hB7 hsl7
    have qB0 := cell_of_row w7 _ 0 _ _ _ rB
    have qB3 := cell_of_row w7 _ 3 _ _ _ rB
    have qB4 := cell_of_row w7 _ 4 _ _ _ rB
    simp only [List.getElem?_toArray, List.getElem?_cons_zero, List.getElem?_cons_succ] at qB0 qB3 qB4
    have qS0 := cell_of_row w7 _ 0 _ _ _ rS
    have qS1 := cell_of_row w7 _ 1 _ _ _ rS
    simp only [List.getElem?_toArray, List.getElem?_cons_zero, List.getElem?_cons_succ] at qS0 qS1
    go_wp2_with fail
    go_region
    go_wp2_with fail
    refine (at_any L i _ w7.drew (HSL7.out.below (Below.refl _ _).drew (Nat.le_refl _))).mono ?_
    rintro e w8 ⟨rfl, hB8⟩
    obtain ⟨q, hq⟩ : ∃ q : Int, Ch.indexOf L i = q := ⟨_, rfl⟩
    have hix := HIX.out
    rw [hq] at hix ⊢
    have hq0 : 0 ≤ q := hix.2 m1
    have HB8 := Lib.hid (show Below w7.heap.size w7 w8 from (Below.refl _ _).drew.trans hB8)
    have hB8 := HB8.out
    clear hq hix
    clear qB0 qB3 qB4
    clear qS0 qS1
    replace rB := (hB8.block _ lB).trans rB
    replace lB := Nat.lt_of_lt_of_le lB hB8.size
    replace rS := (hB8.block _ lS).trans rS
    replace lS := Nat.lt_of_lt_of_le lS hB8.size
    have hb8 := hb7.trans (hB8.mono hb7.size)
    have HB9 := Lib.hid hb8
    clear hb7 hB8 hb8
    have qB0 := cell_of_row w8 _ 0 _ _ _ rB
    have qB1 := cell_of_row w8 _ 1 _ _ _ rB
    have qB2 := cell_of_row w8 _ 2 _ _ _ rB
    have qB3 := cell_of_row w8 _ 3 _ _ _ rB
    have qB4 := cell_of_row w8 _ 4 _ _ _ rB
    simp only [List.getElem?_toArray, List.getElem?_cons_zero, List.getElem?_cons_succ] at qB0 qB1 qB2 qB3 qB4
    have qS0 := cell_of_row w8 _ 0 _ _ _ rS
    have qS1 := cell_of_row w8 _ 1 _ _ _ rS
    simp only [List.getElem?_toArray, List.getElem?_cons_zero, List.getElem?_cons_succ] at qS0 qS1
    by_cases hdd : (d : Int) = b.days
    · clear HNEXT
      go_wp2_with fail
      refine (forged_any _).mono ?_
      rintro e w9 ⟨rfl, hB9⟩
      have HB := Lib.hid (HB9.out.trans (hB9.mono HB9.out.size))
      clear hB9
      go_wp2_with fail
      go_ret
      exact ⟨rfl, HB.out⟩
    · have hd2 : (d : Int) + 1 ≤ b.days := by omega
      have hdw : IntKind.i64.wrap ((d : Int) + 1) = (d : Int) + 1 := IntWalk.i64_in _ (by omega)
      have hE2 : Ch.studyE b (Ch.isSection b i && Ch.isDay b ((d : Int) + 1)) = 0 := Ch.studyE_ok HVAL.out (by simp only [Ch.isSection, Ch.isDay, Bool.and_eq_true, decide_eq_true_eq]; exact ⟨⟨Int.natCast_nonneg _, Int.ofNat_lt.2 hi1⟩, by omega, hd2⟩) HNE.out
      obtain ⟨⟨lo2, hh2⟩, hT2⟩ : ∃ s : Ch.Sp, Ch.thickSp b i ((d : Int) + 1) = s := ⟨_, rfl⟩
      obtain ⟨g1, g2⟩ := HNEXT.out HNE.out hd2 lo2 hh2 hT2
      have c5 := fun W' h => Thick_any b (.slice A0 b.secs.length k0) (.slice A1 b.turns.length k1) (.slice A2 b.svs.length k2) i ((d : Int) + 1) W' (HRB.out W' h)
      simp only [hT2, hE2] at c5
      have C5 := Lib.hid c5
      clear c5 hT2 hE2
      go_wp2_with fail
      refine (C5.out _ HB9.out).mono ?_
      rintro e w9 ⟨rfl, hB9⟩
      clear qB0 qB1 qB2 qB3 qB4
      clear qS0 qS1
      replace rB := (hB9.block _ lB).trans rB
      replace lB := Nat.lt_of_lt_of_le lB hB9.size
      replace rS := (hB9.block _ lS).trans rS
      replace lS := Nat.lt_of_lt_of_le lS hB9.size
      have HB10 := Lib.hid (HB9.out.trans (hB9.mono HB9.out.size))
      clear hB9 C5 HNEXT
      have qS0 := cell_of_row w9 _ 0 _ _ _ rS
      have qS1 := cell_of_row w9 _ 1 _ _ _ rS
      simp only [List.getElem?_toArray, List.getElem?_cons_zero, List.getElem?_cons_succ] at qS0 qS1
      go_wp2_with fail
      refine name_calls ?_
      intro W9 hW9
      have hA9 : Below w9.heap.size w9 W9 := by rw [hW9]; exact (Below.refl _ _).alloc (Nat.le_refl _) _
      clear hW9
      refine (forged_any _).mono ?_
      rintro e w10 ⟨rfl, hB10⟩
      have HB := Lib.hid (HB10.out.trans ((hA9.trans (hB10.mono hA9.size)).mono HB10.out.size))
      clear hB10 hA9
      go_wp2_with fail
      go_ret
      exact ⟨rfl, HB.out⟩
  · obtain ⟨m1, m2, m3⟩ := hm
    obtain ⟨s1, s2, s3⟩ := hsr
    subst m2 s2
    subst s3
    replace s1 : b.rule ≤ hh := by omega
    have ds1 : decide (hh < b.rule) = false := decide_eq_false (by omega)
    have rB := RB6.out
    have rS := RS6.out
    have qB0 := cell_of_row w6 _ 0 _ _ _ rB
    have qB3 := cell_of_row w6 _ 3 _ _ _ rB
    have qB4 := cell_of_row w6 _ 4 _ _ _ rB
    simp only [List.getElem?_toArray, List.getElem?_cons_zero, List.getElem?_cons_succ] at qB0 qB3 qB4
    have qS0 := cell_of_row w6 _ 0 _ _ _ rS
    have qS1 := cell_of_row w6 _ 1 _ _ _ rS
    simp only [List.getElem?_toArray, List.getElem?_cons_zero, List.getElem?_cons_succ] at qS0 qS1
    go_wp2_with fail
    refine (climbs_any L b.secs.length (by omega) _ _ HSL.out).mono ?_
    rintro e w7 ⟨rfl, hB7⟩
    rw [HCL.out]
    clear qB0 qB3 qB4
    clear qS0 qS1
    replace rB := (hB7.block _ lB).trans rB
    replace lB := Nat.lt_of_lt_of_le lB hB7.size
    replace rS := (hB7.block _ lS).trans rS
    replace lS := Nat.lt_of_lt_of_le lS hB7.size
    have hb7 := HB6.out.trans (hB7.mono HB6.out.size)
    have hsl7 := (HSL.out.below hB7 (Nat.le_refl _)).more hB7.size
    have HSL7 := Lib.hid hsl7
    clear hB7 hsl7
    have qB0 := cell_of_row w7 _ 0 _ _ _ rB
    have qB3 := cell_of_row w7 _ 3 _ _ _ rB
    have qB4 := cell_of_row w7 _ 4 _ _ _ rB
    simp only [List.getElem?_toArray, List.getElem?_cons_zero, List.getElem?_cons_succ] at qB0 qB3 qB4
    have qS0 := cell_of_row w7 _ 0 _ _ _ rS
    have qS1 := cell_of_row w7 _ 1 _ _ _ rS
    simp only [List.getElem?_toArray, List.getElem?_cons_zero, List.getElem?_cons_succ] at qS0 qS1
    go_wp2_with fail
    go_region
    go_wp2_with fail
    refine (at_any L i _ w7.drew (HSL7.out.below (Below.refl _ _).drew (Nat.le_refl _))).mono ?_
    rintro e w8 ⟨rfl, hB8⟩
    obtain ⟨q, hq⟩ : ∃ q : Int, Ch.indexOf L i = q := ⟨_, rfl⟩
    have hix := HIX.out
    rw [hq] at hix ⊢
    have hq0 : 0 ≤ q := hix.2 m1
    have HB8 := Lib.hid (show Below w7.heap.size w7 w8 from (Below.refl _ _).drew.trans hB8)
    have hB8 := HB8.out
    clear hq hix
    clear qB0 qB3 qB4
    clear qS0 qS1
    replace rB := (hB8.block _ lB).trans rB
    replace lB := Nat.lt_of_lt_of_le lB hB8.size
    replace rS := (hB8.block _ lS).trans rS
    replace lS := Nat.lt_of_lt_of_le lS hB8.size
    have hb8 := hb7.trans (hB8.mono hb7.size)
    have HB9 := Lib.hid hb8
    clear hb7 hB8 hb8
    have qB0 := cell_of_row w8 _ 0 _ _ _ rB
    have qB1 := cell_of_row w8 _ 1 _ _ _ rB
    have qB2 := cell_of_row w8 _ 2 _ _ _ rB
    have qB3 := cell_of_row w8 _ 3 _ _ _ rB
    have qB4 := cell_of_row w8 _ 4 _ _ _ rB
    simp only [List.getElem?_toArray, List.getElem?_cons_zero, List.getElem?_cons_succ] at qB0 qB1 qB2 qB3 qB4
    have qS0 := cell_of_row w8 _ 0 _ _ _ rS
    have qS1 := cell_of_row w8 _ 1 _ _ _ rS
    simp only [List.getElem?_toArray, List.getElem?_cons_zero, List.getElem?_cons_succ] at qS0 qS1
    by_cases hdd : (d : Int) = b.days
    · clear HNEXT
      go_wp2_with fail
      refine (forged_any _).mono ?_
      rintro e w9 ⟨rfl, hB9⟩
      have HB := Lib.hid (HB9.out.trans (hB9.mono HB9.out.size))
      clear hB9
      go_wp2_with fail
      go_ret
      exact ⟨rfl, HB.out⟩
    · have hd2 : (d : Int) + 1 ≤ b.days := by omega
      have hdw : IntKind.i64.wrap ((d : Int) + 1) = (d : Int) + 1 := IntWalk.i64_in _ (by omega)
      have hE2 : Ch.studyE b (Ch.isSection b i && Ch.isDay b ((d : Int) + 1)) = 0 := Ch.studyE_ok HVAL.out (by simp only [Ch.isSection, Ch.isDay, Bool.and_eq_true, decide_eq_true_eq]; exact ⟨⟨Int.natCast_nonneg _, Int.ofNat_lt.2 hi1⟩, by omega, hd2⟩) HNE.out
      obtain ⟨⟨lo2, hh2⟩, hT2⟩ : ∃ s : Ch.Sp, Ch.thickSp b i ((d : Int) + 1) = s := ⟨_, rfl⟩
      obtain ⟨g1, g2⟩ := HNEXT.out HNE.out hd2 lo2 hh2 hT2
      have c5 := fun W' h => Thick_any b (.slice A0 b.secs.length k0) (.slice A1 b.turns.length k1) (.slice A2 b.svs.length k2) i ((d : Int) + 1) W' (HRB.out W' h)
      simp only [hT2, hE2] at c5
      have C5 := Lib.hid c5
      clear c5 hT2 hE2
      go_wp2_with fail
      refine (C5.out _ HB9.out).mono ?_
      rintro e w9 ⟨rfl, hB9⟩
      clear qB0 qB1 qB2 qB3 qB4
      clear qS0 qS1
      replace rB := (hB9.block _ lB).trans rB
      replace lB := Nat.lt_of_lt_of_le lB hB9.size
      replace rS := (hB9.block _ lS).trans rS
      replace lS := Nat.lt_of_lt_of_le lS hB9.size
      have HB10 := Lib.hid (HB9.out.trans (hB9.mono HB9.out.size))
      clear hB9 C5 HNEXT
      have qS0 := cell_of_row w9 _ 0 _ _ _ rS
      have qS1 := cell_of_row w9 _ 1 _ _ _ rS
      simp only [List.getElem?_toArray, List.getElem?_cons_zero, List.getElem?_cons_succ] at qS0 qS1
      go_wp2_with fail
      refine name_calls ?_
      intro W9 hW9
      have hA9 : Below w9.heap.size w9 W9 := by rw [hW9]; exact (Below.refl _ _).alloc (Nat.le_refl _) _
      clear hW9
      refine (forged_any _).mono ?_
      rintro e w10 ⟨rfl, hB10⟩
      have HB := Lib.hid (HB10.out.trans ((hA9.trans (hB10.mono hA9.size)).mono HB10.out.size))
      clear hB10 hA9
      go_wp2_with fail
      go_ret
      exact ⟨rfl, HB.out⟩
  · obtain ⟨m1, m2, m3⟩ := hm
    obtain ⟨s1, s2, s3⟩ := hsr
    subst m2 s2
    replace m1 : b.rule ≤ lo := by omega
    have dm1 : decide (lo < b.rule) = false := decide_eq_false (by omega)
    have dm3 : decide (x ≤ (d : Int)) = false := decide_eq_false (by omega)
    replace m3 : (d : Int) < x := by omega
    have rB := RB6.out
    have rS := RS6.out
    have qB0 := cell_of_row w6 _ 0 _ _ _ rB
    have qB3 := cell_of_row w6 _ 3 _ _ _ rB
    have qB4 := cell_of_row w6 _ 4 _ _ _ rB
    simp only [List.getElem?_toArray, List.getElem?_cons_zero, List.getElem?_cons_succ] at qB0 qB3 qB4
    have qS0 := cell_of_row w6 _ 0 _ _ _ rS
    have qS1 := cell_of_row w6 _ 1 _ _ _ rS
    simp only [List.getElem?_toArray, List.getElem?_cons_zero, List.getElem?_cons_succ] at qS0 qS1
    go_wp2_with fail
    refine (climbs_any L b.secs.length (by omega) _ _ HSL.out).mono ?_
    rintro e w7 ⟨rfl, hB7⟩
    rw [HCL.out]
    clear qB0 qB3 qB4
    clear qS0 qS1
    replace rB := (hB7.block _ lB).trans rB
    replace lB := Nat.lt_of_lt_of_le lB hB7.size
    replace rS := (hB7.block _ lS).trans rS
    replace lS := Nat.lt_of_lt_of_le lS hB7.size
    have hb7 := HB6.out.trans (hB7.mono HB6.out.size)
    have hsl7 := (HSL.out.below hB7 (Nat.le_refl _)).more hB7.size
    have HSL7 := Lib.hid hsl7
    clear hB7 hsl7
    have qB0 := cell_of_row w7 _ 0 _ _ _ rB
    have qB3 := cell_of_row w7 _ 3 _ _ _ rB
    have qB4 := cell_of_row w7 _ 4 _ _ _ rB
    simp only [List.getElem?_toArray, List.getElem?_cons_zero, List.getElem?_cons_succ] at qB0 qB3 qB4
    have qS0 := cell_of_row w7 _ 0 _ _ _ rS
    have qS1 := cell_of_row w7 _ 1 _ _ _ rS
    simp only [List.getElem?_toArray, List.getElem?_cons_zero, List.getElem?_cons_succ] at qS0 qS1
    go_wp2_with fail
    go_region
    go_wp2_with fail
    refine (at_any L i _ w7.drew (HSL7.out.below (Below.refl _ _).drew (Nat.le_refl _))).mono ?_
    rintro e w8 ⟨rfl, hB8⟩
    obtain ⟨q, hq⟩ : ∃ q : Int, Ch.indexOf L i = q := ⟨_, rfl⟩
    have hix := HIX.out
    rw [hq] at hix ⊢
    have hq0 : q < 0 := by
      by_cases hc : 0 ≤ q
      · have := hix.1 hc; omega
      · omega
    have dq0 : decide (0 ≤ q) = false := decide_eq_false (by omega)
    have HB8 := Lib.hid (show Below w7.heap.size w7 w8 from (Below.refl _ _).drew.trans hB8)
    have hB8 := HB8.out
    clear hq hix
    clear qB0 qB3 qB4
    clear qS0 qS1
    replace rB := (hB8.block _ lB).trans rB
    replace lB := Nat.lt_of_lt_of_le lB hB8.size
    replace rS := (hB8.block _ lS).trans rS
    replace lS := Nat.lt_of_lt_of_le lS hB8.size
    have hb8 := hb7.trans (hB8.mono hb7.size)
    have HB9 := Lib.hid hb8
    clear hb7 hB8 hb8
    have qB0 := cell_of_row w8 _ 0 _ _ _ rB
    have qB1 := cell_of_row w8 _ 1 _ _ _ rB
    have qB2 := cell_of_row w8 _ 2 _ _ _ rB
    have qB3 := cell_of_row w8 _ 3 _ _ _ rB
    have qB4 := cell_of_row w8 _ 4 _ _ _ rB
    simp only [List.getElem?_toArray, List.getElem?_cons_zero, List.getElem?_cons_succ] at qB0 qB1 qB2 qB3 qB4
    have qS0 := cell_of_row w8 _ 0 _ _ _ rS
    have qS1 := cell_of_row w8 _ 1 _ _ _ rS
    simp only [List.getElem?_toArray, List.getElem?_cons_zero, List.getElem?_cons_succ] at qS0 qS1
    by_cases hdd : (d : Int) = b.days
    · clear HNEXT
      go_wp2_with fail
      refine (forged_any _).mono ?_
      rintro e w9 ⟨rfl, hB9⟩
      have HB := Lib.hid (HB9.out.trans (hB9.mono HB9.out.size))
      clear hB9
      go_wp2_with fail
      go_ret
      exact ⟨rfl, HB.out⟩
    · have hd2 : (d : Int) + 1 ≤ b.days := by omega
      have hdw : IntKind.i64.wrap ((d : Int) + 1) = (d : Int) + 1 := IntWalk.i64_in _ (by omega)
      have hE2 : Ch.studyE b (Ch.isSection b i && Ch.isDay b ((d : Int) + 1)) = 0 := Ch.studyE_ok HVAL.out (by simp only [Ch.isSection, Ch.isDay, Bool.and_eq_true, decide_eq_true_eq]; exact ⟨⟨Int.natCast_nonneg _, Int.ofNat_lt.2 hi1⟩, by omega, hd2⟩) HNE.out
      obtain ⟨⟨lo2, hh2⟩, hT2⟩ : ∃ s : Ch.Sp, Ch.thickSp b i ((d : Int) + 1) = s := ⟨_, rfl⟩
      obtain ⟨g1, g2⟩ := HNEXT.out HNE.out hd2 lo2 hh2 hT2
      have c5 := fun W' h => Thick_any b (.slice A0 b.secs.length k0) (.slice A1 b.turns.length k1) (.slice A2 b.svs.length k2) i ((d : Int) + 1) W' (HRB.out W' h)
      simp only [hT2, hE2] at c5
      have C5 := Lib.hid c5
      clear c5 hT2 hE2
      go_wp2_with fail
      refine (C5.out _ HB9.out).mono ?_
      rintro e w9 ⟨rfl, hB9⟩
      clear qB0 qB1 qB2 qB3 qB4
      clear qS0 qS1
      replace rB := (hB9.block _ lB).trans rB
      replace lB := Nat.lt_of_lt_of_le lB hB9.size
      replace rS := (hB9.block _ lS).trans rS
      replace lS := Nat.lt_of_lt_of_le lS hB9.size
      have HB10 := Lib.hid (HB9.out.trans (hB9.mono HB9.out.size))
      clear hB9 C5 HNEXT
      have qS0 := cell_of_row w9 _ 0 _ _ _ rS
      have qS1 := cell_of_row w9 _ 1 _ _ _ rS
      simp only [List.getElem?_toArray, List.getElem?_cons_zero, List.getElem?_cons_succ] at qS0 qS1
      go_wp2_with fail
      refine name_calls ?_
      intro W9 hW9
      have hA9 : Below w9.heap.size w9 W9 := by rw [hW9]; exact (Below.refl _ _).alloc (Nat.le_refl _) _
      clear hW9
      refine (forged_any _).mono ?_
      rintro e w10 ⟨rfl, hB10⟩
      have HB := Lib.hid (HB10.out.trans ((hA9.trans (hB10.mono hA9.size)).mono HB10.out.size))
      clear hB10 hA9
      go_wp2_with fail
      go_ret
      exact ⟨rfl, HB.out⟩
  · obtain ⟨m1, m2, m3⟩ := hm
    obtain ⟨s1, s2, s3⟩ := hsr
    subst m2 s2
    replace m1 : b.rule ≤ lo := by omega
    replace s1 : b.rule ≤ hh := by omega
    have dm1 : decide (lo < b.rule) = false := decide_eq_false (by omega)
    have ds1 : decide (hh < b.rule) = false := decide_eq_false (by omega)
    have dm3 : decide (x ≤ (d : Int)) = false := decide_eq_false (by omega)
    have ds3 : decide (x' ≤ (d : Int)) = false := decide_eq_false (by omega)
    replace m3 : (d : Int) < x := by omega
    replace s3 : (d : Int) < x' := by omega
    have rB := RB6.out
    have rS := RS6.out
    have qB0 := cell_of_row w6 _ 0 _ _ _ rB
    have qB3 := cell_of_row w6 _ 3 _ _ _ rB
    have qB4 := cell_of_row w6 _ 4 _ _ _ rB
    simp only [List.getElem?_toArray, List.getElem?_cons_zero, List.getElem?_cons_succ] at qB0 qB3 qB4
    have qS0 := cell_of_row w6 _ 0 _ _ _ rS
    have qS1 := cell_of_row w6 _ 1 _ _ _ rS
    simp only [List.getElem?_toArray, List.getElem?_cons_zero, List.getElem?_cons_succ] at qS0 qS1
    go_wp2_with fail
    refine (climbs_any L b.secs.length (by omega) _ _ HSL.out).mono ?_
    rintro e w7 ⟨rfl, hB7⟩
    rw [HCL.out]
    clear qB0 qB3 qB4
    clear qS0 qS1
    replace rB := (hB7.block _ lB).trans rB
    replace lB := Nat.lt_of_lt_of_le lB hB7.size
    replace rS := (hB7.block _ lS).trans rS
    replace lS := Nat.lt_of_lt_of_le lS hB7.size
    have hb7 := HB6.out.trans (hB7.mono HB6.out.size)
    have hsl7 := (HSL.out.below hB7 (Nat.le_refl _)).more hB7.size
    have HSL7 := Lib.hid hsl7
    clear hB7 hsl7
    have qB0 := cell_of_row w7 _ 0 _ _ _ rB
    have qB3 := cell_of_row w7 _ 3 _ _ _ rB
    have qB4 := cell_of_row w7 _ 4 _ _ _ rB
    simp only [List.getElem?_toArray, List.getElem?_cons_zero, List.getElem?_cons_succ] at qB0 qB3 qB4
    have qS0 := cell_of_row w7 _ 0 _ _ _ rS
    have qS1 := cell_of_row w7 _ 1 _ _ _ rS
    simp only [List.getElem?_toArray, List.getElem?_cons_zero, List.getElem?_cons_succ] at qS0 qS1
    go_wp2_with fail
    go_region
    go_wp2_with fail
    refine (at_any L i _ w7.drew (HSL7.out.below (Below.refl _ _).drew (Nat.le_refl _))).mono ?_
    rintro e w8 ⟨rfl, hB8⟩
    obtain ⟨q, hq⟩ : ∃ q : Int, Ch.indexOf L i = q := ⟨_, rfl⟩
    have hix := HIX.out
    rw [hq] at hix ⊢
    have hq0 : q < 0 := by
      by_cases hc : 0 ≤ q
      · have := hix.1 hc; omega
      · omega
    have dq0 : decide (0 ≤ q) = false := decide_eq_false (by omega)
    have HB8 := Lib.hid (show Below w7.heap.size w7 w8 from (Below.refl _ _).drew.trans hB8)
    have hB8 := HB8.out
    clear hq hix
    clear qB0 qB3 qB4
    clear qS0 qS1
    replace rB := (hB8.block _ lB).trans rB
    replace lB := Nat.lt_of_lt_of_le lB hB8.size
    replace rS := (hB8.block _ lS).trans rS
    replace lS := Nat.lt_of_lt_of_le lS hB8.size
    have hb8 := hb7.trans (hB8.mono hb7.size)
    have HB9 := Lib.hid hb8
    clear hb7 hB8 hb8
    have qB0 := cell_of_row w8 _ 0 _ _ _ rB
    have qB1 := cell_of_row w8 _ 1 _ _ _ rB
    have qB2 := cell_of_row w8 _ 2 _ _ _ rB
    have qB3 := cell_of_row w8 _ 3 _ _ _ rB
    have qB4 := cell_of_row w8 _ 4 _ _ _ rB
    simp only [List.getElem?_toArray, List.getElem?_cons_zero, List.getElem?_cons_succ] at qB0 qB1 qB2 qB3 qB4
    have qS0 := cell_of_row w8 _ 0 _ _ _ rS
    have qS1 := cell_of_row w8 _ 1 _ _ _ rS
    simp only [List.getElem?_toArray, List.getElem?_cons_zero, List.getElem?_cons_succ] at qS0 qS1
    by_cases hdd : (d : Int) = b.days
    · clear HNEXT
      go_wp2_with fail
      refine (forged_any _).mono ?_
      rintro e w9 ⟨rfl, hB9⟩
      have HB := Lib.hid (HB9.out.trans (hB9.mono HB9.out.size))
      clear hB9
      go_wp2_with fail
      go_ret
      exact ⟨rfl, HB.out⟩
    · have hd2 : (d : Int) + 1 ≤ b.days := by omega
      have hdw : IntKind.i64.wrap ((d : Int) + 1) = (d : Int) + 1 := IntWalk.i64_in _ (by omega)
      have hE2 : Ch.studyE b (Ch.isSection b i && Ch.isDay b ((d : Int) + 1)) = 0 := Ch.studyE_ok HVAL.out (by simp only [Ch.isSection, Ch.isDay, Bool.and_eq_true, decide_eq_true_eq]; exact ⟨⟨Int.natCast_nonneg _, Int.ofNat_lt.2 hi1⟩, by omega, hd2⟩) HNE.out
      obtain ⟨⟨lo2, hh2⟩, hT2⟩ : ∃ s : Ch.Sp, Ch.thickSp b i ((d : Int) + 1) = s := ⟨_, rfl⟩
      obtain ⟨g1, g2⟩ := HNEXT.out HNE.out hd2 lo2 hh2 hT2
      have c5 := fun W' h => Thick_any b (.slice A0 b.secs.length k0) (.slice A1 b.turns.length k1) (.slice A2 b.svs.length k2) i ((d : Int) + 1) W' (HRB.out W' h)
      simp only [hT2, hE2] at c5
      have C5 := Lib.hid c5
      clear c5 hT2 hE2
      go_wp2_with fail
      refine (C5.out _ HB9.out).mono ?_
      rintro e w9 ⟨rfl, hB9⟩
      clear qB0 qB1 qB2 qB3 qB4
      clear qS0 qS1
      replace rB := (hB9.block _ lB).trans rB
      replace lB := Nat.lt_of_lt_of_le lB hB9.size
      replace rS := (hB9.block _ lS).trans rS
      replace lS := Nat.lt_of_lt_of_le lS hB9.size
      have HB10 := Lib.hid (HB9.out.trans (hB9.mono HB9.out.size))
      clear hB9 C5 HNEXT
      have qS0 := cell_of_row w9 _ 0 _ _ _ rS
      have qS1 := cell_of_row w9 _ 1 _ _ _ rS
      simp only [List.getElem?_toArray, List.getElem?_cons_zero, List.getElem?_cons_succ] at qS0 qS1
      go_wp2_with fail
      refine name_calls ?_
      intro W9 hW9
      have hA9 : Below w9.heap.size w9 W9 := by rw [hW9]; exact (Below.refl _ _).alloc (Nat.le_refl _) _
      clear hW9
      refine (forged_any _).mono ?_
      rintro e w10 ⟨rfl, hB10⟩
      have HB := Lib.hid (HB10.out.trans ((hA9.trans (hB10.mono hA9.size)).mono HB10.out.size))
      clear hB10 hA9
      go_wp2_with fail
      go_ret
      exact ⟨rfl, HB.out⟩
  · obtain ⟨m1, m2, m3⟩ := hm
    obtain ⟨s1, s2, s3⟩ := hsr
    subst m2 s2
    subst s3
    replace m1 : b.rule ≤ lo := by omega
    replace s1 : b.rule ≤ hh := by omega
    have dm1 : decide (lo < b.rule) = false := decide_eq_false (by omega)
    have ds1 : decide (hh < b.rule) = false := decide_eq_false (by omega)
    have dm3 : decide (x ≤ (d : Int)) = false := decide_eq_false (by omega)
    replace m3 : (d : Int) < x := by omega
    have rB := RB6.out
    have rS := RS6.out
    have qB0 := cell_of_row w6 _ 0 _ _ _ rB
    have qB3 := cell_of_row w6 _ 3 _ _ _ rB
    have qB4 := cell_of_row w6 _ 4 _ _ _ rB
    simp only [List.getElem?_toArray, List.getElem?_cons_zero, List.getElem?_cons_succ] at qB0 qB3 qB4
    have qS0 := cell_of_row w6 _ 0 _ _ _ rS
    have qS1 := cell_of_row w6 _ 1 _ _ _ rS
    simp only [List.getElem?_toArray, List.getElem?_cons_zero, List.getElem?_cons_succ] at qS0 qS1
    go_wp2_with fail
    refine (climbs_any L b.secs.length (by omega) _ _ HSL.out).mono ?_
    rintro e w7 ⟨rfl, hB7⟩
    rw [HCL.out]
    clear qB0 qB3 qB4
    clear qS0 qS1
    replace rB := (hB7.block _ lB).trans rB
    replace lB := Nat.lt_of_lt_of_le lB hB7.size
    replace rS := (hB7.block _ lS).trans rS
    replace lS := Nat.lt_of_lt_of_le lS hB7.size
    have hb7 := HB6.out.trans (hB7.mono HB6.out.size)
    have hsl7 := (HSL.out.below hB7 (Nat.le_refl _)).more hB7.size
    have HSL7 := Lib.hid hsl7
    clear hB7 hsl7
    have qB0 := cell_of_row w7 _ 0 _ _ _ rB
    have qB3 := cell_of_row w7 _ 3 _ _ _ rB
    have qB4 := cell_of_row w7 _ 4 _ _ _ rB
    simp only [List.getElem?_toArray, List.getElem?_cons_zero, List.getElem?_cons_succ] at qB0 qB3 qB4
    have qS0 := cell_of_row w7 _ 0 _ _ _ rS
    have qS1 := cell_of_row w7 _ 1 _ _ _ rS
    simp only [List.getElem?_toArray, List.getElem?_cons_zero, List.getElem?_cons_succ] at qS0 qS1
    go_wp2_with fail
    go_region
    go_wp2_with fail
    refine (at_any L i _ w7.drew (HSL7.out.below (Below.refl _ _).drew (Nat.le_refl _))).mono ?_
    rintro e w8 ⟨rfl, hB8⟩
    obtain ⟨q, hq⟩ : ∃ q : Int, Ch.indexOf L i = q := ⟨_, rfl⟩
    have hix := HIX.out
    rw [hq] at hix ⊢
    have hq0 : q < 0 := by
      by_cases hc : 0 ≤ q
      · have := hix.1 hc; omega
      · omega
    have dq0 : decide (0 ≤ q) = false := decide_eq_false (by omega)
    have HB8 := Lib.hid (show Below w7.heap.size w7 w8 from (Below.refl _ _).drew.trans hB8)
    have hB8 := HB8.out
    clear hq hix
    clear qB0 qB3 qB4
    clear qS0 qS1
    replace rB := (hB8.block _ lB).trans rB
    replace lB := Nat.lt_of_lt_of_le lB hB8.size
    replace rS := (hB8.block _ lS).trans rS
    replace lS := Nat.lt_of_lt_of_le lS hB8.size
    have hb8 := hb7.trans (hB8.mono hb7.size)
    have HB9 := Lib.hid hb8
    clear hb7 hB8 hb8
    have qB0 := cell_of_row w8 _ 0 _ _ _ rB
    have qB1 := cell_of_row w8 _ 1 _ _ _ rB
    have qB2 := cell_of_row w8 _ 2 _ _ _ rB
    have qB3 := cell_of_row w8 _ 3 _ _ _ rB
    have qB4 := cell_of_row w8 _ 4 _ _ _ rB
    simp only [List.getElem?_toArray, List.getElem?_cons_zero, List.getElem?_cons_succ] at qB0 qB1 qB2 qB3 qB4
    have qS0 := cell_of_row w8 _ 0 _ _ _ rS
    have qS1 := cell_of_row w8 _ 1 _ _ _ rS
    simp only [List.getElem?_toArray, List.getElem?_cons_zero, List.getElem?_cons_succ] at qS0 qS1
    by_cases hdd : (d : Int) = b.days
    · clear HNEXT
      go_wp2_with fail
      refine (forged_any _).mono ?_
      rintro e w9 ⟨rfl, hB9⟩
      have HB := Lib.hid (HB9.out.trans (hB9.mono HB9.out.size))
      clear hB9
      go_wp2_with fail
      go_ret
      exact ⟨rfl, HB.out⟩
    · have hd2 : (d : Int) + 1 ≤ b.days := by omega
      have hdw : IntKind.i64.wrap ((d : Int) + 1) = (d : Int) + 1 := IntWalk.i64_in _ (by omega)
      have hE2 : Ch.studyE b (Ch.isSection b i && Ch.isDay b ((d : Int) + 1)) = 0 := Ch.studyE_ok HVAL.out (by simp only [Ch.isSection, Ch.isDay, Bool.and_eq_true, decide_eq_true_eq]; exact ⟨⟨Int.natCast_nonneg _, Int.ofNat_lt.2 hi1⟩, by omega, hd2⟩) HNE.out
      obtain ⟨⟨lo2, hh2⟩, hT2⟩ : ∃ s : Ch.Sp, Ch.thickSp b i ((d : Int) + 1) = s := ⟨_, rfl⟩
      obtain ⟨g1, g2⟩ := HNEXT.out HNE.out hd2 lo2 hh2 hT2
      have c5 := fun W' h => Thick_any b (.slice A0 b.secs.length k0) (.slice A1 b.turns.length k1) (.slice A2 b.svs.length k2) i ((d : Int) + 1) W' (HRB.out W' h)
      simp only [hT2, hE2] at c5
      have C5 := Lib.hid c5
      clear c5 hT2 hE2
      go_wp2_with fail
      refine (C5.out _ HB9.out).mono ?_
      rintro e w9 ⟨rfl, hB9⟩
      clear qB0 qB1 qB2 qB3 qB4
      clear qS0 qS1
      replace rB := (hB9.block _ lB).trans rB
      replace lB := Nat.lt_of_lt_of_le lB hB9.size
      replace rS := (hB9.block _ lS).trans rS
      replace lS := Nat.lt_of_lt_of_le lS hB9.size
      have HB10 := Lib.hid (HB9.out.trans (hB9.mono HB9.out.size))
      clear hB9 C5 HNEXT
      have qS0 := cell_of_row w9 _ 0 _ _ _ rS
      have qS1 := cell_of_row w9 _ 1 _ _ _ rS
      simp only [List.getElem?_toArray, List.getElem?_cons_zero, List.getElem?_cons_succ] at qS0 qS1
      go_wp2_with fail
      refine name_calls ?_
      intro W9 hW9
      have hA9 : Below w9.heap.size w9 W9 := by rw [hW9]; exact (Below.refl _ _).alloc (Nat.le_refl _) _
      clear hW9
      refine (forged_any _).mono ?_
      rintro e w10 ⟨rfl, hB10⟩
      have HB := Lib.hid (HB10.out.trans ((hA9.trans (hB10.mono hA9.size)).mono HB10.out.size))
      clear hB10 hA9
      go_wp2_with fail
      go_ret
      exact ⟨rfl, HB.out⟩
  · obtain ⟨m1, m2, m3⟩ := hm
    obtain ⟨s1, s2, s3⟩ := hsr
    subst m2 s2
    subst m3
    replace m1 : b.rule ≤ lo := by omega
    have dm1 : decide (lo < b.rule) = false := decide_eq_false (by omega)
    have rB := RB6.out
    have rS := RS6.out
    have qB0 := cell_of_row w6 _ 0 _ _ _ rB
    have qB3 := cell_of_row w6 _ 3 _ _ _ rB
    have qB4 := cell_of_row w6 _ 4 _ _ _ rB
    simp only [List.getElem?_toArray, List.getElem?_cons_zero, List.getElem?_cons_succ] at qB0 qB3 qB4
    have qS0 := cell_of_row w6 _ 0 _ _ _ rS
    have qS1 := cell_of_row w6 _ 1 _ _ _ rS
    simp only [List.getElem?_toArray, List.getElem?_cons_zero, List.getElem?_cons_succ] at qS0 qS1
    go_wp2_with fail
    refine (climbs_any L b.secs.length (by omega) _ _ HSL.out).mono ?_
    rintro e w7 ⟨rfl, hB7⟩
    rw [HCL.out]
    clear qB0 qB3 qB4
    clear qS0 qS1
    replace rB := (hB7.block _ lB).trans rB
    replace lB := Nat.lt_of_lt_of_le lB hB7.size
    replace rS := (hB7.block _ lS).trans rS
    replace lS := Nat.lt_of_lt_of_le lS hB7.size
    have hb7 := HB6.out.trans (hB7.mono HB6.out.size)
    have hsl7 := (HSL.out.below hB7 (Nat.le_refl _)).more hB7.size
    have HSL7 := Lib.hid hsl7
    clear hB7 hsl7
    have qB0 := cell_of_row w7 _ 0 _ _ _ rB
    have qB3 := cell_of_row w7 _ 3 _ _ _ rB
    have qB4 := cell_of_row w7 _ 4 _ _ _ rB
    simp only [List.getElem?_toArray, List.getElem?_cons_zero, List.getElem?_cons_succ] at qB0 qB3 qB4
    have qS0 := cell_of_row w7 _ 0 _ _ _ rS
    have qS1 := cell_of_row w7 _ 1 _ _ _ rS
    simp only [List.getElem?_toArray, List.getElem?_cons_zero, List.getElem?_cons_succ] at qS0 qS1
    go_wp2_with fail
    go_region
    go_wp2_with fail
    refine (at_any L i _ w7.drew (HSL7.out.below (Below.refl _ _).drew (Nat.le_refl _))).mono ?_
    rintro e w8 ⟨rfl, hB8⟩
    obtain ⟨q, hq⟩ : ∃ q : Int, Ch.indexOf L i = q := ⟨_, rfl⟩
    have hix := HIX.out
    rw [hq] at hix ⊢
    have hq0 : q < 0 := by
      by_cases hc : 0 ≤ q
      · have := hix.1 hc; omega
      · omega
    have dq0 : decide (0 ≤ q) = false := decide_eq_false (by omega)
    have HB8 := Lib.hid (show Below w7.heap.size w7 w8 from (Below.refl _ _).drew.trans hB8)
    have hB8 := HB8.out
    clear hq hix
    clear qB0 qB3 qB4
    clear qS0 qS1
    replace rB := (hB8.block _ lB).trans rB
    replace lB := Nat.lt_of_lt_of_le lB hB8.size
    replace rS := (hB8.block _ lS).trans rS
    replace lS := Nat.lt_of_lt_of_le lS hB8.size
    have hb8 := hb7.trans (hB8.mono hb7.size)
    have HB9 := Lib.hid hb8
    clear hb7 hB8 hb8
    have qB0 := cell_of_row w8 _ 0 _ _ _ rB
    have qB1 := cell_of_row w8 _ 1 _ _ _ rB
    have qB2 := cell_of_row w8 _ 2 _ _ _ rB
    have qB3 := cell_of_row w8 _ 3 _ _ _ rB
    have qB4 := cell_of_row w8 _ 4 _ _ _ rB
    simp only [List.getElem?_toArray, List.getElem?_cons_zero, List.getElem?_cons_succ] at qB0 qB1 qB2 qB3 qB4
    have qS0 := cell_of_row w8 _ 0 _ _ _ rS
    have qS1 := cell_of_row w8 _ 1 _ _ _ rS
    simp only [List.getElem?_toArray, List.getElem?_cons_zero, List.getElem?_cons_succ] at qS0 qS1
    by_cases hdd : (d : Int) = b.days
    · clear HNEXT
      go_wp2_with fail
      refine (forged_any _).mono ?_
      rintro e w9 ⟨rfl, hB9⟩
      have HB := Lib.hid (HB9.out.trans (hB9.mono HB9.out.size))
      clear hB9
      go_wp2_with fail
      go_ret
      exact ⟨rfl, HB.out⟩
    · have hd2 : (d : Int) + 1 ≤ b.days := by omega
      have hdw : IntKind.i64.wrap ((d : Int) + 1) = (d : Int) + 1 := IntWalk.i64_in _ (by omega)
      have hE2 : Ch.studyE b (Ch.isSection b i && Ch.isDay b ((d : Int) + 1)) = 0 := Ch.studyE_ok HVAL.out (by simp only [Ch.isSection, Ch.isDay, Bool.and_eq_true, decide_eq_true_eq]; exact ⟨⟨Int.natCast_nonneg _, Int.ofNat_lt.2 hi1⟩, by omega, hd2⟩) HNE.out
      obtain ⟨⟨lo2, hh2⟩, hT2⟩ : ∃ s : Ch.Sp, Ch.thickSp b i ((d : Int) + 1) = s := ⟨_, rfl⟩
      obtain ⟨g1, g2⟩ := HNEXT.out HNE.out hd2 lo2 hh2 hT2
      have c5 := fun W' h => Thick_any b (.slice A0 b.secs.length k0) (.slice A1 b.turns.length k1) (.slice A2 b.svs.length k2) i ((d : Int) + 1) W' (HRB.out W' h)
      simp only [hT2, hE2] at c5
      have C5 := Lib.hid c5
      clear c5 hT2 hE2
      go_wp2_with fail
      refine (C5.out _ HB9.out).mono ?_
      rintro e w9 ⟨rfl, hB9⟩
      clear qB0 qB1 qB2 qB3 qB4
      clear qS0 qS1
      replace rB := (hB9.block _ lB).trans rB
      replace lB := Nat.lt_of_lt_of_le lB hB9.size
      replace rS := (hB9.block _ lS).trans rS
      replace lS := Nat.lt_of_lt_of_le lS hB9.size
      have HB10 := Lib.hid (HB9.out.trans (hB9.mono HB9.out.size))
      clear hB9 C5 HNEXT
      have qS0 := cell_of_row w9 _ 0 _ _ _ rS
      have qS1 := cell_of_row w9 _ 1 _ _ _ rS
      simp only [List.getElem?_toArray, List.getElem?_cons_zero, List.getElem?_cons_succ] at qS0 qS1
      go_wp2_with fail
      refine name_calls ?_
      intro W9 hW9
      have hA9 : Below w9.heap.size w9 W9 := by rw [hW9]; exact (Below.refl _ _).alloc (Nat.le_refl _) _
      clear hW9
      refine (forged_any _).mono ?_
      rintro e w10 ⟨rfl, hB10⟩
      have HB := Lib.hid (HB10.out.trans ((hA9.trans (hB10.mono hA9.size)).mono HB10.out.size))
      clear hB10 hA9
      go_wp2_with fail
      go_ret
      exact ⟨rfl, HB.out⟩
  · obtain ⟨m1, m2, m3⟩ := hm
    obtain ⟨s1, s2, s3⟩ := hsr
    subst m2 s2
    subst m3
    replace m1 : b.rule ≤ lo := by omega
    replace s1 : b.rule ≤ hh := by omega
    have dm1 : decide (lo < b.rule) = false := decide_eq_false (by omega)
    have ds1 : decide (hh < b.rule) = false := decide_eq_false (by omega)
    have ds3 : decide (x' ≤ (d : Int)) = false := decide_eq_false (by omega)
    replace s3 : (d : Int) < x' := by omega
    have rB := RB6.out
    have rS := RS6.out
    have qB0 := cell_of_row w6 _ 0 _ _ _ rB
    have qB3 := cell_of_row w6 _ 3 _ _ _ rB
    have qB4 := cell_of_row w6 _ 4 _ _ _ rB
    simp only [List.getElem?_toArray, List.getElem?_cons_zero, List.getElem?_cons_succ] at qB0 qB3 qB4
    have qS0 := cell_of_row w6 _ 0 _ _ _ rS
    have qS1 := cell_of_row w6 _ 1 _ _ _ rS
    simp only [List.getElem?_toArray, List.getElem?_cons_zero, List.getElem?_cons_succ] at qS0 qS1
    go_wp2_with fail
    refine (climbs_any L b.secs.length (by omega) _ _ HSL.out).mono ?_
    rintro e w7 ⟨rfl, hB7⟩
    rw [HCL.out]
    clear qB0 qB3 qB4
    clear qS0 qS1
    replace rB := (hB7.block _ lB).trans rB
    replace lB := Nat.lt_of_lt_of_le lB hB7.size
    replace rS := (hB7.block _ lS).trans rS
    replace lS := Nat.lt_of_lt_of_le lS hB7.size
    have hb7 := HB6.out.trans (hB7.mono HB6.out.size)
    have hsl7 := (HSL.out.below hB7 (Nat.le_refl _)).more hB7.size
    have HSL7 := Lib.hid hsl7
    clear hB7 hsl7
    have qB0 := cell_of_row w7 _ 0 _ _ _ rB
    have qB3 := cell_of_row w7 _ 3 _ _ _ rB
    have qB4 := cell_of_row w7 _ 4 _ _ _ rB
    simp only [List.getElem?_toArray, List.getElem?_cons_zero, List.getElem?_cons_succ] at qB0 qB3 qB4
    have qS0 := cell_of_row w7 _ 0 _ _ _ rS
    have qS1 := cell_of_row w7 _ 1 _ _ _ rS
    simp only [List.getElem?_toArray, List.getElem?_cons_zero, List.getElem?_cons_succ] at qS0 qS1
    go_wp2_with fail
    go_region
    go_wp2_with fail
    refine (at_any L i _ w7.drew (HSL7.out.below (Below.refl _ _).drew (Nat.le_refl _))).mono ?_
    rintro e w8 ⟨rfl, hB8⟩
    obtain ⟨q, hq⟩ : ∃ q : Int, Ch.indexOf L i = q := ⟨_, rfl⟩
    have hix := HIX.out
    rw [hq] at hix ⊢
    have hq0 : q < 0 := by
      by_cases hc : 0 ≤ q
      · have := hix.1 hc; omega
      · omega
    have dq0 : decide (0 ≤ q) = false := decide_eq_false (by omega)
    have HB8 := Lib.hid (show Below w7.heap.size w7 w8 from (Below.refl _ _).drew.trans hB8)
    have hB8 := HB8.out
    clear hq hix
    clear qB0 qB3 qB4
    clear qS0 qS1
    replace rB := (hB8.block _ lB).trans rB
    replace lB := Nat.lt_of_lt_of_le lB hB8.size
    replace rS := (hB8.block _ lS).trans rS
    replace lS := Nat.lt_of_lt_of_le lS hB8.size
    have hb8 := hb7.trans (hB8.mono hb7.size)
    have HB9 := Lib.hid hb8
    clear hb7 hB8 hb8
    have qB0 := cell_of_row w8 _ 0 _ _ _ rB
    have qB1 := cell_of_row w8 _ 1 _ _ _ rB
    have qB2 := cell_of_row w8 _ 2 _ _ _ rB
    have qB3 := cell_of_row w8 _ 3 _ _ _ rB
    have qB4 := cell_of_row w8 _ 4 _ _ _ rB
    simp only [List.getElem?_toArray, List.getElem?_cons_zero, List.getElem?_cons_succ] at qB0 qB1 qB2 qB3 qB4
    have qS0 := cell_of_row w8 _ 0 _ _ _ rS
    have qS1 := cell_of_row w8 _ 1 _ _ _ rS
    simp only [List.getElem?_toArray, List.getElem?_cons_zero, List.getElem?_cons_succ] at qS0 qS1
    by_cases hdd : (d : Int) = b.days
    · clear HNEXT
      go_wp2_with fail
      refine (forged_any _).mono ?_
      rintro e w9 ⟨rfl, hB9⟩
      have HB := Lib.hid (HB9.out.trans (hB9.mono HB9.out.size))
      clear hB9
      go_wp2_with fail
      go_ret
      exact ⟨rfl, HB.out⟩
    · have hd2 : (d : Int) + 1 ≤ b.days := by omega
      have hdw : IntKind.i64.wrap ((d : Int) + 1) = (d : Int) + 1 := IntWalk.i64_in _ (by omega)
      have hE2 : Ch.studyE b (Ch.isSection b i && Ch.isDay b ((d : Int) + 1)) = 0 := Ch.studyE_ok HVAL.out (by simp only [Ch.isSection, Ch.isDay, Bool.and_eq_true, decide_eq_true_eq]; exact ⟨⟨Int.natCast_nonneg _, Int.ofNat_lt.2 hi1⟩, by omega, hd2⟩) HNE.out
      obtain ⟨⟨lo2, hh2⟩, hT2⟩ : ∃ s : Ch.Sp, Ch.thickSp b i ((d : Int) + 1) = s := ⟨_, rfl⟩
      obtain ⟨g1, g2⟩ := HNEXT.out HNE.out hd2 lo2 hh2 hT2
      have c5 := fun W' h => Thick_any b (.slice A0 b.secs.length k0) (.slice A1 b.turns.length k1) (.slice A2 b.svs.length k2) i ((d : Int) + 1) W' (HRB.out W' h)
      simp only [hT2, hE2] at c5
      have C5 := Lib.hid c5
      clear c5 hT2 hE2
      go_wp2_with fail
      refine (C5.out _ HB9.out).mono ?_
      rintro e w9 ⟨rfl, hB9⟩
      clear qB0 qB1 qB2 qB3 qB4
      clear qS0 qS1
      replace rB := (hB9.block _ lB).trans rB
      replace lB := Nat.lt_of_lt_of_le lB hB9.size
      replace rS := (hB9.block _ lS).trans rS
      replace lS := Nat.lt_of_lt_of_le lS hB9.size
      have HB10 := Lib.hid (HB9.out.trans (hB9.mono HB9.out.size))
      clear hB9 C5 HNEXT
      have qS0 := cell_of_row w9 _ 0 _ _ _ rS
      have qS1 := cell_of_row w9 _ 1 _ _ _ rS
      simp only [List.getElem?_toArray, List.getElem?_cons_zero, List.getElem?_cons_succ] at qS0 qS1
      go_wp2_with fail
      refine name_calls ?_
      intro W9 hW9
      have hA9 : Below w9.heap.size w9 W9 := by rw [hW9]; exact (Below.refl _ _).alloc (Nat.le_refl _) _
      clear hW9
      refine (forged_any _).mono ?_
      rintro e w10 ⟨rfl, hB10⟩
      have HB := Lib.hid (HB10.out.trans ((hA9.trans (hB10.mono hA9.size)).mono HB10.out.size))
      clear hB10 hA9
      go_wp2_with fail
      go_ret
      exact ⟨rfl, HB.out⟩
  · obtain ⟨m1, m2, m3⟩ := hm
    obtain ⟨s1, s2, s3⟩ := hsr
    subst m2 s2
    subst m3
    subst s3
    replace m1 : b.rule ≤ lo := by omega
    replace s1 : b.rule ≤ hh := by omega
    have dm1 : decide (lo < b.rule) = false := decide_eq_false (by omega)
    have ds1 : decide (hh < b.rule) = false := decide_eq_false (by omega)
    have rB := RB6.out
    have rS := RS6.out
    have qB0 := cell_of_row w6 _ 0 _ _ _ rB
    have qB3 := cell_of_row w6 _ 3 _ _ _ rB
    have qB4 := cell_of_row w6 _ 4 _ _ _ rB
    simp only [List.getElem?_toArray, List.getElem?_cons_zero, List.getElem?_cons_succ] at qB0 qB3 qB4
    have qS0 := cell_of_row w6 _ 0 _ _ _ rS
    have qS1 := cell_of_row w6 _ 1 _ _ _ rS
    simp only [List.getElem?_toArray, List.getElem?_cons_zero, List.getElem?_cons_succ] at qS0 qS1
    go_wp2_with fail
    refine (climbs_any L b.secs.length (by omega) _ _ HSL.out).mono ?_
    rintro e w7 ⟨rfl, hB7⟩
    rw [HCL.out]
    clear qB0 qB3 qB4
    clear qS0 qS1
    replace rB := (hB7.block _ lB).trans rB
    replace lB := Nat.lt_of_lt_of_le lB hB7.size
    replace rS := (hB7.block _ lS).trans rS
    replace lS := Nat.lt_of_lt_of_le lS hB7.size
    have hb7 := HB6.out.trans (hB7.mono HB6.out.size)
    have hsl7 := (HSL.out.below hB7 (Nat.le_refl _)).more hB7.size
    have HSL7 := Lib.hid hsl7
    clear hB7 hsl7
    have qB0 := cell_of_row w7 _ 0 _ _ _ rB
    have qB3 := cell_of_row w7 _ 3 _ _ _ rB
    have qB4 := cell_of_row w7 _ 4 _ _ _ rB
    simp only [List.getElem?_toArray, List.getElem?_cons_zero, List.getElem?_cons_succ] at qB0 qB3 qB4
    have qS0 := cell_of_row w7 _ 0 _ _ _ rS
    have qS1 := cell_of_row w7 _ 1 _ _ _ rS
    simp only [List.getElem?_toArray, List.getElem?_cons_zero, List.getElem?_cons_succ] at qS0 qS1
    go_wp2_with fail
    go_region
    go_wp2_with fail
    refine (at_any L i _ w7.drew (HSL7.out.below (Below.refl _ _).drew (Nat.le_refl _))).mono ?_
    rintro e w8 ⟨rfl, hB8⟩
    obtain ⟨q, hq⟩ : ∃ q : Int, Ch.indexOf L i = q := ⟨_, rfl⟩
    have hix := HIX.out
    rw [hq] at hix ⊢
    have hq0 : q < 0 := by
      by_cases hc : 0 ≤ q
      · have := hix.1 hc; omega
      · omega
    have dq0 : decide (0 ≤ q) = false := decide_eq_false (by omega)
    have HB8 := Lib.hid (show Below w7.heap.size w7 w8 from (Below.refl _ _).drew.trans hB8)
    have hB8 := HB8.out
    clear hq hix
    clear qB0 qB3 qB4
    clear qS0 qS1
    replace rB := (hB8.block _ lB).trans rB
    replace lB := Nat.lt_of_lt_of_le lB hB8.size
    replace rS := (hB8.block _ lS).trans rS
    replace lS := Nat.lt_of_lt_of_le lS hB8.size
    have hb8 := hb7.trans (hB8.mono hb7.size)
    have HB9 := Lib.hid hb8
    clear hb7 hB8 hb8
    have qB0 := cell_of_row w8 _ 0 _ _ _ rB
    have qB1 := cell_of_row w8 _ 1 _ _ _ rB
    have qB2 := cell_of_row w8 _ 2 _ _ _ rB
    have qB3 := cell_of_row w8 _ 3 _ _ _ rB
    have qB4 := cell_of_row w8 _ 4 _ _ _ rB
    simp only [List.getElem?_toArray, List.getElem?_cons_zero, List.getElem?_cons_succ] at qB0 qB1 qB2 qB3 qB4
    have qS0 := cell_of_row w8 _ 0 _ _ _ rS
    have qS1 := cell_of_row w8 _ 1 _ _ _ rS
    simp only [List.getElem?_toArray, List.getElem?_cons_zero, List.getElem?_cons_succ] at qS0 qS1
    by_cases hdd : (d : Int) = b.days
    · clear HNEXT
      go_wp2_with fail
      refine (forged_any _).mono ?_
      rintro e w9 ⟨rfl, hB9⟩
      have HB := Lib.hid (HB9.out.trans (hB9.mono HB9.out.size))
      clear hB9
      go_wp2_with fail
      go_ret
      exact ⟨rfl, HB.out⟩
    · have hd2 : (d : Int) + 1 ≤ b.days := by omega
      have hdw : IntKind.i64.wrap ((d : Int) + 1) = (d : Int) + 1 := IntWalk.i64_in _ (by omega)
      have hE2 : Ch.studyE b (Ch.isSection b i && Ch.isDay b ((d : Int) + 1)) = 0 := Ch.studyE_ok HVAL.out (by simp only [Ch.isSection, Ch.isDay, Bool.and_eq_true, decide_eq_true_eq]; exact ⟨⟨Int.natCast_nonneg _, Int.ofNat_lt.2 hi1⟩, by omega, hd2⟩) HNE.out
      obtain ⟨⟨lo2, hh2⟩, hT2⟩ : ∃ s : Ch.Sp, Ch.thickSp b i ((d : Int) + 1) = s := ⟨_, rfl⟩
      obtain ⟨g1, g2⟩ := HNEXT.out HNE.out hd2 lo2 hh2 hT2
      have c5 := fun W' h => Thick_any b (.slice A0 b.secs.length k0) (.slice A1 b.turns.length k1) (.slice A2 b.svs.length k2) i ((d : Int) + 1) W' (HRB.out W' h)
      simp only [hT2, hE2] at c5
      have C5 := Lib.hid c5
      clear c5 hT2 hE2
      go_wp2_with fail
      refine (C5.out _ HB9.out).mono ?_
      rintro e w9 ⟨rfl, hB9⟩
      clear qB0 qB1 qB2 qB3 qB4
      clear qS0 qS1
      replace rB := (hB9.block _ lB).trans rB
      replace lB := Nat.lt_of_lt_of_le lB hB9.size
      replace rS := (hB9.block _ lS).trans rS
      replace lS := Nat.lt_of_lt_of_le lS hB9.size
      have HB10 := Lib.hid (HB9.out.trans (hB9.mono HB9.out.size))
      clear hB9 C5 HNEXT
      have qS0 := cell_of_row w9 _ 0 _ _ _ rS
      have qS1 := cell_of_row w9 _ 1 _ _ _ rS
      simp only [List.getElem?_toArray, List.getElem?_cons_zero, List.getElem?_cons_succ] at qS0 qS1
      go_wp2_with fail
      refine name_calls ?_
      intro W9 hW9
      have hA9 : Below w9.heap.size w9 W9 := by rw [hW9]; exact (Below.refl _ _).alloc (Nat.le_refl _) _
      clear hW9
      refine (forged_any _).mono ?_
      rintro e w10 ⟨rfl, hB10⟩
      have HB := Lib.hid (HB10.out.trans ((hA9.trans (hB10.mono hA9.size)).mono HB10.out.size))
      clear hB10 hA9
      go_wp2_with fail
      go_ret
      exact ⟨rfl, HB.out⟩

end Go.Proofs.YtkfahochpnggbaaGreat
