/- Texts on the program that the proof leans on, part 42. -/
import Derived.Test.YtjgpghaofhcfnaaYbe
import Derived.Test.YtjgpghaofhcfnaaYbc
import Derived.Test.YtjgpghaofhcfnaaYbh
import Derived.Test.YtjgpghaofhcfnaaYbn
import Derived.Test.YtjgpghaofhcfnaaYbo
set_option linter.unusedVariables false
set_option linter.unusedSimpArgs false

/- Contract of LandingWrong: it returns true, whatever the book and the number. -/
namespace Go.Proofs.Ytjgpghaofhcfnaa
open Go.RowKit

theorem rightR_any (b : Ld.Bk) (T D : Value) (w : World) (hb : RB w w.heap.size b T D) :
    Calls Try.prog 17 #[vBk T D b] w fun e w' => e = .returned (.tuple #[.bool (Ld.right b), I (Ld.check b)]) ∧ Below w.heap.size w w' := right_any b T D w hb

set_option maxRecDepth 100000 in
set_option maxHeartbeats 4000000 in
theorem LandingWrong_any (b : Ld.Bk) (T D : Value) (n : Int) (w : World) (hb : RB w w.heap.size b T D) :
    Calls Try.prog 8 #[vBk T D b, I n] w fun e w' => e = .returned (.bool true) ∧ Below w.heap.size w w' := by
  obtain ⟨A0, k0, rfl⟩ := hb.tides.form
  obtain ⟨A2, k2, rfl⟩ := hb.sounds.form
  have HRB := Lib.hid (show ∀ W', Below w.heap.size w W' → RB W' W'.heap.size b (.slice A0 b.tides.length k0) (.slice A2 b.sounds.length k2) from fun W' h => (hb.below h (Nat.le_refl _)).more h.size)
  have FORGE := Lib.hid (show ∀ W', Below w.heap.size w W' → Calls Try.prog 13 #[] W' fun e w' => e = .returned (.bool true) ∧ Below w.heap.size w w' from fun W' h => (moored_any W').mono fun e w' ⟨h1, h2⟩ => ⟨h1, h.trans (h2.mono h.size)⟩)
  clear hb
  go_enter Try.func8, Try.ntmps8
  go_wp2_with fail
  refine name_calls ?_
  intro W0 hW0
  have hb0 : Below w.heap.size w W0 := by rw [hW0]; exact (Below.refl _ _).alloc (Nat.le_refl _) _
  have rB : W0.heap[w.heap.size]? = some (.cells (rBk (.slice A0 b.tides.length k0) (.slice A2 b.sounds.length k2) b) 30 (0, 0)) := by rw [hW0]; exact heap_at _ _ rfl
  have lB : w.heap.size < W0.heap.size := by rw [hW0]; simp
  clear hW0
  refine (Wrong_any b _ _ W0 (HRB.out _ hb0)).mono ?_
  rintro e w1 ⟨⟨v, rfl, hsl⟩, hB1⟩
  replace rB := (hB1.block _ lB).trans rB
  replace lB := Nat.lt_of_lt_of_le lB hB1.size
  have hb1 := hb0.trans (hB1.mono hb0.size)
  clear hB1 hb0
  obtain ⟨wl, hwl⟩ : ∃ l, Ld.wrongL b = l := ⟨_, rfl⟩
  obtain ⟨C, hC⟩ : ∃ C, Ld.check b = C := ⟨_, rfl⟩
  rw [hwl] at hsl
  rw [hC]
  obtain ⟨Aw, kw, rfl⟩ := hsl.form
  have HSL := Lib.hid hsl
  clear hsl
  have qB0 := cell_of_row w1 _ 0 _ _ _ rB
  have qB1 := cell_of_row w1 _ 1 _ _ _ rB
  have qB2 := cell_of_row w1 _ 2 _ _ _ rB
  have qB3 := cell_of_row w1 _ 3 _ _ _ rB
  have qB4 := cell_of_row w1 _ 4 _ _ _ rB
  have qB5 := cell_of_row w1 _ 5 _ _ _ rB
  have qB6 := cell_of_row w1 _ 6 _ _ _ rB
  have qB7 := cell_of_row w1 _ 7 _ _ _ rB
  have qB8 := cell_of_row w1 _ 8 _ _ _ rB
  have qB9 := cell_of_row w1 _ 9 _ _ _ rB
  have qB10 := cell_of_row w1 _ 10 _ _ _ rB
  have qB11 := cell_of_row w1 _ 11 _ _ _ rB
  have qB12 := cell_of_row w1 _ 12 _ _ _ rB
  have qB13 := cell_of_row w1 _ 13 _ _ _ rB
  simp only [List.getElem?_toArray, List.getElem?_cons_zero, List.getElem?_cons_succ] at qB0 qB1 qB2 qB3 qB4 qB5 qB6 qB7 qB8 qB9 qB10 qB11 qB12 qB13
  go_wp2_with fail
  clear qB0 qB1 qB2 qB3 qB4 qB5 qB6 qB7 qB8 qB9 qB10 qB11 qB12 qB13
  refine (sound_any b _ _ w1 (HRB.out _ hb1)).mono ?_
  rintro e w2 ⟨rfl, hB2⟩
  replace rB := (hB2.block _ lB).trans rB
  replace lB := Nat.lt_of_lt_of_le lB hB2.size
  have hb2 := hb1.trans (hB2.mono hb1.size)
  have HSL2 := Lib.hid ((HSL.out.below hB2 (Nat.le_refl _)).more hB2.size)
  clear hB2 hb1 HSL
  rw [hC]
  by_cases hck : C = 0
  case neg =>
    have hv : ¬ Ld.valid b = true := fun h => hck (by rw [← hC, Ld.check, if_pos h])
    have h10 : C = 20 := by rw [← hC, Ld.check, if_neg hv]
    have hnil : wl = [] := by rw [← hwl, Ld.wrongL, if_neg hv]
    subst h10 hnil
    clear rB lB hck hv hC hwl HSL2
    go_wp2_with fail
    refine (FORGE.out _ hb2).mono ?_
    rintro e w3 ⟨rfl, hB3⟩
    have HB := Lib.hid hB3
    clear hB3 hb2
    go_wp2_with fail
    go_ret
    exact ⟨rfl, HB.out⟩
  subst hck
  have hval : Ld.valid b = true := by
    unfold Ld.check at hC
    split at hC
    · assumption
    · omega
  have hs8 := (Ld.sized_bd (Ld.valid_parts hval).1).2.2.2.2.2.2
  obtain ⟨hcl, hiff, hrw, hbet⟩ := Ld.wrong_spec hval hwl
  have hR := Ld.right_without hval
  have hcw : ∀ no, Ld.check (Ld.without b no) = 0 := fun no => by rw [Ld.check, if_pos (Ld.without_valid hval no)]
  have hlw : ∀ no, (Ld.without b no).sounds.length ≤ 6 := fun no => Nat.le_trans (Ld.keptTo_le _ _ _) hs8
  obtain ⟨is, his⟩ : ∃ x : Bool, Ld.right b = x := ⟨_, rfl⟩
  have c1 := fun W' h => rightR_any b (.slice A0 b.tides.length k0) (.slice A2 b.sounds.length k2) W' (HRB.out W' h)
  simp only [his, hC] at c1
  rw [his] at hiff
  have C1 := Lib.hid c1
  have HCL := Lib.hid hcl
  have HIF := Lib.hid hiff
  have HRW := Lib.hid hrw
  have HBET := Lib.hid hbet
  have HCW := Lib.hid hcw
  have HVAL := Lib.hid hval
  clear c1 hcl hiff hrw hbet hcw hval his hC hwl hR hlw
  have qB0 := cell_of_row w2 _ 0 _ _ _ rB
  have qB1 := cell_of_row w2 _ 1 _ _ _ rB
  have qB2 := cell_of_row w2 _ 2 _ _ _ rB
  have qB3 := cell_of_row w2 _ 3 _ _ _ rB
  have qB4 := cell_of_row w2 _ 4 _ _ _ rB
  have qB5 := cell_of_row w2 _ 5 _ _ _ rB
  have qB6 := cell_of_row w2 _ 6 _ _ _ rB
  have qB7 := cell_of_row w2 _ 7 _ _ _ rB
  have qB8 := cell_of_row w2 _ 8 _ _ _ rB
  have qB9 := cell_of_row w2 _ 9 _ _ _ rB
  have qB10 := cell_of_row w2 _ 10 _ _ _ rB
  have qB11 := cell_of_row w2 _ 11 _ _ _ rB
  have qB12 := cell_of_row w2 _ 12 _ _ _ rB
  have qB13 := cell_of_row w2 _ 13 _ _ _ rB
  simp only [List.getElem?_toArray, List.getElem?_cons_zero, List.getElem?_cons_succ] at qB0 qB1 qB2 qB3 qB4 qB5 qB6 qB7 qB8 qB9 qB10 qB11 qB12 qB13
  go_wp2_with fail
  clear qB0 qB1 qB2 qB3 qB4 qB5 qB6 qB7 qB8 qB9 qB10 qB11 qB12 qB13
  refine (C1.out _ hb2).mono ?_
  rintro e w3 ⟨rfl, hB3⟩
  replace rB := (hB3.block _ lB).trans rB
  replace lB := Nat.lt_of_lt_of_le lB hB3.size
  have hb3 := hb2.trans (hB3.mono hb2.size)
  have HSL3 := Lib.hid ((HSL2.out.below hB3 (Nat.le_refl _)).more hB3.size)
  clear hB3 hb2 HSL2
  have qB13 := cell_of_row w3 _ 13 _ _ _ rB
  simp only [List.getElem?_toArray, List.getElem?_cons_zero, List.getElem?_cons_succ] at qB13
  go_wp2_with fail
  clear qB13
  refine (climbs_any wl b.sounds.length (by omega) _ w3 HSL3.out).mono ?_
  rintro e w4 ⟨rfl, hB4⟩
  rw [HCL.out]
  replace rB := (hB4.block _ lB).trans rB
  replace lB := Nat.lt_of_lt_of_le lB hB4.size
  have hb4 := hb3.trans (hB4.mono hb3.size)
  have HSL4 := Lib.hid ((HSL3.out.below hB4 (Nat.le_refl _)).more hB4.size)
  clear hB4 hb3 HSL3
  obtain ⟨G, hG⟩ : ∃ G, Ch.bitOf (n % 2 ^ b.sounds.length) = G := ⟨_, rfl⟩
  have HMEM := Lib.hid (show ∀ W', Calls Try.prog 37 #[I (n % 2 ^ b.sounds.length), I b.sounds.length] W' fun e w' => (∃ v, e = .returned v ∧ Sl w' w'.heap.size 1 v (Ld.someOf G b.sounds.length).length ((Ld.someOf G b.sounds.length).map I)) ∧ Below W'.heap.size W' w' from fun W' => by rw [← hG]; exact members_any _ _ (by omega) W')
  have hpow : (1 : Int) ≤ 2 ^ b.sounds.length ∧ (2 : Int) ^ b.sounds.length ≤ 256 := by
    have h : b.sounds.length = 0 ∨ b.sounds.length = 1 ∨ b.sounds.length = 2 ∨ b.sounds.length = 3 ∨ b.sounds.length = 4 ∨ b.sounds.length = 5 ∨ b.sounds.length = 6 := by omega
    rcases h with h | h | h | h | h | h | h <;> rw [h] <;> decide
  have HMOD := Lib.hid (show ∀ W', Calls Try.prog 16 #[I n, I (2 ^ b.sounds.length)] W' fun e w' => e = .returned (I (n % 2 ^ b.sounds.length)) ∧ Below W'.heap.size W' w' from fun W' => mod_any _ _ (by omega) (by omega) W')
  have hshl : IntKind.i64.wrap (2 ^ b.sounds.length) = 2 ^ b.sounds.length := IntWalk.i64_in _ (by omega)
  have hcase : (is = true ∧ ((wl.length : Int) == 0) = true) ∨ (is = false ∧ ((wl.length : Int) == 0) = false) := by
    cases is
    · right
      refine ⟨rfl, ?_⟩
      have : wl ≠ [] := fun h => by have := HIF.out.1 h; cases this
      have : wl.length ≠ 0 := fun h => this (List.eq_nil_of_length_eq_zero h)
      simp
      omega
    · left
      exact ⟨rfl, by rw [HIF.out.2 rfl]; rfl⟩
  clear HIF hG hpow
  have qB13 := cell_of_row w4 _ 13 _ _ _ rB
  simp only [List.getElem?_toArray, List.getElem?_cons_zero, List.getElem?_cons_succ] at qB13
  obtain ⟨w5, hw5⟩ : ∃ u : World, u = w4 := ⟨_, rfl⟩
  rcases hcase with ⟨rfl, hl0⟩ | ⟨rfl, hl0⟩

  · skip
    go_wp2_with fail
    rw [← hw5] at rB lB qB13 hb4 HSL4 ⊢
    clear hw5 hl0
    refine name_act ?_
    intro A hA
    obtain ⟨R, hR⟩ : ∃ R : Act → World → Prop, R = fun a' w' => ∃ (A3 : Option Addr) (k3 : Nat), (∃ u58 u59 u60 u61 u62 u63 u64 u65 u66 u67, a' = (((((((((((A.put (some 58) u58).put (some 59) u59).put (some 60) u60).put (some 61) u61).put (some 62) u62).put (some 63) u63).put (some 64) u64).put (some 65) u65).put (some 66) u66).put (some 67) u67).put (some 9) (.slice A3 (Ld.someOf G b.sounds.length).length k3))) ∧ Sl w' w'.heap.size 1 (.slice A3 (Ld.someOf G b.sounds.length).length k3) (Ld.someOf G b.sounds.length).length ((Ld.someOf G b.sounds.length).map I) ∧ Held w5 w' := ⟨_, rfl⟩
    have HR := Lib.hid hR
    clear hR
    refine wp_between R ?first ?rest
    case first =>
      subst hA
      refine wp_region_held_drew (S := fun w' => Held w5 w') (by kernel_rfl) (held_start w5) (fun _ => ?_)
      refine wpAnyH_take (i := 0) (oi := { dst := some 58, op := Go.Op.move (Go.Operand.tmp 1), type := 3, pos := "outright.go:275", after := #[], guard := none }) (v := ?v1) rfl (by kernel_rfl) (by kernel_rfl) (by kernel_rfl) (fun _ _ _ h => h) (Or.inl ⟨by rfl, ?hy1⟩) (held_start w5) ?r1
      case hy1 =>
        intro w' hSw
        have hq := hSw.1
        clear hSw
        go_simp
        with_reducible rfl
      try simp only [Act.put, List.setIfInBounds_toArray, List.set_cons_zero, List.set_cons_succ]
      refine wpAnyH_take (i := 1) (oi := { dst := some 59, op := Go.Op.fieldAddr 30 (Go.Operand.tmp 2) 5, type := 0, pos := "outright.go:275", after := #[], guard := none }) (v := ?v2) rfl (by kernel_rfl) (by kernel_rfl) (by kernel_rfl) (fun _ _ _ h => h) (Or.inl ⟨by rfl, ?hy2⟩) (held_start w5) ?r2
      case hy2 =>
        intro w' hSw
        have hq := hSw.1
        clear hSw
        go_simp
        with_reducible rfl
      try simp only [Act.put, List.setIfInBounds_toArray, List.set_cons_zero, List.set_cons_succ]
      refine wpAnyH_take (i := 2) (oi := { dst := some 60, op := Go.Op.load 28 (Go.Operand.tmp 59), type := 28, pos := "outright.go:275", after := #[{ on := 1, ground := Go.Ground.data }], guard := none }) (v := ?v3) rfl (by kernel_rfl) (by kernel_rfl) (by kernel_rfl) (fun _ _ _ h => h) (Or.inl ⟨by rfl, ?hy3⟩) (held_start w5) ?r3
      case hy3 =>
        intro w' hSw
        have hq := hSw.1
        clear hSw
        go_simp
        with_reducible rfl
      try simp only [Act.put, List.setIfInBounds_toArray, List.set_cons_zero, List.set_cons_succ]
      refine wpAnyH_take (i := 3) (oi := { dst := some 61, op := Go.Op.call { callee := Go.Callee.builtin Go.Builtin.len, args := #[Go.Operand.tmp 60], argTypes := #[28] }, type := 3, pos := "outright.go:275", after := #[{ on := 2, ground := Go.Ground.data }], guard := none }) (v := ?v4) rfl (by kernel_rfl) (by kernel_rfl) (by kernel_rfl) (fun _ _ _ h => h) (Or.inl ⟨by rfl, ?hy4⟩) (held_start w5) ?r4
      case hy4 =>
        intro w' hSw
        have hq := hSw.1
        clear hSw
        go_simp
        with_reducible rfl
      try simp only [Act.put, List.setIfInBounds_toArray, List.set_cons_zero, List.set_cons_succ]
      refine wpAnyH_take (i := 4) (oi := { dst := some 62, op := Go.Op.binOp Go.BinOp.shl 3 (Go.Operand.const (Go.Value.int Go.IntKind.i64 1)) (Go.Operand.tmp 61) 3, type := 3, pos := "outright.go:275", after := #[{ on := 3, ground := Go.Ground.data }], guard := none }) (v := ?v5) rfl (by kernel_rfl) (by kernel_rfl) (by kernel_rfl) (fun _ _ _ h => h) (Or.inl ⟨by rfl, ?hy5⟩) (held_start w5) ?r5
      case hy5 =>
        intro w' hSw
        have hq := hSw.1
        clear hSw
        go_simp
        with_reducible rfl
      try simp only [Act.put, List.setIfInBounds_toArray, List.set_cons_zero, List.set_cons_succ]
      refine wpAnyH_take (i := 6) (oi := { dst := some 64, op := Go.Op.fieldAddr 30 (Go.Operand.tmp 2) 5, type := 0, pos := "outright.go:275", after := #[], guard := none }) (v := ?v6) rfl (by kernel_rfl) (by kernel_rfl) (by kernel_rfl) (fun _ _ _ h => h) (Or.inl ⟨by rfl, ?hy6⟩) (held_start w5) ?r6
      case hy6 =>
        intro w' hSw
        have hq := hSw.1
        clear hSw
        go_simp
        with_reducible rfl
      try simp only [Act.put, List.setIfInBounds_toArray, List.set_cons_zero, List.set_cons_succ]
      refine wpAnyH_take (i := 7) (oi := { dst := some 65, op := Go.Op.load 28 (Go.Operand.tmp 64), type := 28, pos := "outright.go:275", after := #[{ on := 6, ground := Go.Ground.data }], guard := none }) (v := ?v7) rfl (by kernel_rfl) (by kernel_rfl) (by kernel_rfl) (fun _ _ _ h => h) (Or.inl ⟨by rfl, ?hy7⟩) (held_start w5) ?r7
      case hy7 =>
        intro w' hSw
        have hq := hSw.1
        clear hSw
        go_simp
        with_reducible rfl
      try simp only [Act.put, List.setIfInBounds_toArray, List.set_cons_zero, List.set_cons_succ]
      refine wpAnyH_take (i := 8) (oi := { dst := some 66, op := Go.Op.call { callee := Go.Callee.builtin Go.Builtin.len, args := #[Go.Operand.tmp 65], argTypes := #[28] }, type := 3, pos := "outright.go:275", after := #[{ on := 7, ground := Go.Ground.data }], guard := none }) (v := ?v8) rfl (by kernel_rfl) (by kernel_rfl) (by kernel_rfl) (fun _ _ _ h => h) (Or.inl ⟨by rfl, ?hy8⟩) (held_start w5) ?r8
      case hy8 =>
        intro w' hSw
        have hq := hSw.1
        clear hSw
        go_simp
        with_reducible rfl
      try simp only [Act.put, List.setIfInBounds_toArray, List.set_cons_zero, List.set_cons_succ]
      refine wpAnyH_ready (rs := [5]) (by kernel_rfl) (by simp) ?_
      refine AllReadyH.cons rfl (fun K hK => ?_) AllReadyH.nil
      go_simp
      refine (HMOD.out _).mono ?_
      rintro e w9 ⟨rfl, hBw9⟩
      have hSw9 := held_step hBw9 (held_start w5)
      refine hK.out _ _ hSw9 (fun _ => ?_)
      clear hK K
      try simp only [Act.put, List.setIfInBounds_toArray, List.set_cons_zero, List.set_cons_succ]
      refine wpAnyH_ready (rs := [9]) (by kernel_rfl) (by simp) ?_
      refine AllReadyH.cons rfl (fun K hK => ?_) AllReadyH.nil
      go_simp
      refine (HMEM.out _).mono ?_
      rintro e w10 ⟨⟨vw10, rfl, hslw10⟩, hBw10⟩
      have hSw10 := held_step hBw10 hSw9
      obtain ⟨Aw10, kw10, rfl⟩ := hslw10.form
      refine hK.out _ _ hSw10 (fun _ => ?_)
      clear hK K
      try simp only [Act.put, List.setIfInBounds_toArray, List.set_cons_zero, List.set_cons_succ]
      refine wpAnyH_take (i := 10) (oi := { dst := some 9, op := Go.Op.assign (Go.Operand.tmp 67), type := 31, pos := "outright.go:275", after := #[{ on := 9, ground := Go.Ground.data }, { on := 9, ground := Go.Ground.chain }, { on := 0, ground := Go.Ground.phase }, { on := 1, ground := Go.Ground.phase }, { on := 2, ground := Go.Ground.phase }, { on := 3, ground := Go.Ground.phase }, { on := 4, ground := Go.Ground.phase }, { on := 5, ground := Go.Ground.phase }, { on := 6, ground := Go.Ground.phase }, { on := 7, ground := Go.Ground.phase }, { on := 8, ground := Go.Ground.phase }, { on := 9, ground := Go.Ground.phase }], guard := none }) (v := ?v11) rfl (by kernel_rfl) (by kernel_rfl) (by kernel_rfl) (fun _ _ _ h => h) (Or.inl ⟨by rfl, ?hy11⟩) hSw10 ?r11
      case hy11 =>
        intro w' hSw
        have hq := hSw.1
        clear hSw
        go_simp
        with_reducible rfl
      try simp only [Act.put, List.setIfInBounds_toArray, List.set_cons_zero, List.set_cons_succ]
      refine wpAnyH_done (by kernel_rfl) ?_ _
      show R _ _
      rw [HR.out]
      simp only [Act.put, List.setIfInBounds_toArray, List.set_cons_zero, List.set_cons_succ]
      exact ⟨Aw10, kw10, ⟨_, _, _, _, _, _, _, _, _, _, rfl⟩, hslw10, hSw10⟩
    case rest =>
      intro a' w6 hra
      rw [HR.out] at hra
      clear HR
      obtain ⟨A3, k3, ⟨u58, u59, u60, u61, u62, u63, u64, u65, u66, u67, rfl⟩, hslO, hHE⟩ := hra
      subst hA
      try simp only [Act.put, List.setIfInBounds_toArray, List.set_cons_zero, List.set_cons_succ]
      have hB6 := hHE.2.2
      replace rB := (hB6.block _ lB).trans rB
      replace lB := Nat.lt_of_lt_of_le lB hB6.size
      have hb6 := hb4.trans (hB6.mono hb4.size)
      have HSL6 := Lib.hid ((HSL4.out.below hB6 (Nat.le_refl _)).more hB6.size)
      have HSO6 := Lib.hid hslO
      clear hHE hB6 hb4 HSL4 hslO qB13 hshl HMOD HMEM
      have qB0 := cell_of_row w6 _ 0 _ _ _ rB
      have qB1 := cell_of_row w6 _ 1 _ _ _ rB
      have qB2 := cell_of_row w6 _ 2 _ _ _ rB
      have qB3 := cell_of_row w6 _ 3 _ _ _ rB
      have qB4 := cell_of_row w6 _ 4 _ _ _ rB
      have qB5 := cell_of_row w6 _ 5 _ _ _ rB
      have qB6 := cell_of_row w6 _ 6 _ _ _ rB
      have qB7 := cell_of_row w6 _ 7 _ _ _ rB
      have qB8 := cell_of_row w6 _ 8 _ _ _ rB
      have qB9 := cell_of_row w6 _ 9 _ _ _ rB
      have qB10 := cell_of_row w6 _ 10 _ _ _ rB
      have qB11 := cell_of_row w6 _ 11 _ _ _ rB
      have qB12 := cell_of_row w6 _ 12 _ _ _ rB
      have qB13 := cell_of_row w6 _ 13 _ _ _ rB
      simp only [List.getElem?_toArray, List.getElem?_cons_zero, List.getElem?_cons_succ] at qB0 qB1 qB2 qB3 qB4 qB5 qB6 qB7 qB8 qB9 qB10 qB11 qB12 qB13
      go_wp2_with fail
      clear qB0 qB1 qB2 qB3 qB4 qB5 qB6 qB7 qB8 qB9 qB10 qB11 qB12 qB13
      refine (withoutBk_any b _ _ _ wl w6 (HRB.out _ hb6) HSL6.out (by omega)).mono ?_
      rintro e w7 ⟨⟨V7, rfl, hV7⟩, hB7⟩
      replace rB := (hB7.block _ lB).trans rB
      replace lB := Nat.lt_of_lt_of_le lB hB7.size
      have hb7 := hb6.trans (hB7.mono hb6.size)
      have HSL7 := Lib.hid ((HSL6.out.below hB7 (Nat.le_refl _)).more hB7.size)
      have HSO7 := Lib.hid ((HSO6.out.below hB7 (Nat.le_refl _)).more hB7.size)
      obtain ⟨A7, k7, rfl⟩ := hV7.form
      have HRB7 := Lib.hid (show RB w7 w7.heap.size (Ld.without b wl) (.slice A0 b.tides.length k0) (.slice A7 (Ld.without b wl).sounds.length k7) from ⟨(HRB.out _ hb7).tides, hV7⟩)
      clear hB7 hb6 hV7 HSL6 HSO6
      have c7 := rightR_any (Ld.without b wl) _ _ w7 HRB7.out
      rw [HRW.out, HCW.out] at c7
      have C7 := Lib.hid c7
      clear c7
      go_wp2_with fail
      refine C7.out.mono ?_
      rintro e w8 ⟨rfl, hB8⟩
      replace rB := (hB8.block _ lB).trans rB
      replace lB := Nat.lt_of_lt_of_le lB hB8.size
      have hb8 := hb7.trans (hB8.mono hb7.size)
      have HSL8 := Lib.hid ((HSL7.out.below hB8 (Nat.le_refl _)).more hB8.size)
      have HSO8 := Lib.hid ((HSO7.out.below hB8 (Nat.le_refl _)).more hB8.size)
      clear hB8 hb7 HSL7 HSO7 C7 HRB7
      have qB0 := cell_of_row w8 _ 0 _ _ _ rB
      have qB1 := cell_of_row w8 _ 1 _ _ _ rB
      have qB2 := cell_of_row w8 _ 2 _ _ _ rB
      have qB3 := cell_of_row w8 _ 3 _ _ _ rB
      have qB4 := cell_of_row w8 _ 4 _ _ _ rB
      have qB5 := cell_of_row w8 _ 5 _ _ _ rB
      have qB6 := cell_of_row w8 _ 6 _ _ _ rB
      have qB7 := cell_of_row w8 _ 7 _ _ _ rB
      have qB8 := cell_of_row w8 _ 8 _ _ _ rB
      have qB9 := cell_of_row w8 _ 9 _ _ _ rB
      have qB10 := cell_of_row w8 _ 10 _ _ _ rB
      have qB11 := cell_of_row w8 _ 11 _ _ _ rB
      have qB12 := cell_of_row w8 _ 12 _ _ _ rB
      have qB13 := cell_of_row w8 _ 13 _ _ _ rB
      simp only [List.getElem?_toArray, List.getElem?_cons_zero, List.getElem?_cons_succ] at qB0 qB1 qB2 qB3 qB4 qB5 qB6 qB7 qB8 qB9 qB10 qB11 qB12 qB13
      go_wp2_with fail
      clear qB0 qB1 qB2 qB3 qB4 qB5 qB6 qB7 qB8 qB9 qB10 qB11 qB12 qB13
      refine (withoutBk_any b _ _ _ (Ld.someOf G b.sounds.length) w8 (HRB.out _ hb8) HSO8.out (by omega)).mono ?_
      rintro e w9 ⟨⟨V9, rfl, hV9⟩, hB9⟩
      have hb9 := hb8.trans (hB9.mono hb8.size)
      have HSL9 := Lib.hid ((HSL8.out.below hB9 (Nat.le_refl _)).more hB9.size)
      have HSO9 := Lib.hid ((HSO8.out.below hB9 (Nat.le_refl _)).more hB9.size)
      obtain ⟨A9, k9, rfl⟩ := hV9.form
      have HRB9 := Lib.hid (show RB w9 w9.heap.size (Ld.without b (Ld.someOf G b.sounds.length)) (.slice A0 b.tides.length k0) (.slice A9 (Ld.without b (Ld.someOf G b.sounds.length)).sounds.length k9) from ⟨(HRB.out _ hb9).tides, hV9⟩)
      clear hB9 hb8 hV9 HSL8 HSO8 rB lB
      obtain ⟨ls, hls⟩ : ∃ x : Bool, Ld.right (Ld.without b (Ld.someOf G b.sounds.length)) = x := ⟨_, rfl⟩
      have c9 := rightR_any (Ld.without b (Ld.someOf G b.sounds.length)) _ _ w9 HRB9.out
      rw [hls, HCW.out] at c9
      have C9 := Lib.hid c9
      have hbt : Ch.better (Ld.someOf G b.sounds.length) wl = true → ls = false := fun h => by rw [← hls]; exact HBET.out _ (Ch.climbs_someOf _ _) h
      have HBT := Lib.hid hbt
      clear c9 hls hbt
      go_wp2_with fail
      refine C9.out.mono ?_
      rintro e w10 ⟨rfl, hB10⟩
      have hb10 := hb9.trans (hB10.mono hb9.size)
      have HSL10 := Lib.hid ((HSL9.out.below hB10 (Nat.le_refl _)).more hB10.size)
      have HSO10 := Lib.hid ((HSO9.out.below hB10 (Nat.le_refl _)).more hB10.size)
      clear hB10 hb9 HSL9 HSO9 C9 HRB9
      go_wp2_with fail
      refine (better_any (Ld.someOf G b.sounds.length) wl _ _ w10 HSO10.out HSL10.out).mono ?_
      rintro e w11 ⟨rfl, hB11⟩
      have HB11 := Lib.hid (hb10.trans (hB11.mono hb10.size))
      clear hB11 hb10
      cases hbb : Ch.better (Ld.someOf G b.sounds.length) wl
      · clear hbb HBT
        go_wp2_with fail
        refine (FORGE.out _ HB11.out).mono ?_
        rintro e w12 ⟨rfl, hB12⟩
        have HB := Lib.hid hB12
        clear hB12
        go_wp2_with fail
        go_ret
        exact ⟨rfl, HB.out⟩
      · have hls := HBT.out hbb
        subst hls
        clear hbb HBT
        go_wp2_with fail
        refine (FORGE.out _ HB11.out).mono ?_
        rintro e w12 ⟨rfl, hB12⟩
        have HB := Lib.hid hB12
        clear hB12
        go_wp2_with fail
        go_ret
        exact ⟨rfl, HB.out⟩
  · skip
    go_wp2_with fail
    rw [← hw5] at rB lB qB13 hb4 HSL4 ⊢
    clear hw5 hl0
    refine name_act ?_
    intro A hA
    obtain ⟨R, hR⟩ : ∃ R : Act → World → Prop, R = fun a' w' => ∃ (A3 : Option Addr) (k3 : Nat), (∃ u58 u59 u60 u61 u62 u63 u64 u65 u66 u67, a' = (((((((((((A.put (some 58) u58).put (some 59) u59).put (some 60) u60).put (some 61) u61).put (some 62) u62).put (some 63) u63).put (some 64) u64).put (some 65) u65).put (some 66) u66).put (some 67) u67).put (some 9) (.slice A3 (Ld.someOf G b.sounds.length).length k3))) ∧ Sl w' w'.heap.size 1 (.slice A3 (Ld.someOf G b.sounds.length).length k3) (Ld.someOf G b.sounds.length).length ((Ld.someOf G b.sounds.length).map I) ∧ Held w5 w' := ⟨_, rfl⟩
    have HR := Lib.hid hR
    clear hR
    refine wp_between R ?firstb ?restb
    case firstb =>
      subst hA
      refine wp_region_held_drew (S := fun w' => Held w5 w') (by kernel_rfl) (held_start w5) (fun _ => ?_)
      refine wpAnyH_take (i := 0) (oi := { dst := some 58, op := Go.Op.move (Go.Operand.tmp 1), type := 3, pos := "outright.go:275", after := #[], guard := none }) (v := ?v12) rfl (by kernel_rfl) (by kernel_rfl) (by kernel_rfl) (fun _ _ _ h => h) (Or.inl ⟨by rfl, ?hy12⟩) (held_start w5) ?r12
      case hy12 =>
        intro w' hSw
        have hq := hSw.1
        clear hSw
        go_simp
        with_reducible rfl
      try simp only [Act.put, List.setIfInBounds_toArray, List.set_cons_zero, List.set_cons_succ]
      refine wpAnyH_take (i := 1) (oi := { dst := some 59, op := Go.Op.fieldAddr 30 (Go.Operand.tmp 2) 5, type := 0, pos := "outright.go:275", after := #[], guard := none }) (v := ?v13) rfl (by kernel_rfl) (by kernel_rfl) (by kernel_rfl) (fun _ _ _ h => h) (Or.inl ⟨by rfl, ?hy13⟩) (held_start w5) ?r13
      case hy13 =>
        intro w' hSw
        have hq := hSw.1
        clear hSw
        go_simp
        with_reducible rfl
      try simp only [Act.put, List.setIfInBounds_toArray, List.set_cons_zero, List.set_cons_succ]
      refine wpAnyH_take (i := 2) (oi := { dst := some 60, op := Go.Op.load 28 (Go.Operand.tmp 59), type := 28, pos := "outright.go:275", after := #[{ on := 1, ground := Go.Ground.data }], guard := none }) (v := ?v14) rfl (by kernel_rfl) (by kernel_rfl) (by kernel_rfl) (fun _ _ _ h => h) (Or.inl ⟨by rfl, ?hy14⟩) (held_start w5) ?r14
      case hy14 =>
        intro w' hSw
        have hq := hSw.1
        clear hSw
        go_simp
        with_reducible rfl
      try simp only [Act.put, List.setIfInBounds_toArray, List.set_cons_zero, List.set_cons_succ]
      refine wpAnyH_take (i := 3) (oi := { dst := some 61, op := Go.Op.call { callee := Go.Callee.builtin Go.Builtin.len, args := #[Go.Operand.tmp 60], argTypes := #[28] }, type := 3, pos := "outright.go:275", after := #[{ on := 2, ground := Go.Ground.data }], guard := none }) (v := ?v15) rfl (by kernel_rfl) (by kernel_rfl) (by kernel_rfl) (fun _ _ _ h => h) (Or.inl ⟨by rfl, ?hy15⟩) (held_start w5) ?r15
      case hy15 =>
        intro w' hSw
        have hq := hSw.1
        clear hSw
        go_simp
        with_reducible rfl
      try simp only [Act.put, List.setIfInBounds_toArray, List.set_cons_zero, List.set_cons_succ]
      refine wpAnyH_take (i := 4) (oi := { dst := some 62, op := Go.Op.binOp Go.BinOp.shl 3 (Go.Operand.const (Go.Value.int Go.IntKind.i64 1)) (Go.Operand.tmp 61) 3, type := 3, pos := "outright.go:275", after := #[{ on := 3, ground := Go.Ground.data }], guard := none }) (v := ?v16) rfl (by kernel_rfl) (by kernel_rfl) (by kernel_rfl) (fun _ _ _ h => h) (Or.inl ⟨by rfl, ?hy16⟩) (held_start w5) ?r16
      case hy16 =>
        intro w' hSw
        have hq := hSw.1
        clear hSw
        go_simp
        with_reducible rfl
      try simp only [Act.put, List.setIfInBounds_toArray, List.set_cons_zero, List.set_cons_succ]
      refine wpAnyH_take (i := 6) (oi := { dst := some 64, op := Go.Op.fieldAddr 30 (Go.Operand.tmp 2) 5, type := 0, pos := "outright.go:275", after := #[], guard := none }) (v := ?v17) rfl (by kernel_rfl) (by kernel_rfl) (by kernel_rfl) (fun _ _ _ h => h) (Or.inl ⟨by rfl, ?hy17⟩) (held_start w5) ?r17
      case hy17 =>
        intro w' hSw
        have hq := hSw.1
        clear hSw
        go_simp
        with_reducible rfl
      try simp only [Act.put, List.setIfInBounds_toArray, List.set_cons_zero, List.set_cons_succ]
      refine wpAnyH_take (i := 7) (oi := { dst := some 65, op := Go.Op.load 28 (Go.Operand.tmp 64), type := 28, pos := "outright.go:275", after := #[{ on := 6, ground := Go.Ground.data }], guard := none }) (v := ?v18) rfl (by kernel_rfl) (by kernel_rfl) (by kernel_rfl) (fun _ _ _ h => h) (Or.inl ⟨by rfl, ?hy18⟩) (held_start w5) ?r18
      case hy18 =>
        intro w' hSw
        have hq := hSw.1
        clear hSw
        go_simp
        with_reducible rfl
      try simp only [Act.put, List.setIfInBounds_toArray, List.set_cons_zero, List.set_cons_succ]
      refine wpAnyH_take (i := 8) (oi := { dst := some 66, op := Go.Op.call { callee := Go.Callee.builtin Go.Builtin.len, args := #[Go.Operand.tmp 65], argTypes := #[28] }, type := 3, pos := "outright.go:275", after := #[{ on := 7, ground := Go.Ground.data }], guard := none }) (v := ?v19) rfl (by kernel_rfl) (by kernel_rfl) (by kernel_rfl) (fun _ _ _ h => h) (Or.inl ⟨by rfl, ?hy19⟩) (held_start w5) ?r19
      case hy19 =>
        intro w' hSw
        have hq := hSw.1
        clear hSw
        go_simp
        with_reducible rfl
      try simp only [Act.put, List.setIfInBounds_toArray, List.set_cons_zero, List.set_cons_succ]
      refine wpAnyH_ready (rs := [5]) (by kernel_rfl) (by simp) ?_
      refine AllReadyH.cons rfl (fun K hK => ?_) AllReadyH.nil
      go_simp
      refine (HMOD.out _).mono ?_
      rintro e w20 ⟨rfl, hBw20⟩
      have hSw20 := held_step hBw20 (held_start w5)
      refine hK.out _ _ hSw20 (fun _ => ?_)
      clear hK K
      try simp only [Act.put, List.setIfInBounds_toArray, List.set_cons_zero, List.set_cons_succ]
      refine wpAnyH_ready (rs := [9]) (by kernel_rfl) (by simp) ?_
      refine AllReadyH.cons rfl (fun K hK => ?_) AllReadyH.nil
      go_simp
      refine (HMEM.out _).mono ?_
      rintro e w21 ⟨⟨vw21, rfl, hslw21⟩, hBw21⟩
      have hSw21 := held_step hBw21 hSw20
      obtain ⟨Aw21, kw21, rfl⟩ := hslw21.form
      refine hK.out _ _ hSw21 (fun _ => ?_)
      clear hK K
      try simp only [Act.put, List.setIfInBounds_toArray, List.set_cons_zero, List.set_cons_succ]
      refine wpAnyH_take (i := 10) (oi := { dst := some 9, op := Go.Op.assign (Go.Operand.tmp 67), type := 31, pos := "outright.go:275", after := #[{ on := 9, ground := Go.Ground.data }, { on := 9, ground := Go.Ground.chain }, { on := 0, ground := Go.Ground.phase }, { on := 1, ground := Go.Ground.phase }, { on := 2, ground := Go.Ground.phase }, { on := 3, ground := Go.Ground.phase }, { on := 4, ground := Go.Ground.phase }, { on := 5, ground := Go.Ground.phase }, { on := 6, ground := Go.Ground.phase }, { on := 7, ground := Go.Ground.phase }, { on := 8, ground := Go.Ground.phase }, { on := 9, ground := Go.Ground.phase }], guard := none }) (v := ?v22) rfl (by kernel_rfl) (by kernel_rfl) (by kernel_rfl) (fun _ _ _ h => h) (Or.inl ⟨by rfl, ?hy22⟩) hSw21 ?r22
      case hy22 =>
        intro w' hSw
        have hq := hSw.1
        clear hSw
        go_simp
        with_reducible rfl
      try simp only [Act.put, List.setIfInBounds_toArray, List.set_cons_zero, List.set_cons_succ]
      refine wpAnyH_done (by kernel_rfl) ?_ _
      show R _ _
      rw [HR.out]
      simp only [Act.put, List.setIfInBounds_toArray, List.set_cons_zero, List.set_cons_succ]
      exact ⟨Aw21, kw21, ⟨_, _, _, _, _, _, _, _, _, _, rfl⟩, hslw21, hSw21⟩
    case restb =>
      intro a' w6 hra
      rw [HR.out] at hra
      clear HR
      obtain ⟨A3, k3, ⟨u58, u59, u60, u61, u62, u63, u64, u65, u66, u67, rfl⟩, hslO, hHE⟩ := hra
      subst hA
      try simp only [Act.put, List.setIfInBounds_toArray, List.set_cons_zero, List.set_cons_succ]
      have hB6 := hHE.2.2
      replace rB := (hB6.block _ lB).trans rB
      replace lB := Nat.lt_of_lt_of_le lB hB6.size
      have hb6 := hb4.trans (hB6.mono hb4.size)
      have HSL6 := Lib.hid ((HSL4.out.below hB6 (Nat.le_refl _)).more hB6.size)
      have HSO6 := Lib.hid hslO
      clear hHE hB6 hb4 HSL4 hslO qB13 hshl HMOD HMEM
      have qB0 := cell_of_row w6 _ 0 _ _ _ rB
      have qB1 := cell_of_row w6 _ 1 _ _ _ rB
      have qB2 := cell_of_row w6 _ 2 _ _ _ rB
      have qB3 := cell_of_row w6 _ 3 _ _ _ rB
      have qB4 := cell_of_row w6 _ 4 _ _ _ rB
      have qB5 := cell_of_row w6 _ 5 _ _ _ rB
      have qB6 := cell_of_row w6 _ 6 _ _ _ rB
      have qB7 := cell_of_row w6 _ 7 _ _ _ rB
      have qB8 := cell_of_row w6 _ 8 _ _ _ rB
      have qB9 := cell_of_row w6 _ 9 _ _ _ rB
      have qB10 := cell_of_row w6 _ 10 _ _ _ rB
      have qB11 := cell_of_row w6 _ 11 _ _ _ rB
      have qB12 := cell_of_row w6 _ 12 _ _ _ rB
      have qB13 := cell_of_row w6 _ 13 _ _ _ rB
      simp only [List.getElem?_toArray, List.getElem?_cons_zero, List.getElem?_cons_succ] at qB0 qB1 qB2 qB3 qB4 qB5 qB6 qB7 qB8 qB9 qB10 qB11 qB12 qB13
      go_wp2_with fail
      clear qB0 qB1 qB2 qB3 qB4 qB5 qB6 qB7 qB8 qB9 qB10 qB11 qB12 qB13
      refine (withoutBk_any b _ _ _ wl w6 (HRB.out _ hb6) HSL6.out (by omega)).mono ?_
      rintro e w7 ⟨⟨V7, rfl, hV7⟩, hB7⟩
      replace rB := (hB7.block _ lB).trans rB
      replace lB := Nat.lt_of_lt_of_le lB hB7.size
      have hb7 := hb6.trans (hB7.mono hb6.size)
      have HSL7 := Lib.hid ((HSL6.out.below hB7 (Nat.le_refl _)).more hB7.size)
      have HSO7 := Lib.hid ((HSO6.out.below hB7 (Nat.le_refl _)).more hB7.size)
      obtain ⟨A7, k7, rfl⟩ := hV7.form
      have HRB7 := Lib.hid (show RB w7 w7.heap.size (Ld.without b wl) (.slice A0 b.tides.length k0) (.slice A7 (Ld.without b wl).sounds.length k7) from ⟨(HRB.out _ hb7).tides, hV7⟩)
      clear hB7 hb6 hV7 HSL6 HSO6
      have c7 := rightR_any (Ld.without b wl) _ _ w7 HRB7.out
      rw [HRW.out, HCW.out] at c7
      have C7 := Lib.hid c7
      clear c7
      go_wp2_with fail
      refine C7.out.mono ?_
      rintro e w8 ⟨rfl, hB8⟩
      replace rB := (hB8.block _ lB).trans rB
      replace lB := Nat.lt_of_lt_of_le lB hB8.size
      have hb8 := hb7.trans (hB8.mono hb7.size)
      have HSL8 := Lib.hid ((HSL7.out.below hB8 (Nat.le_refl _)).more hB8.size)
      have HSO8 := Lib.hid ((HSO7.out.below hB8 (Nat.le_refl _)).more hB8.size)
      clear hB8 hb7 HSL7 HSO7 C7 HRB7
      have qB0 := cell_of_row w8 _ 0 _ _ _ rB
      have qB1 := cell_of_row w8 _ 1 _ _ _ rB
      have qB2 := cell_of_row w8 _ 2 _ _ _ rB
      have qB3 := cell_of_row w8 _ 3 _ _ _ rB
      have qB4 := cell_of_row w8 _ 4 _ _ _ rB
      have qB5 := cell_of_row w8 _ 5 _ _ _ rB
      have qB6 := cell_of_row w8 _ 6 _ _ _ rB
      have qB7 := cell_of_row w8 _ 7 _ _ _ rB
      have qB8 := cell_of_row w8 _ 8 _ _ _ rB
      have qB9 := cell_of_row w8 _ 9 _ _ _ rB
      have qB10 := cell_of_row w8 _ 10 _ _ _ rB
      have qB11 := cell_of_row w8 _ 11 _ _ _ rB
      have qB12 := cell_of_row w8 _ 12 _ _ _ rB
      have qB13 := cell_of_row w8 _ 13 _ _ _ rB
      simp only [List.getElem?_toArray, List.getElem?_cons_zero, List.getElem?_cons_succ] at qB0 qB1 qB2 qB3 qB4 qB5 qB6 qB7 qB8 qB9 qB10 qB11 qB12 qB13
      go_wp2_with fail
      clear qB0 qB1 qB2 qB3 qB4 qB5 qB6 qB7 qB8 qB9 qB10 qB11 qB12 qB13
      refine (withoutBk_any b _ _ _ (Ld.someOf G b.sounds.length) w8 (HRB.out _ hb8) HSO8.out (by omega)).mono ?_
      rintro e w9 ⟨⟨V9, rfl, hV9⟩, hB9⟩
      have hb9 := hb8.trans (hB9.mono hb8.size)
      have HSL9 := Lib.hid ((HSL8.out.below hB9 (Nat.le_refl _)).more hB9.size)
      have HSO9 := Lib.hid ((HSO8.out.below hB9 (Nat.le_refl _)).more hB9.size)
      obtain ⟨A9, k9, rfl⟩ := hV9.form
      have HRB9 := Lib.hid (show RB w9 w9.heap.size (Ld.without b (Ld.someOf G b.sounds.length)) (.slice A0 b.tides.length k0) (.slice A9 (Ld.without b (Ld.someOf G b.sounds.length)).sounds.length k9) from ⟨(HRB.out _ hb9).tides, hV9⟩)
      clear hB9 hb8 hV9 HSL8 HSO8 rB lB
      obtain ⟨ls, hls⟩ : ∃ x : Bool, Ld.right (Ld.without b (Ld.someOf G b.sounds.length)) = x := ⟨_, rfl⟩
      have c9 := rightR_any (Ld.without b (Ld.someOf G b.sounds.length)) _ _ w9 HRB9.out
      rw [hls, HCW.out] at c9
      have C9 := Lib.hid c9
      have hbt : Ch.better (Ld.someOf G b.sounds.length) wl = true → ls = false := fun h => by rw [← hls]; exact HBET.out _ (Ch.climbs_someOf _ _) h
      have HBT := Lib.hid hbt
      clear c9 hls hbt
      go_wp2_with fail
      refine C9.out.mono ?_
      rintro e w10 ⟨rfl, hB10⟩
      have hb10 := hb9.trans (hB10.mono hb9.size)
      have HSL10 := Lib.hid ((HSL9.out.below hB10 (Nat.le_refl _)).more hB10.size)
      have HSO10 := Lib.hid ((HSO9.out.below hB10 (Nat.le_refl _)).more hB10.size)
      clear hB10 hb9 HSL9 HSO9 C9 HRB9
      go_wp2_with fail
      refine (better_any (Ld.someOf G b.sounds.length) wl _ _ w10 HSO10.out HSL10.out).mono ?_
      rintro e w11 ⟨rfl, hB11⟩
      have HB11 := Lib.hid (hb10.trans (hB11.mono hb10.size))
      clear hB11 hb10
      cases hbb : Ch.better (Ld.someOf G b.sounds.length) wl
      · clear hbb HBT
        go_wp2_with fail
        refine (FORGE.out _ HB11.out).mono ?_
        rintro e w12 ⟨rfl, hB12⟩
        have HB := Lib.hid hB12
        clear hB12
        go_wp2_with fail
        go_ret
        exact ⟨rfl, HB.out⟩
      · have hls := HBT.out hbb
        subst hls
        clear hbb HBT
        go_wp2_with fail
        refine (FORGE.out _ HB11.out).mono ?_
        rintro e w12 ⟨rfl, hB12⟩
        have HB := Lib.hid hB12
        clear hB12
        go_wp2_with fail
        go_ret
        exact ⟨rfl, HB.out⟩

end Go.Proofs.Ytjgpghaofhcfnaa
