/- Texts on the program that the proof leans on, part 54. -/
import Derived.Test.YtkfahochpnggbaaGreatYbn
import Derived.Test.YtkfahochpnggbaaGreatYbo
import Derived.Test.YtkfahochpnggbaaGreatYbw
import Derived.Test.YtkfahochpnggbaaGreatYca
set_option linter.unusedVariables false
set_option linter.unusedSimpArgs false

/- Contract of ChainMore: it returns true, whatever the book and the numbers. -/
namespace Go.Proofs.YtkfahochpnggbaaGreat
open Go.RowKit

/-- An append whose run is known. -/
theorem wp_append_run {P : Program} {o : Oper} {a : Act} {w : World} {K : Act → World → Prop} {Q : Exit → Act → World → Prop} {s x : Operand} {t : TypeId} {v0 vx v' : Value} {w' : World}
    (ho : o.op = .call { callee := .builtin .append, args := #[s, x], argTypes := #[t, t] }) (hs : a.eval s = v0) (hx : a.eval x = vx) (hr : (Builtin.append_ #[t, t] o.type #[v0, vx]).run P w = .ok v' w') (h : K (a.put o.dst v') w') : o.wp P a w K Q := by
  unfold Oper.wp execOp
  simp only [ho, resolve, invoke, builtin, Sem.run_bind, Sem.run_pure, Result.andThen_ok, List.map_toArray, List.map_cons, List.map_nil, hs, hx, hr]
  exact h
set_option maxRecDepth 100000 in
/-- The surveys appended to an empty list of one's own. -/
theorem append_svs (base : Nat) (v0 : Value) (V : Value) (l : List Ch.Sv) (w : World) (hw : base ≤ w.heap.size) (hown : w.ownsRow base 34 4 v0 0 []) (hV : Sl w w.heap.size 4 V l.length (l.flatMap cSv)) (hl : l.length ≤ 1000) (ty : TypeId) :
    ∃ v' w', (Builtin.append_ #[24, 24] ty #[v0, V]).run Tryz.prog w = .ok v' w' ∧ w'.ownsRow base 34 4 v' l.length (l.flatMap cSv) ∧ w.grownBy w' v0.ownBlock := by
  obtain ⟨i0, hi, hz0, hz1, hz2⟩ := info_parts infoSv
  obtain ⟨h1, A, c, rfl, h2, h3, h4⟩ := hV
  have hone : ∀ u ∈ l.flatMap cSv, u.oneCell' = true := by
    intro u hu
    obtain ⟨x, -, hx⟩ := List.mem_flatMap.1 hu
    simp [cSv] at hx
    rcases hx with rfl | rfl | rfl | rfl <;> rfl
  cases A with
  | some a =>
    obtain ⟨v', w', g1, g2, g3, -, -⟩ := run_append_own_at (P := Tryz.prog) w base 24 ty 34 i0 (vSv ⟨0, 0, 0, 0⟩) 4 32 underSvs hi hz0 hz1 hz2 rfl (by decide) v0 0 [] hown a l.length c (l.flatMap cSv) h1 (by
      intro j u hj
      have hn : 0 < l.length := by
        rcases Nat.eq_zero_or_pos l.length with h | h
        · rw [List.eq_nil_of_length_eq_zero h] at hj; simp at hj
        · exact h
      obtain ⟨b, off, e, hb, hc⟩ := h4 hn
      injection e with e
      subst e
      rw [Addr.add_lit]
      exact hc j u hj) hone (by unfold maxLen; omega) (by omega) hw
    exact ⟨v', w', g1, by simpa using g2, g3⟩
  | none =>
    have hn : l.length = 0 := by
      rcases Nat.eq_zero_or_pos l.length with h | h
      · exact h
      · obtain ⟨b, off, e, -⟩ := h4 h; cases e
    have hl0 : l = [] := List.eq_nil_of_length_eq_zero hn
    subst hl0
    refine ⟨v0, w, ?_, hown, ⟨rfl, rfl, rfl, Nat.le_refl _, fun _ _ _ => rfl⟩⟩
    rcases hown.2 with ⟨rfl, -⟩ | ⟨g, cap, cur, rfl, -⟩ <;>
      simp [Builtin.append_, run_underlying underSvs, sizeOf, typeInfo, hi, Builtin.lenOf, Builtin.firstCells, loadCells, loadCellsFrom, storeCells]

set_option maxRecDepth 100000 in
set_option maxHeartbeats 4000000 in
theorem ChainMore_any (b : Ch.Bk) (S T V : Value) (m0 m1 m2 m3 n0 n1 : Int) (w : World) (hb : RB w w.heap.size b S T V) :
    Calls Tryz.prog 8 #[vBk S T V b.rule b.days, .agg #[I m0, I m1, I m2, I m3], .agg #[I n0, I n1]] w fun e w' => e = .returned (.bool true) ∧ Below w.heap.size w w' := by
  obtain ⟨A0, k0, rfl⟩ := hb.secs.form
  obtain ⟨A1, k1, rfl⟩ := hb.turns.form
  obtain ⟨A2, k2, rfl⟩ := hb.svs.form
  obtain ⟨o, ho⟩ : ∃ o : Obj, o = .cells #[.slice A0 b.secs.length k0, .slice A1 b.turns.length k1, .slice A2 b.svs.length k2, I b.rule, I b.days] 26 := ⟨_, rfl⟩
  obtain ⟨o4, ho4⟩ : ∃ o : Obj, o = .cells #[I m0, I m1, I m2, I m3] 64 := ⟨_, rfl⟩
  obtain ⟨o2, ho2⟩ : ∃ o : Obj, o = .cells #[I n0, I n1] 27 := ⟨_, rfl⟩
  obtain ⟨W0, hW0⟩ : ∃ W : World, W = ((w.alloc o).alloc o4).alloc o2 := ⟨_, rfl⟩
  have hb0 : Below w.heap.size w W0 := by rw [hW0]; exact (((Below.refl _ _).alloc (Nat.le_refl _) _).alloc (by simp) _).alloc (by simp; omega) _
  have rB : W0.heap[w.heap.size]? = some o := by rw [hW0]; exact (Below.heap_alloc _ _ _ (by simp; omega)).trans ((Below.heap_alloc _ _ _ (by simp)).trans (heap_at _ _ rfl))
  have rM : W0.heap[w.heap.size + 1]? = some o4 := by rw [hW0]; exact (Below.heap_alloc _ _ _ (by simp)).trans (heap_at _ _ (by simp))
  have rN : W0.heap[w.heap.size + 1 + 1]? = some o2 := by rw [hW0]; exact heap_at _ _ (by simp)
  have lB : w.heap.size < W0.heap.size := by rw [hW0]; simp; omega
  have lM : w.heap.size + 1 < W0.heap.size := by rw [hW0]; simp
  have lN : w.heap.size + 1 + 1 < W0.heap.size := by rw [hW0]; simp
  go_enter Tryz.func8, Tryz.ntmps8
  go_wp2_with fail
  rw [← ho, ← ho4, ← ho2, ← hW0]
  subst ho ho4 ho2
  clear hW0
  have hRB := (hb.below hb0 (Nat.le_refl _)).more hb0.size
  refine (sound_any b _ _ _ W0 hRB).mono ?_
  rintro e w1 ⟨rfl, hB1⟩
  replace rB := (hB1.block _ lB).trans rB
  replace lB := Nat.lt_of_lt_of_le lB hB1.size
  replace rM := (hB1.block _ lM).trans rM
  replace lM := Nat.lt_of_lt_of_le lM hB1.size
  replace rN := (hB1.block _ lN).trans rN
  replace lN := Nat.lt_of_lt_of_le lN hB1.size
  have hb1 := hb0.trans (hB1.mono hb0.size)
  clear hRB hb0 hB1
  have forge : ∀ W', Below w.heap.size w W' → Calls Tryz.prog 18 #[] W' fun e w' => e = .returned (.bool true) ∧ Below w.heap.size w w' := fun W' h => (forged_any W').mono fun e w' ⟨h1, h2⟩ => ⟨h1, h.trans (h2.mono h.size)⟩
  have FORGE := Lib.hid forge
  clear forge
  by_cases hck : Ch.check b = 0
  case neg =>
    rw [decide_eq_false hck]
    clear rB rN rM lB lN lM hck
    go_wp2_with fail
    refine (FORGE.out _ hb1).mono ?_
    rintro e w2 ⟨rfl, hB2⟩
    have HB := Lib.hid hB2
    clear hB2 hb1
    go_wp2_with fail
    go_ret
    exact ⟨rfl, HB.out⟩
  rw [decide_eq_true hck]
  have hval : Ch.valid b = true := by
    unfold Ch.check at hck
    split at hck
    · assumption
    · omega
  clear hck
  have hn := Ch.secs_le hval
  have hdy := Ch.days_le hval
  have hsl := Ch.svs_le hval
  have qB0 := cell_of_row w1 _ 0 _ _ _ rB
  have qB2 := cell_of_row w1 _ 2 _ _ _ rB
  have qB4 := cell_of_row w1 _ 4 _ _ _ rB
  simp only [List.getElem?_toArray, List.getElem?_cons_zero, List.getElem?_cons_succ] at qB0 qB2 qB4
  by_cases h8 : (b.svs.length : Int) = 8
  · have h8b : ((b.svs.length : Int) == 8) = true := by simp [h8]
    clear h8 rB rN rM lB lN lM hval hn hdy hsl
    go_wp2_with fail
    refine (FORGE.out _ hb1).mono ?_
    rintro e w2 ⟨rfl, hB2⟩
    have HB := Lib.hid hB2
    clear hB2 hb1
    go_wp2_with fail
    go_ret
    exact ⟨rfl, HB.out⟩
  have h8b : ((b.svs.length : Int) == 8) = false := by simp [h8]
  have hl8 : b.svs.length < 8 := by omega
  have HL8 := Lib.hid hl8
  clear hsl h8 hl8
  obtain ⟨y0, hy0⟩ : ∃ y : Int, y = m0 % b.secs.length := ⟨_, rfl⟩
  obtain ⟨y1, hy1⟩ : ∃ y : Int, y = m1 % (b.days + 1) := ⟨_, rfl⟩
  obtain ⟨y2, hy2⟩ : ∃ y : Int, y = m2 % 201 := ⟨_, rfl⟩
  obtain ⟨y3, hy3⟩ : ∃ y : Int, y = m3 % 6 := ⟨_, rfl⟩
  have hys : Ch.isSurvey b ⟨y0, y1, y2, y3⟩ = true := by
    simp only [Ch.isSurvey, Ch.isSection, Ch.isDay, Ch.between, Bool.and_eq_true, decide_eq_true_eq]
    have g1 := Int.emod_lt_of_pos m0 (show (0 : Int) < b.secs.length by omega)
    have g2 := Int.emod_nonneg m0 (show (b.secs.length : Int) ≠ 0 by omega)
    have g3 := Int.emod_lt_of_pos m1 (show (0 : Int) < b.days + 1 by omega)
    have g4 := Int.emod_nonneg m1 (show b.days + 1 ≠ 0 by omega)
    omega
  have HM0 := Lib.hid (show ∀ W', Calls Tryz.prog 27 #[I m0, I b.secs.length] W' fun e w' => e = .returned (I y0) ∧ Below W'.heap.size W' w' from fun W' => by rw [hy0]; exact mod_any _ _ (by omega) (by omega) W')
  have HM1 := Lib.hid (show ∀ W', Calls Tryz.prog 27 #[I m1, I (b.days + 1)] W' fun e w' => e = .returned (I y1) ∧ Below W'.heap.size W' w' from fun W' => by rw [hy1]; exact mod_any _ _ (by omega) (by omega) W')
  have HM2 := Lib.hid (show ∀ W', Calls Tryz.prog 27 #[I m2, I 201] W' fun e w' => e = .returned (I y2) ∧ Below W'.heap.size W' w' from fun W' => by rw [hy2]; exact mod_any _ _ (by omega) (by omega) W')
  have HM3 := Lib.hid (show ∀ W', Calls Tryz.prog 27 #[I m3, I 6] W' fun e w' => e = .returned (I y3) ∧ Below W'.heap.size W' w' from fun W' => by rw [hy3]; exact mod_any _ _ (by omega) (by omega) W')
  have hd1w : IntKind.i64.wrap (b.days + 1) = b.days + 1 := IntWalk.i64_in _ (by omega)
  have HYS := Lib.hid hys
  have HVAL := Lib.hid hval
  clear hy0 hy1 hy2 hy3 hys hval
  have qM0 := cell_of_row w1 _ 0 _ _ _ rM
  have qM1 := cell_of_row w1 _ 1 _ _ _ rM
  have qM2 := cell_of_row w1 _ 2 _ _ _ rM
  have qM3 := cell_of_row w1 _ 3 _ _ _ rM
  simp only [List.getElem?_toArray, List.getElem?_cons_zero, List.getElem?_cons_succ] at qM0 qM1 qM2 qM3
  go_wp2_with fail

  refine name_act ?_
  intro A hA
  obtain ⟨R, hR⟩ : ∃ R : Act → World → Prop, R = fun a' w' => ∃ n : Nat, (∃ u35 u36 u37 u38 u39 u40 u41 u42 u43 u44 u45 u46 u47 u48 u49 u50 u51 u52 u53, a' = ((((((((((((((((((((A.put (some 35) u35).put (some 36) u36).put (some 37) u37).put (some 38) u38).put (some 39) u39).put (some 40) u40).put (some 41) u41).put (some 42) u42).put (some 43) u43).put (some 44) u44).put (some 45) u45).put (some 46) u46).put (some 47) u47).put (some 48) u48).put (some 49) u49).put (some 50) u50).put (some 51) u51).put (some 52) u52).put (some 53) u53).put (some 7) (.pointer (some ⟨n, 0, none⟩)))) ∧ w'.heap[n]? = some (.cells #[I y0, I y1, I y2, I y3] 34 (0, 0)) ∧ w1.heap.size ≤ n ∧ Held w1 w' := ⟨_, rfl⟩
  have HR := Lib.hid hR
  clear hR
  refine wp_between R ?first ?rest
  case first =>
    subst hA
    refine wp_region_held_drew (S := fun w' => Held w1 w') (by kernel_rfl) (held_start w1) (fun _ => ?_)
    refine wpAnyH_take (i := 0) (oi := { dst := some 35, op := Go.Op.indexAddr 64 (Go.Operand.tmp 4) (Go.Operand.const (Go.Value.int Go.IntKind.i64 0)), type := 0, pos := "outright.go:186", after := #[], guard := none }) (v := ?v1) rfl (by kernel_rfl) (by kernel_rfl) (by kernel_rfl) (fun _ _ _ h => h) (Or.inl ⟨by rfl, ?hy1⟩) (held_start w1) ?r1
    case hy1 =>
      intro w' hSw
      have hq := hSw.1
      clear hSw
      go_simp
      with_reducible rfl
    try simp only [Act.put, List.setIfInBounds_toArray, List.set_cons_zero, List.set_cons_succ]
    refine wpAnyH_take (i := 1) (oi := { dst := some 36, op := Go.Op.load 3 (Go.Operand.tmp 35), type := 3, pos := "outright.go:186", after := #[{ on := 0, ground := Go.Ground.data }], guard := none }) (v := ?v2) rfl (by kernel_rfl) (by kernel_rfl) (by kernel_rfl) (fun _ _ _ h => h) (Or.inl ⟨by rfl, ?hy2⟩) (held_start w1) ?r2
    case hy2 =>
      intro w' hSw
      have hq := hSw.1
      clear hSw
      go_simp
      with_reducible rfl
    try simp only [Act.put, List.setIfInBounds_toArray, List.set_cons_zero, List.set_cons_succ]
    refine wpAnyH_take (i := 2) (oi := { dst := some 37, op := Go.Op.fieldAddr 26 (Go.Operand.tmp 3) 0, type := 0, pos := "outright.go:186", after := #[], guard := none }) (v := ?v3) rfl (by kernel_rfl) (by kernel_rfl) (by kernel_rfl) (fun _ _ _ h => h) (Or.inl ⟨by rfl, ?hy3⟩) (held_start w1) ?r3
    case hy3 =>
      intro w' hSw
      have hq := hSw.1
      clear hSw
      go_simp
      with_reducible rfl
    try simp only [Act.put, List.setIfInBounds_toArray, List.set_cons_zero, List.set_cons_succ]
    refine wpAnyH_take (i := 3) (oi := { dst := some 38, op := Go.Op.load 22 (Go.Operand.tmp 37), type := 22, pos := "outright.go:186", after := #[{ on := 2, ground := Go.Ground.data }], guard := none }) (v := ?v4) rfl (by kernel_rfl) (by kernel_rfl) (by kernel_rfl) (fun _ _ _ h => h) (Or.inl ⟨by rfl, ?hy4⟩) (held_start w1) ?r4
    case hy4 =>
      intro w' hSw
      have hq := hSw.1
      clear hSw
      go_simp
      with_reducible rfl
    try simp only [Act.put, List.setIfInBounds_toArray, List.set_cons_zero, List.set_cons_succ]
    refine wpAnyH_take (i := 4) (oi := { dst := some 39, op := Go.Op.call { callee := Go.Callee.builtin Go.Builtin.len, args := #[Go.Operand.tmp 38], argTypes := #[22] }, type := 3, pos := "outright.go:186", after := #[{ on := 3, ground := Go.Ground.data }], guard := none }) (v := ?v5) rfl (by kernel_rfl) (by kernel_rfl) (by kernel_rfl) (fun _ _ _ h => h) (Or.inl ⟨by rfl, ?hy5⟩) (held_start w1) ?r5
    case hy5 =>
      intro w' hSw
      have hq := hSw.1
      clear hSw
      go_simp
      with_reducible rfl
    try simp only [Act.put, List.setIfInBounds_toArray, List.set_cons_zero, List.set_cons_succ]
    refine wpAnyH_take (i := 6) (oi := { dst := some 41, op := Go.Op.indexAddr 64 (Go.Operand.tmp 4) (Go.Operand.const (Go.Value.int Go.IntKind.i64 1)), type := 0, pos := "outright.go:186", after := #[], guard := none }) (v := ?v6) rfl (by kernel_rfl) (by kernel_rfl) (by kernel_rfl) (fun _ _ _ h => h) (Or.inl ⟨by rfl, ?hy6⟩) (held_start w1) ?r6
    case hy6 =>
      intro w' hSw
      have hq := hSw.1
      clear hSw
      go_simp
      with_reducible rfl
    try simp only [Act.put, List.setIfInBounds_toArray, List.set_cons_zero, List.set_cons_succ]
    refine wpAnyH_take (i := 7) (oi := { dst := some 42, op := Go.Op.load 3 (Go.Operand.tmp 41), type := 3, pos := "outright.go:186", after := #[{ on := 6, ground := Go.Ground.data }], guard := none }) (v := ?v7) rfl (by kernel_rfl) (by kernel_rfl) (by kernel_rfl) (fun _ _ _ h => h) (Or.inl ⟨by rfl, ?hy7⟩) (held_start w1) ?r7
    case hy7 =>
      intro w' hSw
      have hq := hSw.1
      clear hSw
      go_simp
      with_reducible rfl
    try simp only [Act.put, List.setIfInBounds_toArray, List.set_cons_zero, List.set_cons_succ]
    refine wpAnyH_take (i := 8) (oi := { dst := some 43, op := Go.Op.fieldAddr 26 (Go.Operand.tmp 3) 4, type := 0, pos := "outright.go:186", after := #[], guard := none }) (v := ?v8) rfl (by kernel_rfl) (by kernel_rfl) (by kernel_rfl) (fun _ _ _ h => h) (Or.inl ⟨by rfl, ?hy8⟩) (held_start w1) ?r8
    case hy8 =>
      intro w' hSw
      have hq := hSw.1
      clear hSw
      go_simp
      with_reducible rfl
    try simp only [Act.put, List.setIfInBounds_toArray, List.set_cons_zero, List.set_cons_succ]
    refine wpAnyH_take (i := 9) (oi := { dst := some 44, op := Go.Op.load 3 (Go.Operand.tmp 43), type := 3, pos := "outright.go:186", after := #[{ on := 8, ground := Go.Ground.data }], guard := none }) (v := ?v9) rfl (by kernel_rfl) (by kernel_rfl) (by kernel_rfl) (fun _ _ _ h => h) (Or.inl ⟨by rfl, ?hy9⟩) (held_start w1) ?r9
    case hy9 =>
      intro w' hSw
      have hq := hSw.1
      clear hSw
      go_simp
      with_reducible rfl
    try simp only [Act.put, List.setIfInBounds_toArray, List.set_cons_zero, List.set_cons_succ]
    refine wpAnyH_take (i := 10) (oi := { dst := some 45, op := Go.Op.binOp Go.BinOp.add 3 (Go.Operand.tmp 44) (Go.Operand.const (Go.Value.int Go.IntKind.i64 1)) 3, type := 3, pos := "outright.go:186", after := #[{ on := 9, ground := Go.Ground.data }], guard := none }) (v := ?v10) rfl (by kernel_rfl) (by kernel_rfl) (by kernel_rfl) (fun _ _ _ h => h) (Or.inl ⟨by rfl, ?hy10⟩) (held_start w1) ?r10
    case hy10 =>
      intro w' hSw
      have hq := hSw.1
      clear hSw
      go_simp
      with_reducible rfl
    try simp only [Act.put, List.setIfInBounds_toArray, List.set_cons_zero, List.set_cons_succ]
    refine wpAnyH_take (i := 12) (oi := { dst := some 47, op := Go.Op.indexAddr 64 (Go.Operand.tmp 4) (Go.Operand.const (Go.Value.int Go.IntKind.i64 2)), type := 0, pos := "outright.go:186", after := #[], guard := none }) (v := ?v11) rfl (by kernel_rfl) (by kernel_rfl) (by kernel_rfl) (fun _ _ _ h => h) (Or.inl ⟨by rfl, ?hy11⟩) (held_start w1) ?r11
    case hy11 =>
      intro w' hSw
      have hq := hSw.1
      clear hSw
      go_simp
      with_reducible rfl
    try simp only [Act.put, List.setIfInBounds_toArray, List.set_cons_zero, List.set_cons_succ]
    refine wpAnyH_take (i := 13) (oi := { dst := some 48, op := Go.Op.load 3 (Go.Operand.tmp 47), type := 3, pos := "outright.go:186", after := #[{ on := 12, ground := Go.Ground.data }], guard := none }) (v := ?v12) rfl (by kernel_rfl) (by kernel_rfl) (by kernel_rfl) (fun _ _ _ h => h) (Or.inl ⟨by rfl, ?hy12⟩) (held_start w1) ?r12
    case hy12 =>
      intro w' hSw
      have hq := hSw.1
      clear hSw
      go_simp
      with_reducible rfl
    try simp only [Act.put, List.setIfInBounds_toArray, List.set_cons_zero, List.set_cons_succ]
    refine wpAnyH_take (i := 15) (oi := { dst := some 50, op := Go.Op.indexAddr 64 (Go.Operand.tmp 4) (Go.Operand.const (Go.Value.int Go.IntKind.i64 3)), type := 0, pos := "outright.go:186", after := #[], guard := none }) (v := ?v13) rfl (by kernel_rfl) (by kernel_rfl) (by kernel_rfl) (fun _ _ _ h => h) (Or.inl ⟨by rfl, ?hy13⟩) (held_start w1) ?r13
    case hy13 =>
      intro w' hSw
      have hq := hSw.1
      clear hSw
      go_simp
      with_reducible rfl
    try simp only [Act.put, List.setIfInBounds_toArray, List.set_cons_zero, List.set_cons_succ]
    refine wpAnyH_take (i := 16) (oi := { dst := some 51, op := Go.Op.load 3 (Go.Operand.tmp 50), type := 3, pos := "outright.go:186", after := #[{ on := 15, ground := Go.Ground.data }], guard := none }) (v := ?v14) rfl (by kernel_rfl) (by kernel_rfl) (by kernel_rfl) (fun _ _ _ h => h) (Or.inl ⟨by rfl, ?hy14⟩) (held_start w1) ?r14
    case hy14 =>
      intro w' hSw
      have hq := hSw.1
      clear hSw
      go_simp
      with_reducible rfl
    try simp only [Act.put, List.setIfInBounds_toArray, List.set_cons_zero, List.set_cons_succ]
    refine wpAnyH_ready (rs := [5, 19]) (by kernel_rfl) (by simp) ?_
    refine AllReadyH.cons rfl (fun K hK => ?_) (AllReadyH.cons rfl (fun K hK => ?_) AllReadyH.nil)
    · go_simp
      refine (HM0.out _).mono ?_
      rintro e w15 ⟨rfl, hBw15⟩
      have hSw15 := held_step hBw15 (held_start w1)
      refine hK.out _ _ hSw15 (fun _ => ?_)
      clear hK K
      try simp only [Act.put, List.setIfInBounds_toArray, List.set_cons_zero, List.set_cons_succ]
      refine wpAnyH_ready (rs := [11, 19]) (by kernel_rfl) (by simp) ?_
      refine AllReadyH.cons rfl (fun K hK => ?_) (AllReadyH.cons rfl (fun K hK => ?_) AllReadyH.nil)
      · go_simp
        refine (HM1.out _).mono ?_
        rintro e w16 ⟨rfl, hBw16⟩
        have hSw16 := held_step hBw16 hSw15
        refine hK.out _ _ hSw16 (fun _ => ?_)
        clear hK K
        try simp only [Act.put, List.setIfInBounds_toArray, List.set_cons_zero, List.set_cons_succ]
        refine wpAnyH_ready (rs := [14, 19]) (by kernel_rfl) (by simp) ?_
        refine AllReadyH.cons rfl (fun K hK => ?_) (AllReadyH.cons rfl (fun K hK => ?_) AllReadyH.nil)
        · go_simp
          refine (HM2.out _).mono ?_
          rintro e w17 ⟨rfl, hBw17⟩
          have hSw17 := held_step hBw17 hSw16
          refine hK.out _ _ hSw17 (fun _ => ?_)
          clear hK K
          try simp only [Act.put, List.setIfInBounds_toArray, List.set_cons_zero, List.set_cons_succ]
          refine wpAnyH_ready (rs := [17, 19]) (by kernel_rfl) (by simp) ?_
          refine AllReadyH.cons rfl (fun K hK => ?_) (AllReadyH.cons rfl (fun K hK => ?_) AllReadyH.nil)
          · go_simp
            refine (HM3.out _).mono ?_
            rintro e w18 ⟨rfl, hBw18⟩
            have hSw18 := held_step hBw18 hSw17
            refine hK.out _ _ hSw18 (fun _ => ?_)
            clear hK K
            try simp only [Act.put, List.setIfInBounds_toArray, List.set_cons_zero, List.set_cons_succ]
            refine wpAnyH_ready (rs := [18, 19]) (by kernel_rfl) (by simp) ?_
            refine AllReadyH.cons rfl (fun K hK => ?_) (AllReadyH.cons rfl (fun K hK => ?_) AllReadyH.nil)
            · go_simp
              refine (survey_any _ _ _ _ _).mono ?_
              rintro e w19 ⟨rfl, hBw19⟩
              have hSw19 := held_step hBw19 hSw18
              refine hK.out _ _ hSw19 (fun _ => ?_)
              clear hK K
              try simp only [Act.put, List.setIfInBounds_toArray, List.set_cons_zero, List.set_cons_succ]
              refine wpAnyH_ready (rs := [19]) (by kernel_rfl) (by simp) ?_
              refine AllReadyH.cons rfl (fun K hK => ?_) AllReadyH.nil
              go_simp
              refine hK.out _ _ (held_alloc hSw19 _) (fun _ => ?_)
              clear hK K
              try simp only [Act.put, List.setIfInBounds_toArray, List.set_cons_zero, List.set_cons_succ]
              refine name_anyH ?_
              intro w20 hWw20
              have hrw20 : w20.heap[w19.heap.size]? = some (.cells #[I 0, I 0, I 0, I 0] 34 (0, 0)) := by rw [hWw20]; exact heap_at _ _ rfl
              have hSw20 : Held w1 w20 := by rw [hWw20]; exact held_alloc hSw19 _
              have hlw20 : w1.heap.size ≤ w19.heap.size := hSw19.2.2.size
              clear hWw20
              refine wpAnyH_ready (rs := [20]) (by kernel_rfl) (by simp) ?_
              refine AllReadyH.cons rfl (fun K hK => ?_) AllReadyH.nil
              rw [if_pos (by rfl)]
              refine wp_store_row 34 _ _ rfl _ _ rfl rfl _ _ hrw20 (by kernel_rfl) rfl (by simp [Value.oneCell']) ?_
              have hSw21 := held_row hSw20 hlw20 (#[I y0, I y1, I y2, I y3])
              refine hK.out _ _ hSw21 (fun _ => ?_)
              clear hK K
              try simp only [Act.put, List.setIfInBounds_toArray, List.set_cons_zero, List.set_cons_succ]
              have hrw21 := setRow_heap _ _ _ (#[I y0, I y1, I y2, I y3]) _ _ hrw20
              refine wpAnyH_done (by kernel_rfl) ?_ _
              show R _ _
              rw [HR.out]
              simp only [Act.put, List.setIfInBounds_toArray, List.set_cons_zero, List.set_cons_succ]
              exact ⟨w19.heap.size, ⟨_, _, _, _, _, _, _, _, _, _, _, _, _, _, _, _, _, _, _, rfl⟩, hrw21, hlw20, hSw21⟩
            · go_simp
              refine hK.out _ _ (held_alloc hSw18 _) (fun _ => ?_)
              clear hK K
              try simp only [Act.put, List.setIfInBounds_toArray, List.set_cons_zero, List.set_cons_succ]
              refine name_anyH ?_
              intro w22 hWw22
              have hrw22 : w22.heap[w18.heap.size]? = some (.cells #[I 0, I 0, I 0, I 0] 34 (0, 0)) := by rw [hWw22]; exact heap_at _ _ rfl
              have hSw22 : Held w1 w22 := by rw [hWw22]; exact held_alloc hSw18 _
              have hlw22 : w1.heap.size ≤ w18.heap.size := hSw18.2.2.size
              clear hWw22
              refine wpAnyH_ready (rs := [18]) (by kernel_rfl) (by simp) ?_
              refine AllReadyH.cons rfl (fun K hK => ?_) AllReadyH.nil
              go_simp
              refine (survey_any _ _ _ _ _).mono ?_
              rintro e w23 ⟨rfl, hBw23⟩
              have hSw23 := held_step hBw23 hSw22
              have hrw23 := (hBw23.block _ (heap_lt hrw22)).trans hrw22
              refine hK.out _ _ hSw23 (fun _ => ?_)
              clear hK K
              try simp only [Act.put, List.setIfInBounds_toArray, List.set_cons_zero, List.set_cons_succ]
              refine wpAnyH_ready (rs := [20]) (by kernel_rfl) (by simp) ?_
              refine AllReadyH.cons rfl (fun K hK => ?_) AllReadyH.nil
              rw [if_pos (by rfl)]
              refine wp_store_row 34 _ _ rfl _ _ rfl rfl _ _ hrw23 (by kernel_rfl) rfl (by simp [Value.oneCell']) ?_
              have hSw24 := held_row hSw23 hlw22 (#[I y0, I y1, I y2, I y3])
              refine hK.out _ _ hSw24 (fun _ => ?_)
              clear hK K
              try simp only [Act.put, List.setIfInBounds_toArray, List.set_cons_zero, List.set_cons_succ]
              have hrw24 := setRow_heap _ _ _ (#[I y0, I y1, I y2, I y3]) _ _ hrw23
              refine wpAnyH_done (by kernel_rfl) ?_ _
              show R _ _
              rw [HR.out]
              simp only [Act.put, List.setIfInBounds_toArray, List.set_cons_zero, List.set_cons_succ]
              exact ⟨w18.heap.size, ⟨_, _, _, _, _, _, _, _, _, _, _, _, _, _, _, _, _, _, _, rfl⟩, hrw24, hlw22, hSw24⟩
          · go_simp
            refine hK.out _ _ (held_alloc hSw17 _) (fun _ => ?_)
            clear hK K
            try simp only [Act.put, List.setIfInBounds_toArray, List.set_cons_zero, List.set_cons_succ]
            refine name_anyH ?_
            intro w25 hWw25
            have hrw25 : w25.heap[w17.heap.size]? = some (.cells #[I 0, I 0, I 0, I 0] 34 (0, 0)) := by rw [hWw25]; exact heap_at _ _ rfl
            have hSw25 : Held w1 w25 := by rw [hWw25]; exact held_alloc hSw17 _
            have hlw25 : w1.heap.size ≤ w17.heap.size := hSw17.2.2.size
            clear hWw25
            refine wpAnyH_ready (rs := [17]) (by kernel_rfl) (by simp) ?_
            refine AllReadyH.cons rfl (fun K hK => ?_) AllReadyH.nil
            go_simp
            refine (HM3.out _).mono ?_
            rintro e w26 ⟨rfl, hBw26⟩
            have hSw26 := held_step hBw26 hSw25
            have hrw26 := (hBw26.block _ (heap_lt hrw25)).trans hrw25
            refine hK.out _ _ hSw26 (fun _ => ?_)
            clear hK K
            try simp only [Act.put, List.setIfInBounds_toArray, List.set_cons_zero, List.set_cons_succ]
            refine wpAnyH_ready (rs := [18]) (by kernel_rfl) (by simp) ?_
            refine AllReadyH.cons rfl (fun K hK => ?_) AllReadyH.nil
            go_simp
            refine (survey_any _ _ _ _ _).mono ?_
            rintro e w27 ⟨rfl, hBw27⟩
            have hSw27 := held_step hBw27 hSw26
            have hrw27 := (hBw27.block _ (heap_lt hrw26)).trans hrw26
            refine hK.out _ _ hSw27 (fun _ => ?_)
            clear hK K
            try simp only [Act.put, List.setIfInBounds_toArray, List.set_cons_zero, List.set_cons_succ]
            refine wpAnyH_ready (rs := [20]) (by kernel_rfl) (by simp) ?_
            refine AllReadyH.cons rfl (fun K hK => ?_) AllReadyH.nil
            rw [if_pos (by rfl)]
            refine wp_store_row 34 _ _ rfl _ _ rfl rfl _ _ hrw27 (by kernel_rfl) rfl (by simp [Value.oneCell']) ?_
            have hSw28 := held_row hSw27 hlw25 (#[I y0, I y1, I y2, I y3])
            refine hK.out _ _ hSw28 (fun _ => ?_)
            clear hK K
            try simp only [Act.put, List.setIfInBounds_toArray, List.set_cons_zero, List.set_cons_succ]
            have hrw28 := setRow_heap _ _ _ (#[I y0, I y1, I y2, I y3]) _ _ hrw27
            refine wpAnyH_done (by kernel_rfl) ?_ _
            show R _ _
            rw [HR.out]
            simp only [Act.put, List.setIfInBounds_toArray, List.set_cons_zero, List.set_cons_succ]
            exact ⟨w17.heap.size, ⟨_, _, _, _, _, _, _, _, _, _, _, _, _, _, _, _, _, _, _, rfl⟩, hrw28, hlw25, hSw28⟩
        · go_simp
          refine hK.out _ _ (held_alloc hSw16 _) (fun _ => ?_)
          clear hK K
          try simp only [Act.put, List.setIfInBounds_toArray, List.set_cons_zero, List.set_cons_succ]
          refine name_anyH ?_
          intro w29 hWw29
          have hrw29 : w29.heap[w16.heap.size]? = some (.cells #[I 0, I 0, I 0, I 0] 34 (0, 0)) := by rw [hWw29]; exact heap_at _ _ rfl
          have hSw29 : Held w1 w29 := by rw [hWw29]; exact held_alloc hSw16 _
          have hlw29 : w1.heap.size ≤ w16.heap.size := hSw16.2.2.size
          clear hWw29
          refine wpAnyH_ready (rs := [14]) (by kernel_rfl) (by simp) ?_
          refine AllReadyH.cons rfl (fun K hK => ?_) AllReadyH.nil
          go_simp
          refine (HM2.out _).mono ?_
          rintro e w30 ⟨rfl, hBw30⟩
          have hSw30 := held_step hBw30 hSw29
          have hrw30 := (hBw30.block _ (heap_lt hrw29)).trans hrw29
          refine hK.out _ _ hSw30 (fun _ => ?_)
          clear hK K
          try simp only [Act.put, List.setIfInBounds_toArray, List.set_cons_zero, List.set_cons_succ]
          refine wpAnyH_ready (rs := [17]) (by kernel_rfl) (by simp) ?_
          refine AllReadyH.cons rfl (fun K hK => ?_) AllReadyH.nil
          go_simp
          refine (HM3.out _).mono ?_
          rintro e w31 ⟨rfl, hBw31⟩
          have hSw31 := held_step hBw31 hSw30
          have hrw31 := (hBw31.block _ (heap_lt hrw30)).trans hrw30
          refine hK.out _ _ hSw31 (fun _ => ?_)
          clear hK K
          try simp only [Act.put, List.setIfInBounds_toArray, List.set_cons_zero, List.set_cons_succ]
          refine wpAnyH_ready (rs := [18]) (by kernel_rfl) (by simp) ?_
          refine AllReadyH.cons rfl (fun K hK => ?_) AllReadyH.nil
          go_simp
          refine (survey_any _ _ _ _ _).mono ?_
          rintro e w32 ⟨rfl, hBw32⟩
          have hSw32 := held_step hBw32 hSw31
          have hrw32 := (hBw32.block _ (heap_lt hrw31)).trans hrw31
          refine hK.out _ _ hSw32 (fun _ => ?_)
          clear hK K
          try simp only [Act.put, List.setIfInBounds_toArray, List.set_cons_zero, List.set_cons_succ]
          refine wpAnyH_ready (rs := [20]) (by kernel_rfl) (by simp) ?_
          refine AllReadyH.cons rfl (fun K hK => ?_) AllReadyH.nil
          rw [if_pos (by rfl)]
          refine wp_store_row 34 _ _ rfl _ _ rfl rfl _ _ hrw32 (by kernel_rfl) rfl (by simp [Value.oneCell']) ?_
          have hSw33 := held_row hSw32 hlw29 (#[I y0, I y1, I y2, I y3])
          refine hK.out _ _ hSw33 (fun _ => ?_)
          clear hK K
          try simp only [Act.put, List.setIfInBounds_toArray, List.set_cons_zero, List.set_cons_succ]
          have hrw33 := setRow_heap _ _ _ (#[I y0, I y1, I y2, I y3]) _ _ hrw32
          refine wpAnyH_done (by kernel_rfl) ?_ _
          show R _ _
          rw [HR.out]
          simp only [Act.put, List.setIfInBounds_toArray, List.set_cons_zero, List.set_cons_succ]
          exact ⟨w16.heap.size, ⟨_, _, _, _, _, _, _, _, _, _, _, _, _, _, _, _, _, _, _, rfl⟩, hrw33, hlw29, hSw33⟩
      · go_simp
        refine hK.out _ _ (held_alloc hSw15 _) (fun _ => ?_)
        clear hK K
        try simp only [Act.put, List.setIfInBounds_toArray, List.set_cons_zero, List.set_cons_succ]
        refine name_anyH ?_
        intro w34 hWw34
        have hrw34 : w34.heap[w15.heap.size]? = some (.cells #[I 0, I 0, I 0, I 0] 34 (0, 0)) := by rw [hWw34]; exact heap_at _ _ rfl
        have hSw34 : Held w1 w34 := by rw [hWw34]; exact held_alloc hSw15 _
        have hlw34 : w1.heap.size ≤ w15.heap.size := hSw15.2.2.size
        clear hWw34
        refine wpAnyH_ready (rs := [11]) (by kernel_rfl) (by simp) ?_
        refine AllReadyH.cons rfl (fun K hK => ?_) AllReadyH.nil
        go_simp
        refine (HM1.out _).mono ?_
        rintro e w35 ⟨rfl, hBw35⟩
        have hSw35 := held_step hBw35 hSw34
        have hrw35 := (hBw35.block _ (heap_lt hrw34)).trans hrw34
        refine hK.out _ _ hSw35 (fun _ => ?_)
        clear hK K
        try simp only [Act.put, List.setIfInBounds_toArray, List.set_cons_zero, List.set_cons_succ]
        refine wpAnyH_ready (rs := [14]) (by kernel_rfl) (by simp) ?_
        refine AllReadyH.cons rfl (fun K hK => ?_) AllReadyH.nil
        go_simp
        refine (HM2.out _).mono ?_
        rintro e w36 ⟨rfl, hBw36⟩
        have hSw36 := held_step hBw36 hSw35
        have hrw36 := (hBw36.block _ (heap_lt hrw35)).trans hrw35
        refine hK.out _ _ hSw36 (fun _ => ?_)
        clear hK K
        try simp only [Act.put, List.setIfInBounds_toArray, List.set_cons_zero, List.set_cons_succ]
        refine wpAnyH_ready (rs := [17]) (by kernel_rfl) (by simp) ?_
        refine AllReadyH.cons rfl (fun K hK => ?_) AllReadyH.nil
        go_simp
        refine (HM3.out _).mono ?_
        rintro e w37 ⟨rfl, hBw37⟩
        have hSw37 := held_step hBw37 hSw36
        have hrw37 := (hBw37.block _ (heap_lt hrw36)).trans hrw36
        refine hK.out _ _ hSw37 (fun _ => ?_)
        clear hK K
        try simp only [Act.put, List.setIfInBounds_toArray, List.set_cons_zero, List.set_cons_succ]
        refine wpAnyH_ready (rs := [18]) (by kernel_rfl) (by simp) ?_
        refine AllReadyH.cons rfl (fun K hK => ?_) AllReadyH.nil
        go_simp
        refine (survey_any _ _ _ _ _).mono ?_
        rintro e w38 ⟨rfl, hBw38⟩
        have hSw38 := held_step hBw38 hSw37
        have hrw38 := (hBw38.block _ (heap_lt hrw37)).trans hrw37
        refine hK.out _ _ hSw38 (fun _ => ?_)
        clear hK K
        try simp only [Act.put, List.setIfInBounds_toArray, List.set_cons_zero, List.set_cons_succ]
        refine wpAnyH_ready (rs := [20]) (by kernel_rfl) (by simp) ?_
        refine AllReadyH.cons rfl (fun K hK => ?_) AllReadyH.nil
        rw [if_pos (by rfl)]
        refine wp_store_row 34 _ _ rfl _ _ rfl rfl _ _ hrw38 (by kernel_rfl) rfl (by simp [Value.oneCell']) ?_
        have hSw39 := held_row hSw38 hlw34 (#[I y0, I y1, I y2, I y3])
        refine hK.out _ _ hSw39 (fun _ => ?_)
        clear hK K
        try simp only [Act.put, List.setIfInBounds_toArray, List.set_cons_zero, List.set_cons_succ]
        have hrw39 := setRow_heap _ _ _ (#[I y0, I y1, I y2, I y3]) _ _ hrw38
        refine wpAnyH_done (by kernel_rfl) ?_ _
        show R _ _
        rw [HR.out]
        simp only [Act.put, List.setIfInBounds_toArray, List.set_cons_zero, List.set_cons_succ]
        exact ⟨w15.heap.size, ⟨_, _, _, _, _, _, _, _, _, _, _, _, _, _, _, _, _, _, _, rfl⟩, hrw39, hlw34, hSw39⟩
    · go_simp
      refine hK.out _ _ (held_alloc (held_start w1) _) (fun _ => ?_)
      clear hK K
      try simp only [Act.put, List.setIfInBounds_toArray, List.set_cons_zero, List.set_cons_succ]
      refine name_anyH ?_
      intro w40 hWw40
      have hrw40 : w40.heap[w1.drew.heap.size]? = some (.cells #[I 0, I 0, I 0, I 0] 34 (0, 0)) := by rw [hWw40]; exact heap_at _ _ rfl
      have hSw40 : Held w1 w40 := by rw [hWw40]; exact held_alloc (held_start w1) _
      have hlw40 : w1.heap.size ≤ w1.drew.heap.size := (held_start w1).2.2.size
      clear hWw40
      refine wpAnyH_ready (rs := [5]) (by kernel_rfl) (by simp) ?_
      refine AllReadyH.cons rfl (fun K hK => ?_) AllReadyH.nil
      go_simp
      refine (HM0.out _).mono ?_
      rintro e w41 ⟨rfl, hBw41⟩
      have hSw41 := held_step hBw41 hSw40
      have hrw41 := (hBw41.block _ (heap_lt hrw40)).trans hrw40
      refine hK.out _ _ hSw41 (fun _ => ?_)
      clear hK K
      try simp only [Act.put, List.setIfInBounds_toArray, List.set_cons_zero, List.set_cons_succ]
      refine wpAnyH_ready (rs := [11]) (by kernel_rfl) (by simp) ?_
      refine AllReadyH.cons rfl (fun K hK => ?_) AllReadyH.nil
      go_simp
      refine (HM1.out _).mono ?_
      rintro e w42 ⟨rfl, hBw42⟩
      have hSw42 := held_step hBw42 hSw41
      have hrw42 := (hBw42.block _ (heap_lt hrw41)).trans hrw41
      refine hK.out _ _ hSw42 (fun _ => ?_)
      clear hK K
      try simp only [Act.put, List.setIfInBounds_toArray, List.set_cons_zero, List.set_cons_succ]
      refine wpAnyH_ready (rs := [14]) (by kernel_rfl) (by simp) ?_
      refine AllReadyH.cons rfl (fun K hK => ?_) AllReadyH.nil
      go_simp
      refine (HM2.out _).mono ?_
      rintro e w43 ⟨rfl, hBw43⟩
      have hSw43 := held_step hBw43 hSw42
      have hrw43 := (hBw43.block _ (heap_lt hrw42)).trans hrw42
      refine hK.out _ _ hSw43 (fun _ => ?_)
      clear hK K
      try simp only [Act.put, List.setIfInBounds_toArray, List.set_cons_zero, List.set_cons_succ]
      refine wpAnyH_ready (rs := [17]) (by kernel_rfl) (by simp) ?_
      refine AllReadyH.cons rfl (fun K hK => ?_) AllReadyH.nil
      go_simp
      refine (HM3.out _).mono ?_
      rintro e w44 ⟨rfl, hBw44⟩
      have hSw44 := held_step hBw44 hSw43
      have hrw44 := (hBw44.block _ (heap_lt hrw43)).trans hrw43
      refine hK.out _ _ hSw44 (fun _ => ?_)
      clear hK K
      try simp only [Act.put, List.setIfInBounds_toArray, List.set_cons_zero, List.set_cons_succ]
      refine wpAnyH_ready (rs := [18]) (by kernel_rfl) (by simp) ?_
      refine AllReadyH.cons rfl (fun K hK => ?_) AllReadyH.nil
      go_simp
      refine (survey_any _ _ _ _ _).mono ?_
      rintro e w45 ⟨rfl, hBw45⟩
      have hSw45 := held_step hBw45 hSw44
      have hrw45 := (hBw45.block _ (heap_lt hrw44)).trans hrw44
      refine hK.out _ _ hSw45 (fun _ => ?_)
      clear hK K
      try simp only [Act.put, List.setIfInBounds_toArray, List.set_cons_zero, List.set_cons_succ]
      refine wpAnyH_ready (rs := [20]) (by kernel_rfl) (by simp) ?_
      refine AllReadyH.cons rfl (fun K hK => ?_) AllReadyH.nil
      rw [if_pos (by rfl)]
      refine wp_store_row 34 _ _ rfl _ _ rfl rfl _ _ hrw45 (by kernel_rfl) rfl (by simp [Value.oneCell']) ?_
      have hSw46 := held_row hSw45 hlw40 (#[I y0, I y1, I y2, I y3])
      refine hK.out _ _ hSw46 (fun _ => ?_)
      clear hK K
      try simp only [Act.put, List.setIfInBounds_toArray, List.set_cons_zero, List.set_cons_succ]
      have hrw46 := setRow_heap _ _ _ (#[I y0, I y1, I y2, I y3]) _ _ hrw45
      refine wpAnyH_done (by kernel_rfl) ?_ _
      show R _ _
      rw [HR.out]
      simp only [Act.put, List.setIfInBounds_toArray, List.set_cons_zero, List.set_cons_succ]
      exact ⟨w1.drew.heap.size, ⟨_, _, _, _, _, _, _, _, _, _, _, _, _, _, _, _, _, _, _, rfl⟩, hrw46, hlw40, hSw46⟩
  case rest =>
    intro a' w2 hra
    rw [HR.out] at hra
    clear HR
    obtain ⟨n, ⟨u35, u36, u37, u38, u39, u40, u41, u42, u43, u44, u45, u46, u47, u48, u49, u50, u51, u52, u53, rfl⟩, rY, hnY, hHE⟩ := hra
    subst hA
    try simp only [Act.put, List.setIfInBounds_toArray, List.set_cons_zero, List.set_cons_succ]

    have hB2 := hHE.2.2
    have lY : n < w2.heap.size := heap_lt rY
    replace rB := (hB2.block _ lB).trans rB
    replace lB := Nat.lt_of_lt_of_le lB hB2.size
    replace rN := (hB2.block _ lN).trans rN
    replace lN := Nat.lt_of_lt_of_le lN hB2.size
    have hb2 := hb1.trans (hB2.mono hb1.size)
    clear hHE hB2 hb1 hnY rM lM qM0 qM1 qM2 qM3 qB0 qB2 qB4 HM0 HM1 HM2 HM3 h8b
    have qB0 := cell_of_row w2 _ 0 _ _ _ rB
    have qB1 := cell_of_row w2 _ 1 _ _ _ rB
    have qB2 := cell_of_row w2 _ 2 _ _ _ rB
    have qB3 := cell_of_row w2 _ 3 _ _ _ rB
    have qB4 := cell_of_row w2 _ 4 _ _ _ rB
    simp only [List.getElem?_toArray, List.getElem?_cons_zero, List.getElem?_cons_succ] at qB0 qB1 qB2 qB3 qB4
    have qY0 := cell_of_row w2 _ 0 _ _ _ rY
    have qY1 := cell_of_row w2 _ 1 _ _ _ rY
    have qY2 := cell_of_row w2 _ 2 _ _ _ rY
    have qY3 := cell_of_row w2 _ 3 _ _ _ rY
    simp only [List.getElem?_toArray, List.getElem?_cons_zero, List.getElem?_cons_succ] at qY0 qY1 qY2 qY3
    have lB2 := lB
    have lY2 := lY
    have RB2 := Lib.hid rB
    have RN2 := Lib.hid rN
    have RY2 := Lib.hid rY
    have LN2 := Lib.hid lN
    go_wp2_with fail
    refine name_world ?_
    intro W3 hW3
    have hA3 : Below w2.heap.size w2 W3 := by rw [hW3]; exact (Below.refl _ _).alloc (Nat.le_refl _) _
    have rX : W3.heap[w2.heap.size]? = some (.cells #[.slice A0 b.secs.length k0, .slice A1 b.turns.length k1, .slice A2 b.svs.length k2, I b.rule, I b.days] 26 (0, 0)) := by rw [hW3]; exact heap_at _ _ rfl
    have z3 : W3.heap.size = w2.heap.size + 1 := by rw [hW3]; simp
    clear hW3
    replace rB := (hA3.block _ lB).trans rB
    replace lB := Nat.lt_of_lt_of_le lB hA3.size
    replace rN := (hA3.block _ lN).trans rN
    replace lN := Nat.lt_of_lt_of_le lN hA3.size
    replace rY := (hA3.block _ lY).trans rY
    replace lY := Nat.lt_of_lt_of_le lY hA3.size
    have hbW3 := hb2.trans (hA3.mono hb2.size)
    have HSVS := Lib.hid (show ∀ w', Held w2 w' → Sl w' w'.heap.size 4 (.slice A2 b.svs.length k2) b.svs.length (b.svs.flatMap cSv) from fun w' h => ((hb.below (hb2.trans (h.2.2.mono hb2.size)) (Nat.le_refl _)).more (Nat.le_trans hb2.size h.2.2.size)).svs)
    have HB2 := Lib.hid hb2
    have HBW3 := Lib.hid hbW3
    have HHB := Lib.hid hb
    have RX3 := Lib.hid rX
    have RB3 := Lib.hid rB
    have RN3 := Lib.hid rN
    have RY3 := Lib.hid rY
    have hH3 : Held w2 W3.drew := held_of hA3.drew
    clear hb2 hbW3 hb rX rB rN rY hA3 lB lY lN

    refine name_act ?_
    intro A hA
    obtain ⟨R, hR⟩ : ∃ R : Act → World → Prop, R = fun a' w' => ∃ g cap : Nat, (∃ u55 u56 u57 u58 u59 u60 u61 u62, a' = ((((((((A.put (some 55) u55).put (some 56) u56).put (some 57) u57).put (some 58) u58).put (some 59) u59).put (some 60) u60).put (some 61) u61).put (some 62) u62)) ∧ w'.heap[w2.heap.size]? = some (.cells #[.slice A0 b.secs.length k0, .slice A1 b.turns.length k1, (.slice (some ⟨g, 0, none⟩) (b.svs.length + 1) cap), I b.rule, I b.days] 26 (0, 0)) ∧ w'.ownsRow W3.heap.size 34 4 (.slice (some ⟨g, 0, none⟩) (b.svs.length + 1) cap) (b.svs.length + 1) (b.svs.flatMap cSv ++ cSv ⟨y0, y1, y2, y3⟩) ∧ Held w2 w' := ⟨_, rfl⟩
    have HR := Lib.hid hR
    clear hR
    refine wp_between R ?first5 ?rest5
    case first5 =>
      subst hA
      have hX3 : W3.drew.heap[w2.heap.size]? = _ := RX3.out
      refine wp_region_held_drew (S := fun w' => Held w2 w') (by kernel_rfl) hH3 (fun _ => ?_)
      refine wpAnyH_take (i := 1) (oi := { dst := some 56, op := Go.Op.fieldAddr 26 (Go.Operand.tmp 3) 2, type := 0, pos := "outright.go:188", after := #[], guard := none }) (v := ?v47) rfl (by kernel_rfl) (by kernel_rfl) (by kernel_rfl) (fun _ _ _ h => h) (Or.inl ⟨by rfl, ?hy47⟩) hH3 ?r47
      case hy47 =>
        intro w' hSw
        have hq := hSw.1
        clear hSw
        go_simp
        with_reducible rfl
      try simp only [Act.put, List.setIfInBounds_toArray, List.set_cons_zero, List.set_cons_succ]
      refine wpAnyH_take (i := 2) (oi := { dst := some 57, op := Go.Op.load 24 (Go.Operand.tmp 56), type := 24, pos := "outright.go:188", after := #[{ on := 1, ground := Go.Ground.data }], guard := none }) (v := ?v48) rfl (by kernel_rfl) (by kernel_rfl) (by kernel_rfl) (fun _ _ _ h => h) (Or.inl ⟨by rfl, ?hy48⟩) hH3 ?r48
      case hy48 =>
        intro w' hSw
        have hq := hSw.1
        clear hSw
        go_simp
        with_reducible rfl
      try simp only [Act.put, List.setIfInBounds_toArray, List.set_cons_zero, List.set_cons_succ]
      refine wpAnyH_take (i := 4) (oi := { dst := some 59, op := Go.Op.load 34 (Go.Operand.tmp 7), type := 34, pos := "outright.go:188", after := #[], guard := none }) (v := ?v49) rfl (by kernel_rfl) (by kernel_rfl) (by kernel_rfl) (fun _ _ _ h => h) (Or.inl ⟨by rfl, ?hy49⟩) hH3 ?r49
      case hy49 =>
        intro w' hSw
        have hq := hSw.1
        clear hSw
        go_simp
        with_reducible rfl
      try simp only [Act.put, List.setIfInBounds_toArray, List.set_cons_zero, List.set_cons_succ]
      refine wpAnyH_ready (rs := [0, 5]) (by kernel_rfl) (by simp) ?_
      refine AllReadyH.cons rfl (fun K hK => ?_) (AllReadyH.cons rfl (fun K hK => ?_) AllReadyH.nil)
      · go_simp
        refine hK.out _ _ (held_alloc hH3 _) (fun _ => ?_)
        clear hK K
        try simp only [Act.put, List.setIfInBounds_toArray, List.set_cons_zero, List.set_cons_succ]
        refine name_anyH ?_
        intro w50 hWw50
        have hAw50 : Below W3.drew.heap.size W3.drew w50 := by rw [hWw50]; exact (Below.refl _ _).alloc (Nat.le_refl _) _
        have hSw50 : Held w2 w50 := by rw [hWw50]; exact held_alloc hH3 _
        have how50 : w50.ownsRow W3.heap.size 34 4 (.slice (some ⟨W3.drew.heap.size, 0, none⟩) 0 0) 0 [] := ⟨rfl, .inr ⟨W3.drew.heap.size, 0, #[], rfl, (Nat.le_refl _), by rw [hWw50]; exact heap_at _ _ rfl, Nat.le_refl _, by unfold maxLen; omega, rfl, rfl⟩⟩
        have hzw50 : W3.heap.size ≤ w50.heap.size := Nat.le_trans (Nat.le_refl _) hAw50.size
        clear hWw50
        have hrXw50 := (hAw50.block _ (heap_lt hX3)).trans hX3
        refine wpAnyH_ready (rs := [3, 5]) (by kernel_rfl) (by simp) ?_
        refine AllReadyH.cons rfl (fun K hK => ?_) (AllReadyH.cons rfl (fun K hK => ?_) AllReadyH.nil)
        · obtain ⟨vw51, w51, hrunw51, how51, hgw51⟩ := append_svs W3.heap.size (.slice (some ⟨W3.drew.heap.size, 0, none⟩) 0 0) (.slice A2 b.svs.length k2) b.svs w50 hzw50 how50 (HSVS.out _ hSw50) (by have := HL8.out; omega) 24
          have hAw51 : Below W3.heap.size w50 w51 := ⟨hgw51.os, hgw51.tape, hgw51.output, hgw51.size, fun i hi => hgw51.block i (Nat.lt_of_lt_of_le hi hzw50) (fun e => by have := (how50.lt i e.symm).1; omega)⟩
          rw [if_pos (by rfl)]
          refine wp_append_run (t := 24) (v0 := (.slice (some ⟨W3.drew.heap.size, 0, none⟩) 0 0)) (vx := .slice A2 b.svs.length k2) (v' := vw51) (w' := w51) (by rfl) (by simp [go_sem]) (by simp [go_sem]) hrunw51 ?_
          have hSw51 : Held w2 w51 := held_of (hSw50.2.2.trans (hAw51.mono (by omega)))
          refine hK.out _ _ hSw51 (fun _ => ?_)
          clear hK K
          try simp only [Act.put, List.setIfInBounds_toArray, List.set_cons_zero, List.set_cons_succ]
          have hzw51 : W3.heap.size ≤ w51.heap.size := Nat.le_trans hzw50 hAw51.size
          have hrXw51 := (hAw51.block _ (by omega)).trans hrXw50
          refine wpAnyH_ready (rs := [5]) (by kernel_rfl) (by simp) ?_
          refine AllReadyH.cons rfl (fun K hK => ?_) AllReadyH.nil
          go_simp
          refine hK.out _ _ (held_alloc hSw51 _) (fun _ => ?_)
          clear hK K
          try simp only [Act.put, List.setIfInBounds_toArray, List.set_cons_zero, List.set_cons_succ]
          refine name_anyH ?_
          intro w52 hWw52
          have hAw52 : Below w51.heap.size w51 w52 := by rw [hWw52]; exact (Below.refl _ _).alloc (Nat.le_refl _) _
          have hSw52 : Held w2 w52 := by rw [hWw52]; exact held_alloc hSw51 _
          have hr5w52 : w52.heap[w51.heap.size]? = some (.cells #[I y0, I y1, I y2, I y3] 34 (0, 0)) := by rw [hWw52]; exact heap_at _ _ rfl
          have hl5w52 : w51.heap.size < w52.heap.size := heap_lt hr5w52
          have hzw52 : W3.heap.size ≤ w52.heap.size := Nat.le_trans hzw51 hAw52.size
          have how52 : w52.ownsRow W3.heap.size 34 4 vw51 b.svs.length (b.svs.flatMap cSv) := by rw [hWw52]; exact how51.alloc _
          clear hWw52
          have hrXw52 := (hAw52.block _ (heap_lt hrXw51)).trans hrXw51
          refine wpAnyH_ready (rs := [6]) (by kernel_rfl) (by simp) ?_
          refine AllReadyH.cons rfl (fun K hK => ?_) AllReadyH.nil
          obtain ⟨i0, hi, hq0, hq1, hq2⟩ := info_parts infoSv
          obtain ⟨vw53, w53, hrunw53, how53, hgw53, -, -⟩ := run_append_own_at (P := Tryz.prog) w52 W3.heap.size 24 24 34 i0 (vSv ⟨0, 0, 0, 0⟩) 4 32 underSvs hi hq0 hq1 hq2 rfl (by decide) vw51 b.svs.length (b.svs.flatMap cSv) how52 ⟨w51.heap.size, 0, none⟩ 1 1 (cSv ⟨y0, y1, y2, y3⟩) rfl (fun j u hj => by rw [Addr.add_lit, Nat.zero_add, cell_of_row _ _ j _ _ _ hr5w52]; simpa [cSv] using hj) (by intro u hu; simp [cSv] at hu; rcases hu with rfl | rfl | rfl | rfl <;> rfl) (by have := HL8.out; unfold maxLen; omega) (by have := HL8.out; omega) hzw52
          have hAw53 : Below W3.heap.size w52 w53 := ⟨hgw53.os, hgw53.tape, hgw53.output, hgw53.size, fun i hi => hgw53.block i (Nat.lt_of_lt_of_le hi hzw52) (fun e => by have := (how52.lt i e.symm).1; omega)⟩
          clear hi hq0 hq1 hq2
          rw [if_pos (by rfl)]
          refine wp_append_run (t := 24) (v0 := vw51) (vx := .slice (some ⟨w51.heap.size, 0, none⟩) 1 1) (v' := vw53) (w' := w53) (by rfl) (by simp [go_sem]) (by simp [go_sem]) hrunw53 ?_
          have hSw53 : Held w2 w53 := held_of (hSw52.2.2.trans (hAw53.mono (by omega)))
          refine hK.out _ _ hSw53 (fun _ => ?_)
          clear hK K
          have hzw53 : W3.heap.size ≤ w53.heap.size := Nat.le_trans hzw52 hAw53.size
          have hrXw53 := (hAw53.block _ (by omega)).trans hrXw52
          rcases how53 with ⟨hxw53, ⟨he, hcw53⟩ | ⟨gw53, capw53, curw53, rfl, hxxw53⟩⟩
          · exfalso; simp at hcw53
          have how53 : w53.ownsRow W3.heap.size 34 4 (.slice (some ⟨gw53, 0, none⟩) (b.svs.length + 1) capw53) (b.svs.length + 1) (b.svs.flatMap cSv ++ cSv ⟨y0, y1, y2, y3⟩) := ⟨hxw53, .inr ⟨gw53, capw53, curw53, rfl, hxxw53⟩⟩
          try simp only [Act.put, List.setIfInBounds_toArray, List.set_cons_zero, List.set_cons_succ]
          have qXw53 := cell_of_row w53 _ 2 _ _ _ hrXw53
          simp only [List.getElem?_toArray, List.getElem?_cons_zero, List.getElem?_cons_succ] at qXw53
          have fXw53 : w53.frozen? ⟨w2.heap.size, 2, none⟩ = false := by simp [World.frozen?, hrXw53]
          refine wpAnyH_take (i := 7) (oi := { dst := some 62, op := Go.Op.fieldAddr 26 (Go.Operand.tmp 8) 2, type := 0, pos := "outright.go:188", after := #[{ on := 0, ground := Go.Ground.phase }, { on := 1, ground := Go.Ground.phase }, { on := 2, ground := Go.Ground.phase }, { on := 3, ground := Go.Ground.phase }, { on := 4, ground := Go.Ground.phase }, { on := 5, ground := Go.Ground.phase }, { on := 6, ground := Go.Ground.phase }], guard := none }) (v := ?v54) rfl (by kernel_rfl) (by kernel_rfl) (by kernel_rfl) (fun _ _ _ h => h) (Or.inl ⟨by rfl, ?hy54⟩) hSw53 ?r54
          case hy54 =>
            intro w' hSw
            have hq := hSw.1
            clear hSw
            go_simp
            with_reducible rfl
          try simp only [Act.put, List.setIfInBounds_toArray, List.set_cons_zero, List.set_cons_succ]
          refine wpAnyH_ready (rs := [8]) (by kernel_rfl) (by simp) ?_
          refine AllReadyH.cons rfl (fun K hK => ?_) AllReadyH.nil
          go_simp
          have hSw55 : Held w2 (w53.setCell ⟨w2.heap.size, 2, none⟩ (.slice (some ⟨gw53, 0, none⟩) (b.svs.length + 1) capw53)) := held_of (hSw53.2.2.setCell (p := ⟨w2.heap.size, 2, none⟩) (Nat.le_refl _) _)
          refine hK.out _ _ hSw55 (fun _ => ?_)
          clear hK K
          try simp only [Act.put, List.setIfInBounds_toArray, List.set_cons_zero, List.set_cons_succ]
          refine wpAnyH_done (by kernel_rfl) ?_ _
          show R _ _
          rw [HR.out]
          simp only [Act.put, List.setIfInBounds_toArray, List.set_cons_zero, List.set_cons_succ]
          refine ⟨gw53, capw53, ⟨_, _, _, _, _, _, _, _, rfl⟩, by simp [World.setCell, Array.getElem?_modify, hrXw53], how53.kept (row := some w2.heap.size) ⟨rfl, rfl, rfl, by simp [World.setCell], fun k _ hk => Below.heap_setCell _ _ _ _ (fun e => hk (by rw [e]))⟩ (.inr ?_), hSw55⟩
          have := (how53.lt gw53 rfl).1
          simp [Value.ownBlock]
          omega
        · go_simp
          refine hK.out _ _ (held_alloc hSw50 _) (fun _ => ?_)
          clear hK K
          try simp only [Act.put, List.setIfInBounds_toArray, List.set_cons_zero, List.set_cons_succ]
          refine name_anyH ?_
          intro w56 hWw56
          have hAw56 : Below w50.heap.size w50 w56 := by rw [hWw56]; exact (Below.refl _ _).alloc (Nat.le_refl _) _
          have hSw56 : Held w2 w56 := by rw [hWw56]; exact held_alloc hSw50 _
          have hr5w56 : w56.heap[w50.heap.size]? = some (.cells #[I y0, I y1, I y2, I y3] 34 (0, 0)) := by rw [hWw56]; exact heap_at _ _ rfl
          have hl5w56 : w50.heap.size < w56.heap.size := heap_lt hr5w56
          have hzw56 : W3.heap.size ≤ w56.heap.size := Nat.le_trans hzw50 hAw56.size
          have how56 : w56.ownsRow W3.heap.size 34 4 (.slice (some ⟨W3.drew.heap.size, 0, none⟩) 0 0) 0 [] := by rw [hWw56]; exact how50.alloc _
          clear hWw56
          have hrXw56 := (hAw56.block _ (heap_lt hrXw50)).trans hrXw50
          refine wpAnyH_ready (rs := [3]) (by kernel_rfl) (by simp) ?_
          refine AllReadyH.cons rfl (fun K hK => ?_) AllReadyH.nil
          obtain ⟨vw57, w57, hrunw57, how57, hgw57⟩ := append_svs W3.heap.size (.slice (some ⟨W3.drew.heap.size, 0, none⟩) 0 0) (.slice A2 b.svs.length k2) b.svs w56 hzw56 how56 (HSVS.out _ hSw56) (by have := HL8.out; omega) 24
          have hAw57 : Below W3.heap.size w56 w57 := ⟨hgw57.os, hgw57.tape, hgw57.output, hgw57.size, fun i hi => hgw57.block i (Nat.lt_of_lt_of_le hi hzw56) (fun e => by have := (how56.lt i e.symm).1; omega)⟩
          rw [if_pos (by rfl)]
          refine wp_append_run (t := 24) (v0 := (.slice (some ⟨W3.drew.heap.size, 0, none⟩) 0 0)) (vx := .slice A2 b.svs.length k2) (v' := vw57) (w' := w57) (by rfl) (by simp [go_sem]) (by simp [go_sem]) hrunw57 ?_
          have hSw57 : Held w2 w57 := held_of (hSw56.2.2.trans (hAw57.mono (by omega)))
          refine hK.out _ _ hSw57 (fun _ => ?_)
          clear hK K
          try simp only [Act.put, List.setIfInBounds_toArray, List.set_cons_zero, List.set_cons_succ]
          have hzw57 : W3.heap.size ≤ w57.heap.size := Nat.le_trans hzw56 hAw57.size
          have hrXw57 := (hAw57.block _ (by omega)).trans hrXw56
          have hr5w57 := (hgw57.block _ (heap_lt hr5w56) (fun e => by have h0 : W3.drew.heap.size = W3.heap.size := rfl; have h1 := hl5w56; have h2 := (how50.lt _ e.symm).2; simp [Value.ownBlock] at e; omega)).trans hr5w56
          refine wpAnyH_ready (rs := [6]) (by kernel_rfl) (by simp) ?_
          refine AllReadyH.cons rfl (fun K hK => ?_) AllReadyH.nil
          obtain ⟨i0, hi, hq0, hq1, hq2⟩ := info_parts infoSv
          obtain ⟨vw58, w58, hrunw58, how58, hgw58, -, -⟩ := run_append_own_at (P := Tryz.prog) w57 W3.heap.size 24 24 34 i0 (vSv ⟨0, 0, 0, 0⟩) 4 32 underSvs hi hq0 hq1 hq2 rfl (by decide) vw57 b.svs.length (b.svs.flatMap cSv) how57 ⟨w50.heap.size, 0, none⟩ 1 1 (cSv ⟨y0, y1, y2, y3⟩) rfl (fun j u hj => by rw [Addr.add_lit, Nat.zero_add, cell_of_row _ _ j _ _ _ hr5w57]; simpa [cSv] using hj) (by intro u hu; simp [cSv] at hu; rcases hu with rfl | rfl | rfl | rfl <;> rfl) (by have := HL8.out; unfold maxLen; omega) (by have := HL8.out; omega) hzw57
          have hAw58 : Below W3.heap.size w57 w58 := ⟨hgw58.os, hgw58.tape, hgw58.output, hgw58.size, fun i hi => hgw58.block i (Nat.lt_of_lt_of_le hi hzw57) (fun e => by have := (how57.lt i e.symm).1; omega)⟩
          clear hi hq0 hq1 hq2
          rw [if_pos (by rfl)]
          refine wp_append_run (t := 24) (v0 := vw57) (vx := .slice (some ⟨w50.heap.size, 0, none⟩) 1 1) (v' := vw58) (w' := w58) (by rfl) (by simp [go_sem]) (by simp [go_sem]) hrunw58 ?_
          have hSw58 : Held w2 w58 := held_of (hSw57.2.2.trans (hAw58.mono (by omega)))
          refine hK.out _ _ hSw58 (fun _ => ?_)
          clear hK K
          have hzw58 : W3.heap.size ≤ w58.heap.size := Nat.le_trans hzw57 hAw58.size
          have hrXw58 := (hAw58.block _ (by omega)).trans hrXw57
          rcases how58 with ⟨hxw58, ⟨he, hcw58⟩ | ⟨gw58, capw58, curw58, rfl, hxxw58⟩⟩
          · exfalso; simp at hcw58
          have how58 : w58.ownsRow W3.heap.size 34 4 (.slice (some ⟨gw58, 0, none⟩) (b.svs.length + 1) capw58) (b.svs.length + 1) (b.svs.flatMap cSv ++ cSv ⟨y0, y1, y2, y3⟩) := ⟨hxw58, .inr ⟨gw58, capw58, curw58, rfl, hxxw58⟩⟩
          try simp only [Act.put, List.setIfInBounds_toArray, List.set_cons_zero, List.set_cons_succ]
          have qXw58 := cell_of_row w58 _ 2 _ _ _ hrXw58
          simp only [List.getElem?_toArray, List.getElem?_cons_zero, List.getElem?_cons_succ] at qXw58
          have fXw58 : w58.frozen? ⟨w2.heap.size, 2, none⟩ = false := by simp [World.frozen?, hrXw58]
          refine wpAnyH_take (i := 7) (oi := { dst := some 62, op := Go.Op.fieldAddr 26 (Go.Operand.tmp 8) 2, type := 0, pos := "outright.go:188", after := #[{ on := 0, ground := Go.Ground.phase }, { on := 1, ground := Go.Ground.phase }, { on := 2, ground := Go.Ground.phase }, { on := 3, ground := Go.Ground.phase }, { on := 4, ground := Go.Ground.phase }, { on := 5, ground := Go.Ground.phase }, { on := 6, ground := Go.Ground.phase }], guard := none }) (v := ?v59) rfl (by kernel_rfl) (by kernel_rfl) (by kernel_rfl) (fun _ _ _ h => h) (Or.inl ⟨by rfl, ?hy59⟩) hSw58 ?r59
          case hy59 =>
            intro w' hSw
            have hq := hSw.1
            clear hSw
            go_simp
            with_reducible rfl
          try simp only [Act.put, List.setIfInBounds_toArray, List.set_cons_zero, List.set_cons_succ]
          refine wpAnyH_ready (rs := [8]) (by kernel_rfl) (by simp) ?_
          refine AllReadyH.cons rfl (fun K hK => ?_) AllReadyH.nil
          go_simp
          have hSw60 : Held w2 (w58.setCell ⟨w2.heap.size, 2, none⟩ (.slice (some ⟨gw58, 0, none⟩) (b.svs.length + 1) capw58)) := held_of (hSw58.2.2.setCell (p := ⟨w2.heap.size, 2, none⟩) (Nat.le_refl _) _)
          refine hK.out _ _ hSw60 (fun _ => ?_)
          clear hK K
          try simp only [Act.put, List.setIfInBounds_toArray, List.set_cons_zero, List.set_cons_succ]
          refine wpAnyH_done (by kernel_rfl) ?_ _
          show R _ _
          rw [HR.out]
          simp only [Act.put, List.setIfInBounds_toArray, List.set_cons_zero, List.set_cons_succ]
          refine ⟨gw58, capw58, ⟨_, _, _, _, _, _, _, _, rfl⟩, by simp [World.setCell, Array.getElem?_modify, hrXw58], how58.kept (row := some w2.heap.size) ⟨rfl, rfl, rfl, by simp [World.setCell], fun k _ hk => Below.heap_setCell _ _ _ _ (fun e => hk (by rw [e]))⟩ (.inr ?_), hSw60⟩
          have := (how58.lt gw58 rfl).1
          simp [Value.ownBlock]
          omega
      · go_simp
        refine hK.out _ _ (held_alloc hH3 _) (fun _ => ?_)
        clear hK K
        try simp only [Act.put, List.setIfInBounds_toArray, List.set_cons_zero, List.set_cons_succ]
        refine name_anyH ?_
        intro w61 hWw61
        have hAw61 : Below W3.drew.heap.size W3.drew w61 := by rw [hWw61]; exact (Below.refl _ _).alloc (Nat.le_refl _) _
        have hSw61 : Held w2 w61 := by rw [hWw61]; exact held_alloc hH3 _
        have hr5w61 : w61.heap[W3.drew.heap.size]? = some (.cells #[I y0, I y1, I y2, I y3] 34 (0, 0)) := by rw [hWw61]; exact heap_at _ _ rfl
        have hl5w61 : W3.drew.heap.size < w61.heap.size := heap_lt hr5w61
        have hzw61 : W3.heap.size ≤ w61.heap.size := Nat.le_trans (Nat.le_refl _) hAw61.size
        clear hWw61
        have hrXw61 := (hAw61.block _ (heap_lt hX3)).trans hX3
        refine wpAnyH_ready (rs := [0]) (by kernel_rfl) (by simp) ?_
        refine AllReadyH.cons rfl (fun K hK => ?_) AllReadyH.nil
        go_simp
        refine hK.out _ _ (held_alloc hSw61 _) (fun _ => ?_)
        clear hK K
        try simp only [Act.put, List.setIfInBounds_toArray, List.set_cons_zero, List.set_cons_succ]
        refine name_anyH ?_
        intro w62 hWw62
        have hAw62 : Below w61.heap.size w61 w62 := by rw [hWw62]; exact (Below.refl _ _).alloc (Nat.le_refl _) _
        have hSw62 : Held w2 w62 := by rw [hWw62]; exact held_alloc hSw61 _
        have how62 : w62.ownsRow W3.heap.size 34 4 (.slice (some ⟨w61.heap.size, 0, none⟩) 0 0) 0 [] := ⟨rfl, .inr ⟨w61.heap.size, 0, #[], rfl, hzw61, by rw [hWw62]; exact heap_at _ _ rfl, Nat.le_refl _, by unfold maxLen; omega, rfl, rfl⟩⟩
        have hzw62 : W3.heap.size ≤ w62.heap.size := Nat.le_trans hzw61 hAw62.size
        clear hWw62
        have hrXw62 := (hAw62.block _ (heap_lt hrXw61)).trans hrXw61
        have hr5w62 := (hAw62.block _ (heap_lt hr5w61)).trans hr5w61
        refine wpAnyH_ready (rs := [3]) (by kernel_rfl) (by simp) ?_
        refine AllReadyH.cons rfl (fun K hK => ?_) AllReadyH.nil
        obtain ⟨vw63, w63, hrunw63, how63, hgw63⟩ := append_svs W3.heap.size (.slice (some ⟨w61.heap.size, 0, none⟩) 0 0) (.slice A2 b.svs.length k2) b.svs w62 hzw62 how62 (HSVS.out _ hSw62) (by have := HL8.out; omega) 24
        have hAw63 : Below W3.heap.size w62 w63 := ⟨hgw63.os, hgw63.tape, hgw63.output, hgw63.size, fun i hi => hgw63.block i (Nat.lt_of_lt_of_le hi hzw62) (fun e => by have := (how62.lt i e.symm).1; omega)⟩
        rw [if_pos (by rfl)]
        refine wp_append_run (t := 24) (v0 := (.slice (some ⟨w61.heap.size, 0, none⟩) 0 0)) (vx := .slice A2 b.svs.length k2) (v' := vw63) (w' := w63) (by rfl) (by simp [go_sem]) (by simp [go_sem]) hrunw63 ?_
        have hSw63 : Held w2 w63 := held_of (hSw62.2.2.trans (hAw63.mono (by omega)))
        refine hK.out _ _ hSw63 (fun _ => ?_)
        clear hK K
        try simp only [Act.put, List.setIfInBounds_toArray, List.set_cons_zero, List.set_cons_succ]
        have hzw63 : W3.heap.size ≤ w63.heap.size := Nat.le_trans hzw62 hAw63.size
        have hrXw63 := (hAw63.block _ (by omega)).trans hrXw62
        have hr5w63 := (hgw63.block _ (heap_lt hr5w62) (fun e => by have h0 : W3.drew.heap.size = W3.heap.size := rfl; have h1 := hl5w61; simp [Value.ownBlock] at e; omega)).trans hr5w62
        refine wpAnyH_ready (rs := [6]) (by kernel_rfl) (by simp) ?_
        refine AllReadyH.cons rfl (fun K hK => ?_) AllReadyH.nil
        obtain ⟨i0, hi, hq0, hq1, hq2⟩ := info_parts infoSv
        obtain ⟨vw64, w64, hrunw64, how64, hgw64, -, -⟩ := run_append_own_at (P := Tryz.prog) w63 W3.heap.size 24 24 34 i0 (vSv ⟨0, 0, 0, 0⟩) 4 32 underSvs hi hq0 hq1 hq2 rfl (by decide) vw63 b.svs.length (b.svs.flatMap cSv) how63 ⟨W3.drew.heap.size, 0, none⟩ 1 1 (cSv ⟨y0, y1, y2, y3⟩) rfl (fun j u hj => by rw [Addr.add_lit, Nat.zero_add, cell_of_row _ _ j _ _ _ hr5w63]; simpa [cSv] using hj) (by intro u hu; simp [cSv] at hu; rcases hu with rfl | rfl | rfl | rfl <;> rfl) (by have := HL8.out; unfold maxLen; omega) (by have := HL8.out; omega) hzw63
        have hAw64 : Below W3.heap.size w63 w64 := ⟨hgw64.os, hgw64.tape, hgw64.output, hgw64.size, fun i hi => hgw64.block i (Nat.lt_of_lt_of_le hi hzw63) (fun e => by have := (how63.lt i e.symm).1; omega)⟩
        clear hi hq0 hq1 hq2
        rw [if_pos (by rfl)]
        refine wp_append_run (t := 24) (v0 := vw63) (vx := .slice (some ⟨W3.drew.heap.size, 0, none⟩) 1 1) (v' := vw64) (w' := w64) (by rfl) (by simp [go_sem]) (by simp [go_sem]) hrunw64 ?_
        have hSw64 : Held w2 w64 := held_of (hSw63.2.2.trans (hAw64.mono (by omega)))
        refine hK.out _ _ hSw64 (fun _ => ?_)
        clear hK K
        have hzw64 : W3.heap.size ≤ w64.heap.size := Nat.le_trans hzw63 hAw64.size
        have hrXw64 := (hAw64.block _ (by omega)).trans hrXw63
        rcases how64 with ⟨hxw64, ⟨he, hcw64⟩ | ⟨gw64, capw64, curw64, rfl, hxxw64⟩⟩
        · exfalso; simp at hcw64
        have how64 : w64.ownsRow W3.heap.size 34 4 (.slice (some ⟨gw64, 0, none⟩) (b.svs.length + 1) capw64) (b.svs.length + 1) (b.svs.flatMap cSv ++ cSv ⟨y0, y1, y2, y3⟩) := ⟨hxw64, .inr ⟨gw64, capw64, curw64, rfl, hxxw64⟩⟩
        try simp only [Act.put, List.setIfInBounds_toArray, List.set_cons_zero, List.set_cons_succ]
        have qXw64 := cell_of_row w64 _ 2 _ _ _ hrXw64
        simp only [List.getElem?_toArray, List.getElem?_cons_zero, List.getElem?_cons_succ] at qXw64
        have fXw64 : w64.frozen? ⟨w2.heap.size, 2, none⟩ = false := by simp [World.frozen?, hrXw64]
        refine wpAnyH_take (i := 7) (oi := { dst := some 62, op := Go.Op.fieldAddr 26 (Go.Operand.tmp 8) 2, type := 0, pos := "outright.go:188", after := #[{ on := 0, ground := Go.Ground.phase }, { on := 1, ground := Go.Ground.phase }, { on := 2, ground := Go.Ground.phase }, { on := 3, ground := Go.Ground.phase }, { on := 4, ground := Go.Ground.phase }, { on := 5, ground := Go.Ground.phase }, { on := 6, ground := Go.Ground.phase }], guard := none }) (v := ?v65) rfl (by kernel_rfl) (by kernel_rfl) (by kernel_rfl) (fun _ _ _ h => h) (Or.inl ⟨by rfl, ?hy65⟩) hSw64 ?r65
        case hy65 =>
          intro w' hSw
          have hq := hSw.1
          clear hSw
          go_simp
          with_reducible rfl
        try simp only [Act.put, List.setIfInBounds_toArray, List.set_cons_zero, List.set_cons_succ]
        refine wpAnyH_ready (rs := [8]) (by kernel_rfl) (by simp) ?_
        refine AllReadyH.cons rfl (fun K hK => ?_) AllReadyH.nil
        go_simp
        have hSw66 : Held w2 (w64.setCell ⟨w2.heap.size, 2, none⟩ (.slice (some ⟨gw64, 0, none⟩) (b.svs.length + 1) capw64)) := held_of (hSw64.2.2.setCell (p := ⟨w2.heap.size, 2, none⟩) (Nat.le_refl _) _)
        refine hK.out _ _ hSw66 (fun _ => ?_)
        clear hK K
        try simp only [Act.put, List.setIfInBounds_toArray, List.set_cons_zero, List.set_cons_succ]
        refine wpAnyH_done (by kernel_rfl) ?_ _
        show R _ _
        rw [HR.out]
        simp only [Act.put, List.setIfInBounds_toArray, List.set_cons_zero, List.set_cons_succ]
        refine ⟨gw64, capw64, ⟨_, _, _, _, _, _, _, _, rfl⟩, by simp [World.setCell, Array.getElem?_modify, hrXw64], how64.kept (row := some w2.heap.size) ⟨rfl, rfl, rfl, by simp [World.setCell], fun k _ hk => Below.heap_setCell _ _ _ _ (fun e => hk (by rw [e]))⟩ (.inr ?_), hSw66⟩
        have := (how64.lt gw64 rfl).1
        simp [Value.ownBlock]
        omega
    case rest5 =>
      intro a' w3 hra
      rw [HR.out] at hra
      clear HR
      obtain ⟨g, cap, ⟨u55, u56, u57, u58, u59, u60, u61, u62, rfl⟩, rX, hown, hHE⟩ := hra
      subst hA
      try simp only [Act.put, List.setIfInBounds_toArray, List.set_cons_zero, List.set_cons_succ]

      have rB := (hHE.2.2.block _ lB2).trans RB2.out
      have lB := Nat.lt_of_lt_of_le lB2 hHE.2.2.size
      have rN := (hHE.2.2.block _ LN2.out).trans RN2.out
      have lN := Nat.lt_of_lt_of_le LN2.out hHE.2.2.size
      have rY := (hHE.2.2.block _ lY2).trans RY2.out
      have lY := Nat.lt_of_lt_of_le lY2 hHE.2.2.size
      have lX := heap_lt rX
      have hb_w3 : Below w.heap.size w w3 := HB2.out.trans (hHE.2.2.mono HB2.out.size)
      have HBw3 := Lib.hid hb_w3
      clear hHE qB0 qB1 qB2 qB3 qB4 qY0 qY1 qY2 qY3 RB2 RN2 RY2 LN2 HB2 HSVS HBW3 RX3 RB3 RN3 RY3 hH3 z3 lB2 lY2
      obtain ⟨y, hy⟩ : ∃ y : Ch.Sv, y = ⟨y0, y1, y2, y3⟩ := ⟨_, rfl⟩
      have hyc : cSv ⟨y0, y1, y2, y3⟩ = cSv y := by rw [hy]
      have hyv : (.agg #[I y0, I y1, I y2, I y3] : Value) = vSv y := by rw [hy]
      have HRBb := Lib.hid (show ∀ W', Below w3.heap.size w3 W' → RB W' W'.heap.size b (.slice A0 b.secs.length k0) (.slice A1 b.turns.length k1) (.slice A2 b.svs.length k2) from fun W' h => (HHB.out.below (HBw3.out.trans (h.mono HBw3.out.size)) (Nat.le_refl _)).more (Nat.le_trans HBw3.out.size h.size))
      have HRBx := Lib.hid (show ∀ W', Below w3.heap.size w3 W' → RB W' W'.heap.size (Ch.moreB b y) (.slice A0 b.secs.length k0) (.slice A1 b.turns.length k1) (.slice (some ⟨g, 0, none⟩) (b.svs.length + 1) cap) from fun W' h => ⟨(HRBb.out W' h).secs, (HRBb.out W' h).turns, by
        have h1 := (sl_ownN hown (Nat.le_refl _)).below h (Nat.le_refl _)
        have h2 := h1.more h.size
        rw [hyc] at h2
        have e1 : (Ch.moreB b y).svs.length = b.svs.length + 1 := by simp [Ch.moreB]
        have e2 : (Ch.moreB b y).svs.flatMap cSv = b.svs.flatMap cSv ++ cSv y := by simp [Ch.moreB]
        rw [e1, e2]
        exact h2⟩)
      have HYS' := Lib.hid (show Ch.isSurvey b y = true by rw [hy]; exact HYS.out)
      obtain ⟨hck, hcs⟩ := Ch.more_cases HVAL.out HYS'.out HL8.out
      obtain ⟨E, hE⟩ : ∃ E : Int, Ch.studyE b (Ch.isSurvey b y) = E := ⟨_, rfl⟩
      obtain ⟨ft, hft⟩ : ∃ x : Bool, Ch.fitsR b y = x := ⟨_, rfl⟩
      obtain ⟨is, his⟩ : ∃ x : Bool, Ch.right (Ch.moreB b y) = x := ⟨_, rfl⟩
      have c1 := fun W' h => Fits_any b (.slice A0 b.secs.length k0) (.slice A1 b.turns.length k1) (.slice A2 b.svs.length k2) y W' (HRBb.out W' h)
      have c2 := fun W' h => Right_any (Ch.moreB b y) (.slice A0 b.secs.length k0) (.slice A1 b.turns.length k1) (.slice (some ⟨g, 0, none⟩) (b.svs.length + 1) cap) W' (HRBx.out W' h)
      simp only [hE, hft] at c1
      simp only [his, hck] at c2
      rw [hE, hft, his] at hcs
      have C1 := Lib.hid c1
      have C2 := Lib.hid c2
      have HCS := Lib.hid hcs
      have HOWN := Lib.hid hown
      have hrx : vBk (.slice A0 b.secs.length k0) (.slice A1 b.turns.length k1) (.slice (some ⟨g, 0, none⟩) (b.svs.length + 1) cap) (Ch.moreB b y).rule (Ch.moreB b y).days = vBk (.slice A0 b.secs.length k0) (.slice A1 b.turns.length k1) (.slice (some ⟨g, 0, none⟩) (b.svs.length + 1) cap) b.rule b.days := rfl
      have HRX := Lib.hid hrx
      clear c1 c2 hcs hE hft his hck hown hrx hyc
      have hb0 : Below w3.heap.size w3 w3 := Below.refl _ _
      have HYV := Lib.hid hyv
      have HY := Lib.hid hy
      clear hyv hy hb_w3
      have qB0 := cell_of_row w3 _ 0 _ _ _ rB
      have qB1 := cell_of_row w3 _ 1 _ _ _ rB
      have qB2 := cell_of_row w3 _ 2 _ _ _ rB
      have qB3 := cell_of_row w3 _ 3 _ _ _ rB
      have qB4 := cell_of_row w3 _ 4 _ _ _ rB
      simp only [List.getElem?_toArray, List.getElem?_cons_zero, List.getElem?_cons_succ] at qB0 qB1 qB2 qB3 qB4
      have qY0 := cell_of_row w3 _ 0 _ _ _ rY
      have qY1 := cell_of_row w3 _ 1 _ _ _ rY
      have qY2 := cell_of_row w3 _ 2 _ _ _ rY
      have qY3 := cell_of_row w3 _ 3 _ _ _ rY
      simp only [List.getElem?_toArray, List.getElem?_cons_zero, List.getElem?_cons_succ] at qY0 qY1 qY2 qY3
      go_wp2_with fail
      clear qB0 qB1 qB2 qB3 qB4
      clear qY0 qY1 qY2 qY3
      rw [HYV.out]
      refine (C1.out _ hb0).mono ?_
      rintro e w4 ⟨rfl, hB_w4⟩
      replace rB := (hB_w4.block _ lB).trans rB
      replace lB := Nat.lt_of_lt_of_le lB hB_w4.size
      replace rN := (hB_w4.block _ lN).trans rN
      replace lN := Nat.lt_of_lt_of_le lN hB_w4.size
      replace rX := (hB_w4.block _ lX).trans rX
      replace lX := Nat.lt_of_lt_of_le lX hB_w4.size
      have hb_w4 := hb0.trans (hB_w4.mono hb0.size)
      clear hB_w4 hb0 rY lY
      have qX0 := cell_of_row w4 _ 0 _ _ _ rX
      have qX1 := cell_of_row w4 _ 1 _ _ _ rX
      have qX2 := cell_of_row w4 _ 2 _ _ _ rX
      have qX3 := cell_of_row w4 _ 3 _ _ _ rX
      have qX4 := cell_of_row w4 _ 4 _ _ _ rX
      simp only [List.getElem?_toArray, List.getElem?_cons_zero, List.getElem?_cons_succ] at qX0 qX1 qX2 qX3 qX4
      go_wp2_with fail
      clear qX0 qX1 qX2 qX3 qX4
      refine (C2.out _ hb_w4).mono ?_
      rintro e w5 ⟨rfl, hB_w5⟩
      replace rB := (hB_w5.block _ lB).trans rB
      replace lB := Nat.lt_of_lt_of_le lB hB_w5.size
      replace rN := (hB_w5.block _ lN).trans rN
      replace lN := Nat.lt_of_lt_of_le lN hB_w5.size
      replace rX := (hB_w5.block _ lX).trans rX
      replace lX := Nat.lt_of_lt_of_le lX hB_w5.size
      have hb_w5 := hb_w4.trans (hB_w5.mono hb_w4.size)
      clear hB_w5
      clear hb_w4
      rcases HCS.out with ⟨rfl, rfl, rfl⟩ | ⟨rfl, rfl, rfl⟩ | ⟨hnx, hnb, rfl, rfl, rfl⟩
      · clear HCS
        go_wp2_with fail
        refine (FORGE.out _ (HBw3.out.trans (hb_w5.mono HBw3.out.size))).mono ?_
        rintro e w6 ⟨rfl, hB6⟩
        have HB := Lib.hid hB6
        clear hB6
        go_wp2_with fail
        go_ret
        exact ⟨rfl, HB.out⟩
      · clear HCS
        go_wp2_with fail
        refine (FORGE.out _ (HBw3.out.trans (hb_w5.mono HBw3.out.size))).mono ?_
        rintro e w6 ⟨rfl, hB6⟩
        have HB := Lib.hid hB6
        clear hB6
        go_wp2_with fail
        go_ret
        exact ⟨rfl, HB.out⟩
      have HNX := Lib.hid hnx
      have HNB := Lib.hid hnb
      clear HCS hnx hnb
      obtain ⟨i, hi⟩ : ∃ i : Nat, (i : Int) = n0 % b.secs.length := ⟨_, Int.toNat_of_nonneg (Int.emod_nonneg _ (by omega))⟩
      obtain ⟨d, hd⟩ : ∃ d : Nat, (d : Int) = n1 % (b.days + 1) := ⟨_, Int.toNat_of_nonneg (Int.emod_nonneg _ (by omega))⟩
      have hi1 : i < b.secs.length := by have := Int.emod_lt_of_pos n0 (show (0 : Int) < b.secs.length by omega); omega
      have hd1 : (d : Int) ≤ b.days := by have := Int.emod_lt_of_pos n1 (show (0 : Int) < b.days + 1 by omega); omega
      have qB0 := cell_of_row w5 _ 0 _ _ _ rB
      have qB4 := cell_of_row w5 _ 4 _ _ _ rB
      simp only [List.getElem?_toArray, List.getElem?_cons_zero, List.getElem?_cons_succ] at qB0 qB4
      have qN0 := cell_of_row w5 _ 0 _ _ _ rN
      have qN1 := cell_of_row w5 _ 1 _ _ _ rN
      simp only [List.getElem?_toArray, List.getElem?_cons_zero, List.getElem?_cons_succ] at qN0 qN1
      go_wp2_with fail
      go_region_held3 (fun w' => Held w5 w') (first | assumption | exact held_start _ | exact held_step (by assumption) (by assumption) | exact held_step (by assumption) (held_start _) | go_keep)
        (first | (go_at_call 27; refine (mod_any _ _ (by omega) (by omega) _).mono ?_; rintro e w6 ⟨rfl, hB6⟩))
      have hHE : Held w5 w6 := by assumption
      rw [← hi, ← hd]
      obtain ⟨u, hu⟩ : ∃ u : World, u = w6 := ⟨_, rfl⟩
      rw [← hu] at hHE ⊢
      clear hu hB6
      have hBu := hHE.2.2
      replace rB := (hBu.block _ lB).trans rB
      replace lB := Nat.lt_of_lt_of_le lB hBu.size
      replace rX := (hBu.block _ lX).trans rX
      replace lX := Nat.lt_of_lt_of_le lX hBu.size
      have hb_u := hb_w5.trans (hBu.mono hb_w5.size)
      clear qB0 qB4 qN0 qN1 rN lN hHE hBu hb_w5 hi hd hd1w
      obtain ⟨⟨s0, s1⟩, hs⟩ : ∃ s : Ch.Sp, Ch.thickSp b i d = s := ⟨_, rfl⟩
      obtain ⟨⟨t0, t1⟩, ht⟩ : ∃ s : Ch.Sp, Ch.thickSp (Ch.moreB b y) i d = s := ⟨_, rfl⟩
      obtain ⟨⟨u0, u1⟩, hu⟩ : ∃ s : Ch.Sp, Ch.wearSp b i = s := ⟨_, rfl⟩
      obtain ⟨⟨v0, v1⟩, hv⟩ : ∃ s : Ch.Sp, Ch.wearSp (Ch.moreB b y) i = s := ⟨_, rfl⟩
      obtain ⟨⟨p0, e0⟩, g1⟩ : ∃ s : Int × Int, Ch.thinR b i = s := ⟨_, rfl⟩
      obtain ⟨⟨p1, e1⟩, g2⟩ : ∃ s : Int × Int, Ch.thinR (Ch.moreB b y) i = s := ⟨_, rfl⟩
      obtain ⟨⟨z0, f0⟩, g3⟩ : ∃ s : Int × Int, Ch.goneR b i = s := ⟨_, rfl⟩
      obtain ⟨⟨z1, f1⟩, g4⟩ : ∃ s : Int × Int, Ch.goneR (Ch.moreB b y) i = s := ⟨_, rfl⟩
      have hxv := Ch.more_valid HVAL.out HYS'.out HL8.out
      have p1' : Ch.isSection b i = true := by simp [Ch.isSection]; omega
      have p2' : (Ch.isSection b i && Ch.isDay b d) = true := by
        simp only [Ch.isSection, Ch.isDay, Bool.and_eq_true, decide_eq_true_eq]
        exact ⟨⟨Int.natCast_nonneg _, Int.ofNat_lt.2 hi1⟩, Int.natCast_nonneg _, hd1⟩
      have E1 : Ch.studyE b (Ch.isSection b i && Ch.isDay b d) = 0 := Ch.studyE_ok HVAL.out p2' HNB.out
      have E2 : Ch.studyE (Ch.moreB b y) (Ch.isSection (Ch.moreB b y) i && Ch.isDay (Ch.moreB b y) d) = 0 := Ch.studyE_ok hxv p2' HNX.out
      have E3 : Ch.studyE b (Ch.isSection b i) = 0 := Ch.studyE_ok HVAL.out p1' HNB.out
      have E4 : Ch.studyE (Ch.moreB b y) (Ch.isSection (Ch.moreB b y) i) = 0 := Ch.studyE_ok hxv p1' HNX.out
      have hfa := Ch.more_facts HVAL.out HYS'.out HL8.out HNX.out hi1 hd1 hs ht hu hv g1 g2 g3 g4
      have c1 := fun W' h => Thick_any b (.slice A0 b.secs.length k0) (.slice A1 b.turns.length k1) (.slice A2 b.svs.length k2) i d W' (HRBb.out W' h)
      have c2 := fun W' h => Thick_any (Ch.moreB b y) (.slice A0 b.secs.length k0) (.slice A1 b.turns.length k1) (.slice (some ⟨g, 0, none⟩) (b.svs.length + 1) cap) i d W' (HRBx.out W' h)
      have c3 := fun W' h => Wear_any b (.slice A0 b.secs.length k0) (.slice A1 b.turns.length k1) (.slice A2 b.svs.length k2) i W' (HRBb.out W' h)
      have c4 := fun W' h => Wear_any (Ch.moreB b y) (.slice A0 b.secs.length k0) (.slice A1 b.turns.length k1) (.slice (some ⟨g, 0, none⟩) (b.svs.length + 1) cap) i W' (HRBx.out W' h)
      have c5 := fun W' h => Thin_any b (.slice A0 b.secs.length k0) (.slice A1 b.turns.length k1) (.slice A2 b.svs.length k2) i W' (HRBb.out W' h)
      have c6 := fun W' h => Thin_any (Ch.moreB b y) (.slice A0 b.secs.length k0) (.slice A1 b.turns.length k1) (.slice (some ⟨g, 0, none⟩) (b.svs.length + 1) cap) i W' (HRBx.out W' h)
      have c7 := fun W' h => Gone_any b (.slice A0 b.secs.length k0) (.slice A1 b.turns.length k1) (.slice A2 b.svs.length k2) i W' (HRBb.out W' h)
      have c8 := fun W' h => Gone_any (Ch.moreB b y) (.slice A0 b.secs.length k0) (.slice A1 b.turns.length k1) (.slice (some ⟨g, 0, none⟩) (b.svs.length + 1) cap) i W' (HRBx.out W' h)
      simp only [hs, E1] at c1
      simp only [ht, E2] at c2
      simp only [hu, E3] at c3
      simp only [hv, E4] at c4
      simp only [g1] at c5
      simp only [g2] at c6
      simp only [g3] at c7
      simp only [g4] at c8
      have D1 := Lib.hid c1
      have D2 := Lib.hid c2
      have D3 := Lib.hid c3
      have D4 := Lib.hid c4
      have D5 := Lib.hid c5
      have D6 := Lib.hid c6
      have D7 := Lib.hid c7
      have D8 := Lib.hid c8
      have HFA := Lib.hid hfa
      clear c1 c2 c3 c4 c5 c6 c7 c8 hs ht hu hv g1 g2 g3 g4 E1 E2 E3 E4 p1' p2' hxv hfa
      have qB0 := cell_of_row u _ 0 _ _ _ rB
      have qB1 := cell_of_row u _ 1 _ _ _ rB
      have qB2 := cell_of_row u _ 2 _ _ _ rB
      have qB3 := cell_of_row u _ 3 _ _ _ rB
      have qB4 := cell_of_row u _ 4 _ _ _ rB
      simp only [List.getElem?_toArray, List.getElem?_cons_zero, List.getElem?_cons_succ] at qB0 qB1 qB2 qB3 qB4
      go_wp2_with fail
      clear qB0 qB1 qB2 qB3 qB4
      refine (D1.out _ hb_u).mono ?_
      rintro e w7 ⟨rfl, hB_w7⟩
      replace rB := (hB_w7.block _ lB).trans rB
      replace lB := Nat.lt_of_lt_of_le lB hB_w7.size
      replace rX := (hB_w7.block _ lX).trans rX
      replace lX := Nat.lt_of_lt_of_le lX hB_w7.size
      have hb_w7 := hb_u.trans (hB_w7.mono hb_u.size)
      clear hB_w7
      clear hb_u
      have qX0 := cell_of_row w7 _ 0 _ _ _ rX
      have qX1 := cell_of_row w7 _ 1 _ _ _ rX
      have qX2 := cell_of_row w7 _ 2 _ _ _ rX
      have qX3 := cell_of_row w7 _ 3 _ _ _ rX
      have qX4 := cell_of_row w7 _ 4 _ _ _ rX
      simp only [List.getElem?_toArray, List.getElem?_cons_zero, List.getElem?_cons_succ] at qX0 qX1 qX2 qX3 qX4
      go_wp2_with fail
      clear qX0 qX1 qX2 qX3 qX4
      refine name_calls ?_
      intro W8 hW_W8
      have hA_W8 : Below w7.heap.size w7 W8 := by rw [hW_W8]; exact (Below.refl _ _).alloc (Nat.le_refl _) _
      have rS : W8.heap[w7.heap.size]? = some (.cells #[I s0, I s1] 51 (0, 0)) := by rw [hW_W8]; exact heap_at _ _ rfl
      have lS : w7.heap.size < W8.heap.size := by rw [hW_W8]; simp
      replace rB := (hA_W8.block _ lB).trans rB
      replace lB := Nat.lt_of_lt_of_le lB hA_W8.size
      replace rX := (hA_W8.block _ lX).trans rX
      replace lX := Nat.lt_of_lt_of_le lX hA_W8.size
      have hb_W8 := hb_w7.trans (hA_W8.mono hb_w7.size)
      clear hW_W8 hA_W8 hb_w7
      refine (D2.out _ hb_W8).mono ?_
      rintro e w8 ⟨rfl, hB_w8⟩
      replace rB := (hB_w8.block _ lB).trans rB
      replace lB := Nat.lt_of_lt_of_le lB hB_w8.size
      replace rX := (hB_w8.block _ lX).trans rX
      replace lX := Nat.lt_of_lt_of_le lX hB_w8.size
      replace rS := (hB_w8.block _ lS).trans rS
      replace lS := Nat.lt_of_lt_of_le lS hB_w8.size
      have hb_w8 := hb_W8.trans (hB_w8.mono hb_W8.size)
      clear hB_w8 hb_W8
      have qB0 := cell_of_row w8 _ 0 _ _ _ rB
      have qB1 := cell_of_row w8 _ 1 _ _ _ rB
      have qB2 := cell_of_row w8 _ 2 _ _ _ rB
      have qB3 := cell_of_row w8 _ 3 _ _ _ rB
      have qB4 := cell_of_row w8 _ 4 _ _ _ rB
      simp only [List.getElem?_toArray, List.getElem?_cons_zero, List.getElem?_cons_succ] at qB0 qB1 qB2 qB3 qB4
      go_wp2_with fail
      clear qB0 qB1 qB2 qB3 qB4
      refine name_calls ?_
      intro W9 hW_W9
      have hA_W9 : Below w8.heap.size w8 W9 := by rw [hW_W9]; exact (Below.refl _ _).alloc (Nat.le_refl _) _
      have rT : W9.heap[w8.heap.size]? = some (.cells #[I t0, I t1] 51 (0, 0)) := by rw [hW_W9]; exact heap_at _ _ rfl
      have lT : w8.heap.size < W9.heap.size := by rw [hW_W9]; simp
      replace rB := (hA_W9.block _ lB).trans rB
      replace lB := Nat.lt_of_lt_of_le lB hA_W9.size
      replace rX := (hA_W9.block _ lX).trans rX
      replace lX := Nat.lt_of_lt_of_le lX hA_W9.size
      replace rS := (hA_W9.block _ lS).trans rS
      replace lS := Nat.lt_of_lt_of_le lS hA_W9.size
      have hb_W9 := hb_w8.trans (hA_W9.mono hb_w8.size)
      clear hW_W9 hA_W9 hb_w8
      refine (D3.out _ hb_W9).mono ?_
      rintro e w9 ⟨rfl, hB_w9⟩
      replace rB := (hB_w9.block _ lB).trans rB
      replace lB := Nat.lt_of_lt_of_le lB hB_w9.size
      replace rX := (hB_w9.block _ lX).trans rX
      replace lX := Nat.lt_of_lt_of_le lX hB_w9.size
      replace rS := (hB_w9.block _ lS).trans rS
      replace lS := Nat.lt_of_lt_of_le lS hB_w9.size
      replace rT := (hB_w9.block _ lT).trans rT
      replace lT := Nat.lt_of_lt_of_le lT hB_w9.size
      have hb_w9 := hb_W9.trans (hB_w9.mono hb_W9.size)
      clear hB_w9 hb_W9
      have qX0 := cell_of_row w9 _ 0 _ _ _ rX
      have qX1 := cell_of_row w9 _ 1 _ _ _ rX
      have qX2 := cell_of_row w9 _ 2 _ _ _ rX
      have qX3 := cell_of_row w9 _ 3 _ _ _ rX
      have qX4 := cell_of_row w9 _ 4 _ _ _ rX
      simp only [List.getElem?_toArray, List.getElem?_cons_zero, List.getElem?_cons_succ] at qX0 qX1 qX2 qX3 qX4
      go_wp2_with fail
      clear qX0 qX1 qX2 qX3 qX4
      refine name_calls ?_
      intro W10 hW_W10
      have hA_W10 : Below w9.heap.size w9 W10 := by rw [hW_W10]; exact (Below.refl _ _).alloc (Nat.le_refl _) _
      have rU : W10.heap[w9.heap.size]? = some (.cells #[I u0, I u1] 51 (0, 0)) := by rw [hW_W10]; exact heap_at _ _ rfl
      have lU : w9.heap.size < W10.heap.size := by rw [hW_W10]; simp
      replace rB := (hA_W10.block _ lB).trans rB
      replace lB := Nat.lt_of_lt_of_le lB hA_W10.size
      replace rX := (hA_W10.block _ lX).trans rX
      replace lX := Nat.lt_of_lt_of_le lX hA_W10.size
      replace rS := (hA_W10.block _ lS).trans rS
      replace lS := Nat.lt_of_lt_of_le lS hA_W10.size
      replace rT := (hA_W10.block _ lT).trans rT
      replace lT := Nat.lt_of_lt_of_le lT hA_W10.size
      have hb_W10 := hb_w9.trans (hA_W10.mono hb_w9.size)
      clear hW_W10 hA_W10 hb_w9
      refine (D4.out _ hb_W10).mono ?_
      rintro e w10 ⟨rfl, hB_w10⟩
      replace rB := (hB_w10.block _ lB).trans rB
      replace lB := Nat.lt_of_lt_of_le lB hB_w10.size
      replace rX := (hB_w10.block _ lX).trans rX
      replace lX := Nat.lt_of_lt_of_le lX hB_w10.size
      replace rS := (hB_w10.block _ lS).trans rS
      replace lS := Nat.lt_of_lt_of_le lS hB_w10.size
      replace rT := (hB_w10.block _ lT).trans rT
      replace lT := Nat.lt_of_lt_of_le lT hB_w10.size
      replace rU := (hB_w10.block _ lU).trans rU
      replace lU := Nat.lt_of_lt_of_le lU hB_w10.size
      have hb_w10 := hb_W10.trans (hB_w10.mono hb_W10.size)
      clear hB_w10 hb_W10
      obtain ⟨h1, h2, h3, h4, h5, h6, h7⟩ := HFA.out
      have k1 : (decide (s0 ≤ t0) && decide (t1 ≤ s1)) = true := by simp; omega
      have k2 : (decide (u0 ≤ v0) && decide (v1 ≤ u1)) = true := by simp; omega
      have K1 := Lib.hid k1
      have K2 := Lib.hid k2
      have H6 := Lib.hid h6
      have H7 := Lib.hid h7
      clear h1 h2 h4 h5 h6 h7 k1 k2 HFA
      have qS0 := cell_of_row w10 _ 0 _ _ _ rS
      have qS1 := cell_of_row w10 _ 1 _ _ _ rS
      simp only [List.getElem?_toArray, List.getElem?_cons_zero, List.getElem?_cons_succ] at qS0 qS1
      have qT0 := cell_of_row w10 _ 0 _ _ _ rT
      have qT1 := cell_of_row w10 _ 1 _ _ _ rT
      simp only [List.getElem?_toArray, List.getElem?_cons_zero, List.getElem?_cons_succ] at qT0 qT1
      go_wp2_with fail
      clear qS0 qS1
      clear qT0 qT1
      refine name_calls ?_
      intro W11 hW_W11
      have hA_W11 : Below w10.heap.size w10 W11 := by rw [hW_W11]; exact (Below.refl _ _).alloc (Nat.le_refl _) _
      have rV : W11.heap[w10.heap.size]? = some (.cells #[I v0, I v1] 51 (0, 0)) := by rw [hW_W11]; exact heap_at _ _ rfl
      have lV : w10.heap.size < W11.heap.size := by rw [hW_W11]; simp
      replace rB := (hA_W11.block _ lB).trans rB
      replace lB := Nat.lt_of_lt_of_le lB hA_W11.size
      replace rX := (hA_W11.block _ lX).trans rX
      replace lX := Nat.lt_of_lt_of_le lX hA_W11.size
      replace rS := (hA_W11.block _ lS).trans rS
      replace lS := Nat.lt_of_lt_of_le lS hA_W11.size
      replace rT := (hA_W11.block _ lT).trans rT
      replace lT := Nat.lt_of_lt_of_le lT hA_W11.size
      replace rU := (hA_W11.block _ lU).trans rU
      replace lU := Nat.lt_of_lt_of_le lU hA_W11.size
      have hb_W11 := hb_w10.trans (hA_W11.mono hb_w10.size)
      clear hW_W11 hA_W11 hb_w10
      refine (covers_any ⟨s0, s1⟩ ⟨t0, t1⟩ _).mono ?_
      rintro e w11 ⟨rfl, hB_w11⟩
      rw [K1.out]
      replace rB := (hB_w11.block _ lB).trans rB
      replace lB := Nat.lt_of_lt_of_le lB hB_w11.size
      replace rX := (hB_w11.block _ lX).trans rX
      replace lX := Nat.lt_of_lt_of_le lX hB_w11.size
      replace rT := (hB_w11.block _ lT).trans rT
      replace lT := Nat.lt_of_lt_of_le lT hB_w11.size
      replace rU := (hB_w11.block _ lU).trans rU
      replace lU := Nat.lt_of_lt_of_le lU hB_w11.size
      replace rV := (hB_w11.block _ lV).trans rV
      replace lV := Nat.lt_of_lt_of_le lV hB_w11.size
      have hb_w11 := hb_W11.trans (hB_w11.mono hb_W11.size)
      clear hB_w11 hb_W11 rS lS
      have qU0 := cell_of_row w11 _ 0 _ _ _ rU
      have qU1 := cell_of_row w11 _ 1 _ _ _ rU
      simp only [List.getElem?_toArray, List.getElem?_cons_zero, List.getElem?_cons_succ] at qU0 qU1
      have qV0 := cell_of_row w11 _ 0 _ _ _ rV
      have qV1 := cell_of_row w11 _ 1 _ _ _ rV
      simp only [List.getElem?_toArray, List.getElem?_cons_zero, List.getElem?_cons_succ] at qV0 qV1
      go_wp2_with fail
      clear qU0 qU1
      clear qV0 qV1
      refine (covers_any ⟨u0, u1⟩ ⟨v0, v1⟩ _).mono ?_
      rintro e w12 ⟨rfl, hB_w12⟩
      rw [K2.out]
      replace rB := (hB_w12.block _ lB).trans rB
      replace lB := Nat.lt_of_lt_of_le lB hB_w12.size
      replace rX := (hB_w12.block _ lX).trans rX
      replace lX := Nat.lt_of_lt_of_le lX hB_w12.size
      replace rT := (hB_w12.block _ lT).trans rT
      replace lT := Nat.lt_of_lt_of_le lT hB_w12.size
      have hb_w12 := hb_w11.trans (hB_w12.mono hb_w11.size)
      clear hB_w12 hb_w11 rU lU rV lV
      have qT0 := cell_of_row w12 _ 0 _ _ _ rT
      have qT1 := cell_of_row w12 _ 1 _ _ _ rT
      simp only [List.getElem?_toArray, List.getElem?_cons_zero, List.getElem?_cons_succ] at qT0 qT1
      have qB0 := cell_of_row w12 _ 0 _ _ _ rB
      have qB1 := cell_of_row w12 _ 1 _ _ _ rB
      have qB2 := cell_of_row w12 _ 2 _ _ _ rB
      have qB3 := cell_of_row w12 _ 3 _ _ _ rB
      have qB4 := cell_of_row w12 _ 4 _ _ _ rB
      simp only [List.getElem?_toArray, List.getElem?_cons_zero, List.getElem?_cons_succ] at qB0 qB1 qB2 qB3 qB4
      go_wp2_with fail
      clear qB0 qB1 qB2 qB3 qB4
      clear qT0 qT1
      refine (D5.out _ hb_w12).mono ?_
      rintro e w13 ⟨rfl, hB_w13⟩
      replace rB := (hB_w13.block _ lB).trans rB
      replace lB := Nat.lt_of_lt_of_le lB hB_w13.size
      replace rX := (hB_w13.block _ lX).trans rX
      replace lX := Nat.lt_of_lt_of_le lX hB_w13.size
      have hb_w13 := hb_w12.trans (hB_w13.mono hb_w12.size)
      clear hB_w13 hb_w12 rT lT h3
      have qX0 := cell_of_row w13 _ 0 _ _ _ rX
      have qX1 := cell_of_row w13 _ 1 _ _ _ rX
      have qX2 := cell_of_row w13 _ 2 _ _ _ rX
      have qX3 := cell_of_row w13 _ 3 _ _ _ rX
      have qX4 := cell_of_row w13 _ 4 _ _ _ rX
      simp only [List.getElem?_toArray, List.getElem?_cons_zero, List.getElem?_cons_succ] at qX0 qX1 qX2 qX3 qX4
      go_wp2_with fail
      clear qX0 qX1 qX2 qX3 qX4
      refine (D6.out _ hb_w13).mono ?_
      rintro e w14 ⟨rfl, hB_w14⟩
      replace rB := (hB_w14.block _ lB).trans rB
      replace lB := Nat.lt_of_lt_of_le lB hB_w14.size
      replace rX := (hB_w14.block _ lX).trans rX
      replace lX := Nat.lt_of_lt_of_le lX hB_w14.size
      have hb_w14 := hb_w13.trans (hB_w14.mono hb_w13.size)
      clear hB_w14
      have qB0 := cell_of_row w14 _ 0 _ _ _ rB
      have qB1 := cell_of_row w14 _ 1 _ _ _ rB
      have qB2 := cell_of_row w14 _ 2 _ _ _ rB
      have qB3 := cell_of_row w14 _ 3 _ _ _ rB
      have qB4 := cell_of_row w14 _ 4 _ _ _ rB
      simp only [List.getElem?_toArray, List.getElem?_cons_zero, List.getElem?_cons_succ] at qB0 qB1 qB2 qB3 qB4
      go_wp2_with fail
      clear qB0 qB1 qB2 qB3 qB4
      refine (D7.out _ hb_w14).mono ?_
      rintro e w15 ⟨rfl, hB_w15⟩
      replace rB := (hB_w15.block _ lB).trans rB
      replace lB := Nat.lt_of_lt_of_le lB hB_w15.size
      replace rX := (hB_w15.block _ lX).trans rX
      replace lX := Nat.lt_of_lt_of_le lX hB_w15.size
      have hb_w15 := hb_w14.trans (hB_w15.mono hb_w14.size)
      clear hB_w15
      have qX0 := cell_of_row w15 _ 0 _ _ _ rX
      have qX1 := cell_of_row w15 _ 1 _ _ _ rX
      have qX2 := cell_of_row w15 _ 2 _ _ _ rX
      have qX3 := cell_of_row w15 _ 3 _ _ _ rX
      have qX4 := cell_of_row w15 _ 4 _ _ _ rX
      simp only [List.getElem?_toArray, List.getElem?_cons_zero, List.getElem?_cons_succ] at qX0 qX1 qX2 qX3 qX4
      go_wp2_with fail
      clear qX0 qX1 qX2 qX3 qX4
      refine (D8.out _ hb_w15).mono ?_
      rintro e w16 ⟨rfl, hB_w16⟩
      replace rB := (hB_w16.block _ lB).trans rB
      replace lB := Nat.lt_of_lt_of_le lB hB_w16.size
      replace rX := (hB_w16.block _ lX).trans rX
      replace lX := Nat.lt_of_lt_of_le lX hB_w16.size
      have hb_w16 := hb_w15.trans (hB_w16.mono hb_w15.size)
      clear hB_w16
      have HB16 := Lib.hid (HBw3.out.trans (hb_w16.mono HBw3.out.size))
      clear hb_w13 hb_w14 hb_w15 hb_w16 rB rX lB lX D1 D2 D3 D4 D5 D6 D7 D8
      rcases H6.out with rfl | ⟨rfl, rfl, h6⟩ <;> rcases H7.out with rfl | ⟨rfl, rfl, h7⟩
      · skip
        go_wp2_with fail
        refine (FORGE.out _ HB16.out).mono ?_
        rintro e w17 ⟨rfl, hB6⟩
        have HB := Lib.hid hB6
        clear hB6
        go_wp2_with fail
        go_ret
        exact ⟨rfl, HB.out⟩
      · skip
        go_wp2_with fail
        refine (FORGE.out _ HB16.out).mono ?_
        rintro e w17 ⟨rfl, hB6⟩
        have HB := Lib.hid hB6
        clear hB6
        go_wp2_with fail
        go_ret
        exact ⟨rfl, HB.out⟩
      · skip
        go_wp2_with fail
        refine (FORGE.out _ HB16.out).mono ?_
        rintro e w17 ⟨rfl, hB6⟩
        have HB := Lib.hid hB6
        clear hB6
        go_wp2_with fail
        go_ret
        exact ⟨rfl, HB.out⟩
      · skip
        go_wp2_with fail
        refine (FORGE.out _ HB16.out).mono ?_
        rintro e w17 ⟨rfl, hB6⟩
        have HB := Lib.hid hB6
        clear hB6
        go_wp2_with fail
        go_ret
        exact ⟨rfl, HB.out⟩

end Go.Proofs.YtkfahochpnggbaaGreat
