/- Proved: for every book of a chain and any two numbers prowlaw01.ChainMirror returns true and leaves its arguments as they were. Conditions: none beyond the given row. -/
import Derived.Test.YtkfahochpnggbaaGreatYbn
import Derived.Test.YtkfahochpnggbaaGreatYbo
import Derived.Test.YtkfahochpnggbaaGreatYbw
import Derived.Test.YtkfahochpnggbaaGreatYcl
import Derived.Test.YtkfahochpnggbaaGreatYbs
set_option linter.unusedVariables false
set_option linter.unusedSimpArgs false

/- Contract of ChainMirror: it returns true, whatever the book and the numbers. -/
namespace Go.Proofs.YtkfahochpnggbaaGreat
open Go.RowKit

theorem Sl.setRow {w : World} {B size n : Nat} {v : Value} {xs : List Value} (h : Sl w B size v n xs) {r : Nat} (hr : 0 < n → ∀ g o m c, v = .slice (some ⟨g, o, none⟩) m c → g ≠ r) (cs : Array Value) : Sl (w.setRow r cs) B size v n xs := by
  obtain ⟨h1, A, c, hv, h2, h3, h4⟩ := h
  refine ⟨h1, A, c, hv, h2, h3, fun hn => ?_⟩
  obtain ⟨b, off, e, hb, hc⟩ := h4 hn
  exact ⟨b, off, e, hb, fun j u hu => (World.cell?_of_block (setRow_other w r b cs (hr hn b off n c (by rw [hv, e])))).trans (hc j u hu)⟩
theorem Sl.in_lt {w : World} {B size n : Nat} {v : Value} {xs : List Value} (h : Sl w B size v n xs) : 0 < n → ∀ g o m c, v = .slice (some ⟨g, o, none⟩) m c → g ≠ B := by
  obtain ⟨h1, A, c, hv, h2, h3, h4⟩ := h
  intro hn g o m c' e
  obtain ⟨b, off, e', hb, -⟩ := h4 hn
  rw [hv, e'] at e
  injection e with e1
  injection e1 with e1
  injection e1 with e1
  omega
theorem rb_setRow {w : World} {b : Ch.Bk} {S T V : Value} (h : RB w w.heap.size b S T V) {n : Nat} (cs : Array Value) (hS : 0 < b.secs.length → ∀ g o m c, S = .slice (some ⟨g, o, none⟩) m c → g ≠ n) (hV : 0 < b.svs.length → ∀ g o m c, V = .slice (some ⟨g, o, none⟩) m c → g ≠ n)
    (hT : Sl (w.setRow n cs) (w.setRow n cs).heap.size 1 T b.turns.length (b.turns.map I)) : RB (w.setRow n cs) (w.setRow n cs).heap.size b S T V := by
  have hz : (w.setRow n cs).heap.size = w.heap.size := by simp [World.setRow]
  exact ⟨by rw [hz]; exact h.secs.setRow hS cs, hT, by rw [hz]; exact h.svs.setRow hV cs⟩

set_option maxRecDepth 100000 in
set_option maxHeartbeats 8000000 in
theorem ChainMirror_any (b : Ch.Bk) (S T V : Value) (n0 n1 : Int) (w : World) (hb : RB w w.heap.size b S T V) :
    Calls Tryz.prog 10 #[vBk S T V b.rule b.days, .agg #[I n0, I n1]] w fun e w' => e = .returned (.bool true) ∧ Below w.heap.size w w' := by
  obtain ⟨A0, k0, rfl⟩ := hb.secs.form
  obtain ⟨A1, k1, rfl⟩ := hb.turns.form
  obtain ⟨A2, k2, rfl⟩ := hb.svs.form
  obtain ⟨o, ho⟩ : ∃ o : Obj, o = .cells #[.slice A0 b.secs.length k0, .slice A1 b.turns.length k1, .slice A2 b.svs.length k2, I b.rule, I b.days] 26 := ⟨_, rfl⟩
  obtain ⟨o2, ho2⟩ : ∃ o : Obj, o = .cells #[I n0, I n1] 27 := ⟨_, rfl⟩
  obtain ⟨W0, hW0⟩ : ∃ W : World, W = (w.alloc o).alloc o2 := ⟨_, rfl⟩
  have hb0 : Below w.heap.size w W0 := by rw [hW0]; exact ((Below.refl _ _).alloc (Nat.le_refl _) _).alloc (by simp) _
  have rB : W0.heap[w.heap.size]? = some o := by rw [hW0]; exact (Below.heap_alloc _ _ _ (by simp)).trans (heap_at _ _ rfl)
  have rN : W0.heap[w.heap.size + 1]? = some o2 := by rw [hW0]; exact heap_at _ _ (by simp)
  have lB : w.heap.size < W0.heap.size := by rw [hW0]; simp; omega
  have lN : w.heap.size + 1 < W0.heap.size := by rw [hW0]; simp
  go_enter Tryz.func10, Tryz.ntmps10
  go_wp2_with fail
  rw [← ho, ← ho2, ← hW0]
  subst ho ho2
  clear hW0
  have hRB := (hb.below hb0 (Nat.le_refl _)).more hb0.size
  refine (sound_any b _ _ _ W0 hRB).mono ?_
  rintro e w1 ⟨rfl, hB1⟩
  replace rB := (hB1.block _ lB).trans rB
  replace lB := Nat.lt_of_lt_of_le lB hB1.size
  replace rN := (hB1.block _ lN).trans rN
  replace lN := Nat.lt_of_lt_of_le lN hB1.size
  have hb1 := hb0.trans (hB1.mono hb0.size)
  clear hRB hb0 hB1
  by_cases hck : Ch.check b = 0
  case neg =>
    rw [decide_eq_false hck]
    clear rB rN lB lN
    go_wp2_with fail
    refine (forged_any _).mono ?_
    rintro e w2 ⟨rfl, hB2⟩
    have HB := Lib.hid (hb1.trans (hB2.mono hb1.size))
    clear hB2 hb1 hck
    go_wp2_with fail
    go_ret
    exact ⟨rfl, HB.out⟩
  rw [decide_eq_true hck]
  have hval : Ch.valid b = true := by
    unfold Ch.check at hck
    split at hck
    · assumption
    · omega
  have hn := Ch.secs_le hval
  have hdy := Ch.days_le hval
  have hs8 := Ch.svs_le hval
  have HRB0 := Lib.hid (show ∀ W', Below w.heap.size w W' → RB W' W'.heap.size b (.slice A0 b.secs.length k0) (.slice A1 b.turns.length k1) (.slice A2 b.svs.length k2) from fun W' h => (hb.below h (Nat.le_refl _)).more h.size)
  have FORGE := Lib.hid (show ∀ W', Below w.heap.size w W' → Calls Tryz.prog 18 #[] W' fun e w' => e = .returned (.bool true) ∧ Below w.heap.size w w' from fun W' h => (forged_any W').mono fun e w' ⟨h1, h2⟩ => ⟨h1, h.trans (h2.mono h.size)⟩)
  have HMIR := Lib.hid (show ∀ W', Held w1 W' → Calls Tryz.prog 41 #[vBk (.slice A0 b.secs.length k0) (.slice A1 b.turns.length k1) (.slice A2 b.svs.length k2) b.rule b.days] W' fun e w' => (∃ S' V', e = .returned (vBk S' (.slice A1 b.turns.length k1) V' b.rule b.days) ∧ RB w' w'.heap.size (Ch.mirB b) S' (.slice A1 b.turns.length k1) V' ∧ Fresh W'.heap.size S' ∧ Fresh W'.heap.size V') ∧ Below W'.heap.size W' w' from fun W' h => mirror_any b _ _ _ W' (HRB0.out _ (hb1.trans (h.2.2.mono hb1.size))) hn.1 hn.2 hs8 (Ch.svs_in hval))
  have HVAL := Lib.hid hval
  clear hb hck hval
  have qB0 := cell_of_row w1 _ 0 _ _ _ rB
  have qB1 := cell_of_row w1 _ 1 _ _ _ rB
  have qB2 := cell_of_row w1 _ 2 _ _ _ rB
  have qB3 := cell_of_row w1 _ 3 _ _ _ rB
  have qB4 := cell_of_row w1 _ 4 _ _ _ rB
  simp only [List.getElem?_toArray, List.getElem?_cons_zero, List.getElem?_cons_succ] at qB0 qB1 qB2 qB3 qB4
  go_wp2_with fail
  refine name_act ?_
  intro A hA
  obtain ⟨R, hR⟩ : ∃ R : Act → World → Prop, R = fun a' w' => ∃ (n : Nat) (A3 : Option Addr) (k3 : Nat) (A4 : Option Addr) (k4 : Nat), (∃ u26 u27 u28 u29 u30, a' = (((((((A.put (some 26) u26).put (some 27) u27).put (some 28) u28).put (some 29) u29).put (some 30) u30).put (some 5) (.pointer (some ⟨n, 0, none⟩))).put (some 6) (I b.secs.length))) ∧ w'.heap[n]? = some (.cells #[.slice A3 (Ch.mirB b).secs.length k3, .slice A1 b.turns.length k1, .slice A4 (Ch.mirB b).svs.length k4, I b.rule, I b.days] 26 (0, 0)) ∧ w1.heap.size ≤ n ∧ Held w1 w' ∧ RB w' w'.heap.size (Ch.mirB b) (.slice A3 (Ch.mirB b).secs.length k3) (.slice A1 b.turns.length k1) (.slice A4 (Ch.mirB b).svs.length k4) := ⟨_, rfl⟩
  have HR := Lib.hid hR
  clear hR
  refine wp_between R ?first ?rest
  case first =>
    subst hA
    refine wp_region_held_drew (S := fun w' => Held w1 w') (by kernel_rfl) (held_start w1) (fun _ => ?_)
    refine wpAnyH_take (i := 0) (oi := { dst := some 26, op := Go.Op.load 26 (Go.Operand.tmp 2), type := 26, pos := "outright.go:259", after := #[], guard := none }) (v := ?v1) rfl (by kernel_rfl) (by kernel_rfl) (by kernel_rfl) (fun _ _ _ h => h) (Or.inl ⟨by rfl, ?hy1⟩) (held_start w1) ?r1
    case hy1 =>
      intro w' hSw
      have hq := hSw.1
      clear hSw
      go_simp
      with_reducible rfl
    try simp only [Act.put, List.setIfInBounds_toArray, List.set_cons_zero, List.set_cons_succ]
    refine wpAnyH_take (i := 2) (oi := { dst := some 28, op := Go.Op.fieldAddr 26 (Go.Operand.tmp 2) 0, type := 0, pos := "outright.go:259", after := #[], guard := none }) (v := ?v2) rfl (by kernel_rfl) (by kernel_rfl) (by kernel_rfl) (fun _ _ _ h => h) (Or.inl ⟨by rfl, ?hy2⟩) (held_start w1) ?r2
    case hy2 =>
      intro w' hSw
      have hq := hSw.1
      clear hSw
      go_simp
      with_reducible rfl
    try simp only [Act.put, List.setIfInBounds_toArray, List.set_cons_zero, List.set_cons_succ]
    refine wpAnyH_take (i := 3) (oi := { dst := some 29, op := Go.Op.load 22 (Go.Operand.tmp 28), type := 22, pos := "outright.go:259", after := #[{ on := 2, ground := Go.Ground.data }], guard := none }) (v := ?v3) rfl (by kernel_rfl) (by kernel_rfl) (by kernel_rfl) (fun _ _ _ h => h) (Or.inl ⟨by rfl, ?hy3⟩) (held_start w1) ?r3
    case hy3 =>
      intro w' hSw
      have hq := hSw.1
      clear hSw
      go_simp
      with_reducible rfl
    try simp only [Act.put, List.setIfInBounds_toArray, List.set_cons_zero, List.set_cons_succ]
    refine wpAnyH_take (i := 4) (oi := { dst := some 30, op := Go.Op.call { callee := Go.Callee.builtin Go.Builtin.len, args := #[Go.Operand.tmp 29], argTypes := #[22] }, type := 3, pos := "outright.go:259", after := #[{ on := 3, ground := Go.Ground.data }], guard := none }) (v := ?v4) rfl (by kernel_rfl) (by kernel_rfl) (by kernel_rfl) (fun _ _ _ h => h) (Or.inl ⟨by rfl, ?hy4⟩) (held_start w1) ?r4
    case hy4 =>
      intro w' hSw
      have hq := hSw.1
      clear hSw
      go_simp
      with_reducible rfl
    try simp only [Act.put, List.setIfInBounds_toArray, List.set_cons_zero, List.set_cons_succ]
    refine wpAnyH_ready (rs := [1, 5]) (by kernel_rfl) (by simp) ?_
    refine AllReadyH.cons rfl (fun K hK => ?_) (AllReadyH.cons rfl (fun K hK => ?_) AllReadyH.nil)
    · go_simp
      refine (HMIR.out _ (held_start w1)).mono ?_
      rintro e w5 ⟨⟨Sw5, Vw5, rfl, hRw5, hfSw5, hfVw5⟩, hBw5⟩
      have hSw5 := held_step hBw5 (held_start w1)
      obtain ⟨A3w5, k3w5, rfl⟩ := hRw5.secs.form
      obtain ⟨A4w5, k4w5, rfl⟩ := hRw5.svs.form
      refine hK.out _ _ hSw5 (fun _ => ?_)
      clear hK K
      try simp only [Act.put, List.setIfInBounds_toArray, List.set_cons_zero, List.set_cons_succ]
      refine wpAnyH_ready (rs := [5]) (by kernel_rfl) (by simp) ?_
      refine AllReadyH.cons rfl (fun K hK => ?_) AllReadyH.nil
      go_simp
      refine hK.out _ _ (held_alloc hSw5 _) (fun _ => ?_)
      clear hK K
      try simp only [Act.put, List.setIfInBounds_toArray, List.set_cons_zero, List.set_cons_succ]
      refine name_anyH ?_
      intro w6 hWw6
      have hAw6 : Below w5.heap.size w5 w6 := by rw [hWw6]; exact (Below.refl _ _).alloc (Nat.le_refl _) _
      have hrw6 : w6.heap[w5.heap.size]? = some (.cells #[.slice none 0 0, .slice none 0 0, .slice none 0 0, I 0, I 0] 26 (0, 0)) := by rw [hWw6]; exact heap_at _ _ rfl
      have hSw6 : Held w1 w6 := by rw [hWw6]; exact held_alloc hSw5 _
      have hlw6 : w1.heap.size ≤ w5.heap.size := hSw5.2.2.size
      have hRw6 := (hRw5.below hAw6 (Nat.le_refl _)).more hAw6.size
      clear hWw6
      refine wpAnyH_ready (rs := [6]) (by kernel_rfl) (by simp) ?_
      refine AllReadyH.cons rfl (fun K hK => ?_) AllReadyH.nil
      rw [if_pos (by rfl)]
      refine wp_store_row 26 _ _ rfl _ _ rfl rfl _ _ hrw6 (by kernel_rfl) rfl (by simp [Value.oneCell']) ?_
      have hSw7 := held_row hSw6 hlw6 (#[.slice A3w5 (Ch.mirB b).secs.length k3w5, .slice A1 b.turns.length k1, .slice A4w5 (Ch.mirB b).svs.length k4w5, I b.rule, I b.days])
      refine hK.out _ _ hSw7 (fun _ => ?_)
      clear hK K
      try simp only [Act.put, List.setIfInBounds_toArray, List.set_cons_zero, List.set_cons_succ]
      have hrw7 := setRow_heap _ _ _ (#[.slice A3w5 (Ch.mirB b).secs.length k3w5, .slice A1 b.turns.length k1, .slice A4w5 (Ch.mirB b).svs.length k4w5, I b.rule, I b.days]) _ _ hrw6
      have hRw7 : RB _ _ (Ch.mirB b) (.slice A3w5 (Ch.mirB b).secs.length k3w5) (.slice A1 b.turns.length k1) (.slice A4w5 (Ch.mirB b).svs.length k4w5) := rb_setRow hRw6 (#[.slice A3w5 (Ch.mirB b).secs.length k3w5, .slice A1 b.turns.length k1, .slice A4w5 (Ch.mirB b).svs.length k4w5, I b.rule, I b.days]) hRw5.secs.in_lt hRw5.svs.in_lt (HRB0.out _ (hb1.trans (hSw7.2.2.mono hb1.size))).turns
      refine wpAnyH_take (i := 7) (oi := { dst := some 6, op := Go.Op.assign (Go.Operand.tmp 30), type := 3, pos := "outright.go:259", after := #[{ on := 4, ground := Go.Ground.data }, { on := 6, ground := Go.Ground.chain }, { on := 0, ground := Go.Ground.phase }, { on := 1, ground := Go.Ground.phase }, { on := 2, ground := Go.Ground.phase }, { on := 3, ground := Go.Ground.phase }, { on := 4, ground := Go.Ground.phase }, { on := 5, ground := Go.Ground.phase }, { on := 6, ground := Go.Ground.phase }], guard := none }) (v := ?v8) rfl (by kernel_rfl) (by kernel_rfl) (by kernel_rfl) (fun _ _ _ h => h) (Or.inl ⟨by rfl, ?hy8⟩) hSw7 ?r8
      case hy8 =>
        intro w' hSw
        have hq := hSw.1
        clear hSw
        go_simp
        with_reducible rfl
      try simp only [Act.put, List.setIfInBounds_toArray, List.set_cons_zero, List.set_cons_succ]
      refine wpAnyH_done (by kernel_rfl) ?_ _
      show R _ _
      rw [HR.out]
      simp only [Act.put, List.setIfInBounds_toArray, List.set_cons_zero, List.set_cons_succ]
      exact ⟨w5.heap.size, A3w5, k3w5, A4w5, k4w5, ⟨_, _, _, _, _, rfl⟩, hrw7, hlw6, hSw7, hRw7⟩
    · go_simp
      refine hK.out _ _ (held_alloc (held_start w1) _) (fun _ => ?_)
      clear hK K
      try simp only [Act.put, List.setIfInBounds_toArray, List.set_cons_zero, List.set_cons_succ]
      refine name_anyH ?_
      intro w9 hWw9
      have hAw9 : Below w1.drew.heap.size w1.drew w9 := by rw [hWw9]; exact (Below.refl _ _).alloc (Nat.le_refl _) _
      have hrw9 : w9.heap[w1.drew.heap.size]? = some (.cells #[.slice none 0 0, .slice none 0 0, .slice none 0 0, I 0, I 0] 26 (0, 0)) := by rw [hWw9]; exact heap_at _ _ rfl
      have hSw9 : Held w1 w9 := by rw [hWw9]; exact held_alloc (held_start w1) _
      have hlw9 : w1.heap.size ≤ w1.drew.heap.size := (held_start w1).2.2.size
      clear hWw9
      refine wpAnyH_ready (rs := [1]) (by kernel_rfl) (by simp) ?_
      refine AllReadyH.cons rfl (fun K hK => ?_) AllReadyH.nil
      go_simp
      refine (HMIR.out _ hSw9).mono ?_
      rintro e w10 ⟨⟨Sw10, Vw10, rfl, hRw10, hfSw10, hfVw10⟩, hBw10⟩
      have hSw10 := held_step hBw10 hSw9
      have hrw10 := (hBw10.block _ (heap_lt hrw9)).trans hrw9
      have hnlw10 : w1.drew.heap.size < w9.heap.size := heap_lt hrw9
      have hneSw10 : 0 < (Ch.mirB b).secs.length → ∀ g o m c, Sw10 = .slice (some ⟨g, o, none⟩) m c → g ≠ w1.drew.heap.size := fun _ g o m c e => by have := hfSw10 g o m c e; omega
      have hneVw10 : 0 < (Ch.mirB b).svs.length → ∀ g o m c, Vw10 = .slice (some ⟨g, o, none⟩) m c → g ≠ w1.drew.heap.size := fun _ g o m c e => by have := hfVw10 g o m c e; omega
      obtain ⟨A3w10, k3w10, rfl⟩ := hRw10.secs.form
      obtain ⟨A4w10, k4w10, rfl⟩ := hRw10.svs.form
      refine hK.out _ _ hSw10 (fun _ => ?_)
      clear hK K
      try simp only [Act.put, List.setIfInBounds_toArray, List.set_cons_zero, List.set_cons_succ]
      refine wpAnyH_ready (rs := [6]) (by kernel_rfl) (by simp) ?_
      refine AllReadyH.cons rfl (fun K hK => ?_) AllReadyH.nil
      rw [if_pos (by rfl)]
      refine wp_store_row 26 _ _ rfl _ _ rfl rfl _ _ hrw10 (by kernel_rfl) rfl (by simp [Value.oneCell']) ?_
      have hSw11 := held_row hSw10 hlw9 (#[.slice A3w10 (Ch.mirB b).secs.length k3w10, .slice A1 b.turns.length k1, .slice A4w10 (Ch.mirB b).svs.length k4w10, I b.rule, I b.days])
      refine hK.out _ _ hSw11 (fun _ => ?_)
      clear hK K
      try simp only [Act.put, List.setIfInBounds_toArray, List.set_cons_zero, List.set_cons_succ]
      have hrw11 := setRow_heap _ _ _ (#[.slice A3w10 (Ch.mirB b).secs.length k3w10, .slice A1 b.turns.length k1, .slice A4w10 (Ch.mirB b).svs.length k4w10, I b.rule, I b.days]) _ _ hrw10
      have hRw11 : RB _ _ (Ch.mirB b) (.slice A3w10 (Ch.mirB b).secs.length k3w10) (.slice A1 b.turns.length k1) (.slice A4w10 (Ch.mirB b).svs.length k4w10) := rb_setRow hRw10 (#[.slice A3w10 (Ch.mirB b).secs.length k3w10, .slice A1 b.turns.length k1, .slice A4w10 (Ch.mirB b).svs.length k4w10, I b.rule, I b.days]) hneSw10 hneVw10 (HRB0.out _ (hb1.trans (hSw11.2.2.mono hb1.size))).turns
      refine wpAnyH_take (i := 7) (oi := { dst := some 6, op := Go.Op.assign (Go.Operand.tmp 30), type := 3, pos := "outright.go:259", after := #[{ on := 4, ground := Go.Ground.data }, { on := 6, ground := Go.Ground.chain }, { on := 0, ground := Go.Ground.phase }, { on := 1, ground := Go.Ground.phase }, { on := 2, ground := Go.Ground.phase }, { on := 3, ground := Go.Ground.phase }, { on := 4, ground := Go.Ground.phase }, { on := 5, ground := Go.Ground.phase }, { on := 6, ground := Go.Ground.phase }], guard := none }) (v := ?v12) rfl (by kernel_rfl) (by kernel_rfl) (by kernel_rfl) (fun _ _ _ h => h) (Or.inl ⟨by rfl, ?hy12⟩) hSw11 ?r12
      case hy12 =>
        intro w' hSw
        have hq := hSw.1
        clear hSw
        go_simp
        with_reducible rfl
      try simp only [Act.put, List.setIfInBounds_toArray, List.set_cons_zero, List.set_cons_succ]
      refine wpAnyH_done (by kernel_rfl) ?_ _
      show R _ _
      rw [HR.out]
      simp only [Act.put, List.setIfInBounds_toArray, List.set_cons_zero, List.set_cons_succ]
      exact ⟨w1.drew.heap.size, A3w10, k3w10, A4w10, k4w10, ⟨_, _, _, _, _, rfl⟩, hrw11, hlw9, hSw11, hRw11⟩
  case rest =>
    intro a' w2 hra
    rw [HR.out] at hra
    clear HR
    obtain ⟨n, A3, k3, A4, k4, ⟨u26, u27, u28, u29, u30, rfl⟩, rX, hnX, hHE, hRX⟩ := hra
    subst hA
    try simp only [Act.put, List.setIfInBounds_toArray, List.set_cons_zero, List.set_cons_succ]

    have hB2 := hHE.2.2
    have lX := heap_lt rX
    replace rB := (hB2.block _ lB).trans rB
    replace lB := Nat.lt_of_lt_of_le lB hB2.size
    replace rN := (hB2.block _ lN).trans rN
    replace lN := Nat.lt_of_lt_of_le lN hB2.size
    have hb2 := hb1.trans (hB2.mono hb1.size)
    have HRBb := Lib.hid (show ∀ W', Below w2.heap.size w2 W' → RB W' W'.heap.size b (.slice A0 b.secs.length k0) (.slice A1 b.turns.length k1) (.slice A2 b.svs.length k2) from fun W' h => HRB0.out W' (hb2.trans (h.mono hb2.size)))
    have HRBx := Lib.hid (show ∀ W', Below w2.heap.size w2 W' → RB W' W'.heap.size (Ch.mirB b) (.slice A3 (Ch.mirB b).secs.length k3) (.slice A1 b.turns.length k1) (.slice A4 (Ch.mirB b).svs.length k4) from fun W' h => (hRX.below h (Nat.le_refl _)).more h.size)
    have HBw2 := Lib.hid hb2
    clear hHE hB2 hb1 hnX hRX HMIR HRB0 qB0 qB1 qB2 qB3 qB4 hb2
    obtain ⟨i, hi⟩ : ∃ i : Nat, (i : Int) = n0 % b.secs.length := ⟨_, Int.toNat_of_nonneg (Int.emod_nonneg _ (by omega))⟩
    obtain ⟨d, hd⟩ : ∃ d : Nat, (d : Int) = n1 % (b.days + 1) := ⟨_, Int.toNat_of_nonneg (Int.emod_nonneg _ (by omega))⟩
    have hi1 : i < b.secs.length := by have := Int.emod_lt_of_pos n0 (show (0 : Int) < b.secs.length by omega); omega
    have hd1 : (d : Int) ≤ b.days := by have := Int.emod_lt_of_pos n1 (show (0 : Int) < b.days + 1 by omega); omega
    have hd1w : IntKind.i64.wrap (b.days + 1) = b.days + 1 := IntWalk.i64_in _ (by omega)
    have qB4 := cell_of_row w2 _ 4 _ _ _ rB
    simp only [List.getElem?_toArray, List.getElem?_cons_zero, List.getElem?_cons_succ] at qB4
    have qN0 := cell_of_row w2 _ 0 _ _ _ rN
    have qN1 := cell_of_row w2 _ 1 _ _ _ rN
    simp only [List.getElem?_toArray, List.getElem?_cons_zero, List.getElem?_cons_succ] at qN0 qN1
    go_wp2_with fail
    go_region_held3 (fun w' => Held w2 w') (first | assumption | exact held_start _ | exact held_step (by assumption) (by assumption) | exact held_step (by assumption) (held_start _) | go_keep)
      (first | (go_at_call 27; refine (mod_any _ _ (by omega) (by omega) _).mono ?_; rintro e w3 ⟨rfl, hB3⟩))
    have hHE : Held w2 w3 := by assumption
    rw [← hi, ← hd]
    obtain ⟨u, hu⟩ : ∃ u : World, u = w3 := ⟨_, rfl⟩
    rw [← hu] at hHE ⊢
    clear hu hB3
    have hb_u := hHE.2.2
    replace rB := (hb_u.block _ lB).trans rB
    replace lB := Nat.lt_of_lt_of_le lB hb_u.size
    replace rX := (hb_u.block _ lX).trans rX
    replace lX := Nat.lt_of_lt_of_le lX hb_u.size
    clear qB4 qN0 qN1 rN lN hHE hi hd hd1w
    have hei : (b.secs.length : Int) - 1 - i = ((b.secs.length - 1 - i : Nat) : Int) := by omega
    have hnw : IntKind.i64.wrap ((b.secs.length : Int) - 1) = (b.secs.length : Int) - 1 := IntWalk.i64_in _ (by omega)
    have hni : IntKind.i64.wrap ((b.secs.length : Int) - 1 - i) = (b.secs.length : Int) - 1 - i := IntWalk.i64_in _ (by omega)
    have hdy2 : ∀ q, Ch.isDay (Ch.mirB b) q = Ch.isDay b q := fun _ => rfl
    obtain ⟨⟨s0, s1⟩, hs⟩ : ∃ s : Ch.Sp, Ch.thickSp b i d = s := ⟨_, rfl⟩
    obtain ⟨⟨u0, u1⟩, hu⟩ : ∃ s : Ch.Sp, Ch.wearSp b i = s := ⟨_, rfl⟩
    obtain ⟨⟨p0, pe⟩, hp⟩ : ∃ s : Int × Int, Ch.thinR b i = s := ⟨_, rfl⟩
    obtain ⟨⟨t0, te⟩, ht⟩ : ∃ s : Int × Int, Ch.turnR b = s := ⟨_, rfl⟩
    obtain ⟨E1, hE1⟩ : ∃ E : Int, Ch.studyE b (Ch.isSection b i && Ch.isDay b d) = E := ⟨_, rfl⟩
    obtain ⟨E3, hE3⟩ : ∃ E : Int, Ch.studyE b (Ch.isSection b i) = E := ⟨_, rfl⟩
    obtain ⟨E4, hE4⟩ : ∃ E : Int, Ch.studyE b (Ch.isDay b d) = E := ⟨_, rfl⟩
    obtain ⟨L, hL⟩ : ∃ L : List Int, Ch.cutL b d = L := ⟨_, rfl⟩
    obtain ⟨L', hL'⟩ : ∃ L : List Int, Ch.cutL (Ch.mirB b) d = L := ⟨_, rfl⟩
    obtain ⟨wl, hwl⟩ : ∃ L : List Int, Ch.wrongL b = L := ⟨_, rfl⟩
    obtain ⟨hlen, hmemL⟩ := Ch.mir_cut HVAL.out (d : Int)
    have hLn : ∀ x ∈ L, 0 ≤ x ∧ x < b.secs.length := by
      intro x hx
      rw [← hL, Ch.cutL] at hx
      split at hx
      · obtain ⟨k, rfl, hk, -⟩ := Ch.mem_someOf.1 hx
        omega
      · simp at hx
    rw [hL, hL'] at hlen hmemL
    have hck0 : Ch.check b = 0 := by rw [Ch.check, if_pos HVAL.out]
    have hck1 : Ch.check (Ch.mirB b) = 0 := by rw [Ch.check, if_pos (Ch.mir_valid HVAL.out)]
    have c1 := fun W' h => Thick_any b (.slice A0 b.secs.length k0) (.slice A1 b.turns.length k1) (.slice A2 b.svs.length k2) i d W' (HRBb.out W' h)
    have c2 := fun W' h => Thick_any (Ch.mirB b) (.slice A3 (Ch.mirB b).secs.length k3) (.slice A1 b.turns.length k1) (.slice A4 (Ch.mirB b).svs.length k4) ((b.secs.length - 1 - i : Nat) : Int) d W' (HRBx.out W' h)
    have c3 := fun W' h => Wear_any b (.slice A0 b.secs.length k0) (.slice A1 b.turns.length k1) (.slice A2 b.svs.length k2) i W' (HRBb.out W' h)
    have c4 := fun W' h => Wear_any (Ch.mirB b) (.slice A3 (Ch.mirB b).secs.length k3) (.slice A1 b.turns.length k1) (.slice A4 (Ch.mirB b).svs.length k4) ((b.secs.length - 1 - i : Nat) : Int) W' (HRBx.out W' h)
    have c5 := fun W' h => Thin_any b (.slice A0 b.secs.length k0) (.slice A1 b.turns.length k1) (.slice A2 b.svs.length k2) i W' (HRBb.out W' h)
    have c6 := fun W' h => Thin_any (Ch.mirB b) (.slice A3 (Ch.mirB b).secs.length k3) (.slice A1 b.turns.length k1) (.slice A4 (Ch.mirB b).svs.length k4) ((b.secs.length - 1 - i : Nat) : Int) W' (HRBx.out W' h)
    have c7 := fun W' h => Cut_any b (.slice A0 b.secs.length k0) (.slice A1 b.turns.length k1) (.slice A2 b.svs.length k2) d W' (HRBb.out W' h)
    have c8 := fun W' h => Cut_any (Ch.mirB b) (.slice A3 (Ch.mirB b).secs.length k3) (.slice A1 b.turns.length k1) (.slice A4 (Ch.mirB b).svs.length k4) d W' (HRBx.out W' h)
    have c9 := fun W' h => Turn_any b (.slice A0 b.secs.length k0) (.slice A1 b.turns.length k1) (.slice A2 b.svs.length k2) W' (HRBb.out W' h)
    have c10 := fun W' h => Turn_any (Ch.mirB b) (.slice A3 (Ch.mirB b).secs.length k3) (.slice A1 b.turns.length k1) (.slice A4 (Ch.mirB b).svs.length k4) W' (HRBx.out W' h)
    have c11 := fun W' h => Wrong_any b (.slice A0 b.secs.length k0) (.slice A1 b.turns.length k1) (.slice A2 b.svs.length k2) W' (HRBb.out W' h)
    have c12 := fun W' h => Wrong_any (Ch.mirB b) (.slice A3 (Ch.mirB b).secs.length k3) (.slice A1 b.turns.length k1) (.slice A4 (Ch.mirB b).svs.length k4) W' (HRBx.out W' h)
    simp only [hs, hE1] at c1
    simp only [Ch.mir_thick HVAL.out hi1, Ch.mir_study HVAL.out, Ch.mir_isSection hi1, hdy2, hs, hE1] at c2
    simp only [hu, hE3] at c3
    simp only [Ch.mir_wear HVAL.out hi1, Ch.mir_study HVAL.out, Ch.mir_isSection hi1, hu, hE3] at c4
    simp only [hp] at c5
    simp only [Ch.mir_thin HVAL.out hi1, hp] at c6
    simp only [hL, hE4] at c7
    simp only [Ch.mir_study HVAL.out, hdy2, hL', hE4] at c8
    simp only [ht] at c9
    simp only [Ch.mir_turn HVAL.out, ht] at c10
    simp only [hwl, hck0] at c11
    simp only [Ch.mir_wrong HVAL.out, hwl, hck1] at c12
    rw [← hei] at c2 c4 c6
    have D1 := Lib.hid c1
    have D2 := Lib.hid c2
    have D3 := Lib.hid c3
    have D4 := Lib.hid c4
    have D5 := Lib.hid c5
    have D6 := Lib.hid c6
    have D7 := Lib.hid c7
    have D8 := Lib.hid c8
    have D9 := Lib.hid c9
    have D10 := Lib.hid c10
    have D11 := Lib.hid c11
    have D12 := Lib.hid c12
    have HLEN := Lib.hid hlen
    have HMEM := Lib.hid hmemL
    have HLN := Lib.hid hLn
    clear c1 c2 c3 c4 c5 c6 c7 c8 c9 c10 c11 c12 hs hu hp ht hE1 hE3 hE4 hL hL' hwl hlen hmemL hLn hck0 hck1 hei hdy2
    have qB0 := cell_of_row u _ 0 _ _ _ rB
    have qB1 := cell_of_row u _ 1 _ _ _ rB
    have qB2 := cell_of_row u _ 2 _ _ _ rB
    have qB3 := cell_of_row u _ 3 _ _ _ rB
    have qB4 := cell_of_row u _ 4 _ _ _ rB
    simp only [List.getElem?_toArray, List.getElem?_cons_zero, List.getElem?_cons_succ] at qB0 qB1 qB2 qB3 qB4
    go_wp2_with fail
    clear qB0 qB1 qB2 qB3 qB4
    refine (D1.out _ hb_u).mono ?_
    rintro e w4 ⟨rfl, hB_w4⟩
    replace rB := (hB_w4.block _ lB).trans rB
    replace lB := Nat.lt_of_lt_of_le lB hB_w4.size
    replace rX := (hB_w4.block _ lX).trans rX
    replace lX := Nat.lt_of_lt_of_le lX hB_w4.size
    have hb_w4 := hb_u.trans (hB_w4.mono hb_u.size)
    clear hB_w4 hb_u
    have qX0 := cell_of_row w4 _ 0 _ _ _ rX
    have qX1 := cell_of_row w4 _ 1 _ _ _ rX
    have qX2 := cell_of_row w4 _ 2 _ _ _ rX
    have qX3 := cell_of_row w4 _ 3 _ _ _ rX
    have qX4 := cell_of_row w4 _ 4 _ _ _ rX
    simp only [List.getElem?_toArray, List.getElem?_cons_zero, List.getElem?_cons_succ] at qX0 qX1 qX2 qX3 qX4
    go_wp2_with fail
    clear qX0 qX1 qX2 qX3 qX4
    refine name_calls ?_
    intro W5 hW_W5
    have hA_W5 : Below w4.heap.size w4 W5 := by rw [hW_W5]; exact (Below.refl _ _).alloc (Nat.le_refl _) _
    have rS : W5.heap[w4.heap.size]? = some (.cells #[I s0, I s1] 51 (0, 0)) := by rw [hW_W5]; exact heap_at _ _ rfl
    have lS : w4.heap.size < W5.heap.size := by rw [hW_W5]; simp
    replace rB := (hA_W5.block _ lB).trans rB
    replace lB := Nat.lt_of_lt_of_le lB hA_W5.size
    replace rX := (hA_W5.block _ lX).trans rX
    replace lX := Nat.lt_of_lt_of_le lX hA_W5.size
    have hb_W5 := hb_w4.trans (hA_W5.mono hb_w4.size)
    clear hW_W5 hA_W5 hb_w4
    refine (D2.out _ hb_W5).mono ?_
    rintro e w5 ⟨rfl, hB_w5⟩
    replace rB := (hB_w5.block _ lB).trans rB
    replace lB := Nat.lt_of_lt_of_le lB hB_w5.size
    replace rX := (hB_w5.block _ lX).trans rX
    replace lX := Nat.lt_of_lt_of_le lX hB_w5.size
    replace rS := (hB_w5.block _ lS).trans rS
    replace lS := Nat.lt_of_lt_of_le lS hB_w5.size
    have hb_w5 := hb_W5.trans (hB_w5.mono hb_W5.size)
    clear hB_w5 hb_W5
    have qB0 := cell_of_row w5 _ 0 _ _ _ rB
    have qB1 := cell_of_row w5 _ 1 _ _ _ rB
    have qB2 := cell_of_row w5 _ 2 _ _ _ rB
    have qB3 := cell_of_row w5 _ 3 _ _ _ rB
    have qB4 := cell_of_row w5 _ 4 _ _ _ rB
    simp only [List.getElem?_toArray, List.getElem?_cons_zero, List.getElem?_cons_succ] at qB0 qB1 qB2 qB3 qB4
    go_wp2_with fail
    clear qB0 qB1 qB2 qB3 qB4
    refine name_calls ?_
    intro W6 hW_W6
    have hA_W6 : Below w5.heap.size w5 W6 := by rw [hW_W6]; exact (Below.refl _ _).alloc (Nat.le_refl _) _
    have rT : W6.heap[w5.heap.size]? = some (.cells #[I s0, I s1] 51 (0, 0)) := by rw [hW_W6]; exact heap_at _ _ rfl
    have lT : w5.heap.size < W6.heap.size := by rw [hW_W6]; simp
    replace rB := (hA_W6.block _ lB).trans rB
    replace lB := Nat.lt_of_lt_of_le lB hA_W6.size
    replace rX := (hA_W6.block _ lX).trans rX
    replace lX := Nat.lt_of_lt_of_le lX hA_W6.size
    replace rS := (hA_W6.block _ lS).trans rS
    replace lS := Nat.lt_of_lt_of_le lS hA_W6.size
    have hb_W6 := hb_w5.trans (hA_W6.mono hb_w5.size)
    clear hW_W6 hA_W6 hb_w5
    refine (D3.out _ hb_W6).mono ?_
    rintro e w6 ⟨rfl, hB_w6⟩
    replace rB := (hB_w6.block _ lB).trans rB
    replace lB := Nat.lt_of_lt_of_le lB hB_w6.size
    replace rX := (hB_w6.block _ lX).trans rX
    replace lX := Nat.lt_of_lt_of_le lX hB_w6.size
    replace rS := (hB_w6.block _ lS).trans rS
    replace lS := Nat.lt_of_lt_of_le lS hB_w6.size
    replace rT := (hB_w6.block _ lT).trans rT
    replace lT := Nat.lt_of_lt_of_le lT hB_w6.size
    have hb_w6 := hb_W6.trans (hB_w6.mono hb_W6.size)
    clear hB_w6 hb_W6
    have qX0 := cell_of_row w6 _ 0 _ _ _ rX
    have qX1 := cell_of_row w6 _ 1 _ _ _ rX
    have qX2 := cell_of_row w6 _ 2 _ _ _ rX
    have qX3 := cell_of_row w6 _ 3 _ _ _ rX
    have qX4 := cell_of_row w6 _ 4 _ _ _ rX
    simp only [List.getElem?_toArray, List.getElem?_cons_zero, List.getElem?_cons_succ] at qX0 qX1 qX2 qX3 qX4
    go_wp2_with fail
    clear qX0 qX1 qX2 qX3 qX4
    refine name_calls ?_
    intro W7 hW_W7
    have hA_W7 : Below w6.heap.size w6 W7 := by rw [hW_W7]; exact (Below.refl _ _).alloc (Nat.le_refl _) _
    have rU : W7.heap[w6.heap.size]? = some (.cells #[I u0, I u1] 51 (0, 0)) := by rw [hW_W7]; exact heap_at _ _ rfl
    have lU : w6.heap.size < W7.heap.size := by rw [hW_W7]; simp
    replace rB := (hA_W7.block _ lB).trans rB
    replace lB := Nat.lt_of_lt_of_le lB hA_W7.size
    replace rX := (hA_W7.block _ lX).trans rX
    replace lX := Nat.lt_of_lt_of_le lX hA_W7.size
    replace rS := (hA_W7.block _ lS).trans rS
    replace lS := Nat.lt_of_lt_of_le lS hA_W7.size
    replace rT := (hA_W7.block _ lT).trans rT
    replace lT := Nat.lt_of_lt_of_le lT hA_W7.size
    have hb_W7 := hb_w6.trans (hA_W7.mono hb_w6.size)
    clear hW_W7 hA_W7 hb_w6
    refine (D4.out _ hb_W7).mono ?_
    rintro e w7 ⟨rfl, hB_w7⟩
    replace rB := (hB_w7.block _ lB).trans rB
    replace lB := Nat.lt_of_lt_of_le lB hB_w7.size
    replace rX := (hB_w7.block _ lX).trans rX
    replace lX := Nat.lt_of_lt_of_le lX hB_w7.size
    replace rS := (hB_w7.block _ lS).trans rS
    replace lS := Nat.lt_of_lt_of_le lS hB_w7.size
    replace rT := (hB_w7.block _ lT).trans rT
    replace lT := Nat.lt_of_lt_of_le lT hB_w7.size
    replace rU := (hB_w7.block _ lU).trans rU
    replace lU := Nat.lt_of_lt_of_le lU hB_w7.size
    have hb_w7 := hb_W7.trans (hB_w7.mono hb_W7.size)
    clear hB_w7 hb_W7
    have qS0 := cell_of_row w7 _ 0 _ _ _ rS
    have qS1 := cell_of_row w7 _ 1 _ _ _ rS
    simp only [List.getElem?_toArray, List.getElem?_cons_zero, List.getElem?_cons_succ] at qS0 qS1
    have qT0 := cell_of_row w7 _ 0 _ _ _ rT
    have qT1 := cell_of_row w7 _ 1 _ _ _ rT
    simp only [List.getElem?_toArray, List.getElem?_cons_zero, List.getElem?_cons_succ] at qT0 qT1
    have qU0 := cell_of_row w7 _ 0 _ _ _ rU
    have qU1 := cell_of_row w7 _ 1 _ _ _ rU
    simp only [List.getElem?_toArray, List.getElem?_cons_zero, List.getElem?_cons_succ] at qU0 qU1
    have qB0 := cell_of_row w7 _ 0 _ _ _ rB
    have qB1 := cell_of_row w7 _ 1 _ _ _ rB
    have qB2 := cell_of_row w7 _ 2 _ _ _ rB
    have qB3 := cell_of_row w7 _ 3 _ _ _ rB
    have qB4 := cell_of_row w7 _ 4 _ _ _ rB
    simp only [List.getElem?_toArray, List.getElem?_cons_zero, List.getElem?_cons_succ] at qB0 qB1 qB2 qB3 qB4
    go_wp2_with fail
    clear qS0 qS1
    clear qT0 qT1
    clear qU0 qU1
    clear qB0 qB1 qB2 qB3 qB4
    refine name_calls ?_
    intro W8 hW_W8
    have hA_W8 : Below w7.heap.size w7 W8 := by rw [hW_W8]; exact (Below.refl _ _).alloc (Nat.le_refl _) _
    have rV : W8.heap[w7.heap.size]? = some (.cells #[I u0, I u1] 51 (0, 0)) := by rw [hW_W8]; exact heap_at _ _ rfl
    have lV : w7.heap.size < W8.heap.size := by rw [hW_W8]; simp
    replace rB := (hA_W8.block _ lB).trans rB
    replace lB := Nat.lt_of_lt_of_le lB hA_W8.size
    replace rX := (hA_W8.block _ lX).trans rX
    replace lX := Nat.lt_of_lt_of_le lX hA_W8.size
    have hb_W8 := hb_w7.trans (hA_W8.mono hb_w7.size)
    clear hW_W8 hA_W8 hb_w7
    clear rS lS rT lT rU lU rV lV
    refine (D5.out _ hb_W8).mono ?_
    rintro e w8 ⟨rfl, hB_w8⟩
    replace rB := (hB_w8.block _ lB).trans rB
    replace lB := Nat.lt_of_lt_of_le lB hB_w8.size
    replace rX := (hB_w8.block _ lX).trans rX
    replace lX := Nat.lt_of_lt_of_le lX hB_w8.size
    have hb_w8 := hb_W8.trans (hB_w8.mono hb_W8.size)
    clear hB_w8 hb_W8 D1 D2 D3 D4
    have qX0 := cell_of_row w8 _ 0 _ _ _ rX
    have qX1 := cell_of_row w8 _ 1 _ _ _ rX
    have qX2 := cell_of_row w8 _ 2 _ _ _ rX
    have qX3 := cell_of_row w8 _ 3 _ _ _ rX
    have qX4 := cell_of_row w8 _ 4 _ _ _ rX
    simp only [List.getElem?_toArray, List.getElem?_cons_zero, List.getElem?_cons_succ] at qX0 qX1 qX2 qX3 qX4
    go_wp2_with fail
    clear qX0 qX1 qX2 qX3 qX4
    refine (D6.out _ hb_w8).mono ?_
    rintro e w9 ⟨rfl, hB_w9⟩
    replace rB := (hB_w9.block _ lB).trans rB
    replace lB := Nat.lt_of_lt_of_le lB hB_w9.size
    replace rX := (hB_w9.block _ lX).trans rX
    replace lX := Nat.lt_of_lt_of_le lX hB_w9.size
    have hb_w9 := hb_w8.trans (hB_w9.mono hb_w8.size)
    clear hB_w9 hb_w8
    have qB0 := cell_of_row w9 _ 0 _ _ _ rB
    have qB1 := cell_of_row w9 _ 1 _ _ _ rB
    have qB2 := cell_of_row w9 _ 2 _ _ _ rB
    have qB3 := cell_of_row w9 _ 3 _ _ _ rB
    have qB4 := cell_of_row w9 _ 4 _ _ _ rB
    simp only [List.getElem?_toArray, List.getElem?_cons_zero, List.getElem?_cons_succ] at qB0 qB1 qB2 qB3 qB4
    go_wp2_with fail
    clear qB0 qB1 qB2 qB3 qB4
    refine (D7.out _ hb_w9).mono ?_
    rintro e w10 ⟨⟨v10, rfl, hsl10⟩, hB_w10⟩
    replace rB := (hB_w10.block _ lB).trans rB
    replace lB := Nat.lt_of_lt_of_le lB hB_w10.size
    replace rX := (hB_w10.block _ lX).trans rX
    replace lX := Nat.lt_of_lt_of_le lX hB_w10.size
    have hb_w10 := hb_w9.trans (hB_w10.mono hb_w9.size)
    clear hB_w10 hb_w9
    obtain ⟨A10, k10, rfl⟩ := hsl10.form
    have HSL10 := Lib.hid hsl10
    clear hsl10
    have qX0 := cell_of_row w10 _ 0 _ _ _ rX
    have qX1 := cell_of_row w10 _ 1 _ _ _ rX
    have qX2 := cell_of_row w10 _ 2 _ _ _ rX
    have qX3 := cell_of_row w10 _ 3 _ _ _ rX
    have qX4 := cell_of_row w10 _ 4 _ _ _ rX
    simp only [List.getElem?_toArray, List.getElem?_cons_zero, List.getElem?_cons_succ] at qX0 qX1 qX2 qX3 qX4
    go_wp2_with fail
    clear qX0 qX1 qX2 qX3 qX4
    refine (D8.out _ hb_w10).mono ?_
    rintro e w11 ⟨⟨v11, rfl, hsl11⟩, hB_w11⟩
    replace rB := (hB_w11.block _ lB).trans rB
    replace lB := Nat.lt_of_lt_of_le lB hB_w11.size
    replace rX := (hB_w11.block _ lX).trans rX
    replace lX := Nat.lt_of_lt_of_le lX hB_w11.size
    have hb_w11 := hb_w10.trans (hB_w11.mono hb_w10.size)
    have HSL11 := Lib.hid ((HSL10.out.below hB_w11 (Nat.le_refl _)).more hB_w11.size)
    have hsl11' := hsl11
    rw [HLEN.out] at hsl11'
    obtain ⟨A11, k11, rfl⟩ := hsl11'.form
    have HSO11 := Lib.hid hsl11
    clear hB_w11 hb_w10 hsl11 hsl11' HSL10 D5 D6 D7 D8
    have RB11 := Lib.hid rB
    have RX11 := Lib.hid rX
    have HB11 := Lib.hid hb_w11
    have hmx := HSL11.out.le
    unfold maxLen at hmx
    clear rB rX hb_w11
    go_wp2_with fail
    go_loopw [21] (fun pv wr => ∃ k : Nat, k ≤ L.length ∧ pv = I k ∧ Below w11.heap.size w11 wr) (fun pv _ => L.length - (intOf pv).toNat)
    case atStart => exact ⟨0, Nat.zero_le _, rfl, Below.refl _ _⟩
    case round =>
      obtain ⟨k, hk, rfl, hBr⟩ := hrel
      have HBr := Lib.hid hBr
      by_cases hlt : k < L.length
      · have hki : (k : Int) < L.length := by omega
        obtain ⟨bl, off, c', hv, hbl, q0⟩ := (HSL11.out.below hBr (Nat.le_refl _)).int hlt
        injection hv with hA _ hc
        subst hA hc
        have hx := HLN.out L[k] (List.getElem_mem hlt)
        have hmem := HMEM.out L[k] (List.getElem_mem hlt)
        generalize L[k] = x at q0 hx hmem
        have hwx : IntKind.i64.wrap ((b.secs.length : Int) - 1 - x) = (b.secs.length : Int) - 1 - x := IntWalk.i64_in _ (by omega)
        have HME := Lib.hid hmem
        clear hmem hBr
        go_wp2_with fail
        refine (at_any L' ((b.secs.length : Int) - 1 - x) _ wr ((HSO11.out.below HBr.out (Nat.le_refl _)).more HBr.out.size)).mono ?_
        rintro e v1 ⟨rfl, hB_v1⟩
        obtain ⟨q, hq⟩ : ∃ q : Int, Ch.indexOf L' ((b.secs.length : Int) - 1 - x) = q := ⟨_, rfl⟩
        have hq0 : 0 ≤ q := by rw [← hq]; exact Ch.indexOf_nonneg.2 HME.out
        have hqd : decide (q < 0) = false := decide_eq_false (by omega)
        have HV1 := Lib.hid (HBr.out.trans (hB_v1.mono HBr.out.size))
        rw [hq]
        clear hB_v1 hq q0 hwx
        go_wp2_with fail
        go_roundw
        case rel => exact ⟨k + 1, by omega, by go_num, HV1.out⟩
        case measure => simp [intOf]; omega
      · obtain rfl : k = L.length := by omega
        have rB := (hBr.block _ lB).trans RB11.out
        have rX := (hBr.block _ lX).trans RX11.out
        replace lB := Nat.lt_of_lt_of_le lB hBr.size
        replace lX := Nat.lt_of_lt_of_le lX hBr.size
        have hb_r := HB11.out.trans (hBr.mono HB11.out.size)
        clear hBr
        have qB0 := cell_of_row wr _ 0 _ _ _ rB
        have qB1 := cell_of_row wr _ 1 _ _ _ rB
        have qB2 := cell_of_row wr _ 2 _ _ _ rB
        have qB3 := cell_of_row wr _ 3 _ _ _ rB
        have qB4 := cell_of_row wr _ 4 _ _ _ rB
        simp only [List.getElem?_toArray, List.getElem?_cons_zero, List.getElem?_cons_succ] at qB0 qB1 qB2 qB3 qB4
        go_wp2_with fail
        clear qB0 qB1 qB2 qB3 qB4
        refine (D9.out _ hb_r).mono ?_
        rintro e x1 ⟨rfl, hB_x1⟩
        replace rB := (hB_x1.block _ lB).trans rB
        replace lB := Nat.lt_of_lt_of_le lB hB_x1.size
        replace rX := (hB_x1.block _ lX).trans rX
        replace lX := Nat.lt_of_lt_of_le lX hB_x1.size
        have hb_x1 := hb_r.trans (hB_x1.mono hb_r.size)
        clear hB_x1 hb_r
        have qX0 := cell_of_row x1 _ 0 _ _ _ rX
        have qX1 := cell_of_row x1 _ 1 _ _ _ rX
        have qX2 := cell_of_row x1 _ 2 _ _ _ rX
        have qX3 := cell_of_row x1 _ 3 _ _ _ rX
        have qX4 := cell_of_row x1 _ 4 _ _ _ rX
        simp only [List.getElem?_toArray, List.getElem?_cons_zero, List.getElem?_cons_succ] at qX0 qX1 qX2 qX3 qX4
        go_wp2_with fail
        clear qX0 qX1 qX2 qX3 qX4
        refine (D10.out _ hb_x1).mono ?_
        rintro e x2 ⟨rfl, hB_x2⟩
        replace rB := (hB_x2.block _ lB).trans rB
        replace lB := Nat.lt_of_lt_of_le lB hB_x2.size
        replace rX := (hB_x2.block _ lX).trans rX
        replace lX := Nat.lt_of_lt_of_le lX hB_x2.size
        have hb_x2 := hb_x1.trans (hB_x2.mono hb_x1.size)
        clear hB_x2 hb_x1
        have qB0 := cell_of_row x2 _ 0 _ _ _ rB
        have qB1 := cell_of_row x2 _ 1 _ _ _ rB
        have qB2 := cell_of_row x2 _ 2 _ _ _ rB
        have qB3 := cell_of_row x2 _ 3 _ _ _ rB
        have qB4 := cell_of_row x2 _ 4 _ _ _ rB
        simp only [List.getElem?_toArray, List.getElem?_cons_zero, List.getElem?_cons_succ] at qB0 qB1 qB2 qB3 qB4
        go_wp2_with fail
        clear qB0 qB1 qB2 qB3 qB4
        refine (D11.out _ hb_x2).mono ?_
        rintro e x3 ⟨⟨v12, rfl, hsl12⟩, hB_x3⟩
        replace rB := (hB_x3.block _ lB).trans rB
        replace lB := Nat.lt_of_lt_of_le lB hB_x3.size
        replace rX := (hB_x3.block _ lX).trans rX
        replace lX := Nat.lt_of_lt_of_le lX hB_x3.size
        have hb_x3 := hb_x2.trans (hB_x3.mono hb_x2.size)
        clear hB_x3 hb_x2
        obtain ⟨A12, k12, rfl⟩ := hsl12.form
        have HSL12 := Lib.hid hsl12
        clear hsl12
        have qX0 := cell_of_row x3 _ 0 _ _ _ rX
        have qX1 := cell_of_row x3 _ 1 _ _ _ rX
        have qX2 := cell_of_row x3 _ 2 _ _ _ rX
        have qX3 := cell_of_row x3 _ 3 _ _ _ rX
        have qX4 := cell_of_row x3 _ 4 _ _ _ rX
        simp only [List.getElem?_toArray, List.getElem?_cons_zero, List.getElem?_cons_succ] at qX0 qX1 qX2 qX3 qX4
        go_wp2_with fail
        clear qX0 qX1 qX2 qX3 qX4
        refine (D12.out _ hb_x3).mono ?_
        rintro e x4 ⟨⟨v13, rfl, hsl13⟩, hB_x4⟩
        replace rB := (hB_x4.block _ lB).trans rB
        replace lB := Nat.lt_of_lt_of_le lB hB_x4.size
        replace rX := (hB_x4.block _ lX).trans rX
        replace lX := Nat.lt_of_lt_of_le lX hB_x4.size
        have hb_x4 := hb_x3.trans (hB_x4.mono hb_x3.size)
        have HSL13 := Lib.hid ((HSL12.out.below hB_x4 (Nat.le_refl _)).more hB_x4.size)
        obtain ⟨A13, k13, rfl⟩ := hsl13.form
        have HSO13 := Lib.hid hsl13
        clear hB_x4 hb_x3 hsl13 HSL12 rB rX lB lX D9 D10 D11 D12
        go_wp2_with fail
        refine (alike_same wl _ _ x4 HSL13.out HSO13.out).mono ?_
        rintro e x5 ⟨rfl, hB_x5⟩
        have HX5 := Lib.hid (HBw2.out.trans ((hb_x4.trans (hB_x5.mono hb_x4.size)).mono HBw2.out.size))
        clear hB_x5 hb_x4
        go_wp2_with fail
        refine (FORGE.out _ HX5.out).mono ?_
        rintro e x6 ⟨rfl, hB6⟩
        have HB := Lib.hid hB6
        clear hB6
        go_wp2_with fail
        go_ret
        exact ⟨rfl, HB.out⟩

end Go.Proofs.YtkfahochpnggbaaGreat

/- The statement of prowlaw01.ChainMirror, proved: for every book and any two numbers the call returns true, and each argument reads as it did. -/
namespace Go.Proofs.YtkfahochpnggbaaGreat
open Go.ChangeShapes Go.WideShapes Go.ChangeAt Go.RowKit

set_option maxRecDepth 100000 in
theorem chainMirror_lifted (os : Os) (started : os.Started) (H : Type) (enc : TypeId × Value → H) :
    ReturnsInHanded {} Tryz.checked os 10 .any (Rows.chainMirrorSpec.pre6 enc Tryz.prog Tryz.f10 Rows.chainMirrorRow.domain false) (Rows.chainMirrorSpec.post enc Tryz.prog Tryz.f10 false true false false) := by
  refine returnsInHanded_of_change (C := Tryz.checked) knob_own started (by kernel_rfl) Tryz.func10
    (ChangeSpec.witness6 (enc := enc) (C := Tryz.checked) false ⟨#[], #[.agg #[.slice none 0 0, .slice none 0 0, .slice none 0 0, .int .i64 0, .int .i64 0], .agg #[.int .i64 0, .int .i64 0]], []⟩ 8 (by kernel_rfl) (by kernel_rfl) (by kernel_rfl) (by kernel_rfl)) ?_
  intro W base args ds gs before hval0 hW hcnd _
  have hval : ∀ (j : Nat) t v, Tryz.f10.params[j]? = some t → args[j]? = some v → Value.okWide Tryz.prog W .any base t v := hval0
  have hW' := hW
  obtain ⟨p, q, hA0, hV, rfl, hfz, hnd⟩ := hW
  have hA : DataW.TrodAll enc Tryz.prog W 0 (fun _ => true) true Tryz.f10.params.toList args.toList ds p := hA0
  rw [Tryz.params10] at hA hval
  obtain ⟨v0, v1, d0, d1, p0, p1, rfl, rfl, rfl, h0, h1⟩ := trodAll_two hA
  obtain ⟨rfl, rfl⟩ := trodVars_none hV
  clear hA0 hval0
  simp only [List.append_nil] at hW'
  have hlt := hW'.lt
  obtain ⟨b, S, T, V, rfl, hRB⟩ := open_book (hval 0 26 v0 rfl rfl) h0
  obtain ⟨n0, n1, rfl⟩ := open_two (hval 1 27 v1 rfl rfl) h1
  refine (ChainMirror_any b S T V n0 n1 W hRB).mono fun e W' ⟨he, hb⟩ => ?_
  subst he
  refine ⟨_, rfl, post_kept (pa := p0 ++ p1) (pv := []) hW' (fun _ _ _ => trodAll_mk1 (shut_bool Tryz.underlying4 _)) (fun sp hsp => trodAll_mk2 ?_ ?_) (fun _ _ => rfl) (by simp) hb (ok_one (by kernel_rfl) rfl (okWide_bool_mk Tryz.underlying4 _))⟩
  · exact WideElems.Trod_stays laid_out (by kernel_rfl) (of_decide_eq_true (by kernel_rfl)) h0 (fun x hx => hb.same (hlt x (List.mem_append_left _ hx))) (fun x hx => hsp x (List.mem_append_left _ hx))
  · exact WideElems.Trod_stays laid_out (by kernel_rfl) (of_decide_eq_true (by kernel_rfl)) h1 (fun x hx => hb.same (hlt x (List.mem_append_right _ hx))) (fun x hx => hsp x (List.mem_append_right _ hx))

theorem chainMirror_over : Rows.chainMirrorRow.holds Tryz.pinned (OpenSpec.ofChange Rows.chainMirrorSpec) :=
  OpenClaim.holds_of_wide 10 Tryz.f10 rfl rfl rfl rfl rfl rfl rfl ⟨rfl, rfl, rfl, rfl, rfl⟩ rfl rfl rfl rfl rfl (by kernel_rfl) Tryz.func10 (by kernel_rfl)
    (of_decide_eq_true (by kernel_rfl)) (by unfold Func.isWrapper; first | (rw [if_pos (by decide +kernel)]; kernel_rfl) | (rw [if_neg (by decide +kernel)]; exact ⟨rfl, rfl⟩))
    (fun os started H enc _ => chainMirror_lifted os started H enc)

/-- The statement. -/
theorem chainMirror_holds : Rows.ChainMirrorSaid := chainMirror_over

end Go.Proofs.YtkfahochpnggbaaGreat
