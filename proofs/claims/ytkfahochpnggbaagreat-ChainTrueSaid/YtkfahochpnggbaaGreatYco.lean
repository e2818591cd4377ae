/- Texts on the program that the proof leans on, part 67. -/
import Derived.Test.YtkfahochpnggbaaGreatYcn
import Derived.Test.YtkfahochpnggbaaGreatYce
import Derived.Test.YtkfahochpnggbaaGreatYci
import Derived.Test.YtkfahochpnggbaaGreatYcd
import Derived.Test.YtkfahochpnggbaaGreatYbj
import Derived.Test.YtkfahochpnggbaaGreatYbf
set_option linter.unusedVariables false
set_option linter.unusedSimpArgs false

/- Contract of the statements' helper rightly. -/
namespace Go.Proofs.YtkfahochpnggbaaGreat
open Go.RowKit

/-- A list of lists of ints, as it lies. -/
def SlL (w : World) (B : Nat) (v : Value) (D : List (List Int)) : Prop :=
  ∃ rows : List Value, Sl w B 1 v D.length rows ∧ rows.length = D.length ∧ ∀ d (h1 : d < D.length) (h2 : d < rows.length), Sl w B 1 rows[d] D[d].length (D[d].map I)
theorem SlL.below {w w' : World} {B B' : Nat} {v : Value} {D : List (List Int)} (h : SlL w B v D) (hb : Below B' w w') (hB : B ≤ B') : SlL w' B v D := by
  obtain ⟨rows, h1, h2, h3⟩ := h
  exact ⟨rows, h1.below hb hB, h2, fun d k1 k2 => (h3 d k1 k2).below hb hB⟩
theorem SlL.more {w : World} {B B' : Nat} {v : Value} {D : List (List Int)} (h : SlL w B v D) (hB : B ≤ B') : SlL w B' v D := by
  obtain ⟨rows, h1, h2, h3⟩ := h
  exact ⟨rows, h1.more hB, h2, fun d k1 k2 => (h3 d k1 k2).more hB⟩
theorem SlL.form {w : World} {B : Nat} {v : Value} {D : List (List Int)} (h : SlL w B v D) : ∃ A c, v = .slice A D.length c := by
  obtain ⟨rows, h1, -, -⟩ := h
  exact h1.form
theorem SlL.row {w : World} {B : Nat} {v : Value} {D : List (List Int)} (h : SlL w B v D) {d : Nat} (hd : d < D.length) :
    ∃ b off c r, v = .slice (some ⟨b, off, none⟩) D.length c ∧ b < B ∧ w.cell? ⟨b, off + d, none⟩ = some r ∧ Sl w B 1 r D[d].length (D[d].map I) := by
  obtain ⟨rows, h1, h2, h3⟩ := h
  obtain ⟨b, off, c, hv, hb, hc⟩ := h1.at1 hd
  have hd2 : d < rows.length := by omega
  exact ⟨b, off, c, rows[d], hv, hb, hc.trans (List.getElem?_eq_getElem hd2), h3 d hd hd2⟩

theorem mod_in (n many : Int) (h0 : 0 < many) (hm : many ≤ 1000) (w : World) :
    Calls Tryz.prog 27 #[I n, I many] w fun e w' => (∃ q, e = .returned (I q) ∧ 0 ≤ q ∧ q < many) ∧ Below w.heap.size w w' :=
  (mod_any n many h0 hm w).mono fun e w' h => ⟨⟨_, h.1, Int.emod_nonneg n (by omega), Int.emod_lt_of_pos n h0⟩, h.2⟩

/-- All below block Y lies as it lay, and so do a survey's fields there but for its reading. -/
abbrev HeldY (Y : Nat) (x : Ch.Sv) (W w' : World) : Prop :=
  (∀ b o, b < Y → w'.cell? ⟨b, o, none⟩ = W.cell? ⟨b, o, none⟩) ∧ Below Y W w' ∧ (w'.cell? ⟨Y, 0, none⟩ = some (I x.sec) ∧ w'.cell? ⟨Y, 1, none⟩ = some (I x.day) ∧ w'.cell? ⟨Y, 3, none⟩ = some (I x.err)) ∧ Y < w'.heap.size
theorem heldY_start {Y : Nat} {x : Ch.Sv} {W : World} (h : W.heap[Y]? = some (.cells #[I x.sec, I x.day, I x.read, I x.err] 34 (0, 0))) : HeldY Y x W W.drew :=
  ⟨fun b o hb => ((Below.refl Y W).drew).cell (p := ⟨b, o, none⟩) hb, (Below.refl _ _).drew, ⟨cell_of_row W.drew _ 0 _ _ _ h, cell_of_row W.drew _ 1 _ _ _ h, cell_of_row W.drew _ 3 _ _ _ h⟩, heap_lt h⟩
theorem heldY_step {Y : Nat} {x : Ch.Sv} {W w1 w2 : World} (h : HeldY Y x W w1) (hB : Below w1.heap.size w1 w2) : HeldY Y x W w2 := by
  obtain ⟨-, h2, ⟨h3, h4, h5⟩, h6⟩ := h
  have hb := h2.trans (hB.mono (Nat.le_of_lt h6))
  exact ⟨fun b o hbo => hb.cell (p := ⟨b, o, none⟩) hbo, hb, ⟨(hB.cell (p := ⟨Y, 0, none⟩) h6).trans h3, (hB.cell (p := ⟨Y, 1, none⟩) h6).trans h4, (hB.cell (p := ⟨Y, 3, none⟩) h6).trans h5⟩, Nat.lt_of_lt_of_le h6 hB.size⟩
theorem heldY_set {Y : Nat} {x : Ch.Sv} {W w1 : World} (h : HeldY Y x W w1) (v : Value) : HeldY Y x W (w1.setCell ⟨Y, 2, none⟩ v) := by
  obtain ⟨-, h2, ⟨h3, h4, h5⟩, h6⟩ := h
  have hb := h2.setCell (p := ⟨Y, 2, none⟩) (Nat.le_refl _) v
  refine ⟨fun b o hbo => hb.cell (p := ⟨b, o, none⟩) hbo, hb, ⟨?_, ?_, ?_⟩, by simpa [World.setCell] using h6⟩
  · exact (World.cell?_setCell_other w1 ⟨Y, 2, none⟩ ⟨Y, 0, none⟩ v (by simp)).trans h3
  · exact (World.cell?_setCell_other w1 ⟨Y, 2, none⟩ ⟨Y, 1, none⟩ v (by simp)).trans h4
  · exact (World.cell?_setCell_other w1 ⟨Y, 2, none⟩ ⟨Y, 3, none⟩ v (by simp)).trans h5

theorem Ch.Rightly_snoc {D : Nat → Nat → Int} {l m : List Ch.Sv} {k : Nat} (hk : k < l.length) (h : Ch.Rightly D (l.take k) m) {y : Ch.Sv} (hy : Ch.RightSv D l[k] y) : Ch.Rightly D (l.take (k + 1)) (m ++ [y]) := by
  have hl := h.len
  rw [List.length_take] at hl
  have e : l.take (k + 1) = l.take k ++ [l[k]] := by rw [List.take_add_one]; simp [hk]
  refine ⟨by simp [hl]; omega, fun j h1 h2 => ?_⟩
  rw [List.length_append, List.length_singleton] at h2
  by_cases hj : j < m.length
  · have h3 := h.each j (by rw [List.length_take]; omega) hj
    simp only [List.getElem_append_left hj, List.getElem_take] at h3 ⊢
    exact h3
  · obtain rfl : j = k := by omega
    have e2 : m.length = j := by omega
    subst e2
    simp only [List.getElem_take, List.getElem_append_right (Nat.le_refl _), Nat.sub_self, List.getElem_cons_zero]
    exact hy

set_option maxRecDepth 100000 in
set_option maxHeartbeats 8000000 in
theorem rightly_any (b : Ch.Bk) (S T V vD : Value) (D : List (List Int)) (n : Int) (w : World) (hb : RB w w.heap.size b S T V) (hD : SlL w w.heap.size vD D) (hval : Ch.valid b = true)
    (hdl : (D.length : Int) = b.days + 1) (hrow : ∀ d (h : d < D.length), D[d].length = b.secs.length) (hbd : ∀ d s, 0 ≤ (D.getD d []).getD s 0 ∧ (D.getD d []).getD s 0 ≤ 200) :
    Calls Tryz.prog 24 #[vBk S T V b.rule b.days, vD, I n] w fun e w' => (∃ V' m, e = .returned (vBk S T V' b.rule b.days) ∧ Ch.Rightly (fun d s => (D.getD d []).getD s 0) b.svs m ∧ Sl w' w'.heap.size 4 V' m.length (m.flatMap cSv)) ∧ Below w.heap.size w w' := by
  obtain ⟨A0, k0, rfl⟩ := hb.secs.form
  obtain ⟨A1, k1, rfl⟩ := hb.turns.form
  obtain ⟨A2, k2, rfl⟩ := hb.svs.form
  obtain ⟨AD, kD, rfl⟩ := hD.form
  have hl := Ch.svs_le hval
  have hsv : ∀ (k : Nat) (hk : k < b.svs.length), 0 ≤ b.svs[k].sec ∧ b.svs[k].sec < b.secs.length ∧ 0 ≤ b.svs[k].day ∧ b.svs[k].day ≤ b.days ∧ 0 ≤ b.svs[k].err ∧ b.svs[k].err ≤ 5 := fun k hk => by
    simp only [Ch.valid, Bool.and_eq_true, Ch.allSurveys] at hval
    have := List.all_eq_true.1 hval.2 _ (List.getElem_mem hk)
    simp [Ch.isSurvey, Ch.isSection, Ch.isDay, Ch.between] at this
    omega
  have HSV := Lib.hid hsv
  have HB := Lib.hid hb
  have HD := Lib.hid hD
  have HDL := Lib.hid hdl
  have HROW := Lib.hid hrow
  have HBD := Lib.hid hbd
  clear hb hD hval hsv hdl hrow hbd
  go_enter Tryz.func24, Tryz.ntmps24
  go_wp2_with fail
  refine name_world ?_
  intro W1 hW1
  have hb1 : Below w.heap.size w W1 := by rw [hW1]; exact (((Below.refl _ _).alloc (Nat.le_refl _) _).alloc (by simp) _).alloc (by simp; omega) _
  have rB : W1.heap[w.heap.size]? = some (.cells #[.slice A0 b.secs.length k0, .slice A1 b.turns.length k1, .slice A2 b.svs.length k2, I b.rule, I b.days] 26 (0, 0)) := by rw [hW1]; exact (Below.heap_alloc _ _ _ (by simp; omega)).trans ((Below.heap_alloc _ _ _ (by simp)).trans (heap_at _ _ rfl))
  have rO : W1.heap[w.heap.size + 1]? = some (.cells #[.slice none 0 0, .slice none 0 0, .slice none 0 0, I 0, I 0] 26 (0, 0)) := by rw [hW1]; exact (Below.heap_alloc _ _ _ (by simp)).trans (heap_at _ _ (by simp))
  have rX : W1.heap[w.heap.size + 1 + 1]? = some (.cells #[.slice A0 b.secs.length k0, .slice A1 b.turns.length k1, .slice none 0 0, I b.rule, I b.days] 26 (0, 0)) := by rw [hW1]; exact heap_at _ _ (by simp)
  have hz1 : W1.heap.size = w.heap.size + 3 := by rw [hW1]; simp
  have HB1 := Lib.hid hb1
  have RB := Lib.hid rB
  have RO := Lib.hid rO
  have HZ1 := Lib.hid hz1
  go_loopw [8] (fun i wr => ∃ (k : Nat) (v : Value) (m : List Ch.Sv), k ≤ b.svs.length ∧ i = I k ∧ Ch.Rightly (fun d s => (D.getD d []).getD s 0) (b.svs.take k) m ∧ Below (w.heap.size + 1 + 1) W1 wr ∧ wr.heap[w.heap.size + 1 + 1]? = some (.cells #[.slice A0 b.secs.length k0, .slice A1 b.turns.length k1, v, I b.rule, I b.days] 26 (0, 0)) ∧ wr.ownsRow (w.heap.size + 1 + 1 + 1) 34 4 v k (m.flatMap cSv)) (fun i _ => b.svs.length - (intOf i).toNat)
  case atStart => exact ⟨0, .slice none 0 0, [], Nat.zero_le _, rfl, ⟨rfl, fun k h1 h2 => absurd h2 (Nat.not_lt_zero _)⟩, Below.refl _ _, rX, World.ownsRow_nil _ _ _ _⟩
  case round =>
    obtain ⟨k, v, m, hk, rfl, hri, hB, rX, hown⟩ := hrel
    have hbw : Below w.heap.size w wr := HB1.out.trans (hB.mono (by omega))
    have rBr := (hB.block w.heap.size (by omega)).trans RB.out
    have qB2 := cell_of_row wr _ 2 _ _ _ rBr
    simp only [List.getElem?_toArray, List.getElem?_cons_zero, List.getElem?_cons_succ] at qB2
    have HRI := Lib.hid hri
    have HBr := Lib.hid hB
    have HBW := Lib.hid hbw
    have RX := Lib.hid rX
    have HOWN := Lib.hid hown
    clear hB hbw rX hown rB rO rBr hb1 hz1 hW1 hri
    by_cases hlt : k < b.svs.length
    · have hki : (k : Int) < b.svs.length := by omega
      obtain ⟨bl, off, c', hv, hbl, h0, h1, h2, h3⟩ := (HB.out.svs.below HBW.out (Nat.le_refl _)).at4 hlt
      injection hv with hA _ hc
      subst hA hc
      have q0 := h0.trans (by have := flat4 cSv (fun _ => rfl) b.svs k 0 hlt (by omega); simpa [cSv] using this : _ = some (I b.svs[k].sec))
      have q1 := h1.trans (by have := flat4 cSv (fun _ => rfl) b.svs k 1 hlt (by omega); simpa [cSv] using this : _ = some (I b.svs[k].day))
      have q2 := h2.trans (by have := flat4 cSv (fun _ => rfl) b.svs k 2 hlt (by omega); simpa [cSv] using this : _ = some (I b.svs[k].read))
      have q3 := h3.trans (by have := flat4 cSv (fun _ => rfl) b.svs k 3 hlt (by omega); simpa [cSv] using this : _ = some (I b.svs[k].err))
      have hf := HSV.out k hlt
      clear h0 h1 h2 h3
      obtain ⟨x, hx⟩ : ∃ x, b.svs[k] = x := ⟨_, rfl⟩
      rw [hx] at q0 q1 q2 q3 hf
      obtain ⟨f0, f1, f2, f3, f4, f5⟩ := hf
      have HX := Lib.hid hx
      clear hx
      have hxd : x.day.toNat < D.length := by have := HDL.out; omega
      obtain ⟨bd, od, cd, rw1, hvd, hbd1, qd, hsr⟩ := (HD.out.below HBW.out (Nat.le_refl _)).row hxd
      injection hvd with hA _ hc
      subst hA hc
      have hxs : x.sec.toNat < D[x.day.toNat].length := by rw [HROW.out _ hxd]; omega
      obtain ⟨br, or, cr, hvr, hbr1, qr⟩ := hsr.int hxs
      subst hvr
      obtain ⟨tv, htv⟩ : ∃ tv, D[x.day.toNat][x.sec.toNat] = tv := ⟨_, rfl⟩
      have htg : (D.getD x.day.toNat []).getD x.sec.toNat 0 = tv := by simp [List.getD_eq_getElem?_getD, hxd, hxs, htv]
      have htb := HBD.out x.day.toNat x.sec.toNat
      rw [htg] at htb
      obtain ⟨ht0, ht1⟩ := htb
      rw [htv] at qr
      have hrl : D[x.day.toNat].length = b.secs.length := HROW.out _ hxd
      rw [hrl] at qd
      have hdl : (D.length : Int) = b.days + 1 := HDL.out
      have hxd1 : x.day < (D.length : Int) := by omega
      have HTG := Lib.hid htg
      have HZW : w.heap.size + 1 + 1 + 1 ≤ wr.heap.size := heap_lt RX.out
      clear hsr htv htg hxd hxs hrl hdl
      go_wp2_with fail
      refine name_world ?_
      intro w2 hw2
      have hb2 : Below wr.heap.size wr w2 := by rw [hw2]; exact (Below.refl _ _).alloc (Nat.le_refl _) _
      have rY : w2.heap[wr.heap.size]? = some (.cells #[I x.sec, I x.day, I x.read, I x.err] 34 (0, 0)) := by rw [hw2]; exact heap_at _ _ rfl
      have hz2 : w2.heap.size = wr.heap.size + 1 := by rw [hw2]; simp
      have RY := Lib.hid rY
      have HB2 := Lib.hid hb2
      have hm0 : 0 < 2 * x.err + 1 := by omega
      have hm1 : 2 * x.err + 1 ≤ 1000 := by omega
      have em2 : IntKind.i64.wrap (2 * x.err) = 2 * x.err := IntWalk.i64_in _ (by omega)
      have em3 : IntKind.i64.wrap (2 * x.err + 1) = 2 * x.err + 1 := IntWalk.i64_in _ (by omega)
      have qd2 := (hb2.cell (p := ⟨bd, od + x.day.toNat, none⟩) (by show bd < _; have := HBW.out.size; omega)).trans qd
      have qr2 := (hb2.cell (p := ⟨br, or + x.sec.toNat, none⟩) (by show br < _; have := HBW.out.size; omega)).trans qr
      have hbdY : bd < wr.heap.size := by have := HBW.out.size; omega
      have hbrY : br < wr.heap.size := by have := HBW.out.size; omega
      have hdn2 : x.day.toNat < D.length := by omega
      have hsn2 : x.sec.toNat < b.secs.length := by omega
      clear q0 q1 q2 q3 qd qr qB2 rY hb2 hw2
      refine name_act ?_
      intro A hA
      obtain ⟨R, hR⟩ : ∃ R : Act → World → Prop, R = fun a' w' => ∃ r : Int, (∃ u24 u25 u26 u27 u28 u29 u30 u31 u32 u33 u34 u35 u36 u37 u38 u39 u40 u41 u42 u43 u44 u45 u46 u47, a' = ((((((((((((((((((((((((A.put (some 24) u24).put (some 25) u25).put (some 26) u26).put (some 27) u27).put (some 28) u28).put (some 29) u29).put (some 30) u30).put (some 31) u31).put (some 32) u32).put (some 33) u33).put (some 34) u34).put (some 35) u35).put (some 36) u36).put (some 37) u37).put (some 38) u38).put (some 39) u39).put (some 40) u40).put (some 41) u41).put (some 42) u42).put (some 43) u43).put (some 44) u44).put (some 45) u45).put (some 46) u46).put (some 47) u47)) ∧ (0 ≤ r ∧ r ≤ 200 ∧ tv - x.err ≤ r ∧ r ≤ tv + x.err) ∧ w'.heap[wr.heap.size]? = some (.cells #[I x.sec, I x.day, I r, I x.err] 34 (0, 0)) ∧ Below wr.heap.size w2 w' := ⟨_, rfl⟩
      have HR := Lib.hid hR
      clear hR
      refine wp_between R ?first ?rest
      case first =>
        subst hA
        have hY0 : w2.drew.heap[wr.heap.size]? = some (.cells #[I x.sec, I x.day, I x.read, I x.err] 34 (0, 0)) := RY.out
        have hS0 : HeldY wr.heap.size x w2 w2.drew := heldY_start RY.out
        refine wp_region_held_drew (S := fun w' => HeldY wr.heap.size x w2 w') (by kernel_rfl) hS0 (fun _ => ?_)
        refine wpAnyH_take (i := 0) (oi := { dst := some 24, op := Go.Op.move (Go.Operand.tmp 1), type := 40, pos := "outright.go:115", after := #[], guard := none }) (v := ?v1) rfl (by kernel_rfl) (by kernel_rfl) (by kernel_rfl) (fun _ _ _ h => h) (Or.inl ⟨by rfl, ?hy1⟩) hS0 ?r1
        case hy1 =>
          intro w' hSw
          have hq := hSw.1
          obtain ⟨hy0, hy1, hy3⟩ := hSw.2.2.1
          clear hSw
          go_simp
          with_reducible rfl
        try simp only [Act.put, List.setIfInBounds_toArray, List.set_cons_zero, List.set_cons_succ]
        refine wpAnyH_take (i := 1) (oi := { dst := some 25, op := Go.Op.fieldAddr 34 (Go.Operand.tmp 9) 1, type := 0, pos := "outright.go:115", after := #[], guard := none }) (v := ?v2) rfl (by kernel_rfl) (by kernel_rfl) (by kernel_rfl) (fun _ _ _ h => h) (Or.inl ⟨by rfl, ?hy2⟩) hS0 ?r2
        case hy2 =>
          intro w' hSw
          have hq := hSw.1
          obtain ⟨hy0, hy1, hy3⟩ := hSw.2.2.1
          clear hSw
          go_simp
          with_reducible rfl
        try simp only [Act.put, List.setIfInBounds_toArray, List.set_cons_zero, List.set_cons_succ]
        refine wpAnyH_take (i := 2) (oi := { dst := some 26, op := Go.Op.load 3 (Go.Operand.tmp 25), type := 3, pos := "outright.go:115", after := #[{ on := 1, ground := Go.Ground.data }], guard := none }) (v := ?v3) rfl (by kernel_rfl) (by kernel_rfl) (by kernel_rfl) (fun _ _ _ h => h) (Or.inl ⟨by rfl, ?hy3⟩) hS0 ?r3
        case hy3 =>
          intro w' hSw
          have hq := hSw.1
          obtain ⟨hy0, hy1, hy3⟩ := hSw.2.2.1
          clear hSw
          go_simp
          with_reducible rfl
        try simp only [Act.put, List.setIfInBounds_toArray, List.set_cons_zero, List.set_cons_succ]
        refine wpAnyH_take (i := 3) (oi := { dst := some 27, op := Go.Op.indexAddr 40 (Go.Operand.tmp 24) (Go.Operand.tmp 26), type := 0, pos := "outright.go:115", after := #[{ on := 0, ground := Go.Ground.data }, { on := 2, ground := Go.Ground.data }], guard := none }) (v := ?v4) rfl (by kernel_rfl) (by kernel_rfl) (by kernel_rfl) (fun _ _ _ h => h) (Or.inl ⟨by rfl, ?hy4⟩) hS0 ?r4
        case hy4 =>
          intro w' hSw
          have hq := hSw.1
          obtain ⟨hy0, hy1, hy3⟩ := hSw.2.2.1
          clear hSw
          go_simp
          with_reducible rfl
        try simp only [Act.put, List.setIfInBounds_toArray, List.set_cons_zero, List.set_cons_succ]
        refine wpAnyH_take (i := 4) (oi := { dst := some 28, op := Go.Op.load 23 (Go.Operand.tmp 27), type := 23, pos := "outright.go:115", after := #[{ on := 3, ground := Go.Ground.data }], guard := none }) (v := ?v5) rfl (by kernel_rfl) (by kernel_rfl) (by kernel_rfl) (fun _ _ _ h => h) (Or.inl ⟨by rfl, ?hy5⟩) hS0 ?r5
        case hy5 =>
          intro w' hSw
          have hq := hSw.1
          obtain ⟨hy0, hy1, hy3⟩ := hSw.2.2.1
          clear hSw
          go_simp
          with_reducible rfl
        try simp only [Act.put, List.setIfInBounds_toArray, List.set_cons_zero, List.set_cons_succ]
        refine wpAnyH_take (i := 5) (oi := { dst := some 29, op := Go.Op.fieldAddr 34 (Go.Operand.tmp 9) 0, type := 0, pos := "outright.go:115", after := #[], guard := none }) (v := ?v6) rfl (by kernel_rfl) (by kernel_rfl) (by kernel_rfl) (fun _ _ _ h => h) (Or.inl ⟨by rfl, ?hy6⟩) hS0 ?r6
        case hy6 =>
          intro w' hSw
          have hq := hSw.1
          obtain ⟨hy0, hy1, hy3⟩ := hSw.2.2.1
          clear hSw
          go_simp
          with_reducible rfl
        try simp only [Act.put, List.setIfInBounds_toArray, List.set_cons_zero, List.set_cons_succ]
        refine wpAnyH_take (i := 6) (oi := { dst := some 30, op := Go.Op.load 3 (Go.Operand.tmp 29), type := 3, pos := "outright.go:115", after := #[{ on := 5, ground := Go.Ground.data }], guard := none }) (v := ?v7) rfl (by kernel_rfl) (by kernel_rfl) (by kernel_rfl) (fun _ _ _ h => h) (Or.inl ⟨by rfl, ?hy7⟩) hS0 ?r7
        case hy7 =>
          intro w' hSw
          have hq := hSw.1
          obtain ⟨hy0, hy1, hy3⟩ := hSw.2.2.1
          clear hSw
          go_simp
          with_reducible rfl
        try simp only [Act.put, List.setIfInBounds_toArray, List.set_cons_zero, List.set_cons_succ]
        refine wpAnyH_take (i := 7) (oi := { dst := some 31, op := Go.Op.indexAddr 23 (Go.Operand.tmp 28) (Go.Operand.tmp 30), type := 0, pos := "outright.go:115", after := #[{ on := 4, ground := Go.Ground.data }, { on := 6, ground := Go.Ground.data }], guard := none }) (v := ?v8) rfl (by kernel_rfl) (by kernel_rfl) (by kernel_rfl) (fun _ _ _ h => h) (Or.inl ⟨by rfl, ?hy8⟩) hS0 ?r8
        case hy8 =>
          intro w' hSw
          have hq := hSw.1
          obtain ⟨hy0, hy1, hy3⟩ := hSw.2.2.1
          clear hSw
          go_simp
          with_reducible rfl
        try simp only [Act.put, List.setIfInBounds_toArray, List.set_cons_zero, List.set_cons_succ]
        refine wpAnyH_take (i := 8) (oi := { dst := some 32, op := Go.Op.load 3 (Go.Operand.tmp 31), type := 3, pos := "outright.go:115", after := #[{ on := 7, ground := Go.Ground.data }], guard := none }) (v := ?v9) rfl (by kernel_rfl) (by kernel_rfl) (by kernel_rfl) (fun _ _ _ h => h) (Or.inl ⟨by rfl, ?hy9⟩) hS0 ?r9
        case hy9 =>
          intro w' hSw
          have hq := hSw.1
          obtain ⟨hy0, hy1, hy3⟩ := hSw.2.2.1
          clear hSw
          go_simp
          with_reducible rfl
        try simp only [Act.put, List.setIfInBounds_toArray, List.set_cons_zero, List.set_cons_succ]
        refine wpAnyH_take (i := 9) (oi := { dst := some 33, op := Go.Op.move (Go.Operand.tmp 2), type := 3, pos := "outright.go:115", after := #[], guard := none }) (v := ?v10) rfl (by kernel_rfl) (by kernel_rfl) (by kernel_rfl) (fun _ _ _ h => h) (Or.inl ⟨by rfl, ?hy10⟩) hS0 ?r10
        case hy10 =>
          intro w' hSw
          have hq := hSw.1
          obtain ⟨hy0, hy1, hy3⟩ := hSw.2.2.1
          clear hSw
          go_simp
          with_reducible rfl
        try simp only [Act.put, List.setIfInBounds_toArray, List.set_cons_zero, List.set_cons_succ]
        refine wpAnyH_take (i := 10) (oi := { dst := some 34, op := Go.Op.move (Go.Operand.tmp 8), type := 3, pos := "outright.go:115", after := #[], guard := none }) (v := ?v11) rfl (by kernel_rfl) (by kernel_rfl) (by kernel_rfl) (fun _ _ _ h => h) (Or.inl ⟨by rfl, ?hy11⟩) hS0 ?r11
        case hy11 =>
          intro w' hSw
          have hq := hSw.1
          obtain ⟨hy0, hy1, hy3⟩ := hSw.2.2.1
          clear hSw
          go_simp
          with_reducible rfl
        try simp only [Act.put, List.setIfInBounds_toArray, List.set_cons_zero, List.set_cons_succ]
        refine wpAnyH_take (i := 11) (oi := { dst := some 35, op := Go.Op.binOp Go.BinOp.add 3 (Go.Operand.tmp 33) (Go.Operand.tmp 34) 3, type := 3, pos := "outright.go:115", after := #[{ on := 9, ground := Go.Ground.data }, { on := 10, ground := Go.Ground.data }], guard := none }) (v := ?v12) rfl (by kernel_rfl) (by kernel_rfl) (by kernel_rfl) (fun _ _ _ h => h) (Or.inl ⟨by rfl, ?hy12⟩) hS0 ?r12
        case hy12 =>
          intro w' hSw
          have hq := hSw.1
          obtain ⟨hy0, hy1, hy3⟩ := hSw.2.2.1
          clear hSw
          go_simp
          with_reducible rfl
        try simp only [Act.put, List.setIfInBounds_toArray, List.set_cons_zero, List.set_cons_succ]
        refine wpAnyH_take (i := 12) (oi := { dst := some 36, op := Go.Op.fieldAddr 34 (Go.Operand.tmp 9) 3, type := 0, pos := "outright.go:115", after := #[], guard := none }) (v := ?v13) rfl (by kernel_rfl) (by kernel_rfl) (by kernel_rfl) (fun _ _ _ h => h) (Or.inl ⟨by rfl, ?hy13⟩) hS0 ?r13
        case hy13 =>
          intro w' hSw
          have hq := hSw.1
          obtain ⟨hy0, hy1, hy3⟩ := hSw.2.2.1
          clear hSw
          go_simp
          with_reducible rfl
        try simp only [Act.put, List.setIfInBounds_toArray, List.set_cons_zero, List.set_cons_succ]
        refine wpAnyH_take (i := 13) (oi := { dst := some 37, op := Go.Op.load 3 (Go.Operand.tmp 36), type := 3, pos := "outright.go:115", after := #[{ on := 12, ground := Go.Ground.data }], guard := none }) (v := ?v14) rfl (by kernel_rfl) (by kernel_rfl) (by kernel_rfl) (fun _ _ _ h => h) (Or.inl ⟨by rfl, ?hy14⟩) hS0 ?r14
        case hy14 =>
          intro w' hSw
          have hq := hSw.1
          obtain ⟨hy0, hy1, hy3⟩ := hSw.2.2.1
          clear hSw
          go_simp
          with_reducible rfl
        try simp only [Act.put, List.setIfInBounds_toArray, List.set_cons_zero, List.set_cons_succ]
        refine wpAnyH_take (i := 14) (oi := { dst := some 38, op := Go.Op.binOp Go.BinOp.mul 3 (Go.Operand.const (Go.Value.int Go.IntKind.i64 2)) (Go.Operand.tmp 37) 3, type := 3, pos := "outright.go:115", after := #[{ on := 13, ground := Go.Ground.data }], guard := none }) (v := ?v15) rfl (by kernel_rfl) (by kernel_rfl) (by kernel_rfl) (fun _ _ _ h => h) (Or.inl ⟨by rfl, ?hy15⟩) hS0 ?r15
        case hy15 =>
          intro w' hSw
          have hq := hSw.1
          obtain ⟨hy0, hy1, hy3⟩ := hSw.2.2.1
          clear hSw
          go_simp
          with_reducible rfl
        try simp only [Act.put, List.setIfInBounds_toArray, List.set_cons_zero, List.set_cons_succ]
        refine wpAnyH_take (i := 15) (oi := { dst := some 39, op := Go.Op.binOp Go.BinOp.add 3 (Go.Operand.tmp 38) (Go.Operand.const (Go.Value.int Go.IntKind.i64 1)) 3, type := 3, pos := "outright.go:115", after := #[{ on := 14, ground := Go.Ground.data }], guard := none }) (v := ?v16) rfl (by kernel_rfl) (by kernel_rfl) (by kernel_rfl) (fun _ _ _ h => h) (Or.inl ⟨by rfl, ?hy16⟩) hS0 ?r16
        case hy16 =>
          intro w' hSw
          have hq := hSw.1
          obtain ⟨hy0, hy1, hy3⟩ := hSw.2.2.1
          clear hSw
          go_simp
          with_reducible rfl
        try simp only [Act.put, List.setIfInBounds_toArray, List.set_cons_zero, List.set_cons_succ]
        refine wpAnyH_take (i := 18) (oi := { dst := some 42, op := Go.Op.fieldAddr 34 (Go.Operand.tmp 9) 3, type := 0, pos := "outright.go:115", after := #[], guard := none }) (v := ?v17) rfl (by kernel_rfl) (by kernel_rfl) (by kernel_rfl) (fun _ _ _ h => h) (Or.inl ⟨by rfl, ?hy17⟩) hS0 ?r17
        case hy17 =>
          intro w' hSw
          have hq := hSw.1
          obtain ⟨hy0, hy1, hy3⟩ := hSw.2.2.1
          clear hSw
          go_simp
          with_reducible rfl
        try simp only [Act.put, List.setIfInBounds_toArray, List.set_cons_zero, List.set_cons_succ]
        refine wpAnyH_take (i := 19) (oi := { dst := some 43, op := Go.Op.load 3 (Go.Operand.tmp 42), type := 3, pos := "outright.go:115", after := #[{ on := 18, ground := Go.Ground.data }], guard := none }) (v := ?v18) rfl (by kernel_rfl) (by kernel_rfl) (by kernel_rfl) (fun _ _ _ h => h) (Or.inl ⟨by rfl, ?hy18⟩) hS0 ?r18
        case hy18 =>
          intro w' hSw
          have hq := hSw.1
          obtain ⟨hy0, hy1, hy3⟩ := hSw.2.2.1
          clear hSw
          go_simp
          with_reducible rfl
        try simp only [Act.put, List.setIfInBounds_toArray, List.set_cons_zero, List.set_cons_succ]
        refine wpAnyH_ready (rs := [16]) (by kernel_rfl) (by simp) ?_
        refine AllReadyH.cons rfl (fun K hK => ?_) AllReadyH.nil
        go_simp
        refine (mod_in _ _ hm0 hm1 _).mono ?_
        rintro e w19 ⟨⟨q, rfl, hq0, hq1⟩, hBw19⟩
        have hSw19 := heldY_step hS0 hBw19
        have hrw19 := (hBw19.block _ (heap_lt hY0)).trans hY0
        refine hK.out _ _ hSw19 (fun _ => ?_)
        clear hK K
        have e41 : IntKind.i64.wrap (tv + q) = tv + q := IntWalk.i64_in _ (by omega)
        have e44 : IntKind.i64.wrap (tv + q - x.err) = tv + q - x.err := IntWalk.i64_in _ (by omega)
        have qY2 := cell_of_row w19 _ 2 _ _ _ hrw19
        simp only [List.getElem?_toArray, List.getElem?_cons_zero, List.getElem?_cons_succ] at qY2
        have fY2 : w19.frozen? ⟨wr.heap.size, 2, none⟩ = false := by simp [World.frozen?, hrw19]
        obtain ⟨z, hz⟩ : ∃ z, tv + q - x.err = z := ⟨_, rfl⟩
        rw [hz] at e44
        try simp only [Act.put, List.setIfInBounds_toArray, List.set_cons_zero, List.set_cons_succ]
        rcases (show (¬ 0 < z ∧ z < 200 ∧ ¬ 200 < z) ∨ (0 < z ∧ z < 200 ∧ ¬ 200 < z) ∨ (0 < z ∧ ¬ z < 200 ∧ ¬ 200 < z) ∨ (0 < z ∧ ¬ z < 200 ∧ 200 < z) by omega) with ⟨ha, hb, hc⟩ | ⟨ha, hb, hc⟩ | ⟨ha, hb, hc⟩ | ⟨ha, hb, hc⟩
        · refine wpAnyH_take (i := 17) (oi := { dst := some 41, op := Go.Op.binOp Go.BinOp.add 3 (Go.Operand.tmp 32) (Go.Operand.tmp 40) 3, type := 3, pos := "outright.go:115", after := #[{ on := 8, ground := Go.Ground.data }, { on := 16, ground := Go.Ground.data }], guard := none }) (v := ?v20) rfl (by kernel_rfl) (by kernel_rfl) (by kernel_rfl) (fun _ _ _ h => h) (Or.inl ⟨by rfl, ?hy20⟩) hSw19 ?r20
          case hy20 =>
            intro w' hSw
            have hq := hSw.1
            obtain ⟨hy0, hy1, hy3⟩ := hSw.2.2.1
            clear hSw
            go_simp
            with_reducible rfl
          try simp only [Act.put, List.setIfInBounds_toArray, List.set_cons_zero, List.set_cons_succ]
          refine wpAnyH_take (i := 20) (oi := { dst := some 44, op := Go.Op.binOp Go.BinOp.sub 3 (Go.Operand.tmp 41) (Go.Operand.tmp 43) 3, type := 3, pos := "outright.go:115", after := #[{ on := 17, ground := Go.Ground.data }, { on := 19, ground := Go.Ground.data }], guard := none }) (v := ?v21) rfl (by kernel_rfl) (by kernel_rfl) (by kernel_rfl) (fun _ _ _ h => h) (Or.inl ⟨by rfl, ?hy21⟩) hSw19 ?r21
          case hy21 =>
            intro w' hSw
            have hq := hSw.1
            obtain ⟨hy0, hy1, hy3⟩ := hSw.2.2.1
            clear hSw
            go_simp
            with_reducible rfl
          try simp only [Act.put, List.setIfInBounds_toArray, List.set_cons_zero, List.set_cons_succ]
          refine wpAnyH_take (i := 21) (oi := { dst := some 45, op := Go.Op.call { callee := Go.Callee.builtin Go.Builtin.max, args := #[Go.Operand.const (Go.Value.int Go.IntKind.i64 0), Go.Operand.tmp 44], argTypes := #[3, 3] }, type := 3, pos := "outright.go:115", after := #[{ on := 20, ground := Go.Ground.data }], guard := none }) (v := ?v22) rfl (by kernel_rfl) (by kernel_rfl) (by kernel_rfl) (fun _ _ _ h => h) (Or.inl ⟨by rfl, ?hy22⟩) hSw19 ?r22
          case hy22 =>
            intro w' hSw
            have hq := hSw.1
            obtain ⟨hy0, hy1, hy3⟩ := hSw.2.2.1
            clear hSw
            go_simp
            with_reducible rfl
          try simp only [Act.put, List.setIfInBounds_toArray, List.set_cons_zero, List.set_cons_succ]
          refine wpAnyH_take (i := 22) (oi := { dst := some 46, op := Go.Op.call { callee := Go.Callee.builtin Go.Builtin.min, args := #[Go.Operand.const (Go.Value.int Go.IntKind.i64 200), Go.Operand.tmp 45], argTypes := #[3, 3] }, type := 3, pos := "outright.go:115", after := #[{ on := 21, ground := Go.Ground.data }], guard := none }) (v := ?v23) rfl (by kernel_rfl) (by kernel_rfl) (by kernel_rfl) (fun _ _ _ h => h) (Or.inl ⟨by rfl, ?hy23⟩) hSw19 ?r23
          case hy23 =>
            intro w' hSw
            have hq := hSw.1
            obtain ⟨hy0, hy1, hy3⟩ := hSw.2.2.1
            clear hSw
            go_simp
            with_reducible rfl
          try simp only [Act.put, List.setIfInBounds_toArray, List.set_cons_zero, List.set_cons_succ]
          refine wpAnyH_take (i := 23) (oi := { dst := some 47, op := Go.Op.fieldAddr 34 (Go.Operand.tmp 9) 2, type := 0, pos := "outright.go:115", after := #[{ on := 0, ground := Go.Ground.phase }, { on := 1, ground := Go.Ground.phase }, { on := 2, ground := Go.Ground.phase }, { on := 3, ground := Go.Ground.phase }, { on := 4, ground := Go.Ground.phase }, { on := 5, ground := Go.Ground.phase }, { on := 6, ground := Go.Ground.phase }, { on := 7, ground := Go.Ground.phase }, { on := 8, ground := Go.Ground.phase }, { on := 9, ground := Go.Ground.phase }, { on := 10, ground := Go.Ground.phase }, { on := 11, ground := Go.Ground.phase }, { on := 12, ground := Go.Ground.phase }, { on := 13, ground := Go.Ground.phase }, { on := 14, ground := Go.Ground.phase }, { on := 15, ground := Go.Ground.phase }, { on := 16, ground := Go.Ground.phase }, { on := 17, ground := Go.Ground.phase }, { on := 18, ground := Go.Ground.phase }, { on := 19, ground := Go.Ground.phase }, { on := 20, ground := Go.Ground.phase }, { on := 21, ground := Go.Ground.phase }, { on := 22, ground := Go.Ground.phase }], guard := none }) (v := ?v24) rfl (by kernel_rfl) (by kernel_rfl) (by kernel_rfl) (fun _ _ _ h => h) (Or.inl ⟨by rfl, ?hy24⟩) hSw19 ?r24
          case hy24 =>
            intro w' hSw
            have hq := hSw.1
            obtain ⟨hy0, hy1, hy3⟩ := hSw.2.2.1
            clear hSw
            go_simp
            with_reducible rfl
          try simp only [Act.put, List.setIfInBounds_toArray, List.set_cons_zero, List.set_cons_succ]
          refine wpAnyH_ready (rs := [24]) (by kernel_rfl) (by simp) ?_
          refine AllReadyH.cons rfl (fun K hK => ?_) AllReadyH.nil
          go_simp
          refine hK.out _ _ (heldY_set hSw19 _) (fun _ => ?_)
          clear hK K
          try simp only [Act.put, List.setIfInBounds_toArray, List.set_cons_zero, List.set_cons_succ]
          refine wpAnyH_done (by kernel_rfl) ?_ _
          show R _ _
          rw [HR.out]
          simp only [Act.put, List.setIfInBounds_toArray, List.set_cons_zero, List.set_cons_succ]
          first
            | exact ⟨0, ⟨_, _, _, _, _, _, _, _, _, _, _, _, _, _, _, _, _, _, _, _, _, _, _, _, rfl⟩, by omega, by simp [World.setCell, Array.getElem?_modify, hrw19] <;> omega, (heldY_set hSw19 _).2.1⟩
            | exact ⟨z, ⟨_, _, _, _, _, _, _, _, _, _, _, _, _, _, _, _, _, _, _, _, _, _, _, _, rfl⟩, by omega, by simp [World.setCell, Array.getElem?_modify, hrw19] <;> omega, (heldY_set hSw19 _).2.1⟩
            | exact ⟨200, ⟨_, _, _, _, _, _, _, _, _, _, _, _, _, _, _, _, _, _, _, _, _, _, _, _, rfl⟩, by omega, by simp [World.setCell, Array.getElem?_modify, hrw19] <;> omega, (heldY_set hSw19 _).2.1⟩
        · refine wpAnyH_take (i := 17) (oi := { dst := some 41, op := Go.Op.binOp Go.BinOp.add 3 (Go.Operand.tmp 32) (Go.Operand.tmp 40) 3, type := 3, pos := "outright.go:115", after := #[{ on := 8, ground := Go.Ground.data }, { on := 16, ground := Go.Ground.data }], guard := none }) (v := ?v26) rfl (by kernel_rfl) (by kernel_rfl) (by kernel_rfl) (fun _ _ _ h => h) (Or.inl ⟨by rfl, ?hy26⟩) hSw19 ?r26
          case hy26 =>
            intro w' hSw
            have hq := hSw.1
            obtain ⟨hy0, hy1, hy3⟩ := hSw.2.2.1
            clear hSw
            go_simp
            with_reducible rfl
          try simp only [Act.put, List.setIfInBounds_toArray, List.set_cons_zero, List.set_cons_succ]
          refine wpAnyH_take (i := 20) (oi := { dst := some 44, op := Go.Op.binOp Go.BinOp.sub 3 (Go.Operand.tmp 41) (Go.Operand.tmp 43) 3, type := 3, pos := "outright.go:115", after := #[{ on := 17, ground := Go.Ground.data }, { on := 19, ground := Go.Ground.data }], guard := none }) (v := ?v27) rfl (by kernel_rfl) (by kernel_rfl) (by kernel_rfl) (fun _ _ _ h => h) (Or.inl ⟨by rfl, ?hy27⟩) hSw19 ?r27
          case hy27 =>
            intro w' hSw
            have hq := hSw.1
            obtain ⟨hy0, hy1, hy3⟩ := hSw.2.2.1
            clear hSw
            go_simp
            with_reducible rfl
          try simp only [Act.put, List.setIfInBounds_toArray, List.set_cons_zero, List.set_cons_succ]
          refine wpAnyH_take (i := 21) (oi := { dst := some 45, op := Go.Op.call { callee := Go.Callee.builtin Go.Builtin.max, args := #[Go.Operand.const (Go.Value.int Go.IntKind.i64 0), Go.Operand.tmp 44], argTypes := #[3, 3] }, type := 3, pos := "outright.go:115", after := #[{ on := 20, ground := Go.Ground.data }], guard := none }) (v := ?v28) rfl (by kernel_rfl) (by kernel_rfl) (by kernel_rfl) (fun _ _ _ h => h) (Or.inl ⟨by rfl, ?hy28⟩) hSw19 ?r28
          case hy28 =>
            intro w' hSw
            have hq := hSw.1
            obtain ⟨hy0, hy1, hy3⟩ := hSw.2.2.1
            clear hSw
            go_simp
            with_reducible rfl
          try simp only [Act.put, List.setIfInBounds_toArray, List.set_cons_zero, List.set_cons_succ]
          refine wpAnyH_take (i := 22) (oi := { dst := some 46, op := Go.Op.call { callee := Go.Callee.builtin Go.Builtin.min, args := #[Go.Operand.const (Go.Value.int Go.IntKind.i64 200), Go.Operand.tmp 45], argTypes := #[3, 3] }, type := 3, pos := "outright.go:115", after := #[{ on := 21, ground := Go.Ground.data }], guard := none }) (v := ?v29) rfl (by kernel_rfl) (by kernel_rfl) (by kernel_rfl) (fun _ _ _ h => h) (Or.inl ⟨by rfl, ?hy29⟩) hSw19 ?r29
          case hy29 =>
            intro w' hSw
            have hq := hSw.1
            obtain ⟨hy0, hy1, hy3⟩ := hSw.2.2.1
            clear hSw
            go_simp
            with_reducible rfl
          try simp only [Act.put, List.setIfInBounds_toArray, List.set_cons_zero, List.set_cons_succ]
          refine wpAnyH_take (i := 23) (oi := { dst := some 47, op := Go.Op.fieldAddr 34 (Go.Operand.tmp 9) 2, type := 0, pos := "outright.go:115", after := #[{ on := 0, ground := Go.Ground.phase }, { on := 1, ground := Go.Ground.phase }, { on := 2, ground := Go.Ground.phase }, { on := 3, ground := Go.Ground.phase }, { on := 4, ground := Go.Ground.phase }, { on := 5, ground := Go.Ground.phase }, { on := 6, ground := Go.Ground.phase }, { on := 7, ground := Go.Ground.phase }, { on := 8, ground := Go.Ground.phase }, { on := 9, ground := Go.Ground.phase }, { on := 10, ground := Go.Ground.phase }, { on := 11, ground := Go.Ground.phase }, { on := 12, ground := Go.Ground.phase }, { on := 13, ground := Go.Ground.phase }, { on := 14, ground := Go.Ground.phase }, { on := 15, ground := Go.Ground.phase }, { on := 16, ground := Go.Ground.phase }, { on := 17, ground := Go.Ground.phase }, { on := 18, ground := Go.Ground.phase }, { on := 19, ground := Go.Ground.phase }, { on := 20, ground := Go.Ground.phase }, { on := 21, ground := Go.Ground.phase }, { on := 22, ground := Go.Ground.phase }], guard := none }) (v := ?v30) rfl (by kernel_rfl) (by kernel_rfl) (by kernel_rfl) (fun _ _ _ h => h) (Or.inl ⟨by rfl, ?hy30⟩) hSw19 ?r30
          case hy30 =>
            intro w' hSw
            have hq := hSw.1
            obtain ⟨hy0, hy1, hy3⟩ := hSw.2.2.1
            clear hSw
            go_simp
            with_reducible rfl
          try simp only [Act.put, List.setIfInBounds_toArray, List.set_cons_zero, List.set_cons_succ]
          refine wpAnyH_ready (rs := [24]) (by kernel_rfl) (by simp) ?_
          refine AllReadyH.cons rfl (fun K hK => ?_) AllReadyH.nil
          go_simp
          refine hK.out _ _ (heldY_set hSw19 _) (fun _ => ?_)
          clear hK K
          try simp only [Act.put, List.setIfInBounds_toArray, List.set_cons_zero, List.set_cons_succ]
          refine wpAnyH_done (by kernel_rfl) ?_ _
          show R _ _
          rw [HR.out]
          simp only [Act.put, List.setIfInBounds_toArray, List.set_cons_zero, List.set_cons_succ]
          first
            | exact ⟨0, ⟨_, _, _, _, _, _, _, _, _, _, _, _, _, _, _, _, _, _, _, _, _, _, _, _, rfl⟩, by omega, by simp [World.setCell, Array.getElem?_modify, hrw19] <;> omega, (heldY_set hSw19 _).2.1⟩
            | exact ⟨z, ⟨_, _, _, _, _, _, _, _, _, _, _, _, _, _, _, _, _, _, _, _, _, _, _, _, rfl⟩, by omega, by simp [World.setCell, Array.getElem?_modify, hrw19] <;> omega, (heldY_set hSw19 _).2.1⟩
            | exact ⟨200, ⟨_, _, _, _, _, _, _, _, _, _, _, _, _, _, _, _, _, _, _, _, _, _, _, _, rfl⟩, by omega, by simp [World.setCell, Array.getElem?_modify, hrw19] <;> omega, (heldY_set hSw19 _).2.1⟩
        · refine wpAnyH_take (i := 17) (oi := { dst := some 41, op := Go.Op.binOp Go.BinOp.add 3 (Go.Operand.tmp 32) (Go.Operand.tmp 40) 3, type := 3, pos := "outright.go:115", after := #[{ on := 8, ground := Go.Ground.data }, { on := 16, ground := Go.Ground.data }], guard := none }) (v := ?v32) rfl (by kernel_rfl) (by kernel_rfl) (by kernel_rfl) (fun _ _ _ h => h) (Or.inl ⟨by rfl, ?hy32⟩) hSw19 ?r32
          case hy32 =>
            intro w' hSw
            have hq := hSw.1
            obtain ⟨hy0, hy1, hy3⟩ := hSw.2.2.1
            clear hSw
            go_simp
            with_reducible rfl
          try simp only [Act.put, List.setIfInBounds_toArray, List.set_cons_zero, List.set_cons_succ]
          refine wpAnyH_take (i := 20) (oi := { dst := some 44, op := Go.Op.binOp Go.BinOp.sub 3 (Go.Operand.tmp 41) (Go.Operand.tmp 43) 3, type := 3, pos := "outright.go:115", after := #[{ on := 17, ground := Go.Ground.data }, { on := 19, ground := Go.Ground.data }], guard := none }) (v := ?v33) rfl (by kernel_rfl) (by kernel_rfl) (by kernel_rfl) (fun _ _ _ h => h) (Or.inl ⟨by rfl, ?hy33⟩) hSw19 ?r33
          case hy33 =>
            intro w' hSw
            have hq := hSw.1
            obtain ⟨hy0, hy1, hy3⟩ := hSw.2.2.1
            clear hSw
            go_simp
            with_reducible rfl
          try simp only [Act.put, List.setIfInBounds_toArray, List.set_cons_zero, List.set_cons_succ]
          refine wpAnyH_take (i := 21) (oi := { dst := some 45, op := Go.Op.call { callee := Go.Callee.builtin Go.Builtin.max, args := #[Go.Operand.const (Go.Value.int Go.IntKind.i64 0), Go.Operand.tmp 44], argTypes := #[3, 3] }, type := 3, pos := "outright.go:115", after := #[{ on := 20, ground := Go.Ground.data }], guard := none }) (v := ?v34) rfl (by kernel_rfl) (by kernel_rfl) (by kernel_rfl) (fun _ _ _ h => h) (Or.inl ⟨by rfl, ?hy34⟩) hSw19 ?r34
          case hy34 =>
            intro w' hSw
            have hq := hSw.1
            obtain ⟨hy0, hy1, hy3⟩ := hSw.2.2.1
            clear hSw
            go_simp
            with_reducible rfl
          try simp only [Act.put, List.setIfInBounds_toArray, List.set_cons_zero, List.set_cons_succ]
          refine wpAnyH_take (i := 22) (oi := { dst := some 46, op := Go.Op.call { callee := Go.Callee.builtin Go.Builtin.min, args := #[Go.Operand.const (Go.Value.int Go.IntKind.i64 200), Go.Operand.tmp 45], argTypes := #[3, 3] }, type := 3, pos := "outright.go:115", after := #[{ on := 21, ground := Go.Ground.data }], guard := none }) (v := ?v35) rfl (by kernel_rfl) (by kernel_rfl) (by kernel_rfl) (fun _ _ _ h => h) (Or.inl ⟨by rfl, ?hy35⟩) hSw19 ?r35
          case hy35 =>
            intro w' hSw
            have hq := hSw.1
            obtain ⟨hy0, hy1, hy3⟩ := hSw.2.2.1
            clear hSw
            go_simp
            with_reducible rfl
          try simp only [Act.put, List.setIfInBounds_toArray, List.set_cons_zero, List.set_cons_succ]
          refine wpAnyH_take (i := 23) (oi := { dst := some 47, op := Go.Op.fieldAddr 34 (Go.Operand.tmp 9) 2, type := 0, pos := "outright.go:115", after := #[{ on := 0, ground := Go.Ground.phase }, { on := 1, ground := Go.Ground.phase }, { on := 2, ground := Go.Ground.phase }, { on := 3, ground := Go.Ground.phase }, { on := 4, ground := Go.Ground.phase }, { on := 5, ground := Go.Ground.phase }, { on := 6, ground := Go.Ground.phase }, { on := 7, ground := Go.Ground.phase }, { on := 8, ground := Go.Ground.phase }, { on := 9, ground := Go.Ground.phase }, { on := 10, ground := Go.Ground.phase }, { on := 11, ground := Go.Ground.phase }, { on := 12, ground := Go.Ground.phase }, { on := 13, ground := Go.Ground.phase }, { on := 14, ground := Go.Ground.phase }, { on := 15, ground := Go.Ground.phase }, { on := 16, ground := Go.Ground.phase }, { on := 17, ground := Go.Ground.phase }, { on := 18, ground := Go.Ground.phase }, { on := 19, ground := Go.Ground.phase }, { on := 20, ground := Go.Ground.phase }, { on := 21, ground := Go.Ground.phase }, { on := 22, ground := Go.Ground.phase }], guard := none }) (v := ?v36) rfl (by kernel_rfl) (by kernel_rfl) (by kernel_rfl) (fun _ _ _ h => h) (Or.inl ⟨by rfl, ?hy36⟩) hSw19 ?r36
          case hy36 =>
            intro w' hSw
            have hq := hSw.1
            obtain ⟨hy0, hy1, hy3⟩ := hSw.2.2.1
            clear hSw
            go_simp
            with_reducible rfl
          try simp only [Act.put, List.setIfInBounds_toArray, List.set_cons_zero, List.set_cons_succ]
          refine wpAnyH_ready (rs := [24]) (by kernel_rfl) (by simp) ?_
          refine AllReadyH.cons rfl (fun K hK => ?_) AllReadyH.nil
          go_simp
          refine hK.out _ _ (heldY_set hSw19 _) (fun _ => ?_)
          clear hK K
          try simp only [Act.put, List.setIfInBounds_toArray, List.set_cons_zero, List.set_cons_succ]
          refine wpAnyH_done (by kernel_rfl) ?_ _
          show R _ _
          rw [HR.out]
          simp only [Act.put, List.setIfInBounds_toArray, List.set_cons_zero, List.set_cons_succ]
          first
            | exact ⟨0, ⟨_, _, _, _, _, _, _, _, _, _, _, _, _, _, _, _, _, _, _, _, _, _, _, _, rfl⟩, by omega, by simp [World.setCell, Array.getElem?_modify, hrw19] <;> omega, (heldY_set hSw19 _).2.1⟩
            | exact ⟨z, ⟨_, _, _, _, _, _, _, _, _, _, _, _, _, _, _, _, _, _, _, _, _, _, _, _, rfl⟩, by omega, by simp [World.setCell, Array.getElem?_modify, hrw19] <;> omega, (heldY_set hSw19 _).2.1⟩
            | exact ⟨200, ⟨_, _, _, _, _, _, _, _, _, _, _, _, _, _, _, _, _, _, _, _, _, _, _, _, rfl⟩, by omega, by simp [World.setCell, Array.getElem?_modify, hrw19] <;> omega, (heldY_set hSw19 _).2.1⟩
        · refine wpAnyH_take (i := 17) (oi := { dst := some 41, op := Go.Op.binOp Go.BinOp.add 3 (Go.Operand.tmp 32) (Go.Operand.tmp 40) 3, type := 3, pos := "outright.go:115", after := #[{ on := 8, ground := Go.Ground.data }, { on := 16, ground := Go.Ground.data }], guard := none }) (v := ?v38) rfl (by kernel_rfl) (by kernel_rfl) (by kernel_rfl) (fun _ _ _ h => h) (Or.inl ⟨by rfl, ?hy38⟩) hSw19 ?r38
          case hy38 =>
            intro w' hSw
            have hq := hSw.1
            obtain ⟨hy0, hy1, hy3⟩ := hSw.2.2.1
            clear hSw
            go_simp
            with_reducible rfl
          try simp only [Act.put, List.setIfInBounds_toArray, List.set_cons_zero, List.set_cons_succ]
          refine wpAnyH_take (i := 20) (oi := { dst := some 44, op := Go.Op.binOp Go.BinOp.sub 3 (Go.Operand.tmp 41) (Go.Operand.tmp 43) 3, type := 3, pos := "outright.go:115", after := #[{ on := 17, ground := Go.Ground.data }, { on := 19, ground := Go.Ground.data }], guard := none }) (v := ?v39) rfl (by kernel_rfl) (by kernel_rfl) (by kernel_rfl) (fun _ _ _ h => h) (Or.inl ⟨by rfl, ?hy39⟩) hSw19 ?r39
          case hy39 =>
            intro w' hSw
            have hq := hSw.1
            obtain ⟨hy0, hy1, hy3⟩ := hSw.2.2.1
            clear hSw
            go_simp
            with_reducible rfl
          try simp only [Act.put, List.setIfInBounds_toArray, List.set_cons_zero, List.set_cons_succ]
          refine wpAnyH_take (i := 21) (oi := { dst := some 45, op := Go.Op.call { callee := Go.Callee.builtin Go.Builtin.max, args := #[Go.Operand.const (Go.Value.int Go.IntKind.i64 0), Go.Operand.tmp 44], argTypes := #[3, 3] }, type := 3, pos := "outright.go:115", after := #[{ on := 20, ground := Go.Ground.data }], guard := none }) (v := ?v40) rfl (by kernel_rfl) (by kernel_rfl) (by kernel_rfl) (fun _ _ _ h => h) (Or.inl ⟨by rfl, ?hy40⟩) hSw19 ?r40
          case hy40 =>
            intro w' hSw
            have hq := hSw.1
            obtain ⟨hy0, hy1, hy3⟩ := hSw.2.2.1
            clear hSw
            go_simp
            with_reducible rfl
          try simp only [Act.put, List.setIfInBounds_toArray, List.set_cons_zero, List.set_cons_succ]
          refine wpAnyH_take (i := 22) (oi := { dst := some 46, op := Go.Op.call { callee := Go.Callee.builtin Go.Builtin.min, args := #[Go.Operand.const (Go.Value.int Go.IntKind.i64 200), Go.Operand.tmp 45], argTypes := #[3, 3] }, type := 3, pos := "outright.go:115", after := #[{ on := 21, ground := Go.Ground.data }], guard := none }) (v := ?v41) rfl (by kernel_rfl) (by kernel_rfl) (by kernel_rfl) (fun _ _ _ h => h) (Or.inl ⟨by rfl, ?hy41⟩) hSw19 ?r41
          case hy41 =>
            intro w' hSw
            have hq := hSw.1
            obtain ⟨hy0, hy1, hy3⟩ := hSw.2.2.1
            clear hSw
            go_simp
            with_reducible rfl
          try simp only [Act.put, List.setIfInBounds_toArray, List.set_cons_zero, List.set_cons_succ]
          refine wpAnyH_take (i := 23) (oi := { dst := some 47, op := Go.Op.fieldAddr 34 (Go.Operand.tmp 9) 2, type := 0, pos := "outright.go:115", after := #[{ on := 0, ground := Go.Ground.phase }, { on := 1, ground := Go.Ground.phase }, { on := 2, ground := Go.Ground.phase }, { on := 3, ground := Go.Ground.phase }, { on := 4, ground := Go.Ground.phase }, { on := 5, ground := Go.Ground.phase }, { on := 6, ground := Go.Ground.phase }, { on := 7, ground := Go.Ground.phase }, { on := 8, ground := Go.Ground.phase }, { on := 9, ground := Go.Ground.phase }, { on := 10, ground := Go.Ground.phase }, { on := 11, ground := Go.Ground.phase }, { on := 12, ground := Go.Ground.phase }, { on := 13, ground := Go.Ground.phase }, { on := 14, ground := Go.Ground.phase }, { on := 15, ground := Go.Ground.phase }, { on := 16, ground := Go.Ground.phase }, { on := 17, ground := Go.Ground.phase }, { on := 18, ground := Go.Ground.phase }, { on := 19, ground := Go.Ground.phase }, { on := 20, ground := Go.Ground.phase }, { on := 21, ground := Go.Ground.phase }, { on := 22, ground := Go.Ground.phase }], guard := none }) (v := ?v42) rfl (by kernel_rfl) (by kernel_rfl) (by kernel_rfl) (fun _ _ _ h => h) (Or.inl ⟨by rfl, ?hy42⟩) hSw19 ?r42
          case hy42 =>
            intro w' hSw
            have hq := hSw.1
            obtain ⟨hy0, hy1, hy3⟩ := hSw.2.2.1
            clear hSw
            go_simp
            with_reducible rfl
          try simp only [Act.put, List.setIfInBounds_toArray, List.set_cons_zero, List.set_cons_succ]
          refine wpAnyH_ready (rs := [24]) (by kernel_rfl) (by simp) ?_
          refine AllReadyH.cons rfl (fun K hK => ?_) AllReadyH.nil
          go_simp
          refine hK.out _ _ (heldY_set hSw19 _) (fun _ => ?_)
          clear hK K
          try simp only [Act.put, List.setIfInBounds_toArray, List.set_cons_zero, List.set_cons_succ]
          refine wpAnyH_done (by kernel_rfl) ?_ _
          show R _ _
          rw [HR.out]
          simp only [Act.put, List.setIfInBounds_toArray, List.set_cons_zero, List.set_cons_succ]
          first
            | exact ⟨0, ⟨_, _, _, _, _, _, _, _, _, _, _, _, _, _, _, _, _, _, _, _, _, _, _, _, rfl⟩, by omega, by simp [World.setCell, Array.getElem?_modify, hrw19] <;> omega, (heldY_set hSw19 _).2.1⟩
            | exact ⟨z, ⟨_, _, _, _, _, _, _, _, _, _, _, _, _, _, _, _, _, _, _, _, _, _, _, _, rfl⟩, by omega, by simp [World.setCell, Array.getElem?_modify, hrw19] <;> omega, (heldY_set hSw19 _).2.1⟩
            | exact ⟨200, ⟨_, _, _, _, _, _, _, _, _, _, _, _, _, _, _, _, _, _, _, _, _, _, _, _, rfl⟩, by omega, by simp [World.setCell, Array.getElem?_modify, hrw19] <;> omega, (heldY_set hSw19 _).2.1⟩
      case rest =>
        intro a' w3 hra
        rw [HR.out] at hra
        clear HR
        obtain ⟨r, ⟨u24, u25, u26, u27, u28, u29, u30, u31, u32, u33, u34, u35, u36, u37, u38, u39, u40, u41, u42, u43, u44, u45, u46, u47, rfl⟩, hrr, rY3, hB3⟩ := hra
        subst hA
        try simp only [Act.put, List.setIfInBounds_toArray, List.set_cons_zero, List.set_cons_succ]
        clear hdn2 hsn2
        have hb3 : Below wr.heap.size wr w3 := HB2.out.trans hB3
        have hb3F : Below (w.heap.size + 1 + 1) W1 w3 := HBr.out.trans (hb3.mono (by omega))
        have rX3 := (hb3.block _ (heap_lt RX.out)).trans RX.out
        have hown3 := HOWN.out.kept (grown_of_below hb3 none) (by cases v.ownBlock <;> simp)
        have qX3 := cell_of_row w3 _ 2 _ _ _ rX3
        have y0 := cell_of_row w3 _ 0 _ _ _ rY3
        have y1 := cell_of_row w3 _ 1 _ _ _ rY3
        have y2 := cell_of_row w3 _ 2 _ _ _ rY3
        have y3 := cell_of_row w3 _ 3 _ _ _ rY3
        simp only [List.getElem?_toArray, List.getElem?_cons_zero, List.getElem?_cons_succ] at qX3 y0 y1 y2 y3
        have HB3F := Lib.hid hb3F
        have RX3 := Lib.hid rX3
        have HOWN3 := Lib.hid hown3
        have hsz3 := hb3.size
        clear hb3F rX3 hown3 hb3 hB3
        obtain ⟨xs, hxs⟩ : ∃ xs, m.flatMap cSv = xs := ⟨_, rfl⟩
        have hown3' := HOWN3.out
        rw [hxs] at hown3'
        have HOWN4 := Lib.hid hown3'
        have HXS := Lib.hid hxs
        obtain ⟨i0, hi, hz0, hz1', hz2'⟩ := info_parts infoSv
        clear hown3' hxs HOWN3
        go_wp2_with (at_builtin; go_must (refine wpList_append_own_at _ rfl _ _ 24 rfl (w.heap.size + 1 + 1 + 1) 34 i0 (vSv ⟨0, 0, 0, 0⟩) 4 32 underSvs hi hz0 hz1' hz2' rfl (by decide) v k xs rfl (HOWN4.out.alloc _) ⟨w3.heap.size, 0, none⟩ 1 1 (cSv ⟨x.sec, x.day, r, x.err⟩) rfl rfl (cSv_cells w3 ⟨x.sec, x.day, r, x.err⟩) (by intro u hu; simp [cSv] at hu; rcases hu with rfl | rfl | rfl | rfl <;> rfl) (by unfold maxLen; omega) (by omega) (by simp; omega) ?_; intro v' w4 hown' hgrow hnil hat; obtain ⟨g, cap, rfl⟩ := own_form hown'; have HOW := Lib.hid hown'; have hAB : Below (w.heap.size + 1 + 1 + 1) w3 w4 := Below.trans ((Below.refl _ _).alloc (by omega) _) ⟨hgrow.os, hgrow.tape, hgrow.output, hgrow.size, fun i hi => hgrow.block i (by simp; omega) (fun e => by have := (HOWN4.out.lt i e.symm).1; omega)⟩; have RX4 := Lib.hid ((hAB.block _ (Nat.lt_succ_self _)).trans RX3.out); have HAB := Lib.hid hAB; have qX4 := cell_of_row w4 _ 2 _ _ _ RX4.out; simp only [List.getElem?_toArray, List.getElem?_cons_zero, List.getElem?_cons_succ] at qX4; have fX4 : w4.frozen? ⟨w.heap.size + 1 + 1, 2, none⟩ = false := (by simp [World.frozen?, RX4.out]); clear hown' hgrow hnil hat hAB qX3))
        go_roundw
        case rel =>
          refine ⟨k + 1, .slice (some ⟨g, 0, none⟩) (k + 1) cap, m ++ [⟨x.sec, x.day, r, x.err⟩], by omega, by go_num, ?_, ?_, by simp [World.setCell, Array.getElem?_modify, RX4.out], ?_⟩
          · refine Ch.Rightly_snoc hlt HRI.out ?_
            rw [HX.out]
            exact ⟨rfl, rfl, rfl, hrr.1, hrr.2.1, by show (D.getD x.day.toNat []).getD x.sec.toNat 0 - x.err ≤ r; rw [HTG.out]; exact hrr.2.2.1, by show r ≤ (D.getD x.day.toNat []).getD x.sec.toNat 0 + x.err; rw [HTG.out]; exact hrr.2.2.2⟩
          · exact (HB3F.out.trans (HAB.out.mono (Nat.le_succ _))).setCell (p := ⟨w.heap.size + 1 + 1, 2, none⟩) (Nat.le_refl _) _
          · have hk2 := World.ownsRow.kept (row := some (w.heap.size + 1 + 1)) HOW.out (w' := w4.setCell ⟨w.heap.size + 1 + 1, 2, none⟩ (.slice (some ⟨g, 0, none⟩) (k + 1) cap)) ⟨rfl, rfl, rfl, by simp [World.setCell], fun k _ hk => Below.heap_setCell _ _ _ _ (fun e => hk (by rw [e]))⟩ (.inr (by
              have := (HOW.out.lt g rfl).1
              simp [Value.ownBlock]
              omega))
            rw [List.flatMap_append, HXS.out]
            simpa using hk2
        case measure => simp [intOf]; omega
    · obtain rfl : k = b.svs.length := by omega
      have hri := HRI.out
      rw [List.take_length] at hri
      have hml := hri.len
      have HRI2 := Lib.hid hri
      have rO2 := (HBr.out.block (w.heap.size + 1) (by omega)).trans RO.out
      have hsl := sl_ownN HOWN.out (Nat.le_refl _)
      have HSL := Lib.hid hsl
      obtain ⟨Au, cu, rfl⟩ := hsl.form
      clear hsl hri
      have rX2 := RX.out
      have qX0 := cell_of_row wr _ 0 _ _ _ rX2
      have qO0 := cell_of_row wr _ 0 _ _ _ rO2
      have zO0 : wr.frozen? ⟨w.heap.size + 1, 0, none⟩ = false := by simp [World.frozen?, rO2]
      have qX1 := cell_of_row wr _ 1 _ _ _ rX2
      have qO1 := cell_of_row wr _ 1 _ _ _ rO2
      have zO1 : wr.frozen? ⟨w.heap.size + 1, 1, none⟩ = false := by simp [World.frozen?, rO2]
      have qX2 := cell_of_row wr _ 2 _ _ _ rX2
      have qO2 := cell_of_row wr _ 2 _ _ _ rO2
      have zO2 : wr.frozen? ⟨w.heap.size + 1, 2, none⟩ = false := by simp [World.frozen?, rO2]
      have qX3 := cell_of_row wr _ 3 _ _ _ rX2
      have qO3 := cell_of_row wr _ 3 _ _ _ rO2
      have zO3 : wr.frozen? ⟨w.heap.size + 1, 3, none⟩ = false := by simp [World.frozen?, rO2]
      have qX4 := cell_of_row wr _ 4 _ _ _ rX2
      have qO4 := cell_of_row wr _ 4 _ _ _ rO2
      have zO4 : wr.frozen? ⟨w.heap.size + 1, 4, none⟩ = false := by simp [World.frozen?, rO2]
      simp only [List.getElem?_toArray, List.getElem?_cons_zero, List.getElem?_cons_succ] at qX0 qX1 qX2 qX3 qX4 qO0 qO1 qO2 qO3 qO4
      have HRO := Lib.hid rO2
      clear rX2 rO2
      go_wp2_with fail
      have hne : ∀ g o n c, (Value.slice Au b.svs.length cu) = .slice (some ⟨g, o, none⟩) n c → g ≠ w.heap.size + 1 := fun g o n c e => by
        have := (HOWN.out.lt g (by rw [e]; rfl)).1
        omega
      refine bodyPost_ret (v := vBk (.slice A0 b.secs.length k0) (.slice A1 b.turns.length k1) (.slice Au b.svs.length cu) b.rule b.days) (by simp [results, Tryz.results24, go_sem, qO0, qO1, qO2, qO3, qO4]) rfl ⟨⟨_, m, rfl, HRI2.out, ?_⟩, ?_⟩
      · rw [hml]
        refine Sl.more (HSL.out.same (fun g o n c e => ?_)) (by simp [World.setCell])
        have h1 := hne g o n c e
        exact (Below.heap_setCell _ _ _ _ h1).trans ((Below.heap_setCell _ _ _ _ h1).trans ((Below.heap_setCell _ _ _ _ h1).trans ((Below.heap_setCell _ _ _ _ h1).trans (Below.heap_setCell _ _ _ _ h1))))
      · refine Below.setCell (Below.setCell (Below.setCell (Below.setCell (Below.setCell HBW.out ?_ _) ?_ _) ?_ _) ?_ _) ?_ _
        all_goals (simp)

end Go.Proofs.YtkfahochpnggbaaGreat

/- Contract of the statements' helper reversed. -/
namespace Go.Proofs.YtkfahochpnggbaaGreat
open Go.RowKit

set_option maxHeartbeats 2000000 in
theorem reversed_any (l : List Int) (v0 : Value) (w : World) (hv : Sl w w.heap.size 1 v0 l.length (l.map I)) (hl : l.length ≤ 100) :
    Calls Tryz.prog 75 #[v0] w fun e w' => (∃ v, e = .returned v ∧ Sl w' w'.heap.size 1 v l.length (l.reverse.map I) ∧ Fresh w.heap.size v) ∧ Below w.heap.size w w' := by
  obtain ⟨A0, k0, rfl⟩ := hv.form
  have e0 : IntKind.i64.wrap ((l.length : Int) - 1) = (l.length : Int) - 1 := IntWalk.i64_in _ (by omega)
  have HV := Lib.hid hv
  clear hv
  go_enter Tryz.func75, Tryz.ntmps75
  go_wp2_with fail
  refine name_world ?_
  intro w1 hw1
  have hb1 : Below w.heap.size w w1 := by rw [hw1]; exact (Below.refl _ _).alloc (Nat.le_refl _) _
  have hown0 : w1.ownsRow w.heap.size 3 1 (.slice (some ⟨w.heap.size, 0, none⟩) 0 0) 0 [] := ⟨rfl, .inr ⟨w.heap.size, 0, #[], rfl, Nat.le_refl _, by rw [hw1]; exact heap_at _ _ rfl, Nat.le_refl _, by unfold maxLen; omega, rfl, rfl⟩⟩
  clear hw1
  go_loopw [3, 4] (fun u i wr => ∃ (j k : Nat) (u0 : Value), j + k = l.length ∧ i = I ((j : Int) - 1) ∧ u0 = u ∧ wr.ownsRow w.heap.size 3 1 u0 k ((l.drop j).reverse.map I) ∧ Below w.heap.size w wr) (fun _ i _ => (intOf i + 1).toNat)
  case atStart => exact ⟨l.length, 0, _, rfl, rfl, rfl, by simpa using hown0, hb1⟩
  case round =>
    obtain ⟨j, k, v, hjk, rfl, rfl, hown, hbr⟩ := hrel
    have hsl0 := (HV.out.below hbr (Nat.le_refl _)).more hbr.size
    have HOWN := Lib.hid hown
    have HBR := Lib.hid hbr
    clear hown hbr hb1 hown0 e0
    cases j with
    | succ m =>
      have hm : m < l.length := by omega
      have e1 : ((m + 1 : Nat) : Int) - 1 = (m : Int) := by omega
      rw [e1]
      have e2 : IntKind.i64.wrap ((m : Int) - 1) = (m : Int) - 1 := IntWalk.i64_in _ (by omega)
      obtain ⟨b', off', c', hv', hb', ck⟩ := hsl0.int hm
      injection hv' with hA _ hc
      subst hA hc
      have HD := Lib.hid (List.drop_eq_getElem_cons hm)
      obtain ⟨x, hx⟩ : ∃ x, l[m] = x := ⟨_, rfl⟩
      rw [hx] at ck
      have HX := Lib.hid hx
      have hz2 := HBR.out.size
      have hki : (m : Int) < l.length := by omega
      obtain ⟨xs, hxs⟩ : ∃ xs, (l.drop (m + 1)).reverse.map I = xs := ⟨_, rfl⟩
      have hown2 := HOWN.out
      rw [hxs] at hown2
      have HOWN2 := Lib.hid hown2
      have HXS := Lib.hid hxs
      obtain ⟨i0, hi, hz0, hz1', hz2'⟩ := info_parts infoInt
      clear hsl0 e1 hx hxs hown2
      go_wp2_with (at_builtin; go_must (refine wpList_append_own_at _ rfl _ _ 23 rfl w.heap.size 3 i0 (I 0) 1 8 under23 hi hz0 hz1' hz2' rfl (by decide) v k xs rfl (HOWN2.out.alloc _) ⟨wr.heap.size, 0, none⟩ 1 1 [I x] rfl rfl (cell_one_new _ _ _) (by simp [Value.oneCell']) (by unfold maxLen; omega) (by omega) (by simp; omega) ?_; intro v' w3 hown' hgrow hnil hat; have HOW := Lib.hid hown'; have HGR := Lib.hid hgrow; clear hown' hgrow hnil hat))
      go_roundw
      case rel =>
        refine ⟨m, k + 1, _, by omega, by go_num, rfl, ?_, ?_⟩
        · rw [HD.out, List.reverse_cons, List.map_append, HXS.out, HX.out]; exact HOW.out
        · refine HBR.out.trans (Below.trans ((Below.refl _ _).alloc (Nat.le_refl _) _ |>.mono hz2) ⟨HGR.out.os, HGR.out.tape, HGR.out.output, HGR.out.size, fun i hi => HGR.out.block i (by simp; omega) (fun e => ?_)⟩)
          have := (HOWN2.out.lt i e.symm).1
          omega
      case measure => simp [intOf]
    | zero =>
      obtain rfl : k = l.length := by omega
      have hsl := sl_own HOWN.out (Nat.le_refl _)
      rw [List.drop_zero] at hsl
      have hfr : Fresh w.heap.size v := fun g o m c e => (HOWN.out.lt g (by rw [e]; rfl)).1
      have HSL := Lib.hid hsl
      obtain ⟨Av, cv, rfl⟩ := hsl.form
      have HFR := Lib.hid hfr
      clear hsl hsl0 hfr
      go_wp2_with fail
      go_ret
      exact ⟨⟨_, rfl, HSL.out, HFR.out⟩, HBR.out⟩

end Go.Proofs.YtkfahochpnggbaaGreat

/- Contract of the statements' helper worn. -/
namespace Go.Proofs.YtkfahochpnggbaaGreat
open Go.RowKit

theorem Sl.addr {w : World} {B n : Nat} {v : Value} {xs : List Value} (h : Sl w B 1 v n xs) (hn : 0 < n) :
    ∃ b off c, v = .slice (some ⟨b, off, none⟩) n c ∧ b < B ∧ ∀ j u, xs[j]? = some u → w.cell? (Addr.add ⟨b, off, none⟩ j) = some u := by
  obtain ⟨h1, A, c, rfl, h2, h3, h4⟩ := h
  obtain ⟨b, off, rfl, hb, hc⟩ := h4 hn
  exact ⟨b, off, c, rfl, hb, fun j u hu => by rw [Addr.add_lit]; exact hc j u hu⟩
theorem own_arr {w : World} {base n : Nat} {v : Value} {l : List Int} (h : w.ownsRow base 3 1 v n (l.map I)) (hn : 0 < n) :
    ∃ g cap, v = .slice (some ⟨g, 0, none⟩) n cap ∧ base ≤ g ∧ g < w.heap.size ∧ ArrAt w g l ∧ n ≤ cap ∧ cap ≤ maxLen := by
  obtain ⟨hl, hc⟩ := h
  rcases hc with ⟨rfl, rfl⟩ | ⟨g, cap, cur, rfl, hb, hg, hle, hmx, hcs, htk⟩
  · omega
  · refine ⟨g, cap, rfl, hb, heap_lt hg, ⟨cur, hg, fun j hj => ?_⟩, hle, hmx⟩
    have h1 : (cur.toList.take (n * 1))[j]? = some (I l[j]) := by rw [htk]; simp [hj]
    rw [List.getElem?_take] at h1
    split at h1
    · simpa using h1
    · cases h1
theorem own_new (W : World) {base : Nat} (hb : base ≤ W.heap.size) : (W.alloc (.cells #[] 3)).ownsRow base 3 1 (.slice (some ⟨W.heap.size, 0, none⟩) 0 0) 0 [] :=
  ⟨rfl, .inr ⟨W.heap.size, 0, #[], rfl, hb, heap_at _ _ rfl, Nat.le_refl _, by unfold maxLen; omega, rfl, rfl⟩⟩
theorem ArrAt.news {w : World} {g : Nat} {l : List Int} (h : ArrAt w g l) : ∀ j u, (l.map I)[j]? = some u → w.cell? (Addr.add ⟨g, 0, none⟩ j) = some u := by
  intro j u hu
  have hj : j < l.length := by
    have := (List.getElem?_eq_some_iff.1 hu).1
    simpa using this
  rw [Addr.add_lit, Nat.zero_add, h.cell hj]
  rw [← hu]
  simp [hj]
theorem ArrAt.kept {w w' : World} {g : Nat} {l : List Int} (h : ArrAt w g l) (hk : w'.heap[g]? = w.heap[g]?) : ArrAt w' g l := by
  obtain ⟨cur, h1, h2⟩ := h
  exact ⟨cur, hk.trans h1, h2⟩
theorem one_ints (l : List Int) : ∀ u ∈ l.map I, u.oneCell' = true := by
  intro u hu
  obtain ⟨x, -, rfl⟩ := List.mem_map.1 hu
  rfl
theorem infoInts : (Tryz.prog.info? 23).map (fun i => (i.zero, i.size, i.bytes)) = some (some (.slice none 0 0), 1, 24) := by kernel_rfl
theorem under40 : Tryz.prog.underlying 40 = some (.slice 23) := by kernel_rfl

theorem arr_sl {W : World} {g cap n : Nat} {l : List Int} (ha : ArrAt W g l) (hl : l.length = n) (hc : n ≤ cap) (hcm : cap ≤ maxLen) (hg : g < W.heap.size) : Sl W W.heap.size 1 (.slice (some ⟨g, 0, none⟩) n cap) l.length (l.map I) := by
  subst hl
  refine ⟨by simp, some ⟨g, 0, none⟩, cap, rfl, hc, hcm, fun _ => ⟨g, 0, rfl, hg, fun j u hu => ?_⟩⟩
  have := ha.news j u hu
  rw [Addr.add_lit] at this
  exact this
/-- All is kept but some blocks. -/
structure KeepBut (no : Nat → Prop) (W w' : World) : Prop where
  os : w'.os = W.os
  tape : w'.tape = W.tape
  output : w'.output = W.output
  size : W.heap.size ≤ w'.heap.size
  keep : ∀ g, g < W.heap.size → ¬ no g → w'.heap[g]? = W.heap[g]?
theorem KeepBut.refl (no : Nat → Prop) (W : World) : KeepBut no W W := ⟨rfl, rfl, rfl, Nat.le_refl _, fun _ _ _ => rfl⟩
theorem KeepBut.trans {no : Nat → Prop} {W w1 w2 : World} (h : KeepBut no W w1) (k : KeepBut no w1 w2) : KeepBut no W w2 :=
  ⟨k.os.trans h.os, k.tape.trans h.tape, k.output.trans h.output, Nat.le_trans h.size k.size, fun g hg hn => (k.keep g (Nat.lt_of_lt_of_le hg h.size) hn).trans (h.keep g hg hn)⟩
theorem keep_below {no : Nat → Prop} {W w' : World} (h : Below W.heap.size W w') : KeepBut no W w' := ⟨h.os, h.tape, h.output, h.size, fun g hg _ => h.block g hg⟩
theorem KeepBut.below {no : Nat → Prop} {W w' : World} {F : Nat} (h : KeepBut no W w') (hF : F ≤ W.heap.size) (hn : ∀ g, g < F → ¬ no g) : Below F W w' :=
  ⟨h.os, h.tape, h.output, h.size, fun g hg => h.keep g (Nat.lt_of_lt_of_le hg hF) (hn g hg)⟩
/-- A list that lies in none of some blocks. -/
def AwaySl (w : World) (v : Value) (l : List Int) (no : Nat → Prop) : Prop :=
  Sl w w.heap.size 1 v l.length (l.map I) ∧ ∀ g o m c, v = .slice (some ⟨g, o, none⟩) m c → ¬ no g
theorem AwaySl.step {w w' : World} {v : Value} {l : List Int} {no no' : Nat → Prop} (h : AwaySl w v l no) (hp : 0 < l.length) (hs : w.heap.size ≤ w'.heap.size) (hk : ∀ g, g < w.heap.size → ¬ no g → w'.heap[g]? = w.heap[g]?) (hno : ∀ g, g < w.heap.size → no' g → no g) : AwaySl w' v l no' := by
  obtain ⟨h1, h2⟩ := h
  obtain ⟨b, off, c, e0, hb, -⟩ := h1.addr hp
  refine ⟨(h1.same fun g o m c e => ?_).more hs, fun g o m c e hn => ?_⟩
  · have : g = b := by rw [e0] at e; injection e with e; injection e with e; injection e with e; exact e.symm
    subst this
    exact hk g hb (h2 g o m c e)
  · have : g = b := by rw [e0] at e; injection e with e; injection e with e; injection e with e; exact e.symm
    subst this
    exact h2 g o m c e (hno g hb hn)
/-- Blocks that are written: what is now, and the list of all days. -/
def noOf (g7 : Nat) (v : Value) (g : Nat) : Prop := g = g7 ∨ v.ownBlock = some g
/-- Is the chain turned before a day? -/
def Ch.before0 (b : Ch.Bk) (k : Nat) : Bool := if k = 0 then false else Ch.turned b ((k - 1 : Nat) : Int)

set_option maxRecDepth 100000 in
set_option maxHeartbeats 8000000 in
theorem wornLaw_any (b : Ch.Bk) (S T V v1 v2 : Value) (th ws : List Int) (w : World) (hb : RB w w.heap.size b S T V) (h1 : Sl w w.heap.size 1 v1 th.length (th.map I)) (h2 : Sl w w.heap.size 1 v2 ws.length (ws.map I)) (hto : Ch.Truly b th ws) (hval : Ch.valid b = true) :
    Calls Tryz.prog 23 #[vBk S T V b.rule b.days, v1, v2] w fun e w' => (∃ v, e = .returned v ∧ SlL w' w'.heap.size v (Ch.trueRows b th ws (b.days.toNat + 1))) ∧ Below w.heap.size w w' := by
  obtain ⟨A0, k0, rfl⟩ := hb.secs.form
  obtain ⟨A1, k1, rfl⟩ := hb.turns.form
  obtain ⟨A2, k2, rfl⟩ := hb.svs.form
  have hn := Ch.secs_le hval
  have hd := Ch.days_le hval
  have htn := hto.thn
  have hwn := hto.wrn
  rw [htn] at h1
  rw [hwn] at h2
  obtain ⟨b1, o1, c1, rfl, hb1l, hb1⟩ := h1.addr (by omega)
  obtain ⟨b2, o2, c2, rfl, hb2l, -⟩ := h2.addr (by omega)
  have HB := Lib.hid hb
  have H2 := Lib.hid h2
  have HV1 := Lib.hid hb1
  have HTN := Lib.hid htn
  have HWN := Lib.hid hwn
  have HTO := Lib.hid hto
  have HVAL := Lib.hid hval
  clear hb h1 h2 hb1 htn hwn hto hval
  go_enter Tryz.func23, Tryz.ntmps23
  go_upto_region 1 with (fail)
  refine name_world ?_
  intro W0 hW0
  have hb0 : Below w.heap.size w W0 := by rw [hW0]; exact (Below.refl _ _).alloc (Nat.le_refl _) _
  have rB : W0.heap[w.heap.size]? = some (.cells #[.slice A0 b.secs.length k0, .slice A1 b.turns.length k1, .slice A2 b.svs.length k2, I b.rule, I b.days] 26 (0, 0)) := by rw [hW0]; exact heap_at _ _ rfl
  have hz0 : w.heap.size + 1 ≤ W0.heap.size := heap_lt rB
  have hA0 : Below W0.heap.size W0 (W0.alloc (.cells #[] 3)) := (Below.refl _ _).alloc (Nat.le_refl _) _
  have hnw : ∀ j u, (th.map I)[j]? = some u → (W0.alloc (.cells #[] 3)).cell? (Addr.add ⟨b1, o1, none⟩ j) = some u := fun j u hu => by
    have e := HV1.out j u hu
    rw [Addr.add_lit] at e ⊢
    exact ((hA0.cell (p := ⟨b1, o1 + j, none⟩) (by show b1 < _; omega)).trans (hb0.cell (p := ⟨b1, o1 + j, none⟩) hb1l)).trans e
  have HB0 := Lib.hid hb0
  have RB0 := Lib.hid rB
  have HNW := Lib.hid hnw
  obtain ⟨i0, hi, hz0', hz1', hz2'⟩ := info_parts infoInt
  clear hW0 hb0 rB hnw hA0
  go_wp2_with (at_builtin; go_must (refine wpList_append_own_at _ rfl _ _ 23 rfl (w.heap.size + 1) 3 i0 (I 0) 1 8 under23 hi hz0' hz1' hz2' rfl (by decide) (.slice (some ⟨W0.heap.size, 0, none⟩) 0 0) 0 [] rfl (own_new W0 hz0) ⟨b1, o1, none⟩ b.secs.length c1 (th.map I) rfl (by have := HTN.out; simp; omega) HNW.out (one_ints th) (by unfold maxLen; omega) (by omega) (by simp; omega) ?_; intro v' w2 hown' hgrow hnil hat; have hown2 : w2.ownsRow (w.heap.size + 1) 3 1 v' b.secs.length (th.map I) := (by simpa using hown'); obtain ⟨g7, cap7, rfl, hg7, hl7, harr, hcap, hcapm⟩ := own_arr hown2 (by omega); have HARR := Lib.hid harr; have HGR := Lib.hid hgrow; clear hown' hown2 hgrow hnil hat harr))
  refine name_world ?_
  intro W3 hW3
  have hA2 : Below w2.heap.size w2 W3 := by rw [hW3]; exact (Below.refl _ _).alloc (Nat.le_refl _) _
  have own8 : W3.ownsRow w2.heap.size 3 1 (.slice (some ⟨w2.heap.size, 0, none⟩) 0 0) 0 [] := by rw [hW3]; exact own_new w2 (Nat.le_refl _)
  have hB02 : Below W0.heap.size W0 w2 := ((Below.refl _ _).alloc (Nat.le_refl _) (.cells #[] 3)).trans ⟨HGR.out.os, HGR.out.tape, HGR.out.output, HGR.out.size, fun i hi => HGR.out.block i (by simp; omega) (fun e => by simp [Value.ownBlock] at e; omega)⟩
  have hB03 := hB02.trans (hA2.mono hB02.size)
  have HB03 := Lib.hid hB03
  have hz02 : W0.heap.size ≤ w2.heap.size := hB02.size
  have HARR3 := Lib.hid (HARR.out.kept (hA2.block _ hl7))
  have hz3 : W3.heap.size = w2.heap.size + 1 := by rw [hW3]; simp
  clear hW3 hA2 hB02 hB03
  go_loopw [8, 9] (fun u8 i wr => ∃ (k : Nat) (v8 : Value), k ≤ b.secs.length ∧ i = I k ∧ v8 = u8 ∧ wr.ownsRow w2.heap.size 3 1 v8 k (((List.range k).map fun p : Nat => (p : Int)).map I) ∧ Below w2.heap.size W3 wr) (fun _ i _ => b.secs.length - (intOf i).toNat)
  case atStart => exact ⟨0, _, Nat.zero_le _, rfl, rfl, own8, Below.refl _ _⟩
  case round =>
    obtain ⟨k, v8, hk, rfl, rfl, hown, hbr⟩ := hrel
    have HOWN := Lib.hid hown
    have HBR := Lib.hid hbr
    clear hown hbr own8
    by_cases hlt : k < b.secs.length
    · have hki : (k : Int) < b.secs.length := by omega
      have hz2 := HBR.out.size
      obtain ⟨xs, hxs⟩ : ∃ xs, ((List.range k).map fun p : Nat => (p : Int)).map I = xs := ⟨_, rfl⟩
      have hown2 := HOWN.out
      rw [hxs] at hown2
      have HOWN2 := Lib.hid hown2
      have HXS := Lib.hid hxs
      clear hxs hown2
      go_wp2_with (at_builtin; go_must (refine wpList_append_own_at _ rfl _ _ 23 rfl w2.heap.size 3 i0 (I 0) 1 8 under23 hi hz0' hz1' hz2' rfl (by decide) v8 k xs rfl (HOWN2.out.alloc _) ⟨wr.heap.size, 0, none⟩ 1 1 [I k] rfl rfl (cell_one_new _ _ _) (by simp [Value.oneCell']) (by unfold maxLen; omega) (by omega) (by simp; omega) ?_; intro v' w4 hown' hgrow hnil hat; have HOW := Lib.hid hown'; have HGR4 := Lib.hid hgrow; clear hown' hgrow hnil hat))
      go_roundw
      case rel =>
        refine ⟨k + 1, _, by omega, by go_num, rfl, ?_, ?_⟩
        · rw [List.range_succ, List.map_append, List.map_append, HXS.out]; exact HOW.out
        · refine HBR.out.trans (Below.trans ((Below.refl _ _).alloc (Nat.le_refl _) _ |>.mono (by omega)) ⟨HGR4.out.os, HGR4.out.tape, HGR4.out.output, HGR4.out.size, fun i hi => HGR4.out.block i (by simp; omega) (fun e => ?_)⟩)
          have := (HOWN2.out.lt i e.symm).1
          omega
      case measure => simp [intOf]; omega
    · obtain rfl : k = b.secs.length := by omega
      have hpos : 0 < b.secs.length := by omega
      obtain ⟨g8, cap8, rfl, hg8, hl8, harr8, hcap8, hcapm8⟩ := own_arr HOWN.out hpos
      have hlies : ((List.range b.secs.length).map fun p : Nat => (p : Int)) = Ch.liesOf b.secs.length false := by simp [Ch.liesOf]
      rw [hlies] at harr8
      have HARR8 := Lib.hid harr8
      have hzr := HBR.out.size
      have hl7r : g7 < wr.heap.size := by omega
      have harr7 := HARR3.out.kept (HBR.out.block g7 hl7)
      have hA4 : Below wr.heap.size wr (wr.alloc (.cells #[] 3)) := (Below.refl _ _).alloc (Nat.le_refl _) _
      have HNW7 := Lib.hid (harr7.kept (hA4.block g7 hl7r)).news
      have HARR7 := Lib.hid harr7
      have HA4 := Lib.hid hA4
      clear hlies harr8 harr7 hA4 HARR3 HARR HGR HNW HV1
      go_wp2_with (at_builtin; go_must (refine wpList_append_own_at _ rfl _ _ 23 rfl wr.heap.size 3 i0 (I 0) 1 8 under23 hi hz0' hz1' hz2' rfl (by decide) (.slice (some ⟨wr.heap.size, 0, none⟩) 0 0) 0 [] rfl (own_new wr (Nat.le_refl _)) ⟨g7, 0, none⟩ b.secs.length cap7 (th.map I) rfl (by have := HTN.out; simp; omega) HNW7.out (one_ints th) (by unfold maxLen; omega) (by omega) (by simp) ?_; intro v' w5 hown' hgrow hnil hat; have hown2 : w5.ownsRow wr.heap.size 3 1 v' b.secs.length (th.map I) := (by simpa using hown'); obtain ⟨r0, capr, rfl, hr0, hlr0, harrr, hcapr, hcaprm⟩ := own_arr hown2 hpos; have HARRR := Lib.hid harrr; have HGR5 := Lib.hid hgrow; clear hown' hown2 hgrow hnil hat harrr))
      refine name_world ?_
      intro W6 hW6
      have hA6 : Below w5.heap.size w5 W6 := by rw [hW6]; exact (Below.refl _ _).alloc (Nat.le_refl _) _
      have hz6 : W6.heap.size = w5.heap.size + 1 := by rw [hW6]; simp
      have own10 : W6.ownsRow w5.heap.size 23 1 (.slice (some ⟨w5.heap.size, 0, none⟩) 1 1) 1 [.slice (some ⟨r0, 0, none⟩) b.secs.length capr] := ⟨rfl, .inr ⟨w5.heap.size, 1, #[.slice (some ⟨r0, 0, none⟩) b.secs.length capr], rfl, Nat.le_refl _, by rw [hW6]; exact heap_at _ _ rfl, Nat.le_refl _, by unfold maxLen; omega, rfl, rfl⟩⟩
      have hB45 : Below wr.heap.size wr w5 := HA4.out.trans ⟨HGR5.out.os, HGR5.out.tape, HGR5.out.output, HGR5.out.size, fun i hi => HGR5.out.block i (by simp; omega) (fun e => by simp [Value.ownBlock] at e; omega)⟩
      have hB46 := hB45.trans (hA6.mono hB45.size)
      have harr76 := HARR7.out.kept (hB46.block g7 hl7r)
      have harr86 := HARR8.out.kept (hB46.block g8 hl8)
      have harrr6 := HARRR.out.kept (hA6.block r0 hlr0)
      have htr0 : Ch.trueRow b th ws 0 = th := by
        apply List.ext_getElem
        · rw [Ch.true_len, HTN.out]
        · intro j h1 h2
          simp [Ch.trueRow, Ch.true_zero, List.getD_eq_getElem?_getD, h2]
      have hzr5 := hB45.size
      have slArr : ∀ (g cap : Nat) (l : List Int), ArrAt W6 g l → l.length = b.secs.length → b.secs.length ≤ cap → cap ≤ maxLen → g < W6.heap.size → Sl W6 W6.heap.size 1 (.slice (some ⟨g, 0, none⟩) b.secs.length cap) l.length (l.map I) := fun g cap l ha hl hc hcm hg => by
        rw [hl]
        refine ⟨by simp [hl], some ⟨g, 0, none⟩, cap, rfl, hc, hcm, fun _ => ⟨g, 0, rfl, hg, fun j u hu => ?_⟩⟩
        have := ha.news j u hu
        rw [Addr.add_lit] at this
        exact this
      have aw8 : AwaySl W6 (.slice (some ⟨g8, 0, none⟩) b.secs.length cap8) (Ch.liesOf b.secs.length (Ch.before0 b 0)) (noOf g7 (.slice (some ⟨w5.heap.size, 0, none⟩) 1 1)) := by
        refine ⟨slArr g8 cap8 _ harr86 (Ch.lies_len _ _) hcap8 hcapm8 (by omega), fun g o m c e hn => ?_⟩
        injection e with e
        injection e with e
        injection e with e
        rcases hn with h | h
        · omega
        · simp [Value.ownBlock] at h; omega
      have awr : AwaySl W6 (.slice (some ⟨r0, 0, none⟩) b.secs.length capr) (Ch.trueRow b th ws 0) (noOf g7 (.slice (some ⟨w5.heap.size, 0, none⟩) 1 1)) := by
        refine ⟨slArr r0 capr _ (by rw [htr0]; exact harrr6) (Ch.true_len _ _ _ _) hcapr hcaprm (by omega), fun g o m c e hn => ?_⟩
        injection e with e
        injection e with e
        injection e with e
        rcases hn with h | h
        · omega
        · simp [Value.ownBlock] at h; omega
      have arr0 : ArrAt W6 g7 (Ch.trueRow b th ws 0) := by rw [htr0]; exact harr76
      have hB06 : Below W0.heap.size W0 W6 := HB03.out.trans ((HBR.out.mono (by have := HB03.out.size; omega)).trans (hB46.mono (by have := HB03.out.size; omega)))
      have hb6 : Below w.heap.size w W6 := HB0.out.trans (hB06.mono HB0.out.size)
      have rB6 := (hB06.block w.heap.size (by omega)).trans RB0.out
      have HB6 := Lib.hid hb6
      have RB6 := Lib.hid rB6
      clear hW6 hA6 hB45 hB46 harr76 harr86 harrr6 slArr hB06 hb6 rB6 HARR7 HARR8 HARRR HGR5 HA4 HNW7 HB03 HB0 RB0 HBR HOWN
      go_loopw [8, 10, 11] (fun u8 u10 i wq => ∃ (k : Nat) (v8 v10 : Value) (rows : List Value), (k : Int) ≤ b.days ∧ i = I k ∧ v8 = u8 ∧ v10 = u10 ∧ AwaySl wq v8 (Ch.liesOf b.secs.length (Ch.before0 b k)) (noOf g7 v10) ∧ ArrAt wq g7 (Ch.trueRow b th ws k) ∧ wq.ownsRow w5.heap.size 23 1 v10 (k + 1) rows ∧ (∀ d (h : d < rows.length), AwaySl wq rows[d] (Ch.trueRow b th ws d) (noOf g7 v10)) ∧ KeepBut (fun g => g = g7 ∨ g = w5.heap.size) W6 wq) (fun _ _ i _ => (b.days - intOf i).toNat)
      case atStart =>
        refine ⟨0, _, _, _, by omega, rfl, rfl, rfl, aw8, arr0, own10, fun d h => ?_, KeepBut.refl _ _⟩
        have h0 : d = 0 := by simp at h; exact h
        subst h0
        exact awr
      case round =>
        obtain ⟨wq, rfl⟩ : ∃ wo : World, wo = wr := ⟨_, rfl⟩
        obtain ⟨k, v8, v10, rows, hk, rfl, rfl, rfl, haw, harr, hown, hrows, hkp⟩ := hrel
        have rBq := (hkp.keep w.heap.size (by omega) (fun h => by omega)).trans RB6.out
        have qB1 := cell_of_row wq _ 1 _ _ _ rBq
        have qB4 := cell_of_row wq _ 4 _ _ _ rBq
        simp only [List.getElem?_toArray, List.getElem?_cons_zero, List.getElem?_cons_succ] at qB1 qB4
        have hbq : Below w.heap.size w wq := HB6.out.trans (hkp.below (by omega) (fun g hg => by omega))
        have HAW := Lib.hid haw
        have HARRq := Lib.hid harr
        have HOWNq := Lib.hid hown
        have HROWS := Lib.hid hrows
        have HKP := Lib.hid hkp
        have HBQ := Lib.hid hbq
        clear haw harr hown hrows hkp hbq rBq aw8 awr arr0 own10
        by_cases hlt : (k : Int) < b.days
        · have hkl : (k : Int) < b.days := hlt
          go_wp2_with fail
          refine (at_any b.turns k _ wq ((HB.out.turns.below HBQ.out (Nat.le_refl _)).more HBQ.out.size)).mono ?_
          rintro e wa ⟨rfl, hBa⟩
          obtain ⟨q, hq⟩ : ∃ q : Int, Ch.indexOf b.turns k = q := ⟨_, rfl⟩
          have hmem := (Ch.indexOf_nonneg (l := b.turns) (x := (k : Int)))
          rw [hq] at hmem ⊢
          have hts := Ch.turned_step HVAL.out k
          have hawa := HAW.out.step (by rw [Ch.lies_len]; exact hpos) hBa.size (fun g hg _ => hBa.block g hg) (fun _ _ h => h)
          have HARRa := Lib.hid (HARRq.out.kept (hBa.block g7 (by obtain ⟨cur, h1, -⟩ := HARRq.out; exact heap_lt h1)))
          have HOWNa := Lib.hid (HOWNq.out.kept (grown_of_below hBa none) (by cases v10.ownBlock <;> simp))
          have HROWSa := Lib.hid (show ∀ d (h : d < rows.length), AwaySl wa rows[d] (Ch.trueRow b th ws d) (noOf g7 v10) from fun d h => (HROWS.out d h).step (by rw [Ch.true_len]; exact hpos) hBa.size (fun g hg _ => hBa.block g hg) (fun _ _ h => h))
          have HKPa := Lib.hid (HKP.out.trans (keep_below hBa))
          have HBa := Lib.hid (HBQ.out.trans (hBa.mono HBQ.out.size))
          clear hq qB1 qB4 hBa
          by_cases hin : (k : Int) ∈ b.turns
          · have hq0 : 0 ≤ q := hmem.2 hin
            rw [if_pos hin] at hts
            have HTS := Lib.hid hts
            have HAWA := Lib.hid hawa
            clear hmem hin hts hawa
            go_wp2_with fail
            refine (reversed_any _ v8 wa HAWA.out.1 (by rw [Ch.lies_len]; omega)).mono ?_
            rintro e wb ⟨⟨v9, rfl, hs9, hf9⟩, hBb⟩
            have haw9 : AwaySl wb v9 (Ch.liesOf b.secs.length (Ch.turned b k)) (noOf g7 v10) := by
              rw [Ch.lies_rev] at hs9
              refine ⟨?_, fun g o m c e hn => ?_⟩
              · rw [HTS.out, Ch.lies_len]
                rw [Ch.lies_len] at hs9
                exact hs9
              · have h1 := hf9 g o m c e
                rcases hn with h | h
                · have h2 : g7 < wa.heap.size := by obtain ⟨cur, h3, -⟩ := HARRa.out; exact heap_lt h3
                  omega
                · have h2 := (HOWNa.out.lt g h).2
                  omega
            have HAW9 := Lib.hid haw9
            have HARRb := Lib.hid (HARRa.out.kept (hBb.block g7 (by obtain ⟨cur, h1, -⟩ := HARRa.out; exact heap_lt h1)))
            have HOWNb := Lib.hid (HOWNa.out.kept (grown_of_below hBb none) (by cases v10.ownBlock <;> simp))
            have HROWSb := Lib.hid (show ∀ d (h : d < rows.length), AwaySl wb rows[d] (Ch.trueRow b th ws d) (noOf g7 v10) from fun d h => (HROWSa.out d h).step (by rw [Ch.true_len]; exact hpos) hBb.size (fun g hg _ => hBb.block g hg) (fun _ _ h => h))
            have HKPb := Lib.hid (HKPa.out.trans (keep_below hBb))
            have HBb := Lib.hid (HBa.out.trans (hBb.mono HBa.out.size))
            clear hs9 hf9 haw9 hBb
            obtain ⟨bl, ol, cl, e9, hbl, hcl⟩ := HAW9.out.1.addr (by rw [Ch.lies_len]; exact hpos)
            rw [Ch.lies_len] at e9
            subst e9
            have hnl : ¬ noOf g7 v10 bl := HAW9.out.2 bl ol _ cl rfl
            have hbg : bl ≠ g7 := fun h => hnl (.inl h)
            have HCL := Lib.hid hcl
            have HNL := Lib.hid hnl
            have hb2g : b2 ≠ g7 := by omega
            clear hcl hnl
            go_wp2_with fail
            go_loopw [12] (fun i wr => ∃ p : Nat, p ≤ b.secs.length ∧ i = I p ∧ ArrAt wr g7 (Ch.midRow b th ws k p) ∧ wb.grownBy wr (some g7)) (fun i _ => b.secs.length - (intOf i).toNat)
            case atStart => exact ⟨0, Nat.zero_le _, rfl, by rw [Ch.mid_zero]; exact HARRb.out, ⟨rfl, rfl, rfl, Nat.le_refl _, fun _ _ _ => rfl⟩⟩
            case round =>
              obtain ⟨wp, rfl⟩ : ∃ wo : World, wo = wr := ⟨_, rfl⟩
              obtain ⟨p, hp, rfl, harrp, hgp⟩ := hrel
              have HARRp := Lib.hid harrp
              have HGP := Lib.hid hgp
              clear harrp hgp
              by_cases hpl : p < b.secs.length
              · have hpi : (p : Int) < b.secs.length := by omega
                have hpb := Ch.place_bd b p k (Int.natCast_nonneg _) (by omega)
                obtain ⟨q7, hq7⟩ : ∃ q7 : Nat, Ch.place b p k = q7 := ⟨(Ch.place b p k).toNat, by omega⟩
                have hql : q7 < b.secs.length := by omega
                have cl0 := HCL.out p (I q7) (by rw [List.getElem?_map, List.getElem?_eq_getElem (by rw [Ch.lies_len]; exact hpl), Ch.lies_at hpl, hq7]; rfl)
                rw [Addr.add_lit] at cl0
                have cl1 : wp.cell? ⟨bl, ol + p, none⟩ = some (I q7) := HGP.out.cell cl0 (fun e => hbg (by injection e))
                obtain ⟨mv, hmv⟩ : ∃ mv, Ch.midOn b th ws k p q7 = mv := ⟨_, rfl⟩
                have c7 : wp.cell? ⟨g7, q7, none⟩ = some (I mv) := by rw [HARRp.out.cell (by rw [Ch.mid_len]; exact hql), Ch.mid_at th ws k p hql, hmv]
                have c7d : wp.drew.cell? ⟨g7, q7, none⟩ = some (I mv) := c7
                have f7 := HARRp.out.free q7
                have f7d : wp.drew.frozen? ⟨g7, q7, none⟩ = false := f7
                obtain ⟨xv, hxv⟩ : ∃ xv, ws.getD p 0 = xv := ⟨_, rfl⟩
                have hpw : p < ws.length := by rw [HWN.out]; exact hpl
                have hxv' : ws[p] = xv := by rw [← hxv]; simp [List.getD_eq_getElem?_getD, hpw]
                have h2b := H2.out.below HBb.out (Nat.le_refl _)
                rw [← HWN.out] at h2b
                obtain ⟨b2', o2', c2', e2, hb2', cw⟩ := h2b.int hpw
                rw [HWN.out] at e2
                injection e2 with e2 _ e3
                injection e2 with e2
                injection e2 with e2 e4
                subst e2 e4 e3
                rw [hxv'] at cw
                have cw1 : wp.cell? ⟨b2, o2 + p, none⟩ = some (I xv) := HGP.out.cell cw (fun e => hb2g (by injection e))
                have hx3 := HTO.out.wear p hpl
                rw [hxv] at hx3
                have hsf := Ch.sec_facts HVAL.out hpl
                have htb := Ch.true_bd HVAL.out HTO.out hql (d := k) (by omega)
                have hm3 : -3 ≤ mv ∧ mv ≤ 200 := by
                  rw [← hmv]
                  simp only [Ch.midOn]
                  split
                  · rename_i hlt3
                    have hl3 : (Ch.place b q7 k).toNat < b.secs.length := by have := Ch.place_bd b q7 k (Int.natCast_nonneg _) (by omega); omega
                    have h5 := HTO.out.wear _ hl3
                    have h6 := Ch.sec_facts HVAL.out hl3
                    omega
                  · omega
                have ew : IntKind.i64.wrap (mv - xv) = mv - xv := IntWalk.i64_in _ (by omega)
                have HMS := Lib.hid (Ch.mid_step (b := b) th ws k hpl)
                have hq7n : (Ch.place b p k).toNat = q7 := by omega
                have HQ := Lib.hid hq7n
                have HMV := Lib.hid hmv
                have HXV := Lib.hid hxv
                clear cl0 hmv hxv hxv' hpw h2b hb2' cw hx3 hsf htb hm3 hpb hq7 hq7n
                go_wp2_with fail
                refine name_act ?_
                intro A hA
                obtain ⟨R, hR⟩ : ∃ R : Act → World → Prop, R = fun a' w' => (∃ u50 u51 u52 u53 u54 u55 u56 u57 u58 u59 u60 u61 u62, a' = (((((((((((((A.put (some 50) u50).put (some 51) u51).put (some 52) u52).put (some 53) u53).put (some 54) u54).put (some 55) u55).put (some 56) u56).put (some 57) u57).put (some 58) u58).put (some 59) u59).put (some 60) u60).put (some 61) u61).put (some 62) u62)) ∧ w' = wp.drew.setCell ⟨g7, q7, none⟩ (I (mv - xv)) := ⟨_, rfl⟩
                have HR := Lib.hid hR
                clear hR
                refine wp_between R ?first ?rest
                case first =>
                  subst hA
                  have hS0 : ∀ b o, b ≠ g7 → wp.drew.cell? ⟨b, o, none⟩ = wp.cell? ⟨b, o, none⟩ := fun _ _ _ => rfl
                  refine wp_region_held_drew (S := fun w' => ∀ b o, b ≠ g7 → w'.cell? ⟨b, o, none⟩ = wp.cell? ⟨b, o, none⟩) (by kernel_rfl) hS0 (fun _ => ?_)
                  refine wpAnyH_take (i := 0) (oi := { dst := some 50, op := Go.Op.move (Go.Operand.tmp 7), type := 23, pos := "outright.go:83", after := #[], guard := none }) (v := ?v1) rfl (by kernel_rfl) (by kernel_rfl) (by kernel_rfl) (fun _ _ _ h => h) (Or.inl ⟨by rfl, ?hy1⟩) hS0 ?r1
                  case hy1 =>
                    intro w' hSw
                    have hq := hSw
                    clear hSw
                    go_simp
                    with_reducible rfl
                  try simp only [Act.put, List.setIfInBounds_toArray, List.set_cons_zero, List.set_cons_succ]
                  refine wpAnyH_take (i := 1) (oi := { dst := some 51, op := Go.Op.move (Go.Operand.tmp 8), type := 23, pos := "outright.go:83", after := #[], guard := none }) (v := ?v2) rfl (by kernel_rfl) (by kernel_rfl) (by kernel_rfl) (fun _ _ _ h => h) (Or.inl ⟨by rfl, ?hy2⟩) hS0 ?r2
                  case hy2 =>
                    intro w' hSw
                    have hq := hSw
                    clear hSw
                    go_simp
                    with_reducible rfl
                  try simp only [Act.put, List.setIfInBounds_toArray, List.set_cons_zero, List.set_cons_succ]
                  refine wpAnyH_take (i := 2) (oi := { dst := some 52, op := Go.Op.move (Go.Operand.tmp 12), type := 3, pos := "outright.go:83", after := #[], guard := none }) (v := ?v3) rfl (by kernel_rfl) (by kernel_rfl) (by kernel_rfl) (fun _ _ _ h => h) (Or.inl ⟨by rfl, ?hy3⟩) hS0 ?r3
                  case hy3 =>
                    intro w' hSw
                    have hq := hSw
                    clear hSw
                    go_simp
                    with_reducible rfl
                  try simp only [Act.put, List.setIfInBounds_toArray, List.set_cons_zero, List.set_cons_succ]
                  refine wpAnyH_take (i := 3) (oi := { dst := some 53, op := Go.Op.indexAddr 23 (Go.Operand.tmp 51) (Go.Operand.tmp 52), type := 0, pos := "outright.go:83", after := #[{ on := 1, ground := Go.Ground.data }, { on := 2, ground := Go.Ground.data }], guard := none }) (v := ?v4) rfl (by kernel_rfl) (by kernel_rfl) (by kernel_rfl) (fun _ _ _ h => h) (Or.inl ⟨by rfl, ?hy4⟩) hS0 ?r4
                  case hy4 =>
                    intro w' hSw
                    have hq := hSw
                    clear hSw
                    go_simp
                    with_reducible rfl
                  try simp only [Act.put, List.setIfInBounds_toArray, List.set_cons_zero, List.set_cons_succ]
                  refine wpAnyH_take (i := 4) (oi := { dst := some 54, op := Go.Op.load 3 (Go.Operand.tmp 53), type := 3, pos := "outright.go:83", after := #[{ on := 3, ground := Go.Ground.data }], guard := none }) (v := ?v5) rfl (by kernel_rfl) (by kernel_rfl) (by kernel_rfl) (fun _ _ _ h => h) (Or.inl ⟨by rfl, ?hy5⟩) hS0 ?r5
                  case hy5 =>
                    intro w' hSw
                    have hq := hSw
                    clear hSw
                    go_simp
                    with_reducible rfl
                  try simp only [Act.put, List.setIfInBounds_toArray, List.set_cons_zero, List.set_cons_succ]
                  refine wpAnyH_take (i := 5) (oi := { dst := some 55, op := Go.Op.indexAddr 23 (Go.Operand.tmp 50) (Go.Operand.tmp 54), type := 0, pos := "outright.go:83", after := #[{ on := 0, ground := Go.Ground.data }, { on := 4, ground := Go.Ground.data }], guard := none }) (v := ?v6) rfl (by kernel_rfl) (by kernel_rfl) (by kernel_rfl) (fun _ _ _ h => h) (Or.inl ⟨by rfl, ?hy6⟩) hS0 ?r6
                  case hy6 =>
                    intro w' hSw
                    have hq := hSw
                    clear hSw
                    go_simp
                    with_reducible rfl
                  try simp only [Act.put, List.setIfInBounds_toArray, List.set_cons_zero, List.set_cons_succ]
                  refine wpAnyH_take (i := 7) (oi := { dst := some 57, op := Go.Op.move (Go.Operand.tmp 2), type := 23, pos := "outright.go:83", after := #[], guard := none }) (v := ?v7) rfl (by kernel_rfl) (by kernel_rfl) (by kernel_rfl) (fun _ _ _ h => h) (Or.inl ⟨by rfl, ?hy7⟩) hS0 ?r7
                  case hy7 =>
                    intro w' hSw
                    have hq := hSw
                    clear hSw
                    go_simp
                    with_reducible rfl
                  try simp only [Act.put, List.setIfInBounds_toArray, List.set_cons_zero, List.set_cons_succ]
                  refine wpAnyH_take (i := 8) (oi := { dst := some 58, op := Go.Op.move (Go.Operand.tmp 12), type := 3, pos := "outright.go:83", after := #[], guard := none }) (v := ?v8) rfl (by kernel_rfl) (by kernel_rfl) (by kernel_rfl) (fun _ _ _ h => h) (Or.inl ⟨by rfl, ?hy8⟩) hS0 ?r8
                  case hy8 =>
                    intro w' hSw
                    have hq := hSw
                    clear hSw
                    go_simp
                    with_reducible rfl
                  try simp only [Act.put, List.setIfInBounds_toArray, List.set_cons_zero, List.set_cons_succ]
                  refine wpAnyH_take (i := 9) (oi := { dst := some 59, op := Go.Op.indexAddr 23 (Go.Operand.tmp 57) (Go.Operand.tmp 58), type := 0, pos := "outright.go:83", after := #[{ on := 7, ground := Go.Ground.data }, { on := 8, ground := Go.Ground.data }], guard := none }) (v := ?v9) rfl (by kernel_rfl) (by kernel_rfl) (by kernel_rfl) (fun _ _ _ h => h) (Or.inl ⟨by rfl, ?hy9⟩) hS0 ?r9
                  case hy9 =>
                    intro w' hSw
                    have hq := hSw
                    clear hSw
                    go_simp
                    with_reducible rfl
                  try simp only [Act.put, List.setIfInBounds_toArray, List.set_cons_zero, List.set_cons_succ]
                  refine wpAnyH_take (i := 10) (oi := { dst := some 60, op := Go.Op.load 3 (Go.Operand.tmp 59), type := 3, pos := "outright.go:83", after := #[{ on := 9, ground := Go.Ground.data }], guard := none }) (v := ?v10) rfl (by kernel_rfl) (by kernel_rfl) (by kernel_rfl) (fun _ _ _ h => h) (Or.inl ⟨by rfl, ?hy10⟩) hS0 ?r10
                  case hy10 =>
                    intro w' hSw
                    have hq := hSw
                    clear hSw
                    go_simp
                    with_reducible rfl
                  try simp only [Act.put, List.setIfInBounds_toArray, List.set_cons_zero, List.set_cons_succ]
                  refine wpAnyH_ready (rs := [6]) (by kernel_rfl) (by simp) ?_
                  refine AllReadyH.cons rfl (fun K hK => ?_) AllReadyH.nil
                  go_simp
                  refine hK.out _ _ hS0 (fun _ => ?_)
                  clear hK K
                  try simp only [Act.put, List.setIfInBounds_toArray, List.set_cons_zero, List.set_cons_succ]
                  refine wpAnyH_take (i := 11) (oi := { dst := some 61, op := Go.Op.binOp Go.BinOp.sub 3 (Go.Operand.tmp 56) (Go.Operand.tmp 60) 3, type := 3, pos := "outright.go:83", after := #[{ on := 6, ground := Go.Ground.data }, { on := 10, ground := Go.Ground.data }], guard := none }) (v := ?v12) rfl (by kernel_rfl) (by kernel_rfl) (by kernel_rfl) (fun _ _ _ h => h) (Or.inl ⟨by rfl, ?hy12⟩) hS0 ?r12
                  case hy12 =>
                    intro w' hSw
                    have hq := hSw
                    clear hSw
                    go_simp
                    with_reducible rfl
                  try simp only [Act.put, List.setIfInBounds_toArray, List.set_cons_zero, List.set_cons_succ]
                  refine wpAnyH_take (i := 12) (oi := { dst := some 62, op := Go.Op.indexAddr 23 (Go.Operand.tmp 50) (Go.Operand.tmp 54), type := 0, pos := "outright.go:83", after := #[{ on := 0, ground := Go.Ground.data }, { on := 4, ground := Go.Ground.data }, { on := 0, ground := Go.Ground.phase }, { on := 1, ground := Go.Ground.phase }, { on := 2, ground := Go.Ground.phase }, { on := 3, ground := Go.Ground.phase }, { on := 4, ground := Go.Ground.phase }, { on := 5, ground := Go.Ground.phase }, { on := 6, ground := Go.Ground.phase }, { on := 7, ground := Go.Ground.phase }, { on := 8, ground := Go.Ground.phase }, { on := 9, ground := Go.Ground.phase }, { on := 10, ground := Go.Ground.phase }, { on := 11, ground := Go.Ground.phase }], guard := none }) (v := ?v13) rfl (by kernel_rfl) (by kernel_rfl) (by kernel_rfl) (fun _ _ _ h => h) (Or.inl ⟨by rfl, ?hy13⟩) hS0 ?r13
                  case hy13 =>
                    intro w' hSw
                    have hq := hSw
                    clear hSw
                    go_simp
                    with_reducible rfl
                  try simp only [Act.put, List.setIfInBounds_toArray, List.set_cons_zero, List.set_cons_succ]
                  refine wpAnyH_ready (rs := [13]) (by kernel_rfl) (by simp) ?_
                  refine AllReadyH.cons rfl (fun K hK => ?_) AllReadyH.nil
                  go_simp
                  have hSw14 : ∀ b o, b ≠ g7 → (wp.drew.setCell ⟨g7, q7, none⟩ (I (mv - xv))).cell? ⟨b, o, none⟩ = wp.cell? ⟨b, o, none⟩ := fun b o hb => (World.cell?_setCell_far wp.drew ⟨g7, q7, none⟩ ⟨b, o, none⟩ _ (fun h => hb h.symm)).trans rfl
                  refine hK.out _ _ hSw14 (fun _ => ?_)
                  clear hK K
                  try simp only [Act.put, List.setIfInBounds_toArray, List.set_cons_zero, List.set_cons_succ]
                  refine wpAnyH_done (by kernel_rfl) ?_ _
                  show R _ _
                  rw [HR.out]
                  simp only [Act.put, List.setIfInBounds_toArray, List.set_cons_zero, List.set_cons_succ]
                  exact ⟨⟨_, _, _, _, _, _, _, _, _, _, _, _, _, rfl⟩, rfl⟩
                case rest =>
                  intro a' w' hra
                  rw [HR.out] at hra
                  clear HR
                  obtain ⟨⟨u50, u51, u52, u53, u54, u55, u56, u57, u58, u59, u60, u61, u62, rfl⟩, rfl⟩ := hra
                  subst hA
                  try simp only [Act.put, List.setIfInBounds_toArray, List.set_cons_zero, List.set_cons_succ]
                  go_wp2_with fail
                  go_roundw
                  case rel =>
                    refine ⟨p + 1, by omega, by go_num, ?_, grown_trans HGP.out (grown_trans (grown_drew wp _) (grown_set _ _ _ _))⟩
                    rw [HMS.out, HQ.out, HMV.out, HXV.out]
                    exact HARRp.out.drew.set q7 (by rw [Ch.mid_len]; exact hql) _
                  case measure => simp [intOf]; omega
              · obtain rfl : p = b.secs.length := by omega
                have harrn := HARRp.out
                rw [Ch.mid_all hn.2] at harrn
                have hl7p : g7 < wp.heap.size := by obtain ⟨cur, h1, -⟩ := harrn; exact heap_lt h1
                have hwbp := HGP.out.size
                have hvne : v10.ownBlock ≠ some g7 := fun e => by have := (HOWNb.out.lt g7 e).1; omega
                have hownp := HOWNb.out.kept HGP.out (.inr hvne)
                have hA7 : Below wp.heap.size wp (wp.alloc (.cells #[] 3)) := (Below.refl _ _).alloc (Nat.le_refl _) _
                have HNWp := Lib.hid (harrn.kept (hA7.block g7 hl7p)).news
                have HOWNp := Lib.hid hownp
                have HA7 := Lib.hid hA7
                have hbase : w5.heap.size ≤ wp.heap.size := by have := HKPb.out.size; omega
                obtain ⟨j0, hj, hy0, hy1, hy2⟩ := info_parts infoInts
                have htl : (Ch.trueRow b th ws (k + 1)).length = b.secs.length := Ch.true_len _ _ _ _
                have hkb : k + 1 + 1 ≤ 100 := by omega
                clear hownp hA7 harrn
                go_wp2_with (at_builtin; first
                  | (refine wpList_append_own_at _ rfl _ _ 23 rfl wp.heap.size 3 i0 (I 0) 1 8 under23 hi hz0' hz1' hz2' rfl (by decide) (.slice (some ⟨wp.heap.size, 0, none⟩) 0 0) 0 [] rfl (own_new wp (Nat.le_refl _)) ⟨g7, 0, none⟩ b.secs.length cap7 ((Ch.trueRow b th ws (k + 1)).map I) rfl (by simp [htl]) HNWp.out (one_ints _) (by unfold maxLen; omega) (by omega) (by simp) ?_; intro v' w8 hown' hgrow hnil hat; have hown2 : w8.ownsRow wp.heap.size 3 1 v' b.secs.length ((Ch.trueRow b th ws (k + 1)).map I) := (by simpa using hown'); obtain ⟨rn, capn, rfl, hrn, hlrn, harrn, hcapn, hcapnm⟩ := own_arr hown2 hpos; have HARRn := Lib.hid harrn; have hB78 : Below wp.heap.size wp w8 := HA7.out.trans ⟨hgrow.os, hgrow.tape, hgrow.output, hgrow.size, fun i hi => hgrow.block i (by simp; omega) (fun e => by simp [Value.ownBlock] at e; omega)⟩; have HB78 := Lib.hid hB78; have HOWN8 := Lib.hid (HOWNp.out.kept (grown_of_below hB78 none) (by cases v10.ownBlock <;> simp)); have hsz8 := hB78.size; clear hown' hown2 hgrow hnil hat harrn hB78)
                  | (refine wpList_append_own_at _ rfl _ _ 40 rfl w5.heap.size 23 j0 (.slice none 0 0) 1 24 under40 hj hy0 hy1 hy2 rfl (by decide) v10 (k + 1) rows rfl (HOWN8.out.alloc _) ⟨w8.heap.size, 0, none⟩ 1 1 [.slice (some ⟨rn, 0, none⟩) b.secs.length capn] rfl rfl (cell_one_new _ _ _) (by simp [Value.oneCell']) (by unfold maxLen; omega) (by omega) (by simp; omega) ?_; intro v11 w9 hown' hgrow hnil hat; have HOW9 := Lib.hid hown'; have HGR9 := Lib.hid hgrow; have HAT9 := Lib.hid hat; clear hown' hgrow hnil hat))
                go_roundw
                case rel =>
                  have k1 : KeepBut (noOf g7 v10) wb wp := ⟨HGP.out.os, HGP.out.tape, HGP.out.output, HGP.out.size, fun g hg hn => HGP.out.block g hg (fun e => hn (.inl (by injection e)))⟩
                  have k2 : KeepBut (noOf g7 v10) wp w8 := keep_below HB78.out
                  have k3 : KeepBut (noOf g7 v10) w8 w9 := (keep_below ((Below.refl _ _).alloc (Nat.le_refl _) _)).trans ⟨HGR9.out.os, HGR9.out.tape, HGR9.out.output, HGR9.out.size, fun g hg hn => HGR9.out.block g hg (fun e => hn (.inr e.symm))⟩
                  have k13 := (k1.trans k2).trans k3
                  have hat : v11.ownBlock = v10.ownBlock ∨ v11.ownBlock = some (w8.heap.size + 1) := by simpa using HAT9.out
                  have hno : ∀ g, g < w8.heap.size + 1 → noOf g7 v11 g → noOf g7 v10 g := fun g hg h => by
                    rcases h with h | h
                    · exact .inl h
                    · rcases hat with h1 | h1
                      · exact .inr (h1 ▸ h)
                      · rw [h1] at h; injection h with h; omega
                  have hown9 := HOW9.out
                  refine ⟨k + 1, _, v11, rows ++ [.slice (some ⟨rn, 0, none⟩) b.secs.length capn], by omega, by go_num, rfl, rfl, ?_, ?_, hown9, fun d hd => ?_, ?_⟩
                  · have : Ch.before0 b (k + 1) = Ch.turned b k := by simp [Ch.before0]
                    rw [this]
                    exact HAW9.out.step (by rw [Ch.lies_len]; exact hpos) k13.size (fun g hg hn => k13.keep g hg hn) (fun g hg h => hno g (by omega) h)
                  · have h := HARRp.out
                    rw [Ch.mid_all hn.2] at h
                    refine h.kept ?_
                    have e1 := HGR9.out.block g7 (by simp; omega) (fun e => hvne e.symm)
                    have e2 := ((Below.refl w8.heap.size w8).alloc (Nat.le_refl _) (.cells #[.slice (some ⟨rn, 0, none⟩) b.secs.length capn] 23)).block g7 (by omega)
                    exact e1.trans (e2.trans (HB78.out.block g7 hl7p))
                  · have hrl : rows.length = k + 1 := by have := HOWNb.out.1; omega
                    by_cases hd2 : d < rows.length
                    · rw [List.getElem_append_left hd2]
                      exact (HROWSb.out d hd2).step (by rw [Ch.true_len]; exact hpos) k13.size (fun g hg hn => k13.keep g hg hn) (fun g hg h => hno g (by omega) h)
                    · have hd3 : d = k + 1 := by simp at hd; omega
                      subst hd3
                      have er : (rows ++ [Value.slice (some ⟨rn, 0, none⟩) b.secs.length capn])[k + 1] = .slice (some ⟨rn, 0, none⟩) b.secs.length capn := by
                        rw [List.getElem_append_right (by omega)]
                        simp [hrl]
                      rw [er]
                      have awn : AwaySl w8 (.slice (some ⟨rn, 0, none⟩) b.secs.length capn) (Ch.trueRow b th ws (k + 1)) (noOf g7 v10) := by
                        refine ⟨arr_sl HARRn.out htl hcapn hcapnm hlrn, fun g o m c e hn => ?_⟩
                        injection e with e
                        injection e with e
                        injection e with e
                        rcases hn with h | h
                        · omega
                        · have := (HOWNp.out.lt g h).2
                          omega
                      exact awn.step (by rw [htl]; exact hpos) k3.size (fun g hg hn => k3.keep g hg hn) (fun g hg h => hno g (by omega) h)
                  · have hk0 := HKPb.out
                    refine ⟨k13.os.trans hk0.os, k13.tape.trans hk0.tape, k13.output.trans hk0.output, Nat.le_trans hk0.size k13.size, fun g hg hn => (k13.keep g (Nat.lt_of_lt_of_le hg hk0.size) (fun h => ?_)).trans (hk0.keep g hg hn)⟩
                    rcases h with h | h
                    · exact hn (.inl h)
                    · have := (HOWNb.out.lt g h).1
                      exact hn (.inr (by omega))
                case measure => simp [intOf]; omega
          · have hq0 : q < 0 := by
              by_cases hc : 0 ≤ q
              · exact absurd (hmem.1 hc) hin
              · omega
            have hqd : decide (0 ≤ q) = false := decide_eq_false (by omega)
            rw [if_neg hin] at hts
            have hts2 : Ch.before0 b k = Ch.turned b k := hts.symm
            rw [hts2] at hawa
            obtain ⟨wb, rfl⟩ : ∃ wo : World, wo = wa := ⟨_, rfl⟩
            obtain ⟨v9, rfl⟩ : ∃ vo : Value, vo = v8 := ⟨_, rfl⟩
            have HAW9 := Lib.hid hawa
            have HARRb := HARRa
            have HOWNb := HOWNa
            have HROWSb := HROWSa
            have HKPb := HKPa
            have HBb := HBa
            clear hmem hin hts hts2 hawa
            obtain ⟨bl, ol, cl, e9, hbl, hcl⟩ := HAW9.out.1.addr (by rw [Ch.lies_len]; exact hpos)
            rw [Ch.lies_len] at e9
            subst e9
            have hnl : ¬ noOf g7 v10 bl := HAW9.out.2 bl ol _ cl rfl
            have hbg : bl ≠ g7 := fun h => hnl (.inl h)
            have HCL := Lib.hid hcl
            have HNL := Lib.hid hnl
            have hb2g : b2 ≠ g7 := by omega
            clear hcl hnl
            go_wp2_with fail
            go_loopw [12] (fun i wr => ∃ p : Nat, p ≤ b.secs.length ∧ i = I p ∧ ArrAt wr g7 (Ch.midRow b th ws k p) ∧ wb.grownBy wr (some g7)) (fun i _ => b.secs.length - (intOf i).toNat)
            case atStart => exact ⟨0, Nat.zero_le _, rfl, by rw [Ch.mid_zero]; exact HARRb.out, ⟨rfl, rfl, rfl, Nat.le_refl _, fun _ _ _ => rfl⟩⟩
            case round =>
              obtain ⟨wp, rfl⟩ : ∃ wo : World, wo = wr := ⟨_, rfl⟩
              obtain ⟨p, hp, rfl, harrp, hgp⟩ := hrel
              have HARRp := Lib.hid harrp
              have HGP := Lib.hid hgp
              clear harrp hgp
              by_cases hpl : p < b.secs.length
              · have hpi : (p : Int) < b.secs.length := by omega
                have hpb := Ch.place_bd b p k (Int.natCast_nonneg _) (by omega)
                obtain ⟨q7, hq7⟩ : ∃ q7 : Nat, Ch.place b p k = q7 := ⟨(Ch.place b p k).toNat, by omega⟩
                have hql : q7 < b.secs.length := by omega
                have cl0 := HCL.out p (I q7) (by rw [List.getElem?_map, List.getElem?_eq_getElem (by rw [Ch.lies_len]; exact hpl), Ch.lies_at hpl, hq7]; rfl)
                rw [Addr.add_lit] at cl0
                have cl1 : wp.cell? ⟨bl, ol + p, none⟩ = some (I q7) := HGP.out.cell cl0 (fun e => hbg (by injection e))
                obtain ⟨mv, hmv⟩ : ∃ mv, Ch.midOn b th ws k p q7 = mv := ⟨_, rfl⟩
                have c7 : wp.cell? ⟨g7, q7, none⟩ = some (I mv) := by rw [HARRp.out.cell (by rw [Ch.mid_len]; exact hql), Ch.mid_at th ws k p hql, hmv]
                have c7d : wp.drew.cell? ⟨g7, q7, none⟩ = some (I mv) := c7
                have f7 := HARRp.out.free q7
                have f7d : wp.drew.frozen? ⟨g7, q7, none⟩ = false := f7
                obtain ⟨xv, hxv⟩ : ∃ xv, ws.getD p 0 = xv := ⟨_, rfl⟩
                have hpw : p < ws.length := by rw [HWN.out]; exact hpl
                have hxv' : ws[p] = xv := by rw [← hxv]; simp [List.getD_eq_getElem?_getD, hpw]
                have h2b := H2.out.below HBb.out (Nat.le_refl _)
                rw [← HWN.out] at h2b
                obtain ⟨b2', o2', c2', e2, hb2', cw⟩ := h2b.int hpw
                rw [HWN.out] at e2
                injection e2 with e2 _ e3
                injection e2 with e2
                injection e2 with e2 e4
                subst e2 e4 e3
                rw [hxv'] at cw
                have cw1 : wp.cell? ⟨b2, o2 + p, none⟩ = some (I xv) := HGP.out.cell cw (fun e => hb2g (by injection e))
                have hx3 := HTO.out.wear p hpl
                rw [hxv] at hx3
                have hsf := Ch.sec_facts HVAL.out hpl
                have htb := Ch.true_bd HVAL.out HTO.out hql (d := k) (by omega)
                have hm3 : -3 ≤ mv ∧ mv ≤ 200 := by
                  rw [← hmv]
                  simp only [Ch.midOn]
                  split
                  · rename_i hlt3
                    have hl3 : (Ch.place b q7 k).toNat < b.secs.length := by have := Ch.place_bd b q7 k (Int.natCast_nonneg _) (by omega); omega
                    have h5 := HTO.out.wear _ hl3
                    have h6 := Ch.sec_facts HVAL.out hl3
                    omega
                  · omega
                have ew : IntKind.i64.wrap (mv - xv) = mv - xv := IntWalk.i64_in _ (by omega)
                have HMS := Lib.hid (Ch.mid_step (b := b) th ws k hpl)
                have hq7n : (Ch.place b p k).toNat = q7 := by omega
                have HQ := Lib.hid hq7n
                have HMV := Lib.hid hmv
                have HXV := Lib.hid hxv
                clear cl0 hmv hxv hxv' hpw h2b hb2' cw hx3 hsf htb hm3 hpb hq7 hq7n
                go_wp2_with fail
                refine name_act ?_
                intro A hA
                obtain ⟨R, hR⟩ : ∃ R : Act → World → Prop, R = fun a' w' => (∃ u50 u51 u52 u53 u54 u55 u56 u57 u58 u59 u60 u61 u62, a' = (((((((((((((A.put (some 50) u50).put (some 51) u51).put (some 52) u52).put (some 53) u53).put (some 54) u54).put (some 55) u55).put (some 56) u56).put (some 57) u57).put (some 58) u58).put (some 59) u59).put (some 60) u60).put (some 61) u61).put (some 62) u62)) ∧ w' = wp.drew.setCell ⟨g7, q7, none⟩ (I (mv - xv)) := ⟨_, rfl⟩
                have HR := Lib.hid hR
                clear hR
                refine wp_between R ?first ?rest
                case first =>
                  subst hA
                  have hS0 : ∀ b o, b ≠ g7 → wp.drew.cell? ⟨b, o, none⟩ = wp.cell? ⟨b, o, none⟩ := fun _ _ _ => rfl
                  refine wp_region_held_drew (S := fun w' => ∀ b o, b ≠ g7 → w'.cell? ⟨b, o, none⟩ = wp.cell? ⟨b, o, none⟩) (by kernel_rfl) hS0 (fun _ => ?_)
                  refine wpAnyH_take (i := 0) (oi := { dst := some 50, op := Go.Op.move (Go.Operand.tmp 7), type := 23, pos := "outright.go:83", after := #[], guard := none }) (v := ?v15) rfl (by kernel_rfl) (by kernel_rfl) (by kernel_rfl) (fun _ _ _ h => h) (Or.inl ⟨by rfl, ?hy15⟩) hS0 ?r15
                  case hy15 =>
                    intro w' hSw
                    have hq := hSw
                    clear hSw
                    go_simp
                    with_reducible rfl
                  try simp only [Act.put, List.setIfInBounds_toArray, List.set_cons_zero, List.set_cons_succ]
                  refine wpAnyH_take (i := 1) (oi := { dst := some 51, op := Go.Op.move (Go.Operand.tmp 8), type := 23, pos := "outright.go:83", after := #[], guard := none }) (v := ?v16) rfl (by kernel_rfl) (by kernel_rfl) (by kernel_rfl) (fun _ _ _ h => h) (Or.inl ⟨by rfl, ?hy16⟩) hS0 ?r16
                  case hy16 =>
                    intro w' hSw
                    have hq := hSw
                    clear hSw
                    go_simp
                    with_reducible rfl
                  try simp only [Act.put, List.setIfInBounds_toArray, List.set_cons_zero, List.set_cons_succ]
                  refine wpAnyH_take (i := 2) (oi := { dst := some 52, op := Go.Op.move (Go.Operand.tmp 12), type := 3, pos := "outright.go:83", after := #[], guard := none }) (v := ?v17) rfl (by kernel_rfl) (by kernel_rfl) (by kernel_rfl) (fun _ _ _ h => h) (Or.inl ⟨by rfl, ?hy17⟩) hS0 ?r17
                  case hy17 =>
                    intro w' hSw
                    have hq := hSw
                    clear hSw
                    go_simp
                    with_reducible rfl
                  try simp only [Act.put, List.setIfInBounds_toArray, List.set_cons_zero, List.set_cons_succ]
                  refine wpAnyH_take (i := 3) (oi := { dst := some 53, op := Go.Op.indexAddr 23 (Go.Operand.tmp 51) (Go.Operand.tmp 52), type := 0, pos := "outright.go:83", after := #[{ on := 1, ground := Go.Ground.data }, { on := 2, ground := Go.Ground.data }], guard := none }) (v := ?v18) rfl (by kernel_rfl) (by kernel_rfl) (by kernel_rfl) (fun _ _ _ h => h) (Or.inl ⟨by rfl, ?hy18⟩) hS0 ?r18
                  case hy18 =>
                    intro w' hSw
                    have hq := hSw
                    clear hSw
                    go_simp
                    with_reducible rfl
                  try simp only [Act.put, List.setIfInBounds_toArray, List.set_cons_zero, List.set_cons_succ]
                  refine wpAnyH_take (i := 4) (oi := { dst := some 54, op := Go.Op.load 3 (Go.Operand.tmp 53), type := 3, pos := "outright.go:83", after := #[{ on := 3, ground := Go.Ground.data }], guard := none }) (v := ?v19) rfl (by kernel_rfl) (by kernel_rfl) (by kernel_rfl) (fun _ _ _ h => h) (Or.inl ⟨by rfl, ?hy19⟩) hS0 ?r19
                  case hy19 =>
                    intro w' hSw
                    have hq := hSw
                    clear hSw
                    go_simp
                    with_reducible rfl
                  try simp only [Act.put, List.setIfInBounds_toArray, List.set_cons_zero, List.set_cons_succ]
                  refine wpAnyH_take (i := 5) (oi := { dst := some 55, op := Go.Op.indexAddr 23 (Go.Operand.tmp 50) (Go.Operand.tmp 54), type := 0, pos := "outright.go:83", after := #[{ on := 0, ground := Go.Ground.data }, { on := 4, ground := Go.Ground.data }], guard := none }) (v := ?v20) rfl (by kernel_rfl) (by kernel_rfl) (by kernel_rfl) (fun _ _ _ h => h) (Or.inl ⟨by rfl, ?hy20⟩) hS0 ?r20
                  case hy20 =>
                    intro w' hSw
                    have hq := hSw
                    clear hSw
                    go_simp
                    with_reducible rfl
                  try simp only [Act.put, List.setIfInBounds_toArray, List.set_cons_zero, List.set_cons_succ]
                  refine wpAnyH_take (i := 7) (oi := { dst := some 57, op := Go.Op.move (Go.Operand.tmp 2), type := 23, pos := "outright.go:83", after := #[], guard := none }) (v := ?v21) rfl (by kernel_rfl) (by kernel_rfl) (by kernel_rfl) (fun _ _ _ h => h) (Or.inl ⟨by rfl, ?hy21⟩) hS0 ?r21
                  case hy21 =>
                    intro w' hSw
                    have hq := hSw
                    clear hSw
                    go_simp
                    with_reducible rfl
                  try simp only [Act.put, List.setIfInBounds_toArray, List.set_cons_zero, List.set_cons_succ]
                  refine wpAnyH_take (i := 8) (oi := { dst := some 58, op := Go.Op.move (Go.Operand.tmp 12), type := 3, pos := "outright.go:83", after := #[], guard := none }) (v := ?v22) rfl (by kernel_rfl) (by kernel_rfl) (by kernel_rfl) (fun _ _ _ h => h) (Or.inl ⟨by rfl, ?hy22⟩) hS0 ?r22
                  case hy22 =>
                    intro w' hSw
                    have hq := hSw
                    clear hSw
                    go_simp
                    with_reducible rfl
                  try simp only [Act.put, List.setIfInBounds_toArray, List.set_cons_zero, List.set_cons_succ]
                  refine wpAnyH_take (i := 9) (oi := { dst := some 59, op := Go.Op.indexAddr 23 (Go.Operand.tmp 57) (Go.Operand.tmp 58), type := 0, pos := "outright.go:83", after := #[{ on := 7, ground := Go.Ground.data }, { on := 8, ground := Go.Ground.data }], guard := none }) (v := ?v23) rfl (by kernel_rfl) (by kernel_rfl) (by kernel_rfl) (fun _ _ _ h => h) (Or.inl ⟨by rfl, ?hy23⟩) hS0 ?r23
                  case hy23 =>
                    intro w' hSw
                    have hq := hSw
                    clear hSw
                    go_simp
                    with_reducible rfl
                  try simp only [Act.put, List.setIfInBounds_toArray, List.set_cons_zero, List.set_cons_succ]
                  refine wpAnyH_take (i := 10) (oi := { dst := some 60, op := Go.Op.load 3 (Go.Operand.tmp 59), type := 3, pos := "outright.go:83", after := #[{ on := 9, ground := Go.Ground.data }], guard := none }) (v := ?v24) rfl (by kernel_rfl) (by kernel_rfl) (by kernel_rfl) (fun _ _ _ h => h) (Or.inl ⟨by rfl, ?hy24⟩) hS0 ?r24
                  case hy24 =>
                    intro w' hSw
                    have hq := hSw
                    clear hSw
                    go_simp
                    with_reducible rfl
                  try simp only [Act.put, List.setIfInBounds_toArray, List.set_cons_zero, List.set_cons_succ]
                  refine wpAnyH_ready (rs := [6]) (by kernel_rfl) (by simp) ?_
                  refine AllReadyH.cons rfl (fun K hK => ?_) AllReadyH.nil
                  go_simp
                  refine hK.out _ _ hS0 (fun _ => ?_)
                  clear hK K
                  try simp only [Act.put, List.setIfInBounds_toArray, List.set_cons_zero, List.set_cons_succ]
                  refine wpAnyH_take (i := 11) (oi := { dst := some 61, op := Go.Op.binOp Go.BinOp.sub 3 (Go.Operand.tmp 56) (Go.Operand.tmp 60) 3, type := 3, pos := "outright.go:83", after := #[{ on := 6, ground := Go.Ground.data }, { on := 10, ground := Go.Ground.data }], guard := none }) (v := ?v26) rfl (by kernel_rfl) (by kernel_rfl) (by kernel_rfl) (fun _ _ _ h => h) (Or.inl ⟨by rfl, ?hy26⟩) hS0 ?r26
                  case hy26 =>
                    intro w' hSw
                    have hq := hSw
                    clear hSw
                    go_simp
                    with_reducible rfl
                  try simp only [Act.put, List.setIfInBounds_toArray, List.set_cons_zero, List.set_cons_succ]
                  refine wpAnyH_take (i := 12) (oi := { dst := some 62, op := Go.Op.indexAddr 23 (Go.Operand.tmp 50) (Go.Operand.tmp 54), type := 0, pos := "outright.go:83", after := #[{ on := 0, ground := Go.Ground.data }, { on := 4, ground := Go.Ground.data }, { on := 0, ground := Go.Ground.phase }, { on := 1, ground := Go.Ground.phase }, { on := 2, ground := Go.Ground.phase }, { on := 3, ground := Go.Ground.phase }, { on := 4, ground := Go.Ground.phase }, { on := 5, ground := Go.Ground.phase }, { on := 6, ground := Go.Ground.phase }, { on := 7, ground := Go.Ground.phase }, { on := 8, ground := Go.Ground.phase }, { on := 9, ground := Go.Ground.phase }, { on := 10, ground := Go.Ground.phase }, { on := 11, ground := Go.Ground.phase }], guard := none }) (v := ?v27) rfl (by kernel_rfl) (by kernel_rfl) (by kernel_rfl) (fun _ _ _ h => h) (Or.inl ⟨by rfl, ?hy27⟩) hS0 ?r27
                  case hy27 =>
                    intro w' hSw
                    have hq := hSw
                    clear hSw
                    go_simp
                    with_reducible rfl
                  try simp only [Act.put, List.setIfInBounds_toArray, List.set_cons_zero, List.set_cons_succ]
                  refine wpAnyH_ready (rs := [13]) (by kernel_rfl) (by simp) ?_
                  refine AllReadyH.cons rfl (fun K hK => ?_) AllReadyH.nil
                  go_simp
                  have hSw28 : ∀ b o, b ≠ g7 → (wp.drew.setCell ⟨g7, q7, none⟩ (I (mv - xv))).cell? ⟨b, o, none⟩ = wp.cell? ⟨b, o, none⟩ := fun b o hb => (World.cell?_setCell_far wp.drew ⟨g7, q7, none⟩ ⟨b, o, none⟩ _ (fun h => hb h.symm)).trans rfl
                  refine hK.out _ _ hSw28 (fun _ => ?_)
                  clear hK K
                  try simp only [Act.put, List.setIfInBounds_toArray, List.set_cons_zero, List.set_cons_succ]
                  refine wpAnyH_done (by kernel_rfl) ?_ _
                  show R _ _
                  rw [HR.out]
                  simp only [Act.put, List.setIfInBounds_toArray, List.set_cons_zero, List.set_cons_succ]
                  exact ⟨⟨_, _, _, _, _, _, _, _, _, _, _, _, _, rfl⟩, rfl⟩
                case rest =>
                  intro a' w' hra
                  rw [HR.out] at hra
                  clear HR
                  obtain ⟨⟨u50, u51, u52, u53, u54, u55, u56, u57, u58, u59, u60, u61, u62, rfl⟩, rfl⟩ := hra
                  subst hA
                  try simp only [Act.put, List.setIfInBounds_toArray, List.set_cons_zero, List.set_cons_succ]
                  go_wp2_with fail
                  go_roundw
                  case rel =>
                    refine ⟨p + 1, by omega, by go_num, ?_, grown_trans HGP.out (grown_trans (grown_drew wp _) (grown_set _ _ _ _))⟩
                    rw [HMS.out, HQ.out, HMV.out, HXV.out]
                    exact HARRp.out.drew.set q7 (by rw [Ch.mid_len]; exact hql) _
                  case measure => simp [intOf]; omega
              · obtain rfl : p = b.secs.length := by omega
                have harrn := HARRp.out
                rw [Ch.mid_all hn.2] at harrn
                have hl7p : g7 < wp.heap.size := by obtain ⟨cur, h1, -⟩ := harrn; exact heap_lt h1
                have hwbp := HGP.out.size
                have hvne : v10.ownBlock ≠ some g7 := fun e => by have := (HOWNb.out.lt g7 e).1; omega
                have hownp := HOWNb.out.kept HGP.out (.inr hvne)
                have hA7 : Below wp.heap.size wp (wp.alloc (.cells #[] 3)) := (Below.refl _ _).alloc (Nat.le_refl _) _
                have HNWp := Lib.hid (harrn.kept (hA7.block g7 hl7p)).news
                have HOWNp := Lib.hid hownp
                have HA7 := Lib.hid hA7
                have hbase : w5.heap.size ≤ wp.heap.size := by have := HKPb.out.size; omega
                obtain ⟨j0, hj, hy0, hy1, hy2⟩ := info_parts infoInts
                have htl : (Ch.trueRow b th ws (k + 1)).length = b.secs.length := Ch.true_len _ _ _ _
                have hkb : k + 1 + 1 ≤ 100 := by omega
                clear hownp hA7 harrn
                go_wp2_with (at_builtin; first
                  | (refine wpList_append_own_at _ rfl _ _ 23 rfl wp.heap.size 3 i0 (I 0) 1 8 under23 hi hz0' hz1' hz2' rfl (by decide) (.slice (some ⟨wp.heap.size, 0, none⟩) 0 0) 0 [] rfl (own_new wp (Nat.le_refl _)) ⟨g7, 0, none⟩ b.secs.length cap7 ((Ch.trueRow b th ws (k + 1)).map I) rfl (by simp [htl]) HNWp.out (one_ints _) (by unfold maxLen; omega) (by omega) (by simp) ?_; intro v' w8 hown' hgrow hnil hat; have hown2 : w8.ownsRow wp.heap.size 3 1 v' b.secs.length ((Ch.trueRow b th ws (k + 1)).map I) := (by simpa using hown'); obtain ⟨rn, capn, rfl, hrn, hlrn, harrn, hcapn, hcapnm⟩ := own_arr hown2 hpos; have HARRn := Lib.hid harrn; have hB78 : Below wp.heap.size wp w8 := HA7.out.trans ⟨hgrow.os, hgrow.tape, hgrow.output, hgrow.size, fun i hi => hgrow.block i (by simp; omega) (fun e => by simp [Value.ownBlock] at e; omega)⟩; have HB78 := Lib.hid hB78; have HOWN8 := Lib.hid (HOWNp.out.kept (grown_of_below hB78 none) (by cases v10.ownBlock <;> simp)); have hsz8 := hB78.size; clear hown' hown2 hgrow hnil hat harrn hB78)
                  | (refine wpList_append_own_at _ rfl _ _ 40 rfl w5.heap.size 23 j0 (.slice none 0 0) 1 24 under40 hj hy0 hy1 hy2 rfl (by decide) v10 (k + 1) rows rfl (HOWN8.out.alloc _) ⟨w8.heap.size, 0, none⟩ 1 1 [.slice (some ⟨rn, 0, none⟩) b.secs.length capn] rfl rfl (cell_one_new _ _ _) (by simp [Value.oneCell']) (by unfold maxLen; omega) (by omega) (by simp; omega) ?_; intro v11 w9 hown' hgrow hnil hat; have HOW9 := Lib.hid hown'; have HGR9 := Lib.hid hgrow; have HAT9 := Lib.hid hat; clear hown' hgrow hnil hat))
                go_roundw
                case rel =>
                  have k1 : KeepBut (noOf g7 v10) wb wp := ⟨HGP.out.os, HGP.out.tape, HGP.out.output, HGP.out.size, fun g hg hn => HGP.out.block g hg (fun e => hn (.inl (by injection e)))⟩
                  have k2 : KeepBut (noOf g7 v10) wp w8 := keep_below HB78.out
                  have k3 : KeepBut (noOf g7 v10) w8 w9 := (keep_below ((Below.refl _ _).alloc (Nat.le_refl _) _)).trans ⟨HGR9.out.os, HGR9.out.tape, HGR9.out.output, HGR9.out.size, fun g hg hn => HGR9.out.block g hg (fun e => hn (.inr e.symm))⟩
                  have k13 := (k1.trans k2).trans k3
                  have hat : v11.ownBlock = v10.ownBlock ∨ v11.ownBlock = some (w8.heap.size + 1) := by simpa using HAT9.out
                  have hno : ∀ g, g < w8.heap.size + 1 → noOf g7 v11 g → noOf g7 v10 g := fun g hg h => by
                    rcases h with h | h
                    · exact .inl h
                    · rcases hat with h1 | h1
                      · exact .inr (h1 ▸ h)
                      · rw [h1] at h; injection h with h; omega
                  have hown9 := HOW9.out
                  refine ⟨k + 1, _, v11, rows ++ [.slice (some ⟨rn, 0, none⟩) b.secs.length capn], by omega, by go_num, rfl, rfl, ?_, ?_, hown9, fun d hd => ?_, ?_⟩
                  · have : Ch.before0 b (k + 1) = Ch.turned b k := by simp [Ch.before0]
                    rw [this]
                    exact HAW9.out.step (by rw [Ch.lies_len]; exact hpos) k13.size (fun g hg hn => k13.keep g hg hn) (fun g hg h => hno g (by omega) h)
                  · have h := HARRp.out
                    rw [Ch.mid_all hn.2] at h
                    refine h.kept ?_
                    have e1 := HGR9.out.block g7 (by simp; omega) (fun e => hvne e.symm)
                    have e2 := ((Below.refl w8.heap.size w8).alloc (Nat.le_refl _) (.cells #[.slice (some ⟨rn, 0, none⟩) b.secs.length capn] 23)).block g7 (by omega)
                    exact e1.trans (e2.trans (HB78.out.block g7 hl7p))
                  · have hrl : rows.length = k + 1 := by have := HOWNb.out.1; omega
                    by_cases hd2 : d < rows.length
                    · rw [List.getElem_append_left hd2]
                      exact (HROWSb.out d hd2).step (by rw [Ch.true_len]; exact hpos) k13.size (fun g hg hn => k13.keep g hg hn) (fun g hg h => hno g (by omega) h)
                    · have hd3 : d = k + 1 := by simp at hd; omega
                      subst hd3
                      have er : (rows ++ [Value.slice (some ⟨rn, 0, none⟩) b.secs.length capn])[k + 1] = .slice (some ⟨rn, 0, none⟩) b.secs.length capn := by
                        rw [List.getElem_append_right (by omega)]
                        simp [hrl]
                      rw [er]
                      have awn : AwaySl w8 (.slice (some ⟨rn, 0, none⟩) b.secs.length capn) (Ch.trueRow b th ws (k + 1)) (noOf g7 v10) := by
                        refine ⟨arr_sl HARRn.out htl hcapn hcapnm hlrn, fun g o m c e hn => ?_⟩
                        injection e with e
                        injection e with e
                        injection e with e
                        rcases hn with h | h
                        · omega
                        · have := (HOWNp.out.lt g h).2
                          omega
                      exact awn.step (by rw [htl]; exact hpos) k3.size (fun g hg hn => k3.keep g hg hn) (fun g hg h => hno g (by omega) h)
                  · have hk0 := HKPb.out
                    refine ⟨k13.os.trans hk0.os, k13.tape.trans hk0.tape, k13.output.trans hk0.output, Nat.le_trans hk0.size k13.size, fun g hg hn => (k13.keep g (Nat.lt_of_lt_of_le hg hk0.size) (fun h => ?_)).trans (hk0.keep g hg hn)⟩
                    rcases h with h | h
                    · exact hn (.inl h)
                    · have := (HOWNb.out.lt g h).1
                      exact hn (.inr (by omega))
                case measure => simp [intOf]; omega
        · have hkd : (k : Int) = b.days := by omega
          go_wp2_with fail
          have hsl := sl_own HOWNq.out (Nat.le_refl _)
          have HSL := Lib.hid hsl
          obtain ⟨Av, cv, rfl⟩ := hsl.form
          clear hsl
          go_ret
          have hrl : rows.length = k + 1 := by have := HSL.out.1; omega
          have hkt : b.days.toNat = k := by omega
          have hlen : (Ch.trueRows b th ws (k + 1)).length = k + 1 := by simp [Ch.trueRows]
          refine ⟨⟨_, rfl, rows, ?_, ?_, fun d h1 h2 => ?_⟩, HBQ.out⟩
          · rw [hkt, hlen]; exact HSL.out
          · rw [hkt, hlen]; exact hrl
          · have e : (Ch.trueRows b th ws (b.days.toNat + 1))[d] = Ch.trueRow b th ws d := by simp [Ch.trueRows]
            rw [e]
            exact (HROWS.out d h2).1

end Go.Proofs.YtkfahochpnggbaaGreat
