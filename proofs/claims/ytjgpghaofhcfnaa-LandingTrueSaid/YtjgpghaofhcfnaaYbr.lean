/- Texts on the program that the proof leans on, part 44. -/
import Derived.Test.YtjgpghaofhcfnaaYbp
import Derived.Test.YtjgpghaofhcfnaaYbk
set_option linter.unusedVariables false
set_option linter.unusedSimpArgs false

namespace Go.Proofs.Ytjgpghaofhcfnaa
open Go.RowKit
def Ld.heightsTo (b : Ld.Bk) (bits : List Int) (n : Nat) : List Int := (List.range n).map fun h => Ld.within (Ld.tide b h) (IntKind.i64.wrap (Ld.choose bits h + IntKind.i64.wrap ((h : Int) * Ld.choose bits 1)))
def Ld.trulyK (b : Ld.Bk) (bits : List Int) : Ld.Kn := ⟨Ld.heightsTo b bits b.tides.length, Ld.within b.s0.floor (Ld.choose bits 0), Ld.within b.s1.floor (Ld.choose bits 1), Ld.within b.empty (Ld.choose bits 2)⟩
theorem Ld.trulyK_ok {b : Ld.Bk} (hv : Ld.valid b = true) (bits : List Int) : Ld.Truly b (Ld.trulyK b bits) := by
 have hvp := Ld.valid_parts hv
 have f0 := Ld.floor_bd hvp.2.2.1 0
 have f1 := Ld.floor_bd hvp.2.2.1 1
 have d4 := Ld.draught_bd hvp.2.2.2.1
 refine ⟨by simp [Ld.trulyK, Ld.heightsTo], Ld.within_in f0.2.1 _, Ld.within_in f1.2.1 _, Ld.within_in d4.2.1 _, fun h hh => ?_⟩
 have ht := Ld.tide_bd hvp.2.1 hh
 have e : (Ld.trulyK b bits).high h = Ld.within (Ld.tide b h) (IntKind.i64.wrap (Ld.choose bits h + IntKind.i64.wrap ((h : Int) * Ld.choose bits 1))) := by
  simp [Ld.Kn.high, Ld.trulyK, Ld.heightsTo, List.getD_eq_getElem?_getD, hh]
 rw [e]
 exact Ld.within_in ht.2.1 _
def waitsAll (md : Region.Mode) (ops : Array Oper) (z : Nat) : Bool :=
 match ops[z]? with
 | some oz => (List.range ops.size).all fun k => k == z || oz.after.any fun e => Region.binds md e && e.on == k
 | none => false
theorem waitsAll_spec {md : Region.Mode} {ops : Array Oper} {z : Nat} {oz : Oper} (h : waitsAll md ops z = true) (hoz : ops[z]? = some oz) : ∀ k, k < ops.size → k ≠ z → ∃ e ∈ oz.after, Region.binds md e = true ∧ e.on = k := by
 intro k hk hkz
 unfold waitsAll at h
 simp only [hoz] at h
 have h1 := List.all_eq_true.1 h k (List.mem_range.2 hk)
 rw [Bool.or_eq_true] at h1
 rcases h1 with h1 | h1
 · exact absurd (by simpa using h1) hkz
 · rw [Array.any_eq_true] at h1
   obtain ⟨x, hx, hb⟩ := h1
   rw [Bool.and_eq_true] at hb
   exact ⟨oz.after[x], Array.getElem_mem hx, hb.1, by simpa using hb.2⟩
set_option maxRecDepth 100000 in
set_option maxHeartbeats 8000000 in
theorem truly_any (b : Ld.Bk) (T D V0 : Value) (bits : List Int) (hv : Ld.valid b = true) (w : World) (hB : RB w w.heap.size b T D) (hb : Sl w w.heap.size 1 V0 bits.length (bits.map I)) :
 Calls Try.prog 14 #[vBk T D b, V0] w fun e w' => (∃ H, e = .returned (vKn H (Ld.trulyK b bits)) ∧ Sl w' w'.heap.size 1 H (Ld.trulyK b bits).heights.length ((Ld.trulyK b bits).heights.map I)) ∧ Below w.heap.size w w' := by
 obtain ⟨A0, k0, rfl⟩ := hB.tides.form
 obtain ⟨A2, k2, rfl⟩ := hB.sounds.form
 obtain ⟨AV, kV, rfl⟩ := hb.form
 have hvp := Ld.valid_parts hv
 have g0 := Ld.floor_bd hvp.2.2.1 0
 have g1 := Ld.floor_bd hvp.2.2.1 1
 have g2 := Ld.draught_bd hvp.2.2.2.1
 rw [show Ld.shore b 0 = b.s0 from rfl] at g0
 rw [show Ld.shore b 1 = b.s1 from rfl] at g1
 obtain ⟨V0, hV0⟩ : ∃ V : Value, V = .slice AV bits.length kV := ⟨_, rfl⟩
 go_enter Try.func14, Try.ntmps14
 go_upto_region 1 with fail
 refine name_world ?_
 intro W hW
 have hbW : Below w.heap.size w W := by rw [hW]; exact ((Below.refl _ _).alloc (Nat.le_refl _) _).alloc (by simp) _
 have rB : W.heap[w.heap.size]? = some (.cells (rBk (.slice A0 b.tides.length k0) (.slice A2 b.sounds.length k2) b) 30 (0, 0)) := by rw [hW]; exact (Below.heap_alloc _ _ _ (by simp)).trans (heap_at _ _ rfl)
 have rO : W.heap[w.heap.size + 1]? = some (.cells #[.slice none 0 0, I 0, I 0, I 0] 37 (0, 0)) := by rw [hW]; exact heap_at _ _ (by simp)
 have lB := heap_lt rB
 have qB1 := cell_of_row W _ 1 _ _ _ rB
 have qB2 := cell_of_row W _ 2 _ _ _ rB
 have qB5 := cell_of_row W _ 5 _ _ _ rB
 have qB6 := cell_of_row W _ 6 _ _ _ rB
 have qB9 := cell_of_row W _ 9 _ _ _ rB
 have qB10 := cell_of_row W _ 10 _ _ _ rB
 simp only [List.getElem?_toArray, List.getElem?_cons_zero, List.getElem?_cons_succ] at qB1 qB2 qB5 qB6 qB9 qB10
 rw [← hV0]
 have HBI := Lib.hid (show ∀ w', Below w.heap.size w w' → Sl w' w'.heap.size 1 V0 bits.length (bits.map I) from fun w' h => by rw [hV0]; exact (hb.below h (Nat.le_refl _)).more h.size)
 have HBITS := Lib.hid (show ∀ w', Held W w' → Sl w' w'.heap.size 1 V0 bits.length (bits.map I) from fun w' h => HBI.out w' (hbW.trans (h.2.2.mono hbW.size)))
 clear hW hV0
 obtain ⟨c0, hc0⟩ : ∃ x, Ld.choose bits 0 = x := ⟨_, rfl⟩
 obtain ⟨c1, hc1⟩ : ∃ x, Ld.choose bits 1 = x := ⟨_, rfl⟩
 obtain ⟨c2, hc2⟩ : ∃ x, Ld.choose bits 2 = x := ⟨_, rfl⟩
 obtain ⟨f0, hf0⟩ : ∃ x, Ld.within b.s0.floor c0 = x := ⟨_, rfl⟩
 obtain ⟨f1, hf1⟩ : ∃ x, Ld.within b.s1.floor c1 = x := ⟨_, rfl⟩
 obtain ⟨f2, hf2⟩ : ∃ x, Ld.within b.empty c2 = x := ⟨_, rfl⟩
 have HC0 := Lib.hid (show ∀ w', Held W w' → Calls Try.prog 48 #[V0, I 0] w' fun e w'' => e = .returned (I c0) ∧ Below w'.heap.size w' w'' from fun w' h => by have := chooseE_any bits V0 0 w' (HBITS.out w' h); rw [hc0] at this; exact this)
 have HC1 := Lib.hid (show ∀ w', Held W w' → Calls Try.prog 48 #[V0, I 1] w' fun e w'' => e = .returned (I c1) ∧ Below w'.heap.size w' w'' from fun w' h => by have := chooseE_any bits V0 1 w' (HBITS.out w' h); rw [hc1] at this; exact this)
 have HC2 := Lib.hid (show ∀ w', Held W w' → Calls Try.prog 48 #[V0, I 2] w' fun e w'' => e = .returned (I c2) ∧ Below w'.heap.size w' w'' from fun w' h => by have := chooseE_any bits V0 2 w' (HBITS.out w' h); rw [hc2] at this; exact this)
 have HW0 := Lib.hid (show ∀ w', Held W w' → Calls Try.prog 31 #[vSp b.s0.floor, I c0] w' fun e w'' => e = .returned (I f0) ∧ Below w'.heap.size w' w'' from fun w' h => by have := withinE_any b.s0.floor c0 (by omega) (by omega) (by omega) w'; rw [hf0] at this; exact this)
 have HW1 := Lib.hid (show ∀ w', Held W w' → Calls Try.prog 31 #[vSp b.s1.floor, I c1] w' fun e w'' => e = .returned (I f1) ∧ Below w'.heap.size w' w'' from fun w' h => by have := withinE_any b.s1.floor c1 (by omega) (by omega) (by omega) w'; rw [hf1] at this; exact this)
 have HW2 := Lib.hid (show ∀ w', Held W w' → Calls Try.prog 31 #[vSp b.empty, I c2] w' fun e w'' => e = .returned (I f2) ∧ Below w'.heap.size w' w'' from fun w' h => by have := withinE_any b.empty c2 (by omega) (by omega) (by omega) w'; rw [hf2] at this; exact this)
 refine name_act ?_
 intro A hA
 obtain ⟨R, hR⟩ : ∃ R : Act → World → Prop, R = fun a' w' => ∃ n, a' = ((((((((((((((((((((((A.put (some 7) (.pointer (some ⟨w.heap.size, 1, none⟩))).put (some 8) (.pointer (some ⟨w.heap.size, 1, none⟩))).put (some 9) (.pointer (some ⟨w.heap.size, 1, none⟩))).put (some 10) (vSp b.s0.floor)).put (some 11) V0).put (some 12) (I c0)).put (some 13) (I f0)).put (some 14) (.pointer (some ⟨w.heap.size, 1, none⟩))).put (some 15) (.pointer (some ⟨w.heap.size, 5, none⟩))).put (some 16) (.pointer (some ⟨w.heap.size, 5, none⟩))).put (some 17) (vSp b.s1.floor)).put (some 18) V0).put (some 19) (I c1)).put (some 20) (I f1)).put (some 21) (.agg #[I f0, I f1])).put (some 22) (.pointer (some ⟨w.heap.size, 9, none⟩))).put (some 23) (vSp b.empty)).put (some 24) V0).put (some 25) (I c2)).put (some 26) (I f2)).put (some 27) (.agg #[.slice none 0 0, I f0, I f1, I f2])).put (some 5) (.pointer (some ⟨n, 0, none⟩))) ∧ w'.heap[n]? = some (.cells #[.slice none 0 0, I f0, I f1, I f2] 37 (0, 0)) ∧ W.heap.size ≤ n ∧ Held W w' := ⟨_, rfl⟩
 have HR := Lib.hid hR
 clear hR
 refine wp_between R ?first ?rest
 case first =>
  have hrows : ∀ S'' : World → Prop, (∀ w', S'' w' → Held W w') → (∀ w' w'', S'' w' → Below w'.heap.size w' w'' → S'' w'') → ∀ (n i : Nat) (o : Oper) (v : Value), i ≠ 21 → i ≠ 22 → (#[{ dst := some 7, op := Op.fieldAddr 30 (Operand.tmp 2) 1, type := 0, pos := "outright.go:69", after := #[], guard := none }, { dst := some 8, op := Op.indexAddr 27 (Operand.tmp 7) (Operand.const (Value.int IntKind.i64 0)), type := 0, pos := "outright.go:69", after := #[{ on := 0, ground := Ground.data }], guard := none }, { dst := some 9, op := Op.fieldAddr 26 (Operand.tmp 8) 0, type := 0, pos := "outright.go:69", after := #[{ on := 1, ground := Ground.data }], guard := none }, { dst := some 10, op := Op.load 24 (Operand.tmp 9), type := 24, pos := "outright.go:69", after := #[{ on := 2, ground := Ground.data }], guard := none }, { dst := some 11, op := Op.move (Operand.tmp 1), type := 31, pos := "outright.go:69", after := #[], guard := none }, { dst := some 12, op := Op.call { callee := Callee.value (Operand.func 48), args := #[Operand.tmp 11, Operand.const (Value.int IntKind.i64 0)], argTypes := #[31, 3] }, type := 3, pos := "outright.go:69", after := #[{ on := 4, ground := Ground.data }], guard := none }, { dst := some 13, op := Op.call { callee := Callee.value (Operand.func 31), args := #[Operand.tmp 10, Operand.tmp 12], argTypes := #[24, 3] }, type := 3, pos := "outright.go:69", after := #[{ on := 3, ground := Ground.data }, { on := 5, ground := Ground.data }, { on := 5, ground := Ground.chain }], guard := none }, { dst := some 14, op := Op.fieldAddr 30 (Operand.tmp 2) 1, type := 0, pos := "outright.go:69", after := #[], guard := none }, { dst := some 15, op := Op.indexAddr 27 (Operand.tmp 14) (Operand.const (Value.int IntKind.i64 1)), type := 0, pos := "outright.go:69", after := #[{ on := 7, ground := Ground.data }], guard := none }, { dst := some 16, op := Op.fieldAddr 26 (Operand.tmp 15) 0, type := 0, pos := "outright.go:69", after := #[{ on := 8, ground := Ground.data }], guard := none }, { dst := some 17, op := Op.load 24 (Operand.tmp 16), type := 24, pos := "outright.go:69", after := #[{ on := 9, ground := Ground.data }], guard := none }, { dst := some 18, op := Op.move (Operand.tmp 1), type := 31, pos := "outright.go:69", after := #[], guard := none }, { dst := some 19, op := Op.call { callee := Callee.value (Operand.func 48), args := #[Operand.tmp 18, Operand.const (Value.int IntKind.i64 1)], argTypes := #[31, 3] }, type := 3, pos := "outright.go:69", after := #[{ on := 11, ground := Ground.data }, { on := 6, ground := Ground.chain }], guard := none }, { dst := some 20, op := Op.call { callee := Callee.value (Operand.func 31), args := #[Operand.tmp 17, Operand.tmp 19], argTypes := #[24, 3] }, type := 3, pos := "outright.go:69", after := #[{ on := 10, ground := Ground.data }, { on := 12, ground := Ground.data }, { on := 12, ground := Ground.chain }], guard := none }, { dst := some 21, op := Op.build 35 #[(0, Operand.tmp 13), (1, Operand.tmp 20)], type := 35, pos := "outright.go:69", after := #[{ on := 6, ground := Ground.data }, { on := 13, ground := Ground.data }], guard := none }, { dst := some 22, op := Op.fieldAddr 30 (Operand.tmp 2) 2, type := 0, pos := "outright.go:69", after := #[], guard := none }, { dst := some 23, op := Op.load 24 (Operand.tmp 22), type := 24, pos := "outright.go:69", after := #[{ on := 15, ground := Ground.data }], guard := none }, { dst := some 24, op := Op.move (Operand.tmp 1), type := 31, pos := "outright.go:69", after := #[], guard := none }, { dst := some 25, op := Op.call { callee := Callee.value (Operand.func 48), args := #[Operand.tmp 24, Operand.const (Value.int IntKind.i64 2)], argTypes := #[31, 3] }, type := 3, pos := "outright.go:69", after := #[{ on := 17, ground := Ground.data }, { on := 13, ground := Ground.chain }], guard := none }, { dst := some 26, op := Op.call { callee := Callee.value (Operand.func 31), args := #[Operand.tmp 23, Operand.tmp 25], argTypes := #[24, 3] }, type := 3, pos := "outright.go:69", after := #[{ on := 16, ground := Ground.data }, { on := 18, ground := Ground.data }, { on := 18, ground := Ground.chain }], guard := none }, { dst := some 27, op := Op.build 37 #[(1, Operand.tmp 21), (2, Operand.tmp 26)], type := 37, pos := "outright.go:69", after := #[{ on := 14, ground := Ground.data }, { on := 19, ground := Ground.data }], guard := none }, { dst := some 5, op := Op.alloc 37, type := 0, pos := "outright.go:69", after := #[], guard := none }, { dst := none, op := Op.store 37 (Operand.tmp 5) (Operand.tmp 27), type := 0, pos := "outright.go:69", after := #[{ on := 21, ground := Ground.data }, { on := 20, ground := Ground.data }, { on := 19, ground := Ground.chain }, { on := 0, ground := Ground.phase }, { on := 1, ground := Ground.phase }, { on := 2, ground := Ground.phase }, { on := 3, ground := Ground.phase }, { on := 4, ground := Ground.phase }, { on := 5, ground := Ground.phase }, { on := 6, ground := Ground.phase }, { on := 7, ground := Ground.phase }, { on := 8, ground := Ground.phase }, { on := 9, ground := Ground.phase }, { on := 10, ground := Ground.phase }, { on := 11, ground := Ground.phase }, { on := 12, ground := Ground.phase }, { on := 13, ground := Ground.phase }, { on := 14, ground := Ground.phase }, { on := 15, ground := Ground.phase }, { on := 16, ground := Ground.phase }, { on := 17, ground := Ground.phase }, { on := 18, ground := Ground.phase }, { on := 19, ground := Ground.phase }, { on := 20, ground := Ground.phase }, { on := 21, ground := Ground.phase }], guard := none }] : Array Oper)[i]? = some o → ([(.pointer (some ⟨w.heap.size, 1, none⟩)), (.pointer (some ⟨w.heap.size, 1, none⟩)), (.pointer (some ⟨w.heap.size, 1, none⟩)), (vSp b.s0.floor), V0, (I c0), (I f0), (.pointer (some ⟨w.heap.size, 1, none⟩)), (.pointer (some ⟨w.heap.size, 5, none⟩)), (.pointer (some ⟨w.heap.size, 5, none⟩)), (vSp b.s1.floor), V0, (I c1), (I f1), (.agg #[I f0, I f1]), (.pointer (some ⟨w.heap.size, 9, none⟩)), (vSp b.empty), V0, (I c2), (I f2), (.agg #[.slice none 0 0, I f0, I f1, I f2]), (.pointer (some ⟨n, 0, none⟩)), undef] : List Value)[i]? = some v → Steady Try.prog #[{ dst := some 7, op := Op.fieldAddr 30 (Operand.tmp 2) 1, type := 0, pos := "outright.go:69", after := #[], guard := none }, { dst := some 8, op := Op.indexAddr 27 (Operand.tmp 7) (Operand.const (Value.int IntKind.i64 0)), type := 0, pos := "outright.go:69", after := #[{ on := 0, ground := Ground.data }], guard := none }, { dst := some 9, op := Op.fieldAddr 26 (Operand.tmp 8) 0, type := 0, pos := "outright.go:69", after := #[{ on := 1, ground := Ground.data }], guard := none }, { dst := some 10, op := Op.load 24 (Operand.tmp 9), type := 24, pos := "outright.go:69", after := #[{ on := 2, ground := Ground.data }], guard := none }, { dst := some 11, op := Op.move (Operand.tmp 1), type := 31, pos := "outright.go:69", after := #[], guard := none }, { dst := some 12, op := Op.call { callee := Callee.value (Operand.func 48), args := #[Operand.tmp 11, Operand.const (Value.int IntKind.i64 0)], argTypes := #[31, 3] }, type := 3, pos := "outright.go:69", after := #[{ on := 4, ground := Ground.data }], guard := none }, { dst := some 13, op := Op.call { callee := Callee.value (Operand.func 31), args := #[Operand.tmp 10, Operand.tmp 12], argTypes := #[24, 3] }, type := 3, pos := "outright.go:69", after := #[{ on := 3, ground := Ground.data }, { on := 5, ground := Ground.data }, { on := 5, ground := Ground.chain }], guard := none }, { dst := some 14, op := Op.fieldAddr 30 (Operand.tmp 2) 1, type := 0, pos := "outright.go:69", after := #[], guard := none }, { dst := some 15, op := Op.indexAddr 27 (Operand.tmp 14) (Operand.const (Value.int IntKind.i64 1)), type := 0, pos := "outright.go:69", after := #[{ on := 7, ground := Ground.data }], guard := none }, { dst := some 16, op := Op.fieldAddr 26 (Operand.tmp 15) 0, type := 0, pos := "outright.go:69", after := #[{ on := 8, ground := Ground.data }], guard := none }, { dst := some 17, op := Op.load 24 (Operand.tmp 16), type := 24, pos := "outright.go:69", after := #[{ on := 9, ground := Ground.data }], guard := none }, { dst := some 18, op := Op.move (Operand.tmp 1), type := 31, pos := "outright.go:69", after := #[], guard := none }, { dst := some 19, op := Op.call { callee := Callee.value (Operand.func 48), args := #[Operand.tmp 18, Operand.const (Value.int IntKind.i64 1)], argTypes := #[31, 3] }, type := 3, pos := "outright.go:69", after := #[{ on := 11, ground := Ground.data }, { on := 6, ground := Ground.chain }], guard := none }, { dst := some 20, op := Op.call { callee := Callee.value (Operand.func 31), args := #[Operand.tmp 17, Operand.tmp 19], argTypes := #[24, 3] }, type := 3, pos := "outright.go:69", after := #[{ on := 10, ground := Ground.data }, { on := 12, ground := Ground.data }, { on := 12, ground := Ground.chain }], guard := none }, { dst := some 21, op := Op.build 35 #[(0, Operand.tmp 13), (1, Operand.tmp 20)], type := 35, pos := "outright.go:69", after := #[{ on := 6, ground := Ground.data }, { on := 13, ground := Ground.data }], guard := none }, { dst := some 22, op := Op.fieldAddr 30 (Operand.tmp 2) 2, type := 0, pos := "outright.go:69", after := #[], guard := none }, { dst := some 23, op := Op.load 24 (Operand.tmp 22), type := 24, pos := "outright.go:69", after := #[{ on := 15, ground := Ground.data }], guard := none }, { dst := some 24, op := Op.move (Operand.tmp 1), type := 31, pos := "outright.go:69", after := #[], guard := none }, { dst := some 25, op := Op.call { callee := Callee.value (Operand.func 48), args := #[Operand.tmp 24, Operand.const (Value.int IntKind.i64 2)], argTypes := #[31, 3] }, type := 3, pos := "outright.go:69", after := #[{ on := 17, ground := Ground.data }, { on := 13, ground := Ground.chain }], guard := none }, { dst := some 26, op := Op.call { callee := Callee.value (Operand.func 31), args := #[Operand.tmp 23, Operand.tmp 25], argTypes := #[24, 3] }, type := 3, pos := "outright.go:69", after := #[{ on := 16, ground := Ground.data }, { on := 18, ground := Ground.data }, { on := 18, ground := Ground.chain }], guard := none }, { dst := some 27, op := Op.build 37 #[(1, Operand.tmp 21), (2, Operand.tmp 26)], type := 37, pos := "outright.go:69", after := #[{ on := 14, ground := Ground.data }, { on := 19, ground := Ground.data }], guard := none }, { dst := some 5, op := Op.alloc 37, type := 0, pos := "outright.go:69", after := #[], guard := none }, { dst := none, op := Op.store 37 (Operand.tmp 5) (Operand.tmp 27), type := 0, pos := "outright.go:69", after := #[{ on := 21, ground := Ground.data }, { on := 20, ground := Ground.data }, { on := 19, ground := Ground.chain }, { on := 0, ground := Ground.phase }, { on := 1, ground := Ground.phase }, { on := 2, ground := Ground.phase }, { on := 3, ground := Ground.phase }, { on := 4, ground := Ground.phase }, { on := 5, ground := Ground.phase }, { on := 6, ground := Ground.phase }, { on := 7, ground := Ground.phase }, { on := 8, ground := Ground.phase }, { on := 9, ground := Ground.phase }, { on := 10, ground := Ground.phase }, { on := 11, ground := Ground.phase }, { on := 12, ground := Ground.phase }, { on := 13, ground := Ground.phase }, { on := 14, ground := Ground.phase }, { on := 15, ground := Ground.phase }, { on := 16, ground := Ground.phase }, { on := 17, ground := Ground.phase }, { on := 18, ground := Ground.phase }, { on := 19, ground := Ground.phase }, { on := 20, ground := Ground.phase }, { on := 21, ground := Ground.phase }], guard := none }] S'' o v (((((((((((((((((((((((A.put (some 7) (.pointer (some ⟨w.heap.size, 1, none⟩))).put (some 8) (.pointer (some ⟨w.heap.size, 1, none⟩))).put (some 9) (.pointer (some ⟨w.heap.size, 1, none⟩))).put (some 10) (vSp b.s0.floor)).put (some 11) V0).put (some 12) (I c0)).put (some 13) (I f0)).put (some 14) (.pointer (some ⟨w.heap.size, 1, none⟩))).put (some 15) (.pointer (some ⟨w.heap.size, 5, none⟩))).put (some 16) (.pointer (some ⟨w.heap.size, 5, none⟩))).put (some 17) (vSp b.s1.floor)).put (some 18) V0).put (some 19) (I c1)).put (some 20) (I f1)).put (some 21) (.agg #[I f0, I f1])).put (some 22) (.pointer (some ⟨w.heap.size, 9, none⟩))).put (some 23) (vSp b.empty)).put (some 24) V0).put (some 25) (I c2)).put (some 26) (I f2)).put (some 27) (.agg #[.slice none 0 0, I f0, I f1, I f2])).put (some 5) (.pointer (some ⟨n, 0, none⟩)))) := by
   intro S'' hH hB n i o v hi1 hi2 ho hv
   have hlt : i < 23 := (Array.getElem?_eq_some_iff.1 ho).1
   have hi : i = 0 ∨ i = 1 ∨ i = 2 ∨ i = 3 ∨ i = 4 ∨ i = 5 ∨ i = 6 ∨ i = 7 ∨ i = 8 ∨ i = 9 ∨ i = 10 ∨ i = 11 ∨ i = 12 ∨ i = 13 ∨ i = 14 ∨ i = 15 ∨ i = 16 ∨ i = 17 ∨ i = 18 ∨ i = 19 ∨ i = 20 := by omega
   rcases hi with rfl | rfl | rfl | rfl | rfl | rfl | rfl | rfl | rfl | rfl | rfl | rfl | rfl | rfl | rfl | rfl | rfl | rfl | rfl | rfl | rfl
   · obtain rfl := (Option.some.inj ho : { dst := some 7, op := Op.fieldAddr 30 (Operand.tmp 2) 1, type := 0, pos := "outright.go:69", after := #[], guard := none } = o)
     obtain rfl := Option.some.inj hv
     refine .inl ⟨by rfl, fun w' hS => ?_⟩
     have hq := (hH w' hS).1
     subst hA
     try simp only [putL]
     go_simp
     exact ⟨rfl, hS⟩
   · obtain rfl := (Option.some.inj ho : { dst := some 8, op := Op.indexAddr 27 (Operand.tmp 7) (Operand.const (Value.int IntKind.i64 0)), type := 0, pos := "outright.go:69", after := #[{ on := 0, ground := Ground.data }], guard := none } = o)
     obtain rfl := Option.some.inj hv
     refine .inl ⟨by rfl, fun w' hS => ?_⟩
     have hq := (hH w' hS).1
     subst hA
     try simp only [putL]
     go_simp
     exact ⟨rfl, hS⟩
   · obtain rfl := (Option.some.inj ho : { dst := some 9, op := Op.fieldAddr 26 (Operand.tmp 8) 0, type := 0, pos := "outright.go:69", after := #[{ on := 1, ground := Ground.data }], guard := none } = o)
     obtain rfl := Option.some.inj hv
     refine .inl ⟨by rfl, fun w' hS => ?_⟩
     have hq := (hH w' hS).1
     subst hA
     try simp only [putL]
     go_simp
     exact ⟨rfl, hS⟩
   · obtain rfl := (Option.some.inj ho : { dst := some 10, op := Op.load 24 (Operand.tmp 9), type := 24, pos := "outright.go:69", after := #[{ on := 2, ground := Ground.data }], guard := none } = o)
     obtain rfl := Option.some.inj hv
     refine .inl ⟨by rfl, fun w' hS => ?_⟩
     have hq := (hH w' hS).1
     subst hA
     try simp only [putL]
     go_simp
     exact ⟨rfl, hS⟩
   · obtain rfl := (Option.some.inj ho : { dst := some 11, op := Op.move (Operand.tmp 1), type := 31, pos := "outright.go:69", after := #[], guard := none } = o)
     obtain rfl := Option.some.inj hv
     refine .inl ⟨by rfl, fun w' hS => ?_⟩
     have hq := (hH w' hS).1
     subst hA
     try simp only [putL]
     go_simp
     exact ⟨rfl, hS⟩
   · obtain rfl := (Option.some.inj ho : { dst := some 12, op := Op.call { callee := Callee.value (Operand.func 48), args := #[Operand.tmp 11, Operand.const (Value.int IntKind.i64 0)], argTypes := #[31, 3] }, type := 3, pos := "outright.go:69", after := #[{ on := 4, ground := Ground.data }], guard := none } = o)
     obtain rfl := Option.some.inj hv
     refine .inl ⟨by rfl, fun w' hS => ?_⟩
     have hq := (hH w' hS).1
     subst hA
     try simp only [putL]
     go_simp
     exact (HC0.out _ (hH w' hS)).mono fun e w'' h => ⟨h.1, hB w' w'' hS h.2⟩
   · obtain rfl := (Option.some.inj ho : { dst := some 13, op := Op.call { callee := Callee.value (Operand.func 31), args := #[Operand.tmp 10, Operand.tmp 12], argTypes := #[24, 3] }, type := 3, pos := "outright.go:69", after := #[{ on := 3, ground := Ground.data }, { on := 5, ground := Ground.data }, { on := 5, ground := Ground.chain }], guard := none } = o)
     obtain rfl := Option.some.inj hv
     refine .inl ⟨by rfl, fun w' hS => ?_⟩
     have hq := (hH w' hS).1
     subst hA
     try simp only [putL]
     go_simp
     exact (HW0.out _ (hH w' hS)).mono fun e w'' h => ⟨h.1, hB w' w'' hS h.2⟩
   · obtain rfl := (Option.some.inj ho : { dst := some 14, op := Op.fieldAddr 30 (Operand.tmp 2) 1, type := 0, pos := "outright.go:69", after := #[], guard := none } = o)
     obtain rfl := Option.some.inj hv
     refine .inl ⟨by rfl, fun w' hS => ?_⟩
     have hq := (hH w' hS).1
     subst hA
     try simp only [putL]
     go_simp
     exact ⟨rfl, hS⟩
   · obtain rfl := (Option.some.inj ho : { dst := some 15, op := Op.indexAddr 27 (Operand.tmp 14) (Operand.const (Value.int IntKind.i64 1)), type := 0, pos := "outright.go:69", after := #[{ on := 7, ground := Ground.data }], guard := none } = o)
     obtain rfl := Option.some.inj hv
     refine .inl ⟨by rfl, fun w' hS => ?_⟩
     have hq := (hH w' hS).1
     subst hA
     try simp only [putL]
     go_simp
     exact ⟨rfl, hS⟩
   · obtain rfl := (Option.some.inj ho : { dst := some 16, op := Op.fieldAddr 26 (Operand.tmp 15) 0, type := 0, pos := "outright.go:69", after := #[{ on := 8, ground := Ground.data }], guard := none } = o)
     obtain rfl := Option.some.inj hv
     refine .inl ⟨by rfl, fun w' hS => ?_⟩
     have hq := (hH w' hS).1
     subst hA
     try simp only [putL]
     go_simp
     exact ⟨rfl, hS⟩
   · obtain rfl := (Option.some.inj ho : { dst := some 17, op := Op.load 24 (Operand.tmp 16), type := 24, pos := "outright.go:69", after := #[{ on := 9, ground := Ground.data }], guard := none } = o)
     obtain rfl := Option.some.inj hv
     refine .inl ⟨by rfl, fun w' hS => ?_⟩
     have hq := (hH w' hS).1
     subst hA
     try simp only [putL]
     go_simp
     exact ⟨rfl, hS⟩
   · obtain rfl := (Option.some.inj ho : { dst := some 18, op := Op.move (Operand.tmp 1), type := 31, pos := "outright.go:69", after := #[], guard := none } = o)
     obtain rfl := Option.some.inj hv
     refine .inl ⟨by rfl, fun w' hS => ?_⟩
     have hq := (hH w' hS).1
     subst hA
     try simp only [putL]
     go_simp
     exact ⟨rfl, hS⟩
   · obtain rfl := (Option.some.inj ho : { dst := some 19, op := Op.call { callee := Callee.value (Operand.func 48), args := #[Operand.tmp 18, Operand.const (Value.int IntKind.i64 1)], argTypes := #[31, 3] }, type := 3, pos := "outright.go:69", after := #[{ on := 11, ground := Ground.data }, { on := 6, ground := Ground.chain }], guard := none } = o)
     obtain rfl := Option.some.inj hv
     refine .inl ⟨by rfl, fun w' hS => ?_⟩
     have hq := (hH w' hS).1
     subst hA
     try simp only [putL]
     go_simp
     exact (HC1.out _ (hH w' hS)).mono fun e w'' h => ⟨h.1, hB w' w'' hS h.2⟩
   · obtain rfl := (Option.some.inj ho : { dst := some 20, op := Op.call { callee := Callee.value (Operand.func 31), args := #[Operand.tmp 17, Operand.tmp 19], argTypes := #[24, 3] }, type := 3, pos := "outright.go:69", after := #[{ on := 10, ground := Ground.data }, { on := 12, ground := Ground.data }, { on := 12, ground := Ground.chain }], guard := none } = o)
     obtain rfl := Option.some.inj hv
     refine .inl ⟨by rfl, fun w' hS => ?_⟩
     have hq := (hH w' hS).1
     subst hA
     try simp only [putL]
     go_simp
     exact (HW1.out _ (hH w' hS)).mono fun e w'' h => ⟨h.1, hB w' w'' hS h.2⟩
   · obtain rfl := (Option.some.inj ho : { dst := some 21, op := Op.build 35 #[(0, Operand.tmp 13), (1, Operand.tmp 20)], type := 35, pos := "outright.go:69", after := #[{ on := 6, ground := Ground.data }, { on := 13, ground := Ground.data }], guard := none } = o)
     obtain rfl := Option.some.inj hv
     refine .inl ⟨by rfl, fun w' hS => ?_⟩
     have hq := (hH w' hS).1
     subst hA
     try simp only [putL]
     go_simp
     exact ⟨rfl, hS⟩
   · obtain rfl := (Option.some.inj ho : { dst := some 22, op := Op.fieldAddr 30 (Operand.tmp 2) 2, type := 0, pos := "outright.go:69", after := #[], guard := none } = o)
     obtain rfl := Option.some.inj hv
     refine .inl ⟨by rfl, fun w' hS => ?_⟩
     have hq := (hH w' hS).1
     subst hA
     try simp only [putL]
     go_simp
     exact ⟨rfl, hS⟩
   · obtain rfl := (Option.some.inj ho : { dst := some 23, op := Op.load 24 (Operand.tmp 22), type := 24, pos := "outright.go:69", after := #[{ on := 15, ground := Ground.data }], guard := none } = o)
     obtain rfl := Option.some.inj hv
     refine .inl ⟨by rfl, fun w' hS => ?_⟩
     have hq := (hH w' hS).1
     subst hA
     try simp only [putL]
     go_simp
     exact ⟨rfl, hS⟩
   · obtain rfl := (Option.some.inj ho : { dst := some 24, op := Op.move (Operand.tmp 1), type := 31, pos := "outright.go:69", after := #[], guard := none } = o)
     obtain rfl := Option.some.inj hv
     refine .inl ⟨by rfl, fun w' hS => ?_⟩
     have hq := (hH w' hS).1
     subst hA
     try simp only [putL]
     go_simp
     exact ⟨rfl, hS⟩
   · obtain rfl := (Option.some.inj ho : { dst := some 25, op := Op.call { callee := Callee.value (Operand.func 48), args := #[Operand.tmp 24, Operand.const (Value.int IntKind.i64 2)], argTypes := #[31, 3] }, type := 3, pos := "outright.go:69", after := #[{ on := 17, ground := Ground.data }, { on := 13, ground := Ground.chain }], guard := none } = o)
     obtain rfl := Option.some.inj hv
     refine .inl ⟨by rfl, fun w' hS => ?_⟩
     have hq := (hH w' hS).1
     subst hA
     try simp only [putL]
     go_simp
     exact (HC2.out _ (hH w' hS)).mono fun e w'' h => ⟨h.1, hB w' w'' hS h.2⟩
   · obtain rfl := (Option.some.inj ho : { dst := some 26, op := Op.call { callee := Callee.value (Operand.func 31), args := #[Operand.tmp 23, Operand.tmp 25], argTypes := #[24, 3] }, type := 3, pos := "outright.go:69", after := #[{ on := 16, ground := Ground.data }, { on := 18, ground := Ground.data }, { on := 18, ground := Ground.chain }], guard := none } = o)
     obtain rfl := Option.some.inj hv
     refine .inl ⟨by rfl, fun w' hS => ?_⟩
     have hq := (hH w' hS).1
     subst hA
     try simp only [putL]
     go_simp
     exact (HW2.out _ (hH w' hS)).mono fun e w'' h => ⟨h.1, hB w' w'' hS h.2⟩
   · obtain rfl := (Option.some.inj ho : { dst := some 27, op := Op.build 37 #[(1, Operand.tmp 21), (2, Operand.tmp 26)], type := 37, pos := "outright.go:69", after := #[{ on := 14, ground := Ground.data }, { on := 19, ground := Ground.data }], guard := none } = o)
     obtain rfl := Option.some.inj hv
     refine .inl ⟨by rfl, fun w' hS => ?_⟩
     have hq := (hH w' hS).1
     subst hA
     try simp only [putL]
     go_simp
     exact ⟨rfl, hS⟩
  have hmo : Try.prog.follows .mixedOrders = true := by kernel_rfl
  refine wp_region_alloc_end (S := fun w' => Held W w') (S' := fun n w' => Held W w' ∧ W.heap.size ≤ n ∧ w'.heap[n]? = some (.cells #[.slice none 0 0, I 0, I 0, I 0] 37 (0, 0))) (x := 21) (z := 22) (dep := []) (vals := fun n => [(.pointer (some ⟨w.heap.size, 1, none⟩)), (.pointer (some ⟨w.heap.size, 1, none⟩)), (.pointer (some ⟨w.heap.size, 1, none⟩)), (vSp b.s0.floor), V0, (I c0), (I f0), (.pointer (some ⟨w.heap.size, 1, none⟩)), (.pointer (some ⟨w.heap.size, 5, none⟩)), (.pointer (some ⟨w.heap.size, 5, none⟩)), (vSp b.s1.floor), V0, (I c1), (I f1), (.agg #[I f0, I f1]), (.pointer (some ⟨w.heap.size, 9, none⟩)), (vSp b.empty), V0, (I c2), (I f2), (.agg #[.slice none 0 0, I f0, I f1, I f2]), (.pointer (some ⟨n, 0, none⟩)), undef]) (F := fun n => ((((((((((((((((((((((A.put (some 7) (.pointer (some ⟨w.heap.size, 1, none⟩))).put (some 8) (.pointer (some ⟨w.heap.size, 1, none⟩))).put (some 9) (.pointer (some ⟨w.heap.size, 1, none⟩))).put (some 10) (vSp b.s0.floor)).put (some 11) V0).put (some 12) (I c0)).put (some 13) (I f0)).put (some 14) (.pointer (some ⟨w.heap.size, 1, none⟩))).put (some 15) (.pointer (some ⟨w.heap.size, 5, none⟩))).put (some 16) (.pointer (some ⟨w.heap.size, 5, none⟩))).put (some 17) (vSp b.s1.floor)).put (some 18) V0).put (some 19) (I c1)).put (some 20) (I f1)).put (some 21) (.agg #[I f0, I f1])).put (some 22) (.pointer (some ⟨w.heap.size, 9, none⟩))).put (some 23) (vSp b.empty)).put (some 24) V0).put (some 25) (I c2)).put (some 26) (I f2)).put (some 27) (.agg #[.slice none 0 0, I f0, I f1, I f2])).put (some 5) (.pointer (some ⟨n, 0, none⟩)))) hmo (by kernel_rfl) (by kernel_rfl) (ox := { dst := some 5, op := Op.alloc 37, type := 0, pos := "outright.go:69", after := #[], guard := none }) rfl (oz := { dst := none, op := Op.store 37 (Operand.tmp 5) (Operand.tmp 27), type := 0, pos := "outright.go:69", after := #[{ on := 21, ground := Ground.data }, { on := 20, ground := Ground.data }, { on := 19, ground := Ground.chain }, { on := 0, ground := Ground.phase }, { on := 1, ground := Ground.phase }, { on := 2, ground := Ground.phase }, { on := 3, ground := Ground.phase }, { on := 4, ground := Ground.phase }, { on := 5, ground := Ground.phase }, { on := 6, ground := Ground.phase }, { on := 7, ground := Ground.phase }, { on := 8, ground := Ground.phase }, { on := 9, ground := Ground.phase }, { on := 10, ground := Ground.phase }, { on := 11, ground := Ground.phase }, { on := 12, ground := Ground.phase }, { on := 13, ground := Ground.phase }, { on := 14, ground := Ground.phase }, { on := 15, ground := Ground.phase }, { on := 16, ground := Ground.phase }, { on := 17, ground := Ground.phase }, { on := 18, ground := Ground.phase }, { on := 19, ground := Ground.phase }, { on := 20, ground := Ground.phase }, { on := 21, ground := Ground.phase }], guard := none }) rfl (waitsAll_spec (by kernel_rfl) rfl) (by decide) (fun n => rfl) (fun i hi => by cases hi) ?hsame (held_start W) (fun n => ?hF) ?h1 ?h2 ?hx ?hend
  case hsame =>
   intro n i h1 _ _
   rw [show ([(.pointer (some ⟨w.heap.size, 1, none⟩)), (.pointer (some ⟨w.heap.size, 1, none⟩)), (.pointer (some ⟨w.heap.size, 1, none⟩)), (vSp b.s0.floor), V0, (I c0), (I f0), (.pointer (some ⟨w.heap.size, 1, none⟩)), (.pointer (some ⟨w.heap.size, 5, none⟩)), (.pointer (some ⟨w.heap.size, 5, none⟩)), (vSp b.s1.floor), V0, (I c1), (I f1), (.agg #[I f0, I f1]), (.pointer (some ⟨w.heap.size, 9, none⟩)), (vSp b.empty), V0, (I c2), (I f2), (.agg #[.slice none 0 0, I f0, I f1, I f2]), (.pointer (some ⟨n, 0, none⟩)), undef] : List Value) = ([(.pointer (some ⟨w.heap.size, 1, none⟩)), (.pointer (some ⟨w.heap.size, 1, none⟩)), (.pointer (some ⟨w.heap.size, 1, none⟩)), (vSp b.s0.floor), V0, (I c0), (I f0), (.pointer (some ⟨w.heap.size, 1, none⟩)), (.pointer (some ⟨w.heap.size, 5, none⟩)), (.pointer (some ⟨w.heap.size, 5, none⟩)), (vSp b.s1.floor), V0, (I c1), (I f1), (.agg #[I f0, I f1]), (.pointer (some ⟨w.heap.size, 9, none⟩)), (vSp b.empty), V0, (I c2), (I f2), (.agg #[.slice none 0 0, I f0, I f1, I f2]), (.pointer (some ⟨0, 0, none⟩)), undef] : List Value).set 21 (.pointer (some ⟨n, 0, none⟩)) from rfl, List.getElem?_set_ne (Ne.symm h1)]
  case hF => rfl
  case h1 => exact fun i o v h1 h2 _ ho hv => hrows _ (fun _ h => h) (fun _ _ h hB => held_step hB h) 0 i o v h1 h2 ho hv
  case h2 => exact fun n i o v h1 h2 ho hv => hrows _ (fun _ h => h.1) (fun _ _ h hB => ⟨held_step hB h.1, h.2.1, (hB.block _ (heap_lt h.2.2)).trans h.2.2⟩) n i o v h1 h2 ho hv
  case hx =>
   intro a w' hS
   refine ⟨by rfl, .pointer (some ⟨w'.heap.size, 0, none⟩), w'.alloc (.cells #[.slice none 0 0, I 0, I 0, I 0] 37), ?_, rfl, held_alloc hS _, hS.2.2.size, heap_at _ _ rfl⟩
   clear hrows
   go_simp
   try rfl
  case hend =>
   intro n w' hS
   obtain ⟨hH, hn, hr⟩ := hS
   refine wpOp_step (o := { dst := none, op := Op.store 37 (Operand.tmp 5) (Operand.tmp 27), type := 0, pos := "outright.go:69", after := #[{ on := 21, ground := Ground.data }, { on := 20, ground := Ground.data }, { on := 19, ground := Ground.chain }, { on := 0, ground := Ground.phase }, { on := 1, ground := Ground.phase }, { on := 2, ground := Ground.phase }, { on := 3, ground := Ground.phase }, { on := 4, ground := Ground.phase }, { on := 5, ground := Ground.phase }, { on := 6, ground := Ground.phase }, { on := 7, ground := Ground.phase }, { on := 8, ground := Ground.phase }, { on := 9, ground := Ground.phase }, { on := 10, ground := Ground.phase }, { on := 11, ground := Ground.phase }, { on := 12, ground := Ground.phase }, { on := 13, ground := Ground.phase }, { on := 14, ground := Ground.phase }, { on := 15, ground := Ground.phase }, { on := 16, ground := Ground.phase }, { on := 17, ground := Ground.phase }, { on := 18, ground := Ground.phase }, { on := 19, ground := Ground.phase }, { on := 20, ground := Ground.phase }, { on := 21, ground := Ground.phase }], guard := none }) rfl (fun K' hK => ?_)
   clear hrows
   subst hA
   try simp only [putL]
   rw [if_pos (by rfl)]
   refine wp_store_row 37 _ _ rfl _ _ rfl rfl _ _ hr (by kernel_rfl) rfl (by simp [Value.oneCell']) ?_
   refine hK _ _ ⟨trivial, ?_⟩
   show R _ _
   rw [HR.out]
   try simp only [putL]
   exact ⟨n, rfl, setRow_heap _ _ _ _ _ _ hr, hn, held_row hH hn _⟩
 case rest =>
  intro a' w5 hra
  rw [HR.out] at hra
  clear HR
  obtain ⟨kb, rfl, rX, hkW, hHE⟩ := hra
  subst hA
  try simp only [putL]
  have hlBk : w.heap.size < kb := by omega
  have hlOk : w.heap.size + 1 < kb := by have := heap_lt rO; omega
  have hkw : w.heap.size ≤ kb := Nat.le_of_lt hlBk
  have hb5 : Below w.heap.size w w5 := hbW.trans (hHE.2.2.mono hbW.size)
  have RB5 := Lib.hid ((hHE.2.2.block _ lB).trans rB)
  have RO5 := Lib.hid ((hHE.2.2.block _ (heap_lt rO)).trans rO)
  have HB5 := Lib.hid hb5
  have HBT := Lib.hid hB
  have HVP := Lib.hid hvp
  have HEQ := Lib.hid (And.intro (And.intro hc0 hf0) (And.intro (And.intro hc1 hf1) (And.intro hc2 hf2)))
  clear hvp hv hc0 hf0 hc1 hf1 hc2 hf2
  clear hHE hb5 rO rB hbW qB1 qB2 qB5 qB6 qB9 qB10 HC0 HC1 HC2 HW0 HW1 HW2 HBITS hkW hB hb g0 g1 g2 lB
  go_wp2_with fail
  go_loopw [6] (fun i wr => ∃ (j : Nat) (v : Value), j ≤ b.tides.length ∧ i = I j ∧ Below kb w5 wr ∧ wr.heap[kb]? = some (.cells #[v, I f0, I f1, I f2] 37 (0, 0)) ∧ wr.ownsRow (kb + 1) 3 1 v (Ld.heightsTo b bits j).length ((Ld.heightsTo b bits j).map I)) (fun i _ => b.tides.length - (intOf i).toNat)
  case atStart => exact ⟨0, .slice none 0 0, Nat.zero_le _, rfl, Below.refl _ _, rX, World.ownsRow_nil _ _ _ _⟩
  case round =>
   obtain ⟨j, v, hj, rfl, hBw, rXr, hown⟩ := hrel
   have hbw : Below w.heap.size w wr := HB5.out.trans (hBw.mono hkw)
   have rBr := (hBw.block _ hlBk).trans RB5.out
   have qB0 := cell_of_row wr _ 0 _ _ _ rBr
   simp only [List.getElem?_toArray, List.getElem?_cons_zero, List.getElem?_cons_succ] at qB0
   have HBr := Lib.hid hBw
   have HBw := Lib.hid hbw
   have RXR := Lib.hid rXr
   have HOWN := Lib.hid hown
   clear hBw hbw rXr hown
   by_cases hlt : j < b.tides.length
   · have hji : (j : Int) < b.tides.length := by omega
     obtain ⟨tb, to, c', hv2, htb, q0, q1⟩ := (HBT.out.below HBw.out (Nat.le_refl _)).tide hlt
     injection hv2 with hA2 _ hc2
     subst hA2 hc2
     have ht := Ld.tide_bd HVP.out.2.1 hlt
     have hte : Ld.tide b j = b.tides[j] := by simp [Ld.tide, hlt]
     rw [← hte] at q0 q1
     obtain ⟨x, hx⟩ : ∃ x, Ld.tide b j = x := ⟨_, rfl⟩
     rw [hx] at q0 q1 ht
     obtain ⟨cj, hcj⟩ : ∃ y, Ld.choose bits j = y := ⟨_, rfl⟩
     obtain ⟨c9, hc9⟩ : ∃ y, Ld.choose bits 1 = y := ⟨_, rfl⟩
     obtain ⟨yv, hyv⟩ : ∃ y, Ld.within x (IntKind.i64.wrap (cj + IntKind.i64.wrap ((j : Int) * c9))) = y := ⟨_, rfl⟩
     have hsucc : Ld.heightsTo b bits (j + 1) = Ld.heightsTo b bits j ++ [yv] := by
      unfold Ld.heightsTo
      rw [List.range_succ, List.map_append, List.map_cons, List.map_nil, hx, hcj, hc9, hyv]
     have hlen : (Ld.heightsTo b bits j).length = j := by simp [Ld.heightsTo]
     obtain ⟨n', hn'⟩ : ∃ n', (Ld.heightsTo b bits j).length = n' := ⟨_, rfl⟩
     obtain ⟨xs, hxs⟩ : ∃ xs, (Ld.heightsTo b bits j).map I = xs := ⟨_, rfl⟩
     have hown2 := HOWN.out
     rw [hn', hxs] at hown2
     have hb24 : b.tides.length ≤ 24 := (Ld.sized_bd HVP.out.1).2.1
     have hn24 : n' ≤ 24 := by omega
     have HSU := Lib.hid hsucc
     have HM := Lib.hid hn'
     have HXS := Lib.hid hxs
     have HOWN2 := Lib.hid hown2
     have HCJ := Lib.hid (show ∀ w', Below w.heap.size w w' → Calls Try.prog 48 #[V0, I j] w' fun e w'' => e = .returned (I cj) ∧ Below w'.heap.size w' w'' from fun w' h => by have := chooseE_any bits V0 j w' (HBI.out w' h); rw [hcj] at this; exact this)
     have HCO := Lib.hid (show ∀ w', Below w.heap.size w w' → Calls Try.prog 48 #[V0, I 1] w' fun e w'' => e = .returned (I c9) ∧ Below w'.heap.size w' w'' from fun w' h => by have := chooseE_any bits V0 1 w' (HBI.out w' h); rw [hc9] at this; exact this)
     have HWJ := Lib.hid (show ∀ w', Below w.heap.size w w' → Calls Try.prog 31 #[vSp x, I (IntKind.i64.wrap (cj + IntKind.i64.wrap ((j : Int) * c9)))] w' fun e w'' => e = .returned (I yv) ∧ Below w'.heap.size w' w'' from fun w' _ => by have := withinE_any x (IntKind.i64.wrap (cj + IntKind.i64.wrap ((j : Int) * c9))) (by omega) (by omega) (by omega) w'; rw [hyv] at this; exact this)
     have htbk : tb < kb := by omega
     clear hsucc hlen hn' hxs hown2 hyv hcj hc9 hx hte ht HOWN rBr
     go_wp2_with fail
     refine name_act ?_
     intro A hA
     obtain ⟨R, hR⟩ : ∃ R : Act → World → Prop, R = fun a' w' => ∃ g cap : Nat, (∃ u35 u36 u37 u38 u39 u40 u41 u42 u43 u44 u45 u46 u47 u48 u49 u50 u51 u52 u53, a' = (((((((((((((((((((A.put (some 35) u35).put (some 36) u36).put (some 37) u37).put (some 38) u38).put (some 39) u39).put (some 40) u40).put (some 41) u41).put (some 42) u42).put (some 43) u43).put (some 44) u44).put (some 45) u45).put (some 46) u46).put (some 47) u47).put (some 48) u48).put (some 49) u49).put (some 50) u50).put (some 51) u51).put (some 52) u52).put (some 53) u53)) ∧ w'.heap[kb]? = some (.cells #[(.slice (some ⟨g, 0, none⟩) (n' + 1) cap), I f0, I f1, I f2] 37 (0, 0)) ∧ w'.ownsRow (kb + 1) 3 1 (.slice (some ⟨g, 0, none⟩) (n' + 1) cap) (n' + 1) (xs ++ [I yv]) ∧ HeldB kb wr w' := ⟨_, rfl⟩
     have HR := Lib.hid hR
     clear hR
     refine wp_between R ?first5 ?rest5
     case first5 =>
      refine wp_region_free (Θ := Nat × Nat × Nat) (vals := fun ϑ => [(.pointer (some ⟨kb, 0, none⟩)), v, (.pointer (some ⟨w.heap.size, 0, none⟩)), (.slice (some ⟨tb, to, none⟩) b.tides.length k0), (I j), (.pointer (some ⟨tb, to + j * 2, none⟩)), (vSp x), V0, (I j), (I cj), (I j), V0, (I c9), (I (IntKind.i64.wrap ((j : Int) * c9))), (I (IntKind.i64.wrap (cj + IntKind.i64.wrap ((j : Int) * c9)))), (I yv), (.slice (some ⟨ϑ.1, 0, none⟩) 1 1), (.slice (some ⟨ϑ.2.1, 0, none⟩) (n' + 1) ϑ.2.2), (.pointer (some ⟨kb, 0, none⟩)), undef]) (F := fun ϑ => (((((((((((((((((((A.put (some 35) (.pointer (some ⟨kb, 0, none⟩))).put (some 36) v).put (some 37) (.pointer (some ⟨w.heap.size, 0, none⟩))).put (some 38) (.slice (some ⟨tb, to, none⟩) b.tides.length k0)).put (some 39) (I j)).put (some 40) (.pointer (some ⟨tb, to + j * 2, none⟩))).put (some 41) (vSp x)).put (some 42) V0).put (some 43) (I j)).put (some 44) (I cj)).put (some 45) (I j)).put (some 46) V0).put (some 47) (I c9)).put (some 48) (I (IntKind.i64.wrap ((j : Int) * c9)))).put (some 49) (I (IntKind.i64.wrap (cj + IntKind.i64.wrap ((j : Int) * c9))))).put (some 50) (I yv)).put (some 51) (.slice (some ⟨ϑ.1, 0, none⟩) 1 1)).put (some 52) (.slice (some ⟨ϑ.2.1, 0, none⟩) (n' + 1) ϑ.2.2)).put (some 53) (.pointer (some ⟨kb, 0, none⟩)))) (S := fun d ϑ w' => HeldB kb wr w' ∧ kb + 1 ≤ w'.heap.size ∧ w'.heap[kb]? = some (.cells #[(if d 19 = true then (.slice (some ⟨ϑ.2.1, 0, none⟩) (n' + 1) ϑ.2.2) else v), I f0, I f1, I f2] 37 (0, 0)) ∧ w'.ownsRow (kb + 1) 3 1 (if d 17 = true then (.slice (some ⟨ϑ.2.1, 0, none⟩) (n' + 1) ϑ.2.2) else v) (if d 17 = true then n' + 1 else n') (if d 17 = true then xs ++ [I yv] else xs) ∧ (d 16 = true → d 17 = false → w'.heap[ϑ.1]? = some (.cells #[I yv] 3 (0, 0)))) (by kernel_rfl) (inOrder_of (by kernel_rfl)) (by kernel_rfl) (fun ϑ => rfl) (fun ϑ => rfl) (0, 0, 0) ?h0 ?hstep ?hend
      case h0 =>
       exact ⟨heldB_of (Below.refl _ _).drew, heap_lt RXR.out, RXR.out, HOWN2.out, fun h => by cases h⟩
      case hstep =>
       rintro d ⟨n5, g, cap⟩ wq i o hd ho hdep hclosed hS
       have hlt : i < 20 := (Array.getElem?_eq_some_iff.1 ho).1
       try dsimp only at hS
       have hi : i = 1 ∨ i = 3 ∨ i = 6 ∨ i = 9 ∨ i = 12 ∨ i = 15 ∨ i = 16 ∨ i = 17 ∨ i = 19 ∨ (i = 0 ∨ i = 2 ∨ i = 4 ∨ i = 5 ∨ i = 7 ∨ i = 8 ∨ i = 10 ∨ i = 11 ∨ i = 13 ∨ i = 14 ∨ i = 18) := by omega
       obtain ⟨hHE, hz, hX, hO, hN⟩ := id hS
       have hFw : kb ≤ wr.heap.size := Nat.le_of_lt (heap_lt RXR.out)
       have hle : kb ≤ wq.heap.size := Nat.le_trans hFw hHE.2.size
       have hb : Below w.heap.size w wq := HBw.out.trans (hHE.2.mono hkw)
       have HKE := Lib.hid (show ∀ w'', Below wq.heap.size wq w'' → HeldB kb wr w'' ∧ kb + 1 ≤ w''.heap.size ∧ w''.heap[kb]? = some (.cells #[(if d 19 = true then (.slice (some ⟨g, 0, none⟩) (n' + 1) cap) else v), I f0, I f1, I f2] 37 (0, 0)) ∧ w''.ownsRow (kb + 1) 3 1 (if d 17 = true then (.slice (some ⟨g, 0, none⟩) (n' + 1) cap) else v) (if d 17 = true then n' + 1 else n') (if d 17 = true then xs ++ [I yv] else xs) ∧ (d 16 = true → d 17 = false → w''.heap[n5]? = some (.cells #[I yv] 3 (0, 0))) from fun w'' hB => ⟨heldB_of (hHE.2.trans (hB.mono hle)), Nat.le_trans hz hB.size, (hB.block _ (heap_lt hX)).trans hX, hO.kept (grown_of_below hB none) (by generalize Value.ownBlock _ = ob; cases ob <;> simp), fun h1 h2 => (hB.block _ (heap_lt (hN h1 h2))).trans (hN h1 h2)⟩)
       have HB := Lib.hid hb
       have HHE := Lib.hid hHE
       have HX := Lib.hid hX
       have HO := Lib.hid hO
       have HN := Lib.hid hN
       have HS := Lib.hid hS
       clear hHE hX hO hN hb hS
       subst hA
       rcases hi with rfl | rfl | rfl | rfl | rfl | rfl | rfl | rfl | rfl | hi
       · simp only [↓List.getElem?_toArray, ↓List.getElem?_cons_zero, ↓List.getElem?_cons_succ, Option.some.injEq] at ho
         subst ho
         refine .inl ⟨by kernel_rfl, FreeS.keep fun K hK => ?_⟩
         try dsimp only
         try simp only [putL]
         have h19 : d 19 = false := by cases h : d 19 with | false => rfl | true => (have := hclosed 19 1 { dst := none, op := Op.store 31 (Operand.tmp 53) (Operand.tmp 52), type := 0, pos := "outright.go:71", after := #[{ on := 18, ground := Ground.data }, { on := 17, ground := Ground.data }, { on := 17, ground := Ground.chain }, { on := 0, ground := Ground.phase }, { on := 1, ground := Ground.phase }, { on := 2, ground := Ground.phase }, { on := 3, ground := Ground.phase }, { on := 4, ground := Ground.phase }, { on := 5, ground := Ground.phase }, { on := 6, ground := Ground.phase }, { on := 7, ground := Ground.phase }, { on := 8, ground := Ground.phase }, { on := 9, ground := Ground.phase }, { on := 10, ground := Ground.phase }, { on := 11, ground := Ground.phase }, { on := 12, ground := Ground.phase }, { on := 13, ground := Ground.phase }, { on := 14, ground := Ground.phase }, { on := 15, ground := Ground.phase }, { on := 16, ground := Ground.phase }, { on := 17, ground := Ground.phase }], guard := none } h rfl (by kernel_rfl); rw [hd] at this; cases this)
         have hX1 : wq.heap[kb]? = some (.cells #[v, I f0, I f1, I f2] 37 (0, 0)) := by rw [HX.out, h19]; rfl
         have qX := cell_of_row wq _ 0 _ _ _ hX1
         simp only [List.getElem?_toArray, List.getElem?_cons_zero, List.getElem?_cons_succ] at qX
         clear hX1
         go_simp
         exact FreeS.val (hK _ _ ⟨(n5, g, cap), rfl, fun _ _ => rfl, HS.out⟩)
       · simp only [↓List.getElem?_toArray, ↓List.getElem?_cons_zero, ↓List.getElem?_cons_succ, Option.some.injEq] at ho
         subst ho
         refine .inl ⟨by kernel_rfl, FreeS.keep fun K hK => ?_⟩
         try dsimp only
         try simp only [putL]
         have qB := (HHE.out.1 _ 0 hlBk).trans qB0
         go_simp
         exact FreeS.val (hK _ _ ⟨(n5, g, cap), rfl, fun _ _ => rfl, HS.out⟩)
       · simp only [↓List.getElem?_toArray, ↓List.getElem?_cons_zero, ↓List.getElem?_cons_succ, Option.some.injEq] at ho
         subst ho
         refine .inl ⟨by kernel_rfl, FreeS.keep fun K hK => ?_⟩
         try dsimp only
         try simp only [putL]
         have q0q := (HHE.out.1 tb (to + j * 2) htbk).trans q0
         have q1q := (HHE.out.1 tb (to + j * 2 + 1) htbk).trans q1
         go_simp
         exact FreeS.val (hK _ _ ⟨(n5, g, cap), rfl, fun _ _ => rfl, HS.out⟩)
       · simp only [↓List.getElem?_toArray, ↓List.getElem?_cons_zero, ↓List.getElem?_cons_succ, Option.some.injEq] at ho
         subst ho
         refine .inl ⟨by kernel_rfl, FreeS.keep fun K hK => ?_⟩
         try dsimp only
         try simp only [putL]
         go_simp
         exact FreeS.enter ((HCJ.out _ HB.out).mono fun e w'' h => ⟨_, h.1, hK _ _ ⟨(n5, g, cap), rfl, fun _ _ => rfl, HKE.out _ h.2⟩⟩)
       · simp only [↓List.getElem?_toArray, ↓List.getElem?_cons_zero, ↓List.getElem?_cons_succ, Option.some.injEq] at ho
         subst ho
         refine .inl ⟨by kernel_rfl, FreeS.keep fun K hK => ?_⟩
         try dsimp only
         try simp only [putL]
         go_simp
         exact FreeS.enter ((HCO.out _ HB.out).mono fun e w'' h => ⟨_, h.1, hK _ _ ⟨(n5, g, cap), rfl, fun _ _ => rfl, HKE.out _ h.2⟩⟩)
       · simp only [↓List.getElem?_toArray, ↓List.getElem?_cons_zero, ↓List.getElem?_cons_succ, Option.some.injEq] at ho
         subst ho
         refine .inl ⟨by kernel_rfl, FreeS.keep fun K hK => ?_⟩
         try dsimp only
         try simp only [putL]
         go_simp
         exact FreeS.enter ((HWJ.out _ HB.out).mono fun e w'' h => ⟨_, h.1, hK _ _ ⟨(n5, g, cap), rfl, fun _ _ => rfl, HKE.out _ h.2⟩⟩)
       · simp only [↓List.getElem?_toArray, ↓List.getElem?_cons_zero, ↓List.getElem?_cons_succ, Option.some.injEq] at ho
         subst ho
         refine .inl ⟨by kernel_rfl, FreeS.keep fun K hK => ?_⟩
         try dsimp only
         try simp only [putL]
         go_simp
         refine FreeS.val (hK _ _ ⟨(wq.heap.size, g, cap), rfl, ?_, heldB_of (HHE.out.2.alloc hle _), Nat.le_trans hz (by simp), (Below.heap_alloc _ _ _ (heap_lt HX.out)).trans HX.out, HO.out.alloc _, fun _ _ => heap_at _ _ rfl⟩)
         intro k hk
         rcases Nat.lt_or_ge k 20 with hkN | hkN
         · have hk' : k = 0 ∨ k = 1 ∨ k = 2 ∨ k = 3 ∨ k = 4 ∨ k = 5 ∨ k = 6 ∨ k = 7 ∨ k = 8 ∨ k = 9 ∨ k = 10 ∨ k = 11 ∨ k = 12 ∨ k = 13 ∨ k = 14 ∨ k = 15 ∨ k = 16 ∨ k = 17 ∨ k = 18 ∨ k = 19 := by omega
           rcases hk' with rfl | rfl | rfl | rfl | rfl | rfl | rfl | rfl | rfl | rfl | rfl | rfl | rfl | rfl | rfl | rfl | rfl | rfl | rfl | rfl
           · rfl
           · rfl
           · rfl
           · rfl
           · rfl
           · rfl
           · rfl
           · rfl
           · rfl
           · rfl
           · rfl
           · rfl
           · rfl
           · rfl
           · rfl
           · rfl
           · rw [hd] at hk; cases hk
           · rfl
           · rfl
           · rfl
         · rw [List.getElem?_eq_none (by simpa using hkN), List.getElem?_eq_none (by simpa using hkN)]
       · simp only [↓List.getElem?_toArray, ↓List.getElem?_cons_zero, ↓List.getElem?_cons_succ, Option.some.injEq] at ho
         subst ho
         refine .inl ⟨by kernel_rfl, FreeS.keep fun K hK => ?_⟩
         try dsimp only
         try simp only [putL]
         have h16 := hdep 16 (by kernel_rfl)
         have h19 : d 19 = false := by cases h : d 19 with | false => rfl | true => (have := hclosed 19 17 { dst := none, op := Op.store 31 (Operand.tmp 53) (Operand.tmp 52), type := 0, pos := "outright.go:71", after := #[{ on := 18, ground := Ground.data }, { on := 17, ground := Ground.data }, { on := 17, ground := Ground.chain }, { on := 0, ground := Ground.phase }, { on := 1, ground := Ground.phase }, { on := 2, ground := Ground.phase }, { on := 3, ground := Ground.phase }, { on := 4, ground := Ground.phase }, { on := 5, ground := Ground.phase }, { on := 6, ground := Ground.phase }, { on := 7, ground := Ground.phase }, { on := 8, ground := Ground.phase }, { on := 9, ground := Ground.phase }, { on := 10, ground := Ground.phase }, { on := 11, ground := Ground.phase }, { on := 12, ground := Ground.phase }, { on := 13, ground := Ground.phase }, { on := 14, ground := Ground.phase }, { on := 15, ground := Ground.phase }, { on := 16, ground := Ground.phase }, { on := 17, ground := Ground.phase }], guard := none } h rfl (by kernel_rfl); rw [hd] at this; cases this)
         have hN1 := HN.out h16 hd
         have hO1 : wq.ownsRow (kb + 1) 3 1 v n' xs := by have h := HO.out; rw [hd] at h; exact h
         obtain ⟨i0, hi, hq0, hq1', hq2⟩ := info_parts infoI
         obtain ⟨v2, w2, hrun, ho2, hg2, -, -⟩ := run_append_own_at (P := Try.prog) wq (kb + 1) 31 31 3 i0 (I 0) 1 8 underIs hi hq0 hq1' hq2 rfl (by decide) v n' xs hO1 ⟨n5, 0, none⟩ 1 1 [I yv] rfl (fun j u hj => by rw [Addr.add_lit, Nat.zero_add, cell_of_row _ _ j _ _ _ hN1]; simpa using hj) (by intro u hu; simp at hu; rw [hu]; rfl) (by unfold maxLen; omega) (by omega) hz
         have hA : Below (kb + 1) wq w2 := ⟨hg2.os, hg2.tape, hg2.output, hg2.size, fun i hi => hg2.block i (Nat.lt_of_lt_of_le hi hz) (fun e => by have := (hO1.lt i e.symm).1; omega)⟩
         refine free_append (t := 31) (v0 := v) (vx := .slice (some ⟨n5, 0, none⟩) 1 1) (v' := v2) (w' := w2) (by rfl) (by simp [go_sem]) (by simp [go_sem]) hrun ?_
         rcases ho2 with ⟨hx2, ⟨he, hc2⟩ | ⟨g2, cap2, cur2, rfl, hxx2⟩⟩
         · exfalso; simp at hc2
         refine hK _ _ ⟨(n5, g2, cap2), rfl, ?_, heldB_of (HHE.out.2.trans (hA.mono (Nat.le_succ _))), Nat.le_trans hz hA.size, ?_, ⟨hx2, .inr ⟨g2, cap2, cur2, rfl, hxx2⟩⟩, fun _ h2 => by simp at h2⟩
         · intro k hk
           rcases Nat.lt_or_ge k 20 with hkN | hkN
           · have hk' : k = 0 ∨ k = 1 ∨ k = 2 ∨ k = 3 ∨ k = 4 ∨ k = 5 ∨ k = 6 ∨ k = 7 ∨ k = 8 ∨ k = 9 ∨ k = 10 ∨ k = 11 ∨ k = 12 ∨ k = 13 ∨ k = 14 ∨ k = 15 ∨ k = 16 ∨ k = 17 ∨ k = 18 ∨ k = 19 := by omega
             rcases hk' with rfl | rfl | rfl | rfl | rfl | rfl | rfl | rfl | rfl | rfl | rfl | rfl | rfl | rfl | rfl | rfl | rfl | rfl | rfl | rfl
             · rfl
             · rfl
             · rfl
             · rfl
             · rfl
             · rfl
             · rfl
             · rfl
             · rfl
             · rfl
             · rfl
             · rfl
             · rfl
             · rfl
             · rfl
             · rfl
             · rfl
             · rw [hd] at hk; cases hk
             · rfl
             · rfl
           · rw [List.getElem?_eq_none (by simpa using hkN), List.getElem?_eq_none (by simpa using hkN)]
         · refine (hA.block _ (Nat.lt_succ_self _)).trans (HX.out.trans ?_)
           show _ = some (Obj.cells #[(if d 19 = true then .slice (some ⟨g2, 0, none⟩) (n' + 1) cap2 else v), I f0, I f1, I f2] 37 (0, 0))
           rw [h19]
           rfl
       · simp only [↓List.getElem?_toArray, ↓List.getElem?_cons_zero, ↓List.getElem?_cons_succ, Option.some.injEq] at ho
         subst ho
         refine .inl ⟨by kernel_rfl, FreeS.keep fun K hK => ?_⟩
         try dsimp only
         try simp only [putL]
         have h17 := hdep 17 (by kernel_rfl)
         have hX1 : wq.heap[kb]? = some (.cells #[v, I f0, I f1, I f2] 37 (0, 0)) := by rw [HX.out, hd]; rfl
         have qX := cell_of_row wq _ 0 _ _ _ hX1
         simp only [List.getElem?_toArray, List.getElem?_cons_zero, List.getElem?_cons_succ] at qX
         have fX : wq.frozen? ⟨kb, 0, none⟩ = false := by simp [World.frozen?, hX1]
         have hO1 : wq.ownsRow (kb + 1) 3 1 (.slice (some ⟨g, 0, none⟩) (n' + 1) cap) (n' + 1) (xs ++ [I yv]) := by have h := HO.out; rw [h17] at h; exact h
         have HX1 := Lib.hid hX1
         clear hX1
         go_simp
         refine FreeS.skip (hK _ _ ⟨(n5, g, cap), rfl, fun _ _ => rfl, heldB_of (HHE.out.2.setCell (p := ⟨kb, 0, none⟩) (Nat.le_refl _) (.slice (some ⟨g, 0, none⟩) (n' + 1) cap)), Nat.le_trans hz (by simp [World.setCell]), ?_, ?_, fun _ h2 => ?_⟩)
         · simp [World.setCell, Array.getElem?_modify, HX1.out]
         · have h17' : (17 == 19 || d 17) = true := h17
           simp only [h17', if_true]
           refine hO1.kept (row := some kb) ⟨rfl, rfl, rfl, by simp [World.setCell], fun k _ hk => Below.heap_setCell _ _ _ _ (fun e => hk (by rw [e]))⟩ (.inr ?_)
           have := (hO1.lt g rfl).1
           simp [Value.ownBlock]
           omega
         · have h3 : d 17 = false := h2
           rw [h17] at h3
           cases h3
       · rcases hi with rfl | rfl | rfl | rfl | rfl | rfl | rfl | rfl | rfl | rfl | rfl <;>
          (simp only [↓List.getElem?_toArray, ↓List.getElem?_cons_zero, ↓List.getElem?_cons_succ, Option.some.injEq] at ho
           subst ho
           refine .inl ⟨by kernel_rfl, FreeS.keep fun K hK => ?_⟩
           try dsimp only
           try simp only [putL]
           go_simp
           exact FreeS.val (hK _ _ ⟨(n5, g, cap), rfl, fun _ _ => rfl, HS.out⟩))
      case hend =>
       rintro d ⟨n5, g, cap⟩ wq hall hS
       try dsimp only at hS ⊢
       have h17 := hall 17 (by decide)
       have h19 := hall 19 (by decide)
       obtain ⟨hHE, hz, hX, hO, -⟩ := hS
       simp only [h17, h19, if_true] at hX hO
       show R _ _
       rw [HR.out]
       exact ⟨g, cap, ⟨_, _, _, _, _, _, _, _, _, _, _, _, _, _, _, _, _, _, _, rfl⟩, hX, hO, hHE⟩
     case rest5 =>
      intro a' w7 hra
      rw [HR.out] at hra
      clear HR
      obtain ⟨g, cap, ⟨u35, u36, u37, u38, u39, u40, u41, u42, u43, u44, u45, u46, u47, u48, u49, u50, u51, u52, u53, rfl⟩, rX3, hown3, hHE⟩ := hra
      subst hA
      try simp only [putL]
      go_wp2_with fail
      go_roundw
      case rel =>
       refine ⟨j + 1, _, by omega, by go_num, HBr.out.trans hHE.2, rX3, ?_⟩
       rw [HSU.out, List.length_append, List.map_append, HM.out, HXS.out]
       simpa using hown3
      case measure => simp [intOf]; omega
   · obtain rfl : j = b.tides.length := by omega
     have rO2 := (HBr.out.block (w.heap.size + 1) hlOk).trans RO5.out
     have hsl := sl_ownN HOWN.out (Nat.le_refl _)
     have HSL := Lib.hid hsl
     obtain ⟨Au, cu, rfl⟩ := hsl.form
     clear hsl
     have rX2 := RXR.out
     have qX0 := cell_of_row wr _ 0 _ _ _ rX2
     have qO0 := cell_of_row wr _ 0 _ _ _ rO2
     have zO0 : wr.frozen? ⟨w.heap.size + 1, 0, none⟩ = false := by simp [World.frozen?, rO2]
     have qX1 := cell_of_row wr _ 1 _ _ _ rX2
     have qO1 := cell_of_row wr _ 1 _ _ _ rO2
     have zO1 : wr.frozen? ⟨w.heap.size + 1, 1, none⟩ = false := by simp [World.frozen?, rO2]
     have qX2 := cell_of_row wr _ 2 _ _ _ rX2
     have qO2 := cell_of_row wr _ 2 _ _ _ rO2
     have zO2 : wr.frozen? ⟨w.heap.size + 1, 2, none⟩ = false := by simp [World.frozen?, rO2]
     have qX3 := cell_of_row wr _ 3 _ _ _ rX2
     have qO3 := cell_of_row wr _ 3 _ _ _ rO2
     have zO3 : wr.frozen? ⟨w.heap.size + 1, 3, none⟩ = false := by simp [World.frozen?, rO2]
     simp only [List.getElem?_toArray, List.getElem?_cons_zero, List.getElem?_cons_succ] at qX0 qX1 qX2 qX3 qO0 qO1 qO2 qO3
     clear rX2 rO2
     go_wp2_with fail
     have hne : ∀ g o n c, (Value.slice Au (Ld.heightsTo b bits b.tides.length).length cu) = .slice (some ⟨g, o, none⟩) n c → g ≠ w.heap.size + 1 := fun g o n c e => by
      have := (HOWN.out.lt g (by rw [e]; rfl)).1
      omega
     refine bodyPost_ret (v := .agg #[.slice Au (Ld.heightsTo b bits b.tides.length).length cu, I f0, I f1, I f2]) (by simp [results, Try.results14, go_sem, qO0, qO1, qO2, qO3]) rfl ⟨⟨.slice Au (Ld.heightsTo b bits b.tides.length).length cu, ?_, (?_ : Sl _ _ 1 _ (Ld.heightsTo b bits b.tides.length).length ((Ld.heightsTo b bits b.tides.length).map I))⟩, (?_ : Below _ _ _)⟩
     · obtain ⟨⟨k1, k2⟩, ⟨k3, k4⟩, k5, k6⟩ := HEQ.out
       rw [← k2, ← k4, ← k6, ← k1, ← k3, ← k5]
       rfl
     · refine Sl.more (HSL.out.same (fun g o n c e => ?_)) (by simp [World.setCell])
       have h1 := hne g o n c e
       exact (Below.heap_setCell _ _ _ _ h1).trans ((Below.heap_setCell _ _ _ _ h1).trans ((Below.heap_setCell _ _ _ _ h1).trans (Below.heap_setCell _ _ _ _ h1)))
     · refine Below.setCell (Below.setCell (Below.setCell (Below.setCell HBw.out ?_ _) ?_ _) ?_ _) ?_ _
       all_goals (simp <;> omega)
end Go.Proofs.Ytjgpghaofhcfnaa
