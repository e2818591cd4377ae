/- Texts on the program that the proof leans on, part 7. -/
import Derived.Test.YtjgpghaofhcfnaaYaf
set_option linter.unusedVariables false
set_option linter.unusedSimpArgs false

namespace Go.Proofs.Ytjgpghaofhcfnaa
open Go.RowKit
set_option maxRecDepth 100000 in
set_option maxHeartbeats 4000000 in
theorem allSounds_any (b : Ld.Bk) (T D : Value) (w : World) (hb : RB w w.heap.size b T D) :
 Calls Try.prog 82 #[vBk T D b] w fun e w' => e = .returned (.bool (Ld.allSounds b)) ∧ Below w.heap.size w w' := by
 obtain ⟨A, c, rfl⟩ := hb.tides.form
 obtain ⟨A1, c1, rfl⟩ := hb.sounds.form
 have hm := hb.sounds.le
 unfold maxLen at hm
 go_enter Try.func82, Try.ntmps82
 go_wp2_with fail
 refine name_world ?_
 intro W0 hW0
 have hb0 : Below w.heap.size w W0 := by rw [hW0]; exact (Below.refl _ _).alloc (Nat.le_refl _) _
 have r0 : W0.heap[w.heap.size]? = some (.cells (rBk (.slice A b.tides.length c) (.slice A1 b.sounds.length c1) b) 30 (0, 0)) := by rw [hW0]; exact heap_at _ _ rfl
 have R0 := Lib.hid r0
 have HB0 := Lib.hid hb0
 have HRB := Lib.hid hb
 clear hW0 r0 hb0 hb
 go_loopw [8] (fun i wr => ∃ k : Nat, k ≤ b.sounds.length ∧ i = I k ∧ Below W0.heap.size W0 wr ∧ (b.sounds.take k).all (Ld.okSound b) = true) (fun i _ => b.sounds.length - (intOf i).toNat)
 case atStart => exact ⟨0, Nat.zero_le _, rfl, Below.refl _ _, rfl⟩
 case round =>
  obtain ⟨k, hk, rfl, hB, hall⟩ := hrel
  have hbw : Below w.heap.size w wr := HB0.out.trans (hB.mono HB0.out.size)
  have rbk := (hB.block _ (heap_lt R0.out)).trans R0.out
  have hlk := heap_lt rbk
  by_cases hlt : k < b.sounds.length
  · obtain ⟨bl, off, c', hv, hbl, h0, h1, h2⟩ := (HRB.out.up hbw).sounds.sd hlt
    injection hv with hA _ hc
    subst hA hc
    have hki : (k : Int) < b.sounds.length := by omega
    obtain ⟨x, hx⟩ : ∃ x, b.sounds[k] = x := ⟨_, rfl⟩
    rw [hx] at h0 h1 h2
    have HX := Lib.hid hx
    have HALL := Lib.hid hall
    have HB := Lib.hid hB
    have HBW := Lib.hid hbw
    have RBK := Lib.hid rbk
    clear hx hall hB hbw rbk
    go_wp2_with fail
    refine name_world ?_
    intro W hW
    have hBW : Below wr.heap.size wr W := by rw [hW]; exact (Below.refl _ _).alloc (Nat.le_refl _) _
    have rS : W.heap[wr.heap.size]? = some (.cells #[I x.hour, I x.shore, I x.deep] 64 (0, 0)) := by rw [hW]; exact heap_at _ _ rfl
    have rB : W.heap[w.heap.size]? = _ := (hBW.block _ hlk).trans RBK.out
    have hl0 : wr.heap.size < W.heap.size := heap_lt rS
    have hl1 : w.heap.size < W.heap.size := heap_lt rB
    have hbW := HBW.out.trans (hBW.mono HBW.out.size)
    have HWW := Lib.hid hBW
    have HSL0 : ∀ W', Held W W' → Calls Try.prog 58 #[vBk (.slice A b.tides.length c) (.slice (some ⟨bl, off, none⟩) b.sounds.length c1) b, vSlip x.hour x.shore] W' fun e w' => e = .returned (.bool (Ld.isSlip b x.hour x.shore)) ∧ Below W'.heap.size W' w' := fun W' h => isSlip_any b _ _ _ _ W' (HRB.out.up (hbW.trans (h.2.2.mono hbW.size)))
    have HSL := Lib.hid HSL0
    have HBX0 := Lib.hid hbW
    have b0 := cell_of_row W _ 0 _ _ _ rB
    have b1 := cell_of_row W _ 1 _ _ _ rB
    have b2 := cell_of_row W _ 2 _ _ _ rB
    have b3 := cell_of_row W _ 3 _ _ _ rB
    have b4 := cell_of_row W _ 4 _ _ _ rB
    have b5 := cell_of_row W _ 5 _ _ _ rB
    have b6 := cell_of_row W _ 6 _ _ _ rB
    have b7 := cell_of_row W _ 7 _ _ _ rB
    have b8 := cell_of_row W _ 8 _ _ _ rB
    have b9 := cell_of_row W _ 9 _ _ _ rB
    have b10 := cell_of_row W _ 10 _ _ _ rB
    have b11 := cell_of_row W _ 11 _ _ _ rB
    have b12 := cell_of_row W _ 12 _ _ _ rB
    have b13 := cell_of_row W _ 13 _ _ _ rB
    have s0 := cell_of_row W _ 0 _ _ _ rS
    have s1 := cell_of_row W _ 1 _ _ _ rS
    have s2 := cell_of_row W _ 2 _ _ _ rS
    simp only [List.getElem?_toArray, List.getElem?_cons_zero, List.getElem?_cons_succ] at s0 s1 s2 b0 b1 b2 b3 b4 b5 b6 b7 b8 b9 b10 b11 b12 b13
    have HLT : Hid (k < b.sounds.length) := Lib.hid hlt
    clear hW hBW rS rB HSL0 hbW h0 h1 h2 hbl hlk hki
    cases hs1 : Ld.isSlip b x.hour x.shore
    · have HSS : Hid (∀ W', Held W W' → Calls Try.prog 58 #[vBk (.slice A b.tides.length c) (.slice (some ⟨bl, off, none⟩) b.sounds.length c1) b, vSlip x.hour x.shore] W' fun e w' => e = .returned (.bool false) ∧ Below W'.heap.size W' w') := Lib.hid fun W' h => by rw [← hs1]; exact HSL.out W' h
      have HS1 := Lib.hid hs1
      clear hs1
      refine wp_region_held_drew (S := fun w' => Held W w') (by kernel_rfl) (held_start W) (fun _ => ?_)
      refine wpAnyH_take (i := 0) (oi := { dst := some 12, op := Op.load 30 (Operand.tmp 1), type := 30, pos := "valid.go:51", after := #[], guard := none }) (v := ?v1) rfl (by kernel_rfl) (by kernel_rfl) (by kernel_rfl) (fun _ _ _ h => h) (Or.inl ⟨by rfl, ?hy1⟩) (held_start W) ?r1
      case hy1 =>
       intro w' hSw
       have hq := hSw.1
       clear hSw
       go_simp
       with_reducible rfl
      try simp only [putL]
      refine wpAnyH_take (i := 1) (oi := { dst := some 13, op := Op.load 64 (Operand.tmp 4), type := 64, pos := "valid.go:51", after := #[], guard := none }) (v := ?v2) rfl (by kernel_rfl) (by kernel_rfl) (by kernel_rfl) (fun _ _ _ h => h) (Or.inl ⟨by rfl, ?hy2⟩) (held_start W) ?r2
      case hy2 =>
       intro w' hSw
       have hq := hSw.1
       clear hSw
       go_simp
       with_reducible rfl
      try simp only [putL]
      refine wpAnyH_ready (rs := [2]) (by kernel_rfl) (by simp) ?_
      refine AllReadyH.cons rfl (fun K hK => ?_) AllReadyH.nil
      go_simp
      refine (slipOf_any x _).mono ?_
      rintro e w3 ⟨rfl, hBw3⟩
      have hSw3 := held_step hBw3 (held_start W)
      refine hK.out _ _ hSw3 (fun _ => ?_)
      clear hK K
      try simp only [putL]
      refine wpAnyH_ready (rs := [3]) (by kernel_rfl) (by simp) ?_
      refine AllReadyH.cons rfl (fun K hK => ?_) AllReadyH.nil
      go_simp
      refine (HSS.out _ hSw3).mono ?_
      rintro e w4 ⟨rfl, hBw4⟩
      have hSw4 := held_step hBw4 hSw3
      refine hK.out _ _ hSw4 (fun _ => ?_)
      clear hK K
      try simp only [putL]
      refine wpAnyH_take (i := 4) (oi := { dst := some 16, op := Op.unOp UnOp.not 4 (Operand.tmp 15), type := 4, pos := "valid.go:51", after := #[{ on := 3, ground := Ground.data }], guard := none }) (v := ?v5) rfl (by kernel_rfl) (by kernel_rfl) (by kernel_rfl) (fun _ _ _ h => h) (Or.inl ⟨by rfl, ?hy5⟩) hSw4 ?r5
      case hy5 =>
       intro w' hSw
       have hq := hSw.1
       clear hSw
       go_simp
       with_reducible rfl
      try simp only [putL]
      refine wpAnyH_take (i := 5) (oi := { dst := some 17, op := Op.move (Operand.tmp 16), type := 4, pos := "valid.go:51", after := #[{ on := 4, ground := Ground.data }, { on := 3, ground := Ground.chain }], guard := none }) (v := ?v6) rfl (by kernel_rfl) (by kernel_rfl) (by kernel_rfl) (fun _ _ _ h => h) (Or.inl ⟨by rfl, ?hy6⟩) hSw4 ?r6
      case hy6 =>
       intro w' hSw
       have hq := hSw.1
       clear hSw
       go_simp
       with_reducible rfl
      try simp only [putL]
      refine wpAnyH_take (i := 6) (oi := { dst := some 18, op := Op.fieldAddr 64 (Operand.tmp 4) 2, type := 0, pos := "valid.go:51", after := #[{ on := 5, ground := Ground.guard }], guard := some (5, false) }) (v := undef) rfl (by kernel_rfl) (by kernel_rfl) (by kernel_rfl) (fun _ _ _ h => h) (Or.inr ⟨by rfl, rfl⟩) hSw4 ?_
      try simp only [putL]
      refine wpAnyH_take (i := 7) (oi := { dst := some 19, op := Op.load 3 (Operand.tmp 18), type := 3, pos := "valid.go:51", after := #[{ on := 6, ground := Ground.data }, { on := 5, ground := Ground.guard }], guard := some (5, false) }) (v := undef) rfl (by kernel_rfl) (by kernel_rfl) (by kernel_rfl) (fun _ _ _ h => h) (Or.inr ⟨by rfl, rfl⟩) hSw4 ?_
      try simp only [putL]
      refine wpAnyH_take (i := 8) (oi := { dst := some 20, op := Op.call { callee := Callee.value (Operand.func 101), args := #[Operand.tmp 19], argTypes := #[3] }, type := 4, pos := "valid.go:51", after := #[{ on := 7, ground := Ground.data }, { on := 5, ground := Ground.chain }, { on := 5, ground := Ground.guard }], guard := some (5, false) }) (v := undef) rfl (by kernel_rfl) (by kernel_rfl) (by kernel_rfl) (fun _ _ _ h => h) (Or.inr ⟨by rfl, rfl⟩) hSw4 ?_
      try simp only [putL]
      refine wpAnyH_take (i := 9) (oi := { dst := some 21, op := Op.unOp UnOp.not 4 (Operand.tmp 20), type := 4, pos := "valid.go:51", after := #[{ on := 8, ground := Ground.data }, { on := 5, ground := Ground.guard }], guard := some (5, false) }) (v := undef) rfl (by kernel_rfl) (by kernel_rfl) (by kernel_rfl) (fun _ _ _ h => h) (Or.inr ⟨by rfl, rfl⟩) hSw4 ?_
      try simp only [putL]
      refine wpAnyH_take (i := 10) (oi := { dst := some 22, op := Op.pick (Operand.tmp 17) (Operand.const (Value.bool true)) (Operand.tmp 21), type := 4, pos := "valid.go:51", after := #[{ on := 5, ground := Ground.data }, { on := 9, ground := Ground.data }], guard := none }) (v := ?v7) rfl (by kernel_rfl) (by kernel_rfl) (by kernel_rfl) (fun _ _ _ h => h) (Or.inl ⟨by rfl, ?hy7⟩) hSw4 ?r7
      case hy7 =>
       intro w' hSw
       have hq := hSw.1
       clear hSw
       go_simp
       with_reducible rfl
      try simp only [putL]
      refine wpAnyH_done (by kernel_rfl) ?_ _
      have hbX : Below W0.heap.size W0 w4 ∧ Below w.heap.size w w4 := ⟨HB.out.trans ((HWW.out.trans (hSw4.2.2.mono HWW.out.size)).mono HB.out.size), HBX0.out.trans (hSw4.2.2.mono HBX0.out.size)⟩
      have HBX := Lib.hid hbX
      clear hbX
      go_wp2_with fail
      go_ret
      exact ⟨ret_b (Eq.symm (by unfold Ld.allSounds; exact all_false HLT.out (by rw [HX.out]; simp [Ld.okSound, HS1.out]))), HBX.out.2⟩
    · cases hs2 : Ld.isDeep x.deep
      · have HSS : Hid (∀ W', Held W W' → Calls Try.prog 58 #[vBk (.slice A b.tides.length c) (.slice (some ⟨bl, off, none⟩) b.sounds.length c1) b, vSlip x.hour x.shore] W' fun e w' => e = .returned (.bool true) ∧ Below W'.heap.size W' w') := Lib.hid fun W' h => by rw [← hs1]; exact HSL.out W' h
        have HSD : Hid (∀ W', Calls Try.prog 101 #[I x.deep] W' fun e w' => e = .returned (.bool false) ∧ Below W'.heap.size W' w') := Lib.hid fun W' => by rw [← hs2]; exact isDeep_any _ W'
        have HS1 := Lib.hid hs1
        have HS2 := Lib.hid hs2
        clear hs1 hs2
        refine wp_region_held_drew (S := fun w' => Held W w') (by kernel_rfl) (held_start W) (fun _ => ?_)
        refine wpAnyH_take (i := 0) (oi := { dst := some 12, op := Op.load 30 (Operand.tmp 1), type := 30, pos := "valid.go:51", after := #[], guard := none }) (v := ?v8) rfl (by kernel_rfl) (by kernel_rfl) (by kernel_rfl) (fun _ _ _ h => h) (Or.inl ⟨by rfl, ?hy8⟩) (held_start W) ?r8
        case hy8 =>
         intro w' hSw
         have hq := hSw.1
         clear hSw
         go_simp
         with_reducible rfl
        try simp only [putL]
        refine wpAnyH_take (i := 1) (oi := { dst := some 13, op := Op.load 64 (Operand.tmp 4), type := 64, pos := "valid.go:51", after := #[], guard := none }) (v := ?v9) rfl (by kernel_rfl) (by kernel_rfl) (by kernel_rfl) (fun _ _ _ h => h) (Or.inl ⟨by rfl, ?hy9⟩) (held_start W) ?r9
        case hy9 =>
         intro w' hSw
         have hq := hSw.1
         clear hSw
         go_simp
         with_reducible rfl
        try simp only [putL]
        refine wpAnyH_ready (rs := [2]) (by kernel_rfl) (by simp) ?_
        refine AllReadyH.cons rfl (fun K hK => ?_) AllReadyH.nil
        go_simp
        refine (slipOf_any x _).mono ?_
        rintro e w10 ⟨rfl, hBw10⟩
        have hSw10 := held_step hBw10 (held_start W)
        refine hK.out _ _ hSw10 (fun _ => ?_)
        clear hK K
        try simp only [putL]
        refine wpAnyH_ready (rs := [3]) (by kernel_rfl) (by simp) ?_
        refine AllReadyH.cons rfl (fun K hK => ?_) AllReadyH.nil
        go_simp
        refine (HSS.out _ hSw10).mono ?_
        rintro e w11 ⟨rfl, hBw11⟩
        have hSw11 := held_step hBw11 hSw10
        refine hK.out _ _ hSw11 (fun _ => ?_)
        clear hK K
        try simp only [putL]
        refine wpAnyH_take (i := 4) (oi := { dst := some 16, op := Op.unOp UnOp.not 4 (Operand.tmp 15), type := 4, pos := "valid.go:51", after := #[{ on := 3, ground := Ground.data }], guard := none }) (v := ?v12) rfl (by kernel_rfl) (by kernel_rfl) (by kernel_rfl) (fun _ _ _ h => h) (Or.inl ⟨by rfl, ?hy12⟩) hSw11 ?r12
        case hy12 =>
         intro w' hSw
         have hq := hSw.1
         clear hSw
         go_simp
         with_reducible rfl
        try simp only [putL]
        refine wpAnyH_take (i := 5) (oi := { dst := some 17, op := Op.move (Operand.tmp 16), type := 4, pos := "valid.go:51", after := #[{ on := 4, ground := Ground.data }, { on := 3, ground := Ground.chain }], guard := none }) (v := ?v13) rfl (by kernel_rfl) (by kernel_rfl) (by kernel_rfl) (fun _ _ _ h => h) (Or.inl ⟨by rfl, ?hy13⟩) hSw11 ?r13
        case hy13 =>
         intro w' hSw
         have hq := hSw.1
         clear hSw
         go_simp
         with_reducible rfl
        try simp only [putL]
        refine wpAnyH_take (i := 6) (oi := { dst := some 18, op := Op.fieldAddr 64 (Operand.tmp 4) 2, type := 0, pos := "valid.go:51", after := #[{ on := 5, ground := Ground.guard }], guard := some (5, false) }) (v := ?v14) rfl (by kernel_rfl) (by kernel_rfl) (by kernel_rfl) (fun _ _ _ h => h) (Or.inl ⟨by rfl, ?hy14⟩) hSw11 ?r14
        case hy14 =>
         intro w' hSw
         have hq := hSw.1
         clear hSw
         go_simp
         with_reducible rfl
        try simp only [putL]
        refine wpAnyH_take (i := 7) (oi := { dst := some 19, op := Op.load 3 (Operand.tmp 18), type := 3, pos := "valid.go:51", after := #[{ on := 6, ground := Ground.data }, { on := 5, ground := Ground.guard }], guard := some (5, false) }) (v := ?v15) rfl (by kernel_rfl) (by kernel_rfl) (by kernel_rfl) (fun _ _ _ h => h) (Or.inl ⟨by rfl, ?hy15⟩) hSw11 ?r15
        case hy15 =>
         intro w' hSw
         have hq := hSw.1
         clear hSw
         go_simp
         with_reducible rfl
        try simp only [putL]
        refine wpAnyH_ready (rs := [8]) (by kernel_rfl) (by simp) ?_
        refine AllReadyH.cons rfl (fun K hK => ?_) AllReadyH.nil
        go_simp
        refine (HSD.out _).mono ?_
        rintro e w16 ⟨rfl, hBw16⟩
        have hSw16 := held_step hBw16 hSw11
        refine hK.out _ _ hSw16 (fun _ => ?_)
        clear hK K
        try simp only [putL]
        refine wpAnyH_take (i := 9) (oi := { dst := some 21, op := Op.unOp UnOp.not 4 (Operand.tmp 20), type := 4, pos := "valid.go:51", after := #[{ on := 8, ground := Ground.data }, { on := 5, ground := Ground.guard }], guard := some (5, false) }) (v := ?v17) rfl (by kernel_rfl) (by kernel_rfl) (by kernel_rfl) (fun _ _ _ h => h) (Or.inl ⟨by rfl, ?hy17⟩) hSw16 ?r17
        case hy17 =>
         intro w' hSw
         have hq := hSw.1
         clear hSw
         go_simp
         with_reducible rfl
        try simp only [putL]
        refine wpAnyH_take (i := 10) (oi := { dst := some 22, op := Op.pick (Operand.tmp 17) (Operand.const (Value.bool true)) (Operand.tmp 21), type := 4, pos := "valid.go:51", after := #[{ on := 5, ground := Ground.data }, { on := 9, ground := Ground.data }], guard := none }) (v := ?v18) rfl (by kernel_rfl) (by kernel_rfl) (by kernel_rfl) (fun _ _ _ h => h) (Or.inl ⟨by rfl, ?hy18⟩) hSw16 ?r18
        case hy18 =>
         intro w' hSw
         have hq := hSw.1
         clear hSw
         go_simp
         with_reducible rfl
        try simp only [putL]
        refine wpAnyH_done (by kernel_rfl) ?_ _
        have hbX : Below W0.heap.size W0 w16 ∧ Below w.heap.size w w16 := ⟨HB.out.trans ((HWW.out.trans (hSw16.2.2.mono HWW.out.size)).mono HB.out.size), HBX0.out.trans (hSw16.2.2.mono HBX0.out.size)⟩
        have HBX := Lib.hid hbX
        clear hbX
        go_wp2_with fail
        go_ret
        exact ⟨ret_b (Eq.symm (by unfold Ld.allSounds; exact all_false HLT.out (by rw [HX.out]; simp [Ld.okSound, HS1.out, HS2.out]))), HBX.out.2⟩
      · have HSS : Hid (∀ W', Held W W' → Calls Try.prog 58 #[vBk (.slice A b.tides.length c) (.slice (some ⟨bl, off, none⟩) b.sounds.length c1) b, vSlip x.hour x.shore] W' fun e w' => e = .returned (.bool true) ∧ Below W'.heap.size W' w') := Lib.hid fun W' h => by rw [← hs1]; exact HSL.out W' h
        have HSD : Hid (∀ W', Calls Try.prog 101 #[I x.deep] W' fun e w' => e = .returned (.bool true) ∧ Below W'.heap.size W' w') := Lib.hid fun W' => by rw [← hs2]; exact isDeep_any _ W'
        have HS1 := Lib.hid hs1
        have HS2 := Lib.hid hs2
        clear hs1 hs2
        refine wp_region_held_drew (S := fun w' => Held W w') (by kernel_rfl) (held_start W) (fun _ => ?_)
        refine wpAnyH_take (i := 0) (oi := { dst := some 12, op := Op.load 30 (Operand.tmp 1), type := 30, pos := "valid.go:51", after := #[], guard := none }) (v := ?v19) rfl (by kernel_rfl) (by kernel_rfl) (by kernel_rfl) (fun _ _ _ h => h) (Or.inl ⟨by rfl, ?hy19⟩) (held_start W) ?r19
        case hy19 =>
         intro w' hSw
         have hq := hSw.1
         clear hSw
         go_simp
         with_reducible rfl
        try simp only [putL]
        refine wpAnyH_take (i := 1) (oi := { dst := some 13, op := Op.load 64 (Operand.tmp 4), type := 64, pos := "valid.go:51", after := #[], guard := none }) (v := ?v20) rfl (by kernel_rfl) (by kernel_rfl) (by kernel_rfl) (fun _ _ _ h => h) (Or.inl ⟨by rfl, ?hy20⟩) (held_start W) ?r20
        case hy20 =>
         intro w' hSw
         have hq := hSw.1
         clear hSw
         go_simp
         with_reducible rfl
        try simp only [putL]
        refine wpAnyH_ready (rs := [2]) (by kernel_rfl) (by simp) ?_
        refine AllReadyH.cons rfl (fun K hK => ?_) AllReadyH.nil
        go_simp
        refine (slipOf_any x _).mono ?_
        rintro e w21 ⟨rfl, hBw21⟩
        have hSw21 := held_step hBw21 (held_start W)
        refine hK.out _ _ hSw21 (fun _ => ?_)
        clear hK K
        try simp only [putL]
        refine wpAnyH_ready (rs := [3]) (by kernel_rfl) (by simp) ?_
        refine AllReadyH.cons rfl (fun K hK => ?_) AllReadyH.nil
        go_simp
        refine (HSS.out _ hSw21).mono ?_
        rintro e w22 ⟨rfl, hBw22⟩
        have hSw22 := held_step hBw22 hSw21
        refine hK.out _ _ hSw22 (fun _ => ?_)
        clear hK K
        try simp only [putL]
        refine wpAnyH_take (i := 4) (oi := { dst := some 16, op := Op.unOp UnOp.not 4 (Operand.tmp 15), type := 4, pos := "valid.go:51", after := #[{ on := 3, ground := Ground.data }], guard := none }) (v := ?v23) rfl (by kernel_rfl) (by kernel_rfl) (by kernel_rfl) (fun _ _ _ h => h) (Or.inl ⟨by rfl, ?hy23⟩) hSw22 ?r23
        case hy23 =>
         intro w' hSw
         have hq := hSw.1
         clear hSw
         go_simp
         with_reducible rfl
        try simp only [putL]
        refine wpAnyH_take (i := 5) (oi := { dst := some 17, op := Op.move (Operand.tmp 16), type := 4, pos := "valid.go:51", after := #[{ on := 4, ground := Ground.data }, { on := 3, ground := Ground.chain }], guard := none }) (v := ?v24) rfl (by kernel_rfl) (by kernel_rfl) (by kernel_rfl) (fun _ _ _ h => h) (Or.inl ⟨by rfl, ?hy24⟩) hSw22 ?r24
        case hy24 =>
         intro w' hSw
         have hq := hSw.1
         clear hSw
         go_simp
         with_reducible rfl
        try simp only [putL]
        refine wpAnyH_take (i := 6) (oi := { dst := some 18, op := Op.fieldAddr 64 (Operand.tmp 4) 2, type := 0, pos := "valid.go:51", after := #[{ on := 5, ground := Ground.guard }], guard := some (5, false) }) (v := ?v25) rfl (by kernel_rfl) (by kernel_rfl) (by kernel_rfl) (fun _ _ _ h => h) (Or.inl ⟨by rfl, ?hy25⟩) hSw22 ?r25
        case hy25 =>
         intro w' hSw
         have hq := hSw.1
         clear hSw
         go_simp
         with_reducible rfl
        try simp only [putL]
        refine wpAnyH_take (i := 7) (oi := { dst := some 19, op := Op.load 3 (Operand.tmp 18), type := 3, pos := "valid.go:51", after := #[{ on := 6, ground := Ground.data }, { on := 5, ground := Ground.guard }], guard := some (5, false) }) (v := ?v26) rfl (by kernel_rfl) (by kernel_rfl) (by kernel_rfl) (fun _ _ _ h => h) (Or.inl ⟨by rfl, ?hy26⟩) hSw22 ?r26
        case hy26 =>
         intro w' hSw
         have hq := hSw.1
         clear hSw
         go_simp
         with_reducible rfl
        try simp only [putL]
        refine wpAnyH_ready (rs := [8]) (by kernel_rfl) (by simp) ?_
        refine AllReadyH.cons rfl (fun K hK => ?_) AllReadyH.nil
        go_simp
        refine (HSD.out _).mono ?_
        rintro e w27 ⟨rfl, hBw27⟩
        have hSw27 := held_step hBw27 hSw22
        refine hK.out _ _ hSw27 (fun _ => ?_)
        clear hK K
        try simp only [putL]
        refine wpAnyH_take (i := 9) (oi := { dst := some 21, op := Op.unOp UnOp.not 4 (Operand.tmp 20), type := 4, pos := "valid.go:51", after := #[{ on := 8, ground := Ground.data }, { on := 5, ground := Ground.guard }], guard := some (5, false) }) (v := ?v28) rfl (by kernel_rfl) (by kernel_rfl) (by kernel_rfl) (fun _ _ _ h => h) (Or.inl ⟨by rfl, ?hy28⟩) hSw27 ?r28
        case hy28 =>
         intro w' hSw
         have hq := hSw.1
         clear hSw
         go_simp
         with_reducible rfl
        try simp only [putL]
        refine wpAnyH_take (i := 10) (oi := { dst := some 22, op := Op.pick (Operand.tmp 17) (Operand.const (Value.bool true)) (Operand.tmp 21), type := 4, pos := "valid.go:51", after := #[{ on := 5, ground := Ground.data }, { on := 9, ground := Ground.data }], guard := none }) (v := ?v29) rfl (by kernel_rfl) (by kernel_rfl) (by kernel_rfl) (fun _ _ _ h => h) (Or.inl ⟨by rfl, ?hy29⟩) hSw27 ?r29
        case hy29 =>
         intro w' hSw
         have hq := hSw.1
         clear hSw
         go_simp
         with_reducible rfl
        try simp only [putL]
        refine wpAnyH_done (by kernel_rfl) ?_ _
        have hbX : Below W0.heap.size W0 w27 ∧ Below w.heap.size w w27 := ⟨HB.out.trans ((HWW.out.trans (hSw27.2.2.mono HWW.out.size)).mono HB.out.size), HBX0.out.trans (hSw27.2.2.mono HBX0.out.size)⟩
        have HBX := Lib.hid hbX
        clear hbX
        go_wp2_with fail
        go_roundw
        case rel => exact ⟨k + 1, HLT.out, by go_num, HBX.out.1, by rw [List.take_succ_eq_append_getElem HLT.out, List.all_append, HALL.out, HX.out]; simp [Ld.okSound, HS1.out, HS2.out]⟩
        case measure => have := HLT.out; simp [intOf]; omega
  · obtain rfl : k = b.sounds.length := by omega
    go_wp2_with fail
    go_ret
    exact ⟨ret_b (by unfold Ld.allSounds; rw [← hall, List.take_length]), hbw⟩
set_option maxHeartbeats 2000000 in
theorem valid_any (b : Ld.Bk) (T D : Value) (w : World) (hb : RB w w.heap.size b T D) :
 Calls Try.prog 64 #[vBk T D b] w fun e w' => e = .returned (.bool (Ld.valid b)) ∧ Below w.heap.size w w' := by
 obtain ⟨A, c, rfl⟩ := hb.tides.form
 obtain ⟨A1, c1, rfl⟩ := hb.sounds.form
 have hB0 : Below w.heap.size w (w.alloc (.cells (rBk (.slice A b.tides.length c) (.slice A1 b.sounds.length c1) b) 30)) := (Below.refl _ _).alloc (Nat.le_refl _) _
 have HRB := Lib.hid hb
 clear hb
 go_enter Try.func64, Try.ntmps64
 go_wp2_with fail
 refine (sized_any b _ _ _ (HRB.out.up hB0)).mono ?_
 rintro e w1 ⟨rfl, hB1⟩
 have hb1 : Below w.heap.size w w1 := hB0.trans (hB1.mono (by simp))
 have hc1 := bcell hB1
 have hz1 : w.heap.size < w1.heap.size := by have := hB1.size; simp at this; omega
 cases h1 : Ld.sized b
 · go_wp2_with fail
   go_ret
   exact ⟨ret_b (by simp [Ld.valid, h1]), hb1⟩
 · go_wp2_with fail
   refine (allTides_any b _ _ _ (HRB.out.up hb1)).mono ?_
   rintro e w2 ⟨rfl, hB2⟩
   have hb2 : Below w.heap.size w w2 := hb1.trans (hB2.mono hb1.size)
   have hc2 := bcell hB2
   have hz2 : w.heap.size < w2.heap.size := by have := hB2.size; omega
   cases h2 : Ld.allTides b
   · go_wp2_with fail
     go_ret
     exact ⟨ret_b (by simp [Ld.valid, h2]), hb2⟩
   · go_wp2_with fail
     refine (allShores_any b _ _ _ (HRB.out.up hb2)).mono ?_
     rintro e w3 ⟨rfl, hB3⟩
     have hb3 : Below w.heap.size w w3 := hb2.trans (hB3.mono hb2.size)
     have hc3 := bcell hB3
     have hz3 : w.heap.size < w3.heap.size := by have := hB3.size; omega
     cases h3 : Ld.allShores b
     · go_wp2_with fail
       go_ret
       exact ⟨ret_b (by simp [Ld.valid, h3]), hb3⟩
     · go_wp2_with fail
       refine (isDraught_any b.empty _).mono ?_
       rintro e w4 ⟨rfl, hB4⟩
       have hb4 : Below w.heap.size w w4 := hb3.trans (hB4.mono hb3.size)
       have hc4 := bcell hB4
       have hz4 : w.heap.size < w4.heap.size := by have := hB4.size; omega
       cases h4 : Ld.isDraught b.empty
       · go_wp2_with fail
         go_ret
         exact ⟨ret_b (by simp [Ld.valid, h4]), hb4⟩
       · go_wp2_with fail
         refine (allSounds_any b _ _ _ (HRB.out.up hb4)).mono ?_
         rintro e w5 ⟨rfl, hB5⟩
         have hb5 : Below w.heap.size w w5 := hb4.trans (hB5.mono hb4.size)
         go_wp2_with fail
         go_ret
         exact ⟨ret_b (by simp [Ld.valid, h1, h2, h3, h4]), hb5⟩
set_option maxHeartbeats 1000000 in
theorem check_any (b : Ld.Bk) (T D : Value) (w : World) (hb : RB w w.heap.size b T D) :
 Calls Try.prog 35 #[vBk T D b] w fun e w' => e = .returned (I (Ld.check b)) ∧ Below w.heap.size w w' := by
 obtain ⟨A, c, rfl⟩ := hb.tides.form
 obtain ⟨A1, c1, rfl⟩ := hb.sounds.form
 have hB0 : Below w.heap.size w (w.alloc (.cells (rBk (.slice A b.tides.length c) (.slice A1 b.sounds.length c1) b) 30)) := (Below.refl _ _).alloc (Nat.le_refl _) _
 go_enter Try.func35, Try.ntmps35
 go_wp2_with fail
 refine (valid_any b _ _ _ (hb.up hB0)).mono ?_
 rintro e w1 ⟨rfl, hB1⟩
 have hb1 : Below w.heap.size w w1 := hB0.trans (hB1.mono (by simp))
 by_cases h1 : Ld.valid b = true
 all_goals
  go_wp2_with fail
  go_ret
  exact ⟨ret_i (by simp [Ld.check, h1]), hb1⟩
end Go.Proofs.Ytjgpghaofhcfnaa
