/- Texts on the program that the proof leans on, part 6. -/
import Derived.Test.YtjgpghaofhcfnaaYae
set_option linter.unusedVariables false
set_option linter.unusedSimpArgs false

namespace Go.Proofs.Ytjgpghaofhcfnaa
open Go.RowKit
theorem wpList_index_run {P : Program} {w : World} {ops : Array Oper} {rest : List Oper} {o : Oper} {a : Act} {Q : Exit → Act → World → Prop} (hg : o.guard = none) (m x : Operand) (t : TypeId) (hop : o.op = Op.index t m x)
 {M X V : Value} (hrun : (Instr.index t M X).run P w = .ok V w) (hm : a.eval m = M) (hx : a.eval x = X) (hK : wpList P ops Q rest (a.put o.dst V) w) : wpList P ops Q (o :: rest) a w := by
 refine wpList_plain hg fun K' hK' => ?_
 unfold Oper.wp
 simp [execOp, hop, hm, hx, hrun, Result.andThen]
 exact hK' _ _ hK
theorem under_shores : Try.prog.underlying 27 = some (.array 2 26) := by kernel_rfl
theorem info_shore : (Try.prog.info? 26).map (fun i => (i.zero, i.size, i.bytes)) = some (some (.agg #[.int .i64 0, .int .i64 0, .int .i64 0, .int .i64 0]), 4, 32) := by kernel_rfl
set_option maxHeartbeats 1000000 in
theorem allTides_any (b : Ld.Bk) (T D : Value) (w : World) (hb : RB w w.heap.size b T D) :
 Calls Try.prog 79 #[vBk T D b] w fun e w' => e = .returned (.bool (Ld.allTides b)) ∧ Below w.heap.size w w' := by
 obtain ⟨A, c, rfl⟩ := hb.tides.form
 obtain ⟨A1, c1, rfl⟩ := hb.sounds.form
 have hm := hb.tides.le
 unfold maxLen at hm
 go_enter Try.func79, Try.ntmps79
 go_wp2
 go_loopw [8] (fun i wr => ∃ k : Nat, k ≤ b.tides.length ∧ i = I k ∧ Below w.heap.size w wr ∧ (b.tides.take k).all Ld.isHeight = true) (fun i _ => b.tides.length - (intOf i).toNat)
 case atStart => exact ⟨0, Nat.zero_le _, rfl, (Below.refl _ _).alloc (Nat.le_refl _) _, rfl⟩
 case round =>
  obtain ⟨k, hk, rfl, hB, hall⟩ := hrel
  by_cases hlt : k < b.tides.length
  · obtain ⟨bl, off, c', hv, hbl, h0, h1⟩ := (hb.below hB (Nat.le_refl _)).tide hlt
    injection hv with hA _ hc
    subst hA hc
    have hz := hB.size
    go_wp2_with fail
    refine (isHeight_any b.tides[k] _).mono ?_
    rintro e w1 ⟨rfl, hB1⟩
    have hb1 : Below w.heap.size w w1 := (hB.alloc hz _).trans (hB1.mono (by simp; omega))
    cases hs1 : Ld.isHeight b.tides[k]
    · go_wp2_with fail
      go_ret
      exact ⟨ret_b (Eq.symm (by unfold Ld.allTides; exact all_false hlt (by simp [hs1]))), hb1⟩
    · go_wp2_with fail
      go_roundw
      case rel => exact ⟨k + 1, by omega, by go_num, hb1, by rw [List.take_succ_eq_append_getElem hlt, List.all_append, hall]; simp [hs1]⟩
      case measure => simp [intOf]; omega
  · obtain rfl : k = b.tides.length := by omega
    go_wp2_with fail
    go_ret
    exact ⟨ret_b (by unfold Ld.allTides; rw [← hall, List.take_length]), hB⟩
set_option maxHeartbeats 400000 in
theorem isSlip_any (b : Ld.Bk) (T D : Value) (hr sh : Int) (w : World) (hb : RB w w.heap.size b T D) :
 Calls Try.prog 58 #[vBk T D b, vSlip hr sh] w fun e w' => e = .returned (.bool (Ld.isSlip b hr sh)) ∧ Below w.heap.size w w' := by
 obtain ⟨A, c, rfl⟩ := hb.tides.form
 obtain ⟨A1, c1, rfl⟩ := hb.sounds.form
 have hB0 : Below w.heap.size w ((w.alloc (.cells (rBk (.slice A b.tides.length c) (.slice A1 b.sounds.length c1) b) 30)).alloc (.cells #[I hr, I sh] 96)) := ((Below.refl _ _).alloc (Nat.le_refl _) _).alloc (by simp) _
 go_enter Try.func58, Try.ntmps58
 go_wp2_with fail
 refine (isHour_any b _ _ hr _ (hb.up hB0)).mono ?_
 rintro e w1 ⟨rfl, hB1⟩
 have hb1 : Below w.heap.size w w1 := hB0.trans (hB1.mono hB0.size)
 have hc1 := bcell hB1
 have hz1 : w.heap.size + 1 < w1.heap.size := by have := hB1.size; simp at this; omega
 cases h1 : Ld.isHour b hr
 · go_wp2_with fail
   go_ret
   exact ⟨ret_b (by simp [Ld.isSlip, h1]), hb1⟩
 · go_wp2_with fail
   refine (isShore_any sh _).mono ?_
   rintro e w2 ⟨rfl, hB2⟩
   have hb2 : Below w.heap.size w w2 := hb1.trans (hB2.mono hb1.size)
   go_wp2_with fail
   go_ret
   exact ⟨ret_b (by simp [Ld.isSlip, h1]), hb2⟩
set_option maxHeartbeats 1000000 in
theorem sized_any (b : Ld.Bk) (T D : Value) (w : World) (hb : RB w w.heap.size b T D) :
 Calls Try.prog 78 #[vBk T D b] w fun e w' => e = .returned (.bool (Ld.sized b)) ∧ Below w.heap.size w w' := by
 obtain ⟨A, c, rfl⟩ := hb.tides.form
 obtain ⟨A1, c1, rfl⟩ := hb.sounds.form
 go_enter Try.func78, Try.ntmps78
 go_wp2_with fail
 have hB0 : Below w.heap.size w ((w.alloc (.cells (rBk (.slice A b.tides.length c) (.slice A1 b.sounds.length c1) b) 30)).alloc (.cells ((Ld.bnds b).flatMap cBd).toArray 131)) := ((Below.refl _ _).alloc (Nat.le_refl _) _).alloc (by simp) _
 refine (hold_any (Ld.bnds b) _ _ (sl_new (t := 131) (xs := (Ld.bnds b).flatMap cBd) (by rfl) (by simp [Ld.bnds, maxLen]) (by simp) (heap_at _ _ (by simp)))).mono ?_
 rintro e w1 ⟨rfl, hB1⟩
 have hb1 : Below w.heap.size w w1 := hB0.trans (hB1.mono hB0.size)
 go_wp2_with fail
 go_ret
 exact ⟨rfl, hb1⟩
def ShAt (b : Ld.Bk) (w : World) (i : Value) (wr : World) : Prop := ∃ k : Nat, k ≤ 2 ∧ i = I k ∧ Below w.heap.size w wr ∧ (1 ≤ k → Ld.okShore b.s0 = true) ∧ (2 ≤ k → Ld.okShore b.s1 = true)
theorem index_sh0 (a1 b1 c1 d1 a2 b2 c2 d2 : Int) (W : World) : (Instr.index 27 (.agg #[I a1, I b1, I c1, I d1, I a2, I b2, I c2, I d2]) (.int .i64 0)).run Try.prog W = .ok (.agg #[I a1, I b1, I c1, I d1]) W := by
 obtain ⟨i, h1, h2, h3, h4⟩ := info_parts info_shore
 simp [Instr.index, run_underlying under_shores, asIntOf, sizeOf, typeInfo, h1, h3, go_sem]
theorem index_sh1 (a1 b1 c1 d1 a2 b2 c2 d2 : Int) (W : World) : (Instr.index 27 (.agg #[I a1, I b1, I c1, I d1, I a2, I b2, I c2, I d2]) (.int .i64 1)).run Try.prog W = .ok (.agg #[I a2, I b2, I c2, I d2]) W := by
 obtain ⟨i, h1, h2, h3, h4⟩ := info_parts info_shore
 simp [Instr.index, run_underlying under_shores, asIntOf, sizeOf, typeInfo, h1, h3, go_sem]
set_option maxRecDepth 100000 in
set_option maxHeartbeats 4000000 in
theorem allShores_any (b : Ld.Bk) (T D : Value) (w : World) (hb : RB w w.heap.size b T D) :
 Calls Try.prog 80 #[vBk T D b] w fun e w' => e = .returned (.bool (Ld.allShores b)) ∧ Below w.heap.size w w' := by
 obtain ⟨A, c, rfl⟩ := hb.tides.form
 obtain ⟨A1, c1, rfl⟩ := hb.sounds.form
 obtain ⟨tides, ⟨⟨fl0, fh0⟩, lo0, hi0⟩, ⟨⟨fl1, fh1⟩, lo1, hi1⟩, empty, sink, under, sounds⟩ := b
 clear hb
 have ix0 := index_sh0 fl0 fh0 lo0 hi0 fl1 fh1 lo1 hi1
 have ix1 := index_sh1 fl0 fh0 lo0 hi0 fl1 fh1 lo1 hi1
 go_enter Try.func80, Try.ntmps80
 go_wp2
 go_loopw [8] (fun i wr => ShAt ⟨tides, ⟨⟨fl0, fh0⟩, lo0, hi0⟩, ⟨⟨fl1, fh1⟩, lo1, hi1⟩, empty, sink, under, sounds⟩ w i wr) (fun i _ => 2 - (intOf i).toNat)
 case atStart => exact ⟨0, Nat.zero_le _, rfl, (Below.refl _ _).alloc (Nat.le_refl _) _, fun h => by omega, fun h => by omega⟩
 case round =>
  obtain ⟨k, hk, rfl, hB, ho0, ho1⟩ := hrel
  have hzw := hB.size
  have HBR := Lib.hid hB
  have HO0 := Lib.hid ho0
  have HO1 := Lib.hid ho1
  clear hB ho0 ho1
  have hcase : k = 0 ∨ k = 1 ∨ k = 2 := by omega
  rcases hcase with rfl | rfl | rfl
  · go_wp2_with fail
    refine name_world ?_
    intro W hW
    have hBW : Below wr.heap.size wr W := by rw [hW]; exact ((Below.refl _ _).alloc (Nat.le_refl _) _).alloc (by simp) _
    have rS : W.heap[wr.heap.size]? = some (.cells #[I fl0, I fh0, I lo0, I hi0] 26 (0, 0)) := by rw [hW]; exact (Below.heap_alloc _ _ _ (by simp)).trans (heap_at _ _ rfl)
    have rP : W.heap[wr.heap.size + 1]? = some (.cells #[I lo0, I hi0] 24 (0, 0)) := by rw [hW]; exact heap_at _ _ (by simp)
    have hl0 : wr.heap.size < W.heap.size := heap_lt rS
    have hl1 : wr.heap.size + 1 < W.heap.size := heap_lt rP
    have s0 := cell_of_row W _ 0 _ _ _ rS
    have s1 := cell_of_row W _ 1 _ _ _ rS
    have p0 := cell_of_row W _ 0 _ _ _ rP
    have p1 := cell_of_row W _ 1 _ _ _ rP
    simp only [List.getElem?_toArray, List.getElem?_cons_zero, List.getElem?_cons_succ] at s0 s1 p0 p1
    have HBW := Lib.hid (HBR.out.trans (hBW.mono hzw))
    have HZW := Lib.hid hzw
    clear hW hBW rS rP ix0 ix1 hzw
    cases hs1 : Ld.isHeight ⟨fl0, fh0⟩
    · have HIS : Hid (∀ W', Calls Try.prog 97 #[vSp ⟨fl0, fh0⟩] W' fun e w' => e = .returned (.bool false) ∧ Below W'.heap.size W' w') := Lib.hid fun W' => by rw [← hs1]; exact isHeight_any _ W'
      have HS1 := Lib.hid hs1
      clear hs1
      refine wp_region_held_drew (S := fun w' => Held W w') (by kernel_rfl) (held_start W) (fun _ => ?_)
      refine wpAnyH_take (i := 0) (oi := { dst := some 16, op := Op.fieldAddr 26 (Operand.tmp 4) 0, type := 0, pos := "valid.go:38", after := #[], guard := none }) (v := ?v1) rfl (by kernel_rfl) (by kernel_rfl) (by kernel_rfl) (fun _ _ _ h => h) (Or.inl ⟨by rfl, ?hy1⟩) (held_start W) ?r1
      case hy1 =>
       intro w' hSw
       have hq := hSw.1
       clear hSw
       go_simp
       with_reducible rfl
      try simp only [putL]
      refine wpAnyH_take (i := 1) (oi := { dst := some 17, op := Op.load 24 (Operand.tmp 16), type := 24, pos := "valid.go:38", after := #[{ on := 0, ground := Ground.data }], guard := none }) (v := ?v2) rfl (by kernel_rfl) (by kernel_rfl) (by kernel_rfl) (fun _ _ _ h => h) (Or.inl ⟨by rfl, ?hy2⟩) (held_start W) ?r2
      case hy2 =>
       intro w' hSw
       have hq := hSw.1
       clear hSw
       go_simp
       with_reducible rfl
      try simp only [putL]
      refine wpAnyH_ready (rs := [2]) (by kernel_rfl) (by simp) ?_
      refine AllReadyH.cons rfl (fun K hK => ?_) AllReadyH.nil
      go_simp
      refine (HIS.out _).mono ?_
      rintro e w3 ⟨rfl, hBw3⟩
      have hSw3 := held_step hBw3 (held_start W)
      refine hK.out _ _ hSw3 (fun _ => ?_)
      clear hK K
      try simp only [putL]
      refine wpAnyH_take (i := 3) (oi := { dst := some 19, op := Op.unOp UnOp.not 4 (Operand.tmp 18), type := 4, pos := "valid.go:38", after := #[{ on := 2, ground := Ground.data }], guard := none }) (v := ?v4) rfl (by kernel_rfl) (by kernel_rfl) (by kernel_rfl) (fun _ _ _ h => h) (Or.inl ⟨by rfl, ?hy4⟩) hSw3 ?r4
      case hy4 =>
       intro w' hSw
       have hq := hSw.1
       clear hSw
       go_simp
       with_reducible rfl
      try simp only [putL]
      refine wpAnyH_take (i := 4) (oi := { dst := some 20, op := Op.move (Operand.tmp 19), type := 4, pos := "valid.go:38", after := #[{ on := 3, ground := Ground.data }, { on := 2, ground := Ground.chain }], guard := none }) (v := ?v5) rfl (by kernel_rfl) (by kernel_rfl) (by kernel_rfl) (fun _ _ _ h => h) (Or.inl ⟨by rfl, ?hy5⟩) hSw3 ?r5
      case hy5 =>
       intro w' hSw
       have hq := hSw.1
       clear hSw
       go_simp
       with_reducible rfl
      try simp only [putL]
      refine wpAnyH_take (i := 5) (oi := { dst := some 21, op := Op.load 24 (Operand.tmp 5), type := 24, pos := "valid.go:38", after := #[{ on := 4, ground := Ground.guard }], guard := some (4, false) }) (v := undef) rfl (by kernel_rfl) (by kernel_rfl) (by kernel_rfl) (fun _ _ _ h => h) (Or.inr ⟨by rfl, rfl⟩) hSw3 ?_
      try simp only [putL]
      refine wpAnyH_take (i := 6) (oi := { dst := some 22, op := Op.call { callee := Callee.value (Operand.func 91), args := #[Operand.tmp 21], argTypes := #[24] }, type := 4, pos := "valid.go:38", after := #[{ on := 5, ground := Ground.data }, { on := 4, ground := Ground.chain }, { on := 4, ground := Ground.guard }], guard := some (4, false) }) (v := undef) rfl (by kernel_rfl) (by kernel_rfl) (by kernel_rfl) (fun _ _ _ h => h) (Or.inr ⟨by rfl, rfl⟩) hSw3 ?_
      try simp only [putL]
      refine wpAnyH_take (i := 7) (oi := { dst := some 23, op := Op.pick (Operand.tmp 20) (Operand.const (Value.bool true)) (Operand.tmp 22), type := 4, pos := "valid.go:38", after := #[{ on := 4, ground := Ground.data }, { on := 6, ground := Ground.data }], guard := none }) (v := ?v6) rfl (by kernel_rfl) (by kernel_rfl) (by kernel_rfl) (fun _ _ _ h => h) (Or.inl ⟨by rfl, ?hy6⟩) hSw3 ?r6
      case hy6 =>
       intro w' hSw
       have hq := hSw.1
       clear hSw
       go_simp
       with_reducible rfl
      try simp only [putL]
      refine wpAnyH_take (i := 8) (oi := { dst := some 24, op := Op.move (Operand.tmp 23), type := 4, pos := "valid.go:38", after := #[{ on := 7, ground := Ground.data }, { on := 6, ground := Ground.chain }], guard := none }) (v := ?v7) rfl (by kernel_rfl) (by kernel_rfl) (by kernel_rfl) (fun _ _ _ h => h) (Or.inl ⟨by rfl, ?hy7⟩) hSw3 ?r7
      case hy7 =>
       intro w' hSw
       have hq := hSw.1
       clear hSw
       go_simp
       with_reducible rfl
      try simp only [putL]
      refine wpAnyH_take (i := 9) (oi := { dst := some 25, op := Op.load 24 (Operand.tmp 5), type := 24, pos := "valid.go:38", after := #[{ on := 8, ground := Ground.guard }], guard := some (8, false) }) (v := undef) rfl (by kernel_rfl) (by kernel_rfl) (by kernel_rfl) (fun _ _ _ h => h) (Or.inr ⟨by rfl, rfl⟩) hSw3 ?_
      try simp only [putL]
      refine wpAnyH_take (i := 10) (oi := { dst := some 26, op := Op.call { callee := Callee.value (Operand.func 99), args := #[], argTypes := #[] }, type := 24, pos := "valid.go:38", after := #[{ on := 8, ground := Ground.chain }, { on := 8, ground := Ground.guard }], guard := some (8, false) }) (v := undef) rfl (by kernel_rfl) (by kernel_rfl) (by kernel_rfl) (fun _ _ _ h => h) (Or.inr ⟨by rfl, rfl⟩) hSw3 ?_
      try simp only [putL]
      refine wpAnyH_take (i := 11) (oi := { dst := some 27, op := Op.call { callee := Callee.value (Operand.func 98), args := #[Operand.tmp 25, Operand.tmp 26], argTypes := #[24, 24] }, type := 4, pos := "valid.go:38", after := #[{ on := 9, ground := Ground.data }, { on := 10, ground := Ground.data }, { on := 10, ground := Ground.chain }, { on := 8, ground := Ground.guard }], guard := some (8, false) }) (v := undef) rfl (by kernel_rfl) (by kernel_rfl) (by kernel_rfl) (fun _ _ _ h => h) (Or.inr ⟨by rfl, rfl⟩) hSw3 ?_
      try simp only [putL]
      refine wpAnyH_take (i := 12) (oi := { dst := some 28, op := Op.unOp UnOp.not 4 (Operand.tmp 27), type := 4, pos := "valid.go:38", after := #[{ on := 11, ground := Ground.data }, { on := 8, ground := Ground.guard }], guard := some (8, false) }) (v := undef) rfl (by kernel_rfl) (by kernel_rfl) (by kernel_rfl) (fun _ _ _ h => h) (Or.inr ⟨by rfl, rfl⟩) hSw3 ?_
      try simp only [putL]
      refine wpAnyH_take (i := 13) (oi := { dst := some 29, op := Op.pick (Operand.tmp 24) (Operand.const (Value.bool true)) (Operand.tmp 28), type := 4, pos := "valid.go:38", after := #[{ on := 8, ground := Ground.data }, { on := 12, ground := Ground.data }], guard := none }) (v := ?v8) rfl (by kernel_rfl) (by kernel_rfl) (by kernel_rfl) (fun _ _ _ h => h) (Or.inl ⟨by rfl, ?hy8⟩) hSw3 ?r8
      case hy8 =>
       intro w' hSw
       have hq := hSw.1
       clear hSw
       go_simp
       with_reducible rfl
      try simp only [putL]
      refine wpAnyH_done (by kernel_rfl) ?_ _
      have hbX : Below w.heap.size w w3 := HBW.out.trans (hSw3.2.2.mono HBW.out.size)
      have HBX := Lib.hid hbX
      clear hbX
      go_wp2_with fail
      go_ret
      exact ⟨ret_b (by simp [Ld.allShores, Ld.okShore, HS1.out]), HBX.out⟩
    · cases hs2 : Ld.isEmpty ⟨lo0, hi0⟩
      rotate_left
      · have HIS : Hid (∀ W', Calls Try.prog 97 #[vSp ⟨fl0, fh0⟩] W' fun e w' => e = .returned (.bool true) ∧ Below W'.heap.size W' w') := Lib.hid fun W' => by rw [← hs1]; exact isHeight_any _ W'
        have HIE : Hid (∀ W', Calls Try.prog 91 #[vSp ⟨lo0, hi0⟩] W' fun e w' => e = .returned (.bool true) ∧ Below W'.heap.size W' w') := Lib.hid fun W' => by rw [← hs2]; exact isEmpty_any _ W'
        have HS1 := Lib.hid hs1
        have HS2 := Lib.hid hs2
        clear hs1 hs2
        refine wp_region_held_drew (S := fun w' => Held W w') (by kernel_rfl) (held_start W) (fun _ => ?_)
        refine wpAnyH_take (i := 0) (oi := { dst := some 16, op := Op.fieldAddr 26 (Operand.tmp 4) 0, type := 0, pos := "valid.go:38", after := #[], guard := none }) (v := ?v9) rfl (by kernel_rfl) (by kernel_rfl) (by kernel_rfl) (fun _ _ _ h => h) (Or.inl ⟨by rfl, ?hy9⟩) (held_start W) ?r9
        case hy9 =>
         intro w' hSw
         have hq := hSw.1
         clear hSw
         go_simp
         with_reducible rfl
        try simp only [putL]
        refine wpAnyH_take (i := 1) (oi := { dst := some 17, op := Op.load 24 (Operand.tmp 16), type := 24, pos := "valid.go:38", after := #[{ on := 0, ground := Ground.data }], guard := none }) (v := ?v10) rfl (by kernel_rfl) (by kernel_rfl) (by kernel_rfl) (fun _ _ _ h => h) (Or.inl ⟨by rfl, ?hy10⟩) (held_start W) ?r10
        case hy10 =>
         intro w' hSw
         have hq := hSw.1
         clear hSw
         go_simp
         with_reducible rfl
        try simp only [putL]
        refine wpAnyH_ready (rs := [2]) (by kernel_rfl) (by simp) ?_
        refine AllReadyH.cons rfl (fun K hK => ?_) AllReadyH.nil
        go_simp
        refine (HIS.out _).mono ?_
        rintro e w11 ⟨rfl, hBw11⟩
        have hSw11 := held_step hBw11 (held_start W)
        refine hK.out _ _ hSw11 (fun _ => ?_)
        clear hK K
        try simp only [putL]
        refine wpAnyH_take (i := 3) (oi := { dst := some 19, op := Op.unOp UnOp.not 4 (Operand.tmp 18), type := 4, pos := "valid.go:38", after := #[{ on := 2, ground := Ground.data }], guard := none }) (v := ?v12) rfl (by kernel_rfl) (by kernel_rfl) (by kernel_rfl) (fun _ _ _ h => h) (Or.inl ⟨by rfl, ?hy12⟩) hSw11 ?r12
        case hy12 =>
         intro w' hSw
         have hq := hSw.1
         clear hSw
         go_simp
         with_reducible rfl
        try simp only [putL]
        refine wpAnyH_take (i := 4) (oi := { dst := some 20, op := Op.move (Operand.tmp 19), type := 4, pos := "valid.go:38", after := #[{ on := 3, ground := Ground.data }, { on := 2, ground := Ground.chain }], guard := none }) (v := ?v13) rfl (by kernel_rfl) (by kernel_rfl) (by kernel_rfl) (fun _ _ _ h => h) (Or.inl ⟨by rfl, ?hy13⟩) hSw11 ?r13
        case hy13 =>
         intro w' hSw
         have hq := hSw.1
         clear hSw
         go_simp
         with_reducible rfl
        try simp only [putL]
        refine wpAnyH_take (i := 5) (oi := { dst := some 21, op := Op.load 24 (Operand.tmp 5), type := 24, pos := "valid.go:38", after := #[{ on := 4, ground := Ground.guard }], guard := some (4, false) }) (v := ?v14) rfl (by kernel_rfl) (by kernel_rfl) (by kernel_rfl) (fun _ _ _ h => h) (Or.inl ⟨by rfl, ?hy14⟩) hSw11 ?r14
        case hy14 =>
         intro w' hSw
         have hq := hSw.1
         clear hSw
         go_simp
         with_reducible rfl
        try simp only [putL]
        refine wpAnyH_ready (rs := [6]) (by kernel_rfl) (by simp) ?_
        refine AllReadyH.cons rfl (fun K hK => ?_) AllReadyH.nil
        go_simp
        refine (HIE.out _).mono ?_
        rintro e w15 ⟨rfl, hBw15⟩
        have hSw15 := held_step hBw15 hSw11
        refine hK.out _ _ hSw15 (fun _ => ?_)
        clear hK K
        try simp only [putL]
        refine wpAnyH_take (i := 7) (oi := { dst := some 23, op := Op.pick (Operand.tmp 20) (Operand.const (Value.bool true)) (Operand.tmp 22), type := 4, pos := "valid.go:38", after := #[{ on := 4, ground := Ground.data }, { on := 6, ground := Ground.data }], guard := none }) (v := ?v16) rfl (by kernel_rfl) (by kernel_rfl) (by kernel_rfl) (fun _ _ _ h => h) (Or.inl ⟨by rfl, ?hy16⟩) hSw15 ?r16
        case hy16 =>
         intro w' hSw
         have hq := hSw.1
         clear hSw
         go_simp
         with_reducible rfl
        try simp only [putL]
        refine wpAnyH_take (i := 8) (oi := { dst := some 24, op := Op.move (Operand.tmp 23), type := 4, pos := "valid.go:38", after := #[{ on := 7, ground := Ground.data }, { on := 6, ground := Ground.chain }], guard := none }) (v := ?v17) rfl (by kernel_rfl) (by kernel_rfl) (by kernel_rfl) (fun _ _ _ h => h) (Or.inl ⟨by rfl, ?hy17⟩) hSw15 ?r17
        case hy17 =>
         intro w' hSw
         have hq := hSw.1
         clear hSw
         go_simp
         with_reducible rfl
        try simp only [putL]
        refine wpAnyH_take (i := 9) (oi := { dst := some 25, op := Op.load 24 (Operand.tmp 5), type := 24, pos := "valid.go:38", after := #[{ on := 8, ground := Ground.guard }], guard := some (8, false) }) (v := undef) rfl (by kernel_rfl) (by kernel_rfl) (by kernel_rfl) (fun _ _ _ h => h) (Or.inr ⟨by rfl, rfl⟩) hSw15 ?_
        try simp only [putL]
        refine wpAnyH_take (i := 10) (oi := { dst := some 26, op := Op.call { callee := Callee.value (Operand.func 99), args := #[], argTypes := #[] }, type := 24, pos := "valid.go:38", after := #[{ on := 8, ground := Ground.chain }, { on := 8, ground := Ground.guard }], guard := some (8, false) }) (v := undef) rfl (by kernel_rfl) (by kernel_rfl) (by kernel_rfl) (fun _ _ _ h => h) (Or.inr ⟨by rfl, rfl⟩) hSw15 ?_
        try simp only [putL]
        refine wpAnyH_take (i := 11) (oi := { dst := some 27, op := Op.call { callee := Callee.value (Operand.func 98), args := #[Operand.tmp 25, Operand.tmp 26], argTypes := #[24, 24] }, type := 4, pos := "valid.go:38", after := #[{ on := 9, ground := Ground.data }, { on := 10, ground := Ground.data }, { on := 10, ground := Ground.chain }, { on := 8, ground := Ground.guard }], guard := some (8, false) }) (v := undef) rfl (by kernel_rfl) (by kernel_rfl) (by kernel_rfl) (fun _ _ _ h => h) (Or.inr ⟨by rfl, rfl⟩) hSw15 ?_
        try simp only [putL]
        refine wpAnyH_take (i := 12) (oi := { dst := some 28, op := Op.unOp UnOp.not 4 (Operand.tmp 27), type := 4, pos := "valid.go:38", after := #[{ on := 11, ground := Ground.data }, { on := 8, ground := Ground.guard }], guard := some (8, false) }) (v := undef) rfl (by kernel_rfl) (by kernel_rfl) (by kernel_rfl) (fun _ _ _ h => h) (Or.inr ⟨by rfl, rfl⟩) hSw15 ?_
        try simp only [putL]
        refine wpAnyH_take (i := 13) (oi := { dst := some 29, op := Op.pick (Operand.tmp 24) (Operand.const (Value.bool true)) (Operand.tmp 28), type := 4, pos := "valid.go:38", after := #[{ on := 8, ground := Ground.data }, { on := 12, ground := Ground.data }], guard := none }) (v := ?v18) rfl (by kernel_rfl) (by kernel_rfl) (by kernel_rfl) (fun _ _ _ h => h) (Or.inl ⟨by rfl, ?hy18⟩) hSw15 ?r18
        case hy18 =>
         intro w' hSw
         have hq := hSw.1
         clear hSw
         go_simp
         with_reducible rfl
        try simp only [putL]
        refine wpAnyH_done (by kernel_rfl) ?_ _
        have hbX : Below w.heap.size w w15 := HBW.out.trans (hSw15.2.2.mono HBW.out.size)
        have HBX := Lib.hid hbX
        clear hbX
        go_wp2_with fail
        go_ret
        exact ⟨ret_b (by simp [Ld.allShores, Ld.okShore, HS1.out, HS2.out]), HBX.out⟩
      · cases hs3 : Ld.inside ⟨lo0, hi0⟩ Ld.heights
        · have HIS : Hid (∀ W', Calls Try.prog 97 #[vSp ⟨fl0, fh0⟩] W' fun e w' => e = .returned (.bool true) ∧ Below W'.heap.size W' w') := Lib.hid fun W' => by rw [← hs1]; exact isHeight_any _ W'
          have HIE : Hid (∀ W', Calls Try.prog 91 #[vSp ⟨lo0, hi0⟩] W' fun e w' => e = .returned (.bool false) ∧ Below W'.heap.size W' w') := Lib.hid fun W' => by rw [← hs2]; exact isEmpty_any _ W'
          have HIN : Hid (∀ W', Calls Try.prog 98 #[vSp ⟨lo0, hi0⟩, vSp Ld.heights] W' fun e w' => e = .returned (.bool false) ∧ Below W'.heap.size W' w') := Lib.hid fun W' => by rw [← hs3]; exact inside_any _ _ W'
          have HS1 := Lib.hid hs1
          have HS2 := Lib.hid hs2
          have HS3 := Lib.hid hs3
          clear hs1 hs2 hs3
          refine wp_region_held_drew (S := fun w' => Held W w') (by kernel_rfl) (held_start W) (fun _ => ?_)
          refine wpAnyH_take (i := 0) (oi := { dst := some 16, op := Op.fieldAddr 26 (Operand.tmp 4) 0, type := 0, pos := "valid.go:38", after := #[], guard := none }) (v := ?v19) rfl (by kernel_rfl) (by kernel_rfl) (by kernel_rfl) (fun _ _ _ h => h) (Or.inl ⟨by rfl, ?hy19⟩) (held_start W) ?r19
          case hy19 =>
           intro w' hSw
           have hq := hSw.1
           clear hSw
           go_simp
           with_reducible rfl
          try simp only [putL]
          refine wpAnyH_take (i := 1) (oi := { dst := some 17, op := Op.load 24 (Operand.tmp 16), type := 24, pos := "valid.go:38", after := #[{ on := 0, ground := Ground.data }], guard := none }) (v := ?v20) rfl (by kernel_rfl) (by kernel_rfl) (by kernel_rfl) (fun _ _ _ h => h) (Or.inl ⟨by rfl, ?hy20⟩) (held_start W) ?r20
          case hy20 =>
           intro w' hSw
           have hq := hSw.1
           clear hSw
           go_simp
           with_reducible rfl
          try simp only [putL]
          refine wpAnyH_ready (rs := [2]) (by kernel_rfl) (by simp) ?_
          refine AllReadyH.cons rfl (fun K hK => ?_) AllReadyH.nil
          go_simp
          refine (HIS.out _).mono ?_
          rintro e w21 ⟨rfl, hBw21⟩
          have hSw21 := held_step hBw21 (held_start W)
          refine hK.out _ _ hSw21 (fun _ => ?_)
          clear hK K
          try simp only [putL]
          refine wpAnyH_take (i := 3) (oi := { dst := some 19, op := Op.unOp UnOp.not 4 (Operand.tmp 18), type := 4, pos := "valid.go:38", after := #[{ on := 2, ground := Ground.data }], guard := none }) (v := ?v22) rfl (by kernel_rfl) (by kernel_rfl) (by kernel_rfl) (fun _ _ _ h => h) (Or.inl ⟨by rfl, ?hy22⟩) hSw21 ?r22
          case hy22 =>
           intro w' hSw
           have hq := hSw.1
           clear hSw
           go_simp
           with_reducible rfl
          try simp only [putL]
          refine wpAnyH_take (i := 4) (oi := { dst := some 20, op := Op.move (Operand.tmp 19), type := 4, pos := "valid.go:38", after := #[{ on := 3, ground := Ground.data }, { on := 2, ground := Ground.chain }], guard := none }) (v := ?v23) rfl (by kernel_rfl) (by kernel_rfl) (by kernel_rfl) (fun _ _ _ h => h) (Or.inl ⟨by rfl, ?hy23⟩) hSw21 ?r23
          case hy23 =>
           intro w' hSw
           have hq := hSw.1
           clear hSw
           go_simp
           with_reducible rfl
          try simp only [putL]
          refine wpAnyH_take (i := 5) (oi := { dst := some 21, op := Op.load 24 (Operand.tmp 5), type := 24, pos := "valid.go:38", after := #[{ on := 4, ground := Ground.guard }], guard := some (4, false) }) (v := ?v24) rfl (by kernel_rfl) (by kernel_rfl) (by kernel_rfl) (fun _ _ _ h => h) (Or.inl ⟨by rfl, ?hy24⟩) hSw21 ?r24
          case hy24 =>
           intro w' hSw
           have hq := hSw.1
           clear hSw
           go_simp
           with_reducible rfl
          try simp only [putL]
          refine wpAnyH_ready (rs := [6]) (by kernel_rfl) (by simp) ?_
          refine AllReadyH.cons rfl (fun K hK => ?_) AllReadyH.nil
          go_simp
          refine (HIE.out _).mono ?_
          rintro e w25 ⟨rfl, hBw25⟩
          have hSw25 := held_step hBw25 hSw21
          refine hK.out _ _ hSw25 (fun _ => ?_)
          clear hK K
          try simp only [putL]
          refine wpAnyH_take (i := 7) (oi := { dst := some 23, op := Op.pick (Operand.tmp 20) (Operand.const (Value.bool true)) (Operand.tmp 22), type := 4, pos := "valid.go:38", after := #[{ on := 4, ground := Ground.data }, { on := 6, ground := Ground.data }], guard := none }) (v := ?v26) rfl (by kernel_rfl) (by kernel_rfl) (by kernel_rfl) (fun _ _ _ h => h) (Or.inl ⟨by rfl, ?hy26⟩) hSw25 ?r26
          case hy26 =>
           intro w' hSw
           have hq := hSw.1
           clear hSw
           go_simp
           with_reducible rfl
          try simp only [putL]
          refine wpAnyH_take (i := 8) (oi := { dst := some 24, op := Op.move (Operand.tmp 23), type := 4, pos := "valid.go:38", after := #[{ on := 7, ground := Ground.data }, { on := 6, ground := Ground.chain }], guard := none }) (v := ?v27) rfl (by kernel_rfl) (by kernel_rfl) (by kernel_rfl) (fun _ _ _ h => h) (Or.inl ⟨by rfl, ?hy27⟩) hSw25 ?r27
          case hy27 =>
           intro w' hSw
           have hq := hSw.1
           clear hSw
           go_simp
           with_reducible rfl
          try simp only [putL]
          refine wpAnyH_take (i := 9) (oi := { dst := some 25, op := Op.load 24 (Operand.tmp 5), type := 24, pos := "valid.go:38", after := #[{ on := 8, ground := Ground.guard }], guard := some (8, false) }) (v := ?v28) rfl (by kernel_rfl) (by kernel_rfl) (by kernel_rfl) (fun _ _ _ h => h) (Or.inl ⟨by rfl, ?hy28⟩) hSw25 ?r28
          case hy28 =>
           intro w' hSw
           have hq := hSw.1
           clear hSw
           go_simp
           with_reducible rfl
          try simp only [putL]
          refine wpAnyH_ready (rs := [10]) (by kernel_rfl) (by simp) ?_
          refine AllReadyH.cons rfl (fun K hK => ?_) AllReadyH.nil
          go_simp
          refine (heights_any _).mono ?_
          rintro e w29 ⟨rfl, hBw29⟩
          have hSw29 := held_step hBw29 hSw25
          refine hK.out _ _ hSw29 (fun _ => ?_)
          clear hK K
          try simp only [putL]
          refine wpAnyH_ready (rs := [11]) (by kernel_rfl) (by simp) ?_
          refine AllReadyH.cons rfl (fun K hK => ?_) AllReadyH.nil
          go_simp
          refine (HIN.out _).mono ?_
          rintro e w30 ⟨rfl, hBw30⟩
          have hSw30 := held_step hBw30 hSw29
          refine hK.out _ _ hSw30 (fun _ => ?_)
          clear hK K
          try simp only [putL]
          refine wpAnyH_take (i := 12) (oi := { dst := some 28, op := Op.unOp UnOp.not 4 (Operand.tmp 27), type := 4, pos := "valid.go:38", after := #[{ on := 11, ground := Ground.data }, { on := 8, ground := Ground.guard }], guard := some (8, false) }) (v := ?v31) rfl (by kernel_rfl) (by kernel_rfl) (by kernel_rfl) (fun _ _ _ h => h) (Or.inl ⟨by rfl, ?hy31⟩) hSw30 ?r31
          case hy31 =>
           intro w' hSw
           have hq := hSw.1
           clear hSw
           go_simp
           with_reducible rfl
          try simp only [putL]
          refine wpAnyH_take (i := 13) (oi := { dst := some 29, op := Op.pick (Operand.tmp 24) (Operand.const (Value.bool true)) (Operand.tmp 28), type := 4, pos := "valid.go:38", after := #[{ on := 8, ground := Ground.data }, { on := 12, ground := Ground.data }], guard := none }) (v := ?v32) rfl (by kernel_rfl) (by kernel_rfl) (by kernel_rfl) (fun _ _ _ h => h) (Or.inl ⟨by rfl, ?hy32⟩) hSw30 ?r32
          case hy32 =>
           intro w' hSw
           have hq := hSw.1
           clear hSw
           go_simp
           with_reducible rfl
          try simp only [putL]
          refine wpAnyH_done (by kernel_rfl) ?_ _
          have hbX : Below w.heap.size w w30 := HBW.out.trans (hSw30.2.2.mono HBW.out.size)
          have HBX := Lib.hid hbX
          clear hbX
          go_wp2_with fail
          go_ret
          exact ⟨ret_b (by simp [Ld.allShores, Ld.okShore, HS1.out, HS2.out, HS3.out]), HBX.out⟩
        · have HIS : Hid (∀ W', Calls Try.prog 97 #[vSp ⟨fl0, fh0⟩] W' fun e w' => e = .returned (.bool true) ∧ Below W'.heap.size W' w') := Lib.hid fun W' => by rw [← hs1]; exact isHeight_any _ W'
          have HIE : Hid (∀ W', Calls Try.prog 91 #[vSp ⟨lo0, hi0⟩] W' fun e w' => e = .returned (.bool false) ∧ Below W'.heap.size W' w') := Lib.hid fun W' => by rw [← hs2]; exact isEmpty_any _ W'
          have HIN : Hid (∀ W', Calls Try.prog 98 #[vSp ⟨lo0, hi0⟩, vSp Ld.heights] W' fun e w' => e = .returned (.bool true) ∧ Below W'.heap.size W' w') := Lib.hid fun W' => by rw [← hs3]; exact inside_any _ _ W'
          have HS1 := Lib.hid hs1
          have HS2 := Lib.hid hs2
          have HS3 := Lib.hid hs3
          clear hs1 hs2 hs3
          refine wp_region_held_drew (S := fun w' => Held W w') (by kernel_rfl) (held_start W) (fun _ => ?_)
          refine wpAnyH_take (i := 0) (oi := { dst := some 16, op := Op.fieldAddr 26 (Operand.tmp 4) 0, type := 0, pos := "valid.go:38", after := #[], guard := none }) (v := ?v33) rfl (by kernel_rfl) (by kernel_rfl) (by kernel_rfl) (fun _ _ _ h => h) (Or.inl ⟨by rfl, ?hy33⟩) (held_start W) ?r33
          case hy33 =>
           intro w' hSw
           have hq := hSw.1
           clear hSw
           go_simp
           with_reducible rfl
          try simp only [putL]
          refine wpAnyH_take (i := 1) (oi := { dst := some 17, op := Op.load 24 (Operand.tmp 16), type := 24, pos := "valid.go:38", after := #[{ on := 0, ground := Ground.data }], guard := none }) (v := ?v34) rfl (by kernel_rfl) (by kernel_rfl) (by kernel_rfl) (fun _ _ _ h => h) (Or.inl ⟨by rfl, ?hy34⟩) (held_start W) ?r34
          case hy34 =>
           intro w' hSw
           have hq := hSw.1
           clear hSw
           go_simp
           with_reducible rfl
          try simp only [putL]
          refine wpAnyH_ready (rs := [2]) (by kernel_rfl) (by simp) ?_
          refine AllReadyH.cons rfl (fun K hK => ?_) AllReadyH.nil
          go_simp
          refine (HIS.out _).mono ?_
          rintro e w35 ⟨rfl, hBw35⟩
          have hSw35 := held_step hBw35 (held_start W)
          refine hK.out _ _ hSw35 (fun _ => ?_)
          clear hK K
          try simp only [putL]
          refine wpAnyH_take (i := 3) (oi := { dst := some 19, op := Op.unOp UnOp.not 4 (Operand.tmp 18), type := 4, pos := "valid.go:38", after := #[{ on := 2, ground := Ground.data }], guard := none }) (v := ?v36) rfl (by kernel_rfl) (by kernel_rfl) (by kernel_rfl) (fun _ _ _ h => h) (Or.inl ⟨by rfl, ?hy36⟩) hSw35 ?r36
          case hy36 =>
           intro w' hSw
           have hq := hSw.1
           clear hSw
           go_simp
           with_reducible rfl
          try simp only [putL]
          refine wpAnyH_take (i := 4) (oi := { dst := some 20, op := Op.move (Operand.tmp 19), type := 4, pos := "valid.go:38", after := #[{ on := 3, ground := Ground.data }, { on := 2, ground := Ground.chain }], guard := none }) (v := ?v37) rfl (by kernel_rfl) (by kernel_rfl) (by kernel_rfl) (fun _ _ _ h => h) (Or.inl ⟨by rfl, ?hy37⟩) hSw35 ?r37
          case hy37 =>
           intro w' hSw
           have hq := hSw.1
           clear hSw
           go_simp
           with_reducible rfl
          try simp only [putL]
          refine wpAnyH_take (i := 5) (oi := { dst := some 21, op := Op.load 24 (Operand.tmp 5), type := 24, pos := "valid.go:38", after := #[{ on := 4, ground := Ground.guard }], guard := some (4, false) }) (v := ?v38) rfl (by kernel_rfl) (by kernel_rfl) (by kernel_rfl) (fun _ _ _ h => h) (Or.inl ⟨by rfl, ?hy38⟩) hSw35 ?r38
          case hy38 =>
           intro w' hSw
           have hq := hSw.1
           clear hSw
           go_simp
           with_reducible rfl
          try simp only [putL]
          refine wpAnyH_ready (rs := [6]) (by kernel_rfl) (by simp) ?_
          refine AllReadyH.cons rfl (fun K hK => ?_) AllReadyH.nil
          go_simp
          refine (HIE.out _).mono ?_
          rintro e w39 ⟨rfl, hBw39⟩
          have hSw39 := held_step hBw39 hSw35
          refine hK.out _ _ hSw39 (fun _ => ?_)
          clear hK K
          try simp only [putL]
          refine wpAnyH_take (i := 7) (oi := { dst := some 23, op := Op.pick (Operand.tmp 20) (Operand.const (Value.bool true)) (Operand.tmp 22), type := 4, pos := "valid.go:38", after := #[{ on := 4, ground := Ground.data }, { on := 6, ground := Ground.data }], guard := none }) (v := ?v40) rfl (by kernel_rfl) (by kernel_rfl) (by kernel_rfl) (fun _ _ _ h => h) (Or.inl ⟨by rfl, ?hy40⟩) hSw39 ?r40
          case hy40 =>
           intro w' hSw
           have hq := hSw.1
           clear hSw
           go_simp
           with_reducible rfl
          try simp only [putL]
          refine wpAnyH_take (i := 8) (oi := { dst := some 24, op := Op.move (Operand.tmp 23), type := 4, pos := "valid.go:38", after := #[{ on := 7, ground := Ground.data }, { on := 6, ground := Ground.chain }], guard := none }) (v := ?v41) rfl (by kernel_rfl) (by kernel_rfl) (by kernel_rfl) (fun _ _ _ h => h) (Or.inl ⟨by rfl, ?hy41⟩) hSw39 ?r41
          case hy41 =>
           intro w' hSw
           have hq := hSw.1
           clear hSw
           go_simp
           with_reducible rfl
          try simp only [putL]
          refine wpAnyH_take (i := 9) (oi := { dst := some 25, op := Op.load 24 (Operand.tmp 5), type := 24, pos := "valid.go:38", after := #[{ on := 8, ground := Ground.guard }], guard := some (8, false) }) (v := ?v42) rfl (by kernel_rfl) (by kernel_rfl) (by kernel_rfl) (fun _ _ _ h => h) (Or.inl ⟨by rfl, ?hy42⟩) hSw39 ?r42
          case hy42 =>
           intro w' hSw
           have hq := hSw.1
           clear hSw
           go_simp
           with_reducible rfl
          try simp only [putL]
          refine wpAnyH_ready (rs := [10]) (by kernel_rfl) (by simp) ?_
          refine AllReadyH.cons rfl (fun K hK => ?_) AllReadyH.nil
          go_simp
          refine (heights_any _).mono ?_
          rintro e w43 ⟨rfl, hBw43⟩
          have hSw43 := held_step hBw43 hSw39
          refine hK.out _ _ hSw43 (fun _ => ?_)
          clear hK K
          try simp only [putL]
          refine wpAnyH_ready (rs := [11]) (by kernel_rfl) (by simp) ?_
          refine AllReadyH.cons rfl (fun K hK => ?_) AllReadyH.nil
          go_simp
          refine (HIN.out _).mono ?_
          rintro e w44 ⟨rfl, hBw44⟩
          have hSw44 := held_step hBw44 hSw43
          refine hK.out _ _ hSw44 (fun _ => ?_)
          clear hK K
          try simp only [putL]
          refine wpAnyH_take (i := 12) (oi := { dst := some 28, op := Op.unOp UnOp.not 4 (Operand.tmp 27), type := 4, pos := "valid.go:38", after := #[{ on := 11, ground := Ground.data }, { on := 8, ground := Ground.guard }], guard := some (8, false) }) (v := ?v45) rfl (by kernel_rfl) (by kernel_rfl) (by kernel_rfl) (fun _ _ _ h => h) (Or.inl ⟨by rfl, ?hy45⟩) hSw44 ?r45
          case hy45 =>
           intro w' hSw
           have hq := hSw.1
           clear hSw
           go_simp
           with_reducible rfl
          try simp only [putL]
          refine wpAnyH_take (i := 13) (oi := { dst := some 29, op := Op.pick (Operand.tmp 24) (Operand.const (Value.bool true)) (Operand.tmp 28), type := 4, pos := "valid.go:38", after := #[{ on := 8, ground := Ground.data }, { on := 12, ground := Ground.data }], guard := none }) (v := ?v46) rfl (by kernel_rfl) (by kernel_rfl) (by kernel_rfl) (fun _ _ _ h => h) (Or.inl ⟨by rfl, ?hy46⟩) hSw44 ?r46
          case hy46 =>
           intro w' hSw
           have hq := hSw.1
           clear hSw
           go_simp
           with_reducible rfl
          try simp only [putL]
          refine wpAnyH_done (by kernel_rfl) ?_ _
          have hbX : Below w.heap.size w w44 := HBW.out.trans (hSw44.2.2.mono HBW.out.size)
          have HBX := Lib.hid hbX
          clear hbX
          go_wp2_with fail
          go_roundw
          case rel => exact ⟨1, by omega, by go_num, HBX.out, fun h => by simp [Ld.okShore, HS1.out, HS2.out, HS3.out], fun h => by omega⟩
          case measure => simp [intOf]
  · go_wp2_with fail
    refine name_world ?_
    intro W hW
    have hBW : Below wr.heap.size wr W := by rw [hW]; exact ((Below.refl _ _).alloc (Nat.le_refl _) _).alloc (by simp) _
    have rS : W.heap[wr.heap.size]? = some (.cells #[I fl1, I fh1, I lo1, I hi1] 26 (0, 0)) := by rw [hW]; exact (Below.heap_alloc _ _ _ (by simp)).trans (heap_at _ _ rfl)
    have rP : W.heap[wr.heap.size + 1]? = some (.cells #[I lo1, I hi1] 24 (0, 0)) := by rw [hW]; exact heap_at _ _ (by simp)
    have hl0 : wr.heap.size < W.heap.size := heap_lt rS
    have hl1 : wr.heap.size + 1 < W.heap.size := heap_lt rP
    have s0 := cell_of_row W _ 0 _ _ _ rS
    have s1 := cell_of_row W _ 1 _ _ _ rS
    have p0 := cell_of_row W _ 0 _ _ _ rP
    have p1 := cell_of_row W _ 1 _ _ _ rP
    simp only [List.getElem?_toArray, List.getElem?_cons_zero, List.getElem?_cons_succ] at s0 s1 p0 p1
    have HBW := Lib.hid (HBR.out.trans (hBW.mono hzw))
    have HZW := Lib.hid hzw
    clear hW hBW rS rP ix0 ix1 hzw
    cases hs1 : Ld.isHeight ⟨fl1, fh1⟩
    · have HIS : Hid (∀ W', Calls Try.prog 97 #[vSp ⟨fl1, fh1⟩] W' fun e w' => e = .returned (.bool false) ∧ Below W'.heap.size W' w') := Lib.hid fun W' => by rw [← hs1]; exact isHeight_any _ W'
      have HS1 := Lib.hid hs1
      clear hs1
      refine wp_region_held_drew (S := fun w' => Held W w') (by kernel_rfl) (held_start W) (fun _ => ?_)
      refine wpAnyH_take (i := 0) (oi := { dst := some 16, op := Op.fieldAddr 26 (Operand.tmp 4) 0, type := 0, pos := "valid.go:38", after := #[], guard := none }) (v := ?v47) rfl (by kernel_rfl) (by kernel_rfl) (by kernel_rfl) (fun _ _ _ h => h) (Or.inl ⟨by rfl, ?hy47⟩) (held_start W) ?r47
      case hy47 =>
       intro w' hSw
       have hq := hSw.1
       clear hSw
       go_simp
       with_reducible rfl
      try simp only [putL]
      refine wpAnyH_take (i := 1) (oi := { dst := some 17, op := Op.load 24 (Operand.tmp 16), type := 24, pos := "valid.go:38", after := #[{ on := 0, ground := Ground.data }], guard := none }) (v := ?v48) rfl (by kernel_rfl) (by kernel_rfl) (by kernel_rfl) (fun _ _ _ h => h) (Or.inl ⟨by rfl, ?hy48⟩) (held_start W) ?r48
      case hy48 =>
       intro w' hSw
       have hq := hSw.1
       clear hSw
       go_simp
       with_reducible rfl
      try simp only [putL]
      refine wpAnyH_ready (rs := [2]) (by kernel_rfl) (by simp) ?_
      refine AllReadyH.cons rfl (fun K hK => ?_) AllReadyH.nil
      go_simp
      refine (HIS.out _).mono ?_
      rintro e w49 ⟨rfl, hBw49⟩
      have hSw49 := held_step hBw49 (held_start W)
      refine hK.out _ _ hSw49 (fun _ => ?_)
      clear hK K
      try simp only [putL]
      refine wpAnyH_take (i := 3) (oi := { dst := some 19, op := Op.unOp UnOp.not 4 (Operand.tmp 18), type := 4, pos := "valid.go:38", after := #[{ on := 2, ground := Ground.data }], guard := none }) (v := ?v50) rfl (by kernel_rfl) (by kernel_rfl) (by kernel_rfl) (fun _ _ _ h => h) (Or.inl ⟨by rfl, ?hy50⟩) hSw49 ?r50
      case hy50 =>
       intro w' hSw
       have hq := hSw.1
       clear hSw
       go_simp
       with_reducible rfl
      try simp only [putL]
      refine wpAnyH_take (i := 4) (oi := { dst := some 20, op := Op.move (Operand.tmp 19), type := 4, pos := "valid.go:38", after := #[{ on := 3, ground := Ground.data }, { on := 2, ground := Ground.chain }], guard := none }) (v := ?v51) rfl (by kernel_rfl) (by kernel_rfl) (by kernel_rfl) (fun _ _ _ h => h) (Or.inl ⟨by rfl, ?hy51⟩) hSw49 ?r51
      case hy51 =>
       intro w' hSw
       have hq := hSw.1
       clear hSw
       go_simp
       with_reducible rfl
      try simp only [putL]
      refine wpAnyH_take (i := 5) (oi := { dst := some 21, op := Op.load 24 (Operand.tmp 5), type := 24, pos := "valid.go:38", after := #[{ on := 4, ground := Ground.guard }], guard := some (4, false) }) (v := undef) rfl (by kernel_rfl) (by kernel_rfl) (by kernel_rfl) (fun _ _ _ h => h) (Or.inr ⟨by rfl, rfl⟩) hSw49 ?_
      try simp only [putL]
      refine wpAnyH_take (i := 6) (oi := { dst := some 22, op := Op.call { callee := Callee.value (Operand.func 91), args := #[Operand.tmp 21], argTypes := #[24] }, type := 4, pos := "valid.go:38", after := #[{ on := 5, ground := Ground.data }, { on := 4, ground := Ground.chain }, { on := 4, ground := Ground.guard }], guard := some (4, false) }) (v := undef) rfl (by kernel_rfl) (by kernel_rfl) (by kernel_rfl) (fun _ _ _ h => h) (Or.inr ⟨by rfl, rfl⟩) hSw49 ?_
      try simp only [putL]
      refine wpAnyH_take (i := 7) (oi := { dst := some 23, op := Op.pick (Operand.tmp 20) (Operand.const (Value.bool true)) (Operand.tmp 22), type := 4, pos := "valid.go:38", after := #[{ on := 4, ground := Ground.data }, { on := 6, ground := Ground.data }], guard := none }) (v := ?v52) rfl (by kernel_rfl) (by kernel_rfl) (by kernel_rfl) (fun _ _ _ h => h) (Or.inl ⟨by rfl, ?hy52⟩) hSw49 ?r52
      case hy52 =>
       intro w' hSw
       have hq := hSw.1
       clear hSw
       go_simp
       with_reducible rfl
      try simp only [putL]
      refine wpAnyH_take (i := 8) (oi := { dst := some 24, op := Op.move (Operand.tmp 23), type := 4, pos := "valid.go:38", after := #[{ on := 7, ground := Ground.data }, { on := 6, ground := Ground.chain }], guard := none }) (v := ?v53) rfl (by kernel_rfl) (by kernel_rfl) (by kernel_rfl) (fun _ _ _ h => h) (Or.inl ⟨by rfl, ?hy53⟩) hSw49 ?r53
      case hy53 =>
       intro w' hSw
       have hq := hSw.1
       clear hSw
       go_simp
       with_reducible rfl
      try simp only [putL]
      refine wpAnyH_take (i := 9) (oi := { dst := some 25, op := Op.load 24 (Operand.tmp 5), type := 24, pos := "valid.go:38", after := #[{ on := 8, ground := Ground.guard }], guard := some (8, false) }) (v := undef) rfl (by kernel_rfl) (by kernel_rfl) (by kernel_rfl) (fun _ _ _ h => h) (Or.inr ⟨by rfl, rfl⟩) hSw49 ?_
      try simp only [putL]
      refine wpAnyH_take (i := 10) (oi := { dst := some 26, op := Op.call { callee := Callee.value (Operand.func 99), args := #[], argTypes := #[] }, type := 24, pos := "valid.go:38", after := #[{ on := 8, ground := Ground.chain }, { on := 8, ground := Ground.guard }], guard := some (8, false) }) (v := undef) rfl (by kernel_rfl) (by kernel_rfl) (by kernel_rfl) (fun _ _ _ h => h) (Or.inr ⟨by rfl, rfl⟩) hSw49 ?_
      try simp only [putL]
      refine wpAnyH_take (i := 11) (oi := { dst := some 27, op := Op.call { callee := Callee.value (Operand.func 98), args := #[Operand.tmp 25, Operand.tmp 26], argTypes := #[24, 24] }, type := 4, pos := "valid.go:38", after := #[{ on := 9, ground := Ground.data }, { on := 10, ground := Ground.data }, { on := 10, ground := Ground.chain }, { on := 8, ground := Ground.guard }], guard := some (8, false) }) (v := undef) rfl (by kernel_rfl) (by kernel_rfl) (by kernel_rfl) (fun _ _ _ h => h) (Or.inr ⟨by rfl, rfl⟩) hSw49 ?_
      try simp only [putL]
      refine wpAnyH_take (i := 12) (oi := { dst := some 28, op := Op.unOp UnOp.not 4 (Operand.tmp 27), type := 4, pos := "valid.go:38", after := #[{ on := 11, ground := Ground.data }, { on := 8, ground := Ground.guard }], guard := some (8, false) }) (v := undef) rfl (by kernel_rfl) (by kernel_rfl) (by kernel_rfl) (fun _ _ _ h => h) (Or.inr ⟨by rfl, rfl⟩) hSw49 ?_
      try simp only [putL]
      refine wpAnyH_take (i := 13) (oi := { dst := some 29, op := Op.pick (Operand.tmp 24) (Operand.const (Value.bool true)) (Operand.tmp 28), type := 4, pos := "valid.go:38", after := #[{ on := 8, ground := Ground.data }, { on := 12, ground := Ground.data }], guard := none }) (v := ?v54) rfl (by kernel_rfl) (by kernel_rfl) (by kernel_rfl) (fun _ _ _ h => h) (Or.inl ⟨by rfl, ?hy54⟩) hSw49 ?r54
      case hy54 =>
       intro w' hSw
       have hq := hSw.1
       clear hSw
       go_simp
       with_reducible rfl
      try simp only [putL]
      refine wpAnyH_done (by kernel_rfl) ?_ _
      have hbX : Below w.heap.size w w49 := HBW.out.trans (hSw49.2.2.mono HBW.out.size)
      have HBX := Lib.hid hbX
      clear hbX
      go_wp2_with fail
      go_ret
      exact ⟨ret_b (by simp [Ld.allShores, Ld.okShore, HS1.out]), HBX.out⟩
    · cases hs2 : Ld.isEmpty ⟨lo1, hi1⟩
      rotate_left
      · have HIS : Hid (∀ W', Calls Try.prog 97 #[vSp ⟨fl1, fh1⟩] W' fun e w' => e = .returned (.bool true) ∧ Below W'.heap.size W' w') := Lib.hid fun W' => by rw [← hs1]; exact isHeight_any _ W'
        have HIE : Hid (∀ W', Calls Try.prog 91 #[vSp ⟨lo1, hi1⟩] W' fun e w' => e = .returned (.bool true) ∧ Below W'.heap.size W' w') := Lib.hid fun W' => by rw [← hs2]; exact isEmpty_any _ W'
        have HS1 := Lib.hid hs1
        have HS2 := Lib.hid hs2
        clear hs1 hs2
        refine wp_region_held_drew (S := fun w' => Held W w') (by kernel_rfl) (held_start W) (fun _ => ?_)
        refine wpAnyH_take (i := 0) (oi := { dst := some 16, op := Op.fieldAddr 26 (Operand.tmp 4) 0, type := 0, pos := "valid.go:38", after := #[], guard := none }) (v := ?v55) rfl (by kernel_rfl) (by kernel_rfl) (by kernel_rfl) (fun _ _ _ h => h) (Or.inl ⟨by rfl, ?hy55⟩) (held_start W) ?r55
        case hy55 =>
         intro w' hSw
         have hq := hSw.1
         clear hSw
         go_simp
         with_reducible rfl
        try simp only [putL]
        refine wpAnyH_take (i := 1) (oi := { dst := some 17, op := Op.load 24 (Operand.tmp 16), type := 24, pos := "valid.go:38", after := #[{ on := 0, ground := Ground.data }], guard := none }) (v := ?v56) rfl (by kernel_rfl) (by kernel_rfl) (by kernel_rfl) (fun _ _ _ h => h) (Or.inl ⟨by rfl, ?hy56⟩) (held_start W) ?r56
        case hy56 =>
         intro w' hSw
         have hq := hSw.1
         clear hSw
         go_simp
         with_reducible rfl
        try simp only [putL]
        refine wpAnyH_ready (rs := [2]) (by kernel_rfl) (by simp) ?_
        refine AllReadyH.cons rfl (fun K hK => ?_) AllReadyH.nil
        go_simp
        refine (HIS.out _).mono ?_
        rintro e w57 ⟨rfl, hBw57⟩
        have hSw57 := held_step hBw57 (held_start W)
        refine hK.out _ _ hSw57 (fun _ => ?_)
        clear hK K
        try simp only [putL]
        refine wpAnyH_take (i := 3) (oi := { dst := some 19, op := Op.unOp UnOp.not 4 (Operand.tmp 18), type := 4, pos := "valid.go:38", after := #[{ on := 2, ground := Ground.data }], guard := none }) (v := ?v58) rfl (by kernel_rfl) (by kernel_rfl) (by kernel_rfl) (fun _ _ _ h => h) (Or.inl ⟨by rfl, ?hy58⟩) hSw57 ?r58
        case hy58 =>
         intro w' hSw
         have hq := hSw.1
         clear hSw
         go_simp
         with_reducible rfl
        try simp only [putL]
        refine wpAnyH_take (i := 4) (oi := { dst := some 20, op := Op.move (Operand.tmp 19), type := 4, pos := "valid.go:38", after := #[{ on := 3, ground := Ground.data }, { on := 2, ground := Ground.chain }], guard := none }) (v := ?v59) rfl (by kernel_rfl) (by kernel_rfl) (by kernel_rfl) (fun _ _ _ h => h) (Or.inl ⟨by rfl, ?hy59⟩) hSw57 ?r59
        case hy59 =>
         intro w' hSw
         have hq := hSw.1
         clear hSw
         go_simp
         with_reducible rfl
        try simp only [putL]
        refine wpAnyH_take (i := 5) (oi := { dst := some 21, op := Op.load 24 (Operand.tmp 5), type := 24, pos := "valid.go:38", after := #[{ on := 4, ground := Ground.guard }], guard := some (4, false) }) (v := ?v60) rfl (by kernel_rfl) (by kernel_rfl) (by kernel_rfl) (fun _ _ _ h => h) (Or.inl ⟨by rfl, ?hy60⟩) hSw57 ?r60
        case hy60 =>
         intro w' hSw
         have hq := hSw.1
         clear hSw
         go_simp
         with_reducible rfl
        try simp only [putL]
        refine wpAnyH_ready (rs := [6]) (by kernel_rfl) (by simp) ?_
        refine AllReadyH.cons rfl (fun K hK => ?_) AllReadyH.nil
        go_simp
        refine (HIE.out _).mono ?_
        rintro e w61 ⟨rfl, hBw61⟩
        have hSw61 := held_step hBw61 hSw57
        refine hK.out _ _ hSw61 (fun _ => ?_)
        clear hK K
        try simp only [putL]
        refine wpAnyH_take (i := 7) (oi := { dst := some 23, op := Op.pick (Operand.tmp 20) (Operand.const (Value.bool true)) (Operand.tmp 22), type := 4, pos := "valid.go:38", after := #[{ on := 4, ground := Ground.data }, { on := 6, ground := Ground.data }], guard := none }) (v := ?v62) rfl (by kernel_rfl) (by kernel_rfl) (by kernel_rfl) (fun _ _ _ h => h) (Or.inl ⟨by rfl, ?hy62⟩) hSw61 ?r62
        case hy62 =>
         intro w' hSw
         have hq := hSw.1
         clear hSw
         go_simp
         with_reducible rfl
        try simp only [putL]
        refine wpAnyH_take (i := 8) (oi := { dst := some 24, op := Op.move (Operand.tmp 23), type := 4, pos := "valid.go:38", after := #[{ on := 7, ground := Ground.data }, { on := 6, ground := Ground.chain }], guard := none }) (v := ?v63) rfl (by kernel_rfl) (by kernel_rfl) (by kernel_rfl) (fun _ _ _ h => h) (Or.inl ⟨by rfl, ?hy63⟩) hSw61 ?r63
        case hy63 =>
         intro w' hSw
         have hq := hSw.1
         clear hSw
         go_simp
         with_reducible rfl
        try simp only [putL]
        refine wpAnyH_take (i := 9) (oi := { dst := some 25, op := Op.load 24 (Operand.tmp 5), type := 24, pos := "valid.go:38", after := #[{ on := 8, ground := Ground.guard }], guard := some (8, false) }) (v := undef) rfl (by kernel_rfl) (by kernel_rfl) (by kernel_rfl) (fun _ _ _ h => h) (Or.inr ⟨by rfl, rfl⟩) hSw61 ?_
        try simp only [putL]
        refine wpAnyH_take (i := 10) (oi := { dst := some 26, op := Op.call { callee := Callee.value (Operand.func 99), args := #[], argTypes := #[] }, type := 24, pos := "valid.go:38", after := #[{ on := 8, ground := Ground.chain }, { on := 8, ground := Ground.guard }], guard := some (8, false) }) (v := undef) rfl (by kernel_rfl) (by kernel_rfl) (by kernel_rfl) (fun _ _ _ h => h) (Or.inr ⟨by rfl, rfl⟩) hSw61 ?_
        try simp only [putL]
        refine wpAnyH_take (i := 11) (oi := { dst := some 27, op := Op.call { callee := Callee.value (Operand.func 98), args := #[Operand.tmp 25, Operand.tmp 26], argTypes := #[24, 24] }, type := 4, pos := "valid.go:38", after := #[{ on := 9, ground := Ground.data }, { on := 10, ground := Ground.data }, { on := 10, ground := Ground.chain }, { on := 8, ground := Ground.guard }], guard := some (8, false) }) (v := undef) rfl (by kernel_rfl) (by kernel_rfl) (by kernel_rfl) (fun _ _ _ h => h) (Or.inr ⟨by rfl, rfl⟩) hSw61 ?_
        try simp only [putL]
        refine wpAnyH_take (i := 12) (oi := { dst := some 28, op := Op.unOp UnOp.not 4 (Operand.tmp 27), type := 4, pos := "valid.go:38", after := #[{ on := 11, ground := Ground.data }, { on := 8, ground := Ground.guard }], guard := some (8, false) }) (v := undef) rfl (by kernel_rfl) (by kernel_rfl) (by kernel_rfl) (fun _ _ _ h => h) (Or.inr ⟨by rfl, rfl⟩) hSw61 ?_
        try simp only [putL]
        refine wpAnyH_take (i := 13) (oi := { dst := some 29, op := Op.pick (Operand.tmp 24) (Operand.const (Value.bool true)) (Operand.tmp 28), type := 4, pos := "valid.go:38", after := #[{ on := 8, ground := Ground.data }, { on := 12, ground := Ground.data }], guard := none }) (v := ?v64) rfl (by kernel_rfl) (by kernel_rfl) (by kernel_rfl) (fun _ _ _ h => h) (Or.inl ⟨by rfl, ?hy64⟩) hSw61 ?r64
        case hy64 =>
         intro w' hSw
         have hq := hSw.1
         clear hSw
         go_simp
         with_reducible rfl
        try simp only [putL]
        refine wpAnyH_done (by kernel_rfl) ?_ _
        have hbX : Below w.heap.size w w61 := HBW.out.trans (hSw61.2.2.mono HBW.out.size)
        have HBX := Lib.hid hbX
        clear hbX
        go_wp2_with fail
        go_ret
        exact ⟨ret_b (by simp [Ld.allShores, Ld.okShore, HS1.out, HS2.out]), HBX.out⟩
      · cases hs3 : Ld.inside ⟨lo1, hi1⟩ Ld.heights
        · have HIS : Hid (∀ W', Calls Try.prog 97 #[vSp ⟨fl1, fh1⟩] W' fun e w' => e = .returned (.bool true) ∧ Below W'.heap.size W' w') := Lib.hid fun W' => by rw [← hs1]; exact isHeight_any _ W'
          have HIE : Hid (∀ W', Calls Try.prog 91 #[vSp ⟨lo1, hi1⟩] W' fun e w' => e = .returned (.bool false) ∧ Below W'.heap.size W' w') := Lib.hid fun W' => by rw [← hs2]; exact isEmpty_any _ W'
          have HIN : Hid (∀ W', Calls Try.prog 98 #[vSp ⟨lo1, hi1⟩, vSp Ld.heights] W' fun e w' => e = .returned (.bool false) ∧ Below W'.heap.size W' w') := Lib.hid fun W' => by rw [← hs3]; exact inside_any _ _ W'
          have HS1 := Lib.hid hs1
          have HS2 := Lib.hid hs2
          have HS3 := Lib.hid hs3
          clear hs1 hs2 hs3
          refine wp_region_held_drew (S := fun w' => Held W w') (by kernel_rfl) (held_start W) (fun _ => ?_)
          refine wpAnyH_take (i := 0) (oi := { dst := some 16, op := Op.fieldAddr 26 (Operand.tmp 4) 0, type := 0, pos := "valid.go:38", after := #[], guard := none }) (v := ?v65) rfl (by kernel_rfl) (by kernel_rfl) (by kernel_rfl) (fun _ _ _ h => h) (Or.inl ⟨by rfl, ?hy65⟩) (held_start W) ?r65
          case hy65 =>
           intro w' hSw
           have hq := hSw.1
           clear hSw
           go_simp
           with_reducible rfl
          try simp only [putL]
          refine wpAnyH_take (i := 1) (oi := { dst := some 17, op := Op.load 24 (Operand.tmp 16), type := 24, pos := "valid.go:38", after := #[{ on := 0, ground := Ground.data }], guard := none }) (v := ?v66) rfl (by kernel_rfl) (by kernel_rfl) (by kernel_rfl) (fun _ _ _ h => h) (Or.inl ⟨by rfl, ?hy66⟩) (held_start W) ?r66
          case hy66 =>
           intro w' hSw
           have hq := hSw.1
           clear hSw
           go_simp
           with_reducible rfl
          try simp only [putL]
          refine wpAnyH_ready (rs := [2]) (by kernel_rfl) (by simp) ?_
          refine AllReadyH.cons rfl (fun K hK => ?_) AllReadyH.nil
          go_simp
          refine (HIS.out _).mono ?_
          rintro e w67 ⟨rfl, hBw67⟩
          have hSw67 := held_step hBw67 (held_start W)
          refine hK.out _ _ hSw67 (fun _ => ?_)
          clear hK K
          try simp only [putL]
          refine wpAnyH_take (i := 3) (oi := { dst := some 19, op := Op.unOp UnOp.not 4 (Operand.tmp 18), type := 4, pos := "valid.go:38", after := #[{ on := 2, ground := Ground.data }], guard := none }) (v := ?v68) rfl (by kernel_rfl) (by kernel_rfl) (by kernel_rfl) (fun _ _ _ h => h) (Or.inl ⟨by rfl, ?hy68⟩) hSw67 ?r68
          case hy68 =>
           intro w' hSw
           have hq := hSw.1
           clear hSw
           go_simp
           with_reducible rfl
          try simp only [putL]
          refine wpAnyH_take (i := 4) (oi := { dst := some 20, op := Op.move (Operand.tmp 19), type := 4, pos := "valid.go:38", after := #[{ on := 3, ground := Ground.data }, { on := 2, ground := Ground.chain }], guard := none }) (v := ?v69) rfl (by kernel_rfl) (by kernel_rfl) (by kernel_rfl) (fun _ _ _ h => h) (Or.inl ⟨by rfl, ?hy69⟩) hSw67 ?r69
          case hy69 =>
           intro w' hSw
           have hq := hSw.1
           clear hSw
           go_simp
           with_reducible rfl
          try simp only [putL]
          refine wpAnyH_take (i := 5) (oi := { dst := some 21, op := Op.load 24 (Operand.tmp 5), type := 24, pos := "valid.go:38", after := #[{ on := 4, ground := Ground.guard }], guard := some (4, false) }) (v := ?v70) rfl (by kernel_rfl) (by kernel_rfl) (by kernel_rfl) (fun _ _ _ h => h) (Or.inl ⟨by rfl, ?hy70⟩) hSw67 ?r70
          case hy70 =>
           intro w' hSw
           have hq := hSw.1
           clear hSw
           go_simp
           with_reducible rfl
          try simp only [putL]
          refine wpAnyH_ready (rs := [6]) (by kernel_rfl) (by simp) ?_
          refine AllReadyH.cons rfl (fun K hK => ?_) AllReadyH.nil
          go_simp
          refine (HIE.out _).mono ?_
          rintro e w71 ⟨rfl, hBw71⟩
          have hSw71 := held_step hBw71 hSw67
          refine hK.out _ _ hSw71 (fun _ => ?_)
          clear hK K
          try simp only [putL]
          refine wpAnyH_take (i := 7) (oi := { dst := some 23, op := Op.pick (Operand.tmp 20) (Operand.const (Value.bool true)) (Operand.tmp 22), type := 4, pos := "valid.go:38", after := #[{ on := 4, ground := Ground.data }, { on := 6, ground := Ground.data }], guard := none }) (v := ?v72) rfl (by kernel_rfl) (by kernel_rfl) (by kernel_rfl) (fun _ _ _ h => h) (Or.inl ⟨by rfl, ?hy72⟩) hSw71 ?r72
          case hy72 =>
           intro w' hSw
           have hq := hSw.1
           clear hSw
           go_simp
           with_reducible rfl
          try simp only [putL]
          refine wpAnyH_take (i := 8) (oi := { dst := some 24, op := Op.move (Operand.tmp 23), type := 4, pos := "valid.go:38", after := #[{ on := 7, ground := Ground.data }, { on := 6, ground := Ground.chain }], guard := none }) (v := ?v73) rfl (by kernel_rfl) (by kernel_rfl) (by kernel_rfl) (fun _ _ _ h => h) (Or.inl ⟨by rfl, ?hy73⟩) hSw71 ?r73
          case hy73 =>
           intro w' hSw
           have hq := hSw.1
           clear hSw
           go_simp
           with_reducible rfl
          try simp only [putL]
          refine wpAnyH_take (i := 9) (oi := { dst := some 25, op := Op.load 24 (Operand.tmp 5), type := 24, pos := "valid.go:38", after := #[{ on := 8, ground := Ground.guard }], guard := some (8, false) }) (v := ?v74) rfl (by kernel_rfl) (by kernel_rfl) (by kernel_rfl) (fun _ _ _ h => h) (Or.inl ⟨by rfl, ?hy74⟩) hSw71 ?r74
          case hy74 =>
           intro w' hSw
           have hq := hSw.1
           clear hSw
           go_simp
           with_reducible rfl
          try simp only [putL]
          refine wpAnyH_ready (rs := [10]) (by kernel_rfl) (by simp) ?_
          refine AllReadyH.cons rfl (fun K hK => ?_) AllReadyH.nil
          go_simp
          refine (heights_any _).mono ?_
          rintro e w75 ⟨rfl, hBw75⟩
          have hSw75 := held_step hBw75 hSw71
          refine hK.out _ _ hSw75 (fun _ => ?_)
          clear hK K
          try simp only [putL]
          refine wpAnyH_ready (rs := [11]) (by kernel_rfl) (by simp) ?_
          refine AllReadyH.cons rfl (fun K hK => ?_) AllReadyH.nil
          go_simp
          refine (HIN.out _).mono ?_
          rintro e w76 ⟨rfl, hBw76⟩
          have hSw76 := held_step hBw76 hSw75
          refine hK.out _ _ hSw76 (fun _ => ?_)
          clear hK K
          try simp only [putL]
          refine wpAnyH_take (i := 12) (oi := { dst := some 28, op := Op.unOp UnOp.not 4 (Operand.tmp 27), type := 4, pos := "valid.go:38", after := #[{ on := 11, ground := Ground.data }, { on := 8, ground := Ground.guard }], guard := some (8, false) }) (v := ?v77) rfl (by kernel_rfl) (by kernel_rfl) (by kernel_rfl) (fun _ _ _ h => h) (Or.inl ⟨by rfl, ?hy77⟩) hSw76 ?r77
          case hy77 =>
           intro w' hSw
           have hq := hSw.1
           clear hSw
           go_simp
           with_reducible rfl
          try simp only [putL]
          refine wpAnyH_take (i := 13) (oi := { dst := some 29, op := Op.pick (Operand.tmp 24) (Operand.const (Value.bool true)) (Operand.tmp 28), type := 4, pos := "valid.go:38", after := #[{ on := 8, ground := Ground.data }, { on := 12, ground := Ground.data }], guard := none }) (v := ?v78) rfl (by kernel_rfl) (by kernel_rfl) (by kernel_rfl) (fun _ _ _ h => h) (Or.inl ⟨by rfl, ?hy78⟩) hSw76 ?r78
          case hy78 =>
           intro w' hSw
           have hq := hSw.1
           clear hSw
           go_simp
           with_reducible rfl
          try simp only [putL]
          refine wpAnyH_done (by kernel_rfl) ?_ _
          have hbX : Below w.heap.size w w76 := HBW.out.trans (hSw76.2.2.mono HBW.out.size)
          have HBX := Lib.hid hbX
          clear hbX
          go_wp2_with fail
          go_ret
          exact ⟨ret_b (by simp [Ld.allShores, Ld.okShore, HS1.out, HS2.out, HS3.out]), HBX.out⟩
        · have HIS : Hid (∀ W', Calls Try.prog 97 #[vSp ⟨fl1, fh1⟩] W' fun e w' => e = .returned (.bool true) ∧ Below W'.heap.size W' w') := Lib.hid fun W' => by rw [← hs1]; exact isHeight_any _ W'
          have HIE : Hid (∀ W', Calls Try.prog 91 #[vSp ⟨lo1, hi1⟩] W' fun e w' => e = .returned (.bool false) ∧ Below W'.heap.size W' w') := Lib.hid fun W' => by rw [← hs2]; exact isEmpty_any _ W'
          have HIN : Hid (∀ W', Calls Try.prog 98 #[vSp ⟨lo1, hi1⟩, vSp Ld.heights] W' fun e w' => e = .returned (.bool true) ∧ Below W'.heap.size W' w') := Lib.hid fun W' => by rw [← hs3]; exact inside_any _ _ W'
          have HS1 := Lib.hid hs1
          have HS2 := Lib.hid hs2
          have HS3 := Lib.hid hs3
          clear hs1 hs2 hs3
          refine wp_region_held_drew (S := fun w' => Held W w') (by kernel_rfl) (held_start W) (fun _ => ?_)
          refine wpAnyH_take (i := 0) (oi := { dst := some 16, op := Op.fieldAddr 26 (Operand.tmp 4) 0, type := 0, pos := "valid.go:38", after := #[], guard := none }) (v := ?v79) rfl (by kernel_rfl) (by kernel_rfl) (by kernel_rfl) (fun _ _ _ h => h) (Or.inl ⟨by rfl, ?hy79⟩) (held_start W) ?r79
          case hy79 =>
           intro w' hSw
           have hq := hSw.1
           clear hSw
           go_simp
           with_reducible rfl
          try simp only [putL]
          refine wpAnyH_take (i := 1) (oi := { dst := some 17, op := Op.load 24 (Operand.tmp 16), type := 24, pos := "valid.go:38", after := #[{ on := 0, ground := Ground.data }], guard := none }) (v := ?v80) rfl (by kernel_rfl) (by kernel_rfl) (by kernel_rfl) (fun _ _ _ h => h) (Or.inl ⟨by rfl, ?hy80⟩) (held_start W) ?r80
          case hy80 =>
           intro w' hSw
           have hq := hSw.1
           clear hSw
           go_simp
           with_reducible rfl
          try simp only [putL]
          refine wpAnyH_ready (rs := [2]) (by kernel_rfl) (by simp) ?_
          refine AllReadyH.cons rfl (fun K hK => ?_) AllReadyH.nil
          go_simp
          refine (HIS.out _).mono ?_
          rintro e w81 ⟨rfl, hBw81⟩
          have hSw81 := held_step hBw81 (held_start W)
          refine hK.out _ _ hSw81 (fun _ => ?_)
          clear hK K
          try simp only [putL]
          refine wpAnyH_take (i := 3) (oi := { dst := some 19, op := Op.unOp UnOp.not 4 (Operand.tmp 18), type := 4, pos := "valid.go:38", after := #[{ on := 2, ground := Ground.data }], guard := none }) (v := ?v82) rfl (by kernel_rfl) (by kernel_rfl) (by kernel_rfl) (fun _ _ _ h => h) (Or.inl ⟨by rfl, ?hy82⟩) hSw81 ?r82
          case hy82 =>
           intro w' hSw
           have hq := hSw.1
           clear hSw
           go_simp
           with_reducible rfl
          try simp only [putL]
          refine wpAnyH_take (i := 4) (oi := { dst := some 20, op := Op.move (Operand.tmp 19), type := 4, pos := "valid.go:38", after := #[{ on := 3, ground := Ground.data }, { on := 2, ground := Ground.chain }], guard := none }) (v := ?v83) rfl (by kernel_rfl) (by kernel_rfl) (by kernel_rfl) (fun _ _ _ h => h) (Or.inl ⟨by rfl, ?hy83⟩) hSw81 ?r83
          case hy83 =>
           intro w' hSw
           have hq := hSw.1
           clear hSw
           go_simp
           with_reducible rfl
          try simp only [putL]
          refine wpAnyH_take (i := 5) (oi := { dst := some 21, op := Op.load 24 (Operand.tmp 5), type := 24, pos := "valid.go:38", after := #[{ on := 4, ground := Ground.guard }], guard := some (4, false) }) (v := ?v84) rfl (by kernel_rfl) (by kernel_rfl) (by kernel_rfl) (fun _ _ _ h => h) (Or.inl ⟨by rfl, ?hy84⟩) hSw81 ?r84
          case hy84 =>
           intro w' hSw
           have hq := hSw.1
           clear hSw
           go_simp
           with_reducible rfl
          try simp only [putL]
          refine wpAnyH_ready (rs := [6]) (by kernel_rfl) (by simp) ?_
          refine AllReadyH.cons rfl (fun K hK => ?_) AllReadyH.nil
          go_simp
          refine (HIE.out _).mono ?_
          rintro e w85 ⟨rfl, hBw85⟩
          have hSw85 := held_step hBw85 hSw81
          refine hK.out _ _ hSw85 (fun _ => ?_)
          clear hK K
          try simp only [putL]
          refine wpAnyH_take (i := 7) (oi := { dst := some 23, op := Op.pick (Operand.tmp 20) (Operand.const (Value.bool true)) (Operand.tmp 22), type := 4, pos := "valid.go:38", after := #[{ on := 4, ground := Ground.data }, { on := 6, ground := Ground.data }], guard := none }) (v := ?v86) rfl (by kernel_rfl) (by kernel_rfl) (by kernel_rfl) (fun _ _ _ h => h) (Or.inl ⟨by rfl, ?hy86⟩) hSw85 ?r86
          case hy86 =>
           intro w' hSw
           have hq := hSw.1
           clear hSw
           go_simp
           with_reducible rfl
          try simp only [putL]
          refine wpAnyH_take (i := 8) (oi := { dst := some 24, op := Op.move (Operand.tmp 23), type := 4, pos := "valid.go:38", after := #[{ on := 7, ground := Ground.data }, { on := 6, ground := Ground.chain }], guard := none }) (v := ?v87) rfl (by kernel_rfl) (by kernel_rfl) (by kernel_rfl) (fun _ _ _ h => h) (Or.inl ⟨by rfl, ?hy87⟩) hSw85 ?r87
          case hy87 =>
           intro w' hSw
           have hq := hSw.1
           clear hSw
           go_simp
           with_reducible rfl
          try simp only [putL]
          refine wpAnyH_take (i := 9) (oi := { dst := some 25, op := Op.load 24 (Operand.tmp 5), type := 24, pos := "valid.go:38", after := #[{ on := 8, ground := Ground.guard }], guard := some (8, false) }) (v := ?v88) rfl (by kernel_rfl) (by kernel_rfl) (by kernel_rfl) (fun _ _ _ h => h) (Or.inl ⟨by rfl, ?hy88⟩) hSw85 ?r88
          case hy88 =>
           intro w' hSw
           have hq := hSw.1
           clear hSw
           go_simp
           with_reducible rfl
          try simp only [putL]
          refine wpAnyH_ready (rs := [10]) (by kernel_rfl) (by simp) ?_
          refine AllReadyH.cons rfl (fun K hK => ?_) AllReadyH.nil
          go_simp
          refine (heights_any _).mono ?_
          rintro e w89 ⟨rfl, hBw89⟩
          have hSw89 := held_step hBw89 hSw85
          refine hK.out _ _ hSw89 (fun _ => ?_)
          clear hK K
          try simp only [putL]
          refine wpAnyH_ready (rs := [11]) (by kernel_rfl) (by simp) ?_
          refine AllReadyH.cons rfl (fun K hK => ?_) AllReadyH.nil
          go_simp
          refine (HIN.out _).mono ?_
          rintro e w90 ⟨rfl, hBw90⟩
          have hSw90 := held_step hBw90 hSw89
          refine hK.out _ _ hSw90 (fun _ => ?_)
          clear hK K
          try simp only [putL]
          refine wpAnyH_take (i := 12) (oi := { dst := some 28, op := Op.unOp UnOp.not 4 (Operand.tmp 27), type := 4, pos := "valid.go:38", after := #[{ on := 11, ground := Ground.data }, { on := 8, ground := Ground.guard }], guard := some (8, false) }) (v := ?v91) rfl (by kernel_rfl) (by kernel_rfl) (by kernel_rfl) (fun _ _ _ h => h) (Or.inl ⟨by rfl, ?hy91⟩) hSw90 ?r91
          case hy91 =>
           intro w' hSw
           have hq := hSw.1
           clear hSw
           go_simp
           with_reducible rfl
          try simp only [putL]
          refine wpAnyH_take (i := 13) (oi := { dst := some 29, op := Op.pick (Operand.tmp 24) (Operand.const (Value.bool true)) (Operand.tmp 28), type := 4, pos := "valid.go:38", after := #[{ on := 8, ground := Ground.data }, { on := 12, ground := Ground.data }], guard := none }) (v := ?v92) rfl (by kernel_rfl) (by kernel_rfl) (by kernel_rfl) (fun _ _ _ h => h) (Or.inl ⟨by rfl, ?hy92⟩) hSw90 ?r92
          case hy92 =>
           intro w' hSw
           have hq := hSw.1
           clear hSw
           go_simp
           with_reducible rfl
          try simp only [putL]
          refine wpAnyH_done (by kernel_rfl) ?_ _
          have hbX : Below w.heap.size w w90 := HBW.out.trans (hSw90.2.2.mono HBW.out.size)
          have HBX := Lib.hid hbX
          clear hbX
          go_wp2_with fail
          go_roundw
          case rel => exact ⟨2, by omega, by go_num, HBX.out, fun h => HO0.out (by omega), fun h => by simp [Ld.okShore, HS1.out, HS2.out, HS3.out]⟩
          case measure => simp [intOf]
  · go_wp2_with fail
    go_ret
    exact ⟨ret_b (by simp [Ld.allShores, HO0.out (by omega), HO1.out (by omega)]), HBR.out⟩
end Go.Proofs.Ytjgpghaofhcfnaa
