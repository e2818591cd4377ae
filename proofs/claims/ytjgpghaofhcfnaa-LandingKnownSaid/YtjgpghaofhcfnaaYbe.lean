/- Texts on the program that the proof leans on, part 31. -/
import Derived.Test.YtjgpghaofhcfnaaYbd
set_option linter.unusedVariables false
set_option linter.unusedSimpArgs false

namespace Go.Proofs.Ytjgpghaofhcfnaa
open Go.RowKit
theorem alike_same (l : List Int) (v u : Value) (w : World) (hv : Sl w w.heap.size 1 v l.length (l.map I)) (hu : Sl w w.heap.size 1 u l.length (l.map I)) :
 Calls Try.prog 42 #[v, u] w fun e w' => e = .returned (.bool true) ∧ Below w.heap.size w w' :=
 (alike_any l l v u w hv hu).mono fun e w' h => ⟨by rw [h.1]; simp, h.2⟩
set_option maxRecDepth 100000 in
set_option maxHeartbeats 4000000 in
theorem moored_any (w : World) :
 Calls Try.prog 13 #[] w fun e w' => e = .returned (.bool true) ∧ Below w.heap.size w w' := by
 go_enter Try.func13, Try.ntmps13
 go_wp2_with fail
 refine (sounded_book _).mono ?_
 rintro e w1 ⟨⟨T, D, rfl, hRB⟩, hB1⟩
 obtain ⟨B1, m1, rfl⟩ := hRB.tides.form
 obtain ⟨C1, k1, rfl⟩ := hRB.sounds.form
 go_wp2_with fail
 refine (Height_any Ld.soundedB _ _ 0 _ hRB).mono ?_
 rintro e w2 ⟨rfl, hB2⟩
 rw [Ld.says_height.1, Ld.says_height.2]
 have hbs := hB1.trans (hB2.mono hB1.size)
 have hbs := hbs.alloc hbs.size (.cells #[.int .i64 12, .int .i64 12] 24)
 have hbX := hbs
 have hp1 := heap_at w2 (.cells #[.int .i64 12, .int .i64 12] 24) rfl
 have lhp1 : w2.heap.size < (w2.alloc (.cells #[.int .i64 12, .int .i64 12] 24)).heap.size := by simp
 clear hRB hB1 hB2
 go_wp2_with fail
 refine (own_book _).mono ?_
 rintro e w3 ⟨⟨T, D, rfl, hRB⟩, hB1⟩
 obtain ⟨B3, m3, rfl⟩ := hRB.tides.form
 obtain ⟨C3, k3, rfl⟩ := hRB.sounds.form
 go_wp2_with fail
 refine (Lands_any Ld.ownB _ _ 0 1 20 _ hRB).mono ?_
 rintro e w4 ⟨rfl, hB2⟩
 rw [Ld.says_lands]
 have hbs := hB1.trans (hB2.mono hB1.size)
 replace hp1 := (hbs.block _ lhp1).trans hp1
 replace lhp1 := Nat.lt_of_lt_of_le lhp1 hbs.size
 have hbX := hbX.trans (hbs.mono hbX.size)
 clear hRB hB1 hB2 hbs
 go_wp2_with fail
 refine (own_book _).mono ?_
 rintro e w5 ⟨⟨T, D, rfl, hRB⟩, hB1⟩
 obtain ⟨B5, m5, rfl⟩ := hRB.tides.form
 obtain ⟨C5, k5, rfl⟩ := hRB.sounds.form
 go_wp2_with fail
 refine (most_any Ld.ownB _ _ 1 1 _ hRB).mono ?_
 rintro e w6 ⟨rfl, hB2⟩
 rw [Ld.says_most]
 have hbs := hB1.trans (hB2.mono hB1.size)
 replace hp1 := (hbs.block _ lhp1).trans hp1
 replace lhp1 := Nat.lt_of_lt_of_le lhp1 hbs.size
 have hbX := hbX.trans (hbs.mono hbX.size)
 clear hRB hB1 hB2 hbs
 go_wp2_with fail
 refine (own_book _).mono ?_
 rintro e w7 ⟨⟨T, D, rfl, hRB⟩, hB1⟩
 obtain ⟨B7, m7, rfl⟩ := hRB.tides.form
 obtain ⟨C7, k7, rfl⟩ := hRB.sounds.form
 go_wp2_with fail
 refine (first_any Ld.ownB _ _ 0 50 _ hRB).mono ?_
 rintro e w8 ⟨rfl, hB2⟩
 rw [Ld.says_first]
 have hbs := hB1.trans (hB2.mono hB1.size)
 replace hp1 := (hbs.block _ lhp1).trans hp1
 replace lhp1 := Nat.lt_of_lt_of_le lhp1 hbs.size
 have hbX := hbX.trans (hbs.mono hbX.size)
 clear hRB hB1 hB2 hbs
 go_wp2_with fail
 refine (sounded_book _).mono ?_
 rintro e w9 ⟨⟨T, D, rfl, hRB⟩, hB1⟩
 obtain ⟨B9, m9, rfl⟩ := hRB.tides.form
 obtain ⟨C9, k9, rfl⟩ := hRB.sounds.form
 go_wp2_with fail
 refine (Both_any Ld.soundedB _ _ 0 _ hRB).mono ?_
 rintro e w10 ⟨⟨v, rfl, hv⟩, hB2⟩
 rw [Ld.says_both.1] at hv
 rw [Ld.says_both.2]
 have hbs := hB1.trans (hB2.mono hB1.size)
 replace hp1 := (hbs.block _ lhp1).trans hp1
 replace lhp1 := Nat.lt_of_lt_of_le lhp1 hbs.size
 have hbX := hbX.trans (hbs.mono hbX.size)
 clear hRB hB1 hB2 hbs
 obtain ⟨vA, vc, rfl⟩ := hv.form
 have HV := Lib.hid (show ∀ w', Held w10 w' → Sl w' w'.heap.size 1 (.slice vA [0, 1, 3].length vc) [0, 1, 3].length ([0, 1, 3].map I) from fun w' h => (hv.below h.2.2 (Nat.le_refl _)).more h.2.2.size)
 have c1 := cell_of_row w10 _ 0 _ _ _ hp1
 have d1 := cell_of_row w10 _ 1 _ _ _ hp1
 simp only [List.getElem?_toArray, List.getElem?_cons_zero, List.getElem?_cons_succ] at c1 d1
 have HBX := Lib.hid hbX
 clear hp1 hv hbX
 go_wp2_with fail
 go_region_held3 (fun w' => Held w10 w') (first | assumption | exact held_start _ | exact held_step (by assumption) (by assumption) | exact held_step (by assumption) (held_start _) | exact held_alloc (by assumption) _ | go_keep)
  (first | (go_at_call 29; refine (point_any _ _).mono ?_; rintro e w1 ⟨rfl, hB1⟩)
         | (go_at_call 42; refine (alike_same [0, 1, 3] _ _ _ (HV.out _ (by first | assumption | exact held_alloc (by assumption) _)) (sl_new (by rfl) (by decide) (by simp) (heap_at _ _ rfl))).mono ?_; rintro e w1 ⟨rfl, hB1⟩))
 rename_i hHE
 have hbX := HBX.out.trans (hHE.2.2.mono HBX.out.size)
 obtain ⟨u, hu⟩ : ∃ u : World, u = w1 := ⟨_, rfl⟩
 rw [← hu]
 rw [← hu] at hbX
 clear hu hHE HBX HV c1 d1 lhp1 hB1
 go_wp2_with fail
 refine (torn_book _).mono ?_
 rintro e w11 ⟨⟨T, D, rfl, hRB⟩, hB1⟩
 obtain ⟨B11, m11, rfl⟩ := hRB.tides.form
 obtain ⟨C11, k11, rfl⟩ := hRB.sounds.form
 go_wp2_with fail
 refine (Wrong_any Ld.tornB _ _ _ hRB).mono ?_
 rintro e w12 ⟨⟨v, rfl, hv⟩, hB2⟩
 rw [Ld.says_wrong.1] at hv
 rw [Ld.says_wrong.2]
 have hbs := hB1.trans (hB2.mono hB1.size)
 have hbX := hbX.trans (hbs.mono hbX.size)
 clear hRB hB1 hB2 hbs
 obtain ⟨vA2, vc2, rfl⟩ := hv.form
 go_wp2_with fail
 refine (own_book _).mono ?_
 rintro e w13 ⟨⟨T, D, rfl, hRB⟩, hB1⟩
 obtain ⟨B13, m13, rfl⟩ := hRB.tides.form
 obtain ⟨C13, k13, rfl⟩ := hRB.sounds.form
 go_wp2_with fail
 refine (right_any Ld.ownB _ _ _ hRB).mono ?_
 rintro e w14 ⟨rfl, hB2⟩
 rw [Ld.says_right.1, Ld.says_right.2.1, Ld.says_right.2.2]
 have hbs := hB1.trans (hB2.mono hB1.size)
 have hbX := hbX.trans (hbs.mono hbX.size)
 replace hv := (hv.below hbs (Nat.le_refl _)).more hbs.size
 clear hRB hB1 hB2 hbs
 go_wp2_with fail
 refine (own_book _).mono ?_
 rintro e w15 ⟨⟨T, D, rfl, hRB⟩, hB1⟩
 obtain ⟨B15, m15, rfl⟩ := hRB.tides.form
 obtain ⟨C15, k15, rfl⟩ := hRB.sounds.form
 go_wp2_with fail
 refine (floor_any Ld.ownB _ _ 0 _ hRB).mono ?_
 rintro e w16 ⟨rfl, hB2⟩
 rw [Ld.says_floor.1, Ld.says_floor.2]
 have hbs := hB1.trans (hB2.mono hB1.size)
 have hbs := hbs.alloc hbs.size (.cells #[.int .i64 2, .int .i64 3] 24)
 have hbX := hbX.trans (hbs.mono hbX.size)
 have hp2 := heap_at w16 (.cells #[.int .i64 2, .int .i64 3] 24) rfl
 have lhp2 : w16.heap.size < (w16.alloc (.cells #[.int .i64 2, .int .i64 3] 24)).heap.size := by simp
 replace hv := (hv.below hbs (Nat.le_refl _)).more hbs.size
 clear hRB hB1 hB2 hbs
 have HV := Lib.hid (show ∀ w', Held (w16.alloc (.cells #[.int .i64 2, .int .i64 3] 24)) w' → Sl w' w'.heap.size 1 (.slice vA2 [0].length vc2) [0].length ([0].map I) from fun w' h => (hv.below h.2.2 (Nat.le_refl _)).more h.2.2.size)
 have c1 := cell_of_row (w16.alloc (.cells #[.int .i64 2, .int .i64 3] 24)) _ 0 _ _ _ hp2
 have d1 := cell_of_row (w16.alloc (.cells #[.int .i64 2, .int .i64 3] 24)) _ 1 _ _ _ hp2
 simp only [List.getElem?_toArray, List.getElem?_cons_zero, List.getElem?_cons_succ] at c1 d1
 have HBX := Lib.hid hbX
 have hlp := lhp2
 clear hp2 hv hbX lhp2
 go_upto_region 11 with fail
 obtain ⟨W, hW⟩ : ∃ W : World, W = (w16.alloc (.cells #[.int .i64 2, .int .i64 3] 24)) := ⟨_, rfl⟩
 rw [← hW] at HBX HV c1 d1 hlp
 rw [← hW]
 clear hW
 have hK0 : Held W W.drew := held_start W
 refine wp_region_held_drew (S := fun w' => Held W w') (by kernel_rfl) hK0 (fun _ => ?_)
 refine wpAnyH_take (i := 0) (oi := { dst := some 95, op := Op.move (Operand.tmp 2), type := 41, pos := "outright.go:40", after := #[], guard := none }) (v := ?v1) rfl (by kernel_rfl) (by kernel_rfl) (by kernel_rfl) (fun _ _ _ h => h) (Or.inl ⟨by rfl, ?hy1⟩) hK0 ?r1
 case hy1 =>
  intro w' hSw
  have hq := hSw.1
  clear hSw
  go_simp
  with_reducible rfl
 try simp only [putL]
 refine wpAnyH_take (i := 1) (oi := { dst := some 96, op := Op.binOp BinOp.eql 41 (Operand.tmp 95) (Operand.const (Value.int IntKind.i64 0)) 41, type := 4, pos := "outright.go:40", after := #[{ on := 0, ground := Ground.data }], guard := none }) (v := ?v2) rfl (by kernel_rfl) (by kernel_rfl) (by kernel_rfl) (fun _ _ _ h => h) (Or.inl ⟨by rfl, ?hy2⟩) hK0 ?r2
 case hy2 =>
  intro w' hSw
  have hq := hSw.1
  clear hSw
  go_simp
  with_reducible rfl
 try simp only [putL]
 refine wpAnyH_take (i := 2) (oi := { dst := some 97, op := Op.move (Operand.tmp 96), type := 4, pos := "outright.go:40", after := #[{ on := 1, ground := Ground.data }], guard := none }) (v := ?v3) rfl (by kernel_rfl) (by kernel_rfl) (by kernel_rfl) (fun _ _ _ h => h) (Or.inl ⟨by rfl, ?hy3⟩) hK0 ?r3
 case hy3 =>
  intro w' hSw
  have hq := hSw.1
  clear hSw
  go_simp
  with_reducible rfl
 try simp only [putL]
 refine wpAnyH_take (i := 3) (oi := { dst := some 98, op := Op.move (Operand.tmp 4), type := 41, pos := "outright.go:40", after := #[{ on := 2, ground := Ground.guard }], guard := some (2, true) }) (v := ?v4) rfl (by kernel_rfl) (by kernel_rfl) (by kernel_rfl) (fun _ _ _ h => h) (Or.inl ⟨by rfl, ?hy4⟩) hK0 ?r4
 case hy4 =>
  intro w' hSw
  have hq := hSw.1
  clear hSw
  go_simp
  with_reducible rfl
 try simp only [putL]
 refine wpAnyH_take (i := 4) (oi := { dst := some 99, op := Op.binOp BinOp.eql 41 (Operand.tmp 98) (Operand.const (Value.int IntKind.i64 0)) 41, type := 4, pos := "outright.go:40", after := #[{ on := 3, ground := Ground.data }, { on := 2, ground := Ground.guard }], guard := some (2, true) }) (v := ?v5) rfl (by kernel_rfl) (by kernel_rfl) (by kernel_rfl) (fun _ _ _ h => h) (Or.inl ⟨by rfl, ?hy5⟩) hK0 ?r5
 case hy5 =>
  intro w' hSw
  have hq := hSw.1
  clear hSw
  go_simp
  with_reducible rfl
 try simp only [putL]
 refine wpAnyH_take (i := 5) (oi := { dst := some 100, op := Op.pick (Operand.tmp 97) (Operand.tmp 99) (Operand.const (Value.bool false)), type := 4, pos := "outright.go:40", after := #[{ on := 2, ground := Ground.data }, { on := 4, ground := Ground.data }], guard := none }) (v := ?v6) rfl (by kernel_rfl) (by kernel_rfl) (by kernel_rfl) (fun _ _ _ h => h) (Or.inl ⟨by rfl, ?hy6⟩) hK0 ?r6
 case hy6 =>
  intro w' hSw
  have hq := hSw.1
  clear hSw
  go_simp
  with_reducible rfl
 try simp only [putL]
 refine wpAnyH_take (i := 6) (oi := { dst := some 101, op := Op.move (Operand.tmp 100), type := 4, pos := "outright.go:40", after := #[{ on := 5, ground := Ground.data }, { on := 2, ground := Ground.chain }], guard := none }) (v := ?v7) rfl (by kernel_rfl) (by kernel_rfl) (by kernel_rfl) (fun _ _ _ h => h) (Or.inl ⟨by rfl, ?hy7⟩) hK0 ?r7
 case hy7 =>
  intro w' hSw
  have hq := hSw.1
  clear hSw
  go_simp
  with_reducible rfl
 try simp only [putL]
 refine wpAnyH_take (i := 7) (oi := { dst := some 102, op := Op.move (Operand.tmp 6), type := 41, pos := "outright.go:40", after := #[{ on := 6, ground := Ground.guard }], guard := some (6, true) }) (v := ?v8) rfl (by kernel_rfl) (by kernel_rfl) (by kernel_rfl) (fun _ _ _ h => h) (Or.inl ⟨by rfl, ?hy8⟩) hK0 ?r8
 case hy8 =>
  intro w' hSw
  have hq := hSw.1
  clear hSw
  go_simp
  with_reducible rfl
 try simp only [putL]
 refine wpAnyH_take (i := 8) (oi := { dst := some 103, op := Op.binOp BinOp.eql 41 (Operand.tmp 102) (Operand.const (Value.int IntKind.i64 0)) 41, type := 4, pos := "outright.go:40", after := #[{ on := 7, ground := Ground.data }, { on := 6, ground := Ground.guard }], guard := some (6, true) }) (v := ?v9) rfl (by kernel_rfl) (by kernel_rfl) (by kernel_rfl) (fun _ _ _ h => h) (Or.inl ⟨by rfl, ?hy9⟩) hK0 ?r9
 case hy9 =>
  intro w' hSw
  have hq := hSw.1
  clear hSw
  go_simp
  with_reducible rfl
 try simp only [putL]
 refine wpAnyH_take (i := 9) (oi := { dst := some 104, op := Op.pick (Operand.tmp 101) (Operand.tmp 103) (Operand.const (Value.bool false)), type := 4, pos := "outright.go:40", after := #[{ on := 6, ground := Ground.data }, { on := 8, ground := Ground.data }], guard := none }) (v := ?v10) rfl (by kernel_rfl) (by kernel_rfl) (by kernel_rfl) (fun _ _ _ h => h) (Or.inl ⟨by rfl, ?hy10⟩) hK0 ?r10
 case hy10 =>
  intro w' hSw
  have hq := hSw.1
  clear hSw
  go_simp
  with_reducible rfl
 try simp only [putL]
 refine wpAnyH_take (i := 10) (oi := { dst := some 105, op := Op.move (Operand.tmp 104), type := 4, pos := "outright.go:40", after := #[{ on := 9, ground := Ground.data }, { on := 6, ground := Ground.chain }], guard := none }) (v := ?v11) rfl (by kernel_rfl) (by kernel_rfl) (by kernel_rfl) (fun _ _ _ h => h) (Or.inl ⟨by rfl, ?hy11⟩) hK0 ?r11
 case hy11 =>
  intro w' hSw
  have hq := hSw.1
  clear hSw
  go_simp
  with_reducible rfl
 try simp only [putL]
 refine wpAnyH_take (i := 11) (oi := { dst := some 106, op := Op.move (Operand.tmp 11), type := 31, pos := "outright.go:40", after := #[{ on := 10, ground := Ground.guard }], guard := some (10, true) }) (v := ?v12) rfl (by kernel_rfl) (by kernel_rfl) (by kernel_rfl) (fun _ _ _ h => h) (Or.inl ⟨by rfl, ?hy12⟩) hK0 ?r12
 case hy12 =>
  intro w' hSw
  have hq := hSw.1
  clear hSw
  go_simp
  with_reducible rfl
 try simp only [putL]
 refine wpAnyH_ready (rs := [12]) (by kernel_rfl) (by simp) ?_
 refine AllReadyH.cons rfl (fun K hK => ?_) AllReadyH.nil
 go_simp
 refine hK.out _ _ (held_alloc hK0 _) (fun _ => ?_)
 clear hK K
 try simp only [putL]
 refine name_anyH ?_
 intro w13 hWw13
 have hAw13 : Below W.drew.heap.size W.drew w13 := by rw [hWw13]; exact (Below.refl _ _).alloc (Nat.le_refl _) _
 have fAw13 : w13.heap[W.drew.heap.size]? = some (.cells #[I 0] 3 (0, 0)) := by rw [hWw13]; exact heap_at _ _ rfl
 have hSw13 : Held W w13 := by rw [hWw13]; exact held_alloc hK0 _
 have hlAw13 : W.heap.size ≤ W.drew.heap.size := hK0.2.2.size
 clear hWw13
 refine wpAnyH_ready (rs := [13]) (by kernel_rfl) (by simp) ?_
 refine AllReadyH.cons rfl (fun K hK => ?_) AllReadyH.nil
 go_simp
 refine (alike_same [0] _ _ _ (HV.out _ hSw13) (sl_new (by rfl) (by decide) (heap_lt fAw13) fAw13)).mono ?_
 rintro e w14 ⟨rfl, hBw14⟩
 have hSw14 := held_step hBw14 hSw13
 have fAw14 := (hBw14.block _ (heap_lt fAw13)).trans fAw13
 refine hK.out _ _ hSw14 (fun _ => ?_)
 clear hK K
 try simp only [putL]
 refine wpAnyH_take (i := 14) (oi := { dst := some 109, op := Op.pick (Operand.tmp 105) (Operand.tmp 108) (Operand.const (Value.bool false)), type := 4, pos := "outright.go:40", after := #[{ on := 10, ground := Ground.data }, { on := 13, ground := Ground.data }], guard := none }) (v := ?v15) rfl (by kernel_rfl) (by kernel_rfl) (by kernel_rfl) (fun _ _ _ h => h) (Or.inl ⟨by rfl, ?hy15⟩) hSw14 ?r15
 case hy15 =>
  intro w' hSw
  have hq := hSw.1
  clear hSw
  go_simp
  with_reducible rfl
 try simp only [putL]
 refine wpAnyH_take (i := 15) (oi := { dst := some 110, op := Op.move (Operand.tmp 109), type := 4, pos := "outright.go:40", after := #[{ on := 14, ground := Ground.data }, { on := 13, ground := Ground.chain }], guard := none }) (v := ?v16) rfl (by kernel_rfl) (by kernel_rfl) (by kernel_rfl) (fun _ _ _ h => h) (Or.inl ⟨by rfl, ?hy16⟩) hSw14 ?r16
 case hy16 =>
  intro w' hSw
  have hq := hSw.1
  clear hSw
  go_simp
  with_reducible rfl
 try simp only [putL]
 refine wpAnyH_take (i := 16) (oi := { dst := some 111, op := Op.move (Operand.tmp 12), type := 4, pos := "outright.go:40", after := #[{ on := 15, ground := Ground.guard }], guard := some (15, true) }) (v := ?v17) rfl (by kernel_rfl) (by kernel_rfl) (by kernel_rfl) (fun _ _ _ h => h) (Or.inl ⟨by rfl, ?hy17⟩) hSw14 ?r17
 case hy17 =>
  intro w' hSw
  have hq := hSw.1
  clear hSw
  go_simp
  with_reducible rfl
 try simp only [putL]
 refine wpAnyH_take (i := 17) (oi := { dst := some 112, op := Op.pick (Operand.tmp 110) (Operand.tmp 111) (Operand.const (Value.bool false)), type := 4, pos := "outright.go:40", after := #[{ on := 15, ground := Ground.data }, { on := 16, ground := Ground.data }], guard := none }) (v := ?v18) rfl (by kernel_rfl) (by kernel_rfl) (by kernel_rfl) (fun _ _ _ h => h) (Or.inl ⟨by rfl, ?hy18⟩) hSw14 ?r18
 case hy18 =>
  intro w' hSw
  have hq := hSw.1
  clear hSw
  go_simp
  with_reducible rfl
 try simp only [putL]
 refine wpAnyH_take (i := 18) (oi := { dst := some 113, op := Op.move (Operand.tmp 112), type := 4, pos := "outright.go:40", after := #[{ on := 17, ground := Ground.data }, { on := 15, ground := Ground.chain }], guard := none }) (v := ?v19) rfl (by kernel_rfl) (by kernel_rfl) (by kernel_rfl) (fun _ _ _ h => h) (Or.inl ⟨by rfl, ?hy19⟩) hSw14 ?r19
 case hy19 =>
  intro w' hSw
  have hq := hSw.1
  clear hSw
  go_simp
  with_reducible rfl
 try simp only [putL]
 refine wpAnyH_take (i := 19) (oi := { dst := some 114, op := Op.load 24 (Operand.tmp 13), type := 24, pos := "outright.go:40", after := #[{ on := 18, ground := Ground.guard }], guard := some (18, true) }) (v := ?v20) rfl (by kernel_rfl) (by kernel_rfl) (by kernel_rfl) (fun _ _ _ h => h) (Or.inl ⟨by rfl, ?hy20⟩) hSw14 ?r20
 case hy20 =>
  intro w' hSw
  have hq := hSw.1
  clear hSw
  go_simp
  with_reducible rfl
 try simp only [putL]
 refine wpAnyH_ready (rs := [20]) (by kernel_rfl) (by simp) ?_
 refine AllReadyH.cons rfl (fun K hK => ?_) AllReadyH.nil
 go_simp
 refine (range_any 2 3 _).mono ?_
 rintro e w21 ⟨rfl, hBw21⟩
 have hSw21 := held_step hBw21 hSw14
 have fAw21 := (hBw21.block _ (heap_lt fAw14)).trans fAw14
 refine hK.out _ _ hSw21 (fun _ => ?_)
 clear hK K
 try simp only [putL]
 refine wpAnyH_take (i := 21) (oi := { dst := some 116, op := Op.binOp BinOp.eql 24 (Operand.tmp 114) (Operand.tmp 115) 24, type := 4, pos := "outright.go:40", after := #[{ on := 19, ground := Ground.data }, { on := 20, ground := Ground.data }, { on := 18, ground := Ground.guard }], guard := some (18, true) }) (v := ?v22) rfl (by kernel_rfl) (by kernel_rfl) (by kernel_rfl) (fun _ _ _ h => h) (Or.inl ⟨by rfl, ?hy22⟩) hSw21 ?r22
 case hy22 =>
  intro w' hSw
  have hq := hSw.1
  clear hSw
  go_simp
  with_reducible rfl
 try simp only [putL]
 refine wpAnyH_take (i := 22) (oi := { dst := some 117, op := Op.pick (Operand.tmp 113) (Operand.tmp 116) (Operand.const (Value.bool false)), type := 4, pos := "outright.go:40", after := #[{ on := 18, ground := Ground.data }, { on := 21, ground := Ground.data }], guard := none }) (v := ?v23) rfl (by kernel_rfl) (by kernel_rfl) (by kernel_rfl) (fun _ _ _ h => h) (Or.inl ⟨by rfl, ?hy23⟩) hSw21 ?r23
 case hy23 =>
  intro w' hSw
  have hq := hSw.1
  clear hSw
  go_simp
  with_reducible rfl
 try simp only [putL]
 refine wpAnyH_take (i := 23) (oi := { dst := some 0, op := Op.assign (Operand.tmp 117), type := 4, pos := "outright.go:40", after := #[{ on := 22, ground := Ground.data }, { on := 20, ground := Ground.chain }, { on := 0, ground := Ground.phase }, { on := 1, ground := Ground.phase }, { on := 2, ground := Ground.phase }, { on := 3, ground := Ground.phase }, { on := 4, ground := Ground.phase }, { on := 5, ground := Ground.phase }, { on := 6, ground := Ground.phase }, { on := 7, ground := Ground.phase }, { on := 8, ground := Ground.phase }, { on := 9, ground := Ground.phase }, { on := 10, ground := Ground.phase }, { on := 11, ground := Ground.phase }, { on := 12, ground := Ground.phase }, { on := 13, ground := Ground.phase }, { on := 14, ground := Ground.phase }, { on := 15, ground := Ground.phase }, { on := 16, ground := Ground.phase }, { on := 17, ground := Ground.phase }, { on := 18, ground := Ground.phase }, { on := 19, ground := Ground.phase }, { on := 20, ground := Ground.phase }, { on := 21, ground := Ground.phase }, { on := 22, ground := Ground.phase }], guard := none }) (v := ?v24) rfl (by kernel_rfl) (by kernel_rfl) (by kernel_rfl) (fun _ _ _ h => h) (Or.inl ⟨by rfl, ?hy24⟩) hSw21 ?r24
 case hy24 =>
  intro w' hSw
  have hq := hSw.1
  clear hSw
  go_simp
  with_reducible rfl
 try simp only [putL]
 refine wpAnyH_done (by kernel_rfl) ?_ _
 have hbX := HBX.out.trans (hSw21.2.2.mono HBX.out.size)
 go_wp2_with fail
 go_ret
 exact ⟨rfl, hbX⟩
end Go.Proofs.Ytjgpghaofhcfnaa
