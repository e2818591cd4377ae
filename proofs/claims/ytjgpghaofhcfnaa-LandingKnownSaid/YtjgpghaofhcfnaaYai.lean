/- Texts on the program that the proof leans on, part 9. -/
import Derived.Test.YtjgpghaofhcfnaaYah
set_option linter.unusedVariables false
set_option linter.unusedSimpArgs false

namespace Go.Proofs.Ytjgpghaofhcfnaa
open Go.RowKit
theorem wp_mapUpdate_run {P : Program} {o : Oper} {a : Act} {w : World} {K : Act → World → Prop} {Q : Exit → Act → World → Prop} {m x v : Operand} {t : TypeId} {M X V : Value} {W' : World}
 (ho : o.op = Op.mapUpdate t m x v) (hm : a.eval m = M) (hx : a.eval x = X) (hv : a.eval v = V) (hr : (Instr.mapUpdate t M X V).run P w = .ok () W') (h : K (a.put o.dst undef) W') : o.wp P a w K Q := by
 unfold Oper.wp
 simp [execOp, ho, hm, hx, hv, hr, Result.andThen]
 exact h
theorem apart_grown {r : Nat} {W w' w1 : World} (h : Apart r W w') (hg : w'.grownBy w1 (some r)) (hr : r ≤ W.heap.size) : Apart r W w1 :=
 ⟨fun b o hb hne => (World.cell?_of_block (hg.block b (Nat.lt_of_lt_of_le hb h.2.2) (fun e => hne (by injection e)))).trans (h.1 b o hb hne),
  ⟨hg.os.trans h.2.1.os, hg.tape.trans h.2.1.tape, hg.output.trans h.2.1.output, Nat.le_trans h.2.1.size hg.size, fun k hk => (hg.block k (by have := h.2.2; omega) (fun e => by injection e; omega)).trans (h.2.1.block k hk)⟩, Nat.le_trans h.2.2 hg.size⟩
set_option maxRecDepth 100000 in
set_option maxHeartbeats 8000000 in
theorem lay_any (b : Ld.Bk) (T D : Value) (w : World) (hb : RB w w.heap.size b T D) (hl : b.sounds.length ≤ 100) (hok : ∀ s ∈ b.sounds, SdOk s) :
 Calls Try.prog 49 #[vBk T D b] w fun e w' => (∃ r, e = .returned (vLg T D (.map (some r)) (.slice none 0 0) b (Ld.none, Ld.none)) ∧ SM w' w.heap.size b.sounds b.sounds r) ∧ Below w.heap.size w w' := by
 obtain ⟨A0, c0, rfl⟩ := hb.tides.form
 obtain ⟨A1, c1, rfl⟩ := hb.sounds.form
 have hmm := @run_makeMap Try.prog
 have HRB := Lib.hid hb
 have HOK := Lib.hid hok
 clear hb hok
 go_enter Try.func49, Try.ntmps49
 go_wp2_with fail
 refine name_world ?_
 intro W hW
 have hB : Below w.heap.size w W := by rw [hW]; exact ((Below.refl _ _).alloc (Nat.le_refl _) _).alloc (by simp) _
 have hbk : W.heap[w.heap.size]? = some (.cells (rBk (.slice A0 b.tides.length c0) (.slice A1 b.sounds.length c1) b) 30 (0, 0)) := by rw [hW]; exact (Below.heap_alloc _ _ _ (by simp)).trans (heap_at _ _ rfl)
 have hre : W.heap[w.heap.size + 1]? = some (oLg (.slice none 0 0) (.slice none 0 0) (.map none) (.slice none 0 0) ⟨[], ⟨⟨0, 0⟩, 0, 0⟩, ⟨⟨0, 0⟩, 0, 0⟩, ⟨0, 0⟩, 0, 0, []⟩ (⟨0, 0⟩, ⟨0, 0⟩)) := by rw [hW]; exact heap_at _ _ (by simp)
 have hl0 := heap_lt hbk
 have hl1 := heap_lt hre
 have b0 := cell_of_row W _ 0 _ _ _ hbk
 have b1 := cell_of_row W _ 1 _ _ _ hbk
 have b2 := cell_of_row W _ 2 _ _ _ hbk
 have b3 := cell_of_row W _ 3 _ _ _ hbk
 have b4 := cell_of_row W _ 4 _ _ _ hbk
 have b5 := cell_of_row W _ 5 _ _ _ hbk
 have b6 := cell_of_row W _ 6 _ _ _ hbk
 have b7 := cell_of_row W _ 7 _ _ _ hbk
 have b8 := cell_of_row W _ 8 _ _ _ hbk
 have b9 := cell_of_row W _ 9 _ _ _ hbk
 have b10 := cell_of_row W _ 10 _ _ _ hbk
 have b11 := cell_of_row W _ 11 _ _ _ hbk
 have b12 := cell_of_row W _ 12 _ _ _ hbk
 have b13 := cell_of_row W _ 13 _ _ _ hbk
 simp only [List.getElem?_toArray, List.getElem?_cons_zero, List.getElem?_cons_succ] at b0 b1 b2 b3 b4 b5 b6 b7 b8 b9 b10 b11 b12 b13
 have HBW := Lib.hid hB
 have HBK := Lib.hid hbk
 have HRE := Lib.hid hre
 clear hW hB hbk hre
 refine name_act ?_
 intro A hA
 obtain ⟨R, hR⟩ : ∃ R : Act → World → Prop, R = fun a' w' => ∃ n r : Nat, (∃ u6 u7 u8 u9, a' = (((((A.put (some 6) u6).put (some 7) u7).put (some 8) u8).put (some 9) u9).put (some 3) (vPtr n))) ∧ w'.heap[n]? = some (oLg (.slice A0 b.tides.length c0) (.slice A1 b.sounds.length c1) (.map (some r)) (.slice none 0 0) b (Ld.none, Ld.none)) ∧ w'.heap[r]? = some (.map #[] 0) ∧ W.heap.size ≤ n ∧ W.heap.size ≤ r ∧ Held W w' := ⟨_, rfl⟩
 have HR := Lib.hid hR
 clear hR
 refine wp_between R ?first ?rest
 case first =>
  subst hA
  refine wp_region_held_drew (S := fun w' => Held W w') (by kernel_rfl) (held_start W) (fun _ => ?_)
  refine wpAnyH_take (i := 0) (oi := { dst := some 6, op := Op.load 30 (Operand.tmp 1), type := 30, pos := "ledger.go:42", after := #[], guard := none }) (v := ?v1) rfl (by kernel_rfl) (by kernel_rfl) (by kernel_rfl) (fun _ _ _ h => h) (Or.inl ⟨by rfl, ?hy1⟩) (held_start W) ?r1
  case hy1 =>
   intro w' hSw
   have hq := hSw.1
   clear hSw
   go_simp
   with_reducible rfl
  try simp only [putL]
  refine wpAnyH_ready (rs := [1, 2, 4]) (by kernel_rfl) (by simp) ?_
  refine AllReadyH.cons rfl (fun K hK => ?_) (AllReadyH.cons rfl (fun K hK => ?_) (AllReadyH.cons rfl (fun K hK => ?_) AllReadyH.nil))
  · go_simp
    refine hK.out _ _ (held_alloc (held_start W) _) (fun _ => ?_)
    clear hK K
    try simp only [putL]
    refine name_anyH ?_
    intro w2 hWw2
    have hAw2 : Below W.drew.heap.size W.drew w2 := by rw [hWw2]; exact (Below.refl _ _).alloc (Nat.le_refl _) _
    have fMw2 : w2.heap[W.drew.heap.size]? = some (.map #[] 0) := by rw [hWw2]; exact heap_at _ _ rfl
    have hSw2 : Held W w2 := by rw [hWw2]; exact held_alloc (held_start W) _
    have hlMw2 : W.heap.size ≤ W.drew.heap.size := (held_start W).2.2.size
    clear hWw2
    refine wpAnyH_ready (rs := [2, 4]) (by kernel_rfl) (by simp) ?_
    refine AllReadyH.cons rfl (fun K hK => ?_) (AllReadyH.cons rfl (fun K hK => ?_) AllReadyH.nil)
    · go_simp
      refine (unknown_any _).mono ?_
      rintro e w3 ⟨rfl, hBw3⟩
      have hSw3 := held_step hBw3 hSw2
      have fMw3 := (hBw3.block _ (heap_lt fMw2)).trans fMw2
      refine hK.out _ _ hSw3 (fun _ => ?_)
      clear hK K
      try simp only [putL]
      refine wpAnyH_take (i := 3) (oi := { dst := some 9, op := Op.build 86 #[(0, Operand.tmp 6), (1, Operand.tmp 7), (3, Operand.tmp 8)], type := 86, pos := "ledger.go:42", after := #[{ on := 0, ground := Ground.data }, { on := 1, ground := Ground.data }, { on := 2, ground := Ground.data }], guard := none }) (v := ?v4) rfl (by kernel_rfl) (by kernel_rfl) (by kernel_rfl) (fun _ _ _ h => h) (Or.inl ⟨by rfl, ?hy4⟩) hSw3 ?r4
      case hy4 =>
       intro w' hSw
       have hq := hSw.1
       clear hSw
       go_simp
       with_reducible rfl
      try simp only [putL]
      refine wpAnyH_ready (rs := [4]) (by kernel_rfl) (by simp) ?_
      refine AllReadyH.cons rfl (fun K hK => ?_) AllReadyH.nil
      go_simp
      refine hK.out _ _ (held_alloc hSw3 _) (fun _ => ?_)
      clear hK K
      try simp only [putL]
      refine name_anyH ?_
      intro w5 hWw5
      have hAw5 : Below w3.heap.size w3 w5 := by rw [hWw5]; exact (Below.refl _ _).alloc (Nat.le_refl _) _
      have fLw5 : w5.heap[w3.heap.size]? = some (oLg (.slice none 0 0) (.slice none 0 0) (.map none) (.slice none 0 0) ⟨[], ⟨⟨0, 0⟩, 0, 0⟩, ⟨⟨0, 0⟩, 0, 0⟩, ⟨0, 0⟩, 0, 0, []⟩ (⟨0, 0⟩, ⟨0, 0⟩)) := by rw [hWw5]; exact heap_at _ _ rfl
      have hSw5 : Held W w5 := by rw [hWw5]; exact held_alloc hSw3 _
      have fMw5 := (hAw5.block _ (heap_lt fMw3)).trans fMw3
      have hlLw5 : W.heap.size ≤ w3.heap.size := hSw3.2.2.size
      clear hWw5
      refine wpAnyH_ready (rs := [5]) (by kernel_rfl) (by simp) ?_
      refine AllReadyH.cons rfl (fun K hK => ?_) AllReadyH.nil
      rw [if_pos (by rfl)]
      refine wp_store_row 86 _ _ rfl _ _ rfl rfl _ _ fLw5 (by kernel_rfl) rfl (by simp [Value.oneCell']) ?_
      have hSw6 := held_row hSw5 hlLw5 (rLg (.slice A0 b.tides.length c0) (.slice A1 b.sounds.length c1) (.map (some W.drew.heap.size)) (.slice none 0 0) b (Ld.none, Ld.none))
      refine hK.out _ _ hSw6 (fun _ => ?_)
      clear hK K
      try simp only [putL]
      have fLw6 := setRow_heap _ _ _ (rLg (.slice A0 b.tides.length c0) (.slice A1 b.sounds.length c1) (.map (some W.drew.heap.size)) (.slice none 0 0) b (Ld.none, Ld.none)) _ _ fLw5
      have fMw6 := (setRow_other _ _ _ (rLg (.slice A0 b.tides.length c0) (.slice A1 b.sounds.length c1) (.map (some W.drew.heap.size)) (.slice none 0 0) b (Ld.none, Ld.none)) (show W.drew.heap.size ≠ w3.heap.size from fun e => by have hx := fMw5; rw [e, fLw5] at hx; cases hx)).trans fMw5
      refine wpAnyH_done (by kernel_rfl) ?_ _
      show R _ _
      rw [HR.out]
      simp only [putL]
      exact ⟨w3.heap.size, W.drew.heap.size, ⟨_, _, _, _, rfl⟩, fLw6, fMw6, hlLw5, hlMw2, hSw6⟩
    · go_simp
      refine hK.out _ _ (held_alloc hSw2 _) (fun _ => ?_)
      clear hK K
      try simp only [putL]
      refine name_anyH ?_
      intro w7 hWw7
      have hAw7 : Below w2.heap.size w2 w7 := by rw [hWw7]; exact (Below.refl _ _).alloc (Nat.le_refl _) _
      have fLw7 : w7.heap[w2.heap.size]? = some (oLg (.slice none 0 0) (.slice none 0 0) (.map none) (.slice none 0 0) ⟨[], ⟨⟨0, 0⟩, 0, 0⟩, ⟨⟨0, 0⟩, 0, 0⟩, ⟨0, 0⟩, 0, 0, []⟩ (⟨0, 0⟩, ⟨0, 0⟩)) := by rw [hWw7]; exact heap_at _ _ rfl
      have hSw7 : Held W w7 := by rw [hWw7]; exact held_alloc hSw2 _
      have fMw7 := (hAw7.block _ (heap_lt fMw2)).trans fMw2
      have hlLw7 : W.heap.size ≤ w2.heap.size := hSw2.2.2.size
      clear hWw7
      refine wpAnyH_ready (rs := [2]) (by kernel_rfl) (by simp) ?_
      refine AllReadyH.cons rfl (fun K hK => ?_) AllReadyH.nil
      go_simp
      refine (unknown_any _).mono ?_
      rintro e w8 ⟨rfl, hBw8⟩
      have hSw8 := held_step hBw8 hSw7
      have fMw8 := (hBw8.block _ (heap_lt fMw7)).trans fMw7
      have fLw8 := (hBw8.block _ (heap_lt fLw7)).trans fLw7
      refine hK.out _ _ hSw8 (fun _ => ?_)
      clear hK K
      try simp only [putL]
      refine wpAnyH_take (i := 3) (oi := { dst := some 9, op := Op.build 86 #[(0, Operand.tmp 6), (1, Operand.tmp 7), (3, Operand.tmp 8)], type := 86, pos := "ledger.go:42", after := #[{ on := 0, ground := Ground.data }, { on := 1, ground := Ground.data }, { on := 2, ground := Ground.data }], guard := none }) (v := ?v9) rfl (by kernel_rfl) (by kernel_rfl) (by kernel_rfl) (fun _ _ _ h => h) (Or.inl ⟨by rfl, ?hy9⟩) hSw8 ?r9
      case hy9 =>
       intro w' hSw
       have hq := hSw.1
       clear hSw
       go_simp
       with_reducible rfl
      try simp only [putL]
      refine wpAnyH_ready (rs := [5]) (by kernel_rfl) (by simp) ?_
      refine AllReadyH.cons rfl (fun K hK => ?_) AllReadyH.nil
      rw [if_pos (by rfl)]
      refine wp_store_row 86 _ _ rfl _ _ rfl rfl _ _ fLw8 (by kernel_rfl) rfl (by simp [Value.oneCell']) ?_
      have hSw10 := held_row hSw8 hlLw7 (rLg (.slice A0 b.tides.length c0) (.slice A1 b.sounds.length c1) (.map (some W.drew.heap.size)) (.slice none 0 0) b (Ld.none, Ld.none))
      refine hK.out _ _ hSw10 (fun _ => ?_)
      clear hK K
      try simp only [putL]
      have fLw10 := setRow_heap _ _ _ (rLg (.slice A0 b.tides.length c0) (.slice A1 b.sounds.length c1) (.map (some W.drew.heap.size)) (.slice none 0 0) b (Ld.none, Ld.none)) _ _ fLw8
      have fMw10 := (setRow_other _ _ _ (rLg (.slice A0 b.tides.length c0) (.slice A1 b.sounds.length c1) (.map (some W.drew.heap.size)) (.slice none 0 0) b (Ld.none, Ld.none)) (show W.drew.heap.size ≠ w2.heap.size from fun e => by have hx := fMw8; rw [e, fLw8] at hx; cases hx)).trans fMw8
      refine wpAnyH_done (by kernel_rfl) ?_ _
      show R _ _
      rw [HR.out]
      simp only [putL]
      exact ⟨w2.heap.size, W.drew.heap.size, ⟨_, _, _, _, rfl⟩, fLw10, fMw10, hlLw7, hlMw2, hSw10⟩
  · go_simp
    refine (unknown_any _).mono ?_
    rintro e w11 ⟨rfl, hBw11⟩
    have hSw11 := held_step hBw11 (held_start W)
    refine hK.out _ _ hSw11 (fun _ => ?_)
    clear hK K
    try simp only [putL]
    refine wpAnyH_ready (rs := [1, 4]) (by kernel_rfl) (by simp) ?_
    refine AllReadyH.cons rfl (fun K hK => ?_) (AllReadyH.cons rfl (fun K hK => ?_) AllReadyH.nil)
    · go_simp
      refine hK.out _ _ (held_alloc hSw11 _) (fun _ => ?_)
      clear hK K
      try simp only [putL]
      refine name_anyH ?_
      intro w12 hWw12
      have hAw12 : Below w11.heap.size w11 w12 := by rw [hWw12]; exact (Below.refl _ _).alloc (Nat.le_refl _) _
      have fMw12 : w12.heap[w11.heap.size]? = some (.map #[] 0) := by rw [hWw12]; exact heap_at _ _ rfl
      have hSw12 : Held W w12 := by rw [hWw12]; exact held_alloc hSw11 _
      have hlMw12 : W.heap.size ≤ w11.heap.size := hSw11.2.2.size
      clear hWw12
      refine wpAnyH_take (i := 3) (oi := { dst := some 9, op := Op.build 86 #[(0, Operand.tmp 6), (1, Operand.tmp 7), (3, Operand.tmp 8)], type := 86, pos := "ledger.go:42", after := #[{ on := 0, ground := Ground.data }, { on := 1, ground := Ground.data }, { on := 2, ground := Ground.data }], guard := none }) (v := ?v13) rfl (by kernel_rfl) (by kernel_rfl) (by kernel_rfl) (fun _ _ _ h => h) (Or.inl ⟨by rfl, ?hy13⟩) hSw12 ?r13
      case hy13 =>
       intro w' hSw
       have hq := hSw.1
       clear hSw
       go_simp
       with_reducible rfl
      try simp only [putL]
      refine wpAnyH_ready (rs := [4]) (by kernel_rfl) (by simp) ?_
      refine AllReadyH.cons rfl (fun K hK => ?_) AllReadyH.nil
      go_simp
      refine hK.out _ _ (held_alloc hSw12 _) (fun _ => ?_)
      clear hK K
      try simp only [putL]
      refine name_anyH ?_
      intro w14 hWw14
      have hAw14 : Below w12.heap.size w12 w14 := by rw [hWw14]; exact (Below.refl _ _).alloc (Nat.le_refl _) _
      have fLw14 : w14.heap[w12.heap.size]? = some (oLg (.slice none 0 0) (.slice none 0 0) (.map none) (.slice none 0 0) ⟨[], ⟨⟨0, 0⟩, 0, 0⟩, ⟨⟨0, 0⟩, 0, 0⟩, ⟨0, 0⟩, 0, 0, []⟩ (⟨0, 0⟩, ⟨0, 0⟩)) := by rw [hWw14]; exact heap_at _ _ rfl
      have hSw14 : Held W w14 := by rw [hWw14]; exact held_alloc hSw12 _
      have fMw14 := (hAw14.block _ (heap_lt fMw12)).trans fMw12
      have hlLw14 : W.heap.size ≤ w12.heap.size := hSw12.2.2.size
      clear hWw14
      refine wpAnyH_ready (rs := [5]) (by kernel_rfl) (by simp) ?_
      refine AllReadyH.cons rfl (fun K hK => ?_) AllReadyH.nil
      rw [if_pos (by rfl)]
      refine wp_store_row 86 _ _ rfl _ _ rfl rfl _ _ fLw14 (by kernel_rfl) rfl (by simp [Value.oneCell']) ?_
      have hSw15 := held_row hSw14 hlLw14 (rLg (.slice A0 b.tides.length c0) (.slice A1 b.sounds.length c1) (.map (some w11.heap.size)) (.slice none 0 0) b (Ld.none, Ld.none))
      refine hK.out _ _ hSw15 (fun _ => ?_)
      clear hK K
      try simp only [putL]
      have fLw15 := setRow_heap _ _ _ (rLg (.slice A0 b.tides.length c0) (.slice A1 b.sounds.length c1) (.map (some w11.heap.size)) (.slice none 0 0) b (Ld.none, Ld.none)) _ _ fLw14
      have fMw15 := (setRow_other _ _ _ (rLg (.slice A0 b.tides.length c0) (.slice A1 b.sounds.length c1) (.map (some w11.heap.size)) (.slice none 0 0) b (Ld.none, Ld.none)) (show w11.heap.size ≠ w12.heap.size from fun e => by have hx := fMw14; rw [e, fLw14] at hx; cases hx)).trans fMw14
      refine wpAnyH_done (by kernel_rfl) ?_ _
      show R _ _
      rw [HR.out]
      simp only [putL]
      exact ⟨w12.heap.size, w11.heap.size, ⟨_, _, _, _, rfl⟩, fLw15, fMw15, hlLw14, hlMw12, hSw15⟩
    · go_simp
      refine hK.out _ _ (held_alloc hSw11 _) (fun _ => ?_)
      clear hK K
      try simp only [putL]
      refine name_anyH ?_
      intro w16 hWw16
      have hAw16 : Below w11.heap.size w11 w16 := by rw [hWw16]; exact (Below.refl _ _).alloc (Nat.le_refl _) _
      have fLw16 : w16.heap[w11.heap.size]? = some (oLg (.slice none 0 0) (.slice none 0 0) (.map none) (.slice none 0 0) ⟨[], ⟨⟨0, 0⟩, 0, 0⟩, ⟨⟨0, 0⟩, 0, 0⟩, ⟨0, 0⟩, 0, 0, []⟩ (⟨0, 0⟩, ⟨0, 0⟩)) := by rw [hWw16]; exact heap_at _ _ rfl
      have hSw16 : Held W w16 := by rw [hWw16]; exact held_alloc hSw11 _
      have hlLw16 : W.heap.size ≤ w11.heap.size := hSw11.2.2.size
      clear hWw16
      refine wpAnyH_ready (rs := [1]) (by kernel_rfl) (by simp) ?_
      refine AllReadyH.cons rfl (fun K hK => ?_) AllReadyH.nil
      go_simp
      refine hK.out _ _ (held_alloc hSw16 _) (fun _ => ?_)
      clear hK K
      try simp only [putL]
      refine name_anyH ?_
      intro w17 hWw17
      have hAw17 : Below w16.heap.size w16 w17 := by rw [hWw17]; exact (Below.refl _ _).alloc (Nat.le_refl _) _
      have fMw17 : w17.heap[w16.heap.size]? = some (.map #[] 0) := by rw [hWw17]; exact heap_at _ _ rfl
      have hSw17 : Held W w17 := by rw [hWw17]; exact held_alloc hSw16 _
      have fLw17 := (hAw17.block _ (heap_lt fLw16)).trans fLw16
      have hlMw17 : W.heap.size ≤ w16.heap.size := hSw16.2.2.size
      clear hWw17
      refine wpAnyH_take (i := 3) (oi := { dst := some 9, op := Op.build 86 #[(0, Operand.tmp 6), (1, Operand.tmp 7), (3, Operand.tmp 8)], type := 86, pos := "ledger.go:42", after := #[{ on := 0, ground := Ground.data }, { on := 1, ground := Ground.data }, { on := 2, ground := Ground.data }], guard := none }) (v := ?v18) rfl (by kernel_rfl) (by kernel_rfl) (by kernel_rfl) (fun _ _ _ h => h) (Or.inl ⟨by rfl, ?hy18⟩) hSw17 ?r18
      case hy18 =>
       intro w' hSw
       have hq := hSw.1
       clear hSw
       go_simp
       with_reducible rfl
      try simp only [putL]
      refine wpAnyH_ready (rs := [5]) (by kernel_rfl) (by simp) ?_
      refine AllReadyH.cons rfl (fun K hK => ?_) AllReadyH.nil
      rw [if_pos (by rfl)]
      refine wp_store_row 86 _ _ rfl _ _ rfl rfl _ _ fLw17 (by kernel_rfl) rfl (by simp [Value.oneCell']) ?_
      have hSw19 := held_row hSw17 hlLw16 (rLg (.slice A0 b.tides.length c0) (.slice A1 b.sounds.length c1) (.map (some w16.heap.size)) (.slice none 0 0) b (Ld.none, Ld.none))
      refine hK.out _ _ hSw19 (fun _ => ?_)
      clear hK K
      try simp only [putL]
      have fLw19 := setRow_heap _ _ _ (rLg (.slice A0 b.tides.length c0) (.slice A1 b.sounds.length c1) (.map (some w16.heap.size)) (.slice none 0 0) b (Ld.none, Ld.none)) _ _ fLw17
      have fMw19 := (setRow_other _ _ _ (rLg (.slice A0 b.tides.length c0) (.slice A1 b.sounds.length c1) (.map (some w16.heap.size)) (.slice none 0 0) b (Ld.none, Ld.none)) (show w16.heap.size ≠ w11.heap.size from fun e => by have hx := fMw17; rw [e, fLw17] at hx; cases hx)).trans fMw17
      refine wpAnyH_done (by kernel_rfl) ?_ _
      show R _ _
      rw [HR.out]
      simp only [putL]
      exact ⟨w11.heap.size, w16.heap.size, ⟨_, _, _, _, rfl⟩, fLw19, fMw19, hlLw16, hlMw17, hSw19⟩
  · go_simp
    refine hK.out _ _ (held_alloc (held_start W) _) (fun _ => ?_)
    clear hK K
    try simp only [putL]
    refine name_anyH ?_
    intro w20 hWw20
    have hAw20 : Below W.drew.heap.size W.drew w20 := by rw [hWw20]; exact (Below.refl _ _).alloc (Nat.le_refl _) _
    have fLw20 : w20.heap[W.drew.heap.size]? = some (oLg (.slice none 0 0) (.slice none 0 0) (.map none) (.slice none 0 0) ⟨[], ⟨⟨0, 0⟩, 0, 0⟩, ⟨⟨0, 0⟩, 0, 0⟩, ⟨0, 0⟩, 0, 0, []⟩ (⟨0, 0⟩, ⟨0, 0⟩)) := by rw [hWw20]; exact heap_at _ _ rfl
    have hSw20 : Held W w20 := by rw [hWw20]; exact held_alloc (held_start W) _
    have hlLw20 : W.heap.size ≤ W.drew.heap.size := (held_start W).2.2.size
    clear hWw20
    refine wpAnyH_ready (rs := [1, 2]) (by kernel_rfl) (by simp) ?_
    refine AllReadyH.cons rfl (fun K hK => ?_) (AllReadyH.cons rfl (fun K hK => ?_) AllReadyH.nil)
    · go_simp
      refine hK.out _ _ (held_alloc hSw20 _) (fun _ => ?_)
      clear hK K
      try simp only [putL]
      refine name_anyH ?_
      intro w21 hWw21
      have hAw21 : Below w20.heap.size w20 w21 := by rw [hWw21]; exact (Below.refl _ _).alloc (Nat.le_refl _) _
      have fMw21 : w21.heap[w20.heap.size]? = some (.map #[] 0) := by rw [hWw21]; exact heap_at _ _ rfl
      have hSw21 : Held W w21 := by rw [hWw21]; exact held_alloc hSw20 _
      have fLw21 := (hAw21.block _ (heap_lt fLw20)).trans fLw20
      have hlMw21 : W.heap.size ≤ w20.heap.size := hSw20.2.2.size
      clear hWw21
      refine wpAnyH_ready (rs := [2]) (by kernel_rfl) (by simp) ?_
      refine AllReadyH.cons rfl (fun K hK => ?_) AllReadyH.nil
      go_simp
      refine (unknown_any _).mono ?_
      rintro e w22 ⟨rfl, hBw22⟩
      have hSw22 := held_step hBw22 hSw21
      have fLw22 := (hBw22.block _ (heap_lt fLw21)).trans fLw21
      have fMw22 := (hBw22.block _ (heap_lt fMw21)).trans fMw21
      refine hK.out _ _ hSw22 (fun _ => ?_)
      clear hK K
      try simp only [putL]
      refine wpAnyH_take (i := 3) (oi := { dst := some 9, op := Op.build 86 #[(0, Operand.tmp 6), (1, Operand.tmp 7), (3, Operand.tmp 8)], type := 86, pos := "ledger.go:42", after := #[{ on := 0, ground := Ground.data }, { on := 1, ground := Ground.data }, { on := 2, ground := Ground.data }], guard := none }) (v := ?v23) rfl (by kernel_rfl) (by kernel_rfl) (by kernel_rfl) (fun _ _ _ h => h) (Or.inl ⟨by rfl, ?hy23⟩) hSw22 ?r23
      case hy23 =>
       intro w' hSw
       have hq := hSw.1
       clear hSw
       go_simp
       with_reducible rfl
      try simp only [putL]
      refine wpAnyH_ready (rs := [5]) (by kernel_rfl) (by simp) ?_
      refine AllReadyH.cons rfl (fun K hK => ?_) AllReadyH.nil
      rw [if_pos (by rfl)]
      refine wp_store_row 86 _ _ rfl _ _ rfl rfl _ _ fLw22 (by kernel_rfl) rfl (by simp [Value.oneCell']) ?_
      have hSw24 := held_row hSw22 hlLw20 (rLg (.slice A0 b.tides.length c0) (.slice A1 b.sounds.length c1) (.map (some w20.heap.size)) (.slice none 0 0) b (Ld.none, Ld.none))
      refine hK.out _ _ hSw24 (fun _ => ?_)
      clear hK K
      try simp only [putL]
      have fLw24 := setRow_heap _ _ _ (rLg (.slice A0 b.tides.length c0) (.slice A1 b.sounds.length c1) (.map (some w20.heap.size)) (.slice none 0 0) b (Ld.none, Ld.none)) _ _ fLw22
      have fMw24 := (setRow_other _ _ _ (rLg (.slice A0 b.tides.length c0) (.slice A1 b.sounds.length c1) (.map (some w20.heap.size)) (.slice none 0 0) b (Ld.none, Ld.none)) (show w20.heap.size ≠ W.drew.heap.size from fun e => by have hx := fMw22; rw [e, fLw22] at hx; cases hx)).trans fMw22
      refine wpAnyH_done (by kernel_rfl) ?_ _
      show R _ _
      rw [HR.out]
      simp only [putL]
      exact ⟨W.drew.heap.size, w20.heap.size, ⟨_, _, _, _, rfl⟩, fLw24, fMw24, hlLw20, hlMw21, hSw24⟩
    · go_simp
      refine (unknown_any _).mono ?_
      rintro e w25 ⟨rfl, hBw25⟩
      have hSw25 := held_step hBw25 hSw20
      have fLw25 := (hBw25.block _ (heap_lt fLw20)).trans fLw20
      refine hK.out _ _ hSw25 (fun _ => ?_)
      clear hK K
      try simp only [putL]
      refine wpAnyH_ready (rs := [1]) (by kernel_rfl) (by simp) ?_
      refine AllReadyH.cons rfl (fun K hK => ?_) AllReadyH.nil
      go_simp
      refine hK.out _ _ (held_alloc hSw25 _) (fun _ => ?_)
      clear hK K
      try simp only [putL]
      refine name_anyH ?_
      intro w26 hWw26
      have hAw26 : Below w25.heap.size w25 w26 := by rw [hWw26]; exact (Below.refl _ _).alloc (Nat.le_refl _) _
      have fMw26 : w26.heap[w25.heap.size]? = some (.map #[] 0) := by rw [hWw26]; exact heap_at _ _ rfl
      have hSw26 : Held W w26 := by rw [hWw26]; exact held_alloc hSw25 _
      have fLw26 := (hAw26.block _ (heap_lt fLw25)).trans fLw25
      have hlMw26 : W.heap.size ≤ w25.heap.size := hSw25.2.2.size
      clear hWw26
      refine wpAnyH_take (i := 3) (oi := { dst := some 9, op := Op.build 86 #[(0, Operand.tmp 6), (1, Operand.tmp 7), (3, Operand.tmp 8)], type := 86, pos := "ledger.go:42", after := #[{ on := 0, ground := Ground.data }, { on := 1, ground := Ground.data }, { on := 2, ground := Ground.data }], guard := none }) (v := ?v27) rfl (by kernel_rfl) (by kernel_rfl) (by kernel_rfl) (fun _ _ _ h => h) (Or.inl ⟨by rfl, ?hy27⟩) hSw26 ?r27
      case hy27 =>
       intro w' hSw
       have hq := hSw.1
       clear hSw
       go_simp
       with_reducible rfl
      try simp only [putL]
      refine wpAnyH_ready (rs := [5]) (by kernel_rfl) (by simp) ?_
      refine AllReadyH.cons rfl (fun K hK => ?_) AllReadyH.nil
      rw [if_pos (by rfl)]
      refine wp_store_row 86 _ _ rfl _ _ rfl rfl _ _ fLw26 (by kernel_rfl) rfl (by simp [Value.oneCell']) ?_
      have hSw28 := held_row hSw26 hlLw20 (rLg (.slice A0 b.tides.length c0) (.slice A1 b.sounds.length c1) (.map (some w25.heap.size)) (.slice none 0 0) b (Ld.none, Ld.none))
      refine hK.out _ _ hSw28 (fun _ => ?_)
      clear hK K
      try simp only [putL]
      have fLw28 := setRow_heap _ _ _ (rLg (.slice A0 b.tides.length c0) (.slice A1 b.sounds.length c1) (.map (some w25.heap.size)) (.slice none 0 0) b (Ld.none, Ld.none)) _ _ fLw26
      have fMw28 := (setRow_other _ _ _ (rLg (.slice A0 b.tides.length c0) (.slice A1 b.sounds.length c1) (.map (some w25.heap.size)) (.slice none 0 0) b (Ld.none, Ld.none)) (show w25.heap.size ≠ W.drew.heap.size from fun e => by have hx := fMw26; rw [e, fLw26] at hx; cases hx)).trans fMw26
      refine wpAnyH_done (by kernel_rfl) ?_ _
      show R _ _
      rw [HR.out]
      simp only [putL]
      exact ⟨W.drew.heap.size, w25.heap.size, ⟨_, _, _, _, rfl⟩, fLw28, fMw28, hlLw20, hlMw26, hSw28⟩
 case rest =>
  intro a' w1 hra
  rw [HR.out] at hra
  clear HR
  obtain ⟨n, r, ⟨u6, u7, u8, u9, rfl⟩, hln, hmr, hn, hr, hheld⟩ := hra
  subst hA
  try simp only [putL]
  have hnr : n ≠ r := fun e => by rw [e, hmr] at hln; cases hln
  have hbk1 := (hheld.2.2.block _ hl0).trans HBK.out
  have hre1 := (hheld.2.2.block _ hl1).trans HRE.out
  have d13 := cell_of_row w1 _ 13 _ _ _ hbk1
  simp only [List.getElem?_toArray, List.getElem?_cons_zero, List.getElem?_cons_succ] at d13
  have hb1 : Below W.heap.size W w1 := hheld.2.2
  have HB1 := Lib.hid hb1
  have HLN := Lib.hid hln
  have HSM0 : Hid (SM w1 W.heap.size b.sounds [] r) := Lib.hid ⟨#[], 0, hmr, fun e he => by simp at he, fun s hs => by simp at hs⟩
  have HL0 := Lib.hid hl0
  have HL1 := Lib.hid hl1
  clear hheld hbk1 hre1 hb1 hln hmr b0 b1 b2 b3 b4 b5 b6 b7 b8 b9 b10 b11 b12 b13 hmm
  go_wp2_with fail
  go_loopw [13] (fun i wr => ∃ k : Nat, k ≤ b.sounds.length ∧ i = I k ∧ SM wr W.heap.size b.sounds (b.sounds.take k) r ∧ wr.heap[n]? = some (oLg (.slice A0 b.tides.length c0) (.slice A1 b.sounds.length c1) (.map (some r)) (.slice none 0 0) b (Ld.none, Ld.none)) ∧ Below W.heap.size W wr) (fun i _ => b.sounds.length - (intOf i).toNat)
  case atStart => exact ⟨0, Nat.zero_le _, rfl, HSM0.out, HLN.out, HB1.out⟩
  case round =>
   obtain ⟨k, hk, rfl, hsm, hln, hB⟩ := hrel
   clear d13 HSM0 HLN HB1
   have hbk1 := (hB.block _ HL0.out).trans HBK.out
   have hre1 := (hB.block _ HL1.out).trans HRE.out
   have HSM := Lib.hid hsm
   have HLN := Lib.hid hln
   have HBR := Lib.hid hB
   have HBK1 := Lib.hid hbk1
   have HRE1 := Lib.hid hre1
   have hzr := hB.size
   clear hsm hln hB hbk1 hre1
   by_cases hlt : k < b.sounds.length
   · have hki : (k : Int) < b.sounds.length := by omega
     have hbw : Below w.heap.size w wr := HBW.out.trans (HBR.out.mono HBW.out.size)
     obtain ⟨bl, off, c', hv, hbl, h0, h1, h2⟩ := (HRB.out.sounds.below hbw (Nat.le_refl _)).sd hlt
     injection hv with hA _ hc
     subst hA hc
     have hokx : SdOk b.sounds[k] := HOK.out _ (List.getElem_mem hlt)
     have htk : b.sounds.take (k + 1) = b.sounds.take k ++ [b.sounds[k]] := List.take_succ_eq_append_getElem hlt
     generalize hx : b.sounds[k] = x at h0 h1 h2 hokx htk
     have HTK := Lib.hid htk
     have HOX := Lib.hid hokx
     clear hx htk hokx
     go_wp2_with fail
     refine name_world ?_
     intro W2 hW2
     have hBW : Below wr.heap.size wr W2 := by rw [hW2]; exact (Below.refl _ _).alloc (Nat.le_refl _) _
     have rS : W2.heap[wr.heap.size]? = some (.cells #[I x.hour, I x.shore, I x.deep] 64 (0, 0)) := by rw [hW2]; exact heap_at _ _ rfl
     have rB : W2.heap[w.heap.size]? = _ := (hBW.block _ (heap_lt HBK1.out)).trans HBK1.out
     have rL : W2.heap[n]? = _ := (hBW.block _ (heap_lt HLN.out)).trans HLN.out
     have hl2 := heap_lt rS
     have hl3 := heap_lt rB
     have hl4 := heap_lt rL
     have hsm2 : SM W2 W.heap.size b.sounds (b.sounds.take k) r := HSM.out.below hBW
     have hrr := hsm2.lt
     have hne1 : w.heap.size ≠ r := by have := HL0.out; omega
     have hne2 : wr.heap.size ≠ r := by have := HSM.out.lt; omega
     have s0 := cell_of_row W2 _ 0 _ _ _ rS
     have s1 := cell_of_row W2 _ 1 _ _ _ rS
     have s2 := cell_of_row W2 _ 2 _ _ _ rS
     have d13 := cell_of_row W2 _ 13 _ _ _ rB
     have l14 := cell_of_row W2 _ 14 _ _ _ rL
     simp only [List.getElem?_toArray, List.getElem?_cons_zero, List.getElem?_cons_succ] at s0 s1 s2 d13 l14
     have HD2 : Hid (∀ w', Apart r W2 w' → Below W2.heap.size W2 w' → Calls Try.prog 68 #[.slice (some ⟨bl, off, none⟩) b.sounds.length c1, vSlip x.hour x.shore] w' fun e w'' => (∃ v, e = .returned v ∧ Dps w'' W.heap.size b.sounds x.hour x.shore v) ∧ Below w'.heap.size w' w'') :=
      Lib.hid fun w' _ hb => (depths_any b.sounds hl x.hour x.shore _ w' ((HRB.out.sounds.below (hbw.trans ((hBW.mono hbw.size).trans (hb.mono (Nat.le_trans hbw.size hBW.size)))) (Nat.le_refl _)).more (Nat.le_trans hbw.size (Nat.le_trans hBW.size hb.size)))).mono fun e w'' ⟨⟨v, he, hs, hf⟩, hb2⟩ => ⟨⟨v, he, hs, fun g o m c e => Nat.le_trans (Nat.le_trans hzr (Nat.le_trans hBW.size hb.size)) (hf g o m c e)⟩, hb2⟩
     have HWW := Lib.hid hBW
     have HSM2 := Lib.hid hsm2
     have RL := Lib.hid rL
     clear hW2 hBW rS rB rL hsm2 h0 h1 h2 hbl hbw
     refine name_act ?_
     intro A hA
     obtain ⟨R, hR⟩ : ∃ R : Act → World → Prop, R = fun a' w' => (∃ u17 u18 u19 u20 u21 u22 u23 u24 u25, a' = (((((((((A.put (some 17) u17).put (some 18) u18).put (some 19) u19).put (some 20) u20).put (some 21) u21).put (some 22) u22).put (some 23) u23).put (some 24) u24).put (some 25) u25)) ∧ SM w' W.heap.size b.sounds (b.sounds.take (k + 1)) r ∧ w'.heap[n]? = some (oLg (.slice A0 b.tides.length c0) (.slice (some ⟨bl, off, none⟩) b.sounds.length c1) (.map (some r)) (.slice none 0 0) b (Ld.none, Ld.none)) ∧ Below W.heap.size W w' := ⟨_, rfl⟩
     have HR := Lib.hid hR
     clear hR
     refine wp_between R ?first ?rest
     case first =>
      subst hA
      have hFW : r ≤ W2.heap.size := Nat.le_of_lt hrr
      have hS0 : Apart r W2 W2.drew := apart_start _ _
      have hb0 : Below W2.heap.size W2 W2.drew := (Below.refl _ _).drew
      have hm0 : SM W2.drew W.heap.size b.sounds (b.sounds.take k) r := HSM2.out
      have hf0 : W2.drew.heap[n]? = _ := RL.out
      refine wp_region_held_drew (S := fun w' => Apart r W2 w') (by kernel_rfl) hS0 (fun _ => ?_)
      refine wpAnyH_take (i := 0) (oi := { dst := some 17, op := Op.fieldAddr 86 (Operand.tmp 3) 1, type := 0, pos := "ledger.go:44", after := #[], guard := none }) (v := ?v29) rfl (by kernel_rfl) (by kernel_rfl) (by kernel_rfl) (fun _ _ _ h => h) (Or.inl ⟨by rfl, ?hy29⟩) hS0 ?r29
      case hy29 =>
       intro w' hSw
       have hq := hSw.1
       clear hSw
       go_simp
       with_reducible rfl
      try simp only [putL]
      refine wpAnyH_take (i := 1) (oi := { dst := some 18, op := Op.load 81 (Operand.tmp 17), type := 81, pos := "ledger.go:44", after := #[{ on := 0, ground := Ground.data }], guard := none }) (v := ?v30) rfl (by kernel_rfl) (by kernel_rfl) (by kernel_rfl) (fun _ _ _ h => h) (Or.inl ⟨by rfl, ?hy30⟩) hS0 ?r30
      case hy30 =>
       intro w' hSw
       have hq := hSw.1
       clear hSw
       go_simp
       with_reducible rfl
      try simp only [putL]
      refine wpAnyH_take (i := 2) (oi := { dst := some 19, op := Op.load 64 (Operand.tmp 5), type := 64, pos := "ledger.go:44", after := #[], guard := none }) (v := ?v31) rfl (by kernel_rfl) (by kernel_rfl) (by kernel_rfl) (fun _ _ _ h => h) (Or.inl ⟨by rfl, ?hy31⟩) hS0 ?r31
      case hy31 =>
       intro w' hSw
       have hq := hSw.1
       clear hSw
       go_simp
       with_reducible rfl
      try simp only [putL]
      refine wpAnyH_take (i := 4) (oi := { dst := some 21, op := Op.fieldAddr 30 (Operand.tmp 1) 5, type := 0, pos := "ledger.go:44", after := #[], guard := none }) (v := ?v32) rfl (by kernel_rfl) (by kernel_rfl) (by kernel_rfl) (fun _ _ _ h => h) (Or.inl ⟨by rfl, ?hy32⟩) hS0 ?r32
      case hy32 =>
       intro w' hSw
       have hq := hSw.1
       clear hSw
       go_simp
       with_reducible rfl
      try simp only [putL]
      refine wpAnyH_take (i := 5) (oi := { dst := some 22, op := Op.load 28 (Operand.tmp 21), type := 28, pos := "ledger.go:44", after := #[{ on := 4, ground := Ground.data }], guard := none }) (v := ?v33) rfl (by kernel_rfl) (by kernel_rfl) (by kernel_rfl) (fun _ _ _ h => h) (Or.inl ⟨by rfl, ?hy33⟩) hS0 ?r33
      case hy33 =>
       intro w' hSw
       have hq := hSw.1
       clear hSw
       go_simp
       with_reducible rfl
      try simp only [putL]
      refine wpAnyH_take (i := 6) (oi := { dst := some 23, op := Op.load 64 (Operand.tmp 5), type := 64, pos := "ledger.go:44", after := #[], guard := none }) (v := ?v34) rfl (by kernel_rfl) (by kernel_rfl) (by kernel_rfl) (fun _ _ _ h => h) (Or.inl ⟨by rfl, ?hy34⟩) hS0 ?r34
      case hy34 =>
       intro w' hSw
       have hq := hSw.1
       clear hSw
       go_simp
       with_reducible rfl
      try simp only [putL]
      refine wpAnyH_ready (rs := [3]) (by kernel_rfl) (by simp) ?_
      refine AllReadyH.cons rfl (fun K hK => ?_) AllReadyH.nil
      go_simp
      refine (slipOf_any x _).mono ?_
      rintro e w35 ⟨rfl, hBw35⟩
      have hSw35 := apart_step hFW hBw35 hS0
      have fLw35 := (hBw35.block _ (heap_lt hf0)).trans hf0
      have mbww35 := hb0.trans (hBw35.mono hb0.size)
      have mSMw35 := hm0.below hBw35
      refine hK.out _ _ hSw35 (fun _ => ?_)
      clear hK K
      try simp only [putL]
      refine wpAnyH_ready (rs := [7]) (by kernel_rfl) (by simp) ?_
      refine AllReadyH.cons rfl (fun K hK => ?_) AllReadyH.nil
      go_simp
      refine (slipOf_any x _).mono ?_
      rintro e w36 ⟨rfl, hBw36⟩
      have hSw36 := apart_step hFW hBw36 hSw35
      have fLw36 := (hBw36.block _ (heap_lt fLw35)).trans fLw35
      have mbww36 := mbww35.trans (hBw36.mono mbww35.size)
      have mSMw36 := mSMw35.below hBw36
      refine hK.out _ _ hSw36 (fun _ => ?_)
      clear hK K
      try simp only [putL]
      refine wpAnyH_ready (rs := [8]) (by kernel_rfl) (by simp) ?_
      refine AllReadyH.cons rfl (fun K hK => ?_) AllReadyH.nil
      go_simp
      refine (HD2.out _ hSw36 mbww36).mono ?_
      rintro e w37 ⟨⟨v, rfl, hv⟩, hBw37⟩
      have hSw37 := apart_step hFW hBw37 hSw36
      have fLw37 := (hBw37.block _ (heap_lt fLw36)).trans fLw36
      have mbww37 := mbww36.trans (hBw37.mono mbww36.size)
      have mSMw37 := mSMw36.below hBw37
      refine hK.out _ _ hSw37 (fun _ => ?_)
      clear hK K
      try simp only [putL]
      refine wpAnyH_ready (rs := [9]) (by kernel_rfl) (by simp) ?_
      refine AllReadyH.cons rfl (fun K hK => ?_) AllReadyH.nil
      obtain ⟨W9, hrun9, hsm9, hgr9⟩ := mSMw37.step HOX.out hv
      rw [if_pos (by rfl)]
      refine wp_mapUpdate_run rfl rfl rfl rfl hrun9 ?_
      have hS9 := apart_grown hSw37 hgr9 hFW
      refine hK.out _ _ hS9 (fun _ => ?_)
      clear hK K hrun9
      try simp only [putL]
      refine wpAnyH_done (by kernel_rfl) ?_ _
      show R _ _
      rw [HR.out]
      simp only [putL]
      refine ⟨⟨_, _, _, _, _, _, _, _, _, rfl⟩, by rw [HTK.out]; exact hsm9, (hgr9.block _ (heap_lt fLw37) (fun e => hnr (by injection e))).trans fLw37, ?_⟩
      have hz2 := HWW.out.size
      have hbq := HBR.out.trans ((HWW.out.mono hzr).trans (mbww37.mono (Nat.le_trans hzr hz2)))
      exact ⟨hgr9.os.trans hbq.os, hgr9.tape.trans hbq.tape, hgr9.output.trans hbq.output, Nat.le_trans hbq.size hgr9.size, fun i hi => (hgr9.block i (by have := hbq.size; omega) (fun e => by injection e; omega)).trans (hbq.block i hi)⟩
     case rest =>
      intro a' w3 hra
      rw [HR.out] at hra
      clear HR
      obtain ⟨⟨u17, u18, u19, u20, u21, u22, u23, u24, u25, rfl⟩, hsm3, hln3, hB3⟩ := hra
      subst hA
      try simp only [putL]
      have HS3 := Lib.hid hsm3
      have HL3 := Lib.hid hln3
      have HB3 := Lib.hid hB3
      clear hsm3 hln3 hB3 s0 s1 s2 d13 l14
      go_wp2_with fail
      go_roundw
      case rel => exact ⟨k + 1, hlt, by go_num, HS3.out, HL3.out, HB3.out⟩
      case measure => simp [intOf]; omega
   · obtain rfl : k = b.sounds.length := by omega
     have hsm := HSM.out
     rw [List.take_length] at hsm
     have HSF := Lib.hid hsm
     have HNB : Hid (n ≠ w.heap.size + 1) := Lib.hid (fun e => by have := HL1.out; omega)
     have hbw : Below w.heap.size w wr := HBW.out.trans (HBR.out.mono HBW.out.size)
     have HBB := Lib.hid hbw
     clear hbw hsm
     go_wp2_with (first | (refine wpList_load_row rfl 86 (Operand.tmp 3) rfl n rfl 86 (rLg (.slice A0 b.tides.length c0) (.slice A1 b.sounds.length c1) (.map (some r)) (.slice none 0 0) b (Ld.none, Ld.none)) (0, 0) _ HLN.out Try.underlying86 rfl infoLg ?_) | (refine wpList_store_row rfl 86 (Operand.tmp 2) (Operand.tmp 27) rfl (w.heap.size + 1) (rLg (.slice A0 b.tides.length c0) (.slice A1 b.sounds.length c1) (.map (some r)) (.slice none 0 0) b (Ld.none, Ld.none)) rfl rfl 86 _ HRE1.out infoLg rfl (by simp [Value.oneCell']) ?_))
     refine name_post ?_
     intro W9 hW9
     have hrow : W9.heap[w.heap.size + 1]? = some (oLg (.slice A0 b.tides.length c0) (.slice A1 b.sounds.length c1) (.map (some r)) (.slice none 0 0) b (Ld.none, Ld.none)) := by rw [hW9]; exact setRow_heap _ _ _ _ _ _ HRE1.out
     have hk9 : Kept1 (w.heap.size + 1) wr W9 := by rw [hW9]; exact ⟨fun k hk => setRow_other _ _ _ _ hk, by simp, rfl, rfl, rfl⟩
     clear hW9
     refine bodyPost_ret (v := vLg (.slice A0 b.tides.length c0) (.slice A1 b.sounds.length c1) (.map (some r)) (.slice none 0 0) b (Ld.none, Ld.none)) (results_cell_row rfl _ W9 (w.heap.size + 1) 86 _ (0, 0) _ rfl hrow Try.underlying86 rfl infoLg) rfl ⟨⟨r, rfl, ?_⟩, below_sets HBB.out (by omega) hk9 hk9.os hk9.tape hk9.output⟩
     have hs9 := HSF.out.kept1 hk9 HRE1.out HL1.out
     have hzz := HBW.out.size
     obtain ⟨es, cl, g0, g1, g2⟩ := hs9
     exact ⟨es, cl, g0, fun e he => by obtain ⟨s, a1, a2, a3, a4⟩ := g1 e he; exact ⟨s, a1, a2, a3, a4.1, fun g o m c e => Nat.le_trans hzz (a4.2 g o m c e)⟩, g2⟩
end Go.Proofs.Ytjgpghaofhcfnaa
