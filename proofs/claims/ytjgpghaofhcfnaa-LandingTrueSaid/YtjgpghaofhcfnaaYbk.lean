/- Texts on the program that the proof leans on, part 37. -/
import Derived.Test.YtjgpghaofhcfnaaYbg
import Derived.Test.YtjgpghaofhcfnaaYbb
set_option linter.unusedVariables false
set_option linter.unusedSimpArgs false

namespace Go.Proofs.Ytjgpghaofhcfnaa
open Go.RowKit
abbrev HeldB (F : Nat) (W w' : World) : Prop := (∀ b o, b < F → w'.cell? ⟨b, o, none⟩ = W.cell? ⟨b, o, none⟩) ∧ Below F W w'
theorem heldB_of {F : Nat} {W w' : World} (h : Below F W w') : HeldB F W w' := ⟨fun b o hb => h.cell (p := ⟨b, o, none⟩) hb, h⟩
set_option maxRecDepth 100000 in
set_option maxHeartbeats 4000000 in
theorem withoutBk_any (b : Ld.Bk) (T D v0 : Value) (no : List Int) (w : World) (hb : RB w w.heap.size b T D) (hv : Sl w w.heap.size 1 v0 no.length (no.map I)) (hl : b.sounds.length ≤ 100) :
 Calls Try.prog 38 #[vBk T D b, v0] w fun e w' => (∃ V', e = .returned (vBk T V' b) ∧ Sl w' w'.heap.size 3 V' (Ld.without b no).sounds.length ((Ld.without b no).sounds.flatMap cSd)) ∧ Below w.heap.size w w' := by
 obtain ⟨A0, k0, rfl⟩ := hb.tides.form
 obtain ⟨A2, k2, rfl⟩ := hb.sounds.form
 obtain ⟨Av, kv, rfl⟩ := hv.form
 have HB := Lib.hid hb
 have HV := Lib.hid hv
 clear hb hv
 go_enter Try.func38, Try.ntmps38
 go_wp2_with fail
 refine name_world ?_
 intro W1 hW1
 have hb1 : Below w.heap.size w W1 := by rw [hW1]; exact (((Below.refl _ _).alloc (Nat.le_refl _) _).alloc (by simp) _).alloc (by simp; omega) _
 have rB : W1.heap[w.heap.size]? = some (.cells (rBk (.slice A0 b.tides.length k0) (.slice A2 b.sounds.length k2) b) 30 (0, 0)) := by rw [hW1]; exact (Below.heap_alloc _ _ _ (by simp; omega)).trans ((Below.heap_alloc _ _ _ (by simp)).trans (heap_at _ _ rfl))
 have rO : W1.heap[w.heap.size + 1]? = some (.cells #[.slice none 0 0, I 0, I 0, I 0, I 0, I 0, I 0, I 0, I 0, I 0, I 0, I 0, I 0, .slice none 0 0] 30 (0, 0)) := by rw [hW1]; exact (Below.heap_alloc _ _ _ (by simp)).trans (heap_at _ _ (by simp))
 have rX : W1.heap[w.heap.size + 1 + 1]? = some (.cells (rBk (.slice A0 b.tides.length k0) (.slice none 0 0) b) 30 (0, 0)) := by rw [hW1]; exact heap_at _ _ (by simp)
 have hz1 : W1.heap.size = w.heap.size + 3 := by rw [hW1]; simp
 have HB1 := Lib.hid hb1
 have RB := Lib.hid rB
 have RO := Lib.hid rO
 have HZ1 := Lib.hid hz1
 go_loopw [6] (fun i wr => ∃ (k : Nat) (v : Value), k ≤ b.sounds.length ∧ i = I k ∧ Below (w.heap.size + 1 + 1) W1 wr ∧ wr.heap[w.heap.size + 1 + 1]? = some (.cells (rBk (.slice A0 b.tides.length k0) v b) 30 (0, 0)) ∧ wr.ownsRow (w.heap.size + 1 + 1 + 1) 64 3 v (Ld.keptTo b.sounds no k).length ((Ld.keptTo b.sounds no k).flatMap cSd)) (fun i _ => b.sounds.length - (intOf i).toNat)
 case atStart => exact ⟨0, .slice none 0 0, Nat.zero_le _, rfl, Below.refl _ _, rX, World.ownsRow_nil _ _ _ _⟩
 case round =>
  obtain ⟨k, v, hk, rfl, hB, rX, hown⟩ := hrel
  have hbw : Below w.heap.size w wr := HB1.out.trans (hB.mono (by omega))
  have rBr := (hB.block w.heap.size (by omega)).trans RB.out
  have qB2 := cell_of_row wr _ 13 _ _ _ rBr
  simp only [List.getElem?_toArray, List.getElem?_cons_zero, List.getElem?_cons_succ] at qB2
  have HBr := Lib.hid hB
  have HBW := Lib.hid hbw
  have RX := Lib.hid rX
  have RBR := Lib.hid rBr
  have HOWN := Lib.hid hown
  clear hB hbw rX hown rB rO rBr hb1 hz1 hW1
  by_cases hlt : k < b.sounds.length
  · have hki : (k : Int) < b.sounds.length := by omega
    go_wp2_with fail
    refine (at_any no k _ wr ((HV.out.below HBW.out (Nat.le_refl _)).more HBW.out.size)).mono ?_
    rintro e w2 ⟨rfl, hB2⟩
    clear qB2
    obtain ⟨q, hq⟩ : ∃ q : Int, Ch.indexOf no k = q := ⟨_, rfl⟩
    have hmem := (Ch.indexOf_nonneg (l := no) (x := (k : Int)))
    rw [hq] at hmem ⊢
    have hbw2 : Below w.heap.size w w2 := HBW.out.trans (hB2.mono HBW.out.size)
    have hB12 : Below (w.heap.size + 1 + 1) W1 w2 := HBr.out.trans (hB2.mono (Nat.le_of_lt (heap_lt RX.out)))
    have RX2 := Lib.hid ((hB2.block _ (heap_lt RX.out)).trans RX.out)
    have rB2 := (hB2.block _ (heap_lt RBR.out)).trans RBR.out
    have hown2 := HOWN.out.kept (grown_of_below hB2 none) (by cases v.ownBlock <;> simp)
    have HOWN2 := Lib.hid hown2
    have HB12 := Lib.hid hB12
    have HBW2 := Lib.hid hbw2
    clear hB2 hown2 hbw2 hB12 hq
    by_cases hin : (k : Int) ∈ no
    · have hq0 : 0 ≤ q := hmem.2 hin
      have hqd : decide (q < 0) = false := decide_eq_false (by omega)
      have HK := Lib.hid (Ld.keptTo_no (l := b.sounds) hin)
      clear hmem hin
      go_wp2_with fail
      go_roundw
      case rel => exact ⟨k + 1, v, by omega, by go_num, HB12.out, RX2.out, by rw [HK.out]; exact HOWN2.out⟩
      case measure => simp [intOf]; omega
    · have hq0 : q < 0 := by
       by_cases hc : 0 ≤ q
       · exact absurd (hmem.1 hc) hin
       · omega
      have hqd : decide (q < 0) = true := decide_eq_true hq0
      have HK := Lib.hid (Ld.keptTo_yes (l := b.sounds) hlt hin)
      have hle := Ld.keptTo_le b.sounds no k
      obtain ⟨bl, off, c', hv, hbl, q0, q1, q2⟩ := (HB.out.sounds.below HBW2.out (Nat.le_refl _)).sd hlt
      injection hv with hA _ hc
      subst hA hc
      clear hmem hin
      generalize hx : b.sounds[k] = x at q0 q1 q2
      have HX := Lib.hid hx
      have qB2 := cell_of_row w2 _ 13 _ _ _ rB2
      simp only [List.getElem?_toArray, List.getElem?_cons_zero, List.getElem?_cons_succ] at qB2
      obtain ⟨m, hm⟩ : ∃ m, (Ld.keptTo b.sounds no k).length = m := ⟨_, rfl⟩
      obtain ⟨xs, hxs⟩ : ∃ xs, (Ld.keptTo b.sounds no k).flatMap cSd = xs := ⟨_, rfl⟩
      have hown2' := HOWN2.out
      rw [hm, hxs] at hown2'
      rw [hm] at hle
      have HM := Lib.hid hm
      have HXS := Lib.hid hxs
      have hwF : w.heap.size < w.heap.size + 1 + 1 := by omega
      have hblF : bl < w.heap.size + 1 + 1 := by omega
      clear HOWN2
      have HOWN2 := Lib.hid hown2'
      clear hown2' hm hxs hx rB2
      go_wp2_with fail
      refine name_act ?_
      intro A hA
      obtain ⟨R, hR⟩ : ∃ R : Act → World → Prop, R = fun a' w' => ∃ g cap : Nat, (∃ u20 u21 u22 u23 u24 u25 u26 u27 u28 u29, a' = ((((((((((A.put (some 20) u20).put (some 21) u21).put (some 22) u22).put (some 23) u23).put (some 24) u24).put (some 25) u25).put (some 26) u26).put (some 27) u27).put (some 28) u28).put (some 29) u29)) ∧ w'.heap[w.heap.size + 1 + 1]? = some (.cells (rBk (.slice A0 b.tides.length k0) (.slice (some ⟨g, 0, none⟩) (m + 1) cap) b) 30 (0, 0)) ∧ w'.ownsRow (w.heap.size + 1 + 1 + 1) 64 3 (.slice (some ⟨g, 0, none⟩) (m + 1) cap) (m + 1) (xs ++ cSd x) ∧ HeldB (w.heap.size + 1 + 1) w2 w' := ⟨_, rfl⟩
      have HR := Lib.hid hR
      clear hR
      refine wp_between R ?first ?rest
      case first =>
       subst hA
       have hX0 : w2.drew.heap[w.heap.size + 1 + 1]? = _ := RX2.out
       have hS0 : HeldB (w.heap.size + 1 + 1) w2 w2.drew := heldB_of (Below.refl _ _).drew
       have ho0 : w2.drew.ownsRow (w.heap.size + 1 + 1 + 1) 64 3 v m xs := HOWN2.out
       have hz0 : w.heap.size + 1 + 1 + 1 ≤ w2.drew.heap.size := heap_lt RX2.out
       have hFw : w.heap.size + 1 + 1 ≤ w2.heap.size := Nat.le_of_lt (heap_lt RX2.out)
       refine wp_region_held_drew (S := fun w' => HeldB (w.heap.size + 1 + 1) w2 w') (by kernel_rfl) hS0 (fun _ => ?_)
       refine wpAnyH_take (i := 0) (oi := { dst := some 20, op := Op.fieldAddr 30 (Operand.tmp 5) 5, type := 0, pos := "outright.go:259", after := #[], guard := none }) (v := ?v1) rfl (by kernel_rfl) (by kernel_rfl) (by kernel_rfl) (fun _ _ _ h => h) (Or.inl ⟨by rfl, ?hy1⟩) hS0 ?r1
       case hy1 =>
        intro w' hSw
        have hq := hSw.1
        clear hSw
        go_simp
        with_reducible rfl
       try simp only [putL]
       refine wpAnyH_take (i := 2) (oi := { dst := some 22, op := Op.fieldAddr 30 (Operand.tmp 2) 5, type := 0, pos := "outright.go:259", after := #[], guard := none }) (v := ?v2) rfl (by kernel_rfl) (by kernel_rfl) (by kernel_rfl) (fun _ _ _ h => h) (Or.inl ⟨by rfl, ?hy2⟩) hS0 ?r2
       case hy2 =>
        intro w' hSw
        have hq := hSw.1
        clear hSw
        go_simp
        with_reducible rfl
       try simp only [putL]
       refine wpAnyH_take (i := 3) (oi := { dst := some 23, op := Op.load 28 (Operand.tmp 22), type := 28, pos := "outright.go:259", after := #[{ on := 2, ground := Ground.data }], guard := none }) (v := ?v3) rfl (by kernel_rfl) (by kernel_rfl) (by kernel_rfl) (fun _ _ _ h => h) (Or.inl ⟨by rfl, ?hy3⟩) hS0 ?r3
       case hy3 =>
        intro w' hSw
        have hq := hSw.1
        clear hSw
        go_simp
        with_reducible rfl
       try simp only [putL]
       refine wpAnyH_take (i := 4) (oi := { dst := some 24, op := Op.move (Operand.tmp 6), type := 3, pos := "outright.go:259", after := #[], guard := none }) (v := ?v4) rfl (by kernel_rfl) (by kernel_rfl) (by kernel_rfl) (fun _ _ _ h => h) (Or.inl ⟨by rfl, ?hy4⟩) hS0 ?r4
       case hy4 =>
        intro w' hSw
        have hq := hSw.1
        clear hSw
        go_simp
        with_reducible rfl
       try simp only [putL]
       refine wpAnyH_take (i := 5) (oi := { dst := some 25, op := Op.indexAddr 28 (Operand.tmp 23) (Operand.tmp 24), type := 0, pos := "outright.go:259", after := #[{ on := 3, ground := Ground.data }, { on := 4, ground := Ground.data }], guard := none }) (v := ?v5) rfl (by kernel_rfl) (by kernel_rfl) (by kernel_rfl) (fun _ _ _ h => h) (Or.inl ⟨by rfl, ?hy5⟩) hS0 ?r5
       case hy5 =>
        intro w' hSw
        have hq := hSw.1
        clear hSw
        go_simp
        with_reducible rfl
       try simp only [putL]
       refine wpAnyH_take (i := 6) (oi := { dst := some 26, op := Op.load 64 (Operand.tmp 25), type := 64, pos := "outright.go:259", after := #[{ on := 5, ground := Ground.data }], guard := none }) (v := ?v6) rfl (by kernel_rfl) (by kernel_rfl) (by kernel_rfl) (fun _ _ _ h => h) (Or.inl ⟨by rfl, ?hy6⟩) hS0 ?r6
       case hy6 =>
        intro w' hSw
        have hq := hSw.1
        clear hSw
        go_simp
        with_reducible rfl
       try simp only [putL]
       refine wpAnyH_ready (rs := [1, 7]) (by kernel_rfl) (by simp) ?_
       refine AllReadyH.cons rfl (fun K hK => ?_) (AllReadyH.cons rfl (fun K hK => ?_) AllReadyH.nil)
       · have qXw7 := cell_of_row w2.drew _ 13 _ _ _ hX0
         simp only [List.getElem?_toArray, List.getElem?_cons_zero, List.getElem?_cons_succ] at qXw7
         go_simp
         refine hK.out _ _ hS0 (fun _ => ?_)
         clear hK K qXw7
         try simp only [putL]
         refine wpAnyH_ready (rs := [7]) (by kernel_rfl) (by simp) ?_
         refine AllReadyH.cons rfl (fun K hK => ?_) AllReadyH.nil
         go_simp
         refine hK.out _ _ (heldB_of (hS0.2.alloc (Nat.le_trans hFw hS0.2.size) _)) (fun _ => ?_)
         clear hK K
         try simp only [putL]
         refine name_anyH ?_
         intro w8 hWw8
         have hAw8 : Below w2.drew.heap.size w2.drew w8 := by rw [hWw8]; exact (Below.refl _ _).alloc (Nat.le_refl _) _
         have hSw8 : HeldB (w.heap.size + 1 + 1) w2 w8 := heldB_of (hS0.2.trans (hAw8.mono (Nat.le_trans hFw hS0.2.size)))
         have hr5w8 : w8.heap[w2.drew.heap.size]? = some (.cells #[I x.hour, I x.shore, I x.deep] 64 (0, 0)) := by rw [hWw8]; exact heap_at _ _ rfl
         have how8 : w8.ownsRow (w.heap.size + 1 + 1 + 1) 64 3 v m xs := by rw [hWw8]; exact ho0.alloc _
         have hzw8 : w.heap.size + 1 + 1 + 1 ≤ w8.heap.size := Nat.le_trans hz0 hAw8.size
         clear hWw8
         have hrXw8 := (hAw8.block _ (heap_lt hX0)).trans hX0
         refine wpAnyH_ready (rs := [8]) (by kernel_rfl) (by simp) ?_
         refine AllReadyH.cons rfl (fun K hK => ?_) AllReadyH.nil
         obtain ⟨i0, hi, hq0, hq1, hq2⟩ := info_parts infoSd
         obtain ⟨vw9, w9, hrunw9, how9, hgw9, -, -⟩ := run_append_own_at (P := Try.prog) w8 (w.heap.size + 1 + 1 + 1) 28 28 64 i0 (vSd ⟨0, 0, 0⟩) 3 24 underSds hi hq0 hq1 hq2 rfl (by decide) v m xs how8 ⟨w2.drew.heap.size, 0, none⟩ 1 1 (cSd x) rfl (fun j u hj => by rw [Addr.add_lit, Nat.zero_add, cell_of_row _ _ j _ _ _ hr5w8]; simpa [cSd] using hj) (by intro u hu; simp [cSd] at hu; rcases hu with rfl | rfl | rfl <;> rfl) (by unfold maxLen; omega) (by omega) hzw8
         have hAw9 : Below (w.heap.size + 1 + 1 + 1) w8 w9 := ⟨hgw9.os, hgw9.tape, hgw9.output, hgw9.size, fun i hi => hgw9.block i (Nat.lt_of_lt_of_le hi hzw8) (fun e => by have := (how8.lt i e.symm).1; omega)⟩
         clear hi hq0 hq1 hq2
         rw [if_pos (by rfl)]
         refine wp_append_run (t := 28) (v0 := v) (vx := .slice (some ⟨w2.drew.heap.size, 0, none⟩) 1 1) (v' := vw9) (w' := w9) (by rfl) (by simp [go_sem]) (by simp [go_sem]) hrunw9 ?_
         clear hrunw9
         have hSw9 := heldB_of (hSw8.2.trans (hAw9.mono (Nat.le_succ _)))
         refine hK.out _ _ hSw9 (fun _ => ?_)
         clear hK K
         have hrXw9 := (hAw9.block _ (Nat.lt_succ_self _)).trans hrXw8
         rcases how9 with ⟨hxw9, ⟨he, hcw9⟩ | ⟨gw9, capw9, curw9, rfl, hxxw9⟩⟩
         · exfalso; simp at hcw9
         have how9 : w9.ownsRow (w.heap.size + 1 + 1 + 1) 64 3 (.slice (some ⟨gw9, 0, none⟩) (m + 1) capw9) (m + 1) (xs ++ cSd x) := ⟨hxw9, .inr ⟨gw9, capw9, curw9, rfl, hxxw9⟩⟩
         try simp only [putL]
         have qXw9 := cell_of_row w9 _ 13 _ _ _ hrXw9
         simp only [List.getElem?_toArray, List.getElem?_cons_zero, List.getElem?_cons_succ] at qXw9
         have fXw9 : w9.frozen? ⟨w.heap.size + 1 + 1, 13, none⟩ = false := by simp [World.frozen?, hrXw9]
         refine wpAnyH_take (i := 9) (oi := { dst := some 29, op := Op.fieldAddr 30 (Operand.tmp 5) 5, type := 0, pos := "outright.go:259", after := #[{ on := 0, ground := Ground.phase }, { on := 1, ground := Ground.phase }, { on := 2, ground := Ground.phase }, { on := 3, ground := Ground.phase }, { on := 4, ground := Ground.phase }, { on := 5, ground := Ground.phase }, { on := 6, ground := Ground.phase }, { on := 7, ground := Ground.phase }, { on := 8, ground := Ground.phase }], guard := none }) (v := ?v10) rfl (by kernel_rfl) (by kernel_rfl) (by kernel_rfl) (fun _ _ _ h => h) (Or.inl ⟨by rfl, ?hy10⟩) hSw9 ?r10
         case hy10 =>
          intro w' hSw
          have hq := hSw.1
          clear hSw
          go_simp
          with_reducible rfl
         try simp only [putL]
         refine wpAnyH_ready (rs := [10]) (by kernel_rfl) (by simp) ?_
         refine AllReadyH.cons rfl (fun K hK => ?_) AllReadyH.nil
         go_simp
         have hSw11 := heldB_of (hSw9.2.setCell (p := ⟨w.heap.size + 1 + 1, 13, none⟩) (Nat.le_refl _) (.slice (some ⟨gw9, 0, none⟩) (m + 1) capw9))
         refine hK.out _ _ hSw11 (fun _ => ?_)
         clear hK K
         try simp only [putL]
         refine wpAnyH_done (by kernel_rfl) ?_ _
         show R _ _
         rw [HR.out]
         simp only [putL]
         refine ⟨gw9, capw9, ⟨_, _, _, _, _, _, _, _, _, _, rfl⟩, by simp [World.setCell, Array.getElem?_modify, hrXw9], how9.kept (row := some (w.heap.size + 1 + 1)) ⟨rfl, rfl, rfl, by simp [World.setCell], fun k _ hk => Below.heap_setCell _ _ _ _ (fun e => hk (by rw [e]))⟩ (.inr ?_), hSw11⟩
         have := (how9.lt gw9 rfl).1
         simp [Value.ownBlock]
         omega
       · go_simp
         refine hK.out _ _ (heldB_of (hS0.2.alloc (Nat.le_trans hFw hS0.2.size) _)) (fun _ => ?_)
         clear hK K
         try simp only [putL]
         refine name_anyH ?_
         intro w12 hWw12
         have hAw12 : Below w2.drew.heap.size w2.drew w12 := by rw [hWw12]; exact (Below.refl _ _).alloc (Nat.le_refl _) _
         have hSw12 : HeldB (w.heap.size + 1 + 1) w2 w12 := heldB_of (hS0.2.trans (hAw12.mono (Nat.le_trans hFw hS0.2.size)))
         have hr5w12 : w12.heap[w2.drew.heap.size]? = some (.cells #[I x.hour, I x.shore, I x.deep] 64 (0, 0)) := by rw [hWw12]; exact heap_at _ _ rfl
         have how12 : w12.ownsRow (w.heap.size + 1 + 1 + 1) 64 3 v m xs := by rw [hWw12]; exact ho0.alloc _
         have hzw12 : w.heap.size + 1 + 1 + 1 ≤ w12.heap.size := Nat.le_trans hz0 hAw12.size
         clear hWw12
         have hrXw12 := (hAw12.block _ (heap_lt hX0)).trans hX0
         refine wpAnyH_ready (rs := [1]) (by kernel_rfl) (by simp) ?_
         refine AllReadyH.cons rfl (fun K hK => ?_) AllReadyH.nil
         have qXw13 := cell_of_row w12 _ 13 _ _ _ hrXw12
         simp only [List.getElem?_toArray, List.getElem?_cons_zero, List.getElem?_cons_succ] at qXw13
         go_simp
         refine hK.out _ _ hSw12 (fun _ => ?_)
         clear hK K qXw13
         try simp only [putL]
         refine wpAnyH_ready (rs := [8]) (by kernel_rfl) (by simp) ?_
         refine AllReadyH.cons rfl (fun K hK => ?_) AllReadyH.nil
         obtain ⟨i0, hi, hq0, hq1, hq2⟩ := info_parts infoSd
         obtain ⟨vw14, w14, hrunw14, how14, hgw14, -, -⟩ := run_append_own_at (P := Try.prog) w12 (w.heap.size + 1 + 1 + 1) 28 28 64 i0 (vSd ⟨0, 0, 0⟩) 3 24 underSds hi hq0 hq1 hq2 rfl (by decide) v m xs how12 ⟨w2.drew.heap.size, 0, none⟩ 1 1 (cSd x) rfl (fun j u hj => by rw [Addr.add_lit, Nat.zero_add, cell_of_row _ _ j _ _ _ hr5w12]; simpa [cSd] using hj) (by intro u hu; simp [cSd] at hu; rcases hu with rfl | rfl | rfl <;> rfl) (by unfold maxLen; omega) (by omega) hzw12
         have hAw14 : Below (w.heap.size + 1 + 1 + 1) w12 w14 := ⟨hgw14.os, hgw14.tape, hgw14.output, hgw14.size, fun i hi => hgw14.block i (Nat.lt_of_lt_of_le hi hzw12) (fun e => by have := (how12.lt i e.symm).1; omega)⟩
         clear hi hq0 hq1 hq2
         rw [if_pos (by rfl)]
         refine wp_append_run (t := 28) (v0 := v) (vx := .slice (some ⟨w2.drew.heap.size, 0, none⟩) 1 1) (v' := vw14) (w' := w14) (by rfl) (by simp [go_sem]) (by simp [go_sem]) hrunw14 ?_
         clear hrunw14
         have hSw14 := heldB_of (hSw12.2.trans (hAw14.mono (Nat.le_succ _)))
         refine hK.out _ _ hSw14 (fun _ => ?_)
         clear hK K
         have hrXw14 := (hAw14.block _ (Nat.lt_succ_self _)).trans hrXw12
         rcases how14 with ⟨hxw14, ⟨he, hcw14⟩ | ⟨gw14, capw14, curw14, rfl, hxxw14⟩⟩
         · exfalso; simp at hcw14
         have how14 : w14.ownsRow (w.heap.size + 1 + 1 + 1) 64 3 (.slice (some ⟨gw14, 0, none⟩) (m + 1) capw14) (m + 1) (xs ++ cSd x) := ⟨hxw14, .inr ⟨gw14, capw14, curw14, rfl, hxxw14⟩⟩
         try simp only [putL]
         have qXw14 := cell_of_row w14 _ 13 _ _ _ hrXw14
         simp only [List.getElem?_toArray, List.getElem?_cons_zero, List.getElem?_cons_succ] at qXw14
         have fXw14 : w14.frozen? ⟨w.heap.size + 1 + 1, 13, none⟩ = false := by simp [World.frozen?, hrXw14]
         refine wpAnyH_take (i := 9) (oi := { dst := some 29, op := Op.fieldAddr 30 (Operand.tmp 5) 5, type := 0, pos := "outright.go:259", after := #[{ on := 0, ground := Ground.phase }, { on := 1, ground := Ground.phase }, { on := 2, ground := Ground.phase }, { on := 3, ground := Ground.phase }, { on := 4, ground := Ground.phase }, { on := 5, ground := Ground.phase }, { on := 6, ground := Ground.phase }, { on := 7, ground := Ground.phase }, { on := 8, ground := Ground.phase }], guard := none }) (v := ?v15) rfl (by kernel_rfl) (by kernel_rfl) (by kernel_rfl) (fun _ _ _ h => h) (Or.inl ⟨by rfl, ?hy15⟩) hSw14 ?r15
         case hy15 =>
          intro w' hSw
          have hq := hSw.1
          clear hSw
          go_simp
          with_reducible rfl
         try simp only [putL]
         refine wpAnyH_ready (rs := [10]) (by kernel_rfl) (by simp) ?_
         refine AllReadyH.cons rfl (fun K hK => ?_) AllReadyH.nil
         go_simp
         have hSw16 := heldB_of (hSw14.2.setCell (p := ⟨w.heap.size + 1 + 1, 13, none⟩) (Nat.le_refl _) (.slice (some ⟨gw14, 0, none⟩) (m + 1) capw14))
         refine hK.out _ _ hSw16 (fun _ => ?_)
         clear hK K
         try simp only [putL]
         refine wpAnyH_done (by kernel_rfl) ?_ _
         show R _ _
         rw [HR.out]
         simp only [putL]
         refine ⟨gw14, capw14, ⟨_, _, _, _, _, _, _, _, _, _, rfl⟩, by simp [World.setCell, Array.getElem?_modify, hrXw14], how14.kept (row := some (w.heap.size + 1 + 1)) ⟨rfl, rfl, rfl, by simp [World.setCell], fun k _ hk => Below.heap_setCell _ _ _ _ (fun e => hk (by rw [e]))⟩ (.inr ?_), hSw16⟩
         have := (how14.lt gw14 rfl).1
         simp [Value.ownBlock]
         omega
      case rest =>
       intro a' w3 hra
       rw [HR.out] at hra
       clear HR
       obtain ⟨g, cap, ⟨u20, u21, u22, u23, u24, u25, u26, u27, u28, u29, rfl⟩, rX3, hown3, hHE⟩ := hra
       subst hA
       try simp only [putL]
       go_wp2_with fail
       go_roundw
       case rel =>
        refine ⟨k + 1, _, by omega, by go_num, HB12.out.trans hHE.2, rX3, ?_⟩
        rw [HK.out, List.length_append, List.flatMap_append, HX.out, HM.out, HXS.out]
        simpa using hown3
       case measure => simp [intOf]; omega
  · obtain rfl : k = b.sounds.length := by omega
    have rO2 := (HBr.out.block (w.heap.size + 1) (by omega)).trans RO.out
    have hsl := sl_ownN HOWN.out (Nat.le_refl _)
    have HSL := Lib.hid hsl
    obtain ⟨Au, cu, rfl⟩ := hsl.form
    clear hsl
    have rX2 := RX.out
    have qX0 := cell_of_row wr _ 0 _ _ _ rX2
    have qO0 := cell_of_row wr _ 0 _ _ _ rO2
    have zO0 : wr.frozen? ⟨w.heap.size + 1, 0, none⟩ = false := by simp [World.frozen?, rO2]
    have qX1 := cell_of_row wr _ 1 _ _ _ rX2
    have qO1 := cell_of_row wr _ 1 _ _ _ rO2
    have zO1 : wr.frozen? ⟨w.heap.size + 1, 1, none⟩ = false := by simp [World.frozen?, rO2]
    have qX2 := cell_of_row wr _ 2 _ _ _ rX2
    have qO2 := cell_of_row wr _ 2 _ _ _ rO2
    have zO2 : wr.frozen? ⟨w.heap.size + 1, 2, none⟩ = false := by simp [World.frozen?, rO2]
    have qX3 := cell_of_row wr _ 3 _ _ _ rX2
    have qO3 := cell_of_row wr _ 3 _ _ _ rO2
    have zO3 : wr.frozen? ⟨w.heap.size + 1, 3, none⟩ = false := by simp [World.frozen?, rO2]
    have qX4 := cell_of_row wr _ 4 _ _ _ rX2
    have qO4 := cell_of_row wr _ 4 _ _ _ rO2
    have zO4 : wr.frozen? ⟨w.heap.size + 1, 4, none⟩ = false := by simp [World.frozen?, rO2]
    have qX5 := cell_of_row wr _ 5 _ _ _ rX2
    have qO5 := cell_of_row wr _ 5 _ _ _ rO2
    have zO5 : wr.frozen? ⟨w.heap.size + 1, 5, none⟩ = false := by simp [World.frozen?, rO2]
    have qX6 := cell_of_row wr _ 6 _ _ _ rX2
    have qO6 := cell_of_row wr _ 6 _ _ _ rO2
    have zO6 : wr.frozen? ⟨w.heap.size + 1, 6, none⟩ = false := by simp [World.frozen?, rO2]
    have qX7 := cell_of_row wr _ 7 _ _ _ rX2
    have qO7 := cell_of_row wr _ 7 _ _ _ rO2
    have zO7 : wr.frozen? ⟨w.heap.size + 1, 7, none⟩ = false := by simp [World.frozen?, rO2]
    have qX8 := cell_of_row wr _ 8 _ _ _ rX2
    have qO8 := cell_of_row wr _ 8 _ _ _ rO2
    have zO8 : wr.frozen? ⟨w.heap.size + 1, 8, none⟩ = false := by simp [World.frozen?, rO2]
    have qX9 := cell_of_row wr _ 9 _ _ _ rX2
    have qO9 := cell_of_row wr _ 9 _ _ _ rO2
    have zO9 : wr.frozen? ⟨w.heap.size + 1, 9, none⟩ = false := by simp [World.frozen?, rO2]
    have qX10 := cell_of_row wr _ 10 _ _ _ rX2
    have qO10 := cell_of_row wr _ 10 _ _ _ rO2
    have zO10 : wr.frozen? ⟨w.heap.size + 1, 10, none⟩ = false := by simp [World.frozen?, rO2]
    have qX11 := cell_of_row wr _ 11 _ _ _ rX2
    have qO11 := cell_of_row wr _ 11 _ _ _ rO2
    have zO11 : wr.frozen? ⟨w.heap.size + 1, 11, none⟩ = false := by simp [World.frozen?, rO2]
    have qX12 := cell_of_row wr _ 12 _ _ _ rX2
    have qO12 := cell_of_row wr _ 12 _ _ _ rO2
    have zO12 : wr.frozen? ⟨w.heap.size + 1, 12, none⟩ = false := by simp [World.frozen?, rO2]
    have qX13 := cell_of_row wr _ 13 _ _ _ rX2
    have qO13 := cell_of_row wr _ 13 _ _ _ rO2
    have zO13 : wr.frozen? ⟨w.heap.size + 1, 13, none⟩ = false := by simp [World.frozen?, rO2]
    simp only [List.getElem?_toArray, List.getElem?_cons_zero, List.getElem?_cons_succ] at qX0 qX1 qX2 qX3 qX4 qX5 qX6 qX7 qX8 qX9 qX10 qX11 qX12 qX13 qO0 qO1 qO2 qO3 qO4 qO5 qO6 qO7 qO8 qO9 qO10 qO11 qO12 qO13
    have HRO := Lib.hid rO2
    clear rX2 rO2
    go_wp2_with fail
    have hne : ∀ g o n c, (Value.slice Au (Ld.keptTo b.sounds no b.sounds.length).length cu) = .slice (some ⟨g, o, none⟩) n c → g ≠ w.heap.size + 1 := fun g o n c e => by
     have := (HOWN.out.lt g (by rw [e]; rfl)).1
     omega
    refine bodyPost_ret (v := vBk (.slice A0 b.tides.length k0) (.slice Au (Ld.keptTo b.sounds no b.sounds.length).length cu) b) (by simp [results, Try.results38, go_sem, qO0, qO1, qO2, qO3, qO4, qO5, qO6, qO7, qO8, qO9, qO10, qO11, qO12, qO13]) rfl ⟨⟨_, rfl, ?_⟩, ?_⟩
    · refine Sl.more (HSL.out.same (fun g o n c e => ?_)) (by simp [World.setCell])
      have h1 := hne g o n c e
      exact (Below.heap_setCell _ _ _ _ h1).trans ((Below.heap_setCell _ _ _ _ h1).trans ((Below.heap_setCell _ _ _ _ h1).trans ((Below.heap_setCell _ _ _ _ h1).trans ((Below.heap_setCell _ _ _ _ h1).trans ((Below.heap_setCell _ _ _ _ h1).trans ((Below.heap_setCell _ _ _ _ h1).trans ((Below.heap_setCell _ _ _ _ h1).trans ((Below.heap_setCell _ _ _ _ h1).trans ((Below.heap_setCell _ _ _ _ h1).trans ((Below.heap_setCell _ _ _ _ h1).trans ((Below.heap_setCell _ _ _ _ h1).trans ((Below.heap_setCell _ _ _ _ h1).trans (Below.heap_setCell _ _ _ _ h1)))))))))))))
    · refine Below.setCell (Below.setCell (Below.setCell (Below.setCell (Below.setCell (Below.setCell (Below.setCell (Below.setCell (Below.setCell (Below.setCell (Below.setCell (Below.setCell (Below.setCell (Below.setCell HBW.out ?_ _) ?_ _) ?_ _) ?_ _) ?_ _) ?_ _) ?_ _) ?_ _) ?_ _) ?_ _) ?_ _) ?_ _) ?_ _) ?_ _
      all_goals (simp)
end Go.Proofs.Ytjgpghaofhcfnaa
