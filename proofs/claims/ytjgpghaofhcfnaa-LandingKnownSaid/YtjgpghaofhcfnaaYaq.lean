/- Texts on the program that the proof leans on, part 17. -/
import Derived.Test.YtjgpghaofhcfnaaYap
import Derived.Test.YtjgpghaofhcfnaaYam
import Derived.Laws.ResultCell
import Derived.Maps.OwnIn
set_option linter.unusedVariables false
set_option linter.unusedSimpArgs false

namespace Go.Proofs.Ytjgpghaofhcfnaa
open Go.RowKit
set_option maxRecDepth 100000 in
set_option maxHeartbeats 4000000 in
theorem lands_any (b : Ld.Bk) (T D R : Value) (r : Nat) (k : Ld.Sp × Ld.Sp) (n sh : Nat) (load : Int) (w : World) (hlt : LT b T D R r w) (hv : Ld.valid b = true) (hn : n < b.tides.length) (hs : sh = 0 ∨ sh = 1) (h0 : 0 ≤ load) (h1 : load ≤ 200) (hm : (Ld.truths b).length ≤ 100000) :
 Calls Try.prog 60 #[vLg T D (.map (some r)) R b k, .agg #[I n, I sh, I load]] w fun e w' => e = .returned (I (Ld.lands b sh n load)) ∧ Below w.heap.size w w' := by
 obtain ⟨A0, c0, rfl⟩ := hlt.led.rb.tides.form
 obtain ⟨A1, c1, rfl⟩ := hlt.led.rb.sounds.form
 obtain ⟨A2, c2, rfl⟩ := hlt.tr.form
 have HLT := Lib.hid hlt
 clear hlt
 go_enter Try.func60, Try.ntmps60
 go_wp2_with fail
 refine (outcomes_any _).mono ?_
 rintro e w1 ⟨rfl, hB1⟩
 have hb0 : Below w.heap.size w ((w.alloc (.cells (rLg (.slice A0 b.tides.length c0) (.slice A1 b.sounds.length c1) (.map (some r)) (.slice A2 (Ld.truths b).length c2) b k) 86)).alloc (.cells #[I n, I sh, I load] 100)) := ((Below.refl _ _).alloc (Nat.le_refl _) _).alloc (by simp) _
 have hb1 : Below w.heap.size w w1 := hb0.trans (hB1.mono hb0.size)
 have e0 : w1.heap[w.heap.size]? = some ((oLg (.slice A0 b.tides.length c0) (.slice A1 b.sounds.length c1) (.map (some r)) (.slice A2 (Ld.truths b).length c2) b k)) := (hB1.block _ (by simp <;> omega)).trans ((Below.heap_alloc _ _ _ (by simp)).trans (heap_at _ _ rfl))
 have e1 : w1.heap[w.heap.size + 1]? = some (.cells #[I n, I sh, I load] 100 (0, 0)) := (hB1.block _ (by simp)).trans (heap_at _ _ (by simp))
 have HB1 := Lib.hid hb1
 have E0 := Lib.hid e0
 have E1 := Lib.hid e1
 clear hB1 hb0 hb1 e0 e1
 go_upto_region 2 with fail
 refine name_world ?_
 intro W hW
 have hBW : Below w1.heap.size w1 W := by rw [hW]; exact (Below.refl _ _).alloc (Nat.le_refl _) _
 have rO : W.heap[w1.heap.size]? = some (.cells #[.func (.func 94) #[] #[], .func (.func 95) #[] #[]] 118 (0, 0)) := by rw [hW]; exact heap_at _ _ rfl
 have rL := (hBW.block _ (heap_lt E0.out)).trans E0.out
 have rA := (hBW.block _ (heap_lt E1.out)).trans E1.out
 have o0 := cell_of_row W _ 0 _ _ _ rO
 have a0 := cell_of_row W _ 0 _ _ _ rA
 have a1 := cell_of_row W _ 1 _ _ _ rA
 have a2 := cell_of_row W _ 2 _ _ _ rA
 simp only [List.getElem?_toArray, List.getElem?_cons_zero, List.getElem?_cons_succ] at o0 a0 a1 a2
 have hbw : Below w.heap.size w W := HB1.out.trans (hBW.mono HB1.out.size)
 have RO := Lib.hid rO
 have RL := Lib.hid rL
 have RA := Lib.hid rA
 have HBW := Lib.hid hbw
 clear hW hBW rO rL rA hbw
 go_wp2_with (refine wpList_load_row rfl 86 (Operand.tmp 2) rfl w.heap.size rfl 86 (rLg (.slice A0 b.tides.length c0) (.slice A1 b.sounds.length c1) (.map (some r)) (.slice A2 (Ld.truths b).length c2) b k) (0, 0) _ RL.out Try.underlying86 rfl infoLg ?_)
 refine (worst_any b _ _ _ r k n sh load W (HLT.out.up HBW.out) hv hn hs h0 h1 hm).mono ?_
 rintro e w2 ⟨rfl, hB2⟩
 have rL2 := (hB2.block _ (heap_lt RL.out)).trans RL.out
 have rA2 := (hB2.block _ (heap_lt RA.out)).trans RA.out
 have rO2 := (hB2.block _ (heap_lt RO.out)).trans RO.out
 have p1 := cell_of_row w2 _ 1 _ _ _ rO2
 have b0 := cell_of_row w2 _ 0 _ _ _ rA2
 have b1 := cell_of_row w2 _ 1 _ _ _ rA2
 have b2 := cell_of_row w2 _ 2 _ _ _ rA2
 simp only [List.getElem?_toArray, List.getElem?_cons_zero, List.getElem?_cons_succ] at p1 b0 b1 b2
 have hbw2 : Below w.heap.size w w2 := HBW.out.trans (hB2.mono HBW.out.size)
 have RL2 := Lib.hid rL2
 have HBW2 := Lib.hid hbw2
 clear hB2 rL2 rA2 rO2 hbw2 o0 a0 a1 a2
 cases hw : Ld.atWorst b sh n load
 · have HW := Lib.hid hw
   clear hw
   go_wp2_with (refine wpList_load_row rfl 86 (Operand.tmp 2) rfl w.heap.size rfl 86 (rLg (.slice A0 b.tides.length c0) (.slice A1 b.sounds.length c1) (.map (some r)) (.slice A2 (Ld.truths b).length c2) b k) (0, 0) _ RL2.out Try.underlying86 rfl infoLg ?_)
   refine (best_any b _ _ _ r k n sh load w2 (HLT.out.up HBW2.out) hv hn hs h0 h1 hm).mono ?_
   rintro e w3 ⟨rfl, hB3⟩
   have hbw3 : Below w.heap.size w w3 := HBW2.out.trans (hB3.mono HBW2.out.size)
   have HBW3 := Lib.hid hbw3
   clear hB3 hbw3 p1 b0 b1 b2
   cases hbst : Ld.atBest b sh n load
   all_goals
    have HE := Lib.hid hbst
    clear hbst
    go_wp2_with fail
    go_ret
    exact ⟨ret_i (by simp [Ld.lands, HW.out, HE.out]), HBW3.out⟩
 · have HW := Lib.hid hw
   clear hw
   go_wp2_with fail
   go_ret
   exact ⟨ret_i (by simp [Ld.lands, HW.out]), HBW2.out⟩
theorem under_out : Try.prog.underlying 118 = some (.array 2 117) := by kernel_rfl
theorem info_out : (Try.prog.info? 117).map (fun i => (i.zero, i.size, i.bytes)) = some (some .nilFunc, 1, 8) := by kernel_rfl
theorem index_out0 (W : World) : (Instr.index 118 vOut (.int .i64 0)).run Try.prog W = .ok (.func (.func 94) #[] #[]) W := by
 obtain ⟨i, h1, h2, h3, h4⟩ := info_parts info_out
 simp [Instr.index, run_underlying under_out, asIntOf, sizeOf, typeInfo, h1, h3, go_sem]
set_option maxRecDepth 100000 in
set_option maxHeartbeats 4000000 in
theorem surely_any (b : Ld.Bk) (T D R : Value) (r : Nat) (k : Ld.Sp × Ld.Sp) (n sh : Nat) (load : Int) (w : World) (hlt : LT b T D R r w) (hv : Ld.valid b = true) (hn : n < b.tides.length) (hs : sh = 0 ∨ sh = 1) (h0 : 0 ≤ load) (h1 : load ≤ 200) (hm : (Ld.truths b).length ≤ 100000) :
 Calls Try.prog 62 #[vLg T D (.map (some r)) R b k, I sh, I n, I load] w fun e w' => e = .returned (.bool (Ld.atWorst b sh n load)) ∧ Below w.heap.size w w' := by
 obtain ⟨A0, c0, rfl⟩ := hlt.led.rb.tides.form
 obtain ⟨A1, c1, rfl⟩ := hlt.led.rb.sounds.form
 obtain ⟨A2, c2, rfl⟩ := hlt.tr.form
 have HLT := Lib.hid hlt
 clear hlt
 have ix := index_out0
 go_enter Try.func62, Try.ntmps62
 go_wp2_with fail
 refine name_world ?_
 intro W hW
 have hB : Below w.heap.size w W := by rw [hW]; exact (Below.refl _ _).alloc (Nat.le_refl _) _
 have e0 : W.heap[w.heap.size]? = some ((oLg (.slice A0 b.tides.length c0) (.slice A1 b.sounds.length c1) (.map (some r)) (.slice A2 (Ld.truths b).length c2) b k)) := by rw [hW]; exact heap_at _ _ rfl
 have RL := Lib.hid e0
 have HB := Lib.hid hB
 clear hW hB e0
 have HWO : Hid (∀ w', Held W w' → Calls Try.prog 94 #[(vLg (.slice A0 b.tides.length c0) (.slice A1 b.sounds.length c1) (.map (some r)) (.slice A2 (Ld.truths b).length c2) b k), .agg #[I n, I sh, I load]] w' fun e w'' => e = .returned (.bool (Ld.atWorst b sh n load)) ∧ Below w'.heap.size w' w'') :=
  Lib.hid fun w' h => worst_any b _ _ _ r k n sh load w' ((HLT.out.up HB.out).up h.2.2) hv hn hs h0 h1 hm
 have hK0 : Held W W.drew := held_start W
 refine wp_region_held_drew (S := fun w' => Held W w') (by kernel_rfl) hK0 (fun _ => ?_)
 refine wpAnyH_take (i := 2) (oi := { dst := some 11, op := Op.load 86 (Operand.tmp 4), type := 86, pos := "known.go:74", after := #[], guard := none }) (v := (vLg (.slice A0 b.tides.length c0) (.slice A1 b.sounds.length c1) (.map (some r)) (.slice A2 (Ld.truths b).length c2) b k)) rfl (by kernel_rfl) (by kernel_rfl) (by kernel_rfl) (fun _ _ _ h => h) (Or.inl ⟨by rfl, ?hy1⟩) hK0 ?r1
 case hy1 =>
  intro w' hSw
  exact exec_load_row (by rfl) (by rfl) ((hSw.2.2.block _ (heap_lt RL.out)).trans RL.out) Try.underlying86 rfl infoLg
 try simp only [putL]
 refine wpAnyH_take (i := 3) (oi := { dst := some 12, op := Op.move (Operand.tmp 2), type := 3, pos := "known.go:74", after := #[], guard := none }) (v := ?v2) rfl (by kernel_rfl) (by kernel_rfl) (by kernel_rfl) (fun _ _ _ h => h) (Or.inl ⟨by rfl, ?hy2⟩) hK0 ?r2
 case hy2 =>
  intro w' hSw
  have hq := hSw.1
  clear hSw
  go_simp
  with_reducible rfl
 try simp only [putL]
 refine wpAnyH_take (i := 4) (oi := { dst := some 13, op := Op.move (Operand.tmp 1), type := 3, pos := "known.go:74", after := #[], guard := none }) (v := ?v3) rfl (by kernel_rfl) (by kernel_rfl) (by kernel_rfl) (fun _ _ _ h => h) (Or.inl ⟨by rfl, ?hy3⟩) hK0 ?r3
 case hy3 =>
  intro w' hSw
  have hq := hSw.1
  clear hSw
  go_simp
  with_reducible rfl
 try simp only [putL]
 refine wpAnyH_take (i := 5) (oi := { dst := some 14, op := Op.build 96 #[(0, Operand.tmp 12), (1, Operand.tmp 13)], type := 96, pos := "known.go:74", after := #[{ on := 3, ground := Ground.data }, { on := 4, ground := Ground.data }], guard := none }) (v := ?v4) rfl (by kernel_rfl) (by kernel_rfl) (by kernel_rfl) (fun _ _ _ h => h) (Or.inl ⟨by rfl, ?hy4⟩) hK0 ?r4
 case hy4 =>
  intro w' hSw
  have hq := hSw.1
  clear hSw
  go_simp
  with_reducible rfl
 try simp only [putL]
 refine wpAnyH_take (i := 6) (oi := { dst := some 15, op := Op.move (Operand.tmp 3), type := 3, pos := "known.go:74", after := #[], guard := none }) (v := ?v5) rfl (by kernel_rfl) (by kernel_rfl) (by kernel_rfl) (fun _ _ _ h => h) (Or.inl ⟨by rfl, ?hy5⟩) hK0 ?r5
 case hy5 =>
  intro w' hSw
  have hq := hSw.1
  clear hSw
  go_simp
  with_reducible rfl
 try simp only [putL]
 refine wpAnyH_take (i := 7) (oi := { dst := some 16, op := Op.build 100 #[(0, Operand.tmp 14), (1, Operand.tmp 15)], type := 100, pos := "known.go:74", after := #[{ on := 5, ground := Ground.data }, { on := 6, ground := Ground.data }], guard := none }) (v := ?v6) rfl (by kernel_rfl) (by kernel_rfl) (by kernel_rfl) (fun _ _ _ h => h) (Or.inl ⟨by rfl, ?hy6⟩) hK0 ?r6
 case hy6 =>
  intro w' hSw
  have hq := hSw.1
  clear hSw
  go_simp
  with_reducible rfl
 try simp only [putL]
 refine wpAnyH_ready (rs := [0]) (by kernel_rfl) (by simp) ?_
 refine AllReadyH.cons rfl (fun K hK => ?_) AllReadyH.nil
 go_simp
 refine (outcomes_any _).mono ?_
 rintro e w7 ⟨rfl, hBw7⟩
 have hSw7 := held_step hBw7 hK0
 refine hK.out _ _ hSw7 (fun _ => ?_)
 clear hK K
 try simp only [putL]
 refine wpAnyH_take (i := 1) (oi := { dst := some 10, op := Op.index 118 (Operand.tmp 9) (Operand.const (Value.int IntKind.i64 0)), type := 117, pos := "known.go:74", after := #[{ on := 0, ground := Ground.data }], guard := none }) (v := ?v8) rfl (by kernel_rfl) (by kernel_rfl) (by kernel_rfl) (fun _ _ _ h => h) (Or.inl ⟨by rfl, ?hy8⟩) hSw7 ?r8
 case hy8 =>
  intro w' hSw
  have hq := hSw.1
  clear hSw
  go_simp
  with_reducible rfl
 try simp only [putL]
 refine wpAnyH_ready (rs := [8]) (by kernel_rfl) (by simp) ?_
 refine AllReadyH.cons rfl (fun K hK => ?_) AllReadyH.nil
 go_simp
 refine (HWO.out _ hSw7).mono ?_
 rintro e w9 ⟨rfl, hBw9⟩
 have hSw9 := held_step hBw9 hSw7
 refine hK.out _ _ hSw9 (fun _ => ?_)
 clear hK K
 try simp only [putL]
 refine wpAnyH_take (i := 9) (oi := { dst := some 8, op := Op.assign (Operand.tmp 17), type := 4, pos := "known.go:74", after := #[{ on := 8, ground := Ground.data }, { on := 8, ground := Ground.chain }, { on := 0, ground := Ground.phase }, { on := 1, ground := Ground.phase }, { on := 2, ground := Ground.phase }, { on := 3, ground := Ground.phase }, { on := 4, ground := Ground.phase }, { on := 5, ground := Ground.phase }, { on := 6, ground := Ground.phase }, { on := 7, ground := Ground.phase }, { on := 8, ground := Ground.phase }], guard := none }) (v := ?v10) rfl (by kernel_rfl) (by kernel_rfl) (by kernel_rfl) (fun _ _ _ h => h) (Or.inl ⟨by rfl, ?hy10⟩) hSw9 ?r10
 case hy10 =>
  intro w' hSw
  have hq := hSw.1
  clear hSw
  go_simp
  with_reducible rfl
 try simp only [putL]
 refine wpAnyH_done (by kernel_rfl) ?_ _
 have hbX : Below w.heap.size w w9 := HB.out.trans (hSw9.2.2.mono HB.out.size)
 have HBX := Lib.hid hbX
 clear hbX ix
 go_wp2_with fail
 go_ret
 exact ⟨rfl, HBX.out⟩
set_option maxRecDepth 100000 in
set_option maxHeartbeats 4000000 in
theorem both_any (b : Ld.Bk) (T D R : Value) (r : Nat) (k : Ld.Sp × Ld.Sp) (n : Nat) (load : Int) (w : World) (hlt : LT b T D R r w) (hv : Ld.valid b = true) (hn : n < b.tides.length) (h0 : 0 ≤ load) (h1 : load ≤ 200) (hm : (Ld.truths b).length ≤ 100000) :
 Calls Try.prog 63 #[vLg T D (.map (some r)) R b k, I n, I load] w fun e w' => e = .returned (.bool (Ld.bothAt b n load)) ∧ Below w.heap.size w w' := by
 obtain ⟨A0, c0, rfl⟩ := hlt.led.rb.tides.form
 obtain ⟨A1, c1, rfl⟩ := hlt.led.rb.sounds.form
 obtain ⟨A2, c2, rfl⟩ := hlt.tr.form
 have HLT := Lib.hid hlt
 clear hlt
 go_enter Try.func63, Try.ntmps63
 go_wp2_with fail
 refine name_world ?_
 intro W hW
 have hB : Below w.heap.size w W := by rw [hW]; exact (Below.refl _ _).alloc (Nat.le_refl _) _
 have e0 : W.heap[w.heap.size]? = some ((oLg (.slice A0 b.tides.length c0) (.slice A1 b.sounds.length c1) (.map (some r)) (.slice A2 (Ld.truths b).length c2) b k)) := by rw [hW]; exact heap_at _ _ rfl
 have RL := Lib.hid e0
 have HB := Lib.hid hB
 clear hW hB e0
 go_loopw [8] (fun i wr => ∃ j : Nat, j ≤ 2 ∧ i = I j ∧ Below W.heap.size W wr ∧ (∀ sh, sh < j → Ld.atWorst b sh n load = true)) (fun i _ => 2 - (intOf i).toNat)
 case atStart => exact ⟨0, by omega, rfl, Below.refl _ _, fun sh h => by omega⟩
 case round =>
  obtain ⟨j, hj, rfl, hBr, hall⟩ := hrel
  have hbw : Below w.heap.size w wr := HB.out.trans (hBr.mono HB.out.size)
  have HRL := Lib.hid ((hBr.block _ (heap_lt RL.out)).trans RL.out)
  have HBR := Lib.hid hBr
  have HBW := Lib.hid hbw
  have HALL := Lib.hid hall
  have hzr := hBr.size
  clear hBr hbw hall
  have hcase : j = 0 ∨ j = 1 ∨ j = 2 := by omega
  rcases hcase with rfl | rfl | rfl
  · go_wp2_with (refine wpList_load_row rfl 86 (Operand.tmp 3) rfl w.heap.size rfl 86 (rLg (.slice A0 b.tides.length c0) (.slice A1 b.sounds.length c1) (.map (some r)) (.slice A2 (Ld.truths b).length c2) b k) (0, 0) _ HRL.out Try.underlying86 rfl infoLg ?_)
    refine (surely_any b _ _ _ r k n 0 load wr (HLT.out.up HBW.out) hv hn (by omega) h0 h1 hm).mono ?_
    rintro e w1 ⟨rfl, hB1⟩
    have hb1 : Below w.heap.size w w1 := HBW.out.trans (hB1.mono HBW.out.size)
    have hb2 : Below W.heap.size W w1 := HBR.out.trans (hB1.mono hzr)
    have HB1 := Lib.hid hb1
    have HB2 := Lib.hid hb2
    clear hB1 hb1 hb2
    cases hc : Ld.atWorst b 0 n load
    · have HC := Lib.hid hc
      clear hc
      go_wp2_with fail
      go_ret
      exact ⟨ret_b (by simp [Ld.bothAt, HC.out]), HB1.out⟩
    · have HC := Lib.hid hc
      clear hc
      go_wp2_with fail
      go_roundw
      case rel => exact ⟨0 + 1, by omega, by go_num, HB2.out, fun sh h => by rcases Nat.lt_succ_iff_lt_or_eq.1 h with h' | h'; exact HALL.out sh h'; rw [h']; exact HC.out⟩
      case measure => simp [intOf]
  · go_wp2_with (refine wpList_load_row rfl 86 (Operand.tmp 3) rfl w.heap.size rfl 86 (rLg (.slice A0 b.tides.length c0) (.slice A1 b.sounds.length c1) (.map (some r)) (.slice A2 (Ld.truths b).length c2) b k) (0, 0) _ HRL.out Try.underlying86 rfl infoLg ?_)
    refine (surely_any b _ _ _ r k n 1 load wr (HLT.out.up HBW.out) hv hn (by omega) h0 h1 hm).mono ?_
    rintro e w1 ⟨rfl, hB1⟩
    have hb1 : Below w.heap.size w w1 := HBW.out.trans (hB1.mono HBW.out.size)
    have hb2 : Below W.heap.size W w1 := HBR.out.trans (hB1.mono hzr)
    have HB1 := Lib.hid hb1
    have HB2 := Lib.hid hb2
    clear hB1 hb1 hb2
    cases hc : Ld.atWorst b 1 n load
    · have HC := Lib.hid hc
      clear hc
      go_wp2_with fail
      go_ret
      exact ⟨ret_b (by simp [Ld.bothAt, HC.out]), HB1.out⟩
    · have HC := Lib.hid hc
      clear hc
      go_wp2_with fail
      go_roundw
      case rel => exact ⟨1 + 1, by omega, by go_num, HB2.out, fun sh h => by rcases Nat.lt_succ_iff_lt_or_eq.1 h with h' | h'; exact HALL.out sh h'; rw [h']; exact HC.out⟩
      case measure => simp [intOf]
  · go_wp2_with fail
    go_ret
    exact ⟨ret_b (by simp [Ld.bothAt, HALL.out 0 (by omega), HALL.out 1 (by omega)]), HBW.out⟩
end Go.Proofs.Ytjgpghaofhcfnaa
namespace Go.Proofs.Ytjgpghaofhcfnaa
open Go.RowKit
attribute [local go_sem] Oper.semAt_some
theorem results_cell_tmp_row {P : Program} {fn : Func} {p u : Tmp} {ty : TypeId} (h : fn.results = #[.cell p ty, .tmp u]) (tmps : Array Value) (w : World) (g : Nat) (t : TypeId) (cs : Array Value) (fr : Nat × Nat) (d : TypeDesc)
 (hp : tmps.getD p undef = .pointer (some ⟨g, 0, none⟩)) (hg : w.heap[g]? = some (.cells cs t fr))
 (hu : P.underlying ty = some d) (hd : (match d with | .struct _ | .array _ _ => true | _ => false) = true) (hi : (P.info? ty).map (·.size) = some cs.size) {V : Value} (hV : tmps.getD u undef = V) :
 (results fn tmps).run P w = .ok (.tuple #[.agg cs, V]) w := by
 rw [results_cell_tmp h, hp, hV]
 simp [asAddr, run_loadVar_row w g t ty cs fr d hg hu hd hi, Result.andThen]
abbrev zBk : Ld.Bk := ⟨[], ⟨⟨0, 0⟩, 0, 0⟩, ⟨⟨0, 0⟩, 0, 0⟩, ⟨0, 0⟩, 0, 0, []⟩
abbrev rLg0 : Array Value := rLg (.slice none 0 0) (.slice none 0 0) (.map none) (.slice none 0 0) zBk (⟨0, 0⟩, ⟨0, 0⟩)
abbrev vLg0 : Value := vLg (.slice none 0 0) (.slice none 0 0) (.map none) (.slice none 0 0) zBk (⟨0, 0⟩, ⟨0, 0⟩)
set_option maxRecDepth 100000 in
set_option maxHeartbeats 4000000 in
theorem study_bad (b : Ld.Bk) (T D : Value) (proper : Bool) (w : World) (hb : RB w w.heap.size b T D) (h : Ld.valid b = false ∨ proper = false) :
 Calls Try.prog 54 #[vBk T D b, .bool proper] w fun e w' => e = .returned (.tuple #[vLg0, I (Ld.studyE b proper)]) ∧ Below w.heap.size w w' := by
 obtain ⟨A0, c0, rfl⟩ := hb.tides.form
 obtain ⟨A1, c1, rfl⟩ := hb.sounds.form
 have hB0 : Below w.heap.size w ((w.alloc (.cells (rBk (.slice A0 b.tides.length c0) (.slice A1 b.sounds.length c1) b) 30)).alloc (.cells rLg0 86)) := ((Below.refl _ _).alloc (Nat.le_refl _) _).alloc (by simp) _
 go_enter Try.func54, Try.ntmps54
 go_wp2_with fail
 refine (check_any b _ _ _ (hb.up hB0)).mono ?_
 rintro e w1 ⟨rfl, hB1⟩
 have hb1 : Below w.heap.size w w1 := hB0.trans (hB1.mono hB0.size)
 have e1 : w1.heap[w.heap.size + 1]? = some (.cells rLg0 86 (0, 0)) := (hB1.block _ (by simp)).trans (heap_at _ _ (by simp))
 have E1 := Lib.hid e1
 have HB1 := Lib.hid hb1
 clear hB0 hB1 e1 hb hb1
 by_cases hv : Ld.valid b = true
 · have hp : proper = false := by rcases h with h | h; (rw [hv] at h; cases h); exact h
   subst hp
   have hc : Ld.check b = 0 := by simp [Ld.check, hv]
   have hE : Ld.studyE b false = 21 := by simp [Ld.studyE, hc]
   rw [hc]
   have HE := Lib.hid hE
   clear hc hE h
   go_wp2_with (refine wpList_store_row rfl 86 (Operand.tmp 4) (Operand.tmp 17) rfl (w.heap.size + 1) rLg0 rfl rfl 86 _ E1.out infoLg rfl (by simp [Value.oneCell']) ?_)
   exact bodyPost_ret (v := .tuple #[vLg0, I 21]) (results_cell_tmp_row rfl _ _ (w.heap.size + 1) 86 rLg0 (0, 0) _ rfl (setRow_heap _ _ _ _ _ _ E1.out) Try.underlying86 rfl infoLg rfl) rfl ⟨by rw [HE.out], below_setRow HB1.out (by omega) _⟩
 · have hv : Ld.valid b = false := by simpa using hv
   have hc : Ld.check b = 20 := by simp [Ld.check, hv]
   have hE : Ld.studyE b proper = 20 := by simp [Ld.studyE, hc]
   rw [hc]
   have HE := Lib.hid hE
   clear hc hE h
   go_wp2_with (refine wpList_store_row rfl 86 (Operand.tmp 4) (Operand.tmp 13) rfl (w.heap.size + 1) rLg0 rfl rfl 86 _ E1.out infoLg rfl (by simp [Value.oneCell']) ?_)
   exact bodyPost_ret (v := .tuple #[vLg0, I 20]) (results_cell_tmp_row rfl _ _ (w.heap.size + 1) 86 rLg0 (0, 0) _ rfl (setRow_heap _ _ _ _ _ _ E1.out) Try.underlying86 rfl infoLg rfl) rfl ⟨by rw [HE.out], below_setRow HB1.out (by omega) _⟩
def GathAt (b : Ld.Bk) (T D : Value) (r lx : Nat) (pre : List Ld.Tr) (Ft : Nat → Prop) (W : World) : Prop :=
 ∃ v, W.heap[lx]? = some (oLg T D (.map (some r)) v b (Ld.known pre)) ∧ W.ownsRow (lx + 1) 112 2 v pre.length (pre.flatMap cTr) ∧ (∀ k, Ft k ↔ k = lx ∨ v.ownBlock = some k) ∧ (v = .slice none 0 0 ↔ pre = [])
theorem gathAt_own (b : Ld.Bk) (T D : Value) (r lx : Nat) : Own (GathAt b T D r lx) := by
 refine ⟨?_, ?_⟩
 · rintro pre Ft W W' ⟨v, h1, h2, h3, h4⟩ e1 e2 e3 e4 e5
   refine ⟨v, (e5 _ ((h3 _).2 (.inl rfl))).trans h1, ⟨h2.1, ?_⟩, h3, h4⟩
   rcases h2.2 with h | ⟨g, cap, cur, hv, hb, hg, rest⟩
   · exact .inl h
   · exact .inr ⟨g, cap, cur, hv, hb, (e5 _ ((h3 _).2 (.inr (by rw [hv]; rfl)))).trans hg, rest⟩
 · rintro pre Ft W k ⟨v, h1, h2, h3, h4⟩ hk
   rcases (h3 k).1 hk with rfl | h
   · exact heap_lt h1
   · exact (h2.lt k h).2
def GathAx (b : Ld.Bk) (T D : Value) (r lx : Nat) (t : Ld.Tr) (a' : Act) (W : World) : Prop :=
 ∃ Bx u0 u1 u2 u3 u4 u5 u6 u9 u10 u11 u12 u13 u14 u15 u16 u17 u18 u19 u20 u21 u22 u23 u24 u25 u26 u27 u28 u29 u30 u31 u32 u33 u34 u35 u36 u37 u38 u39, W.heap[Bx]? = some (oTr t) ∧ (∀ v k, W.heap[lx]? = some (oLg T D (.map (some r)) v b k) → v.ownBlock ≠ some Bx) ∧ (∃ v k, W.heap[lx]? = some (oLg T D (.map (some r)) v b k)) ∧ Bx ≠ lx ∧
  a' = { tmps := #[u0, u1, u2, u3, u4, u5, u6, vPtr lx, vPtr Bx, u9, u10, u11, u12, u13, u14, u15, u16, u17, u18, u19, u20, u21, u22, u23, u24, u25, u26, u27, u28, u29, u30, u31, u32, u33, u34, u35, u36, u37, u38, u39], defers := [] }
theorem gathAx_put (b : Ld.Bk) (T D : Value) (r lx : Nat) (t : Ld.Tr) (a' : Act) (W : World) (l : Nat) (rr : Loop) (o : Obj) (h : GathAx b T D r lx t a' W) (hl : W.heap[l]? = some (.loop rr)) : GathAx b T D r lx t a' (W.putObj l o) := by
 obtain ⟨Bx, u0, u1, u2, u3, u4, u5, u6, u9, u10, u11, u12, u13, u14, u15, u16, u17, u18, u19, u20, u21, u22, u23, u24, u25, u26, u27, u28, u29, u30, u31, u32, u33, u34, u35, u36, u37, u38, u39, hb, hv, ⟨v0, k0, h0⟩, hn, e⟩ := h
 have hlx : l ≠ lx := fun e => by rw [e, h0] at hl; cases hl
 refine ⟨Bx, u0, u1, u2, u3, u4, u5, u6, u9, u10, u11, u12, u13, u14, u15, u16, u17, u18, u19, u20, u21, u22, u23, u24, u25, u26, u27, u28, u29, u30, u31, u32, u33, u34, u35, u36, u37, u38, u39, ?_, fun v k hvk => hv v k ?_, ⟨v0, k0, (putObj_other o (fun e => hlx e.symm)).trans h0⟩, hn, e⟩
 · rw [putObj_other o (fun e => by rw [e, hl] at hb; cases hb)]
   exact hb
 · rw [putObj_other o (fun e => hlx e.symm)] at hvk
   exact hvk
theorem infoTr : (Try.prog.info? 112).map (fun i => (i.zero, i.size, i.bytes)) = some (some (vTr ⟨0, 0⟩), 2, 16) := by kernel_rfl
theorem underTrs : Try.prog.underlying 82 = some (.slice 112) := by kernel_rfl
theorem cTr_cells (W : World) (t : Ld.Tr) : ∀ j u, (cTr t)[j]? = some u → (W.alloc (.cells #[I t.f0, I t.f1] 112)).cell? ((⟨W.heap.size, 0, none⟩ : Addr).add j) = some u := by
 intro j u hu
 have hadd : (⟨W.heap.size, 0, none⟩ : Addr).add j = ⟨W.heap.size, j, none⟩ := by unfold Addr.add; split <;> simp_all
 rw [hadd, cell_of_row _ W.heap.size j _ _ _ (heap_at W _ rfl)]
 simpa [cTr] using hu
set_option maxRecDepth 100000 in
theorem eq_floors (a b c d e f g h : Int) (w : World) : (Op.equalIn 10000 84 (.agg #[.int .i64 a, .int .i64 b, .int .i64 c, .int .i64 d]) (.agg #[.int .i64 e, .int .i64 f, .int .i64 g, .int .i64 h])).run Try.prog w = .ok ((a == e && b == f) && (c == g && d == h)) w := by
 have u3 := Try.underlying3
 have a3 := Try.isAgg3
 have z3 := Try.sizeOf3
 have hS : Try.prog.underlying 24 = some (.struct (Try.prog.fieldsOf 24)) := by kernel_rfl
 have hp : Try.prog.stoodInHeld 24 = false := by kernel_rfl
 have hsp : ∀ (x y z u : Int) (w : World), (Op.equalIn 9999 24 (.agg #[.int .i64 x, .int .i64 y]) (.agg #[.int .i64 z, .int .i64 u])).run Try.prog w = .ok (x == z && y == u) w := by
  intro x y z u w
  rw [show (9999 : Nat) = 9998 + 1 from rfl, run_equalIn_agg w 9998 24 _ _ hS hp]
  simp only [Program.fieldsOf, Try.underlying24]
  go_simp
  by_cases h1 : x = z <;> by_cases h2 : y = u <;> simp [h1, h2]
 clear hS hp u3 a3 z3
 have zz := Try.sizeOf24
 have aa := Try.isAgg24
 rw [show (10000 : Nat) = 9999 + 1 from rfl, Op.equalIn]
 simp only [Sem.run_bind, run_underlying Try.underlying84, Result.andThen_ok]
 simp only [Std.Legacy.Range.forIn_eq_forIn_range', Std.Legacy.Range.size, Nat.sub_zero, Nat.add_sub_cancel, Nat.div_one, List.range'_succ, List.range'_zero, List.forIn_cons, List.forIn_nil]
 go_simp
 by_cases h1 : a = e <;> by_cases h2 : b = f <;> by_cases h3 : c = g <;> by_cases h4 : d = h <;> simp [h1, h2, h3, h4]
namespace Ld
theorem known_snoc (l : List Tr) (t : Tr) : known (l ++ [t]) = knownStep (known l) t := by simp [known]
theorem join_ne {s : Sp} {n : Int} (h : s = none ∨ s.lo ≤ s.hi) : (join s (just n)).lo ≤ (join s (just n)).hi := by
 rcases h with rfl | h
 · simp [join, isEmpty, none, just]
 · have e1 : isEmpty s = false := by simp [isEmpty]; omega
   have e2 : isEmpty (just n) = false := by simp [isEmpty, just]
   have e : join s (just n) = ⟨min s.lo n, max s.hi n⟩ := by unfold join; rw [e1, e2]; rfl
   rw [e]; simp only; omega
theorem known_fold (l : List Tr) : ∀ k : Sp × Sp, (k.1 = none ∨ k.1.lo ≤ k.1.hi) → ((l.foldl knownStep k).1 = none ∨ (l.foldl knownStep k).1.lo ≤ (l.foldl knownStep k).1.hi) ∧ (l ≠ [] → (l.foldl knownStep k).1.lo ≤ (l.foldl knownStep k).1.hi) := by
 induction l with
 | nil => intro k h; exact ⟨h, fun h => absurd rfl h⟩
 | cons t l ih =>
  intro k h
  have h1 := join_ne (n := t.f0) h
  obtain ⟨h2, h3⟩ := ih (knownStep k t) (.inr h1)
  refine ⟨h2, fun _ => ?_⟩
  cases l with
  | nil => exact h1
  | cons u l => exact h3 (by simp)
theorem known_none (l : List Tr) : (((known l).1.lo == 1 && (known l).1.hi == 0) && ((known l).2.lo == 1 && (known l).2.hi == 0)) = decide (l = []) := by
 by_cases h : l = []
 · subst h; rfl
 · have h1 := (known_fold l (none, none) (.inl rfl)).2 h
   have h2 : ((known l).1.lo == 1 && (known l).1.hi == 0) = false := by
    rw [Bool.eq_false_iff]
    intro h3
    simp at h3
    unfold known at h3
    omega
   rw [h2]
   simp [h]
end Ld
end Go.Proofs.Ytjgpghaofhcfnaa
