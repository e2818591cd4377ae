/- Texts on the program that the proof leans on, part 10. -/
import Derived.Test.YtjgpghaofhcfnaaYai
import Derived.Test.YtjgpghaofhcfnaaYad
import Derived.Maps.OwnIn
set_option linter.unusedVariables false
set_option linter.unusedSimpArgs false

namespace Go.Proofs.Ytjgpghaofhcfnaa
open Go.RowKit
attribute [local go_sem] Oper.semAt_some
theorem wpListIn_lookup_run {F : Fence} {n : Nat} {P : Program} {w : World} {ops : Array Oper} {rest : List Oper} {o : Oper} {a : Act} {Q : Exit → Act → World → Prop} (hg : o.guard = none) (m x : Operand) (t : TypeId) (hop : o.op = Op.lookup t m x false)
 {M X V : Value} (hrun : (Instr.lookup t M X false).run P w = .ok V w) (hm : a.eval m = M) (hx : a.eval x = X) (hK : wpListIn F n P ops Q rest (a.put o.dst V) w) : wpListIn F n P ops Q (o :: rest) a w := by
 refine wpListIn_plain hg fun K' hK' => ?_
 unfold Oper.wpIn
 refine ⟨fun f hf => by simp [Oper.about, hop] at hf, ?_⟩
 simp [Oper.semAt, execOp, hop, hm, hx, hrun]
 exact hK' _ _ hK
structure WatI (b : Ld.Bk) (t : Ld.Tr) (hour : Nat) (T D R : Value) (r : Nat) (k : Ld.Sp × Ld.Sp) (w : World) (n : Nat) (pre : List Int) (Ft : Nat → Prop) (W : World) : Prop where
 big : w.heap.size + 4 ≤ n
 ft : ∀ j, Ft j ↔ j < n + 1
 old : Below w.heap.size w W
 lg : W.heap[w.heap.size]? = some (oLg T D (.map (some r)) R b k)
 hr : W.heap[w.heap.size + 1 + 1]? = some (.cells #[I hour] 3 (0, 0))
 res : W.heap[w.heap.size + 1 + 1 + 1]? = some (.cells #[I 0, I 0] 24 (0, 0))
 wat : W.heap[n]? = some (.cells #[I (pre.foldl (Ld.waterStep b t hour) Ld.none).lo, I (pre.foldl (Ld.waterStep b t hour) Ld.none).hi] 24 (0, 0))
 tr : W.heap[w.heap.size + 1]? = some (.cells #[I t.f0, I t.f1] 112 (0, 0))
theorem watI_own (b : Ld.Bk) (t : Ld.Tr) (hour : Nat) (T D R : Value) (r : Nat) (k : Ld.Sp × Ld.Sp) (w : World) (n : Nat) : Own (WatI b t hour T D R r k w n) := by
 refine ⟨fun pre Ft W W' h h1 h2 h3 h4 h5 => ?_, fun pre Ft W j h hj => ?_⟩
 · have hk : ∀ j, j < n + 1 → W'.heap[j]? = W.heap[j]? := fun j hj => h5 j ((h.ft j).2 hj)
   have hbg := h.big
   exact ⟨hbg, h.ft, ⟨h1.trans h.old.os, h2.trans h.old.tape, h3.trans h.old.output, Nat.le_trans h.old.size h4, fun j hj => (hk j (by omega)).trans (h.old.block j hj)⟩,
    (hk _ (by omega)).trans h.lg, (hk _ (by omega)).trans h.hr, (hk _ (by omega)).trans h.res, (hk _ (by omega)).trans h.wat, (hk _ (by omega)).trans h.tr⟩
 · have h1 := (h.ft j).1 hj
   have h2 := heap_lt h.wat
   omega
theorem moves_of (x : Nat) {W W' : World} {Ft : Nat → Prop} (hx : Ft x) (h1 : W'.os = W.os) (h2 : W'.tape = W.tape) (h3 : W'.output = W.output) (h4 : W.heap.size ≤ W'.heap.size) (h5 : ∀ k, k < W.heap.size → k ≠ x → W'.heap[k]? = W.heap[k]?) : Moves W W' Ft Ft none :=
 ⟨h1, h2, h3, h4, fun k hk hf _ => h5 k hk (fun e => hf (e ▸ hx)), fun _ h => .inl h⟩
def WatAt (B0 B1 : Bool) (W : World) (i : Value) (wr : World) : Prop := ∃ k' : Nat, k' ≤ 2 ∧ i = I k' ∧ (1 ≤ k' → B0 = false) ∧ (2 ≤ k' → B1 = false) ∧ W = wr
def WatAx (b : Ld.Bk) (t : Ld.Tr) (hour : Nat) (T D R : Value) (r : Nat) (k : Ld.Sp × Ld.Sp) (z n : Nat) (x : Int) (a' : Act) (_W : World) : Prop :=
 ∃ v9 v10 v11 v12 v13 v14 v15 v16 v17 v18 v19 v20 v21 v22 v23 v24 v25 v26 v27 v28 v29 v30 v31 v32 v33 v34 v35 v36 v37 v38 v39 v40 v41, a' = { tmps := #[vLg T D (.map (some r)) R b k, vTr t, I hour, vPtr z, vPtr (z + 1), vPtr (z + 1 + 1), vPtr (z + 1 + 1 + 1), vPtr n, I x, v9, v10, v11, v12, v13, v14, v15, v16, v17, v18, v19, v20, v21, v22, v23, v24, v25, v26, v27, v28, v29, v30, v31, v32, v33, v34, v35, v36, v37, v38, v39, v40, v41], defers := [] }
set_option maxRecDepth 100000 in
set_option maxHeartbeats 8000000 in
theorem water_any (b : Ld.Bk) (t : Ld.Tr) (hour : Nat) (T D R : Value) (nr B r : Nat) (k : Ld.Sp × Ld.Sp) (w : World) (hb : RB w w.heap.size b T D) (hsm : SM w B b.sounds b.sounds r) (hR : ∃ Ar cr, R = .slice Ar nr cr) (hv : Ld.allTides b = true) (hh : hour < b.tides.length) (hh2 : hour ≤ 1000)
 (h0 : -1000 ≤ t.f0) (h1 : t.f0 ≤ 1000) (h2 : -1000 ≤ t.f1) (h3 : t.f1 ≤ 1000) :
 Calls Try.prog 76 #[vLg T D (.map (some r)) R b k, vTr t, I hour] w fun e w' => e = .returned (vSp (Ld.water b t hour)) ∧ Below w.heap.size w w' := by
 obtain ⟨A0, c0, rfl⟩ := hb.tides.form
 obtain ⟨A1, c1, rfl⟩ := hb.sounds.form
 obtain ⟨Ar, cr, rfl⟩ := hR
 obtain ⟨f0, f1⟩ := t
 simp only at h0 h1 h2 h3
 have hm := hb.tides.le
 unfold maxLen at hm
 have ix0 := index_tr0 f0 f1
 have ix1 := index_tr1 f0 f1
 have htd := Ld.tide_bd hv hh
 have hte : Ld.tide b hour = b.tides[hour] := by simp [Ld.tide, hh]
 rw [hte] at htd
 obtain ⟨bl, off, c', hvv, hbl, q0, q1⟩ := hb.tide hh
 injection hvv with hA _ hc
 subst hA hc
 obtain ⟨S, hS⟩ : ∃ S, b.tides[hour] = S := ⟨_, rfl⟩
 rw [hS] at htd q0 q1 hte
 have HTE := Lib.hid hte
 have HRB := Lib.hid hb
 have HSM := Lib.hid hsm
 have hki : (hour : Int) < b.tides.length := by omega
 clear hS hb hsm hte
 refine (callsIn_wide (n := 1)).1 ?_
 refine callsIn_of_wp_marks Try.func76 rfl trivial ?_ rfl
 simp only [Try.ntmps76, List.size_toArray, List.length_cons, List.length_nil, Nat.reduceAdd, Nat.reduceSub, Array.replicate_succ, Array.replicate_zero, List.push_toArray, List.append_toArray, List.nil_append, List.cons_append]
 refine wpIn_wide.2 ?_
 go_wp2_with fail
 go_step3
 go_wp2_with fail
 refine (nothing_any _).mono ?_
 rintro e w1 ⟨rfl, hB1⟩
 have hb1 : Below w.heap.size w w1 := ((((Below.refl _ _).alloc (Nat.le_refl _) _).alloc (by simp) _).alloc (by simp; omega) _).alloc (by simp; omega) _ |>.trans (hB1.mono (by simp; omega))
 have e0 : w1.heap[w.heap.size]? = some (oLg (.slice (some ⟨bl, off, none⟩) b.tides.length c0) (.slice A1 b.sounds.length c1) (.map (some r)) (.slice Ar nr cr) b k) :=
  (hB1.block _ (by simp <;> omega)).trans ((Below.heap_alloc _ _ _ (by simp <;> omega)).trans ((Below.heap_alloc _ _ _ (by simp <;> omega)).trans ((Below.heap_alloc _ _ _ (by simp)).trans (heap_at _ _ rfl))))
 have e1 : w1.heap[w.heap.size + 1]? = some (.cells #[I f0, I f1] 112 (0, 0)) :=
  (hB1.block _ (by simp <;> omega)).trans ((Below.heap_alloc _ _ _ (by simp <;> omega)).trans ((Below.heap_alloc _ _ _ (by simp)).trans (heap_at _ _ (by simp))))
 have e2 : w1.heap[w.heap.size + 1 + 1]? = some (.cells #[I hour] 3 (0, 0)) :=
  (hB1.block _ (by simp <;> omega)).trans ((Below.heap_alloc _ _ _ (by simp)).trans (heap_at _ _ (by simp)))
 have e3 : w1.heap[w.heap.size + 1 + 1 + 1]? = some (.cells #[I 0, I 0] 24 (0, 0)) :=
  (hB1.block _ (by simp)).trans (heap_at _ _ (by simp))
 have hz1 : w.heap.size + 4 ≤ w1.heap.size := by have := heap_lt e3; omega
 have a0 := cell_of_row w1 _ 0 _ _ _ e0
 have a2 := cell_of_row w1 _ 0 _ _ _ e2
 simp only [List.getElem?_toArray, List.getElem?_cons_zero, List.getElem?_cons_succ] at a0 a2
 have y0 := (hb1.cell (p := ⟨bl, off + hour * 2, none⟩) hbl).trans q0
 have y1 := (hb1.cell (p := ⟨bl, off + hour * 2 + 1, none⟩) hbl).trans q1
 have hl0 := heap_lt e0
 have hl2 := heap_lt e2
 have hlb : bl < w1.heap.size := Nat.lt_of_lt_of_le hbl hb1.size
 have HB1 := Lib.hid hb1
 have E0 := Lib.hid e0
 have E1 := Lib.hid e1
 have E2 := Lib.hid e2
 have E3 := Lib.hid e3
 clear hB1 hb1 e0 e1 e2 e3 q0 q1
 go_wp2_with fail
 go_step3
 go_wp2_with fail
 refine (numbers_any S _).mono ?_
 rintro e w2 ⟨rfl, rfl⟩
 go_wp2_with fail
 refine (wpIn_wide (n := 1)).1 (range_iter 102 #[vPtr (w1.heap.size + 1)] I (Ld.nums S) (fun j => j < w1.heap.size + 1) rfl rfl (enters_of Try.func102 (by kernel_rfl) rfl)
  (WatI b ⟨f0, f1⟩ hour (.slice (some ⟨bl, off, none⟩) b.tides.length c0) (.slice A1 b.sounds.length c1) (.slice Ar nr cr) r k w w1.heap.size) (fun _ _ _ _ => False) (watI_own _ _ _ _ _ _ _ _ _ _) (fun c => ⟨fun _ _ _ _ h _ _ _ _ _ => h, fun _ _ _ _ h _ => h.elim⟩)
  ?start (WatAx b ⟨f0, f1⟩ hour (.slice (some ⟨bl, off, none⟩) b.tides.length c0) (.slice A1 b.sounds.length c1) (.slice Ar nr cr) r k w.heap.size w1.heap.size) (fun _ _ _ _ _ _ h _ => h) ?assign ?body ?iter ?done ?stop)
 case start =>
  refine ⟨hz1, fun _ => Iff.rfl, (HB1.out.alloc HB1.out.size _).alloc (by simp; have := HB1.out.size; omega) _, ?_, ?_, ?_, ?_, ?_⟩
  · exact (Below.heap_alloc _ _ _ (by simp <;> omega)).trans ((Below.heap_alloc _ _ _ (by omega)).trans E0.out)
  · exact (Below.heap_alloc _ _ _ (by simp <;> omega)).trans ((Below.heap_alloc _ _ _ (by omega)).trans E2.out)
  · exact (Below.heap_alloc _ _ _ (by simp <;> omega)).trans ((Below.heap_alloc _ _ _ (by omega)).trans E3.out)
  · exact (Below.heap_alloc _ _ _ (by simp <;> omega)).trans (heap_at _ _ rfl)
  · exact (Below.heap_alloc _ _ _ (by simp <;> omega)).trans ((Below.heap_alloc _ _ _ (by omega)).trans E1.out)
 case assign =>
  intro l d pre x F W K hi hK
  gi_wp2_with fail
  exact hK _ _ hi (Below.refl _ _) ⟨_, _, _, _, _, _, _, _, _, _, _, _, _, _, _, _, _, _, _, _, _, _, _, _, _, _, _, _, _, _, _, _, _, rfl⟩
 case iter =>
  intro J Jx l Fx W1 hJ hY hj hB hFx hFt
  refine numbers1_any S J Jx l (w1.heap.size + 1) hJ hY (by omega) (by omega) (by omega) (by omega) Fx W1 hj ((hB.block _ (by simp)).trans (heap_at _ _ (by simp))) (fun h => ?_)
  rcases hFx _ h with h' | h'
  · omega
  · simp at h'; omega
 case body =>
  rintro l d pre x F a' W hi ⟨u9, u10, u11, u12, u13, u14, u15, u16, u17, u18, u19, u20, u21, u22, u23, u24, u25, u26, u27, u28, u29, u30, u31, u32, u33, u34, u35, u36, u37, u38, u39, u40, u41, rfl⟩ hpre
  have hxm : x ∈ Ld.nums S := hpre.subset (by simp)
  have hxb := Ld.mem_nums.1 hxm
  have hbg := hi.big
  have hWz := heap_lt hi.wat
  have l14 := cell_of_row W _ 14 _ _ _ hi.lg
  have c0' := cell_of_row W _ 0 _ _ _ hi.hr
  have t0 := cell_of_row W _ 0 _ _ _ hi.tr
  have t1 := cell_of_row W _ 1 _ _ _ hi.tr
  simp only [List.getElem?_toArray, List.getElem?_cons_zero, List.getElem?_cons_succ] at l14 c0' t0 t1
  have g1 : IntKind.i64.wrap (x - f0) = x - f0 := IntWalk.i64_in _ (by omega)
  have g2 : IntKind.i64.wrap (x - f1) = x - f1 := IntWalk.i64_in _ (by omega)
  have hsm := HSM.out.below hi.old
  obtain ⟨V0, hrun0, hV0⟩ := hsm.look (hr := hour) (sh := 0) (by omega) (by omega) (.inl rfl)
  obtain ⟨V1, hrun1, hV1⟩ := hsm.look (hr := hour) (sh := 1) (by omega) (by omega) (.inr rfl)
  have hfold : (pre ++ [x]).foldl (Ld.waterStep b ⟨f0, f1⟩ hour) Ld.none = Ld.waterStep b ⟨f0, f1⟩ hour (pre.foldl (Ld.waterStep b ⟨f0, f1⟩ hour) Ld.none) x := by rw [List.foldl_append]; rfl
  obtain ⟨Z, hZ⟩ : ∃ Z, pre.foldl (Ld.waterStep b ⟨f0, f1⟩ hour) Ld.none = Z := ⟨_, rfl⟩
  have hwat := hi.wat
  rw [hZ] at hwat hfold
  have n0 : (Ld.depths b.sounds hour 0).all (fun d => decide (d = x - f0)) = !(Ld.depths b.sounds hour 0).any (Ld.isNot (x - f0)) := by
   rw [List.all_eq_not_any_not]; rfl
  have n1 : (Ld.depths b.sounds hour 1).all (fun d => decide (d = x - f1)) = !(Ld.depths b.sounds hour 1).any (Ld.isNot (x - f1)) := by
   rw [List.all_eq_not_any_not]; rfl
  have hok : Ld.okAt b ⟨f0, f1⟩ hour x = (!(Ld.depths b.sounds hour 0).any (Ld.isNot (x - f0)) && !(Ld.depths b.sounds hour 1).any (Ld.isNot (x - f1))) := by unfold Ld.okAt; rw [n0, n1]
  have HC0 : Hid (Calls Try.prog 92 #[V0, .func (.func 93) #[I (x - f0)] #[]] W fun e w' => e = .returned (.bool ((Ld.depths b.sounds hour 0).any (Ld.isNot (x - f0)))) ∧ w' = W) := Lib.hid (someNot_any _ _ _ _ hV0)
  have HC1 : Hid (Calls Try.prog 92 #[V1, .func (.func 93) #[I (x - f1)] #[]] W fun e w' => e = .returned (.bool ((Ld.depths b.sounds hour 1).any (Ld.isNot (x - f1)))) ∧ w' = W) := Lib.hid (someNot_any _ _ _ _ hV1)
  generalize (Ld.depths b.sounds hour 0).any (Ld.isNot (x - f0)) = B0 at hok HC0
  generalize (Ld.depths b.sounds hour 1).any (Ld.isNot (x - f1)) = B1 at hok HC1
  have HI := Lib.hid hi
  have HWAT := Lib.hid hwat
  have HFO := Lib.hid hfold
  have HOK := Lib.hid hok
  have HR0 := Lib.hid hrun0
  have HR1 := Lib.hid hrun1
  clear hi hwat hfold hok hrun0 hrun1 hsm hV0 hV1 n0 n1 hZ hpre hxm
  gi_wp2_with fail
  gi_loopw [21] (fun i wr => WatAt B0 B1 W i wr) (fun i _ => 2 - (intOf i).toNat)
  case atStart => exact ⟨0, by omega, rfl, fun h => by omega, fun h => by omega, rfl⟩
  case round =>
   obtain ⟨k', hk', rfl, h0', h1', rfl⟩ := hrel
   have hcase : k' = 0 ∨ k' = 1 ∨ k' = 2 := by omega
   rcases hcase with rfl | rfl | rfl
   · cases B0
     · gi_wp2_with (gi_at_lookup; refine wpListIn_lookup_run rfl _ _ _ rfl HR0.out rfl rfl ?_)
       refine ⟨trivial, fun h => by simp [Fence.wide] at h, ?_⟩
       refine (CallsIn.inRound l (callsIn_wide.2 HC0.out)).mono ?_
       rintro e w' ⟨rfl, rfl⟩
       gi_wp2_with fail
       go_roundw
       case rel => exact ⟨1, by omega, by go_num, fun _ => rfl, fun h => by omega, rfl⟩
       case measure => simp [intOf]
     · gi_wp2_with (gi_at_lookup; refine wpListIn_lookup_run rfl _ _ _ rfl HR0.out rfl rfl ?_)
       refine ⟨trivial, fun h => by simp [Fence.wide] at h, ?_⟩
       refine (CallsIn.inRound l (callsIn_wide.2 HC0.out)).mono ?_
       rintro e w' ⟨rfl, rfl⟩
       gi_wp2_with fail
       exact ⟨F, ⟨HI.out.big, HI.out.ft, HI.out.old, HI.out.lg, HI.out.hr, HI.out.res, by rw [HFO.out]; unfold Ld.waterStep; rw [HOK.out]; exact HWAT.out, HI.out.tr⟩, Moves.refl _ _ _⟩
   · obtain rfl : B0 = false := h0' (by omega)
     cases B1
     · gi_wp2_with (gi_at_lookup; refine wpListIn_lookup_run rfl _ _ _ rfl HR1.out rfl rfl ?_)
       refine ⟨trivial, fun h => by simp [Fence.wide] at h, ?_⟩
       refine (CallsIn.inRound l (callsIn_wide.2 HC1.out)).mono ?_
       rintro e w' ⟨rfl, rfl⟩
       gi_wp2_with fail
       go_roundw
       case rel => exact ⟨2, by omega, by go_num, fun _ => rfl, fun h => by rfl, rfl⟩
       case measure => simp [intOf]
     · gi_wp2_with (gi_at_lookup; refine wpListIn_lookup_run rfl _ _ _ rfl HR1.out rfl rfl ?_)
       refine ⟨trivial, fun h => by simp [Fence.wide] at h, ?_⟩
       refine (CallsIn.inRound l (callsIn_wide.2 HC1.out)).mono ?_
       rintro e w' ⟨rfl, rfl⟩
       gi_wp2_with fail
       exact ⟨F, ⟨HI.out.big, HI.out.ft, HI.out.old, HI.out.lg, HI.out.hr, HI.out.res, by rw [HFO.out]; unfold Ld.waterStep; rw [HOK.out]; exact HWAT.out, HI.out.tr⟩, Moves.refl _ _ _⟩
   · obtain rfl : B0 = false := h0' (by omega)
     obtain rfl : B1 = false := h1' (by omega)
     have hrow : W.drew.heap[w1.heap.size]? = some (.cells #[I Z.lo, I Z.hi] 24 (0, 0)) := HWAT.out
     have hbw : Below W.heap.size W W.drew := (Below.refl _ _).drew
     have HWZ := Lib.hid hWz
     clear l14 c0' t0 t1 h0' h1'
     gi_wp2_with fail
     refine wpIn_region_any (by kernel_rfl) ?_
     change wpAnyIn _ _ _ _ _ _ _ _ _ (World.drew _)
     refine wpAnyIn_ready (rs := [0, 1]) (by kernel_rfl) (by simp) ?_
     refine AllReadyIn.cons rfl (fun K hK => ?_) (AllReadyIn.cons rfl (fun K hK => ?_) AllReadyIn.nil)
     · have y0 := cell_of_row W.drew _ 0 _ _ _ hrow
       have y1 := cell_of_row W.drew _ 1 _ _ _ hrow
       simp only [List.getElem?_toArray, List.getElem?_cons_zero, List.getElem?_cons_succ] at y0 y1
       go_simp
       refine hK _ _ ?_
       clear hK K y0 y1
       try simp only [putL]
       refine wpAnyIn_ready (rs := [1]) (by kernel_rfl) (by simp) ?_
       refine AllReadyIn.cons rfl (fun K hK => ?_) AllReadyIn.nil
       go_simp
       refine hK _ _ ?_
       clear hK K
       try simp only [putL]
       refine wpAnyIn_ready (rs := [2]) (by kernel_rfl) (by simp) ?_
       refine AllReadyIn.cons rfl (fun K hK => ?_) AllReadyIn.nil
       go_simp
       refine ⟨trivial, fun h => by simp [Fence.wide] at h, ?_⟩
       refine (CallsIn.inRound l (callsIn_wide.2 (just_any x _))).mono ?_
       rintro e x3 ⟨rfl, hBx3⟩
       have hrx3 := (hBx3.block _ (heap_lt hrow)).trans hrow
       have hbx3 : Below W.heap.size W x3 := hbw.trans (hBx3.mono hbw.size)
       refine hK _ _ ?_
       clear hK K
       try simp only [putL]
       refine wpAnyIn_ready (rs := [3]) (by kernel_rfl) (by simp) ?_
       refine AllReadyIn.cons rfl (fun K hK => ?_) AllReadyIn.nil
       go_simp
       refine ⟨trivial, fun h => by simp [Fence.wide] at h, ?_⟩
       refine (CallsIn.inRound l (callsIn_wide.2 (join_any Z (Ld.just x) _))).mono ?_
       rintro e x4 ⟨rfl, hBx4⟩
       have hrx4 := (hBx4.block _ (heap_lt hrx3)).trans hrx3
       have hbx4 : Below W.heap.size W x4 := hbx3.trans (hBx4.mono hbx3.size)
       refine hK _ _ ?_
       clear hK K
       try simp only [putL]
       refine wpAnyIn_ready (rs := [4]) (by kernel_rfl) (by simp) ?_
       refine AllReadyIn.cons rfl (fun K hK => ?_) AllReadyIn.nil
       have y0 := cell_of_row x4 _ 0 _ _ _ hrx4
       have y1 := cell_of_row x4 _ 1 _ _ _ hrx4
       simp only [List.getElem?_toArray, List.getElem?_cons_zero, List.getElem?_cons_succ] at y0 y1
       have z0 : x4.frozen? ⟨w1.heap.size, 0, none⟩ = false := by simp [World.frozen?, hrx4]
       have z1 : x4.frozen? ⟨w1.heap.size, 1, none⟩ = false := by simp [World.frozen?, hrx4]
       go_simp
       refine hK _ _ ?_
       clear hK K
       try simp only [putL]
       refine wpAnyIn_done (by kernel_rfl) ?_ _
       have hsz := hbx4.size
       have hWz := HWZ.out
       refine ⟨F, ⟨HI.out.big, HI.out.ft, ((HI.out.old.trans (hbx4.mono HI.out.old.size)).setCell (show w.heap.size ≤ w1.heap.size by omega) _).setCell (show w.heap.size ≤ w1.heap.size by omega) _, (Below.heap_setCell _ _ _ _ (by show _ ≠ w1.heap.size; omega)).trans ((Below.heap_setCell _ _ _ _ (by show _ ≠ w1.heap.size; omega)).trans ((hbx4.block _ (by omega)).trans HI.out.lg)), (Below.heap_setCell _ _ _ _ (by show _ ≠ w1.heap.size; omega)).trans ((Below.heap_setCell _ _ _ _ (by show _ ≠ w1.heap.size; omega)).trans ((hbx4.block _ (by omega)).trans HI.out.hr)), (Below.heap_setCell _ _ _ _ (by show _ ≠ w1.heap.size; omega)).trans ((Below.heap_setCell _ _ _ _ (by show _ ≠ w1.heap.size; omega)).trans ((hbx4.block _ (by omega)).trans HI.out.res)), ?_, (Below.heap_setCell _ _ _ _ (by show _ ≠ w1.heap.size; omega)).trans ((Below.heap_setCell _ _ _ _ (by show _ ≠ w1.heap.size; omega)).trans ((hbx4.block _ (by omega)).trans HI.out.tr))⟩, ?_⟩
       · rw [HFO.out]
         unfold Ld.waterStep
         rw [HOK.out]
         simp [World.setCell, Array.getElem?_modify, hrx4]
       · refine moves_of w1.heap.size ((HI.out.ft _).2 (by omega)) hbx4.os hbx4.tape hbx4.output (by simp [World.setCell]; omega) (fun j hj hne => ?_)
         exact (Below.heap_setCell _ _ _ _ hne).trans ((Below.heap_setCell _ _ _ _ hne).trans (hbx4.block j hj))
     · go_simp
       refine hK _ _ ?_
       clear hK K
       try simp only [putL]
       refine wpAnyIn_ready (rs := [0, 2]) (by kernel_rfl) (by simp) ?_
       refine AllReadyIn.cons rfl (fun K hK => ?_) (AllReadyIn.cons rfl (fun K hK => ?_) AllReadyIn.nil)
       · have y0 := cell_of_row W.drew _ 0 _ _ _ hrow
         have y1 := cell_of_row W.drew _ 1 _ _ _ hrow
         simp only [List.getElem?_toArray, List.getElem?_cons_zero, List.getElem?_cons_succ] at y0 y1
         go_simp
         refine hK _ _ ?_
         clear hK K y0 y1
         try simp only [putL]
         refine wpAnyIn_ready (rs := [2]) (by kernel_rfl) (by simp) ?_
         refine AllReadyIn.cons rfl (fun K hK => ?_) AllReadyIn.nil
         go_simp
         refine ⟨trivial, fun h => by simp [Fence.wide] at h, ?_⟩
         refine (CallsIn.inRound l (callsIn_wide.2 (just_any x _))).mono ?_
         rintro e x8 ⟨rfl, hBx8⟩
         have hrx8 := (hBx8.block _ (heap_lt hrow)).trans hrow
         have hbx8 : Below W.heap.size W x8 := hbw.trans (hBx8.mono hbw.size)
         refine hK _ _ ?_
         clear hK K
         try simp only [putL]
         refine wpAnyIn_ready (rs := [3]) (by kernel_rfl) (by simp) ?_
         refine AllReadyIn.cons rfl (fun K hK => ?_) AllReadyIn.nil
         go_simp
         refine ⟨trivial, fun h => by simp [Fence.wide] at h, ?_⟩
         refine (CallsIn.inRound l (callsIn_wide.2 (join_any Z (Ld.just x) _))).mono ?_
         rintro e x9 ⟨rfl, hBx9⟩
         have hrx9 := (hBx9.block _ (heap_lt hrx8)).trans hrx8
         have hbx9 : Below W.heap.size W x9 := hbx8.trans (hBx9.mono hbx8.size)
         refine hK _ _ ?_
         clear hK K
         try simp only [putL]
         refine wpAnyIn_ready (rs := [4]) (by kernel_rfl) (by simp) ?_
         refine AllReadyIn.cons rfl (fun K hK => ?_) AllReadyIn.nil
         have y0 := cell_of_row x9 _ 0 _ _ _ hrx9
         have y1 := cell_of_row x9 _ 1 _ _ _ hrx9
         simp only [List.getElem?_toArray, List.getElem?_cons_zero, List.getElem?_cons_succ] at y0 y1
         have z0 : x9.frozen? ⟨w1.heap.size, 0, none⟩ = false := by simp [World.frozen?, hrx9]
         have z1 : x9.frozen? ⟨w1.heap.size, 1, none⟩ = false := by simp [World.frozen?, hrx9]
         go_simp
         refine hK _ _ ?_
         clear hK K
         try simp only [putL]
         refine wpAnyIn_done (by kernel_rfl) ?_ _
         have hsz := hbx9.size
         have hWz := HWZ.out
         refine ⟨F, ⟨HI.out.big, HI.out.ft, ((HI.out.old.trans (hbx9.mono HI.out.old.size)).setCell (show w.heap.size ≤ w1.heap.size by omega) _).setCell (show w.heap.size ≤ w1.heap.size by omega) _, (Below.heap_setCell _ _ _ _ (by show _ ≠ w1.heap.size; omega)).trans ((Below.heap_setCell _ _ _ _ (by show _ ≠ w1.heap.size; omega)).trans ((hbx9.block _ (by omega)).trans HI.out.lg)), (Below.heap_setCell _ _ _ _ (by show _ ≠ w1.heap.size; omega)).trans ((Below.heap_setCell _ _ _ _ (by show _ ≠ w1.heap.size; omega)).trans ((hbx9.block _ (by omega)).trans HI.out.hr)), (Below.heap_setCell _ _ _ _ (by show _ ≠ w1.heap.size; omega)).trans ((Below.heap_setCell _ _ _ _ (by show _ ≠ w1.heap.size; omega)).trans ((hbx9.block _ (by omega)).trans HI.out.res)), ?_, (Below.heap_setCell _ _ _ _ (by show _ ≠ w1.heap.size; omega)).trans ((Below.heap_setCell _ _ _ _ (by show _ ≠ w1.heap.size; omega)).trans ((hbx9.block _ (by omega)).trans HI.out.tr))⟩, ?_⟩
         · rw [HFO.out]
           unfold Ld.waterStep
           rw [HOK.out]
           simp [World.setCell, Array.getElem?_modify, hrx9]
         · refine moves_of w1.heap.size ((HI.out.ft _).2 (by omega)) hbx9.os hbx9.tape hbx9.output (by simp [World.setCell]; omega) (fun j hj hne => ?_)
           exact (Below.heap_setCell _ _ _ _ hne).trans ((Below.heap_setCell _ _ _ _ hne).trans (hbx9.block j hj))
       · go_simp
         refine ⟨trivial, fun h => by simp [Fence.wide] at h, ?_⟩
         refine (CallsIn.inRound l (callsIn_wide.2 (just_any x _))).mono ?_
         rintro e x11 ⟨rfl, hBx11⟩
         have hrx11 := (hBx11.block _ (heap_lt hrow)).trans hrow
         have hbx11 : Below W.heap.size W x11 := hbw.trans (hBx11.mono hbw.size)
         refine hK _ _ ?_
         clear hK K
         try simp only [putL]
         refine wpAnyIn_ready (rs := [0]) (by kernel_rfl) (by simp) ?_
         refine AllReadyIn.cons rfl (fun K hK => ?_) AllReadyIn.nil
         have y0 := cell_of_row x11 _ 0 _ _ _ hrx11
         have y1 := cell_of_row x11 _ 1 _ _ _ hrx11
         simp only [List.getElem?_toArray, List.getElem?_cons_zero, List.getElem?_cons_succ] at y0 y1
         go_simp
         refine hK _ _ ?_
         clear hK K y0 y1
         try simp only [putL]
         refine wpAnyIn_ready (rs := [3]) (by kernel_rfl) (by simp) ?_
         refine AllReadyIn.cons rfl (fun K hK => ?_) AllReadyIn.nil
         go_simp
         refine ⟨trivial, fun h => by simp [Fence.wide] at h, ?_⟩
         refine (CallsIn.inRound l (callsIn_wide.2 (join_any Z (Ld.just x) _))).mono ?_
         rintro e x13 ⟨rfl, hBx13⟩
         have hrx13 := (hBx13.block _ (heap_lt hrx11)).trans hrx11
         have hbx13 : Below W.heap.size W x13 := hbx11.trans (hBx13.mono hbx11.size)
         refine hK _ _ ?_
         clear hK K
         try simp only [putL]
         refine wpAnyIn_ready (rs := [4]) (by kernel_rfl) (by simp) ?_
         refine AllReadyIn.cons rfl (fun K hK => ?_) AllReadyIn.nil
         have y0 := cell_of_row x13 _ 0 _ _ _ hrx13
         have y1 := cell_of_row x13 _ 1 _ _ _ hrx13
         simp only [List.getElem?_toArray, List.getElem?_cons_zero, List.getElem?_cons_succ] at y0 y1
         have z0 : x13.frozen? ⟨w1.heap.size, 0, none⟩ = false := by simp [World.frozen?, hrx13]
         have z1 : x13.frozen? ⟨w1.heap.size, 1, none⟩ = false := by simp [World.frozen?, hrx13]
         go_simp
         refine hK _ _ ?_
         clear hK K
         try simp only [putL]
         refine wpAnyIn_done (by kernel_rfl) ?_ _
         have hsz := hbx13.size
         have hWz := HWZ.out
         refine ⟨F, ⟨HI.out.big, HI.out.ft, ((HI.out.old.trans (hbx13.mono HI.out.old.size)).setCell (show w.heap.size ≤ w1.heap.size by omega) _).setCell (show w.heap.size ≤ w1.heap.size by omega) _, (Below.heap_setCell _ _ _ _ (by show _ ≠ w1.heap.size; omega)).trans ((Below.heap_setCell _ _ _ _ (by show _ ≠ w1.heap.size; omega)).trans ((hbx13.block _ (by omega)).trans HI.out.lg)), (Below.heap_setCell _ _ _ _ (by show _ ≠ w1.heap.size; omega)).trans ((Below.heap_setCell _ _ _ _ (by show _ ≠ w1.heap.size; omega)).trans ((hbx13.block _ (by omega)).trans HI.out.hr)), (Below.heap_setCell _ _ _ _ (by show _ ≠ w1.heap.size; omega)).trans ((Below.heap_setCell _ _ _ _ (by show _ ≠ w1.heap.size; omega)).trans ((hbx13.block _ (by omega)).trans HI.out.res)), ?_, (Below.heap_setCell _ _ _ _ (by show _ ≠ w1.heap.size; omega)).trans ((Below.heap_setCell _ _ _ _ (by show _ ≠ w1.heap.size; omega)).trans ((hbx13.block _ (by omega)).trans HI.out.tr))⟩, ?_⟩
         · rw [HFO.out]
           unfold Ld.waterStep
           rw [HOK.out]
           simp [World.setCell, Array.getElem?_modify, hrx13]
         · refine moves_of w1.heap.size ((HI.out.ft _).2 (by omega)) hbx13.os hbx13.tape hbx13.output (by simp [World.setCell]; omega) (fun j hj hne => ?_)
           exact (Below.heap_setCell _ _ _ _ hne).trans ((Below.heap_setCell _ _ _ _ hne).trans (hbx13.block j hj))
 case done =>
  rintro D F W hD hi hnD hrow hmv
  have hbg := hi.big
  have hD2 : w1.heap.size + 2 ≤ D := by simpa using hD
  have y0 := cell_of_row W _ 0 _ _ _ hi.wat
  have y1 := cell_of_row W _ 1 _ _ _ hi.wat
  have r0 := cell_of_row W _ 0 _ _ _ hi.res
  have r1 := cell_of_row W _ 1 _ _ _ hi.res
  simp only [List.getElem?_toArray, List.getElem?_cons_zero, List.getElem?_cons_succ] at y0 y1 r0 r1
  have z0 : W.frozen? ⟨w.heap.size + 1 + 1 + 1, 0, none⟩ = false := by simp [World.frozen?, hi.res]
  have z1 : W.frozen? ⟨w.heap.size + 1 + 1 + 1, 1, none⟩ = false := by simp [World.frozen?, hi.res]
  have hwt : (Ld.nums S).foldl (Ld.waterStep b ⟨f0, f1⟩ hour) Ld.none = Ld.water b ⟨f0, f1⟩ hour := by unfold Ld.water; rw [HTE.out]
  have hres := hi.res
  have hold := hi.old
  rw [hwt] at y0 y1
  have HWT := Lib.hid hwt
  have HRES := Lib.hid hres
  have HOLD := Lib.hid hold
  have HRW := Lib.hid hrow
  have HD2 := Lib.hid hD2
  clear hwt hres hold hi hrow hmv hD2 hD hnD
  go_wp2_with fail
  rw [Exit.noGoto_ret]
  refine name_leave ?_
  intro W7 hW7
  have hkp : Kept1 (w.heap.size + 1 + 1 + 1) W W7 := by rw [hW7]; exact ((Kept1.refl _ _).set _ _).set _ _
  have hrw : W7.heap[w.heap.size + 1 + 1 + 1]? = some (.cells #[I (Ld.water b ⟨f0, f1⟩ hour).lo, I (Ld.water b ⟨f0, f1⟩ hour).hi] 24 (0, 0)) := by rw [hW7]; simp [World.setCell, Array.getElem?_modify, HRES.out]
  clear hW7
  have hd2 := HD2.out
  have hk7 : W7.heap[D]? = some (.deferred (some [])) := (hkp.keep _ (by omega)).trans HRW.out
  have hq : ∀ (j : Nat), (W7.putObj D (.deferred none)).cell? ⟨w.heap.size + 1 + 1 + 1, j, none⟩ = #[I (Ld.water b ⟨f0, f1⟩ hour).lo, I (Ld.water b ⟨f0, f1⟩ hour).hi][j]? := fun j => (cell_putObj (show w.heap.size + 1 + 1 + 1 ≠ D by omega)).trans (cell_of_row W7 _ j _ _ _ hrw)
  refine ⟨by simp, .inl ⟨_, _, rfl, run_takeDeferred (b := D) (ds := []) hk7, ?_⟩⟩
  refine ⟨vSp (Ld.water b ⟨f0, f1⟩ hour), by simp [results, Try.results76, go_sem, hq], rfl, ?_⟩
  exact Below.putO (below_sets HOLD.out (by omega) hkp hkp.os hkp.tape hkp.output) (by omega) _
 case stop =>
  rintro D c pre F W hD hq h
  exact h.elim
end Go.Proofs.Ytjgpghaofhcfnaa
