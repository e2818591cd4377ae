/- Texts on the program that the proof leans on, part 12. -/
import Derived.Test.YtjgpghaofhcfnaaYak
set_option linter.unusedVariables false
set_option linter.unusedSimpArgs false

namespace Go.Proofs.Ytjgpghaofhcfnaa
open Go.RowKit
attribute [local go_sem] Oper.semAt_some
theorem flatMap_prefix {α β : Type} (g : α → List β) {l m : List α} (h : l <+: m) : l.flatMap g <+: m.flatMap g := by
 obtain ⟨t, rfl⟩ := h
 rw [List.flatMap_append]
 exact List.prefix_append _ _
theorem prefix_pre {α : Type} (p : List α) {l m : List α} (h : l <+: m) : p ++ l <+: p ++ m := by
 obtain ⟨t, rfl⟩ := h
 exact ⟨t, by simp⟩
def DigI (J : List Ld.Tr → (Nat → Prop) → World → Prop) (Ft0 : Nat → Prop) (tb z : Nat) (W0 : World) (g : Int → List Ld.Tr) (pre : List Ld.Tr) (P : Ld.Tr → Prop) (ys : List Int) (F : Nat → Prop) (W : World) : Prop :=
 ∃ Ft' t', (∀ j, F j ↔ j < z ∨ Ft' j) ∧ J (pre ++ ys.flatMap g) Ft' W ∧ Moves W0 W Ft0 Ft' (some tb) ∧ W.heap[tb]? = some (oTr t') ∧ P t'
theorem digI_own {J : List Ld.Tr → (Nat → Prop) → World → Prop} (hJ : Own J) (Ft0 : Nat → Prop) (tb z : Nat) (W0 : World) (hz : W0.heap.size = z) (ht : tb < z) (g : Int → List Ld.Tr) (pre : List Ld.Tr) (P : Ld.Tr → Prop) : Own (DigI J Ft0 tb z W0 g pre P) := by
 refine ⟨?_, ?_⟩
 · rintro ys F W W' ⟨Ft', t', h1, h2, h3, h4, h5⟩ a1 a2 a3 a4 a5
   have hk : ∀ j, j < z → W'.heap[j]? = W.heap[j]? := fun j hj => a5 j ((h1 j).2 (.inl hj))
   exact ⟨Ft', t', h1, hJ.frame _ _ _ _ h2 a1 a2 a3 a4 (fun j hj => a5 j ((h1 j).2 (.inr hj))),
    ⟨a1.trans h3.os, a2.trans h3.tape, a3.trans h3.output, Nat.le_trans h3.size a4, fun j hj hf hn => (hk j (by omega)).trans (h3.block j hj hf hn), h3.foot⟩, (hk tb ht).trans h4, h5⟩
 · rintro ys F W j ⟨Ft', t', h1, h2, h3, h4, h5⟩ hj
   rcases (h1 j).1 hj with h | h
   · have := h3.size; omega
   · exact hJ.lt _ _ _ _ h2 h
def DigX (Jx : List Ld.Tr → (Nat → Prop) → World → Prop) (Ft0 : Nat → Prop) (tb z : Nat) (w : World) (L pre : List Ld.Tr) (c : Code) (_ys : List Int) (F : Nat → Prop) (W : World) : Prop :=
 c = .ret ∧ ∃ Ft' q, (∀ j, F j ↔ j < z ∨ Ft' j) ∧ q <+: L ∧ Jx (pre ++ q) Ft' W ∧ Moves w W Ft0 Ft' (some tb) ∧ W.heap[w.heap.size + 1]? = some (.cells #[.bool false] 4 (0, 0)) ∧ z ≤ W.heap.size ∧ ¬ Ft' (w.heap.size + 1)
theorem digX_own {Jx : List Ld.Tr → (Nat → Prop) → World → Prop} (hJ : Own Jx) (Ft0 : Nat → Prop) (tb z : Nat) (w : World) (hz : z = w.heap.size + 2) (L pre : List Ld.Tr) (c : Code) : Own (DigX Jx Ft0 tb z w L pre c) := by
 refine ⟨?_, ?_⟩
 · rintro ys F W W' ⟨hc, Ft', q, h1, h2, h3, h4, h5, h6, h7⟩ a1 a2 a3 a4 a5
   have hk : ∀ j, j < z → W'.heap[j]? = W.heap[j]? := fun j hj => a5 j ((h1 j).2 (.inl hj))
   exact ⟨hc, Ft', q, h1, h2, hJ.frame _ _ _ _ h3 a1 a2 a3 a4 (fun j hj => a5 j ((h1 j).2 (.inr hj))),
    ⟨a1.trans h4.os, a2.trans h4.tape, a3.trans h4.output, Nat.le_trans h4.size a4, fun j hj hf hn => (hk j (by omega)).trans (h4.block j hj hf hn), h4.foot⟩, (hk _ (by omega)).trans h5, Nat.le_trans h6 a4, h7⟩
 · rintro ys F W j ⟨hc, Ft', q, h1, h2, h3, h4, h5, h6, h7⟩ hj
   rcases (h1 j).1 hj with h | h
   · omega
   · exact hJ.lt _ _ _ _ h3 h
def DigAx (p : Int) (lb tb yb wb z : Nat) (y : Int) (a' : Act) (_W : World) : Prop :=
 ∃ u8 u9 u10 u11 u12 u13 u14 u15 u16 u17 u18 u19 u20 u21 u22 u23 u24 u25 u26 u27 u28 u29 u30 u31 u32 u33 u34, a' = { tmps := #[I p, vPtr lb, vPtr tb, vPtr yb, vPtr wb, vPtr z, vPtr (z + 1), I y, u8, u9, u10, u11, u12, u13, u14, u15, u16, u17, u18, u19, u20, u21, u22, u23, u24, u25, u26, u27, u28, u29, u30, u31, u32, u33, u34], defers := [] }
set_option maxRecDepth 100000 in
set_option maxHeartbeats 8000000 in
theorem dig1_any (b : Ld.Bk) (J Jx : List Ld.Tr → (Nat → Prop) → World → Prop) (l : Nat) (T D R : Value) (nr r : Nat) (k : Ld.Sp × Ld.Sp) (w0 : World) (lb tb yb wb : Nat) (hJ : Own J) (hJx : Own Jx) (hY : ∀ d, Round Try.prog vTr J Jx (Ld.truths b) d l)
 (hled : Led b T D r w0) (hR : ∃ Ar cr, R = .slice Ar nr cr) (hv : Ld.valid b = true) (st : Ld.Tr) (h0 : -1000 ≤ st.f0) (h1 : st.f0 ≤ 1000) (pre : List Ld.Tr) (hpre : pre ++ Ld.dig1 b st.f0 <+: Ld.truths b) (Ft : Nat → Prop) (w : World)
 (hS : Sit b T D R r k w0 lb tb yb wb l Ft w) (hT : w.heap[tb]? = some (oTr st)) (hj : J pre Ft w) :
 Calls Try.prog 84 #[I 1, vPtr lb, vPtr tb, vPtr yb, vPtr wb] w (DigPost J Jx pre (Ld.dig1 b st.f0) (fun _ => True) Ft tb w) := by
 obtain ⟨hp1, hp2, hp3, hp4, hp5⟩ := Ld.valid_parts hv
 have hfl := Ld.floor_bd hp3 1
 rw [show Ld.shore b 1 = b.s1 from rfl] at hfl
 obtain ⟨f1, f2, f3, -, -, -⟩ := hfl
 clear hp1 hp2 hp3 hp4 hp5
 have hlt0 := heap_lt hS.hl
 have hlt1 := heap_lt hS.hy
 have hlt2 := heap_lt hT
 have hlt3 := heap_lt hS.hw
 have HFW : Hid (∀ j, Ft j → j < w.heap.size) := Lib.hid fun j h => hJ.lt _ _ _ _ hj h
 have HS := Lib.hid hS
 have HT := Lib.hid hT
 have HJ := Lib.hid hj
 have HP := Lib.hid hpre
 have HLED := Lib.hid hled
 obtain ⟨A0, c0, rfl⟩ := hled.rb.tides.form
 obtain ⟨A1, c1, rfl⟩ := hled.rb.sounds.form
 obtain ⟨Ar, cr, rfl⟩ := hR
 have q0 := cell_of_row w _ 5 _ _ _ hS.hl
 have q1 := cell_of_row w _ 6 _ _ _ hS.hl
 simp only [List.getElem?_toArray, List.getElem?_cons_zero, List.getElem?_cons_succ] at q0 q1
 clear hS hT hj hled hpre
 refine (callsIn_wide (n := 1)).1 ?_
 refine callsIn_of_wp_marks Try.func84 rfl trivial ?_ rfl
 simp only [Try.ntmps84, List.size_toArray, List.length_cons, List.length_nil, Nat.reduceAdd, Nat.reduceSub, Array.replicate_succ, Array.replicate_zero, List.push_toArray, List.append_toArray, List.nil_append, List.cons_append]
 refine wpIn_wide.2 ?_
 go_wp2_with fail
 refine (numbers_any b.s1.floor _).mono ?_
 rintro e w2 ⟨rfl, rfl⟩
 go_wp2_with fail
 have hB0 : Below w.heap.size w ((w.alloc (.cells #[I 1] 3)).alloc (.cells #[.bool false] 4)) := ((Below.refl _ _).alloc (Nat.le_refl _) _).alloc (by simp) _
 obtain ⟨W0, hW0⟩ : ∃ W0, (w.alloc (.cells #[I 1] 3)).alloc (.cells #[.bool false] 4) = W0 := ⟨_, rfl⟩
 have hz0 : W0.heap.size = w.heap.size + 2 := by rw [← hW0]; simp
 have b0 : W0.heap[w.heap.size]? = some (.cells #[I 1] 3 (0, 0)) := by rw [← hW0]; exact (Below.heap_alloc _ _ _ (by simp)).trans (heap_at _ _ rfl)
 have b1 : W0.heap[w.heap.size + 1]? = some (.cells #[.bool false] 4 (0, 0)) := by rw [← hW0]; exact heap_at _ _ (by simp)
 rw [hW0] at hB0
 have hm0 : Moves w W0 Ft Ft (some tb) := .of_below hB0
 have hS0 := HS.out.moves hm0
 have hj0 := hJ.below HJ.out hB0
 have hT0 := (hB0.block _ hlt2).trans HT.out
 have hWz : (W0.alloc (.cells #[I b.s1.floor.lo, I b.s1.floor.hi] 24)).heap.size = w.heap.size + 3 := by simp [hz0]
 rw [hW0]
 have HW0 := Lib.hid hW0
 have HZ0 := Lib.hid hz0
 have HWZ := Lib.hid hWz
 have HB0 := Lib.hid hB0
 have HM0 := Lib.hid hm0
 have HS0 := Lib.hid hS0
 have HJ0 := Lib.hid hj0
 have HT0 := Lib.hid hT0
 have R0 := Lib.hid b0
 have R1 := Lib.hid b1
 clear hW0 hz0 hWz hB0 hm0 hS0 hj0 hT0 b0 b1
 refine (wpIn_wide (n := 1)).1 (range_iter 102 #[vPtr (w.heap.size + 1 + 1)] I (Ld.nums b.s1.floor) (fun j => j < w.heap.size + 2 ∨ Ft j) ?geq rfl (enters_of Try.func102 (by kernel_rfl) rfl)
  (DigI J Ft tb (w.heap.size + 2) W0 (fun y => Ld.dig2 b ⟨st.f0, y⟩) pre (fun t' => t'.f0 = st.f0)) (DigX Jx Ft tb (w.heap.size + 2) w (Ld.dig1 b st.f0) pre) (digI_own hJ _ _ _ _ HZ0.out (by omega) _ _ _) (fun c => digX_own hJx _ _ _ _ rfl _ _ _)
  ?start (DigAx 1 lb tb yb wb w.heap.size) (fun _ _ _ _ _ _ h _ => h) ?assign ?body ?iter ?done ?stop)
 case geq => rfl
 case start =>
  have hb : Below W0.heap.size W0 (W0.alloc (.cells #[I b.s1.floor.lo, I b.s1.floor.hi] 24)) := (Below.refl _ _).alloc (Nat.le_refl _) _
  exact ⟨Ft, st, fun _ => Iff.rfl, by simpa using hJ.below HJ0.out hb, .of_below hb, (hb.block _ (heap_lt HT0.out)).trans HT0.out, rfl⟩
 case assign =>
  intro l' d ys y F W K hi hK
  gi_wp2_with fail
  exact hK _ _ hi (Below.refl _ _) ⟨_, _, _, _, _, _, _, _, _, _, _, _, _, _, _, _, _, _, _, _, _, _, _, _, _, _, _, rfl⟩
 case iter =>
  intro J' Jx' l' Fx W1 hJ' hY' hj' hB hFx hFt
  refine numbers1_any b.s1.floor J' Jx' l' (w.heap.size + 1 + 1) hJ' hY' (by omega) (by omega) (by omega) (by omega) Fx W1 hj' ((hB.block _ (by rw [HWZ.out]; omega)).trans (heap_at _ _ (by rw [HZ0.out]))) (fun h => ?_)
  rcases hFx _ h with (h' | h') | h'
  · omega
  · have := HFW.out _ h'; omega
  · rw [HWZ.out] at h'; omega
 case body =>
  rintro l' d ys y F a' W hi ⟨u8, u9, u10, u11, u12, u13, u14, u15, u16, u17, u18, u19, u20, u21, u22, u23, u24, u25, u26, u27, u28, u29, u30, u31, u32, u33, u34, rfl⟩ hys
  obtain ⟨Ft', t', hF, hj', hm, hT', hPt⟩ := hi
  have hyb := Ld.mem_nums.1 (hys.subset (by simp : y ∈ ys ++ [y]))
  have hS' := HS0.out.moves hm
  have hWs := hm.size
  rw [HZ0.out] at hWs
  have hnb : ∀ j, w.heap.size ≤ j → j < w.heap.size + 2 → ¬ Ft' j := fun j h1 h2 hf => by
   rcases hm.foot j hf with h | h
   · have := HFW.out _ h; omega
   · rw [HZ0.out] at h; omega
  have hr0 : W.heap[w.heap.size]? = some (.cells #[I 1] 3 (0, 0)) := (hm.block _ (by rw [HZ0.out]; omega) (fun h => by have := HFW.out _ h; omega) (fun e => by injection e with e; omega)).trans R0.out
  have hr1 : W.heap[w.heap.size + 1]? = some (.cells #[.bool false] 4 (0, 0)) := (hm.block _ (by rw [HZ0.out]; omega) (fun h => by have := HFW.out _ h; omega) (fun e => by injection e with e; omega)).trans R1.out
  have hm5 : Moves W (W.setCell ⟨tb, 1, none⟩ (I y)) Ft' Ft' (some tb) := (Moves.refl _ _ _).set _ _
  have hS5 := hS'.moves hm5
  have hj5 : J (pre ++ ys.flatMap (fun y => Ld.dig2 b ⟨st.f0, y⟩)) Ft' (W.setCell ⟨tb, 1, none⟩ (I y)) := hJ.set hj' hS'.nt _ _
  have hT5 : (W.setCell ⟨tb, 1, none⟩ (I y)).heap[tb]? = some (oTr ⟨st.f0, y⟩) := by simp [World.setCell, Array.getElem?_modify, hT', hPt]
  have hgp : ys.flatMap (fun y => Ld.dig2 b ⟨st.f0, y⟩) ++ (fun y => Ld.dig2 b ⟨st.f0, y⟩) y <+: Ld.dig1 b st.f0 := by
   have := flatMap_prefix (fun y => Ld.dig2 b ⟨st.f0, y⟩) hys
   rw [List.flatMap_append] at this
   rw [show Ld.dig1 b st.f0 = (Ld.nums b.s1.floor).flatMap (fun y => Ld.dig2 b ⟨st.f0, y⟩) from rfl]
   simpa using this
  have hpre5 : (pre ++ ys.flatMap (fun y => Ld.dig2 b ⟨st.f0, y⟩)) ++ (fun y => Ld.dig2 b ⟨st.f0, y⟩) y <+: Ld.truths b := by rw [List.append_assoc]; exact (prefix_pre pre hgp).trans HP.out
  have HCALL := Lib.hid (dig2_any b J Jx l _ _ _ nr r k w0 lb tb yb wb hJ hJx hY HLED.out ⟨_, _, rfl⟩ hv ⟨st.f0, y⟩ ⟨h0, h1, by show -1000 ≤ y; omega, by show y ≤ 1000; omega⟩ _ hpre5 Ft' _ hS5 hT5 hj5)
  have r0' := (Below.heap_setCell W ⟨tb, 1, none⟩ (I y) _ (show w.heap.size ≠ tb by omega)).trans hr0
  have g0 := cell_of_row W _ 0 _ _ _ hr0
  have gt := cell_of_row W _ 1 _ _ _ hT'
  have gf : W.frozen? ⟨tb, 1, none⟩ = false := by simp [World.frozen?, hT']
  have g5 := cell_of_row (W.setCell ⟨tb, 1, none⟩ (I y)) _ 0 _ _ _ r0'
  have gw := cell_of_row (W.setCell ⟨tb, 1, none⟩ (I y)) _ 0 _ _ _ hS5.hw
  simp only [List.getElem?_toArray, List.getElem?_cons_zero, List.getElem?_cons_succ] at g0 gt g5 gw
  have HF := Lib.hid hF
  have HM := Lib.hid hm
  have HM5 := Lib.hid hm5
  have HGP := Lib.hid hgp
  have HR1 := Lib.hid hr1
  have HNB := Lib.hid hnb
  have hsz5 : (W.setCell ⟨tb, 1, none⟩ (I y)).heap.size = W.heap.size := by simp [World.setCell]
  have HSZ5 := Lib.hid hsz5
  have hr15 := (Below.heap_setCell W ⟨tb, 1, none⟩ (I y) _ (show w.heap.size + 1 ≠ tb by omega)).trans hr1
  have HR15 := Lib.hid hr15
  clear hF hm hm5 hgp hpre5 hr0 hr1 hj' hj5 hT' hT5 hS' hS5 r0' hPt hys hsz5 hr15 hnb
  gi_wp2_with fail
  refine ⟨trivial, fun h => by simp [Fence.wide] at h, ?_⟩
  refine (CallsIn.inRound l' (callsIn_wide.2 HCALL.out)).mono ?_
  rintro e W' (⟨Ft2, t2, rfl, hj2, hm2, hT2, hP2⟩ | ⟨q, Ft2, rfl, hq, hx2, hm2⟩)
  · have HJ2 := Lib.hid hj2
    have HM2 := Lib.hid hm2
    have HT2 := Lib.hid hT2
    have HP2 := Lib.hid hP2
    clear hj2 hm2 hT2 hP2 g0 gt gf g5 gw
    gi_wp2_with fail
    have hmm := HM.out.trans (HM5.out.trans HM2.out)
    refine ⟨fun j => j < w.heap.size + 2 ∨ Ft2 j, ⟨Ft2, t2, fun _ => Iff.rfl, ?_, hmm, HT2.out, by have := HP2.out; rw [this]⟩, ?_⟩
    · rw [List.flatMap_append, ← List.append_assoc]
      simpa using HJ2.out
    · have hmw := HM5.out.trans HM2.out
      refine ⟨hmw.os, hmw.tape, hmw.output, hmw.size, fun j hj hf _ => hmw.block j hj (fun h => hf ((HF.out j).2 (.inr h))) (fun e => ?_), fun j hj => ?_⟩
      · injection e with e
        exact hf ((HF.out j).2 (.inl (by omega)))
      · rcases hj with h | h
        · exact .inl ((HF.out j).2 (.inl h))
        · rcases hmw.foot j h with h' | h'
          · exact .inl ((HF.out j).2 (.inr h'))
          · exact .inr h'
  · have hmw := HM5.out.trans hm2
    have hr1' := (hm2.block _ (by rw [HSZ5.out]; omega) (HNB.out _ (by omega) (by omega)) (fun e => by injection e with e; omega)).trans HR15.out
    have rr := cell_of_row W' _ 0 _ _ _ hr1'
    have rf : W'.frozen? ⟨w.heap.size + 1, 0, none⟩ = false := by simp [World.frozen?, hr1']
    simp only [List.getElem?_toArray, List.getElem?_cons_zero, List.getElem?_cons_succ] at rr
    have hrn : ¬ Ft2 (w.heap.size + 1) := fun h => by
     rcases hmw.foot _ h with h' | h'
     · exact HNB.out _ (by omega) (by omega) h'
     · omega
    have HR1' := Lib.hid hr1'
    have HX2 := Lib.hid hx2
    have HM2 := Lib.hid hm2
    have HQ := Lib.hid hq
    have HMW := Lib.hid hmw
    have HRN := Lib.hid hrn
    clear hx2 hm2 hq hmw hr1' g0 gt gf g5 gw hrn
    gi_wp2_with fail
    have hmm := HM0.out.trans (HM.out.trans HMW.out)
    have hzz := hmm.size
    have hzq := HMW.out.size
    refine ⟨fun j => j < w.heap.size + 2 ∨ Ft2 j, ⟨rfl, Ft2, ys.flatMap (fun y => Ld.dig2 b ⟨st.f0, y⟩) ++ q, fun _ => Iff.rfl, (prefix_pre _ HQ.out).trans HGP.out, by rw [← List.append_assoc]; exact hJx.set HX2.out HRN.out _ _, ?_, by simp [World.setCell, Array.getElem?_modify, HR1'.out], by simp [World.setCell]; omega, HRN.out⟩, ?_⟩
    · exact ⟨hmm.os, hmm.tape, hmm.output, by simpa [World.setCell] using hzz, fun j hj hf ht => (Below.heap_setCell _ _ _ _ (by show j ≠ w.heap.size + 1; omega)).trans (hmm.block j hj hf ht), hmm.foot⟩
    · refine ⟨HMW.out.os, HMW.out.tape, HMW.out.output, by simpa [World.setCell] using hzq, fun j hj hf _ => ?_, fun j hj => ?_⟩
      · have hne : j ≠ w.heap.size + 1 := fun e => hf ((HF.out j).2 (.inl (by omega)))
        refine (Below.heap_setCell _ _ _ _ hne).trans (HMW.out.block j hj (fun h => hf ((HF.out j).2 (.inr h))) (fun e => ?_))
        injection e with e
        exact hf ((HF.out j).2 (.inl (by omega)))
      · rcases hj with h | h
        · exact .inl ((HF.out j).2 (.inl h))
        · rcases HMW.out.foot j h with h' | h'
          · exact .inl ((HF.out j).2 (.inr h'))
          · exact .inr h'
 case done =>
  rintro E F W hE hi hnE hrow hmv
  obtain ⟨Ft', t', hF, hj', hm, hT', hPt⟩ := hi
  have hWs := hm.size
  rw [HZ0.out] at hWs
  rw [HWZ.out] at hE
  have hr1 : W.heap[w.heap.size + 1]? = some (.cells #[.bool false] 4 (0, 0)) := (hm.block _ (by rw [HZ0.out]; omega) (fun h => by have := HFW.out _ h; omega) (fun e => by injection e with e; omega)).trans R1.out
  have rr := cell_of_row W _ 0 _ _ _ hr1
  have rf : W.frozen? ⟨w.heap.size + 1, 0, none⟩ = false := by simp [World.frozen?, hr1]
  simp only [List.getElem?_toArray, List.getElem?_cons_zero, List.getElem?_cons_succ] at rr
  have hnE' : ¬ Ft' E := fun h => hnE ((hF E).2 (.inr h))
  have hnr : ¬ Ft' (w.heap.size + 1) := fun h => by
   rcases hm.foot _ h with h' | h'
   · have := HFW.out _ h'; omega
   · rw [HZ0.out] at h'; omega
  have HJF := Lib.hid hj'
  have HM := Lib.hid hm
  have HTF := Lib.hid hT'
  have HRW := Lib.hid hrow
  have HR1 := Lib.hid hr1
  have HNE := Lib.hid hnE'
  have HNR := Lib.hid hnr
  clear hF hj' hm hT' hPt hrow hmv hnE hr1 hnE' hnr
  go_wp2_with fail
  refine name_leave ?_
  intro W7 hW7
  have hkp : Kept1 (w.heap.size + 1) W W7 := by rw [hW7]; exact (Kept1.refl _ _).set _ _
  have hrw7 : W7.heap[w.heap.size + 1]? = some (.cells #[.bool true] 4 (0, 0)) := by rw [hW7]; simp [World.setCell, Array.getElem?_modify, HR1.out]
  clear hW7
  have hk7 : W7.heap[E]? = some (.deferred (some [])) := (hkp.keep _ (by omega)).trans HRW.out
  have hq : ∀ (j : Nat), (W7.putObj E (.deferred none)).cell? ⟨w.heap.size + 1, j, none⟩ = #[.bool true][j]? := fun j => (cell_putObj (show w.heap.size + 1 ≠ E by omega)).trans (cell_of_row W7 _ j _ _ _ hrw7)
  have hoth : ∀ j, j ≠ w.heap.size + 1 → j ≠ E → (W7.putObj E (.deferred none)).heap[j]? = W.heap[j]? := fun j h1 h2 => (putObj_other _ h2).trans (hkp.keep j h1)
  refine ⟨by simp, .inl ⟨_, _, rfl, run_takeDeferred (b := E) (ds := []) hk7, ?_⟩⟩
  refine ⟨.bool true, by simp [results, Try.results84, go_sem, hq], .inl ⟨Ft', t', rfl, ?_, ?_, ?_, trivial⟩⟩
  · refine hJ.frame _ _ _ _ HJF.out hkp.os hkp.tape hkp.output (by rw [← hkp.size]; simp [World.putObj]) (fun j hj => hoth j (fun e => HNR.out (e ▸ hj)) (fun e => HNE.out (e ▸ hj)))
  · have hmm := HM0.out.trans HM.out
    exact ⟨hkp.os.trans hmm.os, hkp.tape.trans hmm.tape, hkp.output.trans hmm.output, by have h1 := hmm.size; have h2 := hkp.size; simp only [World.putObj, Array.size_setIfInBounds]; omega, fun j hj hf ht => (hoth j (by omega) (by omega)).trans (hmm.block j hj hf ht), hmm.foot⟩
  · exact (hoth tb (by omega) (by omega)).trans HTF.out
 case stop =>
  rintro E c ys F W hE hq ⟨rfl, Ft', q, hF, hqq, hx, hm, hr1, hzW, hnr⟩ hnE hrow hmv
  rw [HWZ.out] at hE
  have hnE' : ¬ Ft' E := fun h => hnE ((hF E).2 (.inr h))
  have HX := Lib.hid hx
  have HM := Lib.hid hm
  have HRW := Lib.hid hrow
  have HR1 := Lib.hid hr1
  have HNE := Lib.hid hnE'
  have HNR := Lib.hid hnr
  have HQ := Lib.hid hqq
  clear hF hx hm hrow hmv hnE hr1 hnE' hnr hqq hq
  refine wpIn_wide.2 ?_
  go_wp2_with fail
  have hq : ∀ (j : Nat), (W.putObj E (.deferred none)).cell? ⟨w.heap.size + 1, j, none⟩ = #[.bool false][j]? := fun j => (cell_putObj (show w.heap.size + 1 ≠ E by omega)).trans (cell_of_row W _ j _ _ _ HR1.out)
  refine ⟨by simp, .inl ⟨_, _, rfl, run_takeDeferred (b := E) (ds := []) HRW.out, ?_⟩⟩
  refine ⟨.bool false, by simp [results, Try.results84, go_sem, hq], .inr ⟨q, Ft', rfl, HQ.out, ?_, ?_⟩⟩
  · exact hJx.frame _ _ _ _ HX.out rfl rfl rfl (by simp [World.putObj]) (fun j hj => putObj_other _ (fun e => HNE.out (e ▸ hj)))
  · exact ⟨HM.out.os, HM.out.tape, HM.out.output, by have := HM.out.size; simpa [World.putObj] using this, fun j hj hf ht => (putObj_other _ (by omega)).trans (HM.out.block j hj hf ht), HM.out.foot⟩
set_option maxRecDepth 100000 in
set_option maxHeartbeats 8000000 in
theorem dig0_any (b : Ld.Bk) (J Jx : List Ld.Tr → (Nat → Prop) → World → Prop) (l : Nat) (T D R : Value) (nr r : Nat) (k : Ld.Sp × Ld.Sp) (w0 : World) (lb tb yb wb : Nat) (hJ : Own J) (hJx : Own Jx) (hY : ∀ d, Round Try.prog vTr J Jx (Ld.truths b) d l)
 (hled : Led b T D r w0) (hR : ∃ Ar cr, R = .slice Ar nr cr) (hv : Ld.valid b = true) (st : Ld.Tr) (pre : List Ld.Tr) (hpre : pre ++ Ld.dig0 b <+: Ld.truths b) (Ft : Nat → Prop) (w : World)
 (hS : Sit b T D R r k w0 lb tb yb wb l Ft w) (hT : w.heap[tb]? = some (oTr st)) (hj : J pre Ft w) :
 Calls Try.prog 84 #[I 0, vPtr lb, vPtr tb, vPtr yb, vPtr wb] w (DigPost J Jx pre (Ld.dig0 b) (fun _ => True) Ft tb w) := by
 obtain ⟨hp1, hp2, hp3, hp4, hp5⟩ := Ld.valid_parts hv
 have hfl := Ld.floor_bd hp3 0
 rw [show Ld.shore b 0 = b.s0 from rfl] at hfl
 obtain ⟨f1, f2, f3, -, -, -⟩ := hfl
 clear hp1 hp2 hp3 hp4 hp5
 have hlt0 := heap_lt hS.hl
 have hlt1 := heap_lt hS.hy
 have hlt2 := heap_lt hT
 have hlt3 := heap_lt hS.hw
 have HFW : Hid (∀ j, Ft j → j < w.heap.size) := Lib.hid fun j h => hJ.lt _ _ _ _ hj h
 have HS := Lib.hid hS
 have HT := Lib.hid hT
 have HJ := Lib.hid hj
 have HP := Lib.hid hpre
 have HLED := Lib.hid hled
 obtain ⟨A0, c0, rfl⟩ := hled.rb.tides.form
 obtain ⟨A1, c1, rfl⟩ := hled.rb.sounds.form
 obtain ⟨Ar, cr, rfl⟩ := hR
 have q0 := cell_of_row w _ 1 _ _ _ hS.hl
 have q1 := cell_of_row w _ 2 _ _ _ hS.hl
 simp only [List.getElem?_toArray, List.getElem?_cons_zero, List.getElem?_cons_succ] at q0 q1
 clear hS hT hj hled hpre
 refine (callsIn_wide (n := 1)).1 ?_
 refine callsIn_of_wp_marks Try.func84 rfl trivial ?_ rfl
 simp only [Try.ntmps84, List.size_toArray, List.length_cons, List.length_nil, Nat.reduceAdd, Nat.reduceSub, Array.replicate_succ, Array.replicate_zero, List.push_toArray, List.append_toArray, List.nil_append, List.cons_append]
 refine wpIn_wide.2 ?_
 go_wp2_with fail
 refine (numbers_any b.s0.floor _).mono ?_
 rintro e w2 ⟨rfl, rfl⟩
 go_wp2_with fail
 have hB0 : Below w.heap.size w ((w.alloc (.cells #[I 0] 3)).alloc (.cells #[.bool false] 4)) := ((Below.refl _ _).alloc (Nat.le_refl _) _).alloc (by simp) _
 obtain ⟨W0, hW0⟩ : ∃ W0, (w.alloc (.cells #[I 0] 3)).alloc (.cells #[.bool false] 4) = W0 := ⟨_, rfl⟩
 have hz0 : W0.heap.size = w.heap.size + 2 := by rw [← hW0]; simp
 have b0 : W0.heap[w.heap.size]? = some (.cells #[I 0] 3 (0, 0)) := by rw [← hW0]; exact (Below.heap_alloc _ _ _ (by simp)).trans (heap_at _ _ rfl)
 have b1 : W0.heap[w.heap.size + 1]? = some (.cells #[.bool false] 4 (0, 0)) := by rw [← hW0]; exact heap_at _ _ (by simp)
 rw [hW0] at hB0
 have hm0 : Moves w W0 Ft Ft (some tb) := .of_below hB0
 have hS0 := HS.out.moves hm0
 have hj0 := hJ.below HJ.out hB0
 have hT0 := (hB0.block _ hlt2).trans HT.out
 have hWz : (W0.alloc (.cells #[I b.s0.floor.lo, I b.s0.floor.hi] 24)).heap.size = w.heap.size + 3 := by simp [hz0]
 rw [hW0]
 have HW0 := Lib.hid hW0
 have HZ0 := Lib.hid hz0
 have HWZ := Lib.hid hWz
 have HB0 := Lib.hid hB0
 have HM0 := Lib.hid hm0
 have HS0 := Lib.hid hS0
 have HJ0 := Lib.hid hj0
 have HT0 := Lib.hid hT0
 have R0 := Lib.hid b0
 have R1 := Lib.hid b1
 clear hW0 hz0 hWz hB0 hm0 hS0 hj0 hT0 b0 b1
 refine (wpIn_wide (n := 1)).1 (range_iter 102 #[vPtr (w.heap.size + 1 + 1)] I (Ld.nums b.s0.floor) (fun j => j < w.heap.size + 2 ∨ Ft j) ?geq rfl (enters_of Try.func102 (by kernel_rfl) rfl)
  (DigI J Ft tb (w.heap.size + 2) W0 (fun x => Ld.dig1 b x) pre (fun _ => True)) (DigX Jx Ft tb (w.heap.size + 2) w (Ld.dig0 b) pre) (digI_own hJ _ _ _ _ HZ0.out (by omega) _ _ _) (fun c => digX_own hJx _ _ _ _ rfl _ _ _)
  ?start (DigAx 0 lb tb yb wb w.heap.size) (fun _ _ _ _ _ _ h _ => h) ?assign ?body ?iter ?done ?stop)
 case geq => rfl
 case start =>
  have hb : Below W0.heap.size W0 (W0.alloc (.cells #[I b.s0.floor.lo, I b.s0.floor.hi] 24)) := (Below.refl _ _).alloc (Nat.le_refl _) _
  exact ⟨Ft, st, fun _ => Iff.rfl, by simpa using hJ.below HJ0.out hb, .of_below hb, (hb.block _ (heap_lt HT0.out)).trans HT0.out, trivial⟩
 case assign =>
  intro l' d ys y F W K hi hK
  gi_wp2_with fail
  exact hK _ _ hi (Below.refl _ _) ⟨_, _, _, _, _, _, _, _, _, _, _, _, _, _, _, _, _, _, _, _, _, _, _, _, _, _, _, rfl⟩
 case iter =>
  intro J' Jx' l' Fx W1 hJ' hY' hj' hB hFx hFt
  refine numbers1_any b.s0.floor J' Jx' l' (w.heap.size + 1 + 1) hJ' hY' (by omega) (by omega) (by omega) (by omega) Fx W1 hj' ((hB.block _ (by rw [HWZ.out]; omega)).trans (heap_at _ _ (by rw [HZ0.out]))) (fun h => ?_)
  rcases hFx _ h with (h' | h') | h'
  · omega
  · have := HFW.out _ h'; omega
  · rw [HWZ.out] at h'; omega
 case body =>
  rintro l' d ys y F a' W hi ⟨u8, u9, u10, u11, u12, u13, u14, u15, u16, u17, u18, u19, u20, u21, u22, u23, u24, u25, u26, u27, u28, u29, u30, u31, u32, u33, u34, rfl⟩ hys
  obtain ⟨Ft', t', hF, hj', hm, hT', hPt⟩ := hi
  have hyb := Ld.mem_nums.1 (hys.subset (by simp : y ∈ ys ++ [y]))
  have hS' := HS0.out.moves hm
  have hWs := hm.size
  rw [HZ0.out] at hWs
  have hnb : ∀ j, w.heap.size ≤ j → j < w.heap.size + 2 → ¬ Ft' j := fun j h1 h2 hf => by
   rcases hm.foot j hf with h | h
   · have := HFW.out _ h; omega
   · rw [HZ0.out] at h; omega
  have hr0 : W.heap[w.heap.size]? = some (.cells #[I 0] 3 (0, 0)) := (hm.block _ (by rw [HZ0.out]; omega) (fun h => by have := HFW.out _ h; omega) (fun e => by injection e with e; omega)).trans R0.out
  have hr1 : W.heap[w.heap.size + 1]? = some (.cells #[.bool false] 4 (0, 0)) := (hm.block _ (by rw [HZ0.out]; omega) (fun h => by have := HFW.out _ h; omega) (fun e => by injection e with e; omega)).trans R1.out
  have hm5 : Moves W (W.setCell ⟨tb, 0, none⟩ (I y)) Ft' Ft' (some tb) := (Moves.refl _ _ _).set _ _
  have hS5 := hS'.moves hm5
  have hj5 : J (pre ++ ys.flatMap (fun x => Ld.dig1 b x)) Ft' (W.setCell ⟨tb, 0, none⟩ (I y)) := hJ.set hj' hS'.nt _ _
  have hT5 : (W.setCell ⟨tb, 0, none⟩ (I y)).heap[tb]? = some (oTr ⟨y, t'.f1⟩) := by simp [World.setCell, Array.getElem?_modify, hT']
  have hgp : ys.flatMap (fun x => Ld.dig1 b x) ++ (fun x => Ld.dig1 b x) y <+: Ld.dig0 b := by
   have := flatMap_prefix (fun x => Ld.dig1 b x) hys
   rw [List.flatMap_append] at this
   rw [show Ld.dig0 b = (Ld.nums b.s0.floor).flatMap (fun x => Ld.dig1 b x) from rfl]
   simpa using this
  have hpre5 : (pre ++ ys.flatMap (fun x => Ld.dig1 b x)) ++ (fun x => Ld.dig1 b x) y <+: Ld.truths b := by rw [List.append_assoc]; exact (prefix_pre pre hgp).trans HP.out
  have HCALL := Lib.hid (dig1_any b J Jx l _ _ _ nr r k w0 lb tb yb wb hJ hJx hY HLED.out ⟨_, _, rfl⟩ hv ⟨y, t'.f1⟩ (by show -1000 ≤ y; omega) (by show y ≤ 1000; omega) _ hpre5 Ft' _ hS5 hT5 hj5)
  have r0' := (Below.heap_setCell W ⟨tb, 0, none⟩ (I y) _ (show w.heap.size ≠ tb by omega)).trans hr0
  have g0 := cell_of_row W _ 0 _ _ _ hr0
  have gt := cell_of_row W _ 0 _ _ _ hT'
  have gf : W.frozen? ⟨tb, 0, none⟩ = false := by simp [World.frozen?, hT']
  have g5 := cell_of_row (W.setCell ⟨tb, 0, none⟩ (I y)) _ 0 _ _ _ r0'
  have gw := cell_of_row (W.setCell ⟨tb, 0, none⟩ (I y)) _ 0 _ _ _ hS5.hw
  simp only [List.getElem?_toArray, List.getElem?_cons_zero, List.getElem?_cons_succ] at g0 gt g5 gw
  have HF := Lib.hid hF
  have HM := Lib.hid hm
  have HM5 := Lib.hid hm5
  have HGP := Lib.hid hgp
  have HR1 := Lib.hid hr1
  have HNB := Lib.hid hnb
  have hsz5 : (W.setCell ⟨tb, 0, none⟩ (I y)).heap.size = W.heap.size := by simp [World.setCell]
  have HSZ5 := Lib.hid hsz5
  have hr15 := (Below.heap_setCell W ⟨tb, 0, none⟩ (I y) _ (show w.heap.size + 1 ≠ tb by omega)).trans hr1
  have HR15 := Lib.hid hr15
  clear hF hm hm5 hgp hpre5 hr0 hr1 hj' hj5 hT' hT5 hS' hS5 r0' hPt hys hsz5 hr15 hnb
  gi_wp2_with fail
  refine ⟨trivial, fun h => by simp [Fence.wide] at h, ?_⟩
  refine (CallsIn.inRound l' (callsIn_wide.2 HCALL.out)).mono ?_
  rintro e W' (⟨Ft2, t2, rfl, hj2, hm2, hT2, hP2⟩ | ⟨q, Ft2, rfl, hq, hx2, hm2⟩)
  · have HJ2 := Lib.hid hj2
    have HM2 := Lib.hid hm2
    have HT2 := Lib.hid hT2
    have HP2 := Lib.hid hP2
    clear hj2 hm2 hT2 hP2 g0 gt gf g5 gw
    gi_wp2_with fail
    have hmm := HM.out.trans (HM5.out.trans HM2.out)
    refine ⟨fun j => j < w.heap.size + 2 ∨ Ft2 j, ⟨Ft2, t2, fun _ => Iff.rfl, ?_, hmm, HT2.out, trivial⟩, ?_⟩
    · rw [List.flatMap_append, ← List.append_assoc]
      simpa using HJ2.out
    · have hmw := HM5.out.trans HM2.out
      refine ⟨hmw.os, hmw.tape, hmw.output, hmw.size, fun j hj hf _ => hmw.block j hj (fun h => hf ((HF.out j).2 (.inr h))) (fun e => ?_), fun j hj => ?_⟩
      · injection e with e
        exact hf ((HF.out j).2 (.inl (by omega)))
      · rcases hj with h | h
        · exact .inl ((HF.out j).2 (.inl h))
        · rcases hmw.foot j h with h' | h'
          · exact .inl ((HF.out j).2 (.inr h'))
          · exact .inr h'
  · have hmw := HM5.out.trans hm2
    have hr1' := (hm2.block _ (by rw [HSZ5.out]; omega) (HNB.out _ (by omega) (by omega)) (fun e => by injection e with e; omega)).trans HR15.out
    have rr := cell_of_row W' _ 0 _ _ _ hr1'
    have rf : W'.frozen? ⟨w.heap.size + 1, 0, none⟩ = false := by simp [World.frozen?, hr1']
    simp only [List.getElem?_toArray, List.getElem?_cons_zero, List.getElem?_cons_succ] at rr
    have hrn : ¬ Ft2 (w.heap.size + 1) := fun h => by
     rcases hmw.foot _ h with h' | h'
     · exact HNB.out _ (by omega) (by omega) h'
     · omega
    have HR1' := Lib.hid hr1'
    have HX2 := Lib.hid hx2
    have HM2 := Lib.hid hm2
    have HQ := Lib.hid hq
    have HMW := Lib.hid hmw
    have HRN := Lib.hid hrn
    clear hx2 hm2 hq hmw hr1' g0 gt gf g5 gw hrn
    gi_wp2_with fail
    have hmm := HM0.out.trans (HM.out.trans HMW.out)
    have hzz := hmm.size
    have hzq := HMW.out.size
    refine ⟨fun j => j < w.heap.size + 2 ∨ Ft2 j, ⟨rfl, Ft2, ys.flatMap (fun x => Ld.dig1 b x) ++ q, fun _ => Iff.rfl, (prefix_pre _ HQ.out).trans HGP.out, by rw [← List.append_assoc]; exact hJx.set HX2.out HRN.out _ _, ?_, by simp [World.setCell, Array.getElem?_modify, HR1'.out], by simp [World.setCell]; omega, HRN.out⟩, ?_⟩
    · exact ⟨hmm.os, hmm.tape, hmm.output, by simpa [World.setCell] using hzz, fun j hj hf ht => (Below.heap_setCell _ _ _ _ (by show j ≠ w.heap.size + 1; omega)).trans (hmm.block j hj hf ht), hmm.foot⟩
    · refine ⟨HMW.out.os, HMW.out.tape, HMW.out.output, by simpa [World.setCell] using hzq, fun j hj hf _ => ?_, fun j hj => ?_⟩
      · have hne : j ≠ w.heap.size + 1 := fun e => hf ((HF.out j).2 (.inl (by omega)))
        refine (Below.heap_setCell _ _ _ _ hne).trans (HMW.out.block j hj (fun h => hf ((HF.out j).2 (.inr h))) (fun e => ?_))
        injection e with e
        exact hf ((HF.out j).2 (.inl (by omega)))
      · rcases hj with h | h
        · exact .inl ((HF.out j).2 (.inl h))
        · rcases HMW.out.foot j h with h' | h'
          · exact .inl ((HF.out j).2 (.inr h'))
          · exact .inr h'
 case done =>
  rintro E F W hE hi hnE hrow hmv
  obtain ⟨Ft', t', hF, hj', hm, hT', hPt⟩ := hi
  have hWs := hm.size
  rw [HZ0.out] at hWs
  rw [HWZ.out] at hE
  have hr1 : W.heap[w.heap.size + 1]? = some (.cells #[.bool false] 4 (0, 0)) := (hm.block _ (by rw [HZ0.out]; omega) (fun h => by have := HFW.out _ h; omega) (fun e => by injection e with e; omega)).trans R1.out
  have rr := cell_of_row W _ 0 _ _ _ hr1
  have rf : W.frozen? ⟨w.heap.size + 1, 0, none⟩ = false := by simp [World.frozen?, hr1]
  simp only [List.getElem?_toArray, List.getElem?_cons_zero, List.getElem?_cons_succ] at rr
  have hnE' : ¬ Ft' E := fun h => hnE ((hF E).2 (.inr h))
  have hnr : ¬ Ft' (w.heap.size + 1) := fun h => by
   rcases hm.foot _ h with h' | h'
   · have := HFW.out _ h'; omega
   · rw [HZ0.out] at h'; omega
  have HJF := Lib.hid hj'
  have HM := Lib.hid hm
  have HTF := Lib.hid hT'
  have HRW := Lib.hid hrow
  have HR1 := Lib.hid hr1
  have HNE := Lib.hid hnE'
  have HNR := Lib.hid hnr
  clear hF hj' hm hT' hPt hrow hmv hnE hr1 hnE' hnr
  go_wp2_with fail
  refine name_leave ?_
  intro W7 hW7
  have hkp : Kept1 (w.heap.size + 1) W W7 := by rw [hW7]; exact (Kept1.refl _ _).set _ _
  have hrw7 : W7.heap[w.heap.size + 1]? = some (.cells #[.bool true] 4 (0, 0)) := by rw [hW7]; simp [World.setCell, Array.getElem?_modify, HR1.out]
  clear hW7
  have hk7 : W7.heap[E]? = some (.deferred (some [])) := (hkp.keep _ (by omega)).trans HRW.out
  have hq : ∀ (j : Nat), (W7.putObj E (.deferred none)).cell? ⟨w.heap.size + 1, j, none⟩ = #[.bool true][j]? := fun j => (cell_putObj (show w.heap.size + 1 ≠ E by omega)).trans (cell_of_row W7 _ j _ _ _ hrw7)
  have hoth : ∀ j, j ≠ w.heap.size + 1 → j ≠ E → (W7.putObj E (.deferred none)).heap[j]? = W.heap[j]? := fun j h1 h2 => (putObj_other _ h2).trans (hkp.keep j h1)
  refine ⟨by simp, .inl ⟨_, _, rfl, run_takeDeferred (b := E) (ds := []) hk7, ?_⟩⟩
  refine ⟨.bool true, by simp [results, Try.results84, go_sem, hq], .inl ⟨Ft', t', rfl, ?_, ?_, ?_, trivial⟩⟩
  · refine hJ.frame _ _ _ _ HJF.out hkp.os hkp.tape hkp.output (by rw [← hkp.size]; simp [World.putObj]) (fun j hj => hoth j (fun e => HNR.out (e ▸ hj)) (fun e => HNE.out (e ▸ hj)))
  · have hmm := HM0.out.trans HM.out
    exact ⟨hkp.os.trans hmm.os, hkp.tape.trans hmm.tape, hkp.output.trans hmm.output, by have h1 := hmm.size; have h2 := hkp.size; simp only [World.putObj, Array.size_setIfInBounds]; omega, fun j hj hf ht => (hoth j (by omega) (by omega)).trans (hmm.block j hj hf ht), hmm.foot⟩
  · exact (hoth tb (by omega) (by omega)).trans HTF.out
 case stop =>
  rintro E c ys F W hE hq ⟨rfl, Ft', q, hF, hqq, hx, hm, hr1, hzW, hnr⟩ hnE hrow hmv
  rw [HWZ.out] at hE
  have hnE' : ¬ Ft' E := fun h => hnE ((hF E).2 (.inr h))
  have HX := Lib.hid hx
  have HM := Lib.hid hm
  have HRW := Lib.hid hrow
  have HR1 := Lib.hid hr1
  have HNE := Lib.hid hnE'
  have HNR := Lib.hid hnr
  have HQ := Lib.hid hqq
  clear hF hx hm hrow hmv hnE hr1 hnE' hnr hqq hq
  refine wpIn_wide.2 ?_
  go_wp2_with fail
  have hq : ∀ (j : Nat), (W.putObj E (.deferred none)).cell? ⟨w.heap.size + 1, j, none⟩ = #[.bool false][j]? := fun j => (cell_putObj (show w.heap.size + 1 ≠ E by omega)).trans (cell_of_row W _ j _ _ _ HR1.out)
  refine ⟨by simp, .inl ⟨_, _, rfl, run_takeDeferred (b := E) (ds := []) HRW.out, ?_⟩⟩
  refine ⟨.bool false, by simp [results, Try.results84, go_sem, hq], .inr ⟨q, Ft', rfl, HQ.out, ?_, ?_⟩⟩
  · exact hJx.frame _ _ _ _ HX.out rfl rfl rfl (by simp [World.putObj]) (fun j hj => putObj_other _ (fun e => HNE.out (e ▸ hj)))
  · exact ⟨HM.out.os, HM.out.tape, HM.out.output, by have := HM.out.size; simpa [World.putObj] using this, fun j hj hf ht => (putObj_other _ (by omega)).trans (HM.out.block j hj hf ht), HM.out.foot⟩
end Go.Proofs.Ytjgpghaofhcfnaa
