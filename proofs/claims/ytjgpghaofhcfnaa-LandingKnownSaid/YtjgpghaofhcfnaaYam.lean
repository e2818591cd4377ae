/- Texts on the program that the proof leans on, part 13. -/
import Derived.Test.YtjgpghaofhcfnaaYal
import Derived.Test.YtjgpghaofhcfnaaYad
import Derived.Test.YtjgpghaofhcfnaaYak
import Derived.WalkMore
import Derived.Deep.Cut
set_option linter.unusedVariables false
set_option linter.unusedSimpArgs false

namespace Go.Proofs.Ytjgpghaofhcfnaa
open Go.RowKit
attribute [local go_sem] Oper.semAt_some
set_option maxRecDepth 100000 in
set_option maxHeartbeats 4000000 in
theorem produce1_any (b : Ld.Bk) (J Jx : List Ld.Tr → (Nat → Prop) → World → Prop) (l : Nat) (T D R : Value) (nr r : Nat) (k : Ld.Sp × Ld.Sp) (w0 : World) (lb : Nat) (hJ : Own J) (hJx : Own Jx) (hY : ∀ d, Round Try.prog vTr J Jx (Ld.truths b) d l)
 (hled : Led b T D r w0) (hR : ∃ Ar cr, R = .slice Ar nr cr) (hv : Ld.valid b = true) (Ft : Nat → Prop) (W : World) (hlow : Below w0.heap.size w0 W) (hft : ∀ j, Ft j → w0.heap.size ≤ j) (hnl : ¬ Ft lb)
 (hl : W.heap[lb]? = some (oLg T D (.map (some r)) R b k)) (hj : J [] Ft W) :
 Calls Try.prog 83 #[.func (.yield l) #[] #[], vPtr lb] W (IterPost (Ld.truths b) J Jx Ft W) := by
 have HFW : Hid (∀ j, Ft j → j < W.heap.size) := Lib.hid fun j h => hJ.lt _ _ _ _ hj h
 have hll := heap_lt hl
 have HL := Lib.hid hl
 have HJ := Lib.hid hj
 have HLW := Lib.hid hlow
 clear hl hj hlow
 go_enter Try.func83, Try.ntmps83
 go_wp2_with fail
 refine name_calls ?_
 intro W3 hW3
 have hb3 : Below W.heap.size W W3 := by rw [hW3]; exact (((Below.refl _ _).alloc (Nat.le_refl _) _).alloc (by simp) _).alloc (by simp; omega) _
 have hz : W3.heap.size = W.heap.size + 3 := by rw [hW3]; simp
 have hy3 : W3.heap[W.heap.size]? = some (.cells #[.func (.yield l) #[] #[]] 121 (0, 0)) := by
  rw [hW3]; exact (Below.heap_alloc _ _ _ (by simp; omega)).trans ((Below.heap_alloc _ _ _ (by simp)).trans (heap_at _ _ rfl))
 have ht3 : W3.heap[W.heap.size + 1]? = some (oTr ⟨0, 0⟩) := by
  rw [hW3]; exact (Below.heap_alloc _ _ _ (by simp)).trans (heap_at _ _ (by simp))
 have hw3 : W3.heap[W.heap.size + 1 + 1]? = some (.cells #[.func (.func 84) #[] #[vPtr lb, vPtr (W.heap.size + 1), vPtr W.heap.size, vPtr (W.heap.size + 1 + 1)]] 94 (0, 0)) := by
  rw [hW3]; exact heap_at _ _ (by simp)
 clear hW3
 have hm3 : Moves W W3 Ft Ft none := .of_below hb3
 have hS : Sit b T D R r k w0 lb (W.heap.size + 1) W.heap.size (W.heap.size + 1 + 1) l Ft W3 :=
  ⟨HLW.out.trans (hb3.mono HLW.out.size), hft, hnl, fun h => by have := HFW.out _ h; omega, fun h => by have := HFW.out _ h; omega, fun h => by have := HFW.out _ h; omega, by omega, by omega, by omega, by have := HLW.out.size; omega, by omega, (hb3.block _ hll).trans HL.out, hy3, hw3⟩
 have hcall := dig0_any b J Jx l T D R nr r k w0 lb (W.heap.size + 1) W.heap.size (W.heap.size + 1 + 1) hJ hJx hY hled hR hv ⟨0, 0⟩ [] (by rw [List.nil_append, Ld.dig0_eq]; exact List.prefix_refl _) Ft W3 hS ht3 (hJ.below HJ.out hb3)
 rw [Ld.dig0_eq] at hcall
 have HM3 := Lib.hid hm3
 clear hS hw3 ht3 hy3 hb3 hm3
 refine hcall.mono ?_
 clear hcall
 rintro e w5 (⟨Ft5, t5, rfl, hj5, hm5, _, _⟩ | ⟨q, Ft5, rfl, hq, hj5, hm5⟩)
 · have HJ5 := Lib.hid hj5
   have HM5 := Lib.hid hm5
   clear hj5 hm5
   go_wp2_with fail
   go_end0
   exact ⟨⟨_, rfl⟩, .inl ⟨Ft5, HJ5.out, HM3.out.fresh HM5.out (by omega)⟩⟩
 · have HJ5 := Lib.hid hj5
   have HM5 := Lib.hid hm5
   have HQ := Lib.hid hq
   clear hj5 hm5 hq
   go_wp2_with fail
   go_end0
   exact ⟨⟨_, rfl⟩, .inr ⟨q, Ft5, HQ.out, HJ5.out, HM3.out.fresh HM5.out (by omega)⟩⟩
set_option maxHeartbeats 1000000 in
theorem produce_any (b : Ld.Bk) (T D R : Value) (r : Nat) (k : Ld.Sp × Ld.Sp) (w : World) (hT : ∃ A n c, T = .slice A n c) (hD : ∃ A n c, D = .slice A n c) (hR : ∃ A n c, R = .slice A n c) :
 Calls Try.prog 70 #[vLg T D (.map (some r)) R b k] w fun e w' => e = .returned (.func (.func 83) #[] #[vPtr w.heap.size]) ∧ w' = w.alloc (.cells (rLg T D (.map (some r)) R b k) 86) := by
 obtain ⟨A, n, c, rfl⟩ := hT
 obtain ⟨A1, n1, c1, rfl⟩ := hD
 obtain ⟨A2, n2, c2, rfl⟩ := hR
 go_enter Try.func70, Try.ntmps70
 go_wp2_with fail
 go_ret
 exact ⟨rfl, rfl⟩
def PossAt (rb : Nat) (x : Bool) (pre : List Ld.Tr) (Ft : Nat → Prop) (W : World) : Prop :=
 (x = false ↔ pre = []) ∧ (∀ k, Ft k ↔ k = rb) ∧ W.heap[rb]? = some (.cells #[.bool x] 4 (0, 0))
theorem possAt_own (rb : Nat) (x : Bool) : Own (PossAt rb x) :=
 ⟨fun _ _ _ _ ⟨h1, h2, h3⟩ _ _ _ _ h => ⟨h1, h2, (h rb ((h2 rb).2 rfl)).trans h3⟩, fun _ _ _ k ⟨_, h2, h3⟩ hk => by rw [(h2 k).1 hk]; exact heap_lt h3⟩
set_option maxRecDepth 100000 in
set_option maxHeartbeats 4000000 in
theorem possible_any (b : Ld.Bk) (T D : Value) (r : Nat) (k : Ld.Sp × Ld.Sp) (w : World) (hled : Led b T D r w) (hv : Ld.valid b = true) :
 Calls Try.prog 50 #[vLg T D (.map (some r)) (.slice none 0 0) b k] w fun e w' => e = .returned (.bool (Ld.possible b)) ∧ Below w.heap.size w w' := by
 have HLED := Lib.hid hled
 obtain ⟨A0, c0, rfl⟩ := hled.rb.tides.form
 obtain ⟨A1, c1, rfl⟩ := hled.rb.sounds.form
 clear hled
 refine (callsIn_wide (n := 1)).1 ?_
 refine callsIn_of_wp_marks Try.func50 rfl trivial ?_ rfl
 simp only [Try.ntmps50, List.size_toArray, List.length_cons, List.length_nil, Nat.reduceAdd, Nat.reduceSub, Array.replicate_succ, Array.replicate_zero, List.push_toArray, List.append_toArray, List.nil_append, List.cons_append]
 refine wpIn_wide.2 ?_
 go_upto_region 1 with fail
 refine name_world ?_
 intro W hW
 have hB : Below w.heap.size w W := by rw [hW]; exact ((Below.refl _ _).alloc (Nat.le_refl _) _).alloc (by simp) _
 have hz : W.heap.size = w.heap.size + 2 := by rw [hW]; simp
 have e0 : W.heap[w.heap.size]? = some (oLg (.slice A0 b.tides.length c0) (.slice A1 b.sounds.length c1) (.map (some r)) (.slice none 0 0) b k) := by rw [hW]; exact (Below.heap_alloc _ _ _ (by simp)).trans (heap_at _ _ rfl)
 have e1 : W.heap[w.heap.size + 1]? = some (.cells #[.bool false] 4 (0, 0)) := by rw [hW]; exact heap_at _ _ (by simp)
 have E0 := Lib.hid e0
 have HB := Lib.hid hB
 have E1 := Lib.hid e1
 have HZ := Lib.hid hz
 clear hW hB e0 e1 hz
 go_wp2_with (refine wpList_load_row rfl 86 (Operand.tmp 1) rfl w.heap.size rfl 86 (rLg (.slice A0 b.tides.length c0) (.slice A1 b.sounds.length c1) (.map (some r)) (.slice none 0 0) b k) (0, 0) _ E0.out Try.underlying86 rfl infoLg ?_)
 refine (produce_any b _ _ _ r k _ ⟨_, _, _, rfl⟩ ⟨_, _, _, rfl⟩ ⟨_, _, _, rfl⟩).mono ?_
 rintro e w1 ⟨rfl, rfl⟩
 go_wp2_with fail
 have hb1 : Below W.heap.size W (W.alloc (.cells (rLg (.slice A0 b.tides.length c0) (.slice A1 b.sounds.length c1) (.map (some r)) (.slice none 0 0) b k) 86)) := (Below.refl _ _).alloc (Nat.le_refl _) _
 have hz1 : (W.alloc (.cells (rLg (.slice A0 b.tides.length c0) (.slice A1 b.sounds.length c1) (.map (some r)) (.slice none 0 0) b k) 86)).heap.size = w.heap.size + 3 := by simp [HZ.out]
 have HB1 := Lib.hid hb1
 have HZ1 := Lib.hid hz1
 clear hb1 hz1
 refine (wpIn_wide (n := 1)).1 (range_own 83 #[vPtr W.heap.size] vTr (Ld.truths b) (fun j => j = w.heap.size + 1) rfl rfl (enters_of Try.func83 (by kernel_rfl) rfl)
  (PossAt (w.heap.size + 1) false) (fun c pre Ft W => c = .ret ∧ PossAt (w.heap.size + 1) true pre Ft W) (possAt_own _ _) (fun c => ⟨fun _ _ _ _ h h1 h2 h3 h4 h5 => ⟨h.1, (possAt_own _ _).frame _ _ _ _ h.2 h1 h2 h3 h4 h5⟩, fun _ _ _ k h hk => (possAt_own _ _).lt _ _ _ k h.2 hk⟩)
  ⟨by simp, fun _ => Iff.rfl, (HB1.out.block _ (heap_lt E1.out)).trans E1.out⟩ (fun t a' _ => ∃ v0 v1 v3 v4, a' = { tmps := #[v0, v1, vPtr (w.heap.size + 1), v3, v4, vTr t], defers := [] }) (fun _ _ _ _ _ _ h _ => h) ?assign ?body ?iter ?done ?stop)
 case assign =>
  intro l d pre t F Wq K hi hK
  gi_wp2_with fail
  exact hK _ _ hi (Below.refl _ _) ⟨vLg (.slice A0 b.tides.length c0) (.slice A1 b.sounds.length c1) (.map (some r)) (.slice none 0 0) b k, vPtr w.heap.size, .agg (rLg (.slice A0 b.tides.length c0) (.slice A1 b.sounds.length c1) (.map (some r)) (.slice none 0 0) b k), .func (.func 83) #[] #[vPtr W.heap.size], by simp⟩
 case iter =>
  intro J Jx l Fx W1 hJ hJx hY hj hB hFx hFt
  have hlw : Below w.heap.size w W1 := HB.out.trans ((HB1.out.trans (hB.mono HB1.out.size)).mono HB.out.size)
  refine produce1_any b J Jx l _ _ _ 0 r k w W.heap.size hJ hJx hY HLED.out ⟨_, _, rfl⟩ hv Fx W1 hlw (fun j h => ?_) (fun h => ?_) ((hB.block _ (by rw [HZ1.out, HZ.out]; omega)).trans (heap_at _ _ rfl)) hj
  · rcases hFx j h with h' | h'
    · omega
    · rw [HZ1.out] at h'; omega
  · have hz := HZ.out
    rcases hFx _ h with h' | h'
    · omega
    · rw [HZ1.out] at h'; omega
 case body =>
  rintro l d pre t F a' W' ⟨h1, h2, h3⟩ ⟨v0, v1, v3, v4, rfl⟩ _
  have c0 := cell_of_row W' _ 0 _ _ _ h3
  have f0 : W'.frozen? ⟨w.heap.size + 1, 0, none⟩ = false := by simp [World.frozen?, h3]
  simp only [List.getElem?_toArray, List.getElem?_cons_zero, List.getElem?_cons_succ] at c0
  have H3 := Lib.hid h3
  have H2 := Lib.hid h2
  clear h1 h2 h3
  gi_wp2_with fail
  refine ⟨F, ⟨rfl, by simp, H2.out, ?_⟩, (Moves.refl _ _ _).own ((H2.out _).2 rfl) _ _⟩
  simp [World.setCell, Array.getElem?_modify, H3.out]
 case done =>
  rintro E F W' hE ⟨h1, h2, h3⟩ hn hK hm
  rw [HZ1.out] at hE
  have hnil : Ld.truths b = [] := h1.1 rfl
  have hbw : Below w.heap.size w W' := (HB.out.trans (HB1.out.mono HB.out.size)).trans (hm.toBelow (B := w.heap.size) (fun k hk => by omega) (by rw [HZ1.out]; omega))
  have HN := Lib.hid hnil
  have HBW := Lib.hid hbw
  have HK := Lib.hid hK
  have hne : w.heap.size + 1 ≠ E := by omega
  have c0 := cell_of_row W' _ 0 _ _ _ h3
  have f0 : W'.frozen? ⟨w.heap.size + 1, 0, none⟩ = false := by simp [World.frozen?, h3]
  simp only [List.getElem?_toArray, List.getElem?_cons_zero, List.getElem?_cons_succ] at c0
  have HNE := Lib.hid hne
  have HE := Lib.hid hE
  clear hnil hbw hm hK h1 h2 h3 hne hn hE
  go_wp2_with fail
  have hne := HNE.out
  have hk' : (W'.setCell ⟨w.heap.size + 1, 0, none⟩ (.bool false)).heap[E]? = some (.deferred (some [])) := (Below.heap_setCell _ _ _ _ (fun e => hne e.symm)).trans HK.out
  refine ⟨by simp, .inl ⟨_, _, rfl, run_takeDeferred hk', ?_⟩⟩
  have hc5 : ((W'.setCell ⟨w.heap.size + 1, 0, none⟩ (.bool false)).putObj E (.deferred none)).cell? ⟨w.heap.size + 1, 0, none⟩ = some (.bool false) := (cell_putObj hne).trans (World.cell?_setCell_same' _ _ _ (by rw [c0]; rfl))
  refine ⟨.bool false, ?_, by unfold Ld.possible; rw [HN.out]; rfl, ?_⟩
  · simp [results, Try.f50, go_sem, hc5]
  · exact Below.putO (HBW.out.setCell (by simp) _) (by have := HE.out; omega) _
 case stop =>
  rintro E c' pre F W' hE hpre ⟨rfl, h1, h2, h3⟩ hn hK hm
  rw [HZ1.out] at hE
  refine wpIn_wide.2 ?_
  have hne : w.heap.size + 1 ≠ E := by omega
  have hpn : pre ≠ [] := fun e => by have := h1.2 e; cases this
  have htn : Ld.truths b ≠ [] := fun e => hpn (by rw [e] at hpre; simpa using hpre)
  have c0 := cell_of_row W' _ 0 _ _ _ h3
  simp only [List.getElem?_toArray, List.getElem?_cons_zero, List.getElem?_cons_succ] at c0
  have hbw : Below w.heap.size w W' := (HB.out.trans (HB1.out.mono HB.out.size)).trans (hm.toBelow (B := w.heap.size) (fun k hk => by omega) (by rw [HZ1.out]; omega))
  have HBW := Lib.hid hbw
  have HTN := Lib.hid htn
  clear hpn htn hbw
  go_wp2_with fail
  refine ⟨by simp, .inl ⟨_, _, rfl, run_takeDeferred hK, ?_⟩⟩
  have hc5 : (W'.putObj E (.deferred none)).cell? ⟨w.heap.size + 1, 0, none⟩ = some (.bool true) := (cell_putObj hne).trans c0
  refine ⟨.bool true, ?_, ?_, ?_⟩
  · simp [results, Try.f50, go_sem, hc5]
  · unfold Ld.possible
    have := HTN.out
    cases h : Ld.truths b
    · exact absurd h this
    · rfl
  · exact Below.putO HBW.out (by omega) _
end Go.Proofs.Ytjgpghaofhcfnaa
namespace Go.Proofs.Ytjgpghaofhcfnaa
open Go.RowKit
theorem ret_iv {a b : Int} (h : a = b) : Ending.returned (I a) = .returned (I b) := by rw [h]
set_option maxHeartbeats 1000000 in
theorem sunk_any (b : Ld.Bk) (T D R : Value) (r : Nat) (k : Ld.Sp × Ld.Sp) (load : Int) (w : World) (hT : ∃ A n c, T = .slice A n c) (hD : ∃ A n c, D = .slice A n c) (hR : ∃ A n c, R = .slice A n c) (h0 : 0 ≤ load) (h1 : load ≤ 200) (h2 : 1 ≤ b.sink) (h3 : b.sink ≤ 20) :
 Calls Try.prog 111 #[vLg T D (.map (some r)) R b k, I load] w fun e w' => e = .returned (I (Ld.sunk b load)) ∧ Below w.heap.size w w' := by
 obtain ⟨A, n, c, rfl⟩ := hT
 obtain ⟨A1, n1, c1, rfl⟩ := hD
 obtain ⟨A2, n2, c2, rfl⟩ := hR
 have hz : b.sink ≠ 0 := by omega
 have hb : (b.sink == 0) = false := beq_eq_false_iff_ne.2 hz
 have e1 : IntKind.i64.wrap (load + b.sink) = load + b.sink := IntWalk.i64_in _ (by omega)
 have e2 : IntKind.i64.wrap (load + b.sink - 1) = load + b.sink - 1 := IntWalk.i64_in _ (by omega)
 have hq0 : 0 ≤ (load + b.sink - 1) / b.sink := Int.ediv_nonneg (by omega) (by omega)
 have hq1 : (load + b.sink - 1) / b.sink ≤ load + b.sink - 1 := Int.ediv_le_self _ (by omega)
 have e3 : IntKind.i64.wrap ((load + b.sink - 1) / b.sink) = (load + b.sink - 1) / b.sink := IntWalk.i64_in _ (by omega)
 have e4 : (load + b.sink - 1).tdiv b.sink = (load + b.sink - 1) / b.sink := Int.tdiv_eq_ediv_of_nonneg (by omega)
 clear hq0 hq1
 go_enter Try.func111, Try.ntmps111
 go_wp2
 go_ret
 exact ⟨ret_iv rfl, (Below.refl _ _).alloc (Nat.le_refl _) _⟩
abbrev vLow : Value := .agg #[.func (.func 114) #[] #[]]
abbrev vHigh : Value := .agg #[.func (.func 113) #[] #[]]
set_option maxHeartbeats 400000 in
theorem low_any (w : World) : Calls Try.prog 109 #[] w fun e w' => e = .returned vLow ∧ Below w.heap.size w w' := by
 go_enter Try.func109, Try.ntmps109
 go_wp2
 refine bodyPost_ret (v := vLow) (by simp [results, Try.results109, go_sem]) rfl ⟨rfl, ?_⟩
 exact (Below.refl _ _).alloc (Nat.le_refl _) _
set_option maxHeartbeats 400000 in
theorem high_any (w : World) : Calls Try.prog 107 #[] w fun e w' => e = .returned vHigh ∧ Below w.heap.size w w' := by
 go_enter Try.func107, Try.ntmps107
 go_wp2
 refine bodyPost_ret (v := vHigh) (by simp [results, Try.results107, go_sem]) rfl ⟨rfl, ?_⟩
 exact (Below.refl _ _).alloc (Nat.le_refl _) _
set_option maxHeartbeats 400000 in
theorem low1_any (s : Ld.Sp) (w : World) : Calls Try.prog 114 #[vSp s] w fun e w' => e = .returned (I s.lo) ∧ Below w.heap.size w w' := by
 go_enter Try.func114, Try.ntmps114
 go_wp2
 go_ret
 exact ⟨rfl, (Below.refl _ _).alloc (Nat.le_refl _) _⟩
set_option maxHeartbeats 400000 in
theorem high1_any (s : Ld.Sp) (w : World) : Calls Try.prog 113 #[vSp s] w fun e w' => e = .returned (I s.hi) ∧ Below w.heap.size w w' := by
 go_enter Try.func113, Try.ntmps113
 go_wp2
 go_ret
 exact ⟨rfl, (Below.refl _ _).alloc (Nat.le_refl _) _⟩
abbrev vOut : Value := .agg #[.func (.func 94) #[] #[], .func (.func 95) #[] #[]]
set_option maxHeartbeats 400000 in
theorem outcomes_any (w : World) : Calls Try.prog 77 #[] w fun e w' => e = .returned vOut ∧ Below w.heap.size w w' := by
 go_enter Try.func77, Try.ntmps77
 go_wp2
 refine bodyPost_ret (v := vOut) (by simp [results, Try.results77, go_sem]) rfl ⟨rfl, ?_⟩
 exact (Below.refl _ _).alloc (Nat.le_refl _) _
set_option maxHeartbeats 1000000 in
theorem greatest_any (a x : Int) (v : Value) (w : World) (hv : Sl w w.heap.size 1 v 1 [I x]) :
 Calls Try.prog 112 #[I a, v] w fun e w' => e = .returned (I (max a x)) ∧ Below w.heap.size w w' := by
 obtain ⟨b, off, c, rfl, hb, h0⟩ := hv.at1 (show 0 < 1 by omega)
 simp only [Nat.add_zero, List.getElem?_cons_zero] at h0
 clear hv hb
 go_enter Try.func112, Try.ntmps112
 go_wp2_with fail
 go_loop [0, 9] (fun m i => ∃ k : Nat, k ≤ 1 ∧ i = I k ∧ m = I (if k = 0 then a else max a x)) (fun _ i => 1 - (intOf i).toNat)
 case atStart => exact ⟨0, by omega, rfl, by simp⟩
 case round =>
  obtain ⟨k, hk, rfl, rfl⟩ := hrel
  have hcase : k = 0 ∨ k = 1 := by omega
  rcases hcase with rfl | rfl
  · rw [if_pos rfl]
    rcases Int.lt_or_le a x with h | h
    all_goals
     have hm := Int.max_def a x
     have HM := Lib.hid hm
     clear hm
     go_wp2_with fail
     go_round
     case rel => exact ⟨1, by omega, by go_num, by rw [if_neg (by omega)]; congr 1; omega⟩
     case measure => simp [intOf]
  · rw [if_neg (by omega)]
    go_wp2_with fail
    go_ret
    exact ⟨rfl, Below.refl _ _⟩
theorem infoSp : (Try.prog.info? 24).map (·.size) = some 2 := by kernel_rfl
end Go.Proofs.Ytjgpghaofhcfnaa
