/- Texts on the program that the proof leans on, part 18. -/
import Derived.Test.YtjgpghaofhcfnaaYaq
set_option linter.unusedVariables false
set_option linter.unusedSimpArgs false

namespace Go.Proofs.Ytjgpghaofhcfnaa
open Go.RowKit
attribute [local go_sem] Oper.semAt_some
structure Gives (b : Ld.Bk) (n : Nat) (R : Value) (r : Nat) (w : World) : Prop where
 sm : SM w n b.sounds b.sounds r
 tr : Sl w w.heap.size 2 R (Ld.truths b).length ((Ld.truths b).flatMap cTr)
 fr : Fresh n R
theorem Gives.up {b : Ld.Bk} {n : Nat} {R : Value} {r : Nat} {w w' : World} (h : Gives b n R r w) (hb : Below w.heap.size w w') : Gives b n R r w' := ⟨h.sm.below hb, (h.tr.below hb (Nat.le_refl _)).more hb.size, h.fr⟩
theorem Gives.kept {b : Ld.Bk} {n : Nat} {R : Value} {r m : Nat} {w w' : World} {cs : Array Value} {t : TypeId} {z : Nat × Nat} (h : Gives b n R r w) (hk : Kept1 m w w') (hm : w.heap[m]? = some (.cells cs t z)) (hn : m < n) : Gives b n R r w' :=
 ⟨h.sm.kept1 hk hm hn, (h.tr.same (fun g o q c e => hk.keep g (fun e2 => by have := h.fr g o q c e; omega))).more (by rw [hk.size]; exact Nat.le_refl _), h.fr⟩
theorem Gives.lt {b : Ld.Bk} {T D : Value} {n : Nat} {R : Value} {r : Nat} {w : World} (h : Gives b n R r w) (hb : RB w w.heap.size b T D) : LT b T D R r w := ⟨⟨hb, _, h.sm⟩, h.tr⟩
theorem SM.base {w : World} {B B' : Nat} {l dn : List Ld.Sd} {r : Nat} (h : SM w B l dn r) (hB : B' ≤ B) : SM w B' l dn r := by
 obtain ⟨es, clock, h0, h1, h2⟩ := h
 refine ⟨es, clock, h0, fun e he => ?_, h2⟩
 obtain ⟨s, hs, h3, h4, h5⟩ := h1 e he
 exact ⟨s, hs, h3, h4, h5.1, fun g o m c e => Nat.le_trans hB (h5.2 g o m c e)⟩
def StudyPost (b : Ld.Bk) (T D : Value) (n : Nat) (w' : World) (e : Ending) : Prop :=
 (Ld.truths b = [] ∧ e = .returned (.tuple #[vLg0, I 22])) ∨ (Ld.truths b ≠ [] ∧ ∃ R r, e = .returned (.tuple #[vLg T D (.map (some r)) R b (Ld.known (Ld.truths b)), I 0]) ∧ Gives b n R r w')
theorem name_round {α : Type} {I : List α → (Nat → Prop) → World → Prop} {Ix : Code → List α → (Nat → Prop) → World → Prop} {xs : List α} {Ft : Nat → Prop} {W0 W : World} {e : Exit} {a : Act} (h : ∀ V, V = W → roundEnd I Ix xs Ft W0 e a V) : roundEnd I Ix xs Ft W0 e a W := h W rfl
theorem truths_len {b : Ld.Bk} (hv : Ld.valid b = true) : (Ld.truths b).length ≤ 100000 := by
 obtain ⟨-, -, h3, -, -⟩ := Ld.valid_parts hv
 have f0 := Ld.floor_bd h3 0
 have f1 := Ld.floor_bd h3 1
 rw [show Ld.shore b 0 = b.s0 from rfl] at f0
 rw [show Ld.shore b 1 = b.s1 from rfl] at f1
 have h1 : (Ld.truths b).length ≤ (Ld.digs b).length := List.length_filter_le _ _
 have h2 : (Ld.digs b).length = (Ld.nums b.s0.floor).length * (Ld.nums b.s1.floor).length := by
  unfold Ld.digs
  generalize Ld.nums b.s0.floor = l
  induction l with
  | nil => simp
  | cons x l ih => rw [List.flatMap_cons, List.length_append, List.length_map, ih, List.length_cons, Nat.succ_mul]; omega
 have h4 : (Ld.nums b.s0.floor).length ≤ 200 := by rw [Ld.nums_len]; omega
 have h5 : (Ld.nums b.s1.floor).length ≤ 200 := by rw [Ld.nums_len]; omega
 have h6 := Nat.mul_le_mul h4 h5
 omega
theorem cell_putDef {W : World} {E : Nat} {ds ds' : Option (List Deferred)} (h : W.heap[E]? = some (.deferred ds)) (p : Addr) : (W.putObj E (.deferred ds')).cell? p = W.cell? p := by
 by_cases e : p.block = E
 · have h2 : (W.putObj E (.deferred ds')).heap[E]? = some (.deferred ds') := World.putObj_heap_same (heap_lt h)
   subst e
   simp [World.cell?, h, h2]
 · exact cell_putObj e
theorem SM.putDef {w : World} {B : Nat} {l dn : List Ld.Sd} {r E : Nat} {ds ds' : Option (List Deferred)} (h : SM w B l dn r) (hE : w.heap[E]? = some (.deferred ds)) : SM (w.putObj E (.deferred ds')) B l dn r := by
 obtain ⟨es, clock, h0, h1, h2⟩ := h
 refine ⟨es, clock, (putObj_other _ (fun e => by rw [e, hE] at h0; cases h0)).trans h0, fun e he => ?_, h2⟩
 obtain ⟨s, hs, h3, h4, h5⟩ := h1 e he
 exact ⟨s, hs, h3, h4, (h5.1.keep (fun p _ => cell_putDef hE p)).more (by simp [World.putObj]), h5.2⟩
set_option maxRecDepth 100000 in
set_option maxHeartbeats 8000000 in
theorem study_ok (b : Ld.Bk) (T D : Value) (w : World) (hb : RB w w.heap.size b T D) (hv : Ld.valid b = true) :
 Calls Try.prog 54 #[vBk T D b, .bool true] w fun e w' => StudyPost b T D w.heap.size w' e ∧ Below w.heap.size w w' := by
 obtain ⟨A0, c0, rfl⟩ := hb.tides.form
 obtain ⟨A1, c1, rfl⟩ := hb.sounds.form
 obtain ⟨hp1, hp2, hp3, hp4, hp5⟩ := Ld.valid_parts hv
 have h6 := (Ld.sized_bd hp1).2.2.2.2.2.2
 have h24 := (Ld.sized_bd hp1).2.1
 have hok : ∀ s ∈ b.sounds, SdOk s := fun s hs => by
  have := Ld.sound_bd hp5 hs
  exact ⟨by omega, by omega, this.2.2.1⟩
 have hlen := truths_len hv
 have HV := Lib.hid hv
 have HOK := Lib.hid hok
 have HRB := Lib.hid hb
 clear hp1 hp2 hp3 hp4 hp5 hok hb
 refine (callsIn_wide (n := 1)).1 ?_
 refine callsIn_of_wp_marks Try.func54 rfl trivial ?_ rfl
 simp only [Try.ntmps54, List.size_toArray, List.length_cons, List.length_nil, Nat.reduceAdd, Nat.reduceSub, Array.replicate_succ, Array.replicate_zero, List.push_toArray, List.append_toArray, List.nil_append, List.cons_append]
 refine wpIn_wide.2 ?_
 have hB0 : Below w.heap.size w ((w.alloc (.cells (rBk (.slice A0 b.tides.length c0) (.slice A1 b.sounds.length c1) b) 30)).alloc (.cells rLg0 86)) := ((Below.refl _ _).alloc (Nat.le_refl _) _).alloc (by simp) _
 go_wp2_with fail
 refine (check_any b _ _ _ (HRB.out.up hB0)).mono ?_
 rintro e w1 ⟨rfl, hB1⟩
 have hb1 : Below w.heap.size w w1 := hB0.trans (hB1.mono hB0.size)
 have e1 : w1.heap[w.heap.size + 1]? = some (.cells rLg0 86 (0, 0)) := (hB1.block _ (by simp)).trans (heap_at _ _ (by simp))
 have e0 : w1.heap[w.heap.size]? = some (.cells (rBk (.slice A0 b.tides.length c0) (.slice A1 b.sounds.length c1) b) 30 (0, 0)) := (hB1.block _ (by simp <;> omega)).trans ((Below.heap_alloc _ _ _ (by simp)).trans (heap_at _ _ rfl))
 have b0 := cell_of_row w1 _ 0 _ _ _ e0
 have b1 := cell_of_row w1 _ 1 _ _ _ e0
 have b2 := cell_of_row w1 _ 2 _ _ _ e0
 have b3 := cell_of_row w1 _ 3 _ _ _ e0
 have b4 := cell_of_row w1 _ 4 _ _ _ e0
 have b5 := cell_of_row w1 _ 5 _ _ _ e0
 have b6 := cell_of_row w1 _ 6 _ _ _ e0
 have b7 := cell_of_row w1 _ 7 _ _ _ e0
 have b8 := cell_of_row w1 _ 8 _ _ _ e0
 have b9 := cell_of_row w1 _ 9 _ _ _ e0
 have b10 := cell_of_row w1 _ 10 _ _ _ e0
 have b11 := cell_of_row w1 _ 11 _ _ _ e0
 have b12 := cell_of_row w1 _ 12 _ _ _ e0
 have b13 := cell_of_row w1 _ 13 _ _ _ e0
 simp only [List.getElem?_toArray, List.getElem?_cons_zero, List.getElem?_cons_succ] at b0 b1 b2 b3 b4 b5 b6 b7 b8 b9 b10 b11 b12 b13
 have hc : Ld.check b = 0 := by simp [Ld.check, hv]
 have hz1 : w.heap.size + 1 < w1.heap.size := heap_lt e1
 have hz0 : w.heap.size < w1.heap.size := heap_lt e0
 have E1 := Lib.hid e1
 have HB1 := Lib.hid hb1
 rw [hc]
 clear hB0 hB1 e1 e0 hc hv hb1
 go_wp2_with fail
 refine (lay_any b _ _ w1 (HRB.out.up HB1.out) (by omega) HOK.out).mono ?_
 rintro e w2 ⟨⟨r, rfl, hsm⟩, hB2⟩
 have hb2 : Below w.heap.size w w2 := HB1.out.trans (hB2.mono HB1.out.size)
 have hled : Led b (.slice A0 b.tides.length c0) (.slice A1 b.sounds.length c1) r w2 := ⟨HRB.out.up hb2, _, hsm⟩
 have E2 := Lib.hid ((hB2.block _ hz1).trans E1.out)
 have HB2 := Lib.hid hb2
 have HLED := Lib.hid hled
 have HSM2 := Lib.hid hsm
 clear hB2 hb2 hled hsm b0 b1 b2 b3 b4 b5 b6 b7 b8 b9 b10 b11 b12 b13
 have hz0r : (w2.alloc (.cells rLg0 86)).heap[w2.heap.size]? = some (.cells rLg0 86 (0, 0)) := heap_at _ _ rfl
 have HZ0 := Lib.hid hz0r
 clear hz0r
 go_upto_region 7 with (refine wpList_store_row rfl 86 (Operand.tmp 7) (Operand.tmp 19) rfl (w2.heap.size) (rLg (.slice A0 b.tides.length c0) (.slice A1 b.sounds.length c1) (.map (some r)) (.slice none 0 0) b (Ld.none, Ld.none)) rfl rfl 86 _ HZ0.out infoLg rfl (by simp [Value.oneCell']) ?_)
 refine name_world ?_
 intro W hW
 have hBW : Below w2.heap.size w2 W := by rw [hW]; exact below_setRow ((Below.refl _ _).alloc (Nat.le_refl _) _) (Nat.le_refl _) _
 have rL : W.heap[w2.heap.size]? = some (.cells (rLg (.slice A0 b.tides.length c0) (.slice A1 b.sounds.length c1) (.map (some r)) (.slice none 0 0) b (Ld.none, Ld.none)) 86 (0, 0)) := by rw [hW]; exact setRow_heap _ _ _ _ _ _ HZ0.out
 have hWz : W.heap.size = w2.heap.size + 1 := by rw [hW]; simp
 have RL := Lib.hid rL
 have HBW := Lib.hid hBW
 have HWZ := Lib.hid hWz
 clear hW hBW rL hWz
 go_wp2_with (refine wpList_load_row rfl 86 (Operand.tmp 7) rfl w2.heap.size rfl 86 (rLg (.slice A0 b.tides.length c0) (.slice A1 b.sounds.length c1) (.map (some r)) (.slice none 0 0) b (Ld.none, Ld.none)) (0, 0) _ RL.out Try.underlying86 rfl infoLg ?_)
 refine (produce_any b _ _ _ r _ _ ⟨_, _, _, rfl⟩ ⟨_, _, _, rfl⟩ ⟨_, _, _, rfl⟩).mono ?_
 rintro e w3 ⟨rfl, rfl⟩
 go_wp2_with fail
 have hbp : Below W.heap.size W (W.alloc (.cells (rLg (.slice A0 b.tides.length c0) (.slice A1 b.sounds.length c1) (.map (some r)) (.slice none 0 0) b (Ld.none, Ld.none)) 86)) := (Below.refl _ _).alloc (Nat.le_refl _) _
 have hzp : (W.alloc (.cells (rLg (.slice A0 b.tides.length c0) (.slice A1 b.sounds.length c1) (.map (some r)) (.slice none 0 0) b (Ld.none, Ld.none)) 86)).heap.size = w2.heap.size + 2 := by simp [HWZ.out]
 have HBP := Lib.hid hbp
 have HZP := Lib.hid hzp
 clear hbp hzp
 have hz2 : w.heap.size + 1 < w2.heap.size := heap_lt E2.out
 refine (wpIn_wide (n := 1)).1 (range_own 83 #[vPtr W.heap.size] vTr (Ld.truths b) (fun j => j = w2.heap.size) rfl rfl (enters_of Try.func83 (by kernel_rfl) rfl)
  (GathAt b (.slice A0 b.tides.length c0) (.slice A1 b.sounds.length c1) r w2.heap.size) (fun _ _ _ _ => False) (gathAt_own _ _ _ _ _) (fun c => ⟨fun _ _ _ _ h _ _ _ _ _ => h, fun _ _ _ _ h _ => h.elim⟩)
  ⟨_, (HBP.out.block _ (heap_lt RL.out)).trans RL.out, World.ownsRow_nil _ _ _ _, fun k => by simp [Value.ownBlock], by simp⟩ (fun t a' W' => GathAx b (.slice A0 b.tides.length c0) (.slice A1 b.sounds.length c1) r w2.heap.size t a' W') ?hax ?assign ?body ?iter ?done ?stop)
 case hax =>
  intro t a' Wq l rr o h hl
  exact gathAx_put _ _ _ _ _ _ _ _ _ _ _ h hl
 case assign =>
  intro l d pre t Fq Wq K hi hK
  gi_wp2_with fail
  refine hK _ _ ((gathAt_own _ _ _ _ _).alloc hi _) ((Below.refl _ _).alloc (Nat.le_refl _) _) ⟨Wq.heap.size, _, _, _, _, _, _, _, _, _, _, _, _, _, _, _, _, _, _, _, _, _, _, _, _, _, _, _, _, _, _, _, _, _, _, _, _, _, _, heap_at _ _ rfl, ?_, ?_, ?_, rfl⟩
  · intro v k hvk hvo
    obtain ⟨v', h1, h2, _, _⟩ := hi
    rw [Below.heap_alloc _ _ _ (heap_lt h1), h1] at hvk
    injection hvk with hvk
    injection hvk with hvk
    have hvv := congrArg (fun a : Array Value => a[15]?) hvk
    simp at hvv
    subst hvv
    have := (h2.lt _ hvo).2
    omega
  · obtain ⟨v', h1, _⟩ := hi
    exact ⟨v', _, (Below.heap_alloc _ _ _ (heap_lt h1)).trans h1⟩
  · obtain ⟨v', h1, _⟩ := hi
    have := heap_lt h1
    omega
 case iter =>
  intro J Jx l Fx W1 hJ hJx hY hj hB hFx hFt
  have hlw : Below w2.heap.size w2 W1 := HBW.out.trans ((HBP.out.trans (hB.mono HBP.out.size)).mono HBW.out.size)
  refine produce1_any b J Jx l _ _ _ 0 r _ w2 W.heap.size hJ hJx hY HLED.out ⟨_, _, rfl⟩ HV.out Fx W1 hlw (fun j h => ?_) (fun h => ?_) ((hB.block _ (by rw [HZP.out, HWZ.out]; omega)).trans (heap_at _ _ rfl)) hj
  · rcases hFx j h with h' | h'
    · omega
    · rw [HZP.out] at h'; omega
  · have hz := HWZ.out
    rcases hFx _ h with h' | h'
    · omega
    · rw [HZP.out] at h'; omega
 case body =>
  rintro l d pre t Fq a' W' ⟨v, h1, h2, h3, h4⟩ ⟨Bx, u0, u1, u2, u3, u4, u5, u6, u9, u10, u11, u12, u13, u14, u15, u16, u17, u18, u19, u20, u21, u22, u23, u24, u25, u26, u27, u28, u29, u30, u31, u32, u33, u34, u35, u36, u37, u38, u39, hbx, hvo, -, hne, rfl⟩ hpre
  have hpl : pre.length < 100000 := by
   have := hpre.length_le
   simp at this
   omega
  have hown := hvo v _ h1
  have hxl := heap_lt h1
  have hbl := heap_lt hbx
  obtain ⟨K, hK⟩ : ∃ K, Ld.known pre = K := ⟨_, rfl⟩
  have hkn : Ld.known (pre ++ [t]) = Ld.knownStep K t := by rw [Ld.known_snoc, hK]
  rw [hK] at h1
  have c15 := cell_of_row W' _ 15 _ _ _ h1
  have t0 := cell_of_row W' _ 0 _ _ _ hbx
  have t1 := cell_of_row W' _ 1 _ _ _ hbx
  simp only [List.getElem?_toArray, List.getElem?_cons_zero, List.getElem?_cons_succ] at c15 t0 t1
  have H1 := Lib.hid h1
  have H2 := Lib.hid h2
  have H3 := Lib.hid h3
  have H4 := Lib.hid h4
  have HBX := Lib.hid hbx
  have HKN := Lib.hid hkn
  have HNE := Lib.hid hne
  have HOWNE := Lib.hid hown
  obtain ⟨i0, hi, hzz0, hzz1, hzz2⟩ := info_parts infoTr
  have hone : ∀ u ∈ cTr t, u.oneCell' = true := by intro u hu; simp [cTr] at hu; rcases hu with rfl | rfl <;> rfl
  have HON := Lib.hid hone
  have hn6 : ∀ g, v.ownBlock = some g → g ≠ w2.heap.size := fun g hg => by have := (h2.lt g hg).1; omega
  have HN6 := Lib.hid hn6
  clear h1 h2 h3 h4 hbx hone hn6 hkn hK hne hown hvo hpre
  gi_wp2_with (gi_at_builtin; go_must (refine wpListIn_append_own_at _ rfl _ _ 82 rfl (w2.heap.size + 1) 112 i0 (vTr ⟨0, 0⟩) 2 16 underTrs hi hzz0 hzz1 hzz2 rfl (by decide) v pre.length (pre.flatMap cTr) rfl (H2.out.alloc _) ⟨W'.heap.size, 0, none⟩ 1 1 (cTr t) rfl rfl (cTr_cells W' t) HON.out (by unfold maxLen; omega) (by omega) (by simp; omega) ?_; intro v' wa hown' hgrow hnil hat; obtain ⟨g', cap', rfl⟩ := ownsRow_succ hown'; have hx1 := (hgrow.block _ (by simp; omega) (fun e => HN6.out _ e.symm rfl)).trans ((Below.heap_alloc W' _ _ hxl).trans H1.out); have hbx1 := (hgrow.block _ (by simp; omega) (fun e => HOWNE.out e.symm)).trans ((Below.heap_alloc W' _ _ hbl).trans HBX.out); have d15 := cell_of_row wa _ 15 _ _ _ hx1; have d16 := cell_of_row wa _ 16 _ _ _ hx1; have d17 := cell_of_row wa _ 17 _ _ _ hx1; have d18 := cell_of_row wa _ 18 _ _ _ hx1; have d19 := cell_of_row wa _ 19 _ _ _ hx1; have x0 := cell_of_row wa _ 0 _ _ _ hbx1; have x1 := cell_of_row wa _ 1 _ _ _ hbx1; have hnel : Bx ≠ w2.heap.size := HNE.out; simp only [List.getElem?_toArray, List.getElem?_cons_zero, List.getElem?_cons_succ] at d15 d16 d17 d18 d19 x0 x1; have z15 : wa.frozen? ⟨w2.heap.size, 15, none⟩ = false := (by simp [World.frozen?, hx1]); have HX1 := Lib.hid hx1; have HOWN := Lib.hid hown'; have HGR := Lib.hid hgrow; have HAT := Lib.hid hat; clear hx1 hbx1 hown' hgrow hnil hat))
  refine ⟨trivial, fun h => by simp [Fence.wide] at h, ?_⟩
  refine (CallsIn.inRound l (callsIn_wide.2 (floorsJoin_any K t _))).mono ?_
  rintro e w5 ⟨rfl, hB5⟩
  have hrow4 : (wa.setCell ⟨w2.heap.size, 15, none⟩ (.slice (some ⟨g', 0, none⟩) (pre.length + 1) cap')).heap[w2.heap.size]? = some (oLg (.slice A0 b.tides.length c0) (.slice A1 b.sounds.length c1) (.map (some r)) (.slice (some ⟨g', 0, none⟩) (pre.length + 1) cap') b K) := by simp [World.setCell, Array.getElem?_modify, HX1.out]
  have hrow5 := (hB5.block _ (heap_lt hrow4)).trans hrow4
  have y16 := cell_of_row w5 _ 16 _ _ _ hrow5
  have y17 := cell_of_row w5 _ 17 _ _ _ hrow5
  have y18 := cell_of_row w5 _ 18 _ _ _ hrow5
  have y19 := cell_of_row w5 _ 19 _ _ _ hrow5
  simp only [List.getElem?_toArray, List.getElem?_cons_zero, List.getElem?_cons_succ] at y16 y17 y18 y19
  have yf : ∀ j, w5.frozen? ⟨w2.heap.size, j, none⟩ = false := fun j => by simp [World.frozen?, hrow5]
  have yf16 := yf 16
  have yf17 := yf 17
  have yf18 := yf 18
  have yf19 := yf 19
  have hk4 : Kept1 w2.heap.size wa (wa.setCell ⟨w2.heap.size, 15, none⟩ (.slice (some ⟨g', 0, none⟩) (pre.length + 1) cap')) := (Kept1.refl _ _).set _ _
  have HR5 := Lib.hid hrow5
  have HB5 := Lib.hid hB5
  have HK4 := Lib.hid hk4
  clear hrow4 hrow5 hB5 hk4 yf d15 d16 d17 d18 d19 x0 x1 z15 c15 t0 t1 hi hzz0 hzz1 hzz2
  gi_wp2_with fail
  refine name_round ?_
  intro W9 hW9
  have hk9 : Kept1 w2.heap.size w5 W9 := by rw [hW9]; exact ((((Kept1.refl _ _).set _ _).set _ _).set _ _).set _ _
  have hrow9 : W9.heap[w2.heap.size]? = some (oLg (.slice A0 b.tides.length c0) (.slice A1 b.sounds.length c1) (.map (some r)) (.slice (some ⟨g', 0, none⟩) (pre.length + 1) cap') b (Ld.knownStep K t)) := by rw [hW9]; simp [World.setCell, Array.getElem?_modify, HR5.out]
  clear hW9
  have hg' := HOWN.out.lt g' rfl
  have ho4 := HOWN.out.kept (w' := wa.setCell ⟨w2.heap.size, 15, none⟩ (.slice (some ⟨g', 0, none⟩) (pre.length + 1) cap')) (row := some w2.heap.size) ⟨HK4.out.os, HK4.out.tape, HK4.out.output, by rw [HK4.out.size]; exact Nat.le_refl _, fun i _ hi => HK4.out.keep i (fun e => hi (by rw [e]))⟩ (.inr (fun e => by simp [Value.ownBlock] at e; omega))
  have ho5 := ho4.kept (grown_of_below HB5.out none) (by simp [Value.ownBlock])
  have ho9 := ho5.kept (w' := W9) (row := some w2.heap.size) ⟨hk9.os, hk9.tape, hk9.output, by rw [hk9.size]; exact Nat.le_refl _, fun i _ hi => hk9.keep i (fun e => hi (by rw [e]))⟩ (.inr (fun e => by simp [Value.ownBlock] at e; omega))
  refine ⟨fun j => j = w2.heap.size ∨ j = g', ⟨.slice (some ⟨g', 0, none⟩) (pre.length + 1) cap', ?_, ?_, fun j => ⟨fun h => h.imp id (fun e => by rw [e]; rfl), fun h => h.imp id (fun e => by injection e with e; exact e.symm)⟩, ⟨fun e => (by injection e with e; cases e), fun e => (by simp at e)⟩⟩, ?_⟩
  · rw [HKN.out]; exact hrow9
  · simpa using ho9
  · refine ⟨hk9.os.trans (HB5.out.os.trans (HK4.out.os.trans HGR.out.os)), hk9.tape.trans (HB5.out.tape.trans (HK4.out.tape.trans HGR.out.tape)), hk9.output.trans (HB5.out.output.trans (HK4.out.output.trans HGR.out.output)), ?_, ?_, ?_⟩
    · have a1 := hk9.size
      have a2 := HB5.out.size
      have a3 := HK4.out.size
      have a4 := HGR.out.size
      simp at a4
      omega
    · intro j hj hF _
      have hn1 : j ≠ w2.heap.size := fun e => hF ((H3.out j).2 (.inl e))
      have hn2 : some j ≠ v.ownBlock := fun e => hF ((H3.out j).2 (.inr e.symm))
      have a3 := HK4.out.size
      have a4 := HGR.out.size
      simp at a4
      exact (hk9.keep j hn1).trans ((HB5.out.block j (by omega)).trans ((HK4.out.keep j hn1).trans ((HGR.out.block j (by simp; omega) hn2).trans (Below.heap_alloc W' _ _ hj))))
    · rintro j (rfl | rfl)
      · exact .inl ((H3.out _).2 (.inl rfl))
      · rcases HAT.out with h | h
        · exact .inl ((H3.out _).2 (.inr (by rw [← h]; rfl)))
        · simp [Value.ownBlock] at h
          exact .inr (by omega)
 case done =>
  rintro E Fq Wq hE ⟨v, h1, h2, h3, h4⟩ hnE hKd hm
  rw [HZP.out] at hE
  have eR : Wq.heap[w.heap.size + 1]? = some (.cells rLg0 86 (0, 0)) := (hm.block _ (by rw [HZP.out]; omega) (by omega) (by simp)).trans ((HBP.out.block _ (by rw [HWZ.out]; omega)).trans ((HBW.out.block _ hz2).trans E2.out))
  have hbW : Below w2.heap.size w2 Wq := (HBW.out.trans (HBP.out.mono HBW.out.size)).trans (hm.toBelow (B := w2.heap.size) (fun k hk => by omega) (by rw [HZP.out]; omega))
  have hbw : Below w.heap.size w Wq := HB2.out.trans (hbW.mono HB2.out.size)
  have k16 := cell_of_row Wq _ 16 _ _ _ h1
  have k17 := cell_of_row Wq _ 17 _ _ _ h1
  have k18 := cell_of_row Wq _ 18 _ _ _ h1
  have k19 := cell_of_row Wq _ 19 _ _ _ h1
  simp only [List.getElem?_toArray, List.getElem?_cons_zero, List.getElem?_cons_succ] at k16 k17 k18 k19
  have hxl := heap_lt h1
  have hrl := heap_lt eR
  have es : ∀ w', (Op.equalIn 10000 84 (.agg #[I (Ld.known (Ld.truths b)).1.lo, I (Ld.known (Ld.truths b)).1.hi, I (Ld.known (Ld.truths b)).2.lo, I (Ld.known (Ld.truths b)).2.hi]) (.agg #[I Ld.none.lo, I Ld.none.hi, I Ld.none.lo, I Ld.none.hi])).run Try.prog w' = .ok (decide (Ld.truths b = [])) w' := fun w' => by
   rw [← Ld.known_none]; exact eq_floors _ _ _ _ _ _ _ _ w'
  have H1 := Lib.hid h1
  have H2 := Lib.hid h2
  have H3 := Lib.hid h3
  have ER := Lib.hid eR
  have HBWW := Lib.hid hbw
  have HBW2 := Lib.hid hbW
  have HKD := Lib.hid hKd
  have HNE := Lib.hid hnE
  have HE := Lib.hid hE
  clear h1 h2 h3 eR hbW hbw hKd hm hnE hE
  obtain ⟨K, hK⟩ : ∃ K, Ld.known (Ld.truths b) = K := ⟨_, rfl⟩
  have HKK := Lib.hid hK
  rw [hK] at es k16 k17 k18 k19
  clear hK
  by_cases hnil : Ld.truths b = []
  · have hd : decide (Ld.truths b = []) = true := by simp [hnil]
    rw [hd] at es
    have HNIL := Lib.hid hnil
    clear hd hnil h4
    go_wp2_with fail
    refine name_act ?_
    intro A9 hA
    obtain ⟨Q, hQ⟩ : ∃ Q : Act → World → Prop, Q = fun a' w' => (∃ u34 u35 u36, a' = ((((A9.put (some 34) u34).put (some 35) u35).put (some 36) u36).put (some 37) (.bool true))) ∧ Held Wq w' := ⟨_, rfl⟩
    have HQ := Lib.hid hQ
    clear hQ
    refine wp_between Q ?first ?rest
    case first =>
     subst hA
     have hK0 : Held Wq Wq.drew := held_start Wq
     refine wp_region_held_drew (S := fun w' => Held Wq w') (by kernel_rfl) hK0 (fun _ => ?_)
     refine wpAnyH_take (i := 0) (oi := { dst := some 34, op := Op.fieldAddr 86 (Operand.tmp 7) 3, type := 0, pos := "ledger.go:72", after := #[], guard := none }) (v := ?v1) rfl (by kernel_rfl) (by kernel_rfl) (by kernel_rfl) (fun _ _ _ h => h) (Or.inl ⟨by rfl, ?hy1⟩) hK0 ?r1
     case hy1 =>
      intro w' hSw
      have hq := hSw.1
      clear hSw
      go_simp
      with_reducible rfl
     try simp only [putL]
     refine wpAnyH_take (i := 1) (oi := { dst := some 35, op := Op.load 84 (Operand.tmp 34), type := 84, pos := "ledger.go:72", after := #[{ on := 0, ground := Ground.data }], guard := none }) (v := ?v2) rfl (by kernel_rfl) (by kernel_rfl) (by kernel_rfl) (fun _ _ _ h => h) (Or.inl ⟨by rfl, ?hy2⟩) hK0 ?r2
     case hy2 =>
      intro w' hSw
      have hq := hSw.1
      clear hSw
      go_simp
      with_reducible rfl
     try simp only [putL]
     refine wpAnyH_ready (rs := [2]) (by kernel_rfl) (by simp) ?_
     refine AllReadyH.cons rfl (fun K hK => ?_) AllReadyH.nil
     go_simp
     refine (unknown_any _).mono ?_
     rintro e w3 ⟨rfl, hBw3⟩
     have hSw3 := held_step hBw3 hK0
     refine hK.out _ _ hSw3 (fun _ => ?_)
     clear hK K
     try simp only [putL]
     refine wpAnyH_take (i := 3) (oi := { dst := some 37, op := Op.binOp BinOp.eql 84 (Operand.tmp 35) (Operand.tmp 36) 84, type := 4, pos := "ledger.go:72", after := #[{ on := 1, ground := Ground.data }, { on := 2, ground := Ground.data }], guard := none }) (v := ?v4) rfl (by kernel_rfl) (by kernel_rfl) (by kernel_rfl) (fun _ _ _ h => h) (Or.inl ⟨by rfl, ?hy4⟩) hSw3 ?r4
     case hy4 =>
      intro w' hSw
      have hq := hSw.1
      clear hSw
      go_simp
      with_reducible rfl
     try simp only [putL]
     refine wpAnyH_done (by kernel_rfl) ?_ _
     show Q _ _
     rw [HQ.out]
     simp only [putL]
     exact ⟨⟨_, _, _, rfl⟩, hSw3⟩
    case rest =>
     intro a' w9 hra
     rw [HQ.out] at hra
     clear HQ
     obtain ⟨⟨u34, u35, u36, rfl⟩, hS9⟩ := hra
     subst hA
     try simp only [putL]
     clear es
     have hb9 : Below Wq.heap.size Wq w9 := hS9.2.2
     have er := (hb9.block _ hrl).trans ER.out
     have hkd := (hb9.block _ (heap_lt HKD.out)).trans HKD.out
     have hr1 := (hb9.block _ hxl).trans H1.out
     rw [HKK.out] at hr1
     have HER := Lib.hid er
     have HKD9 := Lib.hid hkd
     have HR1 := Lib.hid hr1
     have HB9 := Lib.hid hb9
     clear er hkd hr1 hb9 k16 k17 k18 k19
     go_wp2_with (refine wpList_store_row rfl 86 (Operand.tmp 4) (Operand.tmp 38) rfl (w.heap.size + 1) rLg0 rfl rfl 86 _ HER.out infoLg rfl (by simp [Value.oneCell']) ?_)
     refine name_leave ?_
     intro W7 hW7
     have hkp : Kept1 (w.heap.size + 1) w9 W7 := by rw [hW7]; exact ⟨fun k hk => setRow_other _ _ _ _ hk, by simp, rfl, rfl, rfl⟩
     have hrw : W7.heap[w.heap.size + 1]? = some (.cells rLg0 86 (0, 0)) := by rw [hW7]; exact setRow_heap _ _ _ _ _ _ HER.out
     clear hW7
     have hE := HE.out
     have hk7 : W7.heap[E]? = some (.deferred (some [])) := (hkp.keep _ (by omega)).trans HKD9.out
     have hrp : (W7.putObj E (.deferred none)).heap[w.heap.size + 1]? = some (.cells rLg0 86 (0, 0)) := (putObj_other _ (by omega)).trans hrw
     have hbz := HBWW.out.size
     have hbel : Below w.heap.size w (W7.putObj E (.deferred none)) := Below.putO (below_sets (HBWW.out.trans (HB9.out.mono hbz)) (by omega) hkp hkp.os hkp.tape hkp.output) (by omega) _
     refine ⟨by simp, .inl ⟨_, _, rfl, run_takeDeferred (b := E) (ds := []) hk7, ?_⟩⟩
     exact ⟨.tuple #[vLg0, I 22], results_cell_tmp_row rfl _ _ (w.heap.size + 1) 86 rLg0 (0, 0) _ rfl hrp Try.underlying86 rfl infoLg rfl, .inl ⟨HNIL.out, rfl⟩, hbel⟩
  · have hd : decide (Ld.truths b = []) = false := by simp [hnil]
    rw [hd] at es
    have HNIL := Lib.hid hnil
    clear hd hnil h4
    go_wp2_with fail
    refine name_act ?_
    intro A9 hA
    obtain ⟨Q, hQ⟩ : ∃ Q : Act → World → Prop, Q = fun a' w' => (∃ u34 u35 u36, a' = ((((A9.put (some 34) u34).put (some 35) u35).put (some 36) u36).put (some 37) (.bool false))) ∧ Held Wq w' := ⟨_, rfl⟩
    have HQ := Lib.hid hQ
    clear hQ
    refine wp_between Q ?first ?rest
    case first =>
     subst hA
     have hK0 : Held Wq Wq.drew := held_start Wq
     refine wp_region_held_drew (S := fun w' => Held Wq w') (by kernel_rfl) hK0 (fun _ => ?_)
     refine wpAnyH_take (i := 0) (oi := { dst := some 34, op := Op.fieldAddr 86 (Operand.tmp 7) 3, type := 0, pos := "ledger.go:72", after := #[], guard := none }) (v := ?v5) rfl (by kernel_rfl) (by kernel_rfl) (by kernel_rfl) (fun _ _ _ h => h) (Or.inl ⟨by rfl, ?hy5⟩) hK0 ?r5
     case hy5 =>
      intro w' hSw
      have hq := hSw.1
      clear hSw
      go_simp
      with_reducible rfl
     try simp only [putL]
     refine wpAnyH_take (i := 1) (oi := { dst := some 35, op := Op.load 84 (Operand.tmp 34), type := 84, pos := "ledger.go:72", after := #[{ on := 0, ground := Ground.data }], guard := none }) (v := ?v6) rfl (by kernel_rfl) (by kernel_rfl) (by kernel_rfl) (fun _ _ _ h => h) (Or.inl ⟨by rfl, ?hy6⟩) hK0 ?r6
     case hy6 =>
      intro w' hSw
      have hq := hSw.1
      clear hSw
      go_simp
      with_reducible rfl
     try simp only [putL]
     refine wpAnyH_ready (rs := [2]) (by kernel_rfl) (by simp) ?_
     refine AllReadyH.cons rfl (fun K hK => ?_) AllReadyH.nil
     go_simp
     refine (unknown_any _).mono ?_
     rintro e w7 ⟨rfl, hBw7⟩
     have hSw7 := held_step hBw7 hK0
     refine hK.out _ _ hSw7 (fun _ => ?_)
     clear hK K
     try simp only [putL]
     refine wpAnyH_take (i := 3) (oi := { dst := some 37, op := Op.binOp BinOp.eql 84 (Operand.tmp 35) (Operand.tmp 36) 84, type := 4, pos := "ledger.go:72", after := #[{ on := 1, ground := Ground.data }, { on := 2, ground := Ground.data }], guard := none }) (v := ?v8) rfl (by kernel_rfl) (by kernel_rfl) (by kernel_rfl) (fun _ _ _ h => h) (Or.inl ⟨by rfl, ?hy8⟩) hSw7 ?r8
     case hy8 =>
      intro w' hSw
      have hq := hSw.1
      clear hSw
      go_simp
      with_reducible rfl
     try simp only [putL]
     refine wpAnyH_done (by kernel_rfl) ?_ _
     show Q _ _
     rw [HQ.out]
     simp only [putL]
     exact ⟨⟨_, _, _, rfl⟩, hSw7⟩
    case rest =>
     intro a' w9 hra
     rw [HQ.out] at hra
     clear HQ
     obtain ⟨⟨u34, u35, u36, rfl⟩, hS9⟩ := hra
     subst hA
     try simp only [putL]
     clear es
     have hb9 : Below Wq.heap.size Wq w9 := hS9.2.2
     have er := (hb9.block _ hrl).trans ER.out
     have hkd := (hb9.block _ (heap_lt HKD.out)).trans HKD.out
     have hr1 := (hb9.block _ hxl).trans H1.out
     rw [HKK.out] at hr1
     have HER := Lib.hid er
     have HKD9 := Lib.hid hkd
     have HR1 := Lib.hid hr1
     have HB9 := Lib.hid hb9
     clear er hkd hr1 hb9 k16 k17 k18 k19
     obtain ⟨Av, cv, rfl⟩ := (sl_ownN H2.out (Nat.le_refl _)).form
     go_wp2_with (first | (refine wpList_load_row rfl 86 (Operand.tmp 7) rfl w2.heap.size rfl 86 (rLg (.slice A0 b.tides.length c0) (.slice A1 b.sounds.length c1) (.map (some r)) (.slice Av (Ld.truths b).length cv) b K) (0, 0) _ HR1.out Try.underlying86 rfl infoLg ?_) | (refine wpList_store_row rfl 86 (Operand.tmp 4) (Operand.tmp 39) rfl (w.heap.size + 1) (rLg (.slice A0 b.tides.length c0) (.slice A1 b.sounds.length c1) (.map (some r)) (.slice Av (Ld.truths b).length cv) b K) rfl rfl 86 _ HER.out infoLg rfl (by simp [Value.oneCell']) ?_))
     refine name_leave ?_
     intro W7 hW7
     have hkp : Kept1 (w.heap.size + 1) w9 W7 := by rw [hW7]; exact ⟨fun k hk => setRow_other _ _ _ _ hk, by simp, rfl, rfl, rfl⟩
     have hrw : W7.heap[w.heap.size + 1]? = some (.cells (rLg (.slice A0 b.tides.length c0) (.slice A1 b.sounds.length c1) (.map (some r)) (.slice Av (Ld.truths b).length cv) b K) 86 (0, 0)) := by rw [hW7]; exact setRow_heap _ _ _ _ _ _ HER.out
     clear hW7
     have hE := HE.out
     have hk7 : W7.heap[E]? = some (.deferred (some [])) := (hkp.keep _ (by omega)).trans HKD9.out
     have hrp : (W7.putObj E (.deferred none)).heap[w.heap.size + 1]? = some (.cells (rLg (.slice A0 b.tides.length c0) (.slice A1 b.sounds.length c1) (.map (some r)) (.slice Av (Ld.truths b).length cv) b K) 86 (0, 0)) := (putObj_other _ (by omega)).trans hrw
     have hbz := HBWW.out.size
     have hbel : Below w.heap.size w (W7.putObj E (.deferred none)) := Below.putO (below_sets (HBWW.out.trans (HB9.out.mono hbz)) (by omega) hkp hkp.os hkp.tape hkp.output) (by omega) _
     refine ⟨by simp, .inl ⟨_, _, rfl, run_takeDeferred (b := E) (ds := []) hk7, ?_⟩⟩
     refine ⟨.tuple #[(vLg (.slice A0 b.tides.length c0) (.slice A1 b.sounds.length c1) (.map (some r)) (.slice Av (Ld.truths b).length cv) b K), I 0], results_cell_tmp_row rfl _ _ (w.heap.size + 1) 86 (rLg (.slice A0 b.tides.length c0) (.slice A1 b.sounds.length c1) (.map (some r)) (.slice Av (Ld.truths b).length cv) b K) (0, 0) _ rfl hrp Try.underlying86 rfl infoLg rfl, .inr ⟨HNIL.out, .slice Av (Ld.truths b).length cv, r, by rw [HKK.out], ?_, ?_, ?_⟩, hbel⟩
     · exact (SM.putDef (SM.kept1 ((HSM2.out.below HBW2.out).below HB9.out) hkp HER.out hz1) hk7).base HB1.out.size
     · have hs9 : Sl w9 w9.heap.size 2 (.slice Av (Ld.truths b).length cv) (Ld.truths b).length ((Ld.truths b).flatMap cTr) := ((sl_ownN H2.out (Nat.le_refl _)).below HB9.out (Nat.le_refl _)).more HB9.out.size
       have hs7 := hs9.same (w' := W7) (fun g o m c e => hkp.keep g (fun e2 => by have := (H2.out.lt g (by rw [e]; rfl)).1; omega))
       exact (hs7.keep (fun p _ => cell_putDef hk7 p)).more (by rw [← hkp.size]; simp [World.putObj])
     · exact fun g o m c e => by have := (H2.out.lt g (by rw [e]; rfl)).1; have := HB2.out.size; omega
 case stop =>
  rintro E c' pre F W' hE hpre h
  exact h.elim
end Go.Proofs.Ytjgpghaofhcfnaa
namespace Go.Proofs.Ytjgpghaofhcfnaa
open Go.RowKit
structure Told (b : Ld.Bk) (T D : Value) (proper : Bool) (n : Nat) (w : World) (L : Array Value) : Prop where
 size : L.size = 20
 one : L.all (·.oneCell') = true
 no : Ld.studyE b proper ≠ 0 → L = rLg0
 yes : Ld.studyE b proper = 0 → ∃ R r, L = rLg T D (.map (some r)) R b (Ld.known (Ld.truths b)) ∧ Gives b n R r w
theorem Told.up {b : Ld.Bk} {T D : Value} {proper : Bool} {n : Nat} {w w' : World} {L : Array Value} (h : Told b T D proper n w L) (hb : Below w.heap.size w w') : Told b T D proper n w' L :=
 ⟨h.size, h.one, h.no, fun e => by obtain ⟨R, r, h1, h2⟩ := h.yes e; exact ⟨R, r, h1, h2.up hb⟩⟩
theorem Told.row {b : Ld.Bk} {T D : Value} {proper : Bool} {n m : Nat} {w : World} {L cs old : Array Value} {t : TypeId} {z : Nat × Nat} (h : Told b T D proper n w L) (hm : w.heap[m]? = some (.cells old t z)) (hn : m < n) : Told b T D proper n (w.setRow m cs) L :=
 ⟨h.size, h.one, h.no, fun e => by obtain ⟨R, r, h1, h2⟩ := h.yes e; exact ⟨R, r, h1, h2.kept ⟨fun k hk => setRow_other _ _ _ _ hk, by simp, rfl, rfl, rfl⟩ hm hn⟩⟩
theorem study_told (b : Ld.Bk) (T D : Value) (proper : Bool) (w : World) (hb : RB w w.heap.size b T D) :
 Calls Try.prog 54 #[vBk T D b, .bool proper] w fun e w' => (∃ L, e = .returned (.tuple #[.agg L, I (Ld.studyE b proper)]) ∧ Told b T D proper w.heap.size w' L) ∧ Below w.heap.size w w' := by
 obtain ⟨A0, c0, rfl⟩ := hb.tides.form
 obtain ⟨A1, c1, rfl⟩ := hb.sounds.form
 have hbad : Ld.valid b = false ∨ proper = false → Ld.studyE b proper ≠ 0 := by
  intro h
  by_cases hv : Ld.valid b = true
  · have hp : proper = false := by rcases h with h | h; (rw [hv] at h; cases h); exact h
    have hc : Ld.check b = 0 := by simp [Ld.check, hv]
    simp [Ld.studyE, hc, hp]
  · have hc : Ld.check b = 20 := by simp [Ld.check, hv]
    simp [Ld.studyE, hc]
 by_cases h : Ld.valid b = false ∨ proper = false
 · refine (study_bad b _ _ proper w hb h).mono ?_
   rintro e w' ⟨rfl, hB⟩
   exact ⟨⟨rLg0, rfl, rfl, by simp [Value.oneCell'], fun _ => rfl, fun e => absurd e (hbad h)⟩, hB⟩
 · have hv : Ld.valid b = true := by cases hq : Ld.valid b; exact absurd (.inl hq) h; rfl
   have hp : proper = true := by cases hq : proper; exact absurd (.inr hq) h; rfl
   subst hp
   have hc : Ld.check b = 0 := by simp [Ld.check, hv]
   refine (study_ok b _ _ w hb hv).mono ?_
   rintro e w' ⟨(⟨hn, rfl⟩ | ⟨hn, R, r, rfl, hg⟩), hB⟩
   · have he : Ld.studyE b true = 22 := by simp [Ld.studyE, hc, hn]
     exact ⟨⟨rLg0, by rw [he], rfl, by simp [Value.oneCell'], fun _ => rfl, fun e => by rw [he] at e; cases e⟩, hB⟩
   · have he : Ld.studyE b true = 0 := by simp [Ld.studyE, hc, hn]
     obtain ⟨A2, c2, rfl⟩ := hg.tr.form
     exact ⟨⟨_, by rw [he], rfl, by simp [Value.oneCell'], fun h => absurd he h, fun _ => ⟨_, r, rfl, hg⟩⟩, hB⟩
end Go.Proofs.Ytjgpghaofhcfnaa
