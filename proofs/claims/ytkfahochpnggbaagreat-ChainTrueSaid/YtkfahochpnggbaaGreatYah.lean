/- Texts on the program that the proof leans on, part 8. -/
import Derived.Test.YtkfahochpnggbaaGreatYag
set_option linter.unusedVariables false
set_option linter.unusedSimpArgs false

/- The block that holds the truth at hand. -/
namespace Go.Proofs.YtkfahochpnggbaaGreat
open Go.RowKit

theorem tr_wear {W : World} {tb : Nat} {t : Ch.Tr} (h : W.heap[tb]? = some (oTr t)) {p : Nat} (hp : p < 4) : W.cell? ⟨tb, p, none⟩ = some (I (t.wear p)) := by
  rcases (by omega : p = 0 ∨ p = 1 ∨ p = 2 ∨ p = 3) with rfl | rfl | rfl | rfl <;> exact cell_of_row W _ _ _ _ _ h
theorem tr_lo {W : World} {tb : Nat} {t : Ch.Tr} (h : W.heap[tb]? = some (oTr t)) {s : Nat} (hs : s < 4) : W.cell? ⟨tb, 4 + s * 2, none⟩ = some (I (t.first s).lo) := by
  rcases (by omega : s = 0 ∨ s = 1 ∨ s = 2 ∨ s = 3) with rfl | rfl | rfl | rfl <;> exact cell_of_row W _ _ _ _ _ h
theorem tr_hi {W : World} {tb : Nat} {t : Ch.Tr} (h : W.heap[tb]? = some (oTr t)) {s : Nat} (hs : s < 4) : W.cell? ⟨tb, 4 + s * 2 + 1, none⟩ = some (I (t.first s).hi) := by
  rcases (by omega : s = 0 ∨ s = 1 ∨ s = 2 ∨ s = 3) with rfl | rfl | rfl | rfl <;> exact cell_of_row W _ _ _ _ _ h
theorem tr_free {W : World} {tb : Nat} {t : Ch.Tr} (h : W.heap[tb]? = some (oTr t)) (o : Nat) : W.frozen? ⟨tb, o, none⟩ = false := by simp [World.frozen?, h]
theorem tr_setWear {W : World} {tb : Nat} {t : Ch.Tr} (h : W.heap[tb]? = some (oTr t)) {p : Nat} (hp : p < 4) (v : Int) : (W.setCell ⟨tb, p, none⟩ (I v)).heap[tb]? = some (oTr (t.setWear p v)) := by
  rcases (by omega : p = 0 ∨ p = 1 ∨ p = 2 ∨ p = 3) with rfl | rfl | rfl | rfl <;> simp [World.setCell, Array.getElem?_modify, h, Ch.Tr.setWear, Ch.upd]
theorem tr_setFirst {W : World} {tb : Nat} {t : Ch.Tr} (h : W.heap[tb]? = some (oTr t)) {s : Nat} (hs : s < 4) (x : Ch.Sp) :
    ((W.setCell ⟨tb, 4 + s * 2, none⟩ (I x.lo)).setCell ⟨tb, 4 + s * 2 + 1, none⟩ (I x.hi)).heap[tb]? = some (oTr (t.setFirst s x)) := by
  rcases (by omega : s = 0 ∨ s = 1 ∨ s = 2 ∨ s = 3) with rfl | rfl | rfl | rfl <;> simp [World.setCell, Array.getElem?_modify, h, Ch.Tr.setFirst, Ch.upd]
theorem settled_eq (n p : Nat) (hp : p < n) : settledL n p = (Ch.settledN n p).map (fun x : Nat => (x : Int)) := by
  unfold settledL Ch.settledN
  by_cases h : p < n - 1 - p
  · rw [if_pos h, if_pos (by omega)]; rfl
  · rw [if_neg h, if_neg (by omega)]; simp; omega
theorem settled_lt (n p : Nat) (hp : p < n) : ∀ x ∈ Ch.settledN n p, x < n := by
  unfold Ch.settledN
  split
  · simp
  · intro x hx; simp at hx; omega

set_option maxHeartbeats 1000000 in
theorem settled_new (n p : Nat) (A : Option Addr) (c : Nat) (T V M R : Value) (rule days : Int) (w : World) (h1 : p < n) (hn : n ≤ 4) :
    Calls Tryz.prog 142 #[vLg (.slice A n c) T V rule days M R, I p] w fun e w' => (∃ A' c', e = .returned (.slice A' (Ch.settledN n p).length c') ∧
      ∀ j (hj : j < (Ch.settledN n p).length), ∃ bl off, A' = some ⟨bl, off, none⟩ ∧ w.heap.size ≤ bl ∧ bl < w'.heap.size ∧ w'.cell? ⟨bl, off + j, none⟩ = some (I ((Ch.settledN n p)[j] : Nat))) ∧ Below w.heap.size w w' := by
  have hB : Below w.heap.size w (w.alloc (cLg (.slice A n c) T V rule days M R)) := (Below.refl _ _).alloc (Nat.le_refl _) _
  have hi : (p : Int) < n := by omega
  by_cases h : (p : Int) < n - 1 - p
  · have hs : Ch.settledN n p = [] := by unfold Ch.settledN; rw [if_pos (by omega)]
    have HS := Lib.hid hs
    clear hs
    go_enter Tryz.func142, Tryz.ntmps142
    go_wp2_with fail
    refine (across_any n A c T V M R rule days p _ (by omega) hi hn).mono ?_
    rintro e w1 ⟨rfl, hB1⟩
    go_wp2_with fail
    go_ret
    refine ⟨⟨none, 0, ?_, ?_⟩, hB.trans (hB1.mono (by simp))⟩
    · rw [HS.out]; rfl
    · rw [HS.out]; intro j hj; simp at hj
  · have hs : Ch.settledN n p = [n - 1 - p, p] := by unfold Ch.settledN; rw [if_neg (by omega)]
    have HS := Lib.hid hs
    clear hs
    go_enter Tryz.func142, Tryz.ntmps142
    go_wp2_with fail
    refine (across_any n A c T V M R rule days p _ (by omega) hi hn).mono ?_
    rintro e w1 ⟨rfl, hB1⟩
    have hb1 := hB.trans (hB1.mono (by simp))
    go_wp2_with fail
    go_ret
    refine ⟨⟨some ⟨w1.heap.size, 0, none⟩, 2, ?_, ?_⟩, hb1.alloc hb1.size _⟩
    · rw [HS.out]; rfl
    · rw [HS.out]
      intro j hj
      refine ⟨_, _, rfl, hb1.size, by simp, ?_⟩
      have hc : ((n - 1 - p : Nat) : Int) = (n : Int) - 1 - p := by omega
      match j, hj with
      | 0, _ => simp [hc]
      | 1, _ => simp

theorem name_calls {P : Program} {f : Nat} {args : Array Value} {W : World} {Q : Ending → World → Prop} (h : ∀ V, V = W → Calls P f args V Q) : Calls P f args W Q := h W rfl
theorem wearLoop_pre (b : Ch.Bk) (next : Ch.Tr → List Ch.Tr × Ch.Tr) (p : Nat) (lo : Int) (t : Ch.Tr) (k : Nat) : ∀ d, (Ch.wearLoop b next p lo k t).1 <+: (Ch.wearLoop b next p lo (k + d) t).1
  | 0 => List.prefix_refl _
  | d + 1 => (wearLoop_pre b next p lo t k d).trans (List.prefix_append _ _)
theorem tryWear_yes {b : Ch.Bk} {next : Ch.Tr → List Ch.Tr × Ch.Tr} {p : Nat} {t t' : Ch.Tr} {v : Int} (h : Ch.settle b (t.setWear p v) (Ch.settledN b.secs.length p) = (t', true)) : Ch.tryWear b next p t v = next t' := by simp [Ch.tryWear, h]
theorem tryWear_no {b : Ch.Bk} {next : Ch.Tr → List Ch.Tr × Ch.Tr} {p : Nat} {t t' : Ch.Tr} {v : Int} (h : Ch.settle b (t.setWear p v) (Ch.settledN b.secs.length p) = (t', false)) : Ch.tryWear b next p t v = ([], t') := by simp [Ch.tryWear, h]
theorem settle_at {b : Ch.Bk} {t : Ch.Tr} {L : List Nat} {j : Nat} (h : j < L.length) : Ch.settle b t (L.drop j) = if Ch.isEmpty (Ch.surveyed b t.wear L[j]) then (t.setFirst L[j] (Ch.surveyed b t.wear L[j]), false) else Ch.settle b (t.setFirst L[j] (Ch.surveyed b t.wear L[j])) (L.drop (j + 1)) := by
  rw [List.drop_eq_getElem_cons h]
  simp only [Ch.settle]

/-- The closure's contract, m places being left. -/
def WornAt (b : Ch.Bk) (J Jx : List Ch.Tr → (Nat → Prop) → World → Prop) (N l : Nat) (S T V M : Value) (rule : Int) (B0 lb yb tb wb m p : Nat) : Prop :=
  ∀ (st : Ch.Tr) (pre : List Ch.Tr) (Ft : Nat → Prop) (W : World), Ch.WearOk st.wear → Sit b S T V M rule B0 lb yb tb wb l Ft W → W.heap[tb]? = some (oTr st) → J pre Ft W → pre.length + (Ch.worn b m st).1.length ≤ N →
    Calls Tryz.prog 141 #[I p, .pointer (some ⟨lb, 0, none⟩), .pointer (some ⟨yb, 0, none⟩), .pointer (some ⟨tb, 0, none⟩), .pointer (some ⟨wb, 0, none⟩)] W (WornPost J Jx pre (Ch.worn b m st).1 (Ch.worn b m st).2 Ft tb W)

/-- What holds of the loop over a place's wears, k of them being over. -/
def LoopAt (b : Ch.Bk) (J : List Ch.Tr → (Nat → Prop) → World → Prop) (m p : Nat) (lo : Int) (st : Ch.Tr) (pre : List Ch.Tr) (Ft : Nat → Prop) (tb : Nat) (W1 : World) (k : Nat) (wr : World) : Prop :=
  ∃ Ft', J (pre ++ (Ch.wearLoop b (Ch.worn b m) p lo k st).1) Ft' wr ∧ Moves W1 wr Ft Ft' (some tb) ∧ wr.heap[tb]? = some (oTr (Ch.wearLoop b (Ch.worn b m) p lo k st).2)
/-- What holds of the loop over settled sections, j of them being over. -/
def SettleAt (b : Ch.Bk) (J : List Ch.Tr → (Nat → Prop) → World → Prop) (L : List Nat) (t1 : Ch.Tr) (pre : List Ch.Tr) (Ft : Nat → Prop) (tb : Nat) (w2 : World) (j : Nat) (wi : World) : Prop :=
  ∃ t, J pre Ft wi ∧ Moves w2 wi Ft Ft (some tb) ∧ wi.heap[tb]? = some (oTr t) ∧ Ch.WearOk t.wear ∧ Ch.settle b t1 L = Ch.settle b t (L.drop j)

set_option maxHeartbeats 1000000 in
theorem worn_step (b : Ch.Bk) (J Jx : List Ch.Tr → (Nat → Prop) → World → Prop) (N l : Nat) (A : Option Addr) (c : Nat) (T V M : Value) (rule : Int) (B0 lb yb tb wb : Nat) (hJ : Own J)
    (hn : b.secs.length ≤ 4) (hdays : b.days ≤ 30) (hok : Ch.SecsOk b) (hsv : ∀ x ∈ b.svs, SvOk b x) (hm8 : b.svs.length ≤ 8) (m p : Nat) (hp : p + (m + 1) = b.secs.length)
    (ih : WornAt b J Jx N l (.slice A b.secs.length c) T V M rule B0 lb yb tb wb m (p + 1)) : WornAt b J Jx N l (.slice A b.secs.length c) T V M rule B0 lb yb tb wb (m + 1) p := by
  intro st pre Ft W hw hS hT hj hN
  have hps : p < b.secs.length := by omega
  obtain ⟨bl, off, c', hv, hbl, q0, q1, q2, q3⟩ := hS.rb.sec hps
  injection hv with hA _ hc
  subst hA hc
  have l0 : W.cell? ⟨lb, 0, none⟩ = some (.slice (some ⟨bl, off, none⟩) b.secs.length c) := cell_of_row W _ 0 _ _ _ hS.hl
  have hpb : ((p : Int) == (b.secs.length : Int)) = false := by simp; omega
  have hsec : Ch.secAt b p = b.secs[p] := by simp [Ch.secAt, hps]
  have hso := Ch.secAt_ok hok p
  rw [hsec] at hso
  obtain ⟨w0, w1, w2⟩ := hso
  have hwn : Ch.worn b (m + 1) st = Ch.wearLoop b (Ch.worn b m) p b.secs[p].wear.lo (b.secs[p].wear.hi - b.secs[p].wear.lo + 1).toNat st := by
    have : b.secs.length - (m + 1) = p := by omega
    simp only [Ch.worn, this, Ch.wears, hsec]
  have HWN := Lib.hid hwn
  have HT := Lib.hid hT
  have hpi : (p : Int) < b.secs.length := by omega
  clear hwn hT hsec
  go_enter Tryz.func141, Tryz.ntmps141
  go_wp2_with fail
  go_step3
  go_wp2_with fail
  go_step3
  go_wp2_with fail
  have ntb : ¬ tb = W.heap.size := by have := hS.tlt; omega
  have nbt : ¬ W.heap.size = tb := fun e => ntb e.symm
  have nFW : ¬ Ft W.heap.size := fun hf => by have := hJ.lt _ _ _ _ hj hf; omega
  refine name_world ?_
  intro W1 hW1
  have hS1 : Sit b (.slice (some ⟨bl, off, none⟩) b.secs.length c) T V M rule B0 lb yb tb wb l Ft W1 := by rw [hW1]; exact hS.moves ((Moves.refl W Ft (some tb)).alloc _)
  have hj1 : J pre Ft W1 := by rw [hW1]; exact hJ.alloc hj _
  have hT1 : W1.heap[tb]? = some (oTr st) := by rw [hW1]; exact (Below.heap_alloc _ _ _ hS.tlt).trans HT.out
  have hwr1 : W1.heap[W.heap.size]? = some (.cells #[I b.secs[p].wear.lo, I b.secs[p].wear.hi] 51 (0, 0)) := by rw [hW1]; exact heap_at _ _ rfl
  have hz1 : W.heap.size < W1.heap.size := by rw [hW1]; simp
  have hm1 : Moves W W1 Ft Ft (some tb) := by rw [hW1]; exact (Moves.refl W Ft (some tb)).alloc _
  clear hW1 q0 q1 q2 q3 l0
  have HW1 := Lib.hid hwr1
  have HT1 := Lib.hid hT1
  clear hwr1 hT1
  go_loopw [33] (fun i wr => ∃ k : Nat, k ≤ (b.secs[p].wear.hi - b.secs[p].wear.lo + 1).toNat ∧ i = I k ∧ LoopAt b J m p b.secs[p].wear.lo st pre Ft tb W1 k wr) (fun i _ => (b.secs[p].wear.hi - b.secs[p].wear.lo + 1).toNat - (intOf i).toNat)
  case atStart => exact ⟨0, Nat.zero_le _, rfl, Ft, by simpa [Ch.wearLoop] using hj1, Moves.refl _ _ _, HT1.out⟩
  case round =>
    obtain ⟨k, hk, rfl, Ft', hj', hm, hTk⟩ := hrel
    by_cases hlt : k < (b.secs[p].wear.hi - b.secs[p].wear.lo + 1).toNat
    · have hli : (k : Int) < b.secs[p].wear.hi - b.secs[p].wear.lo + 1 := by omega
      have hSr : Sit b (.slice (some ⟨bl, off, none⟩) b.secs.length c) T V M rule B0 lb yb tb wb l Ft' wr := hS1.moves hm
      have hwo : Ch.WearOk (Ch.wearLoop b (Ch.worn b m) p b.secs[p].wear.lo k st).2.wear := Ch.wearLoop_ok (fun t ht => Ch.worn_ok hok m t ht) p _ k st hw w0 (by omega)
      generalize hst : (Ch.wearLoop b (Ch.worn b m) p b.secs[p].wear.lo k st).2 = sk at hTk hwo
      generalize hpr : pre ++ (Ch.wearLoop b (Ch.worn b m) p b.secs[p].wear.lo k st).1 = pk at hj'
      have hwc : wr.heap[W.heap.size]? = some (.cells #[I b.secs[p].wear.lo, I b.secs[p].wear.hi] 51 (0, 0)) := (hm.block _ hz1 nFW (fun e => nbt (by injection e))).trans HW1.out
      have k0 := cell_of_row wr _ 0 _ _ _ hwc
      have g0 := cell_of_row wr _ 0 _ _ _ hSr.hl
      have g1 := cell_of_row wr _ 1 _ _ _ hSr.hl
      have g2 := cell_of_row wr _ 2 _ _ _ hSr.hl
      have g3 := cell_of_row wr _ 3 _ _ _ hSr.hl
      have g4 := cell_of_row wr _ 4 _ _ _ hSr.hl
      have g5 := cell_of_row wr _ 5 _ _ _ hSr.hl
      have g6 := cell_of_row wr _ 6 _ _ _ hSr.hl
      have tp := tr_wear hTk (show p < 4 by omega)
      have fp := tr_free hTk p
      have tl := hS.tl
      have lt : ¬ lb = tb := fun e => tl e.symm
      have hp4 : (p : Int) < 4 := by omega
      simp only [List.getElem?_toArray, List.getElem?_cons_zero, List.getElem?_cons_succ] at k0 g0 g1 g2 g3 g4 g5 g6
      have HTk := Lib.hid hTk
      have HST := Lib.hid hst
      have HPR := Lib.hid hpr
      clear hTk hst hpr hwc
      go_wp2_with fail
      refine name_calls ?_
      intro Wa hWa
      have hSa : Sit b (.slice (some ⟨bl, off, none⟩) b.secs.length c) T V M rule B0 lb yb tb wb l Ft' Wa := by rw [hWa]; exact hSr.moves ((Moves.refl wr Ft' (some tb)).set p _)
      have hTa : Wa.heap[tb]? = some (oTr (sk.setWear p (b.secs[p].wear.lo + k))) := by rw [hWa]; exact tr_setWear HTk.out (by omega) _
      have hja : J pk Ft' Wa := by rw [hWa]; exact hJ.set hj' hSr.nt _ _
      have hma : Moves W1 Wa Ft Ft' (some tb) := by rw [hWa]; exact hm.set p _
      clear hWa k0 g0 g1 g2 g3 g4 g5 g6 tp fp hj' hm hSr HTk
      obtain ⟨wo, rfl⟩ : ∃ wo : World, wo = wr := ⟨_, rfl⟩
      refine (settled_new b.secs.length p _ c T V M _ rule b.days Wa hps hn).mono ?_
      rintro e w1 ⟨⟨A', c', rfl, hv⟩, hB1⟩
      have hS2 : Sit b (.slice (some ⟨bl, off, none⟩) b.secs.length c) T V M rule B0 lb yb tb wb l Ft' w1 := hSa.moves ((Moves.refl Wa Ft' (some tb)).below hB1)
      have hj2 : J pk Ft' w1 := hJ.below hja hB1
      have hm2 : Moves W1 w1 Ft Ft' (some tb) := hma.below hB1
      have hT2 : w1.heap[tb]? = some (oTr (sk.setWear p (b.secs[p].wear.lo + k))) := (hB1.block _ hSa.tlt).trans hTa
      have hLs := settled_lt b.secs.length p hps
      have hnew : ∀ x, Wa.heap.size ≤ x → ¬ Ft' x ∧ some x ≠ some tb := fun x hx => ⟨fun hf => by have := hJ.lt _ _ _ _ hja hf; omega, fun e => by injection e with e; have := hSa.tlt; omega⟩
      have hwk : Ch.WearOk (sk.setWear p (b.secs[p].wear.lo + k)).wear := Ch.wearOk_upd hwo p (by omega) (by omega)
      clear hSa hja hma hTa hB1
      have HT2 := Lib.hid hT2
      clear hT2
      generalize hLL : Ch.settledN b.secs.length p = L at hv hLs
      have HLL := Lib.hid hLL
      clear hLL
      generalize htt : sk.setWear p (b.secs[p].wear.lo + k) = t1 at hwk HT2
      have HTT := Lib.hid htt
      clear htt
      have hL4 : L.length ≤ 2 := by rw [← HLL.out]; unfold Ch.settledN; split <;> simp
      go_wp2_with fail
      go_loopw [47] (fun i wi => ∃ j : Nat, j ≤ L.length ∧ i = I j ∧ SettleAt b J L t1 pk Ft' tb w1 j wi) (fun i _ => L.length - (intOf i).toNat)
      case atStart => exact ⟨0, Nat.zero_le _, rfl, t1, hj2, Moves.refl _ _ _, HT2.out, hwk, rfl⟩
      case round =>
        obtain ⟨j, hj, rfl, t, hji, hmi, hTi, hwi, hset⟩ := hrel
        have hSi : Sit b (.slice (some ⟨bl, off, none⟩) b.secs.length c) T V M rule B0 lb yb tb wb l Ft' wr := hS2.moves hmi
        have g0 := cell_of_row wr _ 0 _ _ _ hSi.hl
        have g1 := cell_of_row wr _ 1 _ _ _ hSi.hl
        have g2 := cell_of_row wr _ 2 _ _ _ hSi.hl
        have g3 := cell_of_row wr _ 3 _ _ _ hSi.hl
        have g4 := cell_of_row wr _ 4 _ _ _ hSi.hl
        have g5 := cell_of_row wr _ 5 _ _ _ hSi.hl
        have g6 := cell_of_row wr _ 6 _ _ _ hSi.hl
        simp only [List.getElem?_toArray, List.getElem?_cons_zero, List.getElem?_cons_succ] at g0 g1 g2 g3 g4 g5 g6
        by_cases hlj : j < L.length
        · have hsn := hLs _ (List.getElem_mem hlj)
          rw [settle_at hlj] at hset
          obtain ⟨b2, o2, hA2, hn2, hb2, hc2⟩ := hv j hlj
          subst hA2
          have hc3 : wr.cell? ⟨b2, o2 + j, none⟩ = some (I (L[j] : Nat)) := (World.cell?_of_block (hmi.block b2 hb2 (hnew b2 hn2).1 (hnew b2 hn2).2)).trans hc2
          have t0 := tr_wear hTi (show 0 < 4 by omega)
          have t1' := tr_wear hTi (show 1 < 4 by omega)
          have t2 := tr_wear hTi (show 2 < 4 by omega)
          have t3 := tr_wear hTi (show 3 < 4 by omega)
          generalize hse : L[j] = s at hsn hset hc3
          have hs4 : (s : Int) < 4 := by omega
          have hsN : s < 4 := by omega
          have HTi := Lib.hid hTi
          have HSE := Lib.hid hse
          have HSET := Lib.hid hset
          have hjl : (j : Int) < L.length := by omega
          clear hTi hse hset hc2 hv
          go_wp2_with fail
          have hl4 := tr_lo HTi.out hsN
          have hh4 := tr_hi HTi.out hsN
          refine (surveyed_any b _ T V M _ rule t.wear hwi s wr (hSi.rb.more hSi.base) (hSi.rm.more hSi.base) hn hdays hsn hsv hm8).mono ?_
          rintro e w3 ⟨rfl, hB3⟩
          have HT3 := Lib.hid ((hB3.block _ hSi.tlt).trans HTi.out)
          have c4 := tr_lo HT3.out hsN
          have c5 := tr_hi HT3.out hsN
          have f4 := tr_free HT3.out (4 + s * 2)
          have f5 := tr_free HT3.out (4 + s * 2 + 1)
          clear hl4 hh4 g0 g1 g2 g3 g4 g5 g6 t0 t1' t2 t3 hc3
          generalize hxx : Ch.surveyed b t.wear s = x at *
          go_wp2_with fail
          refine name_calls ?_
          intro Wc hWc
          have hTc : Wc.heap[tb]? = some (oTr (t.setFirst s x)) := by rw [hWc]; exact tr_setFirst HT3.out hsN x
          have hmc : Moves w1 Wc Ft' Ft' (some tb) := by rw [hWc]; exact ((hmi.below hB3).set _ _).set _ _
          have hjc : J pk Ft' Wc := by rw [hWc]; exact hJ.set (hJ.set (hJ.below hji hB3) hSi.nt _ _) hSi.nt _ _
          have hlc : tb < Wc.heap.size := heap_lt hTc
          clear hWc hB3 c4 c5 f4 f5 hmi hji
          refine (isEmpty_any x.lo x.hi Wc).mono ?_
          rintro e w4 ⟨rfl, hB4⟩
          have hT4 := Lib.hid ((hB4.block _ hlc).trans hTc)
          have hm4 : Moves w1 w4 Ft' Ft' (some tb) := hmc.below hB4
          have hj4 : J pk Ft' w4 := hJ.below hjc hB4
          clear hTc hmc hjc hB4
          by_cases hxe : x.hi < x.lo
          · have hset := HSET.out
            rw [if_pos (by simpa [Ch.isEmpty] using hxe)] at hset
            have htry := tryWear_no (next := Ch.worn b m) (by rw [HLL.out, HTT.out]; exact hset)
            have HTRY := Lib.hid htry
            clear hset htry
            go_wp2_with fail
            go_roundw
            case rel =>
              refine ⟨k + 1, by omega, by go_num, Ft', ?_, hm2.trans hm4, ?_⟩
              · simp only [Ch.wearLoop, HST.out, HTRY.out, List.append_nil, HPR.out]; exact hj4
              · simp only [Ch.wearLoop, HST.out, HTRY.out]; exact hT4.out
            case measure => simp [intOf]; omega
          · have hset := HSET.out
            rw [if_neg (by simpa [Ch.isEmpty] using hxe)] at hset
            have HSET2 := Lib.hid hset
            clear hset
            go_wp2_with fail
            go_roundw
            case rel => exact ⟨j + 1, by omega, by go_num, t.setFirst s x, hj4, hm4, hT4.out, hwi, HSET2.out⟩
            case measure => simp [intOf]; omega
        · obtain rfl : j = L.length := by omega
          rw [List.drop_length] at hset
          have HSET := Lib.hid hset
          have HTi := Lib.hid hTi
          have wc := cell_of_row wr _ 0 _ _ _ hSi.hw
          simp only [List.getElem?_toArray, List.getElem?_cons_zero, List.getElem?_cons_succ] at wc
          clear hset hTi hv g0 g1 g2 g3 g4 g5 g6
          go_wp2_with fail
          have htry := tryWear_yes (next := Ch.worn b m) (by rw [HLL.out, HTT.out]; exact HSET.out)
          have hp1 : ((p + 1 : Nat) : Int) = (p : Int) + 1 := by omega
          have hpre := wearLoop_pre b (Ch.worn b m) p b.secs[p].wear.lo st (k + 1) ((b.secs[p].wear.hi - b.secs[p].wear.lo + 1).toNat - (k + 1))
          rw [show k + 1 + ((b.secs[p].wear.hi - b.secs[p].wear.lo + 1).toNat - (k + 1)) = (b.secs[p].wear.hi - b.secs[p].wear.lo + 1).toNat by omega, ← HWN.out] at hpre
          have hone : (Ch.wearLoop b (Ch.worn b m) p b.secs[p].wear.lo (k + 1) st).1 = (Ch.wearLoop b (Ch.worn b m) p b.secs[p].wear.lo k st).1 ++ (Ch.worn b m t).1 := by simp only [Ch.wearLoop, HST.out, htry]
          have htwo : (Ch.wearLoop b (Ch.worn b m) p b.secs[p].wear.lo (k + 1) st).2 = (Ch.worn b m t).2 := by simp only [Ch.wearLoop, HST.out, htry]
          have hlen := hpre.length_le
          have hcall := ih t pk Ft' wr hwi hSi HTi.out hji (by rw [← HPR.out]; rw [hone] at hlen; simp at hlen ⊢; omega)
          rw [hp1] at hcall
          have HONE := Lib.hid hone
          have HTWO := Lib.hid htwo
          have HPRE := Lib.hid hpre
          clear hone htwo hpre hlen htry hp1
          refine hcall.mono ?_
          clear hcall
          rintro e w5 (⟨Ft5, rfl, hj5, hm5, hT5⟩ | ⟨q, Ft5, rfl, hq, hj5, hm5⟩)
          · have hT5 := Lib.hid hT5
            go_wp2_with fail
            go_roundw
            case rel =>
              refine ⟨k + 1, by omega, by go_num, Ft5, ?_, (hm2.trans hmi).trans hm5, ?_⟩
              · rw [HONE.out, ← List.append_assoc, HPR.out]; exact hj5
              · rw [HTWO.out]; exact hT5.out
            case measure => simp [intOf]; omega
          · go_wp2_with fail
            rw [Exit.noGoto_ret]
            go_ret
            refine .inr ⟨(Ch.wearLoop b (Ch.worn b m) p b.secs[p].wear.lo k st).1 ++ q, Ft5, rfl, ?_, ?_, hm1.trans ((hm2.trans hmi).trans hm5)⟩
            · refine List.IsPrefix.trans ?_ HPRE.out
              rw [HONE.out]
              exact (List.prefix_append_right_inj _).2 hq
            · rw [← List.append_assoc, HPR.out]; exact hj5
    · obtain rfl : k = (b.secs[p].wear.hi - b.secs[p].wear.lo + 1).toNat := by omega
      have hli : (((b.secs[p].wear.hi - b.secs[p].wear.lo + 1).toNat : Nat) : Int) = b.secs[p].wear.hi - b.secs[p].wear.lo + 1 := by omega
      have HTk := Lib.hid hTk
      clear hTk
      go_wp2_with fail
      rw [Exit.noGoto_ret]
      go_ret
      refine .inl ⟨Ft', rfl, ?_, hm1.trans hm, ?_⟩
      · rw [HWN.out]; exact hj'
      · rw [HWN.out]; exact HTk.out

end Go.Proofs.YtkfahochpnggbaaGreat
