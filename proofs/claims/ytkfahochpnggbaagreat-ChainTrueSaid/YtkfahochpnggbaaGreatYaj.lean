/- Texts on the program that the proof leans on, part 10. -/
import Derived.Test.YtkfahochpnggbaaGreatYai
import Derived.Maps.OwnIn
import Derived.Maps.AppendAt
set_option linter.unusedVariables false
set_option linter.unusedSimpArgs false

/- Contract of chain's study. -/
namespace Go.Proofs.YtkfahochpnggbaaGreat
open Go.RowKit
attribute [local go_sem] Oper.semAt_some

namespace Ch
theorem wearLoop_len {b : Bk} {next : Tr → List Tr × Tr} {c : Nat} (hn : ∀ t, (next t).1.length ≤ c) (p : Nat) (lo : Int) (k : Nat) (t : Tr) : (wearLoop b next p lo k t).1.length ≤ k * c := by
  induction k with
  | zero => simp [wearLoop]
  | succ k ih =>
    have h1 : (tryWear b next p (wearLoop b next p lo k t).2 (lo + k)).1.length ≤ c := by
      simp only [tryWear]
      split
      · exact hn _
      · simp
    simp only [wearLoop, List.length_append]
    rw [Nat.succ_mul]
    omega
theorem worn_len {b : Bk} (h : SecsOk b) (m : Nat) (t : Tr) : (worn b m t).1.length ≤ 4 ^ m := by
  induction m generalizing t with
  | zero => simp [worn]
  | succ m ih =>
    have := secAt_ok h (b.secs.length - (m + 1))
    have h1 : wears b (b.secs.length - (m + 1)) ≤ 4 := by unfold wears; omega
    have h2 := wearLoop_len (b := b) (fun t => ih t) (b.secs.length - (m + 1)) (secAt b (b.secs.length - (m + 1))).wear.lo (wears b (b.secs.length - (m + 1))) t
    simp only [worn]
    refine Nat.le_trans h2 ?_
    rw [Nat.pow_succ, Nat.mul_comm]
    exact Nat.mul_le_mul_left _ h1
theorem truths_len {b : Bk} (h : SecsOk b) (hn : b.secs.length ≤ 4) : (truths b).length ≤ 256 := by
  refine Nat.le_trans (worn_len h _ _) ?_
  exact Nat.pow_le_pow_right (n := 4) (by omega) hn
/-- What is said first of a question about a book. -/
def studyE (b : Bk) (proper : Bool) : Int := if valid b = true then (if proper then (if truths b = [] then 12 else 0) else 11) else 10
end Ch
theorem fine_of_valid {b : Ch.Bk} (h : Ch.valid b = true) : Fine b := by
  simp only [Ch.valid, Bool.and_eq_true] at h
  obtain ⟨⟨⟨⟨h1, h2⟩, _⟩, _⟩, h5⟩ := h
  have hs := Ch.sized_secs h1
  have hd := Ch.sized_days h1
  have hm : b.svs.length ≤ 8 := by simp [Ch.sized, Ch.bnds, Ch.between] at h1; omega
  refine ⟨hs.2, hd.2, ?_, ?_, hm⟩
  · intro s hs'
    have := List.all_eq_true.1 h2 s hs'
    simp [Ch.okSec, Ch.isSpan] at this
    omega
  · intro x hx
    have := List.all_eq_true.1 h5 x hx
    simp [Ch.isSurvey, Ch.isSection, Ch.isDay, Ch.between] at this
    exact ⟨by omega, by omega, by omega, by omega, by omega, by omega, by omega, by omega⟩

def cTr (t : Ch.Tr) : List Value := [I (t.wear 0), I (t.wear 1), I (t.wear 2), I (t.wear 3), I (t.first 0).lo, I (t.first 0).hi, I (t.first 1).lo, I (t.first 1).hi, I (t.first 2).lo, I (t.first 2).hi, I (t.first 3).lo, I (t.first 3).hi]
abbrev vLg0 : Value := vLg (.slice none 0 0) (.slice none 0 0) (.slice none 0 0) 0 0 (.map none) (.slice none 0 0)
theorem infoTr : (Tryz.prog.info? 114).map (fun i => (i.zero, i.size, i.bytes)) = some (some (vTr Ch.noTr), 12, 96) := by kernel_rfl

set_option maxHeartbeats 1000000 in
theorem study_bad (b : Ch.Bk) (S T V : Value) (proper : Bool) (w : World) (hb : RB w w.heap.size b S T V) (h : Ch.valid b = false ∨ proper = false) :
    Calls Tryz.prog 81 #[vBk S T V b.rule b.days, .bool proper] w fun e w' => e = .returned (.tuple #[vLg0, I (Ch.studyE b proper)]) ∧ Below w.heap.size w w' := by
  obtain ⟨A, c, rfl⟩ := hb.secs.form
  obtain ⟨A1, c1, rfl⟩ := hb.turns.form
  obtain ⟨A2, c2, rfl⟩ := hb.svs.form
  go_enter Tryz.func81, Tryz.ntmps81
  go_wp2_with fail
  have hB0 : Below w.heap.size w ((w.alloc (.cells #[.slice A b.secs.length c, .slice A1 b.turns.length c1, .slice A2 b.svs.length c2, I b.rule, I b.days] 26)).alloc (cLg (.slice none 0 0) (.slice none 0 0) (.slice none 0 0) 0 0 (.map none) (.slice none 0 0))) := ((Below.refl _ _).alloc (Nat.le_refl _) _).alloc (by simp) _
  refine (check_any b _ _ _ _ ((hb.below hB0 (Nat.le_refl _)).more hB0.size)).mono ?_
  rintro e w1 ⟨rfl, hB1⟩
  have hb1 : Below w.heap.size w w1 := hB0.trans (hB1.mono hB0.size)
  have e1 : w1.heap[w.heap.size + 1]? = some (cLg (.slice none 0 0) (.slice none 0 0) (.slice none 0 0) 0 0 (.map none) (.slice none 0 0)) := (hB1.block _ (by simp)).trans (heap_at _ _ (by simp))
  have f1 : ∀ j, w1.frozen? ⟨w.heap.size + 1, j, none⟩ = false := fun j => by simp [World.frozen?, e1]
  have g1 : ∀ j, w1.cell? ⟨w.heap.size + 1, j, none⟩ = #[.slice none 0 0, .slice none 0 0, .slice none 0 0, I 0, I 0, .map none, .slice none 0 0][j]? := fun j => cell_of_row w1 _ j _ _ _ e1
  clear hB0 hB1 e1 hb
  by_cases hv : Ch.valid b = true
  · have hp : proper = false := by rcases h with h | h; (rw [hv] at h; cases h); exact h
    subst hp
    have hc : Ch.check b = 0 := by simp [Ch.check, hv]
    have hE : Ch.studyE b false = 11 := by simp [Ch.studyE, hv]
    rw [hc]
    have HE := Lib.hid hE
    clear hc hE h
    go_wp2_with fail
    refine bodyPost_ret (v := .tuple #[vLg0, I 11]) ?_ rfl ⟨by rw [HE.out], ?_⟩
    · simp [results, Tryz.results81, go_sem, g1]
    · repeat (refine Below.setCell ?_ (by simp <;> omega) _)
      exact hb1
  · have hv : Ch.valid b = false := by simpa using hv
    have hc : Ch.check b = 10 := by simp [Ch.check, hv]
    have hE : Ch.studyE b proper = 10 := by simp [Ch.studyE, hv]
    rw [hc]
    have HE := Lib.hid hE
    clear hc hE h
    go_wp2_with fail
    refine bodyPost_ret (v := .tuple #[vLg0, I 10]) ?_ rfl ⟨by rw [HE.out], ?_⟩
    · simp [results, Tryz.results81, go_sem, g1]
    · repeat (refine Below.setCell ?_ (by simp <;> omega) _)
      exact hb1

/-- What the loop of study has gathered. -/
def GathAt (b : Ch.Bk) (S T V M : Value) (lx : Nat) (pre : List Ch.Tr) (Ft : Nat → Prop) (W : World) : Prop :=
  ∃ v, W.heap[lx]? = some (cLg S T V b.rule b.days M v) ∧ W.ownsRow (lx + 1) 114 12 v pre.length (pre.flatMap cTr) ∧ (∀ k, Ft k ↔ k = lx ∨ v.ownBlock = some k) ∧ (v = .slice none 0 0 ↔ pre = [])
theorem gathAt_own (b : Ch.Bk) (S T V M : Value) (lx : Nat) : Own (GathAt b S T V M lx) := by
  refine ⟨?_, ?_⟩
  · rintro pre Ft W W' ⟨v, h1, h2, h3, h4⟩ e1 e2 e3 e4 e5
    refine ⟨v, (e5 _ ((h3 _).2 (.inl rfl))).trans h1, ⟨h2.1, ?_⟩, h3, h4⟩
    rcases h2.2 with h | ⟨g, cap, cur, hv, hb, hg, rest⟩
    · exact .inl h
    · exact .inr ⟨g, cap, cur, hv, hb, (e5 _ ((h3 _).2 (.inr (by rw [hv]; rfl)))).trans hg, rest⟩
  · rintro pre Ft W k ⟨v, h1, h2, h3, h4⟩ hk
    rcases (h3 k).1 hk with rfl | h
    · exact heap_lt h1
    · exact (h2.lt k h).2

end Go.Proofs.YtkfahochpnggbaaGreat

/- Contract of chain's study: a book about which something is asked. -/
namespace Go.Proofs.YtkfahochpnggbaaGreat
open Go.RowKit
attribute [local go_sem] Oper.semAt_some

theorem RM.ne_cells {w : World} {B : Nat} {b : Ch.Bk} {r k : Nat} {cs : Array Value} {t : TypeId} {z : Nat × Nat} (h : RM w B b (.map (some r))) (hk : w.heap[k]? = some (.cells cs t z)) : r ≠ k := fun e => by
  obtain ⟨r', es', cl', hM1, _, hM2, _⟩ := h
  injection hM1 with hM1
  injection hM1 with hM1
  subst hM1
  rw [e, hk] at hM2
  cases hM2
theorem RM.ne_deferred {w : World} {B : Nat} {b : Ch.Bk} {r k : Nat} {ds : Option (List Deferred)} (h : RM w B b (.map (some r))) (hk : w.heap[k]? = some (.deferred ds)) : r ≠ k := fun e => by
  obtain ⟨r', es', cl', hM1, _, hM2, _⟩ := h
  injection hM1 with hM1
  injection hM1 with hM1
  subst hM1
  rw [e, hk] at hM2
  cases hM2

/-- All but one block is as it was. -/
structure Kept1 (x : Nat) (W W' : World) : Prop where
  keep : ∀ k, k ≠ x → W'.heap[k]? = W.heap[k]?
  size : W'.heap.size = W.heap.size
  os : W'.os = W.os
  tape : W'.tape = W.tape
  output : W'.output = W.output
theorem Kept1.refl (x : Nat) (W : World) : Kept1 x W W := ⟨fun _ _ => rfl, rfl, rfl, rfl, rfl⟩
theorem Kept1.set {x : Nat} {W W' : World} (h : Kept1 x W W') (o : Nat) (v : Value) : Kept1 x W (W'.setCell ⟨x, o, none⟩ v) :=
  ⟨fun k hk => (Below.heap_setCell _ _ _ _ hk).trans (h.keep k hk), by rw [← h.size]; simp [World.setCell], h.os, h.tape, h.output⟩
theorem below_sets {B x : Nat} {w W W' : World} (h : Below B w W) (hx : B ≤ x) (k : Kept1 x W W') (h1 : W'.os = W.os) (h2 : W'.tape = W.tape) (h3 : W'.output = W.output) : Below B w W' :=
  ⟨h1.trans h.os, h2.trans h.tape, h3.trans h.output, by rw [k.size]; exact h.size, fun i hi => (k.keep i (by omega)).trans (h.block i hi)⟩

theorem name_leave {fn : Func} {R : Ending → World → Prop} {e : Exit} {a : Act} {w : World} (h : ∀ W, W = w → bodyPostM Fence.wide 1 Tryz.prog fn R e a W) : bodyPostM Fence.wide 1 Tryz.prog fn R e a w := h w rfl

/-- The ledger that comes back: none, if there is no truth. -/
def studyL (b : Ch.Bk) (L : Value) : Value := if Ch.truths b = [] then vLg0 else L

/-- A round's temporaries: the ledger's box, the truth's box. -/
def GathAx (lx : Nat) (t : Ch.Tr) (a' : Act) (W : World) : Prop :=
  ∃ Bx u0 u1 u2 u3 u4 u5 u6 u9 u10 u11 u12 u13 u14 u15 u16 u17 u18 u19 u20 u21 u22 u23 u24 u25 u26 u27 u28 u29 u30 u31 u32 u33 u34, W.heap[Bx]? = some (oTr t) ∧
    a' = { tmps := #[u0, u1, u2, u3, u4, u5, u6, .pointer (some ⟨lx, 0, none⟩), .pointer (some ⟨Bx, 0, none⟩), u9, u10, u11, u12, u13, u14, u15, u16, u17, u18, u19, u20, u21, u22, u23, u24, u25, u26, u27, u28, u29, u30, u31, u32, u33, u34], defers := [] }
theorem gathAx_put (lx : Nat) (t : Ch.Tr) (a' : Act) (W : World) (l : Nat) (r : Loop) (o : Obj) (h : GathAx lx t a' W) (hl : W.heap[l]? = some (.loop r)) : GathAx lx t a' (W.putObj l o) := by
  obtain ⟨Bx, u0, u1, u2, u3, u4, u5, u6, u9, u10, u11, u12, u13, u14, u15, u16, u17, u18, u19, u20, u21, u22, u23, u24, u25, u26, u27, u28, u29, u30, u31, u32, u33, u34, hb, e⟩ := h
  refine ⟨Bx, u0, u1, u2, u3, u4, u5, u6, u9, u10, u11, u12, u13, u14, u15, u16, u17, u18, u19, u20, u21, u22, u23, u24, u25, u26, u27, u28, u29, u30, u31, u32, u33, u34, ?_, e⟩
  rw [putObj_other o (fun e => by rw [e, hl] at hb; cases hb)]
  exact hb
theorem under57 : Tryz.prog.underlying 91 = some (.slice 114) := by kernel_rfl
theorem cTr_cells (W : World) (t : Ch.Tr) : ∀ j u, (cTr t)[j]? = some u → (W.alloc (.cells #[I (t.wear 0), I (t.wear 1), I (t.wear 2), I (t.wear 3), I (t.first 0).lo, I (t.first 0).hi, I (t.first 1).lo, I (t.first 1).hi, I (t.first 2).lo, I (t.first 2).hi, I (t.first 3).lo, I (t.first 3).hi] 114)).cell? ((⟨W.heap.size, 0, none⟩ : Addr).add j) = some u := by
  intro j u hu
  have hadd : (⟨W.heap.size, 0, none⟩ : Addr).add j = ⟨W.heap.size, j, none⟩ := by unfold Addr.add; split <;> simp_all
  rw [hadd, cell_of_row _ W.heap.size j _ _ _ (heap_at W _ rfl)]
  simpa [cTr] using hu

set_option maxRecDepth 100000 in
set_option maxHeartbeats 1000000 in
theorem study_ok (b : Ch.Bk) (S T V : Value) (w : World) (hb : RB w w.heap.size b S T V) (hv : Ch.valid b = true) :
    Calls Tryz.prog 81 #[vBk S T V b.rule b.days, .bool true] w fun e w' =>
      (∃ M R, e = .returned (.tuple #[studyL b (vLg S T V b.rule b.days M R), I (Ch.studyE b true)]) ∧ (∃ r, M = .map (some r)) ∧ RM w' w'.heap.size b M ∧ Sl w' w'.heap.size 12 R (Ch.truths b).length ((Ch.truths b).flatMap cTr)) ∧ Below w.heap.size w w' := by
  obtain ⟨A, c, rfl⟩ := hb.secs.form
  obtain ⟨A1, c1, rfl⟩ := hb.turns.form
  obtain ⟨A2, c2, rfl⟩ := hb.svs.form
  have hf := fine_of_valid hv
  have hd0 : 0 ≤ b.days := by
    simp only [Ch.valid, Bool.and_eq_true] at hv
    have := Ch.sized_days hv.1.1.1.1
    omega
  refine (callsIn_wide (n := 1)).1 ?_
  refine callsIn_of_wp_marks Tryz.func81 rfl trivial ?_ rfl
  simp only [Tryz.ntmps81, List.size_toArray, List.length_cons, List.length_nil, Nat.reduceAdd, Nat.reduceSub, Array.replicate_succ, Array.replicate_zero, List.push_toArray, List.append_toArray, List.nil_append, List.cons_append]
  refine wpIn_wide.2 ?_
  go_wp2_with fail
  have hB0 : Below w.heap.size w ((w.alloc (.cells #[.slice A b.secs.length c, .slice A1 b.turns.length c1, .slice A2 b.svs.length c2, I b.rule, I b.days] 26)).alloc (cLg (.slice none 0 0) (.slice none 0 0) (.slice none 0 0) 0 0 (.map none) (.slice none 0 0))) := ((Below.refl _ _).alloc (Nat.le_refl _) _).alloc (by simp) _
  refine (check_any b _ _ _ _ ((hb.below hB0 (Nat.le_refl _)).more hB0.size)).mono ?_
  rintro e w1 ⟨rfl, hB1⟩
  have hb1 : Below w.heap.size w w1 := hB0.trans (hB1.mono hB0.size)
  have e1 : w1.heap[w.heap.size + 1]? = some (cLg (.slice none 0 0) (.slice none 0 0) (.slice none 0 0) 0 0 (.map none) (.slice none 0 0)) := (hB1.block _ (by simp)).trans (heap_at _ _ (by simp))
  have e0 : w1.heap[w.heap.size]? = some (.cells #[.slice A b.secs.length c, .slice A1 b.turns.length c1, .slice A2 b.svs.length c2, I b.rule, I b.days] 26 (0, 0)) := (hB1.block _ (by simp; omega)).trans ((Below.heap_alloc _ _ _ (by simp)).trans (heap_at _ _ rfl))
  have g0 : ∀ j, w1.cell? ⟨w.heap.size, j, none⟩ = #[.slice A b.secs.length c, .slice A1 b.turns.length c1, .slice A2 b.svs.length c2, I b.rule, I b.days][j]? := fun j => cell_of_row w1 _ j _ _ _ e0
  have hc : Ch.check b = 0 := by simp [Ch.check, hv]
  have hz1 : w.heap.size + 1 < w1.heap.size := by have := hB1.size; simp at this; omega
  have HV := Lib.hid hv
  have HE1 := Lib.hid e1
  rw [hc]
  clear hB0 hB1 e1 e0 hc hv
  go_wp2_with fail
  refine (lay_any b _ _ _ w1 ((hb.below hb1 (Nat.le_refl _)).more hb1.size) hf.n4 hd0 hf.days).mono ?_
  rintro e w2 ⟨⟨M, rfl, hM⟩, hB2⟩
  obtain ⟨r, es, clock, rfl, hr, hrest⟩ := hM
  have hM : RM w2 w2.heap.size b (.map (some r)) := ⟨r, es, clock, rfl, hr, hrest⟩
  clear hrest hr
  have hb2 : Below w.heap.size w w2 := hb1.trans (hB2.mono hb1.size)
  have HE2 := Lib.hid ((hB2.block _ hz1).trans HE1.out)
  have hz2 : w.heap.size + 1 < w2.heap.size := Nat.lt_of_lt_of_le hz1 hB2.size
  clear g0 hB2
  go_wp2_with fail
  refine (produce_any _ _ _ _ _ b.rule b.days A _ _ _ rfl).mono ?_
  rintro e w3 ⟨rfl, rfl⟩
  go_wp2_with fail
  have hb3 : Below w2.heap.size w2 ((w2.alloc (.cells #[.slice A b.secs.length c, .slice A1 b.turns.length c1, .slice A2 b.svs.length c2, I b.rule, I b.days, .map (some r), .slice none 0 0] 93)).alloc (cLg (.slice A b.secs.length c) (.slice A1 b.turns.length c1) (.slice A2 b.svs.length c2) b.rule b.days (.map (some r)) (.slice none 0 0))) :=
    ((Below.refl _ _).alloc (Nat.le_refl _) _).alloc (by simp) _
  have hrow : ((w2.alloc (.cells #[.slice A b.secs.length c, .slice A1 b.turns.length c1, .slice A2 b.svs.length c2, I b.rule, I b.days, .map (some r), .slice none 0 0] 93)).alloc (cLg (.slice A b.secs.length c) (.slice A1 b.turns.length c1) (.slice A2 b.svs.length c2) b.rule b.days (.map (some r)) (.slice none 0 0))).heap[w2.heap.size]? = some (cLg (.slice A b.secs.length c) (.slice A1 b.turns.length c1) (.slice A2 b.svs.length c2) b.rule b.days (.map (some r)) (.slice none 0 0)) :=
    (Below.heap_alloc _ _ _ (by simp)).trans (heap_at _ _ rfl)
  have hlen := Ch.truths_len hf.secs hf.n4
  refine (wpIn_wide (n := 1)).1 (range_truths b (.slice A b.secs.length c) (.slice A1 b.turns.length c1) (.slice A2 b.svs.length c2) (.map (some r)) b.rule w2.heap.size (w2.heap.size + 1) (fun k => k = w2.heap.size) rfl rfl hf
    ⟨(hb.below hb2 (Nat.le_refl _) |>.more hb2.size).below hb3 (Nat.le_refl _), hM.below hb3 (Nat.le_refl _), hb3.size, fun k hk => by omega, by omega, heap_at _ _ (by simp)⟩
    (GathAt b (.slice A b.secs.length c) (.slice A1 b.turns.length c1) (.slice A2 b.svs.length c2) (.map (some r)) w2.heap.size) (fun _ _ _ _ => False) (gathAt_own _ _ _ _ _ _) (fun c => ⟨fun _ _ _ _ h _ _ _ _ _ => h, fun _ _ _ _ h _ => h.elim⟩)
    ⟨_, hrow, World.ownsRow_nil _ _ _ _, fun k => by simp [Value.ownBlock], by simp⟩ (GathAx w2.heap.size) (gathAx_put w2.heap.size) ?assign ?body ?done ?stop)
  case assign =>
    intro l d pre t F W K hi hK
    gi_wp2_with fail
    exact hK _ _ ((gathAt_own _ _ _ _ _ _).alloc hi _) ((Below.refl _ _).alloc (Nat.le_refl _) _) ⟨_, _, _, _, _, _, _, _, _, _, _, _, _, _, _, _, _, _, _, _, _, _, _, _, _, _, _, _, _, _, _, _, _, _, heap_at _ _ rfl, rfl⟩
  case body =>
    rintro l d pre t F a' W ⟨v, h1, h2, h3, h4⟩ ⟨Bx, u0, u1, u2, u3, u4, u5, u6, u9, u10, u11, u12, u13, u14, u15, u16, u17, u18, u19, u20, u21, u22, u23, u24, u25, u26, u27, u28, u29, u30, u31, u32, u33, u34, hbx, rfl⟩ hk
    have c6 := cell_of_row W _ 6 _ _ _ h1
    have t0 := cell_of_row W _ 0 _ _ _ hbx
    have t1 := cell_of_row W _ 1 _ _ _ hbx
    have t2 := cell_of_row W _ 2 _ _ _ hbx
    have t3 := cell_of_row W _ 3 _ _ _ hbx
    have t4 := cell_of_row W _ 4 _ _ _ hbx
    have t5 := cell_of_row W _ 5 _ _ _ hbx
    have t6 := cell_of_row W _ 6 _ _ _ hbx
    have t7 := cell_of_row W _ 7 _ _ _ hbx
    have t8 := cell_of_row W _ 8 _ _ _ hbx
    have t9 := cell_of_row W _ 9 _ _ _ hbx
    have t10 := cell_of_row W _ 10 _ _ _ hbx
    have t11 := cell_of_row W _ 11 _ _ _ hbx
    simp only [List.getElem?_toArray, List.getElem?_cons_zero, List.getElem?_cons_succ] at c6 t0 t1 t2 t3 t4 t5 t6 t7 t8 t9 t10 t11
    have hxl := heap_lt h1
    have H1 := Lib.hid h1
    have H3 := Lib.hid h3
    have H4 := Lib.hid h4
    have H2 := Lib.hid h2
    obtain ⟨i0, hi, hz0, hz1', hz2'⟩ := info_parts infoTr
    have hone : ∀ u ∈ cTr t, u.oneCell' = true := by intro u hu; simp [cTr] at hu; rcases hu with rfl | rfl | rfl | rfl | rfl | rfl | rfl | rfl | rfl | rfl | rfl | rfl <;> rfl
    have HON := Lib.hid hone
    have hpl : pre.length < 256 := by omega
    have hn6 : ∀ g, v.ownBlock = some g → g ≠ w2.heap.size := fun g hg => by have := (h2.lt g hg).1; omega
    have HN6 := Lib.hid hn6
    clear hb3 hrow h1 h3 h4 h2 hbx hone hn6
    gi_wp2_with (gi_at_builtin; go_must (refine wpListIn_append_own_at _ rfl _ _ 91 rfl (w2.heap.size + 1) 114 i0 (vTr Ch.noTr) 12 96 under57 hi hz0 hz1' hz2' rfl (by decide) v pre.length (pre.flatMap cTr) rfl (H2.out.alloc _) ⟨W.heap.size, 0, none⟩ 1 1 (cTr t) rfl rfl (cTr_cells W t) HON.out (by unfold maxLen; omega) (by omega) (by simp; omega) ?_; intro v' w1 hown' hgrow hnil hat; obtain ⟨g', cap', rfl⟩ := ownsRow_succ hown'; have hx1 := (hgrow.block _ (by simp; omega) (fun e => HN6.out _ e.symm rfl)).trans ((Below.heap_alloc W _ _ hxl).trans H1.out); have d6 := cell_of_row w1 _ 6 _ _ _ hx1; have z6 : w1.frozen? ⟨w2.heap.size, 6, none⟩ = false := (by simp [World.frozen?, hx1]); have HX1 := Lib.hid hx1; have HOWN := Lib.hid hown'; have HGR := Lib.hid hgrow; have HAT := Lib.hid hat; clear hx1 hown' hgrow hnil hat))
    have hg' := HOWN.out.lt g' rfl
    refine ⟨fun k => k = w2.heap.size ∨ k = g', ⟨.slice (some ⟨g', 0, none⟩) (pre.length + 1) cap', ?_, ?_, fun k => ⟨fun h => h.imp id (fun e => by rw [e]; rfl), fun h => h.imp id (fun e => by injection e with e; exact e.symm)⟩, ⟨fun e => (by injection e with e; cases e), fun e => (by simp at e)⟩⟩, HGR.out.os, HGR.out.tape, HGR.out.output, ?_, ?_, ?_⟩
    · simp [World.setCell, Array.getElem?_modify, HX1.out]
    · have hk := HOWN.out.kept (w' := w1.setCell ⟨w2.heap.size, 6, none⟩ (.slice (some ⟨g', 0, none⟩) (pre.length + 1) cap')) (row := some w2.heap.size) ⟨rfl, rfl, rfl, by simp [World.setCell], fun k _ hk => Below.heap_setCell _ _ _ _ (fun e => hk (by rw [e]))⟩ (.inr (fun e => by simp [Value.ownBlock] at e; omega))
      simpa using hk
    · have := HGR.out.size
      simp [World.setCell] at this ⊢
      omega
    · intro k hk hF _
      have hn1 : k ≠ w2.heap.size := fun e => hF ((H3.out k).2 (.inl e))
      have hn2 : some k ≠ v.ownBlock := fun e => hF ((H3.out k).2 (.inr e.symm))
      exact (Below.heap_setCell _ _ _ _ hn1).trans ((HGR.out.block k (by simp; omega) hn2).trans (Below.heap_alloc W _ _ hk))
    · rintro k (rfl | rfl)
      · exact .inl ((H3.out _).2 (.inl rfl))
      · rcases HAT.out with h | h
        · exact .inl ((H3.out _).2 (.inr (by rw [← h]; rfl)))
        · simp [Value.ownBlock] at h
          exact .inr (by omega)
  case done =>
    rintro D F W hD ⟨v, h1, h2, h3, h4⟩ hn hK hm
    have hsz3 : ((w2.alloc (.cells #[.slice A b.secs.length c, .slice A1 b.turns.length c1, .slice A2 b.svs.length c2, I b.rule, I b.days, .map (some r), .slice none 0 0] 93)).alloc (cLg (.slice A b.secs.length c) (.slice A1 b.turns.length c1) (.slice A2 b.svs.length c2) b.rule b.days (.map (some r)) (.slice none 0 0))).heap.size = w2.heap.size + 2 := by simp
    rw [hsz3] at hD
    have eR : W.heap[w.heap.size + 1]? = some (cLg (.slice none 0 0) (.slice none 0 0) (.slice none 0 0) 0 0 (.map none) (.slice none 0 0)) := (hm.block _ (by rw [hsz3]; omega) (by omega) (by simp)).trans ((hb3.block _ hz2).trans HE2.out)
    have fR : ∀ j, W.frozen? ⟨w.heap.size + 1, j, none⟩ = false := fun j => by simp [World.frozen?, eR]
    have gR : ∀ j, W.cell? ⟨w.heap.size + 1, j, none⟩ = #[.slice none 0 0, .slice none 0 0, .slice none 0 0, I 0, I 0, .map none, .slice none 0 0][j]? := fun j => cell_of_row W _ j _ _ _ eR
    have gX : ∀ j, W.cell? ⟨w2.heap.size, j, none⟩ = #[.slice A b.secs.length c, .slice A1 b.turns.length c1, .slice A2 b.svs.length c2, I b.rule, I b.days, .map (some r), v][j]? := fun j => cell_of_row W _ j _ _ _ h1
    have hbW : Below w2.heap.size w2 W := hb3.trans (hm.toBelow (fun k hk => by omega) hb3.size)
    have hbw : Below w.heap.size w W := hb2.trans (hbW.mono hb2.size)
    have hMW : RM W W.heap.size b (.map (some r)) := (hM.below hbW (Nat.le_refl _)).more hbW.size
    have hRne : w.heap.size + 1 ≠ D := by omega
    have HMW := Lib.hid hMW
    have HER := Lib.hid eR
    have HRN := Lib.hid (And.intro (hMW.ne_cells eR) (hMW.ne_deferred hK))
    have HBW := Lib.hid hbw
    have HK := Lib.hid hK
    have HD : Hid (w.heap.size ≤ D) := Lib.hid (by omega)
    by_cases hnil : Ch.truths b = []
    · obtain rfl := h4.2 hnil
      have hE : Ch.studyE b true = 12 := by simp [Ch.studyE, HV.out, hnil]
      have HE := Lib.hid hE
      have HNIL := Lib.hid hnil
      clear hMW hbw hbW hm h1 h2 h3 h4 hE hnil hb3 hrow hlen hb hM hd0 hD eR hn hK hsz3
      go_wp2_with fail
      refine name_leave ?_
      intro W7 hW7
      have hkp : Kept1 (w.heap.size + 1) W W7 := by rw [hW7]; exact (((((((Kept1.refl _ _).set _ _).set _ _).set _ _).set _ _).set _ _).set _ _).set _ _
      have hos : W7.os = W.os ∧ W7.tape = W.tape ∧ W7.output = W.output := ⟨hkp.os, hkp.tape, hkp.output⟩
      have hrw : W7.heap[w.heap.size + 1]? = some (cLg (.slice none 0 0) (.slice none 0 0) (.slice none 0 0) 0 0 (.map none) (.slice none 0 0)) := by rw [hW7]; simp [World.setCell, Array.getElem?_modify, HER.out]
      clear hW7
      have hk7 : W7.heap[D]? = some (.deferred (some [])) := (hkp.keep _ (fun e => hRne e.symm)).trans HK.out
      have hq : ∀ (j : Nat), (W7.putObj D (.deferred none)).cell? ⟨w.heap.size + 1, j, none⟩ = #[.slice none 0 0, .slice none 0 0, .slice none 0 0, I 0, I 0, .map none, .slice none 0 0][j]? := fun j => (cell_putObj hRne).trans (cell_of_row W7 _ j _ _ _ hrw)
      refine ⟨by simp, .inl ⟨_, _, rfl, run_takeDeferred (b := D) (ds := []) hk7, ?_⟩⟩
      refine ⟨.tuple #[vLg0, I 12], ?_, ⟨.map (some r), .slice none 0 0, ?_, ⟨r, rfl⟩, ?_, ?_⟩, ?_⟩
      · simp [results, Tryz.f81, go_sem, hq]
      · rw [studyL, if_pos HNIL.out, HE.out]
      · exact (HMW.out.same ((putObj_other _ HRN.out.2).trans (hkp.keep _ HRN.out.1))).more (by rw [← hkp.size]; simp [World.putObj])
      · rw [HNIL.out]; exact ⟨rfl, none, 0, rfl, Nat.le_refl _, by unfold maxLen; omega, fun h => by simp at h⟩
      · exact Below.putO (below_sets HBW.out (by omega) hkp hos.1 hos.2.1 hos.2.2) HD.out _
    · obtain ⟨n0, hn0⟩ : ∃ n0, (Ch.truths b).length = n0 + 1 := by
        cases hl : Ch.truths b with
        | nil => exact absurd hl hnil
        | cons x l => exact ⟨l.length, rfl⟩
      have h2' := h2
      rw [hn0] at h2'
      obtain ⟨g, cap, rfl⟩ := ownsRow_succ h2'
      have hE : Ch.studyE b true = 0 := by simp [Ch.studyE, HV.out, hnil]
      have HE := Lib.hid hE
      have HNIL := Lib.hid hnil
      have HOW := Lib.hid h2
      have HN0 := Lib.hid hn0
      have hg := h2.lt g rfl
      have HGD := Lib.hid (And.intro (show g ≠ w.heap.size + 1 by omega) (show g ≠ D from fun e => hn ((h3 D).2 (.inr (by rw [← e]; rfl)))))
      have hnn : (((n0 : Int) + 1) == 0) = false := by simp; omega
      clear hMW hbw hbW hm h1 h2 h2' h3 h4 hE hnil hb3 hrow hlen hb hM hd0 hD eR hn hK hsz3 hg hn0
      go_wp2_with fail
      refine name_leave ?_
      intro W7 hW7
      have hkp : Kept1 (w.heap.size + 1) W W7 := by rw [hW7]; exact (((((((Kept1.refl _ _).set _ _).set _ _).set _ _).set _ _).set _ _).set _ _).set _ _
      have hos : W7.os = W.os ∧ W7.tape = W.tape ∧ W7.output = W.output := ⟨hkp.os, hkp.tape, hkp.output⟩
      have hrw : W7.heap[w.heap.size + 1]? = some (cLg (.slice A b.secs.length c) (.slice A1 b.turns.length c1) (.slice A2 b.svs.length c2) b.rule b.days (.map (some r)) (.slice (some ⟨g, 0, none⟩) (n0 + 1) cap)) := by rw [hW7]; simp [World.setCell, Array.getElem?_modify, HER.out]
      clear hW7
      have hk7 : W7.heap[D]? = some (.deferred (some [])) := (hkp.keep _ (fun e => hRne e.symm)).trans HK.out
      have hq : ∀ (j : Nat), (W7.putObj D (.deferred none)).cell? ⟨w.heap.size + 1, j, none⟩ = #[.slice A b.secs.length c, .slice A1 b.turns.length c1, .slice A2 b.svs.length c2, I b.rule, I b.days, .map (some r), .slice (some ⟨g, 0, none⟩) (n0 + 1) cap][j]? := fun j => (cell_putObj hRne).trans (cell_of_row W7 _ j _ _ _ hrw)
      refine ⟨by simp, .inl ⟨_, _, rfl, run_takeDeferred (b := D) (ds := []) hk7, ?_⟩⟩
      refine ⟨.tuple #[vLg (.slice A b.secs.length c) (.slice A1 b.turns.length c1) (.slice A2 b.svs.length c2) b.rule b.days (.map (some r)) (.slice (some ⟨g, 0, none⟩) (n0 + 1) cap), I 0], ?_, ⟨.map (some r), .slice (some ⟨g, 0, none⟩) (n0 + 1) cap, ?_, ⟨r, rfl⟩, ?_, ?_⟩, ?_⟩
      · simp [results, Tryz.f81, go_sem, hq]
      · rw [studyL, if_neg HNIL.out, HE.out]
      · exact (HMW.out.same ((putObj_other _ HRN.out.2).trans (hkp.keep _ HRN.out.1))).more (by rw [← hkp.size]; simp [World.putObj])
      · obtain ⟨hl, hc | ⟨g', cap', cur, hv, hb', hgg, hle, hmx, hcs, htk⟩⟩ := HOW.out
        · have := hc.2; rw [HN0.out] at this; omega
        · injection hv with hv1 hv2 hv3
          injection hv1 with hv1
          injection hv1 with hv1
          subst hv1 hv3
          refine ⟨hl, _, _, by rw [HN0.out], hle, hmx, fun _ => ⟨g, 0, rfl, ?_, ?_⟩⟩
          · have := heap_lt hgg
            rw [← hkp.size] at this
            simpa [World.putObj] using this
          · intro j u hu
            rw [cell_putObj HGD.out.2, Nat.zero_add]
            have hc := HOW.out.cells (g := g) rfl j u hu
            have hadd : (⟨g, 0, none⟩ : Addr).add j = ⟨g, j, none⟩ := by unfold Addr.add; split <;> simp_all
            rw [hadd] at hc
            exact (World.cell?_of_block (hkp.keep g HGD.out.1)).trans hc
      · exact Below.putO (below_sets HBW.out (by omega) hkp hos.1 hos.2.1 hos.2.2) HD.out _
  case stop =>
    rintro D c' pre F W hD hpre h
    exact h.elim

end Go.Proofs.YtkfahochpnggbaaGreat
