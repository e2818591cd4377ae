/- Texts on the program that the proof leans on, part 7. -/
import Derived.Test.YtkfahochpnggbaaGreatYaf
import Derived.RangeFuncNested
import Derived.RangeFuncBound
import Derived.RangeFuncCalls
import Derived.RangeFuncLeaves
import Derived.OwnWalkIn
import Derived.TacticsInMore
import Derived.LoopNIn
import Derived.LoopIn
import Derived.WalkMore
import Derived.Deep.Cut
set_option linter.unusedVariables false
set_option linter.unusedSimpArgs false

/- What a loop over truths and the function that produces them leave each other. -/
namespace Go.Proofs.YtkfahochpnggbaaGreat
open Go.RowKit

abbrev oTr (t : Ch.Tr) : Obj := .cells #[I (t.wear 0), I (t.wear 1), I (t.wear 2), I (t.wear 3), I (t.first 0).lo, I (t.first 0).hi, I (t.first 1).lo, I (t.first 1).hi, I (t.first 2).lo, I (t.first 2).hi, I (t.first 3).lo, I (t.first 3).hi] 114 (0, 0)
abbrev vTr (t : Ch.Tr) : Value := .agg #[I (t.wear 0), I (t.wear 1), I (t.wear 2), I (t.wear 3), I (t.first 0).lo, I (t.first 0).hi, I (t.first 1).lo, I (t.first 1).hi, I (t.first 2).lo, I (t.first 2).hi, I (t.first 3).lo, I (t.first 3).hi]

/-- From W to W', the loop's own blocks from Ft to Ft': only those, the block tb, and new ones have changed. -/
structure Moves (W W' : World) (Ft Ft' : Nat → Prop) (tb : Option Nat) : Prop where
  os : W'.os = W.os
  tape : W'.tape = W.tape
  output : W'.output = W.output
  size : W.heap.size ≤ W'.heap.size
  block : ∀ k, k < W.heap.size → ¬ Ft k → some k ≠ tb → W'.heap[k]? = W.heap[k]?
  foot : ∀ k, Ft' k → Ft k ∨ W.heap.size ≤ k
theorem Moves.refl (W : World) (Ft : Nat → Prop) (tb : Option Nat) : Moves W W Ft Ft tb := ⟨rfl, rfl, rfl, Nat.le_refl _, fun _ _ _ _ => rfl, fun _ h => .inl h⟩
theorem Moves.trans {W W1 W2 : World} {Ft F1 F2 : Nat → Prop} {tb : Option Nat} (h : Moves W W1 Ft F1 tb) (k : Moves W1 W2 F1 F2 tb) : Moves W W2 Ft F2 tb :=
  ⟨k.os.trans h.os, k.tape.trans h.tape, k.output.trans h.output, Nat.le_trans h.size k.size,
   fun i hi hf ht => (k.block i (Nat.lt_of_lt_of_le hi h.size) (fun hf1 => by rcases h.foot i hf1 with h1 | h1; exact hf h1; omega) ht).trans (h.block i hi hf ht),
   fun i hi => by
    rcases k.foot i hi with h1 | h1
    · exact h.foot i h1
    · exact .inr (Nat.le_trans h.size h1)⟩
theorem Moves.below {W W1 W2 : World} {Ft F1 : Nat → Prop} {tb : Option Nat} (h : Moves W W1 Ft F1 tb) (hb : Below W1.heap.size W1 W2) : Moves W W2 Ft F1 tb :=
  h.trans ⟨hb.os, hb.tape, hb.output, hb.size, fun i hi _ _ => hb.block i hi, fun _ h => .inl h⟩
theorem Moves.alloc {W W1 : World} {Ft F1 : Nat → Prop} {tb : Option Nat} (h : Moves W W1 Ft F1 tb) (o : Obj) : Moves W (W1.alloc o) Ft F1 tb :=
  h.below ((Below.refl _ _).alloc (Nat.le_refl _) _)
theorem Moves.drew {W W1 : World} {Ft F1 : Nat → Prop} {tb : Option Nat} (h : Moves W W1 Ft F1 tb) : Moves W W1.drew Ft F1 tb :=
  h.below (Below.refl _ _).drew
theorem Moves.set {W W1 : World} {Ft F1 : Nat → Prop} {t : Nat} (h : Moves W W1 Ft F1 (some t)) (o : Nat) (v : Value) : Moves W (W1.setCell ⟨t, o, none⟩ v) Ft F1 (some t) :=
  h.trans ⟨rfl, rfl, rfl, by simp [World.setCell], fun i _ _ hne => Below.heap_setCell _ _ _ _ (fun e => hne (by rw [e])), fun _ h => .inl h⟩
/-- What the loop says of its own blocks: it hangs on nothing else. -/
structure Own (J : List Ch.Tr → (Nat → Prop) → World → Prop) : Prop where
  frame : ∀ pre Ft W W', J pre Ft W → W'.os = W.os → W'.tape = W.tape → W'.output = W.output → W.heap.size ≤ W'.heap.size → (∀ k, Ft k → W'.heap[k]? = W.heap[k]?) → J pre Ft W'
  lt : ∀ pre Ft W k, J pre Ft W → Ft k → k < W.heap.size
theorem Own.below {J : List Ch.Tr → (Nat → Prop) → World → Prop} (hJ : Own J) {pre : List Ch.Tr} {Ft : Nat → Prop} {W W' : World} (h : J pre Ft W) (hb : Below W.heap.size W W') : J pre Ft W' :=
  hJ.frame _ _ _ _ h hb.os hb.tape hb.output hb.size (fun k hk => hb.block k (hJ.lt _ _ _ _ h hk))
theorem Own.alloc {J : List Ch.Tr → (Nat → Prop) → World → Prop} (hJ : Own J) {pre : List Ch.Tr} {Ft : Nat → Prop} {W : World} (h : J pre Ft W) (o : Obj) : J pre Ft (W.alloc o) :=
  hJ.below h ((Below.refl _ _).alloc (Nat.le_refl _) _)
theorem Own.set {J : List Ch.Tr → (Nat → Prop) → World → Prop} (hJ : Own J) {pre : List Ch.Tr} {Ft : Nat → Prop} {W : World} (h : J pre Ft W) {t : Nat} (ht : ¬ Ft t) (o : Nat) (v : Value) : J pre Ft (W.setCell ⟨t, o, none⟩ v) :=
  hJ.frame _ _ _ _ h rfl rfl rfl (by simp [World.setCell]) (fun k hk => Below.heap_setCell _ _ _ _ (fun e => ht (by rw [← show k = t from e]; exact hk)))
/-- One round of the loop, at one more truth. -/
def Round (J Jx : List Ch.Tr → (Nat → Prop) → World → Prop) (N d l : Nat) : Prop :=
  ∀ pre t Ft W, J pre Ft W → pre.length < N → YieldAt Fence.wide d Tryz.prog l #[vTr t] W fun e W' =>
    (∃ Ft', e = .returned (.bool true) ∧ J (pre ++ [t]) Ft' W' ∧ Moves W W' Ft Ft' none) ∨ (∃ Ft', e = .returned (.bool false) ∧ Jx (pre ++ [t]) Ft' W' ∧ Moves W W' Ft Ft' none)
theorem Moves.any {W W' : World} {Ft Ft' : Nat → Prop} (h : Moves W W' Ft Ft' none) (tb : Option Nat) : Moves W W' Ft Ft' tb :=
  ⟨h.os, h.tape, h.output, h.size, fun k hk hf _ => h.block k hk hf (by simp), h.foot⟩

theorem RB.keep {w w' : World} {B : Nat} {b : Ch.Bk} {S T V : Value} (h : RB w B b S T V) (hk : ∀ p : Addr, p.block < B → w'.cell? p = w.cell? p) : RB w' B b S T V :=
  ⟨h.secs.keep hk, h.turns.keep hk, h.svs.keep hk⟩
theorem RM.keep {w w' : World} {B : Nat} {b : Ch.Bk} {M : Value} (h : RM w B b M) (hk : ∀ k, k < B → w'.heap[k]? = w.heap[k]?) : RM w' B b M := by
  obtain ⟨r, es, clock, hM, hr, hh, h1, h2⟩ := h
  exact ⟨r, es, clock, hM, hr, (hk r hr).trans hh, h1, h2⟩
theorem heap_lt {W : World} {k : Nat} {o : Obj} (h : W.heap[k]? = some o) : k < W.heap.size := by
  rcases Nat.lt_or_ge k W.heap.size with h' | h'
  · exact h'
  · rw [Array.getElem?_eq_none h'] at h; cases h
/-- What the function that produces truths finds: the ledger, yield, the truth at hand, and itself, each in a block of its own. -/
structure Sit (b : Ch.Bk) (S T V M : Value) (rule : Int) (B0 lb yb tb wb l : Nat) (Ft : Nat → Prop) (W : World) : Prop where
  rb : RB W B0 b S T V
  rm : RM W B0 b M
  base : B0 ≤ W.heap.size
  ft : ∀ k, Ft k → B0 ≤ k
  nl : ¬ Ft lb
  ny : ¬ Ft yb
  nt : ¬ Ft tb
  nw : ¬ Ft wb
  tl : tb ≠ lb
  ty : tb ≠ yb
  tw : tb ≠ wb
  bt : B0 ≤ tb
  tlt : tb < W.heap.size
  hl : W.heap[lb]? = some (cLg S T V rule b.days M (.slice none 0 0))
  hy : W.heap[yb]? = some (.cells #[.func (.yield l) #[] #[]] 115 (0, 0))
  hw : W.heap[wb]? = some (.cells #[.func (.func 141) #[] #[.pointer (some ⟨lb, 0, none⟩), .pointer (some ⟨yb, 0, none⟩), .pointer (some ⟨tb, 0, none⟩), .pointer (some ⟨wb, 0, none⟩)]] 119 (0, 0))
theorem Sit.moves {b : Ch.Bk} {S T V M : Value} {rule : Int} {B0 lb yb tb wb l : Nat} {Ft Ft' : Nat → Prop} {W W' : World} (h : Sit b S T V M rule B0 lb yb tb wb l Ft W) (m : Moves W W' Ft Ft' (some tb)) : Sit b S T V M rule B0 lb yb tb wb l Ft' W' := by
  have hlow : ∀ k, k < B0 → W'.heap[k]? = W.heap[k]? := fun k hk => m.block k (Nat.lt_of_lt_of_le hk h.base) (fun hf => by have := h.ft k hf; omega) (fun e => by injection e with e; have := h.bt; omega)
  have own : ∀ k o, W.heap[k]? = some o → ¬ Ft k → tb ≠ k → W'.heap[k]? = some o := fun k o ho hf hne => (m.block k (heap_lt ho) hf (fun e => by injection e with e; exact hne e.symm)).trans ho
  have nf : ∀ k o, W.heap[k]? = some o → ¬ Ft k → ¬ Ft' k := fun k o ho hf hf' => by
    rcases m.foot k hf' with h1 | h1
    · exact hf h1
    · have := heap_lt ho; omega
  exact ⟨h.rb.keep (fun p hp => World.cell?_of_block (hlow p.block hp)), h.rm.keep hlow, Nat.le_trans h.base m.size,
    fun k hk => by
      rcases m.foot k hk with h1 | h1
      · exact h.ft k h1
      · exact Nat.le_trans h.base h1,
    nf _ _ h.hl h.nl, nf _ _ h.hy h.ny,
    fun hf => by
      rcases m.foot _ hf with h1 | h1
      · exact h.nt h1
      · have := h.tlt; omega,
    nf _ _ h.hw h.nw, h.tl, h.ty, h.tw, h.bt, Nat.lt_of_lt_of_le h.tlt m.size, own _ _ h.hl h.nl h.tl, own _ _ h.hy h.ny h.ty, own _ _ h.hw h.nw h.tw⟩

end Go.Proofs.YtkfahochpnggbaaGreat

/- Contract of the closure that wears one place after the other: where all are worn. -/
namespace Go.Proofs.YtkfahochpnggbaaGreat
open Go.RowKit
attribute [local go_sem] Oper.semAt_some

/-- What the closure leaves: all truths have come, or the loop has had enough. -/
def WornPost (J Jx : List Ch.Tr → (Nat → Prop) → World → Prop) (pre l : List Ch.Tr) (t' : Ch.Tr) (Ft : Nat → Prop) (tb : Nat) (W : World) : Ending → World → Prop := fun e W' =>
  (∃ Ft', e = .returned (.bool true) ∧ J (pre ++ l) Ft' W' ∧ Moves W W' Ft Ft' (some tb) ∧ W'.heap[tb]? = some (oTr t')) ∨
  (∃ q Ft', e = .returned (.bool false) ∧ q <+: l ∧ Jx (pre ++ q) Ft' W' ∧ Moves W W' Ft Ft' (some tb))

set_option maxHeartbeats 2000000 in
theorem worn_done (b : Ch.Bk) (J Jx : List Ch.Tr → (Nat → Prop) → World → Prop) (N l : Nat) (A : Option Addr) (c : Nat) (T V M : Value) (rule : Int) (B0 lb yb tb wb : Nat) (hJ : Own J) (hY : ∀ d, Round J Jx N d l)
    (hn : b.secs.length ≤ 4) (p : Nat) (hp : p = b.secs.length) (st : Ch.Tr) (pre : List Ch.Tr) (Ft : Nat → Prop) (W : World) (hS : Sit b (.slice A b.secs.length c) T V M rule B0 lb yb tb wb l Ft W) (hT : W.heap[tb]? = some (oTr st)) (hj : J pre Ft W) (hN : pre.length + 1 ≤ N) :
    Calls Tryz.prog 141 #[I p, .pointer (some ⟨lb, 0, none⟩), .pointer (some ⟨yb, 0, none⟩), .pointer (some ⟨tb, 0, none⟩), .pointer (some ⟨wb, 0, none⟩)] W (WornPost J Jx pre [st] st Ft tb W) := by
  obtain ⟨fn, tmps, assign, body, hy, hR⟩ := hY 0 pre st Ft W hj (by omega)
  have l0 : W.cell? ⟨lb, 0, none⟩ = some (.slice A b.secs.length c) := cell_of_row W _ 0 _ _ _ hS.hl
  have y0 : W.cell? ⟨yb, 0, none⟩ = some (.func (.yield l) #[] #[]) := cell_of_row W _ 0 _ _ _ hS.hy
  have t0 : W.cell? ⟨tb, 0, none⟩ = some (I (st.wear 0)) := cell_of_row W _ 0 _ _ _ hT
  have t1 : W.cell? ⟨tb, 1, none⟩ = some (I (st.wear 1)) := cell_of_row W _ 1 _ _ _ hT
  have t2 : W.cell? ⟨tb, 2, none⟩ = some (I (st.wear 2)) := cell_of_row W _ 2 _ _ _ hT
  have t3 : W.cell? ⟨tb, 3, none⟩ = some (I (st.wear 3)) := cell_of_row W _ 3 _ _ _ hT
  have t4 : W.cell? ⟨tb, 4, none⟩ = some (I (st.first 0).lo) := cell_of_row W _ 4 _ _ _ hT
  have t5 : W.cell? ⟨tb, 5, none⟩ = some (I (st.first 0).hi) := cell_of_row W _ 5 _ _ _ hT
  have t6 : W.cell? ⟨tb, 6, none⟩ = some (I (st.first 1).lo) := cell_of_row W _ 6 _ _ _ hT
  have t7 : W.cell? ⟨tb, 7, none⟩ = some (I (st.first 1).hi) := cell_of_row W _ 7 _ _ _ hT
  have t8 : W.cell? ⟨tb, 8, none⟩ = some (I (st.first 2).lo) := cell_of_row W _ 8 _ _ _ hT
  have t9 : W.cell? ⟨tb, 9, none⟩ = some (I (st.first 2).hi) := cell_of_row W _ 9 _ _ _ hT
  have t10 : W.cell? ⟨tb, 10, none⟩ = some (I (st.first 3).lo) := cell_of_row W _ 10 _ _ _ hT
  have t11 : W.cell? ⟨tb, 11, none⟩ = some (I (st.first 3).hi) := cell_of_row W _ 11 _ _ _ hT
  have hpb : ((p : Int) == (b.secs.length : Int)) = true := by simp [hp]
  have HP := Lib.hid hp
  have HT := Lib.hid hT
  clear hp hT
  go_enter Tryz.func141, Tryz.ntmps141
  go_wp2_with fail
  go_step3
  go_upto_region 2 with fail
  refine (wpIn_wide (n := 1)).1 ?_
  gi_wp2_with fail
  refine hR.mono ?_
  rintro e W' (⟨Ft', rfl, hj', hm⟩ | ⟨Ft', rfl, hx', hm⟩)
  · gi_wp2_with fail
    go_wp2_with fail
    rw [Exit.noGoto_ret]
    go_ret
    exact .inl ⟨Ft', rfl, hj', hm.any _, (hm.block tb hS.tlt hS.nt (by simp)).trans HT.out⟩
  · gi_wp2_with fail
    go_wp2_with fail
    rw [Exit.noGoto_ret]
    go_ret
    exact .inr ⟨[st], Ft', rfl, List.prefix_refl _, hx', hm.any _⟩

end Go.Proofs.YtkfahochpnggbaaGreat
