/- Texts on the program that the proof leans on, part 2. -/
import Derived.Test.YtjgpghaofhcfnaaYaa
import Derived.RangeFuncNested
import Derived.RangeFuncBound
import Derived.RangeFuncCalls
import Derived.RangeFuncLeaves
import Derived.OwnWalkIn
import Derived.TacticsInMore
import Derived.LoopNIn
import Derived.LoopIn
import Derived.Laws.EntriesVeiled
import Derived.Shelf.Abstract
import Init.Omega
set_option linter.unusedVariables false
set_option linter.unusedSimpArgs false

namespace Go.Proofs.Ytjgpghaofhcfnaa
open Go.RowKit
attribute [local go_sem] Oper.semAt_some
structure Moves (W W' : World) (Ft Ft' : Nat → Prop) (tb : Option Nat) : Prop where
 os : W'.os = W.os
 tape : W'.tape = W.tape
 output : W'.output = W.output
 size : W.heap.size ≤ W'.heap.size
 block : ∀ k, k < W.heap.size → ¬ Ft k → some k ≠ tb → W'.heap[k]? = W.heap[k]?
 foot : ∀ k, Ft' k → Ft k ∨ W.heap.size ≤ k
theorem Moves.refl (W : World) (Ft : Nat → Prop) (tb : Option Nat) : Moves W W Ft Ft tb := ⟨rfl, rfl, rfl, Nat.le_refl _, fun _ _ _ _ => rfl, fun _ h => .inl h⟩
theorem Moves.trans {W W1 W2 : World} {Ft F1 F2 : Nat → Prop} {tb : Option Nat} (h : Moves W W1 Ft F1 tb) (k : Moves W1 W2 F1 F2 tb) : Moves W W2 Ft F2 tb :=
 ⟨k.os.trans h.os, k.tape.trans h.tape, k.output.trans h.output, Nat.le_trans h.size k.size,
  fun i hi hf ht => (k.block i (Nat.lt_of_lt_of_le hi h.size) (fun hf1 => by rcases h.foot i hf1 with h1 | h1; exact hf h1; omega) ht).trans (h.block i hi hf ht),
  fun i hi => by
   rcases k.foot i hi with h1 | h1
   · exact h.foot i h1
   · exact .inr (Nat.le_trans h.size h1)⟩
theorem Moves.below {W W1 W2 : World} {Ft F1 : Nat → Prop} {tb : Option Nat} (h : Moves W W1 Ft F1 tb) (hb : Below W1.heap.size W1 W2) : Moves W W2 Ft F1 tb :=
 h.trans ⟨hb.os, hb.tape, hb.output, hb.size, fun i hi _ _ => hb.block i hi, fun _ h => .inl h⟩
theorem Moves.alloc {W W1 : World} {Ft F1 : Nat → Prop} {tb : Option Nat} (h : Moves W W1 Ft F1 tb) (o : Obj) : Moves W (W1.alloc o) Ft F1 tb :=
 h.below ((Below.refl _ _).alloc (Nat.le_refl _) _)
theorem Moves.drew {W W1 : World} {Ft F1 : Nat → Prop} {tb : Option Nat} (h : Moves W W1 Ft F1 tb) : Moves W W1.drew Ft F1 tb :=
 h.below (Below.refl _ _).drew
theorem Moves.set {W W1 : World} {Ft F1 : Nat → Prop} {t : Nat} (h : Moves W W1 Ft F1 (some t)) (o : Nat) (v : Value) : Moves W (W1.setCell ⟨t, o, none⟩ v) Ft F1 (some t) :=
 h.trans ⟨rfl, rfl, rfl, by simp [World.setCell], fun i _ _ hne => Below.heap_setCell _ _ _ _ (fun e => hne (by rw [e])), fun _ h => .inl h⟩
structure Own {α : Type} (J : List α → (Nat → Prop) → World → Prop) : Prop where
 frame : ∀ pre Ft W W', J pre Ft W → W'.os = W.os → W'.tape = W.tape → W'.output = W.output → W.heap.size ≤ W'.heap.size → (∀ k, Ft k → W'.heap[k]? = W.heap[k]?) → J pre Ft W'
 lt : ∀ pre Ft W k, J pre Ft W → Ft k → k < W.heap.size
theorem Own.below {α : Type} {J : List α → (Nat → Prop) → World → Prop} (hJ : Own J) {pre : List α} {Ft : Nat → Prop} {W W' : World} (h : J pre Ft W) (hb : Below W.heap.size W W') : J pre Ft W' :=
 hJ.frame _ _ _ _ h hb.os hb.tape hb.output hb.size (fun k hk => hb.block k (hJ.lt _ _ _ _ h hk))
theorem Own.alloc {α : Type} {J : List α → (Nat → Prop) → World → Prop} (hJ : Own J) {pre : List α} {Ft : Nat → Prop} {W : World} (h : J pre Ft W) (o : Obj) : J pre Ft (W.alloc o) :=
 hJ.below h ((Below.refl _ _).alloc (Nat.le_refl _) _)
theorem Own.set {α : Type} {J : List α → (Nat → Prop) → World → Prop} (hJ : Own J) {pre : List α} {Ft : Nat → Prop} {W : World} (h : J pre Ft W) {t : Nat} (ht : ¬ Ft t) (o : Nat) (v : Value) : J pre Ft (W.setCell ⟨t, o, none⟩ v) :=
 hJ.frame _ _ _ _ h rfl rfl rfl (by simp [World.setCell]) (fun k hk => Below.heap_setCell _ _ _ _ (fun e => ht (by rw [← show k = t from e]; exact hk)))
def Round {α : Type} (P : Program) (enc : α → Value) (J Jx : List α → (Nat → Prop) → World → Prop) (xs : List α) (d l : Nat) : Prop :=
 ∀ pre t Ft W, J pre Ft W → pre ++ [t] <+: xs → YieldAt Fence.wide d P l #[enc t] W fun e W' =>
  (∃ Ft', e = .returned (.bool true) ∧ J (pre ++ [t]) Ft' W' ∧ Moves W W' Ft Ft' none) ∨ (∃ Ft', e = .returned (.bool false) ∧ Jx (pre ++ [t]) Ft' W' ∧ Moves W W' Ft Ft' none)
def IterPost {α : Type} (xs : List α) (J Jx : List α → (Nat → Prop) → World → Prop) (Ft : Nat → Prop) (W : World) : Ending → World → Prop := fun e W' => (∃ v, e = .returned v) ∧
 ((∃ Ft', J xs Ft' W' ∧ Moves W W' Ft Ft' none) ∨ (∃ q Ft', q <+: xs ∧ Jx q Ft' W' ∧ Moves W W' Ft Ft' none))
theorem Moves.any {W W' : World} {Ft Ft' : Nat → Prop} (h : Moves W W' Ft Ft' none) (tb : Option Nat) : Moves W W' Ft Ft' tb :=
 ⟨h.os, h.tape, h.output, h.size, fun k hk hf _ => h.block k hk hf (by simp), h.foot⟩
theorem heap_lt {W : World} {k : Nat} {o : Obj} (h : W.heap[k]? = some o) : k < W.heap.size := by
 rcases Nat.lt_or_ge k W.heap.size with h' | h'
 · exact h'
 · rw [Array.getElem?_eq_none h'] at h; cases h
theorem Moves.fresh {W W1 W2 : World} {Ft Ft' : Nat → Prop} {t : Nat} (h : Moves W W1 Ft Ft none) (k : Moves W1 W2 Ft Ft' (some t)) (ht : W.heap.size ≤ t) : Moves W W2 Ft Ft' none :=
 ⟨k.os.trans h.os, k.tape.trans h.tape, k.output.trans h.output, Nat.le_trans h.size k.size,
  fun i hi hf _ => (k.block i (Nat.lt_of_lt_of_le hi h.size) hf (fun e => by injection e with e; omega)).trans (h.block i hi hf (by simp)),
  fun i hi => by
   rcases k.foot i hi with h1 | h1
   · exact .inl h1
   · exact .inr (Nat.le_trans h.size h1)⟩
theorem Moves.of_below {W W' : World} {Ft : Nat → Prop} {tb : Option Nat} (h : Below W.heap.size W W') : Moves W W' Ft Ft tb := (Moves.refl W Ft tb).below h
def roundEnd {α : Type} (I : List α → (Nat → Prop) → World → Prop) (Ix : Code → List α → (Nat → Prop) → World → Prop) (xs : List α) (Ft : Nat → Prop) (W : World) : Exit → Act → World → Prop
  | .normal, _, W' => ∃ Ft', I xs Ft' W' ∧ Moves W W' Ft Ft' none
  | .ret, _, W' => ∃ Ft', Ix .ret xs Ft' W' ∧ Moves W W' Ft Ft' none
  | .exit id, _, W' => ∃ Ft', Ix (.exit id) xs Ft' W' ∧ Moves W W' Ft Ft' none
  | .goto t, _, W' => ∃ Ft', Ix (.goto t) xs Ft' W' ∧ Moves W W' Ft Ft' none
  | .panic _, _, _ => False
  | .outgrown, _, _ => False
theorem putObj_other {W : World} {l k : Nat} (o : Obj) (h : k ≠ l) : (W.putObj l o).heap[k]? = W.heap[k]? := World.putObj_heap_other h
set_option maxHeartbeats 1000000 in
theorem range_iter {α : Type} {P : Program} {g : Operand} {ps : Array Tmp} {assign body : Code} {Q : Exit → Act → World → Prop} {a : Act} {w : World} {n : Nat}
 (f : Nat) (caps : Array Value) (enc : α → Value) (xs : List α) (Ft : Nat → Prop) (hg : a.eval g = .func (.func f) #[] caps) (hps : ps.size = 1) (eg : ∀ args w, (callFunc f args).run P w = .ok (.enter f args) w)
 (I : List α → (Nat → Prop) → World → Prop) (Ix : Code → List α → (Nat → Prop) → World → Prop) (hI : Own I) (hIx : ∀ c, Own (Ix c)) (h0 : I [] Ft w)
 (Ax : α → Act → World → Prop) (hAx : ∀ t a' W l r o, Ax t a' W → W.heap[l]? = some (.loop r) → Ax t a' (W.putObj l o))
 (hassign : ∀ (l d : Nat) (pre : List α) (t : α) (F : Nat → Prop) (W : World) (K : Act → World → Prop), I pre F W → (∀ a' W', I pre F W' → Below W.heap.size W W' → Ax t a' W' → K a' W') →
  assign.wpIn (Fence.wide.inRound l) d P (Exit.then K (fun _ _ _ => False)) { tmps := (ps.zip #[enc t]).foldl (fun t (p, v) => t.setIfInBounds p v) a.tmps, defers := [] } W)
 (hbody : ∀ (l d : Nat) (pre : List α) (t : α) (F : Nat → Prop) (a' : Act) (W : World), I pre F W → Ax t a' W → pre ++ [t] <+: xs → body.wpIn (Fence.wide.inRound l) d P (roundEnd I Ix (pre ++ [t]) F W) a' W)
 (hiter : ∀ (J Jx : List α → (Nat → Prop) → World → Prop) (l : Nat) (Fx : Nat → Prop) (W1 : World), Own J → (∀ d, Round P enc J Jx xs d l) → J [] Fx W1 → Below w.heap.size w W1 → (∀ k, Fx k → Ft k ∨ w.heap.size ≤ k) → (∀ k, Ft k → Fx k) →
  Calls P f (#[.func (.yield l) #[] #[]] ++ caps) W1 (IterPost xs J Jx Fx W1))
 (hdone : ∀ (D : Nat) (F : Nat → Prop) (W : World), w.heap.size ≤ D → I xs F W → ¬ F D → W.heap[D]? = some (.deferred (some [])) → Moves w W Ft (fun k => F k ∨ w.heap.size ≤ k) none → Q .normal { a with defers := { target := .collected D, args := #[] } :: a.defers } W)
 (hstop : ∀ (D : Nat) (c : Code) (pre : List α) (F : Nat → Prop) (W : World), w.heap.size ≤ D → pre <+: xs → Ix c pre F W → ¬ F D → W.heap[D]? = some (.deferred (some [])) → Moves w W Ft (fun k => F k ∨ w.heap.size ≤ k) none → c.wpIn Fence.wide n P Q { a with defers := { target := .collected D, args := #[] } :: a.defers } W) :
 (Code.rangeFunc g ps assign body).wpIn Fence.wide n P Q a w := by
 refine wpIn_rangeFunc ?_
 intro fn hfn
 obtain ⟨rec, hrec⟩ : ∃ rec : LoopState → Option Code → Loop, rec = fun st pe => { state := st, pending := pe, fn, tmps := a.tmps, params := ps, assign, body, defers := w.heap.size } := ⟨_, rfl⟩
 obtain ⟨W1, hW1⟩ : ∃ W1, (w.alloc (.deferred (some []))).alloc (.loop (rec .ready none)) = W1 := ⟨_, rfl⟩
 have hb1 : Below w.heap.size w W1 := by rw [← hW1]; exact ((Below.refl _ w).alloc (Nat.le_refl _) _).alloc (by simp) _
 have hL1 : W1.heap[w.heap.size + 1]? = some (.loop (rec .ready none)) := by rw [← hW1]; exact heap_at _ _ (by simp)
 have hK1 : W1.heap[w.heap.size]? = some (.deferred (some [])) := by rw [← hW1]; exact (Below.heap_alloc _ _ _ (by simp)).trans (heap_at _ _ rfl)
 have hFw : ∀ k, Ft k → k < w.heap.size := fun k hk => hI.lt _ _ _ _ h0 hk
 -- what the loop says of its own blocks, the two of book-keeping among them
 let J : List α → (Nat → Prop) → World → Prop := fun pre Fx W => ∃ F, I pre F W ∧ (∀ k, Fx k ↔ F k ∨ k = w.heap.size ∨ k = w.heap.size + 1) ∧ ¬ F w.heap.size ∧ ¬ F (w.heap.size + 1) ∧ W.heap[w.heap.size + 1]? = some (.loop (rec .ready none)) ∧ W.heap[w.heap.size]? = some (.deferred (some []))
 let Jx : List α → (Nat → Prop) → World → Prop := fun pre Fx W => ∃ F c, Ix c pre F W ∧ (∀ k, Fx k ↔ F k ∨ k = w.heap.size ∨ k = w.heap.size + 1) ∧ ¬ F w.heap.size ∧ ¬ F (w.heap.size + 1) ∧ W.heap[w.heap.size + 1]? = some (.loop (rec .done (some c))) ∧ W.heap[w.heap.size]? = some (.deferred (some []))
 have hJ : Own J := by
  refine ⟨?_, ?_⟩
  · rintro pre Fx W W' ⟨F, hi, hx, n1, n2, hl, hk⟩ h1 h2 h3 h4 h5
    exact ⟨F, hI.frame _ _ _ _ hi h1 h2 h3 h4 (fun k hk => h5 k ((hx k).2 (.inl hk))), hx, n1, n2, (h5 _ ((hx _).2 (.inr (.inr rfl)))).trans hl, (h5 _ ((hx _).2 (.inr (.inl rfl)))).trans hk⟩
  · rintro pre Fx W k ⟨F, hi, hx, n1, n2, hl, hk⟩ hfx
    rcases (hx k).1 hfx with h | rfl | rfl
    · exact hI.lt _ _ _ _ hi h
    · exact heap_lt hk
    · exact heap_lt hl
 have hY : ∀ d, Round P enc J Jx xs d (w.heap.size + 1) := by
  rintro d pre t Fx W ⟨F, hi, hx, n1, n2, hl, hk⟩ hlen
  have hy := run_yield (P := P) (args := #[enc t]) hl (by rw [hrec]; exact hps.symm)
  rw [hrec] at hy
  refine ⟨fn, _, assign, body, hy, roundIn_of_wpIn hfn (hassign _ d pre t F W _ hi ?_)⟩
  clear hy
  intro a' Wa hia hba hax
  have hla := (hba.block _ (heap_lt hl)).trans hl
  have hka := (hba.block _ (heap_lt hk)).trans hk
  refine ⟨_, run_beginRound hla (by rw [hrec]), ?_⟩
  obtain ⟨Wb, hWb⟩ : ∃ Wb, Wa.putObj (w.heap.size + 1) (.loop { rec .ready none with state := .busy }) = Wb := ⟨_, rfl⟩
  rw [hWb]
  have hoth : ∀ k, k ≠ w.heap.size + 1 → Wb.heap[k]? = Wa.heap[k]? := fun k hk => by rw [← hWb]; exact putObj_other _ hk
  have hlb2 : Wb.heap[w.heap.size + 1]? = some (.loop { rec .ready none with state := .busy }) := by rw [← hWb]; exact World.putObj_heap_same (heap_lt hla)
  have hkb : Wb.heap[w.heap.size]? = some (.deferred (some [])) := (hoth _ (by omega)).trans hka
  have hsz : Wb.heap.size = Wa.heap.size := by rw [← hWb]; simp [World.putObj]
  have hos : Wb.os = Wa.os ∧ Wb.tape = Wa.tape ∧ Wb.output = Wa.output := by rw [← hWb]; exact ⟨rfl, rfl, rfl⟩
  have hib : I pre F Wb := hI.frame _ _ _ _ hia hos.1 hos.2.1 hos.2.2 (by omega) (fun k hk => hoth k (fun e => n2 (e ▸ hk)))
  have haxb : Ax t a' Wb := by rw [← hWb]; exact hAx _ _ _ _ _ _ hax hla
  have hmab : Moves W Wb Fx Fx none :=
   ⟨hos.1.trans hba.os, hos.2.1.trans hba.tape, hos.2.2.trans hba.output, by have := hba.size; omega, fun k hk hf _ => (hoth k (fun e => hf ((hx k).2 (.inr (.inr e))))).trans (hba.block k hk), fun k h => .inl h⟩
  clear hWb hax hia
  refine wpIn_mono (hbody _ d pre t F a' Wb hib haxb hlen) ?_
  -- the end of a round
  have fin : ∀ (jump : Option Code) (F' : Nat → Prop) (W3 : World), Moves Wb W3 F F' none →
   ∃ W4, (Instr.endRound (w.heap.size + 1) jump).run P W3 = .ok (.bool jump.isNone) W4 ∧ W4.os = W3.os ∧ W4.tape = W3.tape ∧ W4.output = W3.output ∧ W4.heap.size = W3.heap.size ∧ (∀ k, k ≠ w.heap.size + 1 → W4.heap[k]? = W3.heap[k]?) ∧
    W4.heap[w.heap.size + 1]? = some (.loop (rec (if jump.isNone then .ready else .done) jump)) ∧ W4.heap[w.heap.size]? = some (.deferred (some [])) ∧ ¬ F' w.heap.size ∧ ¬ F' (w.heap.size + 1) ∧
    Moves W W4 Fx (fun k => F' k ∨ k = w.heap.size ∨ k = w.heap.size + 1) none := fun jump F' W3 m => by
   have hl3 := (m.block _ (heap_lt hlb2) n2 (by simp)).trans hlb2
   have hk3 := (m.block _ (heap_lt hkb) n1 (by simp)).trans hkb
   have hr := run_endRound (P := P) jump hl3
   refine ⟨_, hr, rfl, rfl, rfl, by simp [World.putObj], fun k hk => putObj_other _ hk, ?_, ?_, ?_, ?_, ?_⟩
   · rw [hrec]; rw [hrec] at hl3; exact World.putObj_heap_same (heap_lt hl3)
   · exact (putObj_other _ (by omega)).trans hk3
   · intro h
     rcases m.foot _ h with h' | h'
     · exact n1 h'
     · have := heap_lt hkb; omega
   · intro h
     rcases m.foot _ h with h' | h'
     · exact n2 h'
     · have := heap_lt hlb2; omega
   · refine hmab.trans ⟨m.os, m.tape, m.output, by have := m.size; simpa [World.putObj] using this, fun k hk hf _ => ?_, fun k h => ?_⟩
     · have hne : k ≠ w.heap.size + 1 := fun e => hf ((hx k).2 (.inr (.inr e)))
       exact (putObj_other _ hne).trans (m.block k hk (fun h => hf ((hx k).2 (.inl h))) (by simp))
     · rcases h with h | h
       · rcases m.foot k h with h' | h'
         · exact .inl ((hx k).2 (.inl h'))
         · exact .inr h'
       · exact .inl ((hx k).2 (.inr h))
  rintro e a3 W3 hp
  cases e with
  | normal =>
   obtain ⟨F', hi3, m⟩ := hp
   obtain ⟨W4, hr, e1, e2, e3, e4, e5, e6, e7, e8, e9, hm⟩ := fin none F' W3 m
   exact ⟨_, _, hr, .inl ⟨_, rfl, ⟨F', hI.frame _ _ _ _ hi3 e1 e2 e3 (by omega) (fun k hk => e5 k (fun e => e9 (e ▸ hk))), fun k => Iff.rfl, e8, e9, e6, e7⟩, hm⟩⟩
  | ret =>
   obtain ⟨F', hi3, m⟩ := hp
   obtain ⟨W4, hr, e1, e2, e3, e4, e5, e6, e7, e8, e9, hm⟩ := fin (some .ret) F' W3 m
   exact ⟨_, _, hr, .inr ⟨_, rfl, ⟨F', _, (hIx _).frame _ _ _ _ hi3 e1 e2 e3 (by omega) (fun k hk => e5 k (fun e => e9 (e ▸ hk))), fun k => Iff.rfl, e8, e9, e6, e7⟩, hm⟩⟩
  | exit id =>
   obtain ⟨F', hi3, m⟩ := hp
   obtain ⟨W4, hr, e1, e2, e3, e4, e5, e6, e7, e8, e9, hm⟩ := fin (some (.exit id)) F' W3 m
   exact ⟨_, _, hr, .inr ⟨_, rfl, ⟨F', _, (hIx _).frame _ _ _ _ hi3 e1 e2 e3 (by omega) (fun k hk => e5 k (fun e => e9 (e ▸ hk))), fun k => Iff.rfl, e8, e9, e6, e7⟩, hm⟩⟩
  | goto t' =>
   obtain ⟨F', hi3, m⟩ := hp
   obtain ⟨W4, hr, e1, e2, e3, e4, e5, e6, e7, e8, e9, hm⟩ := fin (some (.goto t')) F' W3 m
   exact ⟨_, _, hr, .inr ⟨_, rfl, ⟨F', _, (hIx _).frame _ _ _ _ hi3 e1 e2 e3 (by omega) (fun k hk => e5 k (fun e => e9 (e ▸ hk))), fun k => Iff.rfl, e8, e9, e6, e7⟩, hm⟩⟩
  | panic ch => exact hp.elim
  | outgrown => exact hp.elim
 have hj1 : J [] (fun k => Ft k ∨ k = w.heap.size ∨ k = w.heap.size + 1) W1 :=
  ⟨Ft, hI.below h0 hb1, fun _ => Iff.rfl, fun h => by have := hFw _ h; omega, fun h => by have := hFw _ h; omega, hL1, hK1⟩
 have hcall := hiter J Jx (w.heap.size + 1) _ W1 hJ hY hj1 hb1 (fun k h => by rcases h with h | h | h; exact .inl h; exact .inr (by omega); exact .inr (by omega)) (fun k h => .inl h)
 refine ⟨w.heap.size + 1, [{ target := .collected w.heap.size, args := #[] }], W1, { target := .fn (.func f) caps, args := #[.func (.yield (w.heap.size + 1)) #[] #[]] }, W1, f,
  #[.func (.yield (w.heap.size + 1)) #[] #[]] ++ caps, W1, ?enter, ?resolve, ?lead, ?invoke, ?deep, ?call⟩
 case enter => rw [← hW1, hrec]; exact run_enterLoop_outer _ _ _ _ _
 case resolve => simp only [resolve, hg]; simp [go_sem]
 case lead => intro _ _; trivial
 case invoke => simp [invoke, go_sem, eg]
 case deep => intro h; simp [Fence.wide] at h
 case call =>
  refine callsIn_wide.2 ?_
  refine Calls.mono hcall ?_
  have hsz1 : W1.heap.size = w.heap.size + 2 := by rw [← hW1]; simp
  have hmv : ∀ (F Fx : Nat → Prop) (W2 W3 : World), (∀ k, Fx k ↔ F k ∨ k = w.heap.size ∨ k = w.heap.size + 1) → Moves W1 W2 (fun k => Ft k ∨ k = w.heap.size ∨ k = w.heap.size + 1) Fx none → W3.os = W2.os → W3.tape = W2.tape → W3.output = W2.output → W3.heap.size = W2.heap.size → (∀ k, k ≠ w.heap.size + 1 → W3.heap[k]? = W2.heap[k]?) →
   Moves w W3 Ft (fun k => F k ∨ w.heap.size ≤ k) none := fun F Fx W2 W3 hx m e1 e2 e3 e4 e5 =>
   ⟨e1.trans (m.os.trans hb1.os), e2.trans (m.tape.trans hb1.tape), e3.trans (m.output.trans hb1.output), by have := m.size; omega,
    fun k hk hf _ => (e5 k (by omega)).trans ((m.block k (by omega) (fun h => by rcases h with h | h | h; exact hf h; omega; omega) (by simp)).trans (hb1.block k hk)),
    fun k h => by
     rcases h with h | h
     · rcases m.foot k ((hx k).2 (.inl h)) with h' | h'
       · rcases h' with h' | h' | h'
         · exact .inl h'
         · exact .inr (by omega)
         · exact .inr (by omega)
       · exact .inr (by omega)
     · exact .inr h⟩
  rintro e W2 ⟨⟨v, rfl⟩, (⟨Fx, ⟨F, hi, hx, n1, n2, hl, hk⟩, m⟩ | ⟨q, Fx, hq, ⟨F, c, hi, hx, n1, n2, hl, hk⟩, m⟩)⟩
  · have hr := run_endLoop (P := P) hl (by rw [hrec]; simp)
    refine ⟨none, _, by rw [hr, hrec], hdone w.heap.size F _ (Nat.le_refl _) ?_ n1 ((putObj_other _ (by omega)).trans hk) (hmv F Fx W2 _ hx m rfl rfl rfl (by simp [World.putObj]) (fun k h => putObj_other _ h))⟩
    exact hI.frame _ _ _ _ hi rfl rfl rfl (by simp [World.putObj]) (fun k hk => putObj_other _ (fun e => n2 (e ▸ hk)))
  · have hr := run_endLoop (P := P) hl (by rw [hrec]; simp)
    refine ⟨some c, _, by rw [hr, hrec], hstop w.heap.size c q F _ (Nat.le_refl _) hq ?_ n1 ((putObj_other _ (by omega)).trans hk) (hmv F Fx W2 _ hx m rfl rfl rfl (by simp [World.putObj]) (fun k h => putObj_other _ h))⟩
    exact (hIx c).frame _ _ _ _ hi rfl rfl rfl (by simp [World.putObj]) (fun k hk => putObj_other _ (fun e => n2 (e ▸ hk)))
end Go.Proofs.Ytjgpghaofhcfnaa
namespace Go.Proofs.Ytjgpghaofhcfnaa.Ld
structure Sp where
 lo : Int
 hi : Int
 deriving DecidableEq
structure Sh where
 floor : Sp
 lo : Int
 hi : Int
 deriving DecidableEq
structure Sd where
 hour : Int
 shore : Int
 deep : Int
 deriving DecidableEq
structure Bk where
 tides : List Sp
 s0 : Sh
 s1 : Sh
 empty : Sp
 sink : Int
 under : Int
 sounds : List Sd
structure Tr where
 f0 : Int
 f1 : Int
 deriving DecidableEq
def between (n lo hi : Int) : Bool := decide (lo ≤ n) && decide (n ≤ hi)
def isEmpty (s : Sp) : Bool := decide (s.hi < s.lo)
def inside (s t : Sp) : Bool := decide (t.lo ≤ s.lo) && decide (s.hi ≤ t.hi)
def isKnown (s t : Sp) (wide : Int) : Bool := !isEmpty s && inside s t && decide (s.hi - s.lo ≤ wide)
def meet (s t : Sp) : Sp := ⟨max s.lo t.lo, min s.hi t.hi⟩
def join (s t : Sp) : Sp := if isEmpty s then t else if isEmpty t then s else ⟨min s.lo t.lo, max s.hi t.hi⟩
def just (n : Int) : Sp := ⟨n, n⟩
def none : Sp := ⟨1, 0⟩
def bnds (b : Bk) : List (Int × Int × Int) := [(b.tides.length, 1, 24), (b.sink, 1, 20), (b.under, 0, 10), (b.sounds.length, 0, 6)]
def sized (b : Bk) : Bool := (bnds b).all fun x => between x.1 x.2.1 x.2.2
def heights : Sp := ⟨-40, 80⟩
def isHeight (s : Sp) : Bool := isKnown s heights 4
def okShore (s : Sh) : Bool := isHeight s.floor && !isEmpty ⟨s.lo, s.hi⟩ && inside ⟨s.lo, s.hi⟩ heights
def allTides (b : Bk) : Bool := b.tides.all isHeight
def allShores (b : Bk) : Bool := okShore b.s0 && okShore b.s1
def isDraught (s : Sp) : Bool := isKnown s ⟨0, 40⟩ 4
def isHour (b : Bk) (h : Int) : Bool := decide (0 ≤ h) && decide (h < b.tides.length)
def isShore (n : Int) : Bool := decide (n = 0) || decide (n = 1)
def isSlip (b : Bk) (hour shore : Int) : Bool := isHour b hour && isShore shore
def isLoad (n : Int) : Bool := decide (0 ≤ n) && decide (n ≤ 200)
def isDeep (n : Int) : Bool := decide (0 ≤ n) && decide (n ≤ 120)
def okSound (b : Bk) (s : Sd) : Bool := isSlip b s.hour s.shore && isDeep s.deep
def allSounds (b : Bk) : Bool := b.sounds.all (okSound b)
def valid (b : Bk) : Bool := sized b && allTides b && allShores b && isDraught b.empty && allSounds b
def check (b : Bk) : Int := if valid b then 0 else 20
def nums (s : Sp) : List Int := (List.range (s.hi - s.lo + 1).toNat).map fun k : Nat => s.lo + (k : Int)
def tide (b : Bk) (hour : Nat) : Sp := b.tides.getD hour none
def Tr.at (t : Tr) (shore : Nat) : Int := if shore = 0 then t.f0 else t.f1
def shore (b : Bk) (shore : Nat) : Sh := if shore = 0 then b.s0 else b.s1
def atSlip (hour shore : Int) (s : Sd) : Bool := decide (s.hour = hour) && decide (s.shore = shore)
def depths (l : List Sd) (hour shore : Int) : List Int := (l.filter (atSlip hour shore)).map (·.deep)
def okAt (b : Bk) (t : Tr) (hour : Nat) (h : Int) : Bool := (depths b.sounds hour 0).all (fun d => decide (d = h - t.f0)) && (depths b.sounds hour 1).all (fun d => decide (d = h - t.f1))
def waterStep (b : Bk) (t : Tr) (hour : Nat) (w : Sp) (h : Int) : Sp := if okAt b t hour h then join w (just h) else w
def water (b : Bk) (t : Tr) (hour : Nat) : Sp := (nums (tide b hour)).foldl (waterStep b t hour) none
def allows (b : Bk) (t : Tr) : Bool := b.sounds.all fun s => !isEmpty (water b t s.hour.toNat)
def digs (b : Bk) : List Tr := (nums b.s0.floor).flatMap fun x => (nums b.s1.floor).map fun y => ⟨x, y⟩
def truths (b : Bk) : List Tr := (digs b).filter (allows b)
def possible (b : Bk) : Bool := !(truths b).isEmpty
def height (b : Bk) (hour : Nat) : Sp := (truths b).foldl (fun a t => join a (water b t hour)) none
def knownStep (k : Sp × Sp) (t : Tr) : Sp × Sp := (join k.1 (just t.f0), join k.2 (just t.f1))
def known (l : List Tr) : Sp × Sp := l.foldl knownStep (none, none)
def studyE (b : Bk) (proper : Bool) : Int := if check b ≠ 0 then check b else if proper = false then 21 else if (truths b).isEmpty then 22 else 0
def sunk (b : Bk) (load : Int) : Int := (load + b.sink - 1) / b.sink
def window (b : Bk) (t : Tr) (sh : Nat) (load e : Int) : Sp := ⟨max (shore b sh).lo (t.at sh + e + sunk b load + b.under), (shore b sh).hi⟩
def atWorst (b : Bk) (sh hour : Nat) (load : Int) : Bool := (truths b).all fun t => inside (water b t hour) (window b t sh load b.empty.hi)
def atBest (b : Bk) (sh hour : Nat) (load : Int) : Bool := (truths b).any fun t => !isEmpty (meet (water b t hour) (window b t sh load b.empty.lo))
def lands (b : Bk) (sh hour : Nat) (load : Int) : Int := if atWorst b sh hour load then 2 else if atBest b sh hour load then 1 else 0
def bothAt (b : Bk) (hour : Nat) (load : Int) : Bool := atWorst b 0 hour load && atWorst b 1 hour load
theorem known_bd {s t : Sp} {wide : Int} (h : isKnown s t wide = true) : s.lo ≤ s.hi ∧ t.lo ≤ s.lo ∧ s.hi ≤ t.hi ∧ s.hi - s.lo ≤ wide := by
 simp [isKnown, isEmpty, inside] at h; omega
theorem valid_parts {b : Bk} (h : valid b = true) : sized b = true ∧ allTides b = true ∧ allShores b = true ∧ isDraught b.empty = true ∧ allSounds b = true := by
 simp [valid] at h; exact ⟨h.1.1.1.1, h.1.1.1.2, h.1.1.2, h.1.2, h.2⟩
theorem sized_bd {b : Bk} (h : sized b = true) : 1 ≤ b.tides.length ∧ b.tides.length ≤ 24 ∧ 1 ≤ b.sink ∧ b.sink ≤ 20 ∧ 0 ≤ b.under ∧ b.under ≤ 10 ∧ b.sounds.length ≤ 6 := by
 simp [sized, bnds, between] at h; omega
theorem tide_bd {b : Bk} (h : allTides b = true) {k : Nat} (hk : k < b.tides.length) : -40 ≤ (tide b k).lo ∧ (tide b k).lo ≤ (tide b k).hi ∧ (tide b k).hi ≤ 80 := by
 have h1 := List.all_eq_true.1 h b.tides[k] (List.getElem_mem hk)
 have h2 := known_bd h1
 have e : tide b k = b.tides[k] := by simp [tide, hk]
 rw [e]
 simp only [heights] at h2
 omega
theorem tide_any {b : Bk} (h : allTides b = true) (k : Nat) : -40 ≤ (tide b k).lo ∧ (tide b k).lo ≤ (tide b k).hi + 1 ∧ (tide b k).hi ≤ 80 := by
 rcases Nat.lt_or_ge k b.tides.length with hk | hk
 · have := tide_bd h hk; omega
 · have e : tide b k = none := by simp [tide, hk]
   rw [e]; simp [none]
theorem floor_bd {b : Bk} (h : allShores b = true) (k : Nat) : -40 ≤ (shore b k).floor.lo ∧ (shore b k).floor.lo ≤ (shore b k).floor.hi ∧ (shore b k).floor.hi ≤ 80 ∧ -40 ≤ (shore b k).lo ∧ (shore b k).lo ≤ (shore b k).hi ∧ (shore b k).hi ≤ 80 := by
 have hs : ∀ s : Sh, okShore s = true → -40 ≤ s.floor.lo ∧ s.floor.lo ≤ s.floor.hi ∧ s.floor.hi ≤ 80 ∧ -40 ≤ s.lo ∧ s.lo ≤ s.hi ∧ s.hi ≤ 80 := by
  intro s hs
  simp only [okShore, Bool.and_eq_true] at hs
  obtain ⟨⟨h1, h2⟩, h3⟩ := hs
  have h4 := known_bd h1
  have h5 : -40 ≤ s.lo ∧ s.hi ≤ 80 := by
   rw [inside, Bool.and_eq_true, decide_eq_true_eq, decide_eq_true_eq] at h3
   exact h3
  have h6 : s.lo ≤ s.hi := by simpa [isEmpty] using h2
  simp only [heights] at h4
  omega
 simp [allShores] at h
 unfold shore
 split
 · exact hs _ h.1
 · exact hs _ h.2
theorem draught_bd {s : Sp} (h : isDraught s = true) : 0 ≤ s.lo ∧ s.lo ≤ s.hi ∧ s.hi ≤ 40 := by
 have := known_bd h; simp at this; omega
theorem sound_bd {b : Bk} (h : allSounds b = true) {s : Sd} (hs : s ∈ b.sounds) : 0 ≤ s.hour ∧ s.hour < b.tides.length ∧ (s.shore = 0 ∨ s.shore = 1) ∧ 0 ≤ s.deep ∧ s.deep ≤ 120 := by
 have h1 := List.all_eq_true.1 h s hs
 simp [okSound, isSlip, isHour, isShore, isDeep] at h1
 omega
theorem mem_nums {s : Sp} {n : Int} : n ∈ nums s ↔ s.lo ≤ n ∧ n ≤ s.hi := by
 simp only [nums, List.mem_map, List.mem_range]
 constructor
 · rintro ⟨k, hk, rfl⟩; omega
 · rintro ⟨h1, h2⟩; exact ⟨(n - s.lo).toNat, by omega, by omega⟩
theorem nums_len (s : Sp) : (nums s).length = (s.hi - s.lo + 1).toNat := by simp [nums]
theorem nums_take (s : Sp) {k : Nat} (hk : k < (nums s).length) : (nums s).take (k + 1) = (nums s).take k ++ [s.lo + k] := by
 rw [List.take_succ_eq_append_getElem hk]; simp [nums]
theorem join_bd {s : Sp} {h lo hi : Int} (h1 : lo ≤ h) (h2 : h ≤ hi) (hs : s = none ∨ lo ≤ s.lo ∧ s.lo ≤ s.hi ∧ s.hi ≤ hi) : lo ≤ (join s (just h)).lo ∧ (join s (just h)).lo ≤ (join s (just h)).hi ∧ (join s (just h)).hi ≤ hi := by
 rcases hs with rfl | hs
 · have e : join none (just h) = just h := by simp [join, isEmpty, none]
   rw [e]; simp only [just]; omega
 · have e1 : isEmpty s = false := by simp [isEmpty]; omega
   have e2 : isEmpty (just h) = false := by simp [isEmpty, just]
   have e : join s (just h) = ⟨min s.lo h, max s.hi h⟩ := by unfold join; rw [e1, e2]; rfl
   rw [e]; simp only; omega
theorem waterFold_bd (b : Bk) (t : Tr) (hour : Nat) (lo hi : Int) (l : List Int) (hl : ∀ h ∈ l, lo ≤ h ∧ h ≤ hi) : ∀ w : Sp, (w = none ∨ lo ≤ w.lo ∧ w.lo ≤ w.hi ∧ w.hi ≤ hi) → (l.foldl (waterStep b t hour) w = none ∨ lo ≤ (l.foldl (waterStep b t hour) w).lo ∧ (l.foldl (waterStep b t hour) w).lo ≤ (l.foldl (waterStep b t hour) w).hi ∧ (l.foldl (waterStep b t hour) w).hi ≤ hi) := by
 induction l with
 | nil => intro w h; exact h
 | cons x l ih =>
  intro w h
  refine ih (fun h hh => hl h (List.mem_cons_of_mem _ hh)) _ ?_
  unfold waterStep
  split
  · exact .inr (join_bd (hl x (List.mem_cons_self ..)).1 (hl x (List.mem_cons_self ..)).2 h)
  · exact h
theorem water_bd (b : Bk) (t : Tr) (hour : Nat) : water b t hour = none ∨ (tide b hour).lo ≤ (water b t hour).lo ∧ (water b t hour).lo ≤ (water b t hour).hi ∧ (water b t hour).hi ≤ (tide b hour).hi :=
 waterFold_bd b t hour _ _ _ (fun _ h => mem_nums.1 h) none (.inl rfl)
theorem water_small {b : Bk} (h : allTides b = true) (t : Tr) (hour : Nat) : -40 ≤ (water b t hour).lo ∧ (water b t hour).lo ≤ 80 ∧ -40 ≤ (water b t hour).hi ∧ (water b t hour).hi ≤ 80 := by
 have := tide_any h hour
 rcases water_bd b t hour with e | e
 · rw [e]; simp [none]
 · omega
end Go.Proofs.Ytjgpghaofhcfnaa.Ld
