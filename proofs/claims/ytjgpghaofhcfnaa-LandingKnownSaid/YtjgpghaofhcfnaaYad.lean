/- Texts on the program that the proof leans on, part 4. -/
import Derived.Test.YtjgpghaofhcfnaaYac
import Derived.WalkMore
import Derived.Deep.Cut
import Derived.Test.YtjgpghaofhcfnaaYab
import Derived.Maps.Own
import Derived.Maps.OwnOps
import Derived.Maps.AppendAt
import Derived.ArgAppend
import Derived.IntWalk
import Derived.Laws.Tables
import Derived.Laws.CopyOwn
set_option linter.unusedVariables false
set_option linter.unusedSimpArgs false

namespace Go.Proofs.Ytjgpghaofhcfnaa
open Go.RowKit
attribute [local go_sem] Oper.semAt_some
set_option maxHeartbeats 400000 in
theorem numbers_any (s : Ld.Sp) (w : World) :
 Calls Try.prog 86 #[vSp s] w fun e w' => e = .returned (.func (.func 102) #[] #[vPtr w.heap.size]) ∧ w' = w.alloc (.cells #[I s.lo, I s.hi] 24) := by
 go_enter Try.func86, Try.ntmps86
 go_wp2_with fail
 go_ret
 exact ⟨rfl, rfl⟩
def NumAt (s : Ld.Sp) (J : List Int → (Nat → Prop) → World → Prop) (Ft : Nat → Prop) (W : World) (i : Value) (wr : World) : Prop :=
 ∃ (k : Nat) (F : Nat → Prop), k ≤ (Ld.nums s).length ∧ i = I k ∧ J ((Ld.nums s).take k) F wr ∧ Moves W wr Ft F none
set_option maxHeartbeats 1000000 in
theorem numbers1_any (s : Ld.Sp) (J Jx : List Int → (Nat → Prop) → World → Prop) (l sb : Nat) (hJ : Own J) (hY : ∀ d, Round Try.prog I J Jx (Ld.nums s) d l)
 (h0 : -100000 ≤ s.lo) (h1 : s.lo ≤ 100000) (h2 : -100000 ≤ s.hi) (h3 : s.hi ≤ 100000)
 (Ft : Nat → Prop) (W : World) (hj : J [] Ft W) (hs : W.heap[sb]? = some (.cells #[I s.lo, I s.hi] 24 (0, 0))) (hnf : ¬ Ft sb) :
 Calls Try.prog 102 #[.func (.yield l) #[] #[], vPtr sb] W (IterPost (Ld.nums s) J Jx Ft W) := by
 obtain ⟨lo, hi⟩ := s
 simp only at h0 h1 h2 h3 hs
 have hlen : (Ld.nums ⟨lo, hi⟩).length = (hi - lo + 1).toNat := Ld.nums_len _
 have c0 : W.cell? ⟨sb, 0, none⟩ = some (I lo) := cell_of_row W _ 0 _ _ _ hs
 have c1 : W.cell? ⟨sb, 1, none⟩ = some (I hi) := cell_of_row W _ 1 _ _ _ hs
 have HS := Lib.hid hs
 have HJ0 := Lib.hid hj
 clear hs hj
 go_enter Try.func102, Try.ntmps102
 go_wp2_with fail
 go_loopw [10] (fun i wr => NumAt ⟨lo, hi⟩ J Ft W i wr) (fun i _ => (Ld.nums ⟨lo, hi⟩).length - (intOf i).toNat)
 case atStart => exact ⟨0, Ft, Nat.zero_le _, rfl, HJ0.out, Moves.refl _ _ _⟩
 case round =>
  obtain ⟨k, F, hk, rfl, hjk, hm⟩ := hrel
  have hrow := (hm.block sb (heap_lt HS.out) hnf (by simp)).trans HS.out
  have d0 : wr.cell? ⟨sb, 0, none⟩ = some (I lo) := cell_of_row wr _ 0 _ _ _ hrow
  have HM := Lib.hid hm
  have HJK := Lib.hid hjk
  have HL := Lib.hid hlen
  by_cases hlt : (k : Int) < hi - lo + 1
  · have hlk : k < (Ld.nums ⟨lo, hi⟩).length := by omega
    have htk := Ld.nums_take ⟨lo, hi⟩ hlk
    have hpre : (Ld.nums ⟨lo, hi⟩).take k ++ [lo + (k : Int)] <+: Ld.nums ⟨lo, hi⟩ := by rw [← htk]; exact List.take_prefix _ _
    obtain ⟨fn, tmps, assign, body, hy, hR⟩ := hY 0 _ (lo + (k : Int)) F wr hjk hpre
    have HTK := Lib.hid htk
    clear hm hjk hlen hrow htk hpre
    go_upto_region 3 with fail
    refine (wpIn_wide (n := 1)).1 ?_
    gi_wp2_with fail
    refine hR.mono ?_
    rintro e W' (⟨F', rfl, hj', hm'⟩ | ⟨F', rfl, hx', hm'⟩)
    · have HM' := Lib.hid hm'
      have HJ' := Lib.hid hj'
      clear hy hR hj' hm'
      gi_wp2_with fail
      go_wp2_with fail
      go_roundw
      case rel => exact ⟨k + 1, F', by omega, by go_num, by rw [HTK.out]; exact HJ'.out, HM.out.trans HM'.out⟩
      case measure => simp [intOf]; omega
    · have HM' := Lib.hid hm'
      have HX' := Lib.hid hx'
      clear hy hR hx' hm'
      gi_wp2_with fail
      go_wp2_with fail
      go_end0
      exact ⟨⟨_, rfl⟩, .inr ⟨_, F', by rw [← HTK.out]; exact List.take_prefix _ _, HX'.out, HM.out.trans HM'.out⟩⟩
  · have hkl : k = (Ld.nums ⟨lo, hi⟩).length := by omega
    have HK := Lib.hid hkl
    clear hm hjk hlen hrow hkl
    go_wp2_with fail
    go_end0
    exact ⟨⟨_, rfl⟩, .inl ⟨F, by have := HJK.out; rw [HK.out, List.take_length] at this; exact this, HM.out⟩⟩
end Go.Proofs.Ytjgpghaofhcfnaa
namespace Go.Proofs.Ytjgpghaofhcfnaa
open Go.RowKit
theorem sl_nil (w : World) (B size : Nat) : Sl w B size (.slice none 0 0) 0 [] := ⟨by simp, none, 0, rfl, Nat.le_refl _, by unfold maxLen; omega, fun h => by omega⟩
theorem grown_of_below {W W' : World} (h : Below W.heap.size W W') (row : Option Nat) : W.grownBy W' row := ⟨h.os, h.tape, h.output, h.size, fun i hi _ => h.block i hi⟩
theorem grown_setCell (W : World) (b : Nat) (v : Value) : W.grownBy (W.setCell ⟨b, 0, none⟩ v) (some b) :=
 ⟨rfl, rfl, rfl, by simp [World.setCell], fun k _ hk => Below.heap_setCell _ _ _ _ (fun e => hk (by rw [e]))⟩
theorem sl_ownN {w : World} {B base n size : Nat} {t : TypeId} {v : Value} {xs : List Value} (h : w.ownsRow base t size v n xs) (hB : w.heap.size ≤ B) : Sl w B size v n xs := by
 obtain ⟨hl, hc⟩ := h
 rcases hc with ⟨rfl, rfl⟩ | ⟨g, cap, cur, rfl, hb, hg, hle, hmx, hcs, htk⟩
 · exact ⟨hl, none, 0, rfl, Nat.le_refl _, by unfold maxLen; omega, fun h => by omega⟩
 · refine ⟨hl, _, _, rfl, hle, hmx, fun _ => ⟨g, 0, rfl, Nat.lt_of_lt_of_le (heap_lt hg) hB, fun j u hu => ?_⟩⟩
   rw [Nat.zero_add, cell_of_row _ _ _ _ _ _ hg]
   rw [← htk, List.getElem?_take] at hu
   split at hu
   · simpa using hu
   · cases hu
theorem sl_cut {w : World} {B : Nat} {A : Option Addr} {n c : Nat} {size : Nat} {xs : List Value} (h : Sl w B size (.slice A n c) n xs) : Sl w B size (.slice A n n) n xs := by
 obtain ⟨h1, A', c', hv, h2, h3, h4⟩ := h
 injection hv with e1 e2 e3
 subst e1 e3
 exact ⟨h1, _, n, rfl, Nat.le_refl _, Nat.le_trans h2 h3, h4⟩
theorem Sl.same {w w' : World} {B size n : Nat} {v : Value} {xs : List Value} (h : Sl w B size v n xs) (hk : ∀ g o m c, v = .slice (some ⟨g, o, none⟩) m c → w'.heap[g]? = w.heap[g]?) : Sl w' B size v n xs := by
 obtain ⟨h1, A, c, hv, h2, h3, h4⟩ := h
 refine ⟨h1, A, c, hv, h2, h3, fun hn => ?_⟩
 obtain ⟨b, off, e, hb, hc⟩ := h4 hn
 exact ⟨b, off, e, hb, fun j u hu => (World.cell?_of_block (hk b off n c (by rw [hv, e]))).trans (hc j u hu)⟩
def Fresh (base : Nat) (v : Value) : Prop := ∀ g o m c, v = .slice (some ⟨g, o, none⟩) m c → base ≤ g
theorem Moves.own {W W1 : World} {Ft F1 : Nat → Prop} {tb : Option Nat} (h : Moves W W1 Ft F1 tb) {t : Nat} (ht : F1 t) (o : Nat) (v : Value) : Moves W (W1.setCell ⟨t, o, none⟩ v) Ft F1 tb :=
 h.trans ⟨rfl, rfl, rfl, by simp [World.setCell], fun i _ hf _ => Below.heap_setCell _ _ _ _ (fun e => hf (by rw [show i = t from e]; exact ht)), fun _ h => .inl h⟩
theorem Moves.toBelow {W W1 : World} {Ft F1 : Nat → Prop} {B : Nat} (h : Moves W W1 Ft F1 none) (hF : ∀ k, Ft k → B ≤ k) (hB : B ≤ W.heap.size) : Below B W W1 :=
 ⟨h.os, h.tape, h.output, h.size, fun k hk => h.block k (by omega) (fun hf => by have := hF k hf; omega) (by simp)⟩
theorem cell_putObj {W : World} {D : Nat} {o : Obj} {p : Addr} (h : p.block ≠ D) : (W.putObj D o).cell? p = W.cell? p := World.cell?_of_block (putObj_other o h)
theorem Below.putO {B : Nat} {w W : World} (h : Below B w W) {D : Nat} (hD : B ≤ D) (o : Obj) : Below B w (W.putObj D o) :=
 h.trans ⟨rfl, rfl, rfl, by simp [World.putObj], fun k hk => putObj_other o (by omega)⟩
structure Kept1 (x : Nat) (W W' : World) : Prop where
 keep : ∀ k, k ≠ x → W'.heap[k]? = W.heap[k]?
 size : W'.heap.size = W.heap.size
 os : W'.os = W.os
 tape : W'.tape = W.tape
 output : W'.output = W.output
theorem Kept1.refl (x : Nat) (W : World) : Kept1 x W W := ⟨fun _ _ => rfl, rfl, rfl, rfl, rfl⟩
theorem Kept1.set {x : Nat} {W W' : World} (h : Kept1 x W W') (o : Nat) (v : Value) : Kept1 x W (W'.setCell ⟨x, o, none⟩ v) :=
 ⟨fun k hk => (Below.heap_setCell _ _ _ _ hk).trans (h.keep k hk), by rw [← h.size]; simp [World.setCell], h.os, h.tape, h.output⟩
theorem below_sets {B x : Nat} {w W W' : World} (h : Below B w W) (hx : B ≤ x) (k : Kept1 x W W') (h1 : W'.os = W.os) (h2 : W'.tape = W.tape) (h3 : W'.output = W.output) : Below B w W' :=
 ⟨h1.trans h.os, h2.trans h.tape, h3.trans h.output, by rw [k.size]; exact h.size, fun i hi => (k.keep i (by omega)).trans (h.block i hi)⟩
theorem name_leave {P : Program} {fn : Func} {R : Ending → World → Prop} {e : Exit} {a : Act} {w : World} (h : ∀ W, W = w → bodyPostM Fence.wide 1 P fn R e a W) : bodyPostM Fence.wide 1 P fn R e a w := h w rfl
theorem keep_far {w w' : World} {r : Nat} (h : w.grownBy w' (some r)) {b o : Nat} (hb : b < w.heap.size) (hne : b ≠ r) : w'.cell? ⟨b, o, none⟩ = w.cell? ⟨b, o, none⟩ :=
 World.cell?_of_block (h.block b hb (fun e => hne (by injection e)))
theorem below_far {B : Nat} {w w' : World} {r : Nat} (h : w.grownBy w' (some r)) (hw : B ≤ w.heap.size) (hr : B ≤ r) : Below B w w' :=
 ⟨h.os, h.tape, h.output, h.size, fun k hk => h.block k (by omega) (fun e => by injection e; omega)⟩
theorem wpList_mapUpdate_run {P : Program} {w : World} {ops : Array Oper} {rest : List Oper} {o : Oper} {a : Act} {Q : Exit → Act → World → Prop} (hg : o.guard = none) (m x v : Operand) (t : TypeId) (hop : o.op = Op.mapUpdate t m x v)
 {M X V : Value} {W' : World} (hrun : (Instr.mapUpdate t M X V).run P w = .ok () W') (hm : a.eval m = M) (hx : a.eval x = X) (hv : a.eval v = V) (hK : wpList P ops Q rest (a.put o.dst undef) W') : wpList P ops Q (o :: rest) a w := by
 refine wpList_plain hg fun K' hK' => ?_
 unfold Oper.wp
 simp [execOp, hop, hm, hx, hv, hrun, Result.andThen]
 exact hK' _ _ hK
theorem wpList_lookup_run {P : Program} {w : World} {ops : Array Oper} {rest : List Oper} {o : Oper} {a : Act} {Q : Exit → Act → World → Prop} (hg : o.guard = none) (m x : Operand) (t : TypeId) (hop : o.op = Op.lookup t m x false)
 {M X V : Value} (hrun : (Instr.lookup t M X false).run P w = .ok V w) (hm : a.eval m = M) (hx : a.eval x = X) (hK : wpList P ops Q rest (a.put o.dst V) w) : wpList P ops Q (o :: rest) a w := by
 refine wpList_plain hg fun K' hK' => ?_
 unfold Oper.wp
 simp [execOp, hop, hm, hx, hrun, Result.andThen]
 exact hK' _ _ hK
theorem wp_append_run {P : Program} {o : Oper} {a : Act} {w : World} {K : Act → World → Prop} {Q : Exit → Act → World → Prop} {s x : Operand} {t : TypeId} {v0 vx v' : Value} {w' : World}
 (ho : o.op = .call { callee := .builtin .append, args := #[s, x], argTypes := #[t, t] }) (hs : a.eval s = v0) (hx : a.eval x = vx) (hr : (Builtin.append_ #[t, t] o.type #[v0, vx]).run P w = .ok v' w') (h : K (a.put o.dst v') w') : o.wp P a w K Q := by
 unfold Oper.wp execOp
 simp only [ho, resolve, invoke, builtin, Sem.run_bind, Sem.run_pure, Result.andThen_ok, List.map_toArray, List.map_cons, List.map_nil, hs, hx, hr]
 exact h
theorem name_calls {P : Program} {f : Nat} {args : Array Value} {W : World} {Q : Ending → World → Prop} (h : ∀ V, V = W → Calls P f args V Q) : Calls P f args W Q := h W rfl
theorem held_row {W w' : World} (h : Held W w') {n : Nat} (hn : W.heap.size ≤ n) (cs : Array Value) : Held W (w'.setRow n cs) := held_of (below_setRow h.2.2 hn cs)
theorem name_anyH {P : Program} {md : Region.Mode} {ops : Array Oper} {Q : Exit → Act → World → Prop} {S : World → Prop} {fuel : Nat} {listed : Array Bool} {a : Act} {w : World} (h : ∀ W, W = w → wpAnyH P md ops Q S fuel listed a W) : wpAnyH P md ops Q S fuel listed a w := h w rfl
theorem apart_of {F : Nat} {W w' : World} (hF : F ≤ W.heap.size) (h : Below W.heap.size W w') : Apart F W w' := ⟨fun _ o hb _ => h.cell (p := ⟨_, o, none⟩) hb, h.mono hF, h.size⟩
theorem apart_row {F : Nat} {W w' : World} (h : Apart F W w') (cs : Array Value) : Apart F W (w'.setRow F cs) :=
 ⟨fun b o hb hne => (cell_setRow_other _ _ _ _ hne).trans (h.1 b o hb hne), below_setRow h.2.1 (Nat.le_refl _) cs, by simpa using h.2.2⟩
end Go.Proofs.Ytjgpghaofhcfnaa
namespace Go.Proofs.Ytjgpghaofhcfnaa
open Go.RowKit
attribute [local go_sem] Oper.semAt_some
set_option maxHeartbeats 1000000 in
theorem range_own {α : Type} {P : Program} {g : Operand} {ps : Array Tmp} {assign body : Code} {Q : Exit → Act → World → Prop} {a : Act} {w : World} {n : Nat}
 (f : Nat) (caps : Array Value) (enc : α → Value) (xs : List α) (Ft : Nat → Prop) (hg : a.eval g = .func (.func f) #[] caps) (hps : ps.size = 1) (eg : ∀ args w, (callFunc f args).run P w = .ok (.enter f args) w)
 (I : List α → (Nat → Prop) → World → Prop) (Ix : Code → List α → (Nat → Prop) → World → Prop) (hI : Own I) (hIx : ∀ c, Own (Ix c)) (h0 : I [] Ft w)
 (Ax : α → Act → World → Prop) (hAx : ∀ t a' W l r o, Ax t a' W → W.heap[l]? = some (.loop r) → Ax t a' (W.putObj l o))
 (hassign : ∀ (l d : Nat) (pre : List α) (t : α) (F : Nat → Prop) (W : World) (K : Act → World → Prop), I pre F W → (∀ a' W', I pre F W' → Below W.heap.size W W' → Ax t a' W' → K a' W') →
  assign.wpIn (Fence.wide.inRound l) d P (Exit.then K (fun _ _ _ => False)) { tmps := (ps.zip #[enc t]).foldl (fun t (p, v) => t.setIfInBounds p v) a.tmps, defers := [] } W)
 (hbody : ∀ (l d : Nat) (pre : List α) (t : α) (F : Nat → Prop) (a' : Act) (W : World), I pre F W → Ax t a' W → pre ++ [t] <+: xs → body.wpIn (Fence.wide.inRound l) d P (roundEnd I Ix (pre ++ [t]) F W) a' W)
 (hiter : ∀ (J Jx : List α → (Nat → Prop) → World → Prop) (l : Nat) (Fx : Nat → Prop) (W1 : World), Own J → Own Jx → (∀ d, Round P enc J Jx xs d l) → J [] Fx W1 → Below w.heap.size w W1 → (∀ k, Fx k → Ft k ∨ w.heap.size ≤ k) → (∀ k, Ft k → Fx k) →
  Calls P f (#[.func (.yield l) #[] #[]] ++ caps) W1 (IterPost xs J Jx Fx W1))
 (hdone : ∀ (D : Nat) (F : Nat → Prop) (W : World), w.heap.size ≤ D → I xs F W → ¬ F D → W.heap[D]? = some (.deferred (some [])) → Moves w W Ft (fun k => F k ∨ w.heap.size ≤ k) none → Q .normal { a with defers := { target := .collected D, args := #[] } :: a.defers } W)
 (hstop : ∀ (D : Nat) (c : Code) (pre : List α) (F : Nat → Prop) (W : World), w.heap.size ≤ D → pre <+: xs → Ix c pre F W → ¬ F D → W.heap[D]? = some (.deferred (some [])) → Moves w W Ft (fun k => F k ∨ w.heap.size ≤ k) none → c.wpIn Fence.wide n P Q { a with defers := { target := .collected D, args := #[] } :: a.defers } W) :
 (Code.rangeFunc g ps assign body).wpIn Fence.wide n P Q a w := by
 refine wpIn_rangeFunc ?_
 intro fn hfn
 obtain ⟨rec, hrec⟩ : ∃ rec : LoopState → Option Code → Loop, rec = fun st pe => { state := st, pending := pe, fn, tmps := a.tmps, params := ps, assign, body, defers := w.heap.size } := ⟨_, rfl⟩
 obtain ⟨W1, hW1⟩ : ∃ W1, (w.alloc (.deferred (some []))).alloc (.loop (rec .ready none)) = W1 := ⟨_, rfl⟩
 have hb1 : Below w.heap.size w W1 := by rw [← hW1]; exact ((Below.refl _ w).alloc (Nat.le_refl _) _).alloc (by simp) _
 have hL1 : W1.heap[w.heap.size + 1]? = some (.loop (rec .ready none)) := by rw [← hW1]; exact heap_at _ _ (by simp)
 have hK1 : W1.heap[w.heap.size]? = some (.deferred (some [])) := by rw [← hW1]; exact (Below.heap_alloc _ _ _ (by simp)).trans (heap_at _ _ rfl)
 have hFw : ∀ k, Ft k → k < w.heap.size := fun k hk => hI.lt _ _ _ _ h0 hk
 -- what the loop says of its own blocks, the two of book-keeping among them
 let J : List α → (Nat → Prop) → World → Prop := fun pre Fx W => ∃ F, I pre F W ∧ (∀ k, Fx k ↔ F k ∨ k = w.heap.size ∨ k = w.heap.size + 1) ∧ ¬ F w.heap.size ∧ ¬ F (w.heap.size + 1) ∧ W.heap[w.heap.size + 1]? = some (.loop (rec .ready none)) ∧ W.heap[w.heap.size]? = some (.deferred (some []))
 let Jx : List α → (Nat → Prop) → World → Prop := fun pre Fx W => ∃ F c, Ix c pre F W ∧ (∀ k, Fx k ↔ F k ∨ k = w.heap.size ∨ k = w.heap.size + 1) ∧ ¬ F w.heap.size ∧ ¬ F (w.heap.size + 1) ∧ W.heap[w.heap.size + 1]? = some (.loop (rec .done (some c))) ∧ W.heap[w.heap.size]? = some (.deferred (some []))
 have hJ : Own J := by
  refine ⟨?_, ?_⟩
  · rintro pre Fx W W' ⟨F, hi, hx, n1, n2, hl, hk⟩ h1 h2 h3 h4 h5
    exact ⟨F, hI.frame _ _ _ _ hi h1 h2 h3 h4 (fun k hk => h5 k ((hx k).2 (.inl hk))), hx, n1, n2, (h5 _ ((hx _).2 (.inr (.inr rfl)))).trans hl, (h5 _ ((hx _).2 (.inr (.inl rfl)))).trans hk⟩
  · rintro pre Fx W k ⟨F, hi, hx, n1, n2, hl, hk⟩ hfx
    rcases (hx k).1 hfx with h | rfl | rfl
    · exact hI.lt _ _ _ _ hi h
    · exact heap_lt hk
    · exact heap_lt hl
 have hJx : Own Jx := by
  refine ⟨?_, ?_⟩
  · rintro pre Fx W W' ⟨F, c, hi, hx, n1, n2, hl, hk⟩ h1 h2 h3 h4 h5
    exact ⟨F, c, (hIx c).frame _ _ _ _ hi h1 h2 h3 h4 (fun k hk => h5 k ((hx k).2 (.inl hk))), hx, n1, n2, (h5 _ ((hx _).2 (.inr (.inr rfl)))).trans hl, (h5 _ ((hx _).2 (.inr (.inl rfl)))).trans hk⟩
  · rintro pre Fx W k ⟨F, c, hi, hx, n1, n2, hl, hk⟩ hfx
    rcases (hx k).1 hfx with h | rfl | rfl
    · exact (hIx c).lt _ _ _ _ hi h
    · exact heap_lt hk
    · exact heap_lt hl
 have hY : ∀ d, Round P enc J Jx xs d (w.heap.size + 1) := by
  rintro d pre t Fx W ⟨F, hi, hx, n1, n2, hl, hk⟩ hlen
  have hy := run_yield (P := P) (args := #[enc t]) hl (by rw [hrec]; exact hps.symm)
  rw [hrec] at hy
  refine ⟨fn, _, assign, body, hy, roundIn_of_wpIn hfn (hassign _ d pre t F W _ hi ?_)⟩
  clear hy
  intro a' Wa hia hba hax
  have hla := (hba.block _ (heap_lt hl)).trans hl
  have hka := (hba.block _ (heap_lt hk)).trans hk
  refine ⟨_, run_beginRound hla (by rw [hrec]), ?_⟩
  obtain ⟨Wb, hWb⟩ : ∃ Wb, Wa.putObj (w.heap.size + 1) (.loop { rec .ready none with state := .busy }) = Wb := ⟨_, rfl⟩
  rw [hWb]
  have hoth : ∀ k, k ≠ w.heap.size + 1 → Wb.heap[k]? = Wa.heap[k]? := fun k hk => by rw [← hWb]; exact putObj_other _ hk
  have hlb2 : Wb.heap[w.heap.size + 1]? = some (.loop { rec .ready none with state := .busy }) := by rw [← hWb]; exact World.putObj_heap_same (heap_lt hla)
  have hkb : Wb.heap[w.heap.size]? = some (.deferred (some [])) := (hoth _ (by omega)).trans hka
  have hsz : Wb.heap.size = Wa.heap.size := by rw [← hWb]; simp [World.putObj]
  have hos : Wb.os = Wa.os ∧ Wb.tape = Wa.tape ∧ Wb.output = Wa.output := by rw [← hWb]; exact ⟨rfl, rfl, rfl⟩
  have hib : I pre F Wb := hI.frame _ _ _ _ hia hos.1 hos.2.1 hos.2.2 (by omega) (fun k hk => hoth k (fun e => n2 (e ▸ hk)))
  have haxb : Ax t a' Wb := by rw [← hWb]; exact hAx _ _ _ _ _ _ hax hla
  have hmab : Moves W Wb Fx Fx none :=
   ⟨hos.1.trans hba.os, hos.2.1.trans hba.tape, hos.2.2.trans hba.output, by have := hba.size; omega, fun k hk hf _ => (hoth k (fun e => hf ((hx k).2 (.inr (.inr e))))).trans (hba.block k hk), fun k h => .inl h⟩
  clear hWb hax hia
  refine wpIn_mono (hbody _ d pre t F a' Wb hib haxb hlen) ?_
  -- the end of a round
  have fin : ∀ (jump : Option Code) (F' : Nat → Prop) (W3 : World), Moves Wb W3 F F' none →
   ∃ W4, (Instr.endRound (w.heap.size + 1) jump).run P W3 = .ok (.bool jump.isNone) W4 ∧ W4.os = W3.os ∧ W4.tape = W3.tape ∧ W4.output = W3.output ∧ W4.heap.size = W3.heap.size ∧ (∀ k, k ≠ w.heap.size + 1 → W4.heap[k]? = W3.heap[k]?) ∧
    W4.heap[w.heap.size + 1]? = some (.loop (rec (if jump.isNone then .ready else .done) jump)) ∧ W4.heap[w.heap.size]? = some (.deferred (some [])) ∧ ¬ F' w.heap.size ∧ ¬ F' (w.heap.size + 1) ∧
    Moves W W4 Fx (fun k => F' k ∨ k = w.heap.size ∨ k = w.heap.size + 1) none := fun jump F' W3 m => by
   have hl3 := (m.block _ (heap_lt hlb2) n2 (by simp)).trans hlb2
   have hk3 := (m.block _ (heap_lt hkb) n1 (by simp)).trans hkb
   have hr := run_endRound (P := P) jump hl3
   refine ⟨_, hr, rfl, rfl, rfl, by simp [World.putObj], fun k hk => putObj_other _ hk, ?_, ?_, ?_, ?_, ?_⟩
   · rw [hrec]; rw [hrec] at hl3; exact World.putObj_heap_same (heap_lt hl3)
   · exact (putObj_other _ (by omega)).trans hk3
   · intro h
     rcases m.foot _ h with h' | h'
     · exact n1 h'
     · have := heap_lt hkb; omega
   · intro h
     rcases m.foot _ h with h' | h'
     · exact n2 h'
     · have := heap_lt hlb2; omega
   · refine hmab.trans ⟨m.os, m.tape, m.output, by have := m.size; simpa [World.putObj] using this, fun k hk hf _ => ?_, fun k h => ?_⟩
     · have hne : k ≠ w.heap.size + 1 := fun e => hf ((hx k).2 (.inr (.inr e)))
       exact (putObj_other _ hne).trans (m.block k hk (fun h => hf ((hx k).2 (.inl h))) (by simp))
     · rcases h with h | h
       · rcases m.foot k h with h' | h'
         · exact .inl ((hx k).2 (.inl h'))
         · exact .inr h'
       · exact .inl ((hx k).2 (.inr h))
  rintro e a3 W3 hp
  cases e with
  | normal =>
   obtain ⟨F', hi3, m⟩ := hp
   obtain ⟨W4, hr, e1, e2, e3, e4, e5, e6, e7, e8, e9, hm⟩ := fin none F' W3 m
   exact ⟨_, _, hr, .inl ⟨_, rfl, ⟨F', hI.frame _ _ _ _ hi3 e1 e2 e3 (by omega) (fun k hk => e5 k (fun e => e9 (e ▸ hk))), fun k => Iff.rfl, e8, e9, e6, e7⟩, hm⟩⟩
  | ret =>
   obtain ⟨F', hi3, m⟩ := hp
   obtain ⟨W4, hr, e1, e2, e3, e4, e5, e6, e7, e8, e9, hm⟩ := fin (some .ret) F' W3 m
   exact ⟨_, _, hr, .inr ⟨_, rfl, ⟨F', _, (hIx _).frame _ _ _ _ hi3 e1 e2 e3 (by omega) (fun k hk => e5 k (fun e => e9 (e ▸ hk))), fun k => Iff.rfl, e8, e9, e6, e7⟩, hm⟩⟩
  | exit id =>
   obtain ⟨F', hi3, m⟩ := hp
   obtain ⟨W4, hr, e1, e2, e3, e4, e5, e6, e7, e8, e9, hm⟩ := fin (some (.exit id)) F' W3 m
   exact ⟨_, _, hr, .inr ⟨_, rfl, ⟨F', _, (hIx _).frame _ _ _ _ hi3 e1 e2 e3 (by omega) (fun k hk => e5 k (fun e => e9 (e ▸ hk))), fun k => Iff.rfl, e8, e9, e6, e7⟩, hm⟩⟩
  | goto t' =>
   obtain ⟨F', hi3, m⟩ := hp
   obtain ⟨W4, hr, e1, e2, e3, e4, e5, e6, e7, e8, e9, hm⟩ := fin (some (.goto t')) F' W3 m
   exact ⟨_, _, hr, .inr ⟨_, rfl, ⟨F', _, (hIx _).frame _ _ _ _ hi3 e1 e2 e3 (by omega) (fun k hk => e5 k (fun e => e9 (e ▸ hk))), fun k => Iff.rfl, e8, e9, e6, e7⟩, hm⟩⟩
  | panic ch => exact hp.elim
  | outgrown => exact hp.elim
 have hj1 : J [] (fun k => Ft k ∨ k = w.heap.size ∨ k = w.heap.size + 1) W1 :=
  ⟨Ft, hI.below h0 hb1, fun _ => Iff.rfl, fun h => by have := hFw _ h; omega, fun h => by have := hFw _ h; omega, hL1, hK1⟩
 have hcall := hiter J Jx (w.heap.size + 1) _ W1 hJ hJx hY hj1 hb1 (fun k h => by rcases h with h | h | h; exact .inl h; exact .inr (by omega); exact .inr (by omega)) (fun k h => .inl h)
 refine ⟨w.heap.size + 1, [{ target := .collected w.heap.size, args := #[] }], W1, { target := .fn (.func f) caps, args := #[.func (.yield (w.heap.size + 1)) #[] #[]] }, W1, f,
  #[.func (.yield (w.heap.size + 1)) #[] #[]] ++ caps, W1, ?enter, ?resolve, ?lead, ?invoke, ?deep, ?call⟩
 case enter => rw [← hW1, hrec]; exact run_enterLoop_outer _ _ _ _ _
 case resolve => simp only [resolve, hg]; simp [go_sem]
 case lead => intro _ _; trivial
 case invoke => simp [invoke, go_sem, eg]
 case deep => intro h; simp [Fence.wide] at h
 case call =>
  refine callsIn_wide.2 ?_
  refine Calls.mono hcall ?_
  have hsz1 : W1.heap.size = w.heap.size + 2 := by rw [← hW1]; simp
  have hmv : ∀ (F Fx : Nat → Prop) (W2 W3 : World), (∀ k, Fx k ↔ F k ∨ k = w.heap.size ∨ k = w.heap.size + 1) → Moves W1 W2 (fun k => Ft k ∨ k = w.heap.size ∨ k = w.heap.size + 1) Fx none → W3.os = W2.os → W3.tape = W2.tape → W3.output = W2.output → W3.heap.size = W2.heap.size → (∀ k, k ≠ w.heap.size + 1 → W3.heap[k]? = W2.heap[k]?) →
   Moves w W3 Ft (fun k => F k ∨ w.heap.size ≤ k) none := fun F Fx W2 W3 hx m e1 e2 e3 e4 e5 =>
   ⟨e1.trans (m.os.trans hb1.os), e2.trans (m.tape.trans hb1.tape), e3.trans (m.output.trans hb1.output), by have := m.size; omega,
    fun k hk hf _ => (e5 k (by omega)).trans ((m.block k (by omega) (fun h => by rcases h with h | h | h; exact hf h; omega; omega) (by simp)).trans (hb1.block k hk)),
    fun k h => by
     rcases h with h | h
     · rcases m.foot k ((hx k).2 (.inl h)) with h' | h'
       · rcases h' with h' | h' | h'
         · exact .inl h'
         · exact .inr (by omega)
         · exact .inr (by omega)
       · exact .inr (by omega)
     · exact .inr h⟩
  rintro e W2 ⟨⟨v, rfl⟩, (⟨Fx, ⟨F, hi, hx, n1, n2, hl, hk⟩, m⟩ | ⟨q, Fx, hq, ⟨F, c, hi, hx, n1, n2, hl, hk⟩, m⟩)⟩
  · have hr := run_endLoop (P := P) hl (by rw [hrec]; simp)
    refine ⟨none, _, by rw [hr, hrec], hdone w.heap.size F _ (Nat.le_refl _) ?_ n1 ((putObj_other _ (by omega)).trans hk) (hmv F Fx W2 _ hx m rfl rfl rfl (by simp [World.putObj]) (fun k h => putObj_other _ h))⟩
    exact hI.frame _ _ _ _ hi rfl rfl rfl (by simp [World.putObj]) (fun k hk => putObj_other _ (fun e => n2 (e ▸ hk)))
  · have hr := run_endLoop (P := P) hl (by rw [hrec]; simp)
    refine ⟨some c, _, by rw [hr, hrec], hstop w.heap.size c q F _ (Nat.le_refl _) hq ?_ n1 ((putObj_other _ (by omega)).trans hk) (hmv F Fx W2 _ hx m rfl rfl rfl (by simp [World.putObj]) (fun k h => putObj_other _ h))⟩
    exact (hIx c).frame _ _ _ _ hi rfl rfl rfl (by simp [World.putObj]) (fun k hk => putObj_other _ (fun e => n2 (e ▸ hk)))
end Go.Proofs.Ytjgpghaofhcfnaa
namespace Go.Proofs.Ytjgpghaofhcfnaa
open Go.RowKit
theorem exec_load_row {P : Program} {ρ : Operand → Value} {o : Oper} {w : World} {ty : TypeId} {x : Operand} {g : Nat} {t : TypeId} {cs : Array Value} {fr : Nat × Nat} {d : TypeDesc} (ho : o.op = .load ty x) (hx : ρ x = .pointer (some ⟨g, 0, none⟩)) (hg : w.heap[g]? = some (.cells cs t fr))
 (hu : P.underlying ty = some d) (hd : (match d with | .struct _ | .array _ _ => true | _ => false) = true) (hi : (P.info? ty).map (·.size) = some cs.size) : (execOp ρ o).run P w = .ok (.value (.agg cs)) w := by
 unfold execOp
 simp only [ho, hx, Instr.loadAt, Instr.sureAddr, Sem.run_bind, Sem.run_pure, Result.andThen_ok, run_loadVar_row w g t ty cs fr d hg hu hd hi]
end Go.Proofs.Ytjgpghaofhcfnaa
