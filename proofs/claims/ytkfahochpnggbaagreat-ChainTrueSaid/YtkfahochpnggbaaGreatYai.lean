/- Texts on the program that the proof leans on, part 9. -/
import Derived.Test.YtkfahochpnggbaaGreatYah
import Derived.Laws.EntriesVeiled
import Derived.Shelf.Abstract
set_option linter.unusedVariables false
set_option linter.unusedSimpArgs false

/- Contracts of the function that produces all truths; a range over it. -/
namespace Go.Proofs.YtkfahochpnggbaaGreat
open Go.RowKit
attribute [local go_sem] Oper.semAt_some

theorem worn_any (b : Ch.Bk) (J Jx : List Ch.Tr → (Nat → Prop) → World → Prop) (N l : Nat) (A : Option Addr) (c : Nat) (T V M : Value) (rule : Int) (B0 lb yb tb wb : Nat) (hJ : Own J) (hY : ∀ d, Round J Jx N d l)
    (hn : b.secs.length ≤ 4) (hdays : b.days ≤ 30) (hok : Ch.SecsOk b) (hsv : ∀ x ∈ b.svs, SvOk b x) (hm8 : b.svs.length ≤ 8) :
    ∀ (m p : Nat), p + m = b.secs.length → WornAt b J Jx N l (.slice A b.secs.length c) T V M rule B0 lb yb tb wb m p
  | 0, p, hp => fun st pre Ft W _ hS hT hj hN => worn_done b J Jx N l A c T V M rule B0 lb yb tb wb hJ hY hn p (by omega) st pre Ft W hS hT hj (by simpa [Ch.worn] using hN)
  | m + 1, p, hp => worn_step b J Jx N l A c T V M rule B0 lb yb tb wb hJ hn hdays hok hsv hm8 m p hp (worn_any b J Jx N l A c T V M rule B0 lb yb tb wb hJ hY hn hdays hok hsv hm8 m (p + 1) (by omega))

theorem Moves.fresh {W W1 W2 : World} {Ft Ft' : Nat → Prop} {t : Nat} (h : Moves W W1 Ft Ft none) (k : Moves W1 W2 Ft Ft' (some t)) (ht : W.heap.size ≤ t) : Moves W W2 Ft Ft' none :=
  ⟨k.os.trans h.os, k.tape.trans h.tape, k.output.trans h.output, Nat.le_trans h.size k.size,
   fun i hi hf _ => (k.block i (Nat.lt_of_lt_of_le hi h.size) hf (fun e => by injection e with e; omega)).trans (h.block i hi hf (by simp)),
   fun i hi => by
    rcases k.foot i hi with h1 | h1
    · exact .inl h1
    · exact .inr (Nat.le_trans h.size h1)⟩
theorem Moves.of_below {W W' : World} {Ft : Nat → Prop} {tb : Option Nat} (h : Below W.heap.size W W') : Moves W W' Ft Ft tb := (Moves.refl W Ft tb).below h

/-- What all that range over the truths share: the ledger lies in a box. -/
structure Box (b : Ch.Bk) (S T V M : Value) (rule : Int) (B0 lb : Nat) (Ft : Nat → Prop) (W : World) : Prop where
  rb : RB W B0 b S T V
  rm : RM W B0 b M
  base : B0 ≤ W.heap.size
  ft : ∀ k, Ft k → B0 ≤ k
  nl : ¬ Ft lb
  hl : W.heap[lb]? = some (cLg S T V rule b.days M (.slice none 0 0))
/-- A book as the checks leave it. -/
structure Fine (b : Ch.Bk) : Prop where
  n4 : b.secs.length ≤ 4
  days : b.days ≤ 30
  secs : Ch.SecsOk b
  svs : ∀ x ∈ b.svs, SvOk b x
  m8 : b.svs.length ≤ 8
def ProdPost (b : Ch.Bk) (J Jx : List Ch.Tr → (Nat → Prop) → World → Prop) (Ft : Nat → Prop) (W : World) : Ending → World → Prop := fun e W' => (∃ v, e = .returned v) ∧
  ((∃ Ft', J (Ch.truths b) Ft' W' ∧ Moves W W' Ft Ft' none) ∨ (∃ q Ft', q <+: Ch.truths b ∧ Jx q Ft' W' ∧ Moves W W' Ft Ft' none))

set_option maxHeartbeats 1000000 in
theorem produce1_any (b : Ch.Bk) (J Jx : List Ch.Tr → (Nat → Prop) → World → Prop) (l : Nat) (S T V M : Value) (rule : Int) (B0 lb : Nat) (Ft : Nat → Prop) (hJ : Own J) (hY : ∀ d, Round J Jx (Ch.truths b).length d l)
    (hf : Fine b) (W : World) (hB : Box b S T V M rule B0 lb Ft W) (hj : J [] Ft W) :
    Calls Tryz.prog 140 #[.func (.yield l) #[] #[], .pointer (some ⟨lb, 0, none⟩)] W (ProdPost b J Jx Ft W) := by
  obtain ⟨A, c, rfl⟩ := hB.rb.secs.form
  go_enter Tryz.func140, Tryz.ntmps140
  go_wp2_with fail
  refine name_calls ?_
  intro W3 hW3
  have hlb : lb < W.heap.size := heap_lt hB.hl
  have hF : ∀ k, Ft k → k < W.heap.size := fun k hk => hJ.lt _ _ _ _ hj hk
  have hb3 : Below W.heap.size W W3 := by rw [hW3]; exact (((Below.refl _ _).alloc (Nat.le_refl _) _).alloc (by simp) _).alloc (by simp; omega) _
  have hz : W3.heap.size = W.heap.size + 3 := by rw [hW3]; simp
  have hy3 : W3.heap[W.heap.size]? = some (.cells #[.func (.yield l) #[] #[]] 115 (0, 0)) := by
    rw [hW3]; exact (Below.heap_alloc _ _ _ (by simp; omega)).trans ((Below.heap_alloc _ _ _ (by simp)).trans (heap_at _ _ rfl))
  have ht3 : W3.heap[W.heap.size + 1]? = some (oTr Ch.noTr) := by
    rw [hW3]; exact (Below.heap_alloc _ _ _ (by simp)).trans (heap_at _ _ (by simp))
  have hw3 : W3.heap[W.heap.size + 1 + 1]? = some (.cells #[.func (.func 141) #[] #[.pointer (some ⟨lb, 0, none⟩), .pointer (some ⟨W.heap.size, 0, none⟩), .pointer (some ⟨W.heap.size + 1, 0, none⟩), .pointer (some ⟨W.heap.size + 1 + 1, 0, none⟩)]] 119 (0, 0)) := by
    rw [hW3]; exact heap_at _ _ (by simp)
  have hl3 := (hb3.block _ hlb).trans hB.hl
  clear hW3
  have hS : Sit b (.slice A b.secs.length c) T V M rule B0 lb W.heap.size (W.heap.size + 1) (W.heap.size + 1 + 1) l Ft W3 :=
    ⟨hB.rb.below hb3 hB.base, hB.rm.below hb3 hB.base, Nat.le_trans hB.base hb3.size, hB.ft, hB.nl, fun h => by have := hF _ h; omega, fun h => by have := hF _ h; omega, fun h => by have := hF _ h; omega,
     by omega, by omega, by omega, by have := hB.base; omega, by omega, hl3, hy3, hw3⟩
  have hwo : Ch.WearOk Ch.noTr.wear := fun q => ⟨by simp [Ch.noTr], by simp [Ch.noTr]⟩
  have hcall : Calls Tryz.prog 141 #[.int .i64 0, .pointer (some ⟨lb, 0, none⟩), .pointer (some ⟨W.heap.size, 0, none⟩), .pointer (some ⟨W.heap.size + 1, 0, none⟩), .pointer (some ⟨W.heap.size + 1 + 1, 0, none⟩)] W3 (WornPost J Jx [] (Ch.truths b) (Ch.worn b b.secs.length Ch.noTr).2 Ft (W.heap.size + 1) W3) :=
    worn_any b J Jx _ l A c T V M rule B0 lb W.heap.size (W.heap.size + 1) (W.heap.size + 1 + 1) hJ hY hf.n4 hf.days hf.secs hf.svs hf.m8 b.secs.length 0 (by omega) Ch.noTr [] Ft W3 hwo hS ht3 (hJ.below hj hb3) (by simp [Ch.truths])
  have hm3 : Moves W W3 Ft Ft none := .of_below hb3
  have HM3 := Lib.hid hm3
  clear hS hwo hl3 hw3 ht3 hy3 hz hb3 hm3
  refine hcall.mono ?_
  clear hcall
  rintro e w5 (⟨Ft5, rfl, hj5, hm5, _⟩ | ⟨q, Ft5, rfl, hq, hj5, hm5⟩)
  · go_wp2_with fail
    go_end0
    exact ⟨⟨_, rfl⟩, .inl ⟨Ft5, hj5, HM3.out.fresh hm5 (by omega)⟩⟩
  · go_wp2_with fail
    go_end0
    exact ⟨⟨_, rfl⟩, .inr ⟨q, Ft5, hq, hj5, HM3.out.fresh hm5 (by omega)⟩⟩

/-- What a round of the loop must leave: the loop goes on, or leaves by a jump. -/
def roundEnd (I : List Ch.Tr → (Nat → Prop) → World → Prop) (Ix : Code → List Ch.Tr → (Nat → Prop) → World → Prop) (xs : List Ch.Tr) (Ft : Nat → Prop) (W : World) : Exit → Act → World → Prop
  | .normal, _, W' => ∃ Ft', I xs Ft' W' ∧ Moves W W' Ft Ft' none
  | .ret, _, W' => ∃ Ft', Ix .ret xs Ft' W' ∧ Moves W W' Ft Ft' none
  | .exit id, _, W' => ∃ Ft', Ix (.exit id) xs Ft' W' ∧ Moves W W' Ft Ft' none
  | .goto t, _, W' => ∃ Ft', Ix (.goto t) xs Ft' W' ∧ Moves W W' Ft Ft' none
  | .panic _, _, _ => False
  | .outgrown, _, _ => False

theorem putObj_other {W : World} {l k : Nat} (o : Obj) (h : k ≠ l) : (W.putObj l o).heap[k]? = W.heap[k]? := World.putObj_heap_other h

set_option maxHeartbeats 1000000 in
theorem range_truths {g : Operand} {ps : Array Tmp} {assign body : Code} {Q : Exit → Act → World → Prop} {a : Act} {w : World} {n : Nat}
    (b : Ch.Bk) (S T V M : Value) (rule : Int) (B0 lb : Nat) (Ft : Nat → Prop) (hg : a.eval g = .func (.func 140) #[] #[.pointer (some ⟨lb, 0, none⟩)]) (hps : ps.size = 1)
    (hf : Fine b) (hB : Box b S T V M rule B0 lb Ft w)
    (I : List Ch.Tr → (Nat → Prop) → World → Prop) (Ix : Code → List Ch.Tr → (Nat → Prop) → World → Prop) (hI : Own I) (hIx : ∀ c, Own (Ix c)) (h0 : I [] Ft w)
    (Ax : Ch.Tr → Act → World → Prop) (hAx : ∀ t a' W l r o, Ax t a' W → W.heap[l]? = some (.loop r) → Ax t a' (W.putObj l o))
    (hassign : ∀ (l d : Nat) (pre : List Ch.Tr) (t : Ch.Tr) (F : Nat → Prop) (W : World) (K : Act → World → Prop), I pre F W → (∀ a' W', I pre F W' → Below W.heap.size W W' → Ax t a' W' → K a' W') →
      assign.wpIn (Fence.wide.inRound l) d Tryz.prog (Exit.then K (fun _ _ _ => False)) { tmps := (ps.zip #[vTr t]).foldl (fun t (p, v) => t.setIfInBounds p v) a.tmps, defers := [] } W)
    (hbody : ∀ (l d : Nat) (pre : List Ch.Tr) (t : Ch.Tr) (F : Nat → Prop) (a' : Act) (W : World), I pre F W → Ax t a' W → pre.length < (Ch.truths b).length → body.wpIn (Fence.wide.inRound l) d Tryz.prog (roundEnd I Ix (pre ++ [t]) F W) a' W)
    (hdone : ∀ (D : Nat) (F : Nat → Prop) (W : World), w.heap.size ≤ D → I (Ch.truths b) F W → ¬ F D → W.heap[D]? = some (.deferred (some [])) → Moves w W Ft (fun k => F k ∨ w.heap.size ≤ k) none → Q .normal { a with defers := { target := .collected D, args := #[] } :: a.defers } W)
    (hstop : ∀ (D : Nat) (c : Code) (pre : List Ch.Tr) (F : Nat → Prop) (W : World), w.heap.size ≤ D → pre <+: Ch.truths b → Ix c pre F W → ¬ F D → W.heap[D]? = some (.deferred (some [])) → Moves w W Ft (fun k => F k ∨ w.heap.size ≤ k) none → c.wpIn Fence.wide n Tryz.prog Q { a with defers := { target := .collected D, args := #[] } :: a.defers } W) :
    (Code.rangeFunc g ps assign body).wpIn Fence.wide n Tryz.prog Q a w := by
  refine wpIn_rangeFunc ?_
  intro fn hfn
  obtain ⟨rec, hrec⟩ : ∃ rec : LoopState → Option Code → Loop, rec = fun st pe => { state := st, pending := pe, fn, tmps := a.tmps, params := ps, assign, body, defers := w.heap.size } := ⟨_, rfl⟩
  obtain ⟨W1, hW1⟩ : ∃ W1, (w.alloc (.deferred (some []))).alloc (.loop (rec .ready none)) = W1 := ⟨_, rfl⟩
  have hb1 : Below w.heap.size w W1 := by rw [← hW1]; exact ((Below.refl _ w).alloc (Nat.le_refl _) _).alloc (by simp) _
  have hL1 : W1.heap[w.heap.size + 1]? = some (.loop (rec .ready none)) := by rw [← hW1]; exact heap_at _ _ (by simp)
  have hK1 : W1.heap[w.heap.size]? = some (.deferred (some [])) := by rw [← hW1]; exact (Below.heap_alloc _ _ _ (by simp)).trans (heap_at _ _ rfl)
  have hFw : ∀ k, Ft k → k < w.heap.size := fun k hk => hI.lt _ _ _ _ h0 hk
  have hlb : lb < w.heap.size := heap_lt hB.hl
  -- what the loop says of its own blocks, the two of book-keeping among them
  let J : List Ch.Tr → (Nat → Prop) → World → Prop := fun pre Fx W => ∃ F, I pre F W ∧ (∀ k, Fx k ↔ F k ∨ k = w.heap.size ∨ k = w.heap.size + 1) ∧ ¬ F w.heap.size ∧ ¬ F (w.heap.size + 1) ∧ W.heap[w.heap.size + 1]? = some (.loop (rec .ready none)) ∧ W.heap[w.heap.size]? = some (.deferred (some []))
  let Jx : List Ch.Tr → (Nat → Prop) → World → Prop := fun pre Fx W => ∃ F c, Ix c pre F W ∧ (∀ k, Fx k ↔ F k ∨ k = w.heap.size ∨ k = w.heap.size + 1) ∧ ¬ F w.heap.size ∧ ¬ F (w.heap.size + 1) ∧ W.heap[w.heap.size + 1]? = some (.loop (rec .done (some c))) ∧ W.heap[w.heap.size]? = some (.deferred (some []))
  have hJ : Own J := by
    refine ⟨?_, ?_⟩
    · rintro pre Fx W W' ⟨F, hi, hx, n1, n2, hl, hk⟩ h1 h2 h3 h4 h5
      exact ⟨F, hI.frame _ _ _ _ hi h1 h2 h3 h4 (fun k hk => h5 k ((hx k).2 (.inl hk))), hx, n1, n2, (h5 _ ((hx _).2 (.inr (.inr rfl)))).trans hl, (h5 _ ((hx _).2 (.inr (.inl rfl)))).trans hk⟩
    · rintro pre Fx W k ⟨F, hi, hx, n1, n2, hl, hk⟩ hfx
      rcases (hx k).1 hfx with h | rfl | rfl
      · exact hI.lt _ _ _ _ hi h
      · exact heap_lt hk
      · exact heap_lt hl
  have hY : ∀ d, Round J Jx (Ch.truths b).length d (w.heap.size + 1) := by
    rintro d pre t Fx W ⟨F, hi, hx, n1, n2, hl, hk⟩ hlen
    have hy := run_yield (P := Tryz.prog) (args := #[vTr t]) hl (by rw [hrec]; exact hps.symm)
    rw [hrec] at hy
    refine ⟨fn, _, assign, body, hy, roundIn_of_wpIn hfn (hassign _ d pre t F W _ hi ?_)⟩
    clear hy
    intro a' Wa hia hba hax
    have hla := (hba.block _ (heap_lt hl)).trans hl
    have hka := (hba.block _ (heap_lt hk)).trans hk
    refine ⟨_, run_beginRound hla (by rw [hrec]), ?_⟩
    obtain ⟨Wb, hWb⟩ : ∃ Wb, Wa.putObj (w.heap.size + 1) (.loop { rec .ready none with state := .busy }) = Wb := ⟨_, rfl⟩
    rw [hWb]
    have hoth : ∀ k, k ≠ w.heap.size + 1 → Wb.heap[k]? = Wa.heap[k]? := fun k hk => by rw [← hWb]; exact putObj_other _ hk
    have hlb2 : Wb.heap[w.heap.size + 1]? = some (.loop { rec .ready none with state := .busy }) := by rw [← hWb]; exact World.putObj_heap_same (heap_lt hla)
    have hkb : Wb.heap[w.heap.size]? = some (.deferred (some [])) := (hoth _ (by omega)).trans hka
    have hsz : Wb.heap.size = Wa.heap.size := by rw [← hWb]; simp [World.putObj]
    have hos : Wb.os = Wa.os ∧ Wb.tape = Wa.tape ∧ Wb.output = Wa.output := by rw [← hWb]; exact ⟨rfl, rfl, rfl⟩
    have hib : I pre F Wb := hI.frame _ _ _ _ hia hos.1 hos.2.1 hos.2.2 (by omega) (fun k hk => hoth k (fun e => n2 (e ▸ hk)))
    have haxb : Ax t a' Wb := by rw [← hWb]; exact hAx _ _ _ _ _ _ hax hla
    have hmab : Moves W Wb Fx Fx none :=
      ⟨hos.1.trans hba.os, hos.2.1.trans hba.tape, hos.2.2.trans hba.output, by have := hba.size; omega, fun k hk hf _ => (hoth k (fun e => hf ((hx k).2 (.inr (.inr e))))).trans (hba.block k hk), fun k h => .inl h⟩
    clear hWb hax hia
    refine wpIn_mono (hbody _ d pre t F a' Wb hib haxb hlen) ?_
    -- the end of a round
    have fin : ∀ (jump : Option Code) (F' : Nat → Prop) (W3 : World), Moves Wb W3 F F' none →
        ∃ W4, (Instr.endRound (w.heap.size + 1) jump).run Tryz.prog W3 = .ok (.bool jump.isNone) W4 ∧ W4.os = W3.os ∧ W4.tape = W3.tape ∧ W4.output = W3.output ∧ W4.heap.size = W3.heap.size ∧ (∀ k, k ≠ w.heap.size + 1 → W4.heap[k]? = W3.heap[k]?) ∧
          W4.heap[w.heap.size + 1]? = some (.loop (rec (if jump.isNone then .ready else .done) jump)) ∧ W4.heap[w.heap.size]? = some (.deferred (some [])) ∧ ¬ F' w.heap.size ∧ ¬ F' (w.heap.size + 1) ∧
          Moves W W4 Fx (fun k => F' k ∨ k = w.heap.size ∨ k = w.heap.size + 1) none := fun jump F' W3 m => by
      have hl3 := (m.block _ (heap_lt hlb2) n2 (by simp)).trans hlb2
      have hk3 := (m.block _ (heap_lt hkb) n1 (by simp)).trans hkb
      have hr := run_endRound (P := Tryz.prog) jump hl3
      refine ⟨_, hr, rfl, rfl, rfl, by simp [World.putObj], fun k hk => putObj_other _ hk, ?_, ?_, ?_, ?_, ?_⟩
      · rw [hrec]; rw [hrec] at hl3; exact World.putObj_heap_same (heap_lt hl3)
      · exact (putObj_other _ (by omega)).trans hk3
      · intro h
        rcases m.foot _ h with h' | h'
        · exact n1 h'
        · have := heap_lt hkb; omega
      · intro h
        rcases m.foot _ h with h' | h'
        · exact n2 h'
        · have := heap_lt hlb2; omega
      · refine hmab.trans ⟨m.os, m.tape, m.output, by have := m.size; simpa [World.putObj] using this, fun k hk hf _ => ?_, fun k h => ?_⟩
        · have hne : k ≠ w.heap.size + 1 := fun e => hf ((hx k).2 (.inr (.inr e)))
          exact (putObj_other _ hne).trans (m.block k hk (fun h => hf ((hx k).2 (.inl h))) (by simp))
        · rcases h with h | h
          · rcases m.foot k h with h' | h'
            · exact .inl ((hx k).2 (.inl h'))
            · exact .inr h'
          · exact .inl ((hx k).2 (.inr h))
    rintro e a3 W3 hp
    cases e with
    | normal =>
      obtain ⟨F', hi3, m⟩ := hp
      obtain ⟨W4, hr, e1, e2, e3, e4, e5, e6, e7, e8, e9, hm⟩ := fin none F' W3 m
      exact ⟨_, _, hr, .inl ⟨_, rfl, ⟨F', hI.frame _ _ _ _ hi3 e1 e2 e3 (by omega) (fun k hk => e5 k (fun e => e9 (e ▸ hk))), fun k => Iff.rfl, e8, e9, e6, e7⟩, hm⟩⟩
    | ret =>
      obtain ⟨F', hi3, m⟩ := hp
      obtain ⟨W4, hr, e1, e2, e3, e4, e5, e6, e7, e8, e9, hm⟩ := fin (some .ret) F' W3 m
      exact ⟨_, _, hr, .inr ⟨_, rfl, ⟨F', _, (hIx _).frame _ _ _ _ hi3 e1 e2 e3 (by omega) (fun k hk => e5 k (fun e => e9 (e ▸ hk))), fun k => Iff.rfl, e8, e9, e6, e7⟩, hm⟩⟩
    | exit id =>
      obtain ⟨F', hi3, m⟩ := hp
      obtain ⟨W4, hr, e1, e2, e3, e4, e5, e6, e7, e8, e9, hm⟩ := fin (some (.exit id)) F' W3 m
      exact ⟨_, _, hr, .inr ⟨_, rfl, ⟨F', _, (hIx _).frame _ _ _ _ hi3 e1 e2 e3 (by omega) (fun k hk => e5 k (fun e => e9 (e ▸ hk))), fun k => Iff.rfl, e8, e9, e6, e7⟩, hm⟩⟩
    | goto t' =>
      obtain ⟨F', hi3, m⟩ := hp
      obtain ⟨W4, hr, e1, e2, e3, e4, e5, e6, e7, e8, e9, hm⟩ := fin (some (.goto t')) F' W3 m
      exact ⟨_, _, hr, .inr ⟨_, rfl, ⟨F', _, (hIx _).frame _ _ _ _ hi3 e1 e2 e3 (by omega) (fun k hk => e5 k (fun e => e9 (e ▸ hk))), fun k => Iff.rfl, e8, e9, e6, e7⟩, hm⟩⟩
    | panic ch => exact hp.elim
    | outgrown => exact hp.elim
  have hj1 : J [] (fun k => Ft k ∨ k = w.heap.size ∨ k = w.heap.size + 1) W1 :=
    ⟨Ft, hI.below h0 hb1, fun _ => Iff.rfl, fun h => by have := hFw _ h; omega, fun h => by have := hFw _ h; omega, hL1, hK1⟩
  have hB1 : Box b S T V M rule B0 lb (fun k => Ft k ∨ k = w.heap.size ∨ k = w.heap.size + 1) W1 :=
    ⟨hB.rb.below hb1 hB.base, hB.rm.below hb1 hB.base, Nat.le_trans hB.base hb1.size, fun k hk => by
      have := hB.base
      rcases hk with h | h | h
      · exact hB.ft k h
      · omega
      · omega, fun h => by
      rcases h with h | h | h
      · exact hB.nl h
      · omega
      · omega, (hb1.block _ hlb).trans hB.hl⟩
  have hcall := produce1_any b J Jx (w.heap.size + 1) S T V M rule B0 lb _ hJ hY hf W1 hB1 hj1
  refine ⟨w.heap.size + 1, [{ target := .collected w.heap.size, args := #[] }], W1, { target := .fn (.func 140) #[.pointer (some ⟨lb, 0, none⟩)], args := #[.func (.yield (w.heap.size + 1)) #[] #[]] }, W1, 140,
    #[.func (.yield (w.heap.size + 1)) #[] #[], .pointer (some ⟨lb, 0, none⟩)], W1, ?_, ?_, fun _ _ => trivial, ?_, (fun h => by simp [Fence.wide] at h), callsIn_wide.2 (hcall.mono ?_)⟩
  · rw [← hW1, hrec]; exact run_enterLoop_outer _ _ _ _ _
  · simp only [resolve, hg]
    simp [go_sem]
  · have eg := Go.Proofs.enters_of Tryz.func140 (by kernel_rfl) rfl
    simp [invoke, go_sem, eg]
  · have hsz1 : W1.heap.size = w.heap.size + 2 := by rw [← hW1]; simp
    have hmv : ∀ (F Fx : Nat → Prop) (W2 W3 : World), (∀ k, Fx k ↔ F k ∨ k = w.heap.size ∨ k = w.heap.size + 1) → Moves W1 W2 (fun k => Ft k ∨ k = w.heap.size ∨ k = w.heap.size + 1) Fx none → W3.os = W2.os → W3.tape = W2.tape → W3.output = W2.output → W3.heap.size = W2.heap.size → (∀ k, k ≠ w.heap.size + 1 → W3.heap[k]? = W2.heap[k]?) →
        Moves w W3 Ft (fun k => F k ∨ w.heap.size ≤ k) none := fun F Fx W2 W3 hx m e1 e2 e3 e4 e5 =>
      ⟨e1.trans (m.os.trans hb1.os), e2.trans (m.tape.trans hb1.tape), e3.trans (m.output.trans hb1.output), by have := m.size; omega,
       fun k hk hf _ => (e5 k (by omega)).trans ((m.block k (by omega) (fun h => by rcases h with h | h | h; exact hf h; omega; omega) (by simp)).trans (hb1.block k hk)),
       fun k h => by
        rcases h with h | h
        · rcases m.foot k ((hx k).2 (.inl h)) with h' | h'
          · rcases h' with h' | h' | h'
            · exact .inl h'
            · exact .inr (by omega)
            · exact .inr (by omega)
          · exact .inr (by omega)
        · exact .inr h⟩
    rintro e W2 ⟨⟨v, rfl⟩, (⟨Fx, ⟨F, hi, hx, n1, n2, hl, hk⟩, m⟩ | ⟨q, Fx, hq, ⟨F, c, hi, hx, n1, n2, hl, hk⟩, m⟩)⟩
    · have hr := run_endLoop (P := Tryz.prog) hl (by rw [hrec]; simp)
      refine ⟨none, _, by rw [hr, hrec], hdone w.heap.size F _ (Nat.le_refl _) ?_ n1 ((putObj_other _ (by omega)).trans hk) (hmv F Fx W2 _ hx m rfl rfl rfl (by simp [World.putObj]) (fun k h => putObj_other _ h))⟩
      exact hI.frame _ _ _ _ hi rfl rfl rfl (by simp [World.putObj]) (fun k hk => putObj_other _ (fun e => n2 (e ▸ hk)))
    · have hr := run_endLoop (P := Tryz.prog) hl (by rw [hrec]; simp)
      refine ⟨some c, _, by rw [hr, hrec], hstop w.heap.size c q F _ (Nat.le_refl _) hq ?_ n1 ((putObj_other _ (by omega)).trans hk) (hmv F Fx W2 _ hx m rfl rfl rfl (by simp [World.putObj]) (fun k h => putObj_other _ h))⟩
      exact (hIx c).frame _ _ _ _ hi rfl rfl rfl (by simp [World.putObj]) (fun k hk => putObj_other _ (fun e => n2 (e ▸ hk)))

end Go.Proofs.YtkfahochpnggbaaGreat

/- Contracts of chain's ledger: produce; possible. -/
namespace Go.Proofs.YtkfahochpnggbaaGreat
open Go.RowKit
attribute [local go_sem] Oper.semAt_some

set_option maxHeartbeats 400000 in
theorem produce_any (S T V M R : Value) (rule days : Int) (A : Option Addr) (n c : Nat) (w : World) (hS : S = .slice A n c) :
    Calls Tryz.prog 111 #[vLg S T V rule days M R] w fun e w' => e = .returned (.func (.func 140) #[] #[.pointer (some ⟨w.heap.size, 0, none⟩)]) ∧ w' = w.alloc (cLg S T V rule days M R) := by
  subst hS
  go_enter Tryz.func111, Tryz.ntmps111
  go_wp2_with fail
  go_ret
  exact ⟨rfl, rfl⟩

theorem Moves.own {W W1 : World} {Ft F1 : Nat → Prop} {tb : Option Nat} (h : Moves W W1 Ft F1 tb) {t : Nat} (ht : F1 t) (o : Nat) (v : Value) : Moves W (W1.setCell ⟨t, o, none⟩ v) Ft F1 tb :=
  h.trans ⟨rfl, rfl, rfl, by simp [World.setCell], fun i _ hf _ => Below.heap_setCell _ _ _ _ (fun e => hf (by rw [show i = t from e]; exact ht)), fun _ h => .inl h⟩

theorem Moves.toBelow {W W1 : World} {Ft F1 : Nat → Prop} {B : Nat} (h : Moves W W1 Ft F1 none) (hF : ∀ k, Ft k → B ≤ k) (hB : B ≤ W.heap.size) : Below B W W1 :=
  ⟨h.os, h.tape, h.output, h.size, fun k hk => h.block k (by omega) (fun hf => by have := hF k hf; omega) (by simp)⟩
theorem cell_putObj {W : World} {D : Nat} {o : Obj} {p : Addr} (h : p.block ≠ D) : (W.putObj D o).cell? p = W.cell? p := World.cell?_of_block (putObj_other o h)
theorem Below.putO {B : Nat} {w W : World} (h : Below B w W) {D : Nat} (hD : B ≤ D) (o : Obj) : Below B w (W.putObj D o) :=
  h.trans ⟨rfl, rfl, rfl, by simp [World.putObj], fun k hk => putObj_other o (by omega)⟩

/-- The result's cell, while the loop goes. -/
def PossAt (rb : Nat) (x : Bool) (pre : List Ch.Tr) (Ft : Nat → Prop) (W : World) : Prop :=
  (x = false ↔ pre = []) ∧ (∀ k, Ft k ↔ k = rb) ∧ W.heap[rb]? = some (.cells #[.bool x] 4 (0, 0))
theorem possAt_own (rb : Nat) (x : Bool) : Own (PossAt rb x) :=
  ⟨fun _ _ _ _ ⟨h1, h2, h3⟩ _ _ _ _ h => ⟨h1, h2, (h rb ((h2 rb).2 rfl)).trans h3⟩, fun _ _ _ k ⟨_, h2, h3⟩ hk => by rw [(h2 k).1 hk]; exact heap_lt h3⟩

set_option maxHeartbeats 1000000 in
theorem possible_any (b : Ch.Bk) (S T V M : Value) (rule : Int) (w : World) (hf : Fine b) (hb : RB w w.heap.size b S T V) (hM : RM w w.heap.size b M) :
    Calls Tryz.prog 77 #[vLg S T V rule b.days M (.slice none 0 0)] w fun e w' => e = .returned (.bool (decide (Ch.truths b ≠ []))) ∧ Below w.heap.size w w' := by
  obtain ⟨A, c, rfl⟩ := hb.secs.form
  obtain ⟨A1, c1, rfl⟩ := hb.turns.form
  obtain ⟨A2, c2, rfl⟩ := hb.svs.form
  obtain ⟨r, es, clock, rfl, hr, hrest⟩ := hM
  have hM : RM w w.heap.size b (.map (some r)) := ⟨r, es, clock, rfl, hr, hrest⟩
  clear hrest hr
  refine (callsIn_wide (n := 1)).1 ?_
  refine callsIn_of_wp_marks Tryz.func77 rfl trivial ?_ rfl
  simp only [Tryz.ntmps77, List.size_toArray, List.length_cons, List.length_nil, Nat.reduceAdd, Nat.reduceSub, Array.replicate_succ, Array.replicate_zero, List.push_toArray, List.append_toArray, List.nil_append, List.cons_append]
  refine wpIn_wide.2 ?_
  go_wp2_with fail
  refine (produce_any _ _ _ _ _ rule b.days A _ _ _ rfl).mono ?_
  rintro e w1 ⟨rfl, rfl⟩
  go_wp2_with fail
  have hb3 : Below w.heap.size w (((w.alloc (.cells #[.slice A b.secs.length c, .slice A1 b.turns.length c1, .slice A2 b.svs.length c2, I rule, I b.days, .map (some r), .slice none 0 0] 93)).alloc (.cells #[.bool false] 4)).alloc (cLg (.slice A b.secs.length c) (.slice A1 b.turns.length c1) (.slice A2 b.svs.length c2) rule b.days (.map (some r)) (.slice none 0 0))) :=
    (((Below.refl _ _).alloc (Nat.le_refl _) _).alloc (by simp) _).alloc (by simp; omega) _
  have hrow : (((w.alloc (.cells #[.slice A b.secs.length c, .slice A1 b.turns.length c1, .slice A2 b.svs.length c2, I rule, I b.days, .map (some r), .slice none 0 0] 93)).alloc (.cells #[.bool false] 4)).alloc (cLg (.slice A b.secs.length c) (.slice A1 b.turns.length c1) (.slice A2 b.svs.length c2) rule b.days (.map (some r)) (.slice none 0 0))).heap[w.heap.size + 1]? = some (.cells #[.bool false] 4 (0, 0)) :=
    (Below.heap_alloc _ _ _ (by simp)).trans (heap_at _ _ (by simp))
  refine (wpIn_wide (n := 1)).1 (range_truths b (.slice A b.secs.length c) (.slice A1 b.turns.length c1) (.slice A2 b.svs.length c2) (.map (some r)) rule w.heap.size (w.heap.size + 1 + 1) (fun k => k = w.heap.size + 1) rfl rfl hf
    ⟨hb.below hb3 (Nat.le_refl _), hM.below hb3 (Nat.le_refl _), hb3.size, fun k hk => by omega, by omega, heap_at _ _ (by simp)⟩
    (PossAt (w.heap.size + 1) false) (fun c pre Ft W => c = .ret ∧ PossAt (w.heap.size + 1) true pre Ft W) (possAt_own _ _) (fun c => ⟨fun _ _ _ _ h h1 h2 h3 h4 h5 => ⟨h.1, (possAt_own _ _).frame _ _ _ _ h.2 h1 h2 h3 h4 h5⟩, fun _ _ _ k h hk => (possAt_own _ _).lt _ _ _ k h.2 hk⟩)
    ⟨by simp, fun _ => Iff.rfl, hrow⟩ (fun t a' _ => ∃ v0 v1 v3 v4, a' = { tmps := #[v0, v1, .pointer (some ⟨w.heap.size + 1, 0, none⟩), v3, v4, vTr t], defers := [] }) (fun _ _ _ _ _ _ h _ => h) ?assign ?body ?done ?stop)
  case assign =>
    intro l d pre t F W K hi hK
    gi_wp2_with fail
    exact hK _ _ hi (Below.refl _ _) ⟨vLg (.slice A b.secs.length c) (.slice A1 b.turns.length c1) (.slice A2 b.svs.length c2) rule b.days (.map (some r)) (.slice none 0 0), .pointer (some ⟨w.heap.size, 0, none⟩), .agg #[.slice A b.secs.length c, .slice A1 b.turns.length c1, .slice A2 b.svs.length c2, I rule, I b.days, .map (some r), .slice none 0 0], .func (.func 140) #[] #[.pointer (some ⟨w.heap.size + 1 + 1, 0, none⟩)], by simp⟩
  case body =>
    rintro l d pre t F a' W ⟨h1, h2, h3⟩ ⟨v0, v1, v3, v4, rfl⟩ _
    have c0 := cell_of_row W _ 0 _ _ _ h3
    have f0 : W.frozen? ⟨w.heap.size + 1, 0, none⟩ = false := by simp [World.frozen?, h3]
    have H3 := Lib.hid h3
    have H2 := Lib.hid h2
    clear h1 h2 h3
    gi_wp2_with fail
    refine ⟨F, ⟨rfl, by simp, H2.out, ?_⟩, (Moves.refl _ _ _).own ((H2.out _).2 rfl) _ _⟩
    simp [World.setCell, Array.getElem?_modify, H3.out]
  case done =>
    rintro D F W hD ⟨h1, h2, h3⟩ hn hK hm
    have hnil : Ch.truths b = [] := h1.1 rfl
    have HN := Lib.hid hnil
    have HM := Lib.hid hm
    have HD := Lib.hid hD
    have HK := Lib.hid hK
    have H2 := Lib.hid h2
    have c0 := cell_of_row W _ 0 _ _ _ h3
    have f0 : W.frozen? ⟨w.heap.size + 1, 0, none⟩ = false := by simp [World.frozen?, h3]
    have HB3 := Lib.hid hb3
    clear hnil hm hD hK h1 h2 h3 hrow hb3
    have hne : w.heap.size + 1 ≠ D := fun e => hn ((H2.out D).2 e.symm)
    have HNE := Lib.hid hne
    clear hne hn
    go_wp2_with fail
    have hne := HNE.out
    have hk' : (W.setCell ⟨w.heap.size + 1, 0, none⟩ (.bool false)).heap[D]? = some (.deferred (some [])) := (Below.heap_setCell _ _ _ _ (fun e => hne e.symm)).trans HK.out
    have hd : w.heap.size ≤ D := by have := HD.out; simp at this; omega
    refine ⟨by simp, .inl ⟨_, _, rfl, run_takeDeferred hk', ?_⟩⟩
    have hc5 : ((W.setCell ⟨w.heap.size + 1, 0, none⟩ (.bool false)).putObj D (.deferred none)).cell? ⟨w.heap.size + 1, 0, none⟩ = some (.bool false) := (cell_putObj hne).trans (World.cell?_setCell_same' _ _ _ (by rw [c0]; rfl))
    refine ⟨.bool false, ?_, by rw [HN.out]; rfl, ?_⟩
    · simp [results, Tryz.f77, go_sem, hc5]
    · exact Below.putO ((HB3.out.trans (HM.out.toBelow (fun k hk => by omega) HB3.out.size)).setCell (by simp) _) hd _
  case stop =>
    rintro D c' pre F W hD hpre ⟨rfl, h1, h2, h3⟩ hn hK hm
    refine wpIn_wide.2 ?_
    have hne : w.heap.size + 1 ≠ D := fun e => hn ((h2 D).2 e.symm)
    have hd : w.heap.size ≤ D := by simp at hD; omega
    have hpn : pre ≠ [] := fun e => by have := h1.2 e; cases this
    have htn : Ch.truths b ≠ [] := fun e => hpn (by rw [e] at hpre; simpa using hpre)
    have c0 := cell_of_row W _ 0 _ _ _ h3
    go_wp2_with fail
    refine ⟨by simp, .inl ⟨_, _, rfl, run_takeDeferred hK, ?_⟩⟩
    have hc5 : (W.putObj D (.deferred none)).cell? ⟨w.heap.size + 1, 0, none⟩ = some (.bool true) := (cell_putObj hne).trans c0
    refine ⟨.bool true, ?_, by simp [htn], ?_⟩
    · simp [results, Tryz.f77, go_sem, hc5]
    · exact Below.putO (hb3.trans (hm.toBelow (fun k hk => by omega) hb3.size)) hd _

end Go.Proofs.YtkfahochpnggbaaGreat
