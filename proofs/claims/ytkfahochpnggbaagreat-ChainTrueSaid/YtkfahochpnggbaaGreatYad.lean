/- Texts on the program that the proof leans on, part 4. -/
import Derived.Test.YtkfahochpnggbaaGreatYaa
import Derived.Test.YtkfahochpnggbaaGreatYac
import Derived.Maps.Keyed
import Derived.DeepKeys4
import Derived.Maps.Own
import Derived.Maps.OwnOps
import Derived.Laws.StructEq
set_option linter.unusedVariables false
set_option linter.unusedSimpArgs false

/- The layer of chains, as plain mathematics: where sections lie, and how much thinner they are. Imports nothing of the program. -/
namespace Go.Proofs.YtkfahochpnggbaaGreat.Ch

/-! Where sections lie, and how much thinner they are. Four numbers, one for each place: a function on numbers. -/
def turnedL (d : Int) (l : List Int) : Bool := l.foldl (fun t x => if x ≤ d then !t else t) false
def turned (b : Bk) (d : Int) : Bool := turnedL d b.turns
def place (b : Bk) (s d : Int) : Int := if turned b d then b.secs.length - 1 - s else s
def lain (b : Bk) (s : Int) : Nat → Nat → Int
  | 0, _ => 0
  | d + 1, p => lain b s d p + if (p : Int) = place b s d then 1 else 0
theorem lain_bd (b : Bk) (s : Int) (d p : Nat) : 0 ≤ lain b s d p ∧ lain b s d p ≤ d := by
  induction d with
  | zero => simp [lain]
  | succ d ih => simp only [lain]; split <;> omega
def lost (b : Bk) (wear : Nat → Int) (s : Int) (d : Nat) : Int := lain b s d 0 * wear 0 + lain b s d 1 * wear 1 + lain b s d 2 * wear 2 + lain b s d 3 * wear 3
def WearOk (wear : Nat → Int) : Prop := ∀ p, 0 ≤ wear p ∧ wear p ≤ 3
theorem mul_bd {x y : Int} {d : Nat} (h0 : 0 ≤ x) (h1 : x ≤ d) (h2 : 0 ≤ y) (h3 : y ≤ 3) : 0 ≤ x * y ∧ x * y ≤ 3 * d := by
  refine ⟨Int.mul_nonneg h0 h2, ?_⟩
  have := Int.mul_le_mul h1 h3 h2 (by omega : (0:Int) ≤ d)
  omega
theorem term_bd (b : Bk) (wear : Nat → Int) (hw : WearOk wear) (s : Int) (d p : Nat) : 0 ≤ lain b s d p * wear p ∧ lain b s d p * wear p ≤ 3 * d :=
  mul_bd (lain_bd b s d p).1 (lain_bd b s d p).2 (hw p).1 (hw p).2
theorem lost_bd (b : Bk) (wear : Nat → Int) (hw : WearOk wear) (s : Int) (d : Nat) : 0 ≤ lost b wear s d ∧ lost b wear s d ≤ 12 * d := by
  have h0 := term_bd b wear hw s d 0
  have h1 := term_bd b wear hw s d 1
  have h2 := term_bd b wear hw s d 2
  have h3 := term_bd b wear hw s d 3
  unfold lost
  omega
theorem lost_zero (b : Bk) (wear : Nat → Int) (s : Int) : lost b wear s 0 = 0 := by simp [lost, lain]
theorem lost_none (b : Bk) (wear : Nat → Int) (s : Int) (d : Nat) (h : ∀ p, p < 4 → wear p = 0) : lost b wear s d = 0 := by
  simp [lost, h 0 (by omega), h 1 (by omega), h 2 (by omega), h 3 (by omega)]
theorem turned_snoc (d : Int) (l : List Int) (x : Int) : turnedL d (l ++ [x]) = if x ≤ d then !turnedL d l else turnedL d l := by
  simp [turnedL, List.foldl_append]
theorem place_bd (b : Bk) (s d : Int) (h0 : 0 ≤ s) (h1 : s < b.secs.length) : 0 ≤ place b s d ∧ place b s d < b.secs.length := by
  unfold place; split <;> omega

end Go.Proofs.YtkfahochpnggbaaGreat.Ch

/- Contracts of chain's ledger: where sections lie. -/
namespace Go.Proofs.YtkfahochpnggbaaGreat
open Go.RowKit
abbrev vSpot (s d : Int) : Value := .agg #[I s, I d]
abbrev vPl (p : Nat → Int) : Value := .agg #[I (p 0), I (p 1), I (p 2), I (p 3)]
abbrev vLg (S T V : Value) (rule days : Int) (M R : Value) : Value := .agg #[S, T, V, I rule, I days, M, R]
abbrev cLg (S T V : Value) (rule days : Int) (M R : Value) : Obj := .cells #[S, T, V, I rule, I days, M, R] 93

set_option maxHeartbeats 400000 in
theorem start_any (s d : Int) (w : World) :
    Calls Tryz.prog 152 #[vSpot s d] w fun e w' => e = .returned (vSpot s 0) ∧ Below w.heap.size w w' := by
  go_enter Tryz.func152, Tryz.ntmps152
  go_wp2
  refine bodyPost_ret (v := vSpot s 0) (by simp [results, Tryz.results152, go_sem]) rfl ⟨rfl, ?_⟩
  exact ((Below.refl _ _).alloc (Nat.le_refl _) _).alloc (by simp) _

set_option maxHeartbeats 400000 in
theorem across_any (n : Nat) (A : Option Addr) (c : Nat) (T V M R : Value) (rule days s : Int) (w : World) (h0 : 0 ≤ s) (h1 : s < n) (hn : n ≤ 4) :
    Calls Tryz.prog 160 #[vLg (.slice A n c) T V rule days M R, I s] w fun e w' => e = .returned (I (n - 1 - s)) ∧ Below w.heap.size w w' := by
  go_enter Tryz.func160, Tryz.ntmps160
  go_wp2
  go_ret
  exact ⟨rfl, (Below.refl _ _).alloc (Nat.le_refl _) _⟩

set_option maxHeartbeats 1000000 in
theorem place_any (b : Ch.Bk) (A : Option Addr) (c : Nat) (T V M R : Value) (rule days s d : Int) (w : World) (hb : RB w w.heap.size b (.slice A b.secs.length c) T V) (h0 : 0 ≤ s) (h1 : s < b.secs.length) (hn : b.secs.length ≤ 4) :
    Calls Tryz.prog 139 #[vLg (.slice A b.secs.length c) T V rule days M R, vSpot s d] w fun e w' => e = .returned (I (Ch.place b s d)) ∧ Below w.heap.size w w' := by
  obtain ⟨A1, c1, rfl⟩ := hb.turns.form
  have hm := hb.turns.le
  unfold maxLen at hm
  have hB : Below w.heap.size w ((w.alloc (cLg (.slice A b.secs.length c) (.slice A1 b.turns.length c1) V rule days M R)).alloc (.cells #[I s, I d] 106)) := ((Below.refl _ _).alloc (Nat.le_refl _) _).alloc (by simp) _
  go_enter Tryz.func139, Tryz.ntmps139
  go_wp2
  go_loop [5, 12] (fun t i => ∃ (k : Nat), k ≤ b.turns.length ∧ i = I k ∧ t = .bool (Ch.turnedL d (b.turns.take k))) (fun _ i => b.turns.length - (intOf i).toNat)
  case atStart => exact ⟨0, Nat.zero_le _, rfl, rfl⟩
  case round =>
    obtain ⟨k, hk, rfl, rfl⟩ := hrel
    by_cases hlt : k < b.turns.length
    · obtain ⟨bl, off, c', hv, hbl, q0⟩ := hb.turn hlt
      injection hv with hA _ hc
      subst hA hc
      have hs := Ch.turned_snoc d (b.turns.take k) b.turns[k]
      rw [← List.take_succ_eq_append_getElem hlt] at hs
      by_cases h2 : b.turns[k] ≤ d
      · rw [if_pos h2] at hs
        have H := Lib.hid hs
        clear hs
        go_wp2_with fail
        go_round
        case rel => exact ⟨k + 1, by omega, by go_num, by rw [H.out]⟩
        case measure => simp [intOf]; omega
      · rw [if_neg h2] at hs
        have H := Lib.hid hs
        clear hs
        go_wp2_with fail
        go_round
        case rel => exact ⟨k + 1, by omega, by go_num, by rw [H.out]⟩
        case measure => simp [intOf]; omega
    · obtain rfl : k = b.turns.length := by omega
      rw [List.take_length]
      generalize hT : Ch.turnedL d b.turns = tb
      have HT := Lib.hid hT
      clear hT
      cases tb
      · go_wp2_with fail
        go_ret
        exact ⟨ret_i (by unfold Ch.place Ch.turned; rw [HT.out]; rfl), hB⟩
      · go_wp2_with fail
        refine (across_any b.secs.length A c _ V M R rule days s _ h0 h1 hn).mono ?_
        rintro e w1 ⟨rfl, hB1⟩
        go_wp2_with fail
        go_ret
        exact ⟨ret_i (by unfold Ch.place Ch.turned; rw [HT.out]; rfl), hB.trans (hB1.mono hB.size)⟩

end Go.Proofs.YtkfahochpnggbaaGreat

/- What a map keyed by a section and a day does: a look-up, a store of a new key; the ledger's map. -/
namespace Go.Proofs.YtkfahochpnggbaaGreat
open Go.RowKit

theorem keyed : Maps.Keyed Tryz.prog 106 := Maps.Keyed.of_law (deep_law_laid (m := 3) (by kernel_rfl) (by omega) (of_decide_eq_true (by kernel_rfl)) (by kernel_rfl) (by kernel_rfl))
theorem under_map : Tryz.prog.underlying 90 = some (.map 106 111) := by kernel_rfl
theorem key2_gen {P : Program} {k i : TypeId} {f1 f2 : Field} {N : Nat} (h1 : P.underlying k = some (.struct #[f1, f2])) (h2 : P.keyType k = true) (h3 : P.cellsOf k = 2) (h4 : P.cellsOf i = 1) (h5 : P.underlying i = some (.int .i64)) (h6 : P.types.size = N + 2)
    (o1 : f1.offset = 0) (o2 : f2.offset = 1) (t1 : f1.type = i) (t2 : f2.type = i) (n1 : (f1.name != "_") = true) (n2 : (f2.name != "_") = true) (s d : Int) (hs : (Lit.int .i64 s).wf = true) (hd : (Lit.int .i64 d).wf = true) :
    ∃ l, keyOf P k (.agg #[I s, I d]) = some l := by
  unfold keyOf
  rw [h6]
  simp only [h1, h2, Value.formed, h3]
  simp [Program.keyLits, Value.cells, h1, h3, h4, h5, o1, o2, t1, t2, n1, n2, hs, hd]
theorem key_spot (s d : Int) (hs : (Lit.int .i64 s).wf = true) (hd : (Lit.int .i64 d).wf = true) : ∃ l, keyOf Tryz.prog 106 (vSpot s d) = some l :=
  key2_gen (P := Tryz.prog) (k := 106) (i := 3) (f1 := { name := "section", type := 3, offset := 0, byteOffset := 0, embedded := false, tag := "", pkgPath := "prow/chain" }) (f2 := { name := "day", type := 3, offset := 1, byteOffset := 8, embedded := false, tag := "", pkgPath := "prow/chain" })
    (N := Tryz.prog.types.size - 2) (by kernel_rfl) (by kernel_rfl) (by kernel_rfl) (by kernel_rfl) (by kernel_rfl) (by kernel_rfl) rfl rfl rfl rfl rfl rfl s d hs hd

theorem run_new_key {w : World} {r : Nat} {es : Array MapEntry} {clock : Nat} (hh : w.heap[r]? = some (.map es clock)) (hk : ∀ e ∈ es.toList, ∃ l, keyOf Tryz.prog 106 e.key = some l) {x v : Value} {lx : Lit} (hx : keyOf Tryz.prog 106 x = some lx)
    (hnew : ∀ e ∈ es.toList, e.key ≠ x) : (Instr.mapUpdate 90 (.map (some r)) x v).run Tryz.prog w = .ok () { w with heap := w.heap.setIfInBounds r (.map (es.push { key := x, val := v, born := clock }) (clock + 1)) } := by
  have h1 := keyed.check w false hx
  unfold Instr.mapUpdate
  rcases keyed.find w hx es.toList hk with ⟨h2, _⟩ | ⟨j, e, _, h3, h4⟩
  · simp [run_underlying under_map, getObj, setObj, Sem.run, hh, h1, h2]
  · exact absurd h4 (hnew e (List.mem_of_getElem? h3))

theorem run_old_key {w : World} {r : Nat} {es : Array MapEntry} {clock : Nat} (hh : w.heap[r]? = some (.map es clock)) (hk : ∀ e ∈ es.toList, ∃ l, keyOf Tryz.prog 106 e.key = some l) {x v : Value} {lx : Lit} (hx : keyOf Tryz.prog 106 x = some lx)
    (hin : ∃ e ∈ es.toList, e.key = x) (hval : ∀ e ∈ es.toList, e.key = x → e.val = v) : (Instr.lookup 90 (.map (some r)) x false).run Tryz.prog w = .ok v w := by
  have h1 := keyed.check w es.isEmpty hx
  unfold Instr.lookup
  rcases keyed.find w hx es.toList hk with ⟨_, h2⟩ | ⟨j, e, h2, h3, h4⟩
  · obtain ⟨e, he, hex⟩ := hin
    exact absurd hex (h2 e he)
  · have h5 := hval e (List.mem_of_getElem? h3) h4
    simp [run_underlying under_map, getObj, Sem.run, hh, h1, h2, h5]

/-- The keys of a book. -/
def Good (b : Ch.Bk) (s d : Nat) : Prop := s < b.secs.length ∧ (d : Int) ≤ b.days
/-- The ledger's map: where each section lay before each day. -/
def RM (w : World) (B : Nat) (b : Ch.Bk) (M : Value) : Prop :=
  ∃ r es clock, M = .map (some r) ∧ r < B ∧ w.heap[r]? = some (.map es clock) ∧ (∀ e ∈ es.toList, ∃ s d : Nat, Good b s d ∧ e.key = vSpot s d ∧ e.val = vPl (Ch.lain b s d)) ∧ (∀ s d : Nat, Good b s d → ∃ e ∈ es.toList, e.key = vSpot s d)
theorem RM.below {w w' : World} {B B' : Nat} {b : Ch.Bk} {M : Value} (h : RM w B b M) (hb : Below B' w w') (hB : B ≤ B') : RM w' B b M := by
  obtain ⟨r, es, clock, hM, hr, hh, h1, h2⟩ := h
  exact ⟨r, es, clock, hM, hr, (hb.block r (by omega)).trans hh, h1, h2⟩
theorem RM.more {w : World} {B B' : Nat} {b : Ch.Bk} {M : Value} (h : RM w B b M) (hB : B ≤ B') : RM w B' b M := by
  obtain ⟨r, es, clock, hM, hr, hh, h1, h2⟩ := h
  exact ⟨r, es, clock, hM, by omega, hh, h1, h2⟩
theorem RM.look {w : World} {B : Nat} {b : Ch.Bk} {M : Value} (h : RM w B b M) (hn : b.secs.length ≤ 4) (hd : b.days ≤ 30) {s d : Nat} (hg : Good b s d) :
    (Instr.lookup 90 M (vSpot s d) false).run Tryz.prog w = .ok (vPl (Ch.lain b s d)) w := by
  obtain ⟨r, es, clock, rfl, hr, hh, h1, h2⟩ := h
  have hkey : ∀ s d : Nat, Good b s d → ∃ l, keyOf Tryz.prog 106 (vSpot s d) = some l := fun s d hg => key_spot s d (WalkArith.wf_i64 (by have := hg.1; omega)) (WalkArith.wf_i64 (by have := hg.2; omega))
  obtain ⟨lx, hx⟩ := hkey s d hg
  refine run_old_key hh (fun e he => ?_) hx (h2 s d hg) (fun e he hex => ?_)
  · obtain ⟨s', d', hg', hk', _⟩ := h1 e he
    rw [hk']
    exact hkey s' d' hg'
  · obtain ⟨s', d', hg', hk', hv'⟩ := h1 e he
    rw [hk'] at hex
    simp at hex
    have e1 : s' = s := by omega
    have e2 : d' = d := by omega
    rw [hv', e1, e2]

end Go.Proofs.YtkfahochpnggbaaGreat

/- Contracts of chain's ledger: all that is known of where sections lie. -/
namespace Go.Proofs.YtkfahochpnggbaaGreat
open Go.RowKit

def Ahead (k d s' d' : Nat) : Prop := s' < k ∨ s' = k ∧ d' < d
/-- The map as it is filled: all keys ahead of section k and day d. -/
def Fill (w : World) (b : Ch.Bk) (r k d : Nat) : Prop :=
  ∃ es clock, w.heap[r]? = some (.map es clock) ∧ (∀ e ∈ es.toList, ∃ s' d' : Nat, Ahead k d s' d' ∧ Good b s' d' ∧ e.key = vSpot s' d' ∧ e.val = vPl (Ch.lain b s' d')) ∧ (∀ s' d' : Nat, Good b s' d' → Ahead k d s' d' → ∃ e ∈ es.toList, e.key = vSpot s' d')
theorem Fill.next {w : World} {b : Ch.Bk} {r k d : Nat} (h : Fill w b r k d) (hd : b.days < d) : Fill w b r (k + 1) 0 := by
  obtain ⟨es, clock, h0, h1, h2⟩ := h
  refine ⟨es, clock, h0, fun e he => ?_, fun s' d' hg ha => h2 s' d' hg ?_⟩
  · obtain ⟨s', d', ha, hr⟩ := h1 e he
    exact ⟨s', d', by unfold Ahead at ha ⊢; omega, hr⟩
  · have := hg.2
    unfold Ahead at ha ⊢; omega
theorem Fill.same {w w' : World} {b : Ch.Bk} {r k d : Nat} (h : Fill w b r k d) (hh : w'.heap[r]? = w.heap[r]?) : Fill w' b r k d := by
  obtain ⟨es, clock, h0, h1, h2⟩ := h
  exact ⟨es, clock, hh.trans h0, h1, h2⟩
theorem Fill.lt {w : World} {b : Ch.Bk} {r k d : Nat} (h : Fill w b r k d) : r < w.heap.size := by
  obtain ⟨es, clock, h0, _⟩ := h
  rcases Nat.lt_or_ge r w.heap.size with h | h
  · exact h
  · rw [Array.getElem?_eq_none h] at h0; cases h0
theorem Fill.done {w : World} {b : Ch.Bk} {r B : Nat} (h : Fill w b r b.secs.length 0) (hr : r < B) : RM w B b (.map (some r)) := by
  obtain ⟨es, clock, h0, h1, h2⟩ := h
  refine ⟨r, es, clock, rfl, hr, h0, fun e he => ?_, fun s' d' hg => h2 s' d' hg (.inl hg.1)⟩
  obtain ⟨s', d', _, hr⟩ := h1 e he
  exact ⟨s', d', hr⟩
theorem Fill.step {w : World} {b : Ch.Bk} {r k d : Nat} (h : Fill w b r k d) (hn : b.secs.length ≤ 4) (hd : b.days ≤ 30) (hg : Good b k d) :
    ∃ W', (Instr.mapUpdate 90 (.map (some r)) (vSpot k d) (vPl (Ch.lain b k d))).run Tryz.prog w = .ok () W' ∧ Fill W' b r k (d + 1) ∧ w.grownBy W' (some r) := by
  have hr := h.lt
  obtain ⟨es, clock, h0, h1, h2⟩ := h
  have hkey : ∀ s d : Nat, Good b s d → ∃ l, keyOf Tryz.prog 106 (vSpot s d) = some l := fun s d hg => key_spot s d (WalkArith.wf_i64 (by have := hg.1; omega)) (WalkArith.wf_i64 (by have := hg.2; omega))
  obtain ⟨lx, hx⟩ := hkey k d hg
  refine ⟨_, run_new_key h0 (fun e he => ?_) hx (fun e he hex => ?_), ⟨es.push { key := vSpot k d, val := vPl (Ch.lain b k d), born := clock }, clock + 1, ?_, fun e he => ?_, fun s' d' hg' ha => ?_⟩, ?_⟩
  · obtain ⟨s', d', _, hg', hk', _⟩ := h1 e he
    rw [hk']
    exact hkey s' d' hg'
  · obtain ⟨s', d', ha, _, hk', _⟩ := h1 e he
    rw [hk'] at hex
    simp at hex
    unfold Ahead at ha
    omega
  · simp [hr]
  · simp at he
    rcases he with he | rfl
    · obtain ⟨s', d', ha, hr⟩ := h1 e (by simpa using he)
      exact ⟨s', d', by unfold Ahead at ha ⊢; omega, hr⟩
    · exact ⟨k, d, by unfold Ahead; omega, hg, rfl, rfl⟩
  · by_cases ha' : Ahead k d s' d'
    · obtain ⟨e, he, hk'⟩ := h2 s' d' hg' ha'
      exact ⟨e, by simp; exact .inl (by simpa using he), hk'⟩
    · have e1 : s' = k := by unfold Ahead at ha ha'; omega
      have e2 : d' = d := by unfold Ahead at ha ha'; omega
      subst e1 e2
      exact ⟨_, by simp; exact .inr rfl, rfl⟩
  · refine ⟨rfl, rfl, rfl, by simp, fun i hi hne => ?_⟩
    rw [Array.getElem?_setIfInBounds_ne (fun e => hne (by rw [e]))]

end Go.Proofs.YtkfahochpnggbaaGreat

/- Contract of chain's allLain. -/
namespace Go.Proofs.YtkfahochpnggbaaGreat
open Go.RowKit

theorem keep_far {w w' : World} {r : Nat} (h : w.grownBy w' (some r)) {b o : Nat} (hb : b < w.heap.size) (hne : b ≠ r) : w'.cell? ⟨b, o, none⟩ = w.cell? ⟨b, o, none⟩ :=
  World.cell?_of_block (h.block b hb (fun e => hne (by injection e)))
theorem below_far {B : Nat} {w w' : World} {r : Nat} (h : w.grownBy w' (some r)) (hw : B ≤ w.heap.size) (hr : B ≤ r) : Below B w w' :=
  ⟨h.os, h.tape, h.output, h.size, fun k hk => h.block k (by omega) (fun e => by injection e; omega)⟩

theorem wpList_mapUpdate_run {P : Program} {w : World} {ops : Array Oper} {rest : List Oper} {o : Oper} {a : Act} {Q : Exit → Act → World → Prop} (hg : o.guard = none) (m x v : Operand) (t : TypeId) (hop : o.op = Op.mapUpdate t m x v)
    {M X V : Value} {W' : World} (hrun : (Instr.mapUpdate t M X V).run P w = .ok () W') (hm : a.eval m = M) (hx : a.eval x = X) (hv : a.eval v = V) (hK : wpList P ops Q rest (a.put o.dst undef) W') : wpList P ops Q (o :: rest) a w := by
  refine wpList_plain hg fun K' hK' => ?_
  unfold Oper.wp
  simp [execOp, hop, hm, hx, hv, hrun, Result.andThen]
  exact hK' _ _ hK
theorem wpList_lookup_run {P : Program} {w : World} {ops : Array Oper} {rest : List Oper} {o : Oper} {a : Act} {Q : Exit → Act → World → Prop} (hg : o.guard = none) (m x : Operand) (t : TypeId) (hop : o.op = Op.lookup t m x false)
    {M X V : Value} (hrun : (Instr.lookup t M X false).run P w = .ok V w) (hm : a.eval m = M) (hx : a.eval x = X) (hK : wpList P ops Q rest (a.put o.dst V) w) : wpList P ops Q (o :: rest) a w := by
  refine wpList_plain hg fun K' hK' => ?_
  unfold Oper.wp
  simp [execOp, hop, hm, hx, hrun, Result.andThen]
  exact hK' _ _ hK

set_option maxHeartbeats 2000000 in
theorem allLain_any (b : Ch.Bk) (S T V M R : Value) (rule : Int) (w : World) (hb : RB w w.heap.size b S T V) (hn : b.secs.length ≤ 4) (hd0 : 0 ≤ b.days) (hd : b.days ≤ 30) :
    Calls Tryz.prog 110 #[vLg S T V rule b.days M R] w fun e w' => (∃ M', e = .returned M' ∧ RM w' w'.heap.size b M') ∧ Below w.heap.size w w' := by
  obtain ⟨A, c, rfl⟩ := hb.secs.form
  have hmm := @run_makeMap Tryz.prog
  go_enter Tryz.func110, Tryz.ntmps110
  go_wp2
  obtain ⟨W0, hW0⟩ : ∃ W0, W0 = w.alloc (cLg (.slice A b.secs.length c) T V rule b.days M R) := ⟨_, rfl⟩
  have hz0 : W0.heap.size = w.heap.size + 1 := by rw [hW0]; simp
  have hb0 : Below w.heap.size w W0 := by rw [hW0]; exact (Below.refl _ _).alloc (Nat.le_refl _) _
  have hc0 : ∀ j, W0.cell? ⟨w.heap.size, j, none⟩ = #[.slice A b.secs.length c, T, V, I rule, I b.days, M, R][j]? := by intro j; rw [hW0]; simp
  have hf0 : W0.heap[w.heap.size]? = some (cLg (.slice A b.secs.length c) T V rule b.days M R) := by rw [hW0]; exact heap_alloc_new _ _
  go_loopw [13] (fun i wr => ∃ k : Nat, k ≤ b.secs.length ∧ i = I k ∧ Fill wr b (w.heap.size + 1) k 0 ∧ Below (w.heap.size + 1) W0 wr) (fun i _ => b.secs.length - (intOf i).toNat)
  case atStart =>
    refine ⟨0, Nat.zero_le _, rfl, ⟨#[], 0, ?_, fun e he => by simp at he, fun s' d' hg ha => by unfold Ahead at ha; omega⟩, ?_⟩
    · have := heap_alloc_new (w.alloc (cLg (.slice A b.secs.length c) T V rule b.days M R)) (.map #[] 0)
      rw [World.size_alloc] at this
      exact this
    · rw [hW0]; exact (Below.refl _ _).alloc (by simp) _
  case round =>
    obtain ⟨k, hk, rfl, hF, hB⟩ := hrel
    clear hW0
    have hz : w.heap.size < wr.heap.size := by have := hB.size; omega
    have hq : ∀ j, wr.cell? ⟨w.heap.size, j, none⟩ = #[.slice A b.secs.length c, T, V, I rule, I b.days, M, R][j]? := fun j => (hB.cell (p := ⟨w.heap.size, j, none⟩) (Nat.lt_succ_self _)).trans (hc0 j)
    have q4 := hq 4
    simp at q4
    clear hq
    by_cases hlt : k < b.secs.length
    · go_wp2_with fail
      clear q4
      have hlt1 := hF.lt
      obtain ⟨wo, rfl⟩ : ∃ wo : World, wo = wr := ⟨_, rfl⟩
      go_loopw [20] (fun i wi => ∃ d : Nat, (d : Int) ≤ b.days + 1 ∧ i = I d ∧ Fill wi b (w.heap.size + 1) k d ∧ wi.heap[wo.heap.size]? = some (.cells #[I (Ch.lain b k d 0), I (Ch.lain b k d 1), I (Ch.lain b k d 2), I (Ch.lain b k d 3)] 111 (0, 0)) ∧ Below (w.heap.size + 1) W0 wi ∧ wo.heap.size < wi.heap.size) (fun i _ => (b.days + 1 - intOf i).toNat)
      case atStart =>
        refine ⟨0, by omega, rfl, hF.same ?_, heap_alloc_new _ _, hB.alloc (by omega) _, by simp⟩
        exact Below.heap_alloc _ _ _ hlt1
      case round =>
        obtain ⟨d, hd1, rfl, hF', hA, hB', hzi⟩ := hrel
        clear hB hF
        have hz' : w.heap.size < wr.heap.size := by omega
        have hA0 : ∀ j, wr.cell? ⟨wo.heap.size, j, none⟩ = #[I (Ch.lain b k d 0), I (Ch.lain b k d 1), I (Ch.lain b k d 2), I (Ch.lain b k d 3)][j]? := fun j => cell_of_row wr _ j _ _ _ hA
        have hq : ∀ j, wr.cell? ⟨w.heap.size, j, none⟩ = #[.slice A b.secs.length c, T, V, I rule, I b.days, M, R][j]? := fun j => (hB'.cell (p := ⟨w.heap.size, j, none⟩) (Nat.lt_succ_self _)).trans (hc0 j)
        by_cases hlt2 : (d : Int) < b.days + 1
        · obtain ⟨W2, hrun, hF2, hg2⟩ := (hF'.same (w' := wr.alloc (.cells #[I k, I d] 106)) (Below.heap_alloc _ _ _ hF'.lt)).step hn hd ⟨hlt, by omega⟩
          have hz2 : wr.heap.size < W2.heap.size := by have := hg2.size; simp at this; omega
          have l2 : ∀ j, W2.cell? ⟨w.heap.size, j, none⟩ = #[.slice A b.secs.length c, T, V, I rule, I b.days, M, R][j]? := fun j =>
            (keep_far hg2 (by simp; omega) (by omega)).trans ((World.cell?_alloc_past _ _ _ (by omega)).trans (hq j))
          have s2 : ∀ j, W2.cell? ⟨wr.heap.size, j, none⟩ = #[I k, I d][j]? := fun j => (keep_far hg2 (by simp) (by omega)).trans (World.cell?_alloc_at _ _ _ _ rfl)
          have a2 : ∀ j, W2.cell? ⟨wo.heap.size, j, none⟩ = #[I (Ch.lain b k d 0), I (Ch.lain b k d 1), I (Ch.lain b k d 2), I (Ch.lain b k d 3)][j]? := fun j =>
            (keep_far hg2 (by simp; omega) (by omega)).trans ((World.cell?_alloc_past _ _ _ hzi).trans (hA0 j))
          have a0 := hA0 0
          have a1 := hA0 1
          have a2' := hA0 2
          have a3 := hA0 3
          simp at a0 a1 a2' a3
          have HA := Lib.hid a2
          have HAA := Lib.hid hA
          have HR := Lib.hid hrun
          clear hA0 hq hA hrun a2
          go_wp2_with (at_mapUpdate; go_must (refine wpList_mapUpdate_run rfl _ _ _ _ rfl HR.out rfl rfl rfl ?_))
          have hb2 : Below w.heap.size w W2 := hb0.trans ((hB'.mono (by omega)).trans (((Below.refl _ _).alloc (by omega) _).trans (below_far hg2 (by simp; omega) (by omega))))
          refine (place_any b A c T V M R rule b.days k d _ ((hb.below hb2 (Nat.le_refl _)).more hb2.size) (by omega) (by omega) hn).mono ?_
          rintro e w3 ⟨rfl, hB3⟩
          obtain ⟨hp0, hp1⟩ := Ch.place_bd b k d (by omega) (by omega)
          have hA3 : w3.heap[wo.heap.size]? = some (.cells #[I (Ch.lain b k d 0), I (Ch.lain b k d 1), I (Ch.lain b k d 2), I (Ch.lain b k d 3)] 111 (0, 0)) :=
            (hB3.block _ (by omega)).trans ((hg2.block _ (by simp; omega) (fun e => by injection e; omega)).trans ((Below.heap_alloc _ _ _ hzi).trans HAA.out))
          have hc3 : ∀ j, w3.cell? ⟨wo.heap.size, j, none⟩ = #[I (Ch.lain b k d 0), I (Ch.lain b k d 1), I (Ch.lain b k d 2), I (Ch.lain b k d 3)][j]? := fun j => cell_of_row w3 _ j _ _ _ hA3
          have hf3 : ∀ j, w3.frozen? ⟨wo.heap.size, j, none⟩ = false := fun j => by simp [World.frozen?, hA3]
          have hz3 : wr.heap.size < w3.heap.size := by have := hB3.size; omega
          have hF3 : Fill w3 b (w.heap.size + 1) k (d + 1) := hF2.same (hB3.block _ (by omega))
          have hB3' : Below (w.heap.size + 1) W0 w3 := hB'.trans (((Below.refl _ _).alloc (by omega) _).trans ((below_far hg2 (by simp; omega) (by omega)).trans (hB3.mono (by omega))))
          have hlb := Ch.lain_bd b k d
          have b0 := hlb 0
          have b1 := hlb 1
          have b2 := hlb 2
          have b3 := hlb 3
          have HA3 := Lib.hid hA3
          have HL := Lib.hid hlt1
          clear hA3 l2 s2 HA hlb
          have hcase : Ch.place b k d = 0 ∨ Ch.place b k d = 1 ∨ Ch.place b k d = 2 ∨ Ch.place b k d = 3 := by omega
          rcases hcase with hp | hp | hp | hp
          all_goals
            rw [hp]
            have HP := Lib.hid hp
            clear hp
            go_wp2_with fail
            go_roundw
            case rel => exact ⟨d + 1, by omega, by go_num, hF3.same (Below.heap_setCell _ _ _ _ (by simp; omega)), by simp [World.setCell, Array.getElem?_modify, HA3.out, Ch.lain, HP.out], hB3'.setCell (by simp; omega) _, by simp; omega⟩
            case measure => simp [intOf]; omega
        · have hge : b.days + 1 ≤ (d : Int) := by omega
          clear hA0 hq
          go_wp2_with fail
          go_roundw
          case rel => exact ⟨k + 1, by omega, by go_num, hF'.next (by omega), hB'⟩
          case measure => simp [intOf]; omega
    · obtain rfl : k = b.secs.length := by omega
      go_wp2_with fail
      go_ret
      exact ⟨⟨_, rfl, hF.done hF.lt⟩, hb0.trans (hB.mono (by omega))⟩

end Go.Proofs.YtkfahochpnggbaaGreat

/- What == says of two spots, and of what places wear; how they are built. -/
namespace Go.Proofs.YtkfahochpnggbaaGreat
open Go.RowKit

theorem eq_spot (a b c d : Int) (w : World) : (Op.equalIn 10000 106 (.agg #[.int .i64 a, .int .i64 b]) (.agg #[.int .i64 c, .int .i64 d])).run Tryz.prog w = .ok (a == c && b == d) w := by
  have u3 := Tryz.underlying3
  have a3 := Tryz.isAgg3
  have z3 := Tryz.sizeOf3
  have hS : Tryz.prog.underlying 106 = some (.struct (Tryz.prog.fieldsOf 106)) := by kernel_rfl
  have hp : Tryz.prog.stoodInHeld 106 = false := by kernel_rfl
  rw [show (10000 : Nat) = 9999 + 1 from rfl, run_equalIn_agg w 9999 106 _ _ hS hp]
  simp only [Program.fieldsOf, Tryz.underlying106]
  go_simp
  by_cases h1 : a = c <;> by_cases h2 : b = d <;> simp [h1, h2]
theorem eq_places (a b c d e f g h : Int) (w : World) : (Op.equalIn 10000 111 (.agg #[.int .i64 a, .int .i64 b, .int .i64 c, .int .i64 d]) (.agg #[.int .i64 e, .int .i64 f, .int .i64 g, .int .i64 h])).run Tryz.prog w = .ok (a == e && b == f && c == g && d == h) w := by
  have u3 := Tryz.underlying3
  have a3 := Tryz.isAgg3
  have z3 := Tryz.sizeOf3
  rw [show (10000 : Nat) = 9999 + 1 from rfl, Op.equalIn]
  simp only [Sem.run_bind, run_underlying Tryz.underlying111, Result.andThen_ok]
  simp only [Std.Legacy.Range.forIn_eq_forIn_range', Std.Legacy.Range.size, Nat.sub_zero, Nat.add_sub_cancel, Nat.div_one, List.range'_succ, List.range'_zero, List.forIn_cons, List.forIn_nil]
  go_simp
  by_cases h1 : a = e <;> by_cases h2 : b = f <;> by_cases h3 : c = g <;> by_cases h4 : d = h <;> simp [h1, h2, h3, h4]

end Go.Proofs.YtkfahochpnggbaaGreat
