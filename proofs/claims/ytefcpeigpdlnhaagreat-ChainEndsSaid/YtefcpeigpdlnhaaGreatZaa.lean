/- Texts on the program that the proof leans on, part 1. -/
import Derived.WalkKit
import Derived.WalkSpells
import Derived.Deep.QuietTactic
import Derived.BigQuiet
import Derived.Lib.Hide
import Derived.Laws.Rows
import Init.Omega
import Derived.Test.YtefcpeigpdlnhaaGreatRows
set_option linter.unusedVariables false
set_option linter.unusedSimpArgs false

/- Words on memory that all contracts share: a slice that reads as a list of cells, kept over whatever leaves old blocks alone. Imports nothing of the program. -/
namespace Go.Proofs.YtefcpeigpdlnhaaGreat
open Go.RowKit

/-- v is a slice of n elements of `size` cells each that hold xs, below block B. -/
def Sl (w : World) (B size : Nat) (v : Value) (n : Nat) (xs : List Value) : Prop :=
  xs.length = n * size ∧ ∃ A c, v = .slice A n c ∧ n ≤ c ∧ c ≤ maxLen ∧
    (0 < n → ∃ b off, A = some ⟨b, off, none⟩ ∧ b < B ∧ ∀ j u, xs[j]? = some u → w.cell? ⟨b, off + j, none⟩ = some u)

theorem Sl.keep {w w' : World} {B size n : Nat} {v : Value} {xs : List Value} (h : Sl w B size v n xs) (hk : ∀ p : Addr, p.block < B → w'.cell? p = w.cell? p) : Sl w' B size v n xs := by
  obtain ⟨h1, A, c, hv, h2, h3, h4⟩ := h
  refine ⟨h1, A, c, hv, h2, h3, fun hn => ?_⟩
  obtain ⟨b, off, e, hb, hc⟩ := h4 hn
  exact ⟨b, off, e, hb, fun j u hu => (hk _ hb).trans (hc j u hu)⟩
theorem Sl.more {w : World} {B B' size n : Nat} {v : Value} {xs : List Value} (h : Sl w B size v n xs) (hB : B ≤ B') : Sl w B' size v n xs := by
  obtain ⟨h1, A, c, hv, h2, h3, h4⟩ := h
  refine ⟨h1, A, c, hv, h2, h3, fun hn => ?_⟩
  obtain ⟨b, off, e, hb, hc⟩ := h4 hn
  exact ⟨b, off, e, by omega, hc⟩
theorem Sl.below {w w' : World} {B B' size n : Nat} {v : Value} {xs : List Value} (h : Sl w B size v n xs) (hb : Below B' w w') (hB : B ≤ B') : Sl w' B size v n xs :=
  h.keep fun _ hp => hb.cell (by omega)
theorem Sl.le {w : World} {B size n : Nat} {v : Value} {xs : List Value} (h : Sl w B size v n xs) : n ≤ maxLen := by
  obtain ⟨_, A, c, _, h2, h3, _⟩ := h
  exact Nat.le_trans h2 h3
/-- The cells of element k. -/
theorem Sl.at4 {w : World} {B n : Nat} {v : Value} {xs : List Value} (h : Sl w B 4 v n xs) {k : Nat} (hk : k < n) :
    ∃ b off c, v = .slice (some ⟨b, off, none⟩) n c ∧ b < B ∧ w.cell? ⟨b, off + k * 4, none⟩ = xs[k * 4]? ∧ w.cell? ⟨b, off + k * 4 + 1, none⟩ = xs[k * 4 + 1]? ∧ w.cell? ⟨b, off + k * 4 + 2, none⟩ = xs[k * 4 + 2]? ∧ w.cell? ⟨b, off + k * 4 + 3, none⟩ = xs[k * 4 + 3]? := by
  obtain ⟨h1, A, c, rfl, h2, h3, h4⟩ := h
  obtain ⟨b, off, rfl, hb, hc⟩ := h4 (by omega)
  have g : ∀ j, j < 4 → w.cell? ⟨b, off + k * 4 + j, none⟩ = xs[k * 4 + j]? := by
    intro j hj
    have hl : k * 4 + j < xs.length := by omega
    rw [List.getElem?_eq_getElem hl, Nat.add_assoc]
    exact hc _ _ (List.getElem?_eq_getElem hl)
  exact ⟨b, off, c, rfl, hb, g 0 (by omega), g 1 (by omega), g 2 (by omega), g 3 (by omega)⟩
theorem Sl.at1 {w : World} {B n : Nat} {v : Value} {xs : List Value} (h : Sl w B 1 v n xs) {k : Nat} (hk : k < n) :
    ∃ b off c, v = .slice (some ⟨b, off, none⟩) n c ∧ b < B ∧ w.cell? ⟨b, off + k, none⟩ = xs[k]? := by
  obtain ⟨h1, A, c, rfl, h2, h3, h4⟩ := h
  obtain ⟨b, off, rfl, hb, hc⟩ := h4 (by omega)
  have hl : k < xs.length := by omega
  refine ⟨b, off, c, rfl, hb, ?_⟩
  rw [List.getElem?_eq_getElem hl]
  exact hc _ _ (List.getElem?_eq_getElem hl)
/-- The cells of element k, of three. -/
theorem Sl.at3 {w : World} {B n : Nat} {v : Value} {xs : List Value} (h : Sl w B 3 v n xs) {k : Nat} (hk : k < n) :
    ∃ b off c, v = .slice (some ⟨b, off, none⟩) n c ∧ b < B ∧ w.cell? ⟨b, off + k * 3, none⟩ = xs[k * 3]? ∧ w.cell? ⟨b, off + k * 3 + 1, none⟩ = xs[k * 3 + 1]? ∧ w.cell? ⟨b, off + k * 3 + 2, none⟩ = xs[k * 3 + 2]? := by
  obtain ⟨h1, A, c, rfl, h2, h3, h4⟩ := h
  obtain ⟨b, off, rfl, hb, hc⟩ := h4 (by omega)
  have g : ∀ j, j < 3 → w.cell? ⟨b, off + k * 3 + j, none⟩ = xs[k * 3 + j]? := by
    intro j hj
    have hl : k * 3 + j < xs.length := by omega
    rw [List.getElem?_eq_getElem hl, Nat.add_assoc]
    exact hc _ _ (List.getElem?_eq_getElem hl)
  exact ⟨b, off, c, rfl, hb, g 0 (by omega), g 1 (by omega), g 2 (by omega)⟩
theorem flatN {α : Type} (m : Nat) (f : α → List Value) (hf : ∀ x, (f x).length = m) (l : List α) (k j : Nat) (hk : k < l.length) (hj : j < m) : (l.flatMap f)[k * m + j]? = (f l[k])[j]? := by
  induction l generalizing k with
  | nil => simp at hk
  | cons x l ih =>
    rw [List.flatMap_cons]
    cases k with
    | zero => rw [List.getElem?_append_left (by rw [hf]; omega)]; simp
    | succ k =>
      rw [List.getElem?_append_right (by rw [hf, Nat.succ_mul]; omega), hf, show (k + 1) * m + j - m = k * m + j by rw [Nat.succ_mul]; omega]
      exact ih k (by simpa using hk)
theorem len_flatN {α : Type} (m : Nat) (f : α → List Value) (hf : ∀ x, (f x).length = m) (l : List α) : (l.flatMap f).length = l.length * m := by
  induction l with
  | nil => simp
  | cons x l ih => rw [List.flatMap_cons, List.length_append, hf, ih, List.length_cons, Nat.succ_mul]; omega
theorem Sl.form {w : World} {B size n : Nat} {v : Value} {xs : List Value} (h : Sl w B size v n xs) : ∃ A c, v = .slice A n c := by
  obtain ⟨_, A, c, hv, _⟩ := h
  exact ⟨A, c, hv⟩

theorem ret_b {a b : Bool} (h : a = b) : Ending.returned (.bool a) = .returned (.bool b) := by rw [h]
theorem ret_i {a b : Int} (h : a = b) : Ending.returned (.int .i64 a) = .returned (.int .i64 b) := by rw [h]

theorem all_false {α : Type} {f : α → Bool} {l : List α} {k : Nat} (hk : k < l.length) (h : f l[k] = false) : l.all f = false := by
  rw [List.all_eq_false]
  exact ⟨l[k], List.getElem_mem hk, by simp [h]⟩

theorem bcell {W w1 : World} (hb : Below W.heap.size W w1) : ∀ b o, b < W.heap.size → w1.cell? ⟨b, o, none⟩ = W.cell? ⟨b, o, none⟩ :=
  fun b o h => hb.cell (p := ⟨b, o, none⟩) h
theorem bfree {W w1 : World} (hb : Below W.heap.size W w1) : ∀ b o, b < W.heap.size → w1.frozen? ⟨b, o, none⟩ = W.frozen? ⟨b, o, none⟩ :=
  fun b o h => hb.frozen (p := ⟨b, o, none⟩) h

theorem heap_at (W : World) (o : Obj) {n : Nat} (hn : n = W.heap.size) : (W.alloc o).heap[n]? = some o := by subst hn; exact heap_alloc_new W o
theorem sl_new {w' : World} {B n size : Nat} {xs : List Value} {t : TypeId} (hl : xs.length = n * size) (hn : n ≤ maxLen) {g : Nat} (hg : g < B) (h : w'.heap[g]? = some (.cells xs.toArray t (0, 0))) : Sl w' B size (.slice (some ⟨g, 0, none⟩) n n) n xs :=
  ⟨hl, some ⟨g, 0, none⟩, n, rfl, Nat.le_refl _, hn, fun _ => ⟨g, 0, rfl, hg, fun j u hu => by
    rw [Nat.zero_add]
    exact (cell_of_row w' _ j _ _ _ h).trans (by simpa using hu)⟩⟩

end Go.Proofs.YtefcpeigpdlnhaaGreat

/- The layer of chains, as plain mathematics: what each function of the program computes. Imports nothing of the program. -/
namespace Go.Proofs.YtefcpeigpdlnhaaGreat.Ch

structure Sp where
  lo : Int
  hi : Int
  deriving DecidableEq
structure Sec where
  thick : Sp
  wear : Sp
  deriving DecidableEq
structure Sv where
  sec : Int
  day : Int
  read : Int
  err : Int
  deriving DecidableEq
structure Bk where
  secs : List Sec
  turns : List Int
  svs : List Sv
  rule : Int
  days : Int

def between (n lo hi : Int) : Bool := decide (lo ≤ n) && decide (n ≤ hi)
def isSpan (s : Sp) (high wide : Int) : Bool := decide (0 ≤ s.lo) && decide (s.lo ≤ s.hi) && decide (s.hi ≤ high) && decide (s.hi - s.lo ≤ wide)
def bnds (b : Bk) : List (Int × Int × Int) := [(b.secs.length, 1, 4), (b.days, 1, 30), (b.rule, 0, 200), (b.turns.length, 0, 4), (b.svs.length, 0, 8)]
def sized (b : Bk) : Bool := (bnds b).all fun x => between x.1 x.2.1 x.2.2
def okSec (s : Sec) : Bool := isSpan s.thick 200 3 && isSpan s.wear 3 2
def allSections (b : Bk) : Bool := b.secs.all okSec
def worst (l : List Sec) : Int := l.foldl (fun m s => max m s.wear.hi) 0
def lastsAll (b : Bk) : Bool := b.secs.all fun s => !decide (s.thick.lo < b.days * worst b.secs)
theorem sized_days {b : Bk} (h : sized b = true) : 1 ≤ b.days ∧ b.days ≤ 30 := by
  simp [sized, bnds, between] at h; omega
theorem sized_secs {b : Bk} (h : sized b = true) : 1 ≤ b.secs.length ∧ b.secs.length ≤ 4 := by
  simp [sized, bnds, between] at h; omega
theorem worst_le (l : List Sec) (h : l.all okSec = true) : 0 ≤ worst l ∧ worst l ≤ 3 := by
  unfold worst
  suffices ∀ m : Int, 0 ≤ m → m ≤ 3 → 0 ≤ l.foldl (fun m s => max m s.wear.hi) m ∧ l.foldl (fun m s => max m s.wear.hi) m ≤ 3 from this 0 (by omega) (by omega)
  induction l with
  | nil => intro m h0 h3; exact ⟨h0, h3⟩
  | cons x l ih =>
    intro m h0 h3
    rw [List.all_cons, Bool.and_eq_true] at h
    have hx := h.1
    simp [okSec, isSpan] at hx
    exact ih h.2 (max m x.wear.hi) (by omega) (by omega)
theorem worst_snoc (l : List Sec) (s : Sec) : worst (l ++ [s]) = max (worst l) s.wear.hi := by simp [worst]
def turnsOk (days : Int) : Int → List Int → Bool
  | _, [] => true
  | before, d :: l => !(decide (d ≤ before) || decide (days < d)) && turnsOk days d l
def allTurns (b : Bk) : Bool := turnsOk b.days 0 b.turns
def isSection (b : Bk) (s : Int) : Bool := decide (0 ≤ s) && decide (s < b.secs.length)
def isDay (b : Bk) (d : Int) : Bool := decide (0 ≤ d) && decide (d ≤ b.days)
def isSurvey (b : Bk) (s : Sv) : Bool := isSection b s.sec && isDay b s.day && between s.read 0 200 && between s.err 0 5
def allSurveys (b : Bk) : Bool := b.svs.all (isSurvey b)
def valid (b : Bk) : Bool := sized b && allSections b && lastsAll b && allTurns b && allSurveys b
def check (b : Bk) : Int := if valid b then 0 else 10

end Go.Proofs.YtefcpeigpdlnhaaGreat.Ch

/- Contracts of chain's small functions: checks of a book. -/
namespace Go.Proofs.YtefcpeigpdlnhaaGreat
open Go.RowKit
abbrev I (n : Int) : Value := .int .i64 n
abbrev vSp (s : Ch.Sp) : Value := .agg #[I s.lo, I s.hi]
def cSec (s : Ch.Sec) : List Value := [I s.thick.lo, I s.thick.hi, I s.wear.lo, I s.wear.hi]
def cSv (s : Ch.Sv) : List Value := [I s.sec, I s.day, I s.read, I s.err]
abbrev vSv (s : Ch.Sv) : Value := .agg #[I s.sec, I s.day, I s.read, I s.err]
abbrev vBk (S T V : Value) (rule days : Int) : Value := .agg #[S, T, V, I rule, I days]
/-- A book's three slices, and their contents. -/
structure RB (w : World) (B : Nat) (b : Ch.Bk) (S T V : Value) : Prop where
  secs : Sl w B 4 S b.secs.length (b.secs.flatMap cSec)
  turns : Sl w B 1 T b.turns.length (b.turns.map I)
  svs : Sl w B 4 V b.svs.length (b.svs.flatMap cSv)
theorem RB.below {w w' : World} {B B' : Nat} {b : Ch.Bk} {S T V : Value} (h : RB w B b S T V) (hb : Below B' w w') (hB : B ≤ B') : RB w' B b S T V :=
  ⟨h.secs.below hb hB, h.turns.below hb hB, h.svs.below hb hB⟩
theorem RB.more {w : World} {B B' : Nat} {b : Ch.Bk} {S T V : Value} (h : RB w B b S T V) (hB : B ≤ B') : RB w B' b S T V :=
  ⟨h.secs.more hB, h.turns.more hB, h.svs.more hB⟩

set_option maxHeartbeats 400000 in
theorem isEmpty_any (a b : Int) (w : World) :
    Calls Tryz.prog 124 #[.agg #[I a, I b]] w fun e w' => e = .returned (.bool (decide (b < a))) ∧ Below w.heap.size w w' := by
  go_enter Tryz.func124, Tryz.ntmps124
  go_wp2
  go_ret
  exact ⟨rfl, (Below.refl _ _).alloc (Nat.le_refl _) _⟩

set_option maxHeartbeats 400000 in
theorem meet_any (a b c d : Int) (w : World) :
    Calls Tryz.prog 125 #[.agg #[I a, I b], .agg #[I c, I d]] w fun e w' => e = .returned (.agg #[I (max a c), I (min b d)]) ∧ Below w.heap.size w w' := by
  by_cases h1 : a < c <;> by_cases h2 : d < b
  all_goals
    go_enter Tryz.func125, Tryz.ntmps125
    go_wp2
    refine bodyPost_ret (v := .agg #[I (max a c), I (min b d)]) (by simp [results, Tryz.results125, go_sem]; omega) rfl ⟨rfl, ?_⟩
    exact (((Below.refl _ _).alloc (Nat.le_refl _) _).alloc (by simp) _).alloc (by simp; omega) _

set_option maxHeartbeats 400000 in
theorem holds_any (n lo hi : Int) (w : World) :
    Calls Tryz.prog 153 #[.agg #[I n, I lo, I hi]] w fun e w' => e = .returned (.bool (Ch.between n lo hi)) ∧ Below w.heap.size w w' := by
  by_cases h1 : lo ≤ n <;> by_cases h2 : n ≤ hi
  all_goals
    go_enter Tryz.func153, Tryz.ntmps153
    go_wp2
    go_ret
    exact ⟨ret_b (by simp [Ch.between, h1, h2]), (Below.refl _ _).alloc (Nat.le_refl _) _⟩

set_option maxHeartbeats 400000 in
theorem inside_any (s t : Ch.Sp) (w : World) :
    Calls Tryz.prog 171 #[vSp s, vSp t] w fun e w' => e = .returned (.bool (decide (t.lo ≤ s.lo) && decide (s.hi ≤ t.hi))) ∧ Below w.heap.size w w' := by
  obtain ⟨lo, hi⟩ := s
  obtain ⟨tlo, thi⟩ := t
  by_cases h1 : tlo ≤ lo <;> by_cases h2 : hi ≤ thi
  all_goals
    go_enter Tryz.func171, Tryz.ntmps171
    go_wp2
    go_ret
    exact ⟨ret_b (by simp [h1, h2]), ((Below.refl _ _).alloc (Nat.le_refl _) _).alloc (by simp) _⟩

set_option maxHeartbeats 1000000 in
theorem isKnown_any (s : Ch.Sp) (high wide : Int) (w : World) (hh : high ≤ 1000) :
    Calls Tryz.prog 157 #[vSp s, vSp ⟨0, high⟩, I wide] w fun e w' => e = .returned (.bool (Ch.isSpan s high wide)) ∧ Below w.heap.size w w' := by
  obtain ⟨lo, hi⟩ := s
  have hB0 : Below w.heap.size w ((w.alloc (.cells #[I lo, I hi] 51)).alloc (.cells #[I 0, I high] 51)) := ((Below.refl _ _).alloc (Nat.le_refl _) _).alloc (by simp) _
  go_enter Tryz.func157, Tryz.ntmps157
  go_wp2_with fail
  refine (isEmpty_any lo hi _).mono ?_
  rintro e w1 ⟨rfl, hB1⟩
  have hb1 : Below w.heap.size w w1 := hB0.trans (hB1.mono hB0.size)
  have hc1 := bcell hB1
  have hz1 : w.heap.size + 1 < w1.heap.size := by have := hB1.size; simp at this; omega
  have hz0 : w.heap.size < w1.heap.size := by omega
  by_cases h1 : hi < lo
  · go_wp2_with fail
    go_ret
    exact ⟨ret_b (by simp [Ch.isSpan]; omega), hb1⟩
  · by_cases h2 : 0 ≤ lo ∧ hi ≤ high
    · obtain ⟨h2, h3⟩ := h2
      go_wp2_with fail
      refine (inside_any ⟨lo, hi⟩ ⟨0, high⟩ _).mono ?_
      rintro e w2 ⟨he, hB2⟩
      obtain rfl : e = .returned (.bool true) := by rw [he]; simp [h2, h3]
      clear he
      have hb2 : Below w.heap.size w w2 := hb1.trans (hB2.mono hb1.size)
      have hc2 := bcell hB2
      have hz2 : w.heap.size + 1 < w2.heap.size := by have := hB2.size; omega
      by_cases h4 : hi - lo ≤ wide
      all_goals
        go_wp2_with fail
        go_ret
        exact ⟨ret_b (by rw [Bool.eq_iff_iff]; simp [Ch.isSpan]; omega), hb2⟩
    · have hr : Ch.isSpan ⟨lo, hi⟩ high wide = false := by simp [Ch.isSpan]; omega
      have HR := Lib.hid hr
      clear hr
      go_wp2_with fail
      refine (inside_any ⟨lo, hi⟩ ⟨0, high⟩ _).mono ?_
      rintro e w2 ⟨he, hB2⟩
      obtain rfl : e = .returned (.bool false) := by rw [he]; congr 2; rw [Bool.eq_false_iff]; simp; omega
      clear he
      have hb2 : Below w.heap.size w w2 := hb1.trans (hB2.mono hb1.size)
      go_wp2_with fail
      go_ret
      exact ⟨ret_b HR.out.symm, hb2⟩

/-- A bound: a number, and between which two others it must lie. -/
def cBd (x : Int × Int × Int) : List Value := [I x.1, I x.2.1, I x.2.2]
set_option maxHeartbeats 1000000 in
theorem hold_any (l : List (Int × Int × Int)) (v : Value) (w : World) (h : Sl w w.heap.size 3 v l.length (l.flatMap cBd)) :
    Calls Tryz.prog 122 #[v] w fun e w' => e = .returned (.bool (l.all fun x => Ch.between x.1 x.2.1 x.2.2)) ∧ Below w.heap.size w w' := by
  obtain ⟨A, c, rfl⟩ := h.form
  have hm := h.le
  unfold maxLen at hm
  go_enter Tryz.func122, Tryz.ntmps122
  go_wp2
  go_loopw [7] (fun i wr => ∃ k : Nat, k ≤ l.length ∧ i = I k ∧ Below w.heap.size w wr ∧ (l.take k).all (fun x => Ch.between x.1 x.2.1 x.2.2) = true) (fun i _ => l.length - (intOf i).toNat)
  case atStart => exact ⟨0, Nat.zero_le _, rfl, Below.refl _ _, rfl⟩
  case round =>
    obtain ⟨k, hk, rfl, hB, hall⟩ := hrel
    have hz := hB.size
    by_cases hlt : k < l.length
    · obtain ⟨bl, off, c', hv, hbl, h0, h1, h2⟩ := (h.below hB (Nat.le_refl _)).at3 hlt
      injection hv with hA _ hc
      subst hA hc
      have e0 : (l.flatMap cBd)[k * 3]? = some (I l[k].1) := by have := flatN 3 cBd (fun _ => rfl) l k 0 hlt (by omega); simpa [cBd] using this
      have e1 : (l.flatMap cBd)[k * 3 + 1]? = some (I l[k].2.1) := by have := flatN 3 cBd (fun _ => rfl) l k 1 hlt (by omega); simpa [cBd] using this
      have e2 : (l.flatMap cBd)[k * 3 + 2]? = some (I l[k].2.2) := by have := flatN 3 cBd (fun _ => rfl) l k 2 hlt (by omega); simpa [cBd] using this
      rw [e0] at h0
      rw [e1] at h1
      rw [e2] at h2
      clear e0 e1 e2
      go_wp2_with fail
      refine (holds_any _ _ _ _).mono ?_
      rintro e w1 ⟨rfl, hB1⟩
      have hb1 : Below w.heap.size w w1 := (hB.alloc hz _).trans (hB1.mono (by simp; omega))
      by_cases hs1 : Ch.between l[k].1 l[k].2.1 l[k].2.2 = true
      · go_wp2_with fail
        go_roundw
        case rel => exact ⟨k + 1, by omega, by go_num, hb1, by rw [List.take_succ_eq_append_getElem hlt, List.all_append, hall]; simp [hs1]⟩
        case measure => simp [intOf]; omega
      · go_wp2_with fail
        go_ret
        exact ⟨ret_b (Eq.symm (all_false hlt (by simp [hs1]))), hb1⟩
    · obtain rfl : k = l.length := by omega
      go_wp2_with fail
      go_ret
      exact ⟨ret_b (by rw [← hall, List.take_length]), hB⟩

theorem flat4 {α : Type} (f : α → List Value) (hf : ∀ x, (f x).length = 4) (l : List α) (k j : Nat) (hk : k < l.length) (hj : j < 4) : (l.flatMap f)[k * 4 + j]? = (f l[k])[j]? := by
  induction l generalizing k with
  | nil => simp at hk
  | cons x l ih =>
    rw [List.flatMap_cons]
    cases k with
    | zero => rw [List.getElem?_append_left (by rw [hf]; omega)]; simp
    | succ k =>
      rw [List.getElem?_append_right (by rw [hf]; omega), hf, show (k + 1) * 4 + j - 4 = k * 4 + j by omega]
      exact ih k (by simpa using hk)
theorem len_flat4 {α : Type} (f : α → List Value) (hf : ∀ x, (f x).length = 4) (l : List α) : (l.flatMap f).length = l.length * 4 := by
  induction l with
  | nil => rfl
  | cons x l ih => rw [List.flatMap_cons, List.length_append, hf, ih, List.length_cons]; omega
theorem RB.sec {w : World} {B : Nat} {b : Ch.Bk} {S T V : Value} (h : RB w B b S T V) {k : Nat} (hk : k < b.secs.length) :
    ∃ bl off c, S = .slice (some ⟨bl, off, none⟩) b.secs.length c ∧ bl < B ∧ w.cell? ⟨bl, off + k * 4, none⟩ = some (I b.secs[k].thick.lo) ∧ w.cell? ⟨bl, off + k * 4 + 1, none⟩ = some (I b.secs[k].thick.hi) ∧
      w.cell? ⟨bl, off + k * 4 + 2, none⟩ = some (I b.secs[k].wear.lo) ∧ w.cell? ⟨bl, off + k * 4 + 3, none⟩ = some (I b.secs[k].wear.hi) := by
  obtain ⟨bl, off, c, hv, hb, h0, h1, h2, h3⟩ := h.secs.at4 hk
  refine ⟨bl, off, c, hv, hb, h0.trans ?_, h1.trans ?_, h2.trans ?_, h3.trans ?_⟩
  · have := flat4 cSec (fun _ => rfl) b.secs k 0 hk (by omega); simpa [cSec] using this
  · have := flat4 cSec (fun _ => rfl) b.secs k 1 hk (by omega); simpa [cSec] using this
  · have := flat4 cSec (fun _ => rfl) b.secs k 2 hk (by omega); simpa [cSec] using this
  · have := flat4 cSec (fun _ => rfl) b.secs k 3 hk (by omega); simpa [cSec] using this
theorem RB.sv {w : World} {B : Nat} {b : Ch.Bk} {S T V : Value} (h : RB w B b S T V) {k : Nat} (hk : k < b.svs.length) :
    ∃ bl off c, V = .slice (some ⟨bl, off, none⟩) b.svs.length c ∧ bl < B ∧ w.cell? ⟨bl, off + k * 4, none⟩ = some (I b.svs[k].sec) ∧ w.cell? ⟨bl, off + k * 4 + 1, none⟩ = some (I b.svs[k].day) ∧
      w.cell? ⟨bl, off + k * 4 + 2, none⟩ = some (I b.svs[k].read) ∧ w.cell? ⟨bl, off + k * 4 + 3, none⟩ = some (I b.svs[k].err) := by
  obtain ⟨bl, off, c, hv, hb, h0, h1, h2, h3⟩ := h.svs.at4 hk
  refine ⟨bl, off, c, hv, hb, h0.trans ?_, h1.trans ?_, h2.trans ?_, h3.trans ?_⟩
  · have := flat4 cSv (fun _ => rfl) b.svs k 0 hk (by omega); simpa [cSv] using this
  · have := flat4 cSv (fun _ => rfl) b.svs k 1 hk (by omega); simpa [cSv] using this
  · have := flat4 cSv (fun _ => rfl) b.svs k 2 hk (by omega); simpa [cSv] using this
  · have := flat4 cSv (fun _ => rfl) b.svs k 3 hk (by omega); simpa [cSv] using this
theorem RB.turn {w : World} {B : Nat} {b : Ch.Bk} {S T V : Value} (h : RB w B b S T V) {k : Nat} (hk : k < b.turns.length) :
    ∃ bl off c, T = .slice (some ⟨bl, off, none⟩) b.turns.length c ∧ bl < B ∧ w.cell? ⟨bl, off + k, none⟩ = some (I b.turns[k]) := by
  obtain ⟨bl, off, c, hv, hb, h0⟩ := h.turns.at1 hk
  exact ⟨bl, off, c, hv, hb, h0.trans (by simp [hk])⟩

end Go.Proofs.YtefcpeigpdlnhaaGreat

/- Contracts of chain's checks of a book: the loops. -/
namespace Go.Proofs.YtefcpeigpdlnhaaGreat
open Go.RowKit

set_option maxHeartbeats 1000000 in
theorem allSections_any (b : Ch.Bk) (S T V : Value) (w : World) (hb : RB w w.heap.size b S T V) :
    Calls Tryz.prog 131 #[vBk S T V b.rule b.days] w fun e w' => e = .returned (.bool (Ch.allSections b)) ∧ Below w.heap.size w w' := by
  obtain ⟨A, c, rfl⟩ := hb.secs.form
  have hm := hb.secs.le
  unfold maxLen at hm
  go_enter Tryz.func131, Tryz.ntmps131
  go_wp2
  go_loopw [10] (fun i wr => ∃ k : Nat, k ≤ b.secs.length ∧ i = I k ∧ Below w.heap.size w wr ∧ (b.secs.take k).all Ch.okSec = true) (fun i _ => b.secs.length - (intOf i).toNat)
  case atStart => exact ⟨0, Nat.zero_le _, rfl, (Below.refl _ _).alloc (Nat.le_refl _) _, rfl⟩
  case round =>
    obtain ⟨k, hk, rfl, hB, hall⟩ := hrel
    by_cases hlt : k < b.secs.length
    · obtain ⟨bl, off, c', hv, hbl, h0, h1, h2, h3⟩ := (hb.below hB (Nat.le_refl _)).sec hlt
      injection hv with hA _ hc
      subst hA hc
      have hz := hB.size
      go_wp2_with fail
      refine (isKnown_any b.secs[k].thick 200 3 _ (by omega)).mono ?_
      rintro e w1 ⟨rfl, hB1⟩
      have hc1 := hB1.cell (p := ⟨wr.heap.size, 0, none⟩) (by simp)
      have hc2 := hB1.cell (p := ⟨wr.heap.size, 2, none⟩) (by simp)
      have hc3 := hB1.cell (p := ⟨wr.heap.size, 3, none⟩) (by simp)
      have hz1 := hB1.size
      have hb1 : Below w.heap.size w w1 := (hB.alloc hz _).trans (hB1.mono (by simp; omega))
      go_wp2_with fail
      refine (isKnown_any b.secs[k].wear 3 2 _ (by omega)).mono ?_
      rintro e w2 ⟨rfl, hB2⟩
      have hb2 : Below w.heap.size w w2 := hb1.trans (hB2.mono hb1.size)
      cases hs1 : Ch.isSpan b.secs[k].thick 200 3
      · go_wp2_with fail
        go_ret
        exact ⟨ret_b (Eq.symm (by unfold Ch.allSections; exact all_false hlt (by simp [Ch.okSec, hs1]))), hb2⟩
      · cases hs2 : Ch.isSpan b.secs[k].wear 3 2
        · go_wp2_with fail
          go_ret
          exact ⟨ret_b (Eq.symm (by unfold Ch.allSections; exact all_false hlt (by simp [Ch.okSec, hs2]))), hb2⟩
        · go_wp2_with fail
          go_roundw
          case rel => exact ⟨k + 1, by omega, by go_num, hb2, by rw [List.take_succ_eq_append_getElem hlt, List.all_append, hall]; simp [Ch.okSec, hs1, hs2]⟩
          case measure => simp [intOf]; omega
    · obtain rfl : k = b.secs.length := by omega
      go_wp2_with fail
      go_ret
      exact ⟨ret_b (by unfold Ch.allSections; rw [← hall, List.take_length]), hB⟩

set_option maxHeartbeats 1000000 in
theorem sized_any (b : Ch.Bk) (S T V : Value) (w : World) (hb : RB w w.heap.size b S T V) :
    Calls Tryz.prog 130 #[vBk S T V b.rule b.days] w fun e w' => e = .returned (.bool (Ch.sized b)) ∧ Below w.heap.size w w' := by
  obtain ⟨A, c, rfl⟩ := hb.secs.form
  obtain ⟨A1, c1, rfl⟩ := hb.turns.form
  obtain ⟨A2, c2, rfl⟩ := hb.svs.form
  go_enter Tryz.func130, Tryz.ntmps130
  go_wp2_with fail
  have hB0 : Below w.heap.size w ((w.alloc (.cells #[.slice A b.secs.length c, .slice A1 b.turns.length c1, .slice A2 b.svs.length c2, I b.rule, I b.days] 26)).alloc (.cells ((Ch.bnds b).flatMap cBd).toArray 151)) := ((Below.refl _ _).alloc (Nat.le_refl _) _).alloc (by simp) _
  refine (hold_any (Ch.bnds b) _ _ (sl_new (t := 151) (xs := (Ch.bnds b).flatMap cBd) (by rfl) (by simp [Ch.bnds, maxLen]) (by simp) (heap_at _ _ (by simp)))).mono ?_
  rintro e w1 ⟨rfl, hB1⟩
  go_wp2_with fail
  go_ret
  exact ⟨rfl, hB0.trans (hB1.mono hB0.size)⟩

end Go.Proofs.YtefcpeigpdlnhaaGreat

/- Contracts of chain's checks of a book: how long sections last; turns; surveys; all of it. -/
namespace Go.Proofs.YtefcpeigpdlnhaaGreat
open Go.RowKit

set_option maxHeartbeats 1000000 in
theorem lastsAll_any (b : Ch.Bk) (S T V : Value) (w : World) (hb : RB w w.heap.size b S T V) (hs : Ch.sized b = true) (ha : Ch.allSections b = true) :
    Calls Tryz.prog 132 #[vBk S T V b.rule b.days] w fun e w' => e = .returned (.bool (Ch.lastsAll b)) ∧ Below w.heap.size w w' := by
  obtain ⟨A, c, rfl⟩ := hb.secs.form
  obtain ⟨hd1, hd2⟩ := Ch.sized_days hs
  obtain ⟨hn1, hn2⟩ := Ch.sized_secs hs
  go_enter Tryz.func132, Tryz.ntmps132
  go_wp2
  go_loopw [3, 11] (fun m i wr => ∃ k : Nat, k ≤ b.secs.length ∧ i = I k ∧ m = I (Ch.worst (b.secs.take k)) ∧ Below (w.heap.size + 1) (w.alloc (.cells #[.slice A b.secs.length c, T, V, I b.rule, I b.days] 26)) wr) (fun _ i _ => b.secs.length - (intOf i).toNat)
  case atStart => exact ⟨0, Nat.zero_le _, rfl, rfl, Below.refl _ _⟩
  case round =>
    obtain ⟨k, hk, rfl, rfl, hB⟩ := hrel
    have hz : w.heap.size < wr.heap.size := by have := hB.size; simp at this; omega
    have hBw : Below w.heap.size w wr := ((Below.refl _ _).alloc (Nat.le_refl _) _).trans (hB.mono (by omega))
    have hS : wr.cell? ⟨w.heap.size, 0, none⟩ = some (.slice A b.secs.length c) := (hB.cell (p := ⟨w.heap.size, 0, none⟩) (Nat.lt_succ_self _)).trans (by simp)
    by_cases hlt : k < b.secs.length
    · obtain ⟨bl, off, c', hv, hbl, h0, h1, h2, h3⟩ := (hb.below hBw (Nat.le_refl _)).sec hlt
      injection hv with hA _ hc
      subst hA hc
      have hw := Ch.worst_snoc (b.secs.take k) b.secs[k]
      rw [← List.take_succ_eq_append_getElem hlt] at hw
      by_cases hlt2 : Ch.worst (b.secs.take k) < b.secs[k].wear.hi
      all_goals
        have hw' := Lib.hid hw
        clear hw
        go_wp2_with fail
        go_roundw
        case rel => exact ⟨k + 1, by omega, by go_num, by rw [hw'.out]; go_num, hB.alloc (by omega) _⟩
        case measure => simp [intOf]; omega
    · obtain rfl : k = b.secs.length := by omega
      have hwl := Ch.worst_le b.secs ha
      rw [List.take_length]
      have hmul : 0 ≤ b.days * Ch.worst b.secs ∧ b.days * Ch.worst b.secs ≤ 90 := by
        obtain ⟨h1, h2⟩ := hwl
        exact ⟨Int.mul_nonneg (by omega) h1, by
          have := Int.mul_le_mul hd2 h2 h1 (by omega : (0:Int) ≤ 30); omega⟩
      go_wp2_with fail
      clear hBw hS
      go_loopw [24] (fun i wr => ∃ k : Nat, k ≤ b.secs.length ∧ i = I k ∧ Below (w.heap.size + 1) (w.alloc (.cells #[.slice A b.secs.length c, T, V, I b.rule, I b.days] 26)) wr ∧ (b.secs.take k).all (fun s => !decide (s.thick.lo < b.days * Ch.worst b.secs)) = true) (fun i _ => b.secs.length - (intOf i).toNat)
      case atStart => exact ⟨0, Nat.zero_le _, rfl, hB, rfl⟩
      case round =>
        clear hB hz
        obtain ⟨k, hk, rfl, hB, hall⟩ := hrel
        have hz : w.heap.size < wr.heap.size := by have := hB.size; simp at this; omega
        have hBw : Below w.heap.size w wr := ((Below.refl _ _).alloc (Nat.le_refl _) _).trans (hB.mono (by omega))
        have hday : wr.cell? ⟨w.heap.size, 4, none⟩ = some (I b.days) := (hB.cell (p := ⟨w.heap.size, 4, none⟩) (Nat.lt_succ_self _)).trans (by simp)
        by_cases hlt : k < b.secs.length
        · obtain ⟨bl, off, c', hv, hbl, h0, h1, h2, h3⟩ := (hb.below hBw (Nat.le_refl _)).sec hlt
          injection hv with hA _ hc
          subst hA hc
          by_cases hlt2 : b.secs[k].thick.lo < b.days * Ch.worst b.secs
          · go_wp2_with fail
            go_ret
            exact ⟨ret_b (Eq.symm (by unfold Ch.lastsAll; exact all_false hlt (by simp [hlt2]))), hBw.alloc (by omega) _⟩
          · go_wp2_with fail
            go_roundw
            case rel => exact ⟨k + 1, by omega, by go_num, hB.alloc (by omega) _, by rw [List.take_succ_eq_append_getElem hlt, List.all_append, hall]; simp [hlt2]⟩
            case measure => simp [intOf]; omega
        · obtain rfl : k = b.secs.length := by omega
          go_wp2_with fail
          go_ret
          exact ⟨ret_b (by unfold Ch.lastsAll; rw [← hall, List.take_length]), hBw⟩

set_option maxHeartbeats 1000000 in
theorem allTurns_any (b : Ch.Bk) (S T V : Value) (w : World) (hb : RB w w.heap.size b S T V) :
    Calls Tryz.prog 133 #[vBk S T V b.rule b.days] w fun e w' => e = .returned (.bool (Ch.allTurns b)) ∧ Below w.heap.size w w' := by
  obtain ⟨A, c, rfl⟩ := hb.turns.form
  have hm := hb.turns.le
  unfold maxLen at hm
  go_enter Tryz.func133, Tryz.ntmps133
  go_wp2
  go_loop [3, 9] (fun m i => ∃ (k : Nat) (d : Int), k ≤ b.turns.length ∧ i = I k ∧ m = I d ∧ Ch.turnsOk b.days d (b.turns.drop k) = Ch.allTurns b) (fun _ i => b.turns.length - (intOf i).toNat)
  case atStart => exact ⟨0, 0, Nat.zero_le _, rfl, rfl, rfl⟩
  case round =>
    obtain ⟨k, d, hk, rfl, rfl, heq⟩ := hrel
    by_cases hlt : k < b.turns.length
    · obtain ⟨bl, off, c', hv, hbl, h0⟩ := hb.turn hlt
      injection hv with hA _ hc
      subst hA hc
      rw [List.drop_eq_getElem_cons hlt, Ch.turnsOk] at heq
      by_cases h1 : b.turns[k] ≤ d
      · have H := Lib.hid heq
        clear heq
        go_wp2_with fail
        go_ret
        exact ⟨ret_b (by rw [← H.out]; simp [h1]), (Below.refl _ _).alloc (Nat.le_refl _) _⟩
      · by_cases h2 : b.days < b.turns[k]
        · have H := Lib.hid heq
          clear heq
          go_wp2_with fail
          go_ret
          exact ⟨ret_b (by rw [← H.out]; simp [h2]), (Below.refl _ _).alloc (Nat.le_refl _) _⟩
        · have H := Lib.hid heq
          clear heq
          go_wp2_with fail
          go_round
          case rel => exact ⟨k + 1, b.turns[k], by omega, by go_num, rfl, by rw [← H.out]; simp; omega⟩
          case measure => simp [intOf]; omega
    · obtain rfl : k = b.turns.length := by omega
      rw [List.drop_length] at heq
      have H := Lib.hid heq
      clear heq
      go_wp2_with fail
      go_ret
      exact ⟨ret_b (by rw [← H.out]; rfl), (Below.refl _ _).alloc (Nat.le_refl _) _⟩

set_option maxHeartbeats 1000000 in
theorem isSection_any (b : Ch.Bk) (A : Option Addr) (c : Nat) (T V : Value) (n : Int) (w : World) :
    Calls Tryz.prog 84 #[vBk (.slice A b.secs.length c) T V b.rule b.days, I n] w fun e w' => e = .returned (.bool (Ch.isSection b n)) ∧ Below w.heap.size w w' := by
  by_cases h1 : 0 ≤ n <;> by_cases h2 : n < b.secs.length
  all_goals
    go_enter Tryz.func84, Tryz.ntmps84
    go_wp2
    go_ret
    exact ⟨ret_b (by rw [Bool.eq_iff_iff]; simp [Ch.isSection]; omega), (Below.refl _ _).alloc (Nat.le_refl _) _⟩

set_option maxHeartbeats 1000000 in
theorem isDay_any (b : Ch.Bk) (S T V : Value) (n : Int) (w : World) :
    Calls Tryz.prog 82 #[vBk S T V b.rule b.days, I n] w fun e w' => e = .returned (.bool (Ch.isDay b n)) ∧ Below w.heap.size w w' := by
  by_cases h1 : 0 ≤ n <;> by_cases h2 : n ≤ b.days
  all_goals
    go_enter Tryz.func82, Tryz.ntmps82
    go_wp2
    go_ret
    exact ⟨ret_b (by rw [Bool.eq_iff_iff]; simp [Ch.isDay]; omega), (Below.refl _ _).alloc (Nat.le_refl _) _⟩

end Go.Proofs.YtefcpeigpdlnhaaGreat

/- Contracts of chain's checks: a survey, all surveys, a book. -/
namespace Go.Proofs.YtefcpeigpdlnhaaGreat
open Go.RowKit

set_option maxHeartbeats 2000000 in
theorem isSurvey_any (b : Ch.Bk) (A : Option Addr) (c : Nat) (T V : Value) (s : Ch.Sv) (w : World) :
    Calls Tryz.prog 89 #[vBk (.slice A b.secs.length c) T V b.rule b.days, vSv s] w fun e w' => e = .returned (.bool (Ch.isSurvey b s)) ∧ Below w.heap.size w w' := by
  obtain ⟨sc, dy, rd, er⟩ := s
  have hB0 : Below w.heap.size w ((w.alloc (.cells #[.slice A b.secs.length c, T, V, I b.rule, I b.days] 26)).alloc (.cells #[I sc, I dy, I rd, I er] 34)) := ((Below.refl _ _).alloc (Nat.le_refl _) _).alloc (by simp) _
  go_enter Tryz.func89, Tryz.ntmps89
  go_wp2_with fail
  refine (isSection_any b A c T V sc _).mono ?_
  rintro e w1 ⟨rfl, hB1⟩
  have hb1 : Below w.heap.size w w1 := hB0.trans (hB1.mono (by simp; omega))
  have hc1 := bcell hB1
  have hz1 : w.heap.size + 1 < w1.heap.size := by have := hB1.size; simp at this; omega
  by_cases h1 : Ch.isSection b sc = true
  · go_wp2_with fail
    refine (isDay_any b _ T V dy _).mono ?_
    rintro e w2 ⟨rfl, hB2⟩
    have hb2 : Below w.heap.size w w2 := hb1.trans (hB2.mono hb1.size)
    have hc2 := bcell hB2
    have hz2 : w.heap.size + 1 < w2.heap.size := by have := hB2.size; omega
    by_cases h2 : Ch.isDay b dy = true
    · go_wp2_with fail
      have hB3 : Below w.heap.size w (w2.alloc (.cells (([(rd, 0, 200), (er, 0, 5)] : List (Int × Int × Int)).flatMap cBd).toArray 151)) := hb2.alloc hb2.size _
      refine (hold_any [(rd, 0, 200), (er, 0, 5)] _ _ (sl_new (t := 151) (by rfl) (by simp [maxLen]) (by simp) (heap_at _ _ rfl))).mono ?_
      rintro e w4 ⟨rfl, hB4⟩
      have hb4 : Below w.heap.size w w4 := hB3.trans (hB4.mono hB3.size)
      have hr : Ch.isSurvey b ⟨sc, dy, rd, er⟩ = [(rd, 0, 200), (er, 0, 5)].all fun x : Int × Int × Int => Ch.between x.1 x.2.1 x.2.2 := by simp [Ch.isSurvey, h1, h2]
      have HR := Lib.hid hr
      clear hr
      go_wp2_with fail
      go_ret
      exact ⟨ret_b (by rw [HR.out]; simp), hb4⟩
    · go_wp2_with fail
      go_ret
      exact ⟨ret_b (by simp [Ch.isSurvey, h2]), hb2⟩
  · go_wp2_with fail
    go_ret
    exact ⟨ret_b (by simp [Ch.isSurvey, h1]), hb1⟩

set_option maxHeartbeats 1000000 in
theorem allSurveys_any (b : Ch.Bk) (S T V : Value) (w : World) (hb : RB w w.heap.size b S T V) :
    Calls Tryz.prog 134 #[vBk S T V b.rule b.days] w fun e w' => e = .returned (.bool (Ch.allSurveys b)) ∧ Below w.heap.size w w' := by
  obtain ⟨A, c, rfl⟩ := hb.secs.form
  obtain ⟨A2, c2, rfl⟩ := hb.svs.form
  have hm := hb.svs.le
  unfold maxLen at hm
  go_enter Tryz.func134, Tryz.ntmps134
  go_wp2
  go_loopw [8] (fun i wr => ∃ k : Nat, k ≤ b.svs.length ∧ i = I k ∧ Below (w.heap.size + 1) (w.alloc (.cells #[.slice A b.secs.length c, T, .slice A2 b.svs.length c2, I b.rule, I b.days] 26)) wr ∧ (b.svs.take k).all (Ch.isSurvey b) = true) (fun i _ => b.svs.length - (intOf i).toNat)
  case atStart => exact ⟨0, Nat.zero_le _, rfl, Below.refl _ _, rfl⟩
  case round =>
    obtain ⟨k, hk, rfl, hB, hall⟩ := hrel
    have hz : w.heap.size < wr.heap.size := by have := hB.size; simp at this; omega
    have hBw : Below w.heap.size w wr := ((Below.refl _ _).alloc (Nat.le_refl _) _).trans (hB.mono (by omega))
    have hq : ∀ j, j < 5 → wr.cell? ⟨w.heap.size, j, none⟩ = #[.slice A b.secs.length c, T, .slice A2 b.svs.length c2, I b.rule, I b.days][j]? := fun j _ => (hB.cell (p := ⟨w.heap.size, j, none⟩) (Nat.lt_succ_self _)).trans (by simp)
    have q0 := hq 0 (by omega)
    have q1 := hq 1 (by omega)
    have q2 := hq 2 (by omega)
    have q3 := hq 3 (by omega)
    have q4 := hq 4 (by omega)
    clear hq
    by_cases hlt : k < b.svs.length
    · obtain ⟨bl, off, c', hv, hbl, h0, h1, h2, h3⟩ := (hb.below hBw (Nat.le_refl _)).sv hlt
      injection hv with hA _ hc
      subst hA hc
      go_wp2_with fail
      refine (isSurvey_any b A c T _ b.svs[k] _).mono ?_
      rintro e w1 ⟨rfl, hB1⟩
      have hb1 : Below (w.heap.size + 1) (w.alloc (.cells #[.slice A b.secs.length c, T, .slice (some ⟨bl, off, none⟩) b.svs.length c2, I b.rule, I b.days] 26)) w1 := (hB.alloc (by omega) _).trans (hB1.mono (by simp; omega))
      by_cases hs1 : Ch.isSurvey b b.svs[k] = true
      · go_wp2_with fail
        go_roundw
        case rel => exact ⟨k + 1, by omega, by go_num, hb1, by rw [List.take_succ_eq_append_getElem hlt, List.all_append, hall]; simp [hs1]⟩
        case measure => simp [intOf]; omega
      · go_wp2_with fail
        go_ret
        exact ⟨ret_b (Eq.symm (by unfold Ch.allSurveys; exact all_false hlt (by simp [hs1]))), ((Below.refl _ _).alloc (Nat.le_refl _) _).trans (hb1.mono (by omega))⟩
    · obtain rfl : k = b.svs.length := by omega
      go_wp2_with fail
      go_ret
      exact ⟨ret_b (by unfold Ch.allSurveys; rw [← hall, List.take_length]), hBw⟩

end Go.Proofs.YtefcpeigpdlnhaaGreat

/- Contracts of chain's checks: a book. -/
namespace Go.Proofs.YtefcpeigpdlnhaaGreat
open Go.RowKit

set_option maxHeartbeats 2000000 in
theorem valid_any (b : Ch.Bk) (S T V : Value) (w : World) (hb : RB w w.heap.size b S T V) :
    Calls Tryz.prog 97 #[vBk S T V b.rule b.days] w fun e w' => e = .returned (.bool (Ch.valid b)) ∧ Below w.heap.size w w' := by
  have hB0 : Below w.heap.size w (w.alloc (.cells #[S, T, V, I b.rule, I b.days] 26)) := (Below.refl _ _).alloc (Nat.le_refl _) _
  go_enter Tryz.func97, Tryz.ntmps97
  go_wp2_with fail
  refine (sized_any b S T V _ ((hb.below hB0 (Nat.le_refl _)).more (by simp))).mono ?_
  rintro e w1 ⟨rfl, hB1⟩
  have hb1 : Below w.heap.size w w1 := hB0.trans (hB1.mono (by simp))
  have hc1 := bcell hB1
  have hz1 : w.heap.size < w1.heap.size := by have := hB1.size; simp at this; omega
  by_cases h1 : Ch.sized b = true
  · go_wp2_with fail
    refine (allSections_any b S T V _ ((hb.below hb1 (Nat.le_refl _)).more (by omega))).mono ?_
    rintro e w2 ⟨rfl, hB2⟩
    have hb2 : Below w.heap.size w w2 := hb1.trans (hB2.mono hb1.size)
    have hc2 := bcell hB2
    have hz2 : w.heap.size < w2.heap.size := by have := hB2.size; omega
    by_cases h2 : Ch.allSections b = true
    · go_wp2_with fail
      refine (lastsAll_any b S T V _ ((hb.below hb2 (Nat.le_refl _)).more (by omega)) h1 h2).mono ?_
      rintro e w3 ⟨rfl, hB3⟩
      have hb3 : Below w.heap.size w w3 := hb2.trans (hB3.mono hb2.size)
      have hc3 := bcell hB3
      have hz3 : w.heap.size < w3.heap.size := by have := hB3.size; omega
      by_cases h3 : Ch.lastsAll b = true
      · go_wp2_with fail
        refine (allTurns_any b S T V _ ((hb.below hb3 (Nat.le_refl _)).more (by omega))).mono ?_
        rintro e w4 ⟨rfl, hB4⟩
        have hb4 : Below w.heap.size w w4 := hb3.trans (hB4.mono hb3.size)
        have hc4 := bcell hB4
        have hz4 : w.heap.size < w4.heap.size := by have := hB4.size; omega
        by_cases h4 : Ch.allTurns b = true
        · go_wp2_with fail
          refine (allSurveys_any b S T V _ ((hb.below hb4 (Nat.le_refl _)).more (by omega))).mono ?_
          rintro e w5 ⟨rfl, hB5⟩
          have hb5 : Below w.heap.size w w5 := hb4.trans (hB5.mono hb4.size)
          go_wp2_with fail
          go_ret
          exact ⟨ret_b (by simp [Ch.valid, h1, h2, h3, h4]), hb5⟩
        · go_wp2_with fail
          go_ret
          exact ⟨ret_b (by simp [Ch.valid, h4]), hb4⟩
      · go_wp2_with fail
        go_ret
        exact ⟨ret_b (by simp [Ch.valid, h3]), hb3⟩
    · go_wp2_with fail
      go_ret
      exact ⟨ret_b (by simp [Ch.valid, h2]), hb2⟩
  · go_wp2_with fail
    go_ret
    exact ⟨ret_b (by simp [Ch.valid, h1]), hb1⟩

set_option maxHeartbeats 1000000 in
theorem check_any (b : Ch.Bk) (S T V : Value) (w : World) (hb : RB w w.heap.size b S T V) :
    Calls Tryz.prog 52 #[vBk S T V b.rule b.days] w fun e w' => e = .returned (I (Ch.check b)) ∧ Below w.heap.size w w' := by
  have hB0 : Below w.heap.size w (w.alloc (.cells #[S, T, V, I b.rule, I b.days] 26)) := (Below.refl _ _).alloc (Nat.le_refl _) _
  go_enter Tryz.func52, Tryz.ntmps52
  go_wp2_with fail
  refine (valid_any b S T V _ ((hb.below hB0 (Nat.le_refl _)).more (by simp))).mono ?_
  rintro e w1 ⟨rfl, hB1⟩
  have hb1 : Below w.heap.size w w1 := hB0.trans (hB1.mono (by simp))
  by_cases h1 : Ch.valid b = true
  all_goals
    go_wp2_with fail
    go_ret
    exact ⟨ret_i (by simp [Ch.check, h1]), hb1⟩

end Go.Proofs.YtefcpeigpdlnhaaGreat
