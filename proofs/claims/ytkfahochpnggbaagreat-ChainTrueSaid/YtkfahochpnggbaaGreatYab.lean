/- Texts on the program that the proof leans on, part 2. -/
import Derived.Test.YtkfahochpnggbaaGreatRows
import Derived.Test.YtkfahochpnggbaaGreatYaa
set_option linter.unusedVariables false
set_option linter.unusedSimpArgs false

/- Contracts of chain's small functions: checks of a book. -/
namespace Go.Proofs.YtkfahochpnggbaaGreat
open Go.RowKit
abbrev I (n : Int) : Value := .int .i64 n
abbrev vSp (s : Ch.Sp) : Value := .agg #[I s.lo, I s.hi]
def cSec (s : Ch.Sec) : List Value := [I s.thick.lo, I s.thick.hi, I s.wear.lo, I s.wear.hi]
def cSv (s : Ch.Sv) : List Value := [I s.sec, I s.day, I s.read, I s.err]
abbrev vSv (s : Ch.Sv) : Value := .agg #[I s.sec, I s.day, I s.read, I s.err]
abbrev vBk (S T V : Value) (rule days : Int) : Value := .agg #[S, T, V, I rule, I days]
/-- A book's three slices, and their contents. -/
structure RB (w : World) (B : Nat) (b : Ch.Bk) (S T V : Value) : Prop where
  secs : Sl w B 4 S b.secs.length (b.secs.flatMap cSec)
  turns : Sl w B 1 T b.turns.length (b.turns.map I)
  svs : Sl w B 4 V b.svs.length (b.svs.flatMap cSv)
theorem RB.below {w w' : World} {B B' : Nat} {b : Ch.Bk} {S T V : Value} (h : RB w B b S T V) (hb : Below B' w w') (hB : B ≤ B') : RB w' B b S T V :=
  ⟨h.secs.below hb hB, h.turns.below hb hB, h.svs.below hb hB⟩
theorem RB.more {w : World} {B B' : Nat} {b : Ch.Bk} {S T V : Value} (h : RB w B b S T V) (hB : B ≤ B') : RB w B' b S T V :=
  ⟨h.secs.more hB, h.turns.more hB, h.svs.more hB⟩

set_option maxHeartbeats 400000 in
theorem isEmpty_any (a b : Int) (w : World) :
    Calls Tryz.prog 124 #[.agg #[I a, I b]] w fun e w' => e = .returned (.bool (decide (b < a))) ∧ Below w.heap.size w w' := by
  go_enter Tryz.func124, Tryz.ntmps124
  go_wp2
  go_ret
  exact ⟨rfl, (Below.refl _ _).alloc (Nat.le_refl _) _⟩

set_option maxHeartbeats 400000 in
theorem meet_any (a b c d : Int) (w : World) :
    Calls Tryz.prog 125 #[.agg #[I a, I b], .agg #[I c, I d]] w fun e w' => e = .returned (.agg #[I (max a c), I (min b d)]) ∧ Below w.heap.size w w' := by
  by_cases h1 : a < c <;> by_cases h2 : d < b
  all_goals
    go_enter Tryz.func125, Tryz.ntmps125
    go_wp2
    refine bodyPost_ret (v := .agg #[I (max a c), I (min b d)]) (by simp [results, Tryz.results125, go_sem]; omega) rfl ⟨rfl, ?_⟩
    exact (((Below.refl _ _).alloc (Nat.le_refl _) _).alloc (by simp) _).alloc (by simp; omega) _

set_option maxHeartbeats 400000 in
theorem holds_any (n lo hi : Int) (w : World) :
    Calls Tryz.prog 153 #[.agg #[I n, I lo, I hi]] w fun e w' => e = .returned (.bool (Ch.between n lo hi)) ∧ Below w.heap.size w w' := by
  by_cases h1 : lo ≤ n <;> by_cases h2 : n ≤ hi
  all_goals
    go_enter Tryz.func153, Tryz.ntmps153
    go_wp2
    go_ret
    exact ⟨ret_b (by simp [Ch.between, h1, h2]), (Below.refl _ _).alloc (Nat.le_refl _) _⟩

set_option maxHeartbeats 400000 in
theorem inside_any (s t : Ch.Sp) (w : World) :
    Calls Tryz.prog 174 #[vSp s, vSp t] w fun e w' => e = .returned (.bool (decide (t.lo ≤ s.lo) && decide (s.hi ≤ t.hi))) ∧ Below w.heap.size w w' := by
  obtain ⟨lo, hi⟩ := s
  obtain ⟨tlo, thi⟩ := t
  by_cases h1 : tlo ≤ lo <;> by_cases h2 : hi ≤ thi
  all_goals
    go_enter Tryz.func174, Tryz.ntmps174
    go_wp2
    go_ret
    exact ⟨ret_b (by simp [h1, h2]), ((Below.refl _ _).alloc (Nat.le_refl _) _).alloc (by simp) _⟩

set_option maxHeartbeats 1000000 in
theorem isKnown_any (s : Ch.Sp) (high wide : Int) (w : World) (hh : high ≤ 1000) :
    Calls Tryz.prog 157 #[vSp s, vSp ⟨0, high⟩, I wide] w fun e w' => e = .returned (.bool (Ch.isSpan s high wide)) ∧ Below w.heap.size w w' := by
  obtain ⟨lo, hi⟩ := s
  have hB0 : Below w.heap.size w ((w.alloc (.cells #[I lo, I hi] 51)).alloc (.cells #[I 0, I high] 51)) := ((Below.refl _ _).alloc (Nat.le_refl _) _).alloc (by simp) _
  go_enter Tryz.func157, Tryz.ntmps157
  go_wp2_with fail
  refine (isEmpty_any lo hi _).mono ?_
  rintro e w1 ⟨rfl, hB1⟩
  have hb1 : Below w.heap.size w w1 := hB0.trans (hB1.mono hB0.size)
  have hc1 := bcell hB1
  have hz1 : w.heap.size + 1 < w1.heap.size := by have := hB1.size; simp at this; omega
  have hz0 : w.heap.size < w1.heap.size := by omega
  by_cases h1 : hi < lo
  · go_wp2_with fail
    go_ret
    exact ⟨ret_b (by simp [Ch.isSpan]; omega), hb1⟩
  · by_cases h2 : 0 ≤ lo ∧ hi ≤ high
    · obtain ⟨h2, h3⟩ := h2
      go_wp2_with fail
      refine (inside_any ⟨lo, hi⟩ ⟨0, high⟩ _).mono ?_
      rintro e w2 ⟨he, hB2⟩
      obtain rfl : e = .returned (.bool true) := by rw [he]; simp [h2, h3]
      clear he
      have hb2 : Below w.heap.size w w2 := hb1.trans (hB2.mono hb1.size)
      have hc2 := bcell hB2
      have hz2 : w.heap.size + 1 < w2.heap.size := by have := hB2.size; omega
      by_cases h4 : hi - lo ≤ wide
      all_goals
        go_wp2_with fail
        go_ret
        exact ⟨ret_b (by rw [Bool.eq_iff_iff]; simp [Ch.isSpan]; omega), hb2⟩
    · have hr : Ch.isSpan ⟨lo, hi⟩ high wide = false := by simp [Ch.isSpan]; omega
      have HR := Lib.hid hr
      clear hr
      go_wp2_with fail
      refine (inside_any ⟨lo, hi⟩ ⟨0, high⟩ _).mono ?_
      rintro e w2 ⟨he, hB2⟩
      obtain rfl : e = .returned (.bool false) := by rw [he]; congr 2; rw [Bool.eq_false_iff]; simp; omega
      clear he
      have hb2 : Below w.heap.size w w2 := hb1.trans (hB2.mono hb1.size)
      go_wp2_with fail
      go_ret
      exact ⟨ret_b HR.out.symm, hb2⟩

/-- A bound: a number, and between which two others it must lie. -/
def cBd (x : Int × Int × Int) : List Value := [I x.1, I x.2.1, I x.2.2]
set_option maxHeartbeats 1000000 in
theorem hold_any (l : List (Int × Int × Int)) (v : Value) (w : World) (h : Sl w w.heap.size 3 v l.length (l.flatMap cBd)) :
    Calls Tryz.prog 122 #[v] w fun e w' => e = .returned (.bool (l.all fun x => Ch.between x.1 x.2.1 x.2.2)) ∧ Below w.heap.size w w' := by
  obtain ⟨A, c, rfl⟩ := h.form
  have hm := h.le
  unfold maxLen at hm
  go_enter Tryz.func122, Tryz.ntmps122
  go_wp2
  go_loopw [7] (fun i wr => ∃ k : Nat, k ≤ l.length ∧ i = I k ∧ Below w.heap.size w wr ∧ (l.take k).all (fun x => Ch.between x.1 x.2.1 x.2.2) = true) (fun i _ => l.length - (intOf i).toNat)
  case atStart => exact ⟨0, Nat.zero_le _, rfl, Below.refl _ _, rfl⟩
  case round =>
    obtain ⟨k, hk, rfl, hB, hall⟩ := hrel
    have hz := hB.size
    by_cases hlt : k < l.length
    · obtain ⟨bl, off, c', hv, hbl, h0, h1, h2⟩ := (h.below hB (Nat.le_refl _)).at3 hlt
      injection hv with hA _ hc
      subst hA hc
      have e0 : (l.flatMap cBd)[k * 3]? = some (I l[k].1) := by have := flatN 3 cBd (fun _ => rfl) l k 0 hlt (by omega); simpa [cBd] using this
      have e1 : (l.flatMap cBd)[k * 3 + 1]? = some (I l[k].2.1) := by have := flatN 3 cBd (fun _ => rfl) l k 1 hlt (by omega); simpa [cBd] using this
      have e2 : (l.flatMap cBd)[k * 3 + 2]? = some (I l[k].2.2) := by have := flatN 3 cBd (fun _ => rfl) l k 2 hlt (by omega); simpa [cBd] using this
      rw [e0] at h0
      rw [e1] at h1
      rw [e2] at h2
      clear e0 e1 e2
      go_wp2_with fail
      refine (holds_any _ _ _ _).mono ?_
      rintro e w1 ⟨rfl, hB1⟩
      have hb1 : Below w.heap.size w w1 := (hB.alloc hz _).trans (hB1.mono (by simp; omega))
      by_cases hs1 : Ch.between l[k].1 l[k].2.1 l[k].2.2 = true
      · go_wp2_with fail
        go_roundw
        case rel => exact ⟨k + 1, by omega, by go_num, hb1, by rw [List.take_succ_eq_append_getElem hlt, List.all_append, hall]; simp [hs1]⟩
        case measure => simp [intOf]; omega
      · go_wp2_with fail
        go_ret
        exact ⟨ret_b (Eq.symm (all_false hlt (by simp [hs1]))), hb1⟩
    · obtain rfl : k = l.length := by omega
      go_wp2_with fail
      go_ret
      exact ⟨ret_b (by rw [← hall, List.take_length]), hB⟩

theorem flat4 {α : Type} (f : α → List Value) (hf : ∀ x, (f x).length = 4) (l : List α) (k j : Nat) (hk : k < l.length) (hj : j < 4) : (l.flatMap f)[k * 4 + j]? = (f l[k])[j]? := by
  induction l generalizing k with
  | nil => simp at hk
  | cons x l ih =>
    rw [List.flatMap_cons]
    cases k with
    | zero => rw [List.getElem?_append_left (by rw [hf]; omega)]; simp
    | succ k =>
      rw [List.getElem?_append_right (by rw [hf]; omega), hf, show (k + 1) * 4 + j - 4 = k * 4 + j by omega]
      exact ih k (by simpa using hk)
theorem len_flat4 {α : Type} (f : α → List Value) (hf : ∀ x, (f x).length = 4) (l : List α) : (l.flatMap f).length = l.length * 4 := by
  induction l with
  | nil => rfl
  | cons x l ih => rw [List.flatMap_cons, List.length_append, hf, ih, List.length_cons]; omega
theorem RB.sec {w : World} {B : Nat} {b : Ch.Bk} {S T V : Value} (h : RB w B b S T V) {k : Nat} (hk : k < b.secs.length) :
    ∃ bl off c, S = .slice (some ⟨bl, off, none⟩) b.secs.length c ∧ bl < B ∧ w.cell? ⟨bl, off + k * 4, none⟩ = some (I b.secs[k].thick.lo) ∧ w.cell? ⟨bl, off + k * 4 + 1, none⟩ = some (I b.secs[k].thick.hi) ∧
      w.cell? ⟨bl, off + k * 4 + 2, none⟩ = some (I b.secs[k].wear.lo) ∧ w.cell? ⟨bl, off + k * 4 + 3, none⟩ = some (I b.secs[k].wear.hi) := by
  obtain ⟨bl, off, c, hv, hb, h0, h1, h2, h3⟩ := h.secs.at4 hk
  refine ⟨bl, off, c, hv, hb, h0.trans ?_, h1.trans ?_, h2.trans ?_, h3.trans ?_⟩
  · have := flat4 cSec (fun _ => rfl) b.secs k 0 hk (by omega); simpa [cSec] using this
  · have := flat4 cSec (fun _ => rfl) b.secs k 1 hk (by omega); simpa [cSec] using this
  · have := flat4 cSec (fun _ => rfl) b.secs k 2 hk (by omega); simpa [cSec] using this
  · have := flat4 cSec (fun _ => rfl) b.secs k 3 hk (by omega); simpa [cSec] using this
theorem RB.sv {w : World} {B : Nat} {b : Ch.Bk} {S T V : Value} (h : RB w B b S T V) {k : Nat} (hk : k < b.svs.length) :
    ∃ bl off c, V = .slice (some ⟨bl, off, none⟩) b.svs.length c ∧ bl < B ∧ w.cell? ⟨bl, off + k * 4, none⟩ = some (I b.svs[k].sec) ∧ w.cell? ⟨bl, off + k * 4 + 1, none⟩ = some (I b.svs[k].day) ∧
      w.cell? ⟨bl, off + k * 4 + 2, none⟩ = some (I b.svs[k].read) ∧ w.cell? ⟨bl, off + k * 4 + 3, none⟩ = some (I b.svs[k].err) := by
  obtain ⟨bl, off, c, hv, hb, h0, h1, h2, h3⟩ := h.svs.at4 hk
  refine ⟨bl, off, c, hv, hb, h0.trans ?_, h1.trans ?_, h2.trans ?_, h3.trans ?_⟩
  · have := flat4 cSv (fun _ => rfl) b.svs k 0 hk (by omega); simpa [cSv] using this
  · have := flat4 cSv (fun _ => rfl) b.svs k 1 hk (by omega); simpa [cSv] using this
  · have := flat4 cSv (fun _ => rfl) b.svs k 2 hk (by omega); simpa [cSv] using this
  · have := flat4 cSv (fun _ => rfl) b.svs k 3 hk (by omega); simpa [cSv] using this
theorem RB.turn {w : World} {B : Nat} {b : Ch.Bk} {S T V : Value} (h : RB w B b S T V) {k : Nat} (hk : k < b.turns.length) :
    ∃ bl off c, T = .slice (some ⟨bl, off, none⟩) b.turns.length c ∧ bl < B ∧ w.cell? ⟨bl, off + k, none⟩ = some (I b.turns[k]) := by
  obtain ⟨bl, off, c, hv, hb, h0⟩ := h.turns.at1 hk
  exact ⟨bl, off, c, hv, hb, h0.trans (by simp [hk])⟩

end Go.Proofs.YtkfahochpnggbaaGreat

/- Contracts of chain's checks of a book: the loops. -/
namespace Go.Proofs.YtkfahochpnggbaaGreat
open Go.RowKit

set_option maxHeartbeats 1000000 in
theorem allSections_any (b : Ch.Bk) (S T V : Value) (w : World) (hb : RB w w.heap.size b S T V) :
    Calls Tryz.prog 131 #[vBk S T V b.rule b.days] w fun e w' => e = .returned (.bool (Ch.allSections b)) ∧ Below w.heap.size w w' := by
  obtain ⟨A, c, rfl⟩ := hb.secs.form
  have hm := hb.secs.le
  unfold maxLen at hm
  go_enter Tryz.func131, Tryz.ntmps131
  go_wp2
  go_loopw [10] (fun i wr => ∃ k : Nat, k ≤ b.secs.length ∧ i = I k ∧ Below w.heap.size w wr ∧ (b.secs.take k).all Ch.okSec = true) (fun i _ => b.secs.length - (intOf i).toNat)
  case atStart => exact ⟨0, Nat.zero_le _, rfl, (Below.refl _ _).alloc (Nat.le_refl _) _, rfl⟩
  case round =>
    obtain ⟨k, hk, rfl, hB, hall⟩ := hrel
    by_cases hlt : k < b.secs.length
    · obtain ⟨bl, off, c', hv, hbl, h0, h1, h2, h3⟩ := (hb.below hB (Nat.le_refl _)).sec hlt
      injection hv with hA _ hc
      subst hA hc
      have hz := hB.size
      go_wp2_with fail
      refine (isKnown_any b.secs[k].thick 200 3 _ (by omega)).mono ?_
      rintro e w1 ⟨rfl, hB1⟩
      have hc1 := hB1.cell (p := ⟨wr.heap.size, 0, none⟩) (by simp)
      have hc2 := hB1.cell (p := ⟨wr.heap.size, 2, none⟩) (by simp)
      have hc3 := hB1.cell (p := ⟨wr.heap.size, 3, none⟩) (by simp)
      have hz1 := hB1.size
      have hb1 : Below w.heap.size w w1 := (hB.alloc hz _).trans (hB1.mono (by simp; omega))
      go_wp2_with fail
      refine (isKnown_any b.secs[k].wear 3 2 _ (by omega)).mono ?_
      rintro e w2 ⟨rfl, hB2⟩
      have hb2 : Below w.heap.size w w2 := hb1.trans (hB2.mono hb1.size)
      cases hs1 : Ch.isSpan b.secs[k].thick 200 3
      · go_wp2_with fail
        go_ret
        exact ⟨ret_b (Eq.symm (by unfold Ch.allSections; exact all_false hlt (by simp [Ch.okSec, hs1]))), hb2⟩
      · cases hs2 : Ch.isSpan b.secs[k].wear 3 2
        · go_wp2_with fail
          go_ret
          exact ⟨ret_b (Eq.symm (by unfold Ch.allSections; exact all_false hlt (by simp [Ch.okSec, hs2]))), hb2⟩
        · go_wp2_with fail
          go_roundw
          case rel => exact ⟨k + 1, by omega, by go_num, hb2, by rw [List.take_succ_eq_append_getElem hlt, List.all_append, hall]; simp [Ch.okSec, hs1, hs2]⟩
          case measure => simp [intOf]; omega
    · obtain rfl : k = b.secs.length := by omega
      go_wp2_with fail
      go_ret
      exact ⟨ret_b (by unfold Ch.allSections; rw [← hall, List.take_length]), hB⟩

set_option maxHeartbeats 1000000 in
theorem sized_any (b : Ch.Bk) (S T V : Value) (w : World) (hb : RB w w.heap.size b S T V) :
    Calls Tryz.prog 130 #[vBk S T V b.rule b.days] w fun e w' => e = .returned (.bool (Ch.sized b)) ∧ Below w.heap.size w w' := by
  obtain ⟨A, c, rfl⟩ := hb.secs.form
  obtain ⟨A1, c1, rfl⟩ := hb.turns.form
  obtain ⟨A2, c2, rfl⟩ := hb.svs.form
  go_enter Tryz.func130, Tryz.ntmps130
  go_wp2_with fail
  have hB0 : Below w.heap.size w ((w.alloc (.cells #[.slice A b.secs.length c, .slice A1 b.turns.length c1, .slice A2 b.svs.length c2, I b.rule, I b.days] 26)).alloc (.cells ((Ch.bnds b).flatMap cBd).toArray 151)) := ((Below.refl _ _).alloc (Nat.le_refl _) _).alloc (by simp) _
  refine (hold_any (Ch.bnds b) _ _ (sl_new (t := 151) (xs := (Ch.bnds b).flatMap cBd) (by rfl) (by simp [Ch.bnds, maxLen]) (by simp) (heap_at _ _ (by simp)))).mono ?_
  rintro e w1 ⟨rfl, hB1⟩
  go_wp2_with fail
  go_ret
  exact ⟨rfl, hB0.trans (hB1.mono hB0.size)⟩

end Go.Proofs.YtkfahochpnggbaaGreat

/- Contracts of reckon's Just and Increase. -/
namespace Go.Proofs.YtkfahochpnggbaaGreat
open Go.RowKit

theorem Sl.int {w : World} {B : Nat} {v : Value} {l : List Int} (h : Sl w B 1 v l.length (l.map I)) {k : Nat} (hk : k < l.length) :
    ∃ b off c, v = .slice (some ⟨b, off, none⟩) l.length c ∧ b < B ∧ w.cell? ⟨b, off + k, none⟩ = some (I l[k]) := by
  obtain ⟨b, off, c, hv, hb, hc⟩ := h.at1 hk
  exact ⟨b, off, c, hv, hb, hc.trans (by simp [hk])⟩

set_option maxHeartbeats 400000 in
theorem just_any (n : Int) (w : World) :
    Calls Tryz.prog 175 #[I n] w fun e w' => e = .returned (vSp ⟨n, n⟩) ∧ Below w.heap.size w w' := by
  go_enter Tryz.func175, Tryz.ntmps175
  go_wp2_with fail
  refine bodyPost_ret (v := vSp ⟨n, n⟩) (by simp [results, Tryz.results175, go_sem]) rfl ⟨rfl, ?_⟩
  exact (Below.refl _ _).alloc (Nat.le_refl _) _

set_option maxHeartbeats 10000000 in
theorem increase_any (l : List Int) (lo hi : Int) (v : Value) (w : World) (h : Sl w w.heap.size 1 v l.length (l.map I)) :
    Calls Tryz.prog 158 #[v, vSp ⟨lo, hi⟩] w fun e w' => e = .returned (.bool (Ch.turnsOk hi (lo - 1) l)) ∧ Below w.heap.size w w' := by
  have hm := h.le
  unfold maxLen at hm
  obtain ⟨A, c, rfl⟩ := h.form
  go_enter Tryz.func158, Tryz.ntmps158
  go_wp2_with fail
  refine name_world ?_
  intro W0 hW0
  have hb0 : Below w.heap.size w W0 := by rw [hW0]; exact (Below.refl _ _).alloc (Nat.le_refl _) _
  have rS : W0.heap[w.heap.size]? = some (.cells #[I lo, I hi] 51 (0, 0)) := by rw [hW0]; exact heap_at _ _ rfl
  have lS : w.heap.size < W0.heap.size := by rw [hW0]; simp
  clear hW0
  have h0 := h.below hb0 (Nat.le_refl _)
  clear h
  have HB0 := Lib.hid hb0
  have H0 := Lib.hid h0
  have RS := Lib.hid rS
  clear hb0 h0 rS
  go_loopw [9] (fun i wr => ∃ (k : Nat) (d : Int), k ≤ l.length ∧ i = I k ∧ Below W0.heap.size W0 wr ∧ Ch.turnsOk hi d (l.drop k) = Ch.turnsOk hi (lo - 1) l ∧ lo - 1 ≤ d ∧ (k = 0 → d = lo - 1) ∧ ∀ j (hj : j < l.length), k = j + 1 → d = l[j]) (fun i _ => l.length - (intOf i).toNat)
  case atStart => exact ⟨0, lo - 1, Nat.zero_le _, rfl, Below.refl _ _, rfl, Int.le_refl _, fun _ => rfl, fun j _ hj => by omega⟩
  case round =>
    obtain ⟨k, d, hk, rfl, hB, heq, hd, hd0, hd1⟩ := hrel
    have hbr := HB0.out.trans (hB.mono HB0.out.size)
    by_cases hlt : k < l.length
    · have h2 := H0.out.below (hB.mono HB0.out.size) (Nat.le_refl _)
      obtain ⟨b', off', c', hv, hb', ck⟩ := h2.int hlt
      injection hv with hA _ hc
      subst hA hc
      have rS := (hB.block _ lS).trans RS.out
      have c0 := cell_of_row wr _ 0 _ _ _ rS
      have c1 := cell_of_row wr _ 1 _ _ _ rS
      simp only [List.getElem?_toArray, List.getElem?_cons_zero, List.getElem?_cons_succ] at c0 c1
      rw [List.drop_eq_getElem_cons hlt, Ch.turnsOk] at heq
      have hprev : ∀ j (hj : j < l.length), wr.cell? ⟨b', off' + j, none⟩ = some (I l[j]) := fun j hj => by
        obtain ⟨b2, off2, c2, hv2, -, ck2⟩ := h2.int hj
        injection hv2 with e1 _ e2
        injection e1 with e1
        injection e1 with e1 e3
        subst e1 e3
        exact ck2
      have HPREV := Lib.hid hprev
      have HEQ := Lib.hid heq
      have HBR := Lib.hid hbr
      have HBB := Lib.hid hB
      have hki : (k : Int) < l.length := by omega
      have hlS := Nat.lt_of_lt_of_le lS hB.size
      have hlb : b' < wr.heap.size := Nat.lt_of_lt_of_le hb' hbr.size
      have HD1 := Lib.hid hd1
      clear heq hbr hB h2 rS hd1 hprev
      by_cases hin : lo ≤ l[k] ∧ l[k] ≤ hi
      · have hinL := hin.1
        have hinH := hin.2
        clear hin
        have hIn : ∀ W', Held wr W' → Calls Tryz.prog 174 #[vSp ⟨l[k], l[k]⟩, vSp ⟨lo, hi⟩] W' fun e w' => e = .returned (.bool true) ∧ Below W'.heap.size W' w' := fun W' _ => by
          have := inside_any ⟨l[k], l[k]⟩ ⟨lo, hi⟩ W'
          have hf : (decide (lo ≤ l[k]) && decide (l[k] ≤ hi)) = true := by simp; omega
          rw [hf] at this
          exact this
        have HIN := Lib.hid hIn
        clear hIn
        cases k with
        | zero =>
          have hd00 := hd0 rfl
          clear hd0
          rw [Nat.add_zero] at ck
          go_wp2_with fail
          refine name_act ?_
          intro A hA
          obtain ⟨R, hR⟩ : ∃ R : Act → World → Prop, R = fun a' w' => (∃ u14 u15 u16 u17 u18 u19 u20 u21 u22 u23 u24 u25 u26 u27 u28 u29 u30, a' = ((((((((((((((((((A.put (some 14) u14).put (some 15) u15).put (some 16) u16).put (some 17) u17).put (some 18) u18).put (some 19) u19).put (some 20) u20).put (some 21) u21).put (some 22) u22).put (some 23) u23).put (some 24) u24).put (some 25) u25).put (some 26) u26).put (some 27) u27).put (some 28) u28).put (some 29) u29).put (some 30) u30).put (some 31) (.bool false))) ∧ Held wr w' := ⟨_, rfl⟩
          have HR := Lib.hid hR
          clear hR
          refine wp_between R ?first ?rest
          case first =>
            subst hA
            refine wp_region_held_drew (S := fun w' => Held wr w') (by kernel_rfl) (held_start wr) (fun _ => ?_)
            refine wpAnyH_take (i := 0) (oi := { dst := some 14, op := Go.Op.move (Go.Operand.tmp 6), type := 3, pos := "lists.go:75", after := #[], guard := none }) (v := ?v1) rfl (by kernel_rfl) (by kernel_rfl) (by kernel_rfl) (fun _ _ _ h => h) (Or.inl ⟨by rfl, ?hy1⟩) (held_start wr) ?r1
            case hy1 =>
              intro w' hSw
              have hq := hSw.1
              clear hSw
              go_simp
              with_reducible rfl
            try simp only [Act.put, List.setIfInBounds_toArray, List.set_cons_zero, List.set_cons_succ]
            refine wpAnyH_take (i := 2) (oi := { dst := some 16, op := Go.Op.load 51 (Go.Operand.tmp 3), type := 51, pos := "lists.go:75", after := #[], guard := none }) (v := ?v2) rfl (by kernel_rfl) (by kernel_rfl) (by kernel_rfl) (fun _ _ _ h => h) (Or.inl ⟨by rfl, ?hy2⟩) (held_start wr) ?r2
            case hy2 =>
              intro w' hSw
              have hq := hSw.1
              clear hSw
              go_simp
              with_reducible rfl
            try simp only [Act.put, List.setIfInBounds_toArray, List.set_cons_zero, List.set_cons_succ]
            refine wpAnyH_ready (rs := [1]) (by kernel_rfl) (by simp) ?_
            refine AllReadyH.cons rfl (fun K hK => ?_) AllReadyH.nil
            go_simp
            refine (just_any _ _).mono ?_
            rintro e w3 ⟨rfl, hBw3⟩
            have hSw3 := held_step hBw3 (held_start wr)
            refine hK.out _ _ hSw3 (fun _ => ?_)
            clear hK K
            try simp only [Act.put, List.setIfInBounds_toArray, List.set_cons_zero, List.set_cons_succ]
            refine wpAnyH_ready (rs := [3]) (by kernel_rfl) (by simp) ?_
            refine AllReadyH.cons rfl (fun K hK => ?_) AllReadyH.nil
            go_simp
            refine (HIN.out _ hSw3).mono ?_
            rintro e w4 ⟨rfl, hBw4⟩
            have hSw4 := held_step hBw4 hSw3
            refine hK.out _ _ hSw4 (fun _ => ?_)
            clear hK K
            try simp only [Act.put, List.setIfInBounds_toArray, List.set_cons_zero, List.set_cons_succ]
            refine wpAnyH_take (i := 4) (oi := { dst := some 18, op := Go.Op.unOp Go.UnOp.not 4 (Go.Operand.tmp 17), type := 4, pos := "lists.go:75", after := #[{ on := 3, ground := Go.Ground.data }], guard := none }) (v := ?v5) rfl (by kernel_rfl) (by kernel_rfl) (by kernel_rfl) (fun _ _ _ h => h) (Or.inl ⟨by rfl, ?hy5⟩) hSw4 ?r5
            case hy5 =>
              intro w' hSw
              have hq := hSw.1
              clear hSw
              go_simp
              with_reducible rfl
            try simp only [Act.put, List.setIfInBounds_toArray, List.set_cons_zero, List.set_cons_succ]
            refine wpAnyH_take (i := 5) (oi := { dst := some 19, op := Go.Op.move (Go.Operand.tmp 18), type := 4, pos := "lists.go:75", after := #[{ on := 4, ground := Go.Ground.data }, { on := 3, ground := Go.Ground.chain }], guard := none }) (v := ?v6) rfl (by kernel_rfl) (by kernel_rfl) (by kernel_rfl) (fun _ _ _ h => h) (Or.inl ⟨by rfl, ?hy6⟩) hSw4 ?r6
            case hy6 =>
              intro w' hSw
              have hq := hSw.1
              clear hSw
              go_simp
              with_reducible rfl
            try simp only [Act.put, List.setIfInBounds_toArray, List.set_cons_zero, List.set_cons_succ]
            refine wpAnyH_take (i := 6) (oi := { dst := some 20, op := Go.Op.move (Go.Operand.tmp 5), type := 3, pos := "lists.go:75", after := #[{ on := 5, ground := Go.Ground.guard }], guard := some (5, false) }) (v := ?v7) rfl (by kernel_rfl) (by kernel_rfl) (by kernel_rfl) (fun _ _ _ h => h) (Or.inl ⟨by rfl, ?hy7⟩) hSw4 ?r7
            case hy7 =>
              intro w' hSw
              have hq := hSw.1
              clear hSw
              go_simp
              with_reducible rfl
            try simp only [Act.put, List.setIfInBounds_toArray, List.set_cons_zero, List.set_cons_succ]
            refine wpAnyH_take (i := 7) (oi := { dst := some 21, op := Go.Op.binOp Go.BinOp.gtr 3 (Go.Operand.tmp 20) (Go.Operand.const (Go.Value.int Go.IntKind.i64 0)) 3, type := 4, pos := "lists.go:75", after := #[{ on := 6, ground := Go.Ground.data }, { on := 5, ground := Go.Ground.guard }], guard := some (5, false) }) (v := ?v8) rfl (by kernel_rfl) (by kernel_rfl) (by kernel_rfl) (fun _ _ _ h => h) (Or.inl ⟨by rfl, ?hy8⟩) hSw4 ?r8
            case hy8 =>
              intro w' hSw
              have hq := hSw.1
              clear hSw
              go_simp
              with_reducible rfl
            try simp only [Act.put, List.setIfInBounds_toArray, List.set_cons_zero, List.set_cons_succ]
            refine wpAnyH_take (i := 8) (oi := { dst := some 22, op := Go.Op.move (Go.Operand.tmp 21), type := 4, pos := "lists.go:75", after := #[{ on := 7, ground := Go.Ground.data }, { on := 5, ground := Go.Ground.chain }, { on := 5, ground := Go.Ground.guard }], guard := some (5, false) }) (v := ?v9) rfl (by kernel_rfl) (by kernel_rfl) (by kernel_rfl) (fun _ _ _ h => h) (Or.inl ⟨by rfl, ?hy9⟩) hSw4 ?r9
            case hy9 =>
              intro w' hSw
              have hq := hSw.1
              clear hSw
              go_simp
              with_reducible rfl
            try simp only [Act.put, List.setIfInBounds_toArray, List.set_cons_zero, List.set_cons_succ]
            refine wpAnyH_take (i := 9) (oi := { dst := some 23, op := Go.Op.move (Go.Operand.tmp 6), type := 3, pos := "lists.go:75", after := #[{ on := 8, ground := Go.Ground.guard }], guard := some (8, true) }) (v := undef) rfl (by kernel_rfl) (by kernel_rfl) (by kernel_rfl) (fun _ _ _ h => h) (Or.inr ⟨by rfl, rfl⟩) hSw4 ?_
            try simp only [Act.put, List.setIfInBounds_toArray, List.set_cons_zero, List.set_cons_succ]
            refine wpAnyH_take (i := 10) (oi := { dst := some 24, op := Go.Op.move (Go.Operand.tmp 0), type := 23, pos := "lists.go:75", after := #[{ on := 8, ground := Go.Ground.guard }], guard := some (8, true) }) (v := undef) rfl (by kernel_rfl) (by kernel_rfl) (by kernel_rfl) (fun _ _ _ h => h) (Or.inr ⟨by rfl, rfl⟩) hSw4 ?_
            try simp only [Act.put, List.setIfInBounds_toArray, List.set_cons_zero, List.set_cons_succ]
            refine wpAnyH_take (i := 11) (oi := { dst := some 25, op := Go.Op.move (Go.Operand.tmp 5), type := 3, pos := "lists.go:75", after := #[{ on := 8, ground := Go.Ground.guard }], guard := some (8, true) }) (v := undef) rfl (by kernel_rfl) (by kernel_rfl) (by kernel_rfl) (fun _ _ _ h => h) (Or.inr ⟨by rfl, rfl⟩) hSw4 ?_
            try simp only [Act.put, List.setIfInBounds_toArray, List.set_cons_zero, List.set_cons_succ]
            refine wpAnyH_take (i := 12) (oi := { dst := some 26, op := Go.Op.binOp Go.BinOp.sub 3 (Go.Operand.tmp 25) (Go.Operand.const (Go.Value.int Go.IntKind.i64 1)) 3, type := 3, pos := "lists.go:75", after := #[{ on := 11, ground := Go.Ground.data }, { on := 8, ground := Go.Ground.guard }], guard := some (8, true) }) (v := undef) rfl (by kernel_rfl) (by kernel_rfl) (by kernel_rfl) (fun _ _ _ h => h) (Or.inr ⟨by rfl, rfl⟩) hSw4 ?_
            try simp only [Act.put, List.setIfInBounds_toArray, List.set_cons_zero, List.set_cons_succ]
            refine wpAnyH_take (i := 13) (oi := { dst := some 27, op := Go.Op.indexAddr 23 (Go.Operand.tmp 24) (Go.Operand.tmp 26), type := 0, pos := "lists.go:75", after := #[{ on := 10, ground := Go.Ground.data }, { on := 12, ground := Go.Ground.data }, { on := 8, ground := Go.Ground.guard }], guard := some (8, true) }) (v := undef) rfl (by kernel_rfl) (by kernel_rfl) (by kernel_rfl) (fun _ _ _ h => h) (Or.inr ⟨by rfl, rfl⟩) hSw4 ?_
            try simp only [Act.put, List.setIfInBounds_toArray, List.set_cons_zero, List.set_cons_succ]
            refine wpAnyH_take (i := 14) (oi := { dst := some 28, op := Go.Op.load 3 (Go.Operand.tmp 27), type := 3, pos := "lists.go:75", after := #[{ on := 13, ground := Go.Ground.data }, { on := 8, ground := Go.Ground.guard }], guard := some (8, true) }) (v := undef) rfl (by kernel_rfl) (by kernel_rfl) (by kernel_rfl) (fun _ _ _ h => h) (Or.inr ⟨by rfl, rfl⟩) hSw4 ?_
            try simp only [Act.put, List.setIfInBounds_toArray, List.set_cons_zero, List.set_cons_succ]
            refine wpAnyH_take (i := 15) (oi := { dst := some 29, op := Go.Op.binOp Go.BinOp.leq 3 (Go.Operand.tmp 23) (Go.Operand.tmp 28) 3, type := 4, pos := "lists.go:75", after := #[{ on := 9, ground := Go.Ground.data }, { on := 14, ground := Go.Ground.data }, { on := 8, ground := Go.Ground.guard }], guard := some (8, true) }) (v := undef) rfl (by kernel_rfl) (by kernel_rfl) (by kernel_rfl) (fun _ _ _ h => h) (Or.inr ⟨by rfl, rfl⟩) hSw4 ?_
            try simp only [Act.put, List.setIfInBounds_toArray, List.set_cons_zero, List.set_cons_succ]
            refine wpAnyH_take (i := 16) (oi := { dst := some 30, op := Go.Op.pick (Go.Operand.tmp 22) (Go.Operand.tmp 29) (Go.Operand.const (Go.Value.bool false)), type := 4, pos := "lists.go:75", after := #[{ on := 8, ground := Go.Ground.data }, { on := 15, ground := Go.Ground.data }, { on := 5, ground := Go.Ground.guard }], guard := some (5, false) }) (v := ?v10) rfl (by kernel_rfl) (by kernel_rfl) (by kernel_rfl) (fun _ _ _ h => h) (Or.inl ⟨by rfl, ?hy10⟩) hSw4 ?r10
            case hy10 =>
              intro w' hSw
              have hq := hSw.1
              clear hSw
              go_simp
              with_reducible rfl
            try simp only [Act.put, List.setIfInBounds_toArray, List.set_cons_zero, List.set_cons_succ]
            refine wpAnyH_take (i := 17) (oi := { dst := some 31, op := Go.Op.pick (Go.Operand.tmp 19) (Go.Operand.const (Go.Value.bool true)) (Go.Operand.tmp 30), type := 4, pos := "lists.go:75", after := #[{ on := 5, ground := Go.Ground.data }, { on := 16, ground := Go.Ground.data }], guard := none }) (v := ?v11) rfl (by kernel_rfl) (by kernel_rfl) (by kernel_rfl) (fun _ _ _ h => h) (Or.inl ⟨by rfl, ?hy11⟩) hSw4 ?r11
            case hy11 =>
              intro w' hSw
              have hq := hSw.1
              clear hSw
              go_simp
              with_reducible rfl
            try simp only [Act.put, List.setIfInBounds_toArray, List.set_cons_zero, List.set_cons_succ]
            refine wpAnyH_done (by kernel_rfl) ?_ _
            show R _ _
            rw [HR.out]
            simp only [Act.put, List.setIfInBounds_toArray, List.set_cons_zero, List.set_cons_succ]
            exact ⟨⟨_, _, _, _, _, _, _, _, _, _, _, _, _, _, _, _, _, rfl⟩, hSw4⟩
          case rest =>
            intro a' w' hra
            rw [HR.out] at hra
            clear HR
            obtain ⟨⟨u14, u15, u16, u17, u18, u19, u20, u21, u22, u23, u24, u25, u26, u27, u28, u29, u30, rfl⟩, hHE⟩ := hra
            subst hA
            try simp only [Act.put, List.setIfInBounds_toArray, List.set_cons_zero, List.set_cons_succ]
            have HF := Lib.hid (HBR.out.trans (hHE.2.2.mono HBR.out.size))
            have HFB := Lib.hid (HBB.out.trans (hHE.2.2.mono HBB.out.size))
            clear hHE
            go_wp2_with fail
            go_roundw
            case rel =>
              refine ⟨1, l[0], by omega, by go_num, HFB.out, ?_, by omega, fun h => by omega, fun j hj e => by
                have e0 : j = 0 := by omega
                subst e0
                rfl⟩
              rw [← HEQ.out]
              simp
              omega
            case measure => simp [intOf]; omega
        | succ j =>
          have hjl : j < l.length := by omega
          have cj := HPREV.out j hjl
          have hdj := HD1.out j hjl rfl
          have hk0 : (0 : Int) < ((j + 1 : Nat) : Int) := by omega
          have hw1 : IntKind.i64.wrap (((j + 1 : Nat) : Int) - 1) = (j : Int) := by rw [IntWalk.i64_in _ (by omega)]; omega
          have hw2 : IntKind.i64.wrap (j : Int) = (j : Int) := IntWalk.i64_in _ (by omega)
          have hj0 : (0 : Int) ≤ (j : Int) := by omega
          have hj1 : (j : Int) < l.length := by omega
          clear hd0
          go_wp2_with fail
          refine name_act ?_
          intro A hA
          obtain ⟨R, hR⟩ : ∃ R : Act → World → Prop, R = fun a' w' => (∃ u14 u15 u16 u17 u18 u19 u20 u21 u22 u23 u24 u25 u26 u27 u28 u29 u30, a' = ((((((((((((((((((A.put (some 14) u14).put (some 15) u15).put (some 16) u16).put (some 17) u17).put (some 18) u18).put (some 19) u19).put (some 20) u20).put (some 21) u21).put (some 22) u22).put (some 23) u23).put (some 24) u24).put (some 25) u25).put (some 26) u26).put (some 27) u27).put (some 28) u28).put (some 29) u29).put (some 30) u30).put (some 31) (.bool (decide (l[j + 1] ≤ l[j]))))) ∧ Held wr w' := ⟨_, rfl⟩
          have HR := Lib.hid hR
          clear hR
          refine wp_between R ?first ?rest
          case first =>
            subst hA
            refine wp_region_held_drew (S := fun w' => Held wr w') (by kernel_rfl) (held_start wr) (fun _ => ?_)
            refine wpAnyH_take (i := 0) (oi := { dst := some 14, op := Go.Op.move (Go.Operand.tmp 6), type := 3, pos := "lists.go:75", after := #[], guard := none }) (v := ?v12) rfl (by kernel_rfl) (by kernel_rfl) (by kernel_rfl) (fun _ _ _ h => h) (Or.inl ⟨by rfl, ?hy12⟩) (held_start wr) ?r12
            case hy12 =>
              intro w' hSw
              have hq := hSw.1
              clear hSw
              go_simp
              with_reducible rfl
            try simp only [Act.put, List.setIfInBounds_toArray, List.set_cons_zero, List.set_cons_succ]
            refine wpAnyH_take (i := 2) (oi := { dst := some 16, op := Go.Op.load 51 (Go.Operand.tmp 3), type := 51, pos := "lists.go:75", after := #[], guard := none }) (v := ?v13) rfl (by kernel_rfl) (by kernel_rfl) (by kernel_rfl) (fun _ _ _ h => h) (Or.inl ⟨by rfl, ?hy13⟩) (held_start wr) ?r13
            case hy13 =>
              intro w' hSw
              have hq := hSw.1
              clear hSw
              go_simp
              with_reducible rfl
            try simp only [Act.put, List.setIfInBounds_toArray, List.set_cons_zero, List.set_cons_succ]
            refine wpAnyH_ready (rs := [1]) (by kernel_rfl) (by simp) ?_
            refine AllReadyH.cons rfl (fun K hK => ?_) AllReadyH.nil
            go_simp
            refine (just_any _ _).mono ?_
            rintro e w14 ⟨rfl, hBw14⟩
            have hSw14 := held_step hBw14 (held_start wr)
            refine hK.out _ _ hSw14 (fun _ => ?_)
            clear hK K
            try simp only [Act.put, List.setIfInBounds_toArray, List.set_cons_zero, List.set_cons_succ]
            refine wpAnyH_ready (rs := [3]) (by kernel_rfl) (by simp) ?_
            refine AllReadyH.cons rfl (fun K hK => ?_) AllReadyH.nil
            go_simp
            refine (HIN.out _ hSw14).mono ?_
            rintro e w15 ⟨rfl, hBw15⟩
            have hSw15 := held_step hBw15 hSw14
            refine hK.out _ _ hSw15 (fun _ => ?_)
            clear hK K
            try simp only [Act.put, List.setIfInBounds_toArray, List.set_cons_zero, List.set_cons_succ]
            refine wpAnyH_take (i := 4) (oi := { dst := some 18, op := Go.Op.unOp Go.UnOp.not 4 (Go.Operand.tmp 17), type := 4, pos := "lists.go:75", after := #[{ on := 3, ground := Go.Ground.data }], guard := none }) (v := ?v16) rfl (by kernel_rfl) (by kernel_rfl) (by kernel_rfl) (fun _ _ _ h => h) (Or.inl ⟨by rfl, ?hy16⟩) hSw15 ?r16
            case hy16 =>
              intro w' hSw
              have hq := hSw.1
              clear hSw
              go_simp
              with_reducible rfl
            try simp only [Act.put, List.setIfInBounds_toArray, List.set_cons_zero, List.set_cons_succ]
            refine wpAnyH_take (i := 5) (oi := { dst := some 19, op := Go.Op.move (Go.Operand.tmp 18), type := 4, pos := "lists.go:75", after := #[{ on := 4, ground := Go.Ground.data }, { on := 3, ground := Go.Ground.chain }], guard := none }) (v := ?v17) rfl (by kernel_rfl) (by kernel_rfl) (by kernel_rfl) (fun _ _ _ h => h) (Or.inl ⟨by rfl, ?hy17⟩) hSw15 ?r17
            case hy17 =>
              intro w' hSw
              have hq := hSw.1
              clear hSw
              go_simp
              with_reducible rfl
            try simp only [Act.put, List.setIfInBounds_toArray, List.set_cons_zero, List.set_cons_succ]
            refine wpAnyH_take (i := 6) (oi := { dst := some 20, op := Go.Op.move (Go.Operand.tmp 5), type := 3, pos := "lists.go:75", after := #[{ on := 5, ground := Go.Ground.guard }], guard := some (5, false) }) (v := ?v18) rfl (by kernel_rfl) (by kernel_rfl) (by kernel_rfl) (fun _ _ _ h => h) (Or.inl ⟨by rfl, ?hy18⟩) hSw15 ?r18
            case hy18 =>
              intro w' hSw
              have hq := hSw.1
              clear hSw
              go_simp
              with_reducible rfl
            try simp only [Act.put, List.setIfInBounds_toArray, List.set_cons_zero, List.set_cons_succ]
            refine wpAnyH_take (i := 7) (oi := { dst := some 21, op := Go.Op.binOp Go.BinOp.gtr 3 (Go.Operand.tmp 20) (Go.Operand.const (Go.Value.int Go.IntKind.i64 0)) 3, type := 4, pos := "lists.go:75", after := #[{ on := 6, ground := Go.Ground.data }, { on := 5, ground := Go.Ground.guard }], guard := some (5, false) }) (v := ?v19) rfl (by kernel_rfl) (by kernel_rfl) (by kernel_rfl) (fun _ _ _ h => h) (Or.inl ⟨by rfl, ?hy19⟩) hSw15 ?r19
            case hy19 =>
              intro w' hSw
              have hq := hSw.1
              clear hSw
              go_simp
              with_reducible rfl
            try simp only [Act.put, List.setIfInBounds_toArray, List.set_cons_zero, List.set_cons_succ]
            refine wpAnyH_take (i := 8) (oi := { dst := some 22, op := Go.Op.move (Go.Operand.tmp 21), type := 4, pos := "lists.go:75", after := #[{ on := 7, ground := Go.Ground.data }, { on := 5, ground := Go.Ground.chain }, { on := 5, ground := Go.Ground.guard }], guard := some (5, false) }) (v := ?v20) rfl (by kernel_rfl) (by kernel_rfl) (by kernel_rfl) (fun _ _ _ h => h) (Or.inl ⟨by rfl, ?hy20⟩) hSw15 ?r20
            case hy20 =>
              intro w' hSw
              have hq := hSw.1
              clear hSw
              go_simp
              with_reducible rfl
            try simp only [Act.put, List.setIfInBounds_toArray, List.set_cons_zero, List.set_cons_succ]
            refine wpAnyH_take (i := 9) (oi := { dst := some 23, op := Go.Op.move (Go.Operand.tmp 6), type := 3, pos := "lists.go:75", after := #[{ on := 8, ground := Go.Ground.guard }], guard := some (8, true) }) (v := ?v21) rfl (by kernel_rfl) (by kernel_rfl) (by kernel_rfl) (fun _ _ _ h => h) (Or.inl ⟨by rfl, ?hy21⟩) hSw15 ?r21
            case hy21 =>
              intro w' hSw
              have hq := hSw.1
              clear hSw
              go_simp
              with_reducible rfl
            try simp only [Act.put, List.setIfInBounds_toArray, List.set_cons_zero, List.set_cons_succ]
            refine wpAnyH_take (i := 10) (oi := { dst := some 24, op := Go.Op.move (Go.Operand.tmp 0), type := 23, pos := "lists.go:75", after := #[{ on := 8, ground := Go.Ground.guard }], guard := some (8, true) }) (v := ?v22) rfl (by kernel_rfl) (by kernel_rfl) (by kernel_rfl) (fun _ _ _ h => h) (Or.inl ⟨by rfl, ?hy22⟩) hSw15 ?r22
            case hy22 =>
              intro w' hSw
              have hq := hSw.1
              clear hSw
              go_simp
              with_reducible rfl
            try simp only [Act.put, List.setIfInBounds_toArray, List.set_cons_zero, List.set_cons_succ]
            refine wpAnyH_take (i := 11) (oi := { dst := some 25, op := Go.Op.move (Go.Operand.tmp 5), type := 3, pos := "lists.go:75", after := #[{ on := 8, ground := Go.Ground.guard }], guard := some (8, true) }) (v := ?v23) rfl (by kernel_rfl) (by kernel_rfl) (by kernel_rfl) (fun _ _ _ h => h) (Or.inl ⟨by rfl, ?hy23⟩) hSw15 ?r23
            case hy23 =>
              intro w' hSw
              have hq := hSw.1
              clear hSw
              go_simp
              with_reducible rfl
            try simp only [Act.put, List.setIfInBounds_toArray, List.set_cons_zero, List.set_cons_succ]
            refine wpAnyH_take (i := 12) (oi := { dst := some 26, op := Go.Op.binOp Go.BinOp.sub 3 (Go.Operand.tmp 25) (Go.Operand.const (Go.Value.int Go.IntKind.i64 1)) 3, type := 3, pos := "lists.go:75", after := #[{ on := 11, ground := Go.Ground.data }, { on := 8, ground := Go.Ground.guard }], guard := some (8, true) }) (v := ?v24) rfl (by kernel_rfl) (by kernel_rfl) (by kernel_rfl) (fun _ _ _ h => h) (Or.inl ⟨by rfl, ?hy24⟩) hSw15 ?r24
            case hy24 =>
              intro w' hSw
              have hq := hSw.1
              clear hSw
              go_simp
              with_reducible rfl
            try simp only [Act.put, List.setIfInBounds_toArray, List.set_cons_zero, List.set_cons_succ]
            refine wpAnyH_take (i := 13) (oi := { dst := some 27, op := Go.Op.indexAddr 23 (Go.Operand.tmp 24) (Go.Operand.tmp 26), type := 0, pos := "lists.go:75", after := #[{ on := 10, ground := Go.Ground.data }, { on := 12, ground := Go.Ground.data }, { on := 8, ground := Go.Ground.guard }], guard := some (8, true) }) (v := ?v25) rfl (by kernel_rfl) (by kernel_rfl) (by kernel_rfl) (fun _ _ _ h => h) (Or.inl ⟨by rfl, ?hy25⟩) hSw15 ?r25
            case hy25 =>
              intro w' hSw
              have hq := hSw.1
              clear hSw
              go_simp
              with_reducible rfl
            try simp only [Act.put, List.setIfInBounds_toArray, List.set_cons_zero, List.set_cons_succ]
            refine wpAnyH_take (i := 14) (oi := { dst := some 28, op := Go.Op.load 3 (Go.Operand.tmp 27), type := 3, pos := "lists.go:75", after := #[{ on := 13, ground := Go.Ground.data }, { on := 8, ground := Go.Ground.guard }], guard := some (8, true) }) (v := ?v26) rfl (by kernel_rfl) (by kernel_rfl) (by kernel_rfl) (fun _ _ _ h => h) (Or.inl ⟨by rfl, ?hy26⟩) hSw15 ?r26
            case hy26 =>
              intro w' hSw
              have hq := hSw.1
              clear hSw
              go_simp
              with_reducible rfl
            try simp only [Act.put, List.setIfInBounds_toArray, List.set_cons_zero, List.set_cons_succ]
            refine wpAnyH_take (i := 15) (oi := { dst := some 29, op := Go.Op.binOp Go.BinOp.leq 3 (Go.Operand.tmp 23) (Go.Operand.tmp 28) 3, type := 4, pos := "lists.go:75", after := #[{ on := 9, ground := Go.Ground.data }, { on := 14, ground := Go.Ground.data }, { on := 8, ground := Go.Ground.guard }], guard := some (8, true) }) (v := ?v27) rfl (by kernel_rfl) (by kernel_rfl) (by kernel_rfl) (fun _ _ _ h => h) (Or.inl ⟨by rfl, ?hy27⟩) hSw15 ?r27
            case hy27 =>
              intro w' hSw
              have hq := hSw.1
              clear hSw
              go_simp
              with_reducible rfl
            try simp only [Act.put, List.setIfInBounds_toArray, List.set_cons_zero, List.set_cons_succ]
            refine wpAnyH_take (i := 16) (oi := { dst := some 30, op := Go.Op.pick (Go.Operand.tmp 22) (Go.Operand.tmp 29) (Go.Operand.const (Go.Value.bool false)), type := 4, pos := "lists.go:75", after := #[{ on := 8, ground := Go.Ground.data }, { on := 15, ground := Go.Ground.data }, { on := 5, ground := Go.Ground.guard }], guard := some (5, false) }) (v := ?v28) rfl (by kernel_rfl) (by kernel_rfl) (by kernel_rfl) (fun _ _ _ h => h) (Or.inl ⟨by rfl, ?hy28⟩) hSw15 ?r28
            case hy28 =>
              intro w' hSw
              have hq := hSw.1
              clear hSw
              go_simp
              with_reducible rfl
            try simp only [Act.put, List.setIfInBounds_toArray, List.set_cons_zero, List.set_cons_succ]
            refine wpAnyH_take (i := 17) (oi := { dst := some 31, op := Go.Op.pick (Go.Operand.tmp 19) (Go.Operand.const (Go.Value.bool true)) (Go.Operand.tmp 30), type := 4, pos := "lists.go:75", after := #[{ on := 5, ground := Go.Ground.data }, { on := 16, ground := Go.Ground.data }], guard := none }) (v := ?v29) rfl (by kernel_rfl) (by kernel_rfl) (by kernel_rfl) (fun _ _ _ h => h) (Or.inl ⟨by rfl, ?hy29⟩) hSw15 ?r29
            case hy29 =>
              intro w' hSw
              have hq := hSw.1
              clear hSw
              go_simp
              with_reducible rfl
            try simp only [Act.put, List.setIfInBounds_toArray, List.set_cons_zero, List.set_cons_succ]
            refine wpAnyH_done (by kernel_rfl) ?_ _
            show R _ _
            rw [HR.out]
            simp only [Act.put, List.setIfInBounds_toArray, List.set_cons_zero, List.set_cons_succ]
            exact ⟨⟨_, _, _, _, _, _, _, _, _, _, _, _, _, _, _, _, _, rfl⟩, hSw15⟩
          case rest =>
            intro a' w' hra
            rw [HR.out] at hra
            clear HR
            obtain ⟨⟨u14, u15, u16, u17, u18, u19, u20, u21, u22, u23, u24, u25, u26, u27, u28, u29, u30, rfl⟩, hHE⟩ := hra
            subst hA
            try simp only [Act.put, List.setIfInBounds_toArray, List.set_cons_zero, List.set_cons_succ]
            have HF := Lib.hid (HBR.out.trans (hHE.2.2.mono HBR.out.size))
            have HFB := Lib.hid (HBB.out.trans (hHE.2.2.mono HBB.out.size))
            clear hHE
            by_cases hle : l[j + 1] ≤ l[j]
            · rw [decide_eq_true hle]
              clear hk0 hw1 hw2 hj0 hj1 cj
              go_wp2_with fail
              go_ret
              exact ⟨ret_b (by rw [← HEQ.out, hdj]; simp [hle]), HF.out⟩
            · rw [decide_eq_false hle]
              clear hk0 hw1 hw2 hj0 hj1 cj
              go_wp2_with fail
              go_roundw
              case rel =>
                refine ⟨j + 1 + 1, l[j + 1], by omega, by go_num, HFB.out, ?_, by omega, fun h => by omega, fun q hq e => by
                  have e0 : q = j + 1 := by omega
                  subst e0
                  rfl⟩
                rw [← HEQ.out, hdj]
                simp
                omega
              case measure => simp [intOf]; omega
      · have hinD : ¬ (lo ≤ l[k] ∧ l[k] ≤ hi) := hin
        clear hin
        have hIn : ∀ W', Held wr W' → Calls Tryz.prog 174 #[vSp ⟨l[k], l[k]⟩, vSp ⟨lo, hi⟩] W' fun e w' => e = .returned (.bool false) ∧ Below W'.heap.size W' w' := fun W' _ => by
          have := inside_any ⟨l[k], l[k]⟩ ⟨lo, hi⟩ W'
          have hf : (decide (lo ≤ l[k]) && decide (l[k] ≤ hi)) = false := by simp; omega
          rw [hf] at this
          exact this
        have HIN := Lib.hid hIn
        clear hIn
        go_wp2_with fail
        refine name_act ?_
        intro A hA
        obtain ⟨R, hR⟩ : ∃ R : Act → World → Prop, R = fun a' w' => (∃ u14 u15 u16 u17 u18 u19 u20 u21 u22 u23 u24 u25 u26 u27 u28 u29 u30, a' = ((((((((((((((((((A.put (some 14) u14).put (some 15) u15).put (some 16) u16).put (some 17) u17).put (some 18) u18).put (some 19) u19).put (some 20) u20).put (some 21) u21).put (some 22) u22).put (some 23) u23).put (some 24) u24).put (some 25) u25).put (some 26) u26).put (some 27) u27).put (some 28) u28).put (some 29) u29).put (some 30) u30).put (some 31) (.bool true))) ∧ Held wr w' := ⟨_, rfl⟩
        have HR := Lib.hid hR
        clear hR
        refine wp_between R ?first ?rest
        case first =>
          subst hA
          refine wp_region_held_drew (S := fun w' => Held wr w') (by kernel_rfl) (held_start wr) (fun _ => ?_)
          refine wpAnyH_take (i := 0) (oi := { dst := some 14, op := Go.Op.move (Go.Operand.tmp 6), type := 3, pos := "lists.go:75", after := #[], guard := none }) (v := ?v30) rfl (by kernel_rfl) (by kernel_rfl) (by kernel_rfl) (fun _ _ _ h => h) (Or.inl ⟨by rfl, ?hy30⟩) (held_start wr) ?r30
          case hy30 =>
            intro w' hSw
            have hq := hSw.1
            clear hSw
            go_simp
            with_reducible rfl
          try simp only [Act.put, List.setIfInBounds_toArray, List.set_cons_zero, List.set_cons_succ]
          refine wpAnyH_take (i := 2) (oi := { dst := some 16, op := Go.Op.load 51 (Go.Operand.tmp 3), type := 51, pos := "lists.go:75", after := #[], guard := none }) (v := ?v31) rfl (by kernel_rfl) (by kernel_rfl) (by kernel_rfl) (fun _ _ _ h => h) (Or.inl ⟨by rfl, ?hy31⟩) (held_start wr) ?r31
          case hy31 =>
            intro w' hSw
            have hq := hSw.1
            clear hSw
            go_simp
            with_reducible rfl
          try simp only [Act.put, List.setIfInBounds_toArray, List.set_cons_zero, List.set_cons_succ]
          refine wpAnyH_ready (rs := [1]) (by kernel_rfl) (by simp) ?_
          refine AllReadyH.cons rfl (fun K hK => ?_) AllReadyH.nil
          go_simp
          refine (just_any _ _).mono ?_
          rintro e w32 ⟨rfl, hBw32⟩
          have hSw32 := held_step hBw32 (held_start wr)
          refine hK.out _ _ hSw32 (fun _ => ?_)
          clear hK K
          try simp only [Act.put, List.setIfInBounds_toArray, List.set_cons_zero, List.set_cons_succ]
          refine wpAnyH_ready (rs := [3]) (by kernel_rfl) (by simp) ?_
          refine AllReadyH.cons rfl (fun K hK => ?_) AllReadyH.nil
          go_simp
          refine (HIN.out _ hSw32).mono ?_
          rintro e w33 ⟨rfl, hBw33⟩
          have hSw33 := held_step hBw33 hSw32
          refine hK.out _ _ hSw33 (fun _ => ?_)
          clear hK K
          try simp only [Act.put, List.setIfInBounds_toArray, List.set_cons_zero, List.set_cons_succ]
          refine wpAnyH_take (i := 4) (oi := { dst := some 18, op := Go.Op.unOp Go.UnOp.not 4 (Go.Operand.tmp 17), type := 4, pos := "lists.go:75", after := #[{ on := 3, ground := Go.Ground.data }], guard := none }) (v := ?v34) rfl (by kernel_rfl) (by kernel_rfl) (by kernel_rfl) (fun _ _ _ h => h) (Or.inl ⟨by rfl, ?hy34⟩) hSw33 ?r34
          case hy34 =>
            intro w' hSw
            have hq := hSw.1
            clear hSw
            go_simp
            with_reducible rfl
          try simp only [Act.put, List.setIfInBounds_toArray, List.set_cons_zero, List.set_cons_succ]
          refine wpAnyH_take (i := 5) (oi := { dst := some 19, op := Go.Op.move (Go.Operand.tmp 18), type := 4, pos := "lists.go:75", after := #[{ on := 4, ground := Go.Ground.data }, { on := 3, ground := Go.Ground.chain }], guard := none }) (v := ?v35) rfl (by kernel_rfl) (by kernel_rfl) (by kernel_rfl) (fun _ _ _ h => h) (Or.inl ⟨by rfl, ?hy35⟩) hSw33 ?r35
          case hy35 =>
            intro w' hSw
            have hq := hSw.1
            clear hSw
            go_simp
            with_reducible rfl
          try simp only [Act.put, List.setIfInBounds_toArray, List.set_cons_zero, List.set_cons_succ]
          refine wpAnyH_take (i := 6) (oi := { dst := some 20, op := Go.Op.move (Go.Operand.tmp 5), type := 3, pos := "lists.go:75", after := #[{ on := 5, ground := Go.Ground.guard }], guard := some (5, false) }) (v := undef) rfl (by kernel_rfl) (by kernel_rfl) (by kernel_rfl) (fun _ _ _ h => h) (Or.inr ⟨by rfl, rfl⟩) hSw33 ?_
          try simp only [Act.put, List.setIfInBounds_toArray, List.set_cons_zero, List.set_cons_succ]
          refine wpAnyH_take (i := 7) (oi := { dst := some 21, op := Go.Op.binOp Go.BinOp.gtr 3 (Go.Operand.tmp 20) (Go.Operand.const (Go.Value.int Go.IntKind.i64 0)) 3, type := 4, pos := "lists.go:75", after := #[{ on := 6, ground := Go.Ground.data }, { on := 5, ground := Go.Ground.guard }], guard := some (5, false) }) (v := undef) rfl (by kernel_rfl) (by kernel_rfl) (by kernel_rfl) (fun _ _ _ h => h) (Or.inr ⟨by rfl, rfl⟩) hSw33 ?_
          try simp only [Act.put, List.setIfInBounds_toArray, List.set_cons_zero, List.set_cons_succ]
          refine wpAnyH_take (i := 8) (oi := { dst := some 22, op := Go.Op.move (Go.Operand.tmp 21), type := 4, pos := "lists.go:75", after := #[{ on := 7, ground := Go.Ground.data }, { on := 5, ground := Go.Ground.chain }, { on := 5, ground := Go.Ground.guard }], guard := some (5, false) }) (v := undef) rfl (by kernel_rfl) (by kernel_rfl) (by kernel_rfl) (fun _ _ _ h => h) (Or.inr ⟨by rfl, rfl⟩) hSw33 ?_
          try simp only [Act.put, List.setIfInBounds_toArray, List.set_cons_zero, List.set_cons_succ]
          refine wpAnyH_take (i := 9) (oi := { dst := some 23, op := Go.Op.move (Go.Operand.tmp 6), type := 3, pos := "lists.go:75", after := #[{ on := 8, ground := Go.Ground.guard }], guard := some (8, true) }) (v := undef) rfl (by kernel_rfl) (by kernel_rfl) (by kernel_rfl) (fun _ _ _ h => h) (Or.inr ⟨by rfl, rfl⟩) hSw33 ?_
          try simp only [Act.put, List.setIfInBounds_toArray, List.set_cons_zero, List.set_cons_succ]
          refine wpAnyH_take (i := 10) (oi := { dst := some 24, op := Go.Op.move (Go.Operand.tmp 0), type := 23, pos := "lists.go:75", after := #[{ on := 8, ground := Go.Ground.guard }], guard := some (8, true) }) (v := undef) rfl (by kernel_rfl) (by kernel_rfl) (by kernel_rfl) (fun _ _ _ h => h) (Or.inr ⟨by rfl, rfl⟩) hSw33 ?_
          try simp only [Act.put, List.setIfInBounds_toArray, List.set_cons_zero, List.set_cons_succ]
          refine wpAnyH_take (i := 11) (oi := { dst := some 25, op := Go.Op.move (Go.Operand.tmp 5), type := 3, pos := "lists.go:75", after := #[{ on := 8, ground := Go.Ground.guard }], guard := some (8, true) }) (v := undef) rfl (by kernel_rfl) (by kernel_rfl) (by kernel_rfl) (fun _ _ _ h => h) (Or.inr ⟨by rfl, rfl⟩) hSw33 ?_
          try simp only [Act.put, List.setIfInBounds_toArray, List.set_cons_zero, List.set_cons_succ]
          refine wpAnyH_take (i := 12) (oi := { dst := some 26, op := Go.Op.binOp Go.BinOp.sub 3 (Go.Operand.tmp 25) (Go.Operand.const (Go.Value.int Go.IntKind.i64 1)) 3, type := 3, pos := "lists.go:75", after := #[{ on := 11, ground := Go.Ground.data }, { on := 8, ground := Go.Ground.guard }], guard := some (8, true) }) (v := undef) rfl (by kernel_rfl) (by kernel_rfl) (by kernel_rfl) (fun _ _ _ h => h) (Or.inr ⟨by rfl, rfl⟩) hSw33 ?_
          try simp only [Act.put, List.setIfInBounds_toArray, List.set_cons_zero, List.set_cons_succ]
          refine wpAnyH_take (i := 13) (oi := { dst := some 27, op := Go.Op.indexAddr 23 (Go.Operand.tmp 24) (Go.Operand.tmp 26), type := 0, pos := "lists.go:75", after := #[{ on := 10, ground := Go.Ground.data }, { on := 12, ground := Go.Ground.data }, { on := 8, ground := Go.Ground.guard }], guard := some (8, true) }) (v := undef) rfl (by kernel_rfl) (by kernel_rfl) (by kernel_rfl) (fun _ _ _ h => h) (Or.inr ⟨by rfl, rfl⟩) hSw33 ?_
          try simp only [Act.put, List.setIfInBounds_toArray, List.set_cons_zero, List.set_cons_succ]
          refine wpAnyH_take (i := 14) (oi := { dst := some 28, op := Go.Op.load 3 (Go.Operand.tmp 27), type := 3, pos := "lists.go:75", after := #[{ on := 13, ground := Go.Ground.data }, { on := 8, ground := Go.Ground.guard }], guard := some (8, true) }) (v := undef) rfl (by kernel_rfl) (by kernel_rfl) (by kernel_rfl) (fun _ _ _ h => h) (Or.inr ⟨by rfl, rfl⟩) hSw33 ?_
          try simp only [Act.put, List.setIfInBounds_toArray, List.set_cons_zero, List.set_cons_succ]
          refine wpAnyH_take (i := 15) (oi := { dst := some 29, op := Go.Op.binOp Go.BinOp.leq 3 (Go.Operand.tmp 23) (Go.Operand.tmp 28) 3, type := 4, pos := "lists.go:75", after := #[{ on := 9, ground := Go.Ground.data }, { on := 14, ground := Go.Ground.data }, { on := 8, ground := Go.Ground.guard }], guard := some (8, true) }) (v := undef) rfl (by kernel_rfl) (by kernel_rfl) (by kernel_rfl) (fun _ _ _ h => h) (Or.inr ⟨by rfl, rfl⟩) hSw33 ?_
          try simp only [Act.put, List.setIfInBounds_toArray, List.set_cons_zero, List.set_cons_succ]
          refine wpAnyH_take (i := 16) (oi := { dst := some 30, op := Go.Op.pick (Go.Operand.tmp 22) (Go.Operand.tmp 29) (Go.Operand.const (Go.Value.bool false)), type := 4, pos := "lists.go:75", after := #[{ on := 8, ground := Go.Ground.data }, { on := 15, ground := Go.Ground.data }, { on := 5, ground := Go.Ground.guard }], guard := some (5, false) }) (v := undef) rfl (by kernel_rfl) (by kernel_rfl) (by kernel_rfl) (fun _ _ _ h => h) (Or.inr ⟨by rfl, rfl⟩) hSw33 ?_
          try simp only [Act.put, List.setIfInBounds_toArray, List.set_cons_zero, List.set_cons_succ]
          refine wpAnyH_take (i := 17) (oi := { dst := some 31, op := Go.Op.pick (Go.Operand.tmp 19) (Go.Operand.const (Go.Value.bool true)) (Go.Operand.tmp 30), type := 4, pos := "lists.go:75", after := #[{ on := 5, ground := Go.Ground.data }, { on := 16, ground := Go.Ground.data }], guard := none }) (v := ?v36) rfl (by kernel_rfl) (by kernel_rfl) (by kernel_rfl) (fun _ _ _ h => h) (Or.inl ⟨by rfl, ?hy36⟩) hSw33 ?r36
          case hy36 =>
            intro w' hSw
            have hq := hSw.1
            clear hSw
            go_simp
            with_reducible rfl
          try simp only [Act.put, List.setIfInBounds_toArray, List.set_cons_zero, List.set_cons_succ]
          refine wpAnyH_done (by kernel_rfl) ?_ _
          show R _ _
          rw [HR.out]
          simp only [Act.put, List.setIfInBounds_toArray, List.set_cons_zero, List.set_cons_succ]
          exact ⟨⟨_, _, _, _, _, _, _, _, _, _, _, _, _, _, _, _, _, rfl⟩, hSw33⟩
        case rest =>
          intro a' w' hra
          rw [HR.out] at hra
          clear HR
          obtain ⟨⟨u14, u15, u16, u17, u18, u19, u20, u21, u22, u23, u24, u25, u26, u27, u28, u29, u30, rfl⟩, hHE⟩ := hra
          subst hA
          try simp only [Act.put, List.setIfInBounds_toArray, List.set_cons_zero, List.set_cons_succ]
          have HF := Lib.hid (HBR.out.trans (hHE.2.2.mono HBR.out.size))
          have HFB := Lib.hid (HBB.out.trans (hHE.2.2.mono HBB.out.size))
          clear hHE
          go_wp2_with fail
          go_ret
          exact ⟨ret_b (by rw [← HEQ.out]; simp; omega), HF.out⟩
    · obtain rfl : k = l.length := by omega
      rw [List.drop_length] at heq
      have HEQ := Lib.hid heq
      have HBR := Lib.hid hbr
      clear heq hbr hB hd1
      go_wp2_with fail
      go_ret
      exact ⟨ret_b (by rw [← HEQ.out]; rfl), HBR.out⟩

end Go.Proofs.YtkfahochpnggbaaGreat
