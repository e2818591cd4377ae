/- Texts on the program that the proof leans on, part 11. -/
import Derived.Test.YtkfahochpnggbaaGreatYaj
set_option linter.unusedVariables false
set_option linter.unusedSimpArgs false

/- Contracts of chain's ends of what is known: low, high; slices.Min, slices.Max; wearOf. -/
namespace Go.Proofs.YtkfahochpnggbaaGreat
open Go.RowKit

set_option maxHeartbeats 400000 in
theorem lowF_any (s : Ch.Sp) (w : World) :
    Calls Tryz.prog 148 #[vSp s] w fun e w' => e = .returned (I s.lo) ∧ Below w.heap.size w w' := by
  go_enter Tryz.func148, Tryz.ntmps148
  go_wp2_with fail
  go_ret
  exact ⟨rfl, (Below.refl _ _).alloc (Nat.le_refl _) _⟩
set_option maxHeartbeats 400000 in
theorem highF_any (s : Ch.Sp) (w : World) :
    Calls Tryz.prog 150 #[vSp s] w fun e w' => e = .returned (I s.hi) ∧ Below w.heap.size w w' := by
  go_enter Tryz.func150, Tryz.ntmps150
  go_wp2_with fail
  go_ret
  exact ⟨rfl, (Below.refl _ _).alloc (Nat.le_refl _) _⟩
abbrev vLow : Value := .agg #[.func (.func 148) #[] #[], .func (.func 149) #[] #[]]
abbrev vHigh : Value := .agg #[.func (.func 150) #[] #[], .func (.func 151) #[] #[]]
set_option maxHeartbeats 400000 in
theorem low_any (w : World) :
    Calls Tryz.prog 116 #[] w fun e w' => e = .returned vLow ∧ Below w.heap.size w w' := by
  go_enter Tryz.func116, Tryz.ntmps116
  go_wp2_with fail
  refine bodyPost_ret (v := vLow) (by simp [results, Tryz.results116, go_sem]) rfl ⟨rfl, ?_⟩
  exact (Below.refl _ _).alloc (Nat.le_refl _) _
set_option maxHeartbeats 400000 in
theorem high_any (w : World) :
    Calls Tryz.prog 117 #[] w fun e w' => e = .returned vHigh ∧ Below w.heap.size w w' := by
  go_enter Tryz.func117, Tryz.ntmps117
  go_wp2_with fail
  refine bodyPost_ret (v := vHigh) (by simp [results, Tryz.results117, go_sem]) rfl ⟨rfl, ?_⟩
  exact (Below.refl _ _).alloc (Nat.le_refl _) _

namespace Ch
def minL : List Int → Int
  | [] => 0
  | x :: l => l.foldl min x
def maxL : List Int → Int
  | [] => 0
  | x :: l => l.foldl max x
theorem minL_snoc (l : List Int) (x : Int) (h : l ≠ []) : minL (l ++ [x]) = min (minL l) x := by
  cases l with
  | nil => exact absurd rfl h
  | cons y l => simp [minL]
theorem maxL_snoc (l : List Int) (x : Int) (h : l ≠ []) : maxL (l ++ [x]) = max (maxL l) x := by
  cases l with
  | nil => exact absurd rfl h
  | cons y l => simp [maxL]
end Ch

set_option maxHeartbeats 1000000 in
theorem min_any (l : List Int) (hl : l ≠ []) (v : Value) (w : World) (h : Sl w w.heap.size 1 v l.length (l.map I)) :
    Calls Tryz.prog 149 #[v] w fun e w' => e = .returned (I (Ch.minL l)) ∧ Below w.heap.size w w' := by
  have h0 : 0 < l.length := List.length_pos_iff.2 hl
  have hm := h.le
  unfold maxLen at hm
  obtain ⟨b, off, c, rfl, hb, c0⟩ := h.int h0
  have hn : ¬ ((l.length : Int) < 1) := by omega
  have h1 : Ch.minL (l.take 1) = l[0] := by
    cases l with
    | nil => exact absurd rfl hl
    | cons x l => simp [Ch.minL]
  simp only [Nat.add_zero] at c0
  go_enter Tryz.func149, Tryz.ntmps149
  go_wp2_with fail
  go_loop [3, 4] (fun m i => ∃ k : Nat, 1 ≤ k ∧ k ≤ l.length ∧ i = I k ∧ m = I (Ch.minL (l.take k))) (fun _ i => l.length - (intOf i).toNat)
  case atStart => exact ⟨1, Nat.le_refl _, h0, rfl, by rw [h1]⟩
  case round =>
    obtain ⟨k, hk1, hk, rfl, rfl⟩ := hrel
    by_cases hlt : k < l.length
    · obtain ⟨b', off', c', hv, hb', ck⟩ := h.int hlt
      injection hv with hA _ hc
      injection hA with hA
      injection hA with hA1 hA2
      subst hA1 hA2 hc
      have hs := Ch.minL_snoc (l.take k) l[k] (fun e => by rw [List.take_eq_nil_iff] at e; rcases e with e | e; omega; exact hl e)
      rw [← List.take_succ_eq_append_getElem hlt] at hs
      have HS := Lib.hid hs
      clear hs h1
      go_wp2_with fail
      go_round
      case rel => exact ⟨k + 1, by omega, by omega, by go_num, by rw [HS.out]; congr 1; omega⟩
      case measure => simp [intOf]; omega
    · obtain rfl : k = l.length := by omega
      rw [List.take_length]
      go_wp2_with fail
      go_ret
      exact ⟨rfl, Below.refl _ _⟩

set_option maxHeartbeats 1000000 in
theorem max_any (l : List Int) (hl : l ≠ []) (v : Value) (w : World) (h : Sl w w.heap.size 1 v l.length (l.map I)) :
    Calls Tryz.prog 151 #[v] w fun e w' => e = .returned (I (Ch.maxL l)) ∧ Below w.heap.size w w' := by
  have h0 : 0 < l.length := List.length_pos_iff.2 hl
  have hm := h.le
  unfold maxLen at hm
  obtain ⟨b, off, c, rfl, hb, c0⟩ := h.int h0
  have hn : ¬ ((l.length : Int) < 1) := by omega
  have h1 : Ch.maxL (l.take 1) = l[0] := by
    cases l with
    | nil => exact absurd rfl hl
    | cons x l => simp [Ch.maxL]
  simp only [Nat.add_zero] at c0
  go_enter Tryz.func151, Tryz.ntmps151
  go_wp2_with fail
  go_loop [3, 4] (fun m i => ∃ k : Nat, 1 ≤ k ∧ k ≤ l.length ∧ i = I k ∧ m = I (Ch.maxL (l.take k))) (fun _ i => l.length - (intOf i).toNat)
  case atStart => exact ⟨1, Nat.le_refl _, h0, rfl, by rw [h1]⟩
  case round =>
    obtain ⟨k, hk1, hk, rfl, rfl⟩ := hrel
    by_cases hlt : k < l.length
    · obtain ⟨b', off', c', hv, hb', ck⟩ := h.int hlt
      injection hv with hA _ hc
      injection hA with hA
      injection hA with hA1 hA2
      subst hA1 hA2 hc
      have hs := Ch.maxL_snoc (l.take k) l[k] (fun e => by rw [List.take_eq_nil_iff] at e; rcases e with e | e; omega; exact hl e)
      rw [← List.take_succ_eq_append_getElem hlt] at hs
      have HS := Lib.hid hs
      clear hs h1
      go_wp2_with fail
      go_round
      case rel => exact ⟨k + 1, by omega, by omega, by go_num, by rw [HS.out]; congr 1; omega⟩
      case measure => simp [intOf]; omega
    · obtain rfl : k = l.length := by omega
      rw [List.take_length]
      go_wp2_with fail
      go_ret
      exact ⟨rfl, Below.refl _ _⟩

set_option maxHeartbeats 400000 in
theorem wearOf_any (p : Int) (w : World) :
    Calls Tryz.prog 87 #[I p] w fun e w' => e = .returned (.func (.func 120) #[] #[.pointer (some ⟨w.heap.size, 0, none⟩)]) ∧ w' = w.alloc (.cells #[I p] 3) := by
  go_enter Tryz.func87, Tryz.ntmps87
  go_wp2_with fail
  go_ret
  exact ⟨rfl, rfl⟩

set_option maxHeartbeats 1000000 in
theorem wearOfF_any (p : Nat) (hp : p < 4) (t : Ch.Tr) (pb : Nat) (w : World) (h : w.cell? ⟨pb, 0, none⟩ = some (I p)) (hpb : pb < w.heap.size) :
    Calls Tryz.prog 120 #[vTr t, .pointer (some ⟨pb, 0, none⟩)] w fun e w' => e = .returned (vSp ⟨t.wear p, t.wear p⟩) ∧ Below w.heap.size w w' := by
  have hp4 : (p : Int) < 4 := by omega
  go_enter Tryz.func120, Tryz.ntmps120
  go_wp2_with fail
  have ht := tr_wear (W := (w.alloc (oTr t)).alloc (.cells #[I 0, I 0] 51)) (tb := w.heap.size) (t := t) ((Below.heap_alloc _ _ _ (by simp)).trans (heap_at _ _ rfl)) hp
  go_region
  all_goals
    go_wp2_with fail
    refine bodyPost_ret (v := vSp ⟨t.wear p, t.wear p⟩) (by simp [results, Tryz.results120, go_sem]) rfl ⟨rfl, ?_⟩
    exact (((Below.refl _ _).alloc (Nat.le_refl _) _).alloc (by simp) _).drew

end Go.Proofs.YtkfahochpnggbaaGreat

/- Contract of chain's thickOn. -/
namespace Go.Proofs.YtkfahochpnggbaaGreat
open Go.RowKit

set_option maxHeartbeats 400000 in
theorem thickOn_any (S T V M R : Value) (rule days : Int) (n c : Nat) (A : Option Addr) (s d : Int) (w : World) (hS : S = .slice A n c) :
    Calls Tryz.prog 86 #[vLg S T V rule days M R, vSpot s d] w fun e w' => e = .returned (.func (.func 118) #[] #[.pointer (some ⟨w.heap.size + 1, 0, none⟩), .pointer (some ⟨w.heap.size, 0, none⟩)]) ∧ w' = (w.alloc (cLg S T V rule days M R)).alloc (.cells #[I s, I d] 106) := by
  subst hS
  go_enter Tryz.func86, Tryz.ntmps86
  go_wp2_with fail
  go_ret
  exact ⟨rfl, rfl⟩

/-- How thick a section is on a day, in a truth. -/
def Ch.thickOn (b : Ch.Bk) (s d : Nat) (t : Ch.Tr) : Ch.Sp := ⟨(t.first s).lo - Ch.lost b t.wear s d, (t.first s).hi - Ch.lost b t.wear s d⟩

set_option maxHeartbeats 1000000 in
theorem thickOnF_any (b : Ch.Bk) (S T V M R : Value) (rule : Int) (t : Ch.Tr) (hw : Ch.WearOk t.wear) (ht : ∀ s, -1000 ≤ (t.first s).lo ∧ (t.first s).hi ≤ 1000 ∧ (t.first s).lo ≤ 1000 ∧ -1000 ≤ (t.first s).hi) (s d : Nat) (sb lb : Nat) (w : World) (hM : RM w w.heap.size b M) (hn : b.secs.length ≤ 4) (hdays : b.days ≤ 30) (hg : Good b s d)
    (hsb : w.heap[sb]? = some (.cells #[I s, I d] 106 (0, 0))) (hlb : w.heap[lb]? = some (cLg S T V rule b.days M R)) :
    Calls Tryz.prog 118 #[vTr t, .pointer (some ⟨sb, 0, none⟩), .pointer (some ⟨lb, 0, none⟩)] w fun e w' => e = .returned (vSp (Ch.thickOn b s d t)) ∧ Below w.heap.size w w' := by
  have hl := Ch.lost_bd b t.wear hw s d
  have hd30 : d ≤ 30 := by have := hg.2; omega
  have hs4 : s < 4 := by have := hg.1; omega
  have hts := ht s
  have hsl := heap_lt hsb
  have hll := heap_lt hlb
  have hB : Below w.heap.size w ((w.alloc (oTr t)).alloc (.cells #[I 0, I 0] 51)) := ((Below.refl _ _).alloc (Nat.le_refl _) _).alloc (by simp) _
  go_enter Tryz.func118, Tryz.ntmps118
  go_wp2_with fail
  refine name_world ?_
  intro W hW
  replace hB : Below w.heap.size w W := by rw [hW]; exact hB
  have hrow : W.heap[w.heap.size]? = some (oTr t) := by rw [hW]; exact (Below.heap_alloc _ _ _ (by simp)).trans (heap_at _ _ rfl)
  have hres : W.heap[w.heap.size + 1]? = some (.cells #[I 0, I 0] 51 (0, 0)) := by rw [hW]; exact heap_at _ _ (by simp)
  have hz : W.heap.size = w.heap.size + 2 := by rw [hW]; simp
  have hlB := (hB.block lb hll).trans hlb
  have hsB := (hB.block sb hsl).trans hsb
  have a0 := cell_of_row W _ 0 _ _ _ hlB
  have a1 := cell_of_row W _ 1 _ _ _ hlB
  have a2 := cell_of_row W _ 2 _ _ _ hlB
  have a3 := cell_of_row W _ 3 _ _ _ hlB
  have a4 := cell_of_row W _ 4 _ _ _ hlB
  have a5 := cell_of_row W _ 5 _ _ _ hlB
  have a6 := cell_of_row W _ 6 _ _ _ hlB
  have c0 := cell_of_row W _ 0 _ _ _ hsB
  have c1 := cell_of_row W _ 1 _ _ _ hsB
  have p0 := tr_wear hrow (show 0 < 4 by omega)
  have p1 := tr_wear hrow (show 1 < 4 by omega)
  have p2 := tr_wear hrow (show 2 < 4 by omega)
  have p3 := tr_wear hrow (show 3 < 4 by omega)
  have q0 := tr_lo hrow hs4
  have q1 := tr_hi hrow hs4
  have z0 := cell_of_row W _ 0 _ _ _ hres
  have z1 := cell_of_row W _ 1 _ _ _ hres
  simp only [List.getElem?_toArray, List.getElem?_cons_zero, List.getElem?_cons_succ] at a0 a1 a2 a3 a4 a5 a6 c0 c1 z0 z1
  have f0 : W.frozen? ⟨w.heap.size + 1, 0, none⟩ = false := by simp [World.frozen?, hres]
  have f1 : W.frozen? ⟨w.heap.size + 1, 1, none⟩ = false := by simp [World.frozen?, hres]
  have hlt0 : w.heap.size < W.heap.size := by omega
  have hlt1 : w.heap.size + 1 < W.heap.size := by omega
  have hlt2 : lb < W.heap.size := by omega
  have hlt3 : sb < W.heap.size := by omega
  have hs4i : (s : Int) < 4 := by omega
  have hBz := hB.size
  have hMd : ∀ w', Held W w' → RM w' w'.heap.size b M := fun w' h => (hM.below (hB.trans (h.2.2.mono hBz)) (Nat.le_refl _)).more (Nat.le_trans hBz h.2.2.size)
  have HM := Lib.hid hMd
  clear hz hW hMd hrow hres hlB hsB hsb hlb hM ht
  go_region_held3 (fun w' => Held W w') (first | assumption | exact held_start _ | exact held_step (by assumption) (by assumption) | exact held_alloc (by assumption) _ | exact held_of (((Below.refl _ _).alloc (Nat.le_refl _) _).drew) | exact held_step (by assumption) (held_of (((Below.refl _ _).alloc (Nat.le_refl _) _).drew)) | exact held_of (((held_step (by assumption) (by assumption)).2.2.setCell (p := ⟨_, 0, none⟩) (Nat.le_refl _) _).setCell (p := ⟨_, 1, none⟩) (Nat.le_refl _) _) | exact held_of (((held_step (by assumption) (held_of (((Below.refl _ _).alloc (Nat.le_refl _) _).drew))).2.2.setCell (p := ⟨_, 0, none⟩) (Nat.le_refl _) _).setCell (p := ⟨_, 1, none⟩) (Nat.le_refl _) _) | exact held_alloc (held_step (by assumption) (by assumption)) _ | exact held_alloc (held_step (by assumption) (held_start _)) _ | go_keep)
    (first | (go_at_call 119; refine (lost_any b S T V M R rule t.wear hw s d _ (HM.out _ (by first | assumption | exact held_start _ | exact held_alloc (by assumption) _ | exact held_of (((Below.refl _ _).alloc (Nat.le_refl _) _).drew))) hn hdays hg).mono ?_; rintro e w1 ⟨rfl, hB1⟩; try (have n0 : w1.cell? ⟨W.heap.size, 0, none⟩ = some (I 0) := (hB1.cell (p := ⟨W.heap.size, 0, none⟩) (by show W.heap.size < (W.alloc _).heap.size; simp)).trans (by simp [go_sem]); have n1 : w1.cell? ⟨W.heap.size, 1, none⟩ = some (I 0) := (hB1.cell (p := ⟨W.heap.size, 1, none⟩) (by show W.heap.size < (W.alloc _).heap.size; simp)).trans (by simp [go_sem]); have n2 : w1.frozen? ⟨W.heap.size, 0, none⟩ = false := (hB1.frozen (p := ⟨W.heap.size, 0, none⟩) (by show W.heap.size < (W.alloc _).heap.size; simp)).trans (by simp [go_sem]); have n3 : w1.frozen? ⟨W.heap.size, 1, none⟩ = false := (hB1.frozen (p := ⟨W.heap.size, 1, none⟩) (by show W.heap.size < (W.alloc _).heap.size; simp)).trans (by simp [go_sem]))))
  · have hH : Held W w1 := held_step hB1 (held_start W)
    have zz0 := (hH.1 _ 0 hlt1).trans z0
    have zz1 := (hH.1 _ 1 hlt1).trans z1
    have ff0 := (hH.2.1 _ 0 hlt1).trans f0
    have ff1 := (hH.2.1 _ 1 hlt1).trans f1
    have hb1 : Below w.heap.size w w1 := hB.trans (hH.2.2.mono hBz)
    have hw1 : w.heap.size + 1 < w1.heap.size := Nat.lt_of_lt_of_le hlt1 hH.2.2.size
    have hne : ¬ W.heap.size = w.heap.size + 1 := by omega
    have hne' : ¬ w.heap.size + 1 = W.heap.size := by omega
    clear hH hB1 a0 a1 a2 a3 a4 a5 a6 c0 c1 p0 p1 p2 p3 q0 q1
    go_wp2_with fail
    refine bodyPost_ret (v := vSp (Ch.thickOn b s d t)) (by simp [results, Tryz.results118, go_sem, Ch.thickOn, zz0, zz1, hw1, hne, hne']) rfl ⟨rfl, ?_⟩
    exact ((hb1.setCell (p := ⟨w.heap.size + 1, 0, none⟩) (Nat.le_succ _) _).setCell (p := ⟨w.heap.size + 1, 1, none⟩) (Nat.le_succ _) _).alloc (by simpa using hb1.size) _
  · have hH : Held W w1 := held_step hB1 (held_of (((Below.refl _ _).alloc (Nat.le_refl _) _).drew))
    have zz0 := (hH.1 _ 0 hlt1).trans z0
    have zz1 := (hH.1 _ 1 hlt1).trans z1
    have ff0 := (hH.2.1 _ 0 hlt1).trans f0
    have ff1 := (hH.2.1 _ 1 hlt1).trans f1
    have hb1 : Below w.heap.size w w1 := hB.trans (hH.2.2.mono hBz)
    have hw1 : w.heap.size + 1 < w1.heap.size := Nat.lt_of_lt_of_le hlt1 hH.2.2.size
    have hne : ¬ W.heap.size = w.heap.size + 1 := by omega
    have hne' : ¬ w.heap.size + 1 = W.heap.size := by omega
    clear hH hB1 a0 a1 a2 a3 a4 a5 a6 c0 c1 p0 p1 p2 p3 q0 q1
    go_wp2_with fail
    refine bodyPost_ret (v := vSp (Ch.thickOn b s d t)) (by simp [results, Tryz.results118, go_sem, Ch.thickOn, zz0, zz1, hw1, hne, hne']) rfl ⟨rfl, ?_⟩
    exact (((hb1.setCell (p := ⟨W.heap.size, 0, none⟩) hBz _).setCell (p := ⟨W.heap.size, 1, none⟩) hBz _).setCell (p := ⟨w.heap.size + 1, 0, none⟩) (Nat.le_succ _) _).setCell (p := ⟨w.heap.size + 1, 1, none⟩) (Nat.le_succ _) _

end Go.Proofs.YtkfahochpnggbaaGreat
