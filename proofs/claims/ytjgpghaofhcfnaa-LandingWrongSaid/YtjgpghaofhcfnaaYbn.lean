/- Texts on the program that the proof leans on, part 40. -/
import Derived.Test.YtjgpghaofhcfnaaYbg
import Derived.Test.YtjgpghaofhcfnaaYbb
import Derived.BigQuiet
set_option linter.unusedVariables false
set_option linter.unusedSimpArgs false

/- Mathematics of LandingWrong: lists in their order; the fewest soundings that must be wrong. -/
namespace Go.Proofs.Ytjgpghaofhcfnaa.Ch
open Ld (someOf)

/-- Does a list come before another one? -/
def before : List Int → List Int → Bool
  | [], m => decide (0 < m.length)
  | _ :: _, [] => false
  | a :: l, b :: m => if a = b then before l m else decide (a < b)
theorem before_app (acc l m : List Int) : before (acc ++ l) (acc ++ m) = before l m := by
  induction acc with
  | nil => rfl
  | cons a acc ih => simp [before, ih]
theorem before_asymm : ∀ (l m : List Int), before l m = true → before m l = false
  | [], [], h => by simp [before] at h
  | [], _ :: _, _ => rfl
  | _ :: _, [], h => by simp [before] at h
  | a :: l, b :: m, h => by
    simp only [before] at h ⊢
    by_cases e : a = b
    · rw [if_pos e] at h
      rw [if_pos e.symm]
      exact before_asymm l m h
    · rw [if_neg e] at h
      rw [if_neg (fun e' => e e'.symm)]
      simp at h ⊢
      omega
theorem before_self (l : List Int) : before l l = false := by
  induction l with
  | nil => rfl
  | cons a l ih => simp [before, ih]
/-- Has a list fewer numbers than another one, or as many, and does it come before it? -/
def better (l m : List Int) : Bool := decide (l.length < m.length) || (decide (l.length = m.length) && before l m)

theorem mem_combL (size : Nat) (x : List Int) : ∀ (m f : Nat) (acc : List Int), acc.length < size →
    (x ∈ combL size m f acc ↔ ∃ y, x = acc ++ y ∧ x.length = size ∧ turnsOk ((f : Int) + m - 1) ((f : Int) - 1) y = true) := by
  intro m
  induction m with
  | zero =>
    intro f acc ha
    constructor
    · intro h; simp [combL] at h
    · rintro ⟨y, rfl, hl, ht⟩
      cases y with
      | nil => simp at hl; omega
      | cons a y =>
        simp [turnsOk] at ht
        omega
  | succ m ih =>
    intro f acc ha
    have e : ((f + 1 : Nat) : Int) + (m : Int) - 1 = (f : Int) + ((m + 1 : Nat) : Int) - 1 := by omega
    have e2 : ((f + 1 : Nat) : Int) - 1 = f := by omega
    rw [combL_succ, List.mem_append]
    constructor
    · rintro (h | h)
      · unfold comb at h
        split at h
        · rename_i hlen
          simp at h
          subst h
          refine ⟨[(f : Int)], rfl, by simpa using hlen, ?_⟩
          simp [turnsOk]
          omega
        · rename_i hlen
          obtain ⟨y, hx, hl, ht⟩ := (ih (f + 1) (acc ++ [(f : Int)]) (by simp at hlen ⊢; omega)).1 h
          rw [e, e2] at ht
          refine ⟨(f : Int) :: y, by rw [hx]; simp, hl, ?_⟩
          simp only [turnsOk, ht, Bool.and_true]
          simp
          omega
      · obtain ⟨y, hx, hl, ht⟩ := (ih (f + 1) acc ha).1 h
        rw [e, e2] at ht
        exact ⟨y, hx, hl, turnsOk_mono _ _ _ (by omega) _ ht⟩
    · rintro ⟨y, rfl, hl, ht⟩
      cases y with
      | nil => simp at hl; omega
      | cons a y =>
        simp only [turnsOk, Bool.and_eq_true] at ht
        have h1 := ht.1
        simp at h1
        by_cases haf : a = f
        · left
          subst haf
          unfold comb
          split
          · rename_i hlen
            simp at hl hlen
            have : y = [] := List.eq_nil_of_length_eq_zero (by omega)
            subst this
            simp
          · rename_i hlen
            refine (ih (f + 1) (acc ++ [(f : Int)]) (by simp at hlen hl ⊢; omega)).2 ⟨y, by simp, hl, ?_⟩
            rw [e, e2]
            exact ht.2
        · right
          refine (ih (f + 1) acc ha).2 ⟨a :: y, rfl, hl, ?_⟩
          rw [e, e2]
          simp only [turnsOk, ht.2, Bool.and_true]
          simp
          omega
theorem mem_listsOf {n k : Nat} {x : List Int} : x ∈ listsOf n k ↔ x.length = k ∧ climbs x n = true := by
  unfold listsOf comb
  cases k with
  | zero =>
    rw [if_pos (show ([] : List Int).length = 0 from rfl)]
    constructor
    · intro h; simp at h; subst h; exact ⟨rfl, rfl⟩
    · rintro ⟨h, -⟩; simp [List.eq_nil_of_length_eq_zero h]
  | succ k =>
    rw [if_neg (by simp), mem_combL (k + 1) x n 0 [] (by simp)]
    have e : ((0 : Nat) : Int) + (n : Int) - 1 = (n : Int) - 1 := by omega
    have e2 : ((0 : Nat) : Int) - 1 = -1 := by omega
    constructor
    · rintro ⟨y, rfl, h1, h2⟩
      rw [e, e2] at h2
      exact ⟨h1, h2⟩
    · rintro ⟨h1, h2⟩
      exact ⟨x, rfl, h1, by rw [e, e2]; exact h2⟩

theorem combL_sorted (size : Nat) : ∀ (m f : Nat) (acc : List Int), acc.length < size → (combL size m f acc).Pairwise fun a b => before a b = true := by
  intro m
  induction m with
  | zero => intro f acc _; simp [combL]
  | succ m ih =>
    intro f acc ha
    rw [combL_succ, List.pairwise_append]
    have hfirst : ∀ a ∈ comb size m (f + 1) (acc ++ [(f : Int)]), ∃ y, a = acc ++ (f : Int) :: y := by
      intro a h
      unfold comb at h
      split at h
      · simp at h; exact ⟨[], h⟩
      · rename_i hlen
        obtain ⟨y, hx, -⟩ := (mem_combL size a m (f + 1) (acc ++ [(f : Int)]) (by simp at hlen ⊢; omega)).1 h
        exact ⟨y, by rw [hx]; simp⟩
    refine ⟨?_, ih (f + 1) acc ha, ?_⟩
    · unfold comb
      split
      · exact List.pairwise_singleton _ _
      · rename_i hlen
        exact ih _ _ (by simp at hlen ⊢; omega)
    · intro a h1 b h2
      obtain ⟨y, rfl⟩ := hfirst a h1
      obtain ⟨z, rfl, hl, ht⟩ := (mem_combL size b m (f + 1) acc ha).1 h2
      rw [before_app]
      cases z with
      | nil => simp at hl; omega
      | cons g z =>
        simp only [turnsOk, Bool.and_eq_true] at ht
        have h3 := ht.1
        simp at h3
        simp only [before]
        rw [if_neg (by omega)]
        simp
        omega
theorem listsOf_sorted (n k : Nat) : (listsOf n k).Pairwise fun a b => before a b = true := by
  unfold listsOf comb
  split
  · exact List.pairwise_singleton _ _
  · rename_i h
    exact combL_sorted k n 0 [] (by simp at h ⊢; omega)
theorem find_first {α : Type} {R : α → α → Prop} {F : α → Bool} {x y : α} : ∀ {l : List α}, l.Pairwise R → l.find? F = some x → y ∈ l → F y = true → y = x ∨ R x y
  | [], _, h, _, _ => by simp at h
  | a :: l, hp, h, hy, hF => by
    rw [List.pairwise_cons] at hp
    rw [List.find?_cons] at h
    split at h
    · injection h with h
      subst h
      rcases List.mem_cons.1 hy with rfl | hy
      · exact .inl rfl
      · exact .inr (hp.1 y hy)
    · rename_i hFa
      rcases List.mem_cons.1 hy with rfl | hy
      · rw [hF] at hFa; cases hFa
      · exact find_first hp.2 h hy hF
theorem fewest_none {n : Nat} {F : List Int → Bool} : ∀ {K : Nat}, fewest n F K = none → ∀ j, j < K → (listsOf n j).find? F = none
  | 0, _, j, hj => by omega
  | K + 1, h, j, hj => by
    simp only [fewest] at h
    split at h
    · cases h
    · rename_i h2
      by_cases e : j = K
      · subst e; exact h
      · exact fewest_none h2 j (by omega)
theorem fewest_spec {n : Nat} {F : List Int → Bool} {x : List Int} : ∀ {K : Nat}, fewest n F K = some x → ∃ k, k < K ∧ (∀ j, j < k → (listsOf n j).find? F = none) ∧ (listsOf n k).find? F = some x
  | 0, h => by simp [fewest] at h
  | K + 1, h => by
    simp only [fewest] at h
    split at h
    · rename_i y h2
      injection h with h
      subst h
      obtain ⟨k, hk, h3⟩ := fewest_spec h2
      exact ⟨k, by omega, h3⟩
    · rename_i h2
      exact ⟨K, by omega, fun j hj => fewest_none h2 j hj, h⟩
end Go.Proofs.Ytjgpghaofhcfnaa.Ch
namespace Go.Proofs.Ytjgpghaofhcfnaa.Ld
open Ch (mem_someOf)

/-- Can the book be true? -/
def right (b : Bk) : Bool := valid b && possible b
theorem right_without {b : Bk} (h : valid b = true) (no : List Int) : right (without b no) = trueWithout b no := by
  simp [right, without_valid h no, trueWithout]
theorem without_nil (b : Bk) : without b [] = b := by
  have : withoutL b.sounds [] = b.sounds := by
    unfold withoutL
    suffices ∀ k, k ≤ b.sounds.length → keptTo b.sounds [] k = b.sounds.take k by rw [this _ (Nat.le_refl _), List.take_length]
    intro k
    induction k with
    | zero => intro _; rfl
    | succ k ih =>
      intro hk
      rw [keptTo_yes (by omega) (by simp), ih (by omega), List.take_succ_eq_append_getElem (by omega)]
  unfold without
  rw [this]
/-- Without any sounding there is a truth. -/
theorem digs_ne {b : Bk} (h : valid b = true) : digs b ≠ [] := by
  obtain ⟨-, -, h3, -, -⟩ := valid_parts h
  have f0 := floor_bd h3 0
  have f1 := floor_bd h3 1
  have e0 : shore b 0 = b.s0 := rfl
  have e1 : shore b 1 = b.s1 := rfl
  rw [e0] at f0
  rw [e1] at f1
  refine List.ne_nil_of_mem (a := (⟨b.s0.floor.lo, b.s1.floor.lo⟩ : Tr)) ?_
  simp only [digs, List.mem_flatMap, List.mem_map]
  exact ⟨b.s0.floor.lo, mem_nums.2 ⟨by omega, by omega⟩, b.s1.floor.lo, mem_nums.2 ⟨by omega, by omega⟩, rfl⟩
theorem possible_none {b : Bk} (h : valid b = true) (hs : b.sounds = []) : possible b = true := by
  have : truths b = digs b := by
    unfold truths
    rw [List.filter_eq_self]
    intro t _
    simp [allows, hs]
  unfold possible
  rw [this]
  cases hd : digs b with
  | nil => exact absurd hd (digs_ne h)
  | cons x l => rfl
theorem without_all {b : Bk} (h : valid b = true) : trueWithout b (someOf (fun _ => true) b.sounds.length) = true := by
  refine possible_none (without_valid h _) ?_
  show withoutL _ _ = []
  unfold withoutL
  suffices ∀ k, k ≤ b.sounds.length → keptTo b.sounds (someOf (fun _ => true) b.sounds.length) k = [] from this _ (Nat.le_refl _)
  intro k
  induction k with
  | zero => intro _; rfl
  | succ k ih =>
    intro hk
    rw [keptTo_no (mem_someOf.2 ⟨k, rfl, by omega, rfl⟩), ih (by omega)]
/-- What is told of the soundings that must be wrong. -/
theorem wrong_spec {b : Bk} (h : valid b = true) {w : List Int} (hw : wrongL b = w) :
    Ch.climbs w b.sounds.length = true ∧ (w = [] ↔ right b = true) ∧ right (without b w) = true ∧ ∀ o, Ch.climbs o b.sounds.length = true → Ch.better o w = true → right (without b o) = false := by
  rw [wrongL, if_pos h] at hw
  obtain ⟨x, hx⟩ : ∃ x, Ch.fewest b.sounds.length (trueWithout b) (b.sounds.length + 1) = some x := by
    cases hf : Ch.fewest b.sounds.length (trueWithout b) (b.sounds.length + 1) with
    | some x => exact ⟨x, rfl⟩
    | none =>
      have h1 := Ch.fewest_none hf b.sounds.length (by omega)
      rw [List.find?_eq_none] at h1
      have h2 := h1 (someOf (fun _ => true) b.sounds.length) (Ch.mem_listsOf.2 ⟨by simp [someOf, List.filter_eq_self.2 (fun _ _ => rfl : ∀ a ∈ List.range b.sounds.length, (fun _ : Nat => true) a = true)], Ch.climbs_someOf _ _⟩)
      exact absurd (without_all h) h2
  rw [hx] at hw
  have hw : x = w := hw
  subst hw
  obtain ⟨k, hk, hnone, hfind⟩ := Ch.fewest_spec hx
  have hmem := Ch.mem_listsOf.1 (List.mem_of_find?_eq_some hfind)
  have hF : trueWithout b x = true := List.find?_some hfind
  refine ⟨hmem.2, ?_, by rw [right_without h]; exact hF, ?_⟩
  · have hr : right b = trueWithout b [] := by rw [← right_without h, without_nil]
    rw [hr]
    constructor
    · rintro rfl; exact hF
    · intro h0
      cases k with
      | zero => exact List.eq_nil_of_length_eq_zero hmem.1
      | succ k =>
        have h1 := hnone 0 (by omega)
        rw [List.find?_eq_none] at h1
        exact absurd h0 (h1 [] (Ch.mem_listsOf.2 ⟨rfl, rfl⟩))
  · intro o ho hb
    rw [right_without h]
    cases hc : trueWithout b o with
    | false => rfl
    | true =>
      exfalso
      simp only [Ch.better, Bool.or_eq_true, Bool.and_eq_true, decide_eq_true_eq] at hb
      rcases hb with hb | ⟨hl, hb⟩
      · have h1 := hnone o.length (by omega)
        rw [List.find?_eq_none] at h1
        exact h1 o (Ch.mem_listsOf.2 ⟨rfl, ho⟩) hc
      · rcases Ch.find_first (Ch.listsOf_sorted _ _) hfind (Ch.mem_listsOf.2 ⟨by omega, ho⟩) hc with rfl | hlt
        · rw [Ch.before_self] at hb; cases hb
        · rw [Ch.before_asymm _ _ hlt] at hb; cases hb

end Go.Proofs.Ytjgpghaofhcfnaa.Ld

/- Contracts of the statements' helpers: Member, Members, Before, Better. -/
namespace Go.Proofs.Ytjgpghaofhcfnaa
open Go.RowKit

/-- Is a small number in a set? -/
def Ch.bitOf (s : Int) (k : Nat) : Bool := bits BinOp.and IntKind.i64 (s / 2 ^ min k 64) 1 == 1

set_option maxHeartbeats 400000 in
theorem member_any (s : Int) (k : Nat) (w : World) :
    Calls Try.prog 65 #[I s, I k] w fun e w' => e = .returned (.bool (Ch.bitOf s k)) ∧ Below w.heap.size w w' := by
  have h0 : (0 : Int) ≤ k := by omega
  go_enter Try.func65, Try.ntmps65
  go_wp2_with fail
  go_ret
  exact ⟨rfl, Below.refl _ _⟩

set_option maxHeartbeats 2000000 in
theorem before_any (l m : List Int) (v u : Value) (w : World) (h : Sl w w.heap.size 1 v l.length (l.map I)) (h' : Sl w w.heap.size 1 u m.length (m.map I)) :
    Calls Try.prog 66 #[v, u] w fun e w' => e = .returned (.bool (Ch.before l m)) ∧ Below w.heap.size w w' := by
  have hm := h.le
  have hm' := h'.le
  unfold maxLen at hm hm'
  obtain ⟨A, c, rfl⟩ := h.form
  obtain ⟨A', c', rfl⟩ := h'.form
  go_enter Try.func66, Try.ntmps66
  go_wp2_with fail
  have H0 := Lib.hid h
  have H1 := Lib.hid h'
  clear h h'
  go_loopw [5] (fun i wr => ∃ k : Nat, k ≤ l.length ∧ k ≤ m.length ∧ i = I k ∧ Below w.heap.size w wr ∧ Ch.before (l.drop k) (m.drop k) = Ch.before l m) (fun i _ => l.length - (intOf i).toNat)
  case atStart => exact ⟨0, Nat.zero_le _, Nat.zero_le _, rfl, Below.refl _ _, rfl⟩
  case round =>
    obtain ⟨k, hk, hk', rfl, hB, heq⟩ := hrel
    by_cases hlt : k < l.length ∧ k < m.length
    · obtain ⟨hlt1, hlt2⟩ := hlt
      obtain ⟨b1, off1, c1, hv, hb1, ck⟩ := (H0.out.below hB (Nat.le_refl _)).int hlt1
      injection hv with hA _ hc
      subst hA hc
      obtain ⟨b2, off2, c2, hv, hb2, cm⟩ := (H1.out.below hB (Nat.le_refl _)).int hlt2
      injection hv with hA _ hc
      subst hA hc
      rw [List.drop_eq_getElem_cons hlt1, List.drop_eq_getElem_cons hlt2, Ch.before] at heq
      have HEQ := Lib.hid heq
      have HBR := Lib.hid hB
      have hmin : (k : Int) < min (l.length : Int) (m.length : Int) := by omega
      have hki : (k : Int) < l.length := by omega
      have hki2 : (k : Int) < m.length := by omega
      clear heq hB
      by_cases hx : l[k] = m[k]
      · have hne : (l[k] != m[k]) = false := by simp [hx]
        have HX := Lib.hid hx
        clear hx
        go_wp2_with fail
        all_goals
          go_quiet (fail)
          go_wp2_with fail
          go_roundw
          case rel => exact ⟨k + 1, by omega, by omega, by go_num, HBR.out.trans ⟨rfl, rfl, rfl, Nat.le_refl _, fun _ _ => rfl⟩, by rw [← HEQ.out, if_pos HX.out]⟩
          case measure => simp [intOf]; omega
      · have hne : (l[k] != m[k]) = true := by simp [hx]
        have HX := Lib.hid hx
        clear hx
        go_wp2_with fail
        all_goals
          go_quiet (fail)
          go_wp2_with fail
          go_quiet (fail)
          go_wp2_with fail
          go_ret
          exact ⟨ret_b (by rw [← HEQ.out, if_neg HX.out]), HBR.out.trans ⟨rfl, rfl, rfl, Nat.le_refl _, fun _ _ => rfl⟩⟩
    · have HEQ := Lib.hid heq
      have HBR := Lib.hid hB
      have HLT := Lib.hid hlt
      clear heq hB hlt
      rcases Nat.lt_or_ge k l.length with h3 | h3
      · have hkm : k = m.length := by have := HLT.out; omega
        subst hkm
        have h4 : (m.length : Int) < (l.length : Int) := by omega
        have h5 : (m.length : Int) ≤ (l.length : Int) := by omega
        have h6 : min (l.length : Int) (m.length : Int) = m.length := by omega
        have h7 : decide ((l.length : Int) < m.length) = false := decide_eq_false (by omega)
        have H3 := Lib.hid h3
        clear h3
        go_wp2_with fail
        all_goals
          go_ret
          refine ⟨ret_b ?_, HBR.out⟩
          have h1 := HEQ.out
          rw [List.drop_eq_getElem_cons H3.out, List.drop_eq_nil_of_le (Nat.le_refl _), Ch.before] at h1
          rw [← h1]
          simp
          try omega
      · have hkl : k = l.length := by omega
        subst hkl
        have h5 : (l.length : Int) ≤ (m.length : Int) := by omega
        have h6 : min (l.length : Int) (m.length : Int) = l.length := by omega
        clear h3
        go_wp2_with fail
        all_goals
          go_ret
          refine ⟨ret_b ?_, HBR.out⟩
          have h1 := HEQ.out
          rw [List.drop_eq_nil_of_le (Nat.le_refl _), Ch.before, List.length_drop] at h1
          rw [← h1, Bool.eq_iff_iff]
          simp
          try omega

set_option maxHeartbeats 1000000 in
theorem better_any (l m : List Int) (v u : Value) (w : World) (h : Sl w w.heap.size 1 v l.length (l.map I)) (h' : Sl w w.heap.size 1 u m.length (m.map I)) :
    Calls Try.prog 39 #[v, u] w fun e w' => e = .returned (.bool (Ch.better l m)) ∧ Below w.heap.size w w' := by
  obtain ⟨A, c, rfl⟩ := h.form
  obtain ⟨A', c', rfl⟩ := h'.form
  have H0 := Lib.hid h
  have H1 := Lib.hid h'
  clear h h'
  by_cases h1 : l.length < m.length
  · have h1i : (l.length : Int) < m.length := by omega
    go_enter Try.func39, Try.ntmps39
    go_wp2_with fail
    go_ret
    exact ⟨ret_b (by simp [Ch.better, h1]), Below.refl _ _⟩
  · have h1i : (m.length : Int) ≤ l.length := by omega
    have h1d : decide ((l.length : Int) < m.length) = false := decide_eq_false (by omega)
    by_cases h2 : l.length = m.length
    · have h2b : ((l.length : Int) == m.length) = true := by simp [h2]
      have H2 := Lib.hid h2
      have H1N := Lib.hid h1
      clear h2 h1
      go_enter Try.func39, Try.ntmps39
      go_wp2_with fail
      refine (before_any l m _ _ w H0.out H1.out).mono ?_
      rintro e w1 ⟨rfl, hB1⟩
      have HB := Lib.hid hB1
      clear hB1
      go_wp2_with fail
      go_ret
      exact ⟨ret_b (by simp [Ch.better, H1N.out, H2.out]), HB.out⟩
    · have h2b : ((l.length : Int) == m.length) = false := by simp; omega
      go_enter Try.func39, Try.ntmps39
      go_wp2_with fail
      go_ret
      exact ⟨ret_b (by simp [Ch.better, h1, h2]), Below.refl _ _⟩

set_option maxRecDepth 100000 in
set_option maxHeartbeats 2000000 in
theorem members_any (s : Int) (n : Nat) (hn : n ≤ 64) (w : World) :
    Calls Try.prog 37 #[I s, I n] w fun e w' => (∃ v, e = .returned v ∧ Sl w' w'.heap.size 1 v (Ld.someOf (Ch.bitOf s) n).length ((Ld.someOf (Ch.bitOf s) n).map I)) ∧ Below w.heap.size w w' := by
  obtain ⟨F, hF⟩ : ∃ F, F = Ch.bitOf s := ⟨_, rfl⟩
  have hcall : ∀ (k : Nat) W', Calls Try.prog 65 #[I s, I k] W' fun e w' => e = .returned (.bool (F k)) ∧ Below W'.heap.size W' w' := fun k W' => by rw [hF]; exact member_any s k W'
  have HCALL := Lib.hid hcall
  rw [← hF]
  clear hcall hF
  go_enter Try.func37, Try.ntmps37
  go_wp2_with fail
  refine name_world ?_
  intro w1 hw1
  have hb1 : Below w.heap.size w w1 := by rw [hw1]; exact (Below.refl _ _).alloc (Nat.le_refl _) _
  have hown0 : w1.ownsRow w.heap.size 3 1 (.slice (some ⟨w.heap.size, 0, none⟩) 0 0) 0 [] := ⟨rfl, .inr ⟨w.heap.size, 0, #[], rfl, Nat.le_refl _, by rw [hw1]; exact heap_at _ _ rfl, Nat.le_refl _, by unfold maxLen; omega, rfl, rfl⟩⟩
  clear hw1
  go_loopw [5, 6] (fun u i wr => ∃ (k : Nat) (u0 : Value), k ≤ n ∧ i = I k ∧ u0 = u ∧ wr.ownsRow w.heap.size 3 1 u0 (Ld.someOf F k).length ((Ld.someOf F k).map I) ∧ Below w.heap.size w wr) (fun _ i _ => n - (intOf i).toNat)
  case atStart => exact ⟨0, _, Nat.zero_le _, rfl, rfl, hown0, hb1⟩
  case round =>
    obtain ⟨k, v, hk, rfl, rfl, hown, hbr⟩ := hrel
    have HOWN := Lib.hid hown
    have HBR := Lib.hid hbr
    clear hown hbr hb1 hown0
    by_cases hlt : k < n
    · have hki : (k : Int) < (n : Int) := by omega
      go_wp2_with fail
      refine (HCALL.out k wr).mono ?_
      rintro e w2 ⟨rfl, hB2⟩
      have hb2 : Below w.heap.size w w2 := HBR.out.trans (hB2.mono HBR.out.size)
      have hown2 : w2.ownsRow w.heap.size 3 1 v (Ld.someOf F k).length ((Ld.someOf F k).map I) := HOWN.out.kept (row := none) ⟨hB2.os, hB2.tape, hB2.output, hB2.size, fun i hi _ => hB2.block i hi⟩ (by cases v.ownBlock <;> simp)
      have HOWN2 := Lib.hid hown2
      have HB2 := Lib.hid hb2
      have hz2 := hb2.size
      clear hown2 hb2 hB2
      cases hFk : F k
      · have HFK := Lib.hid hFk
        clear hFk
        go_wp2_with fail
        go_roundw
        case rel => exact ⟨k + 1, _, by omega, by go_num, rfl, by rw [Ld.someOf_no HFK.out]; exact HOWN2.out, HB2.out⟩
        case measure => simp [intOf]; omega
      · have HFK := Lib.hid hFk
        have hle := Ld.someOf_le F k
        obtain ⟨i0, hi, hz0, hz1', hz2'⟩ := info_parts infoI
        clear hFk
        go_wp2_with (at_builtin; go_must (refine wpList_append_own_at _ rfl _ _ 31 rfl w.heap.size 3 i0 (I 0) 1 8 underIs hi hz0 hz1' hz2' rfl (by decide) v _ ((Ld.someOf F k).map I) rfl (HOWN2.out.alloc _) ⟨w2.heap.size, 0, none⟩ 1 1 [I k] rfl rfl (cell_one_new _ _ _) (by simp [Value.oneCell']) (by unfold maxLen; omega) (by omega) (by simp; omega) ?_; intro v' w3 hown' hgrow hnil hat; have HOW := Lib.hid hown'; have HGR := Lib.hid hgrow; clear hown' hgrow hnil hat))
        go_roundw
        case rel =>
          refine ⟨k + 1, _, by omega, by go_num, rfl, ?_, ?_⟩
          · rw [Ld.someOf_yes HFK.out, List.length_append, List.map_append]; exact HOW.out
          · refine HB2.out.trans (Below.trans ((Below.refl _ _).alloc (Nat.le_refl _) _ |>.mono hz2) ⟨HGR.out.os, HGR.out.tape, HGR.out.output, HGR.out.size, fun i hi => HGR.out.block i (by simp; omega) (fun e => ?_)⟩)
            have := (HOWN2.out.lt i e.symm).1
            omega
        case measure => simp [intOf]; omega
    · obtain rfl : k = n := by omega
      have hsl := sl_ownN HOWN.out (Nat.le_refl _)
      have HSL := Lib.hid hsl
      obtain ⟨Av, cv, rfl⟩ := hsl.form
      clear hsl
      go_wp2_with fail
      go_ret
      exact ⟨⟨_, rfl, HSL.out⟩, HBR.out⟩

end Go.Proofs.Ytjgpghaofhcfnaa
