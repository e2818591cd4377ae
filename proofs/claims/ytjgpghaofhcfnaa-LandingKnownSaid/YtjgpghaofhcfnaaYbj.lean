/- Texts on the program that the proof leans on, part 36. -/
import Derived.Test.YtjgpghaofhcfnaaYbg
import Derived.Test.YtjgpghaofhcfnaaYbb
set_option linter.unusedVariables false
set_option linter.unusedSimpArgs false

namespace Go.Proofs.Ytjgpghaofhcfnaa.Ch
open Ld (someOf)
def before : List Int → List Int → Bool
  | [], m => decide (0 < m.length)
  | _ :: _, [] => false
  | a :: l, b :: m => if a = b then before l m else decide (a < b)
theorem before_app (acc l m : List Int) : before (acc ++ l) (acc ++ m) = before l m := by
 induction acc with
 | nil => rfl
 | cons a acc ih => simp [before, ih]
theorem before_asymm : ∀ (l m : List Int), before l m = true → before m l = false
  | [], [], h => by simp [before] at h
  | [], _ :: _, _ => rfl
  | _ :: _, [], h => by simp [before] at h
  | a :: l, b :: m, h => by
   simp only [before] at h ⊢
   by_cases e : a = b
   · rw [if_pos e] at h
     rw [if_pos e.symm]
     exact before_asymm l m h
   · rw [if_neg e] at h
     rw [if_neg (fun e' => e e'.symm)]
     simp at h ⊢
     omega
theorem before_self (l : List Int) : before l l = false := by
 induction l with
 | nil => rfl
 | cons a l ih => simp [before, ih]
def better (l m : List Int) : Bool := decide (l.length < m.length) || (decide (l.length = m.length) && before l m)
theorem mem_combL (size : Nat) (x : List Int) : ∀ (m f : Nat) (acc : List Int), acc.length < size →
 (x ∈ combL size m f acc ↔ ∃ y, x = acc ++ y ∧ x.length = size ∧ turnsOk ((f : Int) + m - 1) ((f : Int) - 1) y = true) := by
 intro m
 induction m with
 | zero =>
  intro f acc ha
  constructor
  · intro h; simp [combL] at h
  · rintro ⟨y, rfl, hl, ht⟩
    cases y with
    | nil => simp at hl; omega
    | cons a y =>
     simp [turnsOk] at ht
     omega
 | succ m ih =>
  intro f acc ha
  have e : ((f + 1 : Nat) : Int) + (m : Int) - 1 = (f : Int) + ((m + 1 : Nat) : Int) - 1 := by omega
  have e2 : ((f + 1 : Nat) : Int) - 1 = f := by omega
  rw [combL_succ, List.mem_append]
  constructor
  · rintro (h | h)
    · unfold comb at h
      split at h
      · rename_i hlen
        simp at h
        subst h
        refine ⟨[(f : Int)], rfl, by simpa using hlen, ?_⟩
        simp [turnsOk]
        omega
      · rename_i hlen
        obtain ⟨y, hx, hl, ht⟩ := (ih (f + 1) (acc ++ [(f : Int)]) (by simp at hlen ⊢; omega)).1 h
        rw [e, e2] at ht
        refine ⟨(f : Int) :: y, by rw [hx]; simp, hl, ?_⟩
        simp only [turnsOk, ht, Bool.and_true]
        simp
        omega
    · obtain ⟨y, hx, hl, ht⟩ := (ih (f + 1) acc ha).1 h
      rw [e, e2] at ht
      exact ⟨y, hx, hl, turnsOk_mono _ _ _ (by omega) _ ht⟩
  · rintro ⟨y, rfl, hl, ht⟩
    cases y with
    | nil => simp at hl; omega
    | cons a y =>
     simp only [turnsOk, Bool.and_eq_true] at ht
     have h1 := ht.1
     simp at h1
     by_cases haf : a = f
     · left
       subst haf
       unfold comb
       split
       · rename_i hlen
         simp at hl hlen
         have : y = [] := List.eq_nil_of_length_eq_zero (by omega)
         subst this
         simp
       · rename_i hlen
         refine (ih (f + 1) (acc ++ [(f : Int)]) (by simp at hlen hl ⊢; omega)).2 ⟨y, by simp, hl, ?_⟩
         rw [e, e2]
         exact ht.2
     · right
       refine (ih (f + 1) acc ha).2 ⟨a :: y, rfl, hl, ?_⟩
       rw [e, e2]
       simp only [turnsOk, ht.2, Bool.and_true]
       simp
       omega
theorem mem_listsOf {n k : Nat} {x : List Int} : x ∈ listsOf n k ↔ x.length = k ∧ climbs x n = true := by
 unfold listsOf comb
 cases k with
 | zero =>
  rw [if_pos (show ([] : List Int).length = 0 from rfl)]
  constructor
  · intro h; simp at h; subst h; exact ⟨rfl, rfl⟩
  · rintro ⟨h, -⟩; simp [List.eq_nil_of_length_eq_zero h]
 | succ k =>
  rw [if_neg (by simp), mem_combL (k + 1) x n 0 [] (by simp)]
  have e : ((0 : Nat) : Int) + (n : Int) - 1 = (n : Int) - 1 := by omega
  have e2 : ((0 : Nat) : Int) - 1 = -1 := by omega
  constructor
  · rintro ⟨y, rfl, h1, h2⟩
    rw [e, e2] at h2
    exact ⟨h1, h2⟩
  · rintro ⟨h1, h2⟩
    exact ⟨x, rfl, h1, by rw [e, e2]; exact h2⟩
theorem combL_sorted (size : Nat) : ∀ (m f : Nat) (acc : List Int), acc.length < size → (combL size m f acc).Pairwise fun a b => before a b = true := by
 intro m
 induction m with
 | zero => intro f acc _; simp [combL]
 | succ m ih =>
  intro f acc ha
  rw [combL_succ, List.pairwise_append]
  have hfirst : ∀ a ∈ comb size m (f + 1) (acc ++ [(f : Int)]), ∃ y, a = acc ++ (f : Int) :: y := by
   intro a h
   unfold comb at h
   split at h
   · simp at h; exact ⟨[], h⟩
   · rename_i hlen
     obtain ⟨y, hx, -⟩ := (mem_combL size a m (f + 1) (acc ++ [(f : Int)]) (by simp at hlen ⊢; omega)).1 h
     exact ⟨y, by rw [hx]; simp⟩
  refine ⟨?_, ih (f + 1) acc ha, ?_⟩
  · unfold comb
    split
    · exact List.pairwise_singleton _ _
    · rename_i hlen
      exact ih _ _ (by simp at hlen ⊢; omega)
  · intro a h1 b h2
    obtain ⟨y, rfl⟩ := hfirst a h1
    obtain ⟨z, rfl, hl, ht⟩ := (mem_combL size b m (f + 1) acc ha).1 h2
    rw [before_app]
    cases z with
    | nil => simp at hl; omega
    | cons g z =>
     simp only [turnsOk, Bool.and_eq_true] at ht
     have h3 := ht.1
     simp at h3
     simp only [before]
     rw [if_neg (by omega)]
     simp
     omega
theorem listsOf_sorted (n k : Nat) : (listsOf n k).Pairwise fun a b => before a b = true := by
 unfold listsOf comb
 split
 · exact List.pairwise_singleton _ _
 · rename_i h
   exact combL_sorted k n 0 [] (by simp at h ⊢; omega)
theorem find_first {α : Type} {R : α → α → Prop} {F : α → Bool} {x y : α} : ∀ {l : List α}, l.Pairwise R → l.find? F = some x → y ∈ l → F y = true → y = x ∨ R x y
  | [], _, h, _, _ => by simp at h
  | a :: l, hp, h, hy, hF => by
   rw [List.pairwise_cons] at hp
   rw [List.find?_cons] at h
   split at h
   · injection h with h
     subst h
     rcases List.mem_cons.1 hy with rfl | hy
     · exact .inl rfl
     · exact .inr (hp.1 y hy)
   · rename_i hFa
     rcases List.mem_cons.1 hy with rfl | hy
     · rw [hF] at hFa; cases hFa
     · exact find_first hp.2 h hy hF
theorem fewest_none {n : Nat} {F : List Int → Bool} : ∀ {K : Nat}, fewest n F K = none → ∀ j, j < K → (listsOf n j).find? F = none
  | 0, _, j, hj => by omega
  | K + 1, h, j, hj => by
   simp only [fewest] at h
   split at h
   · cases h
   · rename_i h2
     by_cases e : j = K
     · subst e; exact h
     · exact fewest_none h2 j (by omega)
theorem fewest_spec {n : Nat} {F : List Int → Bool} {x : List Int} : ∀ {K : Nat}, fewest n F K = some x → ∃ k, k < K ∧ (∀ j, j < k → (listsOf n j).find? F = none) ∧ (listsOf n k).find? F = some x
  | 0, h => by simp [fewest] at h
  | K + 1, h => by
   simp only [fewest] at h
   split at h
   · rename_i y h2
     injection h with h
     subst h
     obtain ⟨k, hk, h3⟩ := fewest_spec h2
     exact ⟨k, by omega, h3⟩
   · rename_i h2
     exact ⟨K, by omega, fun j hj => fewest_none h2 j hj, h⟩
end Go.Proofs.Ytjgpghaofhcfnaa.Ch
namespace Go.Proofs.Ytjgpghaofhcfnaa.Ld
open Ch (mem_someOf)
def right (b : Bk) : Bool := valid b && possible b
theorem right_without {b : Bk} (h : valid b = true) (no : List Int) : right (without b no) = trueWithout b no := by
 simp [right, without_valid h no, trueWithout]
theorem without_nil (b : Bk) : without b [] = b := by
 have : withoutL b.sounds [] = b.sounds := by
  unfold withoutL
  suffices ∀ k, k ≤ b.sounds.length → keptTo b.sounds [] k = b.sounds.take k by rw [this _ (Nat.le_refl _), List.take_length]
  intro k
  induction k with
  | zero => intro _; rfl
  | succ k ih =>
   intro hk
   rw [keptTo_yes (by omega) (by simp), ih (by omega), List.take_succ_eq_append_getElem (by omega)]
 unfold without
 rw [this]
theorem digs_ne {b : Bk} (h : valid b = true) : digs b ≠ [] := by
 obtain ⟨-, -, h3, -, -⟩ := valid_parts h
 have f0 := floor_bd h3 0
 have f1 := floor_bd h3 1
 have e0 : shore b 0 = b.s0 := rfl
 have e1 : shore b 1 = b.s1 := rfl
 rw [e0] at f0
 rw [e1] at f1
 refine List.ne_nil_of_mem (a := (⟨b.s0.floor.lo, b.s1.floor.lo⟩ : Tr)) ?_
 simp only [digs, List.mem_flatMap, List.mem_map]
 exact ⟨b.s0.floor.lo, mem_nums.2 ⟨by omega, by omega⟩, b.s1.floor.lo, mem_nums.2 ⟨by omega, by omega⟩, rfl⟩
theorem possible_none {b : Bk} (h : valid b = true) (hs : b.sounds = []) : possible b = true := by
 have : truths b = digs b := by
  unfold truths
  rw [List.filter_eq_self]
  intro t _
  simp [allows, hs]
 unfold possible
 rw [this]
 cases hd : digs b with
 | nil => exact absurd hd (digs_ne h)
 | cons x l => rfl
theorem without_all {b : Bk} (h : valid b = true) : trueWithout b (someOf (fun _ => true) b.sounds.length) = true := by
 refine possible_none (without_valid h _) ?_
 show withoutL _ _ = []
 unfold withoutL
 suffices ∀ k, k ≤ b.sounds.length → keptTo b.sounds (someOf (fun _ => true) b.sounds.length) k = [] from this _ (Nat.le_refl _)
 intro k
 induction k with
 | zero => intro _; rfl
 | succ k ih =>
  intro hk
  rw [keptTo_no (mem_someOf.2 ⟨k, rfl, by omega, rfl⟩), ih (by omega)]
theorem wrong_spec {b : Bk} (h : valid b = true) {w : List Int} (hw : wrongL b = w) :
 Ch.climbs w b.sounds.length = true ∧ (w = [] ↔ right b = true) ∧ right (without b w) = true ∧ ∀ o, Ch.climbs o b.sounds.length = true → Ch.better o w = true → right (without b o) = false := by
 rw [wrongL, if_pos h] at hw
 obtain ⟨x, hx⟩ : ∃ x, Ch.fewest b.sounds.length (trueWithout b) (b.sounds.length + 1) = some x := by
  cases hf : Ch.fewest b.sounds.length (trueWithout b) (b.sounds.length + 1) with
  | some x => exact ⟨x, rfl⟩
  | none =>
   have h1 := Ch.fewest_none hf b.sounds.length (by omega)
   rw [List.find?_eq_none] at h1
   have h2 := h1 (someOf (fun _ => true) b.sounds.length) (Ch.mem_listsOf.2 ⟨by simp [someOf, List.filter_eq_self.2 (fun _ _ => rfl : ∀ a ∈ List.range b.sounds.length, (fun _ : Nat => true) a = true)], Ch.climbs_someOf _ _⟩)
   exact absurd (without_all h) h2
 rw [hx] at hw
 have hw : x = w := hw
 subst hw
 obtain ⟨k, hk, hnone, hfind⟩ := Ch.fewest_spec hx
 have hmem := Ch.mem_listsOf.1 (List.mem_of_find?_eq_some hfind)
 have hF : trueWithout b x = true := List.find?_some hfind
 refine ⟨hmem.2, ?_, by rw [right_without h]; exact hF, ?_⟩
 · have hr : right b = trueWithout b [] := by rw [← right_without h, without_nil]
   rw [hr]
   constructor
   · rintro rfl; exact hF
   · intro h0
     cases k with
     | zero => exact List.eq_nil_of_length_eq_zero hmem.1
     | succ k =>
      have h1 := hnone 0 (by omega)
      rw [List.find?_eq_none] at h1
      exact absurd h0 (h1 [] (Ch.mem_listsOf.2 ⟨rfl, rfl⟩))
 · intro o ho hb
   rw [right_without h]
   cases hc : trueWithout b o with
   | false => rfl
   | true =>
    exfalso
    simp only [Ch.better, Bool.or_eq_true, Bool.and_eq_true, decide_eq_true_eq] at hb
    rcases hb with hb | ⟨hl, hb⟩
    · have h1 := hnone o.length (by omega)
      rw [List.find?_eq_none] at h1
      exact h1 o (Ch.mem_listsOf.2 ⟨rfl, ho⟩) hc
    · rcases Ch.find_first (Ch.listsOf_sorted _ _) hfind (Ch.mem_listsOf.2 ⟨by omega, ho⟩) hc with rfl | hlt
      · rw [Ch.before_self] at hb; cases hb
      · rw [Ch.before_asymm _ _ hlt] at hb; cases hb
end Go.Proofs.Ytjgpghaofhcfnaa.Ld
