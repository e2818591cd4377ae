/- Texts on the program that the proof leans on, part 1. -/
import Derived.WalkKit
import Derived.WalkSpells
import Derived.Deep.QuietTactic
import Derived.BigQuiet
import Derived.Lib.Hide
import Derived.Laws.Rows
import Derived.Deep.RegionHeld3
import Derived.Deep.RegionWith
set_option linter.unusedVariables false
set_option linter.unusedSimpArgs false

namespace Go.Proofs.Ytjgpghaofhcfnaa
theorem putL : (∀ (a : Go.Act) (d : Go.Tmp) (v : Go.Value), a.put (some d) v = { a with tmps := a.tmps.setIfInBounds d v }) ∧ (∀ (a : Go.Act) (v : Go.Value), a.put none v = a) ∧ (∀ (l : List Go.Value) (i : Nat) (v : Go.Value), l.toArray.setIfInBounds i v = (l.set i v).toArray) ∧ (∀ (x : Go.Value) (l : List Go.Value) (v : Go.Value), (x :: l).set 0 v = v :: l) ∧ (∀ (x : Go.Value) (l : List Go.Value) (n : Nat) (v : Go.Value), (x :: l).set (n + 1) v = x :: l.set n v) := ⟨fun _ _ _ => rfl, fun _ _ => rfl, fun _ _ _ => List.setIfInBounds_toArray .., fun _ _ _ => rfl, fun _ _ _ _ => rfl⟩
end Go.Proofs.Ytjgpghaofhcfnaa
namespace Go.Proofs.Ytjgpghaofhcfnaa
open Go.RowKit
def Sl (w : World) (B size : Nat) (v : Value) (n : Nat) (xs : List Value) : Prop :=
 xs.length = n * size ∧ ∃ A c, v = .slice A n c ∧ n ≤ c ∧ c ≤ maxLen ∧
  (0 < n → ∃ b off, A = some ⟨b, off, none⟩ ∧ b < B ∧ ∀ j u, xs[j]? = some u → w.cell? ⟨b, off + j, none⟩ = some u)
theorem Sl.keep {w w' : World} {B size n : Nat} {v : Value} {xs : List Value} (h : Sl w B size v n xs) (hk : ∀ p : Addr, p.block < B → w'.cell? p = w.cell? p) : Sl w' B size v n xs := by
 obtain ⟨h1, A, c, hv, h2, h3, h4⟩ := h
 refine ⟨h1, A, c, hv, h2, h3, fun hn => ?_⟩
 obtain ⟨b, off, e, hb, hc⟩ := h4 hn
 exact ⟨b, off, e, hb, fun j u hu => (hk _ hb).trans (hc j u hu)⟩
theorem Sl.more {w : World} {B B' size n : Nat} {v : Value} {xs : List Value} (h : Sl w B size v n xs) (hB : B ≤ B') : Sl w B' size v n xs := by
 obtain ⟨h1, A, c, hv, h2, h3, h4⟩ := h
 refine ⟨h1, A, c, hv, h2, h3, fun hn => ?_⟩
 obtain ⟨b, off, e, hb, hc⟩ := h4 hn
 exact ⟨b, off, e, by omega, hc⟩
theorem Sl.below {w w' : World} {B B' size n : Nat} {v : Value} {xs : List Value} (h : Sl w B size v n xs) (hb : Below B' w w') (hB : B ≤ B') : Sl w' B size v n xs :=
 h.keep fun _ hp => hb.cell (by omega)
theorem Sl.le {w : World} {B size n : Nat} {v : Value} {xs : List Value} (h : Sl w B size v n xs) : n ≤ maxLen := by
 obtain ⟨_, A, c, _, h2, h3, _⟩ := h
 exact Nat.le_trans h2 h3
theorem Sl.at4 {w : World} {B n : Nat} {v : Value} {xs : List Value} (h : Sl w B 4 v n xs) {k : Nat} (hk : k < n) :
 ∃ b off c, v = .slice (some ⟨b, off, none⟩) n c ∧ b < B ∧ w.cell? ⟨b, off + k * 4, none⟩ = xs[k * 4]? ∧ w.cell? ⟨b, off + k * 4 + 1, none⟩ = xs[k * 4 + 1]? ∧ w.cell? ⟨b, off + k * 4 + 2, none⟩ = xs[k * 4 + 2]? ∧ w.cell? ⟨b, off + k * 4 + 3, none⟩ = xs[k * 4 + 3]? := by
 obtain ⟨h1, A, c, rfl, h2, h3, h4⟩ := h
 obtain ⟨b, off, rfl, hb, hc⟩ := h4 (by omega)
 have g : ∀ j, j < 4 → w.cell? ⟨b, off + k * 4 + j, none⟩ = xs[k * 4 + j]? := by
  intro j hj
  have hl : k * 4 + j < xs.length := by omega
  rw [List.getElem?_eq_getElem hl, Nat.add_assoc]
  exact hc _ _ (List.getElem?_eq_getElem hl)
 exact ⟨b, off, c, rfl, hb, g 0 (by omega), g 1 (by omega), g 2 (by omega), g 3 (by omega)⟩
theorem Sl.at1 {w : World} {B n : Nat} {v : Value} {xs : List Value} (h : Sl w B 1 v n xs) {k : Nat} (hk : k < n) :
 ∃ b off c, v = .slice (some ⟨b, off, none⟩) n c ∧ b < B ∧ w.cell? ⟨b, off + k, none⟩ = xs[k]? := by
 obtain ⟨h1, A, c, rfl, h2, h3, h4⟩ := h
 obtain ⟨b, off, rfl, hb, hc⟩ := h4 (by omega)
 have hl : k < xs.length := by omega
 refine ⟨b, off, c, rfl, hb, ?_⟩
 rw [List.getElem?_eq_getElem hl]
 exact hc _ _ (List.getElem?_eq_getElem hl)
theorem Sl.at3 {w : World} {B n : Nat} {v : Value} {xs : List Value} (h : Sl w B 3 v n xs) {k : Nat} (hk : k < n) :
 ∃ b off c, v = .slice (some ⟨b, off, none⟩) n c ∧ b < B ∧ w.cell? ⟨b, off + k * 3, none⟩ = xs[k * 3]? ∧ w.cell? ⟨b, off + k * 3 + 1, none⟩ = xs[k * 3 + 1]? ∧ w.cell? ⟨b, off + k * 3 + 2, none⟩ = xs[k * 3 + 2]? := by
 obtain ⟨h1, A, c, rfl, h2, h3, h4⟩ := h
 obtain ⟨b, off, rfl, hb, hc⟩ := h4 (by omega)
 have g : ∀ j, j < 3 → w.cell? ⟨b, off + k * 3 + j, none⟩ = xs[k * 3 + j]? := by
  intro j hj
  have hl : k * 3 + j < xs.length := by omega
  rw [List.getElem?_eq_getElem hl, Nat.add_assoc]
  exact hc _ _ (List.getElem?_eq_getElem hl)
 exact ⟨b, off, c, rfl, hb, g 0 (by omega), g 1 (by omega), g 2 (by omega)⟩
theorem flatN {α : Type} (m : Nat) (f : α → List Value) (hf : ∀ x, (f x).length = m) (l : List α) (k j : Nat) (hk : k < l.length) (hj : j < m) : (l.flatMap f)[k * m + j]? = (f l[k])[j]? := by
 induction l generalizing k with
 | nil => simp at hk
 | cons x l ih =>
  rw [List.flatMap_cons]
  cases k with
  | zero => rw [List.getElem?_append_left (by rw [hf]; omega)]; simp
  | succ k =>
   rw [List.getElem?_append_right (by rw [hf, Nat.succ_mul]; omega), hf, show (k + 1) * m + j - m = k * m + j by rw [Nat.succ_mul]; omega]
   exact ih k (by simpa using hk)
theorem len_flatN {α : Type} (m : Nat) (f : α → List Value) (hf : ∀ x, (f x).length = m) (l : List α) : (l.flatMap f).length = l.length * m := by
 induction l with
 | nil => simp
 | cons x l ih => rw [List.flatMap_cons, List.length_append, hf, ih, List.length_cons, Nat.succ_mul]; omega
theorem Sl.form {w : World} {B size n : Nat} {v : Value} {xs : List Value} (h : Sl w B size v n xs) : ∃ A c, v = .slice A n c := by
 obtain ⟨_, A, c, hv, _⟩ := h
 exact ⟨A, c, hv⟩
theorem ret_b {a b : Bool} (h : a = b) : Ending.returned (.bool a) = .returned (.bool b) := by rw [h]
theorem ret_i {a b : Int} (h : a = b) : Ending.returned (.int .i64 a) = .returned (.int .i64 b) := by rw [h]
theorem all_false {α : Type} {f : α → Bool} {l : List α} {k : Nat} (hk : k < l.length) (h : f l[k] = false) : l.all f = false := by
 rw [List.all_eq_false]
 exact ⟨l[k], List.getElem_mem hk, by simp [h]⟩
theorem bcell {W w1 : World} (hb : Below W.heap.size W w1) : ∀ b o, b < W.heap.size → w1.cell? ⟨b, o, none⟩ = W.cell? ⟨b, o, none⟩ :=
 fun b o h => hb.cell (p := ⟨b, o, none⟩) h
theorem bfree {W w1 : World} (hb : Below W.heap.size W w1) : ∀ b o, b < W.heap.size → w1.frozen? ⟨b, o, none⟩ = W.frozen? ⟨b, o, none⟩ :=
 fun b o h => hb.frozen (p := ⟨b, o, none⟩) h
theorem heap_at (W : World) (o : Obj) {n : Nat} (hn : n = W.heap.size) : (W.alloc o).heap[n]? = some o := by subst hn; exact heap_alloc_new W o
theorem sl_new {w' : World} {B n size : Nat} {xs : List Value} {t : TypeId} (hl : xs.length = n * size) (hn : n ≤ maxLen) {g : Nat} (hg : g < B) (h : w'.heap[g]? = some (.cells xs.toArray t (0, 0))) : Sl w' B size (.slice (some ⟨g, 0, none⟩) n n) n xs :=
 ⟨hl, some ⟨g, 0, none⟩, n, rfl, Nat.le_refl _, hn, fun _ => ⟨g, 0, rfl, hg, fun j u hu => by
  rw [Nat.zero_add]
  exact (cell_of_row w' _ j _ _ _ h).trans (by simpa using hu)⟩⟩
end Go.Proofs.Ytjgpghaofhcfnaa
namespace Go.Proofs.Ytjgpghaofhcfnaa
open Go.RowKit
abbrev Held (W w' : World) : Prop := (∀ b o, b < W.heap.size → w'.cell? ⟨b, o, none⟩ = W.cell? ⟨b, o, none⟩) ∧ (∀ b o, b < W.heap.size → w'.frozen? ⟨b, o, none⟩ = W.frozen? ⟨b, o, none⟩) ∧ Below W.heap.size W w'
theorem held_of {W w' : World} (h : Below W.heap.size W w') : Held W w' := ⟨bcell h, bfree h, h⟩
theorem held_start (W : World) : Held W W.drew := held_of (Below.refl _ _).drew
theorem held_step {W w' w1 : World} (hB : Below w'.heap.size w' w1) (h : Held W w') : Held W w1 := held_of (h.2.2.trans (hB.mono h.2.2.size))
theorem held_alloc {W w' : World} (h : Held W w') (o : Obj) : Held W (w'.alloc o) := held_of (h.2.2.alloc h.2.2.size o)
theorem name_world {P : Program} {c : Code} {Q : Exit → Act → World → Prop} {a : Act} {w : World} (h : ∀ W, W = w → c.wp P Q a W) : c.wp P Q a w := h w rfl
theorem name_act {P : Program} {c : Code} {Q : Exit → Act → World → Prop} {a : Act} {w : World} (h : ∀ A, A = a → c.wp P Q A w) : c.wp P Q a w := h a rfl
theorem wp_mid {P : Program} {c : Code} {Q : Exit → Act → World → Prop} {a : Act} {w : World} (R : Act → World → Prop) (h1 : c.wp P (fun e a' w' => e = .normal ∧ R a' w') a w) (h2 : ∀ a' w', R a' w' → Q .normal a' w') : c.wp P Q a w :=
 Code.wp_mono (fun e a' w' h => by obtain ⟨rfl, hr⟩ := h; exact h2 a' w' hr) h1
end Go.Proofs.Ytjgpghaofhcfnaa
namespace Go.Proofs.Ytjgpghaofhcfnaa
open Go.RowKit
abbrev Apart (F : Nat) (W w' : World) : Prop := (∀ b o, b < W.heap.size → b ≠ F → w'.cell? ⟨b, o, none⟩ = W.cell? ⟨b, o, none⟩) ∧ Below F W w' ∧ W.heap.size ≤ w'.heap.size
theorem apart_start (F : Nat) (W : World) : Apart F W W.drew := ⟨fun _ _ _ _ => rfl, (Below.refl _ _).drew, Nat.le_refl _⟩
theorem apart_step {F : Nat} {W w' w1 : World} (hF : F ≤ W.heap.size) (hB : Below w'.heap.size w' w1) (h : Apart F W w') : Apart F W w1 :=
 ⟨fun b o hb hne => (hB.cell (p := ⟨b, o, none⟩) (Nat.lt_of_lt_of_le hb h.2.2)).trans (h.1 b o hb hne), h.2.1.trans (hB.mono (Nat.le_trans hF h.2.2)), Nat.le_trans h.2.2 hB.size⟩
theorem apart_set {F : Nat} {W w' : World} (h : Apart F W w') (o : Nat) (v : Value) : Apart F W (w'.setCell ⟨F, o, none⟩ v) :=
 ⟨fun b o' hb hne => (World.cell?_setCell_other w' ⟨F, o, none⟩ ⟨b, o', none⟩ v (fun e => hne (congrArg Addr.block e).symm)).trans (h.1 b o' hb hne), h.2.1.setCell (Nat.le_refl _) _, by simpa using h.2.2⟩
def Mid (R : Act → World → Prop) : Exit → Act → World → Prop
  | .normal, a, w => R a w
  | _, _, _ => False
theorem wp_between {P : Program} {c : Code} {Q : Exit → Act → World → Prop} {a : Act} {w : World} (R : Act → World → Prop) (h1 : c.wp P (Mid R) a w) (h2 : ∀ a' w', R a' w' → Q .normal a' w') : c.wp P Q a w :=
 Code.wp_mono (fun e a' w' h => by cases e <;> first | exact h2 a' w' h | exact (h : False).elim) h1
end Go.Proofs.Ytjgpghaofhcfnaa
