/- Texts on the program that the proof leans on, part 48. -/
import Derived.Test.YtjgpghaofhcfnaaYbd
import Derived.Test.YtjgpghaofhcfnaaYbp
import Derived.Test.YtjgpghaofhcfnaaYbf
set_option linter.unusedVariables false
set_option linter.unusedSimpArgs false

namespace Go.Proofs.Ytjgpghaofhcfnaa
open Go.RowKit
set_option maxHeartbeats 2000000 in
theorem bookN_any (l : List Ld.Sd) (V : Value) (w : World) (hV : Sl w w.heap.size 3 V l.length (l.flatMap cSd)) :
 Calls Try.prog 44 #[V] w fun e w' => (∃ g, e = .returned (vBk (.slice (some ⟨g, 0, none⟩) 4 4) V (Ld.bookOf l)) ∧ w'.heap[g]? = some (.cells #[I 10, I 12, I 14, I 15, I 18, I 20, I 16, I 17] 24 (0, 0)) ∧ w.heap.size < g) ∧ Below w.heap.size w w' := by
 obtain ⟨A1, k1, rfl⟩ := hV.form
 have hB0 : Below w.heap.size w (w.alloc (.cells (rBk (.slice none 0 0) (.slice none 0 0) zBk) 30)) := (Below.refl _ _).alloc (Nat.le_refl _) _
 have hh := heap_at w (.cells (rBk (.slice none 0 0) (.slice none 0 0) zBk) 30) rfl
 have HV := Lib.hid hV
 have HB0 := Lib.hid hB0
 have HH := Lib.hid hh
 have hs : w.heap.size < (w.alloc (.cells (rBk (.slice none 0 0) (.slice none 0 0) zBk) 30)).heap.size := by simp
 clear hV hB0 hh
 go_enter Try.func44, Try.ntmps44
 go_wp2_with fail
 refine (range_any 10 12 _).mono ?_
 rintro e w1 ⟨rfl, hB1⟩
 go_wp2_with fail
 refine (range_any 14 15 _).mono ?_
 rintro e w2 ⟨rfl, hB2⟩
 go_wp2_with fail
 refine (range_any 18 20 _).mono ?_
 rintro e w3 ⟨rfl, hB3⟩
 go_wp2_with fail
 refine (range_any 16 17 _).mono ?_
 rintro e w4 ⟨rfl, hB4⟩
 have hB14 := (hB1.trans (hB2.mono hB1.size)).trans ((hB3.trans (hB4.mono hB3.size)).mono (Nat.le_trans hB1.size hB2.size))
 have hb4 := HB0.out.trans (hB14.mono HB0.out.size)
 have e4 := (hB14.block _ hs).trans HH.out
 have hl4 := heap_lt e4
 have HB4 := Lib.hid hb4
 have E4 := Lib.hid e4
 clear hB1 hB2 hB3 hB4 hB14 hb4 e4
 go_wp2_with fail
 refine (range_any 2 3 _).mono ?_
 rintro e w5 ⟨rfl, hB5⟩
 go_wp2_with fail
 refine (range_any 4 5 _).mono ?_
 rintro e w6 ⟨rfl, hB6⟩
 go_wp2_with fail
 refine (range_any 5 6 _).mono ?_
 rintro e w7 ⟨rfl, hB7⟩
 have hA : Below w4.heap.size w4 (w4.alloc (.cells #[I 10, I 12, I 14, I 15, I 18, I 20, I 16, I 17] 24)) := (Below.refl _ _).alloc (Nat.le_refl _) _
 have hB57 := (hB5.trans (hB6.mono hB5.size)).trans (hB7.mono (Nat.le_trans hB5.size hB6.size))
 have rS := (hB57.block w4.heap.size (by simp)).trans (heap_at w4 (.cells #[I 10, I 12, I 14, I 15, I 18, I 20, I 16, I 17] 24) rfl)
 have hb7 := hA.trans (hB57.mono hA.size)
 have e7 := (hb7.block _ hl4).trans E4.out
 have HB7 := Lib.hid (HB4.out.trans (hb7.mono HB4.out.size))
 have RS := Lib.hid rS
 have E7 := Lib.hid e7
 clear hA hB5 hB6 hB7 hB57 rS hb7 e7
 go_wp2_with (refine wpList_store_row rfl 30 (Operand.tmp 2) (Operand.tmp 15) rfl w.heap.size (rBk (.slice (some ⟨w4.heap.size, 0, none⟩) 4 4) (.slice A1 l.length k1) (Ld.bookOf l)) rfl rfl 30 _ E7.out infoBkR rfl (by simp [Value.oneCell']) ?_)
 refine name_post ?_
 intro W hW
 have hrow : W.heap[w.heap.size]? = some (.cells (rBk (.slice (some ⟨w4.heap.size, 0, none⟩) 4 4) (.slice A1 l.length k1) (Ld.bookOf l)) 30 (0, 0)) := by rw [hW]; exact setRow_heap _ _ _ _ _ _ E7.out
 have hrs : W.heap[w4.heap.size]? = some (.cells #[I 10, I 12, I 14, I 15, I 18, I 20, I 16, I 17] 24 (0, 0)) := by rw [hW]; exact (setRow_other _ _ _ _ (by omega)).trans RS.out
 have hbW : Below w.heap.size w W := by rw [hW]; exact below_setRow HB7.out (Nat.le_refl _) _
 have hq : ∀ j : Nat, W.cell? ⟨w.heap.size, j, none⟩ = (rBk (.slice (some ⟨w4.heap.size, 0, none⟩) 4 4) (.slice A1 l.length k1) (Ld.bookOf l))[j]? := fun j => cell_of_row W _ j _ _ _ hrow
 clear hW
 refine bodyPost_ret (v := vBk (.slice (some ⟨w4.heap.size, 0, none⟩) 4 4) (.slice A1 l.length k1) (Ld.bookOf l)) (by simp [results, Try.results44, go_sem, hq]) rfl ⟨⟨_, rfl, hrs, by have := HB4.out.size; omega⟩, hbW⟩
set_option maxHeartbeats 2000000 in
theorem ownN_any (w : World) :
 Calls Try.prog 43 #[] w fun e w' => (∃ g, e = .returned (vBk (.slice (some ⟨g, 0, none⟩) 4 4) (.slice none 0 0) Ld.ownB) ∧ w'.heap[g]? = some (.cells #[I 10, I 12, I 14, I 15, I 18, I 20, I 16, I 17] 24 (0, 0)) ∧ w.heap.size < g) ∧ Below w.heap.size w w' := by
 have hB0 : Below w.heap.size w (w.alloc (.cells (rBk (.slice none 0 0) (.slice none 0 0) zBk) 30)) := (Below.refl _ _).alloc (Nat.le_refl _) _
 have hh : (w.alloc (.cells (rBk (.slice none 0 0) (.slice none 0 0) zBk) 30)).heap[w.heap.size]? = some (.cells (rBk (.slice none 0 0) (.slice none 0 0) zBk) 30 (0, 0)) := heap_at _ _ rfl
 have hV : Sl (w.alloc (.cells (rBk (.slice none 0 0) (.slice none 0 0) zBk) 30)) (w.alloc (.cells (rBk (.slice none 0 0) (.slice none 0 0) zBk) 30)).heap.size 3 (.slice none 0 0) ([] : List Ld.Sd).length (([] : List Ld.Sd).flatMap cSd) := sl_nil _ _ _
 have hz : w.heap.size < (w.alloc (.cells (rBk (.slice none 0 0) (.slice none 0 0) zBk) 30)).heap.size := by simp <;> omega
 have HV := Lib.hid hV
 have HB0 := Lib.hid hB0
 have HH := Lib.hid hh
 clear hV hB0 hh
 go_enter Try.func43, Try.ntmps43
 go_wp2_with fail
 refine (bookN_any [] _ _ HV.out).mono ?_
 rintro e w1 ⟨⟨g, rfl, hrg, hg⟩, hB1⟩
 have hb := HB0.out.trans (hB1.mono HB0.out.size)
 have hr := (hB1.block w.heap.size hz).trans HH.out
 have HR := Lib.hid hr
 have HB := Lib.hid hb
 have HRG := Lib.hid hrg
 have hgw : w.heap.size < g := by omega
 clear hB1 hr hb hrg hz hg
 go_wp2_with (refine wpList_store_row rfl 30 (Operand.tmp 0) (Operand.tmp 1) rfl w.heap.size (rBk (.slice (some ⟨g, 0, none⟩) 4 4) (.slice none 0 0) (Ld.bookOf [])) rfl rfl 30 _ HR.out infoBkR rfl (by simp [Value.oneCell']) ?_)
 refine name_post ?_
 intro W hW
 have hrow : W.heap[w.heap.size]? = some (.cells (rBk (.slice (some ⟨g, 0, none⟩) 4 4) (.slice none 0 0) (Ld.bookOf [])) 30 (0, 0)) := by rw [hW]; exact setRow_heap _ _ _ _ _ _ HR.out
 have hbW : Below w.heap.size w W := by rw [hW]; exact below_setRow HB.out (Nat.le_refl _) _
 have hrg : W.heap[g]? = some (.cells #[I 10, I 12, I 14, I 15, I 18, I 20, I 16, I 17] 24 (0, 0)) := by rw [hW]; exact (setRow_other _ _ _ _ (by omega)).trans HRG.out
 have hq : ∀ j : Nat, W.cell? ⟨w.heap.size, j, none⟩ = (rBk (.slice (some ⟨g, 0, none⟩) 4 4) (.slice none 0 0) (Ld.bookOf []))[j]? := fun j => cell_of_row W _ j _ _ _ hrow
 clear hW
 exact bodyPost_ret (v := vBk (.slice (some ⟨g, 0, none⟩) 4 4) (.slice none 0 0) (Ld.bookOf [])) (by simp [results, Try.results43, go_sem, hq]) rfl ⟨⟨_, rfl, hrg, hgw⟩, hbW⟩
end Go.Proofs.Ytjgpghaofhcfnaa
namespace Go.Proofs.Ytjgpghaofhcfnaa
open Go.RowKit
theorem FreeS.of_run {P : Program} {K : Value → World → Prop} {r : Result Next} {u : Value} {w : World} (hr : r = .ok (.value u) w) (h : K u w) : FreeS P K r := by rw [hr]; exact FreeS.val h
def tideRow : Obj := .cells #[I 10, I 12, I 14, I 15, I 18, I 20, I 16, I 17] 24 (0, 0)
def soundRow (l : List Ld.Sd) : Obj := .cells (l.flatMap cSd).toArray 64 (0, 0)
def knRow (i : Nat) : Option Obj :=
 if (1 ≤ i ∧ i ≤ 10) ∨ i = 13 ∨ i = 16 ∨ i = 19 ∨ i = 21 then some tideRow
 else if i = 12 then some (soundRow [⟨4, 0, 0⟩])
 else if i = 15 then some (soundRow [⟨0, 2, 0⟩])
 else if i = 18 then some (soundRow [⟨0, 0, 121⟩])
 else if i = 20 then some (soundRow [⟨0, 0, 0⟩, ⟨0, 0, 0⟩, ⟨0, 0, 0⟩, ⟨0, 0, 0⟩, ⟨0, 0, 0⟩, ⟨0, 0, 0⟩, ⟨0, 0, 0⟩])
 else none
structure KnS (W0 : World) (d : Nat → Bool) (θ : Nat → Nat) (w : World) : Prop where
 held : Held W0 w
 rows : ∀ i o, d i = true → knRow i = some o → w.heap[θ i]? = some o
 apart : ∀ i j, d i = true → d j = true → (knRow i).isSome = true → (knRow j).isSome = true → i ≠ j → θ i ≠ θ j
 fresh : ∀ i, d i = true → (knRow i).isSome = true → W0.heap.size ≤ θ i
theorem KnS.keep {W0 w w' : World} {d : Nat → Bool} {θ : Nat → Nat} (h : KnS W0 d θ w) (hB : Below w.heap.size w w') (i : Nat) (hn : knRow i = none) : KnS W0 (fun k => k == i || d k) θ w' := by
 have hd : ∀ k, (k == i || d k) = true → (knRow k).isSome = true → d k = true := by
  intro k hk hs
  by_cases hki : k = i
  · subst hki; rw [hn] at hs; cases hs
  · have e : (k == i) = false := by simpa using hki
    rw [e, Bool.false_or] at hk
    exact hk
 refine ⟨held_step hB h.held, fun k o hk ho => ?_, fun k j hk hj hsk hsj => h.apart k j (hd k hk hsk) (hd j hj hsj) hsk hsj, fun k hk hs => h.fresh k (hd k hk hs) hs⟩
 have h1 := h.rows k o (hd k hk (by rw [ho]; rfl)) ho
 exact (hB.block _ (heap_lt h1)).trans h1
theorem KnS.step {W0 w w' : World} {d : Nat → Bool} {θ : Nat → Nat} (h : KnS W0 d θ w) (hB : Below w.heap.size w w') (i g : Nat) (hg : w.heap.size ≤ g) (hr : ∀ o, knRow i = some o → w'.heap[g]? = some o) : KnS W0 (fun k => k == i || d k) (fun k => if k = i then g else θ k) w' := by
 have hd : ∀ k, k ≠ i → (k == i || d k) = true → d k = true := by
  intro k hki hk
  have e : (k == i) = false := by simpa using hki
  rw [e, Bool.false_or] at hk
  exact hk
 have hlt : ∀ k, d k = true → (knRow k).isSome = true → θ k < w.heap.size := by
  intro k hk hs
  obtain ⟨o, ho⟩ := Option.isSome_iff_exists.1 hs
  exact heap_lt (h.rows k o hk ho)
 refine ⟨held_step hB h.held, fun k o hk ho => ?_, fun k j hk hj hsk hsj hne => ?_, fun k hk hs => ?_⟩
 · by_cases hki : k = i
   · subst hki; simp only [if_true]; exact hr o ho
   · rw [if_neg hki]
     have h1 := h.rows k o (hd k hki hk) ho
     exact (hB.block _ (heap_lt h1)).trans h1
 · by_cases hki : k = i <;> by_cases hji : j = i
   · exact absurd (hki.trans hji.symm) hne
   · rw [if_pos hki, if_neg hji]
     have := hlt j (hd j hji hj) hsj
     omega
   · rw [if_neg hki, if_pos hji]
     have := hlt k (hd k hki hk) hsk
     omega
   · rw [if_neg hki, if_neg hji]
     exact h.apart k j (hd k hki hk) (hd j hji hj) hsk hsj hne
 · by_cases hki : k = i
   · rw [if_pos hki]; exact Nat.le_trans h.held.2.2.size hg
   · rw [if_neg hki]; exact h.fresh k (hd k hki hk) hs
theorem closed_at {md : Region.Mode} {ops : Array Oper} {d : Nat → Bool} (h : closedIn md ops d) {k j : Nat} (hk : d k = true) (hw : (match ops[k]? with | some p => waitsFor md p j | none => false) = true) : d j = true := by
 cases ho : ops[k]? with
 | none => rw [ho] at hw; cases hw
 | some p => rw [ho] at hw; exact h k j p hk ho hw
theorem stays_set {L L' : List Value} {d : Nat → Bool} {i : Nat} {u : Value} (hd : d i = false) (h : L' = L.set i u) : ∀ k, d k = true → L'[k]? = L[k]? := by
 intro k hk
 have hne : i ≠ k := fun e => by subst e; rw [hd] at hk; cases hk
 rw [h, List.getElem?_set_ne hne]
end Go.Proofs.Ytjgpghaofhcfnaa
namespace Go.Proofs.Ytjgpghaofhcfnaa
open Go.RowKit
structure KnA (F X : Nat) (W w' : World) : Prop where
 bel : Below F W w'
 same : ∀ k, k < W.heap.size → k ≠ X → w'.heap[k]? = W.heap[k]?
theorem KnA.start (F X : Nat) (W : World) : KnA F X W W.drew := ⟨(Below.refl _ _).drew, fun _ _ _ => rfl⟩
theorem KnA.refl (F X : Nat) (W : World) : KnA F X W W := ⟨Below.refl _ _, fun _ _ _ => rfl⟩
theorem KnA.step {F X : Nat} {W w' w'' : World} (h : KnA F X W w') (hF : F ≤ W.heap.size) (hB : Below w'.heap.size w' w'') : KnA F X W w'' :=
 ⟨h.bel.trans (hB.mono (Nat.le_trans hF h.bel.size)), fun k hk hne => (hB.block k (Nat.lt_of_lt_of_le hk h.bel.size)).trans (h.same k hk hne)⟩
theorem KnA.set {F X : Nat} {W w' : World} (h : KnA F X W w') (hX : F ≤ X) (off : Nat) (v : Value) : KnA F X W (w'.setCell ⟨X, off, none⟩ v) :=
 ⟨h.bel.setCell hX v, fun k hk hne => (Below.heap_setCell _ _ _ _ hne).trans (h.same k hk hne)⟩
def cellsOf (bs : List (Value × Value × Ld.Bk)) : Array Value := (bs.flatMap fun r => (rBk r.1 r.2.1 r.2.2).toList).toArray
structure KnB (w : World) (bs : List (Value × Value × Ld.Bk)) (Bd : Nat) (g : Nat → Nat) (tr : Nat → Option Obj) (W : World) : Prop where
 bel : Below w.heap.size w W
 row : W.heap[Bd]? = some (.cells (cellsOf bs) 30 (0, 0))
 tides : ∀ i o, tr i = some o → W.heap[g i]? = some o
theorem KnB.up {w : World} {bs : List (Value × Value × Ld.Bk)} {Bd : Nat} {g : Nat → Nat} {tr : Nat → Option Obj} {W W' : World} (h : KnB w bs Bd g tr W) (hB : Below W.heap.size W W') : KnB w bs Bd g tr W' :=
 ⟨h.bel.trans (hB.mono h.bel.size), (hB.block _ (heap_lt h.row)).trans h.row, fun i o ho => (hB.block _ (heap_lt (h.tides i o ho))).trans (h.tides i o ho)⟩
theorem KnB.tide {w : World} {bs : List (Value × Value × Ld.Bk)} {Bd : Nat} {g : Nat → Nat} {tr : Nat → Option Obj} {W W' : World} (h : KnB w bs Bd g tr W) (x : Nat) (o : Obj) (hne : ∀ i, (tr i).isSome = true → i ≠ x → g i ≠ g x) (hBd : g x ≠ Bd) (hA : KnA w.heap.size (g x) W W') (hx : W'.heap[g x]? = some o) : KnB w bs Bd g (fun i => if i = x then some o else tr i) W' := by
 refine ⟨h.bel.trans hA.bel, (hA.same _ (heap_lt h.row) (fun e => hBd e.symm)).trans h.row, fun i o' ho => ?_⟩
 by_cases hi : i = x
 · subst hi
   simp only [if_true] at ho
   injection ho with ho
   rw [← ho]
   exact hx
 · rw [if_neg hi] at ho
   exact (hA.same _ (heap_lt (h.tides i o' ho)) (hne i (by rw [ho]; rfl) hi)).trans (h.tides i o' ho)
theorem KnB.bad {w : World} {bs bs' : List (Value × Value × Ld.Bk)} {Bd : Nat} {g : Nat → Nat} {tr : Nat → Option Obj} {W W' : World} (h : KnB w bs Bd g tr W) (hne : ∀ i, (tr i).isSome = true → g i ≠ Bd) (hA : KnA w.heap.size Bd W W') (hx : W'.heap[Bd]? = some (.cells (cellsOf bs') 30 (0, 0))) : KnB w bs' Bd g tr W' :=
 ⟨h.bel.trans hA.bel, hx, fun i o ho => (hA.same _ (heap_lt (h.tides i o ho)) (hne i (by rw [ho]; rfl))).trans (h.tides i o ho)⟩
theorem KnB.cell {w : World} {bs : List (Value × Value × Ld.Bk)} {Bd : Nat} {g : Nat → Nat} {tr : Nat → Option Obj} {W : World} (h : KnB w bs Bd g tr W) (j : Nat) : W.cell? ⟨Bd, j, none⟩ = (cellsOf bs)[j]? := cell_of_row W _ j _ _ _ h.row
theorem KnB.thaw {w : World} {bs : List (Value × Value × Ld.Bk)} {Bd : Nat} {g : Nat → Nat} {tr : Nat → Option Obj} {W : World} (h : KnB w bs Bd g tr W) (j : Nat) : W.frozen? ⟨Bd, j, none⟩ = false := by simp [World.frozen?, h.row]
theorem row_set {W : World} {X : Nat} {cs : Array Value} {t : TypeId} (h : W.heap[X]? = some (.cells cs t (0, 0))) (off : Nat) (v : Value) : (W.setCell ⟨X, off, none⟩ v).heap[X]? = some (.cells (cs.setIfInBounds off v) t (0, 0)) := by
 have hlt := heap_lt h
 simp [World.setCell, Array.getElem?_modify, h]
end Go.Proofs.Ytjgpghaofhcfnaa
namespace Go.Proofs.Ytjgpghaofhcfnaa
open Go.RowKit
theorem Ld.bad_study {b : Ld.Bk} (h : Ld.check b = 20) (p : Bool) : Ld.studyE b p = 20 := by unfold Ld.studyE; simp [h]
theorem Ld.bad_lands {b : Ld.Bk} (h : Ld.check b = 20) (s r y : Int) : (Ld.landsR b s r y).2 = 20 := by unfold Ld.landsR; simp [Ld.bad_study h]
theorem Ld.bad_most {b : Ld.Bk} (h : Ld.check b = 20) (s r : Int) : (Ld.mostR b s r).2 = 20 := by unfold Ld.mostR; simp [Ld.bad_study h]
theorem Ld.bad_first {b : Ld.Bk} (h : Ld.check b = 20) (s y : Int) : (Ld.firstR b s y).2 = 20 := by unfold Ld.firstR; simp [Ld.bad_study h]
structure BadAt (Bd j : Nat) (T D : Value) (b : Ld.Bk) (W : World) : Prop where
 cell : ∀ c : Nat, c < 14 → W.cell? ⟨Bd, j * 14 + c, none⟩ = (rBk T D b)[c]?
 rb : RB W W.heap.size b T D
 err : Ld.check b = 20
theorem BadAt.up {Bd j : Nat} {T D : Value} {b : Ld.Bk} {W W' : World} (h : BadAt Bd j T D b W) (hBd : Bd < W.heap.size) (hB : Below W.heap.size W W') : BadAt Bd j T D b W' :=
 ⟨fun c hc => (hB.cell (p := ⟨Bd, j * 14 + c, none⟩) hBd).trans (h.cell c hc), (h.rb.below hB (Nat.le_refl _)).more hB.size, h.err⟩
end Go.Proofs.Ytjgpghaofhcfnaa
