/- Texts on the program that the proof leans on, part 19. -/
import Derived.Test.YtkfahochpnggbaaGreatYar
import Derived.Laws.Tables
import Derived.Laws.CopyOwn
set_option linter.unusedVariables false
set_option linter.unusedSimpArgs false

/- What study leaves to those that ask; words for their regions. -/
namespace Go.Proofs.YtkfahochpnggbaaGreat
open Go.RowKit

/-- What is told of a ledger that study leaves. -/
def Told (b : Ch.Bk) (S T V : Value) (proper : Bool) (w : World) (L : Value) : Prop :=
  (Ch.studyE b proper ≠ 0 → L = vLg0) ∧
    (Ch.studyE b proper = 0 → Ch.valid b = true ∧ proper = true ∧ Ch.truths b ≠ [] ∧ ∃ r R, L = vLg S T V b.rule b.days (.map (some r)) R ∧ RM w w.heap.size b (.map (some r)) ∧ Trs w w.heap.size R (Ch.truths b))
theorem study_told (b : Ch.Bk) (S T V : Value) (proper : Bool) (w : World) (hb : RB w w.heap.size b S T V) :
    Calls Tryz.prog 81 #[vBk S T V b.rule b.days, .bool proper] w (fun e w' => ∃ L, e = .returned (.tuple #[L, I (Ch.studyE b proper)]) ∧ Told b S T V proper w' L ∧ Below w.heap.size w w') := by
  refine (study_any b S T V proper w hb).mono ?_
  rintro e w' ⟨⟨L, rfl, h1, h2⟩, hB⟩
  exact ⟨L, rfl, ⟨h1, h2⟩, hB⟩
theorem Told.below {b : Ch.Bk} {S T V : Value} {proper : Bool} {w w' : World} {L : Value} (h : Told b S T V proper w L) (hb : Below w.heap.size w w') : Told b S T V proper w' L :=
  ⟨h.1, fun e => by
    obtain ⟨h1, h2, h3, r, R, h4, h5, h6⟩ := h.2 e
    exact ⟨h1, h2, h3, r, R, h4, (h5.below hb (Nat.le_refl _)).more hb.size, (h6.below hb (Nat.le_refl _)).more hb.size⟩⟩
theorem Told.row {b : Ch.Bk} {S T V : Value} {proper : Bool} {w : World} {L : Value} (h : Told b S T V proper w L) {n : Nat} {cs cs' : Array Value} {t : TypeId} (hr : w.heap[n]? = some (.cells cs t (0, 0))) (hs : cs.size < 12) : Told b S T V proper (w.setRow n cs') L := by
  refine ⟨h.1, fun e => ?_⟩
  obtain ⟨h1, h2, h3, r, R, h4, h5, h6⟩ := h.2 e
  refine ⟨h1, h2, h3, r, R, h4, (h5.same (setRow_other w n r cs' (h5.ne_cells hr))).more (by simp), ?_⟩
  have h0 : 0 < (Ch.truths b).length := List.length_pos_iff.2 h3
  obtain ⟨bl, off, c, rfl, hbl, hc⟩ := h6.tr h0
  have hne : bl ≠ n := by
    rintro rfl
    have := hc 11 (by omega)
    rw [cell_of_row w _ _ _ _ _ hr] at this
    have h11 := (Array.getElem?_eq_some_iff.1 (this.trans (rfl : _ = some (I ((Ch.truths b)[0].first 3).hi)))).1
    omega
  obtain ⟨x1, A, c', e1, x2, x3, x4⟩ := h6
  refine ⟨x1, A, c', e1, x2, x3, fun hn => ?_⟩
  obtain ⟨b', off', e2, x5, x6⟩ := x4 hn
  refine ⟨b', off', e2, by simpa using x5, fun j u hu => ?_⟩
  have hbb : b' = bl := by rw [e2] at e1; injection e1 with e1; injection e1 with e1; injection e1 with e1; exact e1.symm
  rw [cell_setRow_other _ _ _ _ (by show b' ≠ n; rw [hbb]; exact hne)]
  exact x6 j u hu
theorem Told.form {b : Ch.Bk} {A A1 A2 : Option Addr} {n c n1 c1 n2 c2 : Nat} {proper : Bool} {w : World} {L : Value} (h : Told b (.slice A n c) (.slice A1 n1 c1) (.slice A2 n2 c2) proper w L) :
    ∃ B k d B1 k1 d1 B2 k2 d2 x y m B3 k3 d3, L = vLg (.slice B k d) (.slice B1 k1 d1) (.slice B2 k2 d2) x y (.map m) (.slice B3 k3 d3) := by
  by_cases e : Ch.studyE b proper = 0
  · obtain ⟨_, _, _, r, R, rfl, _, h6⟩ := h.2 e
    obtain ⟨B3, d3, rfl⟩ := h6.form
    exact ⟨_, _, _, _, _, _, _, _, _, _, _, _, _, _, _, rfl⟩
  · rw [h.1 e]
    exact ⟨_, _, _, _, _, _, _, _, _, _, _, _, _, _, _, rfl⟩

theorem held_row {W w' : World} (h : Held W w') {n : Nat} (hn : W.heap.size ≤ n) (cs : Array Value) : Held W (w'.setRow n cs) := held_of (below_setRow h.2.2 hn cs)
theorem apart_of {F : Nat} {W w' : World} (hF : F ≤ W.heap.size) (h : Below W.heap.size W w') : Apart F W w' := ⟨fun _ o hb _ => h.cell (p := ⟨_, o, none⟩) hb, h.mono hF, h.size⟩
theorem apart_row {F : Nat} {W w' : World} (h : Apart F W w') (cs : Array Value) : Apart F W (w'.setRow F cs) :=
  ⟨fun b o hb hne => (cell_setRow_other _ _ _ _ hne).trans (h.1 b o hb hne), below_setRow h.2.1 (Nat.le_refl _) cs, by simpa using h.2.2⟩
theorem name_anyH {P : Program} {md : Region.Mode} {ops : Array Oper} {Q : Exit → Act → World → Prop} {S : World → Prop} {fuel : Nat} {listed : Array Bool} {a : Act} {w : World} (h : ∀ W, W = w → wpAnyH P md ops Q S fuel listed a W) : wpAnyH P md ops Q S fuel listed a w := h w rfl
theorem infoLg : (Tryz.prog.info? 93).map (·.size) = some 7 := by kernel_rfl

end Go.Proofs.YtkfahochpnggbaaGreat
