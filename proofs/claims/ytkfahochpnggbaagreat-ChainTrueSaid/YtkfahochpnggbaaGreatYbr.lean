/- Texts on the program that the proof leans on, part 44. -/
import Derived.Test.YtkfahochpnggbaaGreatYac
import Derived.ProofKit
import Derived.OpenShut
import Derived.Deep.Slices
import Derived.Deep.Fields
import Derived.ChangeSame
import Derived.Carry
set_option linter.unusedVariables false
set_option linter.unusedSimpArgs false

/- An argument that is a book, opened: its three slices and their contents; what the rows' last step asks where memory has but grown. -/
namespace Go.Proofs.YtkfahochpnggbaaGreat
open Go.RowKit Go.ChangeShapes Go.WideShapes Go.Deep

theorem addr_form {w : World} {a : Addr} {v : Value} (h : w.cell? a = some v) : a = ⟨a.block, a.off, none⟩ ∧ a.block < w.heap.size := by
  obtain ⟨b, o, s⟩ := a
  unfold World.cell? at h
  split at h
  · rename_i hb
    cases s with
    | some x => simp at h
    | none => exact ⟨rfl, (Array.getElem?_eq_some_iff.1 hb).1⟩
  · cases h
theorem addr_add {b o : Nat} (j : Nat) : (⟨b, o, none⟩ : Addr).add j = ⟨b, o + j, none⟩ := by
  unfold Addr.add
  split
  · rename_i h; rw [h]; rfl
  · rfl

section
variable {H : Type} {enc : TypeId × Value → H} {w : World} {base : Nat} {spare : Nat → Bool} {held : Bool}

/-- A list of ints that came in. -/
theorem book_ints {n : Nat} {v : Value} {y : DataW H × List MemPlace} (h : DataW.trod enc Tryz.prog w base spare held n 23 [v] = some y) :
    ∃ l : List Int, Sl w w.heap.size 1 v l.length (l.map I) := by
  rcases open_ints Tryz.underlying23 Tryz.underlying3 (by kernel_rfl) h with ⟨hc, -⟩ | ⟨a, len, cap, zs, hc, -, hl, hm, hz, -, hcell, -⟩
  · injection hc with hc
    subst hc
    exact ⟨[], by simp, none, 0, rfl, Nat.le_refl _, by unfold maxLen; omega, fun h => by simp at h⟩
  · injection hc with hc
    subst hc
    have hle : len ≤ zs.length := by rw [hz]; split <;> omega
    have hlen : (zs.take len).length = len := by simp; omega
    refine ⟨zs.take len, by simp, some a, cap, by rw [hlen], by omega, hm, fun h0 => ?_⟩
    have h00 := hcell 0 (by omega)
    obtain ⟨hf, hb⟩ := addr_form (a := a) (by simpa [Addr.add] using h00)
    refine ⟨a.block, a.off, by rw [← hf], hb, fun j u hu => ?_⟩
    have hj : j < len := by
      have := (List.getElem?_eq_some_iff.1 hu).1
      simp at this
      omega
    have h1 := hcell j (by omega)
    rw [hf, addr_add] at h1
    rw [h1, ← hu, List.getElem?_map, List.getElem?_take, if_pos hj, List.getD_eq_getElem?_getD, List.getElem?_eq_getElem (by omega)]
    rfl

/-- Four ints in a row. -/
def four (x : Int × Int × Int × Int) : List Value := [I x.1, I x.2.1, I x.2.2.1, I x.2.2.2]
/-- A list of elements of four ints each that came in. -/
theorem book_fours {t e : TypeId} (ht : Tryz.prog.underlying t = some (.slice e)) (hc4 : Tryz.prog.cellsOf e = 4)
    (hel : ∀ n cs y, DataW.trod enc Tryz.prog w base spare held n e cs = some y → ∃ x, cs = four x)
    {n : Nat} {v : Value} {y : DataW H × List MemPlace} (h : DataW.trod enc Tryz.prog w base spare held n t [v] = some y) :
    ∃ l : List (Int × Int × Int × Int), Sl w w.heap.size 4 v l.length (l.flatMap four) := by
  rcases open_slice ht h with ⟨hc, -⟩ | ⟨a, len, cap, m, n', D, Pl, hc, -, hl, hm, hz, -, hx⟩
  · injection hc with hc
    subst hc
    exact ⟨[], by simp, none, 0, rfl, Nat.le_refl _, by unfold maxLen; omega, fun h => by simp at h⟩
  · injection hc with hc
    subst hc
    have hle : len ≤ m := by rw [hz]; split <;> omega
    have hex : ∀ i, i < len → ∃ x, ∀ j, j < 4 → w.cell? (a.add (i * 4 + j)) = (four x)[j]? := by
      intro i hi
      obtain ⟨cs, h1, h2⟩ := hx i (by omega)
      obtain ⟨x, rfl⟩ := hel _ _ _ h2
      rw [hc4] at h1
      obtain ⟨-, -, hcell⟩ := World.cells?_some h1
      refine ⟨x, fun j hj => ?_⟩
      rw [← hcell j hj, Go.Deep.add_add]
    obtain ⟨f, hf⟩ : ∃ f : Nat → Int × Int × Int × Int, ∀ i, i < len → ∀ j, j < 4 → w.cell? (a.add (i * 4 + j)) = (four (f i))[j]? :=
      ⟨fun i => if h : i < len then Classical.choose (hex i h) else (0, 0, 0, 0), fun i hi => by
        simp only [hi, dif_pos]
        exact Classical.choose_spec (hex i hi)⟩
    refine ⟨(List.range len).map f, ?_, some a, cap, by simp, by simpa using hl, hm, fun h0 => ?_⟩
    · rw [len_flatN 4 four (fun _ => rfl)]
    have h0' : 0 < len := by simpa using h0
    have h00 := hf 0 h0' 0 (by omega)
    obtain ⟨hfm, hb⟩ := addr_form (a := a) (v := I (f 0).1) (by simpa [Addr.add, four] using h00)
    refine ⟨a.block, a.off, by rw [← hfm], hb, fun j u hu => ?_⟩
    have hj : j < len * 4 := by
      have := (List.getElem?_eq_some_iff.1 hu).1
      rw [len_flatN 4 four (fun _ => rfl)] at this
      simpa using this
    have h1 := hf (j / 4) (by omega) (j % 4) (by omega)
    rw [hfm, addr_add, show j / 4 * 4 + j % 4 = j by omega] at h1
    have h2 := flatN 4 four (fun _ => rfl) ((List.range len).map f) (j / 4) (j % 4) (by simp; omega) (by omega)
    rw [show j / 4 * 4 + j % 4 = j by omega] at h2
    rw [h1, ← hu, h2]
    simp

end
end Go.Proofs.YtkfahochpnggbaaGreat

/- An argument that is a book, opened; the row's last step. -/
namespace Go.Proofs.YtkfahochpnggbaaGreat
open Go.RowKit Go.ChangeShapes Go.WideShapes Go.Deep

theorem list2 {α : Type} {l : List α} (h : l.length = 2) : ∃ a b, l = [a, b] := by
  match l, h with
  | [a, b], _ => exact ⟨a, b, rfl⟩
theorem list4 {α : Type} {l : List α} (h : l.length = 4) : ∃ a b c d, l = [a, b, c, d] := by
  match l, h with
  | [a, b, c, d], _ => exact ⟨a, b, c, d, rfl⟩
theorem list5 {α : Type} {l : List α} (h : l.length = 5) : ∃ a b c d e, l = [a, b, c, d, e] := by
  match l, h with
  | [a, b, c, d, e], _ => exact ⟨a, b, c, d, e, rfl⟩
theorem one_of {a b : Value} (h : [a] = [b]) : a = b := by injection h
theorem two_of {a b c d : Value} (h : [a, b] = [c, d]) : a = c ∧ b = d := by injection h with h1 h2; injection h2 with h2; exact ⟨h1, h2⟩

section
variable {H : Type} {enc : TypeId × Value → H} {w : World} {base : Nat} {spare : Nat → Bool} {held : Bool}

theorem read_int {n : Nat} {cs : List Value} {y : DataW H × List MemPlace} (h : DataW.trod enc Tryz.prog w base spare held n 3 cs = some y) : ∃ x, cs = [I x] := by
  obtain ⟨x, hx, -⟩ := DataW.trod_int Tryz.underlying3 h
  exact ⟨x, hx⟩
theorem read_span {n : Nat} {cs : List Value} {y : DataW H × List MemPlace} (h : DataW.trod enc Tryz.prog w base spare held n 51 cs = some y) : ∃ a b, cs = [I a, I b] := by
  obtain ⟨y0, y1, m, -, hl, h0, h1⟩ := trod_struct2 Tryz.underlying51 h
  obtain ⟨c0, c1, rfl⟩ := list2 (hl.trans (by kernel_rfl : Tryz.prog.cellsOf 51 = 2))
  have k3 : Tryz.prog.cellsOf 3 = 1 := by kernel_rfl
  clear hl
  rw [k3] at h0 h1
  obtain ⟨a, ha⟩ := read_int h0
  obtain ⟨b, hb⟩ := read_int h1
  exact ⟨a, b, by rw [one_of ha, one_of hb]⟩
theorem read_section {n : Nat} {cs : List Value} {y : DataW H × List MemPlace} (h : DataW.trod enc Tryz.prog w base spare held n 76 cs = some y) : ∃ x, cs = four x := by
  obtain ⟨y0, y1, m, -, hl, h0, h1⟩ := trod_struct2 Tryz.underlying76 h
  obtain ⟨c0, c1, c2, c3, rfl⟩ := list4 (hl.trans (by kernel_rfl : Tryz.prog.cellsOf 76 = 4))
  have k51 : Tryz.prog.cellsOf 51 = 2 := by kernel_rfl
  clear hl
  rw [k51] at h0 h1
  obtain ⟨a, b, ha⟩ := read_span h0
  obtain ⟨c, d, hc⟩ := read_span h1
  obtain ⟨e0, e1⟩ := two_of ha
  obtain ⟨e2, e3⟩ := two_of hc
  exact ⟨(a, b, c, d), by rw [e0, e1, e2, e3]; rfl⟩
theorem read_survey {n : Nat} {cs : List Value} {y : DataW H × List MemPlace} (h : DataW.trod enc Tryz.prog w base spare held n 34 cs = some y) : ∃ x, cs = four x := by
  obtain ⟨xs, m, -, -, hl, hlen, hf⟩ := DataW.trod_struct Tryz.underlying34 h
  obtain ⟨c0, c1, c2, c3, rfl⟩ := list4 (hl.trans (by kernel_rfl : Tryz.prog.cellsOf 34 = 4))
  obtain ⟨y0, y1, y2, y3, rfl⟩ := list4 hlen
  have k3 : Tryz.prog.cellsOf 3 = 1 := by kernel_rfl
  have h0 : DataW.trod enc Tryz.prog w base spare held m 3 (([c0, c1, c2, c3].drop 0).take (Tryz.prog.cellsOf 3)) = some y0 := hf 0 _ rfl
  have h1 : DataW.trod enc Tryz.prog w base spare held m 3 (([c0, c1, c2, c3].drop 1).take (Tryz.prog.cellsOf 3)) = some y1 := hf 1 _ rfl
  have h2 : DataW.trod enc Tryz.prog w base spare held m 3 (([c0, c1, c2, c3].drop 2).take (Tryz.prog.cellsOf 3)) = some y2 := hf 2 _ rfl
  have h3 : DataW.trod enc Tryz.prog w base spare held m 3 (([c0, c1, c2, c3].drop 3).take (Tryz.prog.cellsOf 3)) = some y3 := hf 3 _ rfl
  clear hl hlen hf
  rw [k3] at h0 h1 h2 h3
  obtain ⟨a, ha⟩ := read_int h0
  obtain ⟨b, hb⟩ := read_int h1
  obtain ⟨c, hc⟩ := read_int h2
  obtain ⟨d, hd⟩ := read_int h3
  exact ⟨(a, b, c, d), by rw [one_of ha, one_of hb, one_of hc, one_of hd]; rfl⟩

def secOf (x : Int × Int × Int × Int) : Ch.Sec := ⟨⟨x.1, x.2.1⟩, ⟨x.2.2.1, x.2.2.2⟩⟩
def svOf (x : Int × Int × Int × Int) : Ch.Sv := ⟨x.1, x.2.1, x.2.2.1, x.2.2.2⟩

set_option maxRecDepth 100000 in
/-- A book that came in. -/
theorem open_book {r : Reach} {b0 : Nat} {v : Value} {d : DataW H} {p : List MemPlace} (hv : Value.okWide Tryz.prog w r b0 26 v) (h : DataW.Trod enc Tryz.prog w base spare held 26 v d p) :
    ∃ (b : Ch.Bk) (S T V : Value), v = vBk S T V b.rule b.days ∧ RB w w.heap.size b S T V := by
  obtain ⟨cs, rfl, hsz⟩ := okWide_struct Tryz.underlying26 hv
  obtain ⟨fuel, hf⟩ := h
  obtain ⟨xs, m, -, -, -, hlen, hg⟩ := DataW.trod_struct Tryz.underlying26 hf
  obtain ⟨cs⟩ := cs
  obtain ⟨c0, c1, c2, c3, c4, rfl⟩ := list5 (l := cs) (hsz.trans (by kernel_rfl : Tryz.prog.cellsOf 26 = 5))
  obtain ⟨y0, y1, y2, y3, y4, rfl⟩ := list5 hlen
  have k3 : Tryz.prog.cellsOf 3 = 1 := by kernel_rfl
  have k22 : Tryz.prog.cellsOf 22 = 1 := by kernel_rfl
  have k23 : Tryz.prog.cellsOf 23 = 1 := by kernel_rfl
  have k24 : Tryz.prog.cellsOf 24 = 1 := by kernel_rfl
  have h0 : DataW.trod enc Tryz.prog w base spare held m 22 (([c0, c1, c2, c3, c4].drop 0).take (Tryz.prog.cellsOf 22)) = some y0 := hg 0 _ rfl
  have h1 : DataW.trod enc Tryz.prog w base spare held m 23 (([c0, c1, c2, c3, c4].drop 1).take (Tryz.prog.cellsOf 23)) = some y1 := hg 1 _ rfl
  have h2 : DataW.trod enc Tryz.prog w base spare held m 24 (([c0, c1, c2, c3, c4].drop 2).take (Tryz.prog.cellsOf 24)) = some y2 := hg 2 _ rfl
  have h3 : DataW.trod enc Tryz.prog w base spare held m 3 (([c0, c1, c2, c3, c4].drop 3).take (Tryz.prog.cellsOf 3)) = some y3 := hg 3 _ rfl
  have h4 : DataW.trod enc Tryz.prog w base spare held m 3 (([c0, c1, c2, c3, c4].drop 4).take (Tryz.prog.cellsOf 3)) = some y4 := hg 4 _ rfl
  clear hsz hlen hg hf hv
  rw [k22] at h0
  rw [k23] at h1
  rw [k24] at h2
  rw [k3] at h3 h4
  obtain ⟨l0, s0⟩ := book_fours (v := c0) Tryz.underlying22 (by kernel_rfl) (fun _ _ _ => read_section) h0
  obtain ⟨l1, s1⟩ := book_ints (v := c1) h1
  obtain ⟨l2, s2⟩ := book_fours (v := c2) Tryz.underlying24 (by kernel_rfl) (fun _ _ _ => read_survey) h2
  obtain ⟨ru, hr⟩ := read_int h3
  obtain ⟨da, hd⟩ := read_int h4
  have hr' : c3 = I ru := one_of hr
  have hd' : c4 = I da := one_of hd
  subst hr' hd'
  clear h0 h1 h2 h3 h4 hr hd
  refine ⟨⟨l0.map secOf, l1, l2.map svOf, ru, da⟩, c0, c1, c2, rfl, ?_, s1, ?_⟩
  · have e : (l0.map secOf).flatMap cSec = l0.flatMap four := by rw [List.flatMap_map]; rfl
    show Sl w w.heap.size 4 c0 (l0.map secOf).length ((l0.map secOf).flatMap cSec)
    rw [e, List.length_map]; exact s0
  · have e : (l2.map svOf).flatMap cSv = l2.flatMap four := by rw [List.flatMap_map]; rfl
    show Sl w w.heap.size 4 c2 (l2.map svOf).length ((l2.map svOf).flatMap cSv)
    rw [e, List.length_map]; exact s2

set_option maxRecDepth 100000 in
/-- Two ints in an array, by value. -/
theorem open_two {r : Reach} {b0 : Nat} {v : Value} {d : DataW H} {p : List MemPlace} (hv : Value.okWide Tryz.prog w r b0 27 v) (h : DataW.Trod enc Tryz.prog w base spare held 27 v d p) :
    ∃ a b, v = .agg #[I a, I b] := by
  have hv' := hv
  simp only [Value.okWide, Tryz.underlying27] at hv'
  obtain ⟨cs, rfl, hsz, -⟩ := hv'
  obtain ⟨fuel, hf⟩ := h
  obtain ⟨xs, m, -, -, -, hlen, hg⟩ := DataW.trod_array Tryz.underlying27 hf
  obtain ⟨cs⟩ := cs
  obtain ⟨c0, c1, rfl⟩ := list2 (l := cs) (hsz.trans (by kernel_rfl : Tryz.prog.cellsOf 27 = 2))
  obtain ⟨y0, y1, rfl⟩ := list2 hlen
  have k3 : Tryz.prog.cellsOf 3 = 1 := by kernel_rfl
  have h0 : DataW.trod enc Tryz.prog w base spare held m 3 (([c0, c1].drop (0 * Tryz.prog.cellsOf 3)).take (Tryz.prog.cellsOf 3)) = some y0 := hg 0 (by omega)
  have h1 : DataW.trod enc Tryz.prog w base spare held m 3 (([c0, c1].drop (1 * Tryz.prog.cellsOf 3)).take (Tryz.prog.cellsOf 3)) = some y1 := hg 1 (by omega)
  clear hsz hlen hg hf hv
  rw [k3] at h0 h1
  obtain ⟨a, ha⟩ := read_int h0
  obtain ⟨b, hb⟩ := read_int h1
  have ha' : c0 = I a := one_of ha
  have hb' : c1 = I b := one_of hb
  exact ⟨a, b, by rw [ha', hb']⟩

end

end Go.Proofs.YtkfahochpnggbaaGreat
