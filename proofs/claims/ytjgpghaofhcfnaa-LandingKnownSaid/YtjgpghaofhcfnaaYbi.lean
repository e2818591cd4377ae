/- Texts on the program that the proof leans on, part 35. -/
import Derived.Test.YtjgpghaofhcfnaaYae
import Derived.ProofKit
import Derived.OpenShut
import Derived.Deep.Slices
import Derived.Deep.Fields
import Derived.ChangeSame
import Derived.Carry
set_option linter.unusedVariables false
set_option linter.unusedSimpArgs false

namespace Go.Proofs.Ytjgpghaofhcfnaa
open Go.RowKit Go.ChangeShapes Go.WideShapes Go.Deep
set_option maxRecDepth 100000
theorem addr_form {w : World} {a : Addr} {v : Value} (h : w.cell? a = some v) : a = ⟨a.block, a.off, none⟩ ∧ a.block < w.heap.size := by
 obtain ⟨b, o, s⟩ := a
 unfold World.cell? at h
 split at h
 · rename_i hb
   cases s with
   | some x => simp at h
   | none => exact ⟨rfl, (Array.getElem?_eq_some_iff.1 hb).1⟩
 · cases h
theorem addr_add {b o : Nat} (j : Nat) : (⟨b, o, none⟩ : Addr).add j = ⟨b, o + j, none⟩ := by
 unfold Addr.add
 split
 · rename_i h; rw [h]; rfl
 · rfl
theorem list2 {α : Type} {l : List α} (h : l.length = 2) : ∃ x0 x1, l = [x0, x1] := by
 match l, h with
 | [x0, x1], _ => exact ⟨x0, x1, rfl⟩
theorem list3 {α : Type} {l : List α} (h : l.length = 3) : ∃ x0 x1 x2, l = [x0, x1, x2] := by
 match l, h with
 | [x0, x1, x2], _ => exact ⟨x0, x1, x2, rfl⟩
theorem list4 {α : Type} {l : List α} (h : l.length = 4) : ∃ x0 x1 x2 x3, l = [x0, x1, x2, x3] := by
 match l, h with
 | [x0, x1, x2, x3], _ => exact ⟨x0, x1, x2, x3, rfl⟩
theorem list6 {α : Type} {l : List α} (h : l.length = 6) : ∃ x0 x1 x2 x3 x4 x5, l = [x0, x1, x2, x3, x4, x5] := by
 match l, h with
 | [x0, x1, x2, x3, x4, x5], _ => exact ⟨x0, x1, x2, x3, x4, x5, rfl⟩
theorem list14 {α : Type} {l : List α} (h : l.length = 14) : ∃ x0 x1 x2 x3 x4 x5 x6 x7 x8 x9 x10 x11 x12 x13, l = [x0, x1, x2, x3, x4, x5, x6, x7, x8, x9, x10, x11, x12, x13] := by
 match l, h with
 | [x0, x1, x2, x3, x4, x5, x6, x7, x8, x9, x10, x11, x12, x13], _ => exact ⟨x0, x1, x2, x3, x4, x5, x6, x7, x8, x9, x10, x11, x12, x13, rfl⟩
theorem one_of {a b : Value} (h : [a] = [b]) : a = b := by injection h
theorem two_of {a b c d : Value} (h : [a, b] = [c, d]) : a = c ∧ b = d := by injection h with h1 h2; injection h2 with h2; exact ⟨h1, h2⟩
section
variable {H : Type} {enc : TypeId × Value → H} {w : World} {base : Nat} {spare : Nat → Bool} {held : Bool}
theorem book_ints {n : Nat} {v : Value} {y : DataW H × List MemPlace} (h : DataW.trod enc Try.prog w base spare held n 31 [v] = some y) :
 ∃ l : List Int, Sl w w.heap.size 1 v l.length (l.map I) := by
 rcases open_ints Try.underlying31 Try.underlying3 (by kernel_rfl) h with ⟨hc, -⟩ | ⟨a, len, cap, zs, hc, -, hl, hm, hz, -, hcell, -⟩
 · injection hc with hc
   subst hc
   exact ⟨[], by simp, none, 0, rfl, Nat.le_refl _, by unfold maxLen; omega, fun h => by simp at h⟩
 · injection hc with hc
   subst hc
   have hle : len ≤ zs.length := by rw [hz]; split <;> omega
   have hlen : (zs.take len).length = len := by simp; omega
   refine ⟨zs.take len, by simp, some a, cap, by rw [hlen], by omega, hm, fun h0 => ?_⟩
   have h00 := hcell 0 (by omega)
   obtain ⟨hf, hb⟩ := addr_form (a := a) (by simpa [Addr.add] using h00)
   refine ⟨a.block, a.off, by rw [← hf], hb, fun j u hu => ?_⟩
   have hj : j < len := by
    have := (List.getElem?_eq_some_iff.1 hu).1
    simp at this
    omega
   have h1 := hcell j (by omega)
   rw [hf, addr_add] at h1
   rw [h1, ← hu, List.getElem?_map, List.getElem?_take, if_pos hj, List.getD_eq_getElem?_getD, List.getElem?_eq_getElem (by omega)]
   rfl
theorem book_rows {α : Type} (x0 : α) (N : Nat) (h0N : 0 < N) (row : α → List Value) (hrow : ∀ x, (row x).length = N) {t e : TypeId} (ht : Try.prog.underlying t = some (.slice e)) (hc4 : Try.prog.cellsOf e = N)
 (hel : ∀ n cs y, DataW.trod enc Try.prog w base spare held n e cs = some y → ∃ x, cs = row x)
 {n : Nat} {v : Value} {y : DataW H × List MemPlace} (h : DataW.trod enc Try.prog w base spare held n t [v] = some y) :
 ∃ l : List α, Sl w w.heap.size N v l.length (l.flatMap row) := by
 rcases open_slice ht h with ⟨hc, -⟩ | ⟨a, len, cap, m, n', D, Pl, hc, -, hl, hm, hz, -, hx⟩
 · injection hc with hc
   subst hc
   exact ⟨[], by simp, none, 0, rfl, Nat.le_refl _, by unfold maxLen; omega, fun h => by simp at h⟩
 · injection hc with hc
   subst hc
   have hle : len ≤ m := by rw [hz]; split <;> omega
   have hex : ∀ i, i < len → ∃ x, ∀ j, j < N → w.cell? (a.add (i * N + j)) = (row x)[j]? := by
    intro i hi
    obtain ⟨cs, h1, h2⟩ := hx i (by omega)
    obtain ⟨x, rfl⟩ := hel _ _ _ h2
    rw [hc4] at h1
    obtain ⟨-, -, hcell⟩ := World.cells?_some h1
    refine ⟨x, fun j hj => ?_⟩
    rw [← hcell j hj, Go.Deep.add_add]
   obtain ⟨f, hf⟩ : ∃ f : Nat → α, ∀ i, i < len → ∀ j, j < N → w.cell? (a.add (i * N + j)) = (row (f i))[j]? :=
    ⟨fun i => if h : i < len then Classical.choose (hex i h) else x0, fun i hi => by
     simp only [hi, dif_pos]
     exact Classical.choose_spec (hex i hi)⟩
   refine ⟨(List.range len).map f, ?_, some a, cap, by simp, by simpa using hl, hm, fun h0 => ?_⟩
   · rw [len_flatN N row hrow]
   have h0' : 0 < len := by simpa using h0
   have h00 := hf 0 h0' 0 h0N
   have hs0 : 0 < (row (f 0)).length := by rw [hrow]; exact h0N
   rw [List.getElem?_eq_getElem hs0] at h00
   obtain ⟨hfm, hb⟩ := addr_form (a := a) (v := (row (f 0))[0]) (by simpa [Addr.add] using h00)
   refine ⟨a.block, a.off, by rw [← hfm], hb, fun j u hu => ?_⟩
   have hj : j < len * N := by
    have := (List.getElem?_eq_some_iff.1 hu).1
    rw [len_flatN N row hrow] at this
    simpa using this
   have hd := Nat.div_add_mod' j N
   have hq : j / N < len := Nat.div_lt_of_lt_mul (by rw [Nat.mul_comm]; exact hj)
   have hr : j % N < N := Nat.mod_lt _ h0N
   have h1 := hf (j / N) hq (j % N) hr
   rw [hfm, addr_add, hd] at h1
   have h2 := flatN N row hrow ((List.range len).map f) (j / N) (j % N) (by simpa using hq) hr
   rw [hd] at h2
   rw [h1, ← hu, h2]
   simp
theorem read_int {n : Nat} {cs : List Value} {y : DataW H × List MemPlace} (h : DataW.trod enc Try.prog w base spare held n 3 cs = some y) : ∃ x, cs = [I x] := by
 obtain ⟨x, hx, -⟩ := DataW.trod_int Try.underlying3 h
 exact ⟨x, hx⟩
theorem read_span {n : Nat} {cs : List Value} {y : DataW H × List MemPlace} (h : DataW.trod enc Try.prog w base spare held n 24 cs = some y) : ∃ x : Ld.Sp, cs = cSp x := by
 obtain ⟨y0, y1, m, -, hl, h0, h1⟩ := trod_struct2 Try.underlying24 h
 obtain ⟨c0, c1, rfl⟩ := list2 (hl.trans (by kernel_rfl : Try.prog.cellsOf 24 = 2))
 have k3 : Try.prog.cellsOf 3 = 1 := by kernel_rfl
 clear hl
 rw [k3] at h0 h1
 obtain ⟨a, ha⟩ := read_int h0
 obtain ⟨b, hb⟩ := read_int h1
 exact ⟨⟨a, b⟩, by rw [one_of ha, one_of hb]; rfl⟩
theorem read_sound {n : Nat} {cs : List Value} {y : DataW H × List MemPlace} (h : DataW.trod enc Try.prog w base spare held n 64 cs = some y) : ∃ x : Ld.Sd, cs = cSd x := by
 obtain ⟨xs, m, -, -, hl, hlen, hf⟩ := DataW.trod_struct Try.underlying64 h
 obtain ⟨c0, c1, c2, rfl⟩ := list3 (hl.trans (by kernel_rfl : Try.prog.cellsOf 64 = 3))
 obtain ⟨y0, y1, y2, rfl⟩ := list3 hlen
 have k3 : Try.prog.cellsOf 3 = 1 := by kernel_rfl
 have h0 : DataW.trod enc Try.prog w base spare held m 3 (([c0, c1, c2].drop (0)).take (Try.prog.cellsOf 3)) = some y0 := hf 0 _ rfl
 have h1 : DataW.trod enc Try.prog w base spare held m 3 (([c0, c1, c2].drop (1)).take (Try.prog.cellsOf 3)) = some y1 := hf 1 _ rfl
 have h2 : DataW.trod enc Try.prog w base spare held m 3 (([c0, c1, c2].drop (2)).take (Try.prog.cellsOf 3)) = some y2 := hf 2 _ rfl
 clear hl hlen hf
 rw [k3] at h0 h1 h2
 obtain ⟨a, ha⟩ := read_int h0
 obtain ⟨b, hb⟩ := read_int h1
 obtain ⟨c, hc⟩ := read_int h2
 exact ⟨⟨a, b, c⟩, by rw [one_of ha, one_of hb, one_of hc]; rfl⟩
def cSh (s : Ld.Sh) : List Value := [I s.floor.lo, I s.floor.hi, I s.lo, I s.hi]
theorem read_shore {n : Nat} {cs : List Value} {y : DataW H × List MemPlace} (h : DataW.trod enc Try.prog w base spare held n 26 cs = some y) : ∃ x : Ld.Sh, cs = cSh x := by
 obtain ⟨xs, m, -, -, hl, hlen, hf⟩ := DataW.trod_struct Try.underlying26 h
 obtain ⟨c0, c1, c2, c3, rfl⟩ := list4 (hl.trans (by kernel_rfl : Try.prog.cellsOf 26 = 4))
 obtain ⟨y0, y1, y2, rfl⟩ := list3 hlen
 have k3 : Try.prog.cellsOf 3 = 1 := by kernel_rfl
 have k2 : Try.prog.cellsOf 24 = 2 := by kernel_rfl
 have h0 : DataW.trod enc Try.prog w base spare held m 24 (([c0, c1, c2, c3].drop (0)).take (Try.prog.cellsOf 24)) = some y0 := hf 0 _ rfl
 have h1 : DataW.trod enc Try.prog w base spare held m 3 (([c0, c1, c2, c3].drop (2)).take (Try.prog.cellsOf 3)) = some y1 := hf 1 _ rfl
 have h2 : DataW.trod enc Try.prog w base spare held m 3 (([c0, c1, c2, c3].drop (3)).take (Try.prog.cellsOf 3)) = some y2 := hf 2 _ rfl
 clear hl hlen hf
 rw [k2] at h0
 rw [k3] at h1 h2
 obtain ⟨a, ha⟩ := read_span h0
 obtain ⟨b, hb⟩ := read_int h1
 obtain ⟨c, hc⟩ := read_int h2
 obtain ⟨e0, e1⟩ := two_of ha
 exact ⟨⟨a, b, c⟩, by rw [e0, e1, one_of hb, one_of hc]; rfl⟩
theorem four_of {a b c d e f g i : Value} (h : [a, b, c, d] = [e, f, g, i]) : a = e ∧ b = f ∧ c = g ∧ d = i := by
 injection h with h1 h
 injection h with h2 h
 injection h with h3 h
 injection h with h4 h
 exact ⟨h1, h2, h3, h4⟩
set_option maxRecDepth 100000 in
theorem read_shores {n : Nat} {cs : List Value} {y : DataW H × List MemPlace} (h : DataW.trod enc Try.prog w base spare held n 27 cs = some y) (hl : cs.length = 8) : ∃ x z : Ld.Sh, cs = cSh x ++ cSh z := by
 obtain ⟨xs, m, -, -, -, hlen, hg⟩ := DataW.trod_array Try.underlying27 h
 obtain ⟨y0, y1, rfl⟩ := list2 hlen
 have k4 : Try.prog.cellsOf 26 = 4 := by kernel_rfl
 have h0 : DataW.trod enc Try.prog w base spare held m 26 ((cs.drop (0 * Try.prog.cellsOf 26)).take (Try.prog.cellsOf 26)) = some y0 := hg 0 (by decide)
 have h1 : DataW.trod enc Try.prog w base spare held m 26 ((cs.drop (1 * Try.prog.cellsOf 26)).take (Try.prog.cellsOf 26)) = some y1 := hg 1 (by decide)
 rw [k4] at h0 h1
 obtain ⟨a, ha⟩ := read_shore h0
 obtain ⟨b, hb⟩ := read_shore h1
 refine ⟨a, b, ?_⟩
 rw [← ha, ← hb]
 simp only [Nat.zero_mul, List.drop_zero, Nat.one_mul]
 rw [List.take_of_length_le (l := cs.drop 4) (by simp; omega), List.take_append_drop]
set_option maxRecDepth 100000 in
theorem open_book {r : Reach} {b0 : Nat} {v : Value} {d : DataW H} {p : List MemPlace} (hv : Value.okWide Try.prog w r b0 30 v) (h : DataW.Trod enc Try.prog w base spare held 30 v d p) :
 ∃ (b : Ld.Bk) (T D : Value), v = vBk T D b ∧ RB w w.heap.size b T D := by
 obtain ⟨cs, rfl, hsz⟩ := okWide_struct Try.underlying30 hv
 obtain ⟨fuel, hf⟩ := h
 obtain ⟨xs, m, -, -, -, hlen, hg⟩ := DataW.trod_struct Try.underlying30 hf
 obtain ⟨cs⟩ := cs
 obtain ⟨c0, c1, c2, c3, c4, c5, c6, c7, c8, c9, c10, c11, c12, c13, rfl⟩ := list14 (l := cs) (hsz.trans (by kernel_rfl : Try.prog.cellsOf 30 = 14))
 obtain ⟨y0, y1, y2, y3, y4, y5, rfl⟩ := list6 hlen
 have k0 : Try.prog.cellsOf 22 = 1 := by kernel_rfl
 have k1 : Try.prog.cellsOf 27 = 8 := by kernel_rfl
 have k2 : Try.prog.cellsOf 24 = 2 := by kernel_rfl
 have k3 : Try.prog.cellsOf 3 = 1 := by kernel_rfl
 have k4 : Try.prog.cellsOf 3 = 1 := by kernel_rfl
 have k5 : Try.prog.cellsOf 28 = 1 := by kernel_rfl
 have h0 : DataW.trod enc Try.prog w base spare held m 22 (([c0, c1, c2, c3, c4, c5, c6, c7, c8, c9, c10, c11, c12, c13].drop (0)).take (Try.prog.cellsOf 22)) = some y0 := hg 0 _ rfl
 have h1 : DataW.trod enc Try.prog w base spare held m 27 (([c0, c1, c2, c3, c4, c5, c6, c7, c8, c9, c10, c11, c12, c13].drop (1)).take (Try.prog.cellsOf 27)) = some y1 := hg 1 _ rfl
 have h2 : DataW.trod enc Try.prog w base spare held m 24 (([c0, c1, c2, c3, c4, c5, c6, c7, c8, c9, c10, c11, c12, c13].drop (9)).take (Try.prog.cellsOf 24)) = some y2 := hg 2 _ rfl
 have h3 : DataW.trod enc Try.prog w base spare held m 3 (([c0, c1, c2, c3, c4, c5, c6, c7, c8, c9, c10, c11, c12, c13].drop (11)).take (Try.prog.cellsOf 3)) = some y3 := hg 3 _ rfl
 have h4 : DataW.trod enc Try.prog w base spare held m 3 (([c0, c1, c2, c3, c4, c5, c6, c7, c8, c9, c10, c11, c12, c13].drop (12)).take (Try.prog.cellsOf 3)) = some y4 := hg 4 _ rfl
 have h5 : DataW.trod enc Try.prog w base spare held m 28 (([c0, c1, c2, c3, c4, c5, c6, c7, c8, c9, c10, c11, c12, c13].drop (13)).take (Try.prog.cellsOf 28)) = some y5 := hg 5 _ rfl
 clear hsz hlen hg hf hv
 rw [k0] at h0
 rw [k1] at h1
 rw [k2] at h2
 rw [k3] at h3
 rw [k4] at h4
 rw [k5] at h5
 obtain ⟨l0, s0⟩ := book_rows (v := c0) ⟨0, 0⟩ 2 (by omega) cSp (fun _ => rfl) Try.underlying22 (by kernel_rfl) (fun _ _ _ => read_span) h0
 obtain ⟨l1, s1⟩ := book_rows (v := c13) ⟨0, 0, 0⟩ 3 (by omega) cSd (fun _ => rfl) Try.underlying28 (by kernel_rfl) (fun _ _ _ => read_sound) h5
 obtain ⟨sh0, sh1, hs⟩ := read_shores h1 rfl
 obtain ⟨em, he⟩ := read_span h2
 obtain ⟨sk, hk⟩ := read_int h3
 obtain ⟨un, hu⟩ := read_int h4
 have hk' : c11 = I sk := one_of hk
 have hu' : c12 = I un := one_of hu
 obtain ⟨he0, he1⟩ : c9 = I em.lo ∧ c10 = I em.hi := two_of he
 have hs' : [c1, c2, c3, c4] ++ [c5, c6, c7, c8] = cSh sh0 ++ cSh sh1 := hs
 obtain ⟨hs1, hs2⟩ := List.append_inj hs' rfl
 obtain ⟨a1, a2, a3, a4⟩ := four_of hs1
 obtain ⟨a5, a6, a7, a8⟩ := four_of hs2
 subst hk' hu' he0 he1 a1 a2 a3 a4 a5 a6 a7 a8
 exact ⟨⟨l0, sh0, sh1, em, sk, un, l1⟩, c0, c13, rfl, s0, s1⟩
set_option maxRecDepth 100000 in
theorem open_ints3 {r : Reach} {b0 : Nat} {v : Value} {d : DataW H} {p : List MemPlace} (hv : Value.okWide Try.prog w r b0 32 v) (h : DataW.Trod enc Try.prog w base spare held 32 v d p) :
 ∃ a0 a1 a2, v = .agg #[I a0, I a1, I a2] := by
 have hv' := hv
 simp only [Value.okWide, Try.underlying32] at hv'
 obtain ⟨cs, rfl, hsz, -⟩ := hv'
 obtain ⟨fuel, hf⟩ := h
 obtain ⟨xs, m, -, -, -, hlen, hg⟩ := DataW.trod_array Try.underlying32 hf
 obtain ⟨cs⟩ := cs
 obtain ⟨c0, c1, c2, rfl⟩ := list3 (l := cs) (hsz.trans (by kernel_rfl : Try.prog.cellsOf 32 = 3))
 obtain ⟨y0, y1, y2, rfl⟩ := list3 hlen
 have k3 : Try.prog.cellsOf 3 = 1 := by kernel_rfl
 have h0 : DataW.trod enc Try.prog w base spare held m 3 (([c0, c1, c2].drop (0 * Try.prog.cellsOf 3)).take (Try.prog.cellsOf 3)) = some y0 := hg 0 (by decide)
 have h1 : DataW.trod enc Try.prog w base spare held m 3 (([c0, c1, c2].drop (1 * Try.prog.cellsOf 3)).take (Try.prog.cellsOf 3)) = some y1 := hg 1 (by decide)
 have h2 : DataW.trod enc Try.prog w base spare held m 3 (([c0, c1, c2].drop (2 * Try.prog.cellsOf 3)).take (Try.prog.cellsOf 3)) = some y2 := hg 2 (by decide)
 clear hsz hlen hg hf hv
 rw [k3] at h0 h1 h2
 obtain ⟨a0, ha0⟩ := read_int h0
 have hb0 : c0 = I a0 := one_of ha0
 obtain ⟨a1, ha1⟩ := read_int h1
 have hb1 : c1 = I a1 := one_of ha1
 obtain ⟨a2, ha2⟩ := read_int h2
 have hb2 : c2 = I a2 := one_of ha2
 exact ⟨a0, a1, a2, by rw [hb0, hb1, hb2]⟩
set_option maxRecDepth 100000 in
theorem open_ints4 {r : Reach} {b0 : Nat} {v : Value} {d : DataW H} {p : List MemPlace} (hv : Value.okWide Try.prog w r b0 57 v) (h : DataW.Trod enc Try.prog w base spare held 57 v d p) :
 ∃ a0 a1 a2 a3, v = .agg #[I a0, I a1, I a2, I a3] := by
 have hv' := hv
 simp only [Value.okWide, Try.underlying57] at hv'
 obtain ⟨cs, rfl, hsz, -⟩ := hv'
 obtain ⟨fuel, hf⟩ := h
 obtain ⟨xs, m, -, -, -, hlen, hg⟩ := DataW.trod_array Try.underlying57 hf
 obtain ⟨cs⟩ := cs
 obtain ⟨c0, c1, c2, c3, rfl⟩ := list4 (l := cs) (hsz.trans (by kernel_rfl : Try.prog.cellsOf 57 = 4))
 obtain ⟨y0, y1, y2, y3, rfl⟩ := list4 hlen
 have k3 : Try.prog.cellsOf 3 = 1 := by kernel_rfl
 have h0 : DataW.trod enc Try.prog w base spare held m 3 (([c0, c1, c2, c3].drop (0 * Try.prog.cellsOf 3)).take (Try.prog.cellsOf 3)) = some y0 := hg 0 (by decide)
 have h1 : DataW.trod enc Try.prog w base spare held m 3 (([c0, c1, c2, c3].drop (1 * Try.prog.cellsOf 3)).take (Try.prog.cellsOf 3)) = some y1 := hg 1 (by decide)
 have h2 : DataW.trod enc Try.prog w base spare held m 3 (([c0, c1, c2, c3].drop (2 * Try.prog.cellsOf 3)).take (Try.prog.cellsOf 3)) = some y2 := hg 2 (by decide)
 have h3 : DataW.trod enc Try.prog w base spare held m 3 (([c0, c1, c2, c3].drop (3 * Try.prog.cellsOf 3)).take (Try.prog.cellsOf 3)) = some y3 := hg 3 (by decide)
 clear hsz hlen hg hf hv
 rw [k3] at h0 h1 h2 h3
 obtain ⟨a0, ha0⟩ := read_int h0
 have hb0 : c0 = I a0 := one_of ha0
 obtain ⟨a1, ha1⟩ := read_int h1
 have hb1 : c1 = I a1 := one_of ha1
 obtain ⟨a2, ha2⟩ := read_int h2
 have hb2 : c2 = I a2 := one_of ha2
 obtain ⟨a3, ha3⟩ := read_int h3
 have hb3 : c3 = I a3 := one_of ha3
 exact ⟨a0, a1, a2, a3, by rw [hb0, hb1, hb2, hb3]⟩
set_option maxRecDepth 100000 in
theorem open_sound {r : Reach} {b0 : Nat} {v : Value} {d : DataW H} {p : List MemPlace} (hv : Value.okWide Try.prog w r b0 64 v) (h : DataW.Trod enc Try.prog w base spare held 64 v d p) :
 ∃ s : Ld.Sd, v = vSd s := by
 obtain ⟨cs, rfl, hsz⟩ := okWide_struct Try.underlying64 hv
 obtain ⟨fuel, hf⟩ := h
 obtain ⟨cs⟩ := cs
 obtain ⟨s, hs⟩ := read_sound hf
 have hs' : cs = cSd s := hs
 subst hs'
 exact ⟨s, rfl⟩
set_option maxRecDepth 100000 in
theorem open_list {r : Reach} {b0 : Nat} {v : Value} {d : DataW H} {p : List MemPlace} (hv : Value.okWide Try.prog w r b0 31 v) (h : DataW.Trod enc Try.prog w base spare held 31 v d p) :
 ∃ l : List Int, Sl w w.heap.size 1 v l.length (l.map I) := by
 obtain ⟨fuel, hf⟩ := h
 have hc : v.cells.toList = [v] := by
  cases v <;> first | rfl | (exfalso; simp [Value.okWide, Try.underlying31, Cell.okWide, Cell.ok] at hv)
 rw [hc] at hf
 exact book_ints hf
theorem open_int {r : Reach} {b0 : Nat} {v : Value} {d : DataW H} {p : List MemPlace} (hv : Value.okWide Try.prog w r b0 3 v) (h : DataW.Trod enc Try.prog w base spare held 3 v d p) :
 ∃ n : Int, v = I n := by
 obtain ⟨fuel, hf⟩ := h
 have hc : v.cells.toList = [v] := by
  cases v <;> first | rfl | (exfalso; simp [Value.okWide, Try.underlying3, Cell.okWide, Cell.ok] at hv)
 rw [hc] at hf
 obtain ⟨n, hn⟩ := read_int hf
 exact ⟨n, one_of hn⟩
end
end Go.Proofs.Ytjgpghaofhcfnaa
namespace Go.Proofs.Ytjgpghaofhcfnaa
open Go.ChangeShapes Go.WideShapes Go.ChangeAt Go.RowKit
theorem knob_own : ownKnob Try.prog.godebug = none := by kernel_rfl
theorem laid_out : laidOutB Try.prog = true := by kernel_rfl
theorem post_kept {H : Type} {enc : TypeId × Value → H} {P : Program} {f : Func} {s : ChangeSpec} {apart fresh handsOn again : Bool} {W W' : World} {args : Array Value} {v : Value} {ds gs : List (DataW H)} {before pa pv : List MemPlace}
 (hW : DataW.Whole enc P f.params.toList s.vars apart W args.toList ds gs before)
 (hres : ∀ (b : Nat) (sp : Nat → Bool) (hd : Bool), DataW.TrodAll enc P W' b sp hd f.resultTypes.toList (v.resultList f.resultTypes.size) (s.fn H (ds ++ gs)).results [])
 (hargs : ∀ sp : Nat → Bool, (∀ p ∈ before, sp p.block = true) → DataW.TrodAll enc P W' 0 sp true f.params.toList args.toList (s.fn H (ds ++ gs)).args pa)
 (hvars : ∀ sp : Nat → Bool, (∀ p ∈ before, sp p.block = true) → DataW.TrodVars enc P W' sp s.vars (s.fn H (ds ++ gs)).vars pv)
 (hps : before = pa ++ pv) (hb : Below W.heap.size W W')
 (hok : ∀ (j : Nat) (t : TypeId) (r : Value), f.resultTypes[j]? = some t → (v.resultList f.resultTypes.size)[j]? = some r → Value.okWide P W' .any 0 t r) :
 s.post enc P f apart fresh handsOn again W args v W' := by
 have old : ∀ p ∈ before, p.block < W.heap.size := fun p hp => hW.lt p hp
 have old' : ∀ p ∈ before, (fun k => decide (k < W.heap.size)) p.block = true := fun p hp => decide_eq_true (old p hp)
 have all' : ∀ p ∈ before, (fun _ : Nat => true) p.block = true := fun _ _ => rfl
 have hpl : ([] ++ pa) ++ pv = before := by rw [List.nil_append, hps]
 obtain ⟨_, _, _, _, _, hz, hn⟩ := id hW
 refine ⟨ds, gs, before, [], pa, pv, hW, hres _ _ _, hargs _ old', hvars _ old', World.keptBut_mono (fun p hp => ⟨hp, ?_⟩) (hb.frame (· ∈ before)), fun _ => ⟨hok, _, _, ([] ++ pa) ++ pv, ⟨[] ++ pa, pv, trodAll_append (hargs _ all') (hres _ _ _), hvars _ all', rfl, ?_, ?_⟩, ?_⟩⟩
 · exact .inr (List.mem_append.1 (by rw [← hps]; exact hp))
 · intro k o hp
   rw [hpl] at hp
   rw [hb.frozen (old _ hp)]
   exact hz k o hp
 · intro ha
   rw [hpl]
   exact hn ha
 · intro p hp _
   rw [hpl] at hp
   exact hp
end Go.Proofs.Ytjgpghaofhcfnaa
