/- Texts on the program that the proof leans on, part 5. -/
import Derived.Test.YtjgpghaofhcfnaaYac
import Derived.Test.YtjgpghaofhcfnaaYad
import Derived.Laws.StructEq
set_option linter.unusedVariables false
set_option linter.unusedSimpArgs false

namespace Go.Proofs.Ytjgpghaofhcfnaa
open Go.RowKit
def cSp (s : Ld.Sp) : List Value := [I s.lo, I s.hi]
def cSd (s : Ld.Sd) : List Value := [I s.hour, I s.shore, I s.deep]
abbrev vSd (s : Ld.Sd) : Value := .agg #[I s.hour, I s.shore, I s.deep]
abbrev vSlip (h s : Int) : Value := .agg #[I h, I s]
abbrev rBk (T D : Value) (b : Ld.Bk) : Array Value := #[T, I b.s0.floor.lo, I b.s0.floor.hi, I b.s0.lo, I b.s0.hi, I b.s1.floor.lo, I b.s1.floor.hi, I b.s1.lo, I b.s1.hi, I b.empty.lo, I b.empty.hi, I b.sink, I b.under, D]
abbrev vBk (T D : Value) (b : Ld.Bk) : Value := .agg #[T, I b.s0.floor.lo, I b.s0.floor.hi, I b.s0.lo, I b.s0.hi, I b.s1.floor.lo, I b.s1.floor.hi, I b.s1.lo, I b.s1.hi, I b.empty.lo, I b.empty.hi, I b.sink, I b.under, D]
structure RB (w : World) (B : Nat) (b : Ld.Bk) (T D : Value) : Prop where
 tides : Sl w B 2 T b.tides.length (b.tides.flatMap cSp)
 sounds : Sl w B 3 D b.sounds.length (b.sounds.flatMap cSd)
theorem RB.below {w w' : World} {B B' : Nat} {b : Ld.Bk} {T D : Value} (h : RB w B b T D) (hb : Below B' w w') (hB : B ≤ B') : RB w' B b T D :=
 ⟨h.tides.below hb hB, h.sounds.below hb hB⟩
theorem RB.more {w : World} {B B' : Nat} {b : Ld.Bk} {T D : Value} (h : RB w B b T D) (hB : B ≤ B') : RB w B' b T D :=
 ⟨h.tides.more hB, h.sounds.more hB⟩
theorem RB.keep {w w' : World} {B : Nat} {b : Ld.Bk} {T D : Value} (h : RB w B b T D) (hk : ∀ p : Addr, p.block < B → w'.cell? p = w.cell? p) : RB w' B b T D :=
 ⟨h.tides.keep hk, h.sounds.keep hk⟩
theorem RB.up {w w' : World} {b : Ld.Bk} {T D : Value} (h : RB w w.heap.size b T D) (hb : Below w.heap.size w w') : RB w' w'.heap.size b T D :=
 (h.below hb (Nat.le_refl _)).more hb.size
theorem Sl.at2 {w : World} {B n : Nat} {v : Value} {xs : List Value} (h : Sl w B 2 v n xs) {k : Nat} (hk : k < n) :
 ∃ b off c, v = .slice (some ⟨b, off, none⟩) n c ∧ b < B ∧ w.cell? ⟨b, off + k * 2, none⟩ = xs[k * 2]? ∧ w.cell? ⟨b, off + k * 2 + 1, none⟩ = xs[k * 2 + 1]? := by
 obtain ⟨h1, A, c, rfl, h2, h3, h4⟩ := h
 obtain ⟨b, off, rfl, hb, hc⟩ := h4 (by omega)
 have g : ∀ j, j < 2 → w.cell? ⟨b, off + k * 2 + j, none⟩ = xs[k * 2 + j]? := by
  intro j hj
  have hl : k * 2 + j < xs.length := by omega
  rw [List.getElem?_eq_getElem hl, Nat.add_assoc]
  exact hc _ _ (List.getElem?_eq_getElem hl)
 exact ⟨b, off, c, rfl, hb, g 0 (by omega), g 1 (by omega)⟩
theorem RB.tide {w : World} {B : Nat} {b : Ld.Bk} {T D : Value} (h : RB w B b T D) {k : Nat} (hk : k < b.tides.length) :
 ∃ bl off c, T = .slice (some ⟨bl, off, none⟩) b.tides.length c ∧ bl < B ∧ w.cell? ⟨bl, off + k * 2, none⟩ = some (I b.tides[k].lo) ∧ w.cell? ⟨bl, off + k * 2 + 1, none⟩ = some (I b.tides[k].hi) := by
 obtain ⟨bl, off, c, hv, hb, h0, h1⟩ := h.tides.at2 hk
 refine ⟨bl, off, c, hv, hb, h0.trans ?_, h1.trans ?_⟩
 · have := flatN 2 cSp (fun _ => rfl) b.tides k 0 hk (by omega); simpa [cSp] using this
 · have := flatN 2 cSp (fun _ => rfl) b.tides k 1 hk (by omega); simpa [cSp] using this
theorem Sl.sd {w : World} {B : Nat} {l : List Ld.Sd} {D : Value} (h : Sl w B 3 D l.length (l.flatMap cSd)) {k : Nat} (hk : k < l.length) :
 ∃ bl off c, D = .slice (some ⟨bl, off, none⟩) l.length c ∧ bl < B ∧ w.cell? ⟨bl, off + k * 3, none⟩ = some (I l[k].hour) ∧ w.cell? ⟨bl, off + k * 3 + 1, none⟩ = some (I l[k].shore) ∧ w.cell? ⟨bl, off + k * 3 + 2, none⟩ = some (I l[k].deep) := by
 obtain ⟨bl, off, c, hv, hb, h0, h1, h2⟩ := h.at3 hk
 refine ⟨bl, off, c, hv, hb, h0.trans ?_, h1.trans ?_, h2.trans ?_⟩
 · have := flatN 3 cSd (fun _ => rfl) l k 0 hk (by omega); simpa [cSd] using this
 · have := flatN 3 cSd (fun _ => rfl) l k 1 hk (by omega); simpa [cSd] using this
 · have := flatN 3 cSd (fun _ => rfl) l k 2 hk (by omega); simpa [cSd] using this
set_option maxHeartbeats 400000 in
theorem heights_any (w : World) :
 Calls Try.prog 99 #[] w fun e w' => e = .returned (vSp Ld.heights) ∧ Below w.heap.size w w' := by
 go_enter Try.func99, Try.ntmps99
 go_wp2
 refine bodyPost_ret (v := vSp Ld.heights) (by simp [results, Try.results99, go_sem, Ld.heights]) rfl ⟨rfl, ?_⟩
 exact (Below.refl _ _).alloc (Nat.le_refl _) _
set_option maxHeartbeats 1000000 in
theorem isHeight_any (s : Ld.Sp) (w : World) :
 Calls Try.prog 97 #[vSp s] w fun e w' => e = .returned (.bool (Ld.isHeight s)) ∧ Below w.heap.size w w' := by
 obtain ⟨lo, hi⟩ := s
 have HK : ∀ W, Calls Try.prog 100 #[vSp ⟨lo, hi⟩, vSp Ld.heights, I 4] W fun e w' => e = .returned (.bool (Ld.isHeight ⟨lo, hi⟩)) ∧ Below W.heap.size W w' := fun W => isKnown_any _ _ _ W (by simp [Ld.heights]) (by simp [Ld.heights])
 have HKK := Lib.hid HK
 clear HK
 go_enter Try.func97, Try.ntmps97
 go_wp2_with fail
 refine name_world ?_
 intro W hW
 have hB : Below w.heap.size w W := by rw [hW]; exact (Below.refl _ _).alloc (Nat.le_refl _) _
 have hr : W.heap[w.heap.size]? = some (.cells #[I lo, I hi] 24 (0, 0)) := by rw [hW]; exact heap_at _ _ rfl
 have hlt : w.heap.size < W.heap.size := heap_lt hr
 have c0 := cell_of_row W _ 0 _ _ _ hr
 have c1 := cell_of_row W _ 1 _ _ _ hr
 simp only [List.getElem?_toArray, List.getElem?_cons_zero, List.getElem?_cons_succ] at c0 c1
 have HB := Lib.hid hB
 clear hW hr hB
 go_region_held3 (fun w' => Held W w') (first | assumption | exact held_start _ | exact held_step (by assumption) (by assumption) | exact held_step (by assumption) (held_start _) | go_keep)
  (first | (go_at_call 99; refine (heights_any _).mono ?_; rintro e w1 ⟨rfl, hB1⟩)
         | (go_at_call 100; refine (HKK.out _).mono ?_; rintro e w1 ⟨rfl, hB1⟩))
 all_goals
  rename_i hHE
  have hbX := HB.out.trans (hHE.2.2.mono HB.out.size)
  have HBX := Lib.hid hbX
  clear hbX
  go_wp2_with fail
  go_ret
  exact ⟨rfl, HBX.out⟩
set_option maxHeartbeats 1000000 in
theorem isDraught_any (s : Ld.Sp) (w : World) :
 Calls Try.prog 81 #[vSp s] w fun e w' => e = .returned (.bool (Ld.isDraught s)) ∧ Below w.heap.size w w' := by
 obtain ⟨lo, hi⟩ := s
 have HK : ∀ W, Calls Try.prog 100 #[vSp ⟨lo, hi⟩, vSp ⟨0, 40⟩, I 4] W fun e w' => e = .returned (.bool (Ld.isDraught ⟨lo, hi⟩)) ∧ Below W.heap.size W w' := fun W => isKnown_any _ _ _ W (by simp) (by simp)
 have HKK := Lib.hid HK
 clear HK
 go_enter Try.func81, Try.ntmps81
 go_wp2_with fail
 refine (HKK.out _).mono ?_
 rintro e w1 ⟨rfl, hB1⟩
 have hB : Below w.heap.size w w1 := ((Below.refl _ _).alloc (Nat.le_refl _) _).trans (hB1.mono (by simp))
 have HB := Lib.hid hB
 clear hB hB1
 go_wp2_with fail
 go_ret
 exact ⟨rfl, HB.out⟩
set_option maxHeartbeats 400000 in
theorem isDeep_any (n : Int) (w : World) :
 Calls Try.prog 101 #[I n] w fun e w' => e = .returned (.bool (Ld.isDeep n)) ∧ Below w.heap.size w w' := by
 by_cases h1 : 0 ≤ n <;> by_cases h2 : n ≤ 120
 all_goals
  go_enter Try.func101, Try.ntmps101
  go_wp2
  go_ret
  exact ⟨ret_b (by simp [Ld.isDeep, h1, h2]), Below.refl _ _⟩
set_option maxHeartbeats 400000 in
theorem isLoad_any (n : Int) (w : World) :
 Calls Try.prog 59 #[I n] w fun e w' => e = .returned (.bool (Ld.isLoad n)) ∧ Below w.heap.size w w' := by
 by_cases h1 : 0 ≤ n <;> by_cases h2 : n ≤ 200
 all_goals
  go_enter Try.func59, Try.ntmps59
  go_wp2
  go_ret
  exact ⟨ret_b (by simp [Ld.isLoad, h1, h2]), Below.refl _ _⟩
set_option maxHeartbeats 400000 in
theorem isShore_any (n : Int) (w : World) :
 Calls Try.prog 57 #[I n] w fun e w' => e = .returned (.bool (Ld.isShore n)) ∧ Below w.heap.size w w' := by
 by_cases h1 : n = 0
 · subst h1
   go_enter Try.func57, Try.ntmps57
   go_wp2
   go_ret
   exact ⟨rfl, Below.refl _ _⟩
 · have b1 : (n == 0) = false := beq_eq_false_iff_ne.2 h1
   by_cases h2 : n = 1
   · subst h2
     go_enter Try.func57, Try.ntmps57
     go_wp2
     go_ret
     exact ⟨rfl, Below.refl _ _⟩
   · have b2 : (n == 1) = false := beq_eq_false_iff_ne.2 h2
     have hh : Ld.isShore n = false := by simp [Ld.isShore, h1, h2]
     have HH := Lib.hid hh
     clear h1 h2 hh
     go_enter Try.func57, Try.ntmps57
     go_wp2
     go_ret
     exact ⟨ret_b HH.out.symm, Below.refl _ _⟩
set_option maxHeartbeats 400000 in
theorem isHour_any (b : Ld.Bk) (T D : Value) (hr : Int) (w : World) (hb : RB w w.heap.size b T D) :
 Calls Try.prog 55 #[vBk T D b, I hr] w fun e w' => e = .returned (.bool (Ld.isHour b hr)) ∧ Below w.heap.size w w' := by
 obtain ⟨A, c, rfl⟩ := hb.tides.form
 obtain ⟨A1, c1, rfl⟩ := hb.sounds.form
 by_cases h1 : 0 ≤ hr <;> by_cases h2 : hr < b.tides.length
 all_goals
  go_enter Try.func55, Try.ntmps55
  go_wp2
  go_ret
  exact ⟨ret_b (by simp [Ld.isHour, h1, h2]), (Below.refl _ _).alloc (Nat.le_refl _) _⟩
set_option maxHeartbeats 400000 in
theorem slipOf_any (s : Ld.Sd) (w : World) :
 Calls Try.prog 69 #[vSd s] w fun e w' => e = .returned (vSlip s.hour s.shore) ∧ Below w.heap.size w w' := by
 go_enter Try.func69, Try.ntmps69
 go_wp2
 refine bodyPost_ret (v := vSlip s.hour s.shore) (by simp [results, Try.results69, go_sem]) rfl ⟨rfl, ?_⟩
 exact ((Below.refl _ _).alloc (Nat.le_refl _) _).alloc (by simp) _
end Go.Proofs.Ytjgpghaofhcfnaa
namespace Go.Proofs.Ytjgpghaofhcfnaa
open Go.RowKit
attribute [local go_sem] Oper.semAt_some
theorem eq_slip (a b c d : Int) (w : World) : (Op.equalIn 10000 96 (.agg #[.int .i64 a, .int .i64 b]) (.agg #[.int .i64 c, .int .i64 d])).run Try.prog w = .ok (a == c && b == d) w := by
 have u3 := Try.underlying3
 have a3 := Try.isAgg3
 have z3 := Try.sizeOf3
 have hS : Try.prog.underlying 96 = some (.struct (Try.prog.fieldsOf 96)) := by kernel_rfl
 have hp : Try.prog.stoodInHeld 96 = false := by kernel_rfl
 rw [show (10000 : Nat) = 9999 + 1 from rfl, run_equalIn_agg w 9999 96 _ _ hS hp]
 simp only [Program.fieldsOf, Try.underlying96]
 go_simp
 by_cases h1 : a = c <;> by_cases h2 : b = d <;> simp [h1, h2]
theorem infoI : (Try.prog.info? 3).map (fun i => (i.zero, i.size, i.bytes)) = some (some (I 0), 1, 8) := by kernel_rfl
theorem underIs : Try.prog.underlying 31 = some (.slice 3) := by kernel_rfl
namespace Ld
theorem depths_snoc (l : List Sd) (s : Sd) (hr sh : Int) : depths (l ++ [s]) hr sh = if atSlip hr sh s then depths l hr sh ++ [s.deep] else depths l hr sh := by
 unfold depths
 rw [List.filter_append]
 by_cases h : atSlip hr sh s = true <;> simp [List.filter_cons, h]
theorem depths_len (l : List Sd) (hr sh : Int) : (depths l hr sh).length ≤ l.length := by
 unfold depths
 rw [List.length_map]
 exact List.length_filter_le _ _
end Ld
set_option maxRecDepth 100000 in
set_option maxHeartbeats 2000000 in
theorem depths_any (l : List Ld.Sd) (hl : l.length ≤ 100) (hr sh : Int) (D : Value) (w : World) (hD : Sl w w.heap.size 3 D l.length (l.flatMap cSd)) :
 Calls Try.prog 68 #[D, vSlip hr sh] w fun e w' => (∃ v, e = .returned v ∧ Sl w' w'.heap.size 1 v (Ld.depths l hr sh).length ((Ld.depths l hr sh).map I) ∧ Fresh w.heap.size v) ∧ Below w.heap.size w w' := by
 obtain ⟨A, c, rfl⟩ := hD.form
 have HD := Lib.hid hD
 clear hD
 go_enter Try.func68, Try.ntmps68
 go_wp2_with fail
 refine name_world ?_
 intro W0 hW0
 have hb0 : Below w.heap.size w W0 := by rw [hW0]; exact (Below.refl _ _).alloc (Nat.le_refl _) _
 have r0 : W0.heap[w.heap.size]? = some (.cells #[I hr, I sh] 96 (0, 0)) := by rw [hW0]; exact heap_at _ _ rfl
 have R0 := Lib.hid r0
 have HB0 := Lib.hid hb0
 clear hW0 r0 hb0
 go_loopw [5, 10] (fun u i wr => ∃ (k : Nat) (u0 : Value), k ≤ l.length ∧ i = I k ∧ u0 = u ∧ wr.ownsRow W0.heap.size 3 1 u0 (Ld.depths (l.take k) hr sh).length ((Ld.depths (l.take k) hr sh).map I) ∧ Below W0.heap.size W0 wr) (fun _ i _ => l.length - (intOf i).toNat)
 case atStart => exact ⟨0, _, Nat.zero_le _, rfl, rfl, World.ownsRow_nil _ _ _ _, Below.refl _ _⟩
 case round =>
  obtain ⟨k, u, hk, rfl, rfl, hown, hBr⟩ := hrel
  have HOWN := Lib.hid hown
  have hbw : Below w.heap.size w wr := HB0.out.trans (hBr.mono HB0.out.size)
  have rsl := (hBr.block _ (heap_lt R0.out)).trans R0.out
  have hlk := heap_lt rsl
  have hlz := hBr.size
  clear hown
  by_cases hlt : k < l.length
  · have hki : (k : Int) < l.length := by omega
    obtain ⟨bl, off, c', hv, hbl, h0, h1, h2⟩ := (HD.out.below hbw (Nat.le_refl _)).sd hlt
    injection hv with hA _ hc
    subst hA hc
    have hsn : Ld.depths (l.take (k + 1)) hr sh = if Ld.atSlip hr sh l[k] then Ld.depths (l.take k) hr sh ++ [l[k].deep] else Ld.depths (l.take k) hr sh := by rw [List.take_succ_eq_append_getElem hlt, Ld.depths_snoc]
    have hle : (Ld.depths (l.take k) hr sh).length ≤ k := Nat.le_trans (Ld.depths_len _ _ _) (by simp; omega)
    generalize hx : l[k] = x at h0 h1 h2 hsn
    have HSN := Lib.hid hsn
    have HB := Lib.hid hBr
    have HBW := Lib.hid hbw
    have RSL := Lib.hid rsl
    clear hx hsn hBr hbw rsl
    go_wp2_with fail
    refine name_world ?_
    intro W hW
    have hBW : Below wr.heap.size wr W := by rw [hW]; exact (Below.refl _ _).alloc (Nat.le_refl _) _
    have rS : W.heap[wr.heap.size]? = some (.cells #[I x.hour, I x.shore, I x.deep] 64 (0, 0)) := by rw [hW]; exact heap_at _ _ rfl
    have rB : W.heap[w.heap.size]? = _ := (hBW.block _ hlk).trans RSL.out
    have hl0 : wr.heap.size < W.heap.size := heap_lt rS
    have hl1 : w.heap.size < W.heap.size := heap_lt rB
    have HBWW := Lib.hid hBW
    have HOWNW := Lib.hid (HOWN.out.kept (grown_of_below hBW none) (by cases u.ownBlock <;> simp))
    have RS := Lib.hid rS
    have b0 := cell_of_row W _ 0 _ _ _ rB
    have b1 := cell_of_row W _ 1 _ _ _ rB
    have s0 := cell_of_row W _ 0 _ _ _ rS
    have s1 := cell_of_row W _ 1 _ _ _ rS
    have s2 := cell_of_row W _ 2 _ _ _ rS
    simp only [List.getElem?_toArray, List.getElem?_cons_zero, List.getElem?_cons_succ] at s0 s1 s2 b0 b1
    have es := eq_slip x.hour x.shore hr sh
    have hat : (x.hour == hr && x.shore == sh) = Ld.atSlip hr sh x := by rw [Bool.eq_iff_iff]; simp [Ld.atSlip]
    rw [hat] at es
    clear hW hBW rS rB hat h0 h1 h2 hbl hlk HOWN
    cases hs : Ld.atSlip hr sh x
    · have HS := Lib.hid hs
      rw [hs] at es
      clear hs
      refine wp_region_held_drew (S := fun w' => Held W w') (by kernel_rfl) (held_start W) (fun _ => ?_)
      refine wpAnyH_take (i := 0) (oi := { dst := some 14, op := Op.load 64 (Operand.tmp 7), type := 64, pos := "ledger.go:52", after := #[], guard := none }) (v := ?v1) rfl (by kernel_rfl) (by kernel_rfl) (by kernel_rfl) (fun _ _ _ h => h) (Or.inl ⟨by rfl, ?hy1⟩) (held_start W) ?r1
      case hy1 =>
       intro w' hSw
       have hq := hSw.1
       clear hSw
       go_simp
       with_reducible rfl
      try simp only [putL]
      refine wpAnyH_take (i := 2) (oi := { dst := some 16, op := Op.load 96 (Operand.tmp 3), type := 96, pos := "ledger.go:52", after := #[], guard := none }) (v := ?v2) rfl (by kernel_rfl) (by kernel_rfl) (by kernel_rfl) (fun _ _ _ h => h) (Or.inl ⟨by rfl, ?hy2⟩) (held_start W) ?r2
      case hy2 =>
       intro w' hSw
       have hq := hSw.1
       clear hSw
       go_simp
       with_reducible rfl
      try simp only [putL]
      refine wpAnyH_ready (rs := [1]) (by kernel_rfl) (by simp) ?_
      refine AllReadyH.cons rfl (fun K hK => ?_) AllReadyH.nil
      go_simp
      refine (slipOf_any x _).mono ?_
      rintro e w3 ⟨rfl, hBw3⟩
      have hSw3 := held_step hBw3 (held_start W)
      refine hK.out _ _ hSw3 (fun _ => ?_)
      clear hK K
      try simp only [putL]
      refine wpAnyH_take (i := 3) (oi := { dst := some 17, op := Op.binOp BinOp.eql 96 (Operand.tmp 15) (Operand.tmp 16) 96, type := 4, pos := "ledger.go:52", after := #[{ on := 1, ground := Ground.data }, { on := 2, ground := Ground.data }], guard := none }) (v := ?v4) rfl (by kernel_rfl) (by kernel_rfl) (by kernel_rfl) (fun _ _ _ h => h) (Or.inl ⟨by rfl, ?hy4⟩) hSw3 ?r4
      case hy4 =>
       intro w' hSw
       have hq := hSw.1
       clear hSw
       go_simp
       with_reducible rfl
      try simp only [putL]
      refine wpAnyH_done (by kernel_rfl) ?_ _
      have hb1 : Below W.heap.size W w3 := hSw3.2.2
      have HB1 := Lib.hid hb1
      have hz1 := hb1.size
      clear hb1
      have own1 := HOWNW.out.kept (grown_of_below HB1.out none) (by cases u.ownBlock <;> simp)
      have HOWN1 := Lib.hid own1
      clear own1
      have hbX : Below W0.heap.size W0 w3 := HB.out.trans ((HBWW.out.trans (HB1.out.mono HBWW.out.size)).mono HB.out.size)
      have HBX := Lib.hid hbX
      have hzX := hbX.size
      clear hbX
      go_wp2_with fail
      go_roundw
      case rel => exact ⟨k + 1, _, by omega, by go_num, rfl, by rw [HSN.out, if_neg (by simp [HS.out])]; exact HOWN1.out, HBX.out⟩
      case measure => simp [intOf]; omega
    · have HS := Lib.hid hs
      rw [hs] at es
      clear hs
      refine wp_region_held_drew (S := fun w' => Held W w') (by kernel_rfl) (held_start W) (fun _ => ?_)
      refine wpAnyH_take (i := 0) (oi := { dst := some 14, op := Op.load 64 (Operand.tmp 7), type := 64, pos := "ledger.go:52", after := #[], guard := none }) (v := ?v5) rfl (by kernel_rfl) (by kernel_rfl) (by kernel_rfl) (fun _ _ _ h => h) (Or.inl ⟨by rfl, ?hy5⟩) (held_start W) ?r5
      case hy5 =>
       intro w' hSw
       have hq := hSw.1
       clear hSw
       go_simp
       with_reducible rfl
      try simp only [putL]
      refine wpAnyH_take (i := 2) (oi := { dst := some 16, op := Op.load 96 (Operand.tmp 3), type := 96, pos := "ledger.go:52", after := #[], guard := none }) (v := ?v6) rfl (by kernel_rfl) (by kernel_rfl) (by kernel_rfl) (fun _ _ _ h => h) (Or.inl ⟨by rfl, ?hy6⟩) (held_start W) ?r6
      case hy6 =>
       intro w' hSw
       have hq := hSw.1
       clear hSw
       go_simp
       with_reducible rfl
      try simp only [putL]
      refine wpAnyH_ready (rs := [1]) (by kernel_rfl) (by simp) ?_
      refine AllReadyH.cons rfl (fun K hK => ?_) AllReadyH.nil
      go_simp
      refine (slipOf_any x _).mono ?_
      rintro e w7 ⟨rfl, hBw7⟩
      have hSw7 := held_step hBw7 (held_start W)
      refine hK.out _ _ hSw7 (fun _ => ?_)
      clear hK K
      try simp only [putL]
      refine wpAnyH_take (i := 3) (oi := { dst := some 17, op := Op.binOp BinOp.eql 96 (Operand.tmp 15) (Operand.tmp 16) 96, type := 4, pos := "ledger.go:52", after := #[{ on := 1, ground := Ground.data }, { on := 2, ground := Ground.data }], guard := none }) (v := ?v8) rfl (by kernel_rfl) (by kernel_rfl) (by kernel_rfl) (fun _ _ _ h => h) (Or.inl ⟨by rfl, ?hy8⟩) hSw7 ?r8
      case hy8 =>
       intro w' hSw
       have hq := hSw.1
       clear hSw
       go_simp
       with_reducible rfl
      try simp only [putL]
      refine wpAnyH_done (by kernel_rfl) ?_ _
      have hb1 : Below W.heap.size W w7 := hSw7.2.2
      have HB1 := Lib.hid hb1
      have hz1 := hb1.size
      clear hb1
      have own1 := HOWNW.out.kept (grown_of_below HB1.out none) (by cases u.ownBlock <;> simp)
      have HOWN1 := Lib.hid own1
      clear own1
      have hbX : Below W0.heap.size W0 w7 := HB.out.trans ((HBWW.out.trans (HB1.out.mono HBWW.out.size)).mono HB.out.size)
      have HBX := Lib.hid hbX
      have hzX := hbX.size
      clear hbX
      have x2 := cell_of_row w7 _ 2 _ _ _ ((HB1.out.block _ hl0).trans RS.out)
      simp only [List.getElem?_toArray, List.getElem?_cons_zero, List.getElem?_cons_succ] at x2
      obtain ⟨i0, hi, hz0, hz1', hz2'⟩ := info_parts infoI
      go_wp2_with (at_builtin; go_must (refine wpList_append_own_at _ rfl _ _ 31 rfl W0.heap.size 3 i0 (I 0) 1 8 underIs hi hz0 hz1' hz2' rfl (by decide) _ _ ((Ld.depths (l.take k) hr sh).map I) rfl (HOWN1.out.alloc _) ⟨w7.heap.size, 0, none⟩ 1 1 [I x.deep] rfl rfl (cell_one_new _ _ _) (by simp [Value.oneCell']) (by unfold maxLen; omega) (by omega) (by simp; omega) ?_; intro v' w3 hown' hgrow hnil hat; have HOW := Lib.hid hown'; have HGR := Lib.hid hgrow; clear hown' hgrow hnil hat))
      go_roundw
      case rel =>
       refine ⟨k + 1, _, by omega, by go_num, rfl, ?_, ?_⟩
       · rw [HSN.out, if_pos HS.out, List.length_append, List.map_append]; simpa using HOW.out
       · refine HBX.out.trans (Below.trans ((Below.refl _ _).alloc (Nat.le_refl _) _ |>.mono hzX) ⟨HGR.out.os, HGR.out.tape, HGR.out.output, HGR.out.size, fun i hi => HGR.out.block i (by simp; omega) (fun e => ?_)⟩)
         have := (HOWN1.out.lt i e.symm).1
         omega
      case measure => simp [intOf]; omega
  · obtain rfl : k = l.length := by omega
    have hsl := sl_ownN HOWN.out (Nat.le_refl _)
    rw [List.take_length] at hsl
    have HSL := Lib.hid hsl
    have hfr : Fresh w.heap.size u := fun g o m c e => by
     have := (HOWN.out.lt g (by rw [e]; rfl)).1
     have := HB0.out.size
     omega
    have HFR := Lib.hid hfr
    clear hfr
    obtain ⟨Au, cu, rfl⟩ := hsl.form
    have HBW := Lib.hid hbw
    clear hbw hsl HOWN
    go_wp2_with fail
    go_ret
    exact ⟨⟨_, rfl, HSL.out, HFR.out⟩, HBW.out⟩
def Ld.isNot (d x : Int) : Bool := !decide (x = d)
set_option maxHeartbeats 400000 in
theorem isNot_any (d x : Int) (w : World) :
 Calls Try.prog 93 #[I d, I x] w fun e w' => e = .returned (.bool (Ld.isNot d x)) ∧ w' = w := by
 by_cases h : d = x
 · subst h
   go_enter Try.func93, Try.ntmps93
   go_wp2
   go_ret
   exact ⟨ret_b (by simp [Ld.isNot]), rfl⟩
 · have b1 : (d == x) = false := beq_eq_false_iff_ne.2 h
   have b2 : (d != x) = true := by simp [bne, b1]
   have hh : Ld.isNot d x = true := by simp [Ld.isNot]; omega
   have HH := Lib.hid hh
   clear h hh
   go_enter Try.func93, Try.ntmps93
   go_wp2
   go_ret
   exact ⟨ret_b HH.out.symm, rfl⟩
def IndexPost (l : List Int) (F : Int → Bool) (w : World) (e : Ending) (w' : World) : Prop :=
 ∃ n : Int, e = .returned (I n) ∧ (0 ≤ n ↔ l.any F = true) ∧ w' = w
set_option maxHeartbeats 1000000 in
theorem indexNot_any (l : List Int) (d : Int) (V : Value) (w : World) (hV : Sl w w.heap.size 1 V l.length (l.map I)) :
 Calls Try.prog 105 #[V, .func (.func 93) #[I d] #[]] w (IndexPost l (Ld.isNot d) w) := by
 have hm := hV.le
 unfold maxLen at hm
 obtain ⟨AR, cR, rfl⟩ := hV.form
 have HR := Lib.hid hV
 clear hV
 go_enter Try.func105, Try.ntmps105
 go_wp2_with fail
 go_loop [8] (fun i => ∃ k : Nat, k ≤ l.length ∧ i = I k ∧ (∀ j (hj : j < l.length), j < k → Ld.isNot d l[j] = false)) (fun i => l.length - (intOf i).toNat)
 case atStart => exact ⟨0, Nat.zero_le _, rfl, fun j _ hj => by omega⟩
 case round =>
  obtain ⟨k, hk, rfl, hF⟩ := hrel
  have HF := Lib.hid hF
  clear hF
  by_cases hlt : k < l.length
  · obtain ⟨b, off, c, hv, hb, h0⟩ := HR.out.at1 hlt
    injection hv with hA _ hc
    subst hA hc
    have q0 : w.cell? ⟨b, off + k, none⟩ = some (I l[k]) := h0.trans (by simp [hlt])
    clear h0 hb
    generalize hte : l[k] = t at q0
    have HTE := Lib.hid hte
    have hki : (k : Int) < l.length := by omega
    clear hte
    go_wp2_with fail
    refine (isNot_any d t _).mono ?_
    rintro e w1 ⟨he, rfl⟩
    cases hFk : Ld.isNot d t
    · rw [hFk] at he
      subst he
      have HFK := Lib.hid hFk
      clear hFk
      go_wp2_with fail
      go_round
      case rel =>
       refine ⟨k + 1, by omega, by go_num, fun j hj hjk => ?_⟩
       rcases Nat.lt_succ_iff_lt_or_eq.1 hjk with h | h
       · exact HF.out j hj h
       · subst h; rw [HTE.out]; exact HFK.out
      case measure => simp [intOf]; omega
    · rw [hFk] at he
      subst he
      have HFK := Lib.hid hFk
      clear hFk
      go_wp2_with fail
      go_ret
      exact ⟨k, rfl, ⟨fun _ => List.any_eq_true.2 ⟨l[k], List.getElem_mem hlt, by rw [HTE.out]; exact HFK.out⟩, fun _ => by omega⟩, rfl⟩
  · obtain rfl : k = l.length := by omega
    go_wp2_with fail
    go_ret
    refine ⟨-1, rfl, ⟨fun h => by omega, fun h => ?_⟩, rfl⟩
    obtain ⟨t, ht, hft⟩ := List.any_eq_true.1 h
    obtain ⟨j, hj, rfl⟩ := List.mem_iff_getElem.1 ht
    rw [HF.out j hj hj] at hft
    cases hft
set_option maxHeartbeats 1000000 in
theorem someNot_any (l : List Int) (d : Int) (V : Value) (w : World) (hV : Sl w w.heap.size 1 V l.length (l.map I)) :
 Calls Try.prog 92 #[V, .func (.func 93) #[I d] #[]] w fun e w' => e = .returned (.bool (l.any (Ld.isNot d))) ∧ w' = w := by
 have h := indexNot_any l d V w hV
 obtain ⟨AR, cR, rfl⟩ := hV.form
 have H := Lib.hid h
 clear h hV
 go_enter Try.func92, Try.ntmps92
 go_wp2_with fail
 refine H.out.mono ?_
 rintro e w1 ⟨n, rfl, hn, rfl⟩
 by_cases h0 : 0 ≤ n
 all_goals
  have HN := Lib.hid hn
  clear hn
  go_wp2_with fail
  go_ret
  refine ⟨ret_b ?_, rfl⟩
  have hn := HN.out
  rw [Bool.eq_iff_iff, ← hn]
  simp [h0]
end Go.Proofs.Ytjgpghaofhcfnaa
