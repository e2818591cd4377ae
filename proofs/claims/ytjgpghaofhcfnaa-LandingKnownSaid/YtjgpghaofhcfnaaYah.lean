/- Texts on the program that the proof leans on, part 8. -/
import Derived.Test.YtjgpghaofhcfnaaYae
import Derived.DeepKeys4
import Derived.Test.YtjgpghaofhcfnaaYag
set_option linter.unusedVariables false
set_option linter.unusedSimpArgs false

namespace Go.Proofs.Ytjgpghaofhcfnaa
open Go.RowKit
theorem keyed : Maps.Keyed Try.prog 96 := Maps.Keyed.of_law (deep_law_laid (m := 3) (by kernel_rfl) (by omega) (of_decide_eq_true (by kernel_rfl)) (by kernel_rfl) (by kernel_rfl))
theorem under_map : Try.prog.underlying 81 = some (.map 96 31) := by kernel_rfl
theorem key2_gen {P : Program} {k i : TypeId} {f1 f2 : Field} {N : Nat} (h1 : P.underlying k = some (.struct #[f1, f2])) (h2 : P.keyType k = true) (h3 : P.cellsOf k = 2) (h4 : P.cellsOf i = 1) (h5 : P.underlying i = some (.int .i64)) (h6 : P.types.size = N + 2)
 (o1 : f1.offset = 0) (o2 : f2.offset = 1) (t1 : f1.type = i) (t2 : f2.type = i) (n1 : (f1.name != "_") = true) (n2 : (f2.name != "_") = true) (s d : Int) (hs : (Lit.int .i64 s).wf = true) (hd : (Lit.int .i64 d).wf = true) :
 ∃ l, keyOf P k (.agg #[I s, I d]) = some l := by
 unfold keyOf
 rw [h6]
 simp only [h1, h2, Value.formed, h3]
 simp [Program.keyLits, Value.cells, h1, h3, h4, h5, o1, o2, t1, t2, n1, n2, hs, hd]
theorem key_slip (s d : Int) (hs : (Lit.int .i64 s).wf = true) (hd : (Lit.int .i64 d).wf = true) : ∃ l, keyOf Try.prog 96 (vSlip s d) = some l :=
 key2_gen (P := Try.prog) (k := 96) (i := 3) (f1 := { name := "hour", type := 3, offset := 0, byteOffset := 0, embedded := false, tag := "", pkgPath := "prow/landing" }) (f2 := { name := "shore", type := 3, offset := 1, byteOffset := 8, embedded := false, tag := "", pkgPath := "prow/landing" })
  (N := Try.prog.types.size - 2) (by kernel_rfl) (by kernel_rfl) (by kernel_rfl) (by kernel_rfl) (by kernel_rfl) (by kernel_rfl) rfl rfl rfl rfl rfl rfl s d hs hd
def SdOk (s : Ld.Sd) : Prop := 0 ≤ s.hour ∧ s.hour ≤ 1000 ∧ (s.shore = 0 ∨ s.shore = 1)
theorem SdOk.key {s : Ld.Sd} (h : SdOk s) : ∃ l, keyOf Try.prog 96 (vSlip s.hour s.shore) = some l :=
 key_slip _ _ (WalkArith.wf_i64 (by have := h.1; have := h.2.1; omega)) (WalkArith.wf_i64 (by have := h.2.2; omega))
def Dps (w : World) (B : Nat) (l : List Ld.Sd) (hr sh : Int) (v : Value) : Prop := Sl w w.heap.size 1 v (Ld.depths l hr sh).length ((Ld.depths l hr sh).map I) ∧ Fresh B v
theorem Dps.below {w w' : World} {B : Nat} {l : List Ld.Sd} {hr sh : Int} {v : Value} (h : Dps w B l hr sh v) (hb : Below w.heap.size w w') : Dps w' B l hr sh v := ⟨(Sl.below h.1 hb (Nat.le_refl _)).more hb.size, h.2⟩
def SM (w : World) (B : Nat) (l dn : List Ld.Sd) (r : Nat) : Prop :=
 ∃ es clock, w.heap[r]? = some (.map es clock) ∧ (∀ e ∈ es.toList, ∃ s ∈ dn, SdOk s ∧ e.key = vSlip s.hour s.shore ∧ Dps w B l s.hour s.shore e.val) ∧ (∀ s ∈ dn, ∃ e ∈ es.toList, e.key = vSlip s.hour s.shore)
theorem SM.lt {w : World} {B : Nat} {l dn : List Ld.Sd} {r : Nat} (h : SM w B l dn r) : r < w.heap.size := by
 obtain ⟨es, clock, h0, _⟩ := h
 exact heap_lt h0
theorem SM.below {w w' : World} {B : Nat} {l dn : List Ld.Sd} {r : Nat} (h : SM w B l dn r) (hb : Below w.heap.size w w') : SM w' B l dn r := by
 obtain ⟨es, clock, h0, h1, h2⟩ := h
 refine ⟨es, clock, (hb.block r (heap_lt h0)).trans h0, fun e he => ?_, h2⟩
 obtain ⟨s, hs, h3, h4, h5⟩ := h1 e he
 exact ⟨s, hs, h3, h4, h5.below hb⟩
theorem cells_grown {w W : World} {r : Nat} {es es' : Array MapEntry} {c c' : Nat} (h0 : w.heap[r]? = some (.map es c)) (h1 : W.heap[r]? = some (.map es' c')) (hg : w.grownBy W (some r)) : ∀ p : Addr, p.block < w.heap.size → W.cell? p = w.cell? p := by
 intro p hp
 by_cases e : p.block = r
 · rw [← e] at h0 h1
   simp [World.cell?, h0, h1]
 · exact World.cell?_of_block (hg.block p.block hp (fun e' => e (by injection e')))
theorem SM.step {w : World} {B : Nat} {l dn : List Ld.Sd} {r : Nat} (h : SM w B l dn r) {s : Ld.Sd} (hs : SdOk s) {v : Value} (hv : Dps w B l s.hour s.shore v) :
 ∃ W', (Instr.mapUpdate 81 (.map (some r)) (vSlip s.hour s.shore) v).run Try.prog w = .ok () W' ∧ SM W' B l (dn ++ [s]) r ∧ w.grownBy W' (some r) := by
 have hr := h.lt
 obtain ⟨es, clock, h0, h1, h2⟩ := h
 have hkeys : ∀ e ∈ es.toList, ∃ k, keyOf Try.prog 96 e.key = some k := fun e he => by
  obtain ⟨s', _, h3, h4, _⟩ := h1 e he
  rw [h4]
  exact h3.key
 obtain ⟨lx, hx⟩ := hs.key
 have hc := keyed.check w false hx
 have hst := keyed.stays w hx
 have fin : ∀ (es' : Array MapEntry) (c' : Nat), (∀ e ∈ es'.toList, (∃ e0 ∈ es.toList, e = e0) ∨ (e.key = vSlip s.hour s.shore ∧ e.val = v)) → (∀ e0 ∈ es.toList, ∃ e ∈ es'.toList, e.key = e0.key) → (∃ e ∈ es'.toList, e.key = vSlip s.hour s.shore) →
  SM { w with heap := w.heap.setIfInBounds r (.map es' c') } B l (dn ++ [s]) r ∧ w.grownBy { w with heap := w.heap.setIfInBounds r (.map es' c') } (some r) := by
  intro es' c' ha hb hcx
  have hg : w.grownBy { w with heap := w.heap.setIfInBounds r (.map es' c') } (some r) := ⟨rfl, rfl, rfl, by simp, fun i hi hne => by rw [Array.getElem?_setIfInBounds_ne (fun e => hne (by rw [e]))]⟩
  have hrow : ({ w with heap := w.heap.setIfInBounds r (.map es' c') } : World).heap[r]? = some (.map es' c') := by simp [hr]
  have hcell := cells_grown h0 hrow hg
  have hsz : ({ w with heap := w.heap.setIfInBounds r (.map es' c') } : World).heap.size = w.heap.size := by simp
  refine ⟨⟨es', c', hrow, fun e he => ?_, fun s' hs' => ?_⟩, hg⟩
  · rcases ha e he with ⟨e0, he0, rfl⟩ | ⟨hk, hval⟩
    · obtain ⟨s', hs', h3, h4, h5⟩ := h1 e he0
      refine ⟨s', List.mem_append_left _ hs', h3, h4, ?_⟩
      unfold Dps
      rw [hsz]
      exact ⟨Sl.keep h5.1 hcell, h5.2⟩
    · refine ⟨s, by simp, hs, hk, ?_⟩
      rw [hval]
      unfold Dps
      rw [hsz]
      exact ⟨Sl.keep hv.1 hcell, hv.2⟩
  · rcases List.mem_append.1 hs' with h' | h'
    · obtain ⟨e0, he0, hk0⟩ := h2 s' h'
      obtain ⟨e, he, hk⟩ := hb e0 he0
      exact ⟨e, he, hk.trans hk0⟩
    · rw [List.mem_singleton.1 h']
      exact hcx
 unfold Instr.mapUpdate
 rcases keyed.find w hx es.toList hkeys with ⟨h3, h4⟩ | ⟨j, e, h3, h4, h5⟩
 · obtain ⟨g1, g2⟩ := fin (es.push { key := vSlip s.hour s.shore, val := v, born := clock }) (clock + 1) (fun e he => by
    simp at he
    rcases he with he | rfl
    · exact .inl ⟨e, by simpa using he, rfl⟩
    · exact .inr ⟨rfl, rfl⟩) (fun e0 he0 => ⟨e0, by simp; exact .inl (by simpa using he0), rfl⟩) ⟨_, by simp; exact .inr rfl, rfl⟩
   exact ⟨_, by simp [run_underlying under_map, getObj, setObj, Sem.run, h0, hc, h3], g1, g2⟩
 · have hj : j < es.size := by
    have := (List.getElem?_eq_some_iff.1 h4).1
    simpa using this
   have hej : es[j]? = some e := by simpa using h4
   obtain ⟨g1, g2⟩ := fin (es.modify j fun e => { e with key := vSlip s.hour s.shore, val := v }) clock (fun e' he' => by
    obtain ⟨i, hi⟩ := List.mem_iff_getElem?.1 he'
    rw [Array.getElem?_toList, Array.getElem?_modify] at hi
    split at hi
    · rename_i hji
      subst hji
      rw [hej] at hi
      simp at hi
      exact .inr (by rw [← hi]; exact ⟨rfl, rfl⟩)
    · exact .inl ⟨e', List.mem_iff_getElem?.2 ⟨i, by simpa using hi⟩, rfl⟩) (fun e0 he0 => by
    obtain ⟨i, hi⟩ := List.mem_iff_getElem?.1 he0
    have hi' : es[i]? = some e0 := by simpa using hi
    by_cases hji : j = i
    · subst hji
      rw [hej] at hi'
      injection hi' with hi'
      subst hi'
      refine ⟨{ e with key := vSlip s.hour s.shore, val := v }, List.mem_iff_getElem?.2 ⟨j, ?_⟩, h5.symm⟩
      rw [Array.getElem?_toList, Array.getElem?_modify, if_pos rfl, hej]
      rfl
    · refine ⟨e0, List.mem_iff_getElem?.2 ⟨i, ?_⟩, rfl⟩
      rw [Array.getElem?_toList, Array.getElem?_modify, if_neg hji, hi']) (by
    refine ⟨{ e with key := vSlip s.hour s.shore, val := v }, List.mem_iff_getElem?.2 ⟨j, ?_⟩, rfl⟩
    rw [Array.getElem?_toList, Array.getElem?_modify, if_pos rfl, hej]
    rfl)
   refine ⟨_, ?_, g1, g2⟩
   simp [run_underlying under_map, getObj, setObj, Sem.run, h0, hc, h3, hej, h5, hst, Result.andThen]
theorem SM.look {w : World} {B : Nat} {l : List Ld.Sd} {r : Nat} (h : SM w B l l r) {hr sh : Int} (h0 : 0 ≤ hr) (h1 : hr ≤ 1000) (hsh : sh = 0 ∨ sh = 1) :
 ∃ v, (Instr.lookup 81 (.map (some r)) (vSlip hr sh) false).run Try.prog w = .ok v w ∧ Sl w w.heap.size 1 v (Ld.depths l hr sh).length ((Ld.depths l hr sh).map I) := by
 obtain ⟨es, clock, hh, h2, h3⟩ := h
 have hkeys : ∀ e ∈ es.toList, ∃ k, keyOf Try.prog 96 e.key = some k := fun e he => by
  obtain ⟨s', _, h4, h5, _⟩ := h2 e he
  rw [h5]
  exact h4.key
 obtain ⟨lx, hx⟩ := SdOk.key (s := ⟨hr, sh, 0⟩) ⟨h0, h1, hsh⟩
 have hc := keyed.check w es.isEmpty hx
 unfold Instr.lookup
 rcases keyed.find w hx es.toList hkeys with ⟨h4, h5⟩ | ⟨j, e, h4, h5, h6⟩
 · refine ⟨.slice none 0 0, ?_, ?_⟩
   · have hz := Try.zeroValue31
     simp [run_underlying under_map, getObj, Sem.run, hh, hc, h4]
   · have hn : Ld.depths l hr sh = [] := by
      unfold Ld.depths
      rw [List.map_eq_nil_iff, List.filter_eq_nil_iff]
      intro s hs ha
      obtain ⟨e, he, hk⟩ := h3 s hs
      simp [Ld.atSlip] at ha
      exact h5 e he (by rw [hk, ha.1, ha.2])
     rw [hn]
     exact sl_nil _ _ _
 · obtain ⟨s, hs, h7, h8, h9⟩ := h2 e (List.mem_of_getElem? h5)
   rw [h6] at h8
   simp at h8
   refine ⟨e.val, ?_, by rw [h8.1, h8.2]; exact h9.1⟩
   simp [run_underlying under_map, getObj, Sem.run, hh, hc, h4]
theorem SM.kept1 {w W : World} {B : Nat} {l dn : List Ld.Sd} {r x : Nat} {cs : Array Value} {t : TypeId} {z : Nat × Nat} (h : SM w B l dn r) (hk : Kept1 x w W) (hx : w.heap[x]? = some (.cells cs t z)) (hB : x < B) : SM W B l dn r := by
 obtain ⟨es, clock, h0, h1, h2⟩ := h
 refine ⟨es, clock, (hk.keep r (fun e => by rw [e, hx] at h0; cases h0)).trans h0, fun e he => ?_, h2⟩
 obtain ⟨s, hs, h3, h4, h5⟩ := h1 e he
 exact ⟨s, hs, h3, h4, (h5.1.same (fun g o m c e => hk.keep g (fun e2 => by have := h5.2 g o m c e; omega))).more (by rw [hk.size]; exact Nat.le_refl _), h5.2⟩
end Go.Proofs.Ytjgpghaofhcfnaa
namespace Go.Proofs.Ytjgpghaofhcfnaa
open Go.RowKit
abbrev vFl (k : Ld.Sp × Ld.Sp) : Value := .agg #[I k.1.lo, I k.1.hi, I k.2.lo, I k.2.hi]
abbrev vTr (t : Ld.Tr) : Value := .agg #[I t.f0, I t.f1]
abbrev rLg (T D M R : Value) (b : Ld.Bk) (k : Ld.Sp × Ld.Sp) : Array Value := #[T, I b.s0.floor.lo, I b.s0.floor.hi, I b.s0.lo, I b.s0.hi, I b.s1.floor.lo, I b.s1.floor.hi, I b.s1.lo, I b.s1.hi, I b.empty.lo, I b.empty.hi, I b.sink, I b.under, D, M, R, I k.1.lo, I k.1.hi, I k.2.lo, I k.2.hi]
abbrev vLg (T D M R : Value) (b : Ld.Bk) (k : Ld.Sp × Ld.Sp) : Value := .agg #[T, I b.s0.floor.lo, I b.s0.floor.hi, I b.s0.lo, I b.s0.hi, I b.s1.floor.lo, I b.s1.floor.hi, I b.s1.lo, I b.s1.hi, I b.empty.lo, I b.empty.hi, I b.sink, I b.under, D, M, R, I k.1.lo, I k.1.hi, I k.2.lo, I k.2.hi]
abbrev oLg (T D M R : Value) (b : Ld.Bk) (k : Ld.Sp × Ld.Sp) : Obj := .cells (rLg T D M R b k) 86 (0, 0)
theorem infoLg : (Try.prog.info? 86).map (·.size) = some 20 := by kernel_rfl
set_option maxHeartbeats 1000000 in
theorem unknown_any (w : World) :
 Calls Try.prog 67 #[] w fun e w' => e = .returned (vFl (Ld.none, Ld.none)) ∧ Below w.heap.size w w' := by
 have hB0 : Below w.heap.size w (w.alloc (.cells #[I 0, I 0, I 0, I 0] 84)) := (Below.refl _ _).alloc (Nat.le_refl _) _
 go_enter Try.func67, Try.ntmps67
 go_wp2_with fail
 refine (nothing_any _).mono ?_
 rintro e w1 ⟨rfl, hB1⟩
 have r1 : w1.heap[w.heap.size]? = some (.cells #[I 0, I 0, I 0, I 0] 84 (0, 0)) := (hB1.block _ (by simp)).trans (heap_at _ _ rfl)
 have hb1 : Below w.heap.size w w1 := hB0.trans (hB1.mono hB0.size)
 have R1 := Lib.hid r1
 have HB1 := Lib.hid hb1
 clear hB0 hB1 hb1 r1
 go_wp2_with fail
 refine (nothing_any _).mono ?_
 rintro e w2 ⟨rfl, hB2⟩
 have r2 := (hB2.block _ (heap_lt R1.out)).trans R1.out
 have hb2 : Below w.heap.size w w2 := HB1.out.trans (hB2.mono HB1.out.size)
 have f2 : ∀ o, w2.frozen? ⟨w.heap.size, o, none⟩ = false := fun o => by simp [World.frozen?, r2]
 have c0 := cell_of_row w2 _ 0 _ _ _ r2
 have c1 := cell_of_row w2 _ 1 _ _ _ r2
 have c2 := cell_of_row w2 _ 2 _ _ _ r2
 have c3 := cell_of_row w2 _ 3 _ _ _ r2
 simp only [List.getElem?_toArray, List.getElem?_cons_zero, List.getElem?_cons_succ] at c0 c1 c2 c3
 have R2 := Lib.hid r2
 have HB2 := Lib.hid hb2
 clear hB2 hb2 r2
 go_wp2_with fail
 refine name_post ?_
 intro W hW
 have hrow : W.heap[w.heap.size]? = some (.cells #[I 1, I 0, I 1, I 0] 84 (0, 0)) := by rw [hW]; simp [World.setCell, Array.getElem?_modify, R2.out, Ld.none]
 have hbW : Below w.heap.size w W := by rw [hW]; exact (((HB2.out.setCell (by simp) _).setCell (by simp) _).setCell (by simp) _).setCell (by simp) _
 have hq : ∀ j : Nat, W.cell? ⟨w.heap.size, j, none⟩ = #[I 1, I 0, I 1, I 0][j]? := fun j => cell_of_row W _ j _ _ _ hrow
 clear hW
 exact bodyPost_ret (v := vFl (Ld.none, Ld.none)) (by simp [results, Try.results67, go_sem, hq, Ld.none]) rfl ⟨rfl, hbW⟩
theorem under_tr : Try.prog.underlying 112 = some (.array 2 3) := by kernel_rfl
theorem index_tr0 (a b : Int) (W : World) : (Instr.index 112 (.agg #[I a, I b]) (.int .i64 0)).run Try.prog W = .ok (I a) W := by
 obtain ⟨i, h1, h2, h3, h4⟩ := info_parts infoI
 simp [Instr.index, run_underlying under_tr, asIntOf, sizeOf, typeInfo, h1, h3, go_sem]
theorem index_tr1 (a b : Int) (W : World) : (Instr.index 112 (.agg #[I a, I b]) (.int .i64 1)).run Try.prog W = .ok (I b) W := by
 obtain ⟨i, h1, h2, h3, h4⟩ := info_parts infoI
 simp [Instr.index, run_underlying under_tr, asIntOf, sizeOf, typeInfo, h1, h3, go_sem]
def FlAt (F0 : Nat) (w0 : World) (x y : Ld.Sp) (t : Ld.Tr) (i : Value) (wr : World) : Prop :=
 ∃ k : Nat, k ≤ 2 ∧ i = I k ∧ wr.heap[F0]? = some (.cells #[I (if 1 ≤ k then Ld.join x (Ld.just t.f0) else x).lo, I (if 1 ≤ k then Ld.join x (Ld.just t.f0) else x).hi, I (if 2 ≤ k then Ld.join y (Ld.just t.f1) else y).lo, I (if 2 ≤ k then Ld.join y (Ld.just t.f1) else y).hi] 84 (0, 0)) ∧
  wr.heap[F0 + 1 + 1]? = some (.cells #[I 0, I 0, I 0, I 0] 84 (0, 0)) ∧ Below F0 w0 wr
set_option maxRecDepth 100000 in
set_option maxHeartbeats 4000000 in
theorem floorsJoin_any (k : Ld.Sp × Ld.Sp) (t : Ld.Tr) (w : World) :
 Calls Try.prog 73 #[vFl k, vTr t] w fun e w' => e = .returned (vFl (Ld.knownStep k t)) ∧ Below w.heap.size w w' := by
 obtain ⟨⟨xl, xh⟩, ⟨yl, yh⟩⟩ := k
 obtain ⟨f0, f1⟩ := t
 have ix0 := index_tr0 f0 f1
 have ix1 := index_tr1 f0 f1
 obtain ⟨j0, hj0⟩ : ∃ j, Ld.join ⟨xl, xh⟩ (Ld.just f0) = j := ⟨_, rfl⟩
 obtain ⟨j1, hj1⟩ : ∃ j, Ld.join ⟨yl, yh⟩ (Ld.just f1) = j := ⟨_, rfl⟩
 have e0 : Ld.knownStep (⟨xl, xh⟩, ⟨yl, yh⟩) ⟨f0, f1⟩ = (j0, j1) := by rw [← hj0, ← hj1]; rfl
 rw [e0]
 have HJ0 := Lib.hid hj0
 have HJ1 := Lib.hid hj1
 clear hj0 hj1 e0
 go_enter Try.func73, Try.ntmps73
 go_wp2_with fail
 go_loopw [8] (fun i wr => FlAt w.heap.size w ⟨xl, xh⟩ ⟨yl, yh⟩ ⟨f0, f1⟩ i wr) (fun i _ => 2 - (intOf i).toNat)
 case atStart =>
  refine ⟨0, by omega, rfl, ?_, heap_at _ _ (by simp), (((Below.refl _ _).alloc (Nat.le_refl _) _).alloc (by simp) _).alloc (by simp; omega) _⟩
  exact (Below.heap_alloc _ _ _ (by simp; omega)).trans ((Below.heap_alloc _ _ _ (by simp)).trans (heap_at _ _ rfl))
 case round =>
  obtain ⟨k, hk, rfl, hrow, hres, hB⟩ := hrel
  have hcase : k = 0 ∨ k = 1 ∨ k = 2 := by omega
  rcases hcase with rfl | rfl | rfl
  · simp only [if_neg (show ¬ 1 ≤ 0 by omega), if_neg (show ¬ 2 ≤ 0 by omega)] at hrow
    have z0 := cell_of_row wr _ 0 _ _ _ hrow
    have z1 := cell_of_row wr _ 1 _ _ _ hrow
    have z2 := cell_of_row wr _ 2 _ _ _ hrow
    have z3 := cell_of_row wr _ 3 _ _ _ hrow
    simp only [List.getElem?_toArray, List.getElem?_cons_zero, List.getElem?_cons_succ] at z0 z1 z2 z3
    have hlt0 := heap_lt hrow
    have ff : ∀ o, wr.frozen? ⟨w.heap.size, o, none⟩ = false := fun o => by simp [World.frozen?, hrow]
    have ff0 := ff 0
    have ff1 := ff 1
    have HROW := Lib.hid hrow
    have HRES := Lib.hid hres
    have HB := Lib.hid hB
    clear ff hrow hres hB
    go_wp2_with fail
    refine name_act ?_
    intro A hA
    obtain ⟨R, hR⟩ : ∃ R : Act → World → Prop, R = fun a' w' => ∃ w5 : World, (∃ u12 u13 u14 u15 u16 u17 u18 u19, a' = ((((((((A.put (some 12) u12).put (some 13) u13).put (some 14) u14).put (some 15) u15).put (some 16) u16).put (some 17) u17).put (some 18) u18).put (some 19) u19)) ∧ Below wr.heap.size wr w5 ∧ w' = (w5.setCell ⟨w.heap.size, 0, none⟩ (I (Ld.join ⟨xl, xh⟩ (Ld.just f0)).lo)).setCell ⟨w.heap.size, 1, none⟩ (I (Ld.join ⟨xl, xh⟩ (Ld.just f0)).hi) := ⟨_, rfl⟩
    have HR := Lib.hid hR
    clear hR
    refine wp_between R ?first ?rest
    case first =>
     subst hA
     have hFW : w.heap.size ≤ wr.heap.size := HB.out.size
     have hS0 : Apart w.heap.size wr wr.drew := apart_start _ _
     have hF0 : wr.drew.heap[w.heap.size]? = _ := HROW.out
     have hb0 : Below wr.heap.size wr wr.drew := (Below.refl _ _).drew
     refine wp_region_held_drew (S := fun w' => Apart w.heap.size wr w') (by kernel_rfl) hS0 (fun _ => ?_)
     refine wpAnyH_take (i := 0) (oi := { dst := some 12, op := Op.move (Operand.tmp 5), type := 3, pos := "ledger.go:27", after := #[], guard := none }) (v := ?v1) rfl (by kernel_rfl) (by kernel_rfl) (by kernel_rfl) (fun _ _ _ h => h) (Or.inl ⟨by rfl, ?hy1⟩) hS0 ?r1
     case hy1 =>
      intro w' hSw
      have hq := hSw.1
      clear hSw
      go_simp
      with_reducible rfl
     try simp only [putL]
     refine wpAnyH_take (i := 1) (oi := { dst := some 13, op := Op.move (Operand.tmp 5), type := 3, pos := "ledger.go:27", after := #[], guard := none }) (v := ?v2) rfl (by kernel_rfl) (by kernel_rfl) (by kernel_rfl) (fun _ _ _ h => h) (Or.inl ⟨by rfl, ?hy2⟩) hS0 ?r2
     case hy2 =>
      intro w' hSw
      have hq := hSw.1
      clear hSw
      go_simp
      with_reducible rfl
     try simp only [putL]
     refine wpAnyH_take (i := 2) (oi := { dst := some 14, op := Op.indexAddr 84 (Operand.tmp 2) (Operand.tmp 13), type := 0, pos := "ledger.go:27", after := #[{ on := 1, ground := Ground.data }], guard := none }) (v := ?v3) rfl (by kernel_rfl) (by kernel_rfl) (by kernel_rfl) (fun _ _ _ h => h) (Or.inl ⟨by rfl, ?hy3⟩) hS0 ?r3
     case hy3 =>
      intro w' hSw
      have hq := hSw.1
      clear hSw
      go_simp
      with_reducible rfl
     try simp only [putL]
     refine wpAnyH_take (i := 4) (oi := { dst := some 16, op := Op.move (Operand.tmp 6), type := 3, pos := "ledger.go:27", after := #[], guard := none }) (v := ?v4) rfl (by kernel_rfl) (by kernel_rfl) (by kernel_rfl) (fun _ _ _ h => h) (Or.inl ⟨by rfl, ?hy4⟩) hS0 ?r4
     case hy4 =>
      intro w' hSw
      have hq := hSw.1
      clear hSw
      go_simp
      with_reducible rfl
     try simp only [putL]
     refine wpAnyH_ready (rs := [3, 5]) (by kernel_rfl) (by simp) ?_
     refine AllReadyH.cons rfl (fun K hK => ?_) (AllReadyH.cons rfl (fun K hK => ?_) AllReadyH.nil)
     · have y0 := cell_of_row wr.drew _ 0 _ _ _ hF0
       have y1 := cell_of_row wr.drew _ 1 _ _ _ hF0
       simp only [List.getElem?_toArray, List.getElem?_cons_zero, List.getElem?_cons_succ] at y0 y1
       go_simp
       refine hK.out _ _ hS0 (fun _ => ?_)
       clear hK K y0 y1
       try simp only [putL]
       refine wpAnyH_ready (rs := [5]) (by kernel_rfl) (by simp) ?_
       refine AllReadyH.cons rfl (fun K hK => ?_) AllReadyH.nil
       go_simp
       refine (just_any f0 _).mono ?_
       rintro e w6 ⟨rfl, hBw6⟩
       have hSw6 := apart_step hFW hBw6 hS0
       have fFw6 := (hBw6.block _ (heap_lt hF0)).trans hF0
       have mbww6 := hb0.trans (hBw6.mono hb0.size)
       refine hK.out _ _ hSw6 (fun _ => ?_)
       clear hK K
       try simp only [putL]
       refine wpAnyH_ready (rs := [6]) (by kernel_rfl) (by simp) ?_
       refine AllReadyH.cons rfl (fun K hK => ?_) AllReadyH.nil
       go_simp
       refine (join_any ⟨xl, xh⟩ (Ld.just f0) _).mono ?_
       rintro e w7 ⟨rfl, hBw7⟩
       have hSw7 := apart_step hFW hBw7 hSw6
       have fFw7 := (hBw7.block _ (heap_lt fFw6)).trans fFw6
       have mbww7 := mbww6.trans (hBw7.mono mbww6.size)
       refine hK.out _ _ hSw7 (fun _ => ?_)
       clear hK K
       try simp only [putL]
       refine wpAnyH_take (i := 7) (oi := { dst := some 19, op := Op.indexAddr 84 (Operand.tmp 2) (Operand.tmp 12), type := 0, pos := "ledger.go:27", after := #[{ on := 0, ground := Ground.data }, { on := 0, ground := Ground.phase }, { on := 1, ground := Ground.phase }, { on := 2, ground := Ground.phase }, { on := 3, ground := Ground.phase }, { on := 4, ground := Ground.phase }, { on := 5, ground := Ground.phase }, { on := 6, ground := Ground.phase }], guard := none }) (v := ?v8) rfl (by kernel_rfl) (by kernel_rfl) (by kernel_rfl) (fun _ _ _ h => h) (Or.inl ⟨by rfl, ?hy8⟩) hSw7 ?r8
       case hy8 =>
        intro w' hSw
        have hq := hSw.1
        clear hSw
        go_simp
        with_reducible rfl
       try simp only [putL]
       refine wpAnyH_ready (rs := [8]) (by kernel_rfl) (by simp) ?_
       refine AllReadyH.cons rfl (fun K hK => ?_) AllReadyH.nil
       have y0 := cell_of_row w7 _ 0 _ _ _ fFw7
       have y1 := cell_of_row w7 _ 1 _ _ _ fFw7
       simp only [List.getElem?_toArray, List.getElem?_cons_zero, List.getElem?_cons_succ] at y0 y1
       have fz0 : w7.frozen? ⟨w.heap.size, 0, none⟩ = false := by simp [World.frozen?, fFw7]
       have fz1 : w7.frozen? ⟨w.heap.size, 1, none⟩ = false := by simp [World.frozen?, fFw7]
       go_simp
       refine hK.out _ _ (apart_set (apart_set hSw7 _ _) _ _) (fun _ => ?_)
       clear hK K
       try simp only [putL]
       refine wpAnyH_done (by kernel_rfl) ?_ _
       show R _ _
       rw [HR.out]
       simp only [putL]
       exact ⟨w7, ⟨_, _, _, _, _, _, _, _, rfl⟩, mbww7, rfl⟩
     · go_simp
       refine (just_any f0 _).mono ?_
       rintro e w10 ⟨rfl, hBw10⟩
       have hSw10 := apart_step hFW hBw10 hS0
       have fFw10 := (hBw10.block _ (heap_lt hF0)).trans hF0
       have mbww10 := hb0.trans (hBw10.mono hb0.size)
       refine hK.out _ _ hSw10 (fun _ => ?_)
       clear hK K
       try simp only [putL]
       refine wpAnyH_ready (rs := [3]) (by kernel_rfl) (by simp) ?_
       refine AllReadyH.cons rfl (fun K hK => ?_) AllReadyH.nil
       have y0 := cell_of_row w10 _ 0 _ _ _ fFw10
       have y1 := cell_of_row w10 _ 1 _ _ _ fFw10
       simp only [List.getElem?_toArray, List.getElem?_cons_zero, List.getElem?_cons_succ] at y0 y1
       go_simp
       refine hK.out _ _ hSw10 (fun _ => ?_)
       clear hK K y0 y1
       try simp only [putL]
       refine wpAnyH_ready (rs := [6]) (by kernel_rfl) (by simp) ?_
       refine AllReadyH.cons rfl (fun K hK => ?_) AllReadyH.nil
       go_simp
       refine (join_any ⟨xl, xh⟩ (Ld.just f0) _).mono ?_
       rintro e w12 ⟨rfl, hBw12⟩
       have hSw12 := apart_step hFW hBw12 hSw10
       have fFw12 := (hBw12.block _ (heap_lt fFw10)).trans fFw10
       have mbww12 := mbww10.trans (hBw12.mono mbww10.size)
       refine hK.out _ _ hSw12 (fun _ => ?_)
       clear hK K
       try simp only [putL]
       refine wpAnyH_take (i := 7) (oi := { dst := some 19, op := Op.indexAddr 84 (Operand.tmp 2) (Operand.tmp 12), type := 0, pos := "ledger.go:27", after := #[{ on := 0, ground := Ground.data }, { on := 0, ground := Ground.phase }, { on := 1, ground := Ground.phase }, { on := 2, ground := Ground.phase }, { on := 3, ground := Ground.phase }, { on := 4, ground := Ground.phase }, { on := 5, ground := Ground.phase }, { on := 6, ground := Ground.phase }], guard := none }) (v := ?v13) rfl (by kernel_rfl) (by kernel_rfl) (by kernel_rfl) (fun _ _ _ h => h) (Or.inl ⟨by rfl, ?hy13⟩) hSw12 ?r13
       case hy13 =>
        intro w' hSw
        have hq := hSw.1
        clear hSw
        go_simp
        with_reducible rfl
       try simp only [putL]
       refine wpAnyH_ready (rs := [8]) (by kernel_rfl) (by simp) ?_
       refine AllReadyH.cons rfl (fun K hK => ?_) AllReadyH.nil
       have y0 := cell_of_row w12 _ 0 _ _ _ fFw12
       have y1 := cell_of_row w12 _ 1 _ _ _ fFw12
       simp only [List.getElem?_toArray, List.getElem?_cons_zero, List.getElem?_cons_succ] at y0 y1
       have fz0 : w12.frozen? ⟨w.heap.size, 0, none⟩ = false := by simp [World.frozen?, fFw12]
       have fz1 : w12.frozen? ⟨w.heap.size, 1, none⟩ = false := by simp [World.frozen?, fFw12]
       go_simp
       refine hK.out _ _ (apart_set (apart_set hSw12 _ _) _ _) (fun _ => ?_)
       clear hK K
       try simp only [putL]
       refine wpAnyH_done (by kernel_rfl) ?_ _
       show R _ _
       rw [HR.out]
       simp only [putL]
       exact ⟨w12, ⟨_, _, _, _, _, _, _, _, rfl⟩, mbww12, rfl⟩
    case rest =>
     intro a' w3 hra
     rw [HR.out] at hra
     clear HR
     obtain ⟨w5, ⟨u12, u13, u14, u15, u16, u17, u18, u19, rfl⟩, hb5, hw3⟩ := hra
     subst hA
     try simp only [putL]
     have hrw := (hb5.block _ (heap_lt HROW.out)).trans HROW.out
     have hrs := (hb5.block _ (heap_lt HRES.out)).trans HRES.out
     have hz5 := hb5.size
     have HRW := Lib.hid hrw
     have HRS := Lib.hid hrs
     have HB5 := Lib.hid (HB.out.trans (hb5.mono HB.out.size))
     have HW3 := Lib.hid hw3
     clear hb5 hrw hrs hw3
     go_wp2_with fail
     go_roundw
     case rel =>
      refine ⟨1, by omega, by go_num, ?_, ?_, ?_⟩
      · rw [HW3.out]; simp [World.setCell, Array.getElem?_modify, HRW.out]
      · rw [HW3.out]
        exact (Below.heap_setCell _ _ _ _ (show w.heap.size + 1 + 1 ≠ w.heap.size by omega)).trans ((Below.heap_setCell _ _ _ _ (show w.heap.size + 1 + 1 ≠ w.heap.size by omega)).trans HRS.out)
      · rw [HW3.out]; exact (HB5.out.setCell (Nat.le_refl _) _).setCell (Nat.le_refl _) _
     case measure => simp [intOf]
  · simp only [if_pos (show 1 ≤ 1 by omega), if_neg (show ¬ 2 ≤ 1 by omega)] at hrow
    have z0 := cell_of_row wr _ 0 _ _ _ hrow
    have z1 := cell_of_row wr _ 1 _ _ _ hrow
    have z2 := cell_of_row wr _ 2 _ _ _ hrow
    have z3 := cell_of_row wr _ 3 _ _ _ hrow
    simp only [List.getElem?_toArray, List.getElem?_cons_zero, List.getElem?_cons_succ] at z0 z1 z2 z3
    have hlt0 := heap_lt hrow
    have ff : ∀ o, wr.frozen? ⟨w.heap.size, o, none⟩ = false := fun o => by simp [World.frozen?, hrow]
    have ff0 := ff 2
    have ff1 := ff 3
    have HROW := Lib.hid hrow
    have HRES := Lib.hid hres
    have HB := Lib.hid hB
    clear ff hrow hres hB
    go_wp2_with fail
    refine name_act ?_
    intro A hA
    obtain ⟨R, hR⟩ : ∃ R : Act → World → Prop, R = fun a' w' => ∃ w5 : World, (∃ u12 u13 u14 u15 u16 u17 u18 u19, a' = ((((((((A.put (some 12) u12).put (some 13) u13).put (some 14) u14).put (some 15) u15).put (some 16) u16).put (some 17) u17).put (some 18) u18).put (some 19) u19)) ∧ Below wr.heap.size wr w5 ∧ w' = (w5.setCell ⟨w.heap.size, 2, none⟩ (I (Ld.join ⟨yl, yh⟩ (Ld.just f1)).lo)).setCell ⟨w.heap.size, 3, none⟩ (I (Ld.join ⟨yl, yh⟩ (Ld.just f1)).hi) := ⟨_, rfl⟩
    have HR := Lib.hid hR
    clear hR
    refine wp_between R ?first ?rest
    case first =>
     subst hA
     have hFW : w.heap.size ≤ wr.heap.size := HB.out.size
     have hS0 : Apart w.heap.size wr wr.drew := apart_start _ _
     have hF0 : wr.drew.heap[w.heap.size]? = _ := HROW.out
     have hb0 : Below wr.heap.size wr wr.drew := (Below.refl _ _).drew
     refine wp_region_held_drew (S := fun w' => Apart w.heap.size wr w') (by kernel_rfl) hS0 (fun _ => ?_)
     refine wpAnyH_take (i := 0) (oi := { dst := some 12, op := Op.move (Operand.tmp 5), type := 3, pos := "ledger.go:27", after := #[], guard := none }) (v := ?v15) rfl (by kernel_rfl) (by kernel_rfl) (by kernel_rfl) (fun _ _ _ h => h) (Or.inl ⟨by rfl, ?hy15⟩) hS0 ?r15
     case hy15 =>
      intro w' hSw
      have hq := hSw.1
      clear hSw
      go_simp
      with_reducible rfl
     try simp only [putL]
     refine wpAnyH_take (i := 1) (oi := { dst := some 13, op := Op.move (Operand.tmp 5), type := 3, pos := "ledger.go:27", after := #[], guard := none }) (v := ?v16) rfl (by kernel_rfl) (by kernel_rfl) (by kernel_rfl) (fun _ _ _ h => h) (Or.inl ⟨by rfl, ?hy16⟩) hS0 ?r16
     case hy16 =>
      intro w' hSw
      have hq := hSw.1
      clear hSw
      go_simp
      with_reducible rfl
     try simp only [putL]
     refine wpAnyH_take (i := 2) (oi := { dst := some 14, op := Op.indexAddr 84 (Operand.tmp 2) (Operand.tmp 13), type := 0, pos := "ledger.go:27", after := #[{ on := 1, ground := Ground.data }], guard := none }) (v := ?v17) rfl (by kernel_rfl) (by kernel_rfl) (by kernel_rfl) (fun _ _ _ h => h) (Or.inl ⟨by rfl, ?hy17⟩) hS0 ?r17
     case hy17 =>
      intro w' hSw
      have hq := hSw.1
      clear hSw
      go_simp
      with_reducible rfl
     try simp only [putL]
     refine wpAnyH_take (i := 4) (oi := { dst := some 16, op := Op.move (Operand.tmp 6), type := 3, pos := "ledger.go:27", after := #[], guard := none }) (v := ?v18) rfl (by kernel_rfl) (by kernel_rfl) (by kernel_rfl) (fun _ _ _ h => h) (Or.inl ⟨by rfl, ?hy18⟩) hS0 ?r18
     case hy18 =>
      intro w' hSw
      have hq := hSw.1
      clear hSw
      go_simp
      with_reducible rfl
     try simp only [putL]
     refine wpAnyH_ready (rs := [3, 5]) (by kernel_rfl) (by simp) ?_
     refine AllReadyH.cons rfl (fun K hK => ?_) (AllReadyH.cons rfl (fun K hK => ?_) AllReadyH.nil)
     · have y0 := cell_of_row wr.drew _ 2 _ _ _ hF0
       have y1 := cell_of_row wr.drew _ 3 _ _ _ hF0
       simp only [List.getElem?_toArray, List.getElem?_cons_zero, List.getElem?_cons_succ] at y0 y1
       go_simp
       refine hK.out _ _ hS0 (fun _ => ?_)
       clear hK K y0 y1
       try simp only [putL]
       refine wpAnyH_ready (rs := [5]) (by kernel_rfl) (by simp) ?_
       refine AllReadyH.cons rfl (fun K hK => ?_) AllReadyH.nil
       go_simp
       refine (just_any f1 _).mono ?_
       rintro e w20 ⟨rfl, hBw20⟩
       have hSw20 := apart_step hFW hBw20 hS0
       have fFw20 := (hBw20.block _ (heap_lt hF0)).trans hF0
       have mbww20 := hb0.trans (hBw20.mono hb0.size)
       refine hK.out _ _ hSw20 (fun _ => ?_)
       clear hK K
       try simp only [putL]
       refine wpAnyH_ready (rs := [6]) (by kernel_rfl) (by simp) ?_
       refine AllReadyH.cons rfl (fun K hK => ?_) AllReadyH.nil
       go_simp
       refine (join_any ⟨yl, yh⟩ (Ld.just f1) _).mono ?_
       rintro e w21 ⟨rfl, hBw21⟩
       have hSw21 := apart_step hFW hBw21 hSw20
       have fFw21 := (hBw21.block _ (heap_lt fFw20)).trans fFw20
       have mbww21 := mbww20.trans (hBw21.mono mbww20.size)
       refine hK.out _ _ hSw21 (fun _ => ?_)
       clear hK K
       try simp only [putL]
       refine wpAnyH_take (i := 7) (oi := { dst := some 19, op := Op.indexAddr 84 (Operand.tmp 2) (Operand.tmp 12), type := 0, pos := "ledger.go:27", after := #[{ on := 0, ground := Ground.data }, { on := 0, ground := Ground.phase }, { on := 1, ground := Ground.phase }, { on := 2, ground := Ground.phase }, { on := 3, ground := Ground.phase }, { on := 4, ground := Ground.phase }, { on := 5, ground := Ground.phase }, { on := 6, ground := Ground.phase }], guard := none }) (v := ?v22) rfl (by kernel_rfl) (by kernel_rfl) (by kernel_rfl) (fun _ _ _ h => h) (Or.inl ⟨by rfl, ?hy22⟩) hSw21 ?r22
       case hy22 =>
        intro w' hSw
        have hq := hSw.1
        clear hSw
        go_simp
        with_reducible rfl
       try simp only [putL]
       refine wpAnyH_ready (rs := [8]) (by kernel_rfl) (by simp) ?_
       refine AllReadyH.cons rfl (fun K hK => ?_) AllReadyH.nil
       have y0 := cell_of_row w21 _ 2 _ _ _ fFw21
       have y1 := cell_of_row w21 _ 3 _ _ _ fFw21
       simp only [List.getElem?_toArray, List.getElem?_cons_zero, List.getElem?_cons_succ] at y0 y1
       have fz0 : w21.frozen? ⟨w.heap.size, 2, none⟩ = false := by simp [World.frozen?, fFw21]
       have fz1 : w21.frozen? ⟨w.heap.size, 3, none⟩ = false := by simp [World.frozen?, fFw21]
       go_simp
       refine hK.out _ _ (apart_set (apart_set hSw21 _ _) _ _) (fun _ => ?_)
       clear hK K
       try simp only [putL]
       refine wpAnyH_done (by kernel_rfl) ?_ _
       show R _ _
       rw [HR.out]
       simp only [putL]
       exact ⟨w21, ⟨_, _, _, _, _, _, _, _, rfl⟩, mbww21, rfl⟩
     · go_simp
       refine (just_any f1 _).mono ?_
       rintro e w24 ⟨rfl, hBw24⟩
       have hSw24 := apart_step hFW hBw24 hS0
       have fFw24 := (hBw24.block _ (heap_lt hF0)).trans hF0
       have mbww24 := hb0.trans (hBw24.mono hb0.size)
       refine hK.out _ _ hSw24 (fun _ => ?_)
       clear hK K
       try simp only [putL]
       refine wpAnyH_ready (rs := [3]) (by kernel_rfl) (by simp) ?_
       refine AllReadyH.cons rfl (fun K hK => ?_) AllReadyH.nil
       have y0 := cell_of_row w24 _ 2 _ _ _ fFw24
       have y1 := cell_of_row w24 _ 3 _ _ _ fFw24
       simp only [List.getElem?_toArray, List.getElem?_cons_zero, List.getElem?_cons_succ] at y0 y1
       go_simp
       refine hK.out _ _ hSw24 (fun _ => ?_)
       clear hK K y0 y1
       try simp only [putL]
       refine wpAnyH_ready (rs := [6]) (by kernel_rfl) (by simp) ?_
       refine AllReadyH.cons rfl (fun K hK => ?_) AllReadyH.nil
       go_simp
       refine (join_any ⟨yl, yh⟩ (Ld.just f1) _).mono ?_
       rintro e w26 ⟨rfl, hBw26⟩
       have hSw26 := apart_step hFW hBw26 hSw24
       have fFw26 := (hBw26.block _ (heap_lt fFw24)).trans fFw24
       have mbww26 := mbww24.trans (hBw26.mono mbww24.size)
       refine hK.out _ _ hSw26 (fun _ => ?_)
       clear hK K
       try simp only [putL]
       refine wpAnyH_take (i := 7) (oi := { dst := some 19, op := Op.indexAddr 84 (Operand.tmp 2) (Operand.tmp 12), type := 0, pos := "ledger.go:27", after := #[{ on := 0, ground := Ground.data }, { on := 0, ground := Ground.phase }, { on := 1, ground := Ground.phase }, { on := 2, ground := Ground.phase }, { on := 3, ground := Ground.phase }, { on := 4, ground := Ground.phase }, { on := 5, ground := Ground.phase }, { on := 6, ground := Ground.phase }], guard := none }) (v := ?v27) rfl (by kernel_rfl) (by kernel_rfl) (by kernel_rfl) (fun _ _ _ h => h) (Or.inl ⟨by rfl, ?hy27⟩) hSw26 ?r27
       case hy27 =>
        intro w' hSw
        have hq := hSw.1
        clear hSw
        go_simp
        with_reducible rfl
       try simp only [putL]
       refine wpAnyH_ready (rs := [8]) (by kernel_rfl) (by simp) ?_
       refine AllReadyH.cons rfl (fun K hK => ?_) AllReadyH.nil
       have y0 := cell_of_row w26 _ 2 _ _ _ fFw26
       have y1 := cell_of_row w26 _ 3 _ _ _ fFw26
       simp only [List.getElem?_toArray, List.getElem?_cons_zero, List.getElem?_cons_succ] at y0 y1
       have fz0 : w26.frozen? ⟨w.heap.size, 2, none⟩ = false := by simp [World.frozen?, fFw26]
       have fz1 : w26.frozen? ⟨w.heap.size, 3, none⟩ = false := by simp [World.frozen?, fFw26]
       go_simp
       refine hK.out _ _ (apart_set (apart_set hSw26 _ _) _ _) (fun _ => ?_)
       clear hK K
       try simp only [putL]
       refine wpAnyH_done (by kernel_rfl) ?_ _
       show R _ _
       rw [HR.out]
       simp only [putL]
       exact ⟨w26, ⟨_, _, _, _, _, _, _, _, rfl⟩, mbww26, rfl⟩
    case rest =>
     intro a' w3 hra
     rw [HR.out] at hra
     clear HR
     obtain ⟨w5, ⟨u12, u13, u14, u15, u16, u17, u18, u19, rfl⟩, hb5, hw3⟩ := hra
     subst hA
     try simp only [putL]
     have hrw := (hb5.block _ (heap_lt HROW.out)).trans HROW.out
     have hrs := (hb5.block _ (heap_lt HRES.out)).trans HRES.out
     have hz5 := hb5.size
     have HRW := Lib.hid hrw
     have HRS := Lib.hid hrs
     have HB5 := Lib.hid (HB.out.trans (hb5.mono HB.out.size))
     have HW3 := Lib.hid hw3
     clear hb5 hrw hrs hw3
     go_wp2_with fail
     go_roundw
     case rel =>
      refine ⟨2, by omega, by go_num, ?_, ?_, ?_⟩
      · rw [HW3.out]; simp [World.setCell, Array.getElem?_modify, HRW.out]
      · rw [HW3.out]
        exact (Below.heap_setCell _ _ _ _ (show w.heap.size + 1 + 1 ≠ w.heap.size by omega)).trans ((Below.heap_setCell _ _ _ _ (show w.heap.size + 1 + 1 ≠ w.heap.size by omega)).trans HRS.out)
      · rw [HW3.out]; exact (HB5.out.setCell (Nat.le_refl _) _).setCell (Nat.le_refl _) _
     case measure => simp [intOf]
  · simp only [if_pos (show 1 ≤ 2 by omega), if_pos (show 2 ≤ 2 by omega), HJ0.out, HJ1.out] at hrow
    have z0 := cell_of_row wr _ 0 _ _ _ hrow
    have z1 := cell_of_row wr _ 1 _ _ _ hrow
    have z2 := cell_of_row wr _ 2 _ _ _ hrow
    have z3 := cell_of_row wr _ 3 _ _ _ hrow
    have y0 := cell_of_row wr _ 0 _ _ _ hres
    have y1 := cell_of_row wr _ 1 _ _ _ hres
    have y2 := cell_of_row wr _ 2 _ _ _ hres
    have y3 := cell_of_row wr _ 3 _ _ _ hres
    simp only [List.getElem?_toArray, List.getElem?_cons_zero, List.getElem?_cons_succ] at z0 z1 z2 z3 y0 y1 y2 y3
    have ff : ∀ o, wr.frozen? ⟨w.heap.size + 1 + 1, o, none⟩ = false := fun o => by simp [World.frozen?, hres]
    have HRES := Lib.hid hres
    have HB := Lib.hid hB
    clear hres hB hrow
    go_wp2_with fail
    refine name_post ?_
    intro W hW
    have hrow : W.heap[w.heap.size + 1 + 1]? = some (.cells #[I j0.lo, I j0.hi, I j1.lo, I j1.hi] 84 (0, 0)) := by rw [hW]; simp [World.setCell, Array.getElem?_modify, HRES.out]
    have hbW : Below w.heap.size w W := by rw [hW]; exact (((HB.out.setCell (by simp; omega) _).setCell (by simp; omega) _).setCell (by simp; omega) _).setCell (by simp; omega) _
    have hq : ∀ j : Nat, W.cell? ⟨w.heap.size + 1 + 1, j, none⟩ = #[I j0.lo, I j0.hi, I j1.lo, I j1.hi][j]? := fun j => cell_of_row W _ j _ _ _ hrow
    clear hW
    exact bodyPost_ret (v := vFl (j0, j1)) (by simp [results, Try.results73, go_sem, hq]) rfl ⟨rfl, hbW⟩
end Go.Proofs.Ytjgpghaofhcfnaa
