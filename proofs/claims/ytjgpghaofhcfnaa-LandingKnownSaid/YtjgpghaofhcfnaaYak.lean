/- Texts on the program that the proof leans on, part 11. -/
import Derived.Test.YtjgpghaofhcfnaaYaj
import Derived.WalkMore
import Derived.Deep.Cut
set_option linter.unusedVariables false
set_option linter.unusedSimpArgs false

namespace Go.Proofs.Ytjgpghaofhcfnaa
open Go.RowKit
attribute [local go_sem] Oper.semAt_some
def TrOk (t : Ld.Tr) : Prop := -1000 ≤ t.f0 ∧ t.f0 ≤ 1000 ∧ -1000 ≤ t.f1 ∧ t.f1 ≤ 1000
structure Led (b : Ld.Bk) (T D : Value) (r : Nat) (w : World) : Prop where
 rb : RB w w.heap.size b T D
 sm : ∃ B, SM w B b.sounds b.sounds r
theorem Led.up {b : Ld.Bk} {T D : Value} {r : Nat} {w w' : World} (h : Led b T D r w) (hb : Below w.heap.size w w') : Led b T D r w' := by
 obtain ⟨h1, B, h2⟩ := h
 exact ⟨h1.up hb, B, h2.below hb⟩
set_option maxRecDepth 100000 in
set_option maxHeartbeats 4000000 in
theorem allows_any (b : Ld.Bk) (t : Ld.Tr) (T D R : Value) (nr r : Nat) (k : Ld.Sp × Ld.Sp) (w : World) (hl : Led b T D r w) (hR : ∃ Ar cr, R = .slice Ar nr cr) (hv : Ld.valid b = true) (ht : TrOk t) :
 Calls Try.prog 85 #[vLg T D (.map (some r)) R b k, vTr t] w fun e w' => e = .returned (.bool (Ld.allows b t)) ∧ Below w.heap.size w w' := by
 obtain ⟨hp1, hp2, hp3, hp4, hp5⟩ := Ld.valid_parts hv
 obtain ⟨A0, c0, rfl⟩ := hl.rb.tides.form
 obtain ⟨A1, c1, rfl⟩ := hl.rb.sounds.form
 obtain ⟨Ar, cr, rfl⟩ := hR
 have hsz := Ld.sized_bd hp1
 have HL := Lib.hid hl
 have HSO := Lib.hid hp5
 have HT2 := Lib.hid hp2
 have HTR := Lib.hid ht
 have h6 : b.sounds.length ≤ 6 := hsz.2.2.2.2.2.2
 have h24 : b.tides.length ≤ 24 := hsz.2.1
 clear hl hv hp1 hp2 hp3 hp4 hp5 hsz ht
 go_enter Try.func85, Try.ntmps85
 go_wp2_with fail
 refine name_world ?_
 intro W0 hW0
 have hb0 : Below w.heap.size w W0 := by rw [hW0]; exact ((Below.refl _ _).alloc (Nat.le_refl _) _).alloc (by simp) _
 have e0 : W0.heap[w.heap.size]? = some (oLg (.slice A0 b.tides.length c0) (.slice A1 b.sounds.length c1) (.map (some r)) (.slice Ar nr cr) b k) := by rw [hW0]; exact (Below.heap_alloc _ _ _ (by simp)).trans (heap_at _ _ rfl)
 have e1 : W0.heap[w.heap.size + 1]? = some (.cells #[I t.f0, I t.f1] 112 (0, 0)) := by rw [hW0]; exact heap_at _ _ (by simp)
 have l13 := cell_of_row W0 _ 13 _ _ _ e0
 simp only [List.getElem?_toArray, List.getElem?_cons_zero, List.getElem?_cons_succ] at l13
 have HB0 := Lib.hid hb0
 have E0 := Lib.hid e0
 have E1 := Lib.hid e1
 clear hW0 hb0 e0 e1
 go_wp2_with fail
 go_loopw [11] (fun i wr => ∃ j : Nat, j ≤ b.sounds.length ∧ i = I j ∧ Below W0.heap.size W0 wr ∧ (b.sounds.take j).all (fun s => !Ld.isEmpty (Ld.water b t s.hour.toNat)) = true) (fun i _ => b.sounds.length - (intOf i).toNat)
 case atStart => exact ⟨0, Nat.zero_le _, rfl, Below.refl _ _, rfl⟩
 case round =>
  obtain ⟨j, hj, rfl, hB, hall⟩ := hrel
  clear l13
  have hbw : Below w.heap.size w wr := HB0.out.trans (hB.mono HB0.out.size)
  have HLW := Lib.hid (HL.out.up hbw)
  have HBW := Lib.hid hbw
  have HB := Lib.hid hB
  have HALL := Lib.hid hall
  have HR0 := Lib.hid ((hB.block _ (heap_lt E0.out)).trans E0.out)
  have HR1 := Lib.hid ((hB.block _ (heap_lt E1.out)).trans E1.out)
  have hzr := hB.size
  clear hbw hB hall
  by_cases hlt : j < b.sounds.length
  · obtain ⟨bl, off, c', hv, hbl, q0, q1, q2⟩ := HLW.out.rb.sounds.sd hlt
    injection hv with hA _ hc
    subst hA hc
    have hsb := Ld.sound_bd HSO.out (List.getElem_mem hlt)
    have hgx : b.sounds[j]? = some b.sounds[j] := List.getElem?_eq_getElem hlt
    generalize b.sounds[j] = x at q0 q1 q2 hsb hgx
    obtain ⟨hx0, hx1, _, _, _⟩ := hsb
    obtain ⟨n, hn⟩ : ∃ n : Nat, x.hour = n := ⟨x.hour.toNat, by omega⟩
    have htn : x.hour.toNat = n := by omega
    rw [hn] at q0
    have HGX := Lib.hid hgx
    have HTN := Lib.hid htn
    have hnt : n < b.tides.length := by omega
    have HW : Hid (∀ W', Below wr.heap.size wr W' → Calls Try.prog 76 #[vLg (.slice A0 b.tides.length c0) (.slice (some ⟨bl, off, none⟩) b.sounds.length c1) (.map (some r)) (.slice Ar nr cr) b k, vTr t, I n] W' fun e w' => e = .returned (vSp (Ld.water b t n)) ∧ Below W'.heap.size W' w') := by
     refine Lib.hid fun W' hb => ?_
     obtain ⟨B, hsm⟩ := (HLW.out.up hb).sm
     exact water_any b t n _ _ _ nr B r k W' (HLW.out.up hb).rb hsm ⟨_, _, rfl⟩ HT2.out hnt (by omega) HTR.out.1 HTR.out.2.1 HTR.out.2.2.1 HTR.out.2.2.2
    have hji : (j : Int) < b.sounds.length := by omega
    clear hn hgx htn hx0 hx1
    go_upto_region 4 with fail
    refine name_world ?_
    intro W hW
    have hBW : Below wr.heap.size wr W := by rw [hW]; exact (Below.refl _ _).alloc (Nat.le_refl _) _
    have rS : W.heap[wr.heap.size]? = some (.cells #[I n, I x.shore, I x.deep] 64 (0, 0)) := by rw [hW]; exact heap_at _ _ rfl
    have s0 := cell_of_row W _ 0 _ _ _ rS
    have t0 := cell_of_row W _ 0 _ _ _ ((hBW.block _ (heap_lt HR1.out)).trans HR1.out)
    have t1 := cell_of_row W _ 1 _ _ _ ((hBW.block _ (heap_lt HR1.out)).trans HR1.out)
    simp only [List.getElem?_toArray, List.getElem?_cons_zero, List.getElem?_cons_succ] at s0 t0 t1
    have HRL := Lib.hid ((hBW.block _ (heap_lt HR0.out)).trans HR0.out)
    have HWW := Lib.hid hBW
    clear hW hBW rS q0 q1 q2 hbl
    go_wp2_with (refine wpList_load_row rfl 86 (Operand.tmp 2) rfl w.heap.size rfl 86 (rLg (.slice A0 b.tides.length c0) (.slice (some ⟨bl, off, none⟩) b.sounds.length c1) (.map (some r)) (.slice Ar nr cr) b k) (0, 0) _ HRL.out Try.underlying86 rfl infoLg ?_)
    refine (HW.out _ HWW.out).mono ?_
    rintro e w1 ⟨rfl, hB1⟩
    clear s0 t0 t1
    go_wp2_with fail
    refine (isEmpty_any (Ld.water b t n) _).mono ?_
    rintro e w2 ⟨rfl, hB2⟩
    have hb2 : Below wr.heap.size wr w2 := HWW.out.trans ((hB1.trans (hB2.mono hB1.size)).mono HWW.out.size)
    have HB2 := Lib.hid hb2
    clear hB1 hB2 hb2
    cases hem : Ld.isEmpty (Ld.water b t n)
    · have HEM := Lib.hid hem
      clear hem
      go_wp2_with fail
      go_roundw
      case rel =>
       refine ⟨j + 1, hlt, by go_num, HB.out.trans (HB2.out.mono hzr), ?_⟩
       rw [List.take_add_one, HGX.out, List.all_append, HALL.out]
       simp [HTN.out, HEM.out]
      case measure => simp [intOf]; omega
    · have HEM := Lib.hid hem
      clear hem
      go_wp2_with fail
      go_ret
      refine ⟨ret_b (Eq.symm ?_), HBW.out.trans (HB2.out.mono HBW.out.size)⟩
      unfold Ld.allows
      rw [List.all_eq_false]
      exact ⟨x, List.mem_of_getElem? HGX.out, by simp [HTN.out, HEM.out]⟩
  · obtain rfl : j = b.sounds.length := by omega
    go_wp2_with fail
    go_ret
    exact ⟨ret_b (by unfold Ld.allows; rw [← HALL.out, List.take_length]), HBW.out⟩
namespace Ld
def dig2 (b : Bk) (t : Tr) : List Tr := if allows b t then [t] else []
def dig1 (b : Bk) (x : Int) : List Tr := (nums b.s1.floor).flatMap fun y => dig2 b ⟨x, y⟩
def dig0 (b : Bk) : List Tr := (nums b.s0.floor).flatMap fun x => dig1 b x
theorem dig0_eq (b : Bk) : dig0 b = truths b := by
 unfold dig0 dig1 truths digs
 rw [List.filter_flatMap]
 congr 1
 funext x
 generalize nums b.s1.floor = l
 induction l with
 | nil => rfl
 | cons y l ih =>
  rw [List.flatMap_cons, List.map_cons, List.filter_cons, ih]
  unfold dig2
  split <;> simp
end Ld
abbrev oTr (t : Ld.Tr) : Obj := .cells #[I t.f0, I t.f1] 112 (0, 0)
structure Sit (b : Ld.Bk) (T D R : Value) (r : Nat) (k : Ld.Sp × Ld.Sp) (w0 : World) (lb tb yb wb l : Nat) (Ft : Nat → Prop) (W : World) : Prop where
 low : Below w0.heap.size w0 W
 ft : ∀ j, Ft j → w0.heap.size ≤ j
 nl : ¬ Ft lb
 ny : ¬ Ft yb
 nt : ¬ Ft tb
 nw : ¬ Ft wb
 tl : tb ≠ lb
 ty : tb ≠ yb
 tw : tb ≠ wb
 bt : w0.heap.size ≤ tb
 tlt : tb < W.heap.size
 hl : W.heap[lb]? = some (oLg T D (.map (some r)) R b k)
 hy : W.heap[yb]? = some (.cells #[.func (.yield l) #[] #[]] 121 (0, 0))
 hw : W.heap[wb]? = some (.cells #[.func (.func 84) #[] #[vPtr lb, vPtr tb, vPtr yb, vPtr wb]] 94 (0, 0))
theorem Sit.moves {b : Ld.Bk} {T D R : Value} {r : Nat} {k : Ld.Sp × Ld.Sp} {w0 : World} {lb tb yb wb l : Nat} {Ft Ft' : Nat → Prop} {W W' : World} (h : Sit b T D R r k w0 lb tb yb wb l Ft W) (m : Moves W W' Ft Ft' (some tb)) : Sit b T D R r k w0 lb tb yb wb l Ft' W' := by
 have hz := h.low.size
 have own : ∀ j o, W.heap[j]? = some o → ¬ Ft j → tb ≠ j → W'.heap[j]? = some o := fun j o ho hf hne => (m.block j (heap_lt ho) hf (fun e => by injection e with e; exact hne e.symm)).trans ho
 have nf : ∀ j, j < W.heap.size → ¬ Ft j → ¬ Ft' j := fun j ho hf hf' => by
  rcases m.foot j hf' with h1 | h1
  · exact hf h1
  · omega
 exact ⟨⟨m.os.trans h.low.os, m.tape.trans h.low.tape, m.output.trans h.low.output, Nat.le_trans hz m.size, fun j hj => (m.block j (Nat.lt_of_lt_of_le hj hz) (fun hf => by have := h.ft j hf; omega) (fun e => by injection e with e; have := h.bt; omega)).trans (h.low.block j hj)⟩,
  fun j hj => by
   rcases m.foot j hj with h1 | h1
   · exact h.ft j h1
   · omega,
  nf _ (heap_lt h.hl) h.nl, nf _ (heap_lt h.hy) h.ny, nf _ h.tlt h.nt, nf _ (heap_lt h.hw) h.nw, h.tl, h.ty, h.tw, h.bt, Nat.lt_of_lt_of_le h.tlt m.size, own _ _ h.hl h.nl h.tl, own _ _ h.hy h.ny h.ty, own _ _ h.hw h.nw h.tw⟩
def DigPost (J Jx : List Ld.Tr → (Nat → Prop) → World → Prop) (pre L : List Ld.Tr) (P : Ld.Tr → Prop) (Ft : Nat → Prop) (tb : Nat) (W : World) : Ending → World → Prop := fun e W' =>
 (∃ Ft' t', e = .returned (.bool true) ∧ J (pre ++ L) Ft' W' ∧ Moves W W' Ft Ft' (some tb) ∧ W'.heap[tb]? = some (oTr t') ∧ P t') ∨
 (∃ q Ft', e = .returned (.bool false) ∧ q <+: L ∧ Jx (pre ++ q) Ft' W' ∧ Moves W W' Ft Ft' (some tb))
end Go.Proofs.Ytjgpghaofhcfnaa
namespace Go.Proofs.Ytjgpghaofhcfnaa
open Go.RowKit
attribute [local go_sem] Oper.semAt_some
theorem wpListIn_load_row {F : Fence} {n : Nat} {P : Program} {ops : Array Oper} {rest : List Oper} {o : Oper} {a : Act} {w : World} {Q : Exit → Act → World → Prop} (hgd : o.guard = none) (ty : TypeId) (x : Operand) (ho : o.op = .load ty x)
 (g : Nat) (hx : a.eval x = .pointer (some ⟨g, 0, none⟩)) (t : TypeId) (cs : Array Value) (fr : Nat × Nat) (d : TypeDesc) (hg : w.heap[g]? = some (.cells cs t fr))
 (hu : P.underlying ty = some d) (hd : (match d with | .struct _ | .array _ _ => true | _ => false) = true) (hi : (P.info? ty).map (·.size) = some cs.size)
 (h : wpListIn F n P ops Q rest (a.put o.dst (.agg cs)) w) : wpListIn F n P ops Q (o :: rest) a w := by
 refine wpListIn_plain hgd fun K' hK' => ?_
 unfold Oper.wpIn
 refine ⟨fun f hf => by simp [Oper.about, ho] at hf, ?_⟩
 simp [Oper.semAt, execOp, ho, hx, Instr.loadAt, Instr.sureAddr, run_loadVar_row w g t ty cs fr d hg hu hd hi]
 exact hK' _ _ h
set_option maxRecDepth 100000 in
set_option maxHeartbeats 4000000 in
theorem dig2_any (b : Ld.Bk) (J Jx : List Ld.Tr → (Nat → Prop) → World → Prop) (l : Nat) (T D R : Value) (nr r : Nat) (k : Ld.Sp × Ld.Sp) (w0 : World) (lb tb yb wb : Nat) (hJ : Own J) (hJx : Own Jx) (hY : ∀ d, Round Try.prog vTr J Jx (Ld.truths b) d l)
 (hled : Led b T D r w0) (hR : ∃ Ar cr, R = .slice Ar nr cr) (hv : Ld.valid b = true) (st : Ld.Tr) (hst : TrOk st) (pre : List Ld.Tr) (hpre : pre ++ Ld.dig2 b st <+: Ld.truths b) (Ft : Nat → Prop) (w : World)
 (hS : Sit b T D R r k w0 lb tb yb wb l Ft w) (hT : w.heap[tb]? = some (oTr st)) (hj : J pre Ft w) :
 Calls Try.prog 84 #[I 2, vPtr lb, vPtr tb, vPtr yb, vPtr wb] w (DigPost J Jx pre (Ld.dig2 b st) (fun t' => t' = st) Ft tb w) := by
 have hlt0 := heap_lt hS.hl
 have hlt1 := heap_lt hS.hy
 have hlt2 := heap_lt hT
 have HS := Lib.hid hS
 have HT := Lib.hid hT
 have HJ := Lib.hid hj
 have HP := Lib.hid hpre
 have HA : Hid (∀ W', Below w0.heap.size w0 W' → Calls Try.prog 85 #[vLg T D (.map (some r)) R b k, vTr st] W' fun e w' => e = .returned (.bool (Ld.allows b st)) ∧ Below W'.heap.size W' w') :=
  Lib.hid fun W' hb => allows_any b st T D R nr r k W' (hled.up hb) hR hv hst
 obtain ⟨A0, c0, rfl⟩ := hled.rb.tides.form
 obtain ⟨A1, c1, rfl⟩ := hled.rb.sounds.form
 obtain ⟨Ar, cr, rfl⟩ := hR
 clear hS hT hj hled hpre
 go_enter Try.func84, Try.ntmps84
 go_upto_region 2 with fail
 refine name_world ?_
 intro W hW
 have hB : Below w.heap.size w W := by rw [hW]; exact ((Below.refl _ _).alloc (Nat.le_refl _) _).alloc (by simp) _
 have hres : W.heap[w.heap.size + 1]? = some (.cells #[.bool false] 4 (0, 0)) := by rw [hW]; exact heap_at _ _ (by simp)
 have rL := (hB.block _ hlt0).trans HS.out.hl
 have rT := (hB.block _ hlt2).trans HT.out
 have t0 := cell_of_row W _ 0 _ _ _ rT
 have t1 := cell_of_row W _ 1 _ _ _ rT
 simp only [List.getElem?_toArray, List.getElem?_cons_zero, List.getElem?_cons_succ] at t0 t1
 have HB := Lib.hid hB
 have HRES := Lib.hid hres
 have RL := Lib.hid rL
 have hzb := hB.size
 clear hW hB hres rL rT
 cases hal : Ld.allows b st
 · have hd : Ld.dig2 b st = [] := by simp [Ld.dig2, hal]
   have HD := Lib.hid hd
   rw [hal] at HA
   clear hal hd
   go_wp2_with (refine wpList_load_row rfl 86 (Operand.tmp 1) rfl lb rfl 86 (rLg (.slice A0 b.tides.length c0) (.slice A1 b.sounds.length c1) (.map (some r)) (.slice Ar nr cr) b k) (0, 0) _ RL.out Try.underlying86 rfl infoLg ?_)
   refine (HA.out _ (HS.out.low.trans (HB.out.mono HS.out.low.size))).mono ?_
   rintro e w1 ⟨rfl, hB1⟩
   have hb1 : Below w.heap.size w w1 := HB.out.trans (hB1.mono hzb)
   have hres1 := (hB1.block _ (heap_lt HRES.out)).trans HRES.out
   have hm1 : Moves w w1 Ft Ft (some tb) := .of_below hb1
   have hS1 := HS.out.moves hm1
   have hj1 := hJ.below HJ.out hb1
   have rT1 := (hb1.block _ hlt2).trans HT.out
   have g0 := cell_of_row w1 _ 0 _ _ _ rT1
   have g1 := cell_of_row w1 _ 1 _ _ _ rT1
   have y0 := cell_of_row w1 _ 0 _ _ _ hS1.hy
   have rr := cell_of_row w1 _ 0 _ _ _ hres1
   have rf : w1.frozen? ⟨w.heap.size + 1, 0, none⟩ = false := by simp [World.frozen?, hres1]
   simp only [List.getElem?_toArray, List.getElem?_cons_zero, List.getElem?_cons_succ] at g0 g1 y0 rr
   have HM1 := Lib.hid hm1
   have HS1 := Lib.hid hS1
   have HJ1 := Lib.hid hj1
   have HT1 := Lib.hid rT1
   have HR1 := Lib.hid hres1
   have hz1 := hb1.size
   clear t0 t1 hB1 hb1 hm1 hS1 hj1 rT1 hres1
   go_wp2_with fail
   have hrs : (w1.setCell ⟨w.heap.size + 1, 0, none⟩ (.bool true)).cell? ⟨w.heap.size + 1, 0, none⟩ = some (.bool true) := World.cell?_setCell_same' _ _ _ (by rw [rr]; rfl)
   refine bodyPost_ret (v := .bool true) (by simp [results, Try.results84, go_sem, hrs]) rfl ?_
   refine .inl ⟨Ft, st, rfl, by rw [HD.out, List.append_nil]; exact hJ.set HJ1.out (fun h => by have := hJ.lt _ _ _ _ HJ.out h; omega) _ _, ?_, ?_, rfl⟩
   · exact ⟨HM1.out.os, HM1.out.tape, HM1.out.output, by have := HM1.out.size; simpa [World.setCell] using this, fun i hi hf ht => (Below.heap_setCell _ _ _ _ (by show i ≠ w.heap.size + 1; omega)).trans (HM1.out.block i hi hf ht), HM1.out.foot⟩
   · exact (Below.heap_setCell _ _ _ _ (by show tb ≠ w.heap.size + 1; omega)).trans HT1.out
 · have hd : Ld.dig2 b st = [st] := by simp [Ld.dig2, hal]
   have HD := Lib.hid hd
   have hp := HP.out
   rw [hd] at hp
   rw [hal] at HA
   refine (wpIn_wide (n := 1)).1 ?_
   gi_wp2_with (refine wpListIn_load_row rfl 86 (Operand.tmp 1) rfl lb rfl 86 (rLg (.slice A0 b.tides.length c0) (.slice A1 b.sounds.length c1) (.map (some r)) (.slice Ar nr cr) b k) (0, 0) _ RL.out Try.underlying86 rfl infoLg ?_)
   refine ⟨trivial, ?_⟩
   refine (callsIn_wide.2 (HA.out _ (HS.out.low.trans (HB.out.mono HS.out.low.size)))).mono ?_
   rintro e w1 ⟨rfl, hB1⟩
   have hb1 : Below w.heap.size w w1 := HB.out.trans (hB1.mono hzb)
   have hres1 := (hB1.block _ (heap_lt HRES.out)).trans HRES.out
   have hm1 : Moves w w1 Ft Ft (some tb) := .of_below hb1
   have hS1 := HS.out.moves hm1
   have hj1 := hJ.below HJ.out hb1
   have rT1 := (hb1.block _ hlt2).trans HT.out
   have g0 := cell_of_row w1 _ 0 _ _ _ rT1
   have g1 := cell_of_row w1 _ 1 _ _ _ rT1
   have y0 := cell_of_row w1 _ 0 _ _ _ hS1.hy
   have rr := cell_of_row w1 _ 0 _ _ _ hres1
   have rf : w1.frozen? ⟨w.heap.size + 1, 0, none⟩ = false := by simp [World.frozen?, hres1]
   simp only [List.getElem?_toArray, List.getElem?_cons_zero, List.getElem?_cons_succ] at g0 g1 y0 rr
   have HM1 := Lib.hid hm1
   have HS1 := Lib.hid hS1
   have HJ1 := Lib.hid hj1
   have HT1 := Lib.hid rT1
   have HR1 := Lib.hid hres1
   have hz1 := hb1.size
   clear t0 t1 hB1 hb1 hm1 hS1 hj1 rT1 hres1
   obtain ⟨fn, tmps, assign, body, hy, hRd⟩ := hY 0 pre st Ft w1 HJ1.out hp
   have HRD := Lib.hid hRd
   clear hal hd hp hRd
   gi_wp2_with fail
   refine HRD.out.mono ?_
   rintro e W' (⟨Ft', rfl, hj', hm⟩ | ⟨Ft', rfl, hx', hm⟩)
   · have hrn : ¬ Ft (w.heap.size + 1) := fun h => by have := hJ.lt _ _ _ _ HJ.out h; omega
     have hrw := (hm.block _ (heap_lt HR1.out) hrn (by simp)).trans HR1.out
     have rr' := cell_of_row W' _ 0 _ _ _ hrw
     have rf' : W'.frozen? ⟨w.heap.size + 1, 0, none⟩ = false := by simp [World.frozen?, hrw]
     simp only [List.getElem?_toArray, List.getElem?_cons_zero, List.getElem?_cons_succ] at rr'
     have hrn' : ¬ Ft' (w.heap.size + 1) := fun h => by
      rcases hm.foot _ h with h' | h'
      · exact hrn h'
      · have := heap_lt HR1.out; omega
     have HJ' := Lib.hid hj'
     have HM := Lib.hid hm
     clear hy g0 g1 y0 rr rf hj' hm hrw
     gi_wp2_with fail
     go_wp2_with fail
     have hrs : (W'.setCell ⟨w.heap.size + 1, 0, none⟩ (.bool true)).cell? ⟨w.heap.size + 1, 0, none⟩ = some (.bool true) := World.cell?_setCell_same' _ _ _ (by rw [rr']; rfl)
     refine bodyPost_ret (v := .bool true) (by simp [results, Try.results84, go_sem, hrs]) rfl ?_
     refine .inl ⟨Ft', st, rfl, by rw [HD.out]; exact hJ.set HJ'.out hrn' _ _, ?_, ?_, rfl⟩
     · have hmm := HM1.out.trans (HM.out.any (some tb))
       exact ⟨hmm.os, hmm.tape, hmm.output, by have := hmm.size; simpa [World.setCell] using this, fun i hi hf ht => (Below.heap_setCell _ _ _ _ (by show i ≠ w.heap.size + 1; omega)).trans (hmm.block i hi hf ht), hmm.foot⟩
     · exact (Below.heap_setCell _ _ _ _ (by show tb ≠ w.heap.size + 1; omega)).trans ((HM.out.block _ (heap_lt HT1.out) HS1.out.nt (by simp)).trans HT1.out)
   · have hrn : ¬ Ft (w.heap.size + 1) := fun h => by have := hJ.lt _ _ _ _ HJ.out h; omega
     have hrw := (hm.block _ (heap_lt HR1.out) hrn (by simp)).trans HR1.out
     have rr' := cell_of_row W' _ 0 _ _ _ hrw
     have rf' : W'.frozen? ⟨w.heap.size + 1, 0, none⟩ = false := by simp [World.frozen?, hrw]
     simp only [List.getElem?_toArray, List.getElem?_cons_zero, List.getElem?_cons_succ] at rr'
     have hrn' : ¬ Ft' (w.heap.size + 1) := fun h => by
      rcases hm.foot _ h with h' | h'
      · exact hrn h'
      · have := heap_lt HR1.out; omega
     have HX' := Lib.hid hx'
     have HM := Lib.hid hm
     clear hy g0 g1 y0 rr rf hx' hm hrw
     gi_wp2_with fail
     go_wp2_with fail
     have hrs : (W'.setCell ⟨w.heap.size + 1, 0, none⟩ (.bool false)).cell? ⟨w.heap.size + 1, 0, none⟩ = some (.bool false) := World.cell?_setCell_same' _ _ _ (by rw [rr']; rfl)
     refine bodyPost_ret (v := .bool false) (by simp [results, Try.results84, go_sem, hrs]) rfl ?_
     refine .inr ⟨[st], Ft', rfl, by rw [HD.out]; exact List.prefix_refl _, hJx.set HX'.out hrn' _ _, ?_⟩
     have hmm := HM1.out.trans (HM.out.any (some tb))
     exact ⟨hmm.os, hmm.tape, hmm.output, by have := hmm.size; simpa [World.setCell] using this, fun i hi hf ht => (Below.heap_setCell _ _ _ _ (by show i ≠ w.heap.size + 1; omega)).trans (hmm.block i hi hf ht), hmm.foot⟩
end Go.Proofs.Ytjgpghaofhcfnaa
