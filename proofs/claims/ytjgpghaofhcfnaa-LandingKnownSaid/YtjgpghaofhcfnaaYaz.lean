/- Texts on the program that the proof leans on, part 26. -/
import Derived.Test.YtjgpghaofhcfnaaYay
import Derived.Maps.OwnIn
import Derived.Maps.AppendAt
import Derived.Deep.Cut
import Derived.Laws.CopyOwn
set_option linter.unusedVariables false
set_option linter.unusedSimpArgs false

namespace Go.Proofs.Ytjgpghaofhcfnaa
open Go.RowKit
attribute [local go_sem] Oper.semAt_some
def Left (F : List Int → Bool) (size m f : Nat) (acc : List Int) (k : Nat) : Prop := (Ch.combL size m f acc).find? F = (Ch.combL size (m - k) (f + k) acc).find? F
theorem left_zero (F : List Int → Bool) (size m f : Nat) (acc : List Int) : Left F size m f acc 0 := rfl
theorem left_step {F : List Int → Bool} {size m f : Nat} {acc : List Int} {k : Nat} (h : Left F size m f acc k) (hk : k < m) (hn : (Ch.comb size (m - (k + 1)) (f + k + 1) (acc ++ [((f + k : Nat) : Int)])).find? F = none) : Left F size m f acc (k + 1) := by
 unfold Left at h ⊢
 rw [h, show m - k = (m - (k + 1)) + 1 by omega, Ch.combL_succ, List.find?_append, hn]
 rfl
theorem left_found {F : List Int → Bool} {size m f : Nat} {acc x : List Int} {k : Nat} (h : Left F size m f acc k) (hk : k < m) (hn : (Ch.comb size (m - (k + 1)) (f + k + 1) (acc ++ [((f + k : Nat) : Int)])).find? F = some x) : (Ch.combL size m f acc).find? F = some x := by
 unfold Left at h
 rw [h, show m - k = (m - (k + 1)) + 1 by omega, Ch.combL_succ, List.find?_append, hn]
 rfl
set_option maxRecDepth 100000 in
set_option maxHeartbeats 2000000 in
theorem add_step (F : List Int → Bool) (X : Value → World → World → Prop) (n size sb nb yb ab lb l Z : Nat) (W0 : World) (hsz : size ≤ 100) (hn : n ≤ 100) (m f : Nat) (hf : f + m = n) (acc : List Int) (ha : acc.length < size) (W : World) (hS : Site n size sb nb yb ab lb l Z W0 acc W)
 (ih : ∀ k acc' W', k < m → acc'.length ≤ size → Site n size sb nb yb ab lb l Z W0 acc' W' → Calls Try.prog 104 #[I (f + k + 1 : Nat), vPtr lb, vPtr sb, vPtr yb, vPtr nb, vPtr ab] W' (AddPost F X W0 Z (Site n size sb nb yb ab lb l Z W0 acc') (Ch.comb size (m - (k + 1)) (f + k + 1) acc'))) :
 Calls Try.prog 104 #[I f, vPtr lb, vPtr sb, vPtr yb, vPtr nb, vPtr ab] W (AddPost F X W0 Z (Site n size sb nb yb ab lb l Z W0 acc) (Ch.combL size m f acc)) := by
 obtain ⟨g, cap, hl, -, -⟩ := hS.list
 have l0 := cell_of_row W _ 0 _ _ _ hl
 have s0 := cell_of_row W _ 0 _ _ _ hS.hs
 have n0 := cell_of_row W _ 0 _ _ _ hS.hn
 simp only [List.getElem?_toArray, List.getElem?_cons_zero, List.getElem?_cons_succ] at l0 s0 n0
 have hai : ((acc.length : Int) == (size : Int)) = false := by simp; omega
 have hfi : (f : Int) ≤ n := by omega
 have HIH := Lib.hid ih
 have HS := Lib.hid hS
 clear ih hl hS
 go_enter Try.func104, Try.ntmps104
 go_wp2_with fail
 clear l0 s0 n0 hai
 go_loopw [22] (fun i wr => ∃ k : Nat, k ≤ m ∧ i = I k ∧ Site n size sb nb yb ab lb l Z W0 acc wr ∧ Left F size m f acc k) (fun i _ => m - (intOf i).toNat)
 case atStart => exact ⟨0, Nat.zero_le _, rfl, HS.out, left_zero _ _ _ _ _⟩
 case round =>
  obtain ⟨k, hk, rfl, hSr, hL⟩ := hrel
  have HL := Lib.hid hL
  have HSR := Lib.hid hSr
  by_cases hlt : k < m
  · have hki : (k : Int) < (n : Int) - f := by omega
    obtain ⟨g, cap, hl, hown, -⟩ := hSr.list
    have l0 := cell_of_row wr _ 0 _ _ _ hl
    simp only [List.getElem?_toArray, List.getElem?_cons_zero, List.getElem?_cons_succ] at l0
    have hcl := hown.1
    have HOWN := Lib.hid hown
    have HLR := Lib.hid hl
    have hzl := hSr.zl.1
    have hzw := hSr.zw
    have hll := heap_lt hl
    have hgl : g ≠ lb := by obtain ⟨g', c', h1, _, _, _, _, _, h2⟩ := hSr.list; rw [hl] at h1; injection h1 with h1; injection h1 with h1; have h1 := congrArg (fun a : Array Value => a[0]?) h1; simp at h1; omega
    obtain ⟨i0, hi, hz0, hz1', hz2'⟩ := info_parts infoI
    have hfk : ((f + k : Nat) : Int) = (f : Int) + (k : Int) := by omega
    have HFK := Lib.hid hfk
    clear hL hSr hl hown hcl hfk
    go_upto_region 7 with (at_builtin; go_must (refine wpList_append_own_at _ rfl _ _ 31 rfl Z 3 i0 (I 0) 1 8 underIs hi hz0 hz1' hz2' rfl (by decide) _ acc.length (acc.map I) rfl (HOWN.out.alloc _) ⟨wr.heap.size, 0, none⟩ 1 1 [I ((f : Int) + k)] rfl rfl (cell_one_new _ _ _) (by simp [Value.oneCell']) (by unfold maxLen; omega) (by omega) (by simp; omega) ?_; intro v' w3 hown' hgrow hnil hat; obtain ⟨g', cap', rfl⟩ := ownsRow_succ hown'; have hx1 := (hgrow.block lb (by simp; omega) (fun e => hgl (by have e2 : some lb = some g := e; injection e2 with e2; exact e2.symm))).trans ((Below.heap_alloc wr _ _ hll).trans HLR.out); have d0 := cell_of_row w3 _ 0 _ _ _ hx1; have z0 : w3.frozen? ⟨lb, 0, none⟩ = false := (by simp [World.frozen?, hx1]); simp only [List.getElem?_toArray, List.getElem?_cons_zero, List.getElem?_cons_succ] at d0; have HOW := Lib.hid hown'; have HGR := Lib.hid hgrow; have HAT := Lib.hid hat; clear hx1 hown' hgrow hnil hat))
    refine name_world ?_
    intro W5 hW5
    have hS5 : Site n size sb nb yb ab lb l Z W0 (acc ++ [(f : Int) + k]) W5 := by rw [hW5]; exact HSR.out.push HLR.out HOW.out HGR.out HAT.out
    clear hW5 d0 z0 l0
    have a0 := cell_of_row W5 _ 0 _ _ _ hS5.ha
    simp only [List.getElem?_toArray, List.getElem?_cons_zero, List.getElem?_cons_succ] at a0
    have HS5 := Lib.hid hS5
    clear hS5
    have hfk1 : ((f + k + 1 : Nat) : Int) = (f : Int) + (k : Int) + 1 := by omega
    have hcall := HIH.out k (acc ++ [(f : Int) + k]) W5 hlt (by simp; omega) HS5.out
    rw [hfk1] at hcall
    have HCALL := Lib.hid hcall
    clear hcall hfk1
    go_wp2_with fail
    refine HCALL.out.mono ?_
    rintro e w6 (⟨rfl, hnone, hS6⟩ | ⟨x, sl, Wy, rfl, hsome, hlow, hzy, hsl, hX⟩)
    · have HNONE := Lib.hid hnone
      obtain ⟨g6, cap6, hl6, -, -⟩ := hS6.list
      rw [show (acc ++ [(f : Int) + k]).length = acc.length + 1 by simp] at hl6
      have l6 := cell_of_row w6 _ 0 _ _ _ hl6
      have z6 : w6.frozen? ⟨lb, 0, none⟩ = false := by simp [World.frozen?, hl6]
      simp only [List.getElem?_toArray, List.getElem?_cons_zero, List.getElem?_cons_succ] at l6
      have HS6 := Lib.hid (hS6.pop hl6)
      have hcap6 : (acc.length : Int) ≤ (cap6 : Int) := by
       obtain ⟨g7, cap7, h1, h2, -⟩ := hS6.list
       rw [show (acc ++ [(f : Int) + k]).length = acc.length + 1 by simp] at h1 h2
       rw [hl6] at h1
       injection h1 with h1
       injection h1 with h1
       have h1 := congrArg (fun a : Array Value => a[0]?) h1
       simp at h1
       obtain ⟨rfl, rfl⟩ := h1
       obtain ⟨_, hc | ⟨g', cap', cur, e, hb, hg, hle, hmx, hcs, htk⟩⟩ := h2
       · cases hc.1
       · injection e with e1 e2 e3
         omega
      have hac : (0 : Int) ≤ (acc.length : Int) := by omega
      have hca : ((acc.length + 1 : Nat) : Int) - 1 = (acc.length : Int) := by omega
      have hac100 : (acc.length : Int) ≤ 100 := by omega
      have HCA := Lib.hid hca
      clear hnone hS6 hl6 a0 hca
      go_wp2_with fail
      go_roundw
      case rel => exact ⟨k + 1, by omega, by go_num, HS6.out, left_step HL.out hlt (by rw [HFK.out]; exact HNONE.out)⟩
      case measure => simp [intOf]; omega
    · have HSOME := Lib.hid hsome
      have HX := Lib.hid hX
      have HLOW := Lib.hid hlow
      have HSLX := Lib.hid hsl
      clear hsome hX hlow hsl a0
      go_wp2_with fail
      go_ret
      exact .inr ⟨x, sl, Wy, rfl, left_found HL.out hlt (by rw [HFK.out]; exact HSOME.out), HLOW.out, hzy, HSLX.out, HX.out⟩
  · obtain rfl : k = m := by omega
    have hnf : (n : Int) - f = k := by omega
    clear hL hSr
    go_wp2_with fail
    go_ret
    exact .inl ⟨rfl, by have := HL.out; unfold Left at this; rw [this, Nat.sub_self]; rfl, HSR.out⟩
theorem add_any (F : List Int → Bool) (X : Value → World → World → Prop) (n size sb nb yb ab lb l Z : Nat) (W0 : World) (hY : ∀ d, RoundL F X W0 Z l d) (hsz : size ≤ 100) (hn : n ≤ 100) (m : Nat) :
 ∀ (f : Nat), f + m = n → ∀ (acc : List Int) (W : World), acc.length ≤ size → Site n size sb nb yb ab lb l Z W0 acc W →
 Calls Try.prog 104 #[I f, vPtr lb, vPtr sb, vPtr yb, vPtr nb, vPtr ab] W (AddPost F X W0 Z (Site n size sb nb yb ab lb l Z W0 acc) (Ch.comb size m f acc)) := by
 induction m using Nat.strongRecOn with
 | _ m ih =>
  intro f hf acc W ha hS
  unfold Ch.comb
  by_cases he : acc.length = size
  · rw [if_pos he]
    exact add_done F X n size sb nb yb ab lb l Z W0 hY acc he hsz f W hS
  · rw [if_neg he]
    exact add_step F X n size sb nb yb ab lb l Z W0 hsz hn m f hf acc (by omega) W hS (fun k acc' W' hk ha' hS' => ih (m - (k + 1)) (by omega) (f + k + 1) (by omega) acc' W' ha' hS')
end Go.Proofs.Ytjgpghaofhcfnaa
namespace Go.Proofs.Ytjgpghaofhcfnaa
open Go.RowKit
attribute [local go_sem] Oper.semAt_some
theorem make_cap (c : Nat) (hc : c ≤ 100000) (W : World) : (Instr.makeSlice 31 (.int .i64 0) (.int .i64 (c : Int))).run Try.prog W = .ok (.slice (some ⟨W.heap.size, 0, none⟩) 0 c) (W.alloc (.cells (madeCells (Value.cells (I 0)) (c * 1)) 3)) := by
 obtain ⟨i0, hi, hz0, hz1, hz2⟩ := info_parts infoI
 have h := run_makeSlice (P := Try.prog) W 31 3 i0 (I 0) underIs hi hz0 .i64 .i64 0 c (by omega) (by omega) (by rw [hz1]; simp; omega) (by rw [hz2]; omega) (by omega)
 rw [hz1] at h
 simpa using h
set_option maxHeartbeats 400000 in
theorem lists_any (n size : Int) (w : World) :
 Calls Try.prog 88 #[I n, I size] w fun e w' => e = .returned (.func (.func 103) #[] #[vPtr (w.heap.size + 1), vPtr w.heap.size]) ∧ w' = (w.alloc (.cells #[I n] 3)).alloc (.cells #[I size] 3) := by
 go_enter Try.func88, Try.ntmps88
 go_wp2_with fail
 go_ret
 exact ⟨rfl, rfl⟩
def ListsPost (F : List Int → Bool) (X : Value → World → World → Prop) (W : World) (xs : List (List Int)) : Ending → World → Prop := fun e W' => (∃ v, e = .returned v) ∧
 ((xs.find? F = none ∧ Below W.heap.size W W') ∨ (∃ x sl Wy, xs.find? F = some x ∧ Below W.heap.size W Wy ∧ Sl Wy Wy.heap.size 1 sl x.length (x.map I) ∧ X sl Wy W'))
set_option maxHeartbeats 1000000 in
theorem lists1_any (F : List Int → Bool) (X : Value → World → World → Prop) (n size sb nb l : Nat) (hsz : size ≤ 100) (hn : n ≤ 100) (W : World) (hY : ∀ d, RoundL F X W W.heap.size l d)
 (hs : W.heap[sb]? = some (.cells #[I size] 3 (0, 0))) (hnb : W.heap[nb]? = some (.cells #[I n] 3 (0, 0))) :
 Calls Try.prog 103 #[.func (.yield l) #[] #[], vPtr sb, vPtr nb] W (ListsPost F X W (Ch.listsOf n size)) := by
 have s0 := cell_of_row W _ 0 _ _ _ hs
 simp only [List.getElem?_toArray, List.getElem?_cons_zero] at s0
 have hls := heap_lt hs
 have hln := heap_lt hnb
 have hmk := make_cap size (by omega)
 have HS := Lib.hid hs
 have HN := Lib.hid hnb
 clear hs hnb
 go_enter Try.func103, Try.ntmps103
 go_wp2_with fail
 refine name_calls ?_
 intro W4 hW4
 have hb4 : Below W.heap.size W W4 := by rw [hW4]; exact ((((Below.refl _ _).alloc (Nat.le_refl _) _).alloc (by simp) _).alloc (by simp; omega) _).alloc (by simp; omega) _
 have hz4 : W4.heap.size = W.heap.size + 4 := by rw [hW4]; simp
 have hy4 : W4.heap[W.heap.size]? = some (.cells #[.func (.yield l) #[] #[]] 91 (0, 0)) := by
  rw [hW4]; exact (Below.heap_alloc _ _ _ (by simp <;> omega)).trans ((Below.heap_alloc _ _ _ (by simp <;> omega)).trans ((Below.heap_alloc _ _ _ (by simp <;> omega)).trans (heap_at _ _ rfl)))
 have hg4 : W4.heap[W.heap.size + 1]? = some (.cells (madeCells #[I 0] size) 3 (0, 0)) := by
  rw [hW4]; exact (Below.heap_alloc _ _ _ (by simp <;> omega)).trans ((Below.heap_alloc _ _ _ (by simp)).trans (heap_at _ _ (by simp)))
 have hl4 : W4.heap[W.heap.size + 1 + 1]? = some (.cells #[.slice (some ⟨W.heap.size + 1, 0, none⟩) 0 size] 31 (0, 0)) := by
  rw [hW4]; exact (Below.heap_alloc _ _ _ (by simp)).trans (heap_at _ _ (by simp))
 have ha4 : W4.heap[W.heap.size + 1 + 1 + 1]? = some (.cells #[.func (.func 104) #[] #[vPtr (W.heap.size + 1 + 1), vPtr sb, vPtr W.heap.size, vPtr nb, vPtr (W.heap.size + 1 + 1 + 1)]] 94 (0, 0)) := by
  rw [hW4]; exact heap_at _ _ (by simp)
 clear hW4
 have hsite : Site n size sb nb W.heap.size (W.heap.size + 1 + 1 + 1) (W.heap.size + 1 + 1) l W.heap.size W [] W4 :=
  ⟨hb4, (hb4.block _ hls).trans HS.out, (hb4.block _ hln).trans HN.out, hy4, ha4,
   ⟨W.heap.size + 1, size, hl4, ⟨by simp, .inr ⟨W.heap.size + 1, size, madeCells #[I 0] size, rfl, by omega, hg4, Nat.zero_le _, by unfold maxLen; omega, by rw [size_madeCells]; simp, by simp⟩⟩, by omega, by omega, by omega, by omega, by omega⟩,
   ⟨by omega, by omega, by omega, by omega, by omega⟩, by omega⟩
 have hcall := add_any F X n size sb nb W.heap.size (W.heap.size + 1 + 1 + 1) (W.heap.size + 1 + 1) l W.heap.size W hY hsz hn n 0 (by omega) [] W4 (by simp) hsite
 clear hsite hy4 hg4 hl4 ha4 hz4 hb4 s0 hmk
 refine hcall.mono ?_
 clear hcall
 rintro e w5 (⟨rfl, hnone, hS5⟩ | ⟨x, sl, Wy, rfl, hsome, hlow, hzy, hsl, hX⟩)
 · have HNO := Lib.hid hnone
   have HLO := Lib.hid hS5.low
   clear hnone hS5
   go_wp2_with fail
   go_end0
   exact ⟨⟨_, rfl⟩, .inl ⟨HNO.out, HLO.out⟩⟩
 · have HSO := Lib.hid hsome
   have HLO := Lib.hid hlow
   have HSL := Lib.hid hsl
   have HX := Lib.hid hX
   clear hsome hlow hsl hX
   go_wp2_with fail
   go_end0
   exact ⟨⟨_, rfl⟩, .inr ⟨x, sl, Wy, HSO.out, HLO.out, HSL.out, HX.out⟩⟩
end Go.Proofs.Ytjgpghaofhcfnaa
namespace Go.Proofs.Ytjgpghaofhcfnaa
open Go.RowKit
attribute [local go_sem] Oper.semAt_some
structure Out (P : Nat → Prop) (W W' : World) : Prop where
 os : W'.os = W.os
 tape : W'.tape = W.tape
 output : W'.output = W.output
 size : W.heap.size ≤ W'.heap.size
 keep : ∀ k, k < W.heap.size → ¬ P k → W'.heap[k]? = W.heap[k]?
def bodyEnd (F : List Int → Bool) (P : Nat → Prop) (Z : Value → World → Prop) (x : List Int) (sl : Value) (W : World) : Exit → Act → World → Prop
  | .normal, _, W' => F x = false ∧ Below W.heap.size W W'
  | .ret, _, W' => F x = true ∧ Out P W W' ∧ Z sl W'
  | _, _, _ => False
structure Foot (w : World) (P : Nat → Prop) (Z : Value → World → Prop) : Prop where
 lt : ∀ k, P k → k < w.heap.size
 cell : ∀ k, P k → ∀ W : World, W.heap[k]? = w.heap[k]? → ∀ j n, W.cell? ⟨k, j, none⟩ ≠ some (I n)
 stable : ∀ sl W W', (∀ k, P k → W'.heap[k]? = W.heap[k]?) → Z sl W → Z sl W'
theorem Foot.mono {w W : World} {P : Nat → Prop} {Z : Value → World → Prop} (h : Foot w P Z) (hb : Below w.heap.size w W) : Foot W P Z :=
 ⟨fun k hk => Nat.lt_of_lt_of_le (h.lt k hk) hb.size, fun k hk W' hW' => h.cell k hk W' (hW'.trans (hb.block k (h.lt k hk))), h.stable⟩
abbrev XO (P : Nat → Prop) (Z : Value → World → Prop) : Value → World → World → Prop := fun sl W W' => Out P W W' ∧ Z sl W'
def ListPost (F : List Int → Bool) (P : Nat → Prop) (Z : Value → World → Prop) (W : World) (o : Option (List Int)) : Ending → World → Prop := fun e W' => (∃ v, e = .returned v) ∧
 ((o = none ∧ Below W.heap.size W W') ∨ (∃ x sl, o = some x ∧ Out P W W' ∧ Z sl W' ∧ Sl W' W'.heap.size 1 sl x.length (x.map I)))
theorem Sl.apart {W W' : World} {B : Nat} {v : Value} {x : List Int} (h : Sl W B 1 v x.length (x.map I)) (hk : ∀ k j n, W.cell? ⟨k, j, none⟩ = some (I n) → W'.heap[k]? = W.heap[k]?) : Sl W' B 1 v x.length (x.map I) := by
 obtain ⟨h1, A, c, hv, h2, h3, h4⟩ := h
 refine ⟨h1, A, c, hv, h2, h3, fun hn => ?_⟩
 obtain ⟨b, off, e, hb, hc⟩ := h4 hn
 refine ⟨b, off, e, hb, fun j u hu => ?_⟩
 have h5 := hc j u hu
 obtain ⟨n, -, rfl⟩ := List.mem_map.1 (List.mem_of_getElem? hu)
 exact (World.cell?_of_block (hk b _ n h5)).trans h5
theorem no_cell_loop {W : World} {k : Nat} {r : Loop} (h : W.heap[k]? = some (.loop r)) (j : Nat) : W.cell? ⟨k, j, none⟩ = none := by simp [World.cell?, h]
theorem lists1_iter (F : List Int → Bool) (n size sb nb : Nat) (hsz : size ≤ 100) (hn : n ≤ 100) (P : Nat → Prop) (Z : Value → World → Prop) (W : World) (l : Nat) (hf : Foot W P Z) (hY : ∀ d, RoundL F (XO P Z) W W.heap.size l d)
 (hs : W.heap[sb]? = some (.cells #[I size] 3 (0, 0))) (hnb : W.heap[nb]? = some (.cells #[I n] 3 (0, 0))) :
 Calls Try.prog 103 #[.func (.yield l) #[] #[], vPtr sb, vPtr nb] W (ListPost F P Z W ((Ch.listsOf n size).find? F)) := by
 refine (lists1_any F (XO P Z) n size sb nb l hsz hn W hY hs hnb).mono ?_
 rintro e W' ⟨hv, (h | ⟨x, sl, Wy, h1, h2, h3, h4, h5⟩)⟩
 · exact ⟨hv, .inl h⟩
 · have hz := h2.size
   refine ⟨hv, .inr ⟨x, sl, h1, ⟨h4.os.trans h2.os, h4.tape.trans h2.tape, h4.output.trans h2.output, Nat.le_trans hz h4.size, fun k hk hP => (h4.keep k (by omega) hP).trans (h2.block k hk)⟩, h5, ?_⟩⟩
   exact Sl.more (h3.apart (fun k j n hc => h4.keep k (World.block_lt_of_cell? Wy ⟨k, j, none⟩ hc) (fun hP => hf.cell k hP Wy (h2.block k (hf.lt k hP)) j n hc))) h4.size
set_option maxHeartbeats 1000000 in
theorem range_lists {g : Operand} {ps : Array Tmp} {assign body : Code} {Q : Exit → Act → World → Prop} {a : Act} {w : World} {n' : Nat}
 (F : List Int → Bool) (o : Option (List Int)) (P : Nat → Prop) (Z : Value → World → Prop) (hf : Foot w P Z) (sb nb : Nat) (hg : a.eval g = .func (.func 103) #[] #[vPtr sb, vPtr nb]) (hps : ps.size = 1)
 (hiter : ∀ P' Z' W l, Below w.heap.size w W → Foot W P' Z' → (∀ d, RoundL F (XO P' Z') W W.heap.size l d) → Calls Try.prog 103 #[.func (.yield l) #[] #[], vPtr sb, vPtr nb] W (ListPost F P' Z' W o))
 (Ax : Value → Act → Prop)
 (hassign : ∀ (l d : Nat) (sl : Value) (W : World) (K : Act → World → Prop), (∀ a', Ax sl a' → K a' W) →
  assign.wpIn (Fence.wide.inRound l) d Try.prog (Exit.then K (fun _ _ _ => False)) { tmps := (ps.zip #[sl]).foldl (fun t (p, v) => t.setIfInBounds p v) a.tmps, defers := [] } W)
 (hbody : ∀ (l d : Nat) (x : List Int) (sl : Value) (a' : Act) (W : World), Ax sl a' → Below w.heap.size w W → Sl W W.heap.size 1 sl x.length (x.map I) → body.wpIn (Fence.wide.inRound l) d Try.prog (bodyEnd F P Z x sl W) a' W)
 (hdone : ∀ (D : Nat) (W : World), w.heap.size ≤ D → o = none → Below w.heap.size w W → W.heap[D]? = some (.deferred (some [])) → Q .normal { a with defers := { target := .collected D, args := #[] } :: a.defers } W)
 (hstop : ∀ (D : Nat) (x : List Int) (sl : Value) (W : World), w.heap.size ≤ D → o = some x → Out P w W → Z sl W → Sl W W.heap.size 1 sl x.length (x.map I) → W.heap[D]? = some (.deferred (some [])) → Code.ret.wpIn Fence.wide n' Try.prog Q { a with defers := { target := .collected D, args := #[] } :: a.defers } W) :
 (Code.rangeFunc g ps assign body).wpIn Fence.wide n' Try.prog Q a w := by
 refine wpIn_rangeFunc ?_
 intro fn hfn
 obtain ⟨rec, hrec⟩ : ∃ rec : LoopState → Option Code → Loop, rec = fun st pe => { state := st, pending := pe, fn, tmps := a.tmps, params := ps, assign, body, defers := w.heap.size } := ⟨_, rfl⟩
 obtain ⟨W1, hW1⟩ : ∃ W1, (w.alloc (.deferred (some []))).alloc (.loop (rec .ready none)) = W1 := ⟨_, rfl⟩
 have hb1 : Below w.heap.size w W1 := by rw [← hW1]; exact ((Below.refl _ w).alloc (Nat.le_refl _) _).alloc (by simp) _
 have hL1 : W1.heap[w.heap.size + 1]? = some (.loop (rec .ready none)) := by rw [← hW1]; exact heap_at _ _ (by simp)
 have hK1 : W1.heap[w.heap.size]? = some (.deferred (some [])) := by rw [← hW1]; exact (Below.heap_alloc _ _ _ (by simp)).trans (heap_at _ _ rfl)
 have hsz1 : W1.heap.size = w.heap.size + 2 := by rw [← hW1]; simp
 have hf' : Foot W1 (fun k => P k ∨ k = w.heap.size + 1) (fun sl W => Z sl W ∧ W.heap[w.heap.size + 1]? = some (.loop (rec .done (some .ret)))) := by
  refine ⟨?_, ?_, fun sl W W' hk hz => ⟨hf.stable sl W W' (fun k h => hk k (.inl h)) hz.1, (hk _ (.inr rfl)).trans hz.2⟩⟩
  · rintro k (hk | rfl)
    · have := hf.lt k hk; omega
    · omega
  · rintro k (hk | rfl) W hW j n hc
    · exact hf.cell k hk W (hW.trans (hb1.block k (hf.lt k hk))) j n hc
    · rw [no_cell_loop (hW.trans hL1)] at hc; cases hc
 have hY : ∀ d, RoundL F (XO (fun k => P k ∨ k = w.heap.size + 1) (fun sl W => Z sl W ∧ W.heap[w.heap.size + 1]? = some (.loop (rec .done (some .ret))))) W1 W1.heap.size (w.heap.size + 1) d := by
  intro d x sl W hlow hz hsl
  have hl := (hlow.block (w.heap.size + 1) (by omega)).trans hL1
  have hy := run_yield (P := Try.prog) (args := #[sl]) hl (by rw [hrec]; exact hps.symm)
  rw [hrec] at hy
  refine ⟨fn, _, assign, body, hy, roundIn_of_wpIn hfn (hassign _ d sl W _ ?_)⟩
  clear hy
  intro a' hax
  refine ⟨_, run_beginRound hl (by rw [hrec]), ?_⟩
  obtain ⟨Wb, hWb⟩ : ∃ Wb, W.putObj (w.heap.size + 1) (.loop { rec .ready none with state := .busy }) = Wb := ⟨_, rfl⟩
  rw [hWb]
  have hoth : ∀ k, k ≠ w.heap.size + 1 → Wb.heap[k]? = W.heap[k]? := fun k hk => by rw [← hWb]; exact putObj_other _ hk
  have hlb2 : Wb.heap[w.heap.size + 1]? = some (.loop { rec .ready none with state := .busy }) := by rw [← hWb]; exact World.putObj_heap_same (heap_lt hl)
  have hszb : Wb.heap.size = W.heap.size := by rw [← hWb]; simp [World.putObj]
  have hos : Wb.os = W.os ∧ Wb.tape = W.tape ∧ Wb.output = W.output := by rw [← hWb]; exact ⟨rfl, rfl, rfl⟩
  have hbw : Below w.heap.size w Wb := by rw [← hWb]; exact Below.putO (hb1.trans (hlow.mono (by omega))) (Nat.le_succ _) _
  have hslb : Sl Wb Wb.heap.size 1 sl x.length (x.map I) := by
   rw [hszb]
   refine hsl.apart (fun k j n' hc => hoth k (fun e => ?_))
   rw [e, no_cell_loop hl] at hc
   cases hc
  clear hWb
  refine wpIn_mono (hbody _ d x sl a' Wb hax hbw hslb) ?_
  rintro e a3 W3 hp
  cases e with
  | normal =>
   obtain ⟨hF, hB⟩ := hp
   have hl3 := (hB.block _ (heap_lt hlb2)).trans hlb2
   have hr := run_endRound (P := Try.prog) none hl3
   refine ⟨_, _, hr, by rw [hF]; rfl, ?_⟩
   unfold After
   rw [hF, if_neg (by simp)]
   refine ⟨hB.os.trans hos.1, hB.tape.trans hos.2.1, hB.output.trans hos.2.2, by have := hB.size; simp [World.putObj]; omega, fun k hk => ?_⟩
   by_cases hkl : k = w.heap.size + 1
   · rw [hkl, hl]
     rw [hrec]; rw [hrec] at hl3
     exact World.putObj_heap_same (heap_lt hl3)
   · exact (putObj_other _ hkl).trans ((hB.block k (by omega)).trans (hoth k hkl))
  | ret =>
   obtain ⟨hF, hT, hZ3⟩ := hp
   have hl3 := (hT.keep (w.heap.size + 1) (heap_lt hlb2) (fun h => by have := hf.lt _ h; omega)).trans hlb2
   have hr := run_endRound (P := Try.prog) (some .ret) hl3
   refine ⟨_, _, hr, by rw [hF]; rfl, ?_⟩
   unfold After
   rw [hF, if_pos rfl]
   refine ⟨⟨hT.os.trans hos.1, hT.tape.trans hos.2.1, hT.output.trans hos.2.2, by have := hT.size; simp [World.putObj]; omega, fun k hk hP => ?_⟩, hf.stable sl W3 _ (fun k hk => putObj_other _ (by have := hf.lt k hk; omega)) hZ3, ?_⟩
   · exact (putObj_other _ (fun e => hP (.inr e))).trans ((hT.keep k (by omega) (fun h => hP (.inl h))).trans (hoth k (fun e => hP (.inr e))))
   · rw [hrec]; rw [hrec] at hl3
     exact World.putObj_heap_same (heap_lt hl3)
  | exit id => exact (hp : False).elim
  | goto t' => exact (hp : False).elim
  | panic ch => exact (hp : False).elim
  | outgrown => exact (hp : False).elim
 have hcall := hiter _ _ W1 (w.heap.size + 1) hb1 hf' hY
 refine ⟨w.heap.size + 1, [{ target := .collected w.heap.size, args := #[] }], W1, { target := .fn (.func 103) #[vPtr sb, vPtr nb], args := #[.func (.yield (w.heap.size + 1)) #[] #[]] }, W1, 103,
  #[.func (.yield (w.heap.size + 1)) #[] #[], vPtr sb, vPtr nb], W1, ?_, ?_, fun _ _ => trivial, ?_, (fun h => by simp [Fence.wide] at h), callsIn_wide.2 (hcall.mono ?_)⟩
 · rw [← hW1, hrec]; exact run_enterLoop_outer _ _ _ _ _
 · simp only [resolve, hg]
   simp [go_sem]
 · have eg := Go.Proofs.enters_of Try.func103 (by kernel_rfl) rfl
   simp [invoke, go_sem, eg]
 · rintro e W2 ⟨⟨v, rfl⟩, (⟨hnone, hB⟩ | ⟨x, sl, hsome, hO, ⟨hZ2, hl⟩, hsl⟩)⟩
   · have hl := (hB.block (w.heap.size + 1) (by omega)).trans hL1
     have hr := run_endLoop (P := Try.prog) hl (by rw [hrec]; simp)
     refine ⟨none, _, by rw [hr, hrec], hdone w.heap.size _ (Nat.le_refl _) hnone ?_ ?_⟩
     · exact Below.putO (hb1.trans (hB.mono (by omega))) (Nat.le_succ _) _
     · exact (putObj_other _ (by omega)).trans ((hB.block w.heap.size (by omega)).trans hK1)
   · have hr := run_endLoop (P := Try.prog) hl (by rw [hrec]; simp)
     have hso := hO.size
     refine ⟨some .ret, _, by rw [hr, hrec], hstop w.heap.size x sl _ (Nat.le_refl _) hsome ?_ ?_ ?_ ?_⟩
     · refine ⟨hO.os.trans hb1.os, hO.tape.trans hb1.tape, hO.output.trans hb1.output, by simp [World.putObj]; omega, fun k hk hP => ?_⟩
       refine (putObj_other _ (by omega)).trans ((hO.keep k (by omega) ?_).trans (hb1.block k hk))
       rintro (h | h)
       · exact hP h
       · omega
     · exact hf.stable sl W2 _ (fun k hk => putObj_other _ (by have := hf.lt k hk; omega)) hZ2
     · refine Sl.more (hsl.apart (fun k j n' hc => putObj_other _ (fun e => ?_))) (by simp [World.putObj])
       rw [e, no_cell_loop hl] at hc; cases hc
     · refine (putObj_other _ (by omega)).trans ((hO.keep w.heap.size (by omega) ?_).trans hK1)
       rintro (h | h)
       · have := hf.lt _ h; omega
       · omega
set_option maxHeartbeats 1000000 in
theorem range_Lists {g : Operand} {ps : Array Tmp} {assign body : Code} {Q : Exit → Act → World → Prop} {a : Act} {w : World} {n' : Nat}
 (F : List Int → Bool) (o : Option (List Int)) (P : Nat → Prop) (Z : Value → World → Prop) (hf : Foot w P Z) (nb : Nat) (hg : a.eval g = .func (.func 87) #[] #[vPtr nb]) (hps : ps.size = 1)
 (hiter : ∀ P' Z' W l, Below w.heap.size w W → Foot W P' Z' → (∀ d, RoundL F (XO P' Z') W W.heap.size l d) → Calls Try.prog 87 #[.func (.yield l) #[] #[], vPtr nb] W (ListPost F P' Z' W o))
 (Ax : Value → Act → Prop)
 (hassign : ∀ (l d : Nat) (sl : Value) (W : World) (K : Act → World → Prop), (∀ a', Ax sl a' → K a' W) →
  assign.wpIn (Fence.wide.inRound l) d Try.prog (Exit.then K (fun _ _ _ => False)) { tmps := (ps.zip #[sl]).foldl (fun t (p, v) => t.setIfInBounds p v) a.tmps, defers := [] } W)
 (hbody : ∀ (l d : Nat) (x : List Int) (sl : Value) (a' : Act) (W : World), Ax sl a' → Below w.heap.size w W → Sl W W.heap.size 1 sl x.length (x.map I) → body.wpIn (Fence.wide.inRound l) d Try.prog (bodyEnd F P Z x sl W) a' W)
 (hdone : ∀ (D : Nat) (W : World), w.heap.size ≤ D → o = none → Below w.heap.size w W → W.heap[D]? = some (.deferred (some [])) → Q .normal { a with defers := { target := .collected D, args := #[] } :: a.defers } W)
 (hstop : ∀ (D : Nat) (x : List Int) (sl : Value) (W : World), w.heap.size ≤ D → o = some x → Out P w W → Z sl W → Sl W W.heap.size 1 sl x.length (x.map I) → W.heap[D]? = some (.deferred (some [])) → Code.ret.wpIn Fence.wide n' Try.prog Q { a with defers := { target := .collected D, args := #[] } :: a.defers } W) :
 (Code.rangeFunc g ps assign body).wpIn Fence.wide n' Try.prog Q a w := by
 refine wpIn_rangeFunc ?_
 intro fn hfn
 obtain ⟨rec, hrec⟩ : ∃ rec : LoopState → Option Code → Loop, rec = fun st pe => { state := st, pending := pe, fn, tmps := a.tmps, params := ps, assign, body, defers := w.heap.size } := ⟨_, rfl⟩
 obtain ⟨W1, hW1⟩ : ∃ W1, (w.alloc (.deferred (some []))).alloc (.loop (rec .ready none)) = W1 := ⟨_, rfl⟩
 have hb1 : Below w.heap.size w W1 := by rw [← hW1]; exact ((Below.refl _ w).alloc (Nat.le_refl _) _).alloc (by simp) _
 have hL1 : W1.heap[w.heap.size + 1]? = some (.loop (rec .ready none)) := by rw [← hW1]; exact heap_at _ _ (by simp)
 have hK1 : W1.heap[w.heap.size]? = some (.deferred (some [])) := by rw [← hW1]; exact (Below.heap_alloc _ _ _ (by simp)).trans (heap_at _ _ rfl)
 have hsz1 : W1.heap.size = w.heap.size + 2 := by rw [← hW1]; simp
 have hf' : Foot W1 (fun k => P k ∨ k = w.heap.size + 1) (fun sl W => Z sl W ∧ W.heap[w.heap.size + 1]? = some (.loop (rec .done (some .ret)))) := by
  refine ⟨?_, ?_, fun sl W W' hk hz => ⟨hf.stable sl W W' (fun k h => hk k (.inl h)) hz.1, (hk _ (.inr rfl)).trans hz.2⟩⟩
  · rintro k (hk | rfl)
    · have := hf.lt k hk; omega
    · omega
  · rintro k (hk | rfl) W hW j n hc
    · exact hf.cell k hk W (hW.trans (hb1.block k (hf.lt k hk))) j n hc
    · rw [no_cell_loop (hW.trans hL1)] at hc; cases hc
 have hY : ∀ d, RoundL F (XO (fun k => P k ∨ k = w.heap.size + 1) (fun sl W => Z sl W ∧ W.heap[w.heap.size + 1]? = some (.loop (rec .done (some .ret))))) W1 W1.heap.size (w.heap.size + 1) d := by
  intro d x sl W hlow hz hsl
  have hl := (hlow.block (w.heap.size + 1) (by omega)).trans hL1
  have hy := run_yield (P := Try.prog) (args := #[sl]) hl (by rw [hrec]; exact hps.symm)
  rw [hrec] at hy
  refine ⟨fn, _, assign, body, hy, roundIn_of_wpIn hfn (hassign _ d sl W _ ?_)⟩
  clear hy
  intro a' hax
  refine ⟨_, run_beginRound hl (by rw [hrec]), ?_⟩
  obtain ⟨Wb, hWb⟩ : ∃ Wb, W.putObj (w.heap.size + 1) (.loop { rec .ready none with state := .busy }) = Wb := ⟨_, rfl⟩
  rw [hWb]
  have hoth : ∀ k, k ≠ w.heap.size + 1 → Wb.heap[k]? = W.heap[k]? := fun k hk => by rw [← hWb]; exact putObj_other _ hk
  have hlb2 : Wb.heap[w.heap.size + 1]? = some (.loop { rec .ready none with state := .busy }) := by rw [← hWb]; exact World.putObj_heap_same (heap_lt hl)
  have hszb : Wb.heap.size = W.heap.size := by rw [← hWb]; simp [World.putObj]
  have hos : Wb.os = W.os ∧ Wb.tape = W.tape ∧ Wb.output = W.output := by rw [← hWb]; exact ⟨rfl, rfl, rfl⟩
  have hbw : Below w.heap.size w Wb := by rw [← hWb]; exact Below.putO (hb1.trans (hlow.mono (by omega))) (Nat.le_succ _) _
  have hslb : Sl Wb Wb.heap.size 1 sl x.length (x.map I) := by
   rw [hszb]
   refine hsl.apart (fun k j n' hc => hoth k (fun e => ?_))
   rw [e, no_cell_loop hl] at hc
   cases hc
  clear hWb
  refine wpIn_mono (hbody _ d x sl a' Wb hax hbw hslb) ?_
  rintro e a3 W3 hp
  cases e with
  | normal =>
   obtain ⟨hF, hB⟩ := hp
   have hl3 := (hB.block _ (heap_lt hlb2)).trans hlb2
   have hr := run_endRound (P := Try.prog) none hl3
   refine ⟨_, _, hr, by rw [hF]; rfl, ?_⟩
   unfold After
   rw [hF, if_neg (by simp)]
   refine ⟨hB.os.trans hos.1, hB.tape.trans hos.2.1, hB.output.trans hos.2.2, by have := hB.size; simp [World.putObj]; omega, fun k hk => ?_⟩
   by_cases hkl : k = w.heap.size + 1
   · rw [hkl, hl]
     rw [hrec]; rw [hrec] at hl3
     exact World.putObj_heap_same (heap_lt hl3)
   · exact (putObj_other _ hkl).trans ((hB.block k (by omega)).trans (hoth k hkl))
  | ret =>
   obtain ⟨hF, hT, hZ3⟩ := hp
   have hl3 := (hT.keep (w.heap.size + 1) (heap_lt hlb2) (fun h => by have := hf.lt _ h; omega)).trans hlb2
   have hr := run_endRound (P := Try.prog) (some .ret) hl3
   refine ⟨_, _, hr, by rw [hF]; rfl, ?_⟩
   unfold After
   rw [hF, if_pos rfl]
   refine ⟨⟨hT.os.trans hos.1, hT.tape.trans hos.2.1, hT.output.trans hos.2.2, by have := hT.size; simp [World.putObj]; omega, fun k hk hP => ?_⟩, hf.stable sl W3 _ (fun k hk => putObj_other _ (by have := hf.lt k hk; omega)) hZ3, ?_⟩
   · exact (putObj_other _ (fun e => hP (.inr e))).trans ((hT.keep k (by omega) (fun h => hP (.inl h))).trans (hoth k (fun e => hP (.inr e))))
   · rw [hrec]; rw [hrec] at hl3
     exact World.putObj_heap_same (heap_lt hl3)
  | exit id => exact (hp : False).elim
  | goto t' => exact (hp : False).elim
  | panic ch => exact (hp : False).elim
  | outgrown => exact (hp : False).elim
 have hcall := hiter _ _ W1 (w.heap.size + 1) hb1 hf' hY
 refine ⟨w.heap.size + 1, [{ target := .collected w.heap.size, args := #[] }], W1, { target := .fn (.func 87) #[vPtr nb], args := #[.func (.yield (w.heap.size + 1)) #[] #[]] }, W1, 87,
  #[.func (.yield (w.heap.size + 1)) #[] #[], vPtr nb], W1, ?_, ?_, fun _ _ => trivial, ?_, (fun h => by simp [Fence.wide] at h), callsIn_wide.2 (hcall.mono ?_)⟩
 · rw [← hW1, hrec]; exact run_enterLoop_outer _ _ _ _ _
 · simp only [resolve, hg]
   simp [go_sem]
 · have eg := Go.Proofs.enters_of Try.func87 (by kernel_rfl) rfl
   simp [invoke, go_sem, eg]
 · rintro e W2 ⟨⟨v, rfl⟩, (⟨hnone, hB⟩ | ⟨x, sl, hsome, hO, ⟨hZ2, hl⟩, hsl⟩)⟩
   · have hl := (hB.block (w.heap.size + 1) (by omega)).trans hL1
     have hr := run_endLoop (P := Try.prog) hl (by rw [hrec]; simp)
     refine ⟨none, _, by rw [hr, hrec], hdone w.heap.size _ (Nat.le_refl _) hnone ?_ ?_⟩
     · exact Below.putO (hb1.trans (hB.mono (by omega))) (Nat.le_succ _) _
     · exact (putObj_other _ (by omega)).trans ((hB.block w.heap.size (by omega)).trans hK1)
   · have hr := run_endLoop (P := Try.prog) hl (by rw [hrec]; simp)
     have hso := hO.size
     refine ⟨some .ret, _, by rw [hr, hrec], hstop w.heap.size x sl _ (Nat.le_refl _) hsome ?_ ?_ ?_ ?_⟩
     · refine ⟨hO.os.trans hb1.os, hO.tape.trans hb1.tape, hO.output.trans hb1.output, by simp [World.putObj]; omega, fun k hk hP => ?_⟩
       refine (putObj_other _ (by omega)).trans ((hO.keep k (by omega) ?_).trans (hb1.block k hk))
       rintro (h | h)
       · exact hP h
       · omega
     · exact hf.stable sl W2 _ (fun k hk => putObj_other _ (by have := hf.lt k hk; omega)) hZ2
     · refine Sl.more (hsl.apart (fun k j n' hc => putObj_other _ (fun e => ?_))) (by simp [World.putObj])
       rw [e, no_cell_loop hl] at hc; cases hc
     · refine (putObj_other _ (by omega)).trans ((hO.keep w.heap.size (by omega) ?_).trans hK1)
       rintro (h | h)
       · have := hf.lt _ h; omega
       · omega
end Go.Proofs.Ytjgpghaofhcfnaa
namespace Go.Proofs.Ytjgpghaofhcfnaa
open Go.RowKit
attribute [local go_sem] Oper.semAt_some
def marksOf (Ds : List Nat) : List Deferred := Ds.map fun D => { target := .collected D, args := #[] }
def MarksOk (B : Nat) (Ds : List Nat) (W : World) : Prop := Ds.Nodup ∧ ∀ D ∈ Ds, B ≤ D ∧ W.heap[D]? = some (.deferred (some []))
theorem MarksOk.below {B : Nat} {Ds : List Nat} {W W' : World} (h : MarksOk B Ds W) (hb : Below W.heap.size W W') : MarksOk B Ds W' :=
 ⟨h.1, fun D hD => ⟨(h.2 D hD).1, (hb.block D (heap_lt (h.2 D hD).2)).trans (h.2 D hD).2⟩⟩
theorem MarksOk.more {B D : Nat} {Ds : List Nat} {W : World} (h : MarksOk B Ds W) (hD : B ≤ D) (hn : D ∉ Ds) (hr : W.heap[D]? = some (.deferred (some []))) : MarksOk B (D :: Ds) W :=
 ⟨List.nodup_cons.2 ⟨hn, h.1⟩, fun E hE => by rcases List.mem_cons.1 hE with rfl | hE; exact ⟨hD, hr⟩; exact h.2 E hE⟩
theorem leaves_marks {fn : Func} {tmps : Array Value} {R : Ending → World → Prop} {B : Nat} (Ds : List Nat) : ∀ (W : World), MarksOk B Ds W →
 (∀ W', Below B W W' → (∀ k : Nat, (∀ ds : Option (List Deferred), W.heap[k]? ≠ some (Obj.deferred ds)) → W'.heap[k]? = W.heap[k]?) → LeavesInM Fence.wide 1 Try.prog fn tmps R [] .returning W') →
 LeavesInM Fence.wide 1 Try.prog fn tmps R (marksOf Ds) .returning W := by
 induction Ds with
 | nil => intro W _ h; exact h W (Below.refl _ _) (fun _ _ => rfl)
 | cons D Ds ih =>
  intro W hm h
  obtain ⟨hn, hr⟩ := hm
  obtain ⟨hD, hDs⟩ := List.nodup_cons.1 hn
  have hrow := (hr D (List.mem_cons_self ..)).2
  have hBD := (hr D (List.mem_cons_self ..)).1
  refine ⟨by simp, .inl ⟨_, _, rfl, run_takeDeferred hrow, ih _ ⟨hDs, fun E hE => ⟨(hr E (List.mem_cons_of_mem _ hE)).1, (putObj_other _ (fun e => hD (by rw [← e]; exact hE))).trans (hr E (List.mem_cons_of_mem _ hE)).2⟩⟩ (fun W' hb hk => h W' ?_ ?_)⟩⟩
  · exact (Below.putO (Below.refl _ _) hBD _).trans hb
  · intro k hc
    have hkD : k ≠ D := fun e => hc _ (by rw [e]; exact hrow)
    exact (hk k (fun ds => by rw [putObj_other _ hkD]; exact hc ds)).trans (putObj_other _ hkD)
set_option maxHeartbeats 400000 in
theorem Lists_any (n : Int) (w : World) :
 Calls Try.prog 71 #[I n] w fun e w' => e = .returned (.func (.func 87) #[] #[vPtr w.heap.size]) ∧ w' = w.alloc (.cells #[I n] 3) := by
 go_enter Try.func71, Try.ntmps71
 go_wp2_with fail
 go_ret
 exact ⟨rfl, rfl⟩
set_option maxHeartbeats 2000000 in
theorem Lists1_iter (F : List Int → Bool) (n nb : Nat) (hn : n ≤ 50) (P : Nat → Prop) (Z : Value → World → Prop) (W : World) (l : Nat) (hf : Foot W P Z) (hY : ∀ d, RoundL F (XO P Z) W W.heap.size l d)
 (hnb : W.heap[nb]? = some (.cells #[I n] 3 (0, 0))) :
 Calls Try.prog 87 #[.func (.yield l) #[] #[], vPtr nb] W (ListPost F P Z W (Ch.fewest n F (n + 1))) := by
 have lnb := heap_lt hnb
 have q0 := cell_of_row W nb 0 #[I n] 3 (0, 0) hnb
 simp only [List.getElem?_toArray, List.getElem?_cons_zero] at q0
 have hn1 : IntKind.i64.wrap ((n : Int) + 1) = (n : Int) + 1 := IntWalk.i64_in _ (by omega)
 have HY := Lib.hid hY
 have HF := Lib.hid hf
 have HNB := Lib.hid hnb
 clear hY hf hnb
 refine (callsIn_wide (n := 1)).1 ?_
 refine callsIn_of_wp_marks Try.func87 rfl trivial ?_ rfl
 simp only [Try.ntmps87, List.size_toArray, List.length_cons, List.length_nil, Nat.reduceAdd, Nat.reduceSub, Array.replicate_succ, Array.replicate_zero, List.push_toArray, List.append_toArray, List.nil_append, List.cons_append]
 refine wpIn_wide.2 ?_
 go_wp2_with fail
 refine name_world ?_
 intro W1 hW1
 have hb1 : Below W.heap.size W W1 := by rw [hW1]; exact (Below.refl _ _).alloc (Nat.le_refl _) _
 have hy1 : W1.heap[W.heap.size]? = some (.cells #[.func (.yield l) #[] #[]] 91 (0, 0)) := by rw [hW1]; exact heap_at _ _ rfl
 have hz1 : W1.heap.size = W.heap.size + 1 := by rw [hW1]; simp
 have hn2 : W1.heap[nb]? = some (.cells #[I n] 3 (0, 0)) := (hb1.block _ lnb).trans HNB.out
 have HY1 := Lib.hid hy1
 have HN2 := Lib.hid hn2
 have HB1 := Lib.hid hb1
 clear hW1 q0 hy1 hn2 hb1
 refine wp_loop (fun a' w' => ∃ (k : Nat) (Ds : List Nat) (u3 u4 u8 u9 u10 u11 u12 u13 u14 u15 u16 u17 u18 : Value), k ≤ n + 1 ∧ a' = { tmps := #[.func (.yield l) #[] #[], vPtr nb, vPtr W.heap.size, u3, u4, I n, I (n + 1), I k, u8, u9, u10, u11, u12, u13, u14, u15, u16, u17, u18], defers := marksOf Ds } ∧ Below (W.heap.size + 1) W1 w' ∧ MarksOk (W.heap.size + 1) Ds w' ∧ Ch.fewest n F k = none) (fun a' _ => n + 1 - (intOf (a'.tmps.getD 7 undef)).toNat) ?start ?round
 case start => exact ⟨0, [], _, _, _, _, _, _, _, _, _, _, _, _, _, Nat.zero_le _, rfl, Below.refl _ _, ⟨List.nodup_nil, fun D hD => by simp at hD⟩, rfl⟩
 case round =>
  rintro a' w' ⟨k, Ds, u3, u4, u8, u9, u10, u11, u12, u13, u14, u15, u16, u17, u18, hk, rfl, hB, hM, hN⟩
  have hzw := hB.size
  have rn := (hB.block nb (by omega)).trans HN2.out
  have ry := (hB.block W.heap.size (by omega)).trans HY1.out
  have hbw : Below W.heap.size W w' := HB1.out.trans (hB.mono (by omega))
  have hnw : nb < w'.heap.size := by omega
  have qn := cell_of_row w' nb 0 #[I n] 3 (0, 0) rn
  simp only [List.getElem?_toArray, List.getElem?_cons_zero] at qn
  have HB := Lib.hid hB
  have HM := Lib.hid hM
  have HN := Lib.hid hN
  have HBW := Lib.hid hbw
  have RY := Lib.hid ry
  clear hB hM hN hbw ry rn
  by_cases hlt : k < n + 1
  · have hki : (k : Int) < (n : Int) + 1 := by omega
    go_wp2_with fail
    refine (lists_any n k _).mono ?_
    rintro e w2 ⟨rfl, rfl⟩
    go_wp2_with fail
    have hbb : Below w'.heap.size w' ((w'.alloc (.cells #[I n] 3)).alloc (.cells #[I k] 3)) := ((Below.refl _ _).alloc (Nat.le_refl _) _).alloc (by simp) _
    have hb2 : Below W.heap.size W ((w'.alloc (.cells #[I n] 3)).alloc (.cells #[I k] 3)) := HBW.out.trans (hbb.mono HBW.out.size)
    have hz2 : ((w'.alloc (.cells #[I n] 3)).alloc (.cells #[I k] 3)).heap.size = w'.heap.size + 2 := by simp
    have HB2 := Lib.hid hb2
    have HBB := Lib.hid hbb
    have HZ2 := Lib.hid hz2
    clear hb2 hbb hz2
    refine (wpIn_wide (n := 1)).1 (range_lists F ((Ch.listsOf n k).find? F) P Z (HF.out.mono HB2.out) (w'.heap.size + 1) w'.heap.size rfl rfl ?iter (fun sl a' => ∃ v8 v9 v10 v11 v12 v13 v14 v15 v16 v17 v18 : Value, a' = { tmps := #[.func (.yield l) #[] #[], vPtr nb, vPtr W.heap.size, I k, sl, I n, I (n + 1), I k, v8, v9, v10, v11, v12, v13, v14, v15, v16, v17, v18], defers := [] }) ?assign ?body ?done ?stop)
    case iter =>
     intro P' Z' W2 l2 hbW hf2 hY2
     refine lists1_iter F n k _ _ (by omega) (by omega) P' Z' W2 l2 hf2 hY2 ((hbW.block _ (by simp)).trans (heap_at _ _ (by simp))) ((hbW.block _ (by simp; omega)).trans ((Below.heap_alloc _ _ _ (by simp)).trans (heap_at _ _ rfl)))
    case assign =>
     intro l2 d sl W2 K hK
     gi_wp2_with fail
     exact ⟨_, _, _, _, _, _, _, _, _, _, _, rfl⟩
    case body =>
     rintro l2 d x sl a' W2 ⟨v8, v9, v10, v11, v12, v13, v14, v15, v16, v17, v18, rfl⟩ hbW hsl
     have hlow : Below W.heap.size W W2 := HB2.out.trans (hbW.mono HB2.out.size)
     obtain ⟨fn, tm, asg, bd, hy, hR⟩ := HY.out (d - 1) x sl W2 hlow hlow.size hsl
     obtain ⟨As, cs, rfl⟩ := hsl.form
     have hrow := (hbW.block W.heap.size (by rw [HZ2.out]; have := heap_lt RY.out; omega)).trans ((HBB.out.block _ (heap_lt RY.out)).trans RY.out)
     have e0 := cell_of_row W2 _ 0 _ _ _ hrow
     simp only [List.getElem?_toArray, List.getElem?_cons_zero] at e0
     have HR := Lib.hid hR
     clear hbW hlow hsl hrow hR
     gi_wp2_with fail
     refine ⟨fun h => by simp [Fence.wide] at h, RoundIn.mono (show RoundIn (Fence.wide.inRound l2) (d - 1) Try.prog l fn tm asg bd W2 _ from HR.out) ?_⟩
     rintro e w3 ⟨rfl, hA⟩
     unfold After at hA
     clear hy e0
     cases hF : F x
     · rw [hF, if_neg (by simp)] at hA
       have HFX := Lib.hid hF
       have HA := Lib.hid hA
       clear hF hA
       gi_wp2_with fail
       exact ⟨HFX.out, HA.out⟩
     · rw [hF, if_pos rfl] at hA
       have HFX := Lib.hid hF
       have HA := Lib.hid hA
       clear hF hA
       gi_wp2_with fail
       exact ⟨HFX.out, HA.out⟩
    case done =>
     rintro D W2 hD hnone hbW hrow
     have HNO := Lib.hid hnone
     have HBWW := Lib.hid hbW
     have HROW := Lib.hid hrow
     rw [HZ2.out] at hD
     clear hnone hbW hrow
     go_wp2_with fail
     have hbw2 : Below w'.heap.size w' W2 := HBB.out.trans (HBWW.out.mono (by rw [HZ2.out]; omega))
     refine ⟨⟨k + 1, D :: Ds, _, _, _, _, _, _, _, _, _, _, _, _, _, by omega, rfl, HB.out.trans (hbw2.mono (by omega)), (HM.out.below hbw2).more (by omega) (fun hin => ?_) HROW.out, ?_⟩, ?_⟩
     · have := heap_lt (HM.out.2 D hin).2
       omega
     · simp only [Ch.fewest, HN.out, HNO.out]
     · simp [intOf]; omega
    case stop =>
     rintro D x sl W2 hD hsome hO hZ hsl hrow
     rw [HZ2.out] at hD
     have hfew : Ch.fewest n F (n + 1) = some x := by
      have h1 : Ch.fewest n F (k + 1) = some x := by simp only [Ch.fewest, HN.out]; exact hsome
      have := Ch.fewest_some h1 (n - k)
      rwa [show k + 1 + (n - k) = n + 1 by omega] at this
     have hmk : MarksOk (W.heap.size + 1) (D :: Ds) W2 := by
      have h2 : MarksOk (W.heap.size + 1) Ds W2 := ⟨HM.out.1, fun E hE => ⟨(HM.out.2 E hE).1, by
       have hr := (HM.out.2 E hE).2
       have hE3 := (HM.out.2 E hE).1
       exact (hO.keep E (by rw [HZ2.out]; have := heap_lt hr; omega) (fun hP => by have := HF.out.lt E hP; omega)).trans ((HBB.out.block E (heap_lt hr)).trans hr)⟩⟩
      refine h2.more (by omega) (fun hin => ?_) hrow
      have := heap_lt (HM.out.2 D hin).2
      omega
     obtain ⟨As, cs, rfl⟩ := hsl.form
     have HFEW := Lib.hid hfew
     have HMK := Lib.hid hmk
     have HO := Lib.hid hO
     have HZ := Lib.hid hZ
     have HSL := Lib.hid hsl
     clear hfew hmk hO hZ hsl hsome hrow
     refine wpIn_wide.2 ?_
     go_wp2_with fail
     refine leaves_marks (D :: Ds) W2 HMK.out (fun W' hbW hk => ?_)
     have hs2 := HO.out.size
     refine ⟨_, results_none rfl _ _ _, ⟨_, rfl⟩, .inr ⟨x, .slice As x.length cs, HFEW.out, ⟨hbW.os.trans (HO.out.os.trans HB2.out.os), hbW.tape.trans (HO.out.tape.trans HB2.out.tape), hbW.output.trans (HO.out.output.trans HB2.out.output), Nat.le_trans HB2.out.size (Nat.le_trans hs2 hbW.size), fun i hi hP => ?_⟩, ?_, ?_⟩⟩
     · exact (hbW.block i (by omega)).trans ((HO.out.keep i (by have := HB2.out.size; omega) hP).trans (HB2.out.block i hi))
     · exact HF.out.stable _ W2 W' (fun i hi => hbW.block i (by have := HF.out.lt i hi; omega)) HZ.out
     · refine Sl.more (Sl.apart HSL.out (fun k j n' hc => ?_)) hbW.size
       refine hk k (fun ds hh => ?_)
       simp [World.cell?, hh] at hc
  · obtain rfl : k = n + 1 := by omega
    go_wp2_with fail
    refine leaves_marks Ds _ HM.out (fun W' hbW hk => ?_)
    exact ⟨_, results_none rfl _ _ _, ⟨_, rfl⟩, .inl ⟨HN.out, HBW.out.trans (hbW.mono (by omega))⟩⟩
def FewPost (n : Nat) (F : List Int → Bool) (w : World) (e : Ending) (w' : World) : Prop :=
 ∃ v, e = .returned (.tuple #[v, .bool (Ch.fewest n F (n + 1)).isSome]) ∧ Sl w' w'.heap.size 1 v ((Ch.fewest n F (n + 1)).getD []).length (((Ch.fewest n F (n + 1)).getD []).map I) ∧ Below w.heap.size w w'
set_option maxHeartbeats 2000000 in
theorem fewest_any (n : Nat) (hn : n ≤ 50) (F : List Int → Bool) (lx : Nat) (w : World)
 (he : ∀ x sl W', Below w.heap.size w W' → Sl W' W'.heap.size 1 sl x.length (x.map I) → Calls Try.prog 52 #[sl, vPtr lx] W' fun e w' => e = .returned (.bool (F x)) ∧ Below W'.heap.size W' w') :
 Calls Try.prog 51 #[I n, .func (.func 52) #[] #[vPtr lx]] w (FewPost n F w) := by
 have HE := Lib.hid he
 clear he
 refine (callsIn_wide (n := 1)).1 ?_
 refine callsIn_of_wp_marks Try.func51 rfl trivial ?_ rfl
 simp only [Try.ntmps51, List.size_toArray, List.length_cons, List.length_nil, Nat.reduceAdd, Nat.reduceSub, Array.replicate_succ, Array.replicate_zero, List.push_toArray, List.append_toArray, List.nil_append, List.cons_append]
 refine wpIn_wide.2 ?_
 go_wp2_with fail
 refine (Lists_any n _).mono ?_
 rintro e w0 ⟨rfl, rfl⟩
 go_wp2_with fail
 refine name_world ?_
 intro W1 hW1
 have hb1 : Below w.heap.size w W1 := by rw [hW1]; exact ((((Below.refl _ _).alloc (Nat.le_refl _) _).alloc (by simp) _).alloc (by simp; omega) _).alloc (by simp; omega) _
 have he1 : W1.heap[w.heap.size]? = some (.cells #[.func (.func 52) #[] #[vPtr lx]] 91 (0, 0)) := by
  rw [hW1]; exact (Below.heap_alloc _ _ _ (by simp <;> omega)).trans ((Below.heap_alloc _ _ _ (by simp <;> omega)).trans ((Below.heap_alloc _ _ _ (by simp <;> omega)).trans (heap_at _ _ rfl)))
 have h41 : W1.heap[w.heap.size + 1]? = some (.cells #[.slice none 0 0] 31 (0, 0)) := by
  rw [hW1]; exact (Below.heap_alloc _ _ _ (by simp <;> omega)).trans ((Below.heap_alloc _ _ _ (by simp <;> omega)).trans (heap_at _ _ (by simp)))
 have h51 : W1.heap[w.heap.size + 1 + 1]? = some (.cells #[.bool false] 4 (0, 0)) := by rw [hW1]; exact (Below.heap_alloc _ _ _ (by simp)).trans (heap_at _ _ (by simp))
 have h61 : W1.heap[w.heap.size + 1 + 1 + 1]? = some (.cells #[I n] 3 (0, 0)) := by rw [hW1]; exact heap_at _ _ (by simp)
 have hz1 : W1.heap.size = w.heap.size + 4 := by rw [hW1]; simp
 have HB1 := Lib.hid hb1
 have HE1 := Lib.hid he1
 have H41 := Lib.hid h41
 have H51 := Lib.hid h51
 have H61 := Lib.hid h61
 clear hW1 hb1 he1 h41 h51 h61
 have hfoot : Foot W1 (fun k => k = w.heap.size + 1 ∨ k = w.heap.size + 1 + 1) (fun sl W => W.heap[w.heap.size + 1]? = some (.cells #[sl] 31 (0, 0)) ∧ W.heap[w.heap.size + 1 + 1]? = some (.cells #[.bool true] 4 (0, 0))) := by
  refine ⟨by rintro k (rfl | rfl) <;> omega, ?_, fun sl W W' hk hz => ⟨(hk _ (.inl rfl)).trans hz.1, (hk _ (.inr rfl)).trans hz.2⟩⟩
  rintro k (rfl | rfl) W hW j m hc
  · rw [cell_of_row _ _ j _ _ _ (hW.trans H41.out)] at hc; cases j <;> simp at hc
  · rw [cell_of_row _ _ j _ _ _ (hW.trans H51.out)] at hc; cases j <;> simp at hc
 refine (wpIn_wide (n := 1)).1 (range_Lists F (Ch.fewest n F (n + 1)) _ _ hfoot (w.heap.size + 1 + 1 + 1) rfl rfl ?iter (fun sl a' => ∃ v7 v8 v9 v10 v11 v12 v13 : Value, a' = { tmps := #[I n, .func (.func 52) #[] #[vPtr lx], undef, vPtr w.heap.size, vPtr (w.heap.size + 1), vPtr (w.heap.size + 1 + 1), sl, v7, v8, v9, v10, v11, v12, v13], defers := [] }) ?assign ?body ?done ?stop)
 case iter =>
  intro P' Z' W2 l2 hbW hf2 hY2
  exact Lists1_iter F n _ hn P' Z' W2 l2 hf2 hY2 ((hbW.block _ (by omega)).trans H61.out)
 case assign =>
  intro l d sl W K hK
  gi_wp2_with fail
  exact ⟨_, _, _, _, _, _, _, rfl⟩
 case body =>
  rintro l d x sl a' W ⟨v7, v8, v9, v10, v11, v12, v13, rfl⟩ hbW hsl
  have hbw2 : Below w.heap.size w W := HB1.out.trans (hbW.mono (by omega))
  obtain ⟨As, cs, rfl⟩ := hsl.form
  have hcall := HE.out x _ W hbw2 hsl
  have hrow := (hbW.block w.heap.size (by omega)).trans HE1.out
  have h4 := (hbW.block (w.heap.size + 1) (by omega)).trans H41.out
  have h5 := (hbW.block (w.heap.size + 1 + 1) (by omega)).trans H51.out
  have e0 := cell_of_row W _ 0 _ _ _ hrow
  simp only [List.getElem?_toArray, List.getElem?_cons_zero] at e0
  have HC := Lib.hid hcall
  have H4 := Lib.hid h4
  have H5 := Lib.hid h5
  clear hbW hbw2 hsl hcall hrow h4 h5
  gi_wp2_with fail
  refine ⟨trivial, fun h => by simp [Fence.wide] at h, (CallsIn.inRound l (callsIn_wide.2 HC.out)).mono ?_⟩
  rintro e w3 ⟨rfl, hB3⟩
  have h4r := (hB3.block _ (heap_lt H4.out)).trans H4.out
  have h5r := (hB3.block _ (heap_lt H5.out)).trans H5.out
  have c4 := cell_of_row w3 _ 0 _ _ _ h4r
  have c5 := cell_of_row w3 _ 0 _ _ _ h5r
  simp only [List.getElem?_toArray, List.getElem?_cons_zero] at c4 c5
  have f4 : w3.frozen? ⟨w.heap.size + 1, 0, none⟩ = false := by simp [World.frozen?, h4r]
  have f5 : w3.frozen? ⟨w.heap.size + 1 + 1, 0, none⟩ = false := by simp [World.frozen?, h5r]
  have H4R := Lib.hid h4r
  have H5R := Lib.hid h5r
  have HB3 := Lib.hid hB3
  clear e0 h4r h5r hB3
  cases hF : F x
  · have HF := Lib.hid hF
    clear hF
    gi_wp2_with fail
    exact ⟨HF.out, HB3.out⟩
  · have HF := Lib.hid hF
    clear hF
    gi_wp2_with fail
    refine ⟨HF.out, ⟨HB3.out.os, HB3.out.tape, HB3.out.output, by have := HB3.out.size; simp [World.setCell]; omega, fun k hk hP => ?_⟩, ?_, ?_⟩
    · exact (Below.heap_setCell _ _ _ _ (fun e => hP (.inr e))).trans ((Below.heap_setCell _ _ _ _ (fun e => hP (.inl e))).trans (HB3.out.block k hk))
    · refine (Below.heap_setCell _ _ _ _ (by simp)).trans ?_
      simp [World.setCell, Array.getElem?_modify, H4R.out]
    · simp [World.setCell, Array.getElem?_modify, H5R.out]
 case done =>
  rintro D W hD hnone hbW hrow
  have r4 := (hbW.block (w.heap.size + 1) (by omega)).trans H41.out
  have r5 := (hbW.block (w.heap.size + 1 + 1) (by omega)).trans H51.out
  have s4 := cell_of_row W _ 0 _ _ _ r4
  have s5 := cell_of_row W _ 0 _ _ _ r5
  simp only [List.getElem?_toArray, List.getElem?_cons_zero] at s4 s5
  have f4 : W.frozen? ⟨w.heap.size + 1, 0, none⟩ = false := by simp [World.frozen?, r4]
  have f5 : W.frozen? ⟨w.heap.size + 1 + 1, 0, none⟩ = false := by simp [World.frozen?, r5]
  have HNO := Lib.hid hnone
  have HBW := Lib.hid (HB1.out.trans (hbW.mono (by omega)))
  have R4 := Lib.hid r4
  have R5 := Lib.hid r5
  have HMS : Hid (MarksOk (w.heap.size + 4) [D] ((W.setCell ⟨w.heap.size + 1, 0, none⟩ (.slice none 0 0)).setCell ⟨w.heap.size + 1 + 1, 0, none⟩ (.bool false))) := Lib.hid ⟨by simp, fun E hE => by
   have e1 : E = D := by simpa using hE
   subst e1
   exact ⟨by omega, (Below.heap_setCell _ _ _ _ (by simp; omega)).trans ((Below.heap_setCell _ _ _ _ (by simp; omega)).trans hrow)⟩⟩
  clear hnone hbW hrow r4 r5
  go_wp2_with fail
  refine leaves_marks [D] _ HMS.out (fun W' hbW hk => ?_)
  have g4 : ((W.setCell ⟨w.heap.size + 1, 0, none⟩ (.slice none 0 0)).setCell ⟨w.heap.size + 1 + 1, 0, none⟩ (.bool false)).heap[w.heap.size + 1]? = some (.cells #[.slice none 0 0] 31 (0, 0)) := (Below.heap_setCell _ _ _ _ (by simp)).trans (by simp [World.setCell, Array.getElem?_modify, R4.out])
  have g5 : ((W.setCell ⟨w.heap.size + 1, 0, none⟩ (.slice none 0 0)).setCell ⟨w.heap.size + 1 + 1, 0, none⟩ (.bool false)).heap[w.heap.size + 1 + 1]? = some (.cells #[.bool false] 4 (0, 0)) := by simp [World.setCell, Array.getElem?_modify, R5.out]
  have q4 := cell_of_row W' (w.heap.size + 1) 0 #[.slice none 0 0] 31 (0, 0) ((hk _ (fun ds => by rw [g4]; simp)).trans g4)
  have q5 := cell_of_row W' (w.heap.size + 1 + 1) 0 #[.bool false] 4 (0, 0) ((hk _ (fun ds => by rw [g5]; simp)).trans g5)
  simp only [List.getElem?_toArray, List.getElem?_cons_zero] at q4 q5
  refine ⟨.tuple #[.slice none 0 0, .bool false], ?_, .slice none 0 0, ?_, ?_, ?_⟩
  · simp [results, Try.f51, go_sem, q4, q5]
  · rw [HNO.out]; rfl
  · rw [HNO.out]; exact sl_nil _ _ _
  · exact ((HBW.out.setCell (p := ⟨w.heap.size + 1, 0, none⟩) (by simp) _).setCell (p := ⟨w.heap.size + 1 + 1, 0, none⟩) (by simp; omega) _).trans (hbW.mono (by omega))
 case stop =>
  rintro D x sl W hD hsome hO hZ hsl hrow
  have hmk : MarksOk (w.heap.size + 4) [D] W := ⟨by simp, fun E hE => by
   have e1 : E = D := by simpa using hE
   subst e1
   exact ⟨by omega, hrow⟩⟩
  have hbw : Below w.heap.size w W := ⟨hO.os.trans HB1.out.os, hO.tape.trans HB1.out.tape, hO.output.trans HB1.out.output, Nat.le_trans HB1.out.size hO.size, fun i hi => (hO.keep i (by omega) (by omega)).trans (HB1.out.block i hi)⟩
  obtain ⟨As, cs, rfl⟩ := hsl.form
  have HFEW := Lib.hid hsome
  have HMK := Lib.hid hmk
  have HBWW := Lib.hid hbw
  have HSL := Lib.hid hsl
  have HT4 := Lib.hid hZ.1
  have HT5 := Lib.hid hZ.2
  clear hsome hmk hbw hsl hO hZ hrow
  refine wpIn_wide.2 ?_
  go_wp2_with fail
  refine leaves_marks [D] W HMK.out (fun W' hbW hk => ?_)
  have q4 := cell_of_row W' _ 0 _ _ _ ((hk _ (fun ds => by rw [HT4.out]; simp)).trans HT4.out)
  have q5 := cell_of_row W' _ 0 _ _ _ ((hk _ (fun ds => by rw [HT5.out]; simp)).trans HT5.out)
  simp only [List.getElem?_toArray, List.getElem?_cons_zero] at q4 q5
  refine ⟨.tuple #[.slice As x.length cs, .bool true], ?_, .slice As x.length cs, ?_, ?_, ?_⟩
  · simp [results, Try.f51, go_sem, q4, q5]
  · rw [HFEW.out]; rfl
  · rw [HFEW.out]
    refine Sl.more (Sl.apart HSL.out (fun k j n' hc => ?_)) hbW.size
    refine hk k (fun ds hh => ?_)
    simp [World.cell?, hh] at hc
  · exact HBWW.out.trans (hbW.mono (by omega))
end Go.Proofs.Ytjgpghaofhcfnaa
