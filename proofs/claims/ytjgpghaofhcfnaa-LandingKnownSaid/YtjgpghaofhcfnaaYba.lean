/- Texts on the program that the proof leans on, part 27. -/
import Derived.Test.YtjgpghaofhcfnaaYay
import Derived.Test.YtjgpghaofhcfnaaYae
import Derived.Test.YtjgpghaofhcfnaaYaq
set_option linter.unusedVariables false
set_option linter.unusedSimpArgs false

namespace Go.Proofs.Ytjgpghaofhcfnaa
open Go.RowKit
namespace Ch
def indexOf (l : List Int) (x : Int) : Int := if x ∈ l then (l.findIdx (· == x) : Nat) else -1
theorem indexOf_none {l : List Int} {x : Int} (h : ∀ j (hj : j < l.length), l[j] ≠ x) : indexOf l x = -1 := by
 unfold indexOf
 rw [if_neg]
 intro hx
 obtain ⟨j, hj, e⟩ := List.mem_iff_getElem.1 hx
 exact h j hj e
theorem indexOf_found {l : List Int} {x : Int} {k : Nat} (hk : k < l.length) (h1 : l[k] = x) (h : ∀ j (hj : j < l.length), j < k → l[j] ≠ x) : indexOf l x = k := by
 unfold indexOf
 rw [if_pos (by rw [← h1]; exact List.getElem_mem hk)]
 have : l.findIdx (· == x) = k := by
  rw [List.findIdx_eq hk]
  exact ⟨by simp [h1], fun j hj => by simpa using h j (by omega) hj⟩
 rw [this]
end Ch
theorem Sl.int {w : World} {B : Nat} {v : Value} {l : List Int} (h : Sl w B 1 v l.length (l.map I)) {k : Nat} (hk : k < l.length) :
 ∃ b off c, v = .slice (some ⟨b, off, none⟩) l.length c ∧ b < B ∧ w.cell? ⟨b, off + k, none⟩ = some (I l[k]) := by
 obtain ⟨b, off, c, hv, hb, hc⟩ := h.at1 hk
 exact ⟨b, off, c, hv, hb, hc.trans (by simp [hk])⟩
set_option maxHeartbeats 1000000 in
theorem index_any (l : List Int) (x : Int) (v : Value) (w : World) (h : Sl w w.heap.size 1 v l.length (l.map I)) :
 Calls Try.prog 89 #[v, I x] w fun e w' => e = .returned (I (Ch.indexOf l x)) ∧ Below w.heap.size w w' := by
 have hm := h.le
 unfold maxLen at hm
 obtain ⟨A, c, rfl⟩ := h.form
 go_enter Try.func89, Try.ntmps89
 go_wp2_with fail
 go_loopw [8] (fun i wr => wr = w ∧ ∃ k : Nat, k ≤ l.length ∧ i = I k ∧ ∀ j (hj : j < l.length), j < k → l[j] ≠ x) (fun i _ => l.length - (intOf i).toNat)
 case atStart => exact ⟨rfl, 0, Nat.zero_le _, rfl, fun j _ hj => by omega⟩
 case round =>
  obtain ⟨hw, k, hk, rfl, hF⟩ := hrel
  subst hw
  have HF := Lib.hid hF
  clear hF
  by_cases hlt : k < l.length
  · obtain ⟨b', off', c', hv, hb', ck⟩ := h.int hlt
    injection hv with hA _ hc
    subst hA hc
    have hki : (k : Int) < l.length := by omega
    by_cases hx : l[k] = x
    · have hb : (x == l[k]) = true := by simp [hx]
      have HX := Lib.hid hx
      clear hx
      go_wp2_with fail
      go_ret
      exact ⟨ret_i (Ch.indexOf_found hlt HX.out HF.out).symm, Below.refl _ _⟩
    · have hb : (x == l[k]) = false := by simp; exact fun e => hx e.symm
      have HX := Lib.hid hx
      clear hx
      go_wp2_with fail
      go_roundw
      case rel =>
       refine ⟨by trivial, k + 1, by omega, by go_num, fun j hj hjk => ?_⟩
       rcases Nat.lt_succ_iff_lt_or_eq.1 hjk with h' | h'
       · exact HF.out j hj h'
       · subst h'; exact HX.out
      case measure => simp [intOf]; omega
  · obtain rfl : k = l.length := by omega
    go_wp2_with fail
    go_ret
    exact ⟨ret_i (Ch.indexOf_none (fun j hj => HF.out j hj hj)).symm, Below.refl _ _⟩
set_option maxHeartbeats 1000000 in
theorem contains_any (l : List Int) (x : Int) (v : Value) (w : World) (h : Sl w w.heap.size 1 v l.length (l.map I)) :
 Calls Try.prog 72 #[v, I x] w fun e w' => e = .returned (.bool (decide (x ∈ l))) ∧ Below w.heap.size w w' := by
 obtain ⟨A, c, rfl⟩ := h.form
 go_enter Try.func72, Try.ntmps72
 go_wp2_with fail
 refine (index_any l x _ w h).mono ?_
 rintro e w1 ⟨rfl, hB1⟩
 by_cases hx : x ∈ l
 · obtain ⟨n, hn⟩ : ∃ n : Nat, Ch.indexOf l x = n := ⟨l.findIdx (· == x), by unfold Ch.indexOf; rw [if_pos hx]⟩
   have hd : decide (x ∈ l) = true := by simp [hx]
   have HD := Lib.hid hd
   rw [hn]
   clear hn hd hx
   go_wp2_with fail
   go_ret
   exact ⟨ret_b (by rw [HD.out] <;> simp), hB1⟩
 · have hn : Ch.indexOf l x = -1 := by simp [Ch.indexOf, hx]
   have hd : decide (x ∈ l) = false := by simp [hx]
   have HD := Lib.hid hd
   rw [hn]
   clear hn hd hx
   go_wp2_with fail
   go_ret
   exact ⟨ret_b (by rw [HD.out] <;> simp), hB1⟩
end Go.Proofs.Ytjgpghaofhcfnaa
namespace Go.Proofs.Ytjgpghaofhcfnaa
open Go.RowKit
attribute [local go_sem] Oper.semAt_some
namespace Ld
def keptTo (l : List Sd) (no : List Int) (k : Nat) : List Sd := ((List.range k).filter fun i : Nat => !decide ((i : Int) ∈ no)).map fun i : Nat => l.getD i ⟨0, 0, 0⟩
def withoutL (l : List Sd) (no : List Int) : List Sd := keptTo l no l.length
theorem keptTo_zero (l : List Sd) (no : List Int) : keptTo l no 0 = [] := rfl
theorem keptTo_no {l : List Sd} {no : List Int} {k : Nat} (h : (k : Int) ∈ no) : keptTo l no (k + 1) = keptTo l no k := by simp [keptTo, List.range_succ, h]
theorem keptTo_yes {l : List Sd} {no : List Int} {k : Nat} (hk : k < l.length) (h : ¬ (k : Int) ∈ no) : keptTo l no (k + 1) = keptTo l no k ++ [l[k]] := by simp [keptTo, List.range_succ, h, hk]
theorem keptTo_le (l : List Sd) (no : List Int) (k : Nat) : (keptTo l no k).length ≤ k := by
 unfold keptTo
 rw [List.length_map]
 exact Nat.le_trans (List.length_filter_le _ _) (by simp)
theorem keptTo_mem {l : List Sd} {no : List Int} {k : Nat} (hk : k ≤ l.length) : ∀ x ∈ keptTo l no k, x ∈ l := by
 intro x hx
 obtain ⟨i, hi, rfl⟩ := List.mem_map.1 hx
 have hi := List.mem_range.1 (List.mem_filter.1 hi).1
 have hil : i < l.length := by omega
 rw [List.getD_eq_getElem?_getD, List.getElem?_eq_getElem hil]
 exact List.getElem_mem hil
end Ld
theorem infoSd : (Try.prog.info? 64).map (fun i => (i.zero, i.size, i.bytes)) = some (some (vSd ⟨0, 0, 0⟩), 3, 24) := by kernel_rfl
theorem underSds : Try.prog.underlying 28 = some (.slice 64) := by kernel_rfl
theorem cSd_cells (W : World) (x : Ld.Sd) : ∀ j u, (cSd x)[j]? = some u → (W.alloc (.cells #[I x.hour, I x.shore, I x.deep] 64)).cell? ((⟨W.heap.size, 0, none⟩ : Addr).add j) = some u := by
 intro j u hu
 have hadd : (⟨W.heap.size, 0, none⟩ : Addr).add j = ⟨W.heap.size, j, none⟩ := by unfold Addr.add; split <;> simp_all
 rw [hadd, cell_of_row _ W.heap.size j _ _ _ (heap_at W _ rfl)]
 simpa [cSd] using hu
set_option maxRecDepth 100000 in
set_option maxHeartbeats 2000000 in
theorem Without_any (l : List Ld.Sd) (hl : l.length ≤ 100) (no : List Int) (V v : Value) (w : World) (hV : Sl w w.heap.size 3 V l.length (l.flatMap cSd)) (hv : Sl w w.heap.size 1 v no.length (no.map I)) :
 Calls Try.prog 53 #[V, v] w fun e w' => (∃ V', e = .returned V' ∧ Sl w' w'.heap.size 3 V' (Ld.withoutL l no).length ((Ld.withoutL l no).flatMap cSd) ∧ Fresh w.heap.size V') ∧ Below w.heap.size w w' := by
 obtain ⟨AV, cV, rfl⟩ := hV.form
 obtain ⟨Av, cv, rfl⟩ := hv.form
 have HV := Lib.hid hV
 have Hv := Lib.hid hv
 clear hV hv
 go_enter Try.func53, Try.ntmps53
 go_wp2_with fail
 go_loopw [5, 10] (fun u i wr => ∃ (k : Nat) (u0 : Value), k ≤ l.length ∧ i = I k ∧ u0 = u ∧ wr.ownsRow w.heap.size 64 3 u0 (Ld.keptTo l no k).length ((Ld.keptTo l no k).flatMap cSd) ∧ Below w.heap.size w wr) (fun _ i _ => l.length - (intOf i).toNat)
 case atStart => exact ⟨0, _, Nat.zero_le _, rfl, rfl, World.ownsRow_nil _ _ _ _, Below.refl _ _⟩
 case round =>
  obtain ⟨k, u, hk, rfl, rfl, hown, hBr⟩ := hrel
  have HOWN := Lib.hid hown
  clear hown
  by_cases hlt : k < l.length
  · have hki : (k : Int) < l.length := by omega
    obtain ⟨bl, off, c', hv, hbl, q0, q1, q2⟩ := Sl.sd (HV.out.below hBr (Nat.le_refl _)) hlt
    injection hv with hA _ hc
    subst hA hc
    generalize hx : l[k] = x at q0 q1 q2
    have HX := Lib.hid hx
    clear hx
    have hbz := hBr.size
    go_wp2_with fail
    have hba : Below w.heap.size w (wr.alloc (.cells #[I x.hour, I x.shore, I x.deep] 64)) := hBr.alloc hBr.size _
    refine (contains_any no k _ _ ((Hv.out.below hba (Nat.le_refl _)).more hba.size)).mono ?_
    rintro e w2 ⟨rfl, hB2⟩
    have hb2 := hba.trans (hB2.mono hba.size)
    have hxr := (hB2.block wr.heap.size (by simp)).trans (heap_at wr (.cells #[I x.hour, I x.shore, I x.deep] 64) rfl)
    have x0 := cell_of_row w2 _ 0 _ _ _ hxr
    have x1 := cell_of_row w2 _ 1 _ _ _ hxr
    have x2 := cell_of_row w2 _ 2 _ _ _ hxr
    simp only [List.getElem?_toArray, List.getElem?_cons_zero, List.getElem?_cons_succ] at x0 x1 x2
    have hown2 := (HOWN.out.alloc (.cells #[I x.hour, I x.shore, I x.deep] 64)).kept (grown_of_below hB2 none) (by cases u.ownBlock <;> simp)
    have HOWN2 := Lib.hid hown2
    have HB2 := Lib.hid hb2
    have hz2 := hb2.size
    have hle := Ld.keptTo_le l no k
    clear hxr hba hB2 hb2 q0 q1 q2 hown2
    by_cases hin : (k : Int) ∈ no
    · have hd : decide ((k : Int) ∈ no) = true := by simp [hin]
      have HK := Lib.hid (Ld.keptTo_no (l := l) hin)
      rw [hd]
      clear hd hin
      go_wp2_with fail
      go_roundw
      case rel => exact ⟨k + 1, _, by omega, by go_num, rfl, by rw [HK.out]; exact HOWN2.out, HB2.out⟩
      case measure => simp [intOf]; omega
    · have hd : decide ((k : Int) ∈ no) = false := by simp [hin]
      have HK := Lib.hid (Ld.keptTo_yes (l := l) hlt hin)
      rw [hd]
      clear hd hin
      obtain ⟨i0, hi, hz0, hz1', hz2'⟩ := info_parts infoSd
      have hone : ∀ u ∈ cSd x, u.oneCell' = true := by intro u hu; simp [cSd] at hu; rcases hu with rfl | rfl | rfl <;> rfl
      have HON := Lib.hid hone
      clear hone
      go_wp2_with (at_builtin; go_must (refine wpList_append_own_at _ rfl _ _ 28 rfl w.heap.size 64 i0 (vSd ⟨0, 0, 0⟩) 3 24 underSds hi hz0 hz1' hz2' rfl (by decide) _ (Ld.keptTo l no k).length ((Ld.keptTo l no k).flatMap cSd) rfl (HOWN2.out.alloc _) ⟨w2.heap.size, 0, none⟩ 1 1 (cSd x) rfl rfl (cSd_cells w2 x) HON.out (by unfold maxLen; omega) (by omega) (by simp; omega) ?_; intro v' w3 hown' hgrow hnil hat; have HOW := Lib.hid hown'; have HGR := Lib.hid hgrow; clear hown' hgrow hnil hat))
      go_roundw
      case rel =>
       refine ⟨k + 1, _, by omega, by go_num, rfl, ?_, ?_⟩
       · rw [HK.out, List.length_append, List.flatMap_append, HX.out]; simpa using HOW.out
       · refine HB2.out.trans (Below.trans ((Below.refl _ _).alloc (Nat.le_refl _) _ |>.mono hz2) ⟨HGR.out.os, HGR.out.tape, HGR.out.output, HGR.out.size, fun i hi => HGR.out.block i (by simp; omega) (fun e => ?_)⟩)
         have := (HOWN2.out.lt i e.symm).1
         omega
      case measure => simp [intOf]; omega
  · obtain rfl : k = l.length := by omega
    have hsl := sl_ownN HOWN.out (Nat.le_refl _)
    have HSL := Lib.hid hsl
    have hfr : Fresh w.heap.size u := fun g o m c e => (HOWN.out.lt g (by rw [e]; rfl)).1
    obtain ⟨Au, cu, rfl⟩ := hsl.form
    have HFR := Lib.hid (show Fresh w.heap.size (.slice Au (Ld.keptTo l no l.length).length (Ld.keptTo l no l.length).length) from fun g o m c e => hfr g o _ cu (by injection e with e1 e2 e3; rw [e1]))
    clear hfr
    have hm := hsl.le
    obtain ⟨_, _, _, e1, e2, _⟩ := hsl
    injection e1 with e1 e3 e4
    subst e1 e4
    unfold maxLen at hm
    have hvv : ((Ld.keptTo l no l.length).length : Int) ≤ (cu : Int) := by omega
    go_wp2_with fail
    go_ret
    exact ⟨⟨_, rfl, sl_cut HSL.out, HFR.out⟩, hBr⟩
end Go.Proofs.Ytjgpghaofhcfnaa
