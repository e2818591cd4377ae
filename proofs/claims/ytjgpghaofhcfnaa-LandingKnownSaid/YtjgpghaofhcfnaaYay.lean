/- Texts on the program that the proof leans on, part 25. -/
import Derived.Test.YtjgpghaofhcfnaaYaa
import Derived.Test.YtjgpghaofhcfnaaYab
import Derived.Test.YtjgpghaofhcfnaaYad
import Derived.Test.YtjgpghaofhcfnaaYae
import Derived.Stop.RegionWithIn
set_option linter.unusedVariables false
set_option linter.unusedSimpArgs false

namespace Go.Proofs.Ytjgpghaofhcfnaa.Ch
def combL (size : Nat) : Nat → Nat → List Int → List (List Int)
  | 0, _, _ => []
  | m + 1, f, acc => (if acc.length + 1 = size then [acc ++ [(f : Int)]] else combL size m (f + 1) (acc ++ [(f : Int)])) ++ combL size m (f + 1) acc
def comb (size m f : Nat) (acc : List Int) : List (List Int) := if acc.length = size then [acc] else combL size m f acc
theorem combL_succ (size m f : Nat) (acc : List Int) : combL size (m + 1) f acc = comb size m (f + 1) (acc ++ [(f : Int)]) ++ combL size m (f + 1) acc := by
 simp [combL, comb]
def listsOf (n size : Nat) : List (List Int) := comb size n 0 []
def fewest (n : Nat) (F : List Int → Bool) : Nat → Option (List Int)
  | 0 => none
  | k + 1 => match fewest n F k with
    | some x => some x
    | none => (listsOf n k).find? F
theorem fewest_some {n : Nat} {F : List Int → Bool} {k : Nat} {x : List Int} (h : fewest n F k = some x) : ∀ j, fewest n F (k + j) = some x
  | 0 => h
  | j + 1 => by
   have := fewest_some h j
   show fewest n F ((k + j) + 1) = some x
   simp only [fewest, this]
theorem combL_len {size m f : Nat} {acc x : List Int} (ha : acc.length < size) (h : x ∈ combL size m f acc) : x.length = size := by
 induction m generalizing f acc with
 | zero => simp [combL] at h
 | succ m ih =>
  simp only [combL, List.mem_append] at h
  rcases h with h | h
  · split at h
    · simp at h; subst h; simp; omega
    · exact ih (by simp; omega) h
  · exact ih ha h
theorem comb_len {size m f : Nat} {acc x : List Int} (ha : acc.length ≤ size) (h : x ∈ comb size m f acc) : x.length = size := by
 unfold comb at h
 split at h
 · simp at h; subst h; assumption
 · exact combL_len (by omega) h
end Go.Proofs.Ytjgpghaofhcfnaa.Ch
namespace Go.Proofs.Ytjgpghaofhcfnaa
open Go.RowKit
attribute [local go_sem] Oper.semAt_some
structure Site (n size sb nb yb ab lb l Z : Nat) (W0 : World) (acc : List Int) (W : World) : Prop where
 low : Below Z W0 W
 hs : W.heap[sb]? = some (.cells #[I size] 3 (0, 0))
 hn : W.heap[nb]? = some (.cells #[I n] 3 (0, 0))
 hy : W.heap[yb]? = some (.cells #[.func (.yield l) #[] #[]] 91 (0, 0))
 ha : W.heap[ab]? = some (.cells #[.func (.func 104) #[] #[vPtr lb, vPtr sb, vPtr yb, vPtr nb, vPtr ab]] 94 (0, 0))
 list : ∃ g cap, W.heap[lb]? = some (.cells #[.slice (some ⟨g, 0, none⟩) acc.length cap] 31 (0, 0)) ∧ W.ownsRow Z 3 1 (.slice (some ⟨g, 0, none⟩) acc.length cap) acc.length (acc.map I) ∧ g ≠ sb ∧ g ≠ nb ∧ g ≠ yb ∧ g ≠ ab ∧ g ≠ lb
 zl : Z ≤ lb ∧ lb ≠ sb ∧ lb ≠ nb ∧ lb ≠ yb ∧ lb ≠ ab
 zw : Z ≤ W.heap.size
theorem Site.below {n size sb nb yb ab lb l Z : Nat} {W0 W W' : World} {acc : List Int} (h : Site n size sb nb yb ab lb l Z W0 acc W) (hb : Below W.heap.size W W') : Site n size sb nb yb ab lb l Z W0 acc W' := by
 obtain ⟨g, cap, h1, h2, h3⟩ := h.list
 exact ⟨h.low.trans (hb.mono h.zw), (hb.block _ (heap_lt h.hs)).trans h.hs, (hb.block _ (heap_lt h.hn)).trans h.hn, (hb.block _ (heap_lt h.hy)).trans h.hy, (hb.block _ (heap_lt h.ha)).trans h.ha,
  ⟨g, cap, (hb.block _ (heap_lt h1)).trans h1, h2.kept (grown_of_below hb none) (by simp [Value.ownBlock]), h3⟩, h.zl, Nat.le_trans h.zw hb.size⟩
theorem Site.push {n size sb nb yb ab lb l Z : Nat} {W0 W w3 : World} {acc : List Int} (h : Site n size sb nb yb ab lb l Z W0 acc W) {g cap : Nat} (hl : W.heap[lb]? = some (.cells #[.slice (some ⟨g, 0, none⟩) acc.length cap] 31 (0, 0)))
 {o : Obj} {v' : Value} {x : Int} (hown : w3.ownsRow Z 3 1 v' (acc.length + 1) (acc.map I ++ [I x])) (hgr : (W.alloc o).grownBy w3 (some g)) (hat : v'.ownBlock = some g ∨ v'.ownBlock = some (W.alloc o).heap.size) :
 Site n size sb nb yb ab lb l Z W0 (acc ++ [x]) (w3.setCell ⟨lb, 0, none⟩ v') := by
 obtain ⟨g0, cap0, h1, h2, n1, n2, n3, n4, n5⟩ := h.list
 rw [hl] at h1
 injection h1 with h1
 injection h1 with h1
 have h1 := congrArg (fun a : Array Value => a[0]?) h1
 simp at h1
 obtain ⟨rfl, rfl⟩ := h1
 obtain ⟨z1, z2, z3, z4, z5⟩ := h.zl
 obtain ⟨g', cap', rfl⟩ := ownsRow_succ hown
 have hzw := h.zw
 have hgz := (h2.lt g rfl).1
 have keep : ∀ k r, W.heap[k]? = some r → g ≠ k → lb ≠ k → (w3.setCell ⟨lb, 0, none⟩ (.slice (some ⟨g', 0, none⟩) (acc.length + 1) cap')).heap[k]? = some r := fun k r hk hg hlk =>
  (Below.heap_setCell _ _ _ _ (fun e => hlk e.symm)).trans ((hgr.block k (by have := heap_lt hk; simp; omega) (fun e => hg (by injection e with e; exact e.symm))).trans ((Below.heap_alloc _ _ _ (heap_lt hk)).trans hk))
 have hll := heap_lt hl
 have hgl := (hown.lt g' rfl).1
 have hat' : g' = g ∨ g' = W.heap.size + 1 := by simpa [Value.ownBlock] using hat
 have hlr : w3.heap[lb]? = some (.cells #[.slice (some ⟨g, 0, none⟩) acc.length cap] 31 (0, 0)) := (hgr.block lb (by simp; omega) (fun e => n5 (by injection e with e; exact e.symm))).trans ((Below.heap_alloc _ _ _ hll).trans hl)
 have b1 := heap_lt h.hs
 have b2 := heap_lt h.hn
 have b3 := heap_lt h.hy
 have b4 := heap_lt h.ha
 refine ⟨?_, keep _ _ h.hs n1 z2, keep _ _ h.hn n2 z3, keep _ _ h.hy n3 z4, keep _ _ h.ha n4 z5, ⟨g', cap', ?_, ?_, by omega, by omega, by omega, by omega, by omega⟩, h.zl, ?_⟩
 · refine (h.low.trans (((Below.refl Z W).alloc hzw o).trans ⟨hgr.os, hgr.tape, hgr.output, hgr.size, fun k hk => hgr.block k (by simp; omega) (fun e => ?_)⟩)).setCell (p := ⟨lb, 0, none⟩) z1 _
   injection e with e
   omega
 · simp [World.setCell, Array.getElem?_modify, hlr]
 · have := hown.kept (grown_setCell w3 lb (.slice (some ⟨g', 0, none⟩) (acc.length + 1) cap')) (.inr (by simp [Value.ownBlock]; omega))
   simpa using this
 · have := hgr.size
   simp [World.setCell] at this ⊢
   omega
theorem Site.pop {n size sb nb yb ab lb l Z : Nat} {W0 W : World} {acc : List Int} {x : Int} (h : Site n size sb nb yb ab lb l Z W0 (acc ++ [x]) W) {g cap : Nat} (hl : W.heap[lb]? = some (.cells #[.slice (some ⟨g, 0, none⟩) (acc.length + 1) cap] 31 (0, 0))) :
 Site n size sb nb yb ab lb l Z W0 acc (W.setCell ⟨lb, 0, none⟩ (.slice (some ⟨g, 0, none⟩) acc.length cap)) := by
 obtain ⟨g0, cap0, h1, h2, n1, n2, n3, n4, n5⟩ := h.list
 rw [hl] at h1
 injection h1 with h1
 injection h1 with h1
 have h1 := congrArg (fun a : Array Value => a[0]?) h1
 simp at h1
 obtain ⟨rfl, rfl⟩ := h1
 obtain ⟨z1, z2, z3, z4, z5⟩ := h.zl
 have keep : ∀ k r, W.heap[k]? = some r → lb ≠ k → (W.setCell ⟨lb, 0, none⟩ (.slice (some ⟨g, 0, none⟩) acc.length cap)).heap[k]? = some r := fun k r hk hlk => (Below.heap_setCell _ _ _ _ (fun e => hlk e.symm)).trans hk
 refine ⟨h.low.setCell (p := ⟨lb, 0, none⟩) z1 _, keep _ _ h.hs z2, keep _ _ h.hn z3, keep _ _ h.hy z4, keep _ _ h.ha z5, ⟨g, cap, ?_, ?_, n1, n2, n3, n4, n5⟩, h.zl, by simpa [World.setCell] using h.zw⟩
 · simp [World.setCell, Array.getElem?_modify, hl]
 · have hk := h2.kept (grown_setCell W lb (.slice (some ⟨g, 0, none⟩) acc.length cap)) (.inr (by simp [Value.ownBlock]; omega))
   obtain ⟨e1, e2⟩ := hk
   rcases e2 with ⟨e, _⟩ | ⟨g', cap', cur, e, hb, hg, hle, hmx, hcs, htk⟩
   · cases e
   · injection e with e3 e4 e5
     injection e3 with e3
     injection e3 with e3
     subst e3 e5
     refine ⟨by simp, .inr ⟨g, cap, cur, rfl, hb, hg, by simp at hle; omega, hmx, hcs, ?_⟩⟩
     have := congrArg (List.take acc.length) htk
     rw [List.take_take] at this
     simpa [Nat.min_eq_left] using this
def After (F : List Int → Bool) (X : Value → World → World → Prop) (x : List Int) (sl : Value) (W W' : World) : Prop := if F x = true then X sl W W' else Below W.heap.size W W'
def RoundL (F : List Int → Bool) (X : Value → World → World → Prop) (W0 : World) (Z l d : Nat) : Prop :=
 ∀ x sl W, Below Z W0 W → Z ≤ W.heap.size → Sl W W.heap.size 1 sl x.length (x.map I) → YieldAt Fence.wide d Try.prog l #[sl] W fun e W' => e = .returned (.bool (!F x)) ∧ After F X x sl W W'
def AddPost (F : List Int → Bool) (X : Value → World → World → Prop) (W0 : World) (Z : Nat) (S : World → Prop) (xs : List (List Int)) : Ending → World → Prop := fun e W' =>
 (e = .returned (.bool true) ∧ xs.find? F = none ∧ S W') ∨
 (∃ x sl Wy, e = .returned (.bool false) ∧ xs.find? F = some x ∧ Below Z W0 Wy ∧ Z ≤ Wy.heap.size ∧ Sl Wy Wy.heap.size 1 sl x.length (x.map I) ∧ X sl Wy W')
set_option maxHeartbeats 2000000 in
theorem add_done (F : List Int → Bool) (X : Value → World → World → Prop) (n size sb nb yb ab lb l Z : Nat) (W0 : World) (hY : ∀ d, RoundL F X W0 Z l d) (acc : List Int) (ha : acc.length = size) (hsz : size ≤ 100) (f : Nat) (W : World) (hS : Site n size sb nb yb ab lb l Z W0 acc W) :
 Calls Try.prog 104 #[I f, vPtr lb, vPtr sb, vPtr yb, vPtr nb, vPtr ab] W (AddPost F X W0 Z (Site n size sb nb yb ab lb l Z W0 acc) [acc]) := by
 obtain ⟨g, cap, hl, hown, -⟩ := hS.list
 have hsl := sl_ownN hown (Nat.le_refl _)
 obtain ⟨_, hc | ⟨g', cap', cur, e, hb, hg, hle, hmx, hcs, htk⟩⟩ := hown
 · cases hc.1
 injection e with e1 e2 e3
 subst e3
 have hslc : Sl W.drew W.drew.heap.size 1 (.slice (some ⟨g, 0, none⟩) size size) acc.length (acc.map I) := by
  have := (sl_cut hsl).below (show Below W.heap.size W W.drew from (Below.refl _ _).drew) (Nat.le_refl _)
  rw [ha] at this ⊢
  exact this
 obtain ⟨fn, tmps, assign, body, hy, hR⟩ := hY 0 acc _ W.drew (hS.low.drew) hS.zw hslc
 have l0 := cell_of_row W _ 0 _ _ _ hl
 have s0 := cell_of_row W _ 0 _ _ _ hS.hs
 have y0 := cell_of_row W _ 0 _ _ _ hS.hy
 simp only [List.getElem?_toArray, List.getElem?_cons_zero, List.getElem?_cons_succ] at l0 s0 y0
 have HS := Lib.hid hS
 have hcap : size ≤ cap := by omega
 have hcapi : (size : Int) ≤ (cap : Int) := by omega
 have hai : ((acc.length : Int) == (size : Int)) = true := by simp [ha]
 rw [ha] at l0
 have HA := Lib.hid ha
 have HSL := Lib.hid hslc
 clear ha hS hl hsl hslc hb hg hle hmx hcs htk e1 e2
 rw [HA.out] at hai
 go_enter Try.func104, Try.ntmps104
 go_wp2_with fail
 refine name_act ?_
 intro A hA
 refine wp_between (fun a' w' => (∃ u13 u14 u15 u16 u17 u18, a' = ((((((A.put (some 13) u13).put (some 14) u14).put (some 15) u15).put (some 16) u16).put (some 17) u17).put (some 18) u18).put (some 7) (.bool (!F acc))) ∧ After F X acc (.slice (some ⟨g, 0, none⟩) size size) W.drew w') ?first ?rest
 case first =>
  subst hA
  refine (wpIn_wide (n := 1)).1 ?_
  refine wpIn_region_any (by kernel_rfl) ?_
  change wpAnyIn _ _ _ _ _ _ _ _ _ (World.drew _)
  refine wpAnyIn_ready (rs := [0, 1, 2, 3]) (by kernel_rfl) (by simp) ?_
  refine AllReadyIn.cons rfl (fun K hK => ?_) (AllReadyIn.cons rfl (fun K hK => ?_) (AllReadyIn.cons rfl (fun K hK => ?_) (AllReadyIn.cons rfl (fun K hK => ?_) AllReadyIn.nil)))
  · go_simp
    refine hK _ _ ?_
    clear hK K
    try simp only [putL]
    refine wpAnyIn_ready (rs := [1, 2, 3]) (by kernel_rfl) (by simp) ?_
    refine AllReadyIn.cons rfl (fun K hK => ?_) (AllReadyIn.cons rfl (fun K hK => ?_) (AllReadyIn.cons rfl (fun K hK => ?_) AllReadyIn.nil))
    · go_simp
      refine hK _ _ ?_
      clear hK K
      try simp only [putL]
      refine wpAnyIn_ready (rs := [2, 3]) (by kernel_rfl) (by simp) ?_
      refine AllReadyIn.cons rfl (fun K hK => ?_) (AllReadyIn.cons rfl (fun K hK => ?_) AllReadyIn.nil)
      · go_simp
        refine hK _ _ ?_
        clear hK K
        try simp only [putL]
        refine wpAnyIn_ready (rs := [3]) (by kernel_rfl) (by simp) ?_
        refine AllReadyIn.cons rfl (fun K hK => ?_) AllReadyIn.nil
        go_simp
        refine hK _ _ ?_
        clear hK K
        try simp only [putL]
        refine wpAnyIn_ready (rs := [4]) (by kernel_rfl) (by simp) ?_
        refine AllReadyIn.cons rfl (fun K hK => ?_) AllReadyIn.nil
        go_simp
        refine hK _ _ ?_
        clear hK K
        try simp only [putL]
        refine wpAnyIn_ready (rs := [5]) (by kernel_rfl) (by simp) ?_
        refine AllReadyIn.cons rfl (fun K hK => ?_) AllReadyIn.nil
        go_simp
        refine hR.mono ?_
        rintro e W' ⟨rfl, hQ⟩
        refine hK _ _ ?_
        clear hK K
        try simp only [putL]
        refine wpAnyIn_ready (rs := [6]) (by kernel_rfl) (by simp) ?_
        refine AllReadyIn.cons rfl (fun K hK => ?_) AllReadyIn.nil
        go_simp
        refine hK _ _ ?_
        clear hK K
        try simp only [putL]
        refine wpAnyIn_done (by kernel_rfl) ?_ _
        exact ⟨⟨_, _, _, _, _, _, rfl⟩, hQ⟩
      · go_simp
        refine hK _ _ ?_
        clear hK K
        try simp only [putL]
        refine wpAnyIn_ready (rs := [2]) (by kernel_rfl) (by simp) ?_
        refine AllReadyIn.cons rfl (fun K hK => ?_) AllReadyIn.nil
        go_simp
        refine hK _ _ ?_
        clear hK K
        try simp only [putL]
        refine wpAnyIn_ready (rs := [4]) (by kernel_rfl) (by simp) ?_
        refine AllReadyIn.cons rfl (fun K hK => ?_) AllReadyIn.nil
        go_simp
        refine hK _ _ ?_
        clear hK K
        try simp only [putL]
        refine wpAnyIn_ready (rs := [5]) (by kernel_rfl) (by simp) ?_
        refine AllReadyIn.cons rfl (fun K hK => ?_) AllReadyIn.nil
        go_simp
        refine hR.mono ?_
        rintro e W' ⟨rfl, hQ⟩
        refine hK _ _ ?_
        clear hK K
        try simp only [putL]
        refine wpAnyIn_ready (rs := [6]) (by kernel_rfl) (by simp) ?_
        refine AllReadyIn.cons rfl (fun K hK => ?_) AllReadyIn.nil
        go_simp
        refine hK _ _ ?_
        clear hK K
        try simp only [putL]
        refine wpAnyIn_done (by kernel_rfl) ?_ _
        exact ⟨⟨_, _, _, _, _, _, rfl⟩, hQ⟩
    · go_simp
      refine hK _ _ ?_
      clear hK K
      try simp only [putL]
      refine wpAnyIn_ready (rs := [1, 3]) (by kernel_rfl) (by simp) ?_
      refine AllReadyIn.cons rfl (fun K hK => ?_) (AllReadyIn.cons rfl (fun K hK => ?_) AllReadyIn.nil)
      · go_simp
        refine hK _ _ ?_
        clear hK K
        try simp only [putL]
        refine wpAnyIn_ready (rs := [3]) (by kernel_rfl) (by simp) ?_
        refine AllReadyIn.cons rfl (fun K hK => ?_) AllReadyIn.nil
        go_simp
        refine hK _ _ ?_
        clear hK K
        try simp only [putL]
        refine wpAnyIn_ready (rs := [4]) (by kernel_rfl) (by simp) ?_
        refine AllReadyIn.cons rfl (fun K hK => ?_) AllReadyIn.nil
        go_simp
        refine hK _ _ ?_
        clear hK K
        try simp only [putL]
        refine wpAnyIn_ready (rs := [5]) (by kernel_rfl) (by simp) ?_
        refine AllReadyIn.cons rfl (fun K hK => ?_) AllReadyIn.nil
        go_simp
        refine hR.mono ?_
        rintro e W' ⟨rfl, hQ⟩
        refine hK _ _ ?_
        clear hK K
        try simp only [putL]
        refine wpAnyIn_ready (rs := [6]) (by kernel_rfl) (by simp) ?_
        refine AllReadyIn.cons rfl (fun K hK => ?_) AllReadyIn.nil
        go_simp
        refine hK _ _ ?_
        clear hK K
        try simp only [putL]
        refine wpAnyIn_done (by kernel_rfl) ?_ _
        exact ⟨⟨_, _, _, _, _, _, rfl⟩, hQ⟩
      · go_simp
        refine hK _ _ ?_
        clear hK K
        try simp only [putL]
        refine wpAnyIn_ready (rs := [1]) (by kernel_rfl) (by simp) ?_
        refine AllReadyIn.cons rfl (fun K hK => ?_) AllReadyIn.nil
        go_simp
        refine hK _ _ ?_
        clear hK K
        try simp only [putL]
        refine wpAnyIn_ready (rs := [4]) (by kernel_rfl) (by simp) ?_
        refine AllReadyIn.cons rfl (fun K hK => ?_) AllReadyIn.nil
        go_simp
        refine hK _ _ ?_
        clear hK K
        try simp only [putL]
        refine wpAnyIn_ready (rs := [5]) (by kernel_rfl) (by simp) ?_
        refine AllReadyIn.cons rfl (fun K hK => ?_) AllReadyIn.nil
        go_simp
        refine hR.mono ?_
        rintro e W' ⟨rfl, hQ⟩
        refine hK _ _ ?_
        clear hK K
        try simp only [putL]
        refine wpAnyIn_ready (rs := [6]) (by kernel_rfl) (by simp) ?_
        refine AllReadyIn.cons rfl (fun K hK => ?_) AllReadyIn.nil
        go_simp
        refine hK _ _ ?_
        clear hK K
        try simp only [putL]
        refine wpAnyIn_done (by kernel_rfl) ?_ _
        exact ⟨⟨_, _, _, _, _, _, rfl⟩, hQ⟩
    · go_simp
      refine hK _ _ ?_
      clear hK K
      try simp only [putL]
      refine wpAnyIn_ready (rs := [1, 2]) (by kernel_rfl) (by simp) ?_
      refine AllReadyIn.cons rfl (fun K hK => ?_) (AllReadyIn.cons rfl (fun K hK => ?_) AllReadyIn.nil)
      · go_simp
        refine hK _ _ ?_
        clear hK K
        try simp only [putL]
        refine wpAnyIn_ready (rs := [2]) (by kernel_rfl) (by simp) ?_
        refine AllReadyIn.cons rfl (fun K hK => ?_) AllReadyIn.nil
        go_simp
        refine hK _ _ ?_
        clear hK K
        try simp only [putL]
        refine wpAnyIn_ready (rs := [4]) (by kernel_rfl) (by simp) ?_
        refine AllReadyIn.cons rfl (fun K hK => ?_) AllReadyIn.nil
        go_simp
        refine hK _ _ ?_
        clear hK K
        try simp only [putL]
        refine wpAnyIn_ready (rs := [5]) (by kernel_rfl) (by simp) ?_
        refine AllReadyIn.cons rfl (fun K hK => ?_) AllReadyIn.nil
        go_simp
        refine hR.mono ?_
        rintro e W' ⟨rfl, hQ⟩
        refine hK _ _ ?_
        clear hK K
        try simp only [putL]
        refine wpAnyIn_ready (rs := [6]) (by kernel_rfl) (by simp) ?_
        refine AllReadyIn.cons rfl (fun K hK => ?_) AllReadyIn.nil
        go_simp
        refine hK _ _ ?_
        clear hK K
        try simp only [putL]
        refine wpAnyIn_done (by kernel_rfl) ?_ _
        exact ⟨⟨_, _, _, _, _, _, rfl⟩, hQ⟩
      · go_simp
        refine hK _ _ ?_
        clear hK K
        try simp only [putL]
        refine wpAnyIn_ready (rs := [1]) (by kernel_rfl) (by simp) ?_
        refine AllReadyIn.cons rfl (fun K hK => ?_) AllReadyIn.nil
        go_simp
        refine hK _ _ ?_
        clear hK K
        try simp only [putL]
        refine wpAnyIn_ready (rs := [4]) (by kernel_rfl) (by simp) ?_
        refine AllReadyIn.cons rfl (fun K hK => ?_) AllReadyIn.nil
        go_simp
        refine hK _ _ ?_
        clear hK K
        try simp only [putL]
        refine wpAnyIn_ready (rs := [5]) (by kernel_rfl) (by simp) ?_
        refine AllReadyIn.cons rfl (fun K hK => ?_) AllReadyIn.nil
        go_simp
        refine hR.mono ?_
        rintro e W' ⟨rfl, hQ⟩
        refine hK _ _ ?_
        clear hK K
        try simp only [putL]
        refine wpAnyIn_ready (rs := [6]) (by kernel_rfl) (by simp) ?_
        refine AllReadyIn.cons rfl (fun K hK => ?_) AllReadyIn.nil
        go_simp
        refine hK _ _ ?_
        clear hK K
        try simp only [putL]
        refine wpAnyIn_done (by kernel_rfl) ?_ _
        exact ⟨⟨_, _, _, _, _, _, rfl⟩, hQ⟩
  · go_simp
    refine hK _ _ ?_
    clear hK K
    try simp only [putL]
    refine wpAnyIn_ready (rs := [0, 2, 3]) (by kernel_rfl) (by simp) ?_
    refine AllReadyIn.cons rfl (fun K hK => ?_) (AllReadyIn.cons rfl (fun K hK => ?_) (AllReadyIn.cons rfl (fun K hK => ?_) AllReadyIn.nil))
    · go_simp
      refine hK _ _ ?_
      clear hK K
      try simp only [putL]
      refine wpAnyIn_ready (rs := [2, 3]) (by kernel_rfl) (by simp) ?_
      refine AllReadyIn.cons rfl (fun K hK => ?_) (AllReadyIn.cons rfl (fun K hK => ?_) AllReadyIn.nil)
      · go_simp
        refine hK _ _ ?_
        clear hK K
        try simp only [putL]
        refine wpAnyIn_ready (rs := [3]) (by kernel_rfl) (by simp) ?_
        refine AllReadyIn.cons rfl (fun K hK => ?_) AllReadyIn.nil
        go_simp
        refine hK _ _ ?_
        clear hK K
        try simp only [putL]
        refine wpAnyIn_ready (rs := [4]) (by kernel_rfl) (by simp) ?_
        refine AllReadyIn.cons rfl (fun K hK => ?_) AllReadyIn.nil
        go_simp
        refine hK _ _ ?_
        clear hK K
        try simp only [putL]
        refine wpAnyIn_ready (rs := [5]) (by kernel_rfl) (by simp) ?_
        refine AllReadyIn.cons rfl (fun K hK => ?_) AllReadyIn.nil
        go_simp
        refine hR.mono ?_
        rintro e W' ⟨rfl, hQ⟩
        refine hK _ _ ?_
        clear hK K
        try simp only [putL]
        refine wpAnyIn_ready (rs := [6]) (by kernel_rfl) (by simp) ?_
        refine AllReadyIn.cons rfl (fun K hK => ?_) AllReadyIn.nil
        go_simp
        refine hK _ _ ?_
        clear hK K
        try simp only [putL]
        refine wpAnyIn_done (by kernel_rfl) ?_ _
        exact ⟨⟨_, _, _, _, _, _, rfl⟩, hQ⟩
      · go_simp
        refine hK _ _ ?_
        clear hK K
        try simp only [putL]
        refine wpAnyIn_ready (rs := [2]) (by kernel_rfl) (by simp) ?_
        refine AllReadyIn.cons rfl (fun K hK => ?_) AllReadyIn.nil
        go_simp
        refine hK _ _ ?_
        clear hK K
        try simp only [putL]
        refine wpAnyIn_ready (rs := [4]) (by kernel_rfl) (by simp) ?_
        refine AllReadyIn.cons rfl (fun K hK => ?_) AllReadyIn.nil
        go_simp
        refine hK _ _ ?_
        clear hK K
        try simp only [putL]
        refine wpAnyIn_ready (rs := [5]) (by kernel_rfl) (by simp) ?_
        refine AllReadyIn.cons rfl (fun K hK => ?_) AllReadyIn.nil
        go_simp
        refine hR.mono ?_
        rintro e W' ⟨rfl, hQ⟩
        refine hK _ _ ?_
        clear hK K
        try simp only [putL]
        refine wpAnyIn_ready (rs := [6]) (by kernel_rfl) (by simp) ?_
        refine AllReadyIn.cons rfl (fun K hK => ?_) AllReadyIn.nil
        go_simp
        refine hK _ _ ?_
        clear hK K
        try simp only [putL]
        refine wpAnyIn_done (by kernel_rfl) ?_ _
        exact ⟨⟨_, _, _, _, _, _, rfl⟩, hQ⟩
    · go_simp
      refine hK _ _ ?_
      clear hK K
      try simp only [putL]
      refine wpAnyIn_ready (rs := [0, 3]) (by kernel_rfl) (by simp) ?_
      refine AllReadyIn.cons rfl (fun K hK => ?_) (AllReadyIn.cons rfl (fun K hK => ?_) AllReadyIn.nil)
      · go_simp
        refine hK _ _ ?_
        clear hK K
        try simp only [putL]
        refine wpAnyIn_ready (rs := [3]) (by kernel_rfl) (by simp) ?_
        refine AllReadyIn.cons rfl (fun K hK => ?_) AllReadyIn.nil
        go_simp
        refine hK _ _ ?_
        clear hK K
        try simp only [putL]
        refine wpAnyIn_ready (rs := [4]) (by kernel_rfl) (by simp) ?_
        refine AllReadyIn.cons rfl (fun K hK => ?_) AllReadyIn.nil
        go_simp
        refine hK _ _ ?_
        clear hK K
        try simp only [putL]
        refine wpAnyIn_ready (rs := [5]) (by kernel_rfl) (by simp) ?_
        refine AllReadyIn.cons rfl (fun K hK => ?_) AllReadyIn.nil
        go_simp
        refine hR.mono ?_
        rintro e W' ⟨rfl, hQ⟩
        refine hK _ _ ?_
        clear hK K
        try simp only [putL]
        refine wpAnyIn_ready (rs := [6]) (by kernel_rfl) (by simp) ?_
        refine AllReadyIn.cons rfl (fun K hK => ?_) AllReadyIn.nil
        go_simp
        refine hK _ _ ?_
        clear hK K
        try simp only [putL]
        refine wpAnyIn_done (by kernel_rfl) ?_ _
        exact ⟨⟨_, _, _, _, _, _, rfl⟩, hQ⟩
      · go_simp
        refine hK _ _ ?_
        clear hK K
        try simp only [putL]
        refine wpAnyIn_ready (rs := [0, 4]) (by kernel_rfl) (by simp) ?_
        refine AllReadyIn.cons rfl (fun K hK => ?_) (AllReadyIn.cons rfl (fun K hK => ?_) AllReadyIn.nil)
        · go_simp
          refine hK _ _ ?_
          clear hK K
          try simp only [putL]
          refine wpAnyIn_ready (rs := [4]) (by kernel_rfl) (by simp) ?_
          refine AllReadyIn.cons rfl (fun K hK => ?_) AllReadyIn.nil
          go_simp
          refine hK _ _ ?_
          clear hK K
          try simp only [putL]
          refine wpAnyIn_ready (rs := [5]) (by kernel_rfl) (by simp) ?_
          refine AllReadyIn.cons rfl (fun K hK => ?_) AllReadyIn.nil
          go_simp
          refine hR.mono ?_
          rintro e W' ⟨rfl, hQ⟩
          refine hK _ _ ?_
          clear hK K
          try simp only [putL]
          refine wpAnyIn_ready (rs := [6]) (by kernel_rfl) (by simp) ?_
          refine AllReadyIn.cons rfl (fun K hK => ?_) AllReadyIn.nil
          go_simp
          refine hK _ _ ?_
          clear hK K
          try simp only [putL]
          refine wpAnyIn_done (by kernel_rfl) ?_ _
          exact ⟨⟨_, _, _, _, _, _, rfl⟩, hQ⟩
        · go_simp
          refine hK _ _ ?_
          clear hK K
          try simp only [putL]
          refine wpAnyIn_ready (rs := [0]) (by kernel_rfl) (by simp) ?_
          refine AllReadyIn.cons rfl (fun K hK => ?_) AllReadyIn.nil
          go_simp
          refine hK _ _ ?_
          clear hK K
          try simp only [putL]
          refine wpAnyIn_ready (rs := [5]) (by kernel_rfl) (by simp) ?_
          refine AllReadyIn.cons rfl (fun K hK => ?_) AllReadyIn.nil
          go_simp
          refine hR.mono ?_
          rintro e W' ⟨rfl, hQ⟩
          refine hK _ _ ?_
          clear hK K
          try simp only [putL]
          refine wpAnyIn_ready (rs := [6]) (by kernel_rfl) (by simp) ?_
          refine AllReadyIn.cons rfl (fun K hK => ?_) AllReadyIn.nil
          go_simp
          refine hK _ _ ?_
          clear hK K
          try simp only [putL]
          refine wpAnyIn_done (by kernel_rfl) ?_ _
          exact ⟨⟨_, _, _, _, _, _, rfl⟩, hQ⟩
    · go_simp
      refine hK _ _ ?_
      clear hK K
      try simp only [putL]
      refine wpAnyIn_ready (rs := [0, 2]) (by kernel_rfl) (by simp) ?_
      refine AllReadyIn.cons rfl (fun K hK => ?_) (AllReadyIn.cons rfl (fun K hK => ?_) AllReadyIn.nil)
      · go_simp
        refine hK _ _ ?_
        clear hK K
        try simp only [putL]
        refine wpAnyIn_ready (rs := [2]) (by kernel_rfl) (by simp) ?_
        refine AllReadyIn.cons rfl (fun K hK => ?_) AllReadyIn.nil
        go_simp
        refine hK _ _ ?_
        clear hK K
        try simp only [putL]
        refine wpAnyIn_ready (rs := [4]) (by kernel_rfl) (by simp) ?_
        refine AllReadyIn.cons rfl (fun K hK => ?_) AllReadyIn.nil
        go_simp
        refine hK _ _ ?_
        clear hK K
        try simp only [putL]
        refine wpAnyIn_ready (rs := [5]) (by kernel_rfl) (by simp) ?_
        refine AllReadyIn.cons rfl (fun K hK => ?_) AllReadyIn.nil
        go_simp
        refine hR.mono ?_
        rintro e W' ⟨rfl, hQ⟩
        refine hK _ _ ?_
        clear hK K
        try simp only [putL]
        refine wpAnyIn_ready (rs := [6]) (by kernel_rfl) (by simp) ?_
        refine AllReadyIn.cons rfl (fun K hK => ?_) AllReadyIn.nil
        go_simp
        refine hK _ _ ?_
        clear hK K
        try simp only [putL]
        refine wpAnyIn_done (by kernel_rfl) ?_ _
        exact ⟨⟨_, _, _, _, _, _, rfl⟩, hQ⟩
      · go_simp
        refine hK _ _ ?_
        clear hK K
        try simp only [putL]
        refine wpAnyIn_ready (rs := [0, 4]) (by kernel_rfl) (by simp) ?_
        refine AllReadyIn.cons rfl (fun K hK => ?_) (AllReadyIn.cons rfl (fun K hK => ?_) AllReadyIn.nil)
        · go_simp
          refine hK _ _ ?_
          clear hK K
          try simp only [putL]
          refine wpAnyIn_ready (rs := [4]) (by kernel_rfl) (by simp) ?_
          refine AllReadyIn.cons rfl (fun K hK => ?_) AllReadyIn.nil
          go_simp
          refine hK _ _ ?_
          clear hK K
          try simp only [putL]
          refine wpAnyIn_ready (rs := [5]) (by kernel_rfl) (by simp) ?_
          refine AllReadyIn.cons rfl (fun K hK => ?_) AllReadyIn.nil
          go_simp
          refine hR.mono ?_
          rintro e W' ⟨rfl, hQ⟩
          refine hK _ _ ?_
          clear hK K
          try simp only [putL]
          refine wpAnyIn_ready (rs := [6]) (by kernel_rfl) (by simp) ?_
          refine AllReadyIn.cons rfl (fun K hK => ?_) AllReadyIn.nil
          go_simp
          refine hK _ _ ?_
          clear hK K
          try simp only [putL]
          refine wpAnyIn_done (by kernel_rfl) ?_ _
          exact ⟨⟨_, _, _, _, _, _, rfl⟩, hQ⟩
        · go_simp
          refine hK _ _ ?_
          clear hK K
          try simp only [putL]
          refine wpAnyIn_ready (rs := [0]) (by kernel_rfl) (by simp) ?_
          refine AllReadyIn.cons rfl (fun K hK => ?_) AllReadyIn.nil
          go_simp
          refine hK _ _ ?_
          clear hK K
          try simp only [putL]
          refine wpAnyIn_ready (rs := [5]) (by kernel_rfl) (by simp) ?_
          refine AllReadyIn.cons rfl (fun K hK => ?_) AllReadyIn.nil
          go_simp
          refine hR.mono ?_
          rintro e W' ⟨rfl, hQ⟩
          refine hK _ _ ?_
          clear hK K
          try simp only [putL]
          refine wpAnyIn_ready (rs := [6]) (by kernel_rfl) (by simp) ?_
          refine AllReadyIn.cons rfl (fun K hK => ?_) AllReadyIn.nil
          go_simp
          refine hK _ _ ?_
          clear hK K
          try simp only [putL]
          refine wpAnyIn_done (by kernel_rfl) ?_ _
          exact ⟨⟨_, _, _, _, _, _, rfl⟩, hQ⟩
  · go_simp
    refine hK _ _ ?_
    clear hK K
    try simp only [putL]
    refine wpAnyIn_ready (rs := [0, 1, 3]) (by kernel_rfl) (by simp) ?_
    refine AllReadyIn.cons rfl (fun K hK => ?_) (AllReadyIn.cons rfl (fun K hK => ?_) (AllReadyIn.cons rfl (fun K hK => ?_) AllReadyIn.nil))
    · go_simp
      refine hK _ _ ?_
      clear hK K
      try simp only [putL]
      refine wpAnyIn_ready (rs := [1, 3]) (by kernel_rfl) (by simp) ?_
      refine AllReadyIn.cons rfl (fun K hK => ?_) (AllReadyIn.cons rfl (fun K hK => ?_) AllReadyIn.nil)
      · go_simp
        refine hK _ _ ?_
        clear hK K
        try simp only [putL]
        refine wpAnyIn_ready (rs := [3]) (by kernel_rfl) (by simp) ?_
        refine AllReadyIn.cons rfl (fun K hK => ?_) AllReadyIn.nil
        go_simp
        refine hK _ _ ?_
        clear hK K
        try simp only [putL]
        refine wpAnyIn_ready (rs := [4]) (by kernel_rfl) (by simp) ?_
        refine AllReadyIn.cons rfl (fun K hK => ?_) AllReadyIn.nil
        go_simp
        refine hK _ _ ?_
        clear hK K
        try simp only [putL]
        refine wpAnyIn_ready (rs := [5]) (by kernel_rfl) (by simp) ?_
        refine AllReadyIn.cons rfl (fun K hK => ?_) AllReadyIn.nil
        go_simp
        refine hR.mono ?_
        rintro e W' ⟨rfl, hQ⟩
        refine hK _ _ ?_
        clear hK K
        try simp only [putL]
        refine wpAnyIn_ready (rs := [6]) (by kernel_rfl) (by simp) ?_
        refine AllReadyIn.cons rfl (fun K hK => ?_) AllReadyIn.nil
        go_simp
        refine hK _ _ ?_
        clear hK K
        try simp only [putL]
        refine wpAnyIn_done (by kernel_rfl) ?_ _
        exact ⟨⟨_, _, _, _, _, _, rfl⟩, hQ⟩
      · go_simp
        refine hK _ _ ?_
        clear hK K
        try simp only [putL]
        refine wpAnyIn_ready (rs := [1]) (by kernel_rfl) (by simp) ?_
        refine AllReadyIn.cons rfl (fun K hK => ?_) AllReadyIn.nil
        go_simp
        refine hK _ _ ?_
        clear hK K
        try simp only [putL]
        refine wpAnyIn_ready (rs := [4]) (by kernel_rfl) (by simp) ?_
        refine AllReadyIn.cons rfl (fun K hK => ?_) AllReadyIn.nil
        go_simp
        refine hK _ _ ?_
        clear hK K
        try simp only [putL]
        refine wpAnyIn_ready (rs := [5]) (by kernel_rfl) (by simp) ?_
        refine AllReadyIn.cons rfl (fun K hK => ?_) AllReadyIn.nil
        go_simp
        refine hR.mono ?_
        rintro e W' ⟨rfl, hQ⟩
        refine hK _ _ ?_
        clear hK K
        try simp only [putL]
        refine wpAnyIn_ready (rs := [6]) (by kernel_rfl) (by simp) ?_
        refine AllReadyIn.cons rfl (fun K hK => ?_) AllReadyIn.nil
        go_simp
        refine hK _ _ ?_
        clear hK K
        try simp only [putL]
        refine wpAnyIn_done (by kernel_rfl) ?_ _
        exact ⟨⟨_, _, _, _, _, _, rfl⟩, hQ⟩
    · go_simp
      refine hK _ _ ?_
      clear hK K
      try simp only [putL]
      refine wpAnyIn_ready (rs := [0, 3]) (by kernel_rfl) (by simp) ?_
      refine AllReadyIn.cons rfl (fun K hK => ?_) (AllReadyIn.cons rfl (fun K hK => ?_) AllReadyIn.nil)
      · go_simp
        refine hK _ _ ?_
        clear hK K
        try simp only [putL]
        refine wpAnyIn_ready (rs := [3]) (by kernel_rfl) (by simp) ?_
        refine AllReadyIn.cons rfl (fun K hK => ?_) AllReadyIn.nil
        go_simp
        refine hK _ _ ?_
        clear hK K
        try simp only [putL]
        refine wpAnyIn_ready (rs := [4]) (by kernel_rfl) (by simp) ?_
        refine AllReadyIn.cons rfl (fun K hK => ?_) AllReadyIn.nil
        go_simp
        refine hK _ _ ?_
        clear hK K
        try simp only [putL]
        refine wpAnyIn_ready (rs := [5]) (by kernel_rfl) (by simp) ?_
        refine AllReadyIn.cons rfl (fun K hK => ?_) AllReadyIn.nil
        go_simp
        refine hR.mono ?_
        rintro e W' ⟨rfl, hQ⟩
        refine hK _ _ ?_
        clear hK K
        try simp only [putL]
        refine wpAnyIn_ready (rs := [6]) (by kernel_rfl) (by simp) ?_
        refine AllReadyIn.cons rfl (fun K hK => ?_) AllReadyIn.nil
        go_simp
        refine hK _ _ ?_
        clear hK K
        try simp only [putL]
        refine wpAnyIn_done (by kernel_rfl) ?_ _
        exact ⟨⟨_, _, _, _, _, _, rfl⟩, hQ⟩
      · go_simp
        refine hK _ _ ?_
        clear hK K
        try simp only [putL]
        refine wpAnyIn_ready (rs := [0, 4]) (by kernel_rfl) (by simp) ?_
        refine AllReadyIn.cons rfl (fun K hK => ?_) (AllReadyIn.cons rfl (fun K hK => ?_) AllReadyIn.nil)
        · go_simp
          refine hK _ _ ?_
          clear hK K
          try simp only [putL]
          refine wpAnyIn_ready (rs := [4]) (by kernel_rfl) (by simp) ?_
          refine AllReadyIn.cons rfl (fun K hK => ?_) AllReadyIn.nil
          go_simp
          refine hK _ _ ?_
          clear hK K
          try simp only [putL]
          refine wpAnyIn_ready (rs := [5]) (by kernel_rfl) (by simp) ?_
          refine AllReadyIn.cons rfl (fun K hK => ?_) AllReadyIn.nil
          go_simp
          refine hR.mono ?_
          rintro e W' ⟨rfl, hQ⟩
          refine hK _ _ ?_
          clear hK K
          try simp only [putL]
          refine wpAnyIn_ready (rs := [6]) (by kernel_rfl) (by simp) ?_
          refine AllReadyIn.cons rfl (fun K hK => ?_) AllReadyIn.nil
          go_simp
          refine hK _ _ ?_
          clear hK K
          try simp only [putL]
          refine wpAnyIn_done (by kernel_rfl) ?_ _
          exact ⟨⟨_, _, _, _, _, _, rfl⟩, hQ⟩
        · go_simp
          refine hK _ _ ?_
          clear hK K
          try simp only [putL]
          refine wpAnyIn_ready (rs := [0]) (by kernel_rfl) (by simp) ?_
          refine AllReadyIn.cons rfl (fun K hK => ?_) AllReadyIn.nil
          go_simp
          refine hK _ _ ?_
          clear hK K
          try simp only [putL]
          refine wpAnyIn_ready (rs := [5]) (by kernel_rfl) (by simp) ?_
          refine AllReadyIn.cons rfl (fun K hK => ?_) AllReadyIn.nil
          go_simp
          refine hR.mono ?_
          rintro e W' ⟨rfl, hQ⟩
          refine hK _ _ ?_
          clear hK K
          try simp only [putL]
          refine wpAnyIn_ready (rs := [6]) (by kernel_rfl) (by simp) ?_
          refine AllReadyIn.cons rfl (fun K hK => ?_) AllReadyIn.nil
          go_simp
          refine hK _ _ ?_
          clear hK K
          try simp only [putL]
          refine wpAnyIn_done (by kernel_rfl) ?_ _
          exact ⟨⟨_, _, _, _, _, _, rfl⟩, hQ⟩
    · go_simp
      refine hK _ _ ?_
      clear hK K
      try simp only [putL]
      refine wpAnyIn_ready (rs := [0, 1]) (by kernel_rfl) (by simp) ?_
      refine AllReadyIn.cons rfl (fun K hK => ?_) (AllReadyIn.cons rfl (fun K hK => ?_) AllReadyIn.nil)
      · go_simp
        refine hK _ _ ?_
        clear hK K
        try simp only [putL]
        refine wpAnyIn_ready (rs := [1]) (by kernel_rfl) (by simp) ?_
        refine AllReadyIn.cons rfl (fun K hK => ?_) AllReadyIn.nil
        go_simp
        refine hK _ _ ?_
        clear hK K
        try simp only [putL]
        refine wpAnyIn_ready (rs := [4]) (by kernel_rfl) (by simp) ?_
        refine AllReadyIn.cons rfl (fun K hK => ?_) AllReadyIn.nil
        go_simp
        refine hK _ _ ?_
        clear hK K
        try simp only [putL]
        refine wpAnyIn_ready (rs := [5]) (by kernel_rfl) (by simp) ?_
        refine AllReadyIn.cons rfl (fun K hK => ?_) AllReadyIn.nil
        go_simp
        refine hR.mono ?_
        rintro e W' ⟨rfl, hQ⟩
        refine hK _ _ ?_
        clear hK K
        try simp only [putL]
        refine wpAnyIn_ready (rs := [6]) (by kernel_rfl) (by simp) ?_
        refine AllReadyIn.cons rfl (fun K hK => ?_) AllReadyIn.nil
        go_simp
        refine hK _ _ ?_
        clear hK K
        try simp only [putL]
        refine wpAnyIn_done (by kernel_rfl) ?_ _
        exact ⟨⟨_, _, _, _, _, _, rfl⟩, hQ⟩
      · go_simp
        refine hK _ _ ?_
        clear hK K
        try simp only [putL]
        refine wpAnyIn_ready (rs := [0, 4]) (by kernel_rfl) (by simp) ?_
        refine AllReadyIn.cons rfl (fun K hK => ?_) (AllReadyIn.cons rfl (fun K hK => ?_) AllReadyIn.nil)
        · go_simp
          refine hK _ _ ?_
          clear hK K
          try simp only [putL]
          refine wpAnyIn_ready (rs := [4]) (by kernel_rfl) (by simp) ?_
          refine AllReadyIn.cons rfl (fun K hK => ?_) AllReadyIn.nil
          go_simp
          refine hK _ _ ?_
          clear hK K
          try simp only [putL]
          refine wpAnyIn_ready (rs := [5]) (by kernel_rfl) (by simp) ?_
          refine AllReadyIn.cons rfl (fun K hK => ?_) AllReadyIn.nil
          go_simp
          refine hR.mono ?_
          rintro e W' ⟨rfl, hQ⟩
          refine hK _ _ ?_
          clear hK K
          try simp only [putL]
          refine wpAnyIn_ready (rs := [6]) (by kernel_rfl) (by simp) ?_
          refine AllReadyIn.cons rfl (fun K hK => ?_) AllReadyIn.nil
          go_simp
          refine hK _ _ ?_
          clear hK K
          try simp only [putL]
          refine wpAnyIn_done (by kernel_rfl) ?_ _
          exact ⟨⟨_, _, _, _, _, _, rfl⟩, hQ⟩
        · go_simp
          refine hK _ _ ?_
          clear hK K
          try simp only [putL]
          refine wpAnyIn_ready (rs := [0]) (by kernel_rfl) (by simp) ?_
          refine AllReadyIn.cons rfl (fun K hK => ?_) AllReadyIn.nil
          go_simp
          refine hK _ _ ?_
          clear hK K
          try simp only [putL]
          refine wpAnyIn_ready (rs := [5]) (by kernel_rfl) (by simp) ?_
          refine AllReadyIn.cons rfl (fun K hK => ?_) AllReadyIn.nil
          go_simp
          refine hR.mono ?_
          rintro e W' ⟨rfl, hQ⟩
          refine hK _ _ ?_
          clear hK K
          try simp only [putL]
          refine wpAnyIn_ready (rs := [6]) (by kernel_rfl) (by simp) ?_
          refine AllReadyIn.cons rfl (fun K hK => ?_) AllReadyIn.nil
          go_simp
          refine hK _ _ ?_
          clear hK K
          try simp only [putL]
          refine wpAnyIn_done (by kernel_rfl) ?_ _
          exact ⟨⟨_, _, _, _, _, _, rfl⟩, hQ⟩
  · go_simp
    refine hK _ _ ?_
    clear hK K
    try simp only [putL]
    refine wpAnyIn_ready (rs := [0, 1, 2]) (by kernel_rfl) (by simp) ?_
    refine AllReadyIn.cons rfl (fun K hK => ?_) (AllReadyIn.cons rfl (fun K hK => ?_) (AllReadyIn.cons rfl (fun K hK => ?_) AllReadyIn.nil))
    · go_simp
      refine hK _ _ ?_
      clear hK K
      try simp only [putL]
      refine wpAnyIn_ready (rs := [1, 2]) (by kernel_rfl) (by simp) ?_
      refine AllReadyIn.cons rfl (fun K hK => ?_) (AllReadyIn.cons rfl (fun K hK => ?_) AllReadyIn.nil)
      · go_simp
        refine hK _ _ ?_
        clear hK K
        try simp only [putL]
        refine wpAnyIn_ready (rs := [2]) (by kernel_rfl) (by simp) ?_
        refine AllReadyIn.cons rfl (fun K hK => ?_) AllReadyIn.nil
        go_simp
        refine hK _ _ ?_
        clear hK K
        try simp only [putL]
        refine wpAnyIn_ready (rs := [4]) (by kernel_rfl) (by simp) ?_
        refine AllReadyIn.cons rfl (fun K hK => ?_) AllReadyIn.nil
        go_simp
        refine hK _ _ ?_
        clear hK K
        try simp only [putL]
        refine wpAnyIn_ready (rs := [5]) (by kernel_rfl) (by simp) ?_
        refine AllReadyIn.cons rfl (fun K hK => ?_) AllReadyIn.nil
        go_simp
        refine hR.mono ?_
        rintro e W' ⟨rfl, hQ⟩
        refine hK _ _ ?_
        clear hK K
        try simp only [putL]
        refine wpAnyIn_ready (rs := [6]) (by kernel_rfl) (by simp) ?_
        refine AllReadyIn.cons rfl (fun K hK => ?_) AllReadyIn.nil
        go_simp
        refine hK _ _ ?_
        clear hK K
        try simp only [putL]
        refine wpAnyIn_done (by kernel_rfl) ?_ _
        exact ⟨⟨_, _, _, _, _, _, rfl⟩, hQ⟩
      · go_simp
        refine hK _ _ ?_
        clear hK K
        try simp only [putL]
        refine wpAnyIn_ready (rs := [1]) (by kernel_rfl) (by simp) ?_
        refine AllReadyIn.cons rfl (fun K hK => ?_) AllReadyIn.nil
        go_simp
        refine hK _ _ ?_
        clear hK K
        try simp only [putL]
        refine wpAnyIn_ready (rs := [4]) (by kernel_rfl) (by simp) ?_
        refine AllReadyIn.cons rfl (fun K hK => ?_) AllReadyIn.nil
        go_simp
        refine hK _ _ ?_
        clear hK K
        try simp only [putL]
        refine wpAnyIn_ready (rs := [5]) (by kernel_rfl) (by simp) ?_
        refine AllReadyIn.cons rfl (fun K hK => ?_) AllReadyIn.nil
        go_simp
        refine hR.mono ?_
        rintro e W' ⟨rfl, hQ⟩
        refine hK _ _ ?_
        clear hK K
        try simp only [putL]
        refine wpAnyIn_ready (rs := [6]) (by kernel_rfl) (by simp) ?_
        refine AllReadyIn.cons rfl (fun K hK => ?_) AllReadyIn.nil
        go_simp
        refine hK _ _ ?_
        clear hK K
        try simp only [putL]
        refine wpAnyIn_done (by kernel_rfl) ?_ _
        exact ⟨⟨_, _, _, _, _, _, rfl⟩, hQ⟩
    · go_simp
      refine hK _ _ ?_
      clear hK K
      try simp only [putL]
      refine wpAnyIn_ready (rs := [0, 2]) (by kernel_rfl) (by simp) ?_
      refine AllReadyIn.cons rfl (fun K hK => ?_) (AllReadyIn.cons rfl (fun K hK => ?_) AllReadyIn.nil)
      · go_simp
        refine hK _ _ ?_
        clear hK K
        try simp only [putL]
        refine wpAnyIn_ready (rs := [2]) (by kernel_rfl) (by simp) ?_
        refine AllReadyIn.cons rfl (fun K hK => ?_) AllReadyIn.nil
        go_simp
        refine hK _ _ ?_
        clear hK K
        try simp only [putL]
        refine wpAnyIn_ready (rs := [4]) (by kernel_rfl) (by simp) ?_
        refine AllReadyIn.cons rfl (fun K hK => ?_) AllReadyIn.nil
        go_simp
        refine hK _ _ ?_
        clear hK K
        try simp only [putL]
        refine wpAnyIn_ready (rs := [5]) (by kernel_rfl) (by simp) ?_
        refine AllReadyIn.cons rfl (fun K hK => ?_) AllReadyIn.nil
        go_simp
        refine hR.mono ?_
        rintro e W' ⟨rfl, hQ⟩
        refine hK _ _ ?_
        clear hK K
        try simp only [putL]
        refine wpAnyIn_ready (rs := [6]) (by kernel_rfl) (by simp) ?_
        refine AllReadyIn.cons rfl (fun K hK => ?_) AllReadyIn.nil
        go_simp
        refine hK _ _ ?_
        clear hK K
        try simp only [putL]
        refine wpAnyIn_done (by kernel_rfl) ?_ _
        exact ⟨⟨_, _, _, _, _, _, rfl⟩, hQ⟩
      · go_simp
        refine hK _ _ ?_
        clear hK K
        try simp only [putL]
        refine wpAnyIn_ready (rs := [0, 4]) (by kernel_rfl) (by simp) ?_
        refine AllReadyIn.cons rfl (fun K hK => ?_) (AllReadyIn.cons rfl (fun K hK => ?_) AllReadyIn.nil)
        · go_simp
          refine hK _ _ ?_
          clear hK K
          try simp only [putL]
          refine wpAnyIn_ready (rs := [4]) (by kernel_rfl) (by simp) ?_
          refine AllReadyIn.cons rfl (fun K hK => ?_) AllReadyIn.nil
          go_simp
          refine hK _ _ ?_
          clear hK K
          try simp only [putL]
          refine wpAnyIn_ready (rs := [5]) (by kernel_rfl) (by simp) ?_
          refine AllReadyIn.cons rfl (fun K hK => ?_) AllReadyIn.nil
          go_simp
          refine hR.mono ?_
          rintro e W' ⟨rfl, hQ⟩
          refine hK _ _ ?_
          clear hK K
          try simp only [putL]
          refine wpAnyIn_ready (rs := [6]) (by kernel_rfl) (by simp) ?_
          refine AllReadyIn.cons rfl (fun K hK => ?_) AllReadyIn.nil
          go_simp
          refine hK _ _ ?_
          clear hK K
          try simp only [putL]
          refine wpAnyIn_done (by kernel_rfl) ?_ _
          exact ⟨⟨_, _, _, _, _, _, rfl⟩, hQ⟩
        · go_simp
          refine hK _ _ ?_
          clear hK K
          try simp only [putL]
          refine wpAnyIn_ready (rs := [0]) (by kernel_rfl) (by simp) ?_
          refine AllReadyIn.cons rfl (fun K hK => ?_) AllReadyIn.nil
          go_simp
          refine hK _ _ ?_
          clear hK K
          try simp only [putL]
          refine wpAnyIn_ready (rs := [5]) (by kernel_rfl) (by simp) ?_
          refine AllReadyIn.cons rfl (fun K hK => ?_) AllReadyIn.nil
          go_simp
          refine hR.mono ?_
          rintro e W' ⟨rfl, hQ⟩
          refine hK _ _ ?_
          clear hK K
          try simp only [putL]
          refine wpAnyIn_ready (rs := [6]) (by kernel_rfl) (by simp) ?_
          refine AllReadyIn.cons rfl (fun K hK => ?_) AllReadyIn.nil
          go_simp
          refine hK _ _ ?_
          clear hK K
          try simp only [putL]
          refine wpAnyIn_done (by kernel_rfl) ?_ _
          exact ⟨⟨_, _, _, _, _, _, rfl⟩, hQ⟩
    · go_simp
      refine hK _ _ ?_
      clear hK K
      try simp only [putL]
      refine wpAnyIn_ready (rs := [0, 1]) (by kernel_rfl) (by simp) ?_
      refine AllReadyIn.cons rfl (fun K hK => ?_) (AllReadyIn.cons rfl (fun K hK => ?_) AllReadyIn.nil)
      · go_simp
        refine hK _ _ ?_
        clear hK K
        try simp only [putL]
        refine wpAnyIn_ready (rs := [1]) (by kernel_rfl) (by simp) ?_
        refine AllReadyIn.cons rfl (fun K hK => ?_) AllReadyIn.nil
        go_simp
        refine hK _ _ ?_
        clear hK K
        try simp only [putL]
        refine wpAnyIn_ready (rs := [4]) (by kernel_rfl) (by simp) ?_
        refine AllReadyIn.cons rfl (fun K hK => ?_) AllReadyIn.nil
        go_simp
        refine hK _ _ ?_
        clear hK K
        try simp only [putL]
        refine wpAnyIn_ready (rs := [5]) (by kernel_rfl) (by simp) ?_
        refine AllReadyIn.cons rfl (fun K hK => ?_) AllReadyIn.nil
        go_simp
        refine hR.mono ?_
        rintro e W' ⟨rfl, hQ⟩
        refine hK _ _ ?_
        clear hK K
        try simp only [putL]
        refine wpAnyIn_ready (rs := [6]) (by kernel_rfl) (by simp) ?_
        refine AllReadyIn.cons rfl (fun K hK => ?_) AllReadyIn.nil
        go_simp
        refine hK _ _ ?_
        clear hK K
        try simp only [putL]
        refine wpAnyIn_done (by kernel_rfl) ?_ _
        exact ⟨⟨_, _, _, _, _, _, rfl⟩, hQ⟩
      · go_simp
        refine hK _ _ ?_
        clear hK K
        try simp only [putL]
        refine wpAnyIn_ready (rs := [0, 4]) (by kernel_rfl) (by simp) ?_
        refine AllReadyIn.cons rfl (fun K hK => ?_) (AllReadyIn.cons rfl (fun K hK => ?_) AllReadyIn.nil)
        · go_simp
          refine hK _ _ ?_
          clear hK K
          try simp only [putL]
          refine wpAnyIn_ready (rs := [4]) (by kernel_rfl) (by simp) ?_
          refine AllReadyIn.cons rfl (fun K hK => ?_) AllReadyIn.nil
          go_simp
          refine hK _ _ ?_
          clear hK K
          try simp only [putL]
          refine wpAnyIn_ready (rs := [5]) (by kernel_rfl) (by simp) ?_
          refine AllReadyIn.cons rfl (fun K hK => ?_) AllReadyIn.nil
          go_simp
          refine hR.mono ?_
          rintro e W' ⟨rfl, hQ⟩
          refine hK _ _ ?_
          clear hK K
          try simp only [putL]
          refine wpAnyIn_ready (rs := [6]) (by kernel_rfl) (by simp) ?_
          refine AllReadyIn.cons rfl (fun K hK => ?_) AllReadyIn.nil
          go_simp
          refine hK _ _ ?_
          clear hK K
          try simp only [putL]
          refine wpAnyIn_done (by kernel_rfl) ?_ _
          exact ⟨⟨_, _, _, _, _, _, rfl⟩, hQ⟩
        · go_simp
          refine hK _ _ ?_
          clear hK K
          try simp only [putL]
          refine wpAnyIn_ready (rs := [0]) (by kernel_rfl) (by simp) ?_
          refine AllReadyIn.cons rfl (fun K hK => ?_) AllReadyIn.nil
          go_simp
          refine hK _ _ ?_
          clear hK K
          try simp only [putL]
          refine wpAnyIn_ready (rs := [5]) (by kernel_rfl) (by simp) ?_
          refine AllReadyIn.cons rfl (fun K hK => ?_) AllReadyIn.nil
          go_simp
          refine hR.mono ?_
          rintro e W' ⟨rfl, hQ⟩
          refine hK _ _ ?_
          clear hK K
          try simp only [putL]
          refine wpAnyIn_ready (rs := [6]) (by kernel_rfl) (by simp) ?_
          refine AllReadyIn.cons rfl (fun K hK => ?_) AllReadyIn.nil
          go_simp
          refine hK _ _ ?_
          clear hK K
          try simp only [putL]
          refine wpAnyIn_done (by kernel_rfl) ?_ _
          exact ⟨⟨_, _, _, _, _, _, rfl⟩, hQ⟩
 case rest =>
  rintro a' w' ⟨⟨u13, u14, u15, u16, u17, u18, rfl⟩, hQ⟩
  subst hA
  try simp only [putL]
  unfold After at hQ
  cases hF : F acc
  · rw [hF] at hQ
    have HF := Lib.hid hF
    have HQ := Lib.hid hQ
    clear hF hQ
    go_wp2_with fail
    go_ret
    exact .inl ⟨rfl, by simp [HF.out], HS.out.below ((Below.refl _ _).drew.trans (by simpa using HQ.out))⟩
  · rw [hF] at hQ
    have HF := Lib.hid hF
    have HQ := Lib.hid hQ
    clear hF hQ
    go_wp2_with fail
    go_ret
    exact .inr ⟨acc, _, W.drew, rfl, by simp [HF.out], HS.out.low.drew, HS.out.zw, by rw [HA.out] at *; exact HSL.out, by simpa using HQ.out⟩
end Go.Proofs.Ytjgpghaofhcfnaa
