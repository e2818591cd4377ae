/- Texts on the program that the proof leans on, part 23. -/
import Derived.Test.YtkfahochpnggbaaGreatYas
set_option linter.unusedVariables false
set_option linter.unusedSimpArgs false

/- Contract of chain's thinOn. -/
namespace Go.Proofs.YtkfahochpnggbaaGreat
open Go.RowKit

namespace Ch
/-- All numbers below n of which it is so. -/
def someOf (F : Nat → Bool) (n : Nat) : List Int := ((List.range n).filter F).map fun s : Nat => (s : Int)
theorem someOf_zero (F : Nat → Bool) : someOf F 0 = [] := rfl
theorem someOf_yes {F : Nat → Bool} {n : Nat} (h : F n = true) : someOf F (n + 1) = someOf F n ++ [(n : Int)] := by
  simp [someOf, List.range_succ, h]
theorem someOf_no {F : Nat → Bool} {n : Nat} (h : F n = false) : someOf F (n + 1) = someOf F n := by
  simp [someOf, List.range_succ, h]
theorem someOf_le (F : Nat → Bool) (n : Nat) : (someOf F n).length ≤ n := by
  unfold someOf
  rw [List.length_map]
  exact Nat.le_trans (List.length_filter_le _ _) (by simp)
end Ch

theorem sl_own {w : World} {B base n : Nat} {t : TypeId} {v : Value} {xs : List Value} (h : w.ownsRow base t 1 v n xs) (hB : w.heap.size ≤ B) : Sl w B 1 v n xs := by
  obtain ⟨hl, hc⟩ := h
  rcases hc with ⟨rfl, rfl⟩ | ⟨g, cap, cur, rfl, hb, hg, hle, hmx, hcs, htk⟩
  · exact ⟨hl, none, 0, rfl, Nat.le_refl _, by unfold maxLen; omega, fun h => by omega⟩
  · refine ⟨hl, _, _, rfl, hle, hmx, fun _ => ⟨g, 0, rfl, Nat.lt_of_lt_of_le (heap_lt hg) hB, fun j u hu => ?_⟩⟩
    rw [Nat.zero_add, cell_of_row _ _ _ _ _ _ hg]
    rw [← htk, List.getElem?_take] at hu
    split at hu
    · simpa using hu
    · cases hu
/-- The same slice, its capacity cut off. -/
theorem sl_cut {w : World} {B : Nat} {A : Option Addr} {n c : Nat} {size : Nat} {xs : List Value} (h : Sl w B size (.slice A n c) n xs) : Sl w B size (.slice A n n) n xs := by
  obtain ⟨h1, A', c', hv, h2, h3, h4⟩ := h
  injection hv with e1 e2 e3
  subst e1 e3
  exact ⟨h1, _, n, rfl, Nat.le_refl _, Nat.le_trans h2 h3, h4⟩

set_option maxRecDepth 100000 in
set_option maxHeartbeats 2000000 in
theorem thinOn_any (b : Ch.Bk) (S T V M R : Value) (l : List Ch.Tr) (hwe : ∀ t ∈ l, Ch.TrOk t) (hl : l ≠ []) (hlen : l.length ≤ 256) (d : Nat) (w : World) (hM : RM w w.heap.size b M) (hR : Trs w w.heap.size R l) (hn : b.secs.length ≤ 4) (hd : (d : Int) ≤ b.days) (hdays : b.days ≤ 30)
    (c0 : Nat) (A0 : Option Addr) (hS : S = .slice A0 b.secs.length c0) :
    Calls Tryz.prog 83 #[vLg S T V b.rule b.days M R, I d] w fun e w' => (∃ v, e = .returned v ∧ Sl w' w'.heap.size 1 v (Ch.someOf (fun s => Ch.mayThin b s l d) b.secs.length).length ((Ch.someOf (fun s => Ch.mayThin b s l d) b.secs.length).map I)) ∧ Below w.heap.size w w' := by
  obtain ⟨AR, cR, rfl⟩ := hR.form
  obtain ⟨F, hF⟩ : ∃ F : Nat → Bool, F = fun s => Ch.mayThin b s l d := ⟨_, rfl⟩
  have hcall : ∀ (s : Nat) W', s < b.secs.length → Below w.heap.size w W' → Calls Tryz.prog 146 #[.agg #[S, T, V, I b.rule, I b.days, M, .slice AR l.length cR], .agg #[I s, I d]] W' fun e w' => e = .returned (.bool (F s)) ∧ Below W'.heap.size W' w' :=
    fun s W' hs hB => by
      rw [hF]
      exact mayBe_any b S T V M _ l hwe hl hlen s d W' ((hM.below hB (Nat.le_refl _)).more hB.size) ((hR.below hB (Nat.le_refl _)).more hB.size) hn hdays ⟨hs, hd⟩ _ c0 A0 hS
  rw [← hF]
  subst hS
  have HCALL' := Lib.hid hcall
  clear hcall hwe hl hM hR hdays hd hF
  have hB0 : Below w.heap.size w (w.alloc (cLg (.slice A0 b.secs.length c0) T V b.rule b.days M (.slice AR l.length cR))) := (Below.refl _ _).alloc (Nat.le_refl _) _
  have hix0 := index0 (.func (.func 146) #[] #[]) (.func (.func 147) #[] #[]) ⟨_, _, _, rfl⟩
  go_enter Tryz.func83, Tryz.ntmps83
  go_wp2_with fail
  refine (verdicts_any _).mono ?_
  rintro e w1 ⟨rfl, hB1⟩
  have hb1 : Below w.heap.size w w1 := hB0.trans (hB1.mono hB0.size)
  have hlB : w1.heap[w.heap.size]? = some (cLg (.slice A0 b.secs.length c0) T V b.rule b.days M (.slice AR l.length cR)) := (hB1.block _ (by simp)).trans (heap_at _ _ rfl)
  have hlw : w.heap.size < w1.heap.size := heap_lt hlB
  have a0 := cell_of_row w1 _ 0 _ _ _ hlB
  simp only [List.getElem?_toArray, List.getElem?_cons_zero, List.getElem?_cons_succ] at a0
  have HLB := Lib.hid hlB
  clear hlB hB1 hB0
  go_wp2_with fail
  go_loopw [5, 14] (fun v i wr => ∃ (k : Nat) (v0 : Value), k ≤ b.secs.length ∧ i = I k ∧ v0 = v ∧ wr.ownsRow (w.heap.size + 1) 3 1 v0 (Ch.someOf F k).length ((Ch.someOf F k).map I) ∧ Below (w.heap.size + 1) w1 wr) (fun _ i _ => b.secs.length - (intOf i).toNat)
  case atStart => exact ⟨0, _, Nat.zero_le _, rfl, rfl, World.ownsRow_nil _ _ _ _, Below.refl _ _⟩
  case round =>
    obtain ⟨k, v, hk, rfl, rfl, hown, hBr⟩ := hrel
    have hbw : Below w.heap.size w wr := hb1.trans (hBr.mono (Nat.le_succ _))
    have hlr := (hBr.block _ (Nat.lt_succ_self _)).trans HLB.out
    have b0 := cell_of_row wr _ 0 _ _ _ hlr
    have b1 := cell_of_row wr _ 1 _ _ _ hlr
    have b2 := cell_of_row wr _ 2 _ _ _ hlr
    have b3 := cell_of_row wr _ 3 _ _ _ hlr
    have b4 := cell_of_row wr _ 4 _ _ _ hlr
    have b5 := cell_of_row wr _ 5 _ _ _ hlr
    have b6 := cell_of_row wr _ 6 _ _ _ hlr
    simp only [List.getElem?_toArray, List.getElem?_cons_zero, List.getElem?_cons_succ] at b0 b1 b2 b3 b4 b5 b6
    have HOWN := Lib.hid hown
    have hlw2 : w.heap.size < wr.heap.size := heap_lt hlr
    clear hlr hown a0
    by_cases hlt : k < b.secs.length
    · have hki : (k : Int) < (b.secs.length : Int) := by omega
      go_wp2_with fail
      refine (HCALL'.out k wr hlt hbw).mono ?_
      rintro e w2 ⟨rfl, hB2⟩
      have hb2 : Below (w.heap.size + 1) w1 w2 := hBr.trans (hB2.mono hlw2)
      have hown2 : w2.ownsRow (w.heap.size + 1) 3 1 v (Ch.someOf F k).length ((Ch.someOf F k).map I) := HOWN.out.kept (row := none) ⟨hB2.os, hB2.tape, hB2.output, hB2.size, fun i hi _ => hB2.block i hi⟩ (by cases v.ownBlock <;> simp)
      have HOWN2 := Lib.hid hown2
      have hz2 : w.heap.size + 1 ≤ w2.heap.size := Nat.le_trans hlw2 hB2.size
      clear b0 b1 b2 b3 b4 b5 b6 hown2
      cases hFk : F k
      · have HFK := Lib.hid hFk
        clear hFk
        go_wp2_with fail
        go_roundw
        case rel => exact ⟨k + 1, _, by omega, by go_num, rfl, by rw [Ch.someOf_no HFK.out]; exact HOWN2.out, hb2⟩
        case measure => simp [intOf]; omega
      · have HFK := Lib.hid hFk
        have hle := Ch.someOf_le F k
        obtain ⟨i0, hi, hz0, hz1', hz2'⟩ := info_parts infoInt
        clear hFk
        go_wp2_with (at_builtin; go_must (refine wpList_append_own_at _ rfl _ _ 23 rfl (w.heap.size + 1) 3 i0 (I 0) 1 8 under23 hi hz0 hz1' hz2' rfl (by decide) v _ ((Ch.someOf F k).map I) rfl (HOWN2.out.alloc _) ⟨w2.heap.size, 0, none⟩ 1 1 [I k] rfl rfl (cell_one_new _ _ _) (by simp [Value.oneCell']) (by unfold maxLen; omega) (by omega) (by simp; omega) ?_; intro v' w3 hown' hgrow hnil hat; have HOW := Lib.hid hown'; have HGR := Lib.hid hgrow; have HAT := Lib.hid hat; clear hown' hgrow hnil hat))
        go_roundw
        case rel =>
          refine ⟨k + 1, _, by omega, by go_num, rfl, ?_, ?_⟩
          · rw [Ch.someOf_yes HFK.out, List.length_append, List.map_append]; exact HOW.out
          · refine hb2.trans (Below.trans ((Below.refl _ _).alloc (Nat.le_refl _) _ |>.mono hz2) ⟨HGR.out.os, HGR.out.tape, HGR.out.output, HGR.out.size, fun i hi => HGR.out.block i (by simp; omega) (fun e => ?_)⟩)
            have := (HOWN2.out.lt i e.symm).1
            omega
        case measure => simp [intOf]; omega
    · obtain rfl : k = b.secs.length := by omega
      have hsl := sl_own HOWN.out (Nat.le_refl _)
      have HSL := Lib.hid hsl
      obtain ⟨Av, cv, rfl⟩ := hsl.form
      have hm := hsl.le
      obtain ⟨_, _, _, e1, e2, _⟩ := hsl
      injection e1 with e1 e3 e4
      subst e1 e4
      clear b0 b1 b2 b3 b4 b5 b6
      unfold maxLen at hm
      have hvv : ((Ch.someOf F b.secs.length).length : Int) ≤ (cv : Int) := by omega
      go_wp2_with fail
      go_ret
      exact ⟨⟨_, rfl, sl_cut HSL.out⟩, hbw⟩

end Go.Proofs.YtkfahochpnggbaaGreat
