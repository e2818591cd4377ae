/- Texts on the program that the proof leans on, part 34. -/
import Derived.Test.YtkfahochpnggbaaGreatYbg
import Derived.Test.YtkfahochpnggbaaGreatYau
import Derived.ArgAppend
set_option linter.unusedVariables false
set_option linter.unusedSimpArgs false

/- Contract of chain's soonest. -/
namespace Go.Proofs.YtkfahochpnggbaaGreat
open Go.RowKit

namespace Ch
/-- The first day on which each of the first k sections may be too thin. -/
def firsts (b : Bk) (l : List Tr) (k : Nat) : List Int := (List.range k).map fun s : Nat => ((firstDay (mayThin b s l) (b.days.toNat + 1) : Nat) : Int)
/-- The first day on which any section may be too thin; the number of days and one, if there is none. -/
def soonest (b : Bk) (l : List Tr) : Int := (firsts b l b.secs.length).foldl min (b.days + 1)
theorem firsts_succ (b : Bk) (l : List Tr) (k : Nat) : firsts b l (k + 1) = firsts b l k ++ [((firstDay (mayThin b k l) (b.days.toNat + 1) : Nat) : Int)] := by simp [firsts, List.range_succ]
theorem firsts_len (b : Bk) (l : List Tr) (k : Nat) : (firsts b l k).length = k := by simp [firsts]
end Ch

set_option maxRecDepth 100000 in
set_option maxHeartbeats 2000000 in
theorem soonest_any (b : Ch.Bk) (S T V M R : Value) (l : List Ch.Tr) (hwe : ∀ t ∈ l, Ch.TrOk t) (hl : l ≠ []) (hlen : l.length ≤ 256) (w : World) (hM : RM w w.heap.size b M) (hR : Trs w w.heap.size R l) (hn : b.secs.length ≤ 4) (hd0 : 0 ≤ b.days) (hdays : b.days ≤ 30)
    (c0 : Nat) (A0 : Option Addr) (hS : S = .slice A0 b.secs.length c0) :
    Calls Tryz.prog 92 #[vLg S T V b.rule b.days M R] w fun e w' => e = .returned (I (Ch.soonest b l)) ∧ Below w.heap.size w w' := by
  obtain ⟨AR, cR, rfl⟩ := hR.form
  have hcall : ∀ (s : Nat) W', s < b.secs.length → Below w.heap.size w W' → Calls Tryz.prog 121 #[.agg #[S, T, V, I b.rule, I b.days, M, .slice AR l.length cR], .int .i64 0, I s] W' fun e w' => e = .returned (I (Ch.firstDay (Ch.mayThin b s l) (b.days.toNat + 1))) ∧ Below W'.heap.size W' w' :=
    fun s W' hs hB => first_may b S T V M _ l hwe hl hlen s W' ((hM.below hB (Nat.le_refl _)).more hB.size) ((hR.below hB (Nat.le_refl _)).more hB.size) hn hd0 hdays hs _ c0 A0 hS
  subst hS
  have HCALL := Lib.hid hcall
  clear hcall hwe hl hM hR
  have hB0 : Below w.heap.size w (w.alloc (cLg (.slice A0 b.secs.length c0) T V b.rule b.days M (.slice AR l.length cR))) := (Below.refl _ _).alloc (Nat.le_refl _) _
  go_enter Tryz.func92, Tryz.ntmps92
  go_wp2_with fail
  refine name_world ?_
  intro w1 hw1
  have hb1 : Below w.heap.size w w1 := by rw [hw1]; exact hB0
  have hlB : w1.heap[w.heap.size]? = some (cLg (.slice A0 b.secs.length c0) T V b.rule b.days M (.slice AR l.length cR)) := by rw [hw1]; exact heap_at _ _ rfl
  have HLB := Lib.hid hlB
  clear hw1 hB0 hlB
  go_loopw [3, 9] (fun v i wr => ∃ (k : Nat) (v0 : Value), k ≤ b.secs.length ∧ i = I k ∧ v0 = v ∧ wr.ownsRow (w.heap.size + 1) 3 1 v0 k ((Ch.firsts b l k).map I) ∧ Below (w.heap.size + 1) w1 wr) (fun _ i _ => b.secs.length - (intOf i).toNat)
  case atStart => exact ⟨0, _, Nat.zero_le _, rfl, rfl, World.ownsRow_nil _ _ _ _, Below.refl _ _⟩
  case round =>
    obtain ⟨k, v, hk, rfl, rfl, hown, hBr⟩ := hrel
    have hbw : Below w.heap.size w wr := hb1.trans (hBr.mono (Nat.le_succ _))
    have hlr := (hBr.block _ (Nat.lt_succ_self _)).trans HLB.out
    have b0 := cell_of_row wr _ 0 _ _ _ hlr
    have b1 := cell_of_row wr _ 1 _ _ _ hlr
    have b2 := cell_of_row wr _ 2 _ _ _ hlr
    have b3 := cell_of_row wr _ 3 _ _ _ hlr
    have b4 := cell_of_row wr _ 4 _ _ _ hlr
    have b5 := cell_of_row wr _ 5 _ _ _ hlr
    have b6 := cell_of_row wr _ 6 _ _ _ hlr
    simp only [List.getElem?_toArray, List.getElem?_cons_zero, List.getElem?_cons_succ] at b0 b1 b2 b3 b4 b5 b6
    have HOWN := Lib.hid hown
    have hlw2 : w.heap.size < wr.heap.size := heap_lt hlr
    clear hlr hown
    by_cases hlt : k < b.secs.length
    · have hki : (k : Int) < (b.secs.length : Int) := by omega
      go_wp2_with fail
      refine (HCALL.out k wr hlt hbw).mono ?_
      rintro e w2 ⟨rfl, hB2⟩
      have hb2 : Below (w.heap.size + 1) w1 w2 := hBr.trans (hB2.mono hlw2)
      have hown2 := HOWN.out.kept (grown_of_below hB2 none) (by cases v.ownBlock <;> simp)
      have HOWN2 := Lib.hid hown2
      have hz2 : w.heap.size + 1 ≤ w2.heap.size := Nat.le_trans hlw2 hB2.size
      have HF := Lib.hid (Ch.firsts_succ b l k)
      obtain ⟨i0, hi, hz0, hz1', hz2'⟩ := info_parts infoInt
      clear b0 b1 b2 b3 b4 b5 b6 hown2
      generalize Ch.firstDay (Ch.mayThin b k l) (b.days.toNat + 1) = D at *
      go_wp2_with (at_builtin; go_must (refine wpList_append_own_at _ rfl _ _ 23 rfl (w.heap.size + 1) 3 i0 (I 0) 1 8 under23 hi hz0 hz1' hz2' rfl (by decide) _ k ((Ch.firsts b l k).map I) rfl (HOWN2.out.alloc _) ⟨w2.heap.size, 0, none⟩ 1 1 [I D] rfl rfl (cell_one_new _ _ _) (by simp [Value.oneCell']) (by unfold maxLen; omega) (by omega) (by simp; omega) ?_; intro v' w3 hown' hgrow hnil hat; have HOW := Lib.hid hown'; have HGR := Lib.hid hgrow; clear hown' hgrow hnil hat))
      go_roundw
      case rel =>
        refine ⟨k + 1, _, by omega, by go_num, rfl, ?_, ?_⟩
        · rw [HF.out, List.map_append]; exact HOW.out
        · refine hb2.trans (Below.trans ((Below.refl _ _).alloc (Nat.le_refl _) _ |>.mono hz2) ⟨HGR.out.os, HGR.out.tape, HGR.out.output, HGR.out.size, fun i hi => HGR.out.block i (by simp; omega) (fun e => ?_)⟩)
          have := (HOWN2.out.lt i e.symm).1
          omega
      case measure => simp [intOf]; omega
    · obtain rfl : k = b.secs.length := by omega
      have hsl : Sl wr wr.heap.size 1 v (Ch.firsts b l b.secs.length).length ((Ch.firsts b l b.secs.length).map I) := by rw [Ch.firsts_len]; exact sl_own HOWN.out (Nat.le_refl _)
      have HSL := Lib.hid hsl
      obtain ⟨Av, cv, rfl⟩ := hsl.form
      clear hsl
      go_wp2_with fail
      refine (least_any (b.days + 1) (Ch.firsts b l b.secs.length) _ wr HSL.out).mono ?_
      rintro e w9 ⟨rfl, hB9⟩
      go_wp2_with fail
      go_ret
      exact ⟨rfl, hbw.trans (hB9.mono hbw.size)⟩

end Go.Proofs.YtkfahochpnggbaaGreat

/- Contract of chain's ledger that is turned once more. -/
namespace Go.Proofs.YtkfahochpnggbaaGreat
open Go.RowKit

namespace Ch
def withTurns (b : Bk) (l : List Int) : Bk := ⟨b.secs, l, b.svs, b.rule, b.days⟩
theorem turned_loose (T0 : List Int) : Loose (fun L => ∀ d, turnedL d L = turnedL d T0) := by
  intro A x y B h d
  rw [← h d]
  simp only [turnedL, List.foldl_append, List.foldl_cons]
  congr 1
  by_cases h1 : x ≤ d <;> by_cases h2 : y ≤ d <;> simp [h1, h2]
theorem lain_turns {b : Bk} {L T0 : List Int} (h : ∀ d, turnedL d L = turnedL d T0) (s : Int) (d p : Nat) : lain (withTurns b L) s d p = lain (withTurns b T0) s d p := by
  induction d with
  | zero => rfl
  | succ d ih =>
    simp only [lain, ih]
    have : place (withTurns b L) s d = place (withTurns b T0) s d := by
      unfold place turned
      rw [show (withTurns b L).turns = L from rfl, show (withTurns b T0).turns = T0 from rfl, h]
      rfl
    rw [this]
end Ch
theorem RM.turns {w : World} {B : Nat} {b : Ch.Bk} {L T0 : List Int} {M : Value} (h : RM w B (Ch.withTurns b L) M) (ht : ∀ d, Ch.turnedL d L = Ch.turnedL d T0) : RM w B (Ch.withTurns b T0) M := by
  obtain ⟨r, es, clock, hM, hr, hh, h1, h2⟩ := h
  refine ⟨r, es, clock, hM, hr, hh, fun e he => ?_, h2⟩
  obtain ⟨s, d, hg, hk, hv⟩ := h1 e he
  exact ⟨s, d, hg, hk, by rw [hv, show Ch.lain (Ch.withTurns b L) s d = Ch.lain (Ch.withTurns b T0) s d from funext (Ch.lain_turns ht s d)]⟩

set_option maxRecDepth 100000 in
set_option maxHeartbeats 2000000 in
theorem turned_any (b : Ch.Bk) (S T V M R : Value) (day : Int) (m : Option Nat) (hM : M = .map m) (n3 c3 : Nat) (A3 : Option Addr) (hR : R = .slice A3 n3 c3) (hn : b.secs.length ≤ 4) (hd0 : 0 ≤ b.days) (hdays : b.days ≤ 30) (ht4 : b.turns.length ≤ 4) (w : World) (hb : RB w w.heap.size b S T V) :
    Calls Tryz.prog 94 #[vLg S T V b.rule b.days M R, I day] w fun e w' => (∃ T' M', e = .returned (vLg S T' V b.rule b.days M' R) ∧ (∃ A n c, T' = .slice A n c) ∧ (∃ m', M' = .map m') ∧ RM w' w'.heap.size (Ch.withTurns b (b.turns ++ [day])) M') ∧ Below w.heap.size w w' := by
  subst hM hR
  obtain ⟨A0, c0, rfl⟩ := hb.secs.form
  obtain ⟨A2, c2, rfl⟩ := hb.svs.form
  have hTs := hb.turns
  obtain ⟨A1, c1, rfl⟩ := hTs.form
  obtain ⟨t1, A1', c1', tv, t2, t3, t4⟩ := hTs
  injection tv with tv1 tv2 tv3
  subst tv1 tv3
  have hB0 : Below w.heap.size w ((w.alloc (cLg (.slice A0 b.secs.length c0) (.slice A1 b.turns.length c1) (.slice A2 b.svs.length c2) b.rule b.days (.map m) (.slice A3 n3 c3))).alloc (cLg (.slice none 0 0) (.slice none 0 0) (.slice none 0 0) 0 0 (.map none) (.slice none 0 0))) := ((Below.refl _ _).alloc (Nat.le_refl _) _).alloc (by simp) _
  have hcc : (b.turns.length : Int) ≤ (c1 : Int) := by omega
  have HB := Lib.hid hb
  have T4 := Lib.hid t4
  clear hb t4 t1
  go_enter Tryz.func94, Tryz.ntmps94
  go_upto_region 2 with fail
  refine name_world ?_
  intro W1 hW1
  have hb1 : Below w.heap.size w W1 := by rw [hW1]; exact hB0
  have hl1 : W1.heap[w.heap.size]? = some (cLg (.slice A0 b.secs.length c0) (.slice A1 b.turns.length c1) (.slice A2 b.svs.length c2) b.rule b.days (.map m) (.slice A3 n3 c3)) := by rw [hW1]; exact (Below.heap_alloc _ _ _ (by simp)).trans (heap_at _ _ rfl)
  have hr1 : W1.heap[w.heap.size + 1]? = some (cLg (.slice none 0 0) (.slice none 0 0) (.slice none 0 0) 0 0 (.map none) (.slice none 0 0)) := by rw [hW1]; exact heap_at _ _ (by simp)
  have a1 := cell_of_row W1 _ 1 _ _ _ hl1
  simp only [List.getElem?_toArray, List.getElem?_cons_zero, List.getElem?_cons_succ] at a1
  have HL1 := Lib.hid hl1
  have HR1 := Lib.hid hr1
  have HB1 := Lib.hid hb1
  have hz1 := heap_lt hr1
  obtain ⟨i0, hi, hz0, hz1', hz2'⟩ := info_parts infoInt
  have hno : A1 = none → b.turns.length = 0 ∧ b.turns.length = 0 := fun e => by
    rcases Nat.eq_zero_or_pos b.turns.length with h | h
    · exact ⟨h, h⟩
    · obtain ⟨bl, off, e2, _⟩ := T4.out h
      rw [e] at e2; cases e2
  have hold : ∀ W', Below w.heap.size w W' → ∀ bb, A1 = some bb → ∀ j u, (b.turns.map I)[j]? = some u → W'.cell? (bb.add j) = some u := fun W' hW bb e j u hu => by
    have hj : j < b.turns.length := by have := (List.getElem?_eq_some_iff.1 hu).1; simpa using this
    obtain ⟨bl, off, e2, hlt, hc⟩ := T4.out (by omega)
    rw [e] at e2
    injection e2 with e2
    subst e2
    rw [Addr.add_lit]
    exact (hW.cell (p := ⟨bl, off + j, none⟩) hlt).trans (hc j u hu)
  have HNO := Lib.hid hno
  have HOLD := Lib.hid hold
  clear hW1 hl1 hr1 hb1 hB0 hno hold
  go_upto_region 3 with (at_builtin; go_must (refine wpList_append_grows _ rfl _ _ 23 rfl 3 i0 (I 0) 1 8 under23 hi hz0 hz1' hz2' rfl (by decide) A1 b.turns.length b.turns.length (b.turns.map I) rfl HNO.out (by simp) (HOLD.out _ (HB1.out.alloc HB1.out.size _)) ⟨W1.heap.size, 0, none⟩ 1 1 [I day] rfl rfl (cell_one_new _ _ _) (by simp [Value.oneCell']) (by omega) (by unfold maxLen; omega) (by omega) ?_; intro v' w3 hown' hgrow; obtain ⟨g', cap', rfl⟩ := ownsRow_succ hown'; have hx1 := (hgrow.block w.heap.size (by simp; omega) (by simp)).trans ((Below.heap_alloc W1 _ _ (by omega)).trans HL1.out); have d1 := cell_of_row w3 _ 1 _ _ _ hx1; have z1 : w3.frozen? ⟨w.heap.size, 1, none⟩ = false := (by simp [World.frozen?, hx1]); simp only [List.getElem?_toArray, List.getElem?_cons_zero, List.getElem?_cons_succ] at d1; have HX1 := Lib.hid hx1; have HOW := Lib.hid hown'; have HGR := Lib.hid hgrow; clear hx1 hown' hgrow))
  refine name_world ?_
  intro W4 hW4
  have hg3 := HOW.out.lt g' rfl
  have hg3' : W1.heap.size < g' + 1 := by have := hg3.1; simp at this; omega
  have hl4 : W4.heap[w.heap.size]? = some (cLg (.slice A0 b.secs.length c0) (.slice (some ⟨g', 0, none⟩) (b.turns.length + 1) cap') (.slice A2 b.svs.length c2) b.rule b.days (.map m) (.slice A3 n3 c3)) := by rw [hW4]; simp [World.setCell, Array.getElem?_modify, HX1.out]
  have hr4 : W4.heap[w.heap.size + 1]? = some (cLg (.slice none 0 0) (.slice none 0 0) (.slice none 0 0) 0 0 (.map none) (.slice none 0 0)) := by
    rw [hW4]; exact (Below.heap_setCell _ _ _ _ (by simp)).trans ((HGR.out.block _ (by simp; omega) (by simp)).trans ((Below.heap_alloc W1 _ _ hz1).trans HR1.out))
  have hb4 : Below w.heap.size w W4 := by
    rw [hW4]
    exact ((HB1.out.alloc HB1.out.size _).trans ⟨HGR.out.os, HGR.out.tape, HGR.out.output, HGR.out.size, fun k hk => HGR.out.block k (by simp; omega) (by simp)⟩).setCell (p := ⟨w.heap.size, 1, none⟩) (Nat.le_refl _) _
  have hlen : (b.turns ++ [day]).length = b.turns.length + 1 := by simp
  have harr : ArrAt W4 g' (b.turns ++ [day]) ∧ b.turns.length + 1 ≤ cap' ∧ cap' ≤ maxLen := by
    obtain ⟨_, hc | ⟨g, cap, cur, e, hbb, hg, hle, hmx, hcs, htk⟩⟩ := HOW.out
    · cases hc.1
    · injection e with e1 e2 e3
      injection e1 with e1
      injection e1 with e1
      subst e1 e3
      refine ⟨⟨cur, ?_, fun j hj => ?_⟩, hle, hmx⟩
      · rw [hW4]; exact (Below.heap_setCell _ _ _ _ (by simp; omega)).trans hg
      · rw [hlen] at hj
        have h1 : (cur.toList.take ((b.turns.length + 1) * 1))[j]? = (b.turns.map I ++ [I day])[j]? := by rw [htk]
        have h0 : b.turns.map I ++ [I day] = (b.turns ++ [day]).map I := by simp
        have h5 : (b.turns ++ [day])[j]? = some (b.turns ++ [day])[j] := List.getElem?_eq_getElem (by rw [hlen]; omega)
        rw [List.getElem?_take, if_pos (by omega), h0, List.getElem?_map, h5] at h1
        rw [← Array.getElem?_toList]
        exact h1
  obtain ⟨harr, hcap, hmax⟩ := harr
  have b1 := cell_of_row W4 _ 1 _ _ _ hl4
  simp only [List.getElem?_toArray, List.getElem?_cons_zero, List.getElem?_cons_succ] at b1
  have HL4 := Lib.hid hl4
  have HR4 := Lib.hid hr4
  have HB4 := Lib.hid hb4
  have HARR := Lib.hid harr
  have HLEN := Lib.hid hlen
  have hz4 := heap_lt hr4
  clear hW4 hl4 hr4 hb4 harr d1 z1 hlen a1
  go_wp2_with fail
  have hsort := sort_any (fun L => ∀ d, Ch.turnedL d L = Ch.turnedL d (b.turns ++ [day])) (Ch.turned_loose _) g' cap' (b.turns ++ [day]) (fun _ => rfl) (by rw [HLEN.out]; omega) (by rw [HLEN.out]; exact hcap) W4 HARR.out
  rw [HLEN.out] at hsort
  refine hsort.mono ?_
  clear hsort
  rintro e w5 ⟨⟨v5, rfl⟩, ⟨L, hL1, hL2, hL3⟩, hG5⟩
  have hl5 := (hG5.block w.heap.size (by omega) (by simp; omega)).trans HL4.out
  have hr5 := (hG5.block (w.heap.size + 1) hz4 (by simp; omega)).trans HR4.out
  have hb5 : Below w.heap.size w w5 := HB4.out.trans ⟨hG5.os, hG5.tape, hG5.output, hG5.size, fun k hk => hG5.block k (by have := HB4.out.size; omega) (by simp; omega)⟩
  have hrb5 : RB w5 w5.heap.size (Ch.withTurns b L) (.slice A0 b.secs.length c0) (.slice (some ⟨g', 0, none⟩) (b.turns.length + 1) cap') (.slice A2 b.svs.length c2) := by
    refine ⟨(HB.out.secs.below hb5 (Nat.le_refl _)).more hb5.size, ?_, (HB.out.svs.below hb5 (Nat.le_refl _)).more hb5.size⟩
    obtain ⟨cur, h1, h2⟩ := hL3
    show Sl w5 w5.heap.size 1 _ L.length (L.map I)
    rw [hL2]
    refine ⟨by simp [hL2], some ⟨g', 0, none⟩, cap', rfl, hcap, hmax, fun _ => ⟨g', 0, rfl, heap_lt h1, fun j u hu => ?_⟩⟩
    rw [Nat.zero_add, cell_of_row _ _ _ _ _ _ h1]
    have hj : j < L.length := by have := (List.getElem?_eq_some_iff.1 hu).1; simpa using this
    rw [h2 j hj]
    simpa [hj] using hu
  have e0 := cell_of_row w5 _ 0 _ _ _ hl5
  have e1 := cell_of_row w5 _ 1 _ _ _ hl5
  have e2 := cell_of_row w5 _ 2 _ _ _ hl5
  have e3 := cell_of_row w5 _ 3 _ _ _ hl5
  have e4 := cell_of_row w5 _ 4 _ _ _ hl5
  have e5 := cell_of_row w5 _ 5 _ _ _ hl5
  have e6 := cell_of_row w5 _ 6 _ _ _ hl5
  simp only [List.getElem?_toArray, List.getElem?_cons_zero, List.getElem?_cons_succ] at e0 e1 e2 e3 e4 e5 e6
  have HL5 := Lib.hid hl5
  have HR5 := Lib.hid hr5
  have HB5 := Lib.hid hb5
  have HRB5 := Lib.hid hrb5
  have HLL := Lib.hid hL1
  have hz5 := heap_lt hr5
  clear hl5 hr5 hb5 hrb5 hL1 hL2 hL3 hG5 b1
  go_wp2_with fail
  refine (allLain_any (Ch.withTurns b L) _ _ _ _ _ b.rule w5 HRB5.out hn hd0 hdays).mono ?_
  rintro e w6 ⟨⟨M', rfl, hM'⟩, hB6⟩
  obtain ⟨r, es, clock, rfl, hr, hrest⟩ := hM'
  have hM' : RM w6 w6.heap.size (Ch.withTurns b L) (.map (some r)) := ⟨r, es, clock, rfl, hr, hrest⟩
  clear hrest hr
  have hl6 := (hB6.block _ (by omega)).trans HL5.out
  have hr6 := (hB6.block _ hz5).trans HR5.out
  have g0 : ∀ j, w6.cell? ⟨w.heap.size, j, none⟩ = #[.slice A0 b.secs.length c0, .slice (some ⟨g', 0, none⟩) (b.turns.length + 1) cap', .slice A2 b.svs.length c2, I b.rule, I b.days, .map m, .slice A3 n3 c3][j]? := fun j => cell_of_row w6 _ j _ _ _ hl6
  have g1 : ∀ j, w6.cell? ⟨w.heap.size + 1, j, none⟩ = #[.slice none 0 0, .slice none 0 0, .slice none 0 0, I 0, I 0, .map none, .slice none 0 0][j]? := fun j => cell_of_row w6 _ j _ _ _ hr6
  have f0 : ∀ j, w6.frozen? ⟨w.heap.size, j, none⟩ = false := fun j => by simp [World.frozen?, hl6]
  have f1 : ∀ j, w6.frozen? ⟨w.heap.size + 1, j, none⟩ = false := fun j => by simp [World.frozen?, hr6]
  have HB6 := Lib.hid (HB5.out.trans (hB6.mono HB5.out.size))
  have HM6 := Lib.hid (hM'.turns HLL.out)
  have hne := And.intro (hM'.ne_cells hl6) (hM'.ne_cells hr6)
  have HNE := Lib.hid hne
  clear hl6 hr6 hB6 hM' hne e0 e1 e2 e3 e4 e5 e6
  go_wp2_with fail
  refine bodyPost_ret (v := vLg (.slice A0 b.secs.length c0) (.slice (some ⟨g', 0, none⟩) (b.turns.length + 1) cap') (.slice A2 b.svs.length c2) b.rule b.days (.map (some r)) (.slice A3 n3 c3)) ?_ rfl ⟨⟨_, _, rfl, ⟨_, _, _, rfl⟩, ⟨_, rfl⟩, ?_⟩, ?_⟩
  · simp [results, Tryz.results94, go_sem, g0, g1]
  · refine RM.more (HM6.out.same ?_) (by simp [World.setCell])
    repeat (refine (Below.heap_setCell _ _ _ _ (by first | exact HNE.out.1 | exact HNE.out.2)).trans ?_)
    rfl
  · repeat (refine Below.setCell ?_ (by simp <;> omega) _)
    exact HB6.out

end Go.Proofs.YtkfahochpnggbaaGreat
