/- Texts on the program that the proof leans on, part 52. -/
import Derived.Test.YtjgpghaofhcfnaaYbw
import Derived.Test.YtjgpghaofhcfnaaYbx
import Derived.Test.YtjgpghaofhcfnaaYby
set_option linter.unusedVariables false
set_option linter.unusedSimpArgs false

namespace Go.Proofs.Ytjgpghaofhcfnaa
open Go.RowKit
theorem Ld.known_t1 : Ld.studyE Ld.tornB (Ld.isHour Ld.tornB 4) = 21 := by decide +kernel
theorem Ld.known_t2 : Ld.studyE Ld.tornB (Ld.isShore 2) = 21 := by decide +kernel
theorem Ld.known_t3 : Ld.landsR Ld.tornB 0 0 201 = (0, 21) := by decide +kernel
theorem Ld.known_t4 : Ld.mostR Ld.tornB 2 0 = (0, 21) := by decide +kernel
theorem Ld.known_t5 : Ld.firstR Ld.tornB 0 (-1) = (0, 21) := by decide +kernel
theorem Ld.known_t6 : Ld.studyE Ld.tornB (Ld.isLoad 201) = 21 := by decide +kernel
theorem Ld.known_t7 : Ld.studyE Ld.tornB (Ld.isHour Ld.tornB 0) = 22 := by decide +kernel
theorem Ld.known_t8 : Ld.studyE Ld.tornB (Ld.isShore 0) = 22 := by decide +kernel
theorem Ld.known_t9 : Ld.studyE Ld.tornB (Ld.isLoad 0) = 22 := by decide +kernel
theorem Ld.known_l : ∀ j : Nat, j < 5 → ∃ a b c d : Int, (#[1, 0, 0, 1, 0, 2, 0, 1, 1, 0, 40, 0, 0, 0, 0, 2, 0, 0, 1, 1] : Array Int)[j * 4]? = some a ∧ (#[1, 0, 0, 1, 0, 2, 0, 1, 1, 0, 40, 0, 0, 0, 0, 2, 0, 0, 1, 1] : Array Int)[j * 4 + 1]? = some b ∧ (#[1, 0, 0, 1, 0, 2, 0, 1, 1, 0, 40, 0, 0, 0, 0, 2, 0, 0, 1, 1] : Array Int)[j * 4 + 2]? = some c ∧ (#[1, 0, 0, 1, 0, 2, 0, 1, 1, 0, 40, 0, 0, 0, 0, 2, 0, 0, 1, 1] : Array Int)[j * 4 + 3]? = some d ∧ Ld.landsR Ld.ownB a b c = (d, 0) := by
 intro j hj
 have hj' : j = 0 ∨ j = 1 ∨ j = 2 ∨ j = 3 ∨ j = 4 := by omega
 rcases hj' with rfl | rfl | rfl | rfl | rfl
 · exact ⟨1, 0, 0, 1, rfl, rfl, rfl, rfl, by decide +kernel⟩
 · exact ⟨0, 2, 0, 1, rfl, rfl, rfl, rfl, by decide +kernel⟩
 · exact ⟨1, 0, 40, 0, rfl, rfl, rfl, rfl, by decide +kernel⟩
 · exact ⟨0, 0, 0, 2, rfl, rfl, rfl, rfl, by decide +kernel⟩
 · exact ⟨0, 0, 1, 1, rfl, rfl, rfl, rfl, by decide +kernel⟩
theorem Ld.known_a1 : Ld.heightR Ld.ownB 0 = ⟨10, 12⟩ ∧ Ld.studyE Ld.ownB (Ld.isHour Ld.ownB 0) = 0 := by decide +kernel
theorem Ld.known_a2 : Ld.floorR Ld.soundedB 0 = ⟨2, 2⟩ ∧ Ld.studyE Ld.soundedB (Ld.isShore 0) = 0 := by decide +kernel
theorem Ld.known_a3 : Ld.mostR Ld.ownB 0 1 = (40, 0) := by decide +kernel
theorem Ld.known_a4 : Ld.firstR Ld.ownB 0 30 = (1, 0) := by decide +kernel
theorem Ld.known_a5 : Ld.firstR Ld.ownB 1 30 = (2, 0) := by decide +kernel
theorem Ld.known_a6 : Ld.bothL Ld.ownB 20 = [1, 3] ∧ Ld.studyE Ld.ownB (Ld.isLoad 20) = 0 := by decide +kernel
theorem Ld.known_a7 : Ld.bothL Ld.ownB 0 = [1, 3] ∧ Ld.studyE Ld.ownB (Ld.isLoad 0) = 0 := by decide +kernel
theorem Ld.known_a8 : (Ld.valid Ld.tornB && Ld.possible Ld.tornB) = false ∧ Ld.check Ld.tornB = 0 := by decide +kernel
theorem Ld.known_a9 : Ld.wrongL Ld.soundedB = [] ∧ Ld.check Ld.soundedB = 0 := by decide +kernel
theorem Ld.known_b1 : Ld.firstR Ld.ownB 1 200 = (0, 4) := by decide +kernel
theorem Ld.known_o1 : Ld.mostR Ld.ownB 1 0 = (0, 4) := by decide +kernel
set_option maxRecDepth 100000 in
set_option maxHeartbeats 8000000 in
theorem LandingKnown_any (w : World) : Calls Try.prog 11 #[] w fun e w' => e = .returned (.bool true) ∧ Below w.heap.size w w' := by
 go_enter Try.func11, Try.ntmps11
 go_upto_region 1 with fail
 refine name_act ?_
 intro A hA
 obtain ⟨R, hR⟩ : ∃ R : Act → World → Prop, R = fun a' w' => ∃ θ : Nat → Nat, (∃ u52 u53 u54 u55 u56 u57 u58 u59 u60 u61 u62 u63 u64 u65 u66 u67 u68 u69 u70 u71 u72 u73 u74, a' = ((((((((((((((((((((((((A.put (some 52) u52).put (some 53) u53).put (some 54) u54).put (some 55) u55).put (some 56) u56).put (some 57) u57).put (some 58) u58).put (some 59) u59).put (some 60) u60).put (some 61) u61).put (some 62) u62).put (some 63) u63).put (some 64) u64).put (some 65) u65).put (some 66) u66).put (some 67) u67).put (some 68) u68).put (some 69) u69).put (some 70) u70).put (some 71) u71).put (some 72) u72).put (some 73) u73).put (some 74) u74).put (some 1) (.slice (some ⟨θ 22, 0, none⟩) 15 15))) ∧ KnS w (fun _ => true) θ w' ∧ w'.heap[θ 22]? = some (badRow θ) ∧ w.heap.size ≤ θ 22 ∧ ∀ i, (knRow i).isSome = true → θ i ≠ θ 22 := ⟨_, rfl⟩
 have HR := Lib.hid hR
 clear hR
 refine wp_between R ?first1 ?rest1
 case first1 =>
  exact known_first1 hA HR
 case rest1 =>
  intro a' w1 hra
  rw [HR.out] at hra
  clear HR
  obtain ⟨θ, ⟨u52, u53, u54, u55, u56, u57, u58, u59, u60, u61, u62, u63, u64, u65, u66, u67, u68, u69, u70, u71, u72, u73, u74, rfl⟩, hkn, hbad, hbf, hba⟩ := hra
  subst hA
  try simp only [putL]
  have hB0 : KnB w (badList θ) (θ 22) θ (fun i => knRow i) w1 := ⟨hkn.held.2.2, hbad, fun i o ho => hkn.rows i o rfl ho⟩
  have hap : ∀ i j, (knRow i).isSome = true → (knRow j).isSome = true → i ≠ j → θ i ≠ θ j := fun i j hi hj hne => hkn.apart i j rfl rfl hi hj hne
  have hfr : ∀ i, (knRow i).isSome = true → w.heap.size ≤ θ i := fun i hi => hkn.fresh i rfl hi
  obtain ⟨tr0, ht⟩ : ∃ t : Nat → Option Obj, t = fun i => knRow i := ⟨_, rfl⟩
  rw [← ht] at hB0
  have his0 : ∀ i, (tr0 i).isSome = true → (knRow i).isSome = true := fun i hi => by rw [ht] at hi; exact hi
  have htr0 : ∀ i, 0 < i → (knRow i).isSome = true → tr0 i = knRow i := fun i _ _ => by rw [ht]
  have HB := Lib.hid hB0
  clear hB0 hkn hbad ht
  go_upto_region 2 with fail
  refine name_act ?_
  intro A hA
  obtain ⟨R, hR⟩ : ∃ R : Act → World → Prop, R = fun a' w' => (∃ u75 u76 u77 u78 u79 u80, a' = ((((((A.put (some 75) u75).put (some 76) u76).put (some 77) u77).put (some 78) u78).put (some 79) u79).put (some 80) u80)) ∧ KnA w.heap.size (θ 1) w1 w' ∧ w'.heap[θ 1]? = some (.cells #[I (10), I (15), I 14, I 15, I 18, I 20, I 16, I 17] 24 (0, 0)) := ⟨_, rfl⟩
  have HR := Lib.hid hR
  clear hR
  refine wp_between R ?first2 ?rest2
  case first2 =>
   as_aux_lemma =>
    refine wp_region_free (Θ := Nat) (vals := fun ϑ => [(.slice (some ⟨θ 22, 0, none⟩) 15 15), (.pointer (some ⟨θ 22, 14, none⟩)), (.pointer (some ⟨θ 22, 14, none⟩)), (.slice (some ⟨θ 1, 0, none⟩) 4 4), (vSp ⟨10, 15⟩), (.pointer (some ⟨θ 1, 0, none⟩)), undef]) (F := fun ϑ => ((((((A.put (some 75) (.slice (some ⟨θ 22, 0, none⟩) 15 15)).put (some 76) (.pointer (some ⟨θ 22, 14, none⟩))).put (some 77) (.pointer (some ⟨θ 22, 14, none⟩))).put (some 78) (.slice (some ⟨θ 1, 0, none⟩) 4 4)).put (some 79) (vSp ⟨10, 15⟩)).put (some 80) (.pointer (some ⟨θ 1, 0, none⟩)))) (S := fun d ϑ w' => KnA w.heap.size (θ 1) w1 w' ∧ w'.heap[θ 1]? = some (if d 6 = true then (.cells #[I (10), I (15), I 14, I 15, I 18, I 20, I 16, I 17] 24 (0, 0)) else tideRow)) (by kernel_rfl) (inOrder_of (by kernel_rfl)) (by kernel_rfl) (fun ϑ => rfl) (fun ϑ => rfl) 0 ?h0 ?hstep ?hend
    case h0 =>
     exact ⟨KnA.start _ _ _, HB.out.tides 1 _ (htr0 1 (by decide) rfl)⟩
    case hstep =>
     rintro d z0 wq i o hd ho hdep hclosed hS
     have hlt : i < 7 := (Array.getElem?_eq_some_iff.1 ho).1
     try dsimp only at hS
     have hi : i = 3 ∨ i = 4 ∨ i = 6 ∨ (i = 0 ∨ i = 1 ∨ i = 2 ∨ i = 5) := by omega
     subst hA
     rcases hi with rfl | rfl | rfl | hi
     · simp only [↓List.getElem?_toArray, ↓List.getElem?_cons_zero, ↓List.getElem?_cons_succ, Option.some.injEq] at ho
       subst ho
       refine .inl ⟨by kernel_rfl, FreeS.keep fun K hK => ?_⟩
       try dsimp only
       try simp only [putL]
       have hrow : wq.heap[θ 22]? = _ := (hS.1.same _ (heap_lt HB.out.row) (fun e => hba 1 rfl e.symm)).trans HB.out.row
       have qB := (cell_of_row wq _ 14 _ _ _ hrow).trans (show (cellsOf (badList θ))[14]? = some (.slice (some ⟨θ 1, 0, none⟩) 4 4) from by kernel_rfl)
       clear hrow
       go_simp
       exact FreeS.val (hK _ _ ⟨z0, rfl, fun _ _ => rfl, hS⟩)
     · simp only [↓List.getElem?_toArray, ↓List.getElem?_cons_zero, ↓List.getElem?_cons_succ, Option.some.injEq] at ho
       subst ho
       refine .inl ⟨by kernel_rfl, FreeS.keep fun K hK => ?_⟩
       try dsimp only
       try simp only [putL]
       go_simp
       exact FreeS.enter ((range_any 10 15 wq).mono fun e w'' h => ⟨_, h.1, hK _ _ ⟨z0, rfl, fun _ _ => rfl, hS.1.step HB.out.bel.size h.2, (h.2.block _ (heap_lt hS.2)).trans hS.2⟩⟩)
     · simp only [↓List.getElem?_toArray, ↓List.getElem?_cons_zero, ↓List.getElem?_cons_succ, Option.some.injEq] at ho
       subst ho
       refine .inl ⟨by kernel_rfl, FreeS.keep fun K hK => ?_⟩
       try dsimp only
       try simp only [putL]
       have hr1 : wq.heap[θ 1]? = some tideRow := by have h := hS.2; rw [hd] at h; exact h
       have q0 := cell_of_row wq _ 0 _ _ _ hr1
       have q1 := cell_of_row wq _ 1 _ _ _ hr1
       simp only [List.getElem?_toArray, List.getElem?_cons_zero, List.getElem?_cons_succ] at q0 q1
       have f0 : wq.frozen? ⟨θ 1, 0, none⟩ = false := by simp [World.frozen?, hr1, tideRow]
       have f1 : wq.frozen? ⟨θ 1, 1, none⟩ = false := by simp [World.frozen?, hr1, tideRow]
       have HR1 := Lib.hid hr1
       have HS := Lib.hid hS
       clear hr1 hS
       go_simp
       exact FreeS.skip (hK _ _ ⟨z0, rfl, fun _ _ => rfl, (HS.out.1.set (hfr 1 rfl) 0 _).set (hfr 1 rfl) 1 _, row_set (row_set HR1.out 0 _) 1 _⟩)
     · rcases hi with rfl | rfl | rfl | rfl <;>
        (simp only [↓List.getElem?_toArray, ↓List.getElem?_cons_zero, ↓List.getElem?_cons_succ, Option.some.injEq] at ho
         subst ho
         refine .inl ⟨by kernel_rfl, FreeS.keep fun K hK => ?_⟩
         try dsimp only
         try simp only [putL]
         go_simp
         exact FreeS.val (hK _ _ ⟨z0, rfl, fun _ _ => rfl, hS⟩))
    case hend =>
     rintro d z0 wq hall hS
     try dsimp only at hS ⊢
     have h6 := hall 6 (by decide)
     have hx := hS.2
     rw [h6, if_pos rfl] at hx
     show R _ _
     rw [HR.out]
     exact ⟨⟨_, _, _, _, _, _, rfl⟩, hS.1, hx⟩
  case rest2 =>
   intro a' w2 hra
   rw [HR.out] at hra
   clear HR
   obtain ⟨⟨u75, u76, u77, u78, u79, u80, rfl⟩, hA2, hx2⟩ := hra
   subst hA
   try simp only [putL]
   have hB' := HB.out.tide 1 _ (fun i hi hne => hap i 1 (his0 i hi) rfl hne) (hba 1 rfl) hA2 hx2
   obtain ⟨tr1, ht'⟩ : ∃ t : Nat → Option Obj, t = fun i => if i = 1 then some (.cells #[I (10), I (15), I 14, I 15, I 18, I 20, I 16, I 17] 24 (0, 0)) else tr0 i := ⟨_, rfl⟩
   rw [← ht'] at hB'
   have his1 : ∀ i, (tr1 i).isSome = true → (knRow i).isSome = true := fun i hi => by
    rw [ht'] at hi
    by_cases h : i = 1
    · subst h; rfl
    · simp only [if_neg h] at hi; exact his0 i hi
   have htr1 : ∀ i, 1 < i → (knRow i).isSome = true → tr1 i = knRow i := fun i hi hs => by
    rw [ht']
    simp only [if_neg (show ¬ i = 1 by omega)]
    exact htr0 i (by omega) hs
   have hk1_1 : tr1 1 = some (.cells #[I (10), I (15), I 14, I 15, I 18, I 20, I 16, I 17] 24 (0, 0)) := by rw [ht']; rfl
   clear ht' HB his0 htr0 hA2 hx2
   have HB := Lib.hid hB'
   clear hB'
   go_upto_region 3 with fail
   refine name_act ?_
   intro A hA
   obtain ⟨R, hR⟩ : ∃ R : Act → World → Prop, R = fun a' w' => (∃ u81 u82 u83 u84 u85 u86, a' = ((((((A.put (some 81) u81).put (some 82) u82).put (some 83) u83).put (some 84) u84).put (some 85) u85).put (some 86) u86)) ∧ KnA w.heap.size (θ 2) w2 w' ∧ w'.heap[θ 2]? = some (.cells #[I (81), I (81), I 14, I 15, I 18, I 20, I 16, I 17] 24 (0, 0)) := ⟨_, rfl⟩
   have HR := Lib.hid hR
   clear hR
   refine wp_between R ?first3 ?rest3
   case first3 =>
    as_aux_lemma =>
     refine wp_region_free (Θ := Nat) (vals := fun ϑ => [(.slice (some ⟨θ 22, 0, none⟩) 15 15), (.pointer (some ⟨θ 22, 28, none⟩)), (.pointer (some ⟨θ 22, 28, none⟩)), (.slice (some ⟨θ 2, 0, none⟩) 4 4), (vSp ⟨81, 81⟩), (.pointer (some ⟨θ 2, 0, none⟩)), undef]) (F := fun ϑ => ((((((A.put (some 81) (.slice (some ⟨θ 22, 0, none⟩) 15 15)).put (some 82) (.pointer (some ⟨θ 22, 28, none⟩))).put (some 83) (.pointer (some ⟨θ 22, 28, none⟩))).put (some 84) (.slice (some ⟨θ 2, 0, none⟩) 4 4)).put (some 85) (vSp ⟨81, 81⟩)).put (some 86) (.pointer (some ⟨θ 2, 0, none⟩)))) (S := fun d ϑ w' => KnA w.heap.size (θ 2) w2 w' ∧ w'.heap[θ 2]? = some (if d 6 = true then (.cells #[I (81), I (81), I 14, I 15, I 18, I 20, I 16, I 17] 24 (0, 0)) else tideRow)) (by kernel_rfl) (inOrder_of (by kernel_rfl)) (by kernel_rfl) (fun ϑ => rfl) (fun ϑ => rfl) 0 ?h0 ?hstep ?hend
     case h0 =>
      exact ⟨KnA.start _ _ _, HB.out.tides 2 _ (htr1 2 (by decide) rfl)⟩
     case hstep =>
      rintro d z0 wq i o hd ho hdep hclosed hS
      have hlt : i < 7 := (Array.getElem?_eq_some_iff.1 ho).1
      try dsimp only at hS
      have hi : i = 3 ∨ i = 4 ∨ i = 6 ∨ (i = 0 ∨ i = 1 ∨ i = 2 ∨ i = 5) := by omega
      subst hA
      rcases hi with rfl | rfl | rfl | hi
      · simp only [↓List.getElem?_toArray, ↓List.getElem?_cons_zero, ↓List.getElem?_cons_succ, Option.some.injEq] at ho
        subst ho
        refine .inl ⟨by kernel_rfl, FreeS.keep fun K hK => ?_⟩
        try dsimp only
        try simp only [putL]
        have hrow : wq.heap[θ 22]? = _ := (hS.1.same _ (heap_lt HB.out.row) (fun e => hba 2 rfl e.symm)).trans HB.out.row
        have qB := (cell_of_row wq _ 28 _ _ _ hrow).trans (show (cellsOf (badList θ))[28]? = some (.slice (some ⟨θ 2, 0, none⟩) 4 4) from by kernel_rfl)
        clear hrow
        go_simp
        exact FreeS.val (hK _ _ ⟨z0, rfl, fun _ _ => rfl, hS⟩)
      · simp only [↓List.getElem?_toArray, ↓List.getElem?_cons_zero, ↓List.getElem?_cons_succ, Option.some.injEq] at ho
        subst ho
        refine .inl ⟨by kernel_rfl, FreeS.keep fun K hK => ?_⟩
        try dsimp only
        try simp only [putL]
        go_simp
        exact FreeS.enter ((point_any 81 wq).mono fun e w'' h => ⟨_, h.1, hK _ _ ⟨z0, rfl, fun _ _ => rfl, hS.1.step HB.out.bel.size h.2, (h.2.block _ (heap_lt hS.2)).trans hS.2⟩⟩)
      · simp only [↓List.getElem?_toArray, ↓List.getElem?_cons_zero, ↓List.getElem?_cons_succ, Option.some.injEq] at ho
        subst ho
        refine .inl ⟨by kernel_rfl, FreeS.keep fun K hK => ?_⟩
        try dsimp only
        try simp only [putL]
        have hr1 : wq.heap[θ 2]? = some tideRow := by have h := hS.2; rw [hd] at h; exact h
        have q0 := cell_of_row wq _ 0 _ _ _ hr1
        have q1 := cell_of_row wq _ 1 _ _ _ hr1
        simp only [List.getElem?_toArray, List.getElem?_cons_zero, List.getElem?_cons_succ] at q0 q1
        have f0 : wq.frozen? ⟨θ 2, 0, none⟩ = false := by simp [World.frozen?, hr1, tideRow]
        have f1 : wq.frozen? ⟨θ 2, 1, none⟩ = false := by simp [World.frozen?, hr1, tideRow]
        have HR1 := Lib.hid hr1
        have HS := Lib.hid hS
        clear hr1 hS
        go_simp
        exact FreeS.skip (hK _ _ ⟨z0, rfl, fun _ _ => rfl, (HS.out.1.set (hfr 2 rfl) 0 _).set (hfr 2 rfl) 1 _, row_set (row_set HR1.out 0 _) 1 _⟩)
      · rcases hi with rfl | rfl | rfl | rfl <;>
         (simp only [↓List.getElem?_toArray, ↓List.getElem?_cons_zero, ↓List.getElem?_cons_succ, Option.some.injEq] at ho
          subst ho
          refine .inl ⟨by kernel_rfl, FreeS.keep fun K hK => ?_⟩
          try dsimp only
          try simp only [putL]
          go_simp
          exact FreeS.val (hK _ _ ⟨z0, rfl, fun _ _ => rfl, hS⟩))
     case hend =>
      rintro d z0 wq hall hS
      try dsimp only at hS ⊢
      have h6 := hall 6 (by decide)
      have hx := hS.2
      rw [h6, if_pos rfl] at hx
      show R _ _
      rw [HR.out]
      exact ⟨⟨_, _, _, _, _, _, rfl⟩, hS.1, hx⟩
   case rest3 =>
    intro a' w3 hra
    rw [HR.out] at hra
    clear HR
    obtain ⟨⟨u81, u82, u83, u84, u85, u86, rfl⟩, hA3, hx3⟩ := hra
    subst hA
    try simp only [putL]
    have hB' := HB.out.tide 2 _ (fun i hi hne => hap i 2 (his1 i hi) rfl hne) (hba 2 rfl) hA3 hx3
    obtain ⟨tr2, ht'⟩ : ∃ t : Nat → Option Obj, t = fun i => if i = 2 then some (.cells #[I (81), I (81), I 14, I 15, I 18, I 20, I 16, I 17] 24 (0, 0)) else tr1 i := ⟨_, rfl⟩
    rw [← ht'] at hB'
    have his2 : ∀ i, (tr2 i).isSome = true → (knRow i).isSome = true := fun i hi => by
     rw [ht'] at hi
     by_cases h : i = 2
     · subst h; rfl
     · simp only [if_neg h] at hi; exact his1 i hi
    have htr2 : ∀ i, 2 < i → (knRow i).isSome = true → tr2 i = knRow i := fun i hi hs => by
     rw [ht']
     simp only [if_neg (show ¬ i = 2 by omega)]
     exact htr1 i (by omega) hs
    have hk2_1 : tr2 1 = some (.cells #[I (10), I (15), I 14, I 15, I 18, I 20, I 16, I 17] 24 (0, 0)) := by rw [ht']; exact hk1_1
    have hk2_2 : tr2 2 = some (.cells #[I (81), I (81), I 14, I 15, I 18, I 20, I 16, I 17] 24 (0, 0)) := by rw [ht']; rfl
    clear ht' HB his1 htr1 hA3 hx3 hk1_1
    have HB := Lib.hid hB'
    clear hB'
    go_upto_region 4 with fail
    refine name_act ?_
    intro A hA
    obtain ⟨R, hR⟩ : ∃ R : Act → World → Prop, R = fun a' w' => (∃ u87 u88 u89 u90 u91 u92, a' = ((((((A.put (some 87) u87).put (some 88) u88).put (some 89) u89).put (some 90) u90).put (some 91) u91).put (some 92) u92)) ∧ KnA w.heap.size (θ 3) w3 w' ∧ w'.heap[θ 3]? = some (.cells #[I (12), I (10), I 14, I 15, I 18, I 20, I 16, I 17] 24 (0, 0)) := ⟨_, rfl⟩
    have HR := Lib.hid hR
    clear hR
    refine wp_between R ?first4 ?rest4
    case first4 =>
     as_aux_lemma =>
      refine wp_region_free (Θ := Nat) (vals := fun ϑ => [(.slice (some ⟨θ 22, 0, none⟩) 15 15), (.pointer (some ⟨θ 22, 42, none⟩)), (.pointer (some ⟨θ 22, 42, none⟩)), (.slice (some ⟨θ 3, 0, none⟩) 4 4), (vSp ⟨12, 10⟩), (.pointer (some ⟨θ 3, 0, none⟩)), undef]) (F := fun ϑ => ((((((A.put (some 87) (.slice (some ⟨θ 22, 0, none⟩) 15 15)).put (some 88) (.pointer (some ⟨θ 22, 42, none⟩))).put (some 89) (.pointer (some ⟨θ 22, 42, none⟩))).put (some 90) (.slice (some ⟨θ 3, 0, none⟩) 4 4)).put (some 91) (vSp ⟨12, 10⟩)).put (some 92) (.pointer (some ⟨θ 3, 0, none⟩)))) (S := fun d ϑ w' => KnA w.heap.size (θ 3) w3 w' ∧ w'.heap[θ 3]? = some (if d 6 = true then (.cells #[I (12), I (10), I 14, I 15, I 18, I 20, I 16, I 17] 24 (0, 0)) else tideRow)) (by kernel_rfl) (inOrder_of (by kernel_rfl)) (by kernel_rfl) (fun ϑ => rfl) (fun ϑ => rfl) 0 ?h0 ?hstep ?hend
      case h0 =>
       exact ⟨KnA.start _ _ _, HB.out.tides 3 _ (htr2 3 (by decide) rfl)⟩
      case hstep =>
       rintro d z0 wq i o hd ho hdep hclosed hS
       have hlt : i < 7 := (Array.getElem?_eq_some_iff.1 ho).1
       try dsimp only at hS
       have hi : i = 3 ∨ i = 4 ∨ i = 6 ∨ (i = 0 ∨ i = 1 ∨ i = 2 ∨ i = 5) := by omega
       subst hA
       rcases hi with rfl | rfl | rfl | hi
       · simp only [↓List.getElem?_toArray, ↓List.getElem?_cons_zero, ↓List.getElem?_cons_succ, Option.some.injEq] at ho
         subst ho
         refine .inl ⟨by kernel_rfl, FreeS.keep fun K hK => ?_⟩
         try dsimp only
         try simp only [putL]
         have hrow : wq.heap[θ 22]? = _ := (hS.1.same _ (heap_lt HB.out.row) (fun e => hba 3 rfl e.symm)).trans HB.out.row
         have qB := (cell_of_row wq _ 42 _ _ _ hrow).trans (show (cellsOf (badList θ))[42]? = some (.slice (some ⟨θ 3, 0, none⟩) 4 4) from by kernel_rfl)
         clear hrow
         go_simp
         exact FreeS.val (hK _ _ ⟨z0, rfl, fun _ _ => rfl, hS⟩)
       · simp only [↓List.getElem?_toArray, ↓List.getElem?_cons_zero, ↓List.getElem?_cons_succ, Option.some.injEq] at ho
         subst ho
         refine .inl ⟨by kernel_rfl, FreeS.keep fun K hK => ?_⟩
         try dsimp only
         try simp only [putL]
         go_simp
         exact FreeS.enter ((range_any 12 10 wq).mono fun e w'' h => ⟨_, h.1, hK _ _ ⟨z0, rfl, fun _ _ => rfl, hS.1.step HB.out.bel.size h.2, (h.2.block _ (heap_lt hS.2)).trans hS.2⟩⟩)
       · simp only [↓List.getElem?_toArray, ↓List.getElem?_cons_zero, ↓List.getElem?_cons_succ, Option.some.injEq] at ho
         subst ho
         refine .inl ⟨by kernel_rfl, FreeS.keep fun K hK => ?_⟩
         try dsimp only
         try simp only [putL]
         have hr1 : wq.heap[θ 3]? = some tideRow := by have h := hS.2; rw [hd] at h; exact h
         have q0 := cell_of_row wq _ 0 _ _ _ hr1
         have q1 := cell_of_row wq _ 1 _ _ _ hr1
         simp only [List.getElem?_toArray, List.getElem?_cons_zero, List.getElem?_cons_succ] at q0 q1
         have f0 : wq.frozen? ⟨θ 3, 0, none⟩ = false := by simp [World.frozen?, hr1, tideRow]
         have f1 : wq.frozen? ⟨θ 3, 1, none⟩ = false := by simp [World.frozen?, hr1, tideRow]
         have HR1 := Lib.hid hr1
         have HS := Lib.hid hS
         clear hr1 hS
         go_simp
         exact FreeS.skip (hK _ _ ⟨z0, rfl, fun _ _ => rfl, (HS.out.1.set (hfr 3 rfl) 0 _).set (hfr 3 rfl) 1 _, row_set (row_set HR1.out 0 _) 1 _⟩)
       · rcases hi with rfl | rfl | rfl | rfl <;>
          (simp only [↓List.getElem?_toArray, ↓List.getElem?_cons_zero, ↓List.getElem?_cons_succ, Option.some.injEq] at ho
           subst ho
           refine .inl ⟨by kernel_rfl, FreeS.keep fun K hK => ?_⟩
           try dsimp only
           try simp only [putL]
           go_simp
           exact FreeS.val (hK _ _ ⟨z0, rfl, fun _ _ => rfl, hS⟩))
      case hend =>
       rintro d z0 wq hall hS
       try dsimp only at hS ⊢
       have h6 := hall 6 (by decide)
       have hx := hS.2
       rw [h6, if_pos rfl] at hx
       show R _ _
       rw [HR.out]
       exact ⟨⟨_, _, _, _, _, _, rfl⟩, hS.1, hx⟩
    case rest4 =>
     intro a' w4 hra
     rw [HR.out] at hra
     clear HR
     obtain ⟨⟨u87, u88, u89, u90, u91, u92, rfl⟩, hA4, hx4⟩ := hra
     subst hA
     try simp only [putL]
     have hB' := HB.out.tide 3 _ (fun i hi hne => hap i 3 (his2 i hi) rfl hne) (hba 3 rfl) hA4 hx4
     obtain ⟨tr3, ht'⟩ : ∃ t : Nat → Option Obj, t = fun i => if i = 3 then some (.cells #[I (12), I (10), I 14, I 15, I 18, I 20, I 16, I 17] 24 (0, 0)) else tr2 i := ⟨_, rfl⟩
     rw [← ht'] at hB'
     have his3 : ∀ i, (tr3 i).isSome = true → (knRow i).isSome = true := fun i hi => by
      rw [ht'] at hi
      by_cases h : i = 3
      · subst h; rfl
      · simp only [if_neg h] at hi; exact his2 i hi
     have htr3 : ∀ i, 3 < i → (knRow i).isSome = true → tr3 i = knRow i := fun i hi hs => by
      rw [ht']
      simp only [if_neg (show ¬ i = 3 by omega)]
      exact htr2 i (by omega) hs
     have hk3_1 : tr3 1 = some (.cells #[I (10), I (15), I 14, I 15, I 18, I 20, I 16, I 17] 24 (0, 0)) := by rw [ht']; exact hk2_1
     have hk3_2 : tr3 2 = some (.cells #[I (81), I (81), I 14, I 15, I 18, I 20, I 16, I 17] 24 (0, 0)) := by rw [ht']; exact hk2_2
     have hk3_3 : tr3 3 = some (.cells #[I (12), I (10), I 14, I 15, I 18, I 20, I 16, I 17] 24 (0, 0)) := by rw [ht']; rfl
     clear ht' HB his2 htr2 hA4 hx4 hk2_1 hk2_2
     have HB := Lib.hid hB'
     clear hB'
     go_upto_region 5 with fail
     refine name_act ?_
     intro A hA
     obtain ⟨R, hR⟩ : ∃ R : Act → World → Prop, R = fun a' w' => (∃ u93 u94 u95 u96 u97 u98, a' = ((((((A.put (some 93) u93).put (some 94) u94).put (some 95) u95).put (some 96) u96).put (some 97) u97).put (some 98) u98)) ∧ KnA w.heap.size (θ 22) w4 w' ∧ w'.heap[θ 22]? = some (.cells (cellsOf [((.slice none 0 0), (.slice none 0 0), zBk), ((.slice (some ⟨θ 1, 0, none⟩) 4 4), (.slice none 0 0), Ld.ownB), ((.slice (some ⟨θ 2, 0, none⟩) 4 4), (.slice none 0 0), Ld.ownB), ((.slice (some ⟨θ 3, 0, none⟩) 4 4), (.slice none 0 0), Ld.ownB), ((.slice (some ⟨θ 4, 0, none⟩) 4 4), (.slice none 0 0), { Ld.ownB with s1 := ⟨⟨-41, -41⟩, 12, 20⟩ }), ((.slice (some ⟨θ 5, 0, none⟩) 4 4), (.slice none 0 0), Ld.ownB), ((.slice (some ⟨θ 6, 0, none⟩) 4 4), (.slice none 0 0), Ld.ownB), ((.slice (some ⟨θ 7, 0, none⟩) 4 4), (.slice none 0 0), Ld.ownB), ((.slice (some ⟨θ 8, 0, none⟩) 4 4), (.slice none 0 0), Ld.ownB), ((.slice (some ⟨θ 9, 0, none⟩) 4 4), (.slice none 0 0), Ld.ownB), ((.slice (some ⟨θ 10, 0, none⟩) 4 4), (.slice none 0 0), Ld.ownB), ((.slice (some ⟨θ 13, 0, none⟩) 4 4), (.slice (some ⟨θ 12, 0, none⟩) 1 1), (Ld.bookOf [⟨4, 0, 0⟩])), ((.slice (some ⟨θ 16, 0, none⟩) 4 4), (.slice (some ⟨θ 15, 0, none⟩) 1 1), (Ld.bookOf [⟨0, 2, 0⟩])), ((.slice (some ⟨θ 19, 0, none⟩) 4 4), (.slice (some ⟨θ 18, 0, none⟩) 1 1), (Ld.bookOf [⟨0, 0, 121⟩])), ((.slice (some ⟨θ 21, 0, none⟩) 4 4), (.slice (some ⟨θ 20, 0, none⟩) 7 7), (Ld.bookOf [⟨0, 0, 0⟩, ⟨0, 0, 0⟩, ⟨0, 0, 0⟩, ⟨0, 0, 0⟩, ⟨0, 0, 0⟩, ⟨0, 0, 0⟩, ⟨0, 0, 0⟩]))]) 30 (0, 0)) := ⟨_, rfl⟩
     have HR := Lib.hid hR
     clear hR
     refine wp_between R ?first5 ?rest5
     case first5 =>
      as_aux_lemma =>
       refine wp_region_free (Θ := Nat) (vals := fun ϑ => [(.slice (some ⟨θ 22, 0, none⟩) 15 15), (vSp ⟨-41, -41⟩), (.pointer (some ⟨θ 22, 56, none⟩)), (.pointer (some ⟨θ 22, 57, none⟩)), (.pointer (some ⟨θ 22, 61, none⟩)), (.pointer (some ⟨θ 22, 61, none⟩)), undef]) (F := fun ϑ => ((((((A.put (some 93) (.slice (some ⟨θ 22, 0, none⟩) 15 15)).put (some 94) (vSp ⟨-41, -41⟩)).put (some 95) (.pointer (some ⟨θ 22, 56, none⟩))).put (some 96) (.pointer (some ⟨θ 22, 57, none⟩))).put (some 97) (.pointer (some ⟨θ 22, 61, none⟩))).put (some 98) (.pointer (some ⟨θ 22, 61, none⟩)))) (S := fun d ϑ w' => KnA w.heap.size (θ 22) w4 w' ∧ w'.heap[θ 22]? = some (.cells (if d 6 = true then cellsOf [((.slice none 0 0), (.slice none 0 0), zBk), ((.slice (some ⟨θ 1, 0, none⟩) 4 4), (.slice none 0 0), Ld.ownB), ((.slice (some ⟨θ 2, 0, none⟩) 4 4), (.slice none 0 0), Ld.ownB), ((.slice (some ⟨θ 3, 0, none⟩) 4 4), (.slice none 0 0), Ld.ownB), ((.slice (some ⟨θ 4, 0, none⟩) 4 4), (.slice none 0 0), { Ld.ownB with s1 := ⟨⟨-41, -41⟩, 12, 20⟩ }), ((.slice (some ⟨θ 5, 0, none⟩) 4 4), (.slice none 0 0), Ld.ownB), ((.slice (some ⟨θ 6, 0, none⟩) 4 4), (.slice none 0 0), Ld.ownB), ((.slice (some ⟨θ 7, 0, none⟩) 4 4), (.slice none 0 0), Ld.ownB), ((.slice (some ⟨θ 8, 0, none⟩) 4 4), (.slice none 0 0), Ld.ownB), ((.slice (some ⟨θ 9, 0, none⟩) 4 4), (.slice none 0 0), Ld.ownB), ((.slice (some ⟨θ 10, 0, none⟩) 4 4), (.slice none 0 0), Ld.ownB), ((.slice (some ⟨θ 13, 0, none⟩) 4 4), (.slice (some ⟨θ 12, 0, none⟩) 1 1), (Ld.bookOf [⟨4, 0, 0⟩])), ((.slice (some ⟨θ 16, 0, none⟩) 4 4), (.slice (some ⟨θ 15, 0, none⟩) 1 1), (Ld.bookOf [⟨0, 2, 0⟩])), ((.slice (some ⟨θ 19, 0, none⟩) 4 4), (.slice (some ⟨θ 18, 0, none⟩) 1 1), (Ld.bookOf [⟨0, 0, 121⟩])), ((.slice (some ⟨θ 21, 0, none⟩) 4 4), (.slice (some ⟨θ 20, 0, none⟩) 7 7), (Ld.bookOf [⟨0, 0, 0⟩, ⟨0, 0, 0⟩, ⟨0, 0, 0⟩, ⟨0, 0, 0⟩, ⟨0, 0, 0⟩, ⟨0, 0, 0⟩, ⟨0, 0, 0⟩]))] else cellsOf [((.slice none 0 0), (.slice none 0 0), zBk), ((.slice (some ⟨θ 1, 0, none⟩) 4 4), (.slice none 0 0), Ld.ownB), ((.slice (some ⟨θ 2, 0, none⟩) 4 4), (.slice none 0 0), Ld.ownB), ((.slice (some ⟨θ 3, 0, none⟩) 4 4), (.slice none 0 0), Ld.ownB), ((.slice (some ⟨θ 4, 0, none⟩) 4 4), (.slice none 0 0), Ld.ownB), ((.slice (some ⟨θ 5, 0, none⟩) 4 4), (.slice none 0 0), Ld.ownB), ((.slice (some ⟨θ 6, 0, none⟩) 4 4), (.slice none 0 0), Ld.ownB), ((.slice (some ⟨θ 7, 0, none⟩) 4 4), (.slice none 0 0), Ld.ownB), ((.slice (some ⟨θ 8, 0, none⟩) 4 4), (.slice none 0 0), Ld.ownB), ((.slice (some ⟨θ 9, 0, none⟩) 4 4), (.slice none 0 0), Ld.ownB), ((.slice (some ⟨θ 10, 0, none⟩) 4 4), (.slice none 0 0), Ld.ownB), ((.slice (some ⟨θ 13, 0, none⟩) 4 4), (.slice (some ⟨θ 12, 0, none⟩) 1 1), (Ld.bookOf [⟨4, 0, 0⟩])), ((.slice (some ⟨θ 16, 0, none⟩) 4 4), (.slice (some ⟨θ 15, 0, none⟩) 1 1), (Ld.bookOf [⟨0, 2, 0⟩])), ((.slice (some ⟨θ 19, 0, none⟩) 4 4), (.slice (some ⟨θ 18, 0, none⟩) 1 1), (Ld.bookOf [⟨0, 0, 121⟩])), ((.slice (some ⟨θ 21, 0, none⟩) 4 4), (.slice (some ⟨θ 20, 0, none⟩) 7 7), (Ld.bookOf [⟨0, 0, 0⟩, ⟨0, 0, 0⟩, ⟨0, 0, 0⟩, ⟨0, 0, 0⟩, ⟨0, 0, 0⟩, ⟨0, 0, 0⟩, ⟨0, 0, 0⟩]))]) 30 (0, 0))) (by kernel_rfl) (inOrder_of (by kernel_rfl)) (by kernel_rfl) (fun ϑ => rfl) (fun ϑ => rfl) 0 ?h0 ?hstep ?hend
       case h0 =>
        exact ⟨KnA.start _ _ _, HB.out.row⟩
       case hstep =>
        rintro d z0 wq i o hd ho hdep hclosed hS
        have hlt : i < 7 := (Array.getElem?_eq_some_iff.1 ho).1
        try dsimp only at hS
        have hi : i = 1 ∨ i = 6 ∨ (i = 0 ∨ i = 2 ∨ i = 3 ∨ i = 4 ∨ i = 5) := by omega
        subst hA
        rcases hi with rfl | rfl | hi
        · simp only [↓List.getElem?_toArray, ↓List.getElem?_cons_zero, ↓List.getElem?_cons_succ, Option.some.injEq] at ho
          subst ho
          refine .inl ⟨by kernel_rfl, FreeS.keep fun K hK => ?_⟩
          try dsimp only
          try simp only [putL]
          go_simp
          exact FreeS.enter ((point_any (-41) wq).mono fun e w'' h => ⟨_, h.1, hK _ _ ⟨z0, rfl, fun _ _ => rfl, hS.1.step HB.out.bel.size h.2, (h.2.block _ (heap_lt hS.2)).trans hS.2⟩⟩)
        · simp only [↓List.getElem?_toArray, ↓List.getElem?_cons_zero, ↓List.getElem?_cons_succ, Option.some.injEq] at ho
          subst ho
          refine .inl ⟨by kernel_rfl, FreeS.keep fun K hK => ?_⟩
          try dsimp only
          try simp only [putL]
          have hr1 : wq.heap[θ 22]? = some (.cells (cellsOf [((.slice none 0 0), (.slice none 0 0), zBk), ((.slice (some ⟨θ 1, 0, none⟩) 4 4), (.slice none 0 0), Ld.ownB), ((.slice (some ⟨θ 2, 0, none⟩) 4 4), (.slice none 0 0), Ld.ownB), ((.slice (some ⟨θ 3, 0, none⟩) 4 4), (.slice none 0 0), Ld.ownB), ((.slice (some ⟨θ 4, 0, none⟩) 4 4), (.slice none 0 0), Ld.ownB), ((.slice (some ⟨θ 5, 0, none⟩) 4 4), (.slice none 0 0), Ld.ownB), ((.slice (some ⟨θ 6, 0, none⟩) 4 4), (.slice none 0 0), Ld.ownB), ((.slice (some ⟨θ 7, 0, none⟩) 4 4), (.slice none 0 0), Ld.ownB), ((.slice (some ⟨θ 8, 0, none⟩) 4 4), (.slice none 0 0), Ld.ownB), ((.slice (some ⟨θ 9, 0, none⟩) 4 4), (.slice none 0 0), Ld.ownB), ((.slice (some ⟨θ 10, 0, none⟩) 4 4), (.slice none 0 0), Ld.ownB), ((.slice (some ⟨θ 13, 0, none⟩) 4 4), (.slice (some ⟨θ 12, 0, none⟩) 1 1), (Ld.bookOf [⟨4, 0, 0⟩])), ((.slice (some ⟨θ 16, 0, none⟩) 4 4), (.slice (some ⟨θ 15, 0, none⟩) 1 1), (Ld.bookOf [⟨0, 2, 0⟩])), ((.slice (some ⟨θ 19, 0, none⟩) 4 4), (.slice (some ⟨θ 18, 0, none⟩) 1 1), (Ld.bookOf [⟨0, 0, 121⟩])), ((.slice (some ⟨θ 21, 0, none⟩) 4 4), (.slice (some ⟨θ 20, 0, none⟩) 7 7), (Ld.bookOf [⟨0, 0, 0⟩, ⟨0, 0, 0⟩, ⟨0, 0, 0⟩, ⟨0, 0, 0⟩, ⟨0, 0, 0⟩, ⟨0, 0, 0⟩, ⟨0, 0, 0⟩]))]) 30 (0, 0)) := by have h := hS.2; rw [hd] at h; exact h
          have q61 := cell_of_row wq _ 61 _ _ _ hr1
          rw [show (cellsOf [((.slice none 0 0), (.slice none 0 0), zBk), ((.slice (some ⟨θ 1, 0, none⟩) 4 4), (.slice none 0 0), Ld.ownB), ((.slice (some ⟨θ 2, 0, none⟩) 4 4), (.slice none 0 0), Ld.ownB), ((.slice (some ⟨θ 3, 0, none⟩) 4 4), (.slice none 0 0), Ld.ownB), ((.slice (some ⟨θ 4, 0, none⟩) 4 4), (.slice none 0 0), Ld.ownB), ((.slice (some ⟨θ 5, 0, none⟩) 4 4), (.slice none 0 0), Ld.ownB), ((.slice (some ⟨θ 6, 0, none⟩) 4 4), (.slice none 0 0), Ld.ownB), ((.slice (some ⟨θ 7, 0, none⟩) 4 4), (.slice none 0 0), Ld.ownB), ((.slice (some ⟨θ 8, 0, none⟩) 4 4), (.slice none 0 0), Ld.ownB), ((.slice (some ⟨θ 9, 0, none⟩) 4 4), (.slice none 0 0), Ld.ownB), ((.slice (some ⟨θ 10, 0, none⟩) 4 4), (.slice none 0 0), Ld.ownB), ((.slice (some ⟨θ 13, 0, none⟩) 4 4), (.slice (some ⟨θ 12, 0, none⟩) 1 1), (Ld.bookOf [⟨4, 0, 0⟩])), ((.slice (some ⟨θ 16, 0, none⟩) 4 4), (.slice (some ⟨θ 15, 0, none⟩) 1 1), (Ld.bookOf [⟨0, 2, 0⟩])), ((.slice (some ⟨θ 19, 0, none⟩) 4 4), (.slice (some ⟨θ 18, 0, none⟩) 1 1), (Ld.bookOf [⟨0, 0, 121⟩])), ((.slice (some ⟨θ 21, 0, none⟩) 4 4), (.slice (some ⟨θ 20, 0, none⟩) 7 7), (Ld.bookOf [⟨0, 0, 0⟩, ⟨0, 0, 0⟩, ⟨0, 0, 0⟩, ⟨0, 0, 0⟩, ⟨0, 0, 0⟩, ⟨0, 0, 0⟩, ⟨0, 0, 0⟩]))])[61]? = some (I 4) from by kernel_rfl] at q61
          have f61 : wq.frozen? ⟨θ 22, 61, none⟩ = false := by simp [World.frozen?, hr1]
          have q62 := cell_of_row wq _ 62 _ _ _ hr1
          rw [show (cellsOf [((.slice none 0 0), (.slice none 0 0), zBk), ((.slice (some ⟨θ 1, 0, none⟩) 4 4), (.slice none 0 0), Ld.ownB), ((.slice (some ⟨θ 2, 0, none⟩) 4 4), (.slice none 0 0), Ld.ownB), ((.slice (some ⟨θ 3, 0, none⟩) 4 4), (.slice none 0 0), Ld.ownB), ((.slice (some ⟨θ 4, 0, none⟩) 4 4), (.slice none 0 0), Ld.ownB), ((.slice (some ⟨θ 5, 0, none⟩) 4 4), (.slice none 0 0), Ld.ownB), ((.slice (some ⟨θ 6, 0, none⟩) 4 4), (.slice none 0 0), Ld.ownB), ((.slice (some ⟨θ 7, 0, none⟩) 4 4), (.slice none 0 0), Ld.ownB), ((.slice (some ⟨θ 8, 0, none⟩) 4 4), (.slice none 0 0), Ld.ownB), ((.slice (some ⟨θ 9, 0, none⟩) 4 4), (.slice none 0 0), Ld.ownB), ((.slice (some ⟨θ 10, 0, none⟩) 4 4), (.slice none 0 0), Ld.ownB), ((.slice (some ⟨θ 13, 0, none⟩) 4 4), (.slice (some ⟨θ 12, 0, none⟩) 1 1), (Ld.bookOf [⟨4, 0, 0⟩])), ((.slice (some ⟨θ 16, 0, none⟩) 4 4), (.slice (some ⟨θ 15, 0, none⟩) 1 1), (Ld.bookOf [⟨0, 2, 0⟩])), ((.slice (some ⟨θ 19, 0, none⟩) 4 4), (.slice (some ⟨θ 18, 0, none⟩) 1 1), (Ld.bookOf [⟨0, 0, 121⟩])), ((.slice (some ⟨θ 21, 0, none⟩) 4 4), (.slice (some ⟨θ 20, 0, none⟩) 7 7), (Ld.bookOf [⟨0, 0, 0⟩, ⟨0, 0, 0⟩, ⟨0, 0, 0⟩, ⟨0, 0, 0⟩, ⟨0, 0, 0⟩, ⟨0, 0, 0⟩, ⟨0, 0, 0⟩]))])[62]? = some (I 5) from by kernel_rfl] at q62
          have f62 : wq.frozen? ⟨θ 22, 62, none⟩ = false := by simp [World.frozen?, hr1]
          have HR1 := Lib.hid hr1
          have HS := Lib.hid hS
          clear hr1 hS
          go_simp
          exact FreeS.skip (hK _ _ ⟨z0, rfl, fun _ _ => rfl, (HS.out.1.set hbf 61 _).set hbf 62 _, (row_set (row_set HR1.out 61 _) 62 _).trans (show some (Obj.cells _ _ _) = some (Obj.cells (cellsOf [((.slice none 0 0), (.slice none 0 0), zBk), ((.slice (some ⟨θ 1, 0, none⟩) 4 4), (.slice none 0 0), Ld.ownB), ((.slice (some ⟨θ 2, 0, none⟩) 4 4), (.slice none 0 0), Ld.ownB), ((.slice (some ⟨θ 3, 0, none⟩) 4 4), (.slice none 0 0), Ld.ownB), ((.slice (some ⟨θ 4, 0, none⟩) 4 4), (.slice none 0 0), { Ld.ownB with s1 := ⟨⟨-41, -41⟩, 12, 20⟩ }), ((.slice (some ⟨θ 5, 0, none⟩) 4 4), (.slice none 0 0), Ld.ownB), ((.slice (some ⟨θ 6, 0, none⟩) 4 4), (.slice none 0 0), Ld.ownB), ((.slice (some ⟨θ 7, 0, none⟩) 4 4), (.slice none 0 0), Ld.ownB), ((.slice (some ⟨θ 8, 0, none⟩) 4 4), (.slice none 0 0), Ld.ownB), ((.slice (some ⟨θ 9, 0, none⟩) 4 4), (.slice none 0 0), Ld.ownB), ((.slice (some ⟨θ 10, 0, none⟩) 4 4), (.slice none 0 0), Ld.ownB), ((.slice (some ⟨θ 13, 0, none⟩) 4 4), (.slice (some ⟨θ 12, 0, none⟩) 1 1), (Ld.bookOf [⟨4, 0, 0⟩])), ((.slice (some ⟨θ 16, 0, none⟩) 4 4), (.slice (some ⟨θ 15, 0, none⟩) 1 1), (Ld.bookOf [⟨0, 2, 0⟩])), ((.slice (some ⟨θ 19, 0, none⟩) 4 4), (.slice (some ⟨θ 18, 0, none⟩) 1 1), (Ld.bookOf [⟨0, 0, 121⟩])), ((.slice (some ⟨θ 21, 0, none⟩) 4 4), (.slice (some ⟨θ 20, 0, none⟩) 7 7), (Ld.bookOf [⟨0, 0, 0⟩, ⟨0, 0, 0⟩, ⟨0, 0, 0⟩, ⟨0, 0, 0⟩, ⟨0, 0, 0⟩, ⟨0, 0, 0⟩, ⟨0, 0, 0⟩]))]) 30 (0, 0)) from by kernel_rfl)⟩)
        · rcases hi with rfl | rfl | rfl | rfl | rfl <;>
           (simp only [↓List.getElem?_toArray, ↓List.getElem?_cons_zero, ↓List.getElem?_cons_succ, Option.some.injEq] at ho
            subst ho
            refine .inl ⟨by kernel_rfl, FreeS.keep fun K hK => ?_⟩
            try dsimp only
            try simp only [putL]
            go_simp
            exact FreeS.val (hK _ _ ⟨z0, rfl, fun _ _ => rfl, hS⟩))
       case hend =>
        rintro d z0 wq hall hS
        try dsimp only at hS ⊢
        have h6 := hall 6 (by decide)
        have hx := hS.2
        rw [h6, if_pos rfl] at hx
        show R _ _
        rw [HR.out]
        exact ⟨⟨_, _, _, _, _, _, rfl⟩, hS.1, hx⟩
     case rest5 =>
      intro a' w5 hra
      rw [HR.out] at hra
      clear HR
      obtain ⟨⟨u93, u94, u95, u96, u97, u98, rfl⟩, hA5, hx5⟩ := hra
      subst hA
      try simp only [putL]
      have hB' := HB.out.bad (fun i hi => hba i (his3 i hi)) hA5 hx5
      clear HB hA5 hx5
      have HB := Lib.hid hB'
      clear hB'
      go_upto_region 6 with fail
      refine name_act ?_
      intro A hA
      obtain ⟨R, hR⟩ : ∃ R : Act → World → Prop, R = fun a' w' => (∃ u99 u100 u101 u102 u103, a' = (((((A.put (some 99) u99).put (some 100) u100).put (some 101) u101).put (some 102) u102).put (some 103) u103)) ∧ KnA w.heap.size (θ 22) w5 w' ∧ w'.heap[θ 22]? = some (.cells (cellsOf [((.slice none 0 0), (.slice none 0 0), zBk), ((.slice (some ⟨θ 1, 0, none⟩) 4 4), (.slice none 0 0), Ld.ownB), ((.slice (some ⟨θ 2, 0, none⟩) 4 4), (.slice none 0 0), Ld.ownB), ((.slice (some ⟨θ 3, 0, none⟩) 4 4), (.slice none 0 0), Ld.ownB), ((.slice (some ⟨θ 4, 0, none⟩) 4 4), (.slice none 0 0), { Ld.ownB with s1 := ⟨⟨-41, -41⟩, 12, 20⟩ }), ((.slice (some ⟨θ 5, 0, none⟩) 4 4), (.slice none 0 0), { Ld.ownB with s0 := ⟨⟨2, 3⟩, 20, 19⟩ }), ((.slice (some ⟨θ 6, 0, none⟩) 4 4), (.slice none 0 0), Ld.ownB), ((.slice (some ⟨θ 7, 0, none⟩) 4 4), (.slice none 0 0), Ld.ownB), ((.slice (some ⟨θ 8, 0, none⟩) 4 4), (.slice none 0 0), Ld.ownB), ((.slice (some ⟨θ 9, 0, none⟩) 4 4), (.slice none 0 0), Ld.ownB), ((.slice (some ⟨θ 10, 0, none⟩) 4 4), (.slice none 0 0), Ld.ownB), ((.slice (some ⟨θ 13, 0, none⟩) 4 4), (.slice (some ⟨θ 12, 0, none⟩) 1 1), (Ld.bookOf [⟨4, 0, 0⟩])), ((.slice (some ⟨θ 16, 0, none⟩) 4 4), (.slice (some ⟨θ 15, 0, none⟩) 1 1), (Ld.bookOf [⟨0, 2, 0⟩])), ((.slice (some ⟨θ 19, 0, none⟩) 4 4), (.slice (some ⟨θ 18, 0, none⟩) 1 1), (Ld.bookOf [⟨0, 0, 121⟩])), ((.slice (some ⟨θ 21, 0, none⟩) 4 4), (.slice (some ⟨θ 20, 0, none⟩) 7 7), (Ld.bookOf [⟨0, 0, 0⟩, ⟨0, 0, 0⟩, ⟨0, 0, 0⟩, ⟨0, 0, 0⟩, ⟨0, 0, 0⟩, ⟨0, 0, 0⟩, ⟨0, 0, 0⟩]))]) 30 (0, 0)) := ⟨_, rfl⟩
      have HR := Lib.hid hR
      clear hR
      refine wp_between R ?first6 ?rest6
      case first6 =>
       as_aux_lemma =>
        subst hA
        have hr := HB.out.row
        have hk := KnA.refl w.heap.size (θ 22) w5
        have q73 := cell_of_row w5 _ 73 _ _ _ hr
        have f73 : w5.frozen? ⟨θ 22, 73, none⟩ = false := by simp [World.frozen?, hr]
        rw [show (cellsOf [((.slice none 0 0), (.slice none 0 0), zBk), ((.slice (some ⟨θ 1, 0, none⟩) 4 4), (.slice none 0 0), Ld.ownB), ((.slice (some ⟨θ 2, 0, none⟩) 4 4), (.slice none 0 0), Ld.ownB), ((.slice (some ⟨θ 3, 0, none⟩) 4 4), (.slice none 0 0), Ld.ownB), ((.slice (some ⟨θ 4, 0, none⟩) 4 4), (.slice none 0 0), { Ld.ownB with s1 := ⟨⟨-41, -41⟩, 12, 20⟩ }), ((.slice (some ⟨θ 5, 0, none⟩) 4 4), (.slice none 0 0), Ld.ownB), ((.slice (some ⟨θ 6, 0, none⟩) 4 4), (.slice none 0 0), Ld.ownB), ((.slice (some ⟨θ 7, 0, none⟩) 4 4), (.slice none 0 0), Ld.ownB), ((.slice (some ⟨θ 8, 0, none⟩) 4 4), (.slice none 0 0), Ld.ownB), ((.slice (some ⟨θ 9, 0, none⟩) 4 4), (.slice none 0 0), Ld.ownB), ((.slice (some ⟨θ 10, 0, none⟩) 4 4), (.slice none 0 0), Ld.ownB), ((.slice (some ⟨θ 13, 0, none⟩) 4 4), (.slice (some ⟨θ 12, 0, none⟩) 1 1), (Ld.bookOf [⟨4, 0, 0⟩])), ((.slice (some ⟨θ 16, 0, none⟩) 4 4), (.slice (some ⟨θ 15, 0, none⟩) 1 1), (Ld.bookOf [⟨0, 2, 0⟩])), ((.slice (some ⟨θ 19, 0, none⟩) 4 4), (.slice (some ⟨θ 18, 0, none⟩) 1 1), (Ld.bookOf [⟨0, 0, 121⟩])), ((.slice (some ⟨θ 21, 0, none⟩) 4 4), (.slice (some ⟨θ 20, 0, none⟩) 7 7), (Ld.bookOf [⟨0, 0, 0⟩, ⟨0, 0, 0⟩, ⟨0, 0, 0⟩, ⟨0, 0, 0⟩, ⟨0, 0, 0⟩, ⟨0, 0, 0⟩, ⟨0, 0, 0⟩]))])[73]? = some (I 10) from by kernel_rfl] at q73
        have HR2 := Lib.hid hr
        have HK := Lib.hid hk
        clear hr hk
        go_wp2_with fail
        show R _ _
        rw [HR.out]
        try simp only [putL]
        exact ⟨⟨_, _, _, _, _, rfl⟩, (KnA.set HK.out hbf 73 _), ((row_set HR2.out 73 _)).trans (show some (Obj.cells _ _ _) = some (Obj.cells (cellsOf [((.slice none 0 0), (.slice none 0 0), zBk), ((.slice (some ⟨θ 1, 0, none⟩) 4 4), (.slice none 0 0), Ld.ownB), ((.slice (some ⟨θ 2, 0, none⟩) 4 4), (.slice none 0 0), Ld.ownB), ((.slice (some ⟨θ 3, 0, none⟩) 4 4), (.slice none 0 0), Ld.ownB), ((.slice (some ⟨θ 4, 0, none⟩) 4 4), (.slice none 0 0), { Ld.ownB with s1 := ⟨⟨-41, -41⟩, 12, 20⟩ }), ((.slice (some ⟨θ 5, 0, none⟩) 4 4), (.slice none 0 0), { Ld.ownB with s0 := ⟨⟨2, 3⟩, 20, 19⟩ }), ((.slice (some ⟨θ 6, 0, none⟩) 4 4), (.slice none 0 0), Ld.ownB), ((.slice (some ⟨θ 7, 0, none⟩) 4 4), (.slice none 0 0), Ld.ownB), ((.slice (some ⟨θ 8, 0, none⟩) 4 4), (.slice none 0 0), Ld.ownB), ((.slice (some ⟨θ 9, 0, none⟩) 4 4), (.slice none 0 0), Ld.ownB), ((.slice (some ⟨θ 10, 0, none⟩) 4 4), (.slice none 0 0), Ld.ownB), ((.slice (some ⟨θ 13, 0, none⟩) 4 4), (.slice (some ⟨θ 12, 0, none⟩) 1 1), (Ld.bookOf [⟨4, 0, 0⟩])), ((.slice (some ⟨θ 16, 0, none⟩) 4 4), (.slice (some ⟨θ 15, 0, none⟩) 1 1), (Ld.bookOf [⟨0, 2, 0⟩])), ((.slice (some ⟨θ 19, 0, none⟩) 4 4), (.slice (some ⟨θ 18, 0, none⟩) 1 1), (Ld.bookOf [⟨0, 0, 121⟩])), ((.slice (some ⟨θ 21, 0, none⟩) 4 4), (.slice (some ⟨θ 20, 0, none⟩) 7 7), (Ld.bookOf [⟨0, 0, 0⟩, ⟨0, 0, 0⟩, ⟨0, 0, 0⟩, ⟨0, 0, 0⟩, ⟨0, 0, 0⟩, ⟨0, 0, 0⟩, ⟨0, 0, 0⟩]))]) 30 (0, 0)) from by kernel_rfl)⟩
      case rest6 =>
       intro a' w6 hra
       rw [HR.out] at hra
       clear HR
       obtain ⟨⟨u99, u100, u101, u102, u103, rfl⟩, hA6, hx6⟩ := hra
       subst hA
       try simp only [putL]
       have hB' := HB.out.bad (fun i hi => hba i (his3 i hi)) hA6 hx6
       clear HB hA6 hx6
       have HB := Lib.hid hB'
       clear hB'
       go_upto_region 7 with fail
       refine name_act ?_
       intro A hA
       obtain ⟨R, hR⟩ : ∃ R : Act → World → Prop, R = fun a' w' => (∃ u104 u105 u106 u107 u108, a' = (((((A.put (some 104) u104).put (some 105) u105).put (some 106) u106).put (some 107) u107).put (some 108) u108)) ∧ KnA w.heap.size (θ 22) w6 w' ∧ w'.heap[θ 22]? = some (.cells (cellsOf [((.slice none 0 0), (.slice none 0 0), zBk), ((.slice (some ⟨θ 1, 0, none⟩) 4 4), (.slice none 0 0), Ld.ownB), ((.slice (some ⟨θ 2, 0, none⟩) 4 4), (.slice none 0 0), Ld.ownB), ((.slice (some ⟨θ 3, 0, none⟩) 4 4), (.slice none 0 0), Ld.ownB), ((.slice (some ⟨θ 4, 0, none⟩) 4 4), (.slice none 0 0), { Ld.ownB with s1 := ⟨⟨-41, -41⟩, 12, 20⟩ }), ((.slice (some ⟨θ 5, 0, none⟩) 4 4), (.slice none 0 0), { Ld.ownB with s0 := ⟨⟨2, 3⟩, 20, 19⟩ }), ((.slice (some ⟨θ 6, 0, none⟩) 4 4), (.slice none 0 0), { Ld.ownB with s0 := ⟨⟨2, 3⟩, 10, 81⟩ }), ((.slice (some ⟨θ 7, 0, none⟩) 4 4), (.slice none 0 0), Ld.ownB), ((.slice (some ⟨θ 8, 0, none⟩) 4 4), (.slice none 0 0), Ld.ownB), ((.slice (some ⟨θ 9, 0, none⟩) 4 4), (.slice none 0 0), Ld.ownB), ((.slice (some ⟨θ 10, 0, none⟩) 4 4), (.slice none 0 0), Ld.ownB), ((.slice (some ⟨θ 13, 0, none⟩) 4 4), (.slice (some ⟨θ 12, 0, none⟩) 1 1), (Ld.bookOf [⟨4, 0, 0⟩])), ((.slice (some ⟨θ 16, 0, none⟩) 4 4), (.slice (some ⟨θ 15, 0, none⟩) 1 1), (Ld.bookOf [⟨0, 2, 0⟩])), ((.slice (some ⟨θ 19, 0, none⟩) 4 4), (.slice (some ⟨θ 18, 0, none⟩) 1 1), (Ld.bookOf [⟨0, 0, 121⟩])), ((.slice (some ⟨θ 21, 0, none⟩) 4 4), (.slice (some ⟨θ 20, 0, none⟩) 7 7), (Ld.bookOf [⟨0, 0, 0⟩, ⟨0, 0, 0⟩, ⟨0, 0, 0⟩, ⟨0, 0, 0⟩, ⟨0, 0, 0⟩, ⟨0, 0, 0⟩, ⟨0, 0, 0⟩]))]) 30 (0, 0)) := ⟨_, rfl⟩
       have HR := Lib.hid hR
       clear hR
       refine wp_between R ?first7 ?rest7
       case first7 =>
        as_aux_lemma =>
         subst hA
         have hr := HB.out.row
         have hk := KnA.refl w.heap.size (θ 22) w6
         have q88 := cell_of_row w6 _ 88 _ _ _ hr
         have f88 : w6.frozen? ⟨θ 22, 88, none⟩ = false := by simp [World.frozen?, hr]
         rw [show (cellsOf [((.slice none 0 0), (.slice none 0 0), zBk), ((.slice (some ⟨θ 1, 0, none⟩) 4 4), (.slice none 0 0), Ld.ownB), ((.slice (some ⟨θ 2, 0, none⟩) 4 4), (.slice none 0 0), Ld.ownB), ((.slice (some ⟨θ 3, 0, none⟩) 4 4), (.slice none 0 0), Ld.ownB), ((.slice (some ⟨θ 4, 0, none⟩) 4 4), (.slice none 0 0), { Ld.ownB with s1 := ⟨⟨-41, -41⟩, 12, 20⟩ }), ((.slice (some ⟨θ 5, 0, none⟩) 4 4), (.slice none 0 0), { Ld.ownB with s0 := ⟨⟨2, 3⟩, 20, 19⟩ }), ((.slice (some ⟨θ 6, 0, none⟩) 4 4), (.slice none 0 0), Ld.ownB), ((.slice (some ⟨θ 7, 0, none⟩) 4 4), (.slice none 0 0), Ld.ownB), ((.slice (some ⟨θ 8, 0, none⟩) 4 4), (.slice none 0 0), Ld.ownB), ((.slice (some ⟨θ 9, 0, none⟩) 4 4), (.slice none 0 0), Ld.ownB), ((.slice (some ⟨θ 10, 0, none⟩) 4 4), (.slice none 0 0), Ld.ownB), ((.slice (some ⟨θ 13, 0, none⟩) 4 4), (.slice (some ⟨θ 12, 0, none⟩) 1 1), (Ld.bookOf [⟨4, 0, 0⟩])), ((.slice (some ⟨θ 16, 0, none⟩) 4 4), (.slice (some ⟨θ 15, 0, none⟩) 1 1), (Ld.bookOf [⟨0, 2, 0⟩])), ((.slice (some ⟨θ 19, 0, none⟩) 4 4), (.slice (some ⟨θ 18, 0, none⟩) 1 1), (Ld.bookOf [⟨0, 0, 121⟩])), ((.slice (some ⟨θ 21, 0, none⟩) 4 4), (.slice (some ⟨θ 20, 0, none⟩) 7 7), (Ld.bookOf [⟨0, 0, 0⟩, ⟨0, 0, 0⟩, ⟨0, 0, 0⟩, ⟨0, 0, 0⟩, ⟨0, 0, 0⟩, ⟨0, 0, 0⟩, ⟨0, 0, 0⟩]))])[88]? = some (I 19) from by kernel_rfl] at q88
         have HR2 := Lib.hid hr
         have HK := Lib.hid hk
         clear hr hk
         go_wp2_with fail
         show R _ _
         rw [HR.out]
         try simp only [putL]
         exact ⟨⟨_, _, _, _, _, rfl⟩, (KnA.set HK.out hbf 88 _), ((row_set HR2.out 88 _)).trans (show some (Obj.cells _ _ _) = some (Obj.cells (cellsOf [((.slice none 0 0), (.slice none 0 0), zBk), ((.slice (some ⟨θ 1, 0, none⟩) 4 4), (.slice none 0 0), Ld.ownB), ((.slice (some ⟨θ 2, 0, none⟩) 4 4), (.slice none 0 0), Ld.ownB), ((.slice (some ⟨θ 3, 0, none⟩) 4 4), (.slice none 0 0), Ld.ownB), ((.slice (some ⟨θ 4, 0, none⟩) 4 4), (.slice none 0 0), { Ld.ownB with s1 := ⟨⟨-41, -41⟩, 12, 20⟩ }), ((.slice (some ⟨θ 5, 0, none⟩) 4 4), (.slice none 0 0), { Ld.ownB with s0 := ⟨⟨2, 3⟩, 20, 19⟩ }), ((.slice (some ⟨θ 6, 0, none⟩) 4 4), (.slice none 0 0), { Ld.ownB with s0 := ⟨⟨2, 3⟩, 10, 81⟩ }), ((.slice (some ⟨θ 7, 0, none⟩) 4 4), (.slice none 0 0), Ld.ownB), ((.slice (some ⟨θ 8, 0, none⟩) 4 4), (.slice none 0 0), Ld.ownB), ((.slice (some ⟨θ 9, 0, none⟩) 4 4), (.slice none 0 0), Ld.ownB), ((.slice (some ⟨θ 10, 0, none⟩) 4 4), (.slice none 0 0), Ld.ownB), ((.slice (some ⟨θ 13, 0, none⟩) 4 4), (.slice (some ⟨θ 12, 0, none⟩) 1 1), (Ld.bookOf [⟨4, 0, 0⟩])), ((.slice (some ⟨θ 16, 0, none⟩) 4 4), (.slice (some ⟨θ 15, 0, none⟩) 1 1), (Ld.bookOf [⟨0, 2, 0⟩])), ((.slice (some ⟨θ 19, 0, none⟩) 4 4), (.slice (some ⟨θ 18, 0, none⟩) 1 1), (Ld.bookOf [⟨0, 0, 121⟩])), ((.slice (some ⟨θ 21, 0, none⟩) 4 4), (.slice (some ⟨θ 20, 0, none⟩) 7 7), (Ld.bookOf [⟨0, 0, 0⟩, ⟨0, 0, 0⟩, ⟨0, 0, 0⟩, ⟨0, 0, 0⟩, ⟨0, 0, 0⟩, ⟨0, 0, 0⟩, ⟨0, 0, 0⟩]))]) 30 (0, 0)) from by kernel_rfl)⟩
       case rest7 =>
        intro a' w7 hra
        rw [HR.out] at hra
        clear HR
        obtain ⟨⟨u104, u105, u106, u107, u108, rfl⟩, hA7, hx7⟩ := hra
        subst hA
        try simp only [putL]
        have hB' := HB.out.bad (fun i hi => hba i (his3 i hi)) hA7 hx7
        clear HB hA7 hx7
        have HB := Lib.hid hB'
        clear hB'
        go_upto_region 8 with fail
        refine name_act ?_
        intro A hA
        obtain ⟨R, hR⟩ : ∃ R : Act → World → Prop, R = fun a' w' => (∃ u109 u110 u111 u112, a' = ((((A.put (some 109) u109).put (some 110) u110).put (some 111) u111).put (some 112) u112)) ∧ KnA w.heap.size (θ 22) w7 w' ∧ w'.heap[θ 22]? = some (.cells (cellsOf [((.slice none 0 0), (.slice none 0 0), zBk), ((.slice (some ⟨θ 1, 0, none⟩) 4 4), (.slice none 0 0), Ld.ownB), ((.slice (some ⟨θ 2, 0, none⟩) 4 4), (.slice none 0 0), Ld.ownB), ((.slice (some ⟨θ 3, 0, none⟩) 4 4), (.slice none 0 0), Ld.ownB), ((.slice (some ⟨θ 4, 0, none⟩) 4 4), (.slice none 0 0), { Ld.ownB with s1 := ⟨⟨-41, -41⟩, 12, 20⟩ }), ((.slice (some ⟨θ 5, 0, none⟩) 4 4), (.slice none 0 0), { Ld.ownB with s0 := ⟨⟨2, 3⟩, 20, 19⟩ }), ((.slice (some ⟨θ 6, 0, none⟩) 4 4), (.slice none 0 0), { Ld.ownB with s0 := ⟨⟨2, 3⟩, 10, 81⟩ }), ((.slice (some ⟨θ 7, 0, none⟩) 4 4), (.slice none 0 0), { Ld.ownB with empty := ⟨5, 10⟩ }), ((.slice (some ⟨θ 8, 0, none⟩) 4 4), (.slice none 0 0), Ld.ownB), ((.slice (some ⟨θ 9, 0, none⟩) 4 4), (.slice none 0 0), Ld.ownB), ((.slice (some ⟨θ 10, 0, none⟩) 4 4), (.slice none 0 0), Ld.ownB), ((.slice (some ⟨θ 13, 0, none⟩) 4 4), (.slice (some ⟨θ 12, 0, none⟩) 1 1), (Ld.bookOf [⟨4, 0, 0⟩])), ((.slice (some ⟨θ 16, 0, none⟩) 4 4), (.slice (some ⟨θ 15, 0, none⟩) 1 1), (Ld.bookOf [⟨0, 2, 0⟩])), ((.slice (some ⟨θ 19, 0, none⟩) 4 4), (.slice (some ⟨θ 18, 0, none⟩) 1 1), (Ld.bookOf [⟨0, 0, 121⟩])), ((.slice (some ⟨θ 21, 0, none⟩) 4 4), (.slice (some ⟨θ 20, 0, none⟩) 7 7), (Ld.bookOf [⟨0, 0, 0⟩, ⟨0, 0, 0⟩, ⟨0, 0, 0⟩, ⟨0, 0, 0⟩, ⟨0, 0, 0⟩, ⟨0, 0, 0⟩, ⟨0, 0, 0⟩]))]) 30 (0, 0)) := ⟨_, rfl⟩
        have HR := Lib.hid hR
        clear hR
        refine wp_between R ?first8 ?rest8
        case first8 =>
         as_aux_lemma =>
          subst hA
          go_wp2_with fail
          refine (range_any 5 10 _).mono ?_
          rintro e W8 ⟨rfl, hB⟩
          have hr := (HB.out.up hB).row
          have hk := (KnA.refl w.heap.size (θ 22) w7).step HB.out.bel.size hB
          have q107 := cell_of_row W8 _ 107 _ _ _ hr
          have f107 : W8.frozen? ⟨θ 22, 107, none⟩ = false := by simp [World.frozen?, hr]
          have q108 := cell_of_row W8 _ 108 _ _ _ hr
          have f108 : W8.frozen? ⟨θ 22, 108, none⟩ = false := by simp [World.frozen?, hr]
          rw [show (cellsOf [((.slice none 0 0), (.slice none 0 0), zBk), ((.slice (some ⟨θ 1, 0, none⟩) 4 4), (.slice none 0 0), Ld.ownB), ((.slice (some ⟨θ 2, 0, none⟩) 4 4), (.slice none 0 0), Ld.ownB), ((.slice (some ⟨θ 3, 0, none⟩) 4 4), (.slice none 0 0), Ld.ownB), ((.slice (some ⟨θ 4, 0, none⟩) 4 4), (.slice none 0 0), { Ld.ownB with s1 := ⟨⟨-41, -41⟩, 12, 20⟩ }), ((.slice (some ⟨θ 5, 0, none⟩) 4 4), (.slice none 0 0), { Ld.ownB with s0 := ⟨⟨2, 3⟩, 20, 19⟩ }), ((.slice (some ⟨θ 6, 0, none⟩) 4 4), (.slice none 0 0), { Ld.ownB with s0 := ⟨⟨2, 3⟩, 10, 81⟩ }), ((.slice (some ⟨θ 7, 0, none⟩) 4 4), (.slice none 0 0), Ld.ownB), ((.slice (some ⟨θ 8, 0, none⟩) 4 4), (.slice none 0 0), Ld.ownB), ((.slice (some ⟨θ 9, 0, none⟩) 4 4), (.slice none 0 0), Ld.ownB), ((.slice (some ⟨θ 10, 0, none⟩) 4 4), (.slice none 0 0), Ld.ownB), ((.slice (some ⟨θ 13, 0, none⟩) 4 4), (.slice (some ⟨θ 12, 0, none⟩) 1 1), (Ld.bookOf [⟨4, 0, 0⟩])), ((.slice (some ⟨θ 16, 0, none⟩) 4 4), (.slice (some ⟨θ 15, 0, none⟩) 1 1), (Ld.bookOf [⟨0, 2, 0⟩])), ((.slice (some ⟨θ 19, 0, none⟩) 4 4), (.slice (some ⟨θ 18, 0, none⟩) 1 1), (Ld.bookOf [⟨0, 0, 121⟩])), ((.slice (some ⟨θ 21, 0, none⟩) 4 4), (.slice (some ⟨θ 20, 0, none⟩) 7 7), (Ld.bookOf [⟨0, 0, 0⟩, ⟨0, 0, 0⟩, ⟨0, 0, 0⟩, ⟨0, 0, 0⟩, ⟨0, 0, 0⟩, ⟨0, 0, 0⟩, ⟨0, 0, 0⟩]))])[107]? = some (I 5) from by kernel_rfl] at q107
          rw [show (cellsOf [((.slice none 0 0), (.slice none 0 0), zBk), ((.slice (some ⟨θ 1, 0, none⟩) 4 4), (.slice none 0 0), Ld.ownB), ((.slice (some ⟨θ 2, 0, none⟩) 4 4), (.slice none 0 0), Ld.ownB), ((.slice (some ⟨θ 3, 0, none⟩) 4 4), (.slice none 0 0), Ld.ownB), ((.slice (some ⟨θ 4, 0, none⟩) 4 4), (.slice none 0 0), { Ld.ownB with s1 := ⟨⟨-41, -41⟩, 12, 20⟩ }), ((.slice (some ⟨θ 5, 0, none⟩) 4 4), (.slice none 0 0), { Ld.ownB with s0 := ⟨⟨2, 3⟩, 20, 19⟩ }), ((.slice (some ⟨θ 6, 0, none⟩) 4 4), (.slice none 0 0), { Ld.ownB with s0 := ⟨⟨2, 3⟩, 10, 81⟩ }), ((.slice (some ⟨θ 7, 0, none⟩) 4 4), (.slice none 0 0), Ld.ownB), ((.slice (some ⟨θ 8, 0, none⟩) 4 4), (.slice none 0 0), Ld.ownB), ((.slice (some ⟨θ 9, 0, none⟩) 4 4), (.slice none 0 0), Ld.ownB), ((.slice (some ⟨θ 10, 0, none⟩) 4 4), (.slice none 0 0), Ld.ownB), ((.slice (some ⟨θ 13, 0, none⟩) 4 4), (.slice (some ⟨θ 12, 0, none⟩) 1 1), (Ld.bookOf [⟨4, 0, 0⟩])), ((.slice (some ⟨θ 16, 0, none⟩) 4 4), (.slice (some ⟨θ 15, 0, none⟩) 1 1), (Ld.bookOf [⟨0, 2, 0⟩])), ((.slice (some ⟨θ 19, 0, none⟩) 4 4), (.slice (some ⟨θ 18, 0, none⟩) 1 1), (Ld.bookOf [⟨0, 0, 121⟩])), ((.slice (some ⟨θ 21, 0, none⟩) 4 4), (.slice (some ⟨θ 20, 0, none⟩) 7 7), (Ld.bookOf [⟨0, 0, 0⟩, ⟨0, 0, 0⟩, ⟨0, 0, 0⟩, ⟨0, 0, 0⟩, ⟨0, 0, 0⟩, ⟨0, 0, 0⟩, ⟨0, 0, 0⟩]))])[108]? = some (I 6) from by kernel_rfl] at q108
          have HR2 := Lib.hid hr
          have HK := Lib.hid hk
          clear hr hk
          go_wp2_with fail
          show R _ _
          rw [HR.out]
          try simp only [putL]
          exact ⟨⟨_, _, _, _, rfl⟩, (KnA.set (KnA.set HK.out hbf 107 _) hbf 108 _), ((row_set (row_set HR2.out 107 _) 108 _)).trans (show some (Obj.cells _ _ _) = some (Obj.cells (cellsOf [((.slice none 0 0), (.slice none 0 0), zBk), ((.slice (some ⟨θ 1, 0, none⟩) 4 4), (.slice none 0 0), Ld.ownB), ((.slice (some ⟨θ 2, 0, none⟩) 4 4), (.slice none 0 0), Ld.ownB), ((.slice (some ⟨θ 3, 0, none⟩) 4 4), (.slice none 0 0), Ld.ownB), ((.slice (some ⟨θ 4, 0, none⟩) 4 4), (.slice none 0 0), { Ld.ownB with s1 := ⟨⟨-41, -41⟩, 12, 20⟩ }), ((.slice (some ⟨θ 5, 0, none⟩) 4 4), (.slice none 0 0), { Ld.ownB with s0 := ⟨⟨2, 3⟩, 20, 19⟩ }), ((.slice (some ⟨θ 6, 0, none⟩) 4 4), (.slice none 0 0), { Ld.ownB with s0 := ⟨⟨2, 3⟩, 10, 81⟩ }), ((.slice (some ⟨θ 7, 0, none⟩) 4 4), (.slice none 0 0), { Ld.ownB with empty := ⟨5, 10⟩ }), ((.slice (some ⟨θ 8, 0, none⟩) 4 4), (.slice none 0 0), Ld.ownB), ((.slice (some ⟨θ 9, 0, none⟩) 4 4), (.slice none 0 0), Ld.ownB), ((.slice (some ⟨θ 10, 0, none⟩) 4 4), (.slice none 0 0), Ld.ownB), ((.slice (some ⟨θ 13, 0, none⟩) 4 4), (.slice (some ⟨θ 12, 0, none⟩) 1 1), (Ld.bookOf [⟨4, 0, 0⟩])), ((.slice (some ⟨θ 16, 0, none⟩) 4 4), (.slice (some ⟨θ 15, 0, none⟩) 1 1), (Ld.bookOf [⟨0, 2, 0⟩])), ((.slice (some ⟨θ 19, 0, none⟩) 4 4), (.slice (some ⟨θ 18, 0, none⟩) 1 1), (Ld.bookOf [⟨0, 0, 121⟩])), ((.slice (some ⟨θ 21, 0, none⟩) 4 4), (.slice (some ⟨θ 20, 0, none⟩) 7 7), (Ld.bookOf [⟨0, 0, 0⟩, ⟨0, 0, 0⟩, ⟨0, 0, 0⟩, ⟨0, 0, 0⟩, ⟨0, 0, 0⟩, ⟨0, 0, 0⟩, ⟨0, 0, 0⟩]))]) 30 (0, 0)) from by kernel_rfl)⟩
        case rest8 =>
         intro a' w8 hra
         rw [HR.out] at hra
         clear HR
         obtain ⟨⟨u109, u110, u111, u112, rfl⟩, hA8, hx8⟩ := hra
         subst hA
         try simp only [putL]
         have hB' := HB.out.bad (fun i hi => hba i (his3 i hi)) hA8 hx8
         clear HB hA8 hx8
         have HB := Lib.hid hB'
         clear hB'
         go_upto_region 9 with fail
         refine name_act ?_
         intro A hA
         obtain ⟨R, hR⟩ : ∃ R : Act → World → Prop, R = fun a' w' => (∃ u113 u114 u115, a' = (((A.put (some 113) u113).put (some 114) u114).put (some 115) u115)) ∧ KnA w.heap.size (θ 22) w8 w' ∧ w'.heap[θ 22]? = some (.cells (cellsOf [((.slice none 0 0), (.slice none 0 0), zBk), ((.slice (some ⟨θ 1, 0, none⟩) 4 4), (.slice none 0 0), Ld.ownB), ((.slice (some ⟨θ 2, 0, none⟩) 4 4), (.slice none 0 0), Ld.ownB), ((.slice (some ⟨θ 3, 0, none⟩) 4 4), (.slice none 0 0), Ld.ownB), ((.slice (some ⟨θ 4, 0, none⟩) 4 4), (.slice none 0 0), { Ld.ownB with s1 := ⟨⟨-41, -41⟩, 12, 20⟩ }), ((.slice (some ⟨θ 5, 0, none⟩) 4 4), (.slice none 0 0), { Ld.ownB with s0 := ⟨⟨2, 3⟩, 20, 19⟩ }), ((.slice (some ⟨θ 6, 0, none⟩) 4 4), (.slice none 0 0), { Ld.ownB with s0 := ⟨⟨2, 3⟩, 10, 81⟩ }), ((.slice (some ⟨θ 7, 0, none⟩) 4 4), (.slice none 0 0), { Ld.ownB with empty := ⟨5, 10⟩ }), ((.slice (some ⟨θ 8, 0, none⟩) 4 4), (.slice none 0 0), { Ld.ownB with sink := 0 }), ((.slice (some ⟨θ 9, 0, none⟩) 4 4), (.slice none 0 0), Ld.ownB), ((.slice (some ⟨θ 10, 0, none⟩) 4 4), (.slice none 0 0), Ld.ownB), ((.slice (some ⟨θ 13, 0, none⟩) 4 4), (.slice (some ⟨θ 12, 0, none⟩) 1 1), (Ld.bookOf [⟨4, 0, 0⟩])), ((.slice (some ⟨θ 16, 0, none⟩) 4 4), (.slice (some ⟨θ 15, 0, none⟩) 1 1), (Ld.bookOf [⟨0, 2, 0⟩])), ((.slice (some ⟨θ 19, 0, none⟩) 4 4), (.slice (some ⟨θ 18, 0, none⟩) 1 1), (Ld.bookOf [⟨0, 0, 121⟩])), ((.slice (some ⟨θ 21, 0, none⟩) 4 4), (.slice (some ⟨θ 20, 0, none⟩) 7 7), (Ld.bookOf [⟨0, 0, 0⟩, ⟨0, 0, 0⟩, ⟨0, 0, 0⟩, ⟨0, 0, 0⟩, ⟨0, 0, 0⟩, ⟨0, 0, 0⟩, ⟨0, 0, 0⟩]))]) 30 (0, 0)) := ⟨_, rfl⟩
         have HR := Lib.hid hR
         clear hR
         refine wp_between R ?first9 ?rest9
         case first9 =>
          as_aux_lemma =>
           subst hA
           have hr := HB.out.row
           have hk := KnA.refl w.heap.size (θ 22) w8
           have q123 := cell_of_row w8 _ 123 _ _ _ hr
           have f123 : w8.frozen? ⟨θ 22, 123, none⟩ = false := by simp [World.frozen?, hr]
           rw [show (cellsOf [((.slice none 0 0), (.slice none 0 0), zBk), ((.slice (some ⟨θ 1, 0, none⟩) 4 4), (.slice none 0 0), Ld.ownB), ((.slice (some ⟨θ 2, 0, none⟩) 4 4), (.slice none 0 0), Ld.ownB), ((.slice (some ⟨θ 3, 0, none⟩) 4 4), (.slice none 0 0), Ld.ownB), ((.slice (some ⟨θ 4, 0, none⟩) 4 4), (.slice none 0 0), { Ld.ownB with s1 := ⟨⟨-41, -41⟩, 12, 20⟩ }), ((.slice (some ⟨θ 5, 0, none⟩) 4 4), (.slice none 0 0), { Ld.ownB with s0 := ⟨⟨2, 3⟩, 20, 19⟩ }), ((.slice (some ⟨θ 6, 0, none⟩) 4 4), (.slice none 0 0), { Ld.ownB with s0 := ⟨⟨2, 3⟩, 10, 81⟩ }), ((.slice (some ⟨θ 7, 0, none⟩) 4 4), (.slice none 0 0), { Ld.ownB with empty := ⟨5, 10⟩ }), ((.slice (some ⟨θ 8, 0, none⟩) 4 4), (.slice none 0 0), Ld.ownB), ((.slice (some ⟨θ 9, 0, none⟩) 4 4), (.slice none 0 0), Ld.ownB), ((.slice (some ⟨θ 10, 0, none⟩) 4 4), (.slice none 0 0), Ld.ownB), ((.slice (some ⟨θ 13, 0, none⟩) 4 4), (.slice (some ⟨θ 12, 0, none⟩) 1 1), (Ld.bookOf [⟨4, 0, 0⟩])), ((.slice (some ⟨θ 16, 0, none⟩) 4 4), (.slice (some ⟨θ 15, 0, none⟩) 1 1), (Ld.bookOf [⟨0, 2, 0⟩])), ((.slice (some ⟨θ 19, 0, none⟩) 4 4), (.slice (some ⟨θ 18, 0, none⟩) 1 1), (Ld.bookOf [⟨0, 0, 121⟩])), ((.slice (some ⟨θ 21, 0, none⟩) 4 4), (.slice (some ⟨θ 20, 0, none⟩) 7 7), (Ld.bookOf [⟨0, 0, 0⟩, ⟨0, 0, 0⟩, ⟨0, 0, 0⟩, ⟨0, 0, 0⟩, ⟨0, 0, 0⟩, ⟨0, 0, 0⟩, ⟨0, 0, 0⟩]))])[123]? = some (I 10) from by kernel_rfl] at q123
           have HR2 := Lib.hid hr
           have HK := Lib.hid hk
           clear hr hk
           go_wp2_with fail
           show R _ _
           rw [HR.out]
           try simp only [putL]
           exact ⟨⟨_, _, _, rfl⟩, (KnA.set HK.out hbf 123 _), ((row_set HR2.out 123 _)).trans (show some (Obj.cells _ _ _) = some (Obj.cells (cellsOf [((.slice none 0 0), (.slice none 0 0), zBk), ((.slice (some ⟨θ 1, 0, none⟩) 4 4), (.slice none 0 0), Ld.ownB), ((.slice (some ⟨θ 2, 0, none⟩) 4 4), (.slice none 0 0), Ld.ownB), ((.slice (some ⟨θ 3, 0, none⟩) 4 4), (.slice none 0 0), Ld.ownB), ((.slice (some ⟨θ 4, 0, none⟩) 4 4), (.slice none 0 0), { Ld.ownB with s1 := ⟨⟨-41, -41⟩, 12, 20⟩ }), ((.slice (some ⟨θ 5, 0, none⟩) 4 4), (.slice none 0 0), { Ld.ownB with s0 := ⟨⟨2, 3⟩, 20, 19⟩ }), ((.slice (some ⟨θ 6, 0, none⟩) 4 4), (.slice none 0 0), { Ld.ownB with s0 := ⟨⟨2, 3⟩, 10, 81⟩ }), ((.slice (some ⟨θ 7, 0, none⟩) 4 4), (.slice none 0 0), { Ld.ownB with empty := ⟨5, 10⟩ }), ((.slice (some ⟨θ 8, 0, none⟩) 4 4), (.slice none 0 0), { Ld.ownB with sink := 0 }), ((.slice (some ⟨θ 9, 0, none⟩) 4 4), (.slice none 0 0), Ld.ownB), ((.slice (some ⟨θ 10, 0, none⟩) 4 4), (.slice none 0 0), Ld.ownB), ((.slice (some ⟨θ 13, 0, none⟩) 4 4), (.slice (some ⟨θ 12, 0, none⟩) 1 1), (Ld.bookOf [⟨4, 0, 0⟩])), ((.slice (some ⟨θ 16, 0, none⟩) 4 4), (.slice (some ⟨θ 15, 0, none⟩) 1 1), (Ld.bookOf [⟨0, 2, 0⟩])), ((.slice (some ⟨θ 19, 0, none⟩) 4 4), (.slice (some ⟨θ 18, 0, none⟩) 1 1), (Ld.bookOf [⟨0, 0, 121⟩])), ((.slice (some ⟨θ 21, 0, none⟩) 4 4), (.slice (some ⟨θ 20, 0, none⟩) 7 7), (Ld.bookOf [⟨0, 0, 0⟩, ⟨0, 0, 0⟩, ⟨0, 0, 0⟩, ⟨0, 0, 0⟩, ⟨0, 0, 0⟩, ⟨0, 0, 0⟩, ⟨0, 0, 0⟩]))]) 30 (0, 0)) from by kernel_rfl)⟩
         case rest9 =>
          intro a' w9 hra
          rw [HR.out] at hra
          clear HR
          obtain ⟨⟨u113, u114, u115, rfl⟩, hA9, hx9⟩ := hra
          subst hA
          try simp only [putL]
          have hB' := HB.out.bad (fun i hi => hba i (his3 i hi)) hA9 hx9
          clear HB hA9 hx9
          have HB := Lib.hid hB'
          clear hB'
          go_upto_region 10 with fail
          refine name_act ?_
          intro A hA
          obtain ⟨R, hR⟩ : ∃ R : Act → World → Prop, R = fun a' w' => (∃ u116 u117 u118, a' = (((A.put (some 116) u116).put (some 117) u117).put (some 118) u118)) ∧ KnA w.heap.size (θ 22) w9 w' ∧ w'.heap[θ 22]? = some (.cells (cellsOf [((.slice none 0 0), (.slice none 0 0), zBk), ((.slice (some ⟨θ 1, 0, none⟩) 4 4), (.slice none 0 0), Ld.ownB), ((.slice (some ⟨θ 2, 0, none⟩) 4 4), (.slice none 0 0), Ld.ownB), ((.slice (some ⟨θ 3, 0, none⟩) 4 4), (.slice none 0 0), Ld.ownB), ((.slice (some ⟨θ 4, 0, none⟩) 4 4), (.slice none 0 0), { Ld.ownB with s1 := ⟨⟨-41, -41⟩, 12, 20⟩ }), ((.slice (some ⟨θ 5, 0, none⟩) 4 4), (.slice none 0 0), { Ld.ownB with s0 := ⟨⟨2, 3⟩, 20, 19⟩ }), ((.slice (some ⟨θ 6, 0, none⟩) 4 4), (.slice none 0 0), { Ld.ownB with s0 := ⟨⟨2, 3⟩, 10, 81⟩ }), ((.slice (some ⟨θ 7, 0, none⟩) 4 4), (.slice none 0 0), { Ld.ownB with empty := ⟨5, 10⟩ }), ((.slice (some ⟨θ 8, 0, none⟩) 4 4), (.slice none 0 0), { Ld.ownB with sink := 0 }), ((.slice (some ⟨θ 9, 0, none⟩) 4 4), (.slice none 0 0), { Ld.ownB with under := 11 }), ((.slice (some ⟨θ 10, 0, none⟩) 4 4), (.slice none 0 0), Ld.ownB), ((.slice (some ⟨θ 13, 0, none⟩) 4 4), (.slice (some ⟨θ 12, 0, none⟩) 1 1), (Ld.bookOf [⟨4, 0, 0⟩])), ((.slice (some ⟨θ 16, 0, none⟩) 4 4), (.slice (some ⟨θ 15, 0, none⟩) 1 1), (Ld.bookOf [⟨0, 2, 0⟩])), ((.slice (some ⟨θ 19, 0, none⟩) 4 4), (.slice (some ⟨θ 18, 0, none⟩) 1 1), (Ld.bookOf [⟨0, 0, 121⟩])), ((.slice (some ⟨θ 21, 0, none⟩) 4 4), (.slice (some ⟨θ 20, 0, none⟩) 7 7), (Ld.bookOf [⟨0, 0, 0⟩, ⟨0, 0, 0⟩, ⟨0, 0, 0⟩, ⟨0, 0, 0⟩, ⟨0, 0, 0⟩, ⟨0, 0, 0⟩, ⟨0, 0, 0⟩]))]) 30 (0, 0)) := ⟨_, rfl⟩
          have HR := Lib.hid hR
          clear hR
          refine wp_between R ?first10 ?rest10
          case first10 =>
           as_aux_lemma =>
            subst hA
            have hr := HB.out.row
            have hk := KnA.refl w.heap.size (θ 22) w9
            have q138 := cell_of_row w9 _ 138 _ _ _ hr
            have f138 : w9.frozen? ⟨θ 22, 138, none⟩ = false := by simp [World.frozen?, hr]
            rw [show (cellsOf [((.slice none 0 0), (.slice none 0 0), zBk), ((.slice (some ⟨θ 1, 0, none⟩) 4 4), (.slice none 0 0), Ld.ownB), ((.slice (some ⟨θ 2, 0, none⟩) 4 4), (.slice none 0 0), Ld.ownB), ((.slice (some ⟨θ 3, 0, none⟩) 4 4), (.slice none 0 0), Ld.ownB), ((.slice (some ⟨θ 4, 0, none⟩) 4 4), (.slice none 0 0), { Ld.ownB with s1 := ⟨⟨-41, -41⟩, 12, 20⟩ }), ((.slice (some ⟨θ 5, 0, none⟩) 4 4), (.slice none 0 0), { Ld.ownB with s0 := ⟨⟨2, 3⟩, 20, 19⟩ }), ((.slice (some ⟨θ 6, 0, none⟩) 4 4), (.slice none 0 0), { Ld.ownB with s0 := ⟨⟨2, 3⟩, 10, 81⟩ }), ((.slice (some ⟨θ 7, 0, none⟩) 4 4), (.slice none 0 0), { Ld.ownB with empty := ⟨5, 10⟩ }), ((.slice (some ⟨θ 8, 0, none⟩) 4 4), (.slice none 0 0), { Ld.ownB with sink := 0 }), ((.slice (some ⟨θ 9, 0, none⟩) 4 4), (.slice none 0 0), Ld.ownB), ((.slice (some ⟨θ 10, 0, none⟩) 4 4), (.slice none 0 0), Ld.ownB), ((.slice (some ⟨θ 13, 0, none⟩) 4 4), (.slice (some ⟨θ 12, 0, none⟩) 1 1), (Ld.bookOf [⟨4, 0, 0⟩])), ((.slice (some ⟨θ 16, 0, none⟩) 4 4), (.slice (some ⟨θ 15, 0, none⟩) 1 1), (Ld.bookOf [⟨0, 2, 0⟩])), ((.slice (some ⟨θ 19, 0, none⟩) 4 4), (.slice (some ⟨θ 18, 0, none⟩) 1 1), (Ld.bookOf [⟨0, 0, 121⟩])), ((.slice (some ⟨θ 21, 0, none⟩) 4 4), (.slice (some ⟨θ 20, 0, none⟩) 7 7), (Ld.bookOf [⟨0, 0, 0⟩, ⟨0, 0, 0⟩, ⟨0, 0, 0⟩, ⟨0, 0, 0⟩, ⟨0, 0, 0⟩, ⟨0, 0, 0⟩, ⟨0, 0, 0⟩]))])[138]? = some (I 1) from by kernel_rfl] at q138
            have HR2 := Lib.hid hr
            have HK := Lib.hid hk
            clear hr hk
            go_wp2_with fail
            show R _ _
            rw [HR.out]
            try simp only [putL]
            exact ⟨⟨_, _, _, rfl⟩, (KnA.set HK.out hbf 138 _), ((row_set HR2.out 138 _)).trans (show some (Obj.cells _ _ _) = some (Obj.cells (cellsOf [((.slice none 0 0), (.slice none 0 0), zBk), ((.slice (some ⟨θ 1, 0, none⟩) 4 4), (.slice none 0 0), Ld.ownB), ((.slice (some ⟨θ 2, 0, none⟩) 4 4), (.slice none 0 0), Ld.ownB), ((.slice (some ⟨θ 3, 0, none⟩) 4 4), (.slice none 0 0), Ld.ownB), ((.slice (some ⟨θ 4, 0, none⟩) 4 4), (.slice none 0 0), { Ld.ownB with s1 := ⟨⟨-41, -41⟩, 12, 20⟩ }), ((.slice (some ⟨θ 5, 0, none⟩) 4 4), (.slice none 0 0), { Ld.ownB with s0 := ⟨⟨2, 3⟩, 20, 19⟩ }), ((.slice (some ⟨θ 6, 0, none⟩) 4 4), (.slice none 0 0), { Ld.ownB with s0 := ⟨⟨2, 3⟩, 10, 81⟩ }), ((.slice (some ⟨θ 7, 0, none⟩) 4 4), (.slice none 0 0), { Ld.ownB with empty := ⟨5, 10⟩ }), ((.slice (some ⟨θ 8, 0, none⟩) 4 4), (.slice none 0 0), { Ld.ownB with sink := 0 }), ((.slice (some ⟨θ 9, 0, none⟩) 4 4), (.slice none 0 0), { Ld.ownB with under := 11 }), ((.slice (some ⟨θ 10, 0, none⟩) 4 4), (.slice none 0 0), Ld.ownB), ((.slice (some ⟨θ 13, 0, none⟩) 4 4), (.slice (some ⟨θ 12, 0, none⟩) 1 1), (Ld.bookOf [⟨4, 0, 0⟩])), ((.slice (some ⟨θ 16, 0, none⟩) 4 4), (.slice (some ⟨θ 15, 0, none⟩) 1 1), (Ld.bookOf [⟨0, 2, 0⟩])), ((.slice (some ⟨θ 19, 0, none⟩) 4 4), (.slice (some ⟨θ 18, 0, none⟩) 1 1), (Ld.bookOf [⟨0, 0, 121⟩])), ((.slice (some ⟨θ 21, 0, none⟩) 4 4), (.slice (some ⟨θ 20, 0, none⟩) 7 7), (Ld.bookOf [⟨0, 0, 0⟩, ⟨0, 0, 0⟩, ⟨0, 0, 0⟩, ⟨0, 0, 0⟩, ⟨0, 0, 0⟩, ⟨0, 0, 0⟩, ⟨0, 0, 0⟩]))]) 30 (0, 0)) from by kernel_rfl)⟩
          case rest10 =>
           intro a' w10 hra
           rw [HR.out] at hra
           clear HR
           obtain ⟨⟨u116, u117, u118, rfl⟩, hA10, hx10⟩ := hra
           subst hA
           try simp only [putL]
           have hB' := HB.out.bad (fun i hi => hba i (his3 i hi)) hA10 hx10
           clear HB hA10 hx10
           have HB := Lib.hid hB'
           clear hB'
           go_upto_region 11 with fail
           refine name_act ?_
           intro A hA
           obtain ⟨R, hR⟩ : ∃ R : Act → World → Prop, R = fun a' w' => (∃ u119 u120 u121 u122, a' = ((((A.put (some 119) u119).put (some 120) u120).put (some 121) u121).put (some 122) u122)) ∧ KnA w.heap.size (θ 22) w10 w' ∧ w'.heap[θ 22]? = some (.cells (cellsOf [((.slice none 0 0), (.slice none 0 0), zBk), ((.slice (some ⟨θ 1, 0, none⟩) 4 4), (.slice none 0 0), Ld.ownB), ((.slice (some ⟨θ 2, 0, none⟩) 4 4), (.slice none 0 0), Ld.ownB), ((.slice (some ⟨θ 3, 0, none⟩) 4 4), (.slice none 0 0), Ld.ownB), ((.slice (some ⟨θ 4, 0, none⟩) 4 4), (.slice none 0 0), { Ld.ownB with s1 := ⟨⟨-41, -41⟩, 12, 20⟩ }), ((.slice (some ⟨θ 5, 0, none⟩) 4 4), (.slice none 0 0), { Ld.ownB with s0 := ⟨⟨2, 3⟩, 20, 19⟩ }), ((.slice (some ⟨θ 6, 0, none⟩) 4 4), (.slice none 0 0), { Ld.ownB with s0 := ⟨⟨2, 3⟩, 10, 81⟩ }), ((.slice (some ⟨θ 7, 0, none⟩) 4 4), (.slice none 0 0), { Ld.ownB with empty := ⟨5, 10⟩ }), ((.slice (some ⟨θ 8, 0, none⟩) 4 4), (.slice none 0 0), { Ld.ownB with sink := 0 }), ((.slice (some ⟨θ 9, 0, none⟩) 4 4), (.slice none 0 0), { Ld.ownB with under := 11 }), ((.slice (some ⟨w10.heap.size, 0, none⟩) 25 25), (.slice none 0 0), { Ld.ownB with tides := List.replicate 25 ⟨0, 0⟩ }), ((.slice (some ⟨θ 13, 0, none⟩) 4 4), (.slice (some ⟨θ 12, 0, none⟩) 1 1), (Ld.bookOf [⟨4, 0, 0⟩])), ((.slice (some ⟨θ 16, 0, none⟩) 4 4), (.slice (some ⟨θ 15, 0, none⟩) 1 1), (Ld.bookOf [⟨0, 2, 0⟩])), ((.slice (some ⟨θ 19, 0, none⟩) 4 4), (.slice (some ⟨θ 18, 0, none⟩) 1 1), (Ld.bookOf [⟨0, 0, 121⟩])), ((.slice (some ⟨θ 21, 0, none⟩) 4 4), (.slice (some ⟨θ 20, 0, none⟩) 7 7), (Ld.bookOf [⟨0, 0, 0⟩, ⟨0, 0, 0⟩, ⟨0, 0, 0⟩, ⟨0, 0, 0⟩, ⟨0, 0, 0⟩, ⟨0, 0, 0⟩, ⟨0, 0, 0⟩]))]) 30 (0, 0)) ∧ w'.heap[w10.heap.size]? = some (.cells #[I 0, I 0, I 0, I 0, I 0, I 0, I 0, I 0, I 0, I 0, I 0, I 0, I 0, I 0, I 0, I 0, I 0, I 0, I 0, I 0, I 0, I 0, I 0, I 0, I 0, I 0, I 0, I 0, I 0, I 0, I 0, I 0, I 0, I 0, I 0, I 0, I 0, I 0, I 0, I 0, I 0, I 0, I 0, I 0, I 0, I 0, I 0, I 0, I 0, I 0] 24 (0, 0)) := ⟨_, rfl⟩
           have HR := Lib.hid hR
           clear hR
           refine wp_between R ?first11 ?rest11
           case first11 =>
            as_aux_lemma =>
             subst hA
             have hr := HB.out.row
             have hlt := heap_lt hr
             have q140 := cell_of_row w10 _ 140 _ _ _ hr
             rw [show (cellsOf [((.slice none 0 0), (.slice none 0 0), zBk), ((.slice (some ⟨θ 1, 0, none⟩) 4 4), (.slice none 0 0), Ld.ownB), ((.slice (some ⟨θ 2, 0, none⟩) 4 4), (.slice none 0 0), Ld.ownB), ((.slice (some ⟨θ 3, 0, none⟩) 4 4), (.slice none 0 0), Ld.ownB), ((.slice (some ⟨θ 4, 0, none⟩) 4 4), (.slice none 0 0), { Ld.ownB with s1 := ⟨⟨-41, -41⟩, 12, 20⟩ }), ((.slice (some ⟨θ 5, 0, none⟩) 4 4), (.slice none 0 0), { Ld.ownB with s0 := ⟨⟨2, 3⟩, 20, 19⟩ }), ((.slice (some ⟨θ 6, 0, none⟩) 4 4), (.slice none 0 0), { Ld.ownB with s0 := ⟨⟨2, 3⟩, 10, 81⟩ }), ((.slice (some ⟨θ 7, 0, none⟩) 4 4), (.slice none 0 0), { Ld.ownB with empty := ⟨5, 10⟩ }), ((.slice (some ⟨θ 8, 0, none⟩) 4 4), (.slice none 0 0), { Ld.ownB with sink := 0 }), ((.slice (some ⟨θ 9, 0, none⟩) 4 4), (.slice none 0 0), { Ld.ownB with under := 11 }), ((.slice (some ⟨θ 10, 0, none⟩) 4 4), (.slice none 0 0), Ld.ownB), ((.slice (some ⟨θ 13, 0, none⟩) 4 4), (.slice (some ⟨θ 12, 0, none⟩) 1 1), (Ld.bookOf [⟨4, 0, 0⟩])), ((.slice (some ⟨θ 16, 0, none⟩) 4 4), (.slice (some ⟨θ 15, 0, none⟩) 1 1), (Ld.bookOf [⟨0, 2, 0⟩])), ((.slice (some ⟨θ 19, 0, none⟩) 4 4), (.slice (some ⟨θ 18, 0, none⟩) 1 1), (Ld.bookOf [⟨0, 0, 121⟩])), ((.slice (some ⟨θ 21, 0, none⟩) 4 4), (.slice (some ⟨θ 20, 0, none⟩) 7 7), (Ld.bookOf [⟨0, 0, 0⟩, ⟨0, 0, 0⟩, ⟨0, 0, 0⟩, ⟨0, 0, 0⟩, ⟨0, 0, 0⟩, ⟨0, 0, 0⟩, ⟨0, 0, 0⟩]))])[140]? = some (.slice (some ⟨θ 10, 0, none⟩) 4 4) from by kernel_rfl] at q140
             have f140 : w10.frozen? ⟨θ 22, 140, none⟩ = false := by simp [World.frozen?, hr]
             have HR2 := Lib.hid hr
             clear hr
             have hmk : ∀ w : World, (Instr.makeSlice 22 (.int .i64 25) (.int .i64 25)).run Try.prog w = .ok (.slice (some ⟨w.heap.size, 0, none⟩) 25 25) (w.alloc (.cells #[I 0, I 0, I 0, I 0, I 0, I 0, I 0, I 0, I 0, I 0, I 0, I 0, I 0, I 0, I 0, I 0, I 0, I 0, I 0, I 0, I 0, I 0, I 0, I 0, I 0, I 0, I 0, I 0, I 0, I 0, I 0, I 0, I 0, I 0, I 0, I 0, I 0, I 0, I 0, I 0, I 0, I 0, I 0, I 0, I 0, I 0, I 0, I 0, I 0, I 0] 24 (0, 0))) := fun _ => by kernel_rfl
             go_wp2_with fail
             show R _ _
             rw [HR.out]
             try simp only [putL]
             exact ⟨⟨_, _, _, _, rfl⟩, (((KnA.refl w.heap.size (θ 22) w10).set hbf 140 _).step HB.out.bel.size ((Below.refl _ _).alloc (Nat.le_refl _) _)), (Below.heap_alloc _ _ _ (by simp [World.setCell]; omega)).trans ((row_set HR2.out 140 _).trans (show some (Obj.cells _ _ _) = some (Obj.cells (cellsOf [((.slice none 0 0), (.slice none 0 0), zBk), ((.slice (some ⟨θ 1, 0, none⟩) 4 4), (.slice none 0 0), Ld.ownB), ((.slice (some ⟨θ 2, 0, none⟩) 4 4), (.slice none 0 0), Ld.ownB), ((.slice (some ⟨θ 3, 0, none⟩) 4 4), (.slice none 0 0), Ld.ownB), ((.slice (some ⟨θ 4, 0, none⟩) 4 4), (.slice none 0 0), { Ld.ownB with s1 := ⟨⟨-41, -41⟩, 12, 20⟩ }), ((.slice (some ⟨θ 5, 0, none⟩) 4 4), (.slice none 0 0), { Ld.ownB with s0 := ⟨⟨2, 3⟩, 20, 19⟩ }), ((.slice (some ⟨θ 6, 0, none⟩) 4 4), (.slice none 0 0), { Ld.ownB with s0 := ⟨⟨2, 3⟩, 10, 81⟩ }), ((.slice (some ⟨θ 7, 0, none⟩) 4 4), (.slice none 0 0), { Ld.ownB with empty := ⟨5, 10⟩ }), ((.slice (some ⟨θ 8, 0, none⟩) 4 4), (.slice none 0 0), { Ld.ownB with sink := 0 }), ((.slice (some ⟨θ 9, 0, none⟩) 4 4), (.slice none 0 0), { Ld.ownB with under := 11 }), ((.slice (some ⟨w10.heap.size, 0, none⟩) 25 25), (.slice none 0 0), { Ld.ownB with tides := List.replicate 25 ⟨0, 0⟩ }), ((.slice (some ⟨θ 13, 0, none⟩) 4 4), (.slice (some ⟨θ 12, 0, none⟩) 1 1), (Ld.bookOf [⟨4, 0, 0⟩])), ((.slice (some ⟨θ 16, 0, none⟩) 4 4), (.slice (some ⟨θ 15, 0, none⟩) 1 1), (Ld.bookOf [⟨0, 2, 0⟩])), ((.slice (some ⟨θ 19, 0, none⟩) 4 4), (.slice (some ⟨θ 18, 0, none⟩) 1 1), (Ld.bookOf [⟨0, 0, 121⟩])), ((.slice (some ⟨θ 21, 0, none⟩) 4 4), (.slice (some ⟨θ 20, 0, none⟩) 7 7), (Ld.bookOf [⟨0, 0, 0⟩, ⟨0, 0, 0⟩, ⟨0, 0, 0⟩, ⟨0, 0, 0⟩, ⟨0, 0, 0⟩, ⟨0, 0, 0⟩, ⟨0, 0, 0⟩]))]) 30 (0, 0)) from by kernel_rfl)), heap_at _ _ (by simp [World.setCell])⟩
           case rest11 =>
            intro a' w11 hra
            rw [HR.out] at hra
            clear HR
            obtain ⟨⟨u119, u120, u121, u122, rfl⟩, hA11, hx11, hz11⟩ := hra
            subst hA
            try simp only [putL]
            have hB' := HB.out.bad (fun i hi => hba i (his3 i hi)) hA11 hx11
            clear HB hA11 hx11
            have HB := Lib.hid hB'
            clear hB'
            have hBd := heap_lt HB.out.row
            have hall : ∀ j : Nat, j < 15 → ∃ T D b, BadAt (θ 22) j T D b w11 := by
             intro j hj
             have hj' : j = 0 ∨ j = 1 ∨ j = 2 ∨ j = 3 ∨ j = 4 ∨ j = 5 ∨ j = 6 ∨ j = 7 ∨ j = 8 ∨ j = 9 ∨ j = 10 ∨ j = 11 ∨ j = 12 ∨ j = 13 ∨ j = 14 := by omega
             rcases hj' with rfl | rfl | rfl | rfl | rfl | rfl | rfl | rfl | rfl | rfl | rfl | rfl | rfl | rfl | rfl
             · refine ⟨(.slice none 0 0), (.slice none 0 0), zBk, fun c hc => ?_, ⟨sl_nil _ _ _, sl_nil _ _ _⟩, by decide +kernel⟩
               refine (HB.out.cell _).trans ?_
               have hc' : c = 0 ∨ c = 1 ∨ c = 2 ∨ c = 3 ∨ c = 4 ∨ c = 5 ∨ c = 6 ∨ c = 7 ∨ c = 8 ∨ c = 9 ∨ c = 10 ∨ c = 11 ∨ c = 12 ∨ c = 13 := by omega
               rcases hc' with rfl | rfl | rfl | rfl | rfl | rfl | rfl | rfl | rfl | rfl | rfl | rfl | rfl | rfl <;> (show _ = _; kernel_rfl)
             · refine ⟨(.slice (some ⟨θ 1, 0, none⟩) 4 4), (.slice none 0 0), { Ld.ownB with tides := [⟨10, 15⟩, ⟨14, 15⟩, ⟨18, 20⟩, ⟨16, 17⟩] }, fun c hc => ?_, ⟨sl_new (by rfl) (by decide) (heap_lt (HB.out.tides 1 _ hk3_1)) (HB.out.tides 1 _ hk3_1), sl_nil _ _ _⟩, by decide +kernel⟩
               refine (HB.out.cell _).trans ?_
               have hc' : c = 0 ∨ c = 1 ∨ c = 2 ∨ c = 3 ∨ c = 4 ∨ c = 5 ∨ c = 6 ∨ c = 7 ∨ c = 8 ∨ c = 9 ∨ c = 10 ∨ c = 11 ∨ c = 12 ∨ c = 13 := by omega
               rcases hc' with rfl | rfl | rfl | rfl | rfl | rfl | rfl | rfl | rfl | rfl | rfl | rfl | rfl | rfl <;> (show _ = _; kernel_rfl)
             · refine ⟨(.slice (some ⟨θ 2, 0, none⟩) 4 4), (.slice none 0 0), { Ld.ownB with tides := [⟨81, 81⟩, ⟨14, 15⟩, ⟨18, 20⟩, ⟨16, 17⟩] }, fun c hc => ?_, ⟨sl_new (by rfl) (by decide) (heap_lt (HB.out.tides 2 _ hk3_2)) (HB.out.tides 2 _ hk3_2), sl_nil _ _ _⟩, by decide +kernel⟩
               refine (HB.out.cell _).trans ?_
               have hc' : c = 0 ∨ c = 1 ∨ c = 2 ∨ c = 3 ∨ c = 4 ∨ c = 5 ∨ c = 6 ∨ c = 7 ∨ c = 8 ∨ c = 9 ∨ c = 10 ∨ c = 11 ∨ c = 12 ∨ c = 13 := by omega
               rcases hc' with rfl | rfl | rfl | rfl | rfl | rfl | rfl | rfl | rfl | rfl | rfl | rfl | rfl | rfl <;> (show _ = _; kernel_rfl)
             · refine ⟨(.slice (some ⟨θ 3, 0, none⟩) 4 4), (.slice none 0 0), { Ld.ownB with tides := [⟨12, 10⟩, ⟨14, 15⟩, ⟨18, 20⟩, ⟨16, 17⟩] }, fun c hc => ?_, ⟨sl_new (by rfl) (by decide) (heap_lt (HB.out.tides 3 _ hk3_3)) (HB.out.tides 3 _ hk3_3), sl_nil _ _ _⟩, by decide +kernel⟩
               refine (HB.out.cell _).trans ?_
               have hc' : c = 0 ∨ c = 1 ∨ c = 2 ∨ c = 3 ∨ c = 4 ∨ c = 5 ∨ c = 6 ∨ c = 7 ∨ c = 8 ∨ c = 9 ∨ c = 10 ∨ c = 11 ∨ c = 12 ∨ c = 13 := by omega
               rcases hc' with rfl | rfl | rfl | rfl | rfl | rfl | rfl | rfl | rfl | rfl | rfl | rfl | rfl | rfl <;> (show _ = _; kernel_rfl)
             · refine ⟨(.slice (some ⟨θ 4, 0, none⟩) 4 4), (.slice none 0 0), { Ld.ownB with s1 := ⟨⟨-41, -41⟩, 12, 20⟩ }, fun c hc => ?_, ⟨sl_new (by rfl) (by decide) (heap_lt (HB.out.tides 4 _ (htr3 4 (by decide) rfl))) (HB.out.tides 4 _ (htr3 4 (by decide) rfl)), sl_nil _ _ _⟩, by decide +kernel⟩
               refine (HB.out.cell _).trans ?_
               have hc' : c = 0 ∨ c = 1 ∨ c = 2 ∨ c = 3 ∨ c = 4 ∨ c = 5 ∨ c = 6 ∨ c = 7 ∨ c = 8 ∨ c = 9 ∨ c = 10 ∨ c = 11 ∨ c = 12 ∨ c = 13 := by omega
               rcases hc' with rfl | rfl | rfl | rfl | rfl | rfl | rfl | rfl | rfl | rfl | rfl | rfl | rfl | rfl <;> (show _ = _; kernel_rfl)
             · refine ⟨(.slice (some ⟨θ 5, 0, none⟩) 4 4), (.slice none 0 0), { Ld.ownB with s0 := ⟨⟨2, 3⟩, 20, 19⟩ }, fun c hc => ?_, ⟨sl_new (by rfl) (by decide) (heap_lt (HB.out.tides 5 _ (htr3 5 (by decide) rfl))) (HB.out.tides 5 _ (htr3 5 (by decide) rfl)), sl_nil _ _ _⟩, by decide +kernel⟩
               refine (HB.out.cell _).trans ?_
               have hc' : c = 0 ∨ c = 1 ∨ c = 2 ∨ c = 3 ∨ c = 4 ∨ c = 5 ∨ c = 6 ∨ c = 7 ∨ c = 8 ∨ c = 9 ∨ c = 10 ∨ c = 11 ∨ c = 12 ∨ c = 13 := by omega
               rcases hc' with rfl | rfl | rfl | rfl | rfl | rfl | rfl | rfl | rfl | rfl | rfl | rfl | rfl | rfl <;> (show _ = _; kernel_rfl)
             · refine ⟨(.slice (some ⟨θ 6, 0, none⟩) 4 4), (.slice none 0 0), { Ld.ownB with s0 := ⟨⟨2, 3⟩, 10, 81⟩ }, fun c hc => ?_, ⟨sl_new (by rfl) (by decide) (heap_lt (HB.out.tides 6 _ (htr3 6 (by decide) rfl))) (HB.out.tides 6 _ (htr3 6 (by decide) rfl)), sl_nil _ _ _⟩, by decide +kernel⟩
               refine (HB.out.cell _).trans ?_
               have hc' : c = 0 ∨ c = 1 ∨ c = 2 ∨ c = 3 ∨ c = 4 ∨ c = 5 ∨ c = 6 ∨ c = 7 ∨ c = 8 ∨ c = 9 ∨ c = 10 ∨ c = 11 ∨ c = 12 ∨ c = 13 := by omega
               rcases hc' with rfl | rfl | rfl | rfl | rfl | rfl | rfl | rfl | rfl | rfl | rfl | rfl | rfl | rfl <;> (show _ = _; kernel_rfl)
             · refine ⟨(.slice (some ⟨θ 7, 0, none⟩) 4 4), (.slice none 0 0), { Ld.ownB with empty := ⟨5, 10⟩ }, fun c hc => ?_, ⟨sl_new (by rfl) (by decide) (heap_lt (HB.out.tides 7 _ (htr3 7 (by decide) rfl))) (HB.out.tides 7 _ (htr3 7 (by decide) rfl)), sl_nil _ _ _⟩, by decide +kernel⟩
               refine (HB.out.cell _).trans ?_
               have hc' : c = 0 ∨ c = 1 ∨ c = 2 ∨ c = 3 ∨ c = 4 ∨ c = 5 ∨ c = 6 ∨ c = 7 ∨ c = 8 ∨ c = 9 ∨ c = 10 ∨ c = 11 ∨ c = 12 ∨ c = 13 := by omega
               rcases hc' with rfl | rfl | rfl | rfl | rfl | rfl | rfl | rfl | rfl | rfl | rfl | rfl | rfl | rfl <;> (show _ = _; kernel_rfl)
             · refine ⟨(.slice (some ⟨θ 8, 0, none⟩) 4 4), (.slice none 0 0), { Ld.ownB with sink := 0 }, fun c hc => ?_, ⟨sl_new (by rfl) (by decide) (heap_lt (HB.out.tides 8 _ (htr3 8 (by decide) rfl))) (HB.out.tides 8 _ (htr3 8 (by decide) rfl)), sl_nil _ _ _⟩, by decide +kernel⟩
               refine (HB.out.cell _).trans ?_
               have hc' : c = 0 ∨ c = 1 ∨ c = 2 ∨ c = 3 ∨ c = 4 ∨ c = 5 ∨ c = 6 ∨ c = 7 ∨ c = 8 ∨ c = 9 ∨ c = 10 ∨ c = 11 ∨ c = 12 ∨ c = 13 := by omega
               rcases hc' with rfl | rfl | rfl | rfl | rfl | rfl | rfl | rfl | rfl | rfl | rfl | rfl | rfl | rfl <;> (show _ = _; kernel_rfl)
             · refine ⟨(.slice (some ⟨θ 9, 0, none⟩) 4 4), (.slice none 0 0), { Ld.ownB with under := 11 }, fun c hc => ?_, ⟨sl_new (by rfl) (by decide) (heap_lt (HB.out.tides 9 _ (htr3 9 (by decide) rfl))) (HB.out.tides 9 _ (htr3 9 (by decide) rfl)), sl_nil _ _ _⟩, by decide +kernel⟩
               refine (HB.out.cell _).trans ?_
               have hc' : c = 0 ∨ c = 1 ∨ c = 2 ∨ c = 3 ∨ c = 4 ∨ c = 5 ∨ c = 6 ∨ c = 7 ∨ c = 8 ∨ c = 9 ∨ c = 10 ∨ c = 11 ∨ c = 12 ∨ c = 13 := by omega
               rcases hc' with rfl | rfl | rfl | rfl | rfl | rfl | rfl | rfl | rfl | rfl | rfl | rfl | rfl | rfl <;> (show _ = _; kernel_rfl)
             · refine ⟨(.slice (some ⟨w10.heap.size, 0, none⟩) 25 25), (.slice none 0 0), { Ld.ownB with tides := List.replicate 25 ⟨0, 0⟩ }, fun c hc => ?_, ⟨sl_new (by rfl) (by decide) (heap_lt hz11) hz11, sl_nil _ _ _⟩, by decide +kernel⟩
               refine (HB.out.cell _).trans ?_
               have hc' : c = 0 ∨ c = 1 ∨ c = 2 ∨ c = 3 ∨ c = 4 ∨ c = 5 ∨ c = 6 ∨ c = 7 ∨ c = 8 ∨ c = 9 ∨ c = 10 ∨ c = 11 ∨ c = 12 ∨ c = 13 := by omega
               rcases hc' with rfl | rfl | rfl | rfl | rfl | rfl | rfl | rfl | rfl | rfl | rfl | rfl | rfl | rfl <;> (show _ = _; kernel_rfl)
             · refine ⟨(.slice (some ⟨θ 13, 0, none⟩) 4 4), (.slice (some ⟨θ 12, 0, none⟩) 1 1), (Ld.bookOf [⟨4, 0, 0⟩]), fun c hc => ?_, ⟨sl_new (by rfl) (by decide) (heap_lt (HB.out.tides 13 _ (htr3 13 (by decide) rfl))) (HB.out.tides 13 _ (htr3 13 (by decide) rfl)), sl_new (by rfl) (by decide) (heap_lt (HB.out.tides 12 _ (htr3 12 (by decide) rfl))) (HB.out.tides 12 _ (htr3 12 (by decide) rfl))⟩, by decide +kernel⟩
               refine (HB.out.cell _).trans ?_
               have hc' : c = 0 ∨ c = 1 ∨ c = 2 ∨ c = 3 ∨ c = 4 ∨ c = 5 ∨ c = 6 ∨ c = 7 ∨ c = 8 ∨ c = 9 ∨ c = 10 ∨ c = 11 ∨ c = 12 ∨ c = 13 := by omega
               rcases hc' with rfl | rfl | rfl | rfl | rfl | rfl | rfl | rfl | rfl | rfl | rfl | rfl | rfl | rfl <;> (show _ = _; kernel_rfl)
             · refine ⟨(.slice (some ⟨θ 16, 0, none⟩) 4 4), (.slice (some ⟨θ 15, 0, none⟩) 1 1), (Ld.bookOf [⟨0, 2, 0⟩]), fun c hc => ?_, ⟨sl_new (by rfl) (by decide) (heap_lt (HB.out.tides 16 _ (htr3 16 (by decide) rfl))) (HB.out.tides 16 _ (htr3 16 (by decide) rfl)), sl_new (by rfl) (by decide) (heap_lt (HB.out.tides 15 _ (htr3 15 (by decide) rfl))) (HB.out.tides 15 _ (htr3 15 (by decide) rfl))⟩, by decide +kernel⟩
               refine (HB.out.cell _).trans ?_
               have hc' : c = 0 ∨ c = 1 ∨ c = 2 ∨ c = 3 ∨ c = 4 ∨ c = 5 ∨ c = 6 ∨ c = 7 ∨ c = 8 ∨ c = 9 ∨ c = 10 ∨ c = 11 ∨ c = 12 ∨ c = 13 := by omega
               rcases hc' with rfl | rfl | rfl | rfl | rfl | rfl | rfl | rfl | rfl | rfl | rfl | rfl | rfl | rfl <;> (show _ = _; kernel_rfl)
             · refine ⟨(.slice (some ⟨θ 19, 0, none⟩) 4 4), (.slice (some ⟨θ 18, 0, none⟩) 1 1), (Ld.bookOf [⟨0, 0, 121⟩]), fun c hc => ?_, ⟨sl_new (by rfl) (by decide) (heap_lt (HB.out.tides 19 _ (htr3 19 (by decide) rfl))) (HB.out.tides 19 _ (htr3 19 (by decide) rfl)), sl_new (by rfl) (by decide) (heap_lt (HB.out.tides 18 _ (htr3 18 (by decide) rfl))) (HB.out.tides 18 _ (htr3 18 (by decide) rfl))⟩, by decide +kernel⟩
               refine (HB.out.cell _).trans ?_
               have hc' : c = 0 ∨ c = 1 ∨ c = 2 ∨ c = 3 ∨ c = 4 ∨ c = 5 ∨ c = 6 ∨ c = 7 ∨ c = 8 ∨ c = 9 ∨ c = 10 ∨ c = 11 ∨ c = 12 ∨ c = 13 := by omega
               rcases hc' with rfl | rfl | rfl | rfl | rfl | rfl | rfl | rfl | rfl | rfl | rfl | rfl | rfl | rfl <;> (show _ = _; kernel_rfl)
             · refine ⟨(.slice (some ⟨θ 21, 0, none⟩) 4 4), (.slice (some ⟨θ 20, 0, none⟩) 7 7), (Ld.bookOf [⟨0, 0, 0⟩, ⟨0, 0, 0⟩, ⟨0, 0, 0⟩, ⟨0, 0, 0⟩, ⟨0, 0, 0⟩, ⟨0, 0, 0⟩, ⟨0, 0, 0⟩]), fun c hc => ?_, ⟨sl_new (by rfl) (by decide) (heap_lt (HB.out.tides 21 _ (htr3 21 (by decide) rfl))) (HB.out.tides 21 _ (htr3 21 (by decide) rfl)), sl_new (by rfl) (by decide) (heap_lt (HB.out.tides 20 _ (htr3 20 (by decide) rfl))) (HB.out.tides 20 _ (htr3 20 (by decide) rfl))⟩, by decide +kernel⟩
               refine (HB.out.cell _).trans ?_
               have hc' : c = 0 ∨ c = 1 ∨ c = 2 ∨ c = 3 ∨ c = 4 ∨ c = 5 ∨ c = 6 ∨ c = 7 ∨ c = 8 ∨ c = 9 ∨ c = 10 ∨ c = 11 ∨ c = 12 ∨ c = 13 := by omega
               rcases hc' with rfl | rfl | rfl | rfl | rfl | rfl | rfl | rfl | rfl | rfl | rfl | rfl | rfl | rfl <;> (show _ = _; kernel_rfl)
            have hb11 := HB.out.bel
            have HALL := Lib.hid hall
            have HB11 := Lib.hid hb11
            clear hall hb11 hz11 HB hk3_1 hk3_2 hk3_3 his3 htr3 hap hfr hba
            go_wp2_with fail
            go_loopw [2] (fun i wr => ∃ j : Nat, j ≤ 15 ∧ i = I j ∧ Below w11.heap.size w11 wr) (fun i _ => 15 - (intOf i).toNat)
            case atStart => exact ⟨0, by omega, rfl, Below.refl _ _⟩
            case round =>
             obtain ⟨j, hj, rfl, hwr⟩ := hrel
             by_cases hlt : j < 15
             · as_aux_lemma =>
                have hji : (j : Int) < 15 := by omega
                obtain ⟨T, D, b, hb0⟩ := HALL.out j hlt
                have HAT := Lib.hid (show ∀ W', Below w11.heap.size w11 W' → BadAt (θ 22) j T D b W' from fun W' h => hb0.up hBd h)
                have herr := hb0.err
                clear hb0
                obtain ⟨A0, k0, rfl⟩ := (HAT.out _ hwr).rb.tides.form
                obtain ⟨A1, k1, rfl⟩ := (HAT.out _ hwr).rb.sounds.form
                have hlz : θ 22 < wr.heap.size := Nat.lt_of_lt_of_le hBd hwr.size
                have hat := HAT.out _ hwr
                have q0 := hat.cell 0 (by decide)
                have q1 := hat.cell 1 (by decide)
                have q2 := hat.cell 2 (by decide)
                have q3 := hat.cell 3 (by decide)
                have q4 := hat.cell 4 (by decide)
                have q5 := hat.cell 5 (by decide)
                have q6 := hat.cell 6 (by decide)
                have q7 := hat.cell 7 (by decide)
                have q8 := hat.cell 8 (by decide)
                have q9 := hat.cell 9 (by decide)
                have q10 := hat.cell 10 (by decide)
                have q11 := hat.cell 11 (by decide)
                have q12 := hat.cell 12 (by decide)
                have q13 := hat.cell 13 (by decide)
                simp only [List.getElem?_toArray, List.getElem?_cons_zero, List.getElem?_cons_succ, Nat.add_zero] at q0 q1 q2 q3 q4 q5 q6 q7 q8 q9 q10 q11 q12 q13
                clear hat
                go_wp2_with fail
                clear hlz q0 q1 q2 q3 q4 q5 q6 q7 q8 q9 q10 q11 q12 q13
                refine (right_any b (.slice A0 b.tides.length k0) (.slice A1 b.sounds.length k1) _ (HAT.out _ hwr).rb).mono ?_
                rintro e a1 ⟨rfl, hB⟩
                have ha1 := hwr.trans (hB.mono hwr.size)
                clear hB hwr
                rw [herr]
                generalize (Ld.valid b && Ld.possible b) = xa1
                have hlz : θ 22 < a1.heap.size := Nat.lt_of_lt_of_le hBd ha1.size
                have hat := HAT.out _ ha1
                have q0 := hat.cell 0 (by decide)
                have q1 := hat.cell 1 (by decide)
                have q2 := hat.cell 2 (by decide)
                have q3 := hat.cell 3 (by decide)
                have q4 := hat.cell 4 (by decide)
                have q5 := hat.cell 5 (by decide)
                have q6 := hat.cell 6 (by decide)
                have q7 := hat.cell 7 (by decide)
                have q8 := hat.cell 8 (by decide)
                have q9 := hat.cell 9 (by decide)
                have q10 := hat.cell 10 (by decide)
                have q11 := hat.cell 11 (by decide)
                have q12 := hat.cell 12 (by decide)
                have q13 := hat.cell 13 (by decide)
                simp only [List.getElem?_toArray, List.getElem?_cons_zero, List.getElem?_cons_succ, Nat.add_zero] at q0 q1 q2 q3 q4 q5 q6 q7 q8 q9 q10 q11 q12 q13
                clear hat
                go_wp2_with fail
                clear hlz q0 q1 q2 q3 q4 q5 q6 q7 q8 q9 q10 q11 q12 q13
                refine (Height_any b (.slice A0 b.tides.length k0) (.slice A1 b.sounds.length k1) (-1) _ (HAT.out _ ha1).rb).mono ?_
                rintro e a2 ⟨rfl, hB⟩
                have ha2 := ha1.trans (hB.mono ha1.size)
                clear hB ha1
                rw [Ld.bad_study herr]
                generalize Ld.heightR b (-1) = xa2
                have hlz : θ 22 < a2.heap.size := Nat.lt_of_lt_of_le hBd ha2.size
                have hat := HAT.out _ ha2
                have q0 := hat.cell 0 (by decide)
                have q1 := hat.cell 1 (by decide)
                have q2 := hat.cell 2 (by decide)
                have q3 := hat.cell 3 (by decide)
                have q4 := hat.cell 4 (by decide)
                have q5 := hat.cell 5 (by decide)
                have q6 := hat.cell 6 (by decide)
                have q7 := hat.cell 7 (by decide)
                have q8 := hat.cell 8 (by decide)
                have q9 := hat.cell 9 (by decide)
                have q10 := hat.cell 10 (by decide)
                have q11 := hat.cell 11 (by decide)
                have q12 := hat.cell 12 (by decide)
                have q13 := hat.cell 13 (by decide)
                simp only [List.getElem?_toArray, List.getElem?_cons_zero, List.getElem?_cons_succ, Nat.add_zero] at q0 q1 q2 q3 q4 q5 q6 q7 q8 q9 q10 q11 q12 q13
                clear hat
                go_wp2_with fail
                clear hlz q0 q1 q2 q3 q4 q5 q6 q7 q8 q9 q10 q11 q12 q13
                refine name_calls ?_
                intro a3 hW
                have hA : Below a2.heap.size a2 a3 := by rw [hW]; exact (Below.refl _ _).alloc (Nat.le_refl _) _
                have ha3 := ha2.trans (hA.mono ha2.size)
                clear hW hA ha2
                refine (floor_any b (.slice A0 b.tides.length k0) (.slice A1 b.sounds.length k1) (-1) _ (HAT.out _ ha3).rb).mono ?_
                rintro e a4 ⟨rfl, hB⟩
                have ha4 := ha3.trans (hB.mono ha3.size)
                clear hB ha3
                rw [Ld.bad_study herr]
                generalize Ld.floorR b (-1) = xa4
                have hlz : θ 22 < a4.heap.size := Nat.lt_of_lt_of_le hBd ha4.size
                have hat := HAT.out _ ha4
                have q0 := hat.cell 0 (by decide)
                have q1 := hat.cell 1 (by decide)
                have q2 := hat.cell 2 (by decide)
                have q3 := hat.cell 3 (by decide)
                have q4 := hat.cell 4 (by decide)
                have q5 := hat.cell 5 (by decide)
                have q6 := hat.cell 6 (by decide)
                have q7 := hat.cell 7 (by decide)
                have q8 := hat.cell 8 (by decide)
                have q9 := hat.cell 9 (by decide)
                have q10 := hat.cell 10 (by decide)
                have q11 := hat.cell 11 (by decide)
                have q12 := hat.cell 12 (by decide)
                have q13 := hat.cell 13 (by decide)
                simp only [List.getElem?_toArray, List.getElem?_cons_zero, List.getElem?_cons_succ, Nat.add_zero] at q0 q1 q2 q3 q4 q5 q6 q7 q8 q9 q10 q11 q12 q13
                clear hat
                go_wp2_with fail
                clear hlz q0 q1 q2 q3 q4 q5 q6 q7 q8 q9 q10 q11 q12 q13
                refine name_calls ?_
                intro a5 hW
                have hA : Below a4.heap.size a4 a5 := by rw [hW]; exact (Below.refl _ _).alloc (Nat.le_refl _) _
                have ha5 := ha4.trans (hA.mono ha4.size)
                clear hW hA ha4
                refine (Lands_any b (.slice A0 b.tides.length k0) (.slice A1 b.sounds.length k1) (-1) (-1) (-1) _ (HAT.out _ ha5).rb).mono ?_
                rintro e a6 ⟨rfl, hB⟩
                have ha6 := ha5.trans (hB.mono ha5.size)
                clear hB ha5
                rw [Ld.bad_lands herr]
                generalize (Ld.landsR b (-1) (-1) (-1)).1 = xa6
                have hlz : θ 22 < a6.heap.size := Nat.lt_of_lt_of_le hBd ha6.size
                have hat := HAT.out _ ha6
                have q0 := hat.cell 0 (by decide)
                have q1 := hat.cell 1 (by decide)
                have q2 := hat.cell 2 (by decide)
                have q3 := hat.cell 3 (by decide)
                have q4 := hat.cell 4 (by decide)
                have q5 := hat.cell 5 (by decide)
                have q6 := hat.cell 6 (by decide)
                have q7 := hat.cell 7 (by decide)
                have q8 := hat.cell 8 (by decide)
                have q9 := hat.cell 9 (by decide)
                have q10 := hat.cell 10 (by decide)
                have q11 := hat.cell 11 (by decide)
                have q12 := hat.cell 12 (by decide)
                have q13 := hat.cell 13 (by decide)
                simp only [List.getElem?_toArray, List.getElem?_cons_zero, List.getElem?_cons_succ, Nat.add_zero] at q0 q1 q2 q3 q4 q5 q6 q7 q8 q9 q10 q11 q12 q13
                clear hat
                go_wp2_with fail
                clear hlz q0 q1 q2 q3 q4 q5 q6 q7 q8 q9 q10 q11 q12 q13
                refine (most_any b (.slice A0 b.tides.length k0) (.slice A1 b.sounds.length k1) (-1) (-1) _ (HAT.out _ ha6).rb).mono ?_
                rintro e a7 ⟨rfl, hB⟩
                have ha7 := ha6.trans (hB.mono ha6.size)
                clear hB ha6
                rw [Ld.bad_most herr]
                generalize (Ld.mostR b (-1) (-1)).1 = xa7
                have hlz : θ 22 < a7.heap.size := Nat.lt_of_lt_of_le hBd ha7.size
                have hat := HAT.out _ ha7
                have q0 := hat.cell 0 (by decide)
                have q1 := hat.cell 1 (by decide)
                have q2 := hat.cell 2 (by decide)
                have q3 := hat.cell 3 (by decide)
                have q4 := hat.cell 4 (by decide)
                have q5 := hat.cell 5 (by decide)
                have q6 := hat.cell 6 (by decide)
                have q7 := hat.cell 7 (by decide)
                have q8 := hat.cell 8 (by decide)
                have q9 := hat.cell 9 (by decide)
                have q10 := hat.cell 10 (by decide)
                have q11 := hat.cell 11 (by decide)
                have q12 := hat.cell 12 (by decide)
                have q13 := hat.cell 13 (by decide)
                simp only [List.getElem?_toArray, List.getElem?_cons_zero, List.getElem?_cons_succ, Nat.add_zero] at q0 q1 q2 q3 q4 q5 q6 q7 q8 q9 q10 q11 q12 q13
                clear hat
                go_wp2_with fail
                clear hlz q0 q1 q2 q3 q4 q5 q6 q7 q8 q9 q10 q11 q12 q13
                refine (first_any b (.slice A0 b.tides.length k0) (.slice A1 b.sounds.length k1) (-1) (-1) _ (HAT.out _ ha7).rb).mono ?_
                rintro e a8 ⟨rfl, hB⟩
                have ha8 := ha7.trans (hB.mono ha7.size)
                clear hB ha7
                rw [Ld.bad_first herr]
                generalize (Ld.firstR b (-1) (-1)).1 = xa8
                have hlz : θ 22 < a8.heap.size := Nat.lt_of_lt_of_le hBd ha8.size
                have hat := HAT.out _ ha8
                have q0 := hat.cell 0 (by decide)
                have q1 := hat.cell 1 (by decide)
                have q2 := hat.cell 2 (by decide)
                have q3 := hat.cell 3 (by decide)
                have q4 := hat.cell 4 (by decide)
                have q5 := hat.cell 5 (by decide)
                have q6 := hat.cell 6 (by decide)
                have q7 := hat.cell 7 (by decide)
                have q8 := hat.cell 8 (by decide)
                have q9 := hat.cell 9 (by decide)
                have q10 := hat.cell 10 (by decide)
                have q11 := hat.cell 11 (by decide)
                have q12 := hat.cell 12 (by decide)
                have q13 := hat.cell 13 (by decide)
                simp only [List.getElem?_toArray, List.getElem?_cons_zero, List.getElem?_cons_succ, Nat.add_zero] at q0 q1 q2 q3 q4 q5 q6 q7 q8 q9 q10 q11 q12 q13
                clear hat
                go_wp2_with fail
                clear hlz q0 q1 q2 q3 q4 q5 q6 q7 q8 q9 q10 q11 q12 q13
                refine (Both_any b (.slice A0 b.tides.length k0) (.slice A1 b.sounds.length k1) (-1) _ (HAT.out _ ha8).rb).mono ?_
                rintro e a9 ⟨⟨va9, rfl, -⟩, hB⟩
                have ha9 := ha8.trans (hB.mono ha8.size)
                clear hB ha8
                rw [Ld.bad_study herr]
                have hlz : θ 22 < a9.heap.size := Nat.lt_of_lt_of_le hBd ha9.size
                have hat := HAT.out _ ha9
                have q0 := hat.cell 0 (by decide)
                have q1 := hat.cell 1 (by decide)
                have q2 := hat.cell 2 (by decide)
                have q3 := hat.cell 3 (by decide)
                have q4 := hat.cell 4 (by decide)
                have q5 := hat.cell 5 (by decide)
                have q6 := hat.cell 6 (by decide)
                have q7 := hat.cell 7 (by decide)
                have q8 := hat.cell 8 (by decide)
                have q9 := hat.cell 9 (by decide)
                have q10 := hat.cell 10 (by decide)
                have q11 := hat.cell 11 (by decide)
                have q12 := hat.cell 12 (by decide)
                have q13 := hat.cell 13 (by decide)
                simp only [List.getElem?_toArray, List.getElem?_cons_zero, List.getElem?_cons_succ, Nat.add_zero] at q0 q1 q2 q3 q4 q5 q6 q7 q8 q9 q10 q11 q12 q13
                clear hat
                go_wp2_with fail
                clear hlz q0 q1 q2 q3 q4 q5 q6 q7 q8 q9 q10 q11 q12 q13
                refine (Wrong_any b (.slice A0 b.tides.length k0) (.slice A1 b.sounds.length k1) _ (HAT.out _ ha9).rb).mono ?_
                rintro e b1 ⟨⟨vb1, rfl, -⟩, hB⟩
                have hb1 := ha9.trans (hB.mono ha9.size)
                clear hB ha9
                rw [herr]
                have hlz : θ 22 < b1.heap.size := Nat.lt_of_lt_of_le hBd hb1.size
                have hat := HAT.out _ hb1
                have q0 := hat.cell 0 (by decide)
                have q1 := hat.cell 1 (by decide)
                have q2 := hat.cell 2 (by decide)
                have q3 := hat.cell 3 (by decide)
                have q4 := hat.cell 4 (by decide)
                have q5 := hat.cell 5 (by decide)
                have q6 := hat.cell 6 (by decide)
                have q7 := hat.cell 7 (by decide)
                have q8 := hat.cell 8 (by decide)
                have q9 := hat.cell 9 (by decide)
                have q10 := hat.cell 10 (by decide)
                have q11 := hat.cell 11 (by decide)
                have q12 := hat.cell 12 (by decide)
                have q13 := hat.cell 13 (by decide)
                simp only [List.getElem?_toArray, List.getElem?_cons_zero, List.getElem?_cons_succ, Nat.add_zero] at q0 q1 q2 q3 q4 q5 q6 q7 q8 q9 q10 q11 q12 q13
                clear hat
                go_wp2_with fail
                clear hlz q0 q1 q2 q3 q4 q5 q6 q7 q8 q9 q10 q11 q12 q13
                refine (check_any b (.slice A0 b.tides.length k0) (.slice A1 b.sounds.length k1) _ (HAT.out _ hb1).rb).mono ?_
                rintro e b2 ⟨rfl, hB⟩
                have hb2 := hb1.trans (hB.mono hb1.size)
                clear hB hb1
                rw [herr]
                go_wp2_with fail
                go_roundw
                case rel => exact ⟨j + 1, by omega, by go_num, hb2⟩
                case measure => simp [intOf]; omega
             · obtain rfl : j = 15 := by omega
               obtain ⟨wl, rfl⟩ : ∃ W : World, W = wr := ⟨_, rfl⟩
               have hbl := HB11.out.trans (hwr.mono HB11.out.size)
               have HBL := Lib.hid hbl
               clear hwr hbl HALL HB11 hBd
               have hwl := HBL.out
               go_wp2_with fail
               refine (torn_book _).mono ?_
               rintro e c25a ⟨⟨T, D, rfl, hrb⟩, hB⟩
               have hc25a := hwl.trans (hB.mono hwl.size)
               clear hB hwl
               obtain ⟨A0, k0, rfl⟩ := hrb.tides.form
               obtain ⟨A1, k1, rfl⟩ := hrb.sounds.form
               have HRB := Lib.hid hrb
               clear hrb
               go_wp2_with fail
               refine (Height_any Ld.tornB _ _ 4 _ HRB.out).mono ?_
               rintro e c25b ⟨rfl, hB⟩
               have hc25b := hc25a.trans (hB.mono hc25a.size)
               clear hB hc25a HRB
               rw [Ld.known_t1]
               generalize Ld.heightR Ld.tornB 4 = x25
               go_wp2_with fail
               refine name_calls ?_
               intro d25 hW
               have hA : Below c25b.heap.size c25b d25 := by rw [hW]; exact (Below.refl _ _).alloc (Nat.le_refl _) _
               have hd25 := hc25b.trans (hA.mono hc25b.size)
               clear hW hA hc25b
               refine (torn_book _).mono ?_
               rintro e c26a ⟨⟨T, D, rfl, hrb⟩, hB⟩
               have hc26a := hd25.trans (hB.mono hd25.size)
               clear hB hd25
               obtain ⟨A0, k0, rfl⟩ := hrb.tides.form
               obtain ⟨A1, k1, rfl⟩ := hrb.sounds.form
               have HRB := Lib.hid hrb
               clear hrb
               go_wp2_with fail
               refine (floor_any Ld.tornB _ _ 2 _ HRB.out).mono ?_
               rintro e c26b ⟨rfl, hB⟩
               have hc26b := hc26a.trans (hB.mono hc26a.size)
               clear hB hc26a HRB
               rw [Ld.known_t2]
               generalize Ld.floorR Ld.tornB 2 = x26
               go_wp2_with fail
               refine name_calls ?_
               intro d26 hW
               have hA : Below c26b.heap.size c26b d26 := by rw [hW]; exact (Below.refl _ _).alloc (Nat.le_refl _) _
               have hd26 := hc26b.trans (hA.mono hc26b.size)
               clear hW hA hc26b
               refine (torn_book _).mono ?_
               rintro e c27a ⟨⟨T, D, rfl, hrb⟩, hB⟩
               have hc27a := hd26.trans (hB.mono hd26.size)
               clear hB hd26
               obtain ⟨A0, k0, rfl⟩ := hrb.tides.form
               obtain ⟨A1, k1, rfl⟩ := hrb.sounds.form
               have HRB := Lib.hid hrb
               clear hrb
               go_wp2_with fail
               refine (Lands_any Ld.tornB _ _ 0 0 201 _ HRB.out).mono ?_
               rintro e c27b ⟨rfl, hB⟩
               have hc27b := hc27a.trans (hB.mono hc27a.size)
               clear hB hc27a HRB
               rw [Ld.known_t3]
               go_wp2_with fail
               refine (torn_book _).mono ?_
               rintro e c28a ⟨⟨T, D, rfl, hrb⟩, hB⟩
               have hc28a := hc27b.trans (hB.mono hc27b.size)
               clear hB hc27b
               obtain ⟨A0, k0, rfl⟩ := hrb.tides.form
               obtain ⟨A1, k1, rfl⟩ := hrb.sounds.form
               have HRB := Lib.hid hrb
               clear hrb
               go_wp2_with fail
               refine (most_any Ld.tornB _ _ 2 0 _ HRB.out).mono ?_
               rintro e c28b ⟨rfl, hB⟩
               have hc28b := hc28a.trans (hB.mono hc28a.size)
               clear hB hc28a HRB
               rw [Ld.known_t4]
               go_wp2_with fail
               refine (torn_book _).mono ?_
               rintro e c29a ⟨⟨T, D, rfl, hrb⟩, hB⟩
               have hc29a := hc28b.trans (hB.mono hc28b.size)
               clear hB hc28b
               obtain ⟨A0, k0, rfl⟩ := hrb.tides.form
               obtain ⟨A1, k1, rfl⟩ := hrb.sounds.form
               have HRB := Lib.hid hrb
               clear hrb
               go_wp2_with fail
               refine (first_any Ld.tornB _ _ 0 (-1) _ HRB.out).mono ?_
               rintro e c29b ⟨rfl, hB⟩
               have hc29b := hc29a.trans (hB.mono hc29a.size)
               clear hB hc29a HRB
               rw [Ld.known_t5]
               go_wp2_with fail
               refine (torn_book _).mono ?_
               rintro e c30a ⟨⟨T, D, rfl, hrb⟩, hB⟩
               have hc30a := hc29b.trans (hB.mono hc29b.size)
               clear hB hc29b
               obtain ⟨A0, k0, rfl⟩ := hrb.tides.form
               obtain ⟨A1, k1, rfl⟩ := hrb.sounds.form
               have HRB := Lib.hid hrb
               clear hrb
               go_wp2_with fail
               refine (Both_any Ld.tornB _ _ 201 _ HRB.out).mono ?_
               rintro e c30b ⟨⟨vc30b, rfl, -⟩, hB⟩
               have hc30b := hc30a.trans (hB.mono hc30a.size)
               clear hB hc30a HRB
               rw [Ld.known_t6]
               go_wp2_with fail
               refine (torn_book _).mono ?_
               rintro e c31a ⟨⟨T, D, rfl, hrb⟩, hB⟩
               have hc31a := hc30b.trans (hB.mono hc30b.size)
               clear hB hc30b
               obtain ⟨A0, k0, rfl⟩ := hrb.tides.form
               obtain ⟨A1, k1, rfl⟩ := hrb.sounds.form
               have HRB := Lib.hid hrb
               clear hrb
               go_wp2_with fail
               refine (Height_any Ld.tornB _ _ 0 _ HRB.out).mono ?_
               rintro e c31b ⟨rfl, hB⟩
               have hc31b := hc31a.trans (hB.mono hc31a.size)
               clear hB hc31a HRB
               rw [Ld.known_t7]
               generalize Ld.heightR Ld.tornB 0 = x31
               go_wp2_with fail
               refine name_calls ?_
               intro d31 hW
               have hA : Below c31b.heap.size c31b d31 := by rw [hW]; exact (Below.refl _ _).alloc (Nat.le_refl _) _
               have hd31 := hc31b.trans (hA.mono hc31b.size)
               clear hW hA hc31b
               refine (torn_book _).mono ?_
               rintro e c32a ⟨⟨T, D, rfl, hrb⟩, hB⟩
               have hc32a := hd31.trans (hB.mono hd31.size)
               clear hB hd31
               obtain ⟨A0, k0, rfl⟩ := hrb.tides.form
               obtain ⟨A1, k1, rfl⟩ := hrb.sounds.form
               have HRB := Lib.hid hrb
               clear hrb
               go_wp2_with fail
               refine (floor_any Ld.tornB _ _ 0 _ HRB.out).mono ?_
               rintro e c32b ⟨rfl, hB⟩
               have hc32b := hc32a.trans (hB.mono hc32a.size)
               clear hB hc32a HRB
               rw [Ld.known_t8]
               generalize Ld.floorR Ld.tornB 0 = x32
               go_wp2_with fail
               refine name_calls ?_
               intro d32 hW
               have hA : Below c32b.heap.size c32b d32 := by rw [hW]; exact (Below.refl _ _).alloc (Nat.le_refl _) _
               have hd32 := hc32b.trans (hA.mono hc32b.size)
               clear hW hA hc32b
               refine (torn_book _).mono ?_
               rintro e c33a ⟨⟨T, D, rfl, hrb⟩, hB⟩
               have hc33a := hd32.trans (hB.mono hd32.size)
               clear hB hd32
               obtain ⟨A0, k0, rfl⟩ := hrb.tides.form
               obtain ⟨A1, k1, rfl⟩ := hrb.sounds.form
               have HRB := Lib.hid hrb
               clear hrb
               go_wp2_with fail
               refine (Both_any Ld.tornB _ _ 0 _ HRB.out).mono ?_
               rintro e c33b ⟨⟨vc33b, rfl, -⟩, hB⟩
               have hc33b := hc33a.trans (hB.mono hc33a.size)
               clear hB hc33a HRB
               rw [Ld.known_t9]
               go_wp2_with fail
               refine (own_book _).mono ?_
               rintro e c34a ⟨⟨T, D, rfl, hrb⟩, hB⟩
               have hc34a := hc33b.trans (hB.mono hc33b.size)
               clear hB hc33b
               obtain ⟨A0, k0, rfl⟩ := hrb.tides.form
               obtain ⟨A1, k1, rfl⟩ := hrb.sounds.form
               have HRB := Lib.hid hrb
               clear hrb
               go_wp2_with fail
               refine (most_any Ld.ownB _ _ 1 0 _ HRB.out).mono ?_
               rintro e c34b ⟨rfl, hB⟩
               have hc34b := hc34a.trans (hB.mono hc34a.size)
               clear hB hc34a HRB
               rw [Ld.known_o1]
               go_wp2_with fail
               refine name_world ?_
               intro wk hW
               have hA : Below c34b.heap.size c34b wk := by rw [hW]; exact (Below.refl _ _).alloc (Nat.le_refl _) _
               have rK : wk.heap[c34b.heap.size]? = some (.cells #[I 1, I 0, I 0, I 1, I 0, I 2, I 0, I 1, I 1, I 0, I 40, I 0, I 0, I 0, I 0, I 2, I 0, I 0, I 1, I 1] 57 (0, 0)) := by rw [hW]; exact heap_at _ _ rfl
               have hwk := hc34b.trans (hA.mono hc34b.size)
               clear hW hA hc34b
               obtain ⟨KB, hKB⟩ : ∃ n : Nat, n = c34b.heap.size := ⟨_, rfl⟩
               rw [← hKB] at rK ⊢
               have hlK := heap_lt rK
               have hcell : ∀ (i : Nat) (x : Int), (#[1, 0, 0, 1, 0, 2, 0, 1, 1, 0, 40, 0, 0, 0, 0, 2, 0, 0, 1, 1] : Array Int)[i]? = some x → wk.cell? ⟨KB, i, none⟩ = some (I x) := fun i x h => (cell_of_row wk _ i _ _ _ rK).trans (by rw [show (#[I 1, I 0, I 0, I 1, I 0, I 2, I 0, I 1, I 1, I 0, I 40, I 0, I 0, I 0, I 0, I 2, I 0, I 0, I 1, I 1] : Array Value) = (#[1, 0, 0, 1, 0, 2, 0, 1, 1, 0, 40, 0, 0, 0, 0, 2, 0, 0, 1, 1] : Array Int).map I from by kernel_rfl, Array.getElem?_map, h]; rfl)
               have HCELL := Lib.hid hcell
               have HWK := Lib.hid hwk
               clear hcell hwk hKB rK
               go_loopw [40] (fun i wr => ∃ j : Nat, j ≤ 5 ∧ i = I j ∧ Below wk.heap.size wk wr) (fun i _ => 5 - (intOf i).toNat)
               case atStart => exact ⟨0, by omega, rfl, Below.refl _ _⟩
               case round =>
                obtain ⟨j, hj, rfl, hwr⟩ := hrel
                by_cases hlt : j < 5
                · as_aux_lemma =>
                   have hji : (j : Int) < 5 := by omega
                   obtain ⟨a, b, c, dd, ha, hb, hc, hd4, hl⟩ := Ld.known_l j hlt
                   have hlr : KB < wr.heap.size := Nat.lt_of_lt_of_le hlK hwr.size
                   have ka := (hwr.cell (p := ⟨KB, j * 4, none⟩) hlK).trans (HCELL.out _ _ ha)
                   have kb := (hwr.cell (p := ⟨KB, j * 4 + 1, none⟩) hlK).trans (HCELL.out _ _ hb)
                   have kc := (hwr.cell (p := ⟨KB, j * 4 + 2, none⟩) hlK).trans (HCELL.out _ _ hc)
                   have kd := (hwr.cell (p := ⟨KB, j * 4 + 3, none⟩) hlK).trans (HCELL.out _ _ hd4)
                   have HWR := Lib.hid hwr
                   clear ha hb hc hd4 hwr
                   go_upto_region 41 with fail
                   refine name_act ?_
                   intro A hA
                   obtain ⟨R, hR⟩ : ∃ R : Act → World → Prop, R = fun a' w' => (∃ u332 u333 u334 u335 u336 u337 u338 u339 u340 u341 u342 u343 u344 u345 u346 u347 u348 u331 u349 u350, a' = ((((((((((((((((((((((A.put (some 332) u332).put (some 333) u333).put (some 334) u334).put (some 335) u335).put (some 336) u336).put (some 337) u337).put (some 338) u338).put (some 339) u339).put (some 340) u340).put (some 341) u341).put (some 342) u342).put (some 343) u343).put (some 344) u344).put (some 345) u345).put (some 346) u346).put (some 347) u347).put (some 348) u348).put (some 331) u331).put (some 349) u349).put (some 350) u350).put (some 41) (I dd)).put (some 42) (I 0))) ∧ Held wr w' := ⟨_, rfl⟩
                   have HR := Lib.hid hR
                   clear hR
                   refine wp_between R ?first41 ?rest41
                   case first41 =>
                    exact known_first41 hA HR ka kb kc hlr hji hl
                   case rest41 =>
                    intro a' w41 hra
                    rw [HR.out] at hra
                    clear HR
                    obtain ⟨⟨u332, u333, u334, u335, u336, u337, u338, u339, u340, u341, u342, u343, u344, u345, u346, u347, u348, u331, u349, u350, rfl⟩, hHE⟩ := hra
                    subst hA
                    try simp only [putL]
                    have kd2 := (hHE.2.2.cell (p := ⟨KB, j * 4 + 3, none⟩) hlr).trans kd
                    have hl41 : KB < w41.heap.size := Nat.lt_of_lt_of_le hlr hHE.2.2.size
                    clear ka kb kc kd2
                    go_wp2_with fail
                    go_roundw
                    case rel => exact ⟨j + 1, by omega, by go_num, HWR.out.trans (hHE.2.2.mono HWR.out.size)⟩
                    case measure => simp [intOf]; omega
                · obtain rfl : j = 5 := by omega
                  obtain ⟨wm, rfl⟩ : ∃ W : World, W = wr := ⟨_, rfl⟩
                  have hwm := HWK.out.trans (hwr.mono HWK.out.size)
                  clear hwr HWK HCELL hlK
                  go_wp2_with fail
                  refine (own_book _).mono ?_
                  rintro e c44a ⟨⟨T, D, rfl, hrb⟩, hB⟩
                  have hc44a := hwm.trans (hB.mono hwm.size)
                  clear hB hwm
                  obtain ⟨A0, k0, rfl⟩ := hrb.tides.form
                  obtain ⟨A1, k1, rfl⟩ := hrb.sounds.form
                  have HRB := Lib.hid hrb
                  clear hrb
                  go_wp2_with fail
                  have hcall := Height_any Ld.ownB _ _ 0 _ HRB.out
                  simp only [Ld.known_a1.1, Ld.known_a1.2] at hcall
                  refine hcall.mono ?_
                  clear hcall
                  rintro e c44b ⟨rfl, hB⟩
                  have hc44b := hc44a.trans (hB.mono hc44a.size)
                  clear hB hc44a HRB
                  go_wp2_with fail
                  refine name_calls ?_
                  intro d44 hW
                  have hB : Below c44b.heap.size c44b d44 := by rw [hW]; exact (Below.refl _ _).alloc (Nat.le_refl _) _
                  have r44 : d44.heap[c44b.heap.size]? = some (.cells #[I 10, I 12] 24 (0, 0)) := by rw [hW]; exact heap_at _ _ rfl
                  have hd44 := hc44b.trans (hB.mono hc44b.size)
                  clear hW hB hc44b
                  refine (sounded_book _).mono ?_
                  rintro e c45a ⟨⟨T, D, rfl, hrb⟩, hB⟩
                  replace r44 := (hB.block _ (heap_lt r44)).trans r44
                  have hc45a := hd44.trans (hB.mono hd44.size)
                  clear hB hd44
                  obtain ⟨A0, k0, rfl⟩ := hrb.tides.form
                  obtain ⟨A1, k1, rfl⟩ := hrb.sounds.form
                  have HRB := Lib.hid hrb
                  clear hrb
                  go_wp2_with fail
                  have hcall := floor_any Ld.soundedB _ _ 0 _ HRB.out
                  simp only [Ld.known_a2.1, Ld.known_a2.2] at hcall
                  refine hcall.mono ?_
                  clear hcall
                  rintro e c45b ⟨rfl, hB⟩
                  replace r44 := (hB.block _ (heap_lt r44)).trans r44
                  have hc45b := hc45a.trans (hB.mono hc45a.size)
                  clear hB hc45a HRB
                  go_wp2_with fail
                  refine name_calls ?_
                  intro d45 hW
                  have hB : Below c45b.heap.size c45b d45 := by rw [hW]; exact (Below.refl _ _).alloc (Nat.le_refl _) _
                  replace r44 := (hB.block _ (heap_lt r44)).trans r44
                  have r45 : d45.heap[c45b.heap.size]? = some (.cells #[I 2, I 2] 24 (0, 0)) := by rw [hW]; exact heap_at _ _ rfl
                  have hd45 := hc45b.trans (hB.mono hc45b.size)
                  clear hW hB hc45b
                  refine (own_book _).mono ?_
                  rintro e c46a ⟨⟨T, D, rfl, hrb⟩, hB⟩
                  replace r44 := (hB.block _ (heap_lt r44)).trans r44
                  replace r45 := (hB.block _ (heap_lt r45)).trans r45
                  have hc46a := hd45.trans (hB.mono hd45.size)
                  clear hB hd45
                  obtain ⟨A0, k0, rfl⟩ := hrb.tides.form
                  obtain ⟨A1, k1, rfl⟩ := hrb.sounds.form
                  have HRB := Lib.hid hrb
                  clear hrb
                  go_wp2_with fail
                  have hcall := most_any Ld.ownB _ _ 0 1 _ HRB.out
                  simp only [Ld.known_a3] at hcall
                  refine hcall.mono ?_
                  clear hcall
                  rintro e c46b ⟨rfl, hB⟩
                  replace r44 := (hB.block _ (heap_lt r44)).trans r44
                  replace r45 := (hB.block _ (heap_lt r45)).trans r45
                  have hc46b := hc46a.trans (hB.mono hc46a.size)
                  clear hB hc46a HRB
                  go_wp2_with fail
                  refine (own_book _).mono ?_
                  rintro e c47a ⟨⟨T, D, rfl, hrb⟩, hB⟩
                  replace r44 := (hB.block _ (heap_lt r44)).trans r44
                  replace r45 := (hB.block _ (heap_lt r45)).trans r45
                  have hc47a := hc46b.trans (hB.mono hc46b.size)
                  clear hB hc46b
                  obtain ⟨A0, k0, rfl⟩ := hrb.tides.form
                  obtain ⟨A1, k1, rfl⟩ := hrb.sounds.form
                  have HRB := Lib.hid hrb
                  clear hrb
                  go_wp2_with fail
                  have hcall := first_any Ld.ownB _ _ 0 30 _ HRB.out
                  simp only [Ld.known_a4] at hcall
                  refine hcall.mono ?_
                  clear hcall
                  rintro e c47b ⟨rfl, hB⟩
                  replace r44 := (hB.block _ (heap_lt r44)).trans r44
                  replace r45 := (hB.block _ (heap_lt r45)).trans r45
                  have hc47b := hc47a.trans (hB.mono hc47a.size)
                  clear hB hc47a HRB
                  go_wp2_with fail
                  refine (own_book _).mono ?_
                  rintro e c48a ⟨⟨T, D, rfl, hrb⟩, hB⟩
                  replace r44 := (hB.block _ (heap_lt r44)).trans r44
                  replace r45 := (hB.block _ (heap_lt r45)).trans r45
                  have hc48a := hc47b.trans (hB.mono hc47b.size)
                  clear hB hc47b
                  obtain ⟨A0, k0, rfl⟩ := hrb.tides.form
                  obtain ⟨A1, k1, rfl⟩ := hrb.sounds.form
                  have HRB := Lib.hid hrb
                  clear hrb
                  go_wp2_with fail
                  have hcall := first_any Ld.ownB _ _ 1 30 _ HRB.out
                  simp only [Ld.known_a5] at hcall
                  refine hcall.mono ?_
                  clear hcall
                  rintro e c48b ⟨rfl, hB⟩
                  replace r44 := (hB.block _ (heap_lt r44)).trans r44
                  replace r45 := (hB.block _ (heap_lt r45)).trans r45
                  have hc48b := hc48a.trans (hB.mono hc48a.size)
                  clear hB hc48a HRB
                  go_wp2_with fail
                  refine (own_book _).mono ?_
                  rintro e c49a ⟨⟨T, D, rfl, hrb⟩, hB⟩
                  replace r44 := (hB.block _ (heap_lt r44)).trans r44
                  replace r45 := (hB.block _ (heap_lt r45)).trans r45
                  have hc49a := hc48b.trans (hB.mono hc48b.size)
                  clear hB hc48b
                  obtain ⟨A0, k0, rfl⟩ := hrb.tides.form
                  obtain ⟨A1, k1, rfl⟩ := hrb.sounds.form
                  have HRB := Lib.hid hrb
                  clear hrb
                  go_wp2_with fail
                  have hcall := Both_any Ld.ownB _ _ 20 _ HRB.out
                  simp only [Ld.known_a6.1, Ld.known_a6.2] at hcall
                  refine hcall.mono ?_
                  clear hcall
                  rintro e c49b ⟨⟨v49, rfl, s49⟩, hB⟩
                  replace r44 := (hB.block _ (heap_lt r44)).trans r44
                  replace r45 := (hB.block _ (heap_lt r45)).trans r45
                  have hc49b := hc49a.trans (hB.mono hc49a.size)
                  clear hB hc49a HRB
                  obtain ⟨AL49, cL49, rfl⟩ := s49.form
                  have S49 := Lib.hid s49
                  clear s49
                  go_wp2_with fail
                  have s49 := S49.out
                  clear S49
                  refine (own_book _).mono ?_
                  rintro e c50a ⟨⟨T, D, rfl, hrb⟩, hB⟩
                  replace r44 := (hB.block _ (heap_lt r44)).trans r44
                  replace r45 := (hB.block _ (heap_lt r45)).trans r45
                  replace s49 := (s49.below hB (Nat.le_refl _)).more hB.size
                  have hc50a := hc49b.trans (hB.mono hc49b.size)
                  clear hB hc49b
                  obtain ⟨A0, k0, rfl⟩ := hrb.tides.form
                  obtain ⟨A1, k1, rfl⟩ := hrb.sounds.form
                  have HRB := Lib.hid hrb
                  clear hrb
                  go_wp2_with fail
                  have hcall := Both_any Ld.ownB _ _ 0 _ HRB.out
                  simp only [Ld.known_a7.1, Ld.known_a7.2] at hcall
                  refine hcall.mono ?_
                  clear hcall
                  rintro e c50b ⟨⟨v50, rfl, s50⟩, hB⟩
                  replace r44 := (hB.block _ (heap_lt r44)).trans r44
                  replace r45 := (hB.block _ (heap_lt r45)).trans r45
                  replace s49 := (s49.below hB (Nat.le_refl _)).more hB.size
                  have hc50b := hc50a.trans (hB.mono hc50a.size)
                  clear hB hc50a HRB
                  obtain ⟨AL50, cL50, rfl⟩ := s50.form
                  have S49 := Lib.hid s49
                  have S50 := Lib.hid s50
                  clear s49 s50
                  go_wp2_with fail
                  have s49 := S49.out
                  have s50 := S50.out
                  clear S49 S50
                  refine (torn_book _).mono ?_
                  rintro e c51a ⟨⟨T, D, rfl, hrb⟩, hB⟩
                  replace r44 := (hB.block _ (heap_lt r44)).trans r44
                  replace r45 := (hB.block _ (heap_lt r45)).trans r45
                  replace s49 := (s49.below hB (Nat.le_refl _)).more hB.size
                  replace s50 := (s50.below hB (Nat.le_refl _)).more hB.size
                  have hc51a := hc50b.trans (hB.mono hc50b.size)
                  clear hB hc50b
                  obtain ⟨A0, k0, rfl⟩ := hrb.tides.form
                  obtain ⟨A1, k1, rfl⟩ := hrb.sounds.form
                  have HRB := Lib.hid hrb
                  clear hrb
                  go_wp2_with fail
                  have hcall := right_any Ld.tornB _ _ _ HRB.out
                  simp only [Ld.known_a8.1, Ld.known_a8.2] at hcall
                  refine hcall.mono ?_
                  clear hcall
                  rintro e c51b ⟨rfl, hB⟩
                  replace r44 := (hB.block _ (heap_lt r44)).trans r44
                  replace r45 := (hB.block _ (heap_lt r45)).trans r45
                  replace s49 := (s49.below hB (Nat.le_refl _)).more hB.size
                  replace s50 := (s50.below hB (Nat.le_refl _)).more hB.size
                  have hc51b := hc51a.trans (hB.mono hc51a.size)
                  clear hB hc51a HRB
                  have S49 := Lib.hid s49
                  have S50 := Lib.hid s50
                  clear s49 s50
                  go_wp2_with fail
                  have s49 := S49.out
                  have s50 := S50.out
                  clear S49 S50
                  refine (sounded_book _).mono ?_
                  rintro e c52a ⟨⟨T, D, rfl, hrb⟩, hB⟩
                  replace r44 := (hB.block _ (heap_lt r44)).trans r44
                  replace r45 := (hB.block _ (heap_lt r45)).trans r45
                  replace s49 := (s49.below hB (Nat.le_refl _)).more hB.size
                  replace s50 := (s50.below hB (Nat.le_refl _)).more hB.size
                  have hc52a := hc51b.trans (hB.mono hc51b.size)
                  clear hB hc51b
                  obtain ⟨A0, k0, rfl⟩ := hrb.tides.form
                  obtain ⟨A1, k1, rfl⟩ := hrb.sounds.form
                  have HRB := Lib.hid hrb
                  clear hrb
                  go_wp2_with fail
                  have hcall := Wrong_any Ld.soundedB _ _ _ HRB.out
                  simp only [Ld.known_a9.1, Ld.known_a9.2] at hcall
                  refine hcall.mono ?_
                  clear hcall
                  rintro e c52b ⟨⟨v52, rfl, s52⟩, hB⟩
                  replace r44 := (hB.block _ (heap_lt r44)).trans r44
                  replace r45 := (hB.block _ (heap_lt r45)).trans r45
                  replace s49 := (s49.below hB (Nat.le_refl _)).more hB.size
                  replace s50 := (s50.below hB (Nat.le_refl _)).more hB.size
                  have hc52b := hc52a.trans (hB.mono hc52a.size)
                  clear hB hc52a HRB
                  obtain ⟨AL52, cL52, rfl⟩ := s52.form
                  have S49 := Lib.hid s49
                  have S50 := Lib.hid s50
                  have S52 := Lib.hid s52
                  clear s49 s50 s52
                  go_wp2_with fail
                  have s49 := S49.out
                  have s50 := S50.out
                  have s52 := S52.out
                  clear S49 S50 S52
                  refine (own_book _).mono ?_
                  rintro e c53a ⟨⟨T, D, rfl, hrb⟩, hB⟩
                  replace r44 := (hB.block _ (heap_lt r44)).trans r44
                  replace r45 := (hB.block _ (heap_lt r45)).trans r45
                  replace s49 := (s49.below hB (Nat.le_refl _)).more hB.size
                  replace s50 := (s50.below hB (Nat.le_refl _)).more hB.size
                  replace s52 := (s52.below hB (Nat.le_refl _)).more hB.size
                  have hc53a := hc52b.trans (hB.mono hc52b.size)
                  clear hB hc52b
                  obtain ⟨A0, k0, rfl⟩ := hrb.tides.form
                  obtain ⟨A1, k1, rfl⟩ := hrb.sounds.form
                  have HRB := Lib.hid hrb
                  clear hrb
                  go_wp2_with fail
                  have hcall := first_any Ld.ownB _ _ 1 200 _ HRB.out
                  simp only [Ld.known_b1] at hcall
                  refine hcall.mono ?_
                  clear hcall
                  rintro e c53b ⟨rfl, hB⟩
                  replace r44 := (hB.block _ (heap_lt r44)).trans r44
                  replace r45 := (hB.block _ (heap_lt r45)).trans r45
                  replace s49 := (s49.below hB (Nat.le_refl _)).more hB.size
                  replace s50 := (s50.below hB (Nat.le_refl _)).more hB.size
                  replace s52 := (s52.below hB (Nat.le_refl _)).more hB.size
                  have hc53b := hc53a.trans (hB.mono hc53a.size)
                  clear hB hc53a HRB
                  go_upto_region 54 with fail
                  refine name_act ?_
                  intro A hA
                  obtain ⟨R, hR⟩ : ∃ R : Act → World → Prop, R = fun a' w' => (∃ l : List Value, a' = { tmps := List.toArray (.bool true :: l), defers := [] }) ∧ Below c53b.heap.size c53b w' := ⟨_, rfl⟩
                  have HR := Lib.hid hR
                  clear hR
                  refine wp_between R ?first54 ?rest54
                  case first54 => exact known_last hA HR r44 r45 s49 s50
                  case rest54 =>
                   intro a' wZ hra
                   rw [HR.out] at hra
                   clear HR hA
                   obtain ⟨⟨l, rfl⟩, hBZ⟩ := hra
                   have HBZ := Lib.hid (hc53b.trans (hBZ.mono hc53b.size))
                   clear hBZ hc53b r44 r45 s49 s50 s52
                   go_wp2_with fail
                   go_ret
                   exact ⟨rfl, HBZ.out⟩
end Go.Proofs.Ytjgpghaofhcfnaa
