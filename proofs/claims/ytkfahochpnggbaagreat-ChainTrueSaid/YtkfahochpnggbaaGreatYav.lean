/- Texts on the program that the proof leans on, part 22. -/
import Derived.Test.YtkfahochpnggbaaGreatYas
set_option linter.unusedVariables false
set_option linter.unusedSimpArgs false

/- Contract of chain's Thick. -/
namespace Go.Proofs.YtkfahochpnggbaaGreat
open Go.RowKit

/-- How thick a section is on a day, in all truths. -/
def Ch.thickSp (b : Ch.Bk) (s d : Int) : Ch.Sp :=
  if Ch.studyE b (Ch.isSection b s && Ch.isDay b d) = 0 then ⟨Ch.minL ((Ch.truths b).map fun t => (Ch.thickOn b s.toNat d.toNat t).lo), Ch.maxL ((Ch.truths b).map fun t => (Ch.thickOn b s.toNat d.toNat t).hi)⟩ else ⟨0, 0⟩

set_option maxRecDepth 100000 in
set_option maxHeartbeats 4000000 in
theorem Thick_yes (b : Ch.Bk) (S T V : Value) (s dy : Int) (w : World) (hb : RB w w.heap.size b S T V) (hsec : Ch.isSection b s = true) :
    Calls Tryz.prog 29 #[vBk S T V b.rule b.days, I s, I dy] w fun e w' => e = .returned (.tuple #[vSp (Ch.thickSp b s dy), I (Ch.studyE b (Ch.isSection b s && Ch.isDay b dy))]) ∧ Below w.heap.size w w' := by
  obtain ⟨A0, c0, rfl⟩ := hb.secs.form
  obtain ⟨A1, c1, rfl⟩ := hb.turns.form
  obtain ⟨A2, c2, rfl⟩ := hb.svs.form
  have hpp : (Ch.isSection b s && Ch.isDay b dy) = (Ch.isDay b dy) := by rw [hsec]; rfl
  have HPP := Lib.hid hpp
  clear hpp
  go_enter Tryz.func29, Tryz.ntmps29
  go_wp2_with fail
  refine name_world ?_
  intro W hW
  have hB : Below w.heap.size w W := by rw [hW]; exact ((Below.refl _ _).alloc (Nat.le_refl _) _).alloc (by simp) _
  have hbk : W.heap[w.heap.size]? = some (.cells #[.slice A0 b.secs.length c0, .slice A1 b.turns.length c1, .slice A2 b.svs.length c2, I b.rule, I b.days] 26 (0, 0)) := by rw [hW]; exact (Below.heap_alloc _ _ _ (by simp)).trans (heap_at _ _ rfl)
  have hsp : W.heap[w.heap.size + 1]? = some (.cells #[I 0, I 0] 51 (0, 0)) := by rw [hW]; exact heap_at _ _ (by simp)
  have hz : W.heap.size = w.heap.size + 2 := by rw [hW]; simp
  have hlt0 : w.heap.size < W.heap.size := by omega
  have hlt1 : w.heap.size + 1 < W.heap.size := by omega
  have a0 := cell_of_row W _ 0 _ _ _ hbk
  have a1 := cell_of_row W _ 1 _ _ _ hbk
  have a2 := cell_of_row W _ 2 _ _ _ hbk
  have a3 := cell_of_row W _ 3 _ _ _ hbk
  have a4 := cell_of_row W _ 4 _ _ _ hbk
  simp only [List.getElem?_toArray, List.getElem?_cons_zero, List.getElem?_cons_succ] at a0 a1 a2 a3 a4
  have spc0 := cell_of_row W _ 0 _ _ _ hsp
  have spc1 := cell_of_row W _ 1 _ _ _ hsp
  simp only [List.getElem?_toArray, List.getElem?_cons_zero, List.getElem?_cons_succ] at spc0 spc1
  have HRB := Lib.hid (show ∀ w', Held W w' → RB w' w'.heap.size b (.slice A0 b.secs.length c0) (.slice A1 b.turns.length c1) (.slice A2 b.svs.length c2) from fun w' h => (hb.below (hB.trans (h.2.2.mono hB.size)) (Nat.le_refl _)).more (Nat.le_trans hB.size h.2.2.size))
  have HZ := Lib.hid hz
  have HSP := Lib.hid hsp
  have HBW0 := Lib.hid hB
  clear hW hbk hz hb hB hsp
  refine name_act ?_
  intro A hA
  refine wp_between (fun a' w' => ∃ n B k d B1 k1 d1 B2 k2 d2 x y m B3 k3 d3, (∃ u10 u11 u12 u13 u14 u15 u16 u17 u18 u19 u20 u21 u22, a' = (((((((((((((((A.put (some 10) u10).put (some 11) u11).put (some 12) u12).put (some 13) u13).put (some 14) u14).put (some 15) u15).put (some 16) u16).put (some 17) u17).put (some 18) u18).put (some 19) u19).put (some 20) u20).put (some 21) u21).put (some 22) u22).put (some 8) (.pointer (some ⟨n, 0, none⟩))).put (some 9) (I (Ch.studyE b (Ch.isDay b dy))))) ∧ Told b (.slice A0 b.secs.length c0) (.slice A1 b.turns.length c1) (.slice A2 b.svs.length c2) (Ch.isDay b dy) w' (vLg (.slice B k d) (.slice B1 k1 d1) (.slice B2 k2 d2) x y (.map m) (.slice B3 k3 d3)) ∧ w'.heap[n]? = some (cLg (.slice B k d) (.slice B1 k1 d1) (.slice B2 k2 d2) x y (.map m) (.slice B3 k3 d3)) ∧ W.heap.size ≤ n ∧ Held W w') ?first ?rest
  case first =>
    subst hA
    refine wp_region_held_drew (S := fun w' => Held W w') (by kernel_rfl) (held_start W) (fun _ => ?_)
    refine wpAnyH_take (i := 0) (v := ?v1) rfl (by decide +kernel) (by decide +kernel) (by decide +kernel) (fun _ _ _ h => h) (Or.inl ⟨by rfl, ?hy1⟩) (held_start W) ?r1
    case hy1 =>
      intro w' hSw
      have hq := hSw.1
      clear hSw
      go_simp
      with_reducible rfl
    try simp only [Act.put, List.setIfInBounds_toArray, List.set_cons_zero, List.set_cons_succ]
    refine wpAnyH_take (i := 1) (v := ?v2) rfl (by decide +kernel) (by decide +kernel) (by decide +kernel) (fun _ _ _ h => h) (Or.inl ⟨by rfl, ?hy2⟩) (held_start W) ?r2
    case hy2 =>
      intro w' hSw
      have hq := hSw.1
      clear hSw
      go_simp
      with_reducible rfl
    try simp only [Act.put, List.setIfInBounds_toArray, List.set_cons_zero, List.set_cons_succ]
    refine wpAnyH_take (i := 2) (v := ?v3) rfl (by decide +kernel) (by decide +kernel) (by decide +kernel) (fun _ _ _ h => h) (Or.inl ⟨by rfl, ?hy3⟩) (held_start W) ?r3
    case hy3 =>
      intro w' hSw
      have hq := hSw.1
      clear hSw
      go_simp
      with_reducible rfl
    try simp only [Act.put, List.setIfInBounds_toArray, List.set_cons_zero, List.set_cons_succ]
    refine wpAnyH_ready (rs := [3, 13]) (by kernel_rfl) (by simp) ?_
    refine AllReadyH.cons rfl (fun K hK => ?_) (AllReadyH.cons rfl (fun K hK => ?_) AllReadyH.nil)
    · go_simp
      refine (isSection_any b A0 c0 _ _ s _).mono ?_
      rintro e w4 ⟨hew4, hBw4⟩
      rw [hsec] at hew4
      subst hew4
      have hSw4 := held_step hBw4 (held_start W)
      refine hK.out _ _ hSw4 (fun _ => ?_)
      clear hK K
      try simp only [Act.put, List.setIfInBounds_toArray, List.set_cons_zero, List.set_cons_succ]
      refine wpAnyH_take (i := 4) (v := ?v5) rfl (by decide +kernel) (by decide +kernel) (by decide +kernel) (fun _ _ _ h => h) (Or.inl ⟨by rfl, ?hy5⟩) hSw4 ?r5
      case hy5 =>
        intro w' hSw
        have hq := hSw.1
        clear hSw
        go_simp
        with_reducible rfl
      try simp only [Act.put, List.setIfInBounds_toArray, List.set_cons_zero, List.set_cons_succ]
      refine wpAnyH_take (i := 5) (v := ?v6) rfl (by decide +kernel) (by decide +kernel) (by decide +kernel) (fun _ _ _ h => h) (Or.inl ⟨by rfl, ?hy6⟩) hSw4 ?r6
      case hy6 =>
        intro w' hSw
        have hq := hSw.1
        clear hSw
        go_simp
        with_reducible rfl
      try simp only [Act.put, List.setIfInBounds_toArray, List.set_cons_zero, List.set_cons_succ]
      refine wpAnyH_take (i := 6) (v := ?v7) rfl (by decide +kernel) (by decide +kernel) (by decide +kernel) (fun _ _ _ h => h) (Or.inl ⟨by rfl, ?hy7⟩) hSw4 ?r7
      case hy7 =>
        intro w' hSw
        have hq := hSw.1
        clear hSw
        go_simp
        with_reducible rfl
      try simp only [Act.put, List.setIfInBounds_toArray, List.set_cons_zero, List.set_cons_succ]
      refine wpAnyH_ready (rs := [7, 13]) (by kernel_rfl) (by simp) ?_
      refine AllReadyH.cons rfl (fun K hK => ?_) (AllReadyH.cons rfl (fun K hK => ?_) AllReadyH.nil)
      · go_simp
        refine (isDay_any b _ _ _ dy _).mono ?_
        rintro e w8 ⟨rfl, hBw8⟩
        have hSw8 := held_step hBw8 hSw4
        refine hK.out _ _ hSw8 (fun _ => ?_)
        clear hK K
        try simp only [Act.put, List.setIfInBounds_toArray, List.set_cons_zero, List.set_cons_succ]
        refine wpAnyH_take (i := 8) (v := ?v9) rfl (by decide +kernel) (by decide +kernel) (by decide +kernel) (fun _ _ _ h => h) (Or.inl ⟨by rfl, ?hy9⟩) hSw8 ?r9
        case hy9 =>
          intro w' hSw
          have hq := hSw.1
          clear hSw
          go_simp
          with_reducible rfl
        try simp only [Act.put, List.setIfInBounds_toArray, List.set_cons_zero, List.set_cons_succ]
        refine wpAnyH_ready (rs := [9, 13]) (by kernel_rfl) (by simp) ?_
        refine AllReadyH.cons rfl (fun K hK => ?_) (AllReadyH.cons rfl (fun K hK => ?_) AllReadyH.nil)
        · go_simp
          refine (study_told b _ _ _ (Ch.isDay b dy) _ (HRB.out _ hSw8)).mono ?_
          rintro e w10 ⟨L, rfl, hTw10, hBw10⟩
          obtain ⟨B, k, d, B1, k1, d1, B2, k2, d2, x, y, m, B3, k3, d3, rfl⟩ := hTw10.form
          have hSw10 := held_step hBw10 hSw8
          refine hK.out _ _ hSw10 (fun _ => ?_)
          clear hK K
          try simp only [Act.put, List.setIfInBounds_toArray, List.set_cons_zero, List.set_cons_succ]
          refine wpAnyH_take (i := 10) (v := ?v11) rfl (by decide +kernel) (by decide +kernel) (by decide +kernel) (fun _ _ _ h => h) (Or.inl ⟨by rfl, ?hy11⟩) hSw10 ?r11
          case hy11 =>
            intro w' hSw
            have hq := hSw.1
            clear hSw
            go_simp
            with_reducible rfl
          try simp only [Act.put, List.setIfInBounds_toArray, List.set_cons_zero, List.set_cons_succ]
          refine wpAnyH_take (i := 11) (v := ?v12) rfl (by decide +kernel) (by decide +kernel) (by decide +kernel) (fun _ _ _ h => h) (Or.inl ⟨by rfl, ?hy12⟩) hSw10 ?r12
          case hy12 =>
            intro w' hSw
            have hq := hSw.1
            clear hSw
            go_simp
            with_reducible rfl
          try simp only [Act.put, List.setIfInBounds_toArray, List.set_cons_zero, List.set_cons_succ]
          refine wpAnyH_take (i := 12) (v := ?v13) rfl (by decide +kernel) (by decide +kernel) (by decide +kernel) (fun _ _ _ h => h) (Or.inl ⟨by rfl, ?hy13⟩) hSw10 ?r13
          case hy13 =>
            intro w' hSw
            have hq := hSw.1
            clear hSw
            go_simp
            with_reducible rfl
          try simp only [Act.put, List.setIfInBounds_toArray, List.set_cons_zero, List.set_cons_succ]
          refine wpAnyH_ready (rs := [13]) (by kernel_rfl) (by simp) ?_
          refine AllReadyH.cons rfl (fun K hK => ?_) AllReadyH.nil
          go_simp
          refine hK.out _ _ (held_alloc hSw10 _) (fun _ => ?_)
          clear hK K
          try simp only [Act.put, List.setIfInBounds_toArray, List.set_cons_zero, List.set_cons_succ]
          refine name_anyH ?_
          intro w14 hWw14
          have hrw14 : w14.heap[w10.heap.size]? = some (.cells #[.slice none 0 0, .slice none 0 0, .slice none 0 0, I 0, I 0, .map none, .slice none 0 0] 93 (0, 0)) := by rw [hWw14]; exact heap_at _ _ rfl
          have hSw14 : Held W w14 := by rw [hWw14]; exact held_alloc hSw10 _
          have hlw14 : W.heap.size ≤ w10.heap.size := hSw10.2.2.size
          have hTw14 := hTw10.below (show Below w10.heap.size w10 w14 by rw [hWw14]; exact (Below.refl _ _).alloc (Nat.le_refl _) _)
          clear hWw14
          refine wpAnyH_ready (rs := [14]) (by kernel_rfl) (by simp) ?_
          refine AllReadyH.cons rfl (fun K hK => ?_) AllReadyH.nil
          rw [if_pos (by rfl)]
          refine wp_store_row 93 _ _ rfl _ _ rfl rfl _ _ hrw14 (by kernel_rfl) rfl (by simp [Value.oneCell']) ?_
          have hSw15 := held_row hSw14 hlw14 (#[.slice B k d, .slice B1 k1 d1, .slice B2 k2 d2, I x, I y, .map m, .slice B3 k3 d3])
          refine hK.out _ _ hSw15 (fun _ => ?_)
          clear hK K
          try simp only [Act.put, List.setIfInBounds_toArray, List.set_cons_zero, List.set_cons_succ]
          have hrw15 := setRow_heap _ _ _ (#[.slice B k d, .slice B1 k1 d1, .slice B2 k2 d2, I x, I y, .map m, .slice B3 k3 d3]) _ _ hrw14
          have hTw15 := hTw14.row (cs' := #[.slice B k d, .slice B1 k1 d1, .slice B2 k2 d2, I x, I y, .map m, .slice B3 k3 d3]) hrw14 (by simp)
          refine wpAnyH_take (i := 15) (v := ?v16) rfl (by decide +kernel) (by decide +kernel) (by decide +kernel) (fun _ _ _ h => h) (Or.inl ⟨by rfl, ?hy16⟩) hSw15 ?r16
          case hy16 =>
            intro w' hSw
            have hq := hSw.1
            clear hSw
            go_simp
            with_reducible rfl
          try simp only [Act.put, List.setIfInBounds_toArray, List.set_cons_zero, List.set_cons_succ]
          refine wpAnyH_done (by kernel_rfl) ?_ _
          exact ⟨w10.heap.size, B, k, d, B1, k1, d1, B2, k2, d2, x, y, m, B3, k3, d3, ⟨_, _, _, _, _, _, _, _, _, _, _, _, _, rfl⟩, hTw15, hrw15, hlw14, hSw15⟩
        · go_simp
          refine hK.out _ _ (held_alloc hSw8 _) (fun _ => ?_)
          clear hK K
          try simp only [Act.put, List.setIfInBounds_toArray, List.set_cons_zero, List.set_cons_succ]
          refine name_anyH ?_
          intro w17 hWw17
          have hrw17 : w17.heap[w8.heap.size]? = some (.cells #[.slice none 0 0, .slice none 0 0, .slice none 0 0, I 0, I 0, .map none, .slice none 0 0] 93 (0, 0)) := by rw [hWw17]; exact heap_at _ _ rfl
          have hSw17 : Held W w17 := by rw [hWw17]; exact held_alloc hSw8 _
          have hlw17 : W.heap.size ≤ w8.heap.size := hSw8.2.2.size
          clear hWw17
          refine wpAnyH_ready (rs := [9]) (by kernel_rfl) (by simp) ?_
          refine AllReadyH.cons rfl (fun K hK => ?_) AllReadyH.nil
          go_simp
          refine (study_told b _ _ _ (Ch.isDay b dy) _ (HRB.out _ hSw17)).mono ?_
          rintro e w18 ⟨L, rfl, hTw18, hBw18⟩
          obtain ⟨B, k, d, B1, k1, d1, B2, k2, d2, x, y, m, B3, k3, d3, rfl⟩ := hTw18.form
          have hSw18 := held_step hBw18 hSw17
          have hrw18 := (hBw18.block _ (heap_lt hrw17)).trans hrw17
          refine hK.out _ _ hSw18 (fun _ => ?_)
          clear hK K
          try simp only [Act.put, List.setIfInBounds_toArray, List.set_cons_zero, List.set_cons_succ]
          refine wpAnyH_take (i := 10) (v := ?v19) rfl (by decide +kernel) (by decide +kernel) (by decide +kernel) (fun _ _ _ h => h) (Or.inl ⟨by rfl, ?hy19⟩) hSw18 ?r19
          case hy19 =>
            intro w' hSw
            have hq := hSw.1
            clear hSw
            go_simp
            with_reducible rfl
          try simp only [Act.put, List.setIfInBounds_toArray, List.set_cons_zero, List.set_cons_succ]
          refine wpAnyH_take (i := 11) (v := ?v20) rfl (by decide +kernel) (by decide +kernel) (by decide +kernel) (fun _ _ _ h => h) (Or.inl ⟨by rfl, ?hy20⟩) hSw18 ?r20
          case hy20 =>
            intro w' hSw
            have hq := hSw.1
            clear hSw
            go_simp
            with_reducible rfl
          try simp only [Act.put, List.setIfInBounds_toArray, List.set_cons_zero, List.set_cons_succ]
          refine wpAnyH_take (i := 12) (v := ?v21) rfl (by decide +kernel) (by decide +kernel) (by decide +kernel) (fun _ _ _ h => h) (Or.inl ⟨by rfl, ?hy21⟩) hSw18 ?r21
          case hy21 =>
            intro w' hSw
            have hq := hSw.1
            clear hSw
            go_simp
            with_reducible rfl
          try simp only [Act.put, List.setIfInBounds_toArray, List.set_cons_zero, List.set_cons_succ]
          refine wpAnyH_ready (rs := [14]) (by kernel_rfl) (by simp) ?_
          refine AllReadyH.cons rfl (fun K hK => ?_) AllReadyH.nil
          rw [if_pos (by rfl)]
          refine wp_store_row 93 _ _ rfl _ _ rfl rfl _ _ hrw18 (by kernel_rfl) rfl (by simp [Value.oneCell']) ?_
          have hSw22 := held_row hSw18 hlw17 (#[.slice B k d, .slice B1 k1 d1, .slice B2 k2 d2, I x, I y, .map m, .slice B3 k3 d3])
          refine hK.out _ _ hSw22 (fun _ => ?_)
          clear hK K
          try simp only [Act.put, List.setIfInBounds_toArray, List.set_cons_zero, List.set_cons_succ]
          have hrw22 := setRow_heap _ _ _ (#[.slice B k d, .slice B1 k1 d1, .slice B2 k2 d2, I x, I y, .map m, .slice B3 k3 d3]) _ _ hrw18
          have hTw22 := hTw18.row (cs' := #[.slice B k d, .slice B1 k1 d1, .slice B2 k2 d2, I x, I y, .map m, .slice B3 k3 d3]) hrw18 (by simp)
          refine wpAnyH_take (i := 15) (v := ?v23) rfl (by decide +kernel) (by decide +kernel) (by decide +kernel) (fun _ _ _ h => h) (Or.inl ⟨by rfl, ?hy23⟩) hSw22 ?r23
          case hy23 =>
            intro w' hSw
            have hq := hSw.1
            clear hSw
            go_simp
            with_reducible rfl
          try simp only [Act.put, List.setIfInBounds_toArray, List.set_cons_zero, List.set_cons_succ]
          refine wpAnyH_done (by kernel_rfl) ?_ _
          exact ⟨w8.heap.size, B, k, d, B1, k1, d1, B2, k2, d2, x, y, m, B3, k3, d3, ⟨_, _, _, _, _, _, _, _, _, _, _, _, _, rfl⟩, hTw22, hrw22, hlw17, hSw22⟩
      · go_simp
        refine hK.out _ _ (held_alloc hSw4 _) (fun _ => ?_)
        clear hK K
        try simp only [Act.put, List.setIfInBounds_toArray, List.set_cons_zero, List.set_cons_succ]
        refine name_anyH ?_
        intro w24 hWw24
        have hrw24 : w24.heap[w4.heap.size]? = some (.cells #[.slice none 0 0, .slice none 0 0, .slice none 0 0, I 0, I 0, .map none, .slice none 0 0] 93 (0, 0)) := by rw [hWw24]; exact heap_at _ _ rfl
        have hSw24 : Held W w24 := by rw [hWw24]; exact held_alloc hSw4 _
        have hlw24 : W.heap.size ≤ w4.heap.size := hSw4.2.2.size
        clear hWw24
        refine wpAnyH_ready (rs := [7]) (by kernel_rfl) (by simp) ?_
        refine AllReadyH.cons rfl (fun K hK => ?_) AllReadyH.nil
        go_simp
        refine (isDay_any b _ _ _ dy _).mono ?_
        rintro e w25 ⟨rfl, hBw25⟩
        have hSw25 := held_step hBw25 hSw24
        have hrw25 := (hBw25.block _ (heap_lt hrw24)).trans hrw24
        refine hK.out _ _ hSw25 (fun _ => ?_)
        clear hK K
        try simp only [Act.put, List.setIfInBounds_toArray, List.set_cons_zero, List.set_cons_succ]
        refine wpAnyH_take (i := 8) (v := ?v26) rfl (by decide +kernel) (by decide +kernel) (by decide +kernel) (fun _ _ _ h => h) (Or.inl ⟨by rfl, ?hy26⟩) hSw25 ?r26
        case hy26 =>
          intro w' hSw
          have hq := hSw.1
          clear hSw
          go_simp
          with_reducible rfl
        try simp only [Act.put, List.setIfInBounds_toArray, List.set_cons_zero, List.set_cons_succ]
        refine wpAnyH_ready (rs := [9]) (by kernel_rfl) (by simp) ?_
        refine AllReadyH.cons rfl (fun K hK => ?_) AllReadyH.nil
        go_simp
        refine (study_told b _ _ _ (Ch.isDay b dy) _ (HRB.out _ hSw25)).mono ?_
        rintro e w27 ⟨L, rfl, hTw27, hBw27⟩
        obtain ⟨B, k, d, B1, k1, d1, B2, k2, d2, x, y, m, B3, k3, d3, rfl⟩ := hTw27.form
        have hSw27 := held_step hBw27 hSw25
        have hrw27 := (hBw27.block _ (heap_lt hrw25)).trans hrw25
        refine hK.out _ _ hSw27 (fun _ => ?_)
        clear hK K
        try simp only [Act.put, List.setIfInBounds_toArray, List.set_cons_zero, List.set_cons_succ]
        refine wpAnyH_take (i := 10) (v := ?v28) rfl (by decide +kernel) (by decide +kernel) (by decide +kernel) (fun _ _ _ h => h) (Or.inl ⟨by rfl, ?hy28⟩) hSw27 ?r28
        case hy28 =>
          intro w' hSw
          have hq := hSw.1
          clear hSw
          go_simp
          with_reducible rfl
        try simp only [Act.put, List.setIfInBounds_toArray, List.set_cons_zero, List.set_cons_succ]
        refine wpAnyH_take (i := 11) (v := ?v29) rfl (by decide +kernel) (by decide +kernel) (by decide +kernel) (fun _ _ _ h => h) (Or.inl ⟨by rfl, ?hy29⟩) hSw27 ?r29
        case hy29 =>
          intro w' hSw
          have hq := hSw.1
          clear hSw
          go_simp
          with_reducible rfl
        try simp only [Act.put, List.setIfInBounds_toArray, List.set_cons_zero, List.set_cons_succ]
        refine wpAnyH_take (i := 12) (v := ?v30) rfl (by decide +kernel) (by decide +kernel) (by decide +kernel) (fun _ _ _ h => h) (Or.inl ⟨by rfl, ?hy30⟩) hSw27 ?r30
        case hy30 =>
          intro w' hSw
          have hq := hSw.1
          clear hSw
          go_simp
          with_reducible rfl
        try simp only [Act.put, List.setIfInBounds_toArray, List.set_cons_zero, List.set_cons_succ]
        refine wpAnyH_ready (rs := [14]) (by kernel_rfl) (by simp) ?_
        refine AllReadyH.cons rfl (fun K hK => ?_) AllReadyH.nil
        rw [if_pos (by rfl)]
        refine wp_store_row 93 _ _ rfl _ _ rfl rfl _ _ hrw27 (by kernel_rfl) rfl (by simp [Value.oneCell']) ?_
        have hSw31 := held_row hSw27 hlw24 (#[.slice B k d, .slice B1 k1 d1, .slice B2 k2 d2, I x, I y, .map m, .slice B3 k3 d3])
        refine hK.out _ _ hSw31 (fun _ => ?_)
        clear hK K
        try simp only [Act.put, List.setIfInBounds_toArray, List.set_cons_zero, List.set_cons_succ]
        have hrw31 := setRow_heap _ _ _ (#[.slice B k d, .slice B1 k1 d1, .slice B2 k2 d2, I x, I y, .map m, .slice B3 k3 d3]) _ _ hrw27
        have hTw31 := hTw27.row (cs' := #[.slice B k d, .slice B1 k1 d1, .slice B2 k2 d2, I x, I y, .map m, .slice B3 k3 d3]) hrw27 (by simp)
        refine wpAnyH_take (i := 15) (v := ?v32) rfl (by decide +kernel) (by decide +kernel) (by decide +kernel) (fun _ _ _ h => h) (Or.inl ⟨by rfl, ?hy32⟩) hSw31 ?r32
        case hy32 =>
          intro w' hSw
          have hq := hSw.1
          clear hSw
          go_simp
          with_reducible rfl
        try simp only [Act.put, List.setIfInBounds_toArray, List.set_cons_zero, List.set_cons_succ]
        refine wpAnyH_done (by kernel_rfl) ?_ _
        exact ⟨w4.heap.size, B, k, d, B1, k1, d1, B2, k2, d2, x, y, m, B3, k3, d3, ⟨_, _, _, _, _, _, _, _, _, _, _, _, _, rfl⟩, hTw31, hrw31, hlw24, hSw31⟩
    · go_simp
      refine hK.out _ _ (held_alloc (held_start W) _) (fun _ => ?_)
      clear hK K
      try simp only [Act.put, List.setIfInBounds_toArray, List.set_cons_zero, List.set_cons_succ]
      refine name_anyH ?_
      intro w33 hWw33
      have hrw33 : w33.heap[W.drew.heap.size]? = some (.cells #[.slice none 0 0, .slice none 0 0, .slice none 0 0, I 0, I 0, .map none, .slice none 0 0] 93 (0, 0)) := by rw [hWw33]; exact heap_at _ _ rfl
      have hSw33 : Held W w33 := by rw [hWw33]; exact held_alloc (held_start W) _
      have hlw33 : W.heap.size ≤ W.drew.heap.size := (held_start W).2.2.size
      clear hWw33
      refine wpAnyH_ready (rs := [3]) (by kernel_rfl) (by simp) ?_
      refine AllReadyH.cons rfl (fun K hK => ?_) AllReadyH.nil
      go_simp
      refine (isSection_any b A0 c0 _ _ s _).mono ?_
      rintro e w34 ⟨hew34, hBw34⟩
      rw [hsec] at hew34
      subst hew34
      have hSw34 := held_step hBw34 hSw33
      have hrw34 := (hBw34.block _ (heap_lt hrw33)).trans hrw33
      refine hK.out _ _ hSw34 (fun _ => ?_)
      clear hK K
      try simp only [Act.put, List.setIfInBounds_toArray, List.set_cons_zero, List.set_cons_succ]
      refine wpAnyH_take (i := 4) (v := ?v35) rfl (by decide +kernel) (by decide +kernel) (by decide +kernel) (fun _ _ _ h => h) (Or.inl ⟨by rfl, ?hy35⟩) hSw34 ?r35
      case hy35 =>
        intro w' hSw
        have hq := hSw.1
        clear hSw
        go_simp
        with_reducible rfl
      try simp only [Act.put, List.setIfInBounds_toArray, List.set_cons_zero, List.set_cons_succ]
      refine wpAnyH_take (i := 5) (v := ?v36) rfl (by decide +kernel) (by decide +kernel) (by decide +kernel) (fun _ _ _ h => h) (Or.inl ⟨by rfl, ?hy36⟩) hSw34 ?r36
      case hy36 =>
        intro w' hSw
        have hq := hSw.1
        clear hSw
        go_simp
        with_reducible rfl
      try simp only [Act.put, List.setIfInBounds_toArray, List.set_cons_zero, List.set_cons_succ]
      refine wpAnyH_take (i := 6) (v := ?v37) rfl (by decide +kernel) (by decide +kernel) (by decide +kernel) (fun _ _ _ h => h) (Or.inl ⟨by rfl, ?hy37⟩) hSw34 ?r37
      case hy37 =>
        intro w' hSw
        have hq := hSw.1
        clear hSw
        go_simp
        with_reducible rfl
      try simp only [Act.put, List.setIfInBounds_toArray, List.set_cons_zero, List.set_cons_succ]
      refine wpAnyH_ready (rs := [7]) (by kernel_rfl) (by simp) ?_
      refine AllReadyH.cons rfl (fun K hK => ?_) AllReadyH.nil
      go_simp
      refine (isDay_any b _ _ _ dy _).mono ?_
      rintro e w38 ⟨rfl, hBw38⟩
      have hSw38 := held_step hBw38 hSw34
      have hrw38 := (hBw38.block _ (heap_lt hrw34)).trans hrw34
      refine hK.out _ _ hSw38 (fun _ => ?_)
      clear hK K
      try simp only [Act.put, List.setIfInBounds_toArray, List.set_cons_zero, List.set_cons_succ]
      refine wpAnyH_take (i := 8) (v := ?v39) rfl (by decide +kernel) (by decide +kernel) (by decide +kernel) (fun _ _ _ h => h) (Or.inl ⟨by rfl, ?hy39⟩) hSw38 ?r39
      case hy39 =>
        intro w' hSw
        have hq := hSw.1
        clear hSw
        go_simp
        with_reducible rfl
      try simp only [Act.put, List.setIfInBounds_toArray, List.set_cons_zero, List.set_cons_succ]
      refine wpAnyH_ready (rs := [9]) (by kernel_rfl) (by simp) ?_
      refine AllReadyH.cons rfl (fun K hK => ?_) AllReadyH.nil
      go_simp
      refine (study_told b _ _ _ (Ch.isDay b dy) _ (HRB.out _ hSw38)).mono ?_
      rintro e w40 ⟨L, rfl, hTw40, hBw40⟩
      obtain ⟨B, k, d, B1, k1, d1, B2, k2, d2, x, y, m, B3, k3, d3, rfl⟩ := hTw40.form
      have hSw40 := held_step hBw40 hSw38
      have hrw40 := (hBw40.block _ (heap_lt hrw38)).trans hrw38
      refine hK.out _ _ hSw40 (fun _ => ?_)
      clear hK K
      try simp only [Act.put, List.setIfInBounds_toArray, List.set_cons_zero, List.set_cons_succ]
      refine wpAnyH_take (i := 10) (v := ?v41) rfl (by decide +kernel) (by decide +kernel) (by decide +kernel) (fun _ _ _ h => h) (Or.inl ⟨by rfl, ?hy41⟩) hSw40 ?r41
      case hy41 =>
        intro w' hSw
        have hq := hSw.1
        clear hSw
        go_simp
        with_reducible rfl
      try simp only [Act.put, List.setIfInBounds_toArray, List.set_cons_zero, List.set_cons_succ]
      refine wpAnyH_take (i := 11) (v := ?v42) rfl (by decide +kernel) (by decide +kernel) (by decide +kernel) (fun _ _ _ h => h) (Or.inl ⟨by rfl, ?hy42⟩) hSw40 ?r42
      case hy42 =>
        intro w' hSw
        have hq := hSw.1
        clear hSw
        go_simp
        with_reducible rfl
      try simp only [Act.put, List.setIfInBounds_toArray, List.set_cons_zero, List.set_cons_succ]
      refine wpAnyH_take (i := 12) (v := ?v43) rfl (by decide +kernel) (by decide +kernel) (by decide +kernel) (fun _ _ _ h => h) (Or.inl ⟨by rfl, ?hy43⟩) hSw40 ?r43
      case hy43 =>
        intro w' hSw
        have hq := hSw.1
        clear hSw
        go_simp
        with_reducible rfl
      try simp only [Act.put, List.setIfInBounds_toArray, List.set_cons_zero, List.set_cons_succ]
      refine wpAnyH_ready (rs := [14]) (by kernel_rfl) (by simp) ?_
      refine AllReadyH.cons rfl (fun K hK => ?_) AllReadyH.nil
      rw [if_pos (by rfl)]
      refine wp_store_row 93 _ _ rfl _ _ rfl rfl _ _ hrw40 (by kernel_rfl) rfl (by simp [Value.oneCell']) ?_
      have hSw44 := held_row hSw40 hlw33 (#[.slice B k d, .slice B1 k1 d1, .slice B2 k2 d2, I x, I y, .map m, .slice B3 k3 d3])
      refine hK.out _ _ hSw44 (fun _ => ?_)
      clear hK K
      try simp only [Act.put, List.setIfInBounds_toArray, List.set_cons_zero, List.set_cons_succ]
      have hrw44 := setRow_heap _ _ _ (#[.slice B k d, .slice B1 k1 d1, .slice B2 k2 d2, I x, I y, .map m, .slice B3 k3 d3]) _ _ hrw40
      have hTw44 := hTw40.row (cs' := #[.slice B k d, .slice B1 k1 d1, .slice B2 k2 d2, I x, I y, .map m, .slice B3 k3 d3]) hrw40 (by simp)
      refine wpAnyH_take (i := 15) (v := ?v45) rfl (by decide +kernel) (by decide +kernel) (by decide +kernel) (fun _ _ _ h => h) (Or.inl ⟨by rfl, ?hy45⟩) hSw44 ?r45
      case hy45 =>
        intro w' hSw
        have hq := hSw.1
        clear hSw
        go_simp
        with_reducible rfl
      try simp only [Act.put, List.setIfInBounds_toArray, List.set_cons_zero, List.set_cons_succ]
      refine wpAnyH_done (by kernel_rfl) ?_ _
      exact ⟨W.drew.heap.size, B, k, d, B1, k1, d1, B2, k2, d2, x, y, m, B3, k3, d3, ⟨_, _, _, _, _, _, _, _, _, _, _, _, _, rfl⟩, hTw44, hrw44, hlw33, hSw44⟩
  case rest =>
    rintro a' w' ⟨n, B, k, d, B1, k1, d1, B2, k2, d2, x, y, m, B3, k3, d3, ⟨u10, u11, u12, u13, u14, u15, u16, u17, u18, u19, u20, u21, u22, rfl⟩, hT, hrow, hn, hH⟩
    subst hA
    try simp only [Act.put, List.setIfInBounds_toArray, List.set_cons_zero, List.set_cons_succ]
    have hbw : Below w.heap.size w w' := HBW0.out.trans (hH.2.2.mono HBW0.out.size)
    have HBW := Lib.hid hbw
    clear a0 a1 a2 a3 a4 spc0 spc1 HRB HBW0
    have hw1 : w.heap.size + 1 < W.heap.size := by have := HZ.out; omega
    have hspw : w'.heap[w.heap.size + 1]? = some (.cells #[I 0, I 0] 51 (0, 0)) := (hH.2.2.block _ hw1).trans HSP.out
    have z0 := cell_of_row w' _ 0 _ _ _ hspw
    have z1 := cell_of_row w' _ 1 _ _ _ hspw
    simp only [List.getElem?_toArray, List.getElem?_cons_zero, List.getElem?_cons_succ] at z0 z1
    have f0 : w'.frozen? ⟨w.heap.size + 1, 0, none⟩ = false := by simp [World.frozen?, hspw]
    have f1 : w'.frozen? ⟨w.heap.size + 1, 1, none⟩ = false := by simp [World.frozen?, hspw]
    have HSPW := Lib.hid hspw
    by_cases h0 : Ch.studyE b (Ch.isDay b dy) = 0
    · obtain ⟨hv, hp, hne, r, R, hL, hM, hR⟩ := hT.2 h0
      have H0 := Lib.hid h0
      rw [h0]
      have hf := fine_of_valid hv
      have hlen := Ch.truths_len hf.secs hf.n4
      obtain ⟨AR, cR, rfl⟩ := hR.form
      simp at hL
      obtain ⟨⟨rfl, rfl, rfl⟩, ⟨rfl, rfl, rfl⟩, ⟨rfl, rfl, rfl⟩, rfl, rfl, rfl, rfl, rfl, rfl⟩ := hL
      have b0 := cell_of_row w' _ 0 _ _ _ hrow
      have b1 := cell_of_row w' _ 1 _ _ _ hrow
      have b2 := cell_of_row w' _ 2 _ _ _ hrow
      have b3 := cell_of_row w' _ 3 _ _ _ hrow
      have b4 := cell_of_row w' _ 4 _ _ _ hrow
      have b5 := cell_of_row w' _ 5 _ _ _ hrow
      have b6 := cell_of_row w' _ 6 _ _ _ hrow
      simp only [List.getElem?_toArray, List.getElem?_cons_zero, List.getElem?_cons_succ] at b0 b1 b2 b3 b4 b5 b6
      have hnl : n < w'.heap.size := heap_lt hrow
      have hd0 : 0 ≤ b.days := by
        have hv' := hv
        simp only [Ch.valid, Bool.and_eq_true] at hv'
        have := Ch.sized_days hv'.1.1.1.1
        omega
      have HM := Lib.hid (show ∀ W', Below w'.heap.size w' W' → RM W' W'.heap.size b _ from fun W' h => (hM.below h (Nat.le_refl _)).more h.size)
      have HRS := Lib.hid (show ∀ W', Below w'.heap.size w' W' → Trs W' W'.heap.size _ (Ch.truths b) from fun W' h => (hR.below h (Nat.le_refl _)).more h.size)
      have HNE := Lib.hid hne
      have HROW := Lib.hid hrow
      obtain ⟨q, rfl⟩ : ∃ q : Nat, s = q := by
        simp [Ch.isSection] at hsec
        exact ⟨s.toNat, by omega⟩
      obtain ⟨e, rfl⟩ : ∃ e : Nat, dy = e := by
        simp [Ch.isDay] at hp
        exact ⟨dy.toNat, by omega⟩
      have hg : Good b q e := by simp [Ch.isSection] at hsec; simp [Ch.isDay] at hp; exact ⟨hsec, hp⟩
      have hto := hf.truths
      have HHF := Lib.hid hf
      have hws : Ch.thickSp b q e = ⟨Ch.minL ((Ch.truths b).map fun t => (Ch.thickOn b q e t).lo), Ch.maxL ((Ch.truths b).map fun t => (Ch.thickOn b q e t).hi)⟩ := by rw [Ch.thickSp, HPP.out, if_pos h0, Int.toNat_natCast, Int.toNat_natCast]
      have HWS := Lib.hid hws
      have HG := Lib.hid hg
      have HTO := Lib.hid hto
      have hnf : n ≠ w.heap.size + 1 := by omega
      have hFW : w.heap.size + 1 ≤ w'.heap.size := Nat.le_of_lt (heap_lt hspw)
      have hFl : w.heap.size + 1 < w'.heap.size := heap_lt hspw
      clear hT hM hR hrow hspw hbw hw1 hne hH HSP HZ hlt0 hlt1 hv hp hf h0 hws hn hg hto hsec
      go_wp2_with fail
      refine wp_region_held_drew (S := fun W' => Apart (w.heap.size + 1) w' W') (by kernel_rfl) (apart_start _ _) (fun _ => ?_)
      refine wpAnyH_take (i := 0) (v := ?v46) rfl (by decide +kernel) (by decide +kernel) (by decide +kernel) (fun _ _ _ h => h) (Or.inl ⟨by rfl, ?hy46⟩) (apart_start _ _) ?r46
      case hy46 =>
        intro w' hSw
        have hq := hSw.1
        clear hSw
        go_simp
        with_reducible rfl
      try simp only [Act.put, List.setIfInBounds_toArray, List.set_cons_zero, List.set_cons_succ]
      refine wpAnyH_take (i := 1) (v := ?v47) rfl (by decide +kernel) (by decide +kernel) (by decide +kernel) (fun _ _ _ h => h) (Or.inl ⟨by rfl, ?hy47⟩) (apart_start _ _) ?r47
      case hy47 =>
        intro w' hSw
        have hq := hSw.1
        clear hSw
        go_simp
        with_reducible rfl
      try simp only [Act.put, List.setIfInBounds_toArray, List.set_cons_zero, List.set_cons_succ]
      refine wpAnyH_take (i := 2) (v := ?v48) rfl (by decide +kernel) (by decide +kernel) (by decide +kernel) (fun _ _ _ h => h) (Or.inl ⟨by rfl, ?hy48⟩) (apart_start _ _) ?r48
      case hy48 =>
        intro w' hSw
        have hq := hSw.1
        clear hSw
        go_simp
        with_reducible rfl
      try simp only [Act.put, List.setIfInBounds_toArray, List.set_cons_zero, List.set_cons_succ]
      refine wpAnyH_take (i := 3) (v := ?v49) rfl (by decide +kernel) (by decide +kernel) (by decide +kernel) (fun _ _ _ h => h) (Or.inl ⟨by rfl, ?hy49⟩) (apart_start _ _) ?r49
      case hy49 =>
        intro w' hSw
        have hq := hSw.1
        clear hSw
        go_simp
        with_reducible rfl
      try simp only [Act.put, List.setIfInBounds_toArray, List.set_cons_zero, List.set_cons_succ]
      refine wpAnyH_take (i := 4) (v := ?v50) rfl (by decide +kernel) (by decide +kernel) (by decide +kernel) (fun _ _ _ h => h) (Or.inl ⟨by rfl, ?hy50⟩) (apart_start _ _) ?r50
      case hy50 =>
        intro w' hSw
        have hq := hSw.1
        clear hSw
        go_simp
        with_reducible rfl
      try simp only [Act.put, List.setIfInBounds_toArray, List.set_cons_zero, List.set_cons_succ]
      refine wpAnyH_ready (rs := [5]) (by kernel_rfl) (by simp) ?_
      refine AllReadyH.cons rfl (fun K hK => ?_) AllReadyH.nil
      go_simp
      refine (thickOn_ex _ _ _ _ _ b.rule b.days _ _ _ q e _ rfl).mono ?_
      rintro e1 w1 ⟨⟨rfl, hsb, hlb⟩, hB1⟩
      replace hB1 : Below w'.heap.size w' w1 := ((Below.refl w'.heap.size w').drew).trans hB1
      have hS1 : Apart (w.heap.size + 1) w' w1 := apart_of hFW hB1
      refine hK.out _ _ hS1 (fun _ => ?_)
      clear hK K
      try simp only [Act.put, List.setIfInBounds_toArray, List.set_cons_zero, List.set_cons_succ]
      refine wpAnyH_ready (rs := [6]) (by kernel_rfl) (by simp) ?_
      refine AllReadyH.cons rfl (fun K hK => ?_) AllReadyH.nil
      go_simp
      refine (span_thick b _ _ _ _ _ b.rule (Ch.truths b) HTO.out HNE.out hlen q e _ _ _ (HM.out _ hB1) (HRS.out _ hB1) HHF.out.n4 HHF.out.days HG.out _ _ _ rfl hsb hlb).mono ?_
      rintro e2 w2 ⟨rfl, hB2⟩
      have hS2 := apart_step hFW hB2 hS1
      have hb2 : Below w'.heap.size w' w2 := Below.trans hB1 (hB2.mono hB1.size)
      have hs2 := (hb2.block _ hFl).trans HSPW.out
      have hbe := HBW.out.trans (hb2.mono HBW.out.size)
      refine hK.out _ _ hS2 (fun _ => ?_)
      clear hK K
      try simp only [Act.put, List.setIfInBounds_toArray, List.set_cons_zero, List.set_cons_succ]
      refine wpAnyH_ready (rs := [7]) (by kernel_rfl) (by simp) ?_
      refine AllReadyH.cons rfl (fun K hK => ?_) AllReadyH.nil
      rw [if_pos (by rfl)]
      refine wp_store_row 51 _ _ rfl _ _ rfl rfl _ _ hs2 (by kernel_rfl) rfl (by simp [Value.oneCell']) ?_
      refine hK.out _ _ (apart_row hS2 _) (fun _ => ?_)
      clear hK K
      try simp only [Act.put, List.setIfInBounds_toArray, List.set_cons_zero, List.set_cons_succ]
      refine wpAnyH_take (i := 8) (v := ?v51) rfl (by decide +kernel) (by decide +kernel) (by decide +kernel) (fun _ _ _ h => h) (Or.inl ⟨by rfl, ?hy51⟩) (apart_row hS2 _) ?r51
      case hy51 =>
        intro w' hSw
        have hq := hSw.1
        clear hSw
        go_simp
        with_reducible rfl
      try simp only [Act.put, List.setIfInBounds_toArray, List.set_cons_zero, List.set_cons_succ]
      refine wpAnyH_done (by kernel_rfl) ?_ _
      generalize Ch.minL ((Ch.truths b).map fun t => (Ch.thickOn b q e t).lo) = mn at *
      generalize Ch.maxL ((Ch.truths b).map fun t => (Ch.thickOn b q e t).hi) = mx at *
      have y := cell_setRow_same w2 _ 0 _ #[I mn, I mx] _ _ hs2
      have y1 := cell_setRow_same w2 _ 1 _ #[I mn, I mx] _ _ hs2
      simp only [List.getElem?_toArray, List.getElem?_cons_zero, List.getElem?_cons_succ] at y y1
      go_wp2_with fail
      refine bodyPost_ret (v := .tuple #[vSp ⟨mn, mx⟩, I 0]) (by simp [results, Tryz.results29, go_sem, y, y1]) rfl ⟨by rw [HWS.out, HPP.out, H0.out], below_setRow hbe (Nat.le_succ _) _⟩
    · have hws : Ch.thickSp b s dy = ⟨0, 0⟩ := by rw [Ch.thickSp, HPP.out, if_neg h0]
      have HWS := Lib.hid hws
      have hne : (Ch.studyE b (Ch.isDay b dy) != 0) = true := by simpa using h0
      have hnd : (Ch.studyE b (Ch.isDay b dy) == 0) = false := by simpa using h0
      clear hT hrow hspw hbw hw1 hH HSP HZ hlt0 hlt1 h0 hn hws hsec
      go_wp2_with fail
      refine bodyPost_ret (v := .tuple #[vSp ⟨0, 0⟩, I (Ch.studyE b (Ch.isDay b dy))]) (by simp [results, Tryz.results29, go_sem, z0, z1]) rfl ⟨by rw [HWS.out, HPP.out], ?_⟩
      repeat (refine Below.setCell ?_ (by simp <;> omega) _)
      exact HBW.out

set_option maxRecDepth 100000 in
set_option maxHeartbeats 4000000 in
theorem Thick_no (b : Ch.Bk) (S T V : Value) (s dy : Int) (w : World) (hb : RB w w.heap.size b S T V) (hsec : Ch.isSection b s = false) :
    Calls Tryz.prog 29 #[vBk S T V b.rule b.days, I s, I dy] w fun e w' => e = .returned (.tuple #[vSp (Ch.thickSp b s dy), I (Ch.studyE b (Ch.isSection b s && Ch.isDay b dy))]) ∧ Below w.heap.size w w' := by
  obtain ⟨A0, c0, rfl⟩ := hb.secs.form
  obtain ⟨A1, c1, rfl⟩ := hb.turns.form
  obtain ⟨A2, c2, rfl⟩ := hb.svs.form
  have hpp : (Ch.isSection b s && Ch.isDay b dy) = false := by rw [hsec]; rfl
  have HPP := Lib.hid hpp
  clear hpp
  go_enter Tryz.func29, Tryz.ntmps29
  go_wp2_with fail
  refine name_world ?_
  intro W hW
  have hB : Below w.heap.size w W := by rw [hW]; exact ((Below.refl _ _).alloc (Nat.le_refl _) _).alloc (by simp) _
  have hbk : W.heap[w.heap.size]? = some (.cells #[.slice A0 b.secs.length c0, .slice A1 b.turns.length c1, .slice A2 b.svs.length c2, I b.rule, I b.days] 26 (0, 0)) := by rw [hW]; exact (Below.heap_alloc _ _ _ (by simp)).trans (heap_at _ _ rfl)
  have hsp : W.heap[w.heap.size + 1]? = some (.cells #[I 0, I 0] 51 (0, 0)) := by rw [hW]; exact heap_at _ _ (by simp)
  have hz : W.heap.size = w.heap.size + 2 := by rw [hW]; simp
  have hlt0 : w.heap.size < W.heap.size := by omega
  have hlt1 : w.heap.size + 1 < W.heap.size := by omega
  have a0 := cell_of_row W _ 0 _ _ _ hbk
  have a1 := cell_of_row W _ 1 _ _ _ hbk
  have a2 := cell_of_row W _ 2 _ _ _ hbk
  have a3 := cell_of_row W _ 3 _ _ _ hbk
  have a4 := cell_of_row W _ 4 _ _ _ hbk
  simp only [List.getElem?_toArray, List.getElem?_cons_zero, List.getElem?_cons_succ] at a0 a1 a2 a3 a4
  have spc0 := cell_of_row W _ 0 _ _ _ hsp
  have spc1 := cell_of_row W _ 1 _ _ _ hsp
  simp only [List.getElem?_toArray, List.getElem?_cons_zero, List.getElem?_cons_succ] at spc0 spc1
  have HRB := Lib.hid (show ∀ w', Held W w' → RB w' w'.heap.size b (.slice A0 b.secs.length c0) (.slice A1 b.turns.length c1) (.slice A2 b.svs.length c2) from fun w' h => (hb.below (hB.trans (h.2.2.mono hB.size)) (Nat.le_refl _)).more (Nat.le_trans hB.size h.2.2.size))
  have HZ := Lib.hid hz
  have HSP := Lib.hid hsp
  have HBW0 := Lib.hid hB
  clear hW hbk hz hb hB hsp
  refine name_act ?_
  intro A hA
  refine wp_between (fun a' w' => ∃ n B k d B1 k1 d1 B2 k2 d2 x y m B3 k3 d3, (∃ u10 u11 u12 u13 u14 u15 u16 u17 u18 u19 u20 u21 u22, a' = (((((((((((((((A.put (some 10) u10).put (some 11) u11).put (some 12) u12).put (some 13) u13).put (some 14) u14).put (some 15) u15).put (some 16) u16).put (some 17) u17).put (some 18) u18).put (some 19) u19).put (some 20) u20).put (some 21) u21).put (some 22) u22).put (some 8) (.pointer (some ⟨n, 0, none⟩))).put (some 9) (I (Ch.studyE b false)))) ∧ Told b (.slice A0 b.secs.length c0) (.slice A1 b.turns.length c1) (.slice A2 b.svs.length c2) false w' (vLg (.slice B k d) (.slice B1 k1 d1) (.slice B2 k2 d2) x y (.map m) (.slice B3 k3 d3)) ∧ w'.heap[n]? = some (cLg (.slice B k d) (.slice B1 k1 d1) (.slice B2 k2 d2) x y (.map m) (.slice B3 k3 d3)) ∧ W.heap.size ≤ n ∧ Held W w') ?first ?rest
  case first =>
    subst hA
    refine wp_region_held_drew (S := fun w' => Held W w') (by kernel_rfl) (held_start W) (fun _ => ?_)
    refine wpAnyH_take (i := 0) (v := ?v1) rfl (by decide +kernel) (by decide +kernel) (by decide +kernel) (fun _ _ _ h => h) (Or.inl ⟨by rfl, ?hy1⟩) (held_start W) ?r1
    case hy1 =>
      intro w' hSw
      have hq := hSw.1
      clear hSw
      go_simp
      with_reducible rfl
    try simp only [Act.put, List.setIfInBounds_toArray, List.set_cons_zero, List.set_cons_succ]
    refine wpAnyH_take (i := 1) (v := ?v2) rfl (by decide +kernel) (by decide +kernel) (by decide +kernel) (fun _ _ _ h => h) (Or.inl ⟨by rfl, ?hy2⟩) (held_start W) ?r2
    case hy2 =>
      intro w' hSw
      have hq := hSw.1
      clear hSw
      go_simp
      with_reducible rfl
    try simp only [Act.put, List.setIfInBounds_toArray, List.set_cons_zero, List.set_cons_succ]
    refine wpAnyH_take (i := 2) (v := ?v3) rfl (by decide +kernel) (by decide +kernel) (by decide +kernel) (fun _ _ _ h => h) (Or.inl ⟨by rfl, ?hy3⟩) (held_start W) ?r3
    case hy3 =>
      intro w' hSw
      have hq := hSw.1
      clear hSw
      go_simp
      with_reducible rfl
    try simp only [Act.put, List.setIfInBounds_toArray, List.set_cons_zero, List.set_cons_succ]
    refine wpAnyH_ready (rs := [3, 13]) (by kernel_rfl) (by simp) ?_
    refine AllReadyH.cons rfl (fun K hK => ?_) (AllReadyH.cons rfl (fun K hK => ?_) AllReadyH.nil)
    · go_simp
      refine (isSection_any b A0 c0 _ _ s _).mono ?_
      rintro e w4 ⟨hew4, hBw4⟩
      rw [hsec] at hew4
      subst hew4
      have hSw4 := held_step hBw4 (held_start W)
      refine hK.out _ _ hSw4 (fun _ => ?_)
      clear hK K
      try simp only [Act.put, List.setIfInBounds_toArray, List.set_cons_zero, List.set_cons_succ]
      refine wpAnyH_take (i := 4) (v := ?v5) rfl (by decide +kernel) (by decide +kernel) (by decide +kernel) (fun _ _ _ h => h) (Or.inl ⟨by rfl, ?hy5⟩) hSw4 ?r5
      case hy5 =>
        intro w' hSw
        have hq := hSw.1
        clear hSw
        go_simp
        with_reducible rfl
      try simp only [Act.put, List.setIfInBounds_toArray, List.set_cons_zero, List.set_cons_succ]
      refine wpAnyH_take (i := 5) (v := undef) rfl (by decide +kernel) (by decide +kernel) (by decide +kernel) (fun _ _ _ h => h) (Or.inr ⟨by rfl, rfl⟩) hSw4 ?_
      try simp only [Act.put, List.setIfInBounds_toArray, List.set_cons_zero, List.set_cons_succ]
      refine wpAnyH_take (i := 6) (v := undef) rfl (by decide +kernel) (by decide +kernel) (by decide +kernel) (fun _ _ _ h => h) (Or.inr ⟨by rfl, rfl⟩) hSw4 ?_
      try simp only [Act.put, List.setIfInBounds_toArray, List.set_cons_zero, List.set_cons_succ]
      refine wpAnyH_take (i := 7) (v := undef) rfl (by decide +kernel) (by decide +kernel) (by decide +kernel) (fun _ _ _ h => h) (Or.inr ⟨by rfl, rfl⟩) hSw4 ?_
      try simp only [Act.put, List.setIfInBounds_toArray, List.set_cons_zero, List.set_cons_succ]
      refine wpAnyH_take (i := 8) (v := ?v6) rfl (by decide +kernel) (by decide +kernel) (by decide +kernel) (fun _ _ _ h => h) (Or.inl ⟨by rfl, ?hy6⟩) hSw4 ?r6
      case hy6 =>
        intro w' hSw
        have hq := hSw.1
        clear hSw
        go_simp
        with_reducible rfl
      try simp only [Act.put, List.setIfInBounds_toArray, List.set_cons_zero, List.set_cons_succ]
      refine wpAnyH_ready (rs := [9, 13]) (by kernel_rfl) (by simp) ?_
      refine AllReadyH.cons rfl (fun K hK => ?_) (AllReadyH.cons rfl (fun K hK => ?_) AllReadyH.nil)
      · go_simp
        refine (study_told b _ _ _ false _ (HRB.out _ hSw4)).mono ?_
        rintro e w7 ⟨L, rfl, hTw7, hBw7⟩
        obtain ⟨B, k, d, B1, k1, d1, B2, k2, d2, x, y, m, B3, k3, d3, rfl⟩ := hTw7.form
        have hSw7 := held_step hBw7 hSw4
        refine hK.out _ _ hSw7 (fun _ => ?_)
        clear hK K
        try simp only [Act.put, List.setIfInBounds_toArray, List.set_cons_zero, List.set_cons_succ]
        refine wpAnyH_take (i := 10) (v := ?v8) rfl (by decide +kernel) (by decide +kernel) (by decide +kernel) (fun _ _ _ h => h) (Or.inl ⟨by rfl, ?hy8⟩) hSw7 ?r8
        case hy8 =>
          intro w' hSw
          have hq := hSw.1
          clear hSw
          go_simp
          with_reducible rfl
        try simp only [Act.put, List.setIfInBounds_toArray, List.set_cons_zero, List.set_cons_succ]
        refine wpAnyH_take (i := 11) (v := ?v9) rfl (by decide +kernel) (by decide +kernel) (by decide +kernel) (fun _ _ _ h => h) (Or.inl ⟨by rfl, ?hy9⟩) hSw7 ?r9
        case hy9 =>
          intro w' hSw
          have hq := hSw.1
          clear hSw
          go_simp
          with_reducible rfl
        try simp only [Act.put, List.setIfInBounds_toArray, List.set_cons_zero, List.set_cons_succ]
        refine wpAnyH_take (i := 12) (v := ?v10) rfl (by decide +kernel) (by decide +kernel) (by decide +kernel) (fun _ _ _ h => h) (Or.inl ⟨by rfl, ?hy10⟩) hSw7 ?r10
        case hy10 =>
          intro w' hSw
          have hq := hSw.1
          clear hSw
          go_simp
          with_reducible rfl
        try simp only [Act.put, List.setIfInBounds_toArray, List.set_cons_zero, List.set_cons_succ]
        refine wpAnyH_ready (rs := [13]) (by kernel_rfl) (by simp) ?_
        refine AllReadyH.cons rfl (fun K hK => ?_) AllReadyH.nil
        go_simp
        refine hK.out _ _ (held_alloc hSw7 _) (fun _ => ?_)
        clear hK K
        try simp only [Act.put, List.setIfInBounds_toArray, List.set_cons_zero, List.set_cons_succ]
        refine name_anyH ?_
        intro w11 hWw11
        have hrw11 : w11.heap[w7.heap.size]? = some (.cells #[.slice none 0 0, .slice none 0 0, .slice none 0 0, I 0, I 0, .map none, .slice none 0 0] 93 (0, 0)) := by rw [hWw11]; exact heap_at _ _ rfl
        have hSw11 : Held W w11 := by rw [hWw11]; exact held_alloc hSw7 _
        have hlw11 : W.heap.size ≤ w7.heap.size := hSw7.2.2.size
        have hTw11 := hTw7.below (show Below w7.heap.size w7 w11 by rw [hWw11]; exact (Below.refl _ _).alloc (Nat.le_refl _) _)
        clear hWw11
        refine wpAnyH_ready (rs := [14]) (by kernel_rfl) (by simp) ?_
        refine AllReadyH.cons rfl (fun K hK => ?_) AllReadyH.nil
        rw [if_pos (by rfl)]
        refine wp_store_row 93 _ _ rfl _ _ rfl rfl _ _ hrw11 (by kernel_rfl) rfl (by simp [Value.oneCell']) ?_
        have hSw12 := held_row hSw11 hlw11 (#[.slice B k d, .slice B1 k1 d1, .slice B2 k2 d2, I x, I y, .map m, .slice B3 k3 d3])
        refine hK.out _ _ hSw12 (fun _ => ?_)
        clear hK K
        try simp only [Act.put, List.setIfInBounds_toArray, List.set_cons_zero, List.set_cons_succ]
        have hrw12 := setRow_heap _ _ _ (#[.slice B k d, .slice B1 k1 d1, .slice B2 k2 d2, I x, I y, .map m, .slice B3 k3 d3]) _ _ hrw11
        have hTw12 := hTw11.row (cs' := #[.slice B k d, .slice B1 k1 d1, .slice B2 k2 d2, I x, I y, .map m, .slice B3 k3 d3]) hrw11 (by simp)
        refine wpAnyH_take (i := 15) (v := ?v13) rfl (by decide +kernel) (by decide +kernel) (by decide +kernel) (fun _ _ _ h => h) (Or.inl ⟨by rfl, ?hy13⟩) hSw12 ?r13
        case hy13 =>
          intro w' hSw
          have hq := hSw.1
          clear hSw
          go_simp
          with_reducible rfl
        try simp only [Act.put, List.setIfInBounds_toArray, List.set_cons_zero, List.set_cons_succ]
        refine wpAnyH_done (by kernel_rfl) ?_ _
        exact ⟨w7.heap.size, B, k, d, B1, k1, d1, B2, k2, d2, x, y, m, B3, k3, d3, ⟨_, _, _, _, _, _, _, _, _, _, _, _, _, rfl⟩, hTw12, hrw12, hlw11, hSw12⟩
      · go_simp
        refine hK.out _ _ (held_alloc hSw4 _) (fun _ => ?_)
        clear hK K
        try simp only [Act.put, List.setIfInBounds_toArray, List.set_cons_zero, List.set_cons_succ]
        refine name_anyH ?_
        intro w14 hWw14
        have hrw14 : w14.heap[w4.heap.size]? = some (.cells #[.slice none 0 0, .slice none 0 0, .slice none 0 0, I 0, I 0, .map none, .slice none 0 0] 93 (0, 0)) := by rw [hWw14]; exact heap_at _ _ rfl
        have hSw14 : Held W w14 := by rw [hWw14]; exact held_alloc hSw4 _
        have hlw14 : W.heap.size ≤ w4.heap.size := hSw4.2.2.size
        clear hWw14
        refine wpAnyH_ready (rs := [9]) (by kernel_rfl) (by simp) ?_
        refine AllReadyH.cons rfl (fun K hK => ?_) AllReadyH.nil
        go_simp
        refine (study_told b _ _ _ false _ (HRB.out _ hSw14)).mono ?_
        rintro e w15 ⟨L, rfl, hTw15, hBw15⟩
        obtain ⟨B, k, d, B1, k1, d1, B2, k2, d2, x, y, m, B3, k3, d3, rfl⟩ := hTw15.form
        have hSw15 := held_step hBw15 hSw14
        have hrw15 := (hBw15.block _ (heap_lt hrw14)).trans hrw14
        refine hK.out _ _ hSw15 (fun _ => ?_)
        clear hK K
        try simp only [Act.put, List.setIfInBounds_toArray, List.set_cons_zero, List.set_cons_succ]
        refine wpAnyH_take (i := 10) (v := ?v16) rfl (by decide +kernel) (by decide +kernel) (by decide +kernel) (fun _ _ _ h => h) (Or.inl ⟨by rfl, ?hy16⟩) hSw15 ?r16
        case hy16 =>
          intro w' hSw
          have hq := hSw.1
          clear hSw
          go_simp
          with_reducible rfl
        try simp only [Act.put, List.setIfInBounds_toArray, List.set_cons_zero, List.set_cons_succ]
        refine wpAnyH_take (i := 11) (v := ?v17) rfl (by decide +kernel) (by decide +kernel) (by decide +kernel) (fun _ _ _ h => h) (Or.inl ⟨by rfl, ?hy17⟩) hSw15 ?r17
        case hy17 =>
          intro w' hSw
          have hq := hSw.1
          clear hSw
          go_simp
          with_reducible rfl
        try simp only [Act.put, List.setIfInBounds_toArray, List.set_cons_zero, List.set_cons_succ]
        refine wpAnyH_take (i := 12) (v := ?v18) rfl (by decide +kernel) (by decide +kernel) (by decide +kernel) (fun _ _ _ h => h) (Or.inl ⟨by rfl, ?hy18⟩) hSw15 ?r18
        case hy18 =>
          intro w' hSw
          have hq := hSw.1
          clear hSw
          go_simp
          with_reducible rfl
        try simp only [Act.put, List.setIfInBounds_toArray, List.set_cons_zero, List.set_cons_succ]
        refine wpAnyH_ready (rs := [14]) (by kernel_rfl) (by simp) ?_
        refine AllReadyH.cons rfl (fun K hK => ?_) AllReadyH.nil
        rw [if_pos (by rfl)]
        refine wp_store_row 93 _ _ rfl _ _ rfl rfl _ _ hrw15 (by kernel_rfl) rfl (by simp [Value.oneCell']) ?_
        have hSw19 := held_row hSw15 hlw14 (#[.slice B k d, .slice B1 k1 d1, .slice B2 k2 d2, I x, I y, .map m, .slice B3 k3 d3])
        refine hK.out _ _ hSw19 (fun _ => ?_)
        clear hK K
        try simp only [Act.put, List.setIfInBounds_toArray, List.set_cons_zero, List.set_cons_succ]
        have hrw19 := setRow_heap _ _ _ (#[.slice B k d, .slice B1 k1 d1, .slice B2 k2 d2, I x, I y, .map m, .slice B3 k3 d3]) _ _ hrw15
        have hTw19 := hTw15.row (cs' := #[.slice B k d, .slice B1 k1 d1, .slice B2 k2 d2, I x, I y, .map m, .slice B3 k3 d3]) hrw15 (by simp)
        refine wpAnyH_take (i := 15) (v := ?v20) rfl (by decide +kernel) (by decide +kernel) (by decide +kernel) (fun _ _ _ h => h) (Or.inl ⟨by rfl, ?hy20⟩) hSw19 ?r20
        case hy20 =>
          intro w' hSw
          have hq := hSw.1
          clear hSw
          go_simp
          with_reducible rfl
        try simp only [Act.put, List.setIfInBounds_toArray, List.set_cons_zero, List.set_cons_succ]
        refine wpAnyH_done (by kernel_rfl) ?_ _
        exact ⟨w4.heap.size, B, k, d, B1, k1, d1, B2, k2, d2, x, y, m, B3, k3, d3, ⟨_, _, _, _, _, _, _, _, _, _, _, _, _, rfl⟩, hTw19, hrw19, hlw14, hSw19⟩
    · go_simp
      refine hK.out _ _ (held_alloc (held_start W) _) (fun _ => ?_)
      clear hK K
      try simp only [Act.put, List.setIfInBounds_toArray, List.set_cons_zero, List.set_cons_succ]
      refine name_anyH ?_
      intro w21 hWw21
      have hrw21 : w21.heap[W.drew.heap.size]? = some (.cells #[.slice none 0 0, .slice none 0 0, .slice none 0 0, I 0, I 0, .map none, .slice none 0 0] 93 (0, 0)) := by rw [hWw21]; exact heap_at _ _ rfl
      have hSw21 : Held W w21 := by rw [hWw21]; exact held_alloc (held_start W) _
      have hlw21 : W.heap.size ≤ W.drew.heap.size := (held_start W).2.2.size
      clear hWw21
      refine wpAnyH_ready (rs := [3]) (by kernel_rfl) (by simp) ?_
      refine AllReadyH.cons rfl (fun K hK => ?_) AllReadyH.nil
      go_simp
      refine (isSection_any b A0 c0 _ _ s _).mono ?_
      rintro e w22 ⟨hew22, hBw22⟩
      rw [hsec] at hew22
      subst hew22
      have hSw22 := held_step hBw22 hSw21
      have hrw22 := (hBw22.block _ (heap_lt hrw21)).trans hrw21
      refine hK.out _ _ hSw22 (fun _ => ?_)
      clear hK K
      try simp only [Act.put, List.setIfInBounds_toArray, List.set_cons_zero, List.set_cons_succ]
      refine wpAnyH_take (i := 4) (v := ?v23) rfl (by decide +kernel) (by decide +kernel) (by decide +kernel) (fun _ _ _ h => h) (Or.inl ⟨by rfl, ?hy23⟩) hSw22 ?r23
      case hy23 =>
        intro w' hSw
        have hq := hSw.1
        clear hSw
        go_simp
        with_reducible rfl
      try simp only [Act.put, List.setIfInBounds_toArray, List.set_cons_zero, List.set_cons_succ]
      refine wpAnyH_take (i := 5) (v := undef) rfl (by decide +kernel) (by decide +kernel) (by decide +kernel) (fun _ _ _ h => h) (Or.inr ⟨by rfl, rfl⟩) hSw22 ?_
      try simp only [Act.put, List.setIfInBounds_toArray, List.set_cons_zero, List.set_cons_succ]
      refine wpAnyH_take (i := 6) (v := undef) rfl (by decide +kernel) (by decide +kernel) (by decide +kernel) (fun _ _ _ h => h) (Or.inr ⟨by rfl, rfl⟩) hSw22 ?_
      try simp only [Act.put, List.setIfInBounds_toArray, List.set_cons_zero, List.set_cons_succ]
      refine wpAnyH_take (i := 7) (v := undef) rfl (by decide +kernel) (by decide +kernel) (by decide +kernel) (fun _ _ _ h => h) (Or.inr ⟨by rfl, rfl⟩) hSw22 ?_
      try simp only [Act.put, List.setIfInBounds_toArray, List.set_cons_zero, List.set_cons_succ]
      refine wpAnyH_take (i := 8) (v := ?v24) rfl (by decide +kernel) (by decide +kernel) (by decide +kernel) (fun _ _ _ h => h) (Or.inl ⟨by rfl, ?hy24⟩) hSw22 ?r24
      case hy24 =>
        intro w' hSw
        have hq := hSw.1
        clear hSw
        go_simp
        with_reducible rfl
      try simp only [Act.put, List.setIfInBounds_toArray, List.set_cons_zero, List.set_cons_succ]
      refine wpAnyH_ready (rs := [9]) (by kernel_rfl) (by simp) ?_
      refine AllReadyH.cons rfl (fun K hK => ?_) AllReadyH.nil
      go_simp
      refine (study_told b _ _ _ false _ (HRB.out _ hSw22)).mono ?_
      rintro e w25 ⟨L, rfl, hTw25, hBw25⟩
      obtain ⟨B, k, d, B1, k1, d1, B2, k2, d2, x, y, m, B3, k3, d3, rfl⟩ := hTw25.form
      have hSw25 := held_step hBw25 hSw22
      have hrw25 := (hBw25.block _ (heap_lt hrw22)).trans hrw22
      refine hK.out _ _ hSw25 (fun _ => ?_)
      clear hK K
      try simp only [Act.put, List.setIfInBounds_toArray, List.set_cons_zero, List.set_cons_succ]
      refine wpAnyH_take (i := 10) (v := ?v26) rfl (by decide +kernel) (by decide +kernel) (by decide +kernel) (fun _ _ _ h => h) (Or.inl ⟨by rfl, ?hy26⟩) hSw25 ?r26
      case hy26 =>
        intro w' hSw
        have hq := hSw.1
        clear hSw
        go_simp
        with_reducible rfl
      try simp only [Act.put, List.setIfInBounds_toArray, List.set_cons_zero, List.set_cons_succ]
      refine wpAnyH_take (i := 11) (v := ?v27) rfl (by decide +kernel) (by decide +kernel) (by decide +kernel) (fun _ _ _ h => h) (Or.inl ⟨by rfl, ?hy27⟩) hSw25 ?r27
      case hy27 =>
        intro w' hSw
        have hq := hSw.1
        clear hSw
        go_simp
        with_reducible rfl
      try simp only [Act.put, List.setIfInBounds_toArray, List.set_cons_zero, List.set_cons_succ]
      refine wpAnyH_take (i := 12) (v := ?v28) rfl (by decide +kernel) (by decide +kernel) (by decide +kernel) (fun _ _ _ h => h) (Or.inl ⟨by rfl, ?hy28⟩) hSw25 ?r28
      case hy28 =>
        intro w' hSw
        have hq := hSw.1
        clear hSw
        go_simp
        with_reducible rfl
      try simp only [Act.put, List.setIfInBounds_toArray, List.set_cons_zero, List.set_cons_succ]
      refine wpAnyH_ready (rs := [14]) (by kernel_rfl) (by simp) ?_
      refine AllReadyH.cons rfl (fun K hK => ?_) AllReadyH.nil
      rw [if_pos (by rfl)]
      refine wp_store_row 93 _ _ rfl _ _ rfl rfl _ _ hrw25 (by kernel_rfl) rfl (by simp [Value.oneCell']) ?_
      have hSw29 := held_row hSw25 hlw21 (#[.slice B k d, .slice B1 k1 d1, .slice B2 k2 d2, I x, I y, .map m, .slice B3 k3 d3])
      refine hK.out _ _ hSw29 (fun _ => ?_)
      clear hK K
      try simp only [Act.put, List.setIfInBounds_toArray, List.set_cons_zero, List.set_cons_succ]
      have hrw29 := setRow_heap _ _ _ (#[.slice B k d, .slice B1 k1 d1, .slice B2 k2 d2, I x, I y, .map m, .slice B3 k3 d3]) _ _ hrw25
      have hTw29 := hTw25.row (cs' := #[.slice B k d, .slice B1 k1 d1, .slice B2 k2 d2, I x, I y, .map m, .slice B3 k3 d3]) hrw25 (by simp)
      refine wpAnyH_take (i := 15) (v := ?v30) rfl (by decide +kernel) (by decide +kernel) (by decide +kernel) (fun _ _ _ h => h) (Or.inl ⟨by rfl, ?hy30⟩) hSw29 ?r30
      case hy30 =>
        intro w' hSw
        have hq := hSw.1
        clear hSw
        go_simp
        with_reducible rfl
      try simp only [Act.put, List.setIfInBounds_toArray, List.set_cons_zero, List.set_cons_succ]
      refine wpAnyH_done (by kernel_rfl) ?_ _
      exact ⟨W.drew.heap.size, B, k, d, B1, k1, d1, B2, k2, d2, x, y, m, B3, k3, d3, ⟨_, _, _, _, _, _, _, _, _, _, _, _, _, rfl⟩, hTw29, hrw29, hlw21, hSw29⟩
  case rest =>
    rintro a' w' ⟨n, B, k, d, B1, k1, d1, B2, k2, d2, x, y, m, B3, k3, d3, ⟨u10, u11, u12, u13, u14, u15, u16, u17, u18, u19, u20, u21, u22, rfl⟩, hT, hrow, hn, hH⟩
    subst hA
    try simp only [Act.put, List.setIfInBounds_toArray, List.set_cons_zero, List.set_cons_succ]
    have hbw : Below w.heap.size w w' := HBW0.out.trans (hH.2.2.mono HBW0.out.size)
    have HBW := Lib.hid hbw
    clear a0 a1 a2 a3 a4 spc0 spc1 HRB HBW0
    have hw1 : w.heap.size + 1 < W.heap.size := by have := HZ.out; omega
    have hspw : w'.heap[w.heap.size + 1]? = some (.cells #[I 0, I 0] 51 (0, 0)) := (hH.2.2.block _ hw1).trans HSP.out
    have z0 := cell_of_row w' _ 0 _ _ _ hspw
    have z1 := cell_of_row w' _ 1 _ _ _ hspw
    simp only [List.getElem?_toArray, List.getElem?_cons_zero, List.getElem?_cons_succ] at z0 z1
    have f0 : w'.frozen? ⟨w.heap.size + 1, 0, none⟩ = false := by simp [World.frozen?, hspw]
    have f1 : w'.frozen? ⟨w.heap.size + 1, 1, none⟩ = false := by simp [World.frozen?, hspw]
    have HSPW := Lib.hid hspw
    have h0 : Ch.studyE b false ≠ 0 := by unfold Ch.studyE; split <;> simp
    have hws : Ch.thickSp b s dy = ⟨0, 0⟩ := by rw [Ch.thickSp, HPP.out, if_neg h0]
    have HWS := Lib.hid hws
    have hne : (Ch.studyE b false != 0) = true := by simpa using h0
    have hnd : (Ch.studyE b false == 0) = false := by simpa using h0
    clear hT hrow hspw hbw hw1 hH HSP HZ hlt0 hlt1 h0 hn hws hsec
    go_wp2_with fail
    refine bodyPost_ret (v := .tuple #[vSp ⟨0, 0⟩, I (Ch.studyE b false)]) (by simp [results, Tryz.results29, go_sem, z0, z1]) rfl ⟨by rw [HWS.out, HPP.out], ?_⟩
    repeat (refine Below.setCell ?_ (by simp <;> omega) _)
    exact HBW.out

theorem Thick_any (b : Ch.Bk) (S T V : Value) (s dy : Int) (w : World) (hb : RB w w.heap.size b S T V) :
    Calls Tryz.prog 29 #[vBk S T V b.rule b.days, I s, I dy] w fun e w' => e = .returned (.tuple #[vSp (Ch.thickSp b s dy), I (Ch.studyE b (Ch.isSection b s && Ch.isDay b dy))]) ∧ Below w.heap.size w w' := by
  cases h : Ch.isSection b s
  · have := Thick_no b S T V s dy w hb h
    rw [h] at this
    exact this
  · have := Thick_yes b S T V s dy w hb h
    rw [h] at this
    exact this

end Go.Proofs.YtkfahochpnggbaaGreat
