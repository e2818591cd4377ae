/- Texts on the program that the proof leans on, part 26. -/
import Derived.Test.YtkfahochpnggbaaGreatYay
set_option linter.unusedVariables false
set_option linter.unusedSimpArgs false

/- Contract of chain's Fits. -/
namespace Go.Proofs.YtkfahochpnggbaaGreat
open Go.RowKit

theorem svOk_of {b : Ch.Bk} {x : Ch.Sv} (h : Ch.isSurvey b x = true) : SvOk b x := by
  simp [Ch.isSurvey, Ch.isSection, Ch.isDay, Ch.between] at h
  exact ⟨by omega, by omega, by omega, by omega, by omega, by omega, by omega, by omega⟩
/-- Whether a survey can be right. -/
def Ch.fitsR (b : Ch.Bk) (x : Ch.Sv) : Bool := if Ch.studyE b (Ch.isSurvey b x) = 0 then (Ch.truths b).any (Ch.fitsIn b x) else false

set_option maxRecDepth 100000 in
set_option maxHeartbeats 4000000 in
theorem Fits_any (b : Ch.Bk) (S T V : Value) (x : Ch.Sv) (w : World) (hb : RB w w.heap.size b S T V) :
    Calls Tryz.prog 35 #[vBk S T V b.rule b.days, vSv x] w fun e w' => e = .returned (.tuple #[.bool (Ch.fitsR b x), I (Ch.studyE b (Ch.isSurvey b x))]) ∧ Below w.heap.size w w' := by
  obtain ⟨A0, c0, rfl⟩ := hb.secs.form
  obtain ⟨A1, c1, rfl⟩ := hb.turns.form
  obtain ⟨A2, c2, rfl⟩ := hb.svs.form
  go_enter Tryz.func35, Tryz.ntmps35
  go_wp2_with fail
  refine name_world ?_
  intro W hW
  have hB : Below w.heap.size w W := by rw [hW]; exact ((Below.refl _ _).alloc (Nat.le_refl _) _).alloc (by simp) _
  have hbk : W.heap[w.heap.size]? = some (.cells #[.slice A0 b.secs.length c0, .slice A1 b.turns.length c1, .slice A2 b.svs.length c2, I b.rule, I b.days] 26 (0, 0)) := by rw [hW]; exact (Below.heap_alloc _ _ _ (by simp)).trans (heap_at _ _ rfl)
  have hsv : W.heap[w.heap.size + 1]? = some (.cells #[I x.sec, I x.day, I x.read, I x.err] 34 (0, 0)) := by rw [hW]; exact heap_at _ _ (by simp)
  have hz : W.heap.size = w.heap.size + 2 := by rw [hW]; simp
  have hlt0 : w.heap.size < W.heap.size := by omega
  have hlt1 : w.heap.size + 1 < W.heap.size := by omega
  have a0 := cell_of_row W _ 0 _ _ _ hbk
  have a1 := cell_of_row W _ 1 _ _ _ hbk
  have a2 := cell_of_row W _ 2 _ _ _ hbk
  have a3 := cell_of_row W _ 3 _ _ _ hbk
  have a4 := cell_of_row W _ 4 _ _ _ hbk
  simp only [List.getElem?_toArray, List.getElem?_cons_zero, List.getElem?_cons_succ] at a0 a1 a2 a3 a4
  have svc0 := cell_of_row W _ 0 _ _ _ hsv
  have svc1 := cell_of_row W _ 1 _ _ _ hsv
  have svc2 := cell_of_row W _ 2 _ _ _ hsv
  have svc3 := cell_of_row W _ 3 _ _ _ hsv
  simp only [List.getElem?_toArray, List.getElem?_cons_zero, List.getElem?_cons_succ] at svc0 svc1 svc2 svc3
  have HRB := Lib.hid (show ∀ w', Held W w' → RB w' w'.heap.size b (.slice A0 b.secs.length c0) (.slice A1 b.turns.length c1) (.slice A2 b.svs.length c2) from fun w' h => (hb.below (hB.trans (h.2.2.mono hB.size)) (Nat.le_refl _)).more (Nat.le_trans hB.size h.2.2.size))
  have HZ := Lib.hid hz
  have HSV := Lib.hid hsv
  have HBW0 := Lib.hid hB
  clear hW hbk hz hb hB hsv
  refine name_act ?_
  intro A hA
  refine wp_between (fun a' w' => ∃ n B k d B1 k1 d1 B2 k2 d2 xr yd m B3 k3 d3, (∃ u8 u9 u10 u11 u12 u13 u14 u15, a' = ((((((((((A.put (some 8) u8).put (some 9) u9).put (some 10) u10).put (some 11) u11).put (some 12) u12).put (some 13) u13).put (some 14) u14).put (some 15) u15).put (some 6) (.pointer (some ⟨n, 0, none⟩))).put (some 7) (I (Ch.studyE b (Ch.isSurvey b x))))) ∧ Told b (.slice A0 b.secs.length c0) (.slice A1 b.turns.length c1) (.slice A2 b.svs.length c2) (Ch.isSurvey b x) w' (vLg (.slice B k d) (.slice B1 k1 d1) (.slice B2 k2 d2) xr yd (.map m) (.slice B3 k3 d3)) ∧ w'.heap[n]? = some (cLg (.slice B k d) (.slice B1 k1 d1) (.slice B2 k2 d2) xr yd (.map m) (.slice B3 k3 d3)) ∧ W.heap.size ≤ n ∧ Held W w') ?first ?rest
  case first =>
    subst hA
    refine wp_region_held_drew (S := fun w' => Held W w') (by kernel_rfl) (held_start W) (fun _ => ?_)
    refine wpAnyH_take (i := 0) (v := ?v1) rfl (by decide +kernel) (by decide +kernel) (by decide +kernel) (fun _ _ _ h => h) (Or.inl ⟨by rfl, ?hy1⟩) (held_start W) ?r1
    case hy1 =>
      intro w' hSw
      have hq := hSw.1
      clear hSw
      go_simp
      with_reducible rfl
    try simp only [Act.put, List.setIfInBounds_toArray, List.set_cons_zero, List.set_cons_succ]
    refine wpAnyH_take (i := 1) (v := ?v2) rfl (by decide +kernel) (by decide +kernel) (by decide +kernel) (fun _ _ _ h => h) (Or.inl ⟨by rfl, ?hy2⟩) (held_start W) ?r2
    case hy2 =>
      intro w' hSw
      have hq := hSw.1
      clear hSw
      go_simp
      with_reducible rfl
    try simp only [Act.put, List.setIfInBounds_toArray, List.set_cons_zero, List.set_cons_succ]
    refine wpAnyH_take (i := 2) (v := ?v3) rfl (by decide +kernel) (by decide +kernel) (by decide +kernel) (fun _ _ _ h => h) (Or.inl ⟨by rfl, ?hy3⟩) (held_start W) ?r3
    case hy3 =>
      intro w' hSw
      have hq := hSw.1
      clear hSw
      go_simp
      with_reducible rfl
    try simp only [Act.put, List.setIfInBounds_toArray, List.set_cons_zero, List.set_cons_succ]
    refine wpAnyH_ready (rs := [3, 8]) (by kernel_rfl) (by simp) ?_
    refine AllReadyH.cons rfl (fun K hK => ?_) (AllReadyH.cons rfl (fun K hK => ?_) AllReadyH.nil)
    · go_simp
      refine (isSurvey_any b A0 c0 _ _ x _).mono ?_
      rintro e w4 ⟨rfl, hBw4⟩
      have hSw4 := held_step hBw4 (held_start W)
      refine hK.out _ _ hSw4 (fun _ => ?_)
      clear hK K
      try simp only [Act.put, List.setIfInBounds_toArray, List.set_cons_zero, List.set_cons_succ]
      refine wpAnyH_ready (rs := [4, 8]) (by kernel_rfl) (by simp) ?_
      refine AllReadyH.cons rfl (fun K hK => ?_) (AllReadyH.cons rfl (fun K hK => ?_) AllReadyH.nil)
      · go_simp
        refine (study_told b _ _ _ (Ch.isSurvey b x) _ (HRB.out _ hSw4)).mono ?_
        rintro e w5 ⟨L, rfl, hTw5, hBw5⟩
        obtain ⟨B, k, d, B1, k1, d1, B2, k2, d2, xr, yd, m, B3, k3, d3, rfl⟩ := hTw5.form
        have hSw5 := held_step hBw5 hSw4
        refine hK.out _ _ hSw5 (fun _ => ?_)
        clear hK K
        try simp only [Act.put, List.setIfInBounds_toArray, List.set_cons_zero, List.set_cons_succ]
        refine wpAnyH_take (i := 5) (v := ?v6) rfl (by decide +kernel) (by decide +kernel) (by decide +kernel) (fun _ _ _ h => h) (Or.inl ⟨by rfl, ?hy6⟩) hSw5 ?r6
        case hy6 =>
          intro w' hSw
          have hq := hSw.1
          clear hSw
          go_simp
          with_reducible rfl
        try simp only [Act.put, List.setIfInBounds_toArray, List.set_cons_zero, List.set_cons_succ]
        refine wpAnyH_take (i := 6) (v := ?v7) rfl (by decide +kernel) (by decide +kernel) (by decide +kernel) (fun _ _ _ h => h) (Or.inl ⟨by rfl, ?hy7⟩) hSw5 ?r7
        case hy7 =>
          intro w' hSw
          have hq := hSw.1
          clear hSw
          go_simp
          with_reducible rfl
        try simp only [Act.put, List.setIfInBounds_toArray, List.set_cons_zero, List.set_cons_succ]
        refine wpAnyH_take (i := 7) (v := ?v8) rfl (by decide +kernel) (by decide +kernel) (by decide +kernel) (fun _ _ _ h => h) (Or.inl ⟨by rfl, ?hy8⟩) hSw5 ?r8
        case hy8 =>
          intro w' hSw
          have hq := hSw.1
          clear hSw
          go_simp
          with_reducible rfl
        try simp only [Act.put, List.setIfInBounds_toArray, List.set_cons_zero, List.set_cons_succ]
        refine wpAnyH_ready (rs := [8]) (by kernel_rfl) (by simp) ?_
        refine AllReadyH.cons rfl (fun K hK => ?_) AllReadyH.nil
        go_simp
        refine hK.out _ _ (held_alloc hSw5 _) (fun _ => ?_)
        clear hK K
        try simp only [Act.put, List.setIfInBounds_toArray, List.set_cons_zero, List.set_cons_succ]
        refine name_anyH ?_
        intro w9 hWw9
        have hrw9 : w9.heap[w5.heap.size]? = some (.cells #[.slice none 0 0, .slice none 0 0, .slice none 0 0, I 0, I 0, .map none, .slice none 0 0] 93 (0, 0)) := by rw [hWw9]; exact heap_at _ _ rfl
        have hSw9 : Held W w9 := by rw [hWw9]; exact held_alloc hSw5 _
        have hlw9 : W.heap.size ≤ w5.heap.size := hSw5.2.2.size
        have hTw9 := hTw5.below (show Below w5.heap.size w5 w9 by rw [hWw9]; exact (Below.refl _ _).alloc (Nat.le_refl _) _)
        clear hWw9
        refine wpAnyH_ready (rs := [9]) (by kernel_rfl) (by simp) ?_
        refine AllReadyH.cons rfl (fun K hK => ?_) AllReadyH.nil
        rw [if_pos (by rfl)]
        refine wp_store_row 93 _ _ rfl _ _ rfl rfl _ _ hrw9 (by kernel_rfl) rfl (by simp [Value.oneCell']) ?_
        have hSw10 := held_row hSw9 hlw9 (#[.slice B k d, .slice B1 k1 d1, .slice B2 k2 d2, I xr, I yd, .map m, .slice B3 k3 d3])
        refine hK.out _ _ hSw10 (fun _ => ?_)
        clear hK K
        try simp only [Act.put, List.setIfInBounds_toArray, List.set_cons_zero, List.set_cons_succ]
        have hrw10 := setRow_heap _ _ _ (#[.slice B k d, .slice B1 k1 d1, .slice B2 k2 d2, I xr, I yd, .map m, .slice B3 k3 d3]) _ _ hrw9
        have hTw10 := hTw9.row (cs' := #[.slice B k d, .slice B1 k1 d1, .slice B2 k2 d2, I xr, I yd, .map m, .slice B3 k3 d3]) hrw9 (by simp)
        refine wpAnyH_take (i := 10) (v := ?v11) rfl (by decide +kernel) (by decide +kernel) (by decide +kernel) (fun _ _ _ h => h) (Or.inl ⟨by rfl, ?hy11⟩) hSw10 ?r11
        case hy11 =>
          intro w' hSw
          have hq := hSw.1
          clear hSw
          go_simp
          with_reducible rfl
        try simp only [Act.put, List.setIfInBounds_toArray, List.set_cons_zero, List.set_cons_succ]
        refine wpAnyH_done (by kernel_rfl) ?_ _
        exact ⟨w5.heap.size, B, k, d, B1, k1, d1, B2, k2, d2, xr, yd, m, B3, k3, d3, ⟨_, _, _, _, _, _, _, _, rfl⟩, hTw10, hrw10, hlw9, hSw10⟩
      · go_simp
        refine hK.out _ _ (held_alloc hSw4 _) (fun _ => ?_)
        clear hK K
        try simp only [Act.put, List.setIfInBounds_toArray, List.set_cons_zero, List.set_cons_succ]
        refine name_anyH ?_
        intro w12 hWw12
        have hrw12 : w12.heap[w4.heap.size]? = some (.cells #[.slice none 0 0, .slice none 0 0, .slice none 0 0, I 0, I 0, .map none, .slice none 0 0] 93 (0, 0)) := by rw [hWw12]; exact heap_at _ _ rfl
        have hSw12 : Held W w12 := by rw [hWw12]; exact held_alloc hSw4 _
        have hlw12 : W.heap.size ≤ w4.heap.size := hSw4.2.2.size
        clear hWw12
        refine wpAnyH_ready (rs := [4]) (by kernel_rfl) (by simp) ?_
        refine AllReadyH.cons rfl (fun K hK => ?_) AllReadyH.nil
        go_simp
        refine (study_told b _ _ _ (Ch.isSurvey b x) _ (HRB.out _ hSw12)).mono ?_
        rintro e w13 ⟨L, rfl, hTw13, hBw13⟩
        obtain ⟨B, k, d, B1, k1, d1, B2, k2, d2, xr, yd, m, B3, k3, d3, rfl⟩ := hTw13.form
        have hSw13 := held_step hBw13 hSw12
        have hrw13 := (hBw13.block _ (heap_lt hrw12)).trans hrw12
        refine hK.out _ _ hSw13 (fun _ => ?_)
        clear hK K
        try simp only [Act.put, List.setIfInBounds_toArray, List.set_cons_zero, List.set_cons_succ]
        refine wpAnyH_take (i := 5) (v := ?v14) rfl (by decide +kernel) (by decide +kernel) (by decide +kernel) (fun _ _ _ h => h) (Or.inl ⟨by rfl, ?hy14⟩) hSw13 ?r14
        case hy14 =>
          intro w' hSw
          have hq := hSw.1
          clear hSw
          go_simp
          with_reducible rfl
        try simp only [Act.put, List.setIfInBounds_toArray, List.set_cons_zero, List.set_cons_succ]
        refine wpAnyH_take (i := 6) (v := ?v15) rfl (by decide +kernel) (by decide +kernel) (by decide +kernel) (fun _ _ _ h => h) (Or.inl ⟨by rfl, ?hy15⟩) hSw13 ?r15
        case hy15 =>
          intro w' hSw
          have hq := hSw.1
          clear hSw
          go_simp
          with_reducible rfl
        try simp only [Act.put, List.setIfInBounds_toArray, List.set_cons_zero, List.set_cons_succ]
        refine wpAnyH_take (i := 7) (v := ?v16) rfl (by decide +kernel) (by decide +kernel) (by decide +kernel) (fun _ _ _ h => h) (Or.inl ⟨by rfl, ?hy16⟩) hSw13 ?r16
        case hy16 =>
          intro w' hSw
          have hq := hSw.1
          clear hSw
          go_simp
          with_reducible rfl
        try simp only [Act.put, List.setIfInBounds_toArray, List.set_cons_zero, List.set_cons_succ]
        refine wpAnyH_ready (rs := [9]) (by kernel_rfl) (by simp) ?_
        refine AllReadyH.cons rfl (fun K hK => ?_) AllReadyH.nil
        rw [if_pos (by rfl)]
        refine wp_store_row 93 _ _ rfl _ _ rfl rfl _ _ hrw13 (by kernel_rfl) rfl (by simp [Value.oneCell']) ?_
        have hSw17 := held_row hSw13 hlw12 (#[.slice B k d, .slice B1 k1 d1, .slice B2 k2 d2, I xr, I yd, .map m, .slice B3 k3 d3])
        refine hK.out _ _ hSw17 (fun _ => ?_)
        clear hK K
        try simp only [Act.put, List.setIfInBounds_toArray, List.set_cons_zero, List.set_cons_succ]
        have hrw17 := setRow_heap _ _ _ (#[.slice B k d, .slice B1 k1 d1, .slice B2 k2 d2, I xr, I yd, .map m, .slice B3 k3 d3]) _ _ hrw13
        have hTw17 := hTw13.row (cs' := #[.slice B k d, .slice B1 k1 d1, .slice B2 k2 d2, I xr, I yd, .map m, .slice B3 k3 d3]) hrw13 (by simp)
        refine wpAnyH_take (i := 10) (v := ?v18) rfl (by decide +kernel) (by decide +kernel) (by decide +kernel) (fun _ _ _ h => h) (Or.inl ⟨by rfl, ?hy18⟩) hSw17 ?r18
        case hy18 =>
          intro w' hSw
          have hq := hSw.1
          clear hSw
          go_simp
          with_reducible rfl
        try simp only [Act.put, List.setIfInBounds_toArray, List.set_cons_zero, List.set_cons_succ]
        refine wpAnyH_done (by kernel_rfl) ?_ _
        exact ⟨w4.heap.size, B, k, d, B1, k1, d1, B2, k2, d2, xr, yd, m, B3, k3, d3, ⟨_, _, _, _, _, _, _, _, rfl⟩, hTw17, hrw17, hlw12, hSw17⟩
    · go_simp
      refine hK.out _ _ (held_alloc (held_start W) _) (fun _ => ?_)
      clear hK K
      try simp only [Act.put, List.setIfInBounds_toArray, List.set_cons_zero, List.set_cons_succ]
      refine name_anyH ?_
      intro w19 hWw19
      have hrw19 : w19.heap[W.drew.heap.size]? = some (.cells #[.slice none 0 0, .slice none 0 0, .slice none 0 0, I 0, I 0, .map none, .slice none 0 0] 93 (0, 0)) := by rw [hWw19]; exact heap_at _ _ rfl
      have hSw19 : Held W w19 := by rw [hWw19]; exact held_alloc (held_start W) _
      have hlw19 : W.heap.size ≤ W.drew.heap.size := (held_start W).2.2.size
      clear hWw19
      refine wpAnyH_ready (rs := [3]) (by kernel_rfl) (by simp) ?_
      refine AllReadyH.cons rfl (fun K hK => ?_) AllReadyH.nil
      go_simp
      refine (isSurvey_any b A0 c0 _ _ x _).mono ?_
      rintro e w20 ⟨rfl, hBw20⟩
      have hSw20 := held_step hBw20 hSw19
      have hrw20 := (hBw20.block _ (heap_lt hrw19)).trans hrw19
      refine hK.out _ _ hSw20 (fun _ => ?_)
      clear hK K
      try simp only [Act.put, List.setIfInBounds_toArray, List.set_cons_zero, List.set_cons_succ]
      refine wpAnyH_ready (rs := [4]) (by kernel_rfl) (by simp) ?_
      refine AllReadyH.cons rfl (fun K hK => ?_) AllReadyH.nil
      go_simp
      refine (study_told b _ _ _ (Ch.isSurvey b x) _ (HRB.out _ hSw20)).mono ?_
      rintro e w21 ⟨L, rfl, hTw21, hBw21⟩
      obtain ⟨B, k, d, B1, k1, d1, B2, k2, d2, xr, yd, m, B3, k3, d3, rfl⟩ := hTw21.form
      have hSw21 := held_step hBw21 hSw20
      have hrw21 := (hBw21.block _ (heap_lt hrw20)).trans hrw20
      refine hK.out _ _ hSw21 (fun _ => ?_)
      clear hK K
      try simp only [Act.put, List.setIfInBounds_toArray, List.set_cons_zero, List.set_cons_succ]
      refine wpAnyH_take (i := 5) (v := ?v22) rfl (by decide +kernel) (by decide +kernel) (by decide +kernel) (fun _ _ _ h => h) (Or.inl ⟨by rfl, ?hy22⟩) hSw21 ?r22
      case hy22 =>
        intro w' hSw
        have hq := hSw.1
        clear hSw
        go_simp
        with_reducible rfl
      try simp only [Act.put, List.setIfInBounds_toArray, List.set_cons_zero, List.set_cons_succ]
      refine wpAnyH_take (i := 6) (v := ?v23) rfl (by decide +kernel) (by decide +kernel) (by decide +kernel) (fun _ _ _ h => h) (Or.inl ⟨by rfl, ?hy23⟩) hSw21 ?r23
      case hy23 =>
        intro w' hSw
        have hq := hSw.1
        clear hSw
        go_simp
        with_reducible rfl
      try simp only [Act.put, List.setIfInBounds_toArray, List.set_cons_zero, List.set_cons_succ]
      refine wpAnyH_take (i := 7) (v := ?v24) rfl (by decide +kernel) (by decide +kernel) (by decide +kernel) (fun _ _ _ h => h) (Or.inl ⟨by rfl, ?hy24⟩) hSw21 ?r24
      case hy24 =>
        intro w' hSw
        have hq := hSw.1
        clear hSw
        go_simp
        with_reducible rfl
      try simp only [Act.put, List.setIfInBounds_toArray, List.set_cons_zero, List.set_cons_succ]
      refine wpAnyH_ready (rs := [9]) (by kernel_rfl) (by simp) ?_
      refine AllReadyH.cons rfl (fun K hK => ?_) AllReadyH.nil
      rw [if_pos (by rfl)]
      refine wp_store_row 93 _ _ rfl _ _ rfl rfl _ _ hrw21 (by kernel_rfl) rfl (by simp [Value.oneCell']) ?_
      have hSw25 := held_row hSw21 hlw19 (#[.slice B k d, .slice B1 k1 d1, .slice B2 k2 d2, I xr, I yd, .map m, .slice B3 k3 d3])
      refine hK.out _ _ hSw25 (fun _ => ?_)
      clear hK K
      try simp only [Act.put, List.setIfInBounds_toArray, List.set_cons_zero, List.set_cons_succ]
      have hrw25 := setRow_heap _ _ _ (#[.slice B k d, .slice B1 k1 d1, .slice B2 k2 d2, I xr, I yd, .map m, .slice B3 k3 d3]) _ _ hrw21
      have hTw25 := hTw21.row (cs' := #[.slice B k d, .slice B1 k1 d1, .slice B2 k2 d2, I xr, I yd, .map m, .slice B3 k3 d3]) hrw21 (by simp)
      refine wpAnyH_take (i := 10) (v := ?v26) rfl (by decide +kernel) (by decide +kernel) (by decide +kernel) (fun _ _ _ h => h) (Or.inl ⟨by rfl, ?hy26⟩) hSw25 ?r26
      case hy26 =>
        intro w' hSw
        have hq := hSw.1
        clear hSw
        go_simp
        with_reducible rfl
      try simp only [Act.put, List.setIfInBounds_toArray, List.set_cons_zero, List.set_cons_succ]
      refine wpAnyH_done (by kernel_rfl) ?_ _
      exact ⟨W.drew.heap.size, B, k, d, B1, k1, d1, B2, k2, d2, xr, yd, m, B3, k3, d3, ⟨_, _, _, _, _, _, _, _, rfl⟩, hTw25, hrw25, hlw19, hSw25⟩
  case rest =>
    rintro a' w' ⟨n, B, k, d, B1, k1, d1, B2, k2, d2, xr, yd, m, B3, k3, d3, ⟨u8, u9, u10, u11, u12, u13, u14, u15, rfl⟩, hT, hrow, hn, hH⟩
    subst hA
    try simp only [Act.put, List.setIfInBounds_toArray, List.set_cons_zero, List.set_cons_succ]
    have hbw : Below w.heap.size w w' := HBW0.out.trans (hH.2.2.mono HBW0.out.size)
    have HBW := Lib.hid hbw
    clear a0 a1 a2 a3 a4 svc0 svc1 svc2 svc3 HRB HBW0
    have hw1 : w.heap.size + 1 < W.heap.size := by have := HZ.out; omega
    have hsvw : w'.heap[w.heap.size + 1]? = some (.cells #[I x.sec, I x.day, I x.read, I x.err] 34 (0, 0)) := (hH.2.2.block _ hw1).trans HSV.out
    have z0 := cell_of_row w' _ 0 _ _ _ hsvw
    have z1 := cell_of_row w' _ 1 _ _ _ hsvw
    have z2 := cell_of_row w' _ 2 _ _ _ hsvw
    have z3 := cell_of_row w' _ 3 _ _ _ hsvw
    simp only [List.getElem?_toArray, List.getElem?_cons_zero, List.getElem?_cons_succ] at z0 z1 z2 z3
    by_cases h0 : Ch.studyE b (Ch.isSurvey b x) = 0
    · obtain ⟨hv, hp, hne, r, R, hL, hM, hR⟩ := hT.2 h0
      have H0 := Lib.hid h0
      rw [h0]
      have hf := fine_of_valid hv
      have hlen := Ch.truths_len hf.secs hf.n4
      obtain ⟨AR, cR, rfl⟩ := hR.form
      simp at hL
      obtain ⟨⟨rfl, rfl, rfl⟩, ⟨rfl, rfl, rfl⟩, ⟨rfl, rfl, rfl⟩, rfl, rfl, rfl, rfl, rfl, rfl⟩ := hL
      have b0 := cell_of_row w' _ 0 _ _ _ hrow
      have b1 := cell_of_row w' _ 1 _ _ _ hrow
      have b2 := cell_of_row w' _ 2 _ _ _ hrow
      have b3 := cell_of_row w' _ 3 _ _ _ hrow
      have b4 := cell_of_row w' _ 4 _ _ _ hrow
      have b5 := cell_of_row w' _ 5 _ _ _ hrow
      have b6 := cell_of_row w' _ 6 _ _ _ hrow
      simp only [List.getElem?_toArray, List.getElem?_cons_zero, List.getElem?_cons_succ] at b0 b1 b2 b3 b4 b5 b6
      have hnl : n < w'.heap.size := heap_lt hrow
      have hd0 : 0 ≤ b.days := by
        have hv' := hv
        simp only [Ch.valid, Bool.and_eq_true] at hv'
        have := Ch.sized_days hv'.1.1.1.1
        omega
      have HM := Lib.hid (show ∀ W', Below w'.heap.size w' W' → RM W' W'.heap.size b _ from fun W' h => (hM.below h (Nat.le_refl _)).more h.size)
      have HRS := Lib.hid (show ∀ W', Below w'.heap.size w' W' → Trs W' W'.heap.size _ (Ch.truths b) from fun W' h => (hR.below h (Nat.le_refl _)).more h.size)
      have HNE := Lib.hid hne
      have HROW := Lib.hid hrow
      have hto := hf.truths
      have hxo := svOk_of hp
      have hrs : Ch.fitsR b x = (Ch.truths b).any (Ch.fitsIn b x) := by rw [Ch.fitsR, if_pos h0]
      have HRSS := Lib.hid hrs
      have HHF := Lib.hid hf
      have hcall : ∀ t ∈ Ch.truths b, ∀ W', Below w'.heap.size w' W' → Calls Tryz.prog 91 #[vAsk (.slice B b.secs.length d) (.slice B1 b.turns.length d1) (.slice B2 b.svs.length d2) b.rule b.days (.map (some r)) (.slice B3 (Ch.truths b).length d3) x, vTr t] W' fun e w' => e = .returned (.bool (Ch.fitsIn b x t)) ∧ Below W'.heap.size W' w' :=
        fun t ht W' hB' => right_any b _ _ _ _ _ b.rule t (hto t ht).1 x W' (HM.out _ hB') hf.n4 hf.days hxo _ _ _ rfl
      have HC := Lib.hid hcall
      clear hT hM hR hrow hbw hne hH hv hp h0 hrs hn hsvw hw1 hto hxo hcall HSV HZ hlt0 hlt1 hf
      go_wp2_with fail
      refine (containsFunc_any (Ch.truths b) (Ch.fitsIn b x) _ _ w' (HRS.out _ (Below.refl _ _)) HC.out).mono ?_
      rintro e w2 ⟨rfl, hB2⟩
      have hbe := HBW.out.trans (hB2.mono HBW.out.size)
      have HBE := Lib.hid hbe
      clear hbe hB2 b0 b1 b2 b3 b4 b5 b6 z0 z1 z2 z3
      go_wp2_with fail
      go_ret2
      exact ⟨by rw [H0.out, HRSS.out] <;> rfl, HBE.out⟩
    · have hrs : Ch.fitsR b x = false := by rw [Ch.fitsR, if_neg h0]
      have HRSS := Lib.hid hrs
      have hne : (Ch.studyE b (Ch.isSurvey b x) != 0) = true := by simpa using h0
      have hnd : (Ch.studyE b (Ch.isSurvey b x) == 0) = false := by simpa using h0
      clear hT hrow hbw hH h0 hrs hn hsvw hw1 HSV HZ hlt0 hlt1
      go_wp2_with fail
      go_ret2
      exact ⟨by rw [HRSS.out] <;> rfl, HBW.out⟩

end Go.Proofs.YtkfahochpnggbaaGreat
