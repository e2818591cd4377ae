/- Texts on the program that the proof leans on, part 22. -/
import Derived.Test.YtjgpghaofhcfnaaYau
set_option linter.unusedVariables false
set_option linter.unusedSimpArgs false

namespace Go.Proofs.Ytjgpghaofhcfnaa
open Go.RowKit
namespace Ld
def someOf (F : Nat → Bool) (n : Nat) : List Int := ((List.range n).filter F).map fun s : Nat => (s : Int)
theorem someOf_yes {F : Nat → Bool} {n : Nat} (h : F n = true) : someOf F (n + 1) = someOf F n ++ [(n : Int)] := by
 simp [someOf, List.range_succ, h]
theorem someOf_no {F : Nat → Bool} {n : Nat} (h : F n = false) : someOf F (n + 1) = someOf F n := by
 simp [someOf, List.range_succ, h]
theorem someOf_le (F : Nat → Bool) (n : Nat) : (someOf F n).length ≤ n := by
 unfold someOf
 rw [List.length_map]
 exact Nat.le_trans (List.length_filter_le _ _) (by simp)
def bothL (b : Bk) (y : Int) : List Int := if studyE b (isLoad y) = 0 then someOf (fun k => bothAt b k y) b.tides.length else []
end Ld
set_option maxRecDepth 100000 in
set_option maxHeartbeats 4000000 in
theorem Both_any (b : Ld.Bk) (T D : Value) (y : Int) (w : World) (hb : RB w w.heap.size b T D) :
 Calls Try.prog 27 #[vBk T D b, I y] w fun e w' => (∃ v, e = .returned (.tuple #[v, I (Ld.studyE b (Ld.isLoad y))]) ∧ Sl w' w'.heap.size 1 v (Ld.bothL b y).length ((Ld.bothL b y).map I)) ∧ Below w.heap.size w w' := by
 obtain ⟨A0, c0, rfl⟩ := hb.tides.form
 obtain ⟨A1, c1, rfl⟩ := hb.sounds.form
 have HRB := Lib.hid hb
 clear hb
 go_enter Try.func27, Try.ntmps27
 go_upto_region 1 with fail
 refine name_world ?_
 intro W hW
 have hB : Below w.heap.size w W := by rw [hW]; exact (Below.refl _ _).alloc (Nat.le_refl _) _
 have rL : W.heap[w.heap.size]? = some (.cells (rBk (.slice A0 b.tides.length c0) (.slice A1 b.sounds.length c1) b) 30 (0, 0)) := by rw [hW]; exact heap_at _ _ rfl
 have hlF := heap_lt rL
 have RL := Lib.hid rL
 have HB := Lib.hid hB
 clear hW rL hB
 refine name_act ?_
 intro A hA
 obtain ⟨R, hR⟩ : ∃ R : Act → World → Prop, R = fun a' w' => ∃ (n B : Nat) (L : Array Value), (∃ u11 u12 u13 u14 u10 u15 u16, a' = (((((((((A.put (some 11) u11).put (some 12) u12).put (some 13) u13).put (some 14) u14).put (some 10) u10).put (some 15) u15).put (some 16) u16).put (some 6) (vPtr n)).put (some 7) (I (Ld.studyE b (Ld.isLoad y))))) ∧ w'.heap[n]? = some (.cells L 86 (0, 0)) ∧ Told b (.slice A0 b.tides.length c0) (.slice A1 b.sounds.length c1) (Ld.isLoad y) B w' L ∧ W.heap.size ≤ n ∧ W.heap.size ≤ B ∧ Held W w' := ⟨_, rfl⟩
 have HR := Lib.hid hR
 clear hR
 refine wp_between R ?first ?rest
 case first =>
  subst hA
  have hK0 : Held W W.drew := held_start W
  refine wp_region_held_drew (S := fun w' => Held W w') (by kernel_rfl) hK0 (fun _ => ?_)
  refine wpAnyH_take (i := 0) (oi := { dst := some 11, op := Op.load 30 (Operand.tmp 2), type := 30, pos := "landing.go:84", after := #[], guard := none }) (v := (vBk (.slice A0 b.tides.length c0) (.slice A1 b.sounds.length c1) b)) rfl (by kernel_rfl) (by kernel_rfl) (by kernel_rfl) (fun _ _ _ h => h) (Or.inl ⟨by rfl, ?hy1⟩) hK0 ?r1
  case hy1 =>
   intro w' hSw
   exact exec_load_row (by rfl) (by rfl) ((hSw.2.2.block _ (heap_lt RL.out)).trans RL.out) Try.underlying30 rfl infoBk14
  try simp only [putL]
  refine wpAnyH_take (i := 1) (oi := { dst := some 12, op := Op.move (Operand.tmp 1), type := 3, pos := "landing.go:84", after := #[], guard := none }) (v := ?v2) rfl (by kernel_rfl) (by kernel_rfl) (by kernel_rfl) (fun _ _ _ h => h) (Or.inl ⟨by rfl, ?hy2⟩) hK0 ?r2
  case hy2 =>
   intro w' hSw
   have hq := hSw.1
   clear hSw
   go_simp
   with_reducible rfl
  try simp only [putL]
  refine wpAnyH_ready (rs := [2, 7]) (by kernel_rfl) (by simp) ?_
  refine AllReadyH.cons rfl (fun K hK => ?_) (AllReadyH.cons rfl (fun K hK => ?_) AllReadyH.nil)
  · go_simp
    refine (isLoad_any y _).mono ?_
    rintro e w3 ⟨rfl, hBw3⟩
    have hSw3 := held_step hBw3 hK0
    refine hK.out _ _ hSw3 (fun _ => ?_)
    clear hK K
    try simp only [putL]
    refine wpAnyH_ready (rs := [3, 7]) (by kernel_rfl) (by simp) ?_
    refine AllReadyH.cons rfl (fun K hK => ?_) (AllReadyH.cons rfl (fun K hK => ?_) AllReadyH.nil)
    · go_simp
      refine (study_told b (.slice A0 b.tides.length c0) (.slice A1 b.sounds.length c1) (Ld.isLoad y) _ (HRB.out.up (HB.out.trans (hSw3.2.2.mono HB.out.size)))).mono ?_
      rintro e w4 ⟨⟨L, rfl, hTw4⟩, hBw4⟩
      have hSw4 := held_step hBw4 hSw3
      have hgw4 : W.heap.size ≤ w3.heap.size := hSw3.2.2.size
      refine hK.out _ _ hSw4 (fun _ => ?_)
      clear hK K
      try simp only [putL]
      refine wpAnyH_take (i := 4) (oi := { dst := some 10, op := Op.move (Operand.tmp 14), type := 92, pos := "landing.go:84", after := #[{ on := 3, ground := Ground.data }], guard := none }) (v := ?v5) rfl (by kernel_rfl) (by kernel_rfl) (by kernel_rfl) (fun _ _ _ h => h) (Or.inl ⟨by rfl, ?hy5⟩) hSw4 ?r5
      case hy5 =>
       intro w' hSw
       have hq := hSw.1
       clear hSw
       go_simp
       with_reducible rfl
      try simp only [putL]
      refine wpAnyH_take (i := 5) (oi := { dst := some 15, op := Op.extract (Operand.tmp 10) 0, type := 86, pos := "landing.go:84", after := #[{ on := 4, ground := Ground.data }], guard := none }) (v := ?v6) rfl (by kernel_rfl) (by kernel_rfl) (by kernel_rfl) (fun _ _ _ h => h) (Or.inl ⟨by rfl, ?hy6⟩) hSw4 ?r6
      case hy6 =>
       intro w' hSw
       have hq := hSw.1
       clear hSw
       go_simp
       with_reducible rfl
      try simp only [putL]
      refine wpAnyH_take (i := 6) (oi := { dst := some 16, op := Op.extract (Operand.tmp 10) 1, type := 41, pos := "landing.go:84", after := #[{ on := 4, ground := Ground.data }, { on := 8, ground := Ground.gcOnly Go.Departure.lateStores }], guard := none }) (v := ?v7) rfl (by kernel_rfl) (by kernel_rfl) (by kernel_rfl) (fun _ _ _ h => h) (Or.inl ⟨by rfl, ?hy7⟩) hSw4 ?r7
      case hy7 =>
       intro w' hSw
       have hq := hSw.1
       clear hSw
       go_simp
       with_reducible rfl
      try simp only [putL]
      refine wpAnyH_ready (rs := [7]) (by kernel_rfl) (by simp) ?_
      refine AllReadyH.cons rfl (fun K hK => ?_) AllReadyH.nil
      go_simp
      refine hK.out _ _ (held_alloc hSw4 _) (fun _ => ?_)
      clear hK K
      try simp only [putL]
      refine name_anyH ?_
      intro w8 hWw8
      have hAw8 : Below w4.heap.size w4 w8 := by rw [hWw8]; exact (Below.refl _ _).alloc (Nat.le_refl _) _
      have fAw8 : w8.heap[w4.heap.size]? = some (.cells rLg0 86 (0, 0)) := by rw [hWw8]; exact heap_at _ _ rfl
      have hSw8 : Held W w8 := by rw [hWw8]; exact held_alloc hSw4 _
      have mTw8 := hTw4.up hAw8
      have hlAw8 : W.heap.size ≤ w4.heap.size := hSw4.2.2.size
      clear hWw8
      refine wpAnyH_ready (rs := [8]) (by kernel_rfl) (by simp) ?_
      refine AllReadyH.cons rfl (fun K hK => ?_) AllReadyH.nil
      rw [if_pos (by rfl)]
      refine wp_store_row 86 _ _ rfl _ L rfl rfl _ _ fAw8 (by rw [mTw8.size]; exact infoLg) (mTw8.size.symm) mTw8.one ?_
      have hSw9 := held_row hSw8 hlAw8 L
      refine hK.out _ _ hSw9 (fun _ => ?_)
      clear hK K
      try simp only [putL]
      have hrw9 := setRow_heap _ _ _ L _ _ fAw8
      refine wpAnyH_take (i := 9) (oi := { dst := some 7, op := Op.assign (Operand.tmp 16), type := 41, pos := "landing.go:84", after := #[{ on := 6, ground := Ground.data }, { on := 8, ground := Ground.chain }, { on := 0, ground := Ground.phase }, { on := 1, ground := Ground.phase }, { on := 2, ground := Ground.phase }, { on := 3, ground := Ground.phase }, { on := 4, ground := Ground.phase }, { on := 5, ground := Ground.phase }, { on := 6, ground := Ground.phase }, { on := 7, ground := Ground.phase }, { on := 8, ground := Ground.phase }], guard := none }) (v := ?v10) rfl (by kernel_rfl) (by kernel_rfl) (by kernel_rfl) (fun _ _ _ h => h) (Or.inl ⟨by rfl, ?hy10⟩) hSw9 ?r10
      case hy10 =>
       intro w' hSw
       have hq := hSw.1
       clear hSw
       go_simp
       with_reducible rfl
      try simp only [putL]
      refine wpAnyH_done (by kernel_rfl) ?_ _
      show R _ _
      rw [HR.out]
      simp only [putL]
      exact ⟨w4.heap.size, w3.heap.size, L, ⟨_, _, _, _, _, _, _, rfl⟩, hrw9, hTw4.up (below_setRow hAw8 (Nat.le_refl _) L), hlAw8, hgw4, hSw9⟩
    · go_simp
      refine hK.out _ _ (held_alloc hSw3 _) (fun _ => ?_)
      clear hK K
      try simp only [putL]
      refine name_anyH ?_
      intro w11 hWw11
      have hAw11 : Below w3.heap.size w3 w11 := by rw [hWw11]; exact (Below.refl _ _).alloc (Nat.le_refl _) _
      have fAw11 : w11.heap[w3.heap.size]? = some (.cells rLg0 86 (0, 0)) := by rw [hWw11]; exact heap_at _ _ rfl
      have hSw11 : Held W w11 := by rw [hWw11]; exact held_alloc hSw3 _
      have hlAw11 : W.heap.size ≤ w3.heap.size := hSw3.2.2.size
      clear hWw11
      refine wpAnyH_ready (rs := [3]) (by kernel_rfl) (by simp) ?_
      refine AllReadyH.cons rfl (fun K hK => ?_) AllReadyH.nil
      go_simp
      refine (study_told b (.slice A0 b.tides.length c0) (.slice A1 b.sounds.length c1) (Ld.isLoad y) _ (HRB.out.up (HB.out.trans (hSw11.2.2.mono HB.out.size)))).mono ?_
      rintro e w12 ⟨⟨L, rfl, hTw12⟩, hBw12⟩
      have hSw12 := held_step hBw12 hSw11
      have hgw12 : W.heap.size ≤ w11.heap.size := hSw11.2.2.size
      have fAw12 := (hBw12.block _ (heap_lt fAw11)).trans fAw11
      refine hK.out _ _ hSw12 (fun _ => ?_)
      clear hK K
      try simp only [putL]
      refine wpAnyH_take (i := 4) (oi := { dst := some 10, op := Op.move (Operand.tmp 14), type := 92, pos := "landing.go:84", after := #[{ on := 3, ground := Ground.data }], guard := none }) (v := ?v13) rfl (by kernel_rfl) (by kernel_rfl) (by kernel_rfl) (fun _ _ _ h => h) (Or.inl ⟨by rfl, ?hy13⟩) hSw12 ?r13
      case hy13 =>
       intro w' hSw
       have hq := hSw.1
       clear hSw
       go_simp
       with_reducible rfl
      try simp only [putL]
      refine wpAnyH_take (i := 5) (oi := { dst := some 15, op := Op.extract (Operand.tmp 10) 0, type := 86, pos := "landing.go:84", after := #[{ on := 4, ground := Ground.data }], guard := none }) (v := ?v14) rfl (by kernel_rfl) (by kernel_rfl) (by kernel_rfl) (fun _ _ _ h => h) (Or.inl ⟨by rfl, ?hy14⟩) hSw12 ?r14
      case hy14 =>
       intro w' hSw
       have hq := hSw.1
       clear hSw
       go_simp
       with_reducible rfl
      try simp only [putL]
      refine wpAnyH_take (i := 6) (oi := { dst := some 16, op := Op.extract (Operand.tmp 10) 1, type := 41, pos := "landing.go:84", after := #[{ on := 4, ground := Ground.data }, { on := 8, ground := Ground.gcOnly Go.Departure.lateStores }], guard := none }) (v := ?v15) rfl (by kernel_rfl) (by kernel_rfl) (by kernel_rfl) (fun _ _ _ h => h) (Or.inl ⟨by rfl, ?hy15⟩) hSw12 ?r15
      case hy15 =>
       intro w' hSw
       have hq := hSw.1
       clear hSw
       go_simp
       with_reducible rfl
      try simp only [putL]
      refine wpAnyH_ready (rs := [8]) (by kernel_rfl) (by simp) ?_
      refine AllReadyH.cons rfl (fun K hK => ?_) AllReadyH.nil
      rw [if_pos (by rfl)]
      refine wp_store_row 86 _ _ rfl _ L rfl rfl _ _ fAw12 (by rw [hTw12.size]; exact infoLg) (hTw12.size.symm) hTw12.one ?_
      have hSw16 := held_row hSw12 hlAw11 L
      refine hK.out _ _ hSw16 (fun _ => ?_)
      clear hK K
      try simp only [putL]
      have hrw16 := setRow_heap _ _ _ L _ _ fAw12
      refine wpAnyH_take (i := 9) (oi := { dst := some 7, op := Op.assign (Operand.tmp 16), type := 41, pos := "landing.go:84", after := #[{ on := 6, ground := Ground.data }, { on := 8, ground := Ground.chain }, { on := 0, ground := Ground.phase }, { on := 1, ground := Ground.phase }, { on := 2, ground := Ground.phase }, { on := 3, ground := Ground.phase }, { on := 4, ground := Ground.phase }, { on := 5, ground := Ground.phase }, { on := 6, ground := Ground.phase }, { on := 7, ground := Ground.phase }, { on := 8, ground := Ground.phase }], guard := none }) (v := ?v17) rfl (by kernel_rfl) (by kernel_rfl) (by kernel_rfl) (fun _ _ _ h => h) (Or.inl ⟨by rfl, ?hy17⟩) hSw16 ?r17
      case hy17 =>
       intro w' hSw
       have hq := hSw.1
       clear hSw
       go_simp
       with_reducible rfl
      try simp only [putL]
      refine wpAnyH_done (by kernel_rfl) ?_ _
      show R _ _
      rw [HR.out]
      simp only [putL]
      exact ⟨w3.heap.size, w11.heap.size, L, ⟨_, _, _, _, _, _, _, rfl⟩, hrw16, hTw12.row fAw12 (heap_lt fAw11), hlAw11, hgw12, hSw16⟩
  · go_simp
    refine hK.out _ _ (held_alloc hK0 _) (fun _ => ?_)
    clear hK K
    try simp only [putL]
    refine name_anyH ?_
    intro w18 hWw18
    have hAw18 : Below W.drew.heap.size W.drew w18 := by rw [hWw18]; exact (Below.refl _ _).alloc (Nat.le_refl _) _
    have fAw18 : w18.heap[W.drew.heap.size]? = some (.cells rLg0 86 (0, 0)) := by rw [hWw18]; exact heap_at _ _ rfl
    have hSw18 : Held W w18 := by rw [hWw18]; exact held_alloc hK0 _
    have hlAw18 : W.heap.size ≤ W.drew.heap.size := hK0.2.2.size
    clear hWw18
    refine wpAnyH_ready (rs := [2]) (by kernel_rfl) (by simp) ?_
    refine AllReadyH.cons rfl (fun K hK => ?_) AllReadyH.nil
    go_simp
    refine (isLoad_any y _).mono ?_
    rintro e w19 ⟨rfl, hBw19⟩
    have hSw19 := held_step hBw19 hSw18
    have fAw19 := (hBw19.block _ (heap_lt fAw18)).trans fAw18
    refine hK.out _ _ hSw19 (fun _ => ?_)
    clear hK K
    try simp only [putL]
    refine wpAnyH_ready (rs := [3]) (by kernel_rfl) (by simp) ?_
    refine AllReadyH.cons rfl (fun K hK => ?_) AllReadyH.nil
    go_simp
    refine (study_told b (.slice A0 b.tides.length c0) (.slice A1 b.sounds.length c1) (Ld.isLoad y) _ (HRB.out.up (HB.out.trans (hSw19.2.2.mono HB.out.size)))).mono ?_
    rintro e w20 ⟨⟨L, rfl, hTw20⟩, hBw20⟩
    have hSw20 := held_step hBw20 hSw19
    have hgw20 : W.heap.size ≤ w19.heap.size := hSw19.2.2.size
    have fAw20 := (hBw20.block _ (heap_lt fAw19)).trans fAw19
    refine hK.out _ _ hSw20 (fun _ => ?_)
    clear hK K
    try simp only [putL]
    refine wpAnyH_take (i := 4) (oi := { dst := some 10, op := Op.move (Operand.tmp 14), type := 92, pos := "landing.go:84", after := #[{ on := 3, ground := Ground.data }], guard := none }) (v := ?v21) rfl (by kernel_rfl) (by kernel_rfl) (by kernel_rfl) (fun _ _ _ h => h) (Or.inl ⟨by rfl, ?hy21⟩) hSw20 ?r21
    case hy21 =>
     intro w' hSw
     have hq := hSw.1
     clear hSw
     go_simp
     with_reducible rfl
    try simp only [putL]
    refine wpAnyH_take (i := 5) (oi := { dst := some 15, op := Op.extract (Operand.tmp 10) 0, type := 86, pos := "landing.go:84", after := #[{ on := 4, ground := Ground.data }], guard := none }) (v := ?v22) rfl (by kernel_rfl) (by kernel_rfl) (by kernel_rfl) (fun _ _ _ h => h) (Or.inl ⟨by rfl, ?hy22⟩) hSw20 ?r22
    case hy22 =>
     intro w' hSw
     have hq := hSw.1
     clear hSw
     go_simp
     with_reducible rfl
    try simp only [putL]
    refine wpAnyH_take (i := 6) (oi := { dst := some 16, op := Op.extract (Operand.tmp 10) 1, type := 41, pos := "landing.go:84", after := #[{ on := 4, ground := Ground.data }, { on := 8, ground := Ground.gcOnly Go.Departure.lateStores }], guard := none }) (v := ?v23) rfl (by kernel_rfl) (by kernel_rfl) (by kernel_rfl) (fun _ _ _ h => h) (Or.inl ⟨by rfl, ?hy23⟩) hSw20 ?r23
    case hy23 =>
     intro w' hSw
     have hq := hSw.1
     clear hSw
     go_simp
     with_reducible rfl
    try simp only [putL]
    refine wpAnyH_ready (rs := [8]) (by kernel_rfl) (by simp) ?_
    refine AllReadyH.cons rfl (fun K hK => ?_) AllReadyH.nil
    rw [if_pos (by rfl)]
    refine wp_store_row 86 _ _ rfl _ L rfl rfl _ _ fAw20 (by rw [hTw20.size]; exact infoLg) (hTw20.size.symm) hTw20.one ?_
    have hSw24 := held_row hSw20 hlAw18 L
    refine hK.out _ _ hSw24 (fun _ => ?_)
    clear hK K
    try simp only [putL]
    have hrw24 := setRow_heap _ _ _ L _ _ fAw20
    refine wpAnyH_take (i := 9) (oi := { dst := some 7, op := Op.assign (Operand.tmp 16), type := 41, pos := "landing.go:84", after := #[{ on := 6, ground := Ground.data }, { on := 8, ground := Ground.chain }, { on := 0, ground := Ground.phase }, { on := 1, ground := Ground.phase }, { on := 2, ground := Ground.phase }, { on := 3, ground := Ground.phase }, { on := 4, ground := Ground.phase }, { on := 5, ground := Ground.phase }, { on := 6, ground := Ground.phase }, { on := 7, ground := Ground.phase }, { on := 8, ground := Ground.phase }], guard := none }) (v := ?v25) rfl (by kernel_rfl) (by kernel_rfl) (by kernel_rfl) (fun _ _ _ h => h) (Or.inl ⟨by rfl, ?hy25⟩) hSw24 ?r25
    case hy25 =>
     intro w' hSw
     have hq := hSw.1
     clear hSw
     go_simp
     with_reducible rfl
    try simp only [putL]
    refine wpAnyH_done (by kernel_rfl) ?_ _
    show R _ _
    rw [HR.out]
    simp only [putL]
    exact ⟨W.drew.heap.size, w19.heap.size, L, ⟨_, _, _, _, _, _, _, rfl⟩, hrw24, hTw20.row fAw20 (heap_lt fAw19), hlAw18, hgw20, hSw24⟩
 case rest =>
  intro a' w' hra
  rw [HR.out] at hra
  clear HR
  obtain ⟨n, B, L, ⟨u11, u12, u13, u14, u10, u15, u16, rfl⟩, hrow, hT, hn, hBn, hH⟩ := hra
  subst hA
  simp only [putL]
  have hbw : Below w.heap.size w w' := HB.out.trans (hH.2.2.mono HB.out.size)
  have HBW := Lib.hid hbw
  by_cases h0 : Ld.studyE b (Ld.isLoad y) = 0
  · obtain ⟨hv, hp, hne⟩ := Ld.studyE_parts h0
    obtain ⟨R2, r, rfl, hg⟩ := hT.yes h0
    obtain ⟨A2, c2, rfl⟩ := hg.tr.form
    have hlt := hg.lt (HRB.out.up hbw)
    have hy : 0 ≤ y ∧ y ≤ 200 := by simpa [Ld.isLoad] using hp
    obtain ⟨hp1, -⟩ := Ld.valid_parts hv
    have h24 := (Ld.sized_bd hp1).2.1
    obtain ⟨F, hF⟩ : ∃ F : Nat → Bool, F = fun k => Ld.bothAt b k y := ⟨_, rfl⟩
    have hfr : Ld.bothL b y = Ld.someOf F b.tides.length := by rw [Ld.bothL, if_pos h0, hF]
    obtain ⟨K, hK⟩ : ∃ K, Ld.known (Ld.truths b) = K := ⟨_, rfl⟩
    rw [hK] at hrow
    have HF := Lib.hid hfr
    have HROW := Lib.hid hrow
    have HLT := Lib.hid hlt
    have HV := Lib.hid hv
    have hcall : ∀ (k : Nat) W', k < b.tides.length → Below w'.heap.size w' W' → Calls Try.prog 63 #[vLg (.slice A0 b.tides.length c0) (.slice A1 b.sounds.length c1) (.map (some r)) (.slice A2 (Ld.truths b).length c2) b K, I k, I y] W' fun e w'' => e = .returned (.bool (F k)) ∧ Below W'.heap.size W' w'' := fun k W' hk hB => by
     rw [hF]
     exact both_any b _ _ _ r K k y W' (HLT.out.up hB) HV.out hk hy.1 hy.2 (truths_len HV.out)
    have HC := Lib.hid hcall
    have H0 := Lib.hid h0
    have c0' := cell_of_row w' _ 0 _ _ _ hrow
    simp only [List.getElem?_toArray, List.getElem?_cons_zero, List.getElem?_cons_succ] at c0'
    rw [h0]
    have hnl : n < w'.heap.size := heap_lt hrow
    clear hT hrow hlt hbw hH hg hn hBn h0 hfr hK hne hv hp hp1 hcall hF
    go_wp2_with fail
    clear c0'
    go_loopw [8, 24] (fun v i wr => ∃ (j : Nat) (v0 : Value), j ≤ b.tides.length ∧ i = I j ∧ v0 = v ∧ wr.ownsRow w'.heap.size 3 1 v0 (Ld.someOf F j).length ((Ld.someOf F j).map I) ∧ Below w'.heap.size w' wr) (fun _ i _ => b.tides.length - (intOf i).toNat)
    case atStart => exact ⟨0, _, by omega, rfl, rfl, World.ownsRow_nil _ _ _ _, Below.refl _ _⟩
    case round =>
     obtain ⟨j, v, hj, rfl, rfl, hown, hBr⟩ := hrel
     have hRr := (hBr.block _ (heap_lt HROW.out)).trans HROW.out
     have HRR := Lib.hid hRr
     have HBR := Lib.hid hBr
     have HOWN := Lib.hid hown
     have hzr := hBr.size
     clear hRr hBr hown
     by_cases hlt : j < b.tides.length
     · have hji : (j : Int) < b.tides.length := by omega
       go_wp2_with (refine wpList_load_row rfl 86 (Operand.tmp 6) rfl n rfl 86 (rLg (.slice A0 b.tides.length c0) (.slice A1 b.sounds.length c1) (.map (some r)) (.slice A2 (Ld.truths b).length c2) b K) (0, 0) _ HRR.out Try.underlying86 rfl infoLg ?_)
       refine (HC.out j wr hlt HBR.out).mono ?_
       rintro e w1 ⟨rfl, hB1⟩
       have hb1 := HBR.out.trans (hB1.mono HBR.out.size)
       have hown1 : w1.ownsRow w'.heap.size 3 1 v (Ld.someOf F j).length ((Ld.someOf F j).map I) := HOWN.out.kept (row := none) ⟨hB1.os, hB1.tape, hB1.output, hB1.size, fun i hi _ => hB1.block i hi⟩ (by cases v.ownBlock <;> simp)
       have hz1 : w'.heap.size ≤ w1.heap.size := Nat.le_trans hzr hB1.size
       have HB1 := Lib.hid hb1
       have HOWN1 := Lib.hid hown1
       clear hB1 hb1 hown1
       cases hF : F j
       · have HFF := Lib.hid hF
         clear hF
         go_wp2_with fail
         go_roundw
         case rel => exact ⟨j + 1, _, by omega, by go_num, rfl, by rw [Ld.someOf_no HFF.out]; exact HOWN1.out, HB1.out⟩
         case measure => simp [intOf]; omega
       · have HFF := Lib.hid hF
         have hle := Ld.someOf_le F j
         obtain ⟨i0, hi, hz0, hz1', hz2'⟩ := info_parts infoI
         clear hF
         go_wp2_with (at_builtin; go_must (refine wpList_append_own_at _ rfl _ _ 31 rfl w'.heap.size 3 i0 (I 0) 1 8 underIs hi hz0 hz1' hz2' rfl (by decide) v _ ((Ld.someOf F j).map I) rfl (HOWN1.out.alloc _) ⟨w1.heap.size, 0, none⟩ 1 1 [I j] rfl rfl (cell_one_new _ _ _) (by simp [Value.oneCell']) (by unfold maxLen; omega) (by omega) (by simp; omega) ?_; intro v' w3 hown' hgrow hnil hat; have HOW := Lib.hid hown'; have HGR := Lib.hid hgrow; clear hown' hgrow hnil hat))
         go_roundw
         case rel =>
          refine ⟨j + 1, _, by omega, by go_num, rfl, ?_, ?_⟩
          · rw [Ld.someOf_yes HFF.out, List.length_append, List.map_append]; exact HOW.out
          · refine HB1.out.trans (Below.trans ((Below.refl _ _).alloc (Nat.le_refl _) _ |>.mono hz1) ⟨HGR.out.os, HGR.out.tape, HGR.out.output, HGR.out.size, fun i hi => HGR.out.block i (by simp; omega) (fun e => ?_)⟩)
            have := (HOWN1.out.lt i e.symm).1
            omega
         case measure => simp [intOf]; omega
     · obtain rfl : j = b.tides.length := by omega
       have hsl := sl_ownN HOWN.out (Nat.le_refl _)
       have HSL := Lib.hid hsl
       obtain ⟨Av, cv, rfl⟩ := hsl.form
       have hm := hsl.le
       obtain ⟨_, _, _, e1, e2, _⟩ := hsl
       injection e1 with e1 e3 e4
       subst e1 e4
       unfold maxLen at hm
       have hvv : ((Ld.someOf F b.tides.length).length : Int) ≤ (cv : Int) := by omega
       go_wp2_with fail
       exact bodyPost_ret (v := .tuple #[.slice Av (Ld.someOf F b.tides.length).length (Ld.someOf F b.tides.length).length, I 0]) (by simp [results, Try.results27, go_sem]) rfl ⟨⟨_, by rw [H0.out], by rw [HF.out]; exact sl_cut HSL.out⟩, HBW.out.trans (HBR.out.mono HBW.out.size)⟩
  · have hfr : Ld.bothL b y = [] := by rw [Ld.bothL, if_neg h0]
    have hne : (Ld.studyE b (Ld.isLoad y) != 0) = true := by simpa using h0
    have hnd : (Ld.studyE b (Ld.isLoad y) == 0) = false := by simpa using h0
    have HF := Lib.hid hfr
    clear hT hrow hbw hH hn hBn h0 hfr
    go_wp2_with fail
    exact bodyPost_ret (v := .tuple #[.slice none 0 0, I (Ld.studyE b (Ld.isLoad y))]) (by simp [results, Try.results27, go_sem]) rfl ⟨⟨_, rfl, by rw [HF.out]; exact sl_nil _ _ _⟩, HBW.out⟩
end Go.Proofs.Ytjgpghaofhcfnaa
