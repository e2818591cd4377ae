/- Texts on the program that the proof leans on, part 19. -/
import Derived.Test.YtjgpghaofhcfnaaYar
set_option linter.unusedVariables false
set_option linter.unusedSimpArgs false

namespace Go.Proofs.Ytjgpghaofhcfnaa
open Go.RowKit
theorem valid_sd {b : Ld.Bk} (hv : Ld.valid b = true) : b.sounds.length ≤ 100 ∧ ∀ s ∈ b.sounds, SdOk s := by
 obtain ⟨hp1, hp2, hp3, hp4, hp5⟩ := Ld.valid_parts hv
 have h6 := (Ld.sized_bd hp1).2.2.2.2.2.2
 have h24 := (Ld.sized_bd hp1).2.1
 refine ⟨by omega, fun s hs => ?_⟩
 have := Ld.sound_bd hp5 hs
 exact ⟨by omega, by omega, this.2.2.1⟩
set_option maxRecDepth 100000 in
set_option maxHeartbeats 4000000 in
theorem right_any (b : Ld.Bk) (T D : Value) (w : World) (hb : RB w w.heap.size b T D) :
 Calls Try.prog 17 #[vBk T D b] w fun e w' => e = .returned (.tuple #[.bool (Ld.valid b && Ld.possible b), I (Ld.check b)]) ∧ Below w.heap.size w w' := by
 obtain ⟨A0, c0, rfl⟩ := hb.tides.form
 obtain ⟨A1, c1, rfl⟩ := hb.sounds.form
 have HRB := Lib.hid hb
 clear hb
 have hB0 : Below w.heap.size w (w.alloc (.cells (rBk (.slice A0 b.tides.length c0) (.slice A1 b.sounds.length c1) b) 30)) := (Below.refl _ _).alloc (Nat.le_refl _) _
 go_enter Try.func17, Try.ntmps17
 go_wp2_with fail
 refine (check_any b _ _ _ (HRB.out.up hB0)).mono ?_
 rintro e w1 ⟨rfl, hB1⟩
 have hb1 : Below w.heap.size w w1 := hB0.trans (hB1.mono hB0.size)
 have e0 : w1.heap[w.heap.size]? = some (.cells (rBk (.slice A0 b.tides.length c0) (.slice A1 b.sounds.length c1) b) 30 (0, 0)) := (hB1.block _ (by simp)).trans (heap_at _ _ rfl)
 by_cases hv : Ld.valid b = true
 · have hc : Ld.check b = 0 := by simp [Ld.check, hv]
   obtain ⟨hl, hok⟩ := valid_sd hv
   rw [hc]
   have b0 := cell_of_row w1 _ 0 _ _ _ e0
   have b1 := cell_of_row w1 _ 1 _ _ _ e0
   have b2 := cell_of_row w1 _ 2 _ _ _ e0
   have b3 := cell_of_row w1 _ 3 _ _ _ e0
   have b4 := cell_of_row w1 _ 4 _ _ _ e0
   have b5 := cell_of_row w1 _ 5 _ _ _ e0
   have b6 := cell_of_row w1 _ 6 _ _ _ e0
   have b7 := cell_of_row w1 _ 7 _ _ _ e0
   have b8 := cell_of_row w1 _ 8 _ _ _ e0
   have b9 := cell_of_row w1 _ 9 _ _ _ e0
   have b10 := cell_of_row w1 _ 10 _ _ _ e0
   have b11 := cell_of_row w1 _ 11 _ _ _ e0
   have b12 := cell_of_row w1 _ 12 _ _ _ e0
   have b13 := cell_of_row w1 _ 13 _ _ _ e0
   simp only [List.getElem?_toArray, List.getElem?_cons_zero, List.getElem?_cons_succ] at b0 b1 b2 b3 b4 b5 b6 b7 b8 b9 b10 b11 b12 b13
   have HV := Lib.hid hv
   have HC := Lib.hid hc
   have HOK := Lib.hid hok
   have HB1 := Lib.hid hb1
   clear hB0 hB1 e0 hc hv hok hb1
   go_wp2_with fail
   refine (lay_any b _ _ w1 (HRB.out.up HB1.out) hl HOK.out).mono ?_
   rintro e w2 ⟨⟨r, rfl, hsm⟩, hB2⟩
   have hb2 : Below w.heap.size w w2 := HB1.out.trans (hB2.mono HB1.out.size)
   have HLED := Lib.hid (⟨HRB.out.up hb2, _, hsm⟩ : Led b (.slice A0 b.tides.length c0) (.slice A1 b.sounds.length c1) r w2)
   have HB2 := Lib.hid hb2
   clear hB2 hb2 hsm b0 b1 b2 b3 b4 b5 b6 b7 b8 b9 b10 b11 b12 b13
   go_wp2_with fail
   refine (possible_any b _ _ r _ w2 HLED.out HV.out).mono ?_
   rintro e w3 ⟨rfl, hB3⟩
   have hb3 : Below w.heap.size w w3 := HB2.out.trans (hB3.mono HB2.out.size)
   generalize hp : Ld.possible b = pv
   have HP := Lib.hid hp
   clear hp
   go_wp2_with fail
   exact bodyPost_ret (v := .tuple #[.bool pv, I 0]) (by simp [results, Try.results17, go_sem]) rfl ⟨by rw [HV.out, HC.out, HP.out]; rfl, hb3⟩
 · have hc : Ld.check b = 20 := by simp [Ld.check, hv]
   have hvf : Ld.valid b = false := by cases hq : Ld.valid b; rfl; exact absurd hq hv
   rw [hc]
   have HV := Lib.hid hvf
   have HC := Lib.hid hc
   clear hB1 e0 hc hv hvf
   go_wp2_with fail
   exact bodyPost_ret (v := .tuple #[.bool false, I 20]) (by simp [results, Try.results17, go_sem]) rfl ⟨by rw [HV.out, HC.out]; rfl, hb1⟩
end Go.Proofs.Ytjgpghaofhcfnaa
namespace Go.Proofs.Ytjgpghaofhcfnaa
open Go.RowKit
theorem infoBk14 : (Try.prog.info? 30).map (·.size) = some 14 := by kernel_rfl
def Ld.floorR (b : Ld.Bk) (x : Int) : Ld.Sp := if Ld.studyE b (Ld.isShore x) = 0 then (if x = 0 then (Ld.known (Ld.truths b)).1 else (Ld.known (Ld.truths b)).2) else ⟨0, 0⟩
theorem Ld.studyE_parts {b : Ld.Bk} {p : Bool} (h : Ld.studyE b p = 0) : Ld.valid b = true ∧ p = true ∧ Ld.truths b ≠ [] := by
 unfold Ld.studyE Ld.check at h
 by_cases hv : Ld.valid b = true
 · by_cases hp : p = true
   · by_cases ht : (Ld.truths b).isEmpty = true
     · simp [hv, hp, ht] at h
     · exact ⟨hv, hp, fun e => ht (by rw [e]; rfl)⟩
   · simp [hv, hp] at h
 · simp [hv] at h
set_option maxRecDepth 100000 in
set_option maxHeartbeats 4000000 in
theorem floor_any (b : Ld.Bk) (T D : Value) (x : Int) (w : World) (hb : RB w w.heap.size b T D) :
 Calls Try.prog 20 #[vBk T D b, I x] w fun e w' => e = .returned (.tuple #[vSp (Ld.floorR b x), I (Ld.studyE b (Ld.isShore x))]) ∧ Below w.heap.size w w' := by
 obtain ⟨A0, c0, rfl⟩ := hb.tides.form
 obtain ⟨A1, c1, rfl⟩ := hb.sounds.form
 have HRB := Lib.hid hb
 clear hb
 go_enter Try.func20, Try.ntmps20
 go_upto_region 1 with fail
 refine name_world ?_
 intro W hW
 have hB : Below w.heap.size w W := by rw [hW]; exact ((Below.refl _ _).alloc (Nat.le_refl _) _).alloc (by simp) _
 have rL : W.heap[w.heap.size]? = some (.cells (rBk (.slice A0 b.tides.length c0) (.slice A1 b.sounds.length c1) b) 30 (0, 0)) := by rw [hW]; exact (Below.heap_alloc _ _ _ (by simp)).trans (heap_at _ _ rfl)
 have rS : W.heap[w.heap.size + 1]? = some (.cells #[I 0, I 0] 24 (0, 0)) := by rw [hW]; exact heap_at _ _ (by simp)
 have hlF := heap_lt rL
 have RL := Lib.hid rL
 have RS := Lib.hid rS
 have HB := Lib.hid hB
 clear hW rL rS hB
 refine name_act ?_
 intro A hA
 obtain ⟨R, hR⟩ : ∃ R : Act → World → Prop, R = fun a' w' => ∃ (n B : Nat) (L : Array Value), (∃ u9 u10 u11 u12 u8 u13 u14, a' = (((((((((A.put (some 9) u9).put (some 10) u10).put (some 11) u11).put (some 12) u12).put (some 8) u8).put (some 13) u13).put (some 14) u14).put (some 6) (vPtr n)).put (some 7) (I (Ld.studyE b (Ld.isShore x))))) ∧ w'.heap[n]? = some (.cells L 86 (0, 0)) ∧ Told b (.slice A0 b.tides.length c0) (.slice A1 b.sounds.length c1) (Ld.isShore x) B w' L ∧ W.heap.size ≤ n ∧ W.heap.size ≤ B ∧ Held W w' := ⟨_, rfl⟩
 have HR := Lib.hid hR
 clear hR
 refine wp_between R ?first ?rest
 case first =>
  subst hA
  have hK0 : Held W W.drew := held_start W
  refine wp_region_held_drew (S := fun w' => Held W w') (by kernel_rfl) hK0 (fun _ => ?_)
  refine wpAnyH_take (i := 0) (oi := { dst := some 9, op := Op.load 30 (Operand.tmp 2), type := 30, pos := "landing.go:36", after := #[], guard := none }) (v := (vBk (.slice A0 b.tides.length c0) (.slice A1 b.sounds.length c1) b)) rfl (by kernel_rfl) (by kernel_rfl) (by kernel_rfl) (fun _ _ _ h => h) (Or.inl ⟨by rfl, ?hy1⟩) hK0 ?r1
  case hy1 =>
   intro w' hSw
   exact exec_load_row (by rfl) (by rfl) ((hSw.2.2.block _ (heap_lt RL.out)).trans RL.out) Try.underlying30 rfl infoBk14
  try simp only [putL]
  refine wpAnyH_take (i := 1) (oi := { dst := some 10, op := Op.move (Operand.tmp 1), type := 3, pos := "landing.go:36", after := #[], guard := none }) (v := ?v2) rfl (by kernel_rfl) (by kernel_rfl) (by kernel_rfl) (fun _ _ _ h => h) (Or.inl ⟨by rfl, ?hy2⟩) hK0 ?r2
  case hy2 =>
   intro w' hSw
   have hq := hSw.1
   clear hSw
   go_simp
   with_reducible rfl
  try simp only [putL]
  refine wpAnyH_ready (rs := [2, 7]) (by kernel_rfl) (by simp) ?_
  refine AllReadyH.cons rfl (fun K hK => ?_) (AllReadyH.cons rfl (fun K hK => ?_) AllReadyH.nil)
  · go_simp
    refine (isShore_any x _).mono ?_
    rintro e w3 ⟨rfl, hBw3⟩
    have hSw3 := held_step hBw3 hK0
    refine hK.out _ _ hSw3 (fun _ => ?_)
    clear hK K
    try simp only [putL]
    refine wpAnyH_ready (rs := [3, 7]) (by kernel_rfl) (by simp) ?_
    refine AllReadyH.cons rfl (fun K hK => ?_) (AllReadyH.cons rfl (fun K hK => ?_) AllReadyH.nil)
    · go_simp
      refine (study_told b (.slice A0 b.tides.length c0) (.slice A1 b.sounds.length c1) (Ld.isShore x) _ (HRB.out.up (HB.out.trans (hSw3.2.2.mono HB.out.size)))).mono ?_
      rintro e w4 ⟨⟨L, rfl, hTw4⟩, hBw4⟩
      have hSw4 := held_step hBw4 hSw3
      have hgw4 : W.heap.size ≤ w3.heap.size := hSw3.2.2.size
      refine hK.out _ _ hSw4 (fun _ => ?_)
      clear hK K
      try simp only [putL]
      refine wpAnyH_take (i := 4) (oi := { dst := some 8, op := Op.move (Operand.tmp 12), type := 92, pos := "landing.go:36", after := #[{ on := 3, ground := Ground.data }], guard := none }) (v := ?v5) rfl (by kernel_rfl) (by kernel_rfl) (by kernel_rfl) (fun _ _ _ h => h) (Or.inl ⟨by rfl, ?hy5⟩) hSw4 ?r5
      case hy5 =>
       intro w' hSw
       have hq := hSw.1
       clear hSw
       go_simp
       with_reducible rfl
      try simp only [putL]
      refine wpAnyH_take (i := 5) (oi := { dst := some 13, op := Op.extract (Operand.tmp 8) 0, type := 86, pos := "landing.go:36", after := #[{ on := 4, ground := Ground.data }], guard := none }) (v := ?v6) rfl (by kernel_rfl) (by kernel_rfl) (by kernel_rfl) (fun _ _ _ h => h) (Or.inl ⟨by rfl, ?hy6⟩) hSw4 ?r6
      case hy6 =>
       intro w' hSw
       have hq := hSw.1
       clear hSw
       go_simp
       with_reducible rfl
      try simp only [putL]
      refine wpAnyH_take (i := 6) (oi := { dst := some 14, op := Op.extract (Operand.tmp 8) 1, type := 41, pos := "landing.go:36", after := #[{ on := 4, ground := Ground.data }, { on := 8, ground := Ground.gcOnly Go.Departure.lateStores }], guard := none }) (v := ?v7) rfl (by kernel_rfl) (by kernel_rfl) (by kernel_rfl) (fun _ _ _ h => h) (Or.inl ⟨by rfl, ?hy7⟩) hSw4 ?r7
      case hy7 =>
       intro w' hSw
       have hq := hSw.1
       clear hSw
       go_simp
       with_reducible rfl
      try simp only [putL]
      refine wpAnyH_ready (rs := [7]) (by kernel_rfl) (by simp) ?_
      refine AllReadyH.cons rfl (fun K hK => ?_) AllReadyH.nil
      go_simp
      refine hK.out _ _ (held_alloc hSw4 _) (fun _ => ?_)
      clear hK K
      try simp only [putL]
      refine name_anyH ?_
      intro w8 hWw8
      have hAw8 : Below w4.heap.size w4 w8 := by rw [hWw8]; exact (Below.refl _ _).alloc (Nat.le_refl _) _
      have fAw8 : w8.heap[w4.heap.size]? = some (.cells rLg0 86 (0, 0)) := by rw [hWw8]; exact heap_at _ _ rfl
      have hSw8 : Held W w8 := by rw [hWw8]; exact held_alloc hSw4 _
      have mTw8 := hTw4.up hAw8
      have hlAw8 : W.heap.size ≤ w4.heap.size := hSw4.2.2.size
      clear hWw8
      refine wpAnyH_ready (rs := [8]) (by kernel_rfl) (by simp) ?_
      refine AllReadyH.cons rfl (fun K hK => ?_) AllReadyH.nil
      rw [if_pos (by rfl)]
      refine wp_store_row 86 _ _ rfl _ L rfl rfl _ _ fAw8 (by rw [mTw8.size]; exact infoLg) (mTw8.size.symm) mTw8.one ?_
      have hSw9 := held_row hSw8 hlAw8 L
      refine hK.out _ _ hSw9 (fun _ => ?_)
      clear hK K
      try simp only [putL]
      have hrw9 := setRow_heap _ _ _ L _ _ fAw8
      refine wpAnyH_take (i := 9) (oi := { dst := some 7, op := Op.assign (Operand.tmp 14), type := 41, pos := "landing.go:36", after := #[{ on := 6, ground := Ground.data }, { on := 8, ground := Ground.chain }, { on := 0, ground := Ground.phase }, { on := 1, ground := Ground.phase }, { on := 2, ground := Ground.phase }, { on := 3, ground := Ground.phase }, { on := 4, ground := Ground.phase }, { on := 5, ground := Ground.phase }, { on := 6, ground := Ground.phase }, { on := 7, ground := Ground.phase }, { on := 8, ground := Ground.phase }], guard := none }) (v := ?v10) rfl (by kernel_rfl) (by kernel_rfl) (by kernel_rfl) (fun _ _ _ h => h) (Or.inl ⟨by rfl, ?hy10⟩) hSw9 ?r10
      case hy10 =>
       intro w' hSw
       have hq := hSw.1
       clear hSw
       go_simp
       with_reducible rfl
      try simp only [putL]
      refine wpAnyH_done (by kernel_rfl) ?_ _
      show R _ _
      rw [HR.out]
      simp only [putL]
      exact ⟨w4.heap.size, w3.heap.size, L, ⟨_, _, _, _, _, _, _, rfl⟩, hrw9, hTw4.up (below_setRow hAw8 (Nat.le_refl _) L), hlAw8, hgw4, hSw9⟩
    · go_simp
      refine hK.out _ _ (held_alloc hSw3 _) (fun _ => ?_)
      clear hK K
      try simp only [putL]
      refine name_anyH ?_
      intro w11 hWw11
      have hAw11 : Below w3.heap.size w3 w11 := by rw [hWw11]; exact (Below.refl _ _).alloc (Nat.le_refl _) _
      have fAw11 : w11.heap[w3.heap.size]? = some (.cells rLg0 86 (0, 0)) := by rw [hWw11]; exact heap_at _ _ rfl
      have hSw11 : Held W w11 := by rw [hWw11]; exact held_alloc hSw3 _
      have hlAw11 : W.heap.size ≤ w3.heap.size := hSw3.2.2.size
      clear hWw11
      refine wpAnyH_ready (rs := [3]) (by kernel_rfl) (by simp) ?_
      refine AllReadyH.cons rfl (fun K hK => ?_) AllReadyH.nil
      go_simp
      refine (study_told b (.slice A0 b.tides.length c0) (.slice A1 b.sounds.length c1) (Ld.isShore x) _ (HRB.out.up (HB.out.trans (hSw11.2.2.mono HB.out.size)))).mono ?_
      rintro e w12 ⟨⟨L, rfl, hTw12⟩, hBw12⟩
      have hSw12 := held_step hBw12 hSw11
      have hgw12 : W.heap.size ≤ w11.heap.size := hSw11.2.2.size
      have fAw12 := (hBw12.block _ (heap_lt fAw11)).trans fAw11
      refine hK.out _ _ hSw12 (fun _ => ?_)
      clear hK K
      try simp only [putL]
      refine wpAnyH_take (i := 4) (oi := { dst := some 8, op := Op.move (Operand.tmp 12), type := 92, pos := "landing.go:36", after := #[{ on := 3, ground := Ground.data }], guard := none }) (v := ?v13) rfl (by kernel_rfl) (by kernel_rfl) (by kernel_rfl) (fun _ _ _ h => h) (Or.inl ⟨by rfl, ?hy13⟩) hSw12 ?r13
      case hy13 =>
       intro w' hSw
       have hq := hSw.1
       clear hSw
       go_simp
       with_reducible rfl
      try simp only [putL]
      refine wpAnyH_take (i := 5) (oi := { dst := some 13, op := Op.extract (Operand.tmp 8) 0, type := 86, pos := "landing.go:36", after := #[{ on := 4, ground := Ground.data }], guard := none }) (v := ?v14) rfl (by kernel_rfl) (by kernel_rfl) (by kernel_rfl) (fun _ _ _ h => h) (Or.inl ⟨by rfl, ?hy14⟩) hSw12 ?r14
      case hy14 =>
       intro w' hSw
       have hq := hSw.1
       clear hSw
       go_simp
       with_reducible rfl
      try simp only [putL]
      refine wpAnyH_take (i := 6) (oi := { dst := some 14, op := Op.extract (Operand.tmp 8) 1, type := 41, pos := "landing.go:36", after := #[{ on := 4, ground := Ground.data }, { on := 8, ground := Ground.gcOnly Go.Departure.lateStores }], guard := none }) (v := ?v15) rfl (by kernel_rfl) (by kernel_rfl) (by kernel_rfl) (fun _ _ _ h => h) (Or.inl ⟨by rfl, ?hy15⟩) hSw12 ?r15
      case hy15 =>
       intro w' hSw
       have hq := hSw.1
       clear hSw
       go_simp
       with_reducible rfl
      try simp only [putL]
      refine wpAnyH_ready (rs := [8]) (by kernel_rfl) (by simp) ?_
      refine AllReadyH.cons rfl (fun K hK => ?_) AllReadyH.nil
      rw [if_pos (by rfl)]
      refine wp_store_row 86 _ _ rfl _ L rfl rfl _ _ fAw12 (by rw [hTw12.size]; exact infoLg) (hTw12.size.symm) hTw12.one ?_
      have hSw16 := held_row hSw12 hlAw11 L
      refine hK.out _ _ hSw16 (fun _ => ?_)
      clear hK K
      try simp only [putL]
      have hrw16 := setRow_heap _ _ _ L _ _ fAw12
      refine wpAnyH_take (i := 9) (oi := { dst := some 7, op := Op.assign (Operand.tmp 14), type := 41, pos := "landing.go:36", after := #[{ on := 6, ground := Ground.data }, { on := 8, ground := Ground.chain }, { on := 0, ground := Ground.phase }, { on := 1, ground := Ground.phase }, { on := 2, ground := Ground.phase }, { on := 3, ground := Ground.phase }, { on := 4, ground := Ground.phase }, { on := 5, ground := Ground.phase }, { on := 6, ground := Ground.phase }, { on := 7, ground := Ground.phase }, { on := 8, ground := Ground.phase }], guard := none }) (v := ?v17) rfl (by kernel_rfl) (by kernel_rfl) (by kernel_rfl) (fun _ _ _ h => h) (Or.inl ⟨by rfl, ?hy17⟩) hSw16 ?r17
      case hy17 =>
       intro w' hSw
       have hq := hSw.1
       clear hSw
       go_simp
       with_reducible rfl
      try simp only [putL]
      refine wpAnyH_done (by kernel_rfl) ?_ _
      show R _ _
      rw [HR.out]
      simp only [putL]
      exact ⟨w3.heap.size, w11.heap.size, L, ⟨_, _, _, _, _, _, _, rfl⟩, hrw16, hTw12.row fAw12 (heap_lt fAw11), hlAw11, hgw12, hSw16⟩
  · go_simp
    refine hK.out _ _ (held_alloc hK0 _) (fun _ => ?_)
    clear hK K
    try simp only [putL]
    refine name_anyH ?_
    intro w18 hWw18
    have hAw18 : Below W.drew.heap.size W.drew w18 := by rw [hWw18]; exact (Below.refl _ _).alloc (Nat.le_refl _) _
    have fAw18 : w18.heap[W.drew.heap.size]? = some (.cells rLg0 86 (0, 0)) := by rw [hWw18]; exact heap_at _ _ rfl
    have hSw18 : Held W w18 := by rw [hWw18]; exact held_alloc hK0 _
    have hlAw18 : W.heap.size ≤ W.drew.heap.size := hK0.2.2.size
    clear hWw18
    refine wpAnyH_ready (rs := [2]) (by kernel_rfl) (by simp) ?_
    refine AllReadyH.cons rfl (fun K hK => ?_) AllReadyH.nil
    go_simp
    refine (isShore_any x _).mono ?_
    rintro e w19 ⟨rfl, hBw19⟩
    have hSw19 := held_step hBw19 hSw18
    have fAw19 := (hBw19.block _ (heap_lt fAw18)).trans fAw18
    refine hK.out _ _ hSw19 (fun _ => ?_)
    clear hK K
    try simp only [putL]
    refine wpAnyH_ready (rs := [3]) (by kernel_rfl) (by simp) ?_
    refine AllReadyH.cons rfl (fun K hK => ?_) AllReadyH.nil
    go_simp
    refine (study_told b (.slice A0 b.tides.length c0) (.slice A1 b.sounds.length c1) (Ld.isShore x) _ (HRB.out.up (HB.out.trans (hSw19.2.2.mono HB.out.size)))).mono ?_
    rintro e w20 ⟨⟨L, rfl, hTw20⟩, hBw20⟩
    have hSw20 := held_step hBw20 hSw19
    have hgw20 : W.heap.size ≤ w19.heap.size := hSw19.2.2.size
    have fAw20 := (hBw20.block _ (heap_lt fAw19)).trans fAw19
    refine hK.out _ _ hSw20 (fun _ => ?_)
    clear hK K
    try simp only [putL]
    refine wpAnyH_take (i := 4) (oi := { dst := some 8, op := Op.move (Operand.tmp 12), type := 92, pos := "landing.go:36", after := #[{ on := 3, ground := Ground.data }], guard := none }) (v := ?v21) rfl (by kernel_rfl) (by kernel_rfl) (by kernel_rfl) (fun _ _ _ h => h) (Or.inl ⟨by rfl, ?hy21⟩) hSw20 ?r21
    case hy21 =>
     intro w' hSw
     have hq := hSw.1
     clear hSw
     go_simp
     with_reducible rfl
    try simp only [putL]
    refine wpAnyH_take (i := 5) (oi := { dst := some 13, op := Op.extract (Operand.tmp 8) 0, type := 86, pos := "landing.go:36", after := #[{ on := 4, ground := Ground.data }], guard := none }) (v := ?v22) rfl (by kernel_rfl) (by kernel_rfl) (by kernel_rfl) (fun _ _ _ h => h) (Or.inl ⟨by rfl, ?hy22⟩) hSw20 ?r22
    case hy22 =>
     intro w' hSw
     have hq := hSw.1
     clear hSw
     go_simp
     with_reducible rfl
    try simp only [putL]
    refine wpAnyH_take (i := 6) (oi := { dst := some 14, op := Op.extract (Operand.tmp 8) 1, type := 41, pos := "landing.go:36", after := #[{ on := 4, ground := Ground.data }, { on := 8, ground := Ground.gcOnly Go.Departure.lateStores }], guard := none }) (v := ?v23) rfl (by kernel_rfl) (by kernel_rfl) (by kernel_rfl) (fun _ _ _ h => h) (Or.inl ⟨by rfl, ?hy23⟩) hSw20 ?r23
    case hy23 =>
     intro w' hSw
     have hq := hSw.1
     clear hSw
     go_simp
     with_reducible rfl
    try simp only [putL]
    refine wpAnyH_ready (rs := [8]) (by kernel_rfl) (by simp) ?_
    refine AllReadyH.cons rfl (fun K hK => ?_) AllReadyH.nil
    rw [if_pos (by rfl)]
    refine wp_store_row 86 _ _ rfl _ L rfl rfl _ _ fAw20 (by rw [hTw20.size]; exact infoLg) (hTw20.size.symm) hTw20.one ?_
    have hSw24 := held_row hSw20 hlAw18 L
    refine hK.out _ _ hSw24 (fun _ => ?_)
    clear hK K
    try simp only [putL]
    have hrw24 := setRow_heap _ _ _ L _ _ fAw20
    refine wpAnyH_take (i := 9) (oi := { dst := some 7, op := Op.assign (Operand.tmp 14), type := 41, pos := "landing.go:36", after := #[{ on := 6, ground := Ground.data }, { on := 8, ground := Ground.chain }, { on := 0, ground := Ground.phase }, { on := 1, ground := Ground.phase }, { on := 2, ground := Ground.phase }, { on := 3, ground := Ground.phase }, { on := 4, ground := Ground.phase }, { on := 5, ground := Ground.phase }, { on := 6, ground := Ground.phase }, { on := 7, ground := Ground.phase }, { on := 8, ground := Ground.phase }], guard := none }) (v := ?v25) rfl (by kernel_rfl) (by kernel_rfl) (by kernel_rfl) (fun _ _ _ h => h) (Or.inl ⟨by rfl, ?hy25⟩) hSw24 ?r25
    case hy25 =>
     intro w' hSw
     have hq := hSw.1
     clear hSw
     go_simp
     with_reducible rfl
    try simp only [putL]
    refine wpAnyH_done (by kernel_rfl) ?_ _
    show R _ _
    rw [HR.out]
    simp only [putL]
    exact ⟨W.drew.heap.size, w19.heap.size, L, ⟨_, _, _, _, _, _, _, rfl⟩, hrw24, hTw20.row fAw20 (heap_lt fAw19), hlAw18, hgw20, hSw24⟩
 case rest =>
  intro a' w' hra
  rw [HR.out] at hra
  clear HR
  obtain ⟨n, B, L, ⟨u9, u10, u11, u12, u8, u13, u14, rfl⟩, hrow, hT, hn, hBn, hH⟩ := hra
  subst hA
  simp only [putL]
  have hsp := (hH.2.2.block _ (heap_lt RS.out)).trans RS.out
  have z0 := cell_of_row w' _ 0 _ _ _ hsp
  have z1 := cell_of_row w' _ 1 _ _ _ hsp
  simp only [List.getElem?_toArray, List.getElem?_cons_zero, List.getElem?_cons_succ] at z0 z1
  have f0 : w'.frozen? ⟨w.heap.size + 1, 0, none⟩ = false := by simp [World.frozen?, hsp]
  have f1 : w'.frozen? ⟨w.heap.size + 1, 1, none⟩ = false := by simp [World.frozen?, hsp]
  have hbw : Below w.heap.size w w' := HB.out.trans (hH.2.2.mono HB.out.size)
  have HSP := Lib.hid hsp
  have HBW := Lib.hid hbw
  have HN := Lib.hid hn
  by_cases h0 : Ld.studyE b (Ld.isShore x) = 0
  · obtain ⟨hv, hp, hne⟩ := Ld.studyE_parts h0
    obtain ⟨R2, r, rfl, hg⟩ := hT.yes h0
    have hfr : Ld.floorR b x = (if x = 0 then (Ld.known (Ld.truths b)).1 else (Ld.known (Ld.truths b)).2) := by rw [Ld.floorR, if_pos h0]
    obtain ⟨K, hK⟩ : ∃ K, Ld.known (Ld.truths b) = K := ⟨_, rfl⟩
    rw [hK] at hrow hfr
    have b16 := cell_of_row w' _ 16 _ _ _ hrow
    have b17 := cell_of_row w' _ 17 _ _ _ hrow
    have b18 := cell_of_row w' _ 18 _ _ _ hrow
    have b19 := cell_of_row w' _ 19 _ _ _ hrow
    simp only [List.getElem?_toArray, List.getElem?_cons_zero, List.getElem?_cons_succ] at b16 b17 b18 b19
    have HF := Lib.hid hfr
    have H0 := Lib.hid h0
    rw [h0]
    clear hT hrow hsp hbw hH hg hn hBn h0 hfr hK hne hv
    have hx : x = 0 ∨ x = 1 := by simpa [Ld.isShore] using hp
    clear hp
    rcases hx with rfl | rfl
    · go_wp2_with fail
      refine name_post ?_
      intro V hV
      have hrow : V.heap[w.heap.size + 1]? = some (.cells #[I K.1.lo, I K.1.hi] 24 (0, 0)) := by rw [hV]; simp [World.setCell, Array.getElem?_modify, HSP.out]
      have hbV : Below w.heap.size w V := by rw [hV]; exact (HBW.out.setCell (by simp) _).setCell (by simp) _
      have hq : ∀ j : Nat, V.cell? ⟨w.heap.size + 1, j, none⟩ = #[I K.1.lo, I K.1.hi][j]? := fun j => cell_of_row V _ j _ _ _ hrow
      clear hV
      exact bodyPost_ret (v := .tuple #[vSp K.1, I 0]) (by simp [results, Try.results20, go_sem, hq]) rfl ⟨by rw [HF.out, H0.out]; rfl, hbV⟩
    · go_wp2_with fail
      refine name_post ?_
      intro V hV
      have hrow : V.heap[w.heap.size + 1]? = some (.cells #[I K.2.lo, I K.2.hi] 24 (0, 0)) := by rw [hV]; simp [World.setCell, Array.getElem?_modify, HSP.out]
      have hbV : Below w.heap.size w V := by rw [hV]; exact (HBW.out.setCell (by simp) _).setCell (by simp) _
      have hq : ∀ j : Nat, V.cell? ⟨w.heap.size + 1, j, none⟩ = #[I K.2.lo, I K.2.hi][j]? := fun j => cell_of_row V _ j _ _ _ hrow
      clear hV
      exact bodyPost_ret (v := .tuple #[vSp K.2, I 0]) (by simp [results, Try.results20, go_sem, hq]) rfl ⟨by rw [HF.out, H0.out]; rfl, hbV⟩
  · have hfr : Ld.floorR b x = ⟨0, 0⟩ := by rw [Ld.floorR, if_neg h0]
    have hne : (Ld.studyE b (Ld.isShore x) != 0) = true := by simpa using h0
    have hnd : (Ld.studyE b (Ld.isShore x) == 0) = false := by simpa using h0
    have HF := Lib.hid hfr
    clear hT hrow hsp hbw hH hn hBn h0 hfr
    go_wp2_with fail
    refine bodyPost_ret (v := .tuple #[vSp ⟨0, 0⟩, I (Ld.studyE b (Ld.isShore x))]) (by simp [results, Try.results20, go_sem, z0, z1]) rfl ⟨by rw [HF.out], ?_⟩
    repeat (refine Below.setCell ?_ (by simp) _)
    exact HBW.out
end Go.Proofs.Ytjgpghaofhcfnaa
