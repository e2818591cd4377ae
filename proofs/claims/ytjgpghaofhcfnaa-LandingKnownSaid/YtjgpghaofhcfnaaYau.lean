/- Texts on the program that the proof leans on, part 21. -/
import Derived.Test.YtjgpghaofhcfnaaYat
set_option linter.unusedVariables false
set_option linter.unusedSimpArgs false

namespace Go.Proofs.Ytjgpghaofhcfnaa
open Go.RowKit
def Ld.firstR (b : Ld.Bk) (sh y : Int) : Int × Int := if Ld.studyE b (Ld.isShore sh && Ld.isLoad y) = 0 then Ld.findR (fun k => Ld.atWorst b sh.toNat k y) (fun k => (k : Int)) b.tides.length else (0, Ld.studyE b (Ld.isShore sh && Ld.isLoad y))
theorem Ld.studyE_bad {b : Ld.Bk} : Ld.studyE b false ≠ 0 := fun h => by have := (Ld.studyE_parts h).2.1; cases this
set_option maxRecDepth 100000 in
set_option maxHeartbeats 4000000 in
theorem first_bad (b : Ld.Bk) (T D : Value) (sh y : Int) (hs : Ld.isShore sh = false) (w : World) (hb : RB w w.heap.size b T D) :
 Calls Try.prog 26 #[vBk T D b, I sh, I y] w fun e w' => e = .returned (.tuple #[I (Ld.firstR b sh y).1, I (Ld.firstR b sh y).2]) ∧ Below w.heap.size w w' := by
 have hPP : (Ld.isShore sh && Ld.isLoad y) = false := by rw [hs]; rfl
 have hS0 : ∀ w' : World, Calls Try.prog 57 #[I sh] w' fun e w'' => e = .returned (.bool false) ∧ Below w'.heap.size w' w'' := fun w' => by rw [← hs]; exact isShore_any sh w'
 have HS := Lib.hid hS0
 have HPP := Lib.hid hPP
 clear hS0 hPP
 obtain ⟨A0, c0, rfl⟩ := hb.tides.form
 obtain ⟨A1, c1, rfl⟩ := hb.sounds.form
 have HRB := Lib.hid hb
 clear hb
 go_enter Try.func26, Try.ntmps26
 go_upto_region 1 with fail
 refine name_world ?_
 intro W hW
 have hB : Below w.heap.size w W := by rw [hW]; exact (Below.refl _ _).alloc (Nat.le_refl _) _
 have rL : W.heap[w.heap.size]? = some (.cells (rBk (.slice A0 b.tides.length c0) (.slice A1 b.sounds.length c1) b) 30 (0, 0)) := by rw [hW]; exact heap_at _ _ rfl
 have hlF := heap_lt rL
 have RL := Lib.hid rL
 have HB := Lib.hid hB
 clear hW rL hB
 refine name_act ?_
 intro A hA
 obtain ⟨R, hR⟩ : ∃ R : Act → World → Prop, R = fun a' w' => ∃ (n B : Nat) (L : Array Value), (∃ u12 u13 u14 u15 u16 u17 u18 u19 u11 u20 u21, a' = (((((((((((((A.put (some 12) u12).put (some 13) u13).put (some 14) u14).put (some 15) u15).put (some 16) u16).put (some 17) u17).put (some 18) u18).put (some 19) u19).put (some 11) u11).put (some 20) u20).put (some 21) u21).put (some 8) (vPtr n)).put (some 9) (I (Ld.studyE b false)))) ∧ w'.heap[n]? = some (.cells L 86 (0, 0)) ∧ Told b (.slice A0 b.tides.length c0) (.slice A1 b.sounds.length c1) false B w' L ∧ W.heap.size ≤ n ∧ W.heap.size ≤ B ∧ Held W w' := ⟨_, rfl⟩
 have HR := Lib.hid hR
 clear hR
 refine wp_between R ?first ?rest
 case first =>
  subst hA
  have hK0 : Held W W.drew := held_start W
  refine wp_region_held_drew (S := fun w' => Held W w') (by kernel_rfl) hK0 (fun _ => ?_)
  refine wpAnyH_take (i := 0) (oi := { dst := some 12, op := Op.load 30 (Operand.tmp 3), type := 30, pos := "landing.go:70", after := #[], guard := none }) (v := (vBk (.slice A0 b.tides.length c0) (.slice A1 b.sounds.length c1) b)) rfl (by kernel_rfl) (by kernel_rfl) (by kernel_rfl) (fun _ _ _ h => h) (Or.inl ⟨by rfl, ?hy1⟩) hK0 ?r1
  case hy1 =>
   intro w' hSw
   exact exec_load_row (by rfl) (by rfl) ((hSw.2.2.block _ (heap_lt RL.out)).trans RL.out) Try.underlying30 rfl infoBk14
  try simp only [putL]
  refine wpAnyH_take (i := 1) (oi := { dst := some 13, op := Op.move (Operand.tmp 1), type := 3, pos := "landing.go:70", after := #[], guard := none }) (v := ?v2) rfl (by kernel_rfl) (by kernel_rfl) (by kernel_rfl) (fun _ _ _ h => h) (Or.inl ⟨by rfl, ?hy2⟩) hK0 ?r2
  case hy2 =>
   intro w' hSw
   have hq := hSw.1
   clear hSw
   go_simp
   with_reducible rfl
  try simp only [putL]
  refine wpAnyH_ready (rs := [2, 11]) (by kernel_rfl) (by simp) ?_
  refine AllReadyH.cons rfl (fun K hK => ?_) (AllReadyH.cons rfl (fun K hK => ?_) AllReadyH.nil)
  · go_simp
    refine (HS.out _).mono ?_
    rintro e w3 ⟨rfl, hBw3⟩
    have hSw3 := held_step hBw3 hK0
    refine hK.out _ _ hSw3 (fun _ => ?_)
    clear hK K
    try simp only [putL]
    refine wpAnyH_take (i := 3) (oi := { dst := some 15, op := Op.move (Operand.tmp 14), type := 4, pos := "landing.go:70", after := #[{ on := 2, ground := Ground.data }, { on := 2, ground := Ground.chain }], guard := none }) (v := ?v4) rfl (by kernel_rfl) (by kernel_rfl) (by kernel_rfl) (fun _ _ _ h => h) (Or.inl ⟨by rfl, ?hy4⟩) hSw3 ?r4
    case hy4 =>
     intro w' hSw
     have hq := hSw.1
     clear hSw
     go_simp
     with_reducible rfl
    try simp only [putL]
    refine wpAnyH_take (i := 4) (oi := { dst := some 16, op := Op.move (Operand.tmp 2), type := 3, pos := "landing.go:70", after := #[{ on := 3, ground := Ground.guard }], guard := some (3, true) }) (v := undef) rfl (by kernel_rfl) (by kernel_rfl) (by kernel_rfl) (fun _ _ _ h => h) (Or.inr ⟨by rfl, rfl⟩) hSw3 ?_
    try simp only [putL]
    refine wpAnyH_take (i := 5) (oi := { dst := some 17, op := Op.call { callee := Callee.value (Operand.func 59), args := #[Operand.tmp 16], argTypes := #[3] }, type := 4, pos := "landing.go:70", after := #[{ on := 4, ground := Ground.data }, { on := 3, ground := Ground.chain }, { on := 3, ground := Ground.guard }], guard := some (3, true) }) (v := undef) rfl (by kernel_rfl) (by kernel_rfl) (by kernel_rfl) (fun _ _ _ h => h) (Or.inr ⟨by rfl, rfl⟩) hSw3 ?_
    try simp only [putL]
    refine wpAnyH_take (i := 6) (oi := { dst := some 18, op := Op.pick (Operand.tmp 15) (Operand.tmp 17) (Operand.const (Value.bool false)), type := 4, pos := "landing.go:70", after := #[{ on := 3, ground := Ground.data }, { on := 5, ground := Ground.data }], guard := none }) (v := ?v5) rfl (by kernel_rfl) (by kernel_rfl) (by kernel_rfl) (fun _ _ _ h => h) (Or.inl ⟨by rfl, ?hy5⟩) hSw3 ?r5
    case hy5 =>
     intro w' hSw
     have hq := hSw.1
     clear hSw
     go_simp
     with_reducible rfl
    try simp only [putL]
    refine wpAnyH_ready (rs := [7, 11]) (by kernel_rfl) (by simp) ?_
    refine AllReadyH.cons rfl (fun K hK => ?_) (AllReadyH.cons rfl (fun K hK => ?_) AllReadyH.nil)
    · go_simp
      refine (study_told b (.slice A0 b.tides.length c0) (.slice A1 b.sounds.length c1) false _ (HRB.out.up (HB.out.trans (hSw3.2.2.mono HB.out.size)))).mono ?_
      rintro e w6 ⟨⟨L, rfl, hTw6⟩, hBw6⟩
      have hSw6 := held_step hBw6 hSw3
      have hgw6 : W.heap.size ≤ w3.heap.size := hSw3.2.2.size
      refine hK.out _ _ hSw6 (fun _ => ?_)
      clear hK K
      try simp only [putL]
      refine wpAnyH_take (i := 8) (oi := { dst := some 11, op := Op.move (Operand.tmp 19), type := 92, pos := "landing.go:70", after := #[{ on := 7, ground := Ground.data }], guard := none }) (v := ?v7) rfl (by kernel_rfl) (by kernel_rfl) (by kernel_rfl) (fun _ _ _ h => h) (Or.inl ⟨by rfl, ?hy7⟩) hSw6 ?r7
      case hy7 =>
       intro w' hSw
       have hq := hSw.1
       clear hSw
       go_simp
       with_reducible rfl
      try simp only [putL]
      refine wpAnyH_take (i := 9) (oi := { dst := some 20, op := Op.extract (Operand.tmp 11) 0, type := 86, pos := "landing.go:70", after := #[{ on := 8, ground := Ground.data }], guard := none }) (v := ?v8) rfl (by kernel_rfl) (by kernel_rfl) (by kernel_rfl) (fun _ _ _ h => h) (Or.inl ⟨by rfl, ?hy8⟩) hSw6 ?r8
      case hy8 =>
       intro w' hSw
       have hq := hSw.1
       clear hSw
       go_simp
       with_reducible rfl
      try simp only [putL]
      refine wpAnyH_take (i := 10) (oi := { dst := some 21, op := Op.extract (Operand.tmp 11) 1, type := 41, pos := "landing.go:70", after := #[{ on := 8, ground := Ground.data }, { on := 12, ground := Ground.gcOnly Go.Departure.lateStores }], guard := none }) (v := ?v9) rfl (by kernel_rfl) (by kernel_rfl) (by kernel_rfl) (fun _ _ _ h => h) (Or.inl ⟨by rfl, ?hy9⟩) hSw6 ?r9
      case hy9 =>
       intro w' hSw
       have hq := hSw.1
       clear hSw
       go_simp
       with_reducible rfl
      try simp only [putL]
      refine wpAnyH_ready (rs := [11]) (by kernel_rfl) (by simp) ?_
      refine AllReadyH.cons rfl (fun K hK => ?_) AllReadyH.nil
      go_simp
      refine hK.out _ _ (held_alloc hSw6 _) (fun _ => ?_)
      clear hK K
      try simp only [putL]
      refine name_anyH ?_
      intro w10 hWw10
      have hAw10 : Below w6.heap.size w6 w10 := by rw [hWw10]; exact (Below.refl _ _).alloc (Nat.le_refl _) _
      have fAw10 : w10.heap[w6.heap.size]? = some (.cells rLg0 86 (0, 0)) := by rw [hWw10]; exact heap_at _ _ rfl
      have hSw10 : Held W w10 := by rw [hWw10]; exact held_alloc hSw6 _
      have mTw10 := hTw6.up hAw10
      have hlAw10 : W.heap.size ≤ w6.heap.size := hSw6.2.2.size
      clear hWw10
      refine wpAnyH_ready (rs := [12]) (by kernel_rfl) (by simp) ?_
      refine AllReadyH.cons rfl (fun K hK => ?_) AllReadyH.nil
      rw [if_pos (by rfl)]
      refine wp_store_row 86 _ _ rfl _ L rfl rfl _ _ fAw10 (by rw [mTw10.size]; exact infoLg) (mTw10.size.symm) mTw10.one ?_
      have hSw11 := held_row hSw10 hlAw10 L
      refine hK.out _ _ hSw11 (fun _ => ?_)
      clear hK K
      try simp only [putL]
      have hrw11 := setRow_heap _ _ _ L _ _ fAw10
      refine wpAnyH_take (i := 13) (oi := { dst := some 9, op := Op.assign (Operand.tmp 21), type := 41, pos := "landing.go:70", after := #[{ on := 10, ground := Ground.data }, { on := 12, ground := Ground.chain }, { on := 0, ground := Ground.phase }, { on := 1, ground := Ground.phase }, { on := 2, ground := Ground.phase }, { on := 3, ground := Ground.phase }, { on := 4, ground := Ground.phase }, { on := 5, ground := Ground.phase }, { on := 6, ground := Ground.phase }, { on := 7, ground := Ground.phase }, { on := 8, ground := Ground.phase }, { on := 9, ground := Ground.phase }, { on := 10, ground := Ground.phase }, { on := 11, ground := Ground.phase }, { on := 12, ground := Ground.phase }], guard := none }) (v := ?v12) rfl (by kernel_rfl) (by kernel_rfl) (by kernel_rfl) (fun _ _ _ h => h) (Or.inl ⟨by rfl, ?hy12⟩) hSw11 ?r12
      case hy12 =>
       intro w' hSw
       have hq := hSw.1
       clear hSw
       go_simp
       with_reducible rfl
      try simp only [putL]
      refine wpAnyH_done (by kernel_rfl) ?_ _
      show R _ _
      rw [HR.out]
      simp only [putL]
      exact ⟨w6.heap.size, w3.heap.size, L, ⟨_, _, _, _, _, _, _, _, _, _, _, rfl⟩, hrw11, hTw6.up (below_setRow hAw10 (Nat.le_refl _) L), hlAw10, hgw6, hSw11⟩
    · go_simp
      refine hK.out _ _ (held_alloc hSw3 _) (fun _ => ?_)
      clear hK K
      try simp only [putL]
      refine name_anyH ?_
      intro w13 hWw13
      have hAw13 : Below w3.heap.size w3 w13 := by rw [hWw13]; exact (Below.refl _ _).alloc (Nat.le_refl _) _
      have fAw13 : w13.heap[w3.heap.size]? = some (.cells rLg0 86 (0, 0)) := by rw [hWw13]; exact heap_at _ _ rfl
      have hSw13 : Held W w13 := by rw [hWw13]; exact held_alloc hSw3 _
      have hlAw13 : W.heap.size ≤ w3.heap.size := hSw3.2.2.size
      clear hWw13
      refine wpAnyH_ready (rs := [7]) (by kernel_rfl) (by simp) ?_
      refine AllReadyH.cons rfl (fun K hK => ?_) AllReadyH.nil
      go_simp
      refine (study_told b (.slice A0 b.tides.length c0) (.slice A1 b.sounds.length c1) false _ (HRB.out.up (HB.out.trans (hSw13.2.2.mono HB.out.size)))).mono ?_
      rintro e w14 ⟨⟨L, rfl, hTw14⟩, hBw14⟩
      have hSw14 := held_step hBw14 hSw13
      have hgw14 : W.heap.size ≤ w13.heap.size := hSw13.2.2.size
      have fAw14 := (hBw14.block _ (heap_lt fAw13)).trans fAw13
      refine hK.out _ _ hSw14 (fun _ => ?_)
      clear hK K
      try simp only [putL]
      refine wpAnyH_take (i := 8) (oi := { dst := some 11, op := Op.move (Operand.tmp 19), type := 92, pos := "landing.go:70", after := #[{ on := 7, ground := Ground.data }], guard := none }) (v := ?v15) rfl (by kernel_rfl) (by kernel_rfl) (by kernel_rfl) (fun _ _ _ h => h) (Or.inl ⟨by rfl, ?hy15⟩) hSw14 ?r15
      case hy15 =>
       intro w' hSw
       have hq := hSw.1
       clear hSw
       go_simp
       with_reducible rfl
      try simp only [putL]
      refine wpAnyH_take (i := 9) (oi := { dst := some 20, op := Op.extract (Operand.tmp 11) 0, type := 86, pos := "landing.go:70", after := #[{ on := 8, ground := Ground.data }], guard := none }) (v := ?v16) rfl (by kernel_rfl) (by kernel_rfl) (by kernel_rfl) (fun _ _ _ h => h) (Or.inl ⟨by rfl, ?hy16⟩) hSw14 ?r16
      case hy16 =>
       intro w' hSw
       have hq := hSw.1
       clear hSw
       go_simp
       with_reducible rfl
      try simp only [putL]
      refine wpAnyH_take (i := 10) (oi := { dst := some 21, op := Op.extract (Operand.tmp 11) 1, type := 41, pos := "landing.go:70", after := #[{ on := 8, ground := Ground.data }, { on := 12, ground := Ground.gcOnly Go.Departure.lateStores }], guard := none }) (v := ?v17) rfl (by kernel_rfl) (by kernel_rfl) (by kernel_rfl) (fun _ _ _ h => h) (Or.inl ⟨by rfl, ?hy17⟩) hSw14 ?r17
      case hy17 =>
       intro w' hSw
       have hq := hSw.1
       clear hSw
       go_simp
       with_reducible rfl
      try simp only [putL]
      refine wpAnyH_ready (rs := [12]) (by kernel_rfl) (by simp) ?_
      refine AllReadyH.cons rfl (fun K hK => ?_) AllReadyH.nil
      rw [if_pos (by rfl)]
      refine wp_store_row 86 _ _ rfl _ L rfl rfl _ _ fAw14 (by rw [hTw14.size]; exact infoLg) (hTw14.size.symm) hTw14.one ?_
      have hSw18 := held_row hSw14 hlAw13 L
      refine hK.out _ _ hSw18 (fun _ => ?_)
      clear hK K
      try simp only [putL]
      have hrw18 := setRow_heap _ _ _ L _ _ fAw14
      refine wpAnyH_take (i := 13) (oi := { dst := some 9, op := Op.assign (Operand.tmp 21), type := 41, pos := "landing.go:70", after := #[{ on := 10, ground := Ground.data }, { on := 12, ground := Ground.chain }, { on := 0, ground := Ground.phase }, { on := 1, ground := Ground.phase }, { on := 2, ground := Ground.phase }, { on := 3, ground := Ground.phase }, { on := 4, ground := Ground.phase }, { on := 5, ground := Ground.phase }, { on := 6, ground := Ground.phase }, { on := 7, ground := Ground.phase }, { on := 8, ground := Ground.phase }, { on := 9, ground := Ground.phase }, { on := 10, ground := Ground.phase }, { on := 11, ground := Ground.phase }, { on := 12, ground := Ground.phase }], guard := none }) (v := ?v19) rfl (by kernel_rfl) (by kernel_rfl) (by kernel_rfl) (fun _ _ _ h => h) (Or.inl ⟨by rfl, ?hy19⟩) hSw18 ?r19
      case hy19 =>
       intro w' hSw
       have hq := hSw.1
       clear hSw
       go_simp
       with_reducible rfl
      try simp only [putL]
      refine wpAnyH_done (by kernel_rfl) ?_ _
      show R _ _
      rw [HR.out]
      simp only [putL]
      exact ⟨w3.heap.size, w13.heap.size, L, ⟨_, _, _, _, _, _, _, _, _, _, _, rfl⟩, hrw18, hTw14.row fAw14 (heap_lt fAw13), hlAw13, hgw14, hSw18⟩
  · go_simp
    refine hK.out _ _ (held_alloc hK0 _) (fun _ => ?_)
    clear hK K
    try simp only [putL]
    refine name_anyH ?_
    intro w20 hWw20
    have hAw20 : Below W.drew.heap.size W.drew w20 := by rw [hWw20]; exact (Below.refl _ _).alloc (Nat.le_refl _) _
    have fAw20 : w20.heap[W.drew.heap.size]? = some (.cells rLg0 86 (0, 0)) := by rw [hWw20]; exact heap_at _ _ rfl
    have hSw20 : Held W w20 := by rw [hWw20]; exact held_alloc hK0 _
    have hlAw20 : W.heap.size ≤ W.drew.heap.size := hK0.2.2.size
    clear hWw20
    refine wpAnyH_ready (rs := [2]) (by kernel_rfl) (by simp) ?_
    refine AllReadyH.cons rfl (fun K hK => ?_) AllReadyH.nil
    go_simp
    refine (HS.out _).mono ?_
    rintro e w21 ⟨rfl, hBw21⟩
    have hSw21 := held_step hBw21 hSw20
    have fAw21 := (hBw21.block _ (heap_lt fAw20)).trans fAw20
    refine hK.out _ _ hSw21 (fun _ => ?_)
    clear hK K
    try simp only [putL]
    refine wpAnyH_take (i := 3) (oi := { dst := some 15, op := Op.move (Operand.tmp 14), type := 4, pos := "landing.go:70", after := #[{ on := 2, ground := Ground.data }, { on := 2, ground := Ground.chain }], guard := none }) (v := ?v22) rfl (by kernel_rfl) (by kernel_rfl) (by kernel_rfl) (fun _ _ _ h => h) (Or.inl ⟨by rfl, ?hy22⟩) hSw21 ?r22
    case hy22 =>
     intro w' hSw
     have hq := hSw.1
     clear hSw
     go_simp
     with_reducible rfl
    try simp only [putL]
    refine wpAnyH_take (i := 4) (oi := { dst := some 16, op := Op.move (Operand.tmp 2), type := 3, pos := "landing.go:70", after := #[{ on := 3, ground := Ground.guard }], guard := some (3, true) }) (v := undef) rfl (by kernel_rfl) (by kernel_rfl) (by kernel_rfl) (fun _ _ _ h => h) (Or.inr ⟨by rfl, rfl⟩) hSw21 ?_
    try simp only [putL]
    refine wpAnyH_take (i := 5) (oi := { dst := some 17, op := Op.call { callee := Callee.value (Operand.func 59), args := #[Operand.tmp 16], argTypes := #[3] }, type := 4, pos := "landing.go:70", after := #[{ on := 4, ground := Ground.data }, { on := 3, ground := Ground.chain }, { on := 3, ground := Ground.guard }], guard := some (3, true) }) (v := undef) rfl (by kernel_rfl) (by kernel_rfl) (by kernel_rfl) (fun _ _ _ h => h) (Or.inr ⟨by rfl, rfl⟩) hSw21 ?_
    try simp only [putL]
    refine wpAnyH_take (i := 6) (oi := { dst := some 18, op := Op.pick (Operand.tmp 15) (Operand.tmp 17) (Operand.const (Value.bool false)), type := 4, pos := "landing.go:70", after := #[{ on := 3, ground := Ground.data }, { on := 5, ground := Ground.data }], guard := none }) (v := ?v23) rfl (by kernel_rfl) (by kernel_rfl) (by kernel_rfl) (fun _ _ _ h => h) (Or.inl ⟨by rfl, ?hy23⟩) hSw21 ?r23
    case hy23 =>
     intro w' hSw
     have hq := hSw.1
     clear hSw
     go_simp
     with_reducible rfl
    try simp only [putL]
    refine wpAnyH_ready (rs := [7]) (by kernel_rfl) (by simp) ?_
    refine AllReadyH.cons rfl (fun K hK => ?_) AllReadyH.nil
    go_simp
    refine (study_told b (.slice A0 b.tides.length c0) (.slice A1 b.sounds.length c1) false _ (HRB.out.up (HB.out.trans (hSw21.2.2.mono HB.out.size)))).mono ?_
    rintro e w24 ⟨⟨L, rfl, hTw24⟩, hBw24⟩
    have hSw24 := held_step hBw24 hSw21
    have hgw24 : W.heap.size ≤ w21.heap.size := hSw21.2.2.size
    have fAw24 := (hBw24.block _ (heap_lt fAw21)).trans fAw21
    refine hK.out _ _ hSw24 (fun _ => ?_)
    clear hK K
    try simp only [putL]
    refine wpAnyH_take (i := 8) (oi := { dst := some 11, op := Op.move (Operand.tmp 19), type := 92, pos := "landing.go:70", after := #[{ on := 7, ground := Ground.data }], guard := none }) (v := ?v25) rfl (by kernel_rfl) (by kernel_rfl) (by kernel_rfl) (fun _ _ _ h => h) (Or.inl ⟨by rfl, ?hy25⟩) hSw24 ?r25
    case hy25 =>
     intro w' hSw
     have hq := hSw.1
     clear hSw
     go_simp
     with_reducible rfl
    try simp only [putL]
    refine wpAnyH_take (i := 9) (oi := { dst := some 20, op := Op.extract (Operand.tmp 11) 0, type := 86, pos := "landing.go:70", after := #[{ on := 8, ground := Ground.data }], guard := none }) (v := ?v26) rfl (by kernel_rfl) (by kernel_rfl) (by kernel_rfl) (fun _ _ _ h => h) (Or.inl ⟨by rfl, ?hy26⟩) hSw24 ?r26
    case hy26 =>
     intro w' hSw
     have hq := hSw.1
     clear hSw
     go_simp
     with_reducible rfl
    try simp only [putL]
    refine wpAnyH_take (i := 10) (oi := { dst := some 21, op := Op.extract (Operand.tmp 11) 1, type := 41, pos := "landing.go:70", after := #[{ on := 8, ground := Ground.data }, { on := 12, ground := Ground.gcOnly Go.Departure.lateStores }], guard := none }) (v := ?v27) rfl (by kernel_rfl) (by kernel_rfl) (by kernel_rfl) (fun _ _ _ h => h) (Or.inl ⟨by rfl, ?hy27⟩) hSw24 ?r27
    case hy27 =>
     intro w' hSw
     have hq := hSw.1
     clear hSw
     go_simp
     with_reducible rfl
    try simp only [putL]
    refine wpAnyH_ready (rs := [12]) (by kernel_rfl) (by simp) ?_
    refine AllReadyH.cons rfl (fun K hK => ?_) AllReadyH.nil
    rw [if_pos (by rfl)]
    refine wp_store_row 86 _ _ rfl _ L rfl rfl _ _ fAw24 (by rw [hTw24.size]; exact infoLg) (hTw24.size.symm) hTw24.one ?_
    have hSw28 := held_row hSw24 hlAw20 L
    refine hK.out _ _ hSw28 (fun _ => ?_)
    clear hK K
    try simp only [putL]
    have hrw28 := setRow_heap _ _ _ L _ _ fAw24
    refine wpAnyH_take (i := 13) (oi := { dst := some 9, op := Op.assign (Operand.tmp 21), type := 41, pos := "landing.go:70", after := #[{ on := 10, ground := Ground.data }, { on := 12, ground := Ground.chain }, { on := 0, ground := Ground.phase }, { on := 1, ground := Ground.phase }, { on := 2, ground := Ground.phase }, { on := 3, ground := Ground.phase }, { on := 4, ground := Ground.phase }, { on := 5, ground := Ground.phase }, { on := 6, ground := Ground.phase }, { on := 7, ground := Ground.phase }, { on := 8, ground := Ground.phase }, { on := 9, ground := Ground.phase }, { on := 10, ground := Ground.phase }, { on := 11, ground := Ground.phase }, { on := 12, ground := Ground.phase }], guard := none }) (v := ?v29) rfl (by kernel_rfl) (by kernel_rfl) (by kernel_rfl) (fun _ _ _ h => h) (Or.inl ⟨by rfl, ?hy29⟩) hSw28 ?r29
    case hy29 =>
     intro w' hSw
     have hq := hSw.1
     clear hSw
     go_simp
     with_reducible rfl
    try simp only [putL]
    refine wpAnyH_done (by kernel_rfl) ?_ _
    show R _ _
    rw [HR.out]
    simp only [putL]
    exact ⟨W.drew.heap.size, w21.heap.size, L, ⟨_, _, _, _, _, _, _, _, _, _, _, rfl⟩, hrw28, hTw24.row fAw24 (heap_lt fAw21), hlAw20, hgw24, hSw28⟩
 case rest =>
  intro a' w' hra
  rw [HR.out] at hra
  clear HR
  obtain ⟨n, B, L, ⟨u12, u13, u14, u15, u16, u17, u18, u19, u11, u20, u21, rfl⟩, hrow, hT, hn, hBn, hH⟩ := hra
  subst hA
  simp only [putL]
  have hbw : Below w.heap.size w w' := HB.out.trans (hH.2.2.mono HB.out.size)
  have HBW := Lib.hid hbw
  have h0 : ¬ Ld.studyE b false = 0 := Ld.studyE_bad
  have hfr : Ld.firstR b sh y = (0, Ld.studyE b false) := by rw [Ld.firstR, HPP.out, if_neg h0]
  have hne : (Ld.studyE b false != 0) = true := by simpa using h0
  have hnd : (Ld.studyE b false == 0) = false := by simpa using h0
  have HF := Lib.hid hfr
  clear hT hrow hbw hH hn hBn h0 hfr
  go_wp2_with fail
  exact bodyPost_ret (v := .tuple #[I 0, I (Ld.studyE b false)]) (by simp [results, Try.results26, go_sem]) rfl ⟨by rw [HF.out], HBW.out⟩
set_option maxRecDepth 100000 in
set_option maxHeartbeats 4000000 in
theorem first_ok (b : Ld.Bk) (T D : Value) (sh y : Int) (hs : Ld.isShore sh = true) (w : World) (hb : RB w w.heap.size b T D) :
 Calls Try.prog 26 #[vBk T D b, I sh, I y] w fun e w' => e = .returned (.tuple #[I (Ld.firstR b sh y).1, I (Ld.firstR b sh y).2]) ∧ Below w.heap.size w w' := by
 have hPP : (Ld.isShore sh && Ld.isLoad y) = (Ld.isLoad y) := by rw [hs]; rfl
 have hS0 : ∀ w' : World, Calls Try.prog 57 #[I sh] w' fun e w'' => e = .returned (.bool true) ∧ Below w'.heap.size w' w'' := fun w' => by rw [← hs]; exact isShore_any sh w'
 have HS := Lib.hid hS0
 have HPP := Lib.hid hPP
 clear hS0 hPP
 obtain ⟨A0, c0, rfl⟩ := hb.tides.form
 obtain ⟨A1, c1, rfl⟩ := hb.sounds.form
 have HRB := Lib.hid hb
 clear hb
 go_enter Try.func26, Try.ntmps26
 go_upto_region 1 with fail
 refine name_world ?_
 intro W hW
 have hB : Below w.heap.size w W := by rw [hW]; exact (Below.refl _ _).alloc (Nat.le_refl _) _
 have rL : W.heap[w.heap.size]? = some (.cells (rBk (.slice A0 b.tides.length c0) (.slice A1 b.sounds.length c1) b) 30 (0, 0)) := by rw [hW]; exact heap_at _ _ rfl
 have hlF := heap_lt rL
 have RL := Lib.hid rL
 have HB := Lib.hid hB
 clear hW rL hB
 refine name_act ?_
 intro A hA
 obtain ⟨R, hR⟩ : ∃ R : Act → World → Prop, R = fun a' w' => ∃ (n B : Nat) (L : Array Value), (∃ u12 u13 u14 u15 u16 u17 u18 u19 u11 u20 u21, a' = (((((((((((((A.put (some 12) u12).put (some 13) u13).put (some 14) u14).put (some 15) u15).put (some 16) u16).put (some 17) u17).put (some 18) u18).put (some 19) u19).put (some 11) u11).put (some 20) u20).put (some 21) u21).put (some 8) (vPtr n)).put (some 9) (I (Ld.studyE b (Ld.isLoad y))))) ∧ w'.heap[n]? = some (.cells L 86 (0, 0)) ∧ Told b (.slice A0 b.tides.length c0) (.slice A1 b.sounds.length c1) (Ld.isLoad y) B w' L ∧ W.heap.size ≤ n ∧ W.heap.size ≤ B ∧ Held W w' := ⟨_, rfl⟩
 have HR := Lib.hid hR
 clear hR
 refine wp_between R ?first ?rest
 case first =>
  subst hA
  have hK0 : Held W W.drew := held_start W
  refine wp_region_held_drew (S := fun w' => Held W w') (by kernel_rfl) hK0 (fun _ => ?_)
  refine wpAnyH_take (i := 0) (oi := { dst := some 12, op := Op.load 30 (Operand.tmp 3), type := 30, pos := "landing.go:70", after := #[], guard := none }) (v := (vBk (.slice A0 b.tides.length c0) (.slice A1 b.sounds.length c1) b)) rfl (by kernel_rfl) (by kernel_rfl) (by kernel_rfl) (fun _ _ _ h => h) (Or.inl ⟨by rfl, ?hy30⟩) hK0 ?r30
  case hy30 =>
   intro w' hSw
   exact exec_load_row (by rfl) (by rfl) ((hSw.2.2.block _ (heap_lt RL.out)).trans RL.out) Try.underlying30 rfl infoBk14
  try simp only [putL]
  refine wpAnyH_take (i := 1) (oi := { dst := some 13, op := Op.move (Operand.tmp 1), type := 3, pos := "landing.go:70", after := #[], guard := none }) (v := ?v31) rfl (by kernel_rfl) (by kernel_rfl) (by kernel_rfl) (fun _ _ _ h => h) (Or.inl ⟨by rfl, ?hy31⟩) hK0 ?r31
  case hy31 =>
   intro w' hSw
   have hq := hSw.1
   clear hSw
   go_simp
   with_reducible rfl
  try simp only [putL]
  refine wpAnyH_ready (rs := [2, 11]) (by kernel_rfl) (by simp) ?_
  refine AllReadyH.cons rfl (fun K hK => ?_) (AllReadyH.cons rfl (fun K hK => ?_) AllReadyH.nil)
  · go_simp
    refine (HS.out _).mono ?_
    rintro e w32 ⟨rfl, hBw32⟩
    have hSw32 := held_step hBw32 hK0
    refine hK.out _ _ hSw32 (fun _ => ?_)
    clear hK K
    try simp only [putL]
    refine wpAnyH_take (i := 3) (oi := { dst := some 15, op := Op.move (Operand.tmp 14), type := 4, pos := "landing.go:70", after := #[{ on := 2, ground := Ground.data }, { on := 2, ground := Ground.chain }], guard := none }) (v := ?v33) rfl (by kernel_rfl) (by kernel_rfl) (by kernel_rfl) (fun _ _ _ h => h) (Or.inl ⟨by rfl, ?hy33⟩) hSw32 ?r33
    case hy33 =>
     intro w' hSw
     have hq := hSw.1
     clear hSw
     go_simp
     with_reducible rfl
    try simp only [putL]
    refine wpAnyH_take (i := 4) (oi := { dst := some 16, op := Op.move (Operand.tmp 2), type := 3, pos := "landing.go:70", after := #[{ on := 3, ground := Ground.guard }], guard := some (3, true) }) (v := ?v34) rfl (by kernel_rfl) (by kernel_rfl) (by kernel_rfl) (fun _ _ _ h => h) (Or.inl ⟨by rfl, ?hy34⟩) hSw32 ?r34
    case hy34 =>
     intro w' hSw
     have hq := hSw.1
     clear hSw
     go_simp
     with_reducible rfl
    try simp only [putL]
    refine wpAnyH_ready (rs := [5, 11]) (by kernel_rfl) (by simp) ?_
    refine AllReadyH.cons rfl (fun K hK => ?_) (AllReadyH.cons rfl (fun K hK => ?_) AllReadyH.nil)
    · go_simp
      refine (isLoad_any y _).mono ?_
      rintro e w35 ⟨rfl, hBw35⟩
      have hSw35 := held_step hBw35 hSw32
      refine hK.out _ _ hSw35 (fun _ => ?_)
      clear hK K
      try simp only [putL]
      refine wpAnyH_take (i := 6) (oi := { dst := some 18, op := Op.pick (Operand.tmp 15) (Operand.tmp 17) (Operand.const (Value.bool false)), type := 4, pos := "landing.go:70", after := #[{ on := 3, ground := Ground.data }, { on := 5, ground := Ground.data }], guard := none }) (v := ?v36) rfl (by kernel_rfl) (by kernel_rfl) (by kernel_rfl) (fun _ _ _ h => h) (Or.inl ⟨by rfl, ?hy36⟩) hSw35 ?r36
      case hy36 =>
       intro w' hSw
       have hq := hSw.1
       clear hSw
       go_simp
       with_reducible rfl
      try simp only [putL]
      refine wpAnyH_ready (rs := [7, 11]) (by kernel_rfl) (by simp) ?_
      refine AllReadyH.cons rfl (fun K hK => ?_) (AllReadyH.cons rfl (fun K hK => ?_) AllReadyH.nil)
      · go_simp
        refine (study_told b (.slice A0 b.tides.length c0) (.slice A1 b.sounds.length c1) (Ld.isLoad y) _ (HRB.out.up (HB.out.trans (hSw35.2.2.mono HB.out.size)))).mono ?_
        rintro e w37 ⟨⟨L, rfl, hTw37⟩, hBw37⟩
        have hSw37 := held_step hBw37 hSw35
        have hgw37 : W.heap.size ≤ w35.heap.size := hSw35.2.2.size
        refine hK.out _ _ hSw37 (fun _ => ?_)
        clear hK K
        try simp only [putL]
        refine wpAnyH_take (i := 8) (oi := { dst := some 11, op := Op.move (Operand.tmp 19), type := 92, pos := "landing.go:70", after := #[{ on := 7, ground := Ground.data }], guard := none }) (v := ?v38) rfl (by kernel_rfl) (by kernel_rfl) (by kernel_rfl) (fun _ _ _ h => h) (Or.inl ⟨by rfl, ?hy38⟩) hSw37 ?r38
        case hy38 =>
         intro w' hSw
         have hq := hSw.1
         clear hSw
         go_simp
         with_reducible rfl
        try simp only [putL]
        refine wpAnyH_take (i := 9) (oi := { dst := some 20, op := Op.extract (Operand.tmp 11) 0, type := 86, pos := "landing.go:70", after := #[{ on := 8, ground := Ground.data }], guard := none }) (v := ?v39) rfl (by kernel_rfl) (by kernel_rfl) (by kernel_rfl) (fun _ _ _ h => h) (Or.inl ⟨by rfl, ?hy39⟩) hSw37 ?r39
        case hy39 =>
         intro w' hSw
         have hq := hSw.1
         clear hSw
         go_simp
         with_reducible rfl
        try simp only [putL]
        refine wpAnyH_take (i := 10) (oi := { dst := some 21, op := Op.extract (Operand.tmp 11) 1, type := 41, pos := "landing.go:70", after := #[{ on := 8, ground := Ground.data }, { on := 12, ground := Ground.gcOnly Go.Departure.lateStores }], guard := none }) (v := ?v40) rfl (by kernel_rfl) (by kernel_rfl) (by kernel_rfl) (fun _ _ _ h => h) (Or.inl ⟨by rfl, ?hy40⟩) hSw37 ?r40
        case hy40 =>
         intro w' hSw
         have hq := hSw.1
         clear hSw
         go_simp
         with_reducible rfl
        try simp only [putL]
        refine wpAnyH_ready (rs := [11]) (by kernel_rfl) (by simp) ?_
        refine AllReadyH.cons rfl (fun K hK => ?_) AllReadyH.nil
        go_simp
        refine hK.out _ _ (held_alloc hSw37 _) (fun _ => ?_)
        clear hK K
        try simp only [putL]
        refine name_anyH ?_
        intro w41 hWw41
        have hAw41 : Below w37.heap.size w37 w41 := by rw [hWw41]; exact (Below.refl _ _).alloc (Nat.le_refl _) _
        have fAw41 : w41.heap[w37.heap.size]? = some (.cells rLg0 86 (0, 0)) := by rw [hWw41]; exact heap_at _ _ rfl
        have hSw41 : Held W w41 := by rw [hWw41]; exact held_alloc hSw37 _
        have mTw41 := hTw37.up hAw41
        have hlAw41 : W.heap.size ≤ w37.heap.size := hSw37.2.2.size
        clear hWw41
        refine wpAnyH_ready (rs := [12]) (by kernel_rfl) (by simp) ?_
        refine AllReadyH.cons rfl (fun K hK => ?_) AllReadyH.nil
        rw [if_pos (by rfl)]
        refine wp_store_row 86 _ _ rfl _ L rfl rfl _ _ fAw41 (by rw [mTw41.size]; exact infoLg) (mTw41.size.symm) mTw41.one ?_
        have hSw42 := held_row hSw41 hlAw41 L
        refine hK.out _ _ hSw42 (fun _ => ?_)
        clear hK K
        try simp only [putL]
        have hrw42 := setRow_heap _ _ _ L _ _ fAw41
        refine wpAnyH_take (i := 13) (oi := { dst := some 9, op := Op.assign (Operand.tmp 21), type := 41, pos := "landing.go:70", after := #[{ on := 10, ground := Ground.data }, { on := 12, ground := Ground.chain }, { on := 0, ground := Ground.phase }, { on := 1, ground := Ground.phase }, { on := 2, ground := Ground.phase }, { on := 3, ground := Ground.phase }, { on := 4, ground := Ground.phase }, { on := 5, ground := Ground.phase }, { on := 6, ground := Ground.phase }, { on := 7, ground := Ground.phase }, { on := 8, ground := Ground.phase }, { on := 9, ground := Ground.phase }, { on := 10, ground := Ground.phase }, { on := 11, ground := Ground.phase }, { on := 12, ground := Ground.phase }], guard := none }) (v := ?v43) rfl (by kernel_rfl) (by kernel_rfl) (by kernel_rfl) (fun _ _ _ h => h) (Or.inl ⟨by rfl, ?hy43⟩) hSw42 ?r43
        case hy43 =>
         intro w' hSw
         have hq := hSw.1
         clear hSw
         go_simp
         with_reducible rfl
        try simp only [putL]
        refine wpAnyH_done (by kernel_rfl) ?_ _
        show R _ _
        rw [HR.out]
        simp only [putL]
        exact ⟨w37.heap.size, w35.heap.size, L, ⟨_, _, _, _, _, _, _, _, _, _, _, rfl⟩, hrw42, hTw37.up (below_setRow hAw41 (Nat.le_refl _) L), hlAw41, hgw37, hSw42⟩
      · go_simp
        refine hK.out _ _ (held_alloc hSw35 _) (fun _ => ?_)
        clear hK K
        try simp only [putL]
        refine name_anyH ?_
        intro w44 hWw44
        have hAw44 : Below w35.heap.size w35 w44 := by rw [hWw44]; exact (Below.refl _ _).alloc (Nat.le_refl _) _
        have fAw44 : w44.heap[w35.heap.size]? = some (.cells rLg0 86 (0, 0)) := by rw [hWw44]; exact heap_at _ _ rfl
        have hSw44 : Held W w44 := by rw [hWw44]; exact held_alloc hSw35 _
        have hlAw44 : W.heap.size ≤ w35.heap.size := hSw35.2.2.size
        clear hWw44
        refine wpAnyH_ready (rs := [7]) (by kernel_rfl) (by simp) ?_
        refine AllReadyH.cons rfl (fun K hK => ?_) AllReadyH.nil
        go_simp
        refine (study_told b (.slice A0 b.tides.length c0) (.slice A1 b.sounds.length c1) (Ld.isLoad y) _ (HRB.out.up (HB.out.trans (hSw44.2.2.mono HB.out.size)))).mono ?_
        rintro e w45 ⟨⟨L, rfl, hTw45⟩, hBw45⟩
        have hSw45 := held_step hBw45 hSw44
        have hgw45 : W.heap.size ≤ w44.heap.size := hSw44.2.2.size
        have fAw45 := (hBw45.block _ (heap_lt fAw44)).trans fAw44
        refine hK.out _ _ hSw45 (fun _ => ?_)
        clear hK K
        try simp only [putL]
        refine wpAnyH_take (i := 8) (oi := { dst := some 11, op := Op.move (Operand.tmp 19), type := 92, pos := "landing.go:70", after := #[{ on := 7, ground := Ground.data }], guard := none }) (v := ?v46) rfl (by kernel_rfl) (by kernel_rfl) (by kernel_rfl) (fun _ _ _ h => h) (Or.inl ⟨by rfl, ?hy46⟩) hSw45 ?r46
        case hy46 =>
         intro w' hSw
         have hq := hSw.1
         clear hSw
         go_simp
         with_reducible rfl
        try simp only [putL]
        refine wpAnyH_take (i := 9) (oi := { dst := some 20, op := Op.extract (Operand.tmp 11) 0, type := 86, pos := "landing.go:70", after := #[{ on := 8, ground := Ground.data }], guard := none }) (v := ?v47) rfl (by kernel_rfl) (by kernel_rfl) (by kernel_rfl) (fun _ _ _ h => h) (Or.inl ⟨by rfl, ?hy47⟩) hSw45 ?r47
        case hy47 =>
         intro w' hSw
         have hq := hSw.1
         clear hSw
         go_simp
         with_reducible rfl
        try simp only [putL]
        refine wpAnyH_take (i := 10) (oi := { dst := some 21, op := Op.extract (Operand.tmp 11) 1, type := 41, pos := "landing.go:70", after := #[{ on := 8, ground := Ground.data }, { on := 12, ground := Ground.gcOnly Go.Departure.lateStores }], guard := none }) (v := ?v48) rfl (by kernel_rfl) (by kernel_rfl) (by kernel_rfl) (fun _ _ _ h => h) (Or.inl ⟨by rfl, ?hy48⟩) hSw45 ?r48
        case hy48 =>
         intro w' hSw
         have hq := hSw.1
         clear hSw
         go_simp
         with_reducible rfl
        try simp only [putL]
        refine wpAnyH_ready (rs := [12]) (by kernel_rfl) (by simp) ?_
        refine AllReadyH.cons rfl (fun K hK => ?_) AllReadyH.nil
        rw [if_pos (by rfl)]
        refine wp_store_row 86 _ _ rfl _ L rfl rfl _ _ fAw45 (by rw [hTw45.size]; exact infoLg) (hTw45.size.symm) hTw45.one ?_
        have hSw49 := held_row hSw45 hlAw44 L
        refine hK.out _ _ hSw49 (fun _ => ?_)
        clear hK K
        try simp only [putL]
        have hrw49 := setRow_heap _ _ _ L _ _ fAw45
        refine wpAnyH_take (i := 13) (oi := { dst := some 9, op := Op.assign (Operand.tmp 21), type := 41, pos := "landing.go:70", after := #[{ on := 10, ground := Ground.data }, { on := 12, ground := Ground.chain }, { on := 0, ground := Ground.phase }, { on := 1, ground := Ground.phase }, { on := 2, ground := Ground.phase }, { on := 3, ground := Ground.phase }, { on := 4, ground := Ground.phase }, { on := 5, ground := Ground.phase }, { on := 6, ground := Ground.phase }, { on := 7, ground := Ground.phase }, { on := 8, ground := Ground.phase }, { on := 9, ground := Ground.phase }, { on := 10, ground := Ground.phase }, { on := 11, ground := Ground.phase }, { on := 12, ground := Ground.phase }], guard := none }) (v := ?v50) rfl (by kernel_rfl) (by kernel_rfl) (by kernel_rfl) (fun _ _ _ h => h) (Or.inl ⟨by rfl, ?hy50⟩) hSw49 ?r50
        case hy50 =>
         intro w' hSw
         have hq := hSw.1
         clear hSw
         go_simp
         with_reducible rfl
        try simp only [putL]
        refine wpAnyH_done (by kernel_rfl) ?_ _
        show R _ _
        rw [HR.out]
        simp only [putL]
        exact ⟨w35.heap.size, w44.heap.size, L, ⟨_, _, _, _, _, _, _, _, _, _, _, rfl⟩, hrw49, hTw45.row fAw45 (heap_lt fAw44), hlAw44, hgw45, hSw49⟩
    · go_simp
      refine hK.out _ _ (held_alloc hSw32 _) (fun _ => ?_)
      clear hK K
      try simp only [putL]
      refine name_anyH ?_
      intro w51 hWw51
      have hAw51 : Below w32.heap.size w32 w51 := by rw [hWw51]; exact (Below.refl _ _).alloc (Nat.le_refl _) _
      have fAw51 : w51.heap[w32.heap.size]? = some (.cells rLg0 86 (0, 0)) := by rw [hWw51]; exact heap_at _ _ rfl
      have hSw51 : Held W w51 := by rw [hWw51]; exact held_alloc hSw32 _
      have hlAw51 : W.heap.size ≤ w32.heap.size := hSw32.2.2.size
      clear hWw51
      refine wpAnyH_ready (rs := [5]) (by kernel_rfl) (by simp) ?_
      refine AllReadyH.cons rfl (fun K hK => ?_) AllReadyH.nil
      go_simp
      refine (isLoad_any y _).mono ?_
      rintro e w52 ⟨rfl, hBw52⟩
      have hSw52 := held_step hBw52 hSw51
      have fAw52 := (hBw52.block _ (heap_lt fAw51)).trans fAw51
      refine hK.out _ _ hSw52 (fun _ => ?_)
      clear hK K
      try simp only [putL]
      refine wpAnyH_take (i := 6) (oi := { dst := some 18, op := Op.pick (Operand.tmp 15) (Operand.tmp 17) (Operand.const (Value.bool false)), type := 4, pos := "landing.go:70", after := #[{ on := 3, ground := Ground.data }, { on := 5, ground := Ground.data }], guard := none }) (v := ?v53) rfl (by kernel_rfl) (by kernel_rfl) (by kernel_rfl) (fun _ _ _ h => h) (Or.inl ⟨by rfl, ?hy53⟩) hSw52 ?r53
      case hy53 =>
       intro w' hSw
       have hq := hSw.1
       clear hSw
       go_simp
       with_reducible rfl
      try simp only [putL]
      refine wpAnyH_ready (rs := [7]) (by kernel_rfl) (by simp) ?_
      refine AllReadyH.cons rfl (fun K hK => ?_) AllReadyH.nil
      go_simp
      refine (study_told b (.slice A0 b.tides.length c0) (.slice A1 b.sounds.length c1) (Ld.isLoad y) _ (HRB.out.up (HB.out.trans (hSw52.2.2.mono HB.out.size)))).mono ?_
      rintro e w54 ⟨⟨L, rfl, hTw54⟩, hBw54⟩
      have hSw54 := held_step hBw54 hSw52
      have hgw54 : W.heap.size ≤ w52.heap.size := hSw52.2.2.size
      have fAw54 := (hBw54.block _ (heap_lt fAw52)).trans fAw52
      refine hK.out _ _ hSw54 (fun _ => ?_)
      clear hK K
      try simp only [putL]
      refine wpAnyH_take (i := 8) (oi := { dst := some 11, op := Op.move (Operand.tmp 19), type := 92, pos := "landing.go:70", after := #[{ on := 7, ground := Ground.data }], guard := none }) (v := ?v55) rfl (by kernel_rfl) (by kernel_rfl) (by kernel_rfl) (fun _ _ _ h => h) (Or.inl ⟨by rfl, ?hy55⟩) hSw54 ?r55
      case hy55 =>
       intro w' hSw
       have hq := hSw.1
       clear hSw
       go_simp
       with_reducible rfl
      try simp only [putL]
      refine wpAnyH_take (i := 9) (oi := { dst := some 20, op := Op.extract (Operand.tmp 11) 0, type := 86, pos := "landing.go:70", after := #[{ on := 8, ground := Ground.data }], guard := none }) (v := ?v56) rfl (by kernel_rfl) (by kernel_rfl) (by kernel_rfl) (fun _ _ _ h => h) (Or.inl ⟨by rfl, ?hy56⟩) hSw54 ?r56
      case hy56 =>
       intro w' hSw
       have hq := hSw.1
       clear hSw
       go_simp
       with_reducible rfl
      try simp only [putL]
      refine wpAnyH_take (i := 10) (oi := { dst := some 21, op := Op.extract (Operand.tmp 11) 1, type := 41, pos := "landing.go:70", after := #[{ on := 8, ground := Ground.data }, { on := 12, ground := Ground.gcOnly Go.Departure.lateStores }], guard := none }) (v := ?v57) rfl (by kernel_rfl) (by kernel_rfl) (by kernel_rfl) (fun _ _ _ h => h) (Or.inl ⟨by rfl, ?hy57⟩) hSw54 ?r57
      case hy57 =>
       intro w' hSw
       have hq := hSw.1
       clear hSw
       go_simp
       with_reducible rfl
      try simp only [putL]
      refine wpAnyH_ready (rs := [12]) (by kernel_rfl) (by simp) ?_
      refine AllReadyH.cons rfl (fun K hK => ?_) AllReadyH.nil
      rw [if_pos (by rfl)]
      refine wp_store_row 86 _ _ rfl _ L rfl rfl _ _ fAw54 (by rw [hTw54.size]; exact infoLg) (hTw54.size.symm) hTw54.one ?_
      have hSw58 := held_row hSw54 hlAw51 L
      refine hK.out _ _ hSw58 (fun _ => ?_)
      clear hK K
      try simp only [putL]
      have hrw58 := setRow_heap _ _ _ L _ _ fAw54
      refine wpAnyH_take (i := 13) (oi := { dst := some 9, op := Op.assign (Operand.tmp 21), type := 41, pos := "landing.go:70", after := #[{ on := 10, ground := Ground.data }, { on := 12, ground := Ground.chain }, { on := 0, ground := Ground.phase }, { on := 1, ground := Ground.phase }, { on := 2, ground := Ground.phase }, { on := 3, ground := Ground.phase }, { on := 4, ground := Ground.phase }, { on := 5, ground := Ground.phase }, { on := 6, ground := Ground.phase }, { on := 7, ground := Ground.phase }, { on := 8, ground := Ground.phase }, { on := 9, ground := Ground.phase }, { on := 10, ground := Ground.phase }, { on := 11, ground := Ground.phase }, { on := 12, ground := Ground.phase }], guard := none }) (v := ?v59) rfl (by kernel_rfl) (by kernel_rfl) (by kernel_rfl) (fun _ _ _ h => h) (Or.inl ⟨by rfl, ?hy59⟩) hSw58 ?r59
      case hy59 =>
       intro w' hSw
       have hq := hSw.1
       clear hSw
       go_simp
       with_reducible rfl
      try simp only [putL]
      refine wpAnyH_done (by kernel_rfl) ?_ _
      show R _ _
      rw [HR.out]
      simp only [putL]
      exact ⟨w32.heap.size, w52.heap.size, L, ⟨_, _, _, _, _, _, _, _, _, _, _, rfl⟩, hrw58, hTw54.row fAw54 (heap_lt fAw52), hlAw51, hgw54, hSw58⟩
  · go_simp
    refine hK.out _ _ (held_alloc hK0 _) (fun _ => ?_)
    clear hK K
    try simp only [putL]
    refine name_anyH ?_
    intro w60 hWw60
    have hAw60 : Below W.drew.heap.size W.drew w60 := by rw [hWw60]; exact (Below.refl _ _).alloc (Nat.le_refl _) _
    have fAw60 : w60.heap[W.drew.heap.size]? = some (.cells rLg0 86 (0, 0)) := by rw [hWw60]; exact heap_at _ _ rfl
    have hSw60 : Held W w60 := by rw [hWw60]; exact held_alloc hK0 _
    have hlAw60 : W.heap.size ≤ W.drew.heap.size := hK0.2.2.size
    clear hWw60
    refine wpAnyH_ready (rs := [2]) (by kernel_rfl) (by simp) ?_
    refine AllReadyH.cons rfl (fun K hK => ?_) AllReadyH.nil
    go_simp
    refine (HS.out _).mono ?_
    rintro e w61 ⟨rfl, hBw61⟩
    have hSw61 := held_step hBw61 hSw60
    have fAw61 := (hBw61.block _ (heap_lt fAw60)).trans fAw60
    refine hK.out _ _ hSw61 (fun _ => ?_)
    clear hK K
    try simp only [putL]
    refine wpAnyH_take (i := 3) (oi := { dst := some 15, op := Op.move (Operand.tmp 14), type := 4, pos := "landing.go:70", after := #[{ on := 2, ground := Ground.data }, { on := 2, ground := Ground.chain }], guard := none }) (v := ?v62) rfl (by kernel_rfl) (by kernel_rfl) (by kernel_rfl) (fun _ _ _ h => h) (Or.inl ⟨by rfl, ?hy62⟩) hSw61 ?r62
    case hy62 =>
     intro w' hSw
     have hq := hSw.1
     clear hSw
     go_simp
     with_reducible rfl
    try simp only [putL]
    refine wpAnyH_take (i := 4) (oi := { dst := some 16, op := Op.move (Operand.tmp 2), type := 3, pos := "landing.go:70", after := #[{ on := 3, ground := Ground.guard }], guard := some (3, true) }) (v := ?v63) rfl (by kernel_rfl) (by kernel_rfl) (by kernel_rfl) (fun _ _ _ h => h) (Or.inl ⟨by rfl, ?hy63⟩) hSw61 ?r63
    case hy63 =>
     intro w' hSw
     have hq := hSw.1
     clear hSw
     go_simp
     with_reducible rfl
    try simp only [putL]
    refine wpAnyH_ready (rs := [5]) (by kernel_rfl) (by simp) ?_
    refine AllReadyH.cons rfl (fun K hK => ?_) AllReadyH.nil
    go_simp
    refine (isLoad_any y _).mono ?_
    rintro e w64 ⟨rfl, hBw64⟩
    have hSw64 := held_step hBw64 hSw61
    have fAw64 := (hBw64.block _ (heap_lt fAw61)).trans fAw61
    refine hK.out _ _ hSw64 (fun _ => ?_)
    clear hK K
    try simp only [putL]
    refine wpAnyH_take (i := 6) (oi := { dst := some 18, op := Op.pick (Operand.tmp 15) (Operand.tmp 17) (Operand.const (Value.bool false)), type := 4, pos := "landing.go:70", after := #[{ on := 3, ground := Ground.data }, { on := 5, ground := Ground.data }], guard := none }) (v := ?v65) rfl (by kernel_rfl) (by kernel_rfl) (by kernel_rfl) (fun _ _ _ h => h) (Or.inl ⟨by rfl, ?hy65⟩) hSw64 ?r65
    case hy65 =>
     intro w' hSw
     have hq := hSw.1
     clear hSw
     go_simp
     with_reducible rfl
    try simp only [putL]
    refine wpAnyH_ready (rs := [7]) (by kernel_rfl) (by simp) ?_
    refine AllReadyH.cons rfl (fun K hK => ?_) AllReadyH.nil
    go_simp
    refine (study_told b (.slice A0 b.tides.length c0) (.slice A1 b.sounds.length c1) (Ld.isLoad y) _ (HRB.out.up (HB.out.trans (hSw64.2.2.mono HB.out.size)))).mono ?_
    rintro e w66 ⟨⟨L, rfl, hTw66⟩, hBw66⟩
    have hSw66 := held_step hBw66 hSw64
    have hgw66 : W.heap.size ≤ w64.heap.size := hSw64.2.2.size
    have fAw66 := (hBw66.block _ (heap_lt fAw64)).trans fAw64
    refine hK.out _ _ hSw66 (fun _ => ?_)
    clear hK K
    try simp only [putL]
    refine wpAnyH_take (i := 8) (oi := { dst := some 11, op := Op.move (Operand.tmp 19), type := 92, pos := "landing.go:70", after := #[{ on := 7, ground := Ground.data }], guard := none }) (v := ?v67) rfl (by kernel_rfl) (by kernel_rfl) (by kernel_rfl) (fun _ _ _ h => h) (Or.inl ⟨by rfl, ?hy67⟩) hSw66 ?r67
    case hy67 =>
     intro w' hSw
     have hq := hSw.1
     clear hSw
     go_simp
     with_reducible rfl
    try simp only [putL]
    refine wpAnyH_take (i := 9) (oi := { dst := some 20, op := Op.extract (Operand.tmp 11) 0, type := 86, pos := "landing.go:70", after := #[{ on := 8, ground := Ground.data }], guard := none }) (v := ?v68) rfl (by kernel_rfl) (by kernel_rfl) (by kernel_rfl) (fun _ _ _ h => h) (Or.inl ⟨by rfl, ?hy68⟩) hSw66 ?r68
    case hy68 =>
     intro w' hSw
     have hq := hSw.1
     clear hSw
     go_simp
     with_reducible rfl
    try simp only [putL]
    refine wpAnyH_take (i := 10) (oi := { dst := some 21, op := Op.extract (Operand.tmp 11) 1, type := 41, pos := "landing.go:70", after := #[{ on := 8, ground := Ground.data }, { on := 12, ground := Ground.gcOnly Go.Departure.lateStores }], guard := none }) (v := ?v69) rfl (by kernel_rfl) (by kernel_rfl) (by kernel_rfl) (fun _ _ _ h => h) (Or.inl ⟨by rfl, ?hy69⟩) hSw66 ?r69
    case hy69 =>
     intro w' hSw
     have hq := hSw.1
     clear hSw
     go_simp
     with_reducible rfl
    try simp only [putL]
    refine wpAnyH_ready (rs := [12]) (by kernel_rfl) (by simp) ?_
    refine AllReadyH.cons rfl (fun K hK => ?_) AllReadyH.nil
    rw [if_pos (by rfl)]
    refine wp_store_row 86 _ _ rfl _ L rfl rfl _ _ fAw66 (by rw [hTw66.size]; exact infoLg) (hTw66.size.symm) hTw66.one ?_
    have hSw70 := held_row hSw66 hlAw60 L
    refine hK.out _ _ hSw70 (fun _ => ?_)
    clear hK K
    try simp only [putL]
    have hrw70 := setRow_heap _ _ _ L _ _ fAw66
    refine wpAnyH_take (i := 13) (oi := { dst := some 9, op := Op.assign (Operand.tmp 21), type := 41, pos := "landing.go:70", after := #[{ on := 10, ground := Ground.data }, { on := 12, ground := Ground.chain }, { on := 0, ground := Ground.phase }, { on := 1, ground := Ground.phase }, { on := 2, ground := Ground.phase }, { on := 3, ground := Ground.phase }, { on := 4, ground := Ground.phase }, { on := 5, ground := Ground.phase }, { on := 6, ground := Ground.phase }, { on := 7, ground := Ground.phase }, { on := 8, ground := Ground.phase }, { on := 9, ground := Ground.phase }, { on := 10, ground := Ground.phase }, { on := 11, ground := Ground.phase }, { on := 12, ground := Ground.phase }], guard := none }) (v := ?v71) rfl (by kernel_rfl) (by kernel_rfl) (by kernel_rfl) (fun _ _ _ h => h) (Or.inl ⟨by rfl, ?hy71⟩) hSw70 ?r71
    case hy71 =>
     intro w' hSw
     have hq := hSw.1
     clear hSw
     go_simp
     with_reducible rfl
    try simp only [putL]
    refine wpAnyH_done (by kernel_rfl) ?_ _
    show R _ _
    rw [HR.out]
    simp only [putL]
    exact ⟨W.drew.heap.size, w64.heap.size, L, ⟨_, _, _, _, _, _, _, _, _, _, _, rfl⟩, hrw70, hTw66.row fAw66 (heap_lt fAw64), hlAw60, hgw66, hSw70⟩
 case rest =>
  intro a' w' hra
  rw [HR.out] at hra
  clear HR
  obtain ⟨n, B, L, ⟨u12, u13, u14, u15, u16, u17, u18, u19, u11, u20, u21, rfl⟩, hrow, hT, hn, hBn, hH⟩ := hra
  subst hA
  simp only [putL]
  have hbw : Below w.heap.size w w' := HB.out.trans (hH.2.2.mono HB.out.size)
  have HBW := Lib.hid hbw
  by_cases h0 : Ld.studyE b (Ld.isLoad y) = 0
  · obtain ⟨hv, hp, hne⟩ := Ld.studyE_parts h0
    obtain ⟨R2, r, rfl, hg⟩ := hT.yes h0
    obtain ⟨A2, c2, rfl⟩ := hg.tr.form
    have hlt := hg.lt (HRB.out.up hbw)
    obtain ⟨m, rfl, hm⟩ : ∃ m : Nat, sh = m ∧ (m = 0 ∨ m = 1) := by
     simp [Ld.isShore] at hs
     rcases hs with h | h
     · exact ⟨0, h, .inl rfl⟩
     · exact ⟨1, h, .inr rfl⟩
    have hy : 0 ≤ y ∧ y ≤ 200 := by simpa [Ld.isLoad] using hp
    obtain ⟨hp1, -⟩ := Ld.valid_parts hv
    have h24 := (Ld.sized_bd hp1).2.1
    have hfr : Ld.firstR b m y = Ld.findR (fun k => Ld.atWorst b m k y) (fun k => (k : Int)) b.tides.length := by rw [Ld.firstR, HPP.out, if_pos h0]; rfl
    obtain ⟨K, hK⟩ : ∃ K, Ld.known (Ld.truths b) = K := ⟨_, rfl⟩
    rw [hK] at hrow
    have HF := Lib.hid hfr
    have HROW := Lib.hid hrow
    have HLT := Lib.hid hlt
    have HV := Lib.hid hv
    have c0' := cell_of_row w' _ 0 _ _ _ hrow
    simp only [List.getElem?_toArray, List.getElem?_cons_zero, List.getElem?_cons_succ] at c0'
    rw [h0]
    clear hT hrow hlt hbw hH hg hn hBn h0 hfr hK hne hv hp hp1 hs
    go_wp2_with fail
    clear c0'
    go_loopw [29] (fun i wr => ∃ j : Nat, j ≤ b.tides.length ∧ i = I j ∧ Below w'.heap.size w' wr ∧ ∀ i, i < j → Ld.atWorst b m i y = false) (fun i _ => b.tides.length - (intOf i).toNat)
    case atStart => exact ⟨0, by omega, rfl, Below.refl _ _, fun i hi => by omega⟩
    case round =>
     obtain ⟨j, hj, rfl, hBr, hall⟩ := hrel
     have hRr := (hBr.block _ (heap_lt HROW.out)).trans HROW.out
     have HRR := Lib.hid hRr
     have HLW := Lib.hid (HLT.out.up hBr)
     have HBR := Lib.hid hBr
     have HALL := Lib.hid hall
     clear hRr hBr hall
     by_cases hlt : j < b.tides.length
     · have hji : (j : Int) < b.tides.length := by omega
       go_wp2_with (refine wpList_load_row rfl 86 (Operand.tmp 8) rfl n rfl 86 (rLg (.slice A0 b.tides.length c0) (.slice A1 b.sounds.length c1) (.map (some r)) (.slice A2 (Ld.truths b).length c2) b K) (0, 0) _ HRR.out Try.underlying86 rfl infoLg ?_)
       refine (surely_any b _ _ _ r K j m y wr HLW.out HV.out hlt hm hy.1 hy.2 (truths_len HV.out)).mono ?_
       rintro e w1 ⟨rfl, hB1⟩
       have hb1 := HBR.out.trans (hB1.mono HBR.out.size)
       have HB1 := Lib.hid hb1
       clear hB1 hb1
       cases hF : Ld.atWorst b m j y
       · have HFF := Lib.hid hF
         clear hF
         go_wp2_with fail
         go_roundw
         case rel =>
          refine ⟨j + 1, hlt, by go_num, HB1.out, fun i hi => ?_⟩
          rcases Nat.lt_succ_iff_lt_or_eq.1 hi with h | rfl
          · exact HALL.out i h
          · exact HFF.out
         case measure => simp [intOf]; omega
       · have HFF := Lib.hid hF
         clear hF
         go_wp2_with fail
         exact bodyPost_ret (v := .tuple #[I j, I 0]) (by simp [results, Try.results26, go_sem]) rfl ⟨by rw [HF.out, Ld.findR_some hlt HFF.out HALL.out], HBW.out.trans (HB1.out.mono HBW.out.size)⟩
     · obtain rfl : j = b.tides.length := by omega
       go_wp2_with fail
       exact bodyPost_ret (v := .tuple #[I 0, I 4]) (by simp [results, Try.results26, go_sem]) rfl ⟨by rw [HF.out, Ld.findR_none HALL.out], HBW.out.trans (HBR.out.mono HBW.out.size)⟩
  · have hfr : Ld.firstR b sh y = (0, Ld.studyE b (Ld.isLoad y)) := by rw [Ld.firstR, HPP.out, if_neg h0]
    have hne : (Ld.studyE b (Ld.isLoad y) != 0) = true := by simpa using h0
    have hnd : (Ld.studyE b (Ld.isLoad y) == 0) = false := by simpa using h0
    have HF := Lib.hid hfr
    clear hT hrow hbw hH hn hBn h0 hfr
    go_wp2_with fail
    exact bodyPost_ret (v := .tuple #[I 0, I (Ld.studyE b (Ld.isLoad y))]) (by simp [results, Try.results26, go_sem]) rfl ⟨by rw [HF.out], HBW.out⟩
theorem first_any (b : Ld.Bk) (T D : Value) (sh y : Int) (w : World) (hb : RB w w.heap.size b T D) :
 Calls Try.prog 26 #[vBk T D b, I sh, I y] w fun e w' => e = .returned (.tuple #[I (Ld.firstR b sh y).1, I (Ld.firstR b sh y).2]) ∧ Below w.heap.size w w' := by
 cases h : Ld.isShore sh
 · exact first_bad b T D sh y h w hb
 · exact first_ok b T D sh y h w hb
end Go.Proofs.Ytjgpghaofhcfnaa
