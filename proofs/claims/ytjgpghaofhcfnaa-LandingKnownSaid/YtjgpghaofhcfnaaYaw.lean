/- Texts on the program that the proof leans on, part 23. -/
import Derived.Test.YtjgpghaofhcfnaaYau
set_option linter.unusedVariables false
set_option linter.unusedSimpArgs false

namespace Go.Proofs.Ytjgpghaofhcfnaa
open Go.RowKit
def Ld.landsR (b : Ld.Bk) (sh hr y : Int) : Int × Int := if Ld.studyE b (Ld.isSlip b hr sh && Ld.isLoad y) = 0 then (Ld.lands b sh.toNat hr.toNat y, 0) else (0, Ld.studyE b (Ld.isSlip b hr sh && Ld.isLoad y))
theorem infoSlip2 : (Try.prog.info? 96).map (·.size) = some 2 := by kernel_rfl
set_option maxRecDepth 100000 in
set_option maxHeartbeats 4000000 in
theorem lands_bad (b : Ld.Bk) (T D : Value) (sh hr y : Int) (hs : Ld.isSlip b hr sh = false) (w : World) (hb : RB w w.heap.size b T D) :
 Calls Try.prog 21 #[vBk T D b, I sh, I hr, I y] w fun e w' => e = .returned (.tuple #[I (Ld.landsR b sh hr y).1, I (Ld.landsR b sh hr y).2]) ∧ Below w.heap.size w w' := by
 have hPP : (Ld.isSlip b hr sh && Ld.isLoad y) = false := by rw [hs]; rfl
 have hS0 : ∀ w' : World, RB w' w'.heap.size b T D → Calls Try.prog 58 #[vBk T D b, vSlip hr sh] w' fun e w'' => e = .returned (.bool false) ∧ Below w'.heap.size w' w'' := fun w' h => by rw [← hs]; exact isSlip_any b T D hr sh w' h
 have HPP := Lib.hid hPP
 clear hPP
 obtain ⟨A0, c0, rfl⟩ := hb.tides.form
 obtain ⟨A1, c1, rfl⟩ := hb.sounds.form
 have HRB := Lib.hid hb
 have HS := Lib.hid hS0
 clear hS0
 clear hb
 go_enter Try.func21, Try.ntmps21
 go_upto_region 2 with fail
 refine name_world ?_
 intro W hW
 have hB : Below w.heap.size w W := by rw [hW]; exact ((Below.refl _ _).alloc (Nat.le_refl _) _).alloc (by simp) _
 have rL : W.heap[w.heap.size]? = some (.cells (rBk (.slice A0 b.tides.length c0) (.slice A1 b.sounds.length c1) b) 30 (0, 0)) := by rw [hW]; exact (Below.heap_alloc _ _ _ (by simp)).trans (heap_at _ _ rfl)
 have rA : W.heap[w.heap.size + 1]? = some (.cells #[I hr, I sh] 96 (0, 0)) := by rw [hW]; first | exact heap_at _ _ (by simp) | exact setRow_heap _ _ _ _ _ _ (heap_at _ _ (by simp)) | simp [World.setRow]
 have RA := Lib.hid rA
 clear rA
 have hlF := heap_lt rL
 have RL := Lib.hid rL
 have HB := Lib.hid hB
 clear hW rL hB
 refine name_act ?_
 intro A hA
 obtain ⟨R, hR⟩ : ∃ R : Act → World → Prop, R = fun a' w' => ∃ (n B : Nat) (L : Array Value), (∃ u17 u18 u19 u20 u21 u22 u23 u24 u25 u16 u26 u27, a' = ((((((((((((((A.put (some 17) u17).put (some 18) u18).put (some 19) u19).put (some 20) u20).put (some 21) u21).put (some 22) u22).put (some 23) u23).put (some 24) u24).put (some 25) u25).put (some 16) u16).put (some 26) u26).put (some 27) u27).put (some 11) (vPtr n)).put (some 12) (I (Ld.studyE b false)))) ∧ w'.heap[n]? = some (.cells L 86 (0, 0)) ∧ Told b (.slice A0 b.tides.length c0) (.slice A1 b.sounds.length c1) false B w' L ∧ W.heap.size ≤ n ∧ W.heap.size ≤ B ∧ Held W w' := ⟨_, rfl⟩
 have HR := Lib.hid hR
 clear hR
 refine wp_between R ?first ?rest
 case first =>
  subst hA
  have hK0 : Held W W.drew := held_start W
  refine wp_region_held_drew (S := fun w' => Held W w') (by kernel_rfl) hK0 (fun _ => ?_)
  refine wpAnyH_take (i := 0) (oi := { dst := some 17, op := Op.load 30 (Operand.tmp 4), type := 30, pos := "landing.go:46", after := #[], guard := none }) (v := (vBk (.slice A0 b.tides.length c0) (.slice A1 b.sounds.length c1) b)) rfl (by kernel_rfl) (by kernel_rfl) (by kernel_rfl) (fun _ _ _ h => h) (Or.inl ⟨by rfl, ?hy1⟩) hK0 ?r1
  case hy1 =>
   intro w' hSw
   exact exec_load_row (by rfl) (by rfl) ((hSw.2.2.block _ (heap_lt RL.out)).trans RL.out) Try.underlying30 rfl infoBk14
  try simp only [putL]
  refine wpAnyH_take (i := 1) (oi := { dst := some 18, op := Op.load 30 (Operand.tmp 4), type := 30, pos := "landing.go:46", after := #[], guard := none }) (v := (vBk (.slice A0 b.tides.length c0) (.slice A1 b.sounds.length c1) b)) rfl (by kernel_rfl) (by kernel_rfl) (by kernel_rfl) (fun _ _ _ h => h) (Or.inl ⟨by rfl, ?hy2⟩) hK0 ?r2
  case hy2 =>
   intro w' hSw
   exact exec_load_row (by rfl) (by rfl) ((hSw.2.2.block _ (heap_lt RL.out)).trans RL.out) Try.underlying30 rfl infoBk14
  try simp only [putL]
  refine wpAnyH_take (i := 2) (oi := { dst := some 19, op := Op.load 96 (Operand.tmp 10), type := 96, pos := "landing.go:46", after := #[], guard := none }) (v := (.agg #[I hr, I sh])) rfl (by kernel_rfl) (by kernel_rfl) (by kernel_rfl) (fun _ _ _ h => h) (Or.inl ⟨by rfl, ?hy3⟩) hK0 ?r3
  case hy3 =>
   intro w' hSw
   exact exec_load_row (by rfl) (by rfl) ((hSw.2.2.block _ (heap_lt RA.out)).trans RA.out) Try.underlying96 rfl infoSlip2
  try simp only [putL]
  refine wpAnyH_ready (rs := [3, 12]) (by kernel_rfl) (by simp) ?_
  refine AllReadyH.cons rfl (fun K hK => ?_) (AllReadyH.cons rfl (fun K hK => ?_) AllReadyH.nil)
  · go_simp
    refine (HS.out _ (HRB.out.up (HB.out.trans (hK0.2.2.mono HB.out.size)))).mono ?_
    rintro e w4 ⟨rfl, hBw4⟩
    have hSw4 := held_step hBw4 hK0
    refine hK.out _ _ hSw4 (fun _ => ?_)
    clear hK K
    try simp only [putL]
    refine wpAnyH_take (i := 4) (oi := { dst := some 21, op := Op.move (Operand.tmp 20), type := 4, pos := "landing.go:46", after := #[{ on := 3, ground := Ground.data }, { on := 3, ground := Ground.chain }], guard := none }) (v := ?v5) rfl (by kernel_rfl) (by kernel_rfl) (by kernel_rfl) (fun _ _ _ h => h) (Or.inl ⟨by rfl, ?hy5⟩) hSw4 ?r5
    case hy5 =>
     intro w' hSw
     have hq := hSw.1
     clear hSw
     go_simp
     with_reducible rfl
    try simp only [putL]
    refine wpAnyH_take (i := 5) (oi := { dst := some 22, op := Op.move (Operand.tmp 3), type := 3, pos := "landing.go:46", after := #[{ on := 4, ground := Ground.guard }], guard := some (4, true) }) (v := undef) rfl (by kernel_rfl) (by kernel_rfl) (by kernel_rfl) (fun _ _ _ h => h) (Or.inr ⟨by rfl, rfl⟩) hSw4 ?_
    try simp only [putL]
    refine wpAnyH_take (i := 6) (oi := { dst := some 23, op := Op.call { callee := Callee.value (Operand.func 59), args := #[Operand.tmp 22], argTypes := #[3] }, type := 4, pos := "landing.go:46", after := #[{ on := 5, ground := Ground.data }, { on := 4, ground := Ground.chain }, { on := 4, ground := Ground.guard }], guard := some (4, true) }) (v := undef) rfl (by kernel_rfl) (by kernel_rfl) (by kernel_rfl) (fun _ _ _ h => h) (Or.inr ⟨by rfl, rfl⟩) hSw4 ?_
    try simp only [putL]
    refine wpAnyH_take (i := 7) (oi := { dst := some 24, op := Op.pick (Operand.tmp 21) (Operand.tmp 23) (Operand.const (Value.bool false)), type := 4, pos := "landing.go:46", after := #[{ on := 4, ground := Ground.data }, { on := 6, ground := Ground.data }], guard := none }) (v := ?v6) rfl (by kernel_rfl) (by kernel_rfl) (by kernel_rfl) (fun _ _ _ h => h) (Or.inl ⟨by rfl, ?hy6⟩) hSw4 ?r6
    case hy6 =>
     intro w' hSw
     have hq := hSw.1
     clear hSw
     go_simp
     with_reducible rfl
    try simp only [putL]
    refine wpAnyH_ready (rs := [8, 12]) (by kernel_rfl) (by simp) ?_
    refine AllReadyH.cons rfl (fun K hK => ?_) (AllReadyH.cons rfl (fun K hK => ?_) AllReadyH.nil)
    · go_simp
      refine (study_told b (.slice A0 b.tides.length c0) (.slice A1 b.sounds.length c1) false _ (HRB.out.up (HB.out.trans (hSw4.2.2.mono HB.out.size)))).mono ?_
      rintro e w7 ⟨⟨L, rfl, hTw7⟩, hBw7⟩
      have hSw7 := held_step hBw7 hSw4
      have hgw7 : W.heap.size ≤ w4.heap.size := hSw4.2.2.size
      refine hK.out _ _ hSw7 (fun _ => ?_)
      clear hK K
      try simp only [putL]
      refine wpAnyH_take (i := 9) (oi := { dst := some 16, op := Op.move (Operand.tmp 25), type := 92, pos := "landing.go:46", after := #[{ on := 8, ground := Ground.data }], guard := none }) (v := ?v8) rfl (by kernel_rfl) (by kernel_rfl) (by kernel_rfl) (fun _ _ _ h => h) (Or.inl ⟨by rfl, ?hy8⟩) hSw7 ?r8
      case hy8 =>
       intro w' hSw
       have hq := hSw.1
       clear hSw
       go_simp
       with_reducible rfl
      try simp only [putL]
      refine wpAnyH_take (i := 10) (oi := { dst := some 26, op := Op.extract (Operand.tmp 16) 0, type := 86, pos := "landing.go:46", after := #[{ on := 9, ground := Ground.data }], guard := none }) (v := ?v9) rfl (by kernel_rfl) (by kernel_rfl) (by kernel_rfl) (fun _ _ _ h => h) (Or.inl ⟨by rfl, ?hy9⟩) hSw7 ?r9
      case hy9 =>
       intro w' hSw
       have hq := hSw.1
       clear hSw
       go_simp
       with_reducible rfl
      try simp only [putL]
      refine wpAnyH_take (i := 11) (oi := { dst := some 27, op := Op.extract (Operand.tmp 16) 1, type := 41, pos := "landing.go:46", after := #[{ on := 9, ground := Ground.data }, { on := 13, ground := Ground.gcOnly Go.Departure.lateStores }], guard := none }) (v := ?v10) rfl (by kernel_rfl) (by kernel_rfl) (by kernel_rfl) (fun _ _ _ h => h) (Or.inl ⟨by rfl, ?hy10⟩) hSw7 ?r10
      case hy10 =>
       intro w' hSw
       have hq := hSw.1
       clear hSw
       go_simp
       with_reducible rfl
      try simp only [putL]
      refine wpAnyH_ready (rs := [12]) (by kernel_rfl) (by simp) ?_
      refine AllReadyH.cons rfl (fun K hK => ?_) AllReadyH.nil
      go_simp
      refine hK.out _ _ (held_alloc hSw7 _) (fun _ => ?_)
      clear hK K
      try simp only [putL]
      refine name_anyH ?_
      intro w11 hWw11
      have hAw11 : Below w7.heap.size w7 w11 := by rw [hWw11]; exact (Below.refl _ _).alloc (Nat.le_refl _) _
      have fAw11 : w11.heap[w7.heap.size]? = some (.cells rLg0 86 (0, 0)) := by rw [hWw11]; exact heap_at _ _ rfl
      have hSw11 : Held W w11 := by rw [hWw11]; exact held_alloc hSw7 _
      have mTw11 := hTw7.up hAw11
      have hlAw11 : W.heap.size ≤ w7.heap.size := hSw7.2.2.size
      clear hWw11
      refine wpAnyH_ready (rs := [13]) (by kernel_rfl) (by simp) ?_
      refine AllReadyH.cons rfl (fun K hK => ?_) AllReadyH.nil
      rw [if_pos (by rfl)]
      refine wp_store_row 86 _ _ rfl _ L rfl rfl _ _ fAw11 (by rw [mTw11.size]; exact infoLg) (mTw11.size.symm) mTw11.one ?_
      have hSw12 := held_row hSw11 hlAw11 L
      refine hK.out _ _ hSw12 (fun _ => ?_)
      clear hK K
      try simp only [putL]
      have hrw12 := setRow_heap _ _ _ L _ _ fAw11
      refine wpAnyH_take (i := 14) (oi := { dst := some 12, op := Op.assign (Operand.tmp 27), type := 41, pos := "landing.go:46", after := #[{ on := 11, ground := Ground.data }, { on := 13, ground := Ground.chain }, { on := 0, ground := Ground.phase }, { on := 1, ground := Ground.phase }, { on := 2, ground := Ground.phase }, { on := 3, ground := Ground.phase }, { on := 4, ground := Ground.phase }, { on := 5, ground := Ground.phase }, { on := 6, ground := Ground.phase }, { on := 7, ground := Ground.phase }, { on := 8, ground := Ground.phase }, { on := 9, ground := Ground.phase }, { on := 10, ground := Ground.phase }, { on := 11, ground := Ground.phase }, { on := 12, ground := Ground.phase }, { on := 13, ground := Ground.phase }], guard := none }) (v := ?v13) rfl (by kernel_rfl) (by kernel_rfl) (by kernel_rfl) (fun _ _ _ h => h) (Or.inl ⟨by rfl, ?hy13⟩) hSw12 ?r13
      case hy13 =>
       intro w' hSw
       have hq := hSw.1
       clear hSw
       go_simp
       with_reducible rfl
      try simp only [putL]
      refine wpAnyH_done (by kernel_rfl) ?_ _
      show R _ _
      rw [HR.out]
      simp only [putL]
      exact ⟨w7.heap.size, w4.heap.size, L, ⟨_, _, _, _, _, _, _, _, _, _, _, _, rfl⟩, hrw12, hTw7.up (below_setRow hAw11 (Nat.le_refl _) L), hlAw11, hgw7, hSw12⟩
    · go_simp
      refine hK.out _ _ (held_alloc hSw4 _) (fun _ => ?_)
      clear hK K
      try simp only [putL]
      refine name_anyH ?_
      intro w14 hWw14
      have hAw14 : Below w4.heap.size w4 w14 := by rw [hWw14]; exact (Below.refl _ _).alloc (Nat.le_refl _) _
      have fAw14 : w14.heap[w4.heap.size]? = some (.cells rLg0 86 (0, 0)) := by rw [hWw14]; exact heap_at _ _ rfl
      have hSw14 : Held W w14 := by rw [hWw14]; exact held_alloc hSw4 _
      have hlAw14 : W.heap.size ≤ w4.heap.size := hSw4.2.2.size
      clear hWw14
      refine wpAnyH_ready (rs := [8]) (by kernel_rfl) (by simp) ?_
      refine AllReadyH.cons rfl (fun K hK => ?_) AllReadyH.nil
      go_simp
      refine (study_told b (.slice A0 b.tides.length c0) (.slice A1 b.sounds.length c1) false _ (HRB.out.up (HB.out.trans (hSw14.2.2.mono HB.out.size)))).mono ?_
      rintro e w15 ⟨⟨L, rfl, hTw15⟩, hBw15⟩
      have hSw15 := held_step hBw15 hSw14
      have hgw15 : W.heap.size ≤ w14.heap.size := hSw14.2.2.size
      have fAw15 := (hBw15.block _ (heap_lt fAw14)).trans fAw14
      refine hK.out _ _ hSw15 (fun _ => ?_)
      clear hK K
      try simp only [putL]
      refine wpAnyH_take (i := 9) (oi := { dst := some 16, op := Op.move (Operand.tmp 25), type := 92, pos := "landing.go:46", after := #[{ on := 8, ground := Ground.data }], guard := none }) (v := ?v16) rfl (by kernel_rfl) (by kernel_rfl) (by kernel_rfl) (fun _ _ _ h => h) (Or.inl ⟨by rfl, ?hy16⟩) hSw15 ?r16
      case hy16 =>
       intro w' hSw
       have hq := hSw.1
       clear hSw
       go_simp
       with_reducible rfl
      try simp only [putL]
      refine wpAnyH_take (i := 10) (oi := { dst := some 26, op := Op.extract (Operand.tmp 16) 0, type := 86, pos := "landing.go:46", after := #[{ on := 9, ground := Ground.data }], guard := none }) (v := ?v17) rfl (by kernel_rfl) (by kernel_rfl) (by kernel_rfl) (fun _ _ _ h => h) (Or.inl ⟨by rfl, ?hy17⟩) hSw15 ?r17
      case hy17 =>
       intro w' hSw
       have hq := hSw.1
       clear hSw
       go_simp
       with_reducible rfl
      try simp only [putL]
      refine wpAnyH_take (i := 11) (oi := { dst := some 27, op := Op.extract (Operand.tmp 16) 1, type := 41, pos := "landing.go:46", after := #[{ on := 9, ground := Ground.data }, { on := 13, ground := Ground.gcOnly Go.Departure.lateStores }], guard := none }) (v := ?v18) rfl (by kernel_rfl) (by kernel_rfl) (by kernel_rfl) (fun _ _ _ h => h) (Or.inl ⟨by rfl, ?hy18⟩) hSw15 ?r18
      case hy18 =>
       intro w' hSw
       have hq := hSw.1
       clear hSw
       go_simp
       with_reducible rfl
      try simp only [putL]
      refine wpAnyH_ready (rs := [13]) (by kernel_rfl) (by simp) ?_
      refine AllReadyH.cons rfl (fun K hK => ?_) AllReadyH.nil
      rw [if_pos (by rfl)]
      refine wp_store_row 86 _ _ rfl _ L rfl rfl _ _ fAw15 (by rw [hTw15.size]; exact infoLg) (hTw15.size.symm) hTw15.one ?_
      have hSw19 := held_row hSw15 hlAw14 L
      refine hK.out _ _ hSw19 (fun _ => ?_)
      clear hK K
      try simp only [putL]
      have hrw19 := setRow_heap _ _ _ L _ _ fAw15
      refine wpAnyH_take (i := 14) (oi := { dst := some 12, op := Op.assign (Operand.tmp 27), type := 41, pos := "landing.go:46", after := #[{ on := 11, ground := Ground.data }, { on := 13, ground := Ground.chain }, { on := 0, ground := Ground.phase }, { on := 1, ground := Ground.phase }, { on := 2, ground := Ground.phase }, { on := 3, ground := Ground.phase }, { on := 4, ground := Ground.phase }, { on := 5, ground := Ground.phase }, { on := 6, ground := Ground.phase }, { on := 7, ground := Ground.phase }, { on := 8, ground := Ground.phase }, { on := 9, ground := Ground.phase }, { on := 10, ground := Ground.phase }, { on := 11, ground := Ground.phase }, { on := 12, ground := Ground.phase }, { on := 13, ground := Ground.phase }], guard := none }) (v := ?v20) rfl (by kernel_rfl) (by kernel_rfl) (by kernel_rfl) (fun _ _ _ h => h) (Or.inl ⟨by rfl, ?hy20⟩) hSw19 ?r20
      case hy20 =>
       intro w' hSw
       have hq := hSw.1
       clear hSw
       go_simp
       with_reducible rfl
      try simp only [putL]
      refine wpAnyH_done (by kernel_rfl) ?_ _
      show R _ _
      rw [HR.out]
      simp only [putL]
      exact ⟨w4.heap.size, w14.heap.size, L, ⟨_, _, _, _, _, _, _, _, _, _, _, _, rfl⟩, hrw19, hTw15.row fAw15 (heap_lt fAw14), hlAw14, hgw15, hSw19⟩
  · go_simp
    refine hK.out _ _ (held_alloc hK0 _) (fun _ => ?_)
    clear hK K
    try simp only [putL]
    refine name_anyH ?_
    intro w21 hWw21
    have hAw21 : Below W.drew.heap.size W.drew w21 := by rw [hWw21]; exact (Below.refl _ _).alloc (Nat.le_refl _) _
    have fAw21 : w21.heap[W.drew.heap.size]? = some (.cells rLg0 86 (0, 0)) := by rw [hWw21]; exact heap_at _ _ rfl
    have hSw21 : Held W w21 := by rw [hWw21]; exact held_alloc hK0 _
    have hlAw21 : W.heap.size ≤ W.drew.heap.size := hK0.2.2.size
    clear hWw21
    refine wpAnyH_ready (rs := [3]) (by kernel_rfl) (by simp) ?_
    refine AllReadyH.cons rfl (fun K hK => ?_) AllReadyH.nil
    go_simp
    refine (HS.out _ (HRB.out.up (HB.out.trans (hSw21.2.2.mono HB.out.size)))).mono ?_
    rintro e w22 ⟨rfl, hBw22⟩
    have hSw22 := held_step hBw22 hSw21
    have fAw22 := (hBw22.block _ (heap_lt fAw21)).trans fAw21
    refine hK.out _ _ hSw22 (fun _ => ?_)
    clear hK K
    try simp only [putL]
    refine wpAnyH_take (i := 4) (oi := { dst := some 21, op := Op.move (Operand.tmp 20), type := 4, pos := "landing.go:46", after := #[{ on := 3, ground := Ground.data }, { on := 3, ground := Ground.chain }], guard := none }) (v := ?v23) rfl (by kernel_rfl) (by kernel_rfl) (by kernel_rfl) (fun _ _ _ h => h) (Or.inl ⟨by rfl, ?hy23⟩) hSw22 ?r23
    case hy23 =>
     intro w' hSw
     have hq := hSw.1
     clear hSw
     go_simp
     with_reducible rfl
    try simp only [putL]
    refine wpAnyH_take (i := 5) (oi := { dst := some 22, op := Op.move (Operand.tmp 3), type := 3, pos := "landing.go:46", after := #[{ on := 4, ground := Ground.guard }], guard := some (4, true) }) (v := undef) rfl (by kernel_rfl) (by kernel_rfl) (by kernel_rfl) (fun _ _ _ h => h) (Or.inr ⟨by rfl, rfl⟩) hSw22 ?_
    try simp only [putL]
    refine wpAnyH_take (i := 6) (oi := { dst := some 23, op := Op.call { callee := Callee.value (Operand.func 59), args := #[Operand.tmp 22], argTypes := #[3] }, type := 4, pos := "landing.go:46", after := #[{ on := 5, ground := Ground.data }, { on := 4, ground := Ground.chain }, { on := 4, ground := Ground.guard }], guard := some (4, true) }) (v := undef) rfl (by kernel_rfl) (by kernel_rfl) (by kernel_rfl) (fun _ _ _ h => h) (Or.inr ⟨by rfl, rfl⟩) hSw22 ?_
    try simp only [putL]
    refine wpAnyH_take (i := 7) (oi := { dst := some 24, op := Op.pick (Operand.tmp 21) (Operand.tmp 23) (Operand.const (Value.bool false)), type := 4, pos := "landing.go:46", after := #[{ on := 4, ground := Ground.data }, { on := 6, ground := Ground.data }], guard := none }) (v := ?v24) rfl (by kernel_rfl) (by kernel_rfl) (by kernel_rfl) (fun _ _ _ h => h) (Or.inl ⟨by rfl, ?hy24⟩) hSw22 ?r24
    case hy24 =>
     intro w' hSw
     have hq := hSw.1
     clear hSw
     go_simp
     with_reducible rfl
    try simp only [putL]
    refine wpAnyH_ready (rs := [8]) (by kernel_rfl) (by simp) ?_
    refine AllReadyH.cons rfl (fun K hK => ?_) AllReadyH.nil
    go_simp
    refine (study_told b (.slice A0 b.tides.length c0) (.slice A1 b.sounds.length c1) false _ (HRB.out.up (HB.out.trans (hSw22.2.2.mono HB.out.size)))).mono ?_
    rintro e w25 ⟨⟨L, rfl, hTw25⟩, hBw25⟩
    have hSw25 := held_step hBw25 hSw22
    have hgw25 : W.heap.size ≤ w22.heap.size := hSw22.2.2.size
    have fAw25 := (hBw25.block _ (heap_lt fAw22)).trans fAw22
    refine hK.out _ _ hSw25 (fun _ => ?_)
    clear hK K
    try simp only [putL]
    refine wpAnyH_take (i := 9) (oi := { dst := some 16, op := Op.move (Operand.tmp 25), type := 92, pos := "landing.go:46", after := #[{ on := 8, ground := Ground.data }], guard := none }) (v := ?v26) rfl (by kernel_rfl) (by kernel_rfl) (by kernel_rfl) (fun _ _ _ h => h) (Or.inl ⟨by rfl, ?hy26⟩) hSw25 ?r26
    case hy26 =>
     intro w' hSw
     have hq := hSw.1
     clear hSw
     go_simp
     with_reducible rfl
    try simp only [putL]
    refine wpAnyH_take (i := 10) (oi := { dst := some 26, op := Op.extract (Operand.tmp 16) 0, type := 86, pos := "landing.go:46", after := #[{ on := 9, ground := Ground.data }], guard := none }) (v := ?v27) rfl (by kernel_rfl) (by kernel_rfl) (by kernel_rfl) (fun _ _ _ h => h) (Or.inl ⟨by rfl, ?hy27⟩) hSw25 ?r27
    case hy27 =>
     intro w' hSw
     have hq := hSw.1
     clear hSw
     go_simp
     with_reducible rfl
    try simp only [putL]
    refine wpAnyH_take (i := 11) (oi := { dst := some 27, op := Op.extract (Operand.tmp 16) 1, type := 41, pos := "landing.go:46", after := #[{ on := 9, ground := Ground.data }, { on := 13, ground := Ground.gcOnly Go.Departure.lateStores }], guard := none }) (v := ?v28) rfl (by kernel_rfl) (by kernel_rfl) (by kernel_rfl) (fun _ _ _ h => h) (Or.inl ⟨by rfl, ?hy28⟩) hSw25 ?r28
    case hy28 =>
     intro w' hSw
     have hq := hSw.1
     clear hSw
     go_simp
     with_reducible rfl
    try simp only [putL]
    refine wpAnyH_ready (rs := [13]) (by kernel_rfl) (by simp) ?_
    refine AllReadyH.cons rfl (fun K hK => ?_) AllReadyH.nil
    rw [if_pos (by rfl)]
    refine wp_store_row 86 _ _ rfl _ L rfl rfl _ _ fAw25 (by rw [hTw25.size]; exact infoLg) (hTw25.size.symm) hTw25.one ?_
    have hSw29 := held_row hSw25 hlAw21 L
    refine hK.out _ _ hSw29 (fun _ => ?_)
    clear hK K
    try simp only [putL]
    have hrw29 := setRow_heap _ _ _ L _ _ fAw25
    refine wpAnyH_take (i := 14) (oi := { dst := some 12, op := Op.assign (Operand.tmp 27), type := 41, pos := "landing.go:46", after := #[{ on := 11, ground := Ground.data }, { on := 13, ground := Ground.chain }, { on := 0, ground := Ground.phase }, { on := 1, ground := Ground.phase }, { on := 2, ground := Ground.phase }, { on := 3, ground := Ground.phase }, { on := 4, ground := Ground.phase }, { on := 5, ground := Ground.phase }, { on := 6, ground := Ground.phase }, { on := 7, ground := Ground.phase }, { on := 8, ground := Ground.phase }, { on := 9, ground := Ground.phase }, { on := 10, ground := Ground.phase }, { on := 11, ground := Ground.phase }, { on := 12, ground := Ground.phase }, { on := 13, ground := Ground.phase }], guard := none }) (v := ?v30) rfl (by kernel_rfl) (by kernel_rfl) (by kernel_rfl) (fun _ _ _ h => h) (Or.inl ⟨by rfl, ?hy30⟩) hSw29 ?r30
    case hy30 =>
     intro w' hSw
     have hq := hSw.1
     clear hSw
     go_simp
     with_reducible rfl
    try simp only [putL]
    refine wpAnyH_done (by kernel_rfl) ?_ _
    show R _ _
    rw [HR.out]
    simp only [putL]
    exact ⟨W.drew.heap.size, w22.heap.size, L, ⟨_, _, _, _, _, _, _, _, _, _, _, _, rfl⟩, hrw29, hTw25.row fAw25 (heap_lt fAw22), hlAw21, hgw25, hSw29⟩
 case rest =>
  intro a' w' hra
  rw [HR.out] at hra
  clear HR
  obtain ⟨n, B, L, ⟨u17, u18, u19, u20, u21, u22, u23, u24, u25, u16, u26, u27, rfl⟩, hrow, hT, hn, hBn, hH⟩ := hra
  subst hA
  simp only [putL]
  have hbw : Below w.heap.size w w' := HB.out.trans (hH.2.2.mono HB.out.size)
  have HBW := Lib.hid hbw
  have h0 : ¬ Ld.studyE b false = 0 := Ld.studyE_bad
  have hfr : Ld.landsR b sh hr y = (0, Ld.studyE b false) := by rw [Ld.landsR, HPP.out, if_neg h0]
  have hne : (Ld.studyE b false != 0) = true := by simpa using h0
  have hnd : (Ld.studyE b false == 0) = false := by simpa using h0
  have HF := Lib.hid hfr
  clear hT hrow hbw hH hn hBn h0 hfr
  go_wp2_with fail
  exact bodyPost_ret (v := .tuple #[I 0, I (Ld.studyE b false)]) (by simp [results, Try.results21, go_sem]) rfl ⟨by rw [HF.out], HBW.out⟩
set_option maxRecDepth 100000 in
set_option maxHeartbeats 4000000 in
theorem lands_ok (b : Ld.Bk) (T D : Value) (sh hr y : Int) (hs : Ld.isSlip b hr sh = true) (w : World) (hb : RB w w.heap.size b T D) :
 Calls Try.prog 21 #[vBk T D b, I sh, I hr, I y] w fun e w' => e = .returned (.tuple #[I (Ld.landsR b sh hr y).1, I (Ld.landsR b sh hr y).2]) ∧ Below w.heap.size w w' := by
 have hPP : (Ld.isSlip b hr sh && Ld.isLoad y) = (Ld.isLoad y) := by rw [hs]; rfl
 have hS0 : ∀ w' : World, RB w' w'.heap.size b T D → Calls Try.prog 58 #[vBk T D b, vSlip hr sh] w' fun e w'' => e = .returned (.bool true) ∧ Below w'.heap.size w' w'' := fun w' h => by rw [← hs]; exact isSlip_any b T D hr sh w' h
 have HPP := Lib.hid hPP
 clear hPP
 obtain ⟨A0, c0, rfl⟩ := hb.tides.form
 obtain ⟨A1, c1, rfl⟩ := hb.sounds.form
 have HRB := Lib.hid hb
 have HS := Lib.hid hS0
 clear hS0
 clear hb
 go_enter Try.func21, Try.ntmps21
 go_upto_region 2 with fail
 refine name_world ?_
 intro W hW
 have hB : Below w.heap.size w W := by rw [hW]; exact ((Below.refl _ _).alloc (Nat.le_refl _) _).alloc (by simp) _
 have rL : W.heap[w.heap.size]? = some (.cells (rBk (.slice A0 b.tides.length c0) (.slice A1 b.sounds.length c1) b) 30 (0, 0)) := by rw [hW]; exact (Below.heap_alloc _ _ _ (by simp)).trans (heap_at _ _ rfl)
 have rA : W.heap[w.heap.size + 1]? = some (.cells #[I hr, I sh] 96 (0, 0)) := by rw [hW]; first | exact heap_at _ _ (by simp) | exact setRow_heap _ _ _ _ _ _ (heap_at _ _ (by simp)) | simp [World.setRow]
 have RA := Lib.hid rA
 clear rA
 have hlF := heap_lt rL
 have RL := Lib.hid rL
 have HB := Lib.hid hB
 clear hW rL hB
 refine name_act ?_
 intro A hA
 obtain ⟨R, hR⟩ : ∃ R : Act → World → Prop, R = fun a' w' => ∃ (n B : Nat) (L : Array Value), (∃ u17 u18 u19 u20 u21 u22 u23 u24 u25 u16 u26 u27, a' = ((((((((((((((A.put (some 17) u17).put (some 18) u18).put (some 19) u19).put (some 20) u20).put (some 21) u21).put (some 22) u22).put (some 23) u23).put (some 24) u24).put (some 25) u25).put (some 16) u16).put (some 26) u26).put (some 27) u27).put (some 11) (vPtr n)).put (some 12) (I (Ld.studyE b (Ld.isLoad y))))) ∧ w'.heap[n]? = some (.cells L 86 (0, 0)) ∧ Told b (.slice A0 b.tides.length c0) (.slice A1 b.sounds.length c1) (Ld.isLoad y) B w' L ∧ W.heap.size ≤ n ∧ W.heap.size ≤ B ∧ Held W w' := ⟨_, rfl⟩
 have HR := Lib.hid hR
 clear hR
 refine wp_between R ?first ?rest
 case first =>
  subst hA
  have hK0 : Held W W.drew := held_start W
  refine wp_region_held_drew (S := fun w' => Held W w') (by kernel_rfl) hK0 (fun _ => ?_)
  refine wpAnyH_take (i := 0) (oi := { dst := some 17, op := Op.load 30 (Operand.tmp 4), type := 30, pos := "landing.go:46", after := #[], guard := none }) (v := (vBk (.slice A0 b.tides.length c0) (.slice A1 b.sounds.length c1) b)) rfl (by kernel_rfl) (by kernel_rfl) (by kernel_rfl) (fun _ _ _ h => h) (Or.inl ⟨by rfl, ?hy31⟩) hK0 ?r31
  case hy31 =>
   intro w' hSw
   exact exec_load_row (by rfl) (by rfl) ((hSw.2.2.block _ (heap_lt RL.out)).trans RL.out) Try.underlying30 rfl infoBk14
  try simp only [putL]
  refine wpAnyH_take (i := 1) (oi := { dst := some 18, op := Op.load 30 (Operand.tmp 4), type := 30, pos := "landing.go:46", after := #[], guard := none }) (v := (vBk (.slice A0 b.tides.length c0) (.slice A1 b.sounds.length c1) b)) rfl (by kernel_rfl) (by kernel_rfl) (by kernel_rfl) (fun _ _ _ h => h) (Or.inl ⟨by rfl, ?hy32⟩) hK0 ?r32
  case hy32 =>
   intro w' hSw
   exact exec_load_row (by rfl) (by rfl) ((hSw.2.2.block _ (heap_lt RL.out)).trans RL.out) Try.underlying30 rfl infoBk14
  try simp only [putL]
  refine wpAnyH_take (i := 2) (oi := { dst := some 19, op := Op.load 96 (Operand.tmp 10), type := 96, pos := "landing.go:46", after := #[], guard := none }) (v := (.agg #[I hr, I sh])) rfl (by kernel_rfl) (by kernel_rfl) (by kernel_rfl) (fun _ _ _ h => h) (Or.inl ⟨by rfl, ?hy33⟩) hK0 ?r33
  case hy33 =>
   intro w' hSw
   exact exec_load_row (by rfl) (by rfl) ((hSw.2.2.block _ (heap_lt RA.out)).trans RA.out) Try.underlying96 rfl infoSlip2
  try simp only [putL]
  refine wpAnyH_ready (rs := [3, 12]) (by kernel_rfl) (by simp) ?_
  refine AllReadyH.cons rfl (fun K hK => ?_) (AllReadyH.cons rfl (fun K hK => ?_) AllReadyH.nil)
  · go_simp
    refine (HS.out _ (HRB.out.up (HB.out.trans (hK0.2.2.mono HB.out.size)))).mono ?_
    rintro e w34 ⟨rfl, hBw34⟩
    have hSw34 := held_step hBw34 hK0
    refine hK.out _ _ hSw34 (fun _ => ?_)
    clear hK K
    try simp only [putL]
    refine wpAnyH_take (i := 4) (oi := { dst := some 21, op := Op.move (Operand.tmp 20), type := 4, pos := "landing.go:46", after := #[{ on := 3, ground := Ground.data }, { on := 3, ground := Ground.chain }], guard := none }) (v := ?v35) rfl (by kernel_rfl) (by kernel_rfl) (by kernel_rfl) (fun _ _ _ h => h) (Or.inl ⟨by rfl, ?hy35⟩) hSw34 ?r35
    case hy35 =>
     intro w' hSw
     have hq := hSw.1
     clear hSw
     go_simp
     with_reducible rfl
    try simp only [putL]
    refine wpAnyH_take (i := 5) (oi := { dst := some 22, op := Op.move (Operand.tmp 3), type := 3, pos := "landing.go:46", after := #[{ on := 4, ground := Ground.guard }], guard := some (4, true) }) (v := ?v36) rfl (by kernel_rfl) (by kernel_rfl) (by kernel_rfl) (fun _ _ _ h => h) (Or.inl ⟨by rfl, ?hy36⟩) hSw34 ?r36
    case hy36 =>
     intro w' hSw
     have hq := hSw.1
     clear hSw
     go_simp
     with_reducible rfl
    try simp only [putL]
    refine wpAnyH_ready (rs := [6, 12]) (by kernel_rfl) (by simp) ?_
    refine AllReadyH.cons rfl (fun K hK => ?_) (AllReadyH.cons rfl (fun K hK => ?_) AllReadyH.nil)
    · go_simp
      refine (isLoad_any y _).mono ?_
      rintro e w37 ⟨rfl, hBw37⟩
      have hSw37 := held_step hBw37 hSw34
      refine hK.out _ _ hSw37 (fun _ => ?_)
      clear hK K
      try simp only [putL]
      refine wpAnyH_take (i := 7) (oi := { dst := some 24, op := Op.pick (Operand.tmp 21) (Operand.tmp 23) (Operand.const (Value.bool false)), type := 4, pos := "landing.go:46", after := #[{ on := 4, ground := Ground.data }, { on := 6, ground := Ground.data }], guard := none }) (v := ?v38) rfl (by kernel_rfl) (by kernel_rfl) (by kernel_rfl) (fun _ _ _ h => h) (Or.inl ⟨by rfl, ?hy38⟩) hSw37 ?r38
      case hy38 =>
       intro w' hSw
       have hq := hSw.1
       clear hSw
       go_simp
       with_reducible rfl
      try simp only [putL]
      refine wpAnyH_ready (rs := [8, 12]) (by kernel_rfl) (by simp) ?_
      refine AllReadyH.cons rfl (fun K hK => ?_) (AllReadyH.cons rfl (fun K hK => ?_) AllReadyH.nil)
      · go_simp
        refine (study_told b (.slice A0 b.tides.length c0) (.slice A1 b.sounds.length c1) (Ld.isLoad y) _ (HRB.out.up (HB.out.trans (hSw37.2.2.mono HB.out.size)))).mono ?_
        rintro e w39 ⟨⟨L, rfl, hTw39⟩, hBw39⟩
        have hSw39 := held_step hBw39 hSw37
        have hgw39 : W.heap.size ≤ w37.heap.size := hSw37.2.2.size
        refine hK.out _ _ hSw39 (fun _ => ?_)
        clear hK K
        try simp only [putL]
        refine wpAnyH_take (i := 9) (oi := { dst := some 16, op := Op.move (Operand.tmp 25), type := 92, pos := "landing.go:46", after := #[{ on := 8, ground := Ground.data }], guard := none }) (v := ?v40) rfl (by kernel_rfl) (by kernel_rfl) (by kernel_rfl) (fun _ _ _ h => h) (Or.inl ⟨by rfl, ?hy40⟩) hSw39 ?r40
        case hy40 =>
         intro w' hSw
         have hq := hSw.1
         clear hSw
         go_simp
         with_reducible rfl
        try simp only [putL]
        refine wpAnyH_take (i := 10) (oi := { dst := some 26, op := Op.extract (Operand.tmp 16) 0, type := 86, pos := "landing.go:46", after := #[{ on := 9, ground := Ground.data }], guard := none }) (v := ?v41) rfl (by kernel_rfl) (by kernel_rfl) (by kernel_rfl) (fun _ _ _ h => h) (Or.inl ⟨by rfl, ?hy41⟩) hSw39 ?r41
        case hy41 =>
         intro w' hSw
         have hq := hSw.1
         clear hSw
         go_simp
         with_reducible rfl
        try simp only [putL]
        refine wpAnyH_take (i := 11) (oi := { dst := some 27, op := Op.extract (Operand.tmp 16) 1, type := 41, pos := "landing.go:46", after := #[{ on := 9, ground := Ground.data }, { on := 13, ground := Ground.gcOnly Go.Departure.lateStores }], guard := none }) (v := ?v42) rfl (by kernel_rfl) (by kernel_rfl) (by kernel_rfl) (fun _ _ _ h => h) (Or.inl ⟨by rfl, ?hy42⟩) hSw39 ?r42
        case hy42 =>
         intro w' hSw
         have hq := hSw.1
         clear hSw
         go_simp
         with_reducible rfl
        try simp only [putL]
        refine wpAnyH_ready (rs := [12]) (by kernel_rfl) (by simp) ?_
        refine AllReadyH.cons rfl (fun K hK => ?_) AllReadyH.nil
        go_simp
        refine hK.out _ _ (held_alloc hSw39 _) (fun _ => ?_)
        clear hK K
        try simp only [putL]
        refine name_anyH ?_
        intro w43 hWw43
        have hAw43 : Below w39.heap.size w39 w43 := by rw [hWw43]; exact (Below.refl _ _).alloc (Nat.le_refl _) _
        have fAw43 : w43.heap[w39.heap.size]? = some (.cells rLg0 86 (0, 0)) := by rw [hWw43]; exact heap_at _ _ rfl
        have hSw43 : Held W w43 := by rw [hWw43]; exact held_alloc hSw39 _
        have mTw43 := hTw39.up hAw43
        have hlAw43 : W.heap.size ≤ w39.heap.size := hSw39.2.2.size
        clear hWw43
        refine wpAnyH_ready (rs := [13]) (by kernel_rfl) (by simp) ?_
        refine AllReadyH.cons rfl (fun K hK => ?_) AllReadyH.nil
        rw [if_pos (by rfl)]
        refine wp_store_row 86 _ _ rfl _ L rfl rfl _ _ fAw43 (by rw [mTw43.size]; exact infoLg) (mTw43.size.symm) mTw43.one ?_
        have hSw44 := held_row hSw43 hlAw43 L
        refine hK.out _ _ hSw44 (fun _ => ?_)
        clear hK K
        try simp only [putL]
        have hrw44 := setRow_heap _ _ _ L _ _ fAw43
        refine wpAnyH_take (i := 14) (oi := { dst := some 12, op := Op.assign (Operand.tmp 27), type := 41, pos := "landing.go:46", after := #[{ on := 11, ground := Ground.data }, { on := 13, ground := Ground.chain }, { on := 0, ground := Ground.phase }, { on := 1, ground := Ground.phase }, { on := 2, ground := Ground.phase }, { on := 3, ground := Ground.phase }, { on := 4, ground := Ground.phase }, { on := 5, ground := Ground.phase }, { on := 6, ground := Ground.phase }, { on := 7, ground := Ground.phase }, { on := 8, ground := Ground.phase }, { on := 9, ground := Ground.phase }, { on := 10, ground := Ground.phase }, { on := 11, ground := Ground.phase }, { on := 12, ground := Ground.phase }, { on := 13, ground := Ground.phase }], guard := none }) (v := ?v45) rfl (by kernel_rfl) (by kernel_rfl) (by kernel_rfl) (fun _ _ _ h => h) (Or.inl ⟨by rfl, ?hy45⟩) hSw44 ?r45
        case hy45 =>
         intro w' hSw
         have hq := hSw.1
         clear hSw
         go_simp
         with_reducible rfl
        try simp only [putL]
        refine wpAnyH_done (by kernel_rfl) ?_ _
        show R _ _
        rw [HR.out]
        simp only [putL]
        exact ⟨w39.heap.size, w37.heap.size, L, ⟨_, _, _, _, _, _, _, _, _, _, _, _, rfl⟩, hrw44, hTw39.up (below_setRow hAw43 (Nat.le_refl _) L), hlAw43, hgw39, hSw44⟩
      · go_simp
        refine hK.out _ _ (held_alloc hSw37 _) (fun _ => ?_)
        clear hK K
        try simp only [putL]
        refine name_anyH ?_
        intro w46 hWw46
        have hAw46 : Below w37.heap.size w37 w46 := by rw [hWw46]; exact (Below.refl _ _).alloc (Nat.le_refl _) _
        have fAw46 : w46.heap[w37.heap.size]? = some (.cells rLg0 86 (0, 0)) := by rw [hWw46]; exact heap_at _ _ rfl
        have hSw46 : Held W w46 := by rw [hWw46]; exact held_alloc hSw37 _
        have hlAw46 : W.heap.size ≤ w37.heap.size := hSw37.2.2.size
        clear hWw46
        refine wpAnyH_ready (rs := [8]) (by kernel_rfl) (by simp) ?_
        refine AllReadyH.cons rfl (fun K hK => ?_) AllReadyH.nil
        go_simp
        refine (study_told b (.slice A0 b.tides.length c0) (.slice A1 b.sounds.length c1) (Ld.isLoad y) _ (HRB.out.up (HB.out.trans (hSw46.2.2.mono HB.out.size)))).mono ?_
        rintro e w47 ⟨⟨L, rfl, hTw47⟩, hBw47⟩
        have hSw47 := held_step hBw47 hSw46
        have hgw47 : W.heap.size ≤ w46.heap.size := hSw46.2.2.size
        have fAw47 := (hBw47.block _ (heap_lt fAw46)).trans fAw46
        refine hK.out _ _ hSw47 (fun _ => ?_)
        clear hK K
        try simp only [putL]
        refine wpAnyH_take (i := 9) (oi := { dst := some 16, op := Op.move (Operand.tmp 25), type := 92, pos := "landing.go:46", after := #[{ on := 8, ground := Ground.data }], guard := none }) (v := ?v48) rfl (by kernel_rfl) (by kernel_rfl) (by kernel_rfl) (fun _ _ _ h => h) (Or.inl ⟨by rfl, ?hy48⟩) hSw47 ?r48
        case hy48 =>
         intro w' hSw
         have hq := hSw.1
         clear hSw
         go_simp
         with_reducible rfl
        try simp only [putL]
        refine wpAnyH_take (i := 10) (oi := { dst := some 26, op := Op.extract (Operand.tmp 16) 0, type := 86, pos := "landing.go:46", after := #[{ on := 9, ground := Ground.data }], guard := none }) (v := ?v49) rfl (by kernel_rfl) (by kernel_rfl) (by kernel_rfl) (fun _ _ _ h => h) (Or.inl ⟨by rfl, ?hy49⟩) hSw47 ?r49
        case hy49 =>
         intro w' hSw
         have hq := hSw.1
         clear hSw
         go_simp
         with_reducible rfl
        try simp only [putL]
        refine wpAnyH_take (i := 11) (oi := { dst := some 27, op := Op.extract (Operand.tmp 16) 1, type := 41, pos := "landing.go:46", after := #[{ on := 9, ground := Ground.data }, { on := 13, ground := Ground.gcOnly Go.Departure.lateStores }], guard := none }) (v := ?v50) rfl (by kernel_rfl) (by kernel_rfl) (by kernel_rfl) (fun _ _ _ h => h) (Or.inl ⟨by rfl, ?hy50⟩) hSw47 ?r50
        case hy50 =>
         intro w' hSw
         have hq := hSw.1
         clear hSw
         go_simp
         with_reducible rfl
        try simp only [putL]
        refine wpAnyH_ready (rs := [13]) (by kernel_rfl) (by simp) ?_
        refine AllReadyH.cons rfl (fun K hK => ?_) AllReadyH.nil
        rw [if_pos (by rfl)]
        refine wp_store_row 86 _ _ rfl _ L rfl rfl _ _ fAw47 (by rw [hTw47.size]; exact infoLg) (hTw47.size.symm) hTw47.one ?_
        have hSw51 := held_row hSw47 hlAw46 L
        refine hK.out _ _ hSw51 (fun _ => ?_)
        clear hK K
        try simp only [putL]
        have hrw51 := setRow_heap _ _ _ L _ _ fAw47
        refine wpAnyH_take (i := 14) (oi := { dst := some 12, op := Op.assign (Operand.tmp 27), type := 41, pos := "landing.go:46", after := #[{ on := 11, ground := Ground.data }, { on := 13, ground := Ground.chain }, { on := 0, ground := Ground.phase }, { on := 1, ground := Ground.phase }, { on := 2, ground := Ground.phase }, { on := 3, ground := Ground.phase }, { on := 4, ground := Ground.phase }, { on := 5, ground := Ground.phase }, { on := 6, ground := Ground.phase }, { on := 7, ground := Ground.phase }, { on := 8, ground := Ground.phase }, { on := 9, ground := Ground.phase }, { on := 10, ground := Ground.phase }, { on := 11, ground := Ground.phase }, { on := 12, ground := Ground.phase }, { on := 13, ground := Ground.phase }], guard := none }) (v := ?v52) rfl (by kernel_rfl) (by kernel_rfl) (by kernel_rfl) (fun _ _ _ h => h) (Or.inl ⟨by rfl, ?hy52⟩) hSw51 ?r52
        case hy52 =>
         intro w' hSw
         have hq := hSw.1
         clear hSw
         go_simp
         with_reducible rfl
        try simp only [putL]
        refine wpAnyH_done (by kernel_rfl) ?_ _
        show R _ _
        rw [HR.out]
        simp only [putL]
        exact ⟨w37.heap.size, w46.heap.size, L, ⟨_, _, _, _, _, _, _, _, _, _, _, _, rfl⟩, hrw51, hTw47.row fAw47 (heap_lt fAw46), hlAw46, hgw47, hSw51⟩
    · go_simp
      refine hK.out _ _ (held_alloc hSw34 _) (fun _ => ?_)
      clear hK K
      try simp only [putL]
      refine name_anyH ?_
      intro w53 hWw53
      have hAw53 : Below w34.heap.size w34 w53 := by rw [hWw53]; exact (Below.refl _ _).alloc (Nat.le_refl _) _
      have fAw53 : w53.heap[w34.heap.size]? = some (.cells rLg0 86 (0, 0)) := by rw [hWw53]; exact heap_at _ _ rfl
      have hSw53 : Held W w53 := by rw [hWw53]; exact held_alloc hSw34 _
      have hlAw53 : W.heap.size ≤ w34.heap.size := hSw34.2.2.size
      clear hWw53
      refine wpAnyH_ready (rs := [6]) (by kernel_rfl) (by simp) ?_
      refine AllReadyH.cons rfl (fun K hK => ?_) AllReadyH.nil
      go_simp
      refine (isLoad_any y _).mono ?_
      rintro e w54 ⟨rfl, hBw54⟩
      have hSw54 := held_step hBw54 hSw53
      have fAw54 := (hBw54.block _ (heap_lt fAw53)).trans fAw53
      refine hK.out _ _ hSw54 (fun _ => ?_)
      clear hK K
      try simp only [putL]
      refine wpAnyH_take (i := 7) (oi := { dst := some 24, op := Op.pick (Operand.tmp 21) (Operand.tmp 23) (Operand.const (Value.bool false)), type := 4, pos := "landing.go:46", after := #[{ on := 4, ground := Ground.data }, { on := 6, ground := Ground.data }], guard := none }) (v := ?v55) rfl (by kernel_rfl) (by kernel_rfl) (by kernel_rfl) (fun _ _ _ h => h) (Or.inl ⟨by rfl, ?hy55⟩) hSw54 ?r55
      case hy55 =>
       intro w' hSw
       have hq := hSw.1
       clear hSw
       go_simp
       with_reducible rfl
      try simp only [putL]
      refine wpAnyH_ready (rs := [8]) (by kernel_rfl) (by simp) ?_
      refine AllReadyH.cons rfl (fun K hK => ?_) AllReadyH.nil
      go_simp
      refine (study_told b (.slice A0 b.tides.length c0) (.slice A1 b.sounds.length c1) (Ld.isLoad y) _ (HRB.out.up (HB.out.trans (hSw54.2.2.mono HB.out.size)))).mono ?_
      rintro e w56 ⟨⟨L, rfl, hTw56⟩, hBw56⟩
      have hSw56 := held_step hBw56 hSw54
      have hgw56 : W.heap.size ≤ w54.heap.size := hSw54.2.2.size
      have fAw56 := (hBw56.block _ (heap_lt fAw54)).trans fAw54
      refine hK.out _ _ hSw56 (fun _ => ?_)
      clear hK K
      try simp only [putL]
      refine wpAnyH_take (i := 9) (oi := { dst := some 16, op := Op.move (Operand.tmp 25), type := 92, pos := "landing.go:46", after := #[{ on := 8, ground := Ground.data }], guard := none }) (v := ?v57) rfl (by kernel_rfl) (by kernel_rfl) (by kernel_rfl) (fun _ _ _ h => h) (Or.inl ⟨by rfl, ?hy57⟩) hSw56 ?r57
      case hy57 =>
       intro w' hSw
       have hq := hSw.1
       clear hSw
       go_simp
       with_reducible rfl
      try simp only [putL]
      refine wpAnyH_take (i := 10) (oi := { dst := some 26, op := Op.extract (Operand.tmp 16) 0, type := 86, pos := "landing.go:46", after := #[{ on := 9, ground := Ground.data }], guard := none }) (v := ?v58) rfl (by kernel_rfl) (by kernel_rfl) (by kernel_rfl) (fun _ _ _ h => h) (Or.inl ⟨by rfl, ?hy58⟩) hSw56 ?r58
      case hy58 =>
       intro w' hSw
       have hq := hSw.1
       clear hSw
       go_simp
       with_reducible rfl
      try simp only [putL]
      refine wpAnyH_take (i := 11) (oi := { dst := some 27, op := Op.extract (Operand.tmp 16) 1, type := 41, pos := "landing.go:46", after := #[{ on := 9, ground := Ground.data }, { on := 13, ground := Ground.gcOnly Go.Departure.lateStores }], guard := none }) (v := ?v59) rfl (by kernel_rfl) (by kernel_rfl) (by kernel_rfl) (fun _ _ _ h => h) (Or.inl ⟨by rfl, ?hy59⟩) hSw56 ?r59
      case hy59 =>
       intro w' hSw
       have hq := hSw.1
       clear hSw
       go_simp
       with_reducible rfl
      try simp only [putL]
      refine wpAnyH_ready (rs := [13]) (by kernel_rfl) (by simp) ?_
      refine AllReadyH.cons rfl (fun K hK => ?_) AllReadyH.nil
      rw [if_pos (by rfl)]
      refine wp_store_row 86 _ _ rfl _ L rfl rfl _ _ fAw56 (by rw [hTw56.size]; exact infoLg) (hTw56.size.symm) hTw56.one ?_
      have hSw60 := held_row hSw56 hlAw53 L
      refine hK.out _ _ hSw60 (fun _ => ?_)
      clear hK K
      try simp only [putL]
      have hrw60 := setRow_heap _ _ _ L _ _ fAw56
      refine wpAnyH_take (i := 14) (oi := { dst := some 12, op := Op.assign (Operand.tmp 27), type := 41, pos := "landing.go:46", after := #[{ on := 11, ground := Ground.data }, { on := 13, ground := Ground.chain }, { on := 0, ground := Ground.phase }, { on := 1, ground := Ground.phase }, { on := 2, ground := Ground.phase }, { on := 3, ground := Ground.phase }, { on := 4, ground := Ground.phase }, { on := 5, ground := Ground.phase }, { on := 6, ground := Ground.phase }, { on := 7, ground := Ground.phase }, { on := 8, ground := Ground.phase }, { on := 9, ground := Ground.phase }, { on := 10, ground := Ground.phase }, { on := 11, ground := Ground.phase }, { on := 12, ground := Ground.phase }, { on := 13, ground := Ground.phase }], guard := none }) (v := ?v61) rfl (by kernel_rfl) (by kernel_rfl) (by kernel_rfl) (fun _ _ _ h => h) (Or.inl ⟨by rfl, ?hy61⟩) hSw60 ?r61
      case hy61 =>
       intro w' hSw
       have hq := hSw.1
       clear hSw
       go_simp
       with_reducible rfl
      try simp only [putL]
      refine wpAnyH_done (by kernel_rfl) ?_ _
      show R _ _
      rw [HR.out]
      simp only [putL]
      exact ⟨w34.heap.size, w54.heap.size, L, ⟨_, _, _, _, _, _, _, _, _, _, _, _, rfl⟩, hrw60, hTw56.row fAw56 (heap_lt fAw54), hlAw53, hgw56, hSw60⟩
  · go_simp
    refine hK.out _ _ (held_alloc hK0 _) (fun _ => ?_)
    clear hK K
    try simp only [putL]
    refine name_anyH ?_
    intro w62 hWw62
    have hAw62 : Below W.drew.heap.size W.drew w62 := by rw [hWw62]; exact (Below.refl _ _).alloc (Nat.le_refl _) _
    have fAw62 : w62.heap[W.drew.heap.size]? = some (.cells rLg0 86 (0, 0)) := by rw [hWw62]; exact heap_at _ _ rfl
    have hSw62 : Held W w62 := by rw [hWw62]; exact held_alloc hK0 _
    have hlAw62 : W.heap.size ≤ W.drew.heap.size := hK0.2.2.size
    clear hWw62
    refine wpAnyH_ready (rs := [3]) (by kernel_rfl) (by simp) ?_
    refine AllReadyH.cons rfl (fun K hK => ?_) AllReadyH.nil
    go_simp
    refine (HS.out _ (HRB.out.up (HB.out.trans (hSw62.2.2.mono HB.out.size)))).mono ?_
    rintro e w63 ⟨rfl, hBw63⟩
    have hSw63 := held_step hBw63 hSw62
    have fAw63 := (hBw63.block _ (heap_lt fAw62)).trans fAw62
    refine hK.out _ _ hSw63 (fun _ => ?_)
    clear hK K
    try simp only [putL]
    refine wpAnyH_take (i := 4) (oi := { dst := some 21, op := Op.move (Operand.tmp 20), type := 4, pos := "landing.go:46", after := #[{ on := 3, ground := Ground.data }, { on := 3, ground := Ground.chain }], guard := none }) (v := ?v64) rfl (by kernel_rfl) (by kernel_rfl) (by kernel_rfl) (fun _ _ _ h => h) (Or.inl ⟨by rfl, ?hy64⟩) hSw63 ?r64
    case hy64 =>
     intro w' hSw
     have hq := hSw.1
     clear hSw
     go_simp
     with_reducible rfl
    try simp only [putL]
    refine wpAnyH_take (i := 5) (oi := { dst := some 22, op := Op.move (Operand.tmp 3), type := 3, pos := "landing.go:46", after := #[{ on := 4, ground := Ground.guard }], guard := some (4, true) }) (v := ?v65) rfl (by kernel_rfl) (by kernel_rfl) (by kernel_rfl) (fun _ _ _ h => h) (Or.inl ⟨by rfl, ?hy65⟩) hSw63 ?r65
    case hy65 =>
     intro w' hSw
     have hq := hSw.1
     clear hSw
     go_simp
     with_reducible rfl
    try simp only [putL]
    refine wpAnyH_ready (rs := [6]) (by kernel_rfl) (by simp) ?_
    refine AllReadyH.cons rfl (fun K hK => ?_) AllReadyH.nil
    go_simp
    refine (isLoad_any y _).mono ?_
    rintro e w66 ⟨rfl, hBw66⟩
    have hSw66 := held_step hBw66 hSw63
    have fAw66 := (hBw66.block _ (heap_lt fAw63)).trans fAw63
    refine hK.out _ _ hSw66 (fun _ => ?_)
    clear hK K
    try simp only [putL]
    refine wpAnyH_take (i := 7) (oi := { dst := some 24, op := Op.pick (Operand.tmp 21) (Operand.tmp 23) (Operand.const (Value.bool false)), type := 4, pos := "landing.go:46", after := #[{ on := 4, ground := Ground.data }, { on := 6, ground := Ground.data }], guard := none }) (v := ?v67) rfl (by kernel_rfl) (by kernel_rfl) (by kernel_rfl) (fun _ _ _ h => h) (Or.inl ⟨by rfl, ?hy67⟩) hSw66 ?r67
    case hy67 =>
     intro w' hSw
     have hq := hSw.1
     clear hSw
     go_simp
     with_reducible rfl
    try simp only [putL]
    refine wpAnyH_ready (rs := [8]) (by kernel_rfl) (by simp) ?_
    refine AllReadyH.cons rfl (fun K hK => ?_) AllReadyH.nil
    go_simp
    refine (study_told b (.slice A0 b.tides.length c0) (.slice A1 b.sounds.length c1) (Ld.isLoad y) _ (HRB.out.up (HB.out.trans (hSw66.2.2.mono HB.out.size)))).mono ?_
    rintro e w68 ⟨⟨L, rfl, hTw68⟩, hBw68⟩
    have hSw68 := held_step hBw68 hSw66
    have hgw68 : W.heap.size ≤ w66.heap.size := hSw66.2.2.size
    have fAw68 := (hBw68.block _ (heap_lt fAw66)).trans fAw66
    refine hK.out _ _ hSw68 (fun _ => ?_)
    clear hK K
    try simp only [putL]
    refine wpAnyH_take (i := 9) (oi := { dst := some 16, op := Op.move (Operand.tmp 25), type := 92, pos := "landing.go:46", after := #[{ on := 8, ground := Ground.data }], guard := none }) (v := ?v69) rfl (by kernel_rfl) (by kernel_rfl) (by kernel_rfl) (fun _ _ _ h => h) (Or.inl ⟨by rfl, ?hy69⟩) hSw68 ?r69
    case hy69 =>
     intro w' hSw
     have hq := hSw.1
     clear hSw
     go_simp
     with_reducible rfl
    try simp only [putL]
    refine wpAnyH_take (i := 10) (oi := { dst := some 26, op := Op.extract (Operand.tmp 16) 0, type := 86, pos := "landing.go:46", after := #[{ on := 9, ground := Ground.data }], guard := none }) (v := ?v70) rfl (by kernel_rfl) (by kernel_rfl) (by kernel_rfl) (fun _ _ _ h => h) (Or.inl ⟨by rfl, ?hy70⟩) hSw68 ?r70
    case hy70 =>
     intro w' hSw
     have hq := hSw.1
     clear hSw
     go_simp
     with_reducible rfl
    try simp only [putL]
    refine wpAnyH_take (i := 11) (oi := { dst := some 27, op := Op.extract (Operand.tmp 16) 1, type := 41, pos := "landing.go:46", after := #[{ on := 9, ground := Ground.data }, { on := 13, ground := Ground.gcOnly Go.Departure.lateStores }], guard := none }) (v := ?v71) rfl (by kernel_rfl) (by kernel_rfl) (by kernel_rfl) (fun _ _ _ h => h) (Or.inl ⟨by rfl, ?hy71⟩) hSw68 ?r71
    case hy71 =>
     intro w' hSw
     have hq := hSw.1
     clear hSw
     go_simp
     with_reducible rfl
    try simp only [putL]
    refine wpAnyH_ready (rs := [13]) (by kernel_rfl) (by simp) ?_
    refine AllReadyH.cons rfl (fun K hK => ?_) AllReadyH.nil
    rw [if_pos (by rfl)]
    refine wp_store_row 86 _ _ rfl _ L rfl rfl _ _ fAw68 (by rw [hTw68.size]; exact infoLg) (hTw68.size.symm) hTw68.one ?_
    have hSw72 := held_row hSw68 hlAw62 L
    refine hK.out _ _ hSw72 (fun _ => ?_)
    clear hK K
    try simp only [putL]
    have hrw72 := setRow_heap _ _ _ L _ _ fAw68
    refine wpAnyH_take (i := 14) (oi := { dst := some 12, op := Op.assign (Operand.tmp 27), type := 41, pos := "landing.go:46", after := #[{ on := 11, ground := Ground.data }, { on := 13, ground := Ground.chain }, { on := 0, ground := Ground.phase }, { on := 1, ground := Ground.phase }, { on := 2, ground := Ground.phase }, { on := 3, ground := Ground.phase }, { on := 4, ground := Ground.phase }, { on := 5, ground := Ground.phase }, { on := 6, ground := Ground.phase }, { on := 7, ground := Ground.phase }, { on := 8, ground := Ground.phase }, { on := 9, ground := Ground.phase }, { on := 10, ground := Ground.phase }, { on := 11, ground := Ground.phase }, { on := 12, ground := Ground.phase }, { on := 13, ground := Ground.phase }], guard := none }) (v := ?v73) rfl (by kernel_rfl) (by kernel_rfl) (by kernel_rfl) (fun _ _ _ h => h) (Or.inl ⟨by rfl, ?hy73⟩) hSw72 ?r73
    case hy73 =>
     intro w' hSw
     have hq := hSw.1
     clear hSw
     go_simp
     with_reducible rfl
    try simp only [putL]
    refine wpAnyH_done (by kernel_rfl) ?_ _
    show R _ _
    rw [HR.out]
    simp only [putL]
    exact ⟨W.drew.heap.size, w66.heap.size, L, ⟨_, _, _, _, _, _, _, _, _, _, _, _, rfl⟩, hrw72, hTw68.row fAw68 (heap_lt fAw66), hlAw62, hgw68, hSw72⟩
 case rest =>
  intro a' w' hra
  rw [HR.out] at hra
  clear HR
  obtain ⟨n, B, L, ⟨u17, u18, u19, u20, u21, u22, u23, u24, u25, u16, u26, u27, rfl⟩, hrow, hT, hn, hBn, hH⟩ := hra
  subst hA
  simp only [putL]
  have hbw : Below w.heap.size w w' := HB.out.trans (hH.2.2.mono HB.out.size)
  have HBW := Lib.hid hbw
  by_cases h0 : Ld.studyE b (Ld.isLoad y) = 0
  · obtain ⟨hv, hp, hne⟩ := Ld.studyE_parts h0
    obtain ⟨R2, r, rfl, hg⟩ := hT.yes h0
    obtain ⟨A2, c2, rfl⟩ := hg.tr.form
    have hlt := hg.lt (HRB.out.up hbw)
    obtain ⟨q, rfl⟩ : ∃ q : Nat, hr = q := by
     simp [Ld.isSlip, Ld.isHour] at hs
     exact ⟨hr.toNat, by omega⟩
    obtain ⟨m, rfl, hm⟩ : ∃ m : Nat, sh = m ∧ (m = 0 ∨ m = 1) := by
     simp [Ld.isSlip, Ld.isShore] at hs
     rcases hs.2 with h | h
     · exact ⟨0, h, .inl rfl⟩
     · exact ⟨1, h, .inr rfl⟩
    have hq : q < b.tides.length := by simp [Ld.isSlip, Ld.isHour] at hs; exact hs.1
    have hy : 0 ≤ y ∧ y ≤ 200 := by simpa [Ld.isLoad] using hp
    have hfr : Ld.landsR b m q y = (Ld.lands b m q y, 0) := by rw [Ld.landsR, HPP.out, if_pos h0]; rfl
    obtain ⟨K, hK⟩ : ∃ K, Ld.known (Ld.truths b) = K := ⟨_, rfl⟩
    rw [hK] at hrow
    have HF := Lib.hid hfr
    have HROW := Lib.hid hrow
    have HLT := Lib.hid hlt
    have HV := Lib.hid hv
    have hra := (hH.2.2.block _ (heap_lt RA.out)).trans RA.out
    have s0 := cell_of_row w' _ 0 _ _ _ hra
    have s1 := cell_of_row w' _ 1 _ _ _ hra
    simp only [List.getElem?_toArray, List.getElem?_cons_zero, List.getElem?_cons_succ] at s0 s1
    rw [h0]
    clear hT hrow hlt hbw hH hg hn hBn h0 hfr hK hne hv hp hs hra
    go_wp2_with (refine wpList_load_row rfl 86 (Operand.tmp 11) rfl n rfl 86 (rLg (.slice A0 b.tides.length c0) (.slice A1 b.sounds.length c1) (.map (some r)) (.slice A2 (Ld.truths b).length c2) b K) (0, 0) _ HROW.out Try.underlying86 rfl infoLg ?_)
    refine (lands_any b _ _ _ r K q m y w' HLT.out HV.out hq hm hy.1 hy.2 (truths_len HV.out)).mono ?_
    rintro e w1 ⟨rfl, hB1⟩
    have HB1 := Lib.hid hB1
    clear hB1 s0 s1
    obtain ⟨v, hv⟩ : ∃ v, Ld.lands b m q y = v := ⟨_, rfl⟩
    have HVV := Lib.hid hv
    rw [hv]
    clear hv
    go_wp2_with fail
    exact bodyPost_ret (v := .tuple #[I v, I 0]) (by simp [results, Try.results21, go_sem]) rfl ⟨by rw [HF.out, HVV.out], HBW.out.trans (HB1.out.mono HBW.out.size)⟩
  · have hfr : Ld.landsR b sh hr y = (0, Ld.studyE b (Ld.isLoad y)) := by rw [Ld.landsR, HPP.out, if_neg h0]
    have hne : (Ld.studyE b (Ld.isLoad y) != 0) = true := by simpa using h0
    have hnd : (Ld.studyE b (Ld.isLoad y) == 0) = false := by simpa using h0
    have HF := Lib.hid hfr
    clear hT hrow hbw hH hn hBn h0 hfr
    go_wp2_with fail
    exact bodyPost_ret (v := .tuple #[I 0, I (Ld.studyE b (Ld.isLoad y))]) (by simp [results, Try.results21, go_sem]) rfl ⟨by rw [HF.out], HBW.out⟩
theorem Lands_any (b : Ld.Bk) (T D : Value) (sh hr y : Int) (w : World) (hb : RB w w.heap.size b T D) :
 Calls Try.prog 21 #[vBk T D b, I sh, I hr, I y] w fun e w' => e = .returned (.tuple #[I (Ld.landsR b sh hr y).1, I (Ld.landsR b sh hr y).2]) ∧ Below w.heap.size w w' := by
 cases h : Ld.isSlip b hr sh
 · exact lands_bad b T D sh hr y h w hb
 · exact lands_ok b T D sh hr y h w hb
end Go.Proofs.Ytjgpghaofhcfnaa
