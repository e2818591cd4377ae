/- Texts on the program that the proof leans on, part 20. -/
import Derived.Test.YtjgpghaofhcfnaaYas
import Derived.Test.YtjgpghaofhcfnaaYaq
set_option linter.unusedVariables false
set_option linter.unusedSimpArgs false

namespace Go.Proofs.Ytjgpghaofhcfnaa
open Go.RowKit
def Ld.findR (f : Nat → Bool) (v : Nat → Int) (n : Nat) : Int × Int := match (List.range n).find? f with
  | .some k => (v k, 0)
  | .none => (0, 4)
theorem Ld.findR_some {f : Nat → Bool} {v : Nat → Int} {n k : Nat} (hk : k < n) (h : f k = true) (hn : ∀ i, i < k → f i = false) : Ld.findR f v n = (v k, 0) := by
 unfold Ld.findR
 rw [List.find?_range_eq_some.2 ⟨h, by simpa using hk, fun i hi => by rw [hn i hi]; rfl⟩]
theorem Ld.findR_none {f : Nat → Bool} {v : Nat → Int} {n : Nat} (hn : ∀ i, i < n → f i = false) : Ld.findR f v n = (0, 4) := by
 unfold Ld.findR
 rw [List.find?_range_eq_none.2 fun i hi => by rw [hn i hi]; rfl]
def Ld.mostR (b : Ld.Bk) (sh hr : Int) : Int × Int := if Ld.studyE b (Ld.isSlip b hr sh) = 0 then Ld.findR (fun k => Ld.atWorst b sh.toNat hr.toNat (200 - (k : Int))) (fun k => 200 - (k : Int)) 201 else (0, Ld.studyE b (Ld.isSlip b hr sh))
set_option maxRecDepth 100000 in
set_option maxHeartbeats 4000000 in
theorem most_any (b : Ld.Bk) (T D : Value) (sh hr : Int) (w : World) (hb : RB w w.heap.size b T D) :
 Calls Try.prog 25 #[vBk T D b, I sh, I hr] w fun e w' => e = .returned (.tuple #[I (Ld.mostR b sh hr).1, I (Ld.mostR b sh hr).2]) ∧ Below w.heap.size w w' := by
 obtain ⟨A0, c0, rfl⟩ := hb.tides.form
 obtain ⟨A1, c1, rfl⟩ := hb.sounds.form
 have HRB := Lib.hid hb
 clear hb
 go_enter Try.func25, Try.ntmps25
 go_upto_region 1 with fail
 refine name_world ?_
 intro W hW
 have hB : Below w.heap.size w W := by rw [hW]; exact (Below.refl _ _).alloc (Nat.le_refl _) _
 have rL : W.heap[w.heap.size]? = some (.cells (rBk (.slice A0 b.tides.length c0) (.slice A1 b.sounds.length c1) b) 30 (0, 0)) := by rw [hW]; exact heap_at _ _ rfl
 have hlF := heap_lt rL
 have RL := Lib.hid rL
 have HB := Lib.hid hB
 clear hW rL hB
 refine name_act ?_
 intro A hA
 obtain ⟨R, hR⟩ : ∃ R : Act → World → Prop, R = fun a' w' => ∃ (n B : Nat) (L : Array Value), (∃ u13 u14 u15 u16 u17 u18 u19 u12 u20 u21, a' = ((((((((((((A.put (some 13) u13).put (some 14) u14).put (some 15) u15).put (some 16) u16).put (some 17) u17).put (some 18) u18).put (some 19) u19).put (some 12) u12).put (some 20) u20).put (some 21) u21).put (some 8) (vPtr n)).put (some 9) (I (Ld.studyE b (Ld.isSlip b hr sh))))) ∧ w'.heap[n]? = some (.cells L 86 (0, 0)) ∧ Told b (.slice A0 b.tides.length c0) (.slice A1 b.sounds.length c1) (Ld.isSlip b hr sh) B w' L ∧ W.heap.size ≤ n ∧ W.heap.size ≤ B ∧ Held W w' := ⟨_, rfl⟩
 have HR := Lib.hid hR
 clear hR
 refine wp_between R ?first ?rest
 case first =>
  subst hA
  have hK0 : Held W W.drew := held_start W
  refine wp_region_held_drew (S := fun w' => Held W w') (by kernel_rfl) hK0 (fun _ => ?_)
  refine wpAnyH_take (i := 0) (oi := { dst := some 13, op := Op.load 30 (Operand.tmp 3), type := 30, pos := "landing.go:55", after := #[], guard := none }) (v := (vBk (.slice A0 b.tides.length c0) (.slice A1 b.sounds.length c1) b)) rfl (by kernel_rfl) (by kernel_rfl) (by kernel_rfl) (fun _ _ _ h => h) (Or.inl ⟨by rfl, ?hy1⟩) hK0 ?r1
  case hy1 =>
   intro w' hSw
   exact exec_load_row (by rfl) (by rfl) ((hSw.2.2.block _ (heap_lt RL.out)).trans RL.out) Try.underlying30 rfl infoBk14
  try simp only [putL]
  refine wpAnyH_take (i := 1) (oi := { dst := some 14, op := Op.load 30 (Operand.tmp 3), type := 30, pos := "landing.go:55", after := #[], guard := none }) (v := (vBk (.slice A0 b.tides.length c0) (.slice A1 b.sounds.length c1) b)) rfl (by kernel_rfl) (by kernel_rfl) (by kernel_rfl) (fun _ _ _ h => h) (Or.inl ⟨by rfl, ?hy2⟩) hK0 ?r2
  case hy2 =>
   intro w' hSw
   exact exec_load_row (by rfl) (by rfl) ((hSw.2.2.block _ (heap_lt RL.out)).trans RL.out) Try.underlying30 rfl infoBk14
  try simp only [putL]
  refine wpAnyH_take (i := 2) (oi := { dst := some 15, op := Op.move (Operand.tmp 2), type := 3, pos := "landing.go:55", after := #[], guard := none }) (v := ?v3) rfl (by kernel_rfl) (by kernel_rfl) (by kernel_rfl) (fun _ _ _ h => h) (Or.inl ⟨by rfl, ?hy3⟩) hK0 ?r3
  case hy3 =>
   intro w' hSw
   have hq := hSw.1
   clear hSw
   go_simp
   with_reducible rfl
  try simp only [putL]
  refine wpAnyH_take (i := 3) (oi := { dst := some 16, op := Op.move (Operand.tmp 1), type := 3, pos := "landing.go:55", after := #[], guard := none }) (v := ?v4) rfl (by kernel_rfl) (by kernel_rfl) (by kernel_rfl) (fun _ _ _ h => h) (Or.inl ⟨by rfl, ?hy4⟩) hK0 ?r4
  case hy4 =>
   intro w' hSw
   have hq := hSw.1
   clear hSw
   go_simp
   with_reducible rfl
  try simp only [putL]
  refine wpAnyH_take (i := 4) (oi := { dst := some 17, op := Op.build 96 #[(0, Operand.tmp 15), (1, Operand.tmp 16)], type := 96, pos := "landing.go:55", after := #[{ on := 2, ground := Ground.data }, { on := 3, ground := Ground.data }], guard := none }) (v := ?v5) rfl (by kernel_rfl) (by kernel_rfl) (by kernel_rfl) (fun _ _ _ h => h) (Or.inl ⟨by rfl, ?hy5⟩) hK0 ?r5
  case hy5 =>
   intro w' hSw
   have hq := hSw.1
   clear hSw
   go_simp
   with_reducible rfl
  try simp only [putL]
  refine wpAnyH_ready (rs := [5, 10]) (by kernel_rfl) (by simp) ?_
  refine AllReadyH.cons rfl (fun K hK => ?_) (AllReadyH.cons rfl (fun K hK => ?_) AllReadyH.nil)
  · go_simp
    refine (isSlip_any b _ _ hr sh _ (HRB.out.up (HB.out.trans (hK0.2.2.mono HB.out.size)))).mono ?_
    rintro e w6 ⟨rfl, hBw6⟩
    have hSw6 := held_step hBw6 hK0
    refine hK.out _ _ hSw6 (fun _ => ?_)
    clear hK K
    try simp only [putL]
    refine wpAnyH_ready (rs := [6, 10]) (by kernel_rfl) (by simp) ?_
    refine AllReadyH.cons rfl (fun K hK => ?_) (AllReadyH.cons rfl (fun K hK => ?_) AllReadyH.nil)
    · go_simp
      refine (study_told b (.slice A0 b.tides.length c0) (.slice A1 b.sounds.length c1) (Ld.isSlip b hr sh) _ (HRB.out.up (HB.out.trans (hSw6.2.2.mono HB.out.size)))).mono ?_
      rintro e w7 ⟨⟨L, rfl, hTw7⟩, hBw7⟩
      have hSw7 := held_step hBw7 hSw6
      have hgw7 : W.heap.size ≤ w6.heap.size := hSw6.2.2.size
      refine hK.out _ _ hSw7 (fun _ => ?_)
      clear hK K
      try simp only [putL]
      refine wpAnyH_take (i := 7) (oi := { dst := some 12, op := Op.move (Operand.tmp 19), type := 92, pos := "landing.go:55", after := #[{ on := 6, ground := Ground.data }], guard := none }) (v := ?v8) rfl (by kernel_rfl) (by kernel_rfl) (by kernel_rfl) (fun _ _ _ h => h) (Or.inl ⟨by rfl, ?hy8⟩) hSw7 ?r8
      case hy8 =>
       intro w' hSw
       have hq := hSw.1
       clear hSw
       go_simp
       with_reducible rfl
      try simp only [putL]
      refine wpAnyH_take (i := 8) (oi := { dst := some 20, op := Op.extract (Operand.tmp 12) 0, type := 86, pos := "landing.go:55", after := #[{ on := 7, ground := Ground.data }], guard := none }) (v := ?v9) rfl (by kernel_rfl) (by kernel_rfl) (by kernel_rfl) (fun _ _ _ h => h) (Or.inl ⟨by rfl, ?hy9⟩) hSw7 ?r9
      case hy9 =>
       intro w' hSw
       have hq := hSw.1
       clear hSw
       go_simp
       with_reducible rfl
      try simp only [putL]
      refine wpAnyH_take (i := 9) (oi := { dst := some 21, op := Op.extract (Operand.tmp 12) 1, type := 41, pos := "landing.go:55", after := #[{ on := 7, ground := Ground.data }, { on := 11, ground := Ground.gcOnly Go.Departure.lateStores }], guard := none }) (v := ?v10) rfl (by kernel_rfl) (by kernel_rfl) (by kernel_rfl) (fun _ _ _ h => h) (Or.inl ⟨by rfl, ?hy10⟩) hSw7 ?r10
      case hy10 =>
       intro w' hSw
       have hq := hSw.1
       clear hSw
       go_simp
       with_reducible rfl
      try simp only [putL]
      refine wpAnyH_ready (rs := [10]) (by kernel_rfl) (by simp) ?_
      refine AllReadyH.cons rfl (fun K hK => ?_) AllReadyH.nil
      go_simp
      refine hK.out _ _ (held_alloc hSw7 _) (fun _ => ?_)
      clear hK K
      try simp only [putL]
      refine name_anyH ?_
      intro w11 hWw11
      have hAw11 : Below w7.heap.size w7 w11 := by rw [hWw11]; exact (Below.refl _ _).alloc (Nat.le_refl _) _
      have fAw11 : w11.heap[w7.heap.size]? = some (.cells rLg0 86 (0, 0)) := by rw [hWw11]; exact heap_at _ _ rfl
      have hSw11 : Held W w11 := by rw [hWw11]; exact held_alloc hSw7 _
      have mTw11 := hTw7.up hAw11
      have hlAw11 : W.heap.size ≤ w7.heap.size := hSw7.2.2.size
      clear hWw11
      refine wpAnyH_ready (rs := [11]) (by kernel_rfl) (by simp) ?_
      refine AllReadyH.cons rfl (fun K hK => ?_) AllReadyH.nil
      rw [if_pos (by rfl)]
      refine wp_store_row 86 _ _ rfl _ L rfl rfl _ _ fAw11 (by rw [mTw11.size]; exact infoLg) (mTw11.size.symm) mTw11.one ?_
      have hSw12 := held_row hSw11 hlAw11 L
      refine hK.out _ _ hSw12 (fun _ => ?_)
      clear hK K
      try simp only [putL]
      have hrw12 := setRow_heap _ _ _ L _ _ fAw11
      refine wpAnyH_take (i := 12) (oi := { dst := some 9, op := Op.assign (Operand.tmp 21), type := 41, pos := "landing.go:55", after := #[{ on := 9, ground := Ground.data }, { on := 11, ground := Ground.chain }, { on := 0, ground := Ground.phase }, { on := 1, ground := Ground.phase }, { on := 2, ground := Ground.phase }, { on := 3, ground := Ground.phase }, { on := 4, ground := Ground.phase }, { on := 5, ground := Ground.phase }, { on := 6, ground := Ground.phase }, { on := 7, ground := Ground.phase }, { on := 8, ground := Ground.phase }, { on := 9, ground := Ground.phase }, { on := 10, ground := Ground.phase }, { on := 11, ground := Ground.phase }], guard := none }) (v := ?v13) rfl (by kernel_rfl) (by kernel_rfl) (by kernel_rfl) (fun _ _ _ h => h) (Or.inl ⟨by rfl, ?hy13⟩) hSw12 ?r13
      case hy13 =>
       intro w' hSw
       have hq := hSw.1
       clear hSw
       go_simp
       with_reducible rfl
      try simp only [putL]
      refine wpAnyH_done (by kernel_rfl) ?_ _
      show R _ _
      rw [HR.out]
      simp only [putL]
      exact ⟨w7.heap.size, w6.heap.size, L, ⟨_, _, _, _, _, _, _, _, _, _, rfl⟩, hrw12, hTw7.up (below_setRow hAw11 (Nat.le_refl _) L), hlAw11, hgw7, hSw12⟩
    · go_simp
      refine hK.out _ _ (held_alloc hSw6 _) (fun _ => ?_)
      clear hK K
      try simp only [putL]
      refine name_anyH ?_
      intro w14 hWw14
      have hAw14 : Below w6.heap.size w6 w14 := by rw [hWw14]; exact (Below.refl _ _).alloc (Nat.le_refl _) _
      have fAw14 : w14.heap[w6.heap.size]? = some (.cells rLg0 86 (0, 0)) := by rw [hWw14]; exact heap_at _ _ rfl
      have hSw14 : Held W w14 := by rw [hWw14]; exact held_alloc hSw6 _
      have hlAw14 : W.heap.size ≤ w6.heap.size := hSw6.2.2.size
      clear hWw14
      refine wpAnyH_ready (rs := [6]) (by kernel_rfl) (by simp) ?_
      refine AllReadyH.cons rfl (fun K hK => ?_) AllReadyH.nil
      go_simp
      refine (study_told b (.slice A0 b.tides.length c0) (.slice A1 b.sounds.length c1) (Ld.isSlip b hr sh) _ (HRB.out.up (HB.out.trans (hSw14.2.2.mono HB.out.size)))).mono ?_
      rintro e w15 ⟨⟨L, rfl, hTw15⟩, hBw15⟩
      have hSw15 := held_step hBw15 hSw14
      have hgw15 : W.heap.size ≤ w14.heap.size := hSw14.2.2.size
      have fAw15 := (hBw15.block _ (heap_lt fAw14)).trans fAw14
      refine hK.out _ _ hSw15 (fun _ => ?_)
      clear hK K
      try simp only [putL]
      refine wpAnyH_take (i := 7) (oi := { dst := some 12, op := Op.move (Operand.tmp 19), type := 92, pos := "landing.go:55", after := #[{ on := 6, ground := Ground.data }], guard := none }) (v := ?v16) rfl (by kernel_rfl) (by kernel_rfl) (by kernel_rfl) (fun _ _ _ h => h) (Or.inl ⟨by rfl, ?hy16⟩) hSw15 ?r16
      case hy16 =>
       intro w' hSw
       have hq := hSw.1
       clear hSw
       go_simp
       with_reducible rfl
      try simp only [putL]
      refine wpAnyH_take (i := 8) (oi := { dst := some 20, op := Op.extract (Operand.tmp 12) 0, type := 86, pos := "landing.go:55", after := #[{ on := 7, ground := Ground.data }], guard := none }) (v := ?v17) rfl (by kernel_rfl) (by kernel_rfl) (by kernel_rfl) (fun _ _ _ h => h) (Or.inl ⟨by rfl, ?hy17⟩) hSw15 ?r17
      case hy17 =>
       intro w' hSw
       have hq := hSw.1
       clear hSw
       go_simp
       with_reducible rfl
      try simp only [putL]
      refine wpAnyH_take (i := 9) (oi := { dst := some 21, op := Op.extract (Operand.tmp 12) 1, type := 41, pos := "landing.go:55", after := #[{ on := 7, ground := Ground.data }, { on := 11, ground := Ground.gcOnly Go.Departure.lateStores }], guard := none }) (v := ?v18) rfl (by kernel_rfl) (by kernel_rfl) (by kernel_rfl) (fun _ _ _ h => h) (Or.inl ⟨by rfl, ?hy18⟩) hSw15 ?r18
      case hy18 =>
       intro w' hSw
       have hq := hSw.1
       clear hSw
       go_simp
       with_reducible rfl
      try simp only [putL]
      refine wpAnyH_ready (rs := [11]) (by kernel_rfl) (by simp) ?_
      refine AllReadyH.cons rfl (fun K hK => ?_) AllReadyH.nil
      rw [if_pos (by rfl)]
      refine wp_store_row 86 _ _ rfl _ L rfl rfl _ _ fAw15 (by rw [hTw15.size]; exact infoLg) (hTw15.size.symm) hTw15.one ?_
      have hSw19 := held_row hSw15 hlAw14 L
      refine hK.out _ _ hSw19 (fun _ => ?_)
      clear hK K
      try simp only [putL]
      have hrw19 := setRow_heap _ _ _ L _ _ fAw15
      refine wpAnyH_take (i := 12) (oi := { dst := some 9, op := Op.assign (Operand.tmp 21), type := 41, pos := "landing.go:55", after := #[{ on := 9, ground := Ground.data }, { on := 11, ground := Ground.chain }, { on := 0, ground := Ground.phase }, { on := 1, ground := Ground.phase }, { on := 2, ground := Ground.phase }, { on := 3, ground := Ground.phase }, { on := 4, ground := Ground.phase }, { on := 5, ground := Ground.phase }, { on := 6, ground := Ground.phase }, { on := 7, ground := Ground.phase }, { on := 8, ground := Ground.phase }, { on := 9, ground := Ground.phase }, { on := 10, ground := Ground.phase }, { on := 11, ground := Ground.phase }], guard := none }) (v := ?v20) rfl (by kernel_rfl) (by kernel_rfl) (by kernel_rfl) (fun _ _ _ h => h) (Or.inl ⟨by rfl, ?hy20⟩) hSw19 ?r20
      case hy20 =>
       intro w' hSw
       have hq := hSw.1
       clear hSw
       go_simp
       with_reducible rfl
      try simp only [putL]
      refine wpAnyH_done (by kernel_rfl) ?_ _
      show R _ _
      rw [HR.out]
      simp only [putL]
      exact ⟨w6.heap.size, w14.heap.size, L, ⟨_, _, _, _, _, _, _, _, _, _, rfl⟩, hrw19, hTw15.row fAw15 (heap_lt fAw14), hlAw14, hgw15, hSw19⟩
  · go_simp
    refine hK.out _ _ (held_alloc hK0 _) (fun _ => ?_)
    clear hK K
    try simp only [putL]
    refine name_anyH ?_
    intro w21 hWw21
    have hAw21 : Below W.drew.heap.size W.drew w21 := by rw [hWw21]; exact (Below.refl _ _).alloc (Nat.le_refl _) _
    have fAw21 : w21.heap[W.drew.heap.size]? = some (.cells rLg0 86 (0, 0)) := by rw [hWw21]; exact heap_at _ _ rfl
    have hSw21 : Held W w21 := by rw [hWw21]; exact held_alloc hK0 _
    have hlAw21 : W.heap.size ≤ W.drew.heap.size := hK0.2.2.size
    clear hWw21
    refine wpAnyH_ready (rs := [5]) (by kernel_rfl) (by simp) ?_
    refine AllReadyH.cons rfl (fun K hK => ?_) AllReadyH.nil
    go_simp
    refine (isSlip_any b _ _ hr sh _ (HRB.out.up (HB.out.trans (hSw21.2.2.mono HB.out.size)))).mono ?_
    rintro e w22 ⟨rfl, hBw22⟩
    have hSw22 := held_step hBw22 hSw21
    have fAw22 := (hBw22.block _ (heap_lt fAw21)).trans fAw21
    refine hK.out _ _ hSw22 (fun _ => ?_)
    clear hK K
    try simp only [putL]
    refine wpAnyH_ready (rs := [6]) (by kernel_rfl) (by simp) ?_
    refine AllReadyH.cons rfl (fun K hK => ?_) AllReadyH.nil
    go_simp
    refine (study_told b (.slice A0 b.tides.length c0) (.slice A1 b.sounds.length c1) (Ld.isSlip b hr sh) _ (HRB.out.up (HB.out.trans (hSw22.2.2.mono HB.out.size)))).mono ?_
    rintro e w23 ⟨⟨L, rfl, hTw23⟩, hBw23⟩
    have hSw23 := held_step hBw23 hSw22
    have hgw23 : W.heap.size ≤ w22.heap.size := hSw22.2.2.size
    have fAw23 := (hBw23.block _ (heap_lt fAw22)).trans fAw22
    refine hK.out _ _ hSw23 (fun _ => ?_)
    clear hK K
    try simp only [putL]
    refine wpAnyH_take (i := 7) (oi := { dst := some 12, op := Op.move (Operand.tmp 19), type := 92, pos := "landing.go:55", after := #[{ on := 6, ground := Ground.data }], guard := none }) (v := ?v24) rfl (by kernel_rfl) (by kernel_rfl) (by kernel_rfl) (fun _ _ _ h => h) (Or.inl ⟨by rfl, ?hy24⟩) hSw23 ?r24
    case hy24 =>
     intro w' hSw
     have hq := hSw.1
     clear hSw
     go_simp
     with_reducible rfl
    try simp only [putL]
    refine wpAnyH_take (i := 8) (oi := { dst := some 20, op := Op.extract (Operand.tmp 12) 0, type := 86, pos := "landing.go:55", after := #[{ on := 7, ground := Ground.data }], guard := none }) (v := ?v25) rfl (by kernel_rfl) (by kernel_rfl) (by kernel_rfl) (fun _ _ _ h => h) (Or.inl ⟨by rfl, ?hy25⟩) hSw23 ?r25
    case hy25 =>
     intro w' hSw
     have hq := hSw.1
     clear hSw
     go_simp
     with_reducible rfl
    try simp only [putL]
    refine wpAnyH_take (i := 9) (oi := { dst := some 21, op := Op.extract (Operand.tmp 12) 1, type := 41, pos := "landing.go:55", after := #[{ on := 7, ground := Ground.data }, { on := 11, ground := Ground.gcOnly Go.Departure.lateStores }], guard := none }) (v := ?v26) rfl (by kernel_rfl) (by kernel_rfl) (by kernel_rfl) (fun _ _ _ h => h) (Or.inl ⟨by rfl, ?hy26⟩) hSw23 ?r26
    case hy26 =>
     intro w' hSw
     have hq := hSw.1
     clear hSw
     go_simp
     with_reducible rfl
    try simp only [putL]
    refine wpAnyH_ready (rs := [11]) (by kernel_rfl) (by simp) ?_
    refine AllReadyH.cons rfl (fun K hK => ?_) AllReadyH.nil
    rw [if_pos (by rfl)]
    refine wp_store_row 86 _ _ rfl _ L rfl rfl _ _ fAw23 (by rw [hTw23.size]; exact infoLg) (hTw23.size.symm) hTw23.one ?_
    have hSw27 := held_row hSw23 hlAw21 L
    refine hK.out _ _ hSw27 (fun _ => ?_)
    clear hK K
    try simp only [putL]
    have hrw27 := setRow_heap _ _ _ L _ _ fAw23
    refine wpAnyH_take (i := 12) (oi := { dst := some 9, op := Op.assign (Operand.tmp 21), type := 41, pos := "landing.go:55", after := #[{ on := 9, ground := Ground.data }, { on := 11, ground := Ground.chain }, { on := 0, ground := Ground.phase }, { on := 1, ground := Ground.phase }, { on := 2, ground := Ground.phase }, { on := 3, ground := Ground.phase }, { on := 4, ground := Ground.phase }, { on := 5, ground := Ground.phase }, { on := 6, ground := Ground.phase }, { on := 7, ground := Ground.phase }, { on := 8, ground := Ground.phase }, { on := 9, ground := Ground.phase }, { on := 10, ground := Ground.phase }, { on := 11, ground := Ground.phase }], guard := none }) (v := ?v28) rfl (by kernel_rfl) (by kernel_rfl) (by kernel_rfl) (fun _ _ _ h => h) (Or.inl ⟨by rfl, ?hy28⟩) hSw27 ?r28
    case hy28 =>
     intro w' hSw
     have hq := hSw.1
     clear hSw
     go_simp
     with_reducible rfl
    try simp only [putL]
    refine wpAnyH_done (by kernel_rfl) ?_ _
    show R _ _
    rw [HR.out]
    simp only [putL]
    exact ⟨W.drew.heap.size, w22.heap.size, L, ⟨_, _, _, _, _, _, _, _, _, _, rfl⟩, hrw27, hTw23.row fAw23 (heap_lt fAw22), hlAw21, hgw23, hSw27⟩
 case rest =>
  intro a' w' hra
  rw [HR.out] at hra
  clear HR
  obtain ⟨n, B, L, ⟨u13, u14, u15, u16, u17, u18, u19, u12, u20, u21, rfl⟩, hrow, hT, hn, hBn, hH⟩ := hra
  subst hA
  simp only [putL]
  have hbw : Below w.heap.size w w' := HB.out.trans (hH.2.2.mono HB.out.size)
  have HBW := Lib.hid hbw
  by_cases h0 : Ld.studyE b (Ld.isSlip b hr sh) = 0
  · obtain ⟨hv, hp, hne⟩ := Ld.studyE_parts h0
    obtain ⟨R2, r, rfl, hg⟩ := hT.yes h0
    obtain ⟨A2, c2, rfl⟩ := hg.tr.form
    have hlt := hg.lt (HRB.out.up hbw)
    obtain ⟨q, rfl⟩ : ∃ q : Nat, hr = q := by
     simp [Ld.isSlip, Ld.isHour] at hp
     exact ⟨hr.toNat, by omega⟩
    obtain ⟨m, rfl, hm⟩ : ∃ m : Nat, sh = m ∧ (m = 0 ∨ m = 1) := by
     simp [Ld.isSlip, Ld.isShore] at hp
     rcases hp.2 with h | h
     · exact ⟨0, h, .inl rfl⟩
     · exact ⟨1, h, .inr rfl⟩
    have hq : q < b.tides.length := by simp [Ld.isSlip, Ld.isHour] at hp; exact hp.1
    have hfr : Ld.mostR b m q = Ld.findR (fun k => Ld.atWorst b m q (200 - (k : Int))) (fun k => 200 - (k : Int)) 201 := by rw [Ld.mostR, if_pos h0]; rfl
    obtain ⟨K, hK⟩ : ∃ K, Ld.known (Ld.truths b) = K := ⟨_, rfl⟩
    rw [hK] at hrow
    have HF := Lib.hid hfr
    have HROW := Lib.hid hrow
    have HLT := Lib.hid hlt
    have HV := Lib.hid hv
    rw [h0]
    clear hT hrow hlt hbw hH hg hn hBn h0 hfr hK hne hv hp
    go_wp2_with fail
    go_loopw [25] (fun i wr => ∃ j : Nat, j ≤ 201 ∧ i = I j ∧ Below w'.heap.size w' wr ∧ ∀ i, i < j → Ld.atWorst b m q (200 - (i : Int)) = false) (fun i _ => 201 - (intOf i).toNat)
    case atStart => exact ⟨0, by omega, rfl, Below.refl _ _, fun i hi => by omega⟩
    case round =>
     obtain ⟨j, hj, rfl, hBr, hall⟩ := hrel
     have hRr := (hBr.block _ (heap_lt HROW.out)).trans HROW.out
     have HRR := Lib.hid hRr
     have HLW := Lib.hid (HLT.out.up hBr)
     have HBR := Lib.hid hBr
     have HALL := Lib.hid hall
     clear hRr hBr hall
     by_cases hlt : j < 201
     · have hji : (j : Int) < 201 := by omega
       have hw2 : IntKind.i64.wrap (200 - (j : Int)) = 200 - (j : Int) := IntWalk.i64_in _ (by omega)
       go_wp2_with (refine wpList_load_row rfl 86 (Operand.tmp 8) rfl n rfl 86 (rLg (.slice A0 b.tides.length c0) (.slice A1 b.sounds.length c1) (.map (some r)) (.slice A2 (Ld.truths b).length c2) b K) (0, 0) _ HRR.out Try.underlying86 rfl infoLg ?_)
       refine (surely_any b _ _ _ r K q m (200 - (j : Int)) wr HLW.out HV.out hq hm (by omega) (by omega) (truths_len HV.out)).mono ?_
       rintro e w1 ⟨rfl, hB1⟩
       have hb1 := HBR.out.trans (hB1.mono HBR.out.size)
       have HB1 := Lib.hid hb1
       clear hB1 hb1
       cases hF : Ld.atWorst b m q (200 - (j : Int))
       · have HFF := Lib.hid hF
         clear hF
         go_wp2_with fail
         go_roundw
         case rel =>
          refine ⟨j + 1, hlt, by go_num, HB1.out, fun i hi => ?_⟩
          rcases Nat.lt_succ_iff_lt_or_eq.1 hi with h | rfl
          · exact HALL.out i h
          · exact HFF.out
         case measure => simp [intOf]; omega
       · have HFF := Lib.hid hF
         clear hF
         go_wp2_with fail
         exact bodyPost_ret (v := .tuple #[I (200 - (j : Int)), I 0]) (by simp [results, Try.results25, go_sem]) rfl ⟨by rw [HF.out, Ld.findR_some hlt HFF.out HALL.out], HBW.out.trans (HB1.out.mono HBW.out.size)⟩
     · obtain rfl : j = 201 := by omega
       go_wp2_with fail
       exact bodyPost_ret (v := .tuple #[I 0, I 4]) (by simp [results, Try.results25, go_sem]) rfl ⟨by rw [HF.out, Ld.findR_none HALL.out], HBW.out.trans (HBR.out.mono HBW.out.size)⟩
  · have hfr : Ld.mostR b sh hr = (0, Ld.studyE b (Ld.isSlip b hr sh)) := by rw [Ld.mostR, if_neg h0]
    have hne : (Ld.studyE b (Ld.isSlip b hr sh) != 0) = true := by simpa using h0
    have hnd : (Ld.studyE b (Ld.isSlip b hr sh) == 0) = false := by simpa using h0
    have HF := Lib.hid hfr
    clear hT hrow hbw hH hn hBn h0 hfr
    go_wp2_with fail
    exact bodyPost_ret (v := .tuple #[I 0, I (Ld.studyE b (Ld.isSlip b hr sh))]) (by simp [results, Try.results25, go_sem]) rfl ⟨by rw [HF.out], HBW.out⟩
end Go.Proofs.Ytjgpghaofhcfnaa
