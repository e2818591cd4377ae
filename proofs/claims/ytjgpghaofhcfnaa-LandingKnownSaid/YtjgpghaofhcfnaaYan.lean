/- Texts on the program that the proof leans on, part 14. -/
import Derived.Test.YtjgpghaofhcfnaaYam
set_option linter.unusedVariables false
set_option linter.unusedSimpArgs false

namespace Go.Proofs.Ytjgpghaofhcfnaa
open Go.RowKit
set_option maxRecDepth 100000 in
set_option maxHeartbeats 8000000 in
theorem window0lo_any (b : Ld.Bk) (t : Ld.Tr) (T D R : Value) (r : Nat) (k : Ld.Sp × Ld.Sp) (hour load : Int) (w : World) (hT : ∃ A n c, T = .slice A n c) (hD : ∃ A n c, D = .slice A n c) (hR : ∃ A n c, R = .slice A n c)
 (hv : Ld.valid b = true) (ht : TrOk t) (h0 : 0 ≤ load) (h1 : load ≤ 200) :
 Calls Try.prog 106 #[vLg T D (.map (some r)) R b k, vTr t, .agg #[I hour, I 0, I load], vLow] w fun e w' => e = .returned (vSp (Ld.window b t 0 load b.empty.lo)) ∧ Below w.heap.size w w' := by
 obtain ⟨A, n, c, rfl⟩ := hT
 obtain ⟨A1, n1, c1, rfl⟩ := hD
 obtain ⟨A2, n2, c2, rfl⟩ := hR
 obtain ⟨hp1, -, hp3, hp4, -⟩ := Ld.valid_parts hv
 have hdr := Ld.draught_bd hp4
 obtain ⟨h2, h3⟩ : 0 ≤ b.empty.lo ∧ b.empty.lo ≤ 40 := by omega
 have HF : Hid (∀ W, Calls Try.prog 114 #[vSp b.empty] W fun e w' => e = .returned (I b.empty.lo) ∧ Below W.heap.size W w') := Lib.hid fun W => low1_any b.empty W
 obtain ⟨ev, hev⟩ : ∃ ev, b.empty.lo = ev := ⟨_, rfl⟩
 rw [hev] at HF h2 h3 ⊢
 have HEV := Lib.hid hev
 clear hev hdr
 obtain ⟨-, -, s1, s2, u1, u2, -⟩ := Ld.sized_bd hp1
 have hfl := Ld.floor_bd hp3 0
 rw [show Ld.shore b 0 = b.s0 from rfl] at hfl
 obtain ⟨-, -, -, l1, l2, l3⟩ := hfl
 obtain ⟨q1, q2, q3, q4⟩ := ht
 have HSK : Hid (∀ W, Calls Try.prog 111 #[vLg (.slice A n c) (.slice A1 n1 c1) (.map (some r)) (.slice A2 n2 c2) b k, I load] W fun e w' => e = .returned (I (Ld.sunk b load)) ∧ Below W.heap.size W w') :=
  Lib.hid fun W => sunk_any b _ _ _ r k load W ⟨_, _, _, rfl⟩ ⟨_, _, _, rfl⟩ ⟨_, _, _, rfl⟩ h0 h1 s1 s2
 have k0 : 0 ≤ Ld.sunk b load := Int.ediv_nonneg (by omega) (by omega)
 have k1 : Ld.sunk b load ≤ 220 := Int.le_trans (Int.ediv_le_self _ (by omega)) (by omega)
 have hwin : Ld.window b t 0 load ev = ⟨max b.s0.lo (t.f0 + ev + Ld.sunk b load + b.under), b.s0.hi⟩ := rfl
 rw [hwin]
 clear hwin
 generalize Ld.sunk b load = sk at HSK k0 k1 ⊢
 have e1 : IntKind.i64.wrap (t.f0 + ev) = t.f0 + ev := IntWalk.i64_in _ (by omega)
 have e2 : IntKind.i64.wrap (t.f0 + ev + sk) = t.f0 + ev + sk := IntWalk.i64_in _ (by omega)
 have e3 : IntKind.i64.wrap (t.f0 + ev + sk + b.under) = t.f0 + ev + sk + b.under := IntWalk.i64_in _ (by omega)
 clear hp1 hp3 hp4 hv
 go_enter Try.func106, Try.ntmps106
 go_wp2_with fail
 refine name_world ?_
 intro W hW
 have hB : Below w.heap.size w W := by rw [hW]; exact (((((Below.refl _ _).alloc (Nat.le_refl _) _).alloc (by simp) _).alloc (by simp <;> omega) _).alloc (by simp <;> omega) _).alloc (by simp <;> omega) _ |>.alloc (by simp <;> omega) _
 have r0 : W.heap[w.heap.size]? = some (oLg (.slice A n c) (.slice A1 n1 c1) (.map (some r)) (.slice A2 n2 c2) b k) := by rw [hW]; exact (Below.heap_alloc _ _ _ (by simp <;> omega)).trans ((Below.heap_alloc _ _ _ (by simp <;> omega)).trans ((Below.heap_alloc _ _ _ (by simp <;> omega)).trans ((Below.heap_alloc _ _ _ (by simp <;> omega)).trans ((Below.heap_alloc _ _ _ (by simp)).trans (heap_at _ _ rfl)))))
 have r1 : W.heap[w.heap.size + 1]? = some (.cells #[I t.f0, I t.f1] 112 (0, 0)) := by rw [hW]; exact (Below.heap_alloc _ _ _ (by simp <;> omega)).trans ((Below.heap_alloc _ _ _ (by simp <;> omega)).trans ((Below.heap_alloc _ _ _ (by simp <;> omega)).trans ((Below.heap_alloc _ _ _ (by simp <;> omega)).trans (heap_at _ _ (by simp)))))
 have r2 : W.heap[w.heap.size + 1 + 1]? = some (.cells #[I hour, I 0, I load] 100 (0, 0)) := by rw [hW]; exact (Below.heap_alloc _ _ _ (by simp <;> omega)).trans ((Below.heap_alloc _ _ _ (by simp <;> omega)).trans ((Below.heap_alloc _ _ _ (by simp <;> omega)).trans (heap_at _ _ (by simp))))
 have r3 : W.heap[w.heap.size + 1 + 1 + 1]? = some (.cells #[.func (.func 114) #[] #[]] 138 (0, 0)) := by rw [hW]; exact (Below.heap_alloc _ _ _ (by simp <;> omega)).trans ((Below.heap_alloc _ _ _ (by simp <;> omega)).trans (heap_at _ _ (by simp)))
 have r4 : W.heap[w.heap.size + 1 + 1 + 1 + 1]? = some (.cells #[I 0, I 0] 24 (0, 0)) := by rw [hW]; exact (Below.heap_alloc _ _ _ (by simp <;> omega)).trans (heap_at _ _ (by simp))
 have r5 : W.heap[w.heap.size + 1 + 1 + 1 + 1 + 1]? = some (.cells #[I b.s0.floor.lo, I b.s0.floor.hi, I b.s0.lo, I b.s0.hi] 26 (0, 0)) := by rw [hW]; exact heap_at _ _ (by simp)
 have z0 := heap_lt r0
 have z1 := heap_lt r1
 have z2 := heap_lt r2
 have z3 := heap_lt r3
 have z4 := heap_lt r4
 have z5 := heap_lt r5
 have aq9 := cell_of_row W _ 9 _ _ _ r0
 have aq10 := cell_of_row W _ 10 _ _ _ r0
 have aq12 := cell_of_row W _ 12 _ _ _ r0
 have bq0 := cell_of_row W _ 0 _ _ _ r1
 have bq1 := cell_of_row W _ 1 _ _ _ r1
 have cq0 := cell_of_row W _ 0 _ _ _ r2
 have cq1 := cell_of_row W _ 1 _ _ _ r2
 have cq2 := cell_of_row W _ 2 _ _ _ r2
 have dq0 := cell_of_row W _ 0 _ _ _ r3
 have xq2 := cell_of_row W _ 2 _ _ _ r5
 have xq3 := cell_of_row W _ 3 _ _ _ r5
 simp only [List.getElem?_toArray, List.getElem?_cons_zero, List.getElem?_cons_succ] at aq9 aq10 aq12 bq0 bq1 cq0 cq1 cq2 dq0 xq2 xq3
 have HB := Lib.hid hB
 have R0 := Lib.hid r0
 have R4 := Lib.hid r4
 have R5 := Lib.hid r5
 clear hW hB r0 r1 r2 r3 r4 r5
 refine name_act ?_
 intro A9 hA
 obtain ⟨Q, hQ⟩ : ∃ Q : Act → World → Prop, Q = fun a' w' => (∃ u18 u19 u20 u21 u22 u23 u24 u25 u26 u27 u28 u29 u30 u31 u32 u33 u34 u35 u36 u37 u38, a' = ((((((((((((((((((((((A9.put (some 18) u18).put (some 19) u19).put (some 20) u20).put (some 21) u21).put (some 22) u22).put (some 23) u23).put (some 24) u24).put (some 25) u25).put (some 26) u26).put (some 27) u27).put (some 28) u28).put (some 29) u29).put (some 30) u30).put (some 31) u31).put (some 32) u32).put (some 33) u33).put (some 34) u34).put (some 35) u35).put (some 36) u36).put (some 37) u37).put (some 38) u38).put (some 10) (I (t.f0 + ev + sk + b.under)))) ∧ Held W w' := ⟨_, rfl⟩
 have HQ := Lib.hid hQ
 clear hQ
 refine wp_between Q ?first ?rest
 case first =>
  subst hA
  have hK0 : Held W W.drew := held_start W
  refine wp_region_held_drew (S := fun w' => Held W w') (by kernel_rfl) hK0 (fun _ => ?_)
  refine wpAnyH_take (i := 0) (oi := { dst := some 18, op := Op.fieldAddr 100 (Operand.tmp 6) 0, type := 0, pos := "known.go:26", after := #[], guard := none }) (v := ?v1) rfl (by kernel_rfl) (by kernel_rfl) (by kernel_rfl) (fun _ _ _ h => h) (Or.inl ⟨by rfl, ?hy1⟩) hK0 ?r1
  case hy1 =>
   intro w' hSw
   have hq := hSw.1
   clear hSw
   go_simp
   with_reducible rfl
  try simp only [putL]
  refine wpAnyH_take (i := 1) (oi := { dst := some 19, op := Op.fieldAddr 96 (Operand.tmp 18) 1, type := 0, pos := "known.go:26", after := #[{ on := 0, ground := Ground.data }], guard := none }) (v := ?v2) rfl (by kernel_rfl) (by kernel_rfl) (by kernel_rfl) (fun _ _ _ h => h) (Or.inl ⟨by rfl, ?hy2⟩) hK0 ?r2
  case hy2 =>
   intro w' hSw
   have hq := hSw.1
   clear hSw
   go_simp
   with_reducible rfl
  try simp only [putL]
  refine wpAnyH_take (i := 2) (oi := { dst := some 20, op := Op.load 3 (Operand.tmp 19), type := 3, pos := "known.go:26", after := #[{ on := 1, ground := Ground.data }], guard := none }) (v := ?v3) rfl (by kernel_rfl) (by kernel_rfl) (by kernel_rfl) (fun _ _ _ h => h) (Or.inl ⟨by rfl, ?hy3⟩) hK0 ?r3
  case hy3 =>
   intro w' hSw
   have hq := hSw.1
   clear hSw
   go_simp
   with_reducible rfl
  try simp only [putL]
  refine wpAnyH_take (i := 3) (oi := { dst := some 21, op := Op.indexAddr 112 (Operand.tmp 5) (Operand.tmp 20), type := 0, pos := "known.go:26", after := #[{ on := 2, ground := Ground.data }], guard := none }) (v := ?v4) rfl (by kernel_rfl) (by kernel_rfl) (by kernel_rfl) (fun _ _ _ h => h) (Or.inl ⟨by rfl, ?hy4⟩) hK0 ?r4
  case hy4 =>
   intro w' hSw
   have hq := hSw.1
   clear hSw
   go_simp
   with_reducible rfl
  try simp only [putL]
  refine wpAnyH_take (i := 4) (oi := { dst := some 22, op := Op.load 3 (Operand.tmp 21), type := 3, pos := "known.go:26", after := #[{ on := 3, ground := Ground.data }], guard := none }) (v := ?v5) rfl (by kernel_rfl) (by kernel_rfl) (by kernel_rfl) (fun _ _ _ h => h) (Or.inl ⟨by rfl, ?hy5⟩) hK0 ?r5
  case hy5 =>
   intro w' hSw
   have hq := hSw.1
   clear hSw
   go_simp
   with_reducible rfl
  try simp only [putL]
  refine wpAnyH_take (i := 5) (oi := { dst := some 23, op := Op.fieldAddr 138 (Operand.tmp 7) 0, type := 0, pos := "known.go:26", after := #[], guard := none }) (v := ?v6) rfl (by kernel_rfl) (by kernel_rfl) (by kernel_rfl) (fun _ _ _ h => h) (Or.inl ⟨by rfl, ?hy6⟩) hK0 ?r6
  case hy6 =>
   intro w' hSw
   have hq := hSw.1
   clear hSw
   go_simp
   with_reducible rfl
  try simp only [putL]
  refine wpAnyH_take (i := 6) (oi := { dst := some 24, op := Op.load 136 (Operand.tmp 23), type := 136, pos := "known.go:26", after := #[{ on := 5, ground := Ground.data }], guard := none }) (v := ?v7) rfl (by kernel_rfl) (by kernel_rfl) (by kernel_rfl) (fun _ _ _ h => h) (Or.inl ⟨by rfl, ?hy7⟩) hK0 ?r7
  case hy7 =>
   intro w' hSw
   have hq := hSw.1
   clear hSw
   go_simp
   with_reducible rfl
  try simp only [putL]
  refine wpAnyH_take (i := 7) (oi := { dst := some 25, op := Op.fieldAddr 86 (Operand.tmp 4) 0, type := 0, pos := "known.go:26", after := #[], guard := none }) (v := ?v8) rfl (by kernel_rfl) (by kernel_rfl) (by kernel_rfl) (fun _ _ _ h => h) (Or.inl ⟨by rfl, ?hy8⟩) hK0 ?r8
  case hy8 =>
   intro w' hSw
   have hq := hSw.1
   clear hSw
   go_simp
   with_reducible rfl
  try simp only [putL]
  refine wpAnyH_take (i := 8) (oi := { dst := some 26, op := Op.fieldAddr 30 (Operand.tmp 25) 2, type := 0, pos := "known.go:26", after := #[{ on := 7, ground := Ground.data }], guard := none }) (v := ?v9) rfl (by kernel_rfl) (by kernel_rfl) (by kernel_rfl) (fun _ _ _ h => h) (Or.inl ⟨by rfl, ?hy9⟩) hK0 ?r9
  case hy9 =>
   intro w' hSw
   have hq := hSw.1
   clear hSw
   go_simp
   with_reducible rfl
  try simp only [putL]
  refine wpAnyH_take (i := 9) (oi := { dst := some 27, op := Op.load 24 (Operand.tmp 26), type := 24, pos := "known.go:26", after := #[{ on := 8, ground := Ground.data }], guard := none }) (v := ?v10) rfl (by kernel_rfl) (by kernel_rfl) (by kernel_rfl) (fun _ _ _ h => h) (Or.inl ⟨by rfl, ?hy10⟩) hK0 ?r10
  case hy10 =>
   intro w' hSw
   have hq := hSw.1
   clear hSw
   go_simp
   with_reducible rfl
  try simp only [putL]
  refine wpAnyH_take (i := 12) (oi := { dst := some 30, op := Op.load 86 (Operand.tmp 4), type := 86, pos := "known.go:26", after := #[], guard := none }) (v := (vLg (.slice A n c) (.slice A1 n1 c1) (.map (some r)) (.slice A2 n2 c2) b k)) rfl (by kernel_rfl) (by kernel_rfl) (by kernel_rfl) (fun _ _ _ h => h) (Or.inl ⟨by rfl, ?hy11⟩) hK0 ?r11
  case hy11 =>
   intro w' hSw
   exact exec_load_row (by rfl) (by rfl) ((hSw.2.2.block _ (heap_lt R0.out)).trans R0.out) Try.underlying86 rfl infoLg
  try simp only [putL]
  refine wpAnyH_take (i := 13) (oi := { dst := some 31, op := Op.fieldAddr 100 (Operand.tmp 6) 1, type := 0, pos := "known.go:26", after := #[], guard := none }) (v := ?v12) rfl (by kernel_rfl) (by kernel_rfl) (by kernel_rfl) (fun _ _ _ h => h) (Or.inl ⟨by rfl, ?hy12⟩) hK0 ?r12
  case hy12 =>
   intro w' hSw
   have hq := hSw.1
   clear hSw
   go_simp
   with_reducible rfl
  try simp only [putL]
  refine wpAnyH_take (i := 14) (oi := { dst := some 32, op := Op.load 3 (Operand.tmp 31), type := 3, pos := "known.go:26", after := #[{ on := 13, ground := Ground.data }], guard := none }) (v := ?v13) rfl (by kernel_rfl) (by kernel_rfl) (by kernel_rfl) (fun _ _ _ h => h) (Or.inl ⟨by rfl, ?hy13⟩) hK0 ?r13
  case hy13 =>
   intro w' hSw
   have hq := hSw.1
   clear hSw
   go_simp
   with_reducible rfl
  try simp only [putL]
  refine wpAnyH_take (i := 17) (oi := { dst := some 35, op := Op.fieldAddr 86 (Operand.tmp 4) 0, type := 0, pos := "known.go:26", after := #[], guard := none }) (v := ?v14) rfl (by kernel_rfl) (by kernel_rfl) (by kernel_rfl) (fun _ _ _ h => h) (Or.inl ⟨by rfl, ?hy14⟩) hK0 ?r14
  case hy14 =>
   intro w' hSw
   have hq := hSw.1
   clear hSw
   go_simp
   with_reducible rfl
  try simp only [putL]
  refine wpAnyH_take (i := 18) (oi := { dst := some 36, op := Op.fieldAddr 30 (Operand.tmp 35) 4, type := 0, pos := "known.go:26", after := #[{ on := 17, ground := Ground.data }], guard := none }) (v := ?v15) rfl (by kernel_rfl) (by kernel_rfl) (by kernel_rfl) (fun _ _ _ h => h) (Or.inl ⟨by rfl, ?hy15⟩) hK0 ?r15
  case hy15 =>
   intro w' hSw
   have hq := hSw.1
   clear hSw
   go_simp
   with_reducible rfl
  try simp only [putL]
  refine wpAnyH_take (i := 19) (oi := { dst := some 37, op := Op.load 3 (Operand.tmp 36), type := 3, pos := "known.go:26", after := #[{ on := 18, ground := Ground.data }], guard := none }) (v := ?v16) rfl (by kernel_rfl) (by kernel_rfl) (by kernel_rfl) (fun _ _ _ h => h) (Or.inl ⟨by rfl, ?hy16⟩) hK0 ?r16
  case hy16 =>
   intro w' hSw
   have hq := hSw.1
   clear hSw
   go_simp
   with_reducible rfl
  try simp only [putL]
  refine wpAnyH_ready (rs := [10]) (by kernel_rfl) (by simp) ?_
  refine AllReadyH.cons rfl (fun K hK => ?_) AllReadyH.nil
  go_simp
  refine (HF.out _).mono ?_
  rintro e w17 ⟨rfl, hBw17⟩
  have hSw17 := held_step hBw17 hK0
  refine hK.out _ _ hSw17 (fun _ => ?_)
  clear hK K
  try simp only [putL]
  refine wpAnyH_take (i := 11) (oi := { dst := some 29, op := Op.binOp BinOp.add 3 (Operand.tmp 22) (Operand.tmp 28) 3, type := 3, pos := "known.go:26", after := #[{ on := 4, ground := Ground.data }, { on := 10, ground := Ground.data }], guard := none }) (v := ?v18) rfl (by kernel_rfl) (by kernel_rfl) (by kernel_rfl) (fun _ _ _ h => h) (Or.inl ⟨by rfl, ?hy18⟩) hSw17 ?r18
  case hy18 =>
   intro w' hSw
   have hq := hSw.1
   clear hSw
   go_simp
   with_reducible rfl
  try simp only [putL]
  refine wpAnyH_ready (rs := [15]) (by kernel_rfl) (by simp) ?_
  refine AllReadyH.cons rfl (fun K hK => ?_) AllReadyH.nil
  go_simp
  refine (HSK.out _).mono ?_
  rintro e w19 ⟨rfl, hBw19⟩
  have hSw19 := held_step hBw19 hSw17
  refine hK.out _ _ hSw19 (fun _ => ?_)
  clear hK K
  try simp only [putL]
  refine wpAnyH_take (i := 16) (oi := { dst := some 34, op := Op.binOp BinOp.add 3 (Operand.tmp 29) (Operand.tmp 33) 3, type := 3, pos := "known.go:26", after := #[{ on := 11, ground := Ground.data }, { on := 15, ground := Ground.data }], guard := none }) (v := ?v20) rfl (by kernel_rfl) (by kernel_rfl) (by kernel_rfl) (fun _ _ _ h => h) (Or.inl ⟨by rfl, ?hy20⟩) hSw19 ?r20
  case hy20 =>
   intro w' hSw
   have hq := hSw.1
   clear hSw
   go_simp
   with_reducible rfl
  try simp only [putL]
  refine wpAnyH_take (i := 20) (oi := { dst := some 38, op := Op.binOp BinOp.add 3 (Operand.tmp 34) (Operand.tmp 37) 3, type := 3, pos := "known.go:26", after := #[{ on := 16, ground := Ground.data }, { on := 19, ground := Ground.data }], guard := none }) (v := ?v21) rfl (by kernel_rfl) (by kernel_rfl) (by kernel_rfl) (fun _ _ _ h => h) (Or.inl ⟨by rfl, ?hy21⟩) hSw19 ?r21
  case hy21 =>
   intro w' hSw
   have hq := hSw.1
   clear hSw
   go_simp
   with_reducible rfl
  try simp only [putL]
  refine wpAnyH_take (i := 21) (oi := { dst := some 10, op := Op.assign (Operand.tmp 38), type := 3, pos := "known.go:26", after := #[{ on := 20, ground := Ground.data }, { on := 15, ground := Ground.chain }, { on := 0, ground := Ground.phase }, { on := 1, ground := Ground.phase }, { on := 2, ground := Ground.phase }, { on := 3, ground := Ground.phase }, { on := 4, ground := Ground.phase }, { on := 5, ground := Ground.phase }, { on := 6, ground := Ground.phase }, { on := 7, ground := Ground.phase }, { on := 8, ground := Ground.phase }, { on := 9, ground := Ground.phase }, { on := 10, ground := Ground.phase }, { on := 11, ground := Ground.phase }, { on := 12, ground := Ground.phase }, { on := 13, ground := Ground.phase }, { on := 14, ground := Ground.phase }, { on := 15, ground := Ground.phase }, { on := 16, ground := Ground.phase }, { on := 17, ground := Ground.phase }, { on := 18, ground := Ground.phase }, { on := 19, ground := Ground.phase }, { on := 20, ground := Ground.phase }], guard := none }) (v := ?v22) rfl (by kernel_rfl) (by kernel_rfl) (by kernel_rfl) (fun _ _ _ h => h) (Or.inl ⟨by rfl, ?hy22⟩) hSw19 ?r22
  case hy22 =>
   intro w' hSw
   have hq := hSw.1
   clear hSw
   go_simp
   with_reducible rfl
  try simp only [putL]
  refine wpAnyH_done (by kernel_rfl) ?_ _
  show Q _ _
  rw [HQ.out]
  simp only [putL]
  exact ⟨⟨_, _, _, _, _, _, _, _, _, _, _, _, _, _, _, _, _, _, _, _, _, rfl⟩, hSw19⟩
 case rest =>
  intro a' w3 hra
  rw [HQ.out] at hra
  clear HQ
  obtain ⟨⟨u18, u19, u20, u21, u22, u23, u24, u25, u26, u27, u28, u29, u30, u31, u32, u33, u34, u35, u36, u37, u38, rfl⟩, hh3⟩ := hra
  subst hA
  try simp only [putL]
  have hb3 : Below W.heap.size W w3 := hh3.2.2
  have hr4 := (hb3.block _ z4).trans R4.out
  have hr5 := (hb3.block _ z5).trans R5.out
  have hbw : Below w.heap.size w w3 := HB.out.trans (hb3.mono HB.out.size)
  have HR4 := Lib.hid hr4
  have HR5 := Lib.hid hr5
  have HBW := Lib.hid hbw
  clear hh3 hb3 hr4 hr5 hbw z0 z1 z2 z3 z4 z5 aq9 aq10 aq12 bq0 bq1 cq0 cq1 cq2 dq0 xq2 xq3
  have x0 := cell_of_row w3 _ 2 _ _ _ HR5.out
  have x1 := cell_of_row w3 _ 3 _ _ _ HR5.out
  simp only [List.getElem?_toArray, List.getElem?_cons_zero, List.getElem?_cons_succ] at x0 x1
  have z5 := heap_lt HR5.out
  go_upto_region 3 with fail
  refine name_act ?_
  intro A9 hA
  obtain ⟨Q, hQ⟩ : ∃ Q : Act → World → Prop, Q = fun a' w' => (∃ u39 u40 u41 u42 u43 u44 u45 u46, a' = ((((((((A9.put (some 39) u39).put (some 40) u40).put (some 41) u41).put (some 42) u42).put (some 43) u43).put (some 44) u44).put (some 45) u45).put (some 46) u46)) ∧ ∃ w5 : World, Below w3.heap.size w3 w5 ∧ w' = w5.setRow (w.heap.size + 1 + 1 + 1 + 1) #[I (max b.s0.lo (t.f0 + ev + sk + b.under)), I b.s0.hi] := ⟨_, rfl⟩
  have HQ := Lib.hid hQ
  clear hQ
  refine wp_between Q ?first2 ?rest2
  case first2 =>
   subst hA
   have hS0 : Apart (w.heap.size + 1 + 1 + 1 + 1) w3 w3.drew := apart_start _ _
   have hb0 : Below w3.heap.size w3 w3.drew := (Below.refl _ _).drew
   have hf0 : w3.drew.heap[w.heap.size + 1 + 1 + 1 + 1]? = _ := HR4.out
   have hFW : w.heap.size + 1 + 1 + 1 + 1 ≤ w3.heap.size := Nat.le_of_lt (heap_lt HR4.out)
   refine wp_region_held_drew (S := fun w' => Apart (w.heap.size + 1 + 1 + 1 + 1) w3 w') (by kernel_rfl) hS0 (fun _ => ?_)
   refine wpAnyH_take (i := 0) (oi := { dst := some 39, op := Op.fieldAddr 26 (Operand.tmp 9) 1, type := 0, pos := "known.go:27", after := #[], guard := none }) (v := ?v23) rfl (by kernel_rfl) (by kernel_rfl) (by kernel_rfl) (fun _ _ _ h => h) (Or.inl ⟨by rfl, ?hy23⟩) hS0 ?r23
   case hy23 =>
    intro w' hSw
    have hq := hSw.1
    clear hSw
    go_simp
    with_reducible rfl
   try simp only [putL]
   refine wpAnyH_take (i := 1) (oi := { dst := some 40, op := Op.load 3 (Operand.tmp 39), type := 3, pos := "known.go:27", after := #[{ on := 0, ground := Ground.data }], guard := none }) (v := ?v24) rfl (by kernel_rfl) (by kernel_rfl) (by kernel_rfl) (fun _ _ _ h => h) (Or.inl ⟨by rfl, ?hy24⟩) hS0 ?r24
   case hy24 =>
    intro w' hSw
    have hq := hSw.1
    clear hSw
    go_simp
    with_reducible rfl
   try simp only [putL]
   refine wpAnyH_take (i := 2) (oi := { dst := some 41, op := Op.move (Operand.tmp 10), type := 3, pos := "known.go:27", after := #[], guard := none }) (v := ?v25) rfl (by kernel_rfl) (by kernel_rfl) (by kernel_rfl) (fun _ _ _ h => h) (Or.inl ⟨by rfl, ?hy25⟩) hS0 ?r25
   case hy25 =>
    intro w' hSw
    have hq := hSw.1
    clear hSw
    go_simp
    with_reducible rfl
   try simp only [putL]
   refine wpAnyH_take (i := 5) (oi := { dst := some 44, op := Op.fieldAddr 26 (Operand.tmp 9) 2, type := 0, pos := "known.go:27", after := #[], guard := none }) (v := ?v26) rfl (by kernel_rfl) (by kernel_rfl) (by kernel_rfl) (fun _ _ _ h => h) (Or.inl ⟨by rfl, ?hy26⟩) hS0 ?r26
   case hy26 =>
    intro w' hSw
    have hq := hSw.1
    clear hSw
    go_simp
    with_reducible rfl
   try simp only [putL]
   refine wpAnyH_take (i := 6) (oi := { dst := some 45, op := Op.load 3 (Operand.tmp 44), type := 3, pos := "known.go:27", after := #[{ on := 5, ground := Ground.data }], guard := none }) (v := ?v27) rfl (by kernel_rfl) (by kernel_rfl) (by kernel_rfl) (fun _ _ _ h => h) (Or.inl ⟨by rfl, ?hy27⟩) hS0 ?r27
   case hy27 =>
    intro w' hSw
    have hq := hSw.1
    clear hSw
    go_simp
    with_reducible rfl
   try simp only [putL]
   refine wpAnyH_ready (rs := [3]) (by kernel_rfl) (by simp) ?_
   refine AllReadyH.cons rfl (fun K hK => ?_) AllReadyH.nil
   go_simp
   refine hK.out _ _ (apart_step hFW (show Below w3.drew.heap.size w3.drew _ from (Below.refl _ _).alloc (Nat.le_refl _) _) hS0) (fun _ => ?_)
   clear hK K
   try simp only [putL]
   refine name_anyH ?_
   intro w28 hWw28
   have hAw28 : Below w3.drew.heap.size w3.drew w28 := by rw [hWw28]; exact (Below.refl _ _).alloc (Nat.le_refl _) _
   have hslw28 : Sl w28 w28.heap.size 1 (.slice (some ⟨w3.drew.heap.size, 0, none⟩) 1 1) 1 [I (t.f0 + ev + sk + b.under)] := sl_new (t := 3) rfl (by unfold maxLen; omega) (by rw [hWw28]; simp) (by rw [hWw28]; exact heap_at _ _ rfl)
   have hSw28 := apart_step hFW hAw28 hS0
   have fFw28 := (hAw28.block _ (heap_lt hf0)).trans hf0
   have mbww28 := hb0.trans (hAw28.mono hb0.size)
   clear hWw28
   refine wpAnyH_ready (rs := [4]) (by kernel_rfl) (by simp) ?_
   refine AllReadyH.cons rfl (fun K hK => ?_) AllReadyH.nil
   go_simp
   refine (greatest_any _ _ _ _ hslw28).mono ?_
   rintro e w29 ⟨rfl, hBw29⟩
   have hSw29 := apart_step hFW hBw29 hSw28
   have fFw29 := (hBw29.block _ (heap_lt fFw28)).trans fFw28
   have mbww29 := mbww28.trans (hBw29.mono mbww28.size)
   refine hK.out _ _ hSw29 (fun _ => ?_)
   clear hK K
   try simp only [putL]
   refine wpAnyH_take (i := 7) (oi := { dst := some 46, op := Op.build 24 #[(0, Operand.tmp 43), (1, Operand.tmp 45)], type := 24, pos := "known.go:27", after := #[{ on := 4, ground := Ground.data }, { on := 6, ground := Ground.data }], guard := none }) (v := ?v30) rfl (by kernel_rfl) (by kernel_rfl) (by kernel_rfl) (fun _ _ _ h => h) (Or.inl ⟨by rfl, ?hy30⟩) hSw29 ?r30
   case hy30 =>
    intro w' hSw
    have hq := hSw.1
    clear hSw
    go_simp
    with_reducible rfl
   try simp only [putL]
   refine wpAnyH_ready (rs := [8]) (by kernel_rfl) (by simp) ?_
   refine AllReadyH.cons rfl (fun K hK => ?_) AllReadyH.nil
   rw [if_pos (by rfl)]
   refine wp_store_row 24 _ _ rfl (w.heap.size + 1 + 1 + 1 + 1) (#[I (max b.s0.lo (t.f0 + ev + sk + b.under)), I b.s0.hi]) rfl rfl _ _ fFw29 infoSp rfl (by simp [Value.oneCell']) ?_
   refine hK.out _ _ (apart_row hSw29 _) (fun _ => ?_)
   clear hK K
   try simp only [putL]
   refine wpAnyH_done (by kernel_rfl) ?_ _
   show Q _ _
   rw [HQ.out]
   simp only [putL]
   exact ⟨⟨_, _, _, _, _, _, _, _, rfl⟩, w29, mbww29, rfl⟩
  case rest2 =>
   intro a' w6 hra
   rw [HQ.out] at hra
   clear HQ
   obtain ⟨⟨u39, u40, u41, u42, u43, u44, u45, u46, rfl⟩, w5, hb5, hw6⟩ := hra
   subst hA
   try simp only [putL]
   have HW6 := Lib.hid hw6
   have HB5 := Lib.hid hb5
   clear hw6 hb5 x0 x1
   go_wp2_with fail
   have hrow := (HB5.out.block _ (heap_lt HR4.out)).trans HR4.out
   have hrow6 : w6.heap[w.heap.size + 1 + 1 + 1 + 1]? = some (.cells #[I (max b.s0.lo (t.f0 + ev + sk + b.under)), I b.s0.hi] 24 (0, 0)) := by rw [HW6.out]; exact setRow_heap _ _ _ _ _ _ hrow
   have hbq : Below w.heap.size w w6 := by rw [HW6.out]; exact below_setRow (HBW.out.trans (HB5.out.mono HBW.out.size)) (by omega) _
   exact bodyPost_ret (v := vSp ⟨max b.s0.lo (t.f0 + ev + sk + b.under), b.s0.hi⟩) (results_cell_row rfl _ w6 (w.heap.size + 1 + 1 + 1 + 1) 24 _ (0, 0) _ rfl hrow6 Try.underlying24 rfl infoSp) rfl ⟨rfl, hbq⟩
end Go.Proofs.Ytjgpghaofhcfnaa
namespace Go.Proofs.Ytjgpghaofhcfnaa
open Go.RowKit
set_option maxRecDepth 100000 in
set_option maxHeartbeats 8000000 in
theorem window0hi_any (b : Ld.Bk) (t : Ld.Tr) (T D R : Value) (r : Nat) (k : Ld.Sp × Ld.Sp) (hour load : Int) (w : World) (hT : ∃ A n c, T = .slice A n c) (hD : ∃ A n c, D = .slice A n c) (hR : ∃ A n c, R = .slice A n c)
 (hv : Ld.valid b = true) (ht : TrOk t) (h0 : 0 ≤ load) (h1 : load ≤ 200) :
 Calls Try.prog 106 #[vLg T D (.map (some r)) R b k, vTr t, .agg #[I hour, I 0, I load], vHigh] w fun e w' => e = .returned (vSp (Ld.window b t 0 load b.empty.hi)) ∧ Below w.heap.size w w' := by
 obtain ⟨A, n, c, rfl⟩ := hT
 obtain ⟨A1, n1, c1, rfl⟩ := hD
 obtain ⟨A2, n2, c2, rfl⟩ := hR
 obtain ⟨hp1, -, hp3, hp4, -⟩ := Ld.valid_parts hv
 have hdr := Ld.draught_bd hp4
 obtain ⟨h2, h3⟩ : 0 ≤ b.empty.hi ∧ b.empty.hi ≤ 40 := by omega
 have HF : Hid (∀ W, Calls Try.prog 113 #[vSp b.empty] W fun e w' => e = .returned (I b.empty.hi) ∧ Below W.heap.size W w') := Lib.hid fun W => high1_any b.empty W
 obtain ⟨ev, hev⟩ : ∃ ev, b.empty.hi = ev := ⟨_, rfl⟩
 rw [hev] at HF h2 h3 ⊢
 have HEV := Lib.hid hev
 clear hev hdr
 obtain ⟨-, -, s1, s2, u1, u2, -⟩ := Ld.sized_bd hp1
 have hfl := Ld.floor_bd hp3 0
 rw [show Ld.shore b 0 = b.s0 from rfl] at hfl
 obtain ⟨-, -, -, l1, l2, l3⟩ := hfl
 obtain ⟨q1, q2, q3, q4⟩ := ht
 have HSK : Hid (∀ W, Calls Try.prog 111 #[vLg (.slice A n c) (.slice A1 n1 c1) (.map (some r)) (.slice A2 n2 c2) b k, I load] W fun e w' => e = .returned (I (Ld.sunk b load)) ∧ Below W.heap.size W w') :=
  Lib.hid fun W => sunk_any b _ _ _ r k load W ⟨_, _, _, rfl⟩ ⟨_, _, _, rfl⟩ ⟨_, _, _, rfl⟩ h0 h1 s1 s2
 have k0 : 0 ≤ Ld.sunk b load := Int.ediv_nonneg (by omega) (by omega)
 have k1 : Ld.sunk b load ≤ 220 := Int.le_trans (Int.ediv_le_self _ (by omega)) (by omega)
 have hwin : Ld.window b t 0 load ev = ⟨max b.s0.lo (t.f0 + ev + Ld.sunk b load + b.under), b.s0.hi⟩ := rfl
 rw [hwin]
 clear hwin
 generalize Ld.sunk b load = sk at HSK k0 k1 ⊢
 have e1 : IntKind.i64.wrap (t.f0 + ev) = t.f0 + ev := IntWalk.i64_in _ (by omega)
 have e2 : IntKind.i64.wrap (t.f0 + ev + sk) = t.f0 + ev + sk := IntWalk.i64_in _ (by omega)
 have e3 : IntKind.i64.wrap (t.f0 + ev + sk + b.under) = t.f0 + ev + sk + b.under := IntWalk.i64_in _ (by omega)
 clear hp1 hp3 hp4 hv
 go_enter Try.func106, Try.ntmps106
 go_wp2_with fail
 refine name_world ?_
 intro W hW
 have hB : Below w.heap.size w W := by rw [hW]; exact (((((Below.refl _ _).alloc (Nat.le_refl _) _).alloc (by simp) _).alloc (by simp <;> omega) _).alloc (by simp <;> omega) _).alloc (by simp <;> omega) _ |>.alloc (by simp <;> omega) _
 have r0 : W.heap[w.heap.size]? = some (oLg (.slice A n c) (.slice A1 n1 c1) (.map (some r)) (.slice A2 n2 c2) b k) := by rw [hW]; exact (Below.heap_alloc _ _ _ (by simp <;> omega)).trans ((Below.heap_alloc _ _ _ (by simp <;> omega)).trans ((Below.heap_alloc _ _ _ (by simp <;> omega)).trans ((Below.heap_alloc _ _ _ (by simp <;> omega)).trans ((Below.heap_alloc _ _ _ (by simp)).trans (heap_at _ _ rfl)))))
 have r1 : W.heap[w.heap.size + 1]? = some (.cells #[I t.f0, I t.f1] 112 (0, 0)) := by rw [hW]; exact (Below.heap_alloc _ _ _ (by simp <;> omega)).trans ((Below.heap_alloc _ _ _ (by simp <;> omega)).trans ((Below.heap_alloc _ _ _ (by simp <;> omega)).trans ((Below.heap_alloc _ _ _ (by simp <;> omega)).trans (heap_at _ _ (by simp)))))
 have r2 : W.heap[w.heap.size + 1 + 1]? = some (.cells #[I hour, I 0, I load] 100 (0, 0)) := by rw [hW]; exact (Below.heap_alloc _ _ _ (by simp <;> omega)).trans ((Below.heap_alloc _ _ _ (by simp <;> omega)).trans ((Below.heap_alloc _ _ _ (by simp <;> omega)).trans (heap_at _ _ (by simp))))
 have r3 : W.heap[w.heap.size + 1 + 1 + 1]? = some (.cells #[.func (.func 113) #[] #[]] 138 (0, 0)) := by rw [hW]; exact (Below.heap_alloc _ _ _ (by simp <;> omega)).trans ((Below.heap_alloc _ _ _ (by simp <;> omega)).trans (heap_at _ _ (by simp)))
 have r4 : W.heap[w.heap.size + 1 + 1 + 1 + 1]? = some (.cells #[I 0, I 0] 24 (0, 0)) := by rw [hW]; exact (Below.heap_alloc _ _ _ (by simp <;> omega)).trans (heap_at _ _ (by simp))
 have r5 : W.heap[w.heap.size + 1 + 1 + 1 + 1 + 1]? = some (.cells #[I b.s0.floor.lo, I b.s0.floor.hi, I b.s0.lo, I b.s0.hi] 26 (0, 0)) := by rw [hW]; exact heap_at _ _ (by simp)
 have z0 := heap_lt r0
 have z1 := heap_lt r1
 have z2 := heap_lt r2
 have z3 := heap_lt r3
 have z4 := heap_lt r4
 have z5 := heap_lt r5
 have aq9 := cell_of_row W _ 9 _ _ _ r0
 have aq10 := cell_of_row W _ 10 _ _ _ r0
 have aq12 := cell_of_row W _ 12 _ _ _ r0
 have bq0 := cell_of_row W _ 0 _ _ _ r1
 have bq1 := cell_of_row W _ 1 _ _ _ r1
 have cq0 := cell_of_row W _ 0 _ _ _ r2
 have cq1 := cell_of_row W _ 1 _ _ _ r2
 have cq2 := cell_of_row W _ 2 _ _ _ r2
 have dq0 := cell_of_row W _ 0 _ _ _ r3
 have xq2 := cell_of_row W _ 2 _ _ _ r5
 have xq3 := cell_of_row W _ 3 _ _ _ r5
 simp only [List.getElem?_toArray, List.getElem?_cons_zero, List.getElem?_cons_succ] at aq9 aq10 aq12 bq0 bq1 cq0 cq1 cq2 dq0 xq2 xq3
 have HB := Lib.hid hB
 have R0 := Lib.hid r0
 have R4 := Lib.hid r4
 have R5 := Lib.hid r5
 clear hW hB r0 r1 r2 r3 r4 r5
 refine name_act ?_
 intro A9 hA
 obtain ⟨Q, hQ⟩ : ∃ Q : Act → World → Prop, Q = fun a' w' => (∃ u18 u19 u20 u21 u22 u23 u24 u25 u26 u27 u28 u29 u30 u31 u32 u33 u34 u35 u36 u37 u38, a' = ((((((((((((((((((((((A9.put (some 18) u18).put (some 19) u19).put (some 20) u20).put (some 21) u21).put (some 22) u22).put (some 23) u23).put (some 24) u24).put (some 25) u25).put (some 26) u26).put (some 27) u27).put (some 28) u28).put (some 29) u29).put (some 30) u30).put (some 31) u31).put (some 32) u32).put (some 33) u33).put (some 34) u34).put (some 35) u35).put (some 36) u36).put (some 37) u37).put (some 38) u38).put (some 10) (I (t.f0 + ev + sk + b.under)))) ∧ Held W w' := ⟨_, rfl⟩
 have HQ := Lib.hid hQ
 clear hQ
 refine wp_between Q ?first ?rest
 case first =>
  subst hA
  have hK0 : Held W W.drew := held_start W
  refine wp_region_held_drew (S := fun w' => Held W w') (by kernel_rfl) hK0 (fun _ => ?_)
  refine wpAnyH_take (i := 0) (oi := { dst := some 18, op := Op.fieldAddr 100 (Operand.tmp 6) 0, type := 0, pos := "known.go:26", after := #[], guard := none }) (v := ?v1) rfl (by kernel_rfl) (by kernel_rfl) (by kernel_rfl) (fun _ _ _ h => h) (Or.inl ⟨by rfl, ?hy1⟩) hK0 ?r1
  case hy1 =>
   intro w' hSw
   have hq := hSw.1
   clear hSw
   go_simp
   with_reducible rfl
  try simp only [putL]
  refine wpAnyH_take (i := 1) (oi := { dst := some 19, op := Op.fieldAddr 96 (Operand.tmp 18) 1, type := 0, pos := "known.go:26", after := #[{ on := 0, ground := Ground.data }], guard := none }) (v := ?v2) rfl (by kernel_rfl) (by kernel_rfl) (by kernel_rfl) (fun _ _ _ h => h) (Or.inl ⟨by rfl, ?hy2⟩) hK0 ?r2
  case hy2 =>
   intro w' hSw
   have hq := hSw.1
   clear hSw
   go_simp
   with_reducible rfl
  try simp only [putL]
  refine wpAnyH_take (i := 2) (oi := { dst := some 20, op := Op.load 3 (Operand.tmp 19), type := 3, pos := "known.go:26", after := #[{ on := 1, ground := Ground.data }], guard := none }) (v := ?v3) rfl (by kernel_rfl) (by kernel_rfl) (by kernel_rfl) (fun _ _ _ h => h) (Or.inl ⟨by rfl, ?hy3⟩) hK0 ?r3
  case hy3 =>
   intro w' hSw
   have hq := hSw.1
   clear hSw
   go_simp
   with_reducible rfl
  try simp only [putL]
  refine wpAnyH_take (i := 3) (oi := { dst := some 21, op := Op.indexAddr 112 (Operand.tmp 5) (Operand.tmp 20), type := 0, pos := "known.go:26", after := #[{ on := 2, ground := Ground.data }], guard := none }) (v := ?v4) rfl (by kernel_rfl) (by kernel_rfl) (by kernel_rfl) (fun _ _ _ h => h) (Or.inl ⟨by rfl, ?hy4⟩) hK0 ?r4
  case hy4 =>
   intro w' hSw
   have hq := hSw.1
   clear hSw
   go_simp
   with_reducible rfl
  try simp only [putL]
  refine wpAnyH_take (i := 4) (oi := { dst := some 22, op := Op.load 3 (Operand.tmp 21), type := 3, pos := "known.go:26", after := #[{ on := 3, ground := Ground.data }], guard := none }) (v := ?v5) rfl (by kernel_rfl) (by kernel_rfl) (by kernel_rfl) (fun _ _ _ h => h) (Or.inl ⟨by rfl, ?hy5⟩) hK0 ?r5
  case hy5 =>
   intro w' hSw
   have hq := hSw.1
   clear hSw
   go_simp
   with_reducible rfl
  try simp only [putL]
  refine wpAnyH_take (i := 5) (oi := { dst := some 23, op := Op.fieldAddr 138 (Operand.tmp 7) 0, type := 0, pos := "known.go:26", after := #[], guard := none }) (v := ?v6) rfl (by kernel_rfl) (by kernel_rfl) (by kernel_rfl) (fun _ _ _ h => h) (Or.inl ⟨by rfl, ?hy6⟩) hK0 ?r6
  case hy6 =>
   intro w' hSw
   have hq := hSw.1
   clear hSw
   go_simp
   with_reducible rfl
  try simp only [putL]
  refine wpAnyH_take (i := 6) (oi := { dst := some 24, op := Op.load 136 (Operand.tmp 23), type := 136, pos := "known.go:26", after := #[{ on := 5, ground := Ground.data }], guard := none }) (v := ?v7) rfl (by kernel_rfl) (by kernel_rfl) (by kernel_rfl) (fun _ _ _ h => h) (Or.inl ⟨by rfl, ?hy7⟩) hK0 ?r7
  case hy7 =>
   intro w' hSw
   have hq := hSw.1
   clear hSw
   go_simp
   with_reducible rfl
  try simp only [putL]
  refine wpAnyH_take (i := 7) (oi := { dst := some 25, op := Op.fieldAddr 86 (Operand.tmp 4) 0, type := 0, pos := "known.go:26", after := #[], guard := none }) (v := ?v8) rfl (by kernel_rfl) (by kernel_rfl) (by kernel_rfl) (fun _ _ _ h => h) (Or.inl ⟨by rfl, ?hy8⟩) hK0 ?r8
  case hy8 =>
   intro w' hSw
   have hq := hSw.1
   clear hSw
   go_simp
   with_reducible rfl
  try simp only [putL]
  refine wpAnyH_take (i := 8) (oi := { dst := some 26, op := Op.fieldAddr 30 (Operand.tmp 25) 2, type := 0, pos := "known.go:26", after := #[{ on := 7, ground := Ground.data }], guard := none }) (v := ?v9) rfl (by kernel_rfl) (by kernel_rfl) (by kernel_rfl) (fun _ _ _ h => h) (Or.inl ⟨by rfl, ?hy9⟩) hK0 ?r9
  case hy9 =>
   intro w' hSw
   have hq := hSw.1
   clear hSw
   go_simp
   with_reducible rfl
  try simp only [putL]
  refine wpAnyH_take (i := 9) (oi := { dst := some 27, op := Op.load 24 (Operand.tmp 26), type := 24, pos := "known.go:26", after := #[{ on := 8, ground := Ground.data }], guard := none }) (v := ?v10) rfl (by kernel_rfl) (by kernel_rfl) (by kernel_rfl) (fun _ _ _ h => h) (Or.inl ⟨by rfl, ?hy10⟩) hK0 ?r10
  case hy10 =>
   intro w' hSw
   have hq := hSw.1
   clear hSw
   go_simp
   with_reducible rfl
  try simp only [putL]
  refine wpAnyH_take (i := 12) (oi := { dst := some 30, op := Op.load 86 (Operand.tmp 4), type := 86, pos := "known.go:26", after := #[], guard := none }) (v := (vLg (.slice A n c) (.slice A1 n1 c1) (.map (some r)) (.slice A2 n2 c2) b k)) rfl (by kernel_rfl) (by kernel_rfl) (by kernel_rfl) (fun _ _ _ h => h) (Or.inl ⟨by rfl, ?hy11⟩) hK0 ?r11
  case hy11 =>
   intro w' hSw
   exact exec_load_row (by rfl) (by rfl) ((hSw.2.2.block _ (heap_lt R0.out)).trans R0.out) Try.underlying86 rfl infoLg
  try simp only [putL]
  refine wpAnyH_take (i := 13) (oi := { dst := some 31, op := Op.fieldAddr 100 (Operand.tmp 6) 1, type := 0, pos := "known.go:26", after := #[], guard := none }) (v := ?v12) rfl (by kernel_rfl) (by kernel_rfl) (by kernel_rfl) (fun _ _ _ h => h) (Or.inl ⟨by rfl, ?hy12⟩) hK0 ?r12
  case hy12 =>
   intro w' hSw
   have hq := hSw.1
   clear hSw
   go_simp
   with_reducible rfl
  try simp only [putL]
  refine wpAnyH_take (i := 14) (oi := { dst := some 32, op := Op.load 3 (Operand.tmp 31), type := 3, pos := "known.go:26", after := #[{ on := 13, ground := Ground.data }], guard := none }) (v := ?v13) rfl (by kernel_rfl) (by kernel_rfl) (by kernel_rfl) (fun _ _ _ h => h) (Or.inl ⟨by rfl, ?hy13⟩) hK0 ?r13
  case hy13 =>
   intro w' hSw
   have hq := hSw.1
   clear hSw
   go_simp
   with_reducible rfl
  try simp only [putL]
  refine wpAnyH_take (i := 17) (oi := { dst := some 35, op := Op.fieldAddr 86 (Operand.tmp 4) 0, type := 0, pos := "known.go:26", after := #[], guard := none }) (v := ?v14) rfl (by kernel_rfl) (by kernel_rfl) (by kernel_rfl) (fun _ _ _ h => h) (Or.inl ⟨by rfl, ?hy14⟩) hK0 ?r14
  case hy14 =>
   intro w' hSw
   have hq := hSw.1
   clear hSw
   go_simp
   with_reducible rfl
  try simp only [putL]
  refine wpAnyH_take (i := 18) (oi := { dst := some 36, op := Op.fieldAddr 30 (Operand.tmp 35) 4, type := 0, pos := "known.go:26", after := #[{ on := 17, ground := Ground.data }], guard := none }) (v := ?v15) rfl (by kernel_rfl) (by kernel_rfl) (by kernel_rfl) (fun _ _ _ h => h) (Or.inl ⟨by rfl, ?hy15⟩) hK0 ?r15
  case hy15 =>
   intro w' hSw
   have hq := hSw.1
   clear hSw
   go_simp
   with_reducible rfl
  try simp only [putL]
  refine wpAnyH_take (i := 19) (oi := { dst := some 37, op := Op.load 3 (Operand.tmp 36), type := 3, pos := "known.go:26", after := #[{ on := 18, ground := Ground.data }], guard := none }) (v := ?v16) rfl (by kernel_rfl) (by kernel_rfl) (by kernel_rfl) (fun _ _ _ h => h) (Or.inl ⟨by rfl, ?hy16⟩) hK0 ?r16
  case hy16 =>
   intro w' hSw
   have hq := hSw.1
   clear hSw
   go_simp
   with_reducible rfl
  try simp only [putL]
  refine wpAnyH_ready (rs := [10]) (by kernel_rfl) (by simp) ?_
  refine AllReadyH.cons rfl (fun K hK => ?_) AllReadyH.nil
  go_simp
  refine (HF.out _).mono ?_
  rintro e w17 ⟨rfl, hBw17⟩
  have hSw17 := held_step hBw17 hK0
  refine hK.out _ _ hSw17 (fun _ => ?_)
  clear hK K
  try simp only [putL]
  refine wpAnyH_take (i := 11) (oi := { dst := some 29, op := Op.binOp BinOp.add 3 (Operand.tmp 22) (Operand.tmp 28) 3, type := 3, pos := "known.go:26", after := #[{ on := 4, ground := Ground.data }, { on := 10, ground := Ground.data }], guard := none }) (v := ?v18) rfl (by kernel_rfl) (by kernel_rfl) (by kernel_rfl) (fun _ _ _ h => h) (Or.inl ⟨by rfl, ?hy18⟩) hSw17 ?r18
  case hy18 =>
   intro w' hSw
   have hq := hSw.1
   clear hSw
   go_simp
   with_reducible rfl
  try simp only [putL]
  refine wpAnyH_ready (rs := [15]) (by kernel_rfl) (by simp) ?_
  refine AllReadyH.cons rfl (fun K hK => ?_) AllReadyH.nil
  go_simp
  refine (HSK.out _).mono ?_
  rintro e w19 ⟨rfl, hBw19⟩
  have hSw19 := held_step hBw19 hSw17
  refine hK.out _ _ hSw19 (fun _ => ?_)
  clear hK K
  try simp only [putL]
  refine wpAnyH_take (i := 16) (oi := { dst := some 34, op := Op.binOp BinOp.add 3 (Operand.tmp 29) (Operand.tmp 33) 3, type := 3, pos := "known.go:26", after := #[{ on := 11, ground := Ground.data }, { on := 15, ground := Ground.data }], guard := none }) (v := ?v20) rfl (by kernel_rfl) (by kernel_rfl) (by kernel_rfl) (fun _ _ _ h => h) (Or.inl ⟨by rfl, ?hy20⟩) hSw19 ?r20
  case hy20 =>
   intro w' hSw
   have hq := hSw.1
   clear hSw
   go_simp
   with_reducible rfl
  try simp only [putL]
  refine wpAnyH_take (i := 20) (oi := { dst := some 38, op := Op.binOp BinOp.add 3 (Operand.tmp 34) (Operand.tmp 37) 3, type := 3, pos := "known.go:26", after := #[{ on := 16, ground := Ground.data }, { on := 19, ground := Ground.data }], guard := none }) (v := ?v21) rfl (by kernel_rfl) (by kernel_rfl) (by kernel_rfl) (fun _ _ _ h => h) (Or.inl ⟨by rfl, ?hy21⟩) hSw19 ?r21
  case hy21 =>
   intro w' hSw
   have hq := hSw.1
   clear hSw
   go_simp
   with_reducible rfl
  try simp only [putL]
  refine wpAnyH_take (i := 21) (oi := { dst := some 10, op := Op.assign (Operand.tmp 38), type := 3, pos := "known.go:26", after := #[{ on := 20, ground := Ground.data }, { on := 15, ground := Ground.chain }, { on := 0, ground := Ground.phase }, { on := 1, ground := Ground.phase }, { on := 2, ground := Ground.phase }, { on := 3, ground := Ground.phase }, { on := 4, ground := Ground.phase }, { on := 5, ground := Ground.phase }, { on := 6, ground := Ground.phase }, { on := 7, ground := Ground.phase }, { on := 8, ground := Ground.phase }, { on := 9, ground := Ground.phase }, { on := 10, ground := Ground.phase }, { on := 11, ground := Ground.phase }, { on := 12, ground := Ground.phase }, { on := 13, ground := Ground.phase }, { on := 14, ground := Ground.phase }, { on := 15, ground := Ground.phase }, { on := 16, ground := Ground.phase }, { on := 17, ground := Ground.phase }, { on := 18, ground := Ground.phase }, { on := 19, ground := Ground.phase }, { on := 20, ground := Ground.phase }], guard := none }) (v := ?v22) rfl (by kernel_rfl) (by kernel_rfl) (by kernel_rfl) (fun _ _ _ h => h) (Or.inl ⟨by rfl, ?hy22⟩) hSw19 ?r22
  case hy22 =>
   intro w' hSw
   have hq := hSw.1
   clear hSw
   go_simp
   with_reducible rfl
  try simp only [putL]
  refine wpAnyH_done (by kernel_rfl) ?_ _
  show Q _ _
  rw [HQ.out]
  simp only [putL]
  exact ⟨⟨_, _, _, _, _, _, _, _, _, _, _, _, _, _, _, _, _, _, _, _, _, rfl⟩, hSw19⟩
 case rest =>
  intro a' w3 hra
  rw [HQ.out] at hra
  clear HQ
  obtain ⟨⟨u18, u19, u20, u21, u22, u23, u24, u25, u26, u27, u28, u29, u30, u31, u32, u33, u34, u35, u36, u37, u38, rfl⟩, hh3⟩ := hra
  subst hA
  try simp only [putL]
  have hb3 : Below W.heap.size W w3 := hh3.2.2
  have hr4 := (hb3.block _ z4).trans R4.out
  have hr5 := (hb3.block _ z5).trans R5.out
  have hbw : Below w.heap.size w w3 := HB.out.trans (hb3.mono HB.out.size)
  have HR4 := Lib.hid hr4
  have HR5 := Lib.hid hr5
  have HBW := Lib.hid hbw
  clear hh3 hb3 hr4 hr5 hbw z0 z1 z2 z3 z4 z5 aq9 aq10 aq12 bq0 bq1 cq0 cq1 cq2 dq0 xq2 xq3
  have x0 := cell_of_row w3 _ 2 _ _ _ HR5.out
  have x1 := cell_of_row w3 _ 3 _ _ _ HR5.out
  simp only [List.getElem?_toArray, List.getElem?_cons_zero, List.getElem?_cons_succ] at x0 x1
  have z5 := heap_lt HR5.out
  go_upto_region 3 with fail
  refine name_act ?_
  intro A9 hA
  obtain ⟨Q, hQ⟩ : ∃ Q : Act → World → Prop, Q = fun a' w' => (∃ u39 u40 u41 u42 u43 u44 u45 u46, a' = ((((((((A9.put (some 39) u39).put (some 40) u40).put (some 41) u41).put (some 42) u42).put (some 43) u43).put (some 44) u44).put (some 45) u45).put (some 46) u46)) ∧ ∃ w5 : World, Below w3.heap.size w3 w5 ∧ w' = w5.setRow (w.heap.size + 1 + 1 + 1 + 1) #[I (max b.s0.lo (t.f0 + ev + sk + b.under)), I b.s0.hi] := ⟨_, rfl⟩
  have HQ := Lib.hid hQ
  clear hQ
  refine wp_between Q ?first2 ?rest2
  case first2 =>
   subst hA
   have hS0 : Apart (w.heap.size + 1 + 1 + 1 + 1) w3 w3.drew := apart_start _ _
   have hb0 : Below w3.heap.size w3 w3.drew := (Below.refl _ _).drew
   have hf0 : w3.drew.heap[w.heap.size + 1 + 1 + 1 + 1]? = _ := HR4.out
   have hFW : w.heap.size + 1 + 1 + 1 + 1 ≤ w3.heap.size := Nat.le_of_lt (heap_lt HR4.out)
   refine wp_region_held_drew (S := fun w' => Apart (w.heap.size + 1 + 1 + 1 + 1) w3 w') (by kernel_rfl) hS0 (fun _ => ?_)
   refine wpAnyH_take (i := 0) (oi := { dst := some 39, op := Op.fieldAddr 26 (Operand.tmp 9) 1, type := 0, pos := "known.go:27", after := #[], guard := none }) (v := ?v23) rfl (by kernel_rfl) (by kernel_rfl) (by kernel_rfl) (fun _ _ _ h => h) (Or.inl ⟨by rfl, ?hy23⟩) hS0 ?r23
   case hy23 =>
    intro w' hSw
    have hq := hSw.1
    clear hSw
    go_simp
    with_reducible rfl
   try simp only [putL]
   refine wpAnyH_take (i := 1) (oi := { dst := some 40, op := Op.load 3 (Operand.tmp 39), type := 3, pos := "known.go:27", after := #[{ on := 0, ground := Ground.data }], guard := none }) (v := ?v24) rfl (by kernel_rfl) (by kernel_rfl) (by kernel_rfl) (fun _ _ _ h => h) (Or.inl ⟨by rfl, ?hy24⟩) hS0 ?r24
   case hy24 =>
    intro w' hSw
    have hq := hSw.1
    clear hSw
    go_simp
    with_reducible rfl
   try simp only [putL]
   refine wpAnyH_take (i := 2) (oi := { dst := some 41, op := Op.move (Operand.tmp 10), type := 3, pos := "known.go:27", after := #[], guard := none }) (v := ?v25) rfl (by kernel_rfl) (by kernel_rfl) (by kernel_rfl) (fun _ _ _ h => h) (Or.inl ⟨by rfl, ?hy25⟩) hS0 ?r25
   case hy25 =>
    intro w' hSw
    have hq := hSw.1
    clear hSw
    go_simp
    with_reducible rfl
   try simp only [putL]
   refine wpAnyH_take (i := 5) (oi := { dst := some 44, op := Op.fieldAddr 26 (Operand.tmp 9) 2, type := 0, pos := "known.go:27", after := #[], guard := none }) (v := ?v26) rfl (by kernel_rfl) (by kernel_rfl) (by kernel_rfl) (fun _ _ _ h => h) (Or.inl ⟨by rfl, ?hy26⟩) hS0 ?r26
   case hy26 =>
    intro w' hSw
    have hq := hSw.1
    clear hSw
    go_simp
    with_reducible rfl
   try simp only [putL]
   refine wpAnyH_take (i := 6) (oi := { dst := some 45, op := Op.load 3 (Operand.tmp 44), type := 3, pos := "known.go:27", after := #[{ on := 5, ground := Ground.data }], guard := none }) (v := ?v27) rfl (by kernel_rfl) (by kernel_rfl) (by kernel_rfl) (fun _ _ _ h => h) (Or.inl ⟨by rfl, ?hy27⟩) hS0 ?r27
   case hy27 =>
    intro w' hSw
    have hq := hSw.1
    clear hSw
    go_simp
    with_reducible rfl
   try simp only [putL]
   refine wpAnyH_ready (rs := [3]) (by kernel_rfl) (by simp) ?_
   refine AllReadyH.cons rfl (fun K hK => ?_) AllReadyH.nil
   go_simp
   refine hK.out _ _ (apart_step hFW (show Below w3.drew.heap.size w3.drew _ from (Below.refl _ _).alloc (Nat.le_refl _) _) hS0) (fun _ => ?_)
   clear hK K
   try simp only [putL]
   refine name_anyH ?_
   intro w28 hWw28
   have hAw28 : Below w3.drew.heap.size w3.drew w28 := by rw [hWw28]; exact (Below.refl _ _).alloc (Nat.le_refl _) _
   have hslw28 : Sl w28 w28.heap.size 1 (.slice (some ⟨w3.drew.heap.size, 0, none⟩) 1 1) 1 [I (t.f0 + ev + sk + b.under)] := sl_new (t := 3) rfl (by unfold maxLen; omega) (by rw [hWw28]; simp) (by rw [hWw28]; exact heap_at _ _ rfl)
   have hSw28 := apart_step hFW hAw28 hS0
   have fFw28 := (hAw28.block _ (heap_lt hf0)).trans hf0
   have mbww28 := hb0.trans (hAw28.mono hb0.size)
   clear hWw28
   refine wpAnyH_ready (rs := [4]) (by kernel_rfl) (by simp) ?_
   refine AllReadyH.cons rfl (fun K hK => ?_) AllReadyH.nil
   go_simp
   refine (greatest_any _ _ _ _ hslw28).mono ?_
   rintro e w29 ⟨rfl, hBw29⟩
   have hSw29 := apart_step hFW hBw29 hSw28
   have fFw29 := (hBw29.block _ (heap_lt fFw28)).trans fFw28
   have mbww29 := mbww28.trans (hBw29.mono mbww28.size)
   refine hK.out _ _ hSw29 (fun _ => ?_)
   clear hK K
   try simp only [putL]
   refine wpAnyH_take (i := 7) (oi := { dst := some 46, op := Op.build 24 #[(0, Operand.tmp 43), (1, Operand.tmp 45)], type := 24, pos := "known.go:27", after := #[{ on := 4, ground := Ground.data }, { on := 6, ground := Ground.data }], guard := none }) (v := ?v30) rfl (by kernel_rfl) (by kernel_rfl) (by kernel_rfl) (fun _ _ _ h => h) (Or.inl ⟨by rfl, ?hy30⟩) hSw29 ?r30
   case hy30 =>
    intro w' hSw
    have hq := hSw.1
    clear hSw
    go_simp
    with_reducible rfl
   try simp only [putL]
   refine wpAnyH_ready (rs := [8]) (by kernel_rfl) (by simp) ?_
   refine AllReadyH.cons rfl (fun K hK => ?_) AllReadyH.nil
   rw [if_pos (by rfl)]
   refine wp_store_row 24 _ _ rfl (w.heap.size + 1 + 1 + 1 + 1) (#[I (max b.s0.lo (t.f0 + ev + sk + b.under)), I b.s0.hi]) rfl rfl _ _ fFw29 infoSp rfl (by simp [Value.oneCell']) ?_
   refine hK.out _ _ (apart_row hSw29 _) (fun _ => ?_)
   clear hK K
   try simp only [putL]
   refine wpAnyH_done (by kernel_rfl) ?_ _
   show Q _ _
   rw [HQ.out]
   simp only [putL]
   exact ⟨⟨_, _, _, _, _, _, _, _, rfl⟩, w29, mbww29, rfl⟩
  case rest2 =>
   intro a' w6 hra
   rw [HQ.out] at hra
   clear HQ
   obtain ⟨⟨u39, u40, u41, u42, u43, u44, u45, u46, rfl⟩, w5, hb5, hw6⟩ := hra
   subst hA
   try simp only [putL]
   have HW6 := Lib.hid hw6
   have HB5 := Lib.hid hb5
   clear hw6 hb5 x0 x1
   go_wp2_with fail
   have hrow := (HB5.out.block _ (heap_lt HR4.out)).trans HR4.out
   have hrow6 : w6.heap[w.heap.size + 1 + 1 + 1 + 1]? = some (.cells #[I (max b.s0.lo (t.f0 + ev + sk + b.under)), I b.s0.hi] 24 (0, 0)) := by rw [HW6.out]; exact setRow_heap _ _ _ _ _ _ hrow
   have hbq : Below w.heap.size w w6 := by rw [HW6.out]; exact below_setRow (HBW.out.trans (HB5.out.mono HBW.out.size)) (by omega) _
   exact bodyPost_ret (v := vSp ⟨max b.s0.lo (t.f0 + ev + sk + b.under), b.s0.hi⟩) (results_cell_row rfl _ w6 (w.heap.size + 1 + 1 + 1 + 1) 24 _ (0, 0) _ rfl hrow6 Try.underlying24 rfl infoSp) rfl ⟨rfl, hbq⟩
end Go.Proofs.Ytjgpghaofhcfnaa
