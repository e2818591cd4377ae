/- Texts on the program that the proof leans on, part 42. -/
import Derived.Test.YtjgpghaofhcfnaaYas
import Derived.Test.YtjgpghaofhcfnaaYbb
import Derived.Test.YtjgpghaofhcfnaaYbo
import Derived.OrdersHeld
import Derived.Deep.RegionHeld
set_option linter.unusedVariables false
set_option linter.unusedSimpArgs false

namespace Go.Proofs.Ytjgpghaofhcfnaa
open Go.RowKit
abbrev vKn (H : Value) (k : Ld.Kn) : Value := .agg #[H, I k.f0, I k.f1, I k.empty]
set_option maxRecDepth 100000 in
set_option maxHeartbeats 8000000 in
theorem afloat_any (b : Ld.Bk) (T D H : Value) (k : Ld.Kn) (hv : Ld.valid b = true) (hk : Ld.Truly b k) (sh h : Nat) (hsh : sh = 0 ∨ sh = 1) (hh : h < b.tides.length) (y : Int) (h0 : 0 ≤ y) (h1 : y ≤ 200) (w : World) (hH : Sl w w.heap.size 1 H k.heights.length (k.heights.map I)) :
 Calls Try.prog 24 #[vBk T D b, vKn H k, I sh, I h, I y] w fun e w' => e = .returned (.bool (Ld.afloat b k sh h y)) ∧ Below w.heap.size w w' := by
 have hvp := Ld.valid_parts hv
 have hsz := Ld.sized_bd hvp.1
 have hdr := Ld.draught_bd hvp.2.2.2.1
 have hfb := Ld.floor_bd hvp.2.2.1 sh
 have hfl : (Ld.shore b sh).floor.lo ≤ k.tr.at sh ∧ k.tr.at sh ≤ (Ld.shore b sh).floor.hi := by
  rcases hsh with rfl | rfl
  · exact hk.at0
  · exact hk.at1
 have hem := hk.empty
 have hlen : h < k.heights.length := by rw [hk.len]; exact hh
 have hzz : k.high h = k.heights[h] := by unfold Ld.Kn.high; rw [List.getD_eq_getElem?_getD, List.getElem?_eq_getElem hlen]; rfl
 obtain ⟨bl, off, c, rfl, hbl, ch⟩ := hH.int hlen
 obtain ⟨z, hz⟩ : ∃ z, k.high h = z := ⟨_, rfl⟩
 rw [← hzz, hz] at ch
 obtain ⟨fl, hfq⟩ : ∃ f, k.tr.at sh = f := ⟨_, rfl⟩
 obtain ⟨u, hu⟩ : ∃ u, Ld.sunk b y = u := ⟨_, rfl⟩
 obtain ⟨slo, hslo⟩ : ∃ x, (Ld.shore b sh).lo = x := ⟨_, rfl⟩
 obtain ⟨shi, hshi⟩ : ∃ x, (Ld.shore b sh).hi = x := ⟨_, rfl⟩
 have hub : 0 ≤ u ∧ u ≤ 300 := by
  rw [← hu]
  unfold Ld.sunk
  exact ⟨Int.ediv_nonneg (by omega) (by omega), Int.le_trans (Int.ediv_le_self _ (by omega)) (by omega)⟩
 rw [hfq] at hfl
 have HV := Lib.hid (show Ld.afloat b k sh h y = (decide (fl + k.empty + u + b.under ≤ z) && Ld.between z slo shi) by unfold Ld.afloat; rw [hfq, hu, hz, hslo, hshi])
 have HIN := Lib.hid (show ∀ W', Calls Try.prog 61 #[vBk T D b, I y] W' fun e w' => e = .returned (I u) ∧ Below W'.heap.size W' w' from fun W' => by have := inches_any b T D y h0 h1 hsz.2.2.1 hsz.2.2.2.1 W'; rw [hu] at this; exact this)
 have e1 : IntKind.i64.wrap (fl + k.empty) = fl + k.empty := IntWalk.i64_in _ (by omega)
 have e2 : IntKind.i64.wrap (fl + k.empty + u) = fl + k.empty + u := IntWalk.i64_in _ (by omega)
 have e3 : IntKind.i64.wrap (fl + k.empty + u + b.under) = fl + k.empty + u + b.under := IntWalk.i64_in _ (by omega)
 have hsi : (sh : Int) < 2 := by omega
 have hhi : (h : Int) < k.heights.length := by omega
 have hff : (sh = 0 → k.f0 = fl ∧ b.s0.lo = slo ∧ b.s0.hi = shi) ∧ (sh = 1 → k.f1 = fl ∧ b.s1.lo = slo ∧ b.s1.hi = shi) := ⟨fun h => by subst h; exact ⟨hfq, hslo, hshi⟩, fun h => by subst h; exact ⟨hfq, hslo, hshi⟩⟩
 obtain ⟨g0, hg0⟩ : ∃ x, (Ld.shore b sh).floor.lo = x := ⟨_, rfl⟩
 obtain ⟨g1, hg1⟩ : ∃ x, (Ld.shore b sh).floor.hi = x := ⟨_, rfl⟩
 have hgg : (sh = 0 → b.s0.floor.lo = g0 ∧ b.s0.floor.hi = g1) ∧ (sh = 1 → b.s1.floor.lo = g0 ∧ b.s1.floor.hi = g1) := ⟨fun h => by subst h; exact ⟨hg0, hg1⟩, fun h => by subst h; exact ⟨hg0, hg1⟩⟩
 have HFF := Lib.hid hff
 have HGG := Lib.hid hgg
 have HSH := Lib.hid hsh
 have HBL := Lib.hid hbl
 clear hvp hsz hdr hfb hfl hem hzz hz hfq hu hslo hshi hub hff hgg hg0 hg1 hsh hv hk h0 h1 hlen hH hh
 go_enter Try.func24, Try.ntmps24
 go_upto_region 1 with fail
 refine name_world ?_
 intro W0 hW0
 have hb0 : Below w.heap.size w W0 := by rw [hW0]; exact ((Below.refl _ _).alloc (Nat.le_refl _) _).alloc (by simp) _
 have rB : W0.heap[w.heap.size]? = some (.cells (rBk T D b) 30 (0, 0)) := by rw [hW0]; exact (Below.heap_alloc _ _ _ (by simp)).trans (heap_at _ _ rfl)
 have rK : W0.heap[w.heap.size + 1]? = some (.cells #[.slice (some ⟨bl, off, none⟩) k.heights.length c, I k.f0, I k.f1, I k.empty] 37 (0, 0)) := by rw [hW0]; exact heap_at _ _ (by simp)
 have cz := (hb0.cell (p := ⟨bl, off + h, none⟩) HBL.out).trans ch
 have lz : bl < W0.heap.size := Nat.lt_of_lt_of_le HBL.out hb0.size
 clear hW0 ch
 have qB1 := cell_of_row W0 _ 1 _ _ _ rB
 have qB2 := cell_of_row W0 _ 2 _ _ _ rB
 have qB3 := cell_of_row W0 _ 3 _ _ _ rB
 have qB4 := cell_of_row W0 _ 4 _ _ _ rB
 have qB5 := cell_of_row W0 _ 5 _ _ _ rB
 have qB6 := cell_of_row W0 _ 6 _ _ _ rB
 have qB7 := cell_of_row W0 _ 7 _ _ _ rB
 have qB8 := cell_of_row W0 _ 8 _ _ _ rB
 simp only [List.getElem?_toArray, List.getElem?_cons_zero, List.getElem?_cons_succ] at qB1 qB2 qB3 qB4 qB5 qB6 qB7 qB8
 have qK0 := cell_of_row W0 _ 0 _ _ _ rK
 have qK1 := cell_of_row W0 _ 1 _ _ _ rK
 have qK2 := cell_of_row W0 _ 2 _ _ _ rK
 have qK3 := cell_of_row W0 _ 3 _ _ _ rK
 simp only [List.getElem?_toArray, List.getElem?_cons_zero, List.getElem?_cons_succ] at qK0 qK1 qK2 qK3
 have s0 : W0.cell? ⟨w.heap.size, 1 + sh * 4, none⟩ = some (I g0) := HSH.out.elim (fun h => by subst h; rw [← (HGG.out.1 rfl).1]; exact qB1) (fun h => by subst h; rw [← (HGG.out.2 rfl).1]; exact qB5)
 have s1 : W0.cell? ⟨w.heap.size, 1 + sh * 4 + 1, none⟩ = some (I g1) := HSH.out.elim (fun h => by subst h; rw [← (HGG.out.1 rfl).2]; exact qB2) (fun h => by subst h; rw [← (HGG.out.2 rfl).2]; exact qB6)
 have s2 : W0.cell? ⟨w.heap.size, 1 + sh * 4 + 2, none⟩ = some (I slo) := HSH.out.elim (fun h => by subst h; rw [← (HFF.out.1 rfl).2.1]; exact qB3) (fun h => by subst h; rw [← (HFF.out.2 rfl).2.1]; exact qB7)
 have s3 : W0.cell? ⟨w.heap.size, 1 + sh * 4 + 3, none⟩ = some (I shi) := HSH.out.elim (fun h => by subst h; rw [← (HFF.out.1 rfl).2.2]; exact qB4) (fun h => by subst h; rw [← (HFF.out.2 rfl).2.2]; exact qB8)
 clear qB1 qB2 qB3 qB4 qB5 qB6 qB7 qB8
 have lB := heap_lt rB
 have lK := heap_lt rK
 have HB0 := Lib.hid hb0
 have RB0 := Lib.hid rB
 have RK0 := Lib.hid rK
 clear hb0 rB rK
 go_region
 go_upto_region 2 with fail
 refine name_world ?_
 intro W hW
 have hAW : Below W0.heap.size W0 W := by rw [hW]; exact ((Below.refl _ _).alloc (Nat.le_refl _) _).drew
 have rY : W.heap[W0.heap.size]? = some (.cells #[I g0, I g1, I slo, I shi] 26 (0, 0)) := by rw [hW]; exact heap_at W0 _ rfl
 have rBW := (hAW.block _ lB).trans RB0.out
 have rKW := (hAW.block _ lK).trans RK0.out
 have lY := heap_lt rY
 have lBW := heap_lt rBW
 have lKW := heap_lt rKW
 have HBW := Lib.hid (HB0.out.trans (hAW.mono HB0.out.size))
 have RBW := Lib.hid rBW
 have qB12 := cell_of_row W _ 12 _ _ _ rBW
 have qY1 := cell_of_row W _ 1 _ _ _ rY
 have qY2 := cell_of_row W _ 2 _ _ _ rY
 have qY3 := cell_of_row W _ 3 _ _ _ rY
 have qE := cell_of_row W _ 3 _ _ _ rKW
 have qF1 := cell_of_row W _ 1 _ _ _ rKW
 have qF2 := cell_of_row W _ 2 _ _ _ rKW
 simp only [List.getElem?_toArray, List.getElem?_cons_zero, List.getElem?_cons_succ] at qB12 qY1 qY2 qY3 qE qF1 qF2
 have qF : W.cell? ⟨w.heap.size + 1, 1 + sh, none⟩ = some (I fl) := HSH.out.elim (fun h => by subst h; rw [← (HFF.out.1 rfl).1]; exact qF1) (fun h => by subst h; rw [← (HFF.out.2 rfl).1]; exact qF2)
 clear hW hAW rY rBW rKW qF1 qF2 qK0 qK1 qK2 qK3 s0 s1 s2 s3 cz
 refine name_act ?_
 intro A hA
 obtain ⟨R, hR⟩ : ∃ R : Act → World → Prop, R = fun a' w' => (∃ u22 u23 u24 u25 u26 u27 u28 u29 u30 u31 u32 u33 u34 u35 u36 u37 u38 u39 u40 u41 u42 u43 u44 u45, a' = (((((((((((((((((((((((((A.put (some 22) u22).put (some 23) u23).put (some 24) u24).put (some 25) u25).put (some 26) u26).put (some 27) u27).put (some 28) u28).put (some 29) u29).put (some 30) u30).put (some 31) u31).put (some 32) u32).put (some 33) u33).put (some 34) u34).put (some 35) u35).put (some 36) u36).put (some 37) u37).put (some 38) u38).put (some 39) u39).put (some 40) u40).put (some 41) u41).put (some 42) u42).put (some 43) u43).put (some 44) u44).put (some 45) u45).put (some 10) (.bool (Ld.afloat b k sh h y)))) ∧ Held W w' := ⟨_, rfl⟩
 have HR := Lib.hid hR
 clear hR
 refine wp_between R ?first ?rest
 case first =>
  subst hA
  by_cases hc : fl + k.empty + u + b.under ≤ z
  · have hval : Ld.afloat b k sh h y = Ld.between z slo shi := by have := HV.out; rw [this, decide_eq_true hc]; rfl
    have hcd : decide (fl + k.empty + u + b.under ≤ z) = true := decide_eq_true hc
    refine wp_region_held_drew (S := fun w' => Held W w') (by kernel_rfl) (held_start W) (fun _ => ?_)
    refine wpAnyH_take (i := 0) (oi := { dst := some 22, op := Op.move (Operand.tmp 11), type := 3, pos := "outright.go:96", after := #[], guard := none }) (v := ?v1) rfl (by kernel_rfl) (by kernel_rfl) (by kernel_rfl) (fun _ _ _ h => h) (Or.inl ⟨by rfl, ?hy1⟩) (held_start W) ?r1
    case hy1 =>
     intro w' hSw
     have hq := hSw.1
     clear hSw
     go_simp
     with_reducible rfl
    try simp only [putL]
    refine wpAnyH_take (i := 1) (oi := { dst := some 23, op := Op.move (Operand.tmp 2), type := 3, pos := "outright.go:96", after := #[], guard := none }) (v := ?v2) rfl (by kernel_rfl) (by kernel_rfl) (by kernel_rfl) (fun _ _ _ h => h) (Or.inl ⟨by rfl, ?hy2⟩) (held_start W) ?r2
    case hy2 =>
     intro w' hSw
     have hq := hSw.1
     clear hSw
     go_simp
     with_reducible rfl
    try simp only [putL]
    refine wpAnyH_take (i := 2) (oi := { dst := some 24, op := Op.fieldAddr 37 (Operand.tmp 6) 1, type := 0, pos := "outright.go:96", after := #[], guard := none }) (v := ?v3) rfl (by kernel_rfl) (by kernel_rfl) (by kernel_rfl) (fun _ _ _ h => h) (Or.inl ⟨by rfl, ?hy3⟩) (held_start W) ?r3
    case hy3 =>
     intro w' hSw
     have hq := hSw.1
     clear hSw
     go_simp
     with_reducible rfl
    try simp only [putL]
    refine wpAnyH_take (i := 3) (oi := { dst := some 25, op := Op.indexAddr 35 (Operand.tmp 24) (Operand.tmp 23), type := 0, pos := "outright.go:96", after := #[{ on := 2, ground := Ground.data }, { on := 1, ground := Ground.data }], guard := none }) (v := ?v4) rfl (by kernel_rfl) (by kernel_rfl) (by kernel_rfl) (fun _ _ _ h => h) (Or.inl ⟨by rfl, ?hy4⟩) (held_start W) ?r4
    case hy4 =>
     intro w' hSw
     have hq := hSw.1
     clear hSw
     go_simp
     with_reducible rfl
    try simp only [putL]
    refine wpAnyH_take (i := 4) (oi := { dst := some 26, op := Op.load 3 (Operand.tmp 25), type := 3, pos := "outright.go:96", after := #[{ on := 3, ground := Ground.data }], guard := none }) (v := ?v5) rfl (by kernel_rfl) (by kernel_rfl) (by kernel_rfl) (fun _ _ _ h => h) (Or.inl ⟨by rfl, ?hy5⟩) (held_start W) ?r5
    case hy5 =>
     intro w' hSw
     have hq := hSw.1
     clear hSw
     go_simp
     with_reducible rfl
    try simp only [putL]
    refine wpAnyH_take (i := 5) (oi := { dst := some 27, op := Op.fieldAddr 37 (Operand.tmp 6) 2, type := 0, pos := "outright.go:96", after := #[], guard := none }) (v := ?v6) rfl (by kernel_rfl) (by kernel_rfl) (by kernel_rfl) (fun _ _ _ h => h) (Or.inl ⟨by rfl, ?hy6⟩) (held_start W) ?r6
    case hy6 =>
     intro w' hSw
     have hq := hSw.1
     clear hSw
     go_simp
     with_reducible rfl
    try simp only [putL]
    refine wpAnyH_take (i := 6) (oi := { dst := some 28, op := Op.load 3 (Operand.tmp 27), type := 3, pos := "outright.go:96", after := #[{ on := 5, ground := Ground.data }], guard := none }) (v := ?v7) rfl (by kernel_rfl) (by kernel_rfl) (by kernel_rfl) (fun _ _ _ h => h) (Or.inl ⟨by rfl, ?hy7⟩) (held_start W) ?r7
    case hy7 =>
     intro w' hSw
     have hq := hSw.1
     clear hSw
     go_simp
     with_reducible rfl
    try simp only [putL]
    refine wpAnyH_take (i := 7) (oi := { dst := some 29, op := Op.binOp BinOp.add 3 (Operand.tmp 26) (Operand.tmp 28) 3, type := 3, pos := "outright.go:96", after := #[{ on := 4, ground := Ground.data }, { on := 6, ground := Ground.data }], guard := none }) (v := ?v8) rfl (by kernel_rfl) (by kernel_rfl) (by kernel_rfl) (fun _ _ _ h => h) (Or.inl ⟨by rfl, ?hy8⟩) (held_start W) ?r8
    case hy8 =>
     intro w' hSw
     have hq := hSw.1
     clear hSw
     go_simp
     with_reducible rfl
    try simp only [putL]
    refine wpAnyH_take (i := 8) (oi := { dst := some 30, op := Op.load 30 (Operand.tmp 5), type := 30, pos := "outright.go:96", after := #[], guard := none }) (v := (vBk T D b)) rfl (by kernel_rfl) (by kernel_rfl) (by kernel_rfl) (fun _ _ _ h => h) (Or.inl ⟨by rfl, ?hy9⟩) (held_start W) ?r9
    case hy9 =>
     intro w' hSw
     exact exec_load_row (by rfl) (by rfl) ((hSw.2.2.block _ (heap_lt RBW.out)).trans RBW.out) Try.underlying30 rfl infoBk14
    try simp only [putL]
    refine wpAnyH_take (i := 9) (oi := { dst := some 31, op := Op.move (Operand.tmp 4), type := 3, pos := "outright.go:96", after := #[], guard := none }) (v := ?v10) rfl (by kernel_rfl) (by kernel_rfl) (by kernel_rfl) (fun _ _ _ h => h) (Or.inl ⟨by rfl, ?hy10⟩) (held_start W) ?r10
    case hy10 =>
     intro w' hSw
     have hq := hSw.1
     clear hSw
     go_simp
     with_reducible rfl
    try simp only [putL]
    refine wpAnyH_take (i := 12) (oi := { dst := some 34, op := Op.fieldAddr 30 (Operand.tmp 5) 4, type := 0, pos := "outright.go:96", after := #[], guard := none }) (v := ?v11) rfl (by kernel_rfl) (by kernel_rfl) (by kernel_rfl) (fun _ _ _ h => h) (Or.inl ⟨by rfl, ?hy11⟩) (held_start W) ?r11
    case hy11 =>
     intro w' hSw
     have hq := hSw.1
     clear hSw
     go_simp
     with_reducible rfl
    try simp only [putL]
    refine wpAnyH_take (i := 13) (oi := { dst := some 35, op := Op.load 3 (Operand.tmp 34), type := 3, pos := "outright.go:96", after := #[{ on := 12, ground := Ground.data }], guard := none }) (v := ?v12) rfl (by kernel_rfl) (by kernel_rfl) (by kernel_rfl) (fun _ _ _ h => h) (Or.inl ⟨by rfl, ?hy12⟩) (held_start W) ?r12
    case hy12 =>
     intro w' hSw
     have hq := hSw.1
     clear hSw
     go_simp
     with_reducible rfl
    try simp only [putL]
    refine wpAnyH_ready (rs := [10]) (by kernel_rfl) (by simp) ?_
    refine AllReadyH.cons rfl (fun K hK => ?_) AllReadyH.nil
    go_simp
    refine (HIN.out _).mono ?_
    rintro e w13 ⟨rfl, hBw13⟩
    have hSw13 := held_step hBw13 (held_start W)
    refine hK.out _ _ hSw13 (fun _ => ?_)
    clear hK K
    try simp only [putL]
    refine wpAnyH_take (i := 11) (oi := { dst := some 33, op := Op.binOp BinOp.add 3 (Operand.tmp 29) (Operand.tmp 32) 3, type := 3, pos := "outright.go:96", after := #[{ on := 7, ground := Ground.data }, { on := 10, ground := Ground.data }], guard := none }) (v := ?v14) rfl (by kernel_rfl) (by kernel_rfl) (by kernel_rfl) (fun _ _ _ h => h) (Or.inl ⟨by rfl, ?hy14⟩) hSw13 ?r14
    case hy14 =>
     intro w' hSw
     have hq := hSw.1
     clear hSw
     go_simp
     with_reducible rfl
    try simp only [putL]
    refine wpAnyH_take (i := 14) (oi := { dst := some 36, op := Op.binOp BinOp.add 3 (Operand.tmp 33) (Operand.tmp 35) 3, type := 3, pos := "outright.go:96", after := #[{ on := 11, ground := Ground.data }, { on := 13, ground := Ground.data }], guard := none }) (v := ?v15) rfl (by kernel_rfl) (by kernel_rfl) (by kernel_rfl) (fun _ _ _ h => h) (Or.inl ⟨by rfl, ?hy15⟩) hSw13 ?r15
    case hy15 =>
     intro w' hSw
     have hq := hSw.1
     clear hSw
     go_simp
     with_reducible rfl
    try simp only [putL]
    refine wpAnyH_take (i := 15) (oi := { dst := some 37, op := Op.binOp BinOp.geq 3 (Operand.tmp 22) (Operand.tmp 36) 3, type := 4, pos := "outright.go:96", after := #[{ on := 0, ground := Ground.data }, { on := 14, ground := Ground.data }], guard := none }) (v := ?v16) rfl (by kernel_rfl) (by kernel_rfl) (by kernel_rfl) (fun _ _ _ h => h) (Or.inl ⟨by rfl, ?hy16⟩) hSw13 ?r16
    case hy16 =>
     intro w' hSw
     have hq := hSw.1
     clear hSw
     go_simp
     with_reducible rfl
    try simp only [putL]
    refine wpAnyH_take (i := 16) (oi := { dst := some 38, op := Op.move (Operand.tmp 37), type := 4, pos := "outright.go:96", after := #[{ on := 15, ground := Ground.data }, { on := 10, ground := Ground.chain }], guard := none }) (v := ?v17) rfl (by kernel_rfl) (by kernel_rfl) (by kernel_rfl) (fun _ _ _ h => h) (Or.inl ⟨by rfl, ?hy17⟩) hSw13 ?r17
    case hy17 =>
     intro w' hSw
     have hq := hSw.1
     clear hSw
     go_simp
     with_reducible rfl
    try simp only [putL]
    refine wpAnyH_take (i := 17) (oi := { dst := some 39, op := Op.move (Operand.tmp 11), type := 3, pos := "outright.go:96", after := #[{ on := 16, ground := Ground.guard }], guard := some (16, true) }) (v := ?v18) rfl (by kernel_rfl) (by kernel_rfl) (by kernel_rfl) (fun _ _ _ h => h) (Or.inl ⟨by rfl, ?hy18⟩) hSw13 ?r18
    case hy18 =>
     intro w' hSw
     have hq := hSw.1
     clear hSw
     go_simp
     with_reducible rfl
    try simp only [putL]
    refine wpAnyH_take (i := 18) (oi := { dst := some 40, op := Op.fieldAddr 26 (Operand.tmp 12) 1, type := 0, pos := "outright.go:96", after := #[{ on := 16, ground := Ground.guard }], guard := some (16, true) }) (v := ?v19) rfl (by kernel_rfl) (by kernel_rfl) (by kernel_rfl) (fun _ _ _ h => h) (Or.inl ⟨by rfl, ?hy19⟩) hSw13 ?r19
    case hy19 =>
     intro w' hSw
     have hq := hSw.1
     clear hSw
     go_simp
     with_reducible rfl
    try simp only [putL]
    refine wpAnyH_take (i := 19) (oi := { dst := some 41, op := Op.load 3 (Operand.tmp 40), type := 3, pos := "outright.go:96", after := #[{ on := 18, ground := Ground.data }, { on := 16, ground := Ground.guard }], guard := some (16, true) }) (v := ?v20) rfl (by kernel_rfl) (by kernel_rfl) (by kernel_rfl) (fun _ _ _ h => h) (Or.inl ⟨by rfl, ?hy20⟩) hSw13 ?r20
    case hy20 =>
     intro w' hSw
     have hq := hSw.1
     clear hSw
     go_simp
     with_reducible rfl
    try simp only [putL]
    refine wpAnyH_take (i := 20) (oi := { dst := some 42, op := Op.fieldAddr 26 (Operand.tmp 12) 2, type := 0, pos := "outright.go:96", after := #[{ on := 16, ground := Ground.guard }], guard := some (16, true) }) (v := ?v21) rfl (by kernel_rfl) (by kernel_rfl) (by kernel_rfl) (fun _ _ _ h => h) (Or.inl ⟨by rfl, ?hy21⟩) hSw13 ?r21
    case hy21 =>
     intro w' hSw
     have hq := hSw.1
     clear hSw
     go_simp
     with_reducible rfl
    try simp only [putL]
    refine wpAnyH_take (i := 21) (oi := { dst := some 43, op := Op.load 3 (Operand.tmp 42), type := 3, pos := "outright.go:96", after := #[{ on := 20, ground := Ground.data }, { on := 16, ground := Ground.guard }], guard := some (16, true) }) (v := ?v22) rfl (by kernel_rfl) (by kernel_rfl) (by kernel_rfl) (fun _ _ _ h => h) (Or.inl ⟨by rfl, ?hy22⟩) hSw13 ?r22
    case hy22 =>
     intro w' hSw
     have hq := hSw.1
     clear hSw
     go_simp
     with_reducible rfl
    try simp only [putL]
    refine wpAnyH_ready (rs := [22]) (by kernel_rfl) (by simp) ?_
    refine AllReadyH.cons rfl (fun K hK => ?_) AllReadyH.nil
    go_simp
    refine (in_any z slo shi _).mono ?_
    rintro e w23 ⟨rfl, hBw23⟩
    have hSw23 := held_step hBw23 hSw13
    refine hK.out _ _ hSw23 (fun _ => ?_)
    clear hK K
    try simp only [putL]
    refine wpAnyH_take (i := 23) (oi := { dst := some 45, op := Op.pick (Operand.tmp 38) (Operand.tmp 44) (Operand.const (Value.bool false)), type := 4, pos := "outright.go:96", after := #[{ on := 16, ground := Ground.data }, { on := 22, ground := Ground.data }], guard := none }) (v := ?v24) rfl (by kernel_rfl) (by kernel_rfl) (by kernel_rfl) (fun _ _ _ h => h) (Or.inl ⟨by rfl, ?hy24⟩) hSw23 ?r24
    case hy24 =>
     intro w' hSw
     have hq := hSw.1
     clear hSw
     go_simp
     with_reducible rfl
    try simp only [putL]
    refine wpAnyH_take (i := 24) (oi := { dst := some 10, op := Op.assign (Operand.tmp 45), type := 4, pos := "outright.go:96", after := #[{ on := 23, ground := Ground.data }, { on := 22, ground := Ground.chain }, { on := 0, ground := Ground.phase }, { on := 1, ground := Ground.phase }, { on := 2, ground := Ground.phase }, { on := 3, ground := Ground.phase }, { on := 4, ground := Ground.phase }, { on := 5, ground := Ground.phase }, { on := 6, ground := Ground.phase }, { on := 7, ground := Ground.phase }, { on := 8, ground := Ground.phase }, { on := 9, ground := Ground.phase }, { on := 10, ground := Ground.phase }, { on := 11, ground := Ground.phase }, { on := 12, ground := Ground.phase }, { on := 13, ground := Ground.phase }, { on := 14, ground := Ground.phase }, { on := 15, ground := Ground.phase }, { on := 16, ground := Ground.phase }, { on := 17, ground := Ground.phase }, { on := 18, ground := Ground.phase }, { on := 19, ground := Ground.phase }, { on := 20, ground := Ground.phase }, { on := 21, ground := Ground.phase }, { on := 22, ground := Ground.phase }, { on := 23, ground := Ground.phase }], guard := none }) (v := ?v25) rfl (by kernel_rfl) (by kernel_rfl) (by kernel_rfl) (fun _ _ _ h => h) (Or.inl ⟨by rfl, ?hy25⟩) hSw23 ?r25
    case hy25 =>
     intro w' hSw
     have hq := hSw.1
     clear hSw
     go_simp
     with_reducible rfl
    try simp only [putL]
    refine wpAnyH_done (by kernel_rfl) ?_ _
    show R _ _
    rw [HR.out, hval]
    simp only [putL]
    exact ⟨⟨_, _, _, _, _, _, _, _, _, _, _, _, _, _, _, _, _, _, _, _, _, _, _, _, rfl⟩, hSw23⟩
  · have hval : Ld.afloat b k sh h y = false := by have := HV.out; rw [this, decide_eq_false hc]; rfl
    have hcd : decide (fl + k.empty + u + b.under ≤ z) = false := decide_eq_false hc
    replace hc : z < fl + k.empty + u + b.under := by omega
    refine wp_region_held_drew (S := fun w' => Held W w') (by kernel_rfl) (held_start W) (fun _ => ?_)
    refine wpAnyH_take (i := 0) (oi := { dst := some 22, op := Op.move (Operand.tmp 11), type := 3, pos := "outright.go:96", after := #[], guard := none }) (v := ?v26) rfl (by kernel_rfl) (by kernel_rfl) (by kernel_rfl) (fun _ _ _ h => h) (Or.inl ⟨by rfl, ?hy26⟩) (held_start W) ?r26
    case hy26 =>
     intro w' hSw
     have hq := hSw.1
     clear hSw
     go_simp
     with_reducible rfl
    try simp only [putL]
    refine wpAnyH_take (i := 1) (oi := { dst := some 23, op := Op.move (Operand.tmp 2), type := 3, pos := "outright.go:96", after := #[], guard := none }) (v := ?v27) rfl (by kernel_rfl) (by kernel_rfl) (by kernel_rfl) (fun _ _ _ h => h) (Or.inl ⟨by rfl, ?hy27⟩) (held_start W) ?r27
    case hy27 =>
     intro w' hSw
     have hq := hSw.1
     clear hSw
     go_simp
     with_reducible rfl
    try simp only [putL]
    refine wpAnyH_take (i := 2) (oi := { dst := some 24, op := Op.fieldAddr 37 (Operand.tmp 6) 1, type := 0, pos := "outright.go:96", after := #[], guard := none }) (v := ?v28) rfl (by kernel_rfl) (by kernel_rfl) (by kernel_rfl) (fun _ _ _ h => h) (Or.inl ⟨by rfl, ?hy28⟩) (held_start W) ?r28
    case hy28 =>
     intro w' hSw
     have hq := hSw.1
     clear hSw
     go_simp
     with_reducible rfl
    try simp only [putL]
    refine wpAnyH_take (i := 3) (oi := { dst := some 25, op := Op.indexAddr 35 (Operand.tmp 24) (Operand.tmp 23), type := 0, pos := "outright.go:96", after := #[{ on := 2, ground := Ground.data }, { on := 1, ground := Ground.data }], guard := none }) (v := ?v29) rfl (by kernel_rfl) (by kernel_rfl) (by kernel_rfl) (fun _ _ _ h => h) (Or.inl ⟨by rfl, ?hy29⟩) (held_start W) ?r29
    case hy29 =>
     intro w' hSw
     have hq := hSw.1
     clear hSw
     go_simp
     with_reducible rfl
    try simp only [putL]
    refine wpAnyH_take (i := 4) (oi := { dst := some 26, op := Op.load 3 (Operand.tmp 25), type := 3, pos := "outright.go:96", after := #[{ on := 3, ground := Ground.data }], guard := none }) (v := ?v30) rfl (by kernel_rfl) (by kernel_rfl) (by kernel_rfl) (fun _ _ _ h => h) (Or.inl ⟨by rfl, ?hy30⟩) (held_start W) ?r30
    case hy30 =>
     intro w' hSw
     have hq := hSw.1
     clear hSw
     go_simp
     with_reducible rfl
    try simp only [putL]
    refine wpAnyH_take (i := 5) (oi := { dst := some 27, op := Op.fieldAddr 37 (Operand.tmp 6) 2, type := 0, pos := "outright.go:96", after := #[], guard := none }) (v := ?v31) rfl (by kernel_rfl) (by kernel_rfl) (by kernel_rfl) (fun _ _ _ h => h) (Or.inl ⟨by rfl, ?hy31⟩) (held_start W) ?r31
    case hy31 =>
     intro w' hSw
     have hq := hSw.1
     clear hSw
     go_simp
     with_reducible rfl
    try simp only [putL]
    refine wpAnyH_take (i := 6) (oi := { dst := some 28, op := Op.load 3 (Operand.tmp 27), type := 3, pos := "outright.go:96", after := #[{ on := 5, ground := Ground.data }], guard := none }) (v := ?v32) rfl (by kernel_rfl) (by kernel_rfl) (by kernel_rfl) (fun _ _ _ h => h) (Or.inl ⟨by rfl, ?hy32⟩) (held_start W) ?r32
    case hy32 =>
     intro w' hSw
     have hq := hSw.1
     clear hSw
     go_simp
     with_reducible rfl
    try simp only [putL]
    refine wpAnyH_take (i := 7) (oi := { dst := some 29, op := Op.binOp BinOp.add 3 (Operand.tmp 26) (Operand.tmp 28) 3, type := 3, pos := "outright.go:96", after := #[{ on := 4, ground := Ground.data }, { on := 6, ground := Ground.data }], guard := none }) (v := ?v33) rfl (by kernel_rfl) (by kernel_rfl) (by kernel_rfl) (fun _ _ _ h => h) (Or.inl ⟨by rfl, ?hy33⟩) (held_start W) ?r33
    case hy33 =>
     intro w' hSw
     have hq := hSw.1
     clear hSw
     go_simp
     with_reducible rfl
    try simp only [putL]
    refine wpAnyH_take (i := 8) (oi := { dst := some 30, op := Op.load 30 (Operand.tmp 5), type := 30, pos := "outright.go:96", after := #[], guard := none }) (v := (vBk T D b)) rfl (by kernel_rfl) (by kernel_rfl) (by kernel_rfl) (fun _ _ _ h => h) (Or.inl ⟨by rfl, ?hy34⟩) (held_start W) ?r34
    case hy34 =>
     intro w' hSw
     exact exec_load_row (by rfl) (by rfl) ((hSw.2.2.block _ (heap_lt RBW.out)).trans RBW.out) Try.underlying30 rfl infoBk14
    try simp only [putL]
    refine wpAnyH_take (i := 9) (oi := { dst := some 31, op := Op.move (Operand.tmp 4), type := 3, pos := "outright.go:96", after := #[], guard := none }) (v := ?v35) rfl (by kernel_rfl) (by kernel_rfl) (by kernel_rfl) (fun _ _ _ h => h) (Or.inl ⟨by rfl, ?hy35⟩) (held_start W) ?r35
    case hy35 =>
     intro w' hSw
     have hq := hSw.1
     clear hSw
     go_simp
     with_reducible rfl
    try simp only [putL]
    refine wpAnyH_take (i := 12) (oi := { dst := some 34, op := Op.fieldAddr 30 (Operand.tmp 5) 4, type := 0, pos := "outright.go:96", after := #[], guard := none }) (v := ?v36) rfl (by kernel_rfl) (by kernel_rfl) (by kernel_rfl) (fun _ _ _ h => h) (Or.inl ⟨by rfl, ?hy36⟩) (held_start W) ?r36
    case hy36 =>
     intro w' hSw
     have hq := hSw.1
     clear hSw
     go_simp
     with_reducible rfl
    try simp only [putL]
    refine wpAnyH_take (i := 13) (oi := { dst := some 35, op := Op.load 3 (Operand.tmp 34), type := 3, pos := "outright.go:96", after := #[{ on := 12, ground := Ground.data }], guard := none }) (v := ?v37) rfl (by kernel_rfl) (by kernel_rfl) (by kernel_rfl) (fun _ _ _ h => h) (Or.inl ⟨by rfl, ?hy37⟩) (held_start W) ?r37
    case hy37 =>
     intro w' hSw
     have hq := hSw.1
     clear hSw
     go_simp
     with_reducible rfl
    try simp only [putL]
    refine wpAnyH_ready (rs := [10]) (by kernel_rfl) (by simp) ?_
    refine AllReadyH.cons rfl (fun K hK => ?_) AllReadyH.nil
    go_simp
    refine (HIN.out _).mono ?_
    rintro e w38 ⟨rfl, hBw38⟩
    have hSw38 := held_step hBw38 (held_start W)
    refine hK.out _ _ hSw38 (fun _ => ?_)
    clear hK K
    try simp only [putL]
    refine wpAnyH_take (i := 11) (oi := { dst := some 33, op := Op.binOp BinOp.add 3 (Operand.tmp 29) (Operand.tmp 32) 3, type := 3, pos := "outright.go:96", after := #[{ on := 7, ground := Ground.data }, { on := 10, ground := Ground.data }], guard := none }) (v := ?v39) rfl (by kernel_rfl) (by kernel_rfl) (by kernel_rfl) (fun _ _ _ h => h) (Or.inl ⟨by rfl, ?hy39⟩) hSw38 ?r39
    case hy39 =>
     intro w' hSw
     have hq := hSw.1
     clear hSw
     go_simp
     with_reducible rfl
    try simp only [putL]
    refine wpAnyH_take (i := 14) (oi := { dst := some 36, op := Op.binOp BinOp.add 3 (Operand.tmp 33) (Operand.tmp 35) 3, type := 3, pos := "outright.go:96", after := #[{ on := 11, ground := Ground.data }, { on := 13, ground := Ground.data }], guard := none }) (v := ?v40) rfl (by kernel_rfl) (by kernel_rfl) (by kernel_rfl) (fun _ _ _ h => h) (Or.inl ⟨by rfl, ?hy40⟩) hSw38 ?r40
    case hy40 =>
     intro w' hSw
     have hq := hSw.1
     clear hSw
     go_simp
     with_reducible rfl
    try simp only [putL]
    refine wpAnyH_take (i := 15) (oi := { dst := some 37, op := Op.binOp BinOp.geq 3 (Operand.tmp 22) (Operand.tmp 36) 3, type := 4, pos := "outright.go:96", after := #[{ on := 0, ground := Ground.data }, { on := 14, ground := Ground.data }], guard := none }) (v := ?v41) rfl (by kernel_rfl) (by kernel_rfl) (by kernel_rfl) (fun _ _ _ h => h) (Or.inl ⟨by rfl, ?hy41⟩) hSw38 ?r41
    case hy41 =>
     intro w' hSw
     have hq := hSw.1
     clear hSw
     go_simp
     with_reducible rfl
    try simp only [putL]
    refine wpAnyH_take (i := 16) (oi := { dst := some 38, op := Op.move (Operand.tmp 37), type := 4, pos := "outright.go:96", after := #[{ on := 15, ground := Ground.data }, { on := 10, ground := Ground.chain }], guard := none }) (v := ?v42) rfl (by kernel_rfl) (by kernel_rfl) (by kernel_rfl) (fun _ _ _ h => h) (Or.inl ⟨by rfl, ?hy42⟩) hSw38 ?r42
    case hy42 =>
     intro w' hSw
     have hq := hSw.1
     clear hSw
     go_simp
     with_reducible rfl
    try simp only [putL]
    refine wpAnyH_take (i := 17) (oi := { dst := some 39, op := Op.move (Operand.tmp 11), type := 3, pos := "outright.go:96", after := #[{ on := 16, ground := Ground.guard }], guard := some (16, true) }) (v := undef) rfl (by kernel_rfl) (by kernel_rfl) (by kernel_rfl) (fun _ _ _ h => h) (Or.inr ⟨by rfl, rfl⟩) hSw38 ?_
    try simp only [putL]
    refine wpAnyH_take (i := 18) (oi := { dst := some 40, op := Op.fieldAddr 26 (Operand.tmp 12) 1, type := 0, pos := "outright.go:96", after := #[{ on := 16, ground := Ground.guard }], guard := some (16, true) }) (v := undef) rfl (by kernel_rfl) (by kernel_rfl) (by kernel_rfl) (fun _ _ _ h => h) (Or.inr ⟨by rfl, rfl⟩) hSw38 ?_
    try simp only [putL]
    refine wpAnyH_take (i := 19) (oi := { dst := some 41, op := Op.load 3 (Operand.tmp 40), type := 3, pos := "outright.go:96", after := #[{ on := 18, ground := Ground.data }, { on := 16, ground := Ground.guard }], guard := some (16, true) }) (v := undef) rfl (by kernel_rfl) (by kernel_rfl) (by kernel_rfl) (fun _ _ _ h => h) (Or.inr ⟨by rfl, rfl⟩) hSw38 ?_
    try simp only [putL]
    refine wpAnyH_take (i := 20) (oi := { dst := some 42, op := Op.fieldAddr 26 (Operand.tmp 12) 2, type := 0, pos := "outright.go:96", after := #[{ on := 16, ground := Ground.guard }], guard := some (16, true) }) (v := undef) rfl (by kernel_rfl) (by kernel_rfl) (by kernel_rfl) (fun _ _ _ h => h) (Or.inr ⟨by rfl, rfl⟩) hSw38 ?_
    try simp only [putL]
    refine wpAnyH_take (i := 21) (oi := { dst := some 43, op := Op.load 3 (Operand.tmp 42), type := 3, pos := "outright.go:96", after := #[{ on := 20, ground := Ground.data }, { on := 16, ground := Ground.guard }], guard := some (16, true) }) (v := undef) rfl (by kernel_rfl) (by kernel_rfl) (by kernel_rfl) (fun _ _ _ h => h) (Or.inr ⟨by rfl, rfl⟩) hSw38 ?_
    try simp only [putL]
    refine wpAnyH_take (i := 22) (oi := { dst := some 44, op := Op.call { callee := Callee.value (Operand.func 23), args := #[Operand.tmp 39, Operand.tmp 41, Operand.tmp 43], argTypes := #[3, 3, 3] }, type := 4, pos := "outright.go:96", after := #[{ on := 17, ground := Ground.data }, { on := 19, ground := Ground.data }, { on := 21, ground := Ground.data }, { on := 16, ground := Ground.chain }, { on := 16, ground := Ground.guard }], guard := some (16, true) }) (v := undef) rfl (by kernel_rfl) (by kernel_rfl) (by kernel_rfl) (fun _ _ _ h => h) (Or.inr ⟨by rfl, rfl⟩) hSw38 ?_
    try simp only [putL]
    refine wpAnyH_take (i := 23) (oi := { dst := some 45, op := Op.pick (Operand.tmp 38) (Operand.tmp 44) (Operand.const (Value.bool false)), type := 4, pos := "outright.go:96", after := #[{ on := 16, ground := Ground.data }, { on := 22, ground := Ground.data }], guard := none }) (v := ?v43) rfl (by kernel_rfl) (by kernel_rfl) (by kernel_rfl) (fun _ _ _ h => h) (Or.inl ⟨by rfl, ?hy43⟩) hSw38 ?r43
    case hy43 =>
     intro w' hSw
     have hq := hSw.1
     clear hSw
     go_simp
     with_reducible rfl
    try simp only [putL]
    refine wpAnyH_take (i := 24) (oi := { dst := some 10, op := Op.assign (Operand.tmp 45), type := 4, pos := "outright.go:96", after := #[{ on := 23, ground := Ground.data }, { on := 22, ground := Ground.chain }, { on := 0, ground := Ground.phase }, { on := 1, ground := Ground.phase }, { on := 2, ground := Ground.phase }, { on := 3, ground := Ground.phase }, { on := 4, ground := Ground.phase }, { on := 5, ground := Ground.phase }, { on := 6, ground := Ground.phase }, { on := 7, ground := Ground.phase }, { on := 8, ground := Ground.phase }, { on := 9, ground := Ground.phase }, { on := 10, ground := Ground.phase }, { on := 11, ground := Ground.phase }, { on := 12, ground := Ground.phase }, { on := 13, ground := Ground.phase }, { on := 14, ground := Ground.phase }, { on := 15, ground := Ground.phase }, { on := 16, ground := Ground.phase }, { on := 17, ground := Ground.phase }, { on := 18, ground := Ground.phase }, { on := 19, ground := Ground.phase }, { on := 20, ground := Ground.phase }, { on := 21, ground := Ground.phase }, { on := 22, ground := Ground.phase }, { on := 23, ground := Ground.phase }], guard := none }) (v := ?v44) rfl (by kernel_rfl) (by kernel_rfl) (by kernel_rfl) (fun _ _ _ h => h) (Or.inl ⟨by rfl, ?hy44⟩) hSw38 ?r44
    case hy44 =>
     intro w' hSw
     have hq := hSw.1
     clear hSw
     go_simp
     with_reducible rfl
    try simp only [putL]
    refine wpAnyH_done (by kernel_rfl) ?_ _
    show R _ _
    rw [HR.out, hval]
    simp only [putL]
    exact ⟨⟨_, _, _, _, _, _, _, _, _, _, _, _, _, _, _, _, _, _, _, _, _, _, _, _, rfl⟩, hSw38⟩
 case rest =>
  intro a' w5 hra
  rw [HR.out] at hra
  clear HR
  obtain ⟨⟨u22, u23, u24, u25, u26, u27, u28, u29, u30, u31, u32, u33, u34, u35, u36, u37, u38, u39, u40, u41, u42, u43, u44, u45, rfl⟩, hHE⟩ := hra
  subst hA
  try simp only [putL]
  have HB5 := Lib.hid (HBW.out.trans (hHE.2.2.mono HBW.out.size))
  clear hHE
  go_wp2_with fail
  go_ret
  exact ⟨rfl, HB5.out⟩
end Go.Proofs.Ytjgpghaofhcfnaa
namespace Go.Proofs.Ytjgpghaofhcfnaa
open Go
def SteadyR (P : Program) (S : World → Prop) (v : Value) : Result Next → Prop
  | .ok (.value u) w' => u = v ∧ S w'
  | .ok .skip w' => v = undef ∧ S w'
  | .ok (.enter f args) w' => Calls P f args w' fun e w'' => e = .returned v ∧ S w''
  | _ => False
def Steady (P : Program) (ops : Array Oper) (S : World → Prop) (o : Oper) (v : Value) (a : Act) : Prop :=
 (Region.wanted o (yielded ops a.tmps) = true ∧ ∀ w, S w → SteadyR P S v ((execOp a.eval o).run P w)) ∨
 (Region.wanted o (yielded ops a.tmps) = false ∧ v = undef)
theorem Steady.wpOp {P : Program} {ops : Array Oper} {S : World → Prop} {Q : Exit → Act → World → Prop} {i : Nat} {o : Oper} {v : Value} {a : Act} (hi : ops[i]? = some o) (hy : Steady P ops S o v a)
 {K : Act → World → Prop} {w : World} (hS : S w) (h : ∀ w', S w' → K (a.put o.dst v) w') : wpOp P ops Q i K a w := by
 unfold Go.wpOp
 simp only [hi]
 rcases hy with ⟨hw, hv⟩ | ⟨hw, rfl⟩
 · simp only [hw, if_true]
   refine .inl ?_
   have h1 := hv w hS
   unfold Oper.wp
   generalize (execOp a.eval o).run P w = r at h1 ⊢
   cases r with
   | halt x w' => exact absurd h1 (by simp [SteadyR])
   | ok n w' =>
    cases n with
    | value u => obtain ⟨rfl, h2⟩ := h1; exact h _ h2
    | skip => obtain ⟨rfl, h2⟩ := h1; exact h _ h2
    | enter f args => exact Calls.mono h1 (fun e w'' he => by obtain ⟨rfl, h2⟩ := he; exact h _ h2)
    | _ => exact absurd h1 (by simp [SteadyR])
 · simp only [hw, Bool.false_eq_true, if_false]
   exact h _ hS
section
variable {P : Program} {ops : Array Oper} {Q : Exit → Act → World → Prop} {md : Region.Mode} {S : World → Prop}
def putI (ops : Array Oper) (vals : List Value) (a : Act) (i : Nat) : Act :=
 match ops[i]?, vals[i]? with
 | some o, some v => a.put o.dst v
 | _, _ => a
def putAll (ops : Array Oper) (vals : List Value) (a : Act) : Act := (List.range ops.size).foldl (putI ops vals) a
def unlisted (ops : Array Oper) (listed : Array Bool) : List Nat := (List.range ops.size).filter fun k => !listed.getD k true
def blind (ops : Array Oper) (o p : Oper) : Bool :=
 match p.dst with
 | some d => !(o.looksAt ops).contains d
 | none => true
def inOrder (md : Region.Mode) (ops : Array Oper) : Bool :=
 (List.range ops.size).all fun i =>
  match ops[i]? with
  | none => true
  | some o => (o.after.all fun e => !Region.binds md e || decide (e.on < i)) &&
   (List.range ops.size).all fun k =>
    match ops[k]? with
    | none => true
    | some p => (i == k || o.dst == none || o.dst != p.dst) && (blind ops o p || o.after.any fun e => Region.binds md e && e.on == k)
theorem inOrder_spec (h : inOrder md ops = true) {i : Nat} {o : Oper} (hi : ops[i]? = some o) :
 (∀ e ∈ o.after, Region.binds md e = true → e.on < i) ∧ ∀ (k : Nat) (p : Oper), ops[k]? = some p → (i ≠ k → ∀ d, o.dst = some d → p.dst ≠ some d) ∧ (blind ops o p = true ∨ ∃ e ∈ o.after, Region.binds md e = true ∧ e.on = k) := by
 have hlt : i < ops.size := (Array.getElem?_eq_some_iff.1 hi).1
 have h1 := List.all_eq_true.1 h i (List.mem_range.2 hlt)
 simp only [hi, Bool.and_eq_true] at h1
 obtain ⟨h2, h3⟩ := h1
 refine ⟨fun e he hb => ?_, fun k p hk => ?_⟩
 · have h4 := Array.all_eq_true_iff_forall_mem.1 h2 e he
   simp only [hb, Bool.not_true, Bool.false_or, decide_eq_true_eq] at h4
   exact h4
 · have hlk : k < ops.size := (Array.getElem?_eq_some_iff.1 hk).1
   have h4 := List.all_eq_true.1 h3 k (List.mem_range.2 hlk)
   simp only [hk, Bool.and_eq_true, Bool.or_eq_true] at h4
   obtain ⟨h5, h6⟩ := h4
   refine ⟨fun hne d hd hp => ?_, ?_⟩
   · rcases h5 with (h5 | h5) | h5
     · exact hne (by simpa using h5)
     · rw [hd] at h5; simp at h5
     · rw [hd, hp] at h5; simp at h5
   · rcases h6 with h6 | h6
     · exact .inl h6
     · rw [Array.any_eq_true] at h6
       obtain ⟨x, hx, hb⟩ := h6
       rw [Bool.and_eq_true] at hb
       exact .inr ⟨o.after[x], Array.getElem_mem hx, hb.1, by simpa using hb.2⟩
theorem putI_comm (h : inOrder md ops = true) (vals : List Value) (a : Act) {i k : Nat} (hne : i ≠ k) : putI ops vals (putI ops vals a i) k = putI ops vals (putI ops vals a k) i := by
 unfold putI
 cases hi : ops[i]? with
 | none => simp
 | some o =>
  cases hk : ops[k]? with
  | none => simp
  | some p =>
   cases hv : vals[i]? with
   | none => simp
   | some v =>
    cases hu : vals[k]? with
    | none => simp
    | some u =>
     simp only
     exact Act.put_comm a v u (fun d hd => ((inOrder_spec h hi).2 k p hk).1 hne d hd)
theorem foldl_out (h : inOrder md ops = true) (vals : List Value) {i : Nat} : ∀ (l : List Nat) (a : Act), l.Nodup → i ∈ l → l.foldl (putI ops vals) a = (l.filter fun k => k != i).foldl (putI ops vals) (putI ops vals a i) := by
 intro l
 induction l with
 | nil => intro a _ hi; cases hi
 | cons k l ih =>
  intro a hn hi
  obtain ⟨hk, hn2⟩ := List.nodup_cons.1 hn
  by_cases hki : k = i
  · subst hki
    have hf : (k :: l).filter (fun j => j != k) = l := by
     rw [List.filter_cons_of_neg (by simp), List.filter_eq_self]
     intro j hj
     simp
     rintro rfl
     exact hk hj
    rw [hf, List.foldl_cons]
  · have hf : (k :: l).filter (fun j => j != i) = k :: l.filter fun j => j != i := List.filter_cons_of_pos (by simpa using hki)
    rw [hf, List.foldl_cons, List.foldl_cons, ih (putI ops vals a k) hn2 ((List.mem_cons.1 hi).resolve_left (fun e => hki e.symm)), putI_comm h vals a hki]
theorem steady_back {vals : List Value} {o : Oper} {v : Value} (hs : ∀ cs b, o.op ≠ .select cs b) : ∀ (l : List Nat) (a : Act), (∀ k ∈ l, ∀ p, ops[k]? = some p → blind ops o p = true) → Steady P ops S o v (l.foldl (putI ops vals) a) → Steady P ops S o v a := by
 intro l
 induction l with
 | nil => intro a _ h; exact h
 | cons k l ih =>
  intro a hb h
  have h1 := ih (putI ops vals a k) (fun j hj => hb j (List.mem_cons_of_mem _ hj)) h
  unfold putI at h1
  cases hk : ops[k]? with
  | none => simp only [hk] at h1; exact h1
  | some p =>
   cases hv : vals[k]? with
   | none => simp only [hk, hv] at h1; exact h1
   | some u =>
    simp only [hk, hv] at h1
    have hbl := hb k List.mem_cons_self p hk
    have hd : ∀ d, p.dst = some d → d ∉ o.looksAt ops := by
     intro d hd
     unfold blind at hbl
     rw [hd] at hbl
     simpa using hbl
    unfold Steady at h1 ⊢
    rw [execOp_put o hs a p.dst u hd, wanted_put o a p.dst u hd] at h1
    exact h1
theorem mem_unlisted {listed : Array Bool} {k : Nat} : k ∈ unlisted ops listed ↔ k < ops.size ∧ listed.getD k true = false := by
 unfold unlisted
 rw [List.mem_filter, List.mem_range]
 simp
theorem unlisted_set {listed : Array Bool} {i : Nat} (hs : listed.size = ops.size) (hi : i < ops.size) : unlisted ops (listed.setIfInBounds i true) = (unlisted ops listed).filter fun k => k != i := by
 unfold unlisted
 rw [List.filter_filter]
 refine List.filter_congr fun k hk => ?_
 by_cases hki : k = i
 · subst hki
   have : k < listed.size := by omega
   simp [this]
 · rw [getD_set_ne true (fun e => hki e.symm)]
   have : (k != i) = true := by simpa using hki
   rw [this, Bool.true_and]
theorem wpAnyH_steady (h : inOrder md ops = true) (hsel : Region.noSelect ops = true) {vals : List Value} (hlen : vals.length = ops.size) {F : Act}
 {SS : World → Prop} (hSS : ∀ w, S w → SS w) (hQ : ∀ w, S w → Q .normal F w) :
 ∀ (fuel : Nat) (listed : Array Bool) (a : Act), (∀ (i : Nat) (o : Oper) (v : Value), i ∈ unlisted ops listed → ops[i]? = some o → vals[i]? = some v → Steady P ops S o v F) → listed.size = ops.size → (unlisted ops listed).length = fuel → (unlisted ops listed).foldl (putI ops vals) a = F → ∀ w, S w → wpAnyH P md ops Q SS fuel listed a w := by
 intro fuel
 induction fuel with
 | zero =>
  intro listed a _ hs hl hF w hS
  have hu := List.eq_nil_of_length_eq_zero hl
  rw [hu] at hF
  have hF : a = F := hF
  subst hF
  refine ⟨List.eq_nil_iff_forall_not_mem.2 fun j hj => ?_, hQ w hS⟩
  obtain ⟨h1, o, ho, -⟩ := mem_ready.1 hj
  have : j ∈ unlisted ops listed := mem_unlisted.2 ⟨(Array.getElem?_eq_some_iff.1 ho).1, h1⟩
  rw [hu] at this
  cases this
 | succ fuel ih =>
  intro listed a hst hs hl hF w hS
  refine ⟨fun hr => ?_, fun i hi => ?_⟩
  · exfalso
    cases hu : unlisted ops listed with
    | nil => rw [hu] at hl; cases hl
    | cons i rest =>
     have hmi : i ∈ unlisted ops listed := by rw [hu]; exact List.mem_cons_self
     obtain ⟨hi1, hi2⟩ := mem_unlisted.1 hmi
     have hpw : (unlisted ops listed).Pairwise (· < ·) := List.Pairwise.filter _ List.pairwise_lt_range
     rw [hu, List.pairwise_cons] at hpw
     obtain ⟨o, ho⟩ : ∃ o, ops[i]? = some o := ⟨_, Array.getElem?_eq_getElem hi1⟩
     have : i ∈ Region.ready md ops listed := by
      refine mem_ready.2 ⟨hi2, o, ho, fun e he hb => ?_⟩
      have hlt := (inOrder_spec h ho).1 e he hb
      have hnot : e.on ∉ unlisted ops listed := fun hm => by
       rw [hu] at hm
       rcases List.mem_cons.1 hm with hm | hm
       · omega
       · have := hpw.1 _ hm; omega
      have hge : listed.getD e.on true = true := by
       cases hc : listed.getD e.on true with
       | true => rfl
       | false => exact absurd (mem_unlisted.2 ⟨by omega, hc⟩) hnot
      have hsz : e.on < listed.size := by omega
      simp [hsz] at hge ⊢
      exact hge
     rw [hr] at this
     cases this
  · obtain ⟨h1, o, ho, hall⟩ := mem_ready.1 hi
    have hi1 : i < ops.size := (Array.getElem?_eq_some_iff.1 ho).1
    obtain ⟨v, hv⟩ : ∃ v, vals[i]? = some v := ⟨_, List.getElem?_eq_getElem (by omega)⟩
    have hmi : i ∈ unlisted ops listed := mem_unlisted.2 ⟨hi1, h1⟩
    have hsel' := fun cs b => Region.noSelect_spec hsel i o cs b ho
    have hsF := hst i o v hmi ho hv
    rw [← hF] at hsF
    have hsa : Steady P ops S o v a := by
     refine steady_back hsel' _ a (fun k hk p hp => ?_) hsF
     obtain ⟨hk1, hk2⟩ := mem_unlisted.1 hk
     rcases ((inOrder_spec h ho).2 k p hp).2 with hb | ⟨e, he, hb, rfl⟩
     · exact hb
     · exfalso
       have h3 := hall e he hb
       have hsz : e.on < listed.size := by omega
       simp [hsz] at h3 hk2
       rw [h3] at hk2
       cases hk2
    refine hsa.wpOp ho hS (fun w' hS' => ⟨hSS w' hS', ?_⟩)
    have hnd : (unlisted ops listed).Nodup := (List.nodup_range).filter _
    have hset := unlisted_set (i := i) hs hi1
    refine ih (listed.setIfInBounds i true) (a.put o.dst v) (fun j p u hj hp hu => hst j p u (by rw [hset] at hj; exact (List.mem_filter.1 hj).1) hp hu) (by simpa using hs) ?_ ?_ w' hS'
    · rw [hset]
      have h4 : ((unlisted ops listed).filter fun k => k != i).length + 1 = (unlisted ops listed).length := by
       have : ∀ (l : List Nat), l.Nodup → i ∈ l → (l.filter fun k => k != i).length + 1 = l.length := by
        intro l
        induction l with
        | nil => intro _ hx; cases hx
        | cons k l ih2 =>
         intro hn hx
         obtain ⟨hk, hn2⟩ := List.nodup_cons.1 hn
         by_cases hki : k = i
         · subst hki
           have hf : (k :: l).filter (fun j => j != k) = l := by
            rw [List.filter_cons_of_neg (by simp), List.filter_eq_self]
            intro j hj
            simp
            rintro rfl
            exact hk hj
           rw [hf]; rfl
         · have hf : (k :: l).filter (fun j => j != i) = k :: l.filter fun j => j != i := List.filter_cons_of_pos (by simpa using hki)
           rw [hf, List.length_cons, List.length_cons, ih2 hn2 ((List.mem_cons.1 hx).resolve_left (fun e => hki e.symm))]
       exact this _ hnd hmi
      omega
    · rw [hset]
      rw [foldl_out h vals _ a hnd hmi] at hF
      have e1 : putI ops vals a i = a.put o.dst v := by unfold putI; rw [ho, hv]
      rw [e1] at hF
      exact hF
theorem wpAnyH_alloc (h : inOrder md ops = true) (hsel : Region.noSelect ops = true) {x : Nat} {ox : Oper} (hox : ops[x]? = some ox) {dep : List Nat} {vals : Nat → List Value} (hlen : ∀ n, (vals n).length = ops.size) {F : Nat → Act} {S' : Nat → World → Prop}
 (hdep : ∀ i ∈ dep, ∀ o, ops[i]? = some o → ∃ e ∈ o.after, Region.binds md e = true ∧ e.on = x)
 (hsame : ∀ n i, i ≠ x → i ∉ dep → (vals n)[i]? = (vals 0)[i]?)
 (hst1 : ∀ (i : Nat) (o : Oper) (v : Value), i ≠ x → i ∉ dep → ops[i]? = some o → (vals 0)[i]? = some v → Steady P ops S o v (F 0))
 (hst2 : ∀ (n i : Nat) (o : Oper) (v : Value), i ≠ x → ops[i]? = some o → (vals n)[i]? = some v → Steady P ops (S' n) o v (F n))
 (hx : ∀ (a : Act) (w : World), S w → Region.wanted ox (yielded ops a.tmps) = true ∧ ∃ u w', (execOp a.eval ox).run P w = .ok (.value u) w' ∧ (vals w.heap.size)[x]? = some u ∧ S' w.heap.size w')
 (hQ : ∀ n w, S' n w → Q .normal (F n) w) :
 ∀ (fuel : Nat) (listed : Array Bool) (a : Act), listed.size = ops.size → (unlisted ops listed).length = fuel → x ∈ unlisted ops listed → (∀ n, (unlisted ops listed).foldl (putI ops (vals n)) a = F n) → ∀ w, S w → wpAnyH P md ops Q (fun _ => True) fuel listed a w := by
 intro fuel
 induction fuel with
 | zero =>
  intro listed a hs hl hxu hF w hS
  rw [List.eq_nil_of_length_eq_zero hl] at hxu
  cases hxu
 | succ fuel ih =>
  intro listed a hs hl hxu hF w hS
  have hnd : (unlisted ops listed).Nodup := (List.nodup_range).filter _
  have hcount : ∀ i, i ∈ unlisted ops listed → ((unlisted ops listed).filter fun k => k != i).length = fuel := by
   intro i hi
   have : ∀ (l : List Nat), l.Nodup → i ∈ l → (l.filter fun k => k != i).length + 1 = l.length := by
    intro l
    induction l with
    | nil => intro _ hx; cases hx
    | cons k l ih2 =>
     intro hn hx
     obtain ⟨hk, hn2⟩ := List.nodup_cons.1 hn
     by_cases hki : k = i
     · subst hki
       have hf : (k :: l).filter (fun j => j != k) = l := by
        rw [List.filter_cons_of_neg (by simp), List.filter_eq_self]
        intro j hj
        simp
        rintro rfl
        exact hk hj
       rw [hf]; rfl
     · have hf : (k :: l).filter (fun j => j != i) = k :: l.filter fun j => j != i := List.filter_cons_of_pos (by simpa using hki)
       rw [hf, List.length_cons, List.length_cons, ih2 hn2 ((List.mem_cons.1 hx).resolve_left (fun e => hki e.symm))]
   have := this _ hnd hi
   omega
  refine ⟨fun hr => ?_, fun i hi => ?_⟩
  · exfalso
    cases hu : unlisted ops listed with
    | nil => rw [hu] at hl; cases hl
    | cons i rest =>
     have hmi : i ∈ unlisted ops listed := by rw [hu]; exact List.mem_cons_self
     obtain ⟨hi1, hi2⟩ := mem_unlisted.1 hmi
     have hpw : (unlisted ops listed).Pairwise (· < ·) := List.Pairwise.filter _ List.pairwise_lt_range
     rw [hu, List.pairwise_cons] at hpw
     obtain ⟨o, ho⟩ : ∃ o, ops[i]? = some o := ⟨_, Array.getElem?_eq_getElem hi1⟩
     have : i ∈ Region.ready md ops listed := by
      refine mem_ready.2 ⟨hi2, o, ho, fun e he hb => ?_⟩
      have hlt := (inOrder_spec h ho).1 e he hb
      have hnot : e.on ∉ unlisted ops listed := fun hm => by
       rw [hu] at hm
       rcases List.mem_cons.1 hm with hm | hm
       · omega
       · have := hpw.1 _ hm; omega
      have hge : listed.getD e.on true = true := by
       cases hc : listed.getD e.on true with
       | true => rfl
       | false => exact absurd (mem_unlisted.2 ⟨by omega, hc⟩) hnot
      have hsz : e.on < listed.size := by omega
      simp [hsz] at hge ⊢
      exact hge
     rw [hr] at this
     cases this
  · obtain ⟨h1, o, ho, hall⟩ := mem_ready.1 hi
    have hi1 : i < ops.size := (Array.getElem?_eq_some_iff.1 ho).1
    have hmi : i ∈ unlisted ops listed := mem_unlisted.2 ⟨hi1, h1⟩
    have hset := unlisted_set (i := i) hs hi1
    have hout : ∀ n v, (vals n)[i]? = some v → ((unlisted ops listed).filter fun k => k != i).foldl (putI ops (vals n)) (a.put o.dst v) = F n := by
     intro n v hv
     have h2 := hF n
     rw [foldl_out h (vals n) _ a hnd hmi] at h2
     have e1 : putI ops (vals n) a i = a.put o.dst v := by unfold putI; rw [ho, hv]
     rw [e1] at h2
     exact h2
    by_cases hix : i = x
    · subst hix
      have hoo : o = ox := by rw [ho] at hox; injection hox
      subst hoo
      obtain ⟨hw, u, w', hr, hv, hS'⟩ := hx a w hS
      unfold Go.wpOp
      simp only [ho, hw, if_true]
      refine .inl ?_
      unfold Oper.wp
      rw [hr]
      refine ⟨trivial, ?_⟩
      refine wpAnyH_steady h hsel (vals := vals w.heap.size) (hlen _) (SS := fun _ => True) (fun _ _ => trivial) (hQ w.heap.size) fuel (listed.setIfInBounds i true) (a.put o.dst u) ?_ (by simpa using hs) ?_ ?_ w' hS'
      · intro j p v hj hp hv2
        rw [hset] at hj
        have hji : j ≠ i := by simpa using (List.mem_filter.1 hj).2
        exact hst2 _ j p v hji hp hv2
      · rw [hset]; exact hcount i hmi
      · rw [hset]; exact hout _ u hv
    · have hid : i ∉ dep := fun hd => by
       obtain ⟨e, he, hb, hex⟩ := hdep i hd o ho
       have h3 := hall e he hb
       obtain ⟨hx1, hx2⟩ := mem_unlisted.1 hxu
       have hsz : x < listed.size := by omega
       rw [hex] at h3
       simp [hsz] at h3 hx2
       rw [h3] at hx2
       cases hx2
      obtain ⟨v, hv⟩ : ∃ v, (vals 0)[i]? = some v := ⟨_, List.getElem?_eq_getElem (by rw [hlen]; exact hi1)⟩
      have hsel' := fun cs b => Region.noSelect_spec hsel i o cs b ho
      have hsF := hst1 i o v hix hid ho hv
      rw [← hF 0] at hsF
      have hsa : Steady P ops S o v a := by
       refine steady_back hsel' _ a (fun k hk p hp => ?_) hsF
       obtain ⟨hk1, hk2⟩ := mem_unlisted.1 hk
       rcases ((inOrder_spec h ho).2 k p hp).2 with hb | ⟨e, he, hb, rfl⟩
       · exact hb
       · exfalso
         have h3 := hall e he hb
         have hsz : e.on < listed.size := by omega
         simp [hsz] at h3 hk2
         rw [h3] at hk2
         cases hk2
      refine hsa.wpOp ho hS (fun w' hS' => ⟨trivial, ?_⟩)
      refine ih (listed.setIfInBounds i true) (a.put o.dst v) (by simpa using hs) ?_ ?_ (fun n => ?_) w' hS'
      · rw [hset]; exact hcount i hmi
      · rw [hset]; exact List.mem_filter.2 ⟨hxu, by simpa using fun e => hix e.symm⟩
      · rw [hset]; exact hout n v (by rw [hsame n i hix hid]; exact hv)
theorem wp_region_steady {id : Nat} {a : Act} {w : World} (hm : P.follows .mixedOrders = true) (h : inOrder .any ops = true) (hsel : Region.noSelect ops = true) {vals : List Value} (hlen : vals.length = ops.size) (hS : S w.drew)
 (hst : ∀ (i : Nat) (o : Oper) (v : Value), ops[i]? = some o → vals[i]? = some v → Steady P ops S o v (putAll ops vals a)) (hQ : ∀ w, S w → Q .normal (putAll ops vals a) w) : (Code.region id ops true).wp P Q a w := by
 refine wp_region_held (S := S) hm (wpAnyH_steady h hsel hlen (fun _ h => h) hQ ops.size _ a (fun i o v _ ho hv => hst i o v ho hv) (by simp) ?_ ?_ _ hS)
 · have : unlisted ops (Array.replicate ops.size false) = List.range ops.size := by
    unfold unlisted
    rw [List.filter_eq_self]
    intro k hk
    have := List.mem_range.1 hk
    simp [this]
   rw [this, List.length_range]
 · have : unlisted ops (Array.replicate ops.size false) = List.range ops.size := by
    unfold unlisted
    rw [List.filter_eq_self]
    intro k hk
    have := List.mem_range.1 hk
    simp [this]
   rw [this]
   rfl
theorem wp_region_alloc {id : Nat} {a : Act} {w : World} (hm : P.follows .mixedOrders = true) (h : inOrder .any ops = true) (hsel : Region.noSelect ops = true) {x : Nat} {ox : Oper} (hox : ops[x]? = some ox) {dep : List Nat} {vals : Nat → List Value} (hlen : ∀ n, (vals n).length = ops.size) {S' : Nat → World → Prop}
 (hdep : ∀ i ∈ dep, ∀ o, ops[i]? = some o → ∃ e ∈ o.after, Region.binds .any e = true ∧ e.on = x)
 (hsame : ∀ n i, i ≠ x → i ∉ dep → (vals n)[i]? = (vals 0)[i]?) (hS : S w.drew)
 (hst1 : ∀ (i : Nat) (o : Oper) (v : Value), i ≠ x → i ∉ dep → ops[i]? = some o → (vals 0)[i]? = some v → Steady P ops S o v (putAll ops (vals 0) a))
 (hst2 : ∀ (n i : Nat) (o : Oper) (v : Value), i ≠ x → ops[i]? = some o → (vals n)[i]? = some v → Steady P ops (S' n) o v (putAll ops (vals n) a))
 (hx : ∀ (a : Act) (w : World), S w → Region.wanted ox (yielded ops a.tmps) = true ∧ ∃ u w', (execOp a.eval ox).run P w = .ok (.value u) w' ∧ (vals w.heap.size)[x]? = some u ∧ S' w.heap.size w')
 (hQ : ∀ n w, S' n w → Q .normal (putAll ops (vals n) a) w) : (Code.region id ops true).wp P Q a w := by
 have hu : unlisted ops (Array.replicate ops.size false) = List.range ops.size := by
  unfold unlisted
  rw [List.filter_eq_self]
  intro k hk
  have := List.mem_range.1 hk
  simp [this]
 refine wp_region_held (S := fun _ => True) hm (wpAnyH_alloc (S := S) h hsel hox hlen hdep hsame hst1 hst2 hx hQ ops.size _ a (by simp) ?_ ?_ (fun n => ?_) _ hS)
 · rw [hu, List.length_range]
 · rw [hu]; exact List.mem_range.2 (Array.getElem?_eq_some_iff.1 hox).1
 · rw [hu]; rfl
end
end Go.Proofs.Ytjgpghaofhcfnaa
namespace Go.Proofs.Ytjgpghaofhcfnaa
open Go
section
variable {P : Program} {ops : Array Oper} {Q : Exit → Act → World → Prop} {md : Region.Mode} {S : World → Prop}
theorem filter_count {i : Nat} : ∀ (l : List Nat), l.Nodup → i ∈ l → (l.filter fun k => k != i).length + 1 = l.length := by
 intro l
 induction l with
 | nil => intro _ hx; cases hx
 | cons k l ih2 =>
  intro hn hx
  obtain ⟨hk, hn2⟩ := List.nodup_cons.1 hn
  by_cases hki : k = i
  · subst hki
    have hf : (k :: l).filter (fun j => j != k) = l := by
     rw [List.filter_cons_of_neg (by simp), List.filter_eq_self]
     intro j hj
     simp
     rintro rfl
     exact hk hj
    rw [hf]; rfl
  · have hf : (k :: l).filter (fun j => j != i) = k :: l.filter fun j => j != i := List.filter_cons_of_pos (by simpa using hki)
    rw [hf, List.length_cons, List.length_cons, ih2 hn2 ((List.mem_cons.1 hx).resolve_left (fun e => hki e.symm))]
theorem wpAnyH_steady_end (h : inOrder md ops = true) (hsel : Region.noSelect ops = true) {z : Nat} {oz : Oper} (hoz : ops[z]? = some oz) (hlast : ∀ k, k < ops.size → k ≠ z → ∃ e ∈ oz.after, Region.binds md e = true ∧ e.on = k) {vals : List Value} (hlen : vals.length = ops.size) {F : Act}
 {SS : World → Prop} (hSS : ∀ w, S w → SS w) (hend : ∀ w, S w → wpOp P ops Q z (fun a' w' => SS w' ∧ Q .normal a' w') F w) :
 ∀ (fuel : Nat) (listed : Array Bool) (a : Act), (∀ (i : Nat) (o : Oper) (v : Value), i ∈ unlisted ops listed → i ≠ z → ops[i]? = some o → vals[i]? = some v → Steady P ops S o v F) → listed.size = ops.size → (unlisted ops listed).length = fuel → z ∈ unlisted ops listed → ((unlisted ops listed).filter fun k => k != z).foldl (putI ops vals) a = F → ∀ w, S w → wpAnyH P md ops Q SS fuel listed a w := by
 intro fuel
 induction fuel with
 | zero =>
  intro listed a _ hs hl hz hF w hS
  rw [List.eq_nil_of_length_eq_zero hl] at hz
  cases hz
 | succ fuel ih =>
  intro listed a hst hs hl hzu hF w hS
  refine ⟨fun hr => ?_, fun i hi => ?_⟩
  · exfalso
    cases hu : unlisted ops listed with
    | nil => rw [hu] at hl; cases hl
    | cons i rest =>
     have hmi : i ∈ unlisted ops listed := by rw [hu]; exact List.mem_cons_self
     obtain ⟨hi1, hi2⟩ := mem_unlisted.1 hmi
     have hpw : (unlisted ops listed).Pairwise (· < ·) := List.Pairwise.filter _ List.pairwise_lt_range
     rw [hu, List.pairwise_cons] at hpw
     obtain ⟨o, ho⟩ : ∃ o, ops[i]? = some o := ⟨_, Array.getElem?_eq_getElem hi1⟩
     have : i ∈ Region.ready md ops listed := by
      refine mem_ready.2 ⟨hi2, o, ho, fun e he hb => ?_⟩
      have hlt := (inOrder_spec h ho).1 e he hb
      have hnot : e.on ∉ unlisted ops listed := fun hm => by
       rw [hu] at hm
       rcases List.mem_cons.1 hm with hm | hm
       · omega
       · have := hpw.1 _ hm; omega
      have hge : listed.getD e.on true = true := by
       cases hc : listed.getD e.on true with
       | true => rfl
       | false => exact absurd (mem_unlisted.2 ⟨by omega, hc⟩) hnot
      have hsz : e.on < listed.size := by omega
      simp [hsz] at hge ⊢
      exact hge
     rw [hr] at this
     cases this
  · obtain ⟨h1, o, ho, hall⟩ := mem_ready.1 hi
    have hi1 : i < ops.size := (Array.getElem?_eq_some_iff.1 ho).1
    obtain ⟨v, hv⟩ : ∃ v, vals[i]? = some v := ⟨_, List.getElem?_eq_getElem (by omega)⟩
    have hmi : i ∈ unlisted ops listed := mem_unlisted.2 ⟨hi1, h1⟩
    have hnd : (unlisted ops listed).Nodup := (List.nodup_range).filter _
    have hset := unlisted_set (i := i) hs hi1
    have hcount : ((unlisted ops listed).filter fun k => k != i).length + 1 = (unlisted ops listed).length := filter_count _ hnd hmi
    by_cases hiz : i = z
    · subst hiz
      have hrest : (unlisted ops listed).filter (fun k => k != i) = [] := by
       refine List.eq_nil_iff_forall_not_mem.2 fun k hk => ?_
       obtain ⟨hk1, hk2⟩ := List.mem_filter.1 hk
       obtain ⟨hk3, hk4⟩ := mem_unlisted.1 hk1
       have hoo : o = oz := by rw [ho] at hoz; injection hoz
       subst hoo
       obtain ⟨e, he, hb, hek⟩ := hlast k hk3 (by simpa using hk2)
       have h3 := hall e he hb
       have hsz : k < listed.size := by omega
       rw [hek] at h3
       simp [hsz] at h3 hk4
       rw [h3] at hk4
       cases hk4
      rw [hrest] at hF
      have hF : a = F := hF
      subst hF
      refine wpOp_mono (fun a' w' hq => ⟨hq.1, wpAnyH_done ?_ hq.2 fuel⟩) (hend w hS)
      refine List.eq_nil_iff_forall_not_mem.2 fun j hj => ?_
      obtain ⟨g1, p, hp, -⟩ := mem_ready.1 hj
      have : j ∈ unlisted ops (listed.setIfInBounds i true) := mem_unlisted.2 ⟨(Array.getElem?_eq_some_iff.1 hp).1, g1⟩
      rw [hset, hrest] at this
      cases this
    · have hsel' := fun cs b => Region.noSelect_spec hsel i o cs b ho
      have hsF := hst i o v hmi hiz ho hv
      rw [← hF] at hsF
      have hsa : Steady P ops S o v a := by
       refine steady_back hsel' _ a (fun k hk p hp => ?_) hsF
       obtain ⟨hk1, hk2⟩ := mem_unlisted.1 (List.mem_filter.1 hk).1
       rcases ((inOrder_spec h ho).2 k p hp).2 with hb | ⟨e, he, hb, rfl⟩
       · exact hb
       · exfalso
         have h3 := hall e he hb
         have hsz : e.on < listed.size := by omega
         simp [hsz] at h3 hk2
         rw [h3] at hk2
         cases hk2
      refine hsa.wpOp ho hS (fun w' hS' => ⟨hSS w' hS', ?_⟩)
      have hmf : i ∈ (unlisted ops listed).filter fun k => k != z := List.mem_filter.2 ⟨hmi, by simpa using hiz⟩
      refine ih (listed.setIfInBounds i true) (a.put o.dst v) (fun j p u hj hjz hp hu => hst j p u (by rw [hset] at hj; exact (List.mem_filter.1 hj).1) hjz hp hu) (by simpa using hs) (by rw [hset]; omega) (by rw [hset]; exact List.mem_filter.2 ⟨hzu, by simpa using fun e => hiz e.symm⟩) ?_ w' hS'
      rw [hset]
      rw [foldl_out h vals _ a (hnd.filter _) hmf] at hF
      have e1 : putI ops vals a i = a.put o.dst v := by unfold putI; rw [ho, hv]
      rw [e1, List.filter_filter] at hF
      rw [List.filter_filter]
      rw [← hF]
      congr 1
      refine List.filter_congr fun k _ => ?_
      exact Bool.and_comm _ _
theorem wpAnyH_alloc_end (h : inOrder md ops = true) (hsel : Region.noSelect ops = true) {x : Nat} {ox : Oper} (hox : ops[x]? = some ox) {z : Nat} {oz : Oper} (hoz : ops[z]? = some oz) (hlast : ∀ k, k < ops.size → k ≠ z → ∃ e ∈ oz.after, Region.binds md e = true ∧ e.on = k) (hzx : z ≠ x) {dep : List Nat} {vals : Nat → List Value} (hlen : ∀ n, (vals n).length = ops.size) {F : Nat → Act} {S' : Nat → World → Prop}
 (hdep : ∀ i ∈ dep, ∀ o, ops[i]? = some o → ∃ e ∈ o.after, Region.binds md e = true ∧ e.on = x)
 (hsame : ∀ n i, i ≠ x → i ≠ z → i ∉ dep → (vals n)[i]? = (vals 0)[i]?)
 (hst1 : ∀ (i : Nat) (o : Oper) (v : Value), i ≠ x → i ≠ z → i ∉ dep → ops[i]? = some o → (vals 0)[i]? = some v → Steady P ops S o v (F 0))
 (hst2 : ∀ (n i : Nat) (o : Oper) (v : Value), i ≠ x → i ≠ z → ops[i]? = some o → (vals n)[i]? = some v → Steady P ops (S' n) o v (F n))
 (hx : ∀ (a : Act) (w : World), S w → Region.wanted ox (yielded ops a.tmps) = true ∧ ∃ u w', (execOp a.eval ox).run P w = .ok (.value u) w' ∧ (vals w.heap.size)[x]? = some u ∧ S' w.heap.size w')
 (hend : ∀ n w, S' n w → wpOp P ops Q z (fun a' w' => True ∧ Q .normal a' w') (F n) w) :
 ∀ (fuel : Nat) (listed : Array Bool) (a : Act), listed.size = ops.size → (unlisted ops listed).length = fuel → x ∈ unlisted ops listed → z ∈ unlisted ops listed → (∀ n, ((unlisted ops listed).filter fun k => k != z).foldl (putI ops (vals n)) a = F n) → ∀ w, S w → wpAnyH P md ops Q (fun _ => True) fuel listed a w := by
 intro fuel
 induction fuel with
 | zero =>
  intro listed a hs hl hxu hzu hF w hS
  rw [List.eq_nil_of_length_eq_zero hl] at hxu
  cases hxu
 | succ fuel ih =>
  intro listed a hs hl hxu hzu hF w hS
  have hnd : (unlisted ops listed).Nodup := (List.nodup_range).filter _
  have hcount : ∀ i, i ∈ unlisted ops listed → ((unlisted ops listed).filter fun k => k != i).length = fuel := fun i hi => by
   have := filter_count _ hnd hi
   omega
  refine ⟨fun hr => ?_, fun i hi => ?_⟩
  · exfalso
    cases hu : unlisted ops listed with
    | nil => rw [hu] at hl; cases hl
    | cons i rest =>
     have hmi : i ∈ unlisted ops listed := by rw [hu]; exact List.mem_cons_self
     obtain ⟨hi1, hi2⟩ := mem_unlisted.1 hmi
     have hpw : (unlisted ops listed).Pairwise (· < ·) := List.Pairwise.filter _ List.pairwise_lt_range
     rw [hu, List.pairwise_cons] at hpw
     obtain ⟨o, ho⟩ : ∃ o, ops[i]? = some o := ⟨_, Array.getElem?_eq_getElem hi1⟩
     have : i ∈ Region.ready md ops listed := by
      refine mem_ready.2 ⟨hi2, o, ho, fun e he hb => ?_⟩
      have hlt := (inOrder_spec h ho).1 e he hb
      have hnot : e.on ∉ unlisted ops listed := fun hm => by
       rw [hu] at hm
       rcases List.mem_cons.1 hm with hm | hm
       · omega
       · have := hpw.1 _ hm; omega
      have hge : listed.getD e.on true = true := by
       cases hc : listed.getD e.on true with
       | true => rfl
       | false => exact absurd (mem_unlisted.2 ⟨by omega, hc⟩) hnot
      have hsz : e.on < listed.size := by omega
      simp [hsz] at hge ⊢
      exact hge
     rw [hr] at this
     cases this
  · obtain ⟨h1, o, ho, hall⟩ := mem_ready.1 hi
    have hi1 : i < ops.size := (Array.getElem?_eq_some_iff.1 ho).1
    have hmi : i ∈ unlisted ops listed := mem_unlisted.2 ⟨hi1, h1⟩
    have hset := unlisted_set (i := i) hs hi1
    have hiz : i ≠ z := fun e => by
     subst e
     have hoo : o = oz := by rw [ho] at hoz; injection hoz
     subst hoo
     obtain ⟨hx1, hx2⟩ := mem_unlisted.1 hxu
     obtain ⟨e, he, hb, hex⟩ := hlast x hx1 (fun e => hzx e.symm)
     have h3 := hall e he hb
     have hsz : x < listed.size := by omega
     rw [hex] at h3
     simp [hsz] at h3 hx2
     rw [h3] at hx2
     cases hx2
    have hmf : i ∈ (unlisted ops listed).filter fun k => k != z := List.mem_filter.2 ⟨hmi, by simpa using hiz⟩
    have hout : ∀ n v, (vals n)[i]? = some v → ((unlisted ops (listed.setIfInBounds i true)).filter fun k => k != z).foldl (putI ops (vals n)) (a.put o.dst v) = F n := by
     intro n v hv
     have h2 := hF n
     rw [foldl_out h (vals n) _ a (hnd.filter _) hmf] at h2
     have e1 : putI ops (vals n) a i = a.put o.dst v := by unfold putI; rw [ho, hv]
     rw [e1, List.filter_filter] at h2
     rw [hset, List.filter_filter, ← h2]
     congr 1
     refine List.filter_congr fun k _ => ?_
     exact Bool.and_comm _ _
    by_cases hix : i = x
    · subst hix
      have hoo : o = ox := by rw [ho] at hox; injection hox
      subst hoo
      obtain ⟨hw, u, w', hr, hv, hS'⟩ := hx a w hS
      unfold Go.wpOp
      simp only [ho, hw, if_true]
      refine .inl ?_
      unfold Oper.wp
      rw [hr]
      refine ⟨trivial, ?_⟩
      refine wpAnyH_steady_end h hsel hoz hlast (vals := vals w.heap.size) (hlen _) (SS := fun _ => True) (fun _ _ => trivial) (hend w.heap.size) fuel (listed.setIfInBounds i true) (a.put o.dst u) ?_ (by simpa using hs) ?_ ?_ (hout _ u hv) w' hS'
      · intro j p v hj hjz hp hv2
        rw [hset] at hj
        have hji : j ≠ i := by simpa using (List.mem_filter.1 hj).2
        exact hst2 _ j p v hji hjz hp hv2
      · rw [hset]; exact hcount i hmi
      · rw [hset]; exact List.mem_filter.2 ⟨hzu, by simpa using fun e => hzx e⟩
    · have hid : i ∉ dep := fun hd => by
       obtain ⟨e, he, hb, hex⟩ := hdep i hd o ho
       have h3 := hall e he hb
       obtain ⟨hx1, hx2⟩ := mem_unlisted.1 hxu
       have hsz : x < listed.size := by omega
       rw [hex] at h3
       simp [hsz] at h3 hx2
       rw [h3] at hx2
       cases hx2
      obtain ⟨v, hv⟩ : ∃ v, (vals 0)[i]? = some v := ⟨_, List.getElem?_eq_getElem (by rw [hlen]; exact hi1)⟩
      have hsel' := fun cs b => Region.noSelect_spec hsel i o cs b ho
      have hsF := hst1 i o v hix hiz hid ho hv
      rw [← hF 0] at hsF
      have hsa : Steady P ops S o v a := by
       refine steady_back hsel' _ a (fun k hk p hp => ?_) hsF
       obtain ⟨hk1, hk2⟩ := mem_unlisted.1 (List.mem_filter.1 hk).1
       rcases ((inOrder_spec h ho).2 k p hp).2 with hb | ⟨e, he, hb, rfl⟩
       · exact hb
       · exfalso
         have h3 := hall e he hb
         have hsz : e.on < listed.size := by omega
         simp [hsz] at h3 hk2
         rw [h3] at hk2
         cases hk2
      refine hsa.wpOp ho hS (fun w' hS' => ⟨trivial, ?_⟩)
      refine ih (listed.setIfInBounds i true) (a.put o.dst v) (by simpa using hs) ?_ ?_ ?_ (fun n => hout n v (by rw [hsame n i hix hiz hid]; exact hv)) w' hS'
      · rw [hset]; exact hcount i hmi
      · rw [hset]; exact List.mem_filter.2 ⟨hxu, by simpa using fun e => hix e.symm⟩
      · rw [hset]; exact List.mem_filter.2 ⟨hzu, by simpa using fun e => hiz e.symm⟩
theorem wp_region_alloc_end {id : Nat} {a : Act} {w : World} (hm : P.follows .mixedOrders = true) (h : inOrder .any ops = true) (hsel : Region.noSelect ops = true) {x : Nat} {ox : Oper} (hox : ops[x]? = some ox) {z : Nat} {oz : Oper} (hoz : ops[z]? = some oz) (hlast : ∀ k, k < ops.size → k ≠ z → ∃ e ∈ oz.after, Region.binds .any e = true ∧ e.on = k) (hzx : z ≠ x) {dep : List Nat} {vals : Nat → List Value} (hlen : ∀ n, (vals n).length = ops.size) {S' : Nat → World → Prop} {F : Nat → Act}
 (hdep : ∀ i ∈ dep, ∀ o, ops[i]? = some o → ∃ e ∈ o.after, Region.binds .any e = true ∧ e.on = x)
 (hsame : ∀ n i, i ≠ x → i ≠ z → i ∉ dep → (vals n)[i]? = (vals 0)[i]?) (hS : S w.drew) (hF : ∀ n, ((List.range ops.size).filter fun k => k != z).foldl (putI ops (vals n)) a = F n)
 (hst1 : ∀ (i : Nat) (o : Oper) (v : Value), i ≠ x → i ≠ z → i ∉ dep → ops[i]? = some o → (vals 0)[i]? = some v → Steady P ops S o v (F 0))
 (hst2 : ∀ (n i : Nat) (o : Oper) (v : Value), i ≠ x → i ≠ z → ops[i]? = some o → (vals n)[i]? = some v → Steady P ops (S' n) o v (F n))
 (hx : ∀ (a : Act) (w : World), S w → Region.wanted ox (yielded ops a.tmps) = true ∧ ∃ u w', (execOp a.eval ox).run P w = .ok (.value u) w' ∧ (vals w.heap.size)[x]? = some u ∧ S' w.heap.size w')
 (hend : ∀ n w, S' n w → wpOp P ops Q z (fun a' w' => True ∧ Q .normal a' w') (F n) w) : (Code.region id ops true).wp P Q a w := by
 have hu : unlisted ops (Array.replicate ops.size false) = List.range ops.size := by
  unfold unlisted
  rw [List.filter_eq_self]
  intro k hk
  have := List.mem_range.1 hk
  simp [this]
 refine wp_region_held (S := fun _ => True) hm (wpAnyH_alloc_end (S := S) h hsel hox hoz hlast hzx hlen hdep hsame hst1 hst2 hx hend ops.size _ a (by simp) ?_ ?_ ?_ (fun n => ?_) _ hS)
 · rw [hu, List.length_range]
 · rw [hu]; exact List.mem_range.2 (Array.getElem?_eq_some_iff.1 hox).1
 · rw [hu]; exact List.mem_range.2 (Array.getElem?_eq_some_iff.1 hoz).1
 · rw [hu]; exact hF n
end
end Go.Proofs.Ytjgpghaofhcfnaa
namespace Go.Proofs.Ytjgpghaofhcfnaa
open Go
def FreeR (P : Program) (K : Value → World → Prop) : Result Next → Prop
  | .ok (.value u) w' => K u w'
  | .ok .skip w' => K undef w'
  | .ok (.enter f args) w' => Calls P f args w' fun e w'' => ∃ u, e = .returned u ∧ K u w''
  | _ => False
structure FreeS (P : Program) (K : Value → World → Prop) (r : Result Next) : Prop where
 out : FreeR P K r
theorem FreeS.val {P : Program} {K : Value → World → Prop} {u : Value} {w : World} (h : K u w) : FreeS P K (.ok (.value u) w) := ⟨h⟩
theorem FreeS.skip {P : Program} {K : Value → World → Prop} {w : World} (h : K undef w) : FreeS P K (.ok .skip w) := ⟨h⟩
theorem FreeS.enter {P : Program} {K : Value → World → Prop} {f : FuncId} {args : Array Value} {w : World} (h : Calls P f args w fun e w'' => ∃ u, e = .returned u ∧ K u w'') : FreeS P K (.ok (.enter f args) w) := ⟨h⟩
def Free (P : Program) (ops : Array Oper) (o : Oper) (a : Act) (w : World) (K : Value → World → Prop) : Prop :=
 (Region.wanted o (yielded ops a.tmps) = true ∧ FreeS P K ((execOp a.eval o).run P w)) ∨
 (Region.wanted o (yielded ops a.tmps) = false ∧ K undef w)
theorem Free.wpOp {P : Program} {ops : Array Oper} {Q : Exit → Act → World → Prop} {i : Nat} {o : Oper} {a : Act} (hi : ops[i]? = some o) {K0 : Value → World → Prop} {w : World} (hy : Free P ops o a w K0)
 {K : Act → World → Prop} (h : ∀ u w', K0 u w' → K (a.put o.dst u) w') : wpOp P ops Q i K a w := by
 unfold Go.wpOp
 simp only [hi]
 rcases hy with ⟨hw, hv⟩ | ⟨hw, hv⟩
 · simp only [hw, if_true]
   refine .inl ?_
   replace hv := hv.out
   unfold Oper.wp
   generalize (execOp a.eval o).run P w = r at hv ⊢
   cases r with
   | halt x w' => exact absurd hv (by simp [FreeR])
   | ok n w' =>
    cases n with
    | value u => exact h _ _ hv
    | skip => exact h _ _ hv
    | enter f args => exact Calls.mono hv (fun e w'' he => by obtain ⟨u, rfl, h2⟩ := he; exact h _ _ h2)
    | _ => exact absurd hv (by simp [FreeR])
 · simp only [hw, Bool.false_eq_true, if_false]
   exact h _ _ hv
theorem FreeS.keep {P : Program} {K : Value → World → Prop} {r : Result Next} (h : ∀ K' : Value → World → Prop, (∀ u w, K u w → K' u w) → FreeS P K' r) : FreeS P K r := h K fun _ _ h => h
theorem free_append {P : Program} {o : Oper} {a : Act} {w : World} {K : Value → World → Prop} {s x : Operand} {t : TypeId} {v0 vx v' : Value} {w' : World}
 (ho : o.op = .call { callee := .builtin .append, args := #[s, x], argTypes := #[t, t] }) (hs : a.eval s = v0) (hx : a.eval x = vx) (hr : (Builtin.append_ #[t, t] o.type #[v0, vx]).run P w = .ok v' w') (h : K v' w') : FreeS P K ((execOp a.eval o).run P w) := by
 constructor
 unfold execOp
 simp only [ho, resolve, invoke, builtin, Sem.run_bind, Sem.run_pure, Result.andThen_ok, List.map_toArray, List.map_cons, List.map_nil, hs, hx, hr]
 exact h
def inOrderL (md : Region.Mode) (ops : Array Oper) : Bool :=
 (List.range ops.size).all fun i =>
  match ops[i]? with
  | none => true
  | some o => (o.after.toList.all fun e => !Region.binds md e || decide (e.on < i)) &&
   (List.range ops.size).all (fun k => match ops[k]? with | none => true | some p => i == k || o.dst == none || o.dst != p.dst) &&
   (o.looksAt ops).all fun d => (List.range ops.size).all fun k => match ops[k]? with | none => true | some p => p.dst != some d || o.after.toList.any fun e => Region.binds md e && e.on == k
theorem inOrder_of {md : Region.Mode} {ops : Array Oper} (h : inOrderL md ops = true) : inOrder md ops = true := by
 unfold inOrderL at h
 unfold inOrder
 rw [List.all_eq_true] at h ⊢
 intro i hi
 have h1 := h i hi
 cases ho : ops[i]? with
 | none => simp
 | some o =>
  simp only [ho, Bool.and_eq_true, List.all_eq_true] at h1 ⊢
  obtain ⟨⟨h2, h3⟩, h4⟩ := h1
  refine ⟨?_, fun k hk => ?_⟩
  · rw [Array.all_eq_true_iff_forall_mem]
    intro e he
    exact h2 e (Array.mem_toList_iff.2 he)
  · have h5 := h3 k hk
    cases hp : ops[k]? with
    | none => simp
    | some p =>
     simp only [hp] at h5 ⊢
     rw [h5, Bool.true_and]
     unfold blind
     cases hd : p.dst with
     | none => simp
     | some d =>
      show (!(o.looksAt ops).contains d || o.after.any fun e => Region.binds md e && e.on == k) = true
      cases hc : (o.looksAt ops).contains d with
      | false => rfl
      | true =>
       have h6 := h4 d (by simpa using hc) k hk
       simp only [hp, hd] at h6
       have h7 : (o.after.toList.any fun e => Region.binds md e && e.on == k) = true := by simpa using h6
       rw [Bool.not_true, Bool.false_or, ← Array.any_toList]
       exact h7
section
variable {P : Program} {ops : Array Oper} {Q : Exit → Act → World → Prop} {md : Region.Mode}
theorem free_back {vals : List Value} {o : Oper} {w : World} {K : Value → World → Prop} (hs : ∀ cs b, o.op ≠ .select cs b) : ∀ (l : List Nat) (a : Act), (∀ k ∈ l, ∀ p, ops[k]? = some p → blind ops o p = true) → Free P ops o (l.foldl (putI ops vals) a) w K → Free P ops o a w K := by
 intro l
 induction l with
 | nil => intro a _ h; exact h
 | cons k l ih =>
  intro a hb h
  have h1 := ih (putI ops vals a k) (fun j hj => hb j (List.mem_cons_of_mem _ hj)) h
  unfold putI at h1
  cases hk : ops[k]? with
  | none => simp only [hk] at h1; exact h1
  | some p =>
   cases hv : vals[k]? with
   | none => simp only [hk, hv] at h1; exact h1
   | some u =>
    simp only [hk, hv] at h1
    have hbl := hb k List.mem_cons_self p hk
    have hd : ∀ d, p.dst = some d → d ∉ o.looksAt ops := by
     intro d hd
     unfold blind at hbl
     rw [hd] at hbl
     simpa using hbl
    unfold Free at h1 ⊢
    rw [execOp_put o hs a p.dst u hd, wanted_put o a p.dst u hd] at h1
    exact h1
theorem foldl_putI_congr {vals vals' : List Value} : ∀ (l : List Nat) (a : Act), (∀ k ∈ l, vals'[k]? = vals[k]?) → l.foldl (putI ops vals') a = l.foldl (putI ops vals) a := by
 intro l
 induction l with
 | nil => intro a _; rfl
 | cons k l ih =>
  intro a h
  rw [List.foldl_cons, List.foldl_cons, ih _ (fun j hj => h j (List.mem_cons_of_mem _ hj))]
  congr 1
  unfold putI
  rw [h k List.mem_cons_self]
theorem filter_all_count {i : Nat} (l : List Nat) (hn : l.Nodup) (hi : i ∈ l) : (l.filter fun k => k != i).length + 1 = l.length := filter_count l hn hi
def waitsFor (md : Region.Mode) (o : Oper) (k : Nat) : Bool := o.after.any fun e => Region.binds md e && e.on == k
theorem waitsFor_spec {o : Oper} {k : Nat} (h : waitsFor md o k = true) : ∃ e ∈ o.after, Region.binds md e = true ∧ e.on = k := by
 unfold waitsFor at h
 rw [Array.any_eq_true] at h
 obtain ⟨x, hx, hb⟩ := h
 rw [Bool.and_eq_true] at hb
 exact ⟨o.after[x], Array.getElem_mem hx, hb.1, by simpa using hb.2⟩
def closedIn (md : Region.Mode) (ops : Array Oper) (d : Nat → Bool) : Prop := ∀ (k j : Nat) (p : Oper), d k = true → ops[k]? = some p → waitsFor md p j = true → d j = true
def doneOf (listed : Array Bool) : Nat → Bool := fun k => listed.getD k false
theorem doneOf_set {listed : Array Bool} {i : Nat} (hi : i < listed.size) : doneOf (listed.setIfInBounds i true) = fun k => k == i || doneOf listed k := by
 funext k
 unfold doneOf
 by_cases hk : k = i
 · subst hk; simp [hi]
 · rw [getD_set_ne false (fun e => hk e.symm)]
   have : (k == i) = false := by simpa using hk
   rw [this, Bool.false_or]
theorem wpAnyH_free {Θ : Type} (h : inOrder md ops = true) (hsel : Region.noSelect ops = true) {vals : Θ → List Value} (hlen : ∀ θ, (vals θ).length = ops.size) {a0 : Act} {F : Θ → Act} (hF0 : ∀ θ, (List.range ops.size).foldl (putI ops (vals θ)) a0 = F θ)
 {S : (Nat → Bool) → Θ → World → Prop}
 (hstep : ∀ (d : Nat → Bool) (θ : Θ) (w : World) (i : Nat) (o : Oper), d i = false → ops[i]? = some o → (∀ k, waitsFor md o k = true → d k = true) → closedIn md ops d → S d θ w →
  Free P ops o (F θ) w fun u w' => ∃ θ', (vals θ')[i]? = some u ∧ (∀ k, d k = true → (vals θ')[k]? = (vals θ)[k]?) ∧ S (fun k => k == i || d k) θ' w')
 (hQ : ∀ d θ w, (∀ k, k < ops.size → d k = true) → S d θ w → Q .normal (F θ) w) :
 ∀ (fuel : Nat) (listed : Array Bool) (θ : Θ) (a : Act), listed.size = ops.size → (unlisted ops listed).length = fuel → (unlisted ops listed).foldl (putI ops (vals θ)) a = F θ →
  (∀ θ', (∀ k, doneOf listed k = true → (vals θ')[k]? = (vals θ)[k]?) → (unlisted ops listed).foldl (putI ops (vals θ')) a = F θ') → closedIn md ops (doneOf listed) → ∀ w, S (doneOf listed) θ w → wpAnyH P md ops Q (fun _ => True) fuel listed a w := by
 have hun : ∀ (listed : Array Bool) (k : Nat), listed.size = ops.size → k < ops.size → (k ∈ unlisted ops listed ↔ doneOf listed k = false) := by
  intro listed k hs hk
  rw [mem_unlisted]
  unfold doneOf
  have : k < listed.size := by omega
  simp [this, hk]
 intro fuel
 induction fuel with
 | zero =>
  intro listed θ a hs hl hF _ _ w hS
  have hu := List.eq_nil_of_length_eq_zero hl
  rw [hu] at hF
  have hF : a = F θ := hF
  subst hF
  refine ⟨List.eq_nil_iff_forall_not_mem.2 fun j hj => ?_, hQ _ θ w (fun k hk => ?_) hS⟩
  · obtain ⟨h1, o, ho, -⟩ := mem_ready.1 hj
    have : j ∈ unlisted ops listed := mem_unlisted.2 ⟨(Array.getElem?_eq_some_iff.1 ho).1, h1⟩
    rw [hu] at this
    cases this
  · cases hc : doneOf listed k with
    | true => rfl
    | false =>
     have := (hun listed k hs hk).2 hc
     rw [hu] at this
     cases this
 | succ fuel ih =>
  intro listed θ a hs hl hF hFF hcl w hS
  have hnd : (unlisted ops listed).Nodup := (List.nodup_range).filter _
  refine ⟨fun hr => ?_, fun i hi => ?_⟩
  · exfalso
    cases hu : unlisted ops listed with
    | nil => rw [hu] at hl; cases hl
    | cons i rest =>
     have hmi : i ∈ unlisted ops listed := by rw [hu]; exact List.mem_cons_self
     obtain ⟨hi1, hi2⟩ := mem_unlisted.1 hmi
     have hpw : (unlisted ops listed).Pairwise (· < ·) := List.Pairwise.filter _ List.pairwise_lt_range
     rw [hu, List.pairwise_cons] at hpw
     obtain ⟨o, ho⟩ : ∃ o, ops[i]? = some o := ⟨_, Array.getElem?_eq_getElem hi1⟩
     have : i ∈ Region.ready md ops listed := by
      refine mem_ready.2 ⟨hi2, o, ho, fun e he hb => ?_⟩
      have hlt := (inOrder_spec h ho).1 e he hb
      have hnot : e.on ∉ unlisted ops listed := fun hm => by
       rw [hu] at hm
       rcases List.mem_cons.1 hm with hm | hm
       · omega
       · have := hpw.1 _ hm; omega
      have hge : listed.getD e.on true = true := by
       cases hc : listed.getD e.on true with
       | true => rfl
       | false => exact absurd (mem_unlisted.2 ⟨by omega, hc⟩) hnot
      have hsz : e.on < listed.size := by omega
      simp [hsz] at hge ⊢
      exact hge
     rw [hr] at this
     cases this
  · obtain ⟨h1, o, ho, hall⟩ := mem_ready.1 hi
    have hi1 : i < ops.size := (Array.getElem?_eq_some_iff.1 ho).1
    have hmi : i ∈ unlisted ops listed := mem_unlisted.2 ⟨hi1, h1⟩
    have hsel' := fun cs b => Region.noSelect_spec hsel i o cs b ho
    have hdi : doneOf listed i = false := (hun listed i hs hi1).1 hmi
    have hde : ∀ k, waitsFor md o k = true → doneOf listed k = true := fun k hk => by
     obtain ⟨e, he, hb, rfl⟩ := waitsFor_spec hk
     have h3 := hall e he hb
     have hlt := (inOrder_spec h ho).1 e he hb
     have hsz : e.on < listed.size := by omega
     unfold doneOf
     simp [hsz] at h3 ⊢
     exact h3
    have hfr := hstep _ θ w i o hdi ho hde hcl hS
    rw [← hF] at hfr
    have hbl : ∀ k ∈ unlisted ops listed, ∀ p, ops[k]? = some p → blind ops o p = true := by
     intro k hk p hp
     obtain ⟨hk1, hk2⟩ := mem_unlisted.1 hk
     rcases ((inOrder_spec h ho).2 k p hp).2 with hb | ⟨e, he, hb, rfl⟩
     · exact hb
     · exfalso
       have h3 := hall e he hb
       have hsz : e.on < listed.size := by omega
       simp [hsz] at h3 hk2
       rw [h3] at hk2
       cases hk2
    have hfa := free_back hsel' _ a hbl hfr
    have hset := unlisted_set (i := i) hs hi1
    have hdo := doneOf_set (i := i) (listed := listed) (by omega)
    refine hfa.wpOp ho (fun u w' hk => ⟨trivial, ?_⟩)
    obtain ⟨θ', hu, hsame, hS'⟩ := hk
    have hout : ∀ θ'', (∀ k, doneOf listed k = true → (vals θ'')[k]? = (vals θ)[k]?) → (vals θ'')[i]? = some u → ((unlisted ops listed).filter fun k => k != i).foldl (putI ops (vals θ'')) (a.put o.dst u) = F θ'' := by
     intro θ'' hs2 hu2
     have h2 := hFF θ'' hs2
     rw [foldl_out h (vals θ'') _ a hnd hmi] at h2
     have e1 : putI ops (vals θ'') a i = a.put o.dst u := by unfold putI; rw [ho, hu2]
     rw [e1] at h2
     exact h2
    refine ih (listed.setIfInBounds i true) θ' (a.put o.dst u) (by simpa using hs) ?_ ?_ ?_ ?_ w' (by rw [hdo]; exact hS')
    · rw [hset]
      have := filter_count _ hnd hmi
      omega
    · rw [hset]; exact hout θ' hsame hu
    · intro θ'' hs2
      rw [hdo] at hs2
      rw [hset]
      refine hout θ'' (fun k hk => ?_) ?_
      · rw [hs2 k (by show (k == i || doneOf listed k) = true; rw [hk, Bool.or_true]), hsame k hk]
      · rw [hs2 i (by simp), hu]
    · rw [hdo]
      intro k j p hk hp hw
      by_cases hki : k = i
      · subst hki
        have hpo : p = o := by rw [hp] at ho; injection ho
        subst hpo
        simp [hde j hw]
      · have hki2 : (k == i) = false := by simpa using hki
        simp only [hki2, Bool.false_or] at hk
        simp [hcl k j p hk hp hw]
theorem wp_region_free {Θ : Type} {id : Nat} {a : Act} {w : World} (hm : P.follows .mixedOrders = true) (h : inOrder .any ops = true) (hsel : Region.noSelect ops = true) {vals : Θ → List Value} (hlen : ∀ θ, (vals θ).length = ops.size) {F : Θ → Act} (hF0 : ∀ θ, (List.range ops.size).foldl (putI ops (vals θ)) a = F θ)
 {S : (Nat → Bool) → Θ → World → Prop} (θ0 : Θ) (h0 : S (fun _ => false) θ0 w.drew)
 (hstep : ∀ (d : Nat → Bool) (θ : Θ) (w : World) (i : Nat) (o : Oper), d i = false → ops[i]? = some o → (∀ k, waitsFor .any o k = true → d k = true) → closedIn .any ops d → S d θ w →
  Free P ops o (F θ) w fun u w' => ∃ θ', (vals θ')[i]? = some u ∧ (∀ k, d k = true → (vals θ')[k]? = (vals θ)[k]?) ∧ S (fun k => k == i || d k) θ' w')
 (hQ : ∀ d θ w, (∀ k, k < ops.size → d k = true) → S d θ w → Q .normal (F θ) w) : (Code.region id ops true).wp P Q a w := by
 have hu : unlisted ops (Array.replicate ops.size false) = List.range ops.size := by
  unfold unlisted
  rw [List.filter_eq_self]
  intro k hk
  have := List.mem_range.1 hk
  simp [this]
 have hd : doneOf (Array.replicate ops.size false) = fun _ => false := by
  funext k
  unfold doneOf
  by_cases hk : k < ops.size <;> simp [hk]
 refine wp_region_held (S := fun _ => True) hm (wpAnyH_free (S := S) h hsel hlen hF0 hstep hQ ops.size _ θ0 a (by simp) ?_ ?_ (fun θ' _ => ?_) (by rw [hd]; intro k j p hk; cases hk) _ (by rw [hd]; exact h0))
 · rw [hu, List.length_range]
 · rw [hu]; exact hF0 θ0
 · rw [hu]; exact hF0 θ'
end
end Go.Proofs.Ytjgpghaofhcfnaa
