/- Texts on the program that the proof leans on, part 57. -/
import Derived.Test.YtjgpghaofhcfnaaYbe
import Derived.Test.YtjgpghaofhcfnaaYbc
import Derived.Test.YtjgpghaofhcfnaaYbg
import Derived.Test.YtjgpghaofhcfnaaYcc
import Derived.Test.YtjgpghaofhcfnaaYcd
set_option linter.unusedVariables false
set_option linter.unusedSimpArgs false

/- Contract of LandingEnds: it returns true, whatever the book and the numbers. -/
namespace Go.Proofs.Ytjgpghaofhcfnaa
open Go.RowKit

theorem rightV_any (b : Ld.Bk) (T D : Value) (w : World) (hb : RB w w.heap.size b T D) (hv : Ld.valid b = true) :
  Calls Try.prog 17 #[vBk T D b] w fun e w' => e = .returned (.tuple #[.bool (Ld.possible b), I 0]) ∧ Below w.heap.size w w' := by
 have h := right_any b T D w hb
 rw [hv, Bool.true_and, show Ld.check b = 0 by unfold Ld.check; rw [if_pos hv]] at h
 exact h
theorem floorB_lists (b : Ld.Bk) (m : Nat) (n : Int) : (Ld.floorB b m n).tides = b.tides ∧ (Ld.floorB b m n).sounds = b.sounds := by
 unfold Ld.floorB
 split <;> exact ⟨rfl, rfl⟩
theorem RB.tideB {w : World} {b : Ld.Bk} {T T' D : Value} (h : RB w w.heap.size b T D) (q : Nat) (n : Int) (hT : Sl w w.heap.size 2 T' (Ld.tideB b q n).tides.length ((Ld.tideB b q n).tides.flatMap cSp)) : RB w w.heap.size (Ld.tideB b q n) T' D := ⟨hT, h.sounds⟩
theorem RB.floorB {w : World} {B : Nat} {b : Ld.Bk} {T D : Value} (h : RB w B b T D) (m : Nat) (n : Int) : RB w B (Ld.floorB b m n) T D := ⟨by rw [(floorB_lists b m n).1]; exact h.tides, by rw [(floorB_lists b m n).2]; exact h.sounds⟩

set_option maxRecDepth 100000 in
set_option maxHeartbeats 20000000 in
theorem LandingEnds_any (b : Ld.Bk) (T D : Value) (n0 n1 n2 n3 : Int) (w : World) (hb : RB w w.heap.size b T D) :
  Calls Try.prog 4 #[vBk T D b, .agg #[I n0, I n1, I n2, I n3]] w fun e w' => e = .returned (.bool true) ∧ Below w.heap.size w w' := by
 obtain ⟨A0, k0, rfl⟩ := hb.tides.form
 obtain ⟨A1, k1, rfl⟩ := hb.sounds.form
 obtain ⟨o, ho⟩ : ∃ o : Obj, o = .cells (rBk (.slice A0 b.tides.length k0) (.slice A1 b.sounds.length k1) b) 30 := ⟨_, rfl⟩
 obtain ⟨o2, ho2⟩ : ∃ o : Obj, o = .cells #[I n0, I n1, I n2, I n3] 57 := ⟨_, rfl⟩
 obtain ⟨W0, hW0⟩ : ∃ W : World, W = (w.alloc o).alloc o2 := ⟨_, rfl⟩
 have hb0 : Below w.heap.size w W0 := by rw [hW0]; exact ((Below.refl _ _).alloc (Nat.le_refl _) _).alloc (by simp) _
 have rB : W0.heap[w.heap.size]? = some o := by rw [hW0]; exact (Below.heap_alloc _ _ _ (by simp)).trans (heap_at _ _ rfl)
 have rN : W0.heap[w.heap.size + 1]? = some o2 := by rw [hW0]; exact heap_at _ _ (by simp)
 have lB : w.heap.size < W0.heap.size := by rw [hW0]; simp; omega
 have lN : w.heap.size + 1 < W0.heap.size := by rw [hW0]; simp
 go_enter Try.func4, Try.ntmps4
 go_wp2_with fail
 rw [← ho, ← ho2, ← hW0]
 subst ho ho2
 clear hW0
 have hRB := (hb.below hb0 (Nat.le_refl _)).more hb0.size
 refine (sound_any b _ _ W0 hRB).mono ?_
 rintro e w1 ⟨rfl, hB1⟩
 replace rB := (hB1.block _ lB).trans rB
 replace lB := Nat.lt_of_lt_of_le lB hB1.size
 replace rN := (hB1.block _ lN).trans rN
 replace lN := Nat.lt_of_lt_of_le lN hB1.size
 have hb1 := hb0.trans (hB1.mono hb0.size)
 clear hRB hb0 hB1
 by_cases hck : Ld.check b = 0
 case neg =>
  rw [decide_eq_false hck]
  clear rB rN lB lN
  go_wp2_with fail
  refine (moored_any _).mono ?_
  rintro e w2 ⟨rfl, hB2⟩
  have HB2 := Lib.hid (hb1.trans (hB2.mono hb1.size))
  clear hB2
  go_wp2_with fail
  go_ret
  exact ⟨rfl, HB2.out⟩
 rw [decide_eq_true hck]
 have hval : Ld.valid b = true := by
  unfold Ld.check at hck
  split at hck
  ·assumption
  ·omega
 have hsz := Ld.sized_bd (Ld.valid_parts hval).1
 have HRB := Lib.hid (show ∀ W', Below w.heap.size w W' → RB W' W'.heap.size b (.slice A0 b.tides.length k0) (.slice A1 b.sounds.length k1) from fun W' h => (hb.below h (Nat.le_refl _)).more h.size)
 clear hb hck
 obtain ⟨q, hq⟩ : ∃ q : Nat, (q : Int) = n0 % b.tides.length := ⟨_, Int.toNat_of_nonneg (Int.emod_nonneg _ (by omega))⟩
 have hq1 : q < b.tides.length := by have := Int.emod_lt_of_pos n0 (show (0 : Int) < b.tides.length by omega); omega
 obtain ⟨m, hm⟩ : ∃ m : Nat, (m : Int) = n1 % 2 := ⟨_, Int.toNat_of_nonneg (Int.emod_nonneg _ (by omega))⟩
 have hm1 : m = 0 ∨ m = 1 := by have := Int.emod_lt_of_pos n1 (show (0 : Int) < 2 by omega); omega
 have HVAL := Lib.hid hval
 have HSZ := Lib.hid hsz
 have hs1 : (0 : Int) < b.tides.length := by omega
 have hs2 : (b.tides.length : Int) ≤ 1000 := by omega
 clear hval hsz
 have qB0 := cell_of_row w1 _ 0 _ _ _ rB
 simp only [List.getElem?_toArray, List.getElem?_cons_zero, List.getElem?_cons_succ] at qB0
 have qN0 := cell_of_row w1 _ 0 _ _ _ rN
 have qN1 := cell_of_row w1 _ 1 _ _ _ rN
 simp only [List.getElem?_toArray, List.getElem?_cons_zero, List.getElem?_cons_succ] at qN0 qN1
 go_wp2_with fail
 go_region_held3 (fun w' => Held w1 w') (first | assumption | exact held_start _ | exact held_step (by assumption) (by assumption) | exact held_step (by assumption) (held_start _) | go_keep)
  (first | (go_at_call 16; refine (mod_any _ _ (by omega) (by omega) _).mono ?_; rintro e w2 ⟨rfl, hB2⟩))
 have hHE : Held w1 w2 := by assumption
 rw [← hm, ← hq]
 obtain ⟨u, hu⟩ : ∃ u : World, u = w2 := ⟨_, rfl⟩
 rw [← hu] at hHE ⊢
 clear hu hB2
 have hBu := hHE.2.2
 replace rB := (hBu.block _ lB).trans rB
 replace lB := Nat.lt_of_lt_of_le lB hBu.size
 replace rN := (hBu.block _ lN).trans rN
 replace lN := Nat.lt_of_lt_of_le lN hBu.size
 have hbu := hb1.trans (hBu.mono hb1.size)
 clear qB0 qN0 qN1 hHE hBu hb1 hs1 hs2 hm hq

 have hsp := Ld.ends_spec HVAL.out hq1 hm1
 have c1 := fun W' h => Height_any b (.slice A0 b.tides.length k0) (.slice A1 b.sounds.length k1) q W' (HRB.out W' h)
 have c2 := fun W' h => floor_any b (.slice A0 b.tides.length k0) (.slice A1 b.sounds.length k1) m W' (HRB.out W' h)
 obtain ⟨⟨p1, z1⟩, h1⟩ : ∃ v : Ld.Sp, Ld.heightR b q = v := ⟨_, rfl⟩
 obtain ⟨⟨p2, z2⟩, h2⟩ : ∃ v : Ld.Sp, Ld.floorR b m = v := ⟨_, rfl⟩
 obtain ⟨e1, g1⟩ : ∃ E : Int, Ld.studyE b (Ld.isHour b q) = E := ⟨_, rfl⟩
 obtain ⟨e2, g2⟩ : ∃ E : Int, Ld.studyE b (Ld.isShore m) = E := ⟨_, rfl⟩
 simp only [h1, h2, g1, g2] at hsp
 simp only [h1, g1] at c1
 simp only [h2, g2] at c2
 have C1 := Lib.hid c1
 have C2 := Lib.hid c2
 have HSP := Lib.hid hsp
 clear c1 c2 hsp h1 h2 g1 g2
 have qB0 := cell_of_row u _ 0 _ _ _ rB
 have qB1 := cell_of_row u _ 1 _ _ _ rB
 have qB2 := cell_of_row u _ 2 _ _ _ rB
 have qB3 := cell_of_row u _ 3 _ _ _ rB
 have qB4 := cell_of_row u _ 4 _ _ _ rB
 have qB5 := cell_of_row u _ 5 _ _ _ rB
 have qB6 := cell_of_row u _ 6 _ _ _ rB
 have qB7 := cell_of_row u _ 7 _ _ _ rB
 have qB8 := cell_of_row u _ 8 _ _ _ rB
 have qB9 := cell_of_row u _ 9 _ _ _ rB
 have qB10 := cell_of_row u _ 10 _ _ _ rB
 have qB11 := cell_of_row u _ 11 _ _ _ rB
 have qB12 := cell_of_row u _ 12 _ _ _ rB
 have qB13 := cell_of_row u _ 13 _ _ _ rB
 simp only [List.getElem?_toArray, List.getElem?_cons_zero, List.getElem?_cons_succ] at qB0 qB1 qB2 qB3 qB4 qB5 qB6 qB7 qB8 qB9 qB10 qB11 qB12 qB13
 go_wp2_with fail
 clear qB0 qB1 qB2 qB3 qB4 qB5 qB6 qB7 qB8 qB9 qB10 qB11 qB12 qB13
 refine (C1.out _ hbu).mono ?_
 rintro e w3 ⟨rfl, hB⟩
 replace rB := (hB.block _ lB).trans rB
 replace lB := Nat.lt_of_lt_of_le lB hB.size
 replace rN := (hB.block _ lN).trans rN
 replace lN := Nat.lt_of_lt_of_le lN hB.size
 have hb3 := hbu.trans (hB.mono hbu.size)
 clear hB hbu
 have qB0 := cell_of_row w3 _ 0 _ _ _ rB
 have qB1 := cell_of_row w3 _ 1 _ _ _ rB
 have qB2 := cell_of_row w3 _ 2 _ _ _ rB
 have qB3 := cell_of_row w3 _ 3 _ _ _ rB
 have qB4 := cell_of_row w3 _ 4 _ _ _ rB
 have qB5 := cell_of_row w3 _ 5 _ _ _ rB
 have qB6 := cell_of_row w3 _ 6 _ _ _ rB
 have qB7 := cell_of_row w3 _ 7 _ _ _ rB
 have qB8 := cell_of_row w3 _ 8 _ _ _ rB
 have qB9 := cell_of_row w3 _ 9 _ _ _ rB
 have qB10 := cell_of_row w3 _ 10 _ _ _ rB
 have qB11 := cell_of_row w3 _ 11 _ _ _ rB
 have qB12 := cell_of_row w3 _ 12 _ _ _ rB
 have qB13 := cell_of_row w3 _ 13 _ _ _ rB
 simp only [List.getElem?_toArray, List.getElem?_cons_zero, List.getElem?_cons_succ] at qB0 qB1 qB2 qB3 qB4 qB5 qB6 qB7 qB8 qB9 qB10 qB11 qB12 qB13
 go_wp2_with fail
 clear qB0 qB1 qB2 qB3 qB4 qB5 qB6 qB7 qB8 qB9 qB10 qB11 qB12 qB13

 refine name_calls ?_
 intro w4 hW
 have hA : Below w3.heap.size w3 w4 := by rw [hW]; exact (Below.refl _ _).alloc (Nat.le_refl _) _
 have rP : w4.heap[w3.heap.size]? = some (.cells #[I p1, I z1] 24 (0, 0)) := by rw [hW]; exact heap_at _ _ rfl
 have lP : w3.heap.size < w4.heap.size := by rw [hW]; simp
 clear hW
 replace rB := (hA.block _ lB).trans rB
 replace lB := Nat.lt_of_lt_of_le lB hA.size
 replace rN := (hA.block _ lN).trans rN
 replace lN := Nat.lt_of_lt_of_le lN hA.size
 have hb4 := hb3.trans (hA.mono hb3.size)
 clear hA hb3
 refine (C2.out _ hb4).mono ?_
 rintro e w5 ⟨rfl, hB⟩
 replace rB := (hB.block _ lB).trans rB
 replace lB := Nat.lt_of_lt_of_le lB hB.size
 replace rN := (hB.block _ lN).trans rN
 replace lN := Nat.lt_of_lt_of_le lN hB.size
 replace rP := (hB.block _ lP).trans rP
 replace lP := Nat.lt_of_lt_of_le lP hB.size
 have hb5 := hb4.trans (hB.mono hb4.size)
 clear hB hb4
 clear C1 C2
 have hnx : ∀ W', Below w.heap.size w W' → True := fun _ _ => trivial
 clear hnx
 rcases HSP.out with ⟨rfl, rfl, hs1, hs2⟩ | ⟨rfl, rfl, hE1, hE2⟩
 ·injection hs1 with i1 i2
  injection hs2 with i3 i4
  subst i1 i2 i3 i4
  clear HSP rB lB rN lN
  go_upto_region 7 with fail
  refine name_world ?_
  intro w6 hW
  have hA : Below w5.heap.size w5 w6 := by rw [hW]; exact (Below.refl _ _).alloc (Nat.le_refl _) _
  have rU : w6.heap[w5.heap.size]? = some (.cells #[I 0, I 0] 24 (0, 0)) := by rw [hW]; exact heap_at _ _ rfl
  have lU : w5.heap.size < w6.heap.size := by rw [hW]; simp
  clear hW
  replace rP := (hA.block _ lP).trans rP
  replace lP := Nat.lt_of_lt_of_le lP hA.size
  have hb6 := hb5.trans (hA.mono hb5.size)
  clear hA hb5
  have qP0 := cell_of_row w6 _ 0 _ _ _ rP
  have qP1 := cell_of_row w6 _ 1 _ _ _ rP
  simp only [List.getElem?_toArray, List.getElem?_cons_zero, List.getElem?_cons_succ] at qP0 qP1
  have qU0 := cell_of_row w6 _ 0 _ _ _ rU
  have qU1 := cell_of_row w6 _ 1 _ _ _ rU
  simp only [List.getElem?_toArray, List.getElem?_cons_zero, List.getElem?_cons_succ] at qU0 qU1
  have HB6 := Lib.hid hb6
  clear hb6 rP rU
  refine name_act ?_
  intro A hA
  obtain ⟨R, hR⟩ : ∃ R : Act → World → Prop, R = fun a' w' => (∃ u45 u46 u47 u48 u49 u50 u51 u52 u53 u54 u55 u56 u57 u58 u59 u60 u61 u62 u63 u64, a' = (((((((((((((((((((((A.put (some 45) u45).put (some 46) u46).put (some 47) u47).put (some 48) u48).put (some 49) u49).put (some 50) u50).put (some 51) u51).put (some 52) u52).put (some 53) u53).put (some 54) u54).put (some 55) u55).put (some 56) u56).put (some 57) u57).put (some 58) u58).put (some 59) u59).put (some 60) u60).put (some 61) u61).put (some 62) u62).put (some 63) u63).put (some 64) u64).put (some 4) (.bool true))) ∧ Held w6 w' := ⟨_, rfl⟩
  have HR := Lib.hid hR
  clear hR
  refine wp_between R ?first7 ?rest7
  case first7 =>
   as_aux_lemma =>
    subst hA
    refine wp_region_held_drew (S := fun w' => Held w6 w') (by kernel_rfl) (held_start w6) (fun _ => ?_)
    refine wpAnyH_take (i := 0) (oi := { dst := some 45, op := Go.Op.move (Go.Operand.tmp 8), type := 41, pos := "outright.go:161", after := #[], guard := none }) (v := ?v1) rfl (by kernel_rfl) (by kernel_rfl) (by kernel_rfl) (fun _ _ _ h => h) (Or.inl ⟨by rfl, ?hy1⟩) (held_start w6) ?r1
    case hy1 =>
     intro w' hSw
     have hq := hSw.1
     clear hSw
     go_simp
     with_reducible rfl
    try simp only [Act.put, List.setIfInBounds_toArray, List.set_cons_zero, List.set_cons_succ]
    refine wpAnyH_take (i := 1) (oi := { dst := some 46, op := Go.Op.binOp Go.BinOp.eql 41 (Go.Operand.tmp 45) (Go.Operand.const (Go.Value.int Go.IntKind.i64 22)) 41, type := 4, pos := "outright.go:161", after := #[{ on := 0, ground := Go.Ground.data }], guard := none }) (v := ?v2) rfl (by kernel_rfl) (by kernel_rfl) (by kernel_rfl) (fun _ _ _ h => h) (Or.inl ⟨by rfl, ?hy2⟩) (held_start w6) ?r2
    case hy2 =>
     intro w' hSw
     have hq := hSw.1
     clear hSw
     go_simp
     with_reducible rfl
    try simp only [Act.put, List.setIfInBounds_toArray, List.set_cons_zero, List.set_cons_succ]
    refine wpAnyH_take (i := 2) (oi := { dst := some 47, op := Go.Op.move (Go.Operand.tmp 46), type := 4, pos := "outright.go:161", after := #[{ on := 1, ground := Go.Ground.data }], guard := none }) (v := ?v3) rfl (by kernel_rfl) (by kernel_rfl) (by kernel_rfl) (fun _ _ _ h => h) (Or.inl ⟨by rfl, ?hy3⟩) (held_start w6) ?r3
    case hy3 =>
     intro w' hSw
     have hq := hSw.1
     clear hSw
     go_simp
     with_reducible rfl
    try simp only [Act.put, List.setIfInBounds_toArray, List.set_cons_zero, List.set_cons_succ]
    refine wpAnyH_take (i := 3) (oi := { dst := some 48, op := Go.Op.move (Go.Operand.tmp 10), type := 41, pos := "outright.go:161", after := #[{ on := 2, ground := Go.Ground.guard }], guard := some (2, true) }) (v := ?v4) rfl (by kernel_rfl) (by kernel_rfl) (by kernel_rfl) (fun _ _ _ h => h) (Or.inl ⟨by rfl, ?hy4⟩) (held_start w6) ?r4
    case hy4 =>
     intro w' hSw
     have hq := hSw.1
     clear hSw
     go_simp
     with_reducible rfl
    try simp only [Act.put, List.setIfInBounds_toArray, List.set_cons_zero, List.set_cons_succ]
    refine wpAnyH_take (i := 4) (oi := { dst := some 49, op := Go.Op.move (Go.Operand.tmp 8), type := 41, pos := "outright.go:161", after := #[{ on := 2, ground := Go.Ground.guard }], guard := some (2, true) }) (v := ?v5) rfl (by kernel_rfl) (by kernel_rfl) (by kernel_rfl) (fun _ _ _ h => h) (Or.inl ⟨by rfl, ?hy5⟩) (held_start w6) ?r5
    case hy5 =>
     intro w' hSw
     have hq := hSw.1
     clear hSw
     go_simp
     with_reducible rfl
    try simp only [Act.put, List.setIfInBounds_toArray, List.set_cons_zero, List.set_cons_succ]
    refine wpAnyH_take (i := 5) (oi := { dst := some 50, op := Go.Op.binOp Go.BinOp.eql 41 (Go.Operand.tmp 48) (Go.Operand.tmp 49) 41, type := 4, pos := "outright.go:161", after := #[{ on := 3, ground := Go.Ground.data }, { on := 4, ground := Go.Ground.data }, { on := 2, ground := Go.Ground.guard }], guard := some (2, true) }) (v := ?v6) rfl (by kernel_rfl) (by kernel_rfl) (by kernel_rfl) (fun _ _ _ h => h) (Or.inl ⟨by rfl, ?hy6⟩) (held_start w6) ?r6
    case hy6 =>
     intro w' hSw
     have hq := hSw.1
     clear hSw
     go_simp
     with_reducible rfl
    try simp only [Act.put, List.setIfInBounds_toArray, List.set_cons_zero, List.set_cons_succ]
    refine wpAnyH_take (i := 6) (oi := { dst := some 51, op := Go.Op.pick (Go.Operand.tmp 47) (Go.Operand.tmp 50) (Go.Operand.const (Go.Value.bool false)), type := 4, pos := "outright.go:161", after := #[{ on := 2, ground := Go.Ground.data }, { on := 5, ground := Go.Ground.data }], guard := none }) (v := ?v7) rfl (by kernel_rfl) (by kernel_rfl) (by kernel_rfl) (fun _ _ _ h => h) (Or.inl ⟨by rfl, ?hy7⟩) (held_start w6) ?r7
    case hy7 =>
     intro w' hSw
     have hq := hSw.1
     clear hSw
     go_simp
     with_reducible rfl
    try simp only [Act.put, List.setIfInBounds_toArray, List.set_cons_zero, List.set_cons_succ]
    refine wpAnyH_take (i := 7) (oi := { dst := some 52, op := Go.Op.move (Go.Operand.tmp 51), type := 4, pos := "outright.go:161", after := #[{ on := 6, ground := Go.Ground.data }, { on := 2, ground := Go.Ground.chain }], guard := none }) (v := ?v8) rfl (by kernel_rfl) (by kernel_rfl) (by kernel_rfl) (fun _ _ _ h => h) (Or.inl ⟨by rfl, ?hy8⟩) (held_start w6) ?r8
    case hy8 =>
     intro w' hSw
     have hq := hSw.1
     clear hSw
     go_simp
     with_reducible rfl
    try simp only [Act.put, List.setIfInBounds_toArray, List.set_cons_zero, List.set_cons_succ]
    refine wpAnyH_take (i := 8) (oi := { dst := some 53, op := Go.Op.load 24 (Go.Operand.tmp 7), type := 24, pos := "outright.go:161", after := #[{ on := 7, ground := Go.Ground.guard }], guard := some (7, true) }) (v := ?v9) rfl (by kernel_rfl) (by kernel_rfl) (by kernel_rfl) (fun _ _ _ h => h) (Or.inl ⟨by rfl, ?hy9⟩) (held_start w6) ?r9
    case hy9 =>
     intro w' hSw
     have hq := hSw.1
     clear hSw
     go_simp
     with_reducible rfl
    try simp only [Act.put, List.setIfInBounds_toArray, List.set_cons_zero, List.set_cons_succ]
    refine wpAnyH_ready (rs := [9]) (by kernel_rfl) (by simp) ?_
    refine AllReadyH.cons rfl (fun K hK => ?_) AllReadyH.nil
    go_simp
    refine (point_any 0 _).mono ?_
    rintro e w10 ⟨rfl, hBw10⟩
    have hSw10 := held_step hBw10 (held_start w6)
    refine hK.out _ _ hSw10 (fun _ => ?_)
    clear hK K
    try simp only [Act.put, List.setIfInBounds_toArray, List.set_cons_zero, List.set_cons_succ]
    refine wpAnyH_take (i := 10) (oi := { dst := some 55, op := Go.Op.binOp Go.BinOp.eql 24 (Go.Operand.tmp 53) (Go.Operand.tmp 54) 24, type := 4, pos := "outright.go:161", after := #[{ on := 8, ground := Go.Ground.data }, { on := 9, ground := Go.Ground.data }, { on := 7, ground := Go.Ground.guard }], guard := some (7, true) }) (v := ?v11) rfl (by kernel_rfl) (by kernel_rfl) (by kernel_rfl) (fun _ _ _ h => h) (Or.inl ⟨by rfl, ?hy11⟩) hSw10 ?r11
    case hy11 =>
     intro w' hSw
     have hq := hSw.1
     clear hSw
     go_simp
     with_reducible rfl
    try simp only [Act.put, List.setIfInBounds_toArray, List.set_cons_zero, List.set_cons_succ]
    refine wpAnyH_take (i := 11) (oi := { dst := some 56, op := Go.Op.pick (Go.Operand.tmp 52) (Go.Operand.tmp 55) (Go.Operand.const (Go.Value.bool false)), type := 4, pos := "outright.go:161", after := #[{ on := 7, ground := Go.Ground.data }, { on := 10, ground := Go.Ground.data }], guard := none }) (v := ?v12) rfl (by kernel_rfl) (by kernel_rfl) (by kernel_rfl) (fun _ _ _ h => h) (Or.inl ⟨by rfl, ?hy12⟩) hSw10 ?r12
    case hy12 =>
     intro w' hSw
     have hq := hSw.1
     clear hSw
     go_simp
     with_reducible rfl
    try simp only [Act.put, List.setIfInBounds_toArray, List.set_cons_zero, List.set_cons_succ]
    refine wpAnyH_take (i := 12) (oi := { dst := some 57, op := Go.Op.move (Go.Operand.tmp 56), type := 4, pos := "outright.go:161", after := #[{ on := 11, ground := Go.Ground.data }, { on := 9, ground := Go.Ground.chain }], guard := none }) (v := ?v13) rfl (by kernel_rfl) (by kernel_rfl) (by kernel_rfl) (fun _ _ _ h => h) (Or.inl ⟨by rfl, ?hy13⟩) hSw10 ?r13
    case hy13 =>
     intro w' hSw
     have hq := hSw.1
     clear hSw
     go_simp
     with_reducible rfl
    try simp only [Act.put, List.setIfInBounds_toArray, List.set_cons_zero, List.set_cons_succ]
    refine wpAnyH_take (i := 13) (oi := { dst := some 58, op := Go.Op.load 24 (Go.Operand.tmp 9), type := 24, pos := "outright.go:161", after := #[{ on := 12, ground := Go.Ground.guard }], guard := some (12, true) }) (v := ?v14) rfl (by kernel_rfl) (by kernel_rfl) (by kernel_rfl) (fun _ _ _ h => h) (Or.inl ⟨by rfl, ?hy14⟩) hSw10 ?r14
    case hy14 =>
     intro w' hSw
     have hq := hSw.1
     clear hSw
     go_simp
     with_reducible rfl
    try simp only [Act.put, List.setIfInBounds_toArray, List.set_cons_zero, List.set_cons_succ]
    refine wpAnyH_take (i := 14) (oi := { dst := some 59, op := Go.Op.load 24 (Go.Operand.tmp 7), type := 24, pos := "outright.go:161", after := #[{ on := 12, ground := Go.Ground.guard }], guard := some (12, true) }) (v := ?v15) rfl (by kernel_rfl) (by kernel_rfl) (by kernel_rfl) (fun _ _ _ h => h) (Or.inl ⟨by rfl, ?hy15⟩) hSw10 ?r15
    case hy15 =>
     intro w' hSw
     have hq := hSw.1
     clear hSw
     go_simp
     with_reducible rfl
    try simp only [Act.put, List.setIfInBounds_toArray, List.set_cons_zero, List.set_cons_succ]
    refine wpAnyH_take (i := 15) (oi := { dst := some 60, op := Go.Op.binOp Go.BinOp.eql 24 (Go.Operand.tmp 58) (Go.Operand.tmp 59) 24, type := 4, pos := "outright.go:161", after := #[{ on := 13, ground := Go.Ground.data }, { on := 14, ground := Go.Ground.data }, { on := 12, ground := Go.Ground.guard }], guard := some (12, true) }) (v := ?v16) rfl (by kernel_rfl) (by kernel_rfl) (by kernel_rfl) (fun _ _ _ h => h) (Or.inl ⟨by rfl, ?hy16⟩) hSw10 ?r16
    case hy16 =>
     intro w' hSw
     have hq := hSw.1
     clear hSw
     go_simp
     with_reducible rfl
    try simp only [Act.put, List.setIfInBounds_toArray, List.set_cons_zero, List.set_cons_succ]
    refine wpAnyH_take (i := 16) (oi := { dst := some 61, op := Go.Op.pick (Go.Operand.tmp 57) (Go.Operand.tmp 60) (Go.Operand.const (Go.Value.bool false)), type := 4, pos := "outright.go:161", after := #[{ on := 12, ground := Go.Ground.data }, { on := 15, ground := Go.Ground.data }], guard := none }) (v := ?v17) rfl (by kernel_rfl) (by kernel_rfl) (by kernel_rfl) (fun _ _ _ h => h) (Or.inl ⟨by rfl, ?hy17⟩) hSw10 ?r17
    case hy17 =>
     intro w' hSw
     have hq := hSw.1
     clear hSw
     go_simp
     with_reducible rfl
    try simp only [Act.put, List.setIfInBounds_toArray, List.set_cons_zero, List.set_cons_succ]
    refine wpAnyH_take (i := 17) (oi := { dst := some 62, op := Go.Op.move (Go.Operand.tmp 61), type := 4, pos := "outright.go:161", after := #[{ on := 16, ground := Go.Ground.data }, { on := 12, ground := Go.Ground.chain }], guard := none }) (v := ?v18) rfl (by kernel_rfl) (by kernel_rfl) (by kernel_rfl) (fun _ _ _ h => h) (Or.inl ⟨by rfl, ?hy18⟩) hSw10 ?r18
    case hy18 =>
     intro w' hSw
     have hq := hSw.1
     clear hSw
     go_simp
     with_reducible rfl
    try simp only [Act.put, List.setIfInBounds_toArray, List.set_cons_zero, List.set_cons_succ]
    refine wpAnyH_ready (rs := [18]) (by kernel_rfl) (by simp) ?_
    refine AllReadyH.cons rfl (fun K hK => ?_) AllReadyH.nil
    go_simp
    refine (moored_any _).mono ?_
    rintro e w19 ⟨rfl, hBw19⟩
    have hSw19 := held_step hBw19 hSw10
    refine hK.out _ _ hSw19 (fun _ => ?_)
    clear hK K
    try simp only [Act.put, List.setIfInBounds_toArray, List.set_cons_zero, List.set_cons_succ]
    refine wpAnyH_take (i := 19) (oi := { dst := some 64, op := Go.Op.pick (Go.Operand.tmp 62) (Go.Operand.tmp 63) (Go.Operand.const (Go.Value.bool false)), type := 4, pos := "outright.go:161", after := #[{ on := 17, ground := Go.Ground.data }, { on := 18, ground := Go.Ground.data }], guard := none }) (v := ?v20) rfl (by kernel_rfl) (by kernel_rfl) (by kernel_rfl) (fun _ _ _ h => h) (Or.inl ⟨by rfl, ?hy20⟩) hSw19 ?r20
    case hy20 =>
     intro w' hSw
     have hq := hSw.1
     clear hSw
     go_simp
     with_reducible rfl
    try simp only [Act.put, List.setIfInBounds_toArray, List.set_cons_zero, List.set_cons_succ]
    refine wpAnyH_take (i := 20) (oi := { dst := some 4, op := Go.Op.assign (Go.Operand.tmp 64), type := 4, pos := "outright.go:161", after := #[{ on := 19, ground := Go.Ground.data }, { on := 18, ground := Go.Ground.chain }, { on := 0, ground := Go.Ground.phase }, { on := 1, ground := Go.Ground.phase }, { on := 2, ground := Go.Ground.phase }, { on := 3, ground := Go.Ground.phase }, { on := 4, ground := Go.Ground.phase }, { on := 5, ground := Go.Ground.phase }, { on := 6, ground := Go.Ground.phase }, { on := 7, ground := Go.Ground.phase }, { on := 8, ground := Go.Ground.phase }, { on := 9, ground := Go.Ground.phase }, { on := 10, ground := Go.Ground.phase }, { on := 11, ground := Go.Ground.phase }, { on := 12, ground := Go.Ground.phase }, { on := 13, ground := Go.Ground.phase }, { on := 14, ground := Go.Ground.phase }, { on := 15, ground := Go.Ground.phase }, { on := 16, ground := Go.Ground.phase }, { on := 17, ground := Go.Ground.phase }, { on := 18, ground := Go.Ground.phase }, { on := 19, ground := Go.Ground.phase }], guard := none }) (v := ?v21) rfl (by kernel_rfl) (by kernel_rfl) (by kernel_rfl) (fun _ _ _ h => h) (Or.inl ⟨by rfl, ?hy21⟩) hSw19 ?r21
    case hy21 =>
     intro w' hSw
     have hq := hSw.1
     clear hSw
     go_simp
     with_reducible rfl
    try simp only [Act.put, List.setIfInBounds_toArray, List.set_cons_zero, List.set_cons_succ]
    refine wpAnyH_done (by kernel_rfl) ?_ _
    show R _ _
    rw [HR.out]
    simp only [Act.put, List.setIfInBounds_toArray, List.set_cons_zero, List.set_cons_succ]
    exact ⟨⟨_, _, _, _, _, _, _, _, _, _, _, _, _, _, _, _, _, _, _, _, rfl⟩, hSw19⟩
  case rest7 =>
   intro a' w7 hra
   rw [HR.out] at hra
   clear HR
   obtain ⟨⟨u45, u46, u47, u48, u49, u50, u51, u52, u53, u54, u55, u56, u57, u58, u59, u60, u61, u62, u63, u64, rfl⟩, hHE⟩ := hra
   subst hA
   try simp only [Act.put, List.setIfInBounds_toArray, List.set_cons_zero, List.set_cons_succ]
   have HB7 := Lib.hid (HB6.out.trans (hHE.2.2.mono HB6.out.size))
   clear hHE
   go_wp2_with fail
   go_ret
   exact ⟨rfl, HB7.out⟩
 have HE1 := Lib.hid hE1
 have HE2 := Lib.hid hE2
 clear HSP
 have hte : Ld.tide b q = b.tides[q] := by simp [Ld.tide, hq1]
 have hvp := Ld.valid_parts HVAL.out
 have htb := Ld.tide_bd hvp.2.1 hq1
 have hfb := Ld.floor_bd hvp.2.2.1 m
 rw [hte] at htb hE1
 obtain ⟨⟨tl, th⟩, htt⟩ : ∃ s : Ld.Sp, b.tides[q] = s := ⟨_, rfl⟩
 obtain ⟨⟨fl, fh⟩, hff⟩ : ∃ s : Ld.Sp, (Ld.shore b m).floor = s := ⟨_, rfl⟩
 rw [htt] at htb hE1
 rw [hff] at hfb hE2
 replace htb : -40 ≤ tl ∧ tl ≤ th ∧ th ≤ 80 := htb
 have hfb2 : -40 ≤ fl ∧ fl ≤ fh ∧ fh ≤ 80 := ⟨hfb.1, hfb.2.1, hfb.2.2.1⟩
 have a1 : tl ≤ p1 := hE1.low
 have a2 : z1 ≤ th := hE1.high
 have a3 : p1 ≤ z1 := hE1.le
 have a4 : fl ≤ p2 := hE2.low
 have a5 : z2 ≤ fh := hE2.high
 have a6 : p2 ≤ z2 := hE2.le
 have hP1 : Ld.possible (Ld.tideB b q p1) = true := hE1.atLow
 have hP2 : Ld.possible (Ld.tideB b q z1) = true := hE1.atHigh
 have hP3 : Ld.possible (Ld.floorB b m p2) = true := hE2.atLow
 have hP4 : Ld.possible (Ld.floorB b m z2) = true := hE2.atHigh
 have hO1 : ∀ n, tl ≤ n → n ≤ th → Ld.possible (Ld.tideB b q n) = true → Ld.between n p1 z1 = true := fun n x y h => by have := hE1.only n x y h; show (decide (p1 ≤ n) && decide (n ≤ z1)) = true; rw [decide_eq_true this.1, decide_eq_true this.2]; rfl
 have hO2 : ∀ n, fl ≤ n → n ≤ fh → Ld.possible (Ld.floorB b m n) = true → Ld.between n p2 z2 = true := fun n x y h => by have := hE2.only n x y h; show (decide (p2 ≤ n) && decide (n ≤ z2)) = true; rw [decide_eq_true this.1, decide_eq_true this.2]; rfl
 have HP1 := Lib.hid hP1
 have HP2 := Lib.hid hP2
 have HP3 := Lib.hid hP3
 have HP4 := Lib.hid hP4
 have HO1 := Lib.hid hO1
 have HO2 := Lib.hid hO2
 have HCV1 := Lib.hid (show ∀ W', Calls Try.prog 30 #[vSp ⟨tl, th⟩, vSp ⟨p1, z1⟩] W' fun e w' => e = .returned (.bool true) ∧ Below W'.heap.size W' w' from fun W' => (covers_any ⟨tl, th⟩ ⟨p1, z1⟩ W').mono fun e w' h => ⟨by rw [h.1]; show Ending.returned (.bool (decide (tl ≤ p1) && decide (z1 ≤ th))) = _; rw [decide_eq_true a1, decide_eq_true a2]; rfl, h.2⟩)
 have HCV2 := Lib.hid (show ∀ W', Calls Try.prog 30 #[vSp ⟨fl, fh⟩, vSp ⟨p2, z2⟩] W' fun e w' => e = .returned (.bool true) ∧ Below W'.heap.size W' w' from fun W' => (covers_any ⟨fl, fh⟩ ⟨p2, z2⟩ W').mono fun e w' h => ⟨by rw [h.1]; show Ending.returned (.bool (decide (fl ≤ p2) && decide (z2 ≤ fh))) = _; rw [decide_eq_true a4, decide_eq_true a5]; rfl, h.2⟩)
 obtain ⟨bl, off, c0, hv, hbl, ct0, ct1⟩ := (HRB.out w5 hb5).tide hq1
 injection hv with hv1 _ hv2
 subst hv1 hv2
 have hblw : bl < w.heap.size := by
  obtain ⟨bl2, off2, c2, hv, hbl2, -, -⟩ := (HRB.out w (Below.refl _ _)).tide hq1
  injection hv with hv1
  injection hv1 with hv1
  injection hv1 with hv1
  omega
 rw [htt] at ct0 ct1
 replace ct0 : w5.cell? ⟨bl, off + q * 2, none⟩ = some (I tl) := ct0
 replace ct1 : w5.cell? ⟨bl, off + q * 2 + 1, none⟩ = some (I th) := ct1
 clear hE1 hE2 hte hvp htt hfb hP1 hP2 hP3 hP4 hO1 hO2 hbl
 have hqi : (q : Int) < b.tides.length := by omega
 have dP : decide (z1 < p1) = false := decide_eq_false (by omega)
 have dU : decide (z2 < p2) = false := decide_eq_false (by omega)
 go_upto_region 8 with fail
 refine name_world ?_
 intro w6 hW
 have hA : Below w5.heap.size w5 w6 := by rw [hW]; exact (Below.refl _ _).alloc (Nat.le_refl _) _
 have rU : w6.heap[w5.heap.size]? = some (.cells #[I p2, I z2] 24 (0, 0)) := by rw [hW]; exact heap_at _ _ rfl
 have lU : w5.heap.size < w6.heap.size := by rw [hW]; simp
 have hbl5 : bl < w5.heap.size := Nat.lt_of_lt_of_le hblw hb5.size
 have ct0 := (hA.cell (p := ⟨bl, off + q * 2, none⟩) hbl5).trans ct0
 have ct1 := (hA.cell (p := ⟨bl, off + q * 2 + 1, none⟩) hbl5).trans ct1
 clear hW
 replace rB := (hA.block _ lB).trans rB
 replace lB := Nat.lt_of_lt_of_le lB hA.size
 replace rN := (hA.block _ lN).trans rN
 replace lN := Nat.lt_of_lt_of_le lN hA.size
 replace rP := (hA.block _ lP).trans rP
 replace lP := Nat.lt_of_lt_of_le lP hA.size
 have hb6 := hb5.trans (hA.mono hb5.size)
 clear hA hb5
 have qP0 := cell_of_row w6 _ 0 _ _ _ rP
 have qP1 := cell_of_row w6 _ 1 _ _ _ rP
 simp only [List.getElem?_toArray, List.getElem?_cons_zero, List.getElem?_cons_succ] at qP0 qP1
 have qU0 := cell_of_row w6 _ 0 _ _ _ rU
 have qU1 := cell_of_row w6 _ 1 _ _ _ rU
 simp only [List.getElem?_toArray, List.getElem?_cons_zero, List.getElem?_cons_succ] at qU0 qU1
 have qB0 := cell_of_row w6 _ 0 _ _ _ rB
 have qB1 := cell_of_row w6 _ 1 _ _ _ rB
 have qB2 := cell_of_row w6 _ 2 _ _ _ rB
 have qB3 := cell_of_row w6 _ 3 _ _ _ rB
 have qB4 := cell_of_row w6 _ 4 _ _ _ rB
 have qB5 := cell_of_row w6 _ 5 _ _ _ rB
 have qB6 := cell_of_row w6 _ 6 _ _ _ rB
 have qB7 := cell_of_row w6 _ 7 _ _ _ rB
 have qB8 := cell_of_row w6 _ 8 _ _ _ rB
 have qB9 := cell_of_row w6 _ 9 _ _ _ rB
 have qB10 := cell_of_row w6 _ 10 _ _ _ rB
 have qB11 := cell_of_row w6 _ 11 _ _ _ rB
 have qB12 := cell_of_row w6 _ 12 _ _ _ rB
 have qB13 := cell_of_row w6 _ 13 _ _ _ rB
 simp only [List.getElem?_toArray, List.getElem?_cons_zero, List.getElem?_cons_succ] at qB0 qB1 qB2 qB3 qB4 qB5 qB6 qB7 qB8 qB9 qB10 qB11 qB12 qB13
 have hbl6 : bl < w6.heap.size := Nat.lt_of_lt_of_le hblw hb6.size
 have HB6 := Lib.hid hb6
 have RB6 := Lib.hid rB
 have RN6 := Lib.hid rN
 have RP6 := Lib.hid rP
 have RU6 := Lib.hid rU
 clear hb6 rB rN rP rU hbl5 HE1 HE2

 refine name_act ?_
 intro A hA
 obtain ⟨R, hR⟩ : ∃ R : Act → World → Prop, R = fun a' w' => (∃ u65 u66 u67 u68 u69 u70 u71 u72 u73 u74 u75 u76 u77 u78 u79 u80 u81 u82 u83 u84 u85 u86 u87 u88 u89 u90 u91 u92 u93 u94 u95 u96 u97 u98 u99, a' = ((((((((((((((((((((((((((((((((((((A.put (some 65) u65).put (some 66) u66).put (some 67) u67).put (some 68) u68).put (some 69) u69).put (some 70) u70).put (some 71) u71).put (some 72) u72).put (some 73) u73).put (some 74) u74).put (some 75) u75).put (some 76) u76).put (some 77) u77).put (some 78) u78).put (some 79) u79).put (some 80) u80).put (some 81) u81).put (some 82) u82).put (some 83) u83).put (some 84) u84).put (some 85) u85).put (some 86) u86).put (some 87) u87).put (some 88) u88).put (some 89) u89).put (some 90) u90).put (some 91) u91).put (some 92) u92).put (some 93) u93).put (some 94) u94).put (some 95) u95).put (some 96) u96).put (some 97) u97).put (some 98) u98).put (some 99) u99).put (some 100) (.bool false))) ∧ Held w6 w' := ⟨_, rfl⟩
 have HR := Lib.hid hR
 clear hR
 refine wp_between R ?first8 ?rest8
 case first8 =>
  as_aux_lemma =>
   subst hA
   have hml : (m : Int) < 2 := by omega
   have qF0 : w6.cell? ⟨w.heap.size, 1 + m * 4, none⟩ = some (I fl) := hm1.elim (fun h => by subst h; exact qB1.trans (by rw [show b.s0.floor = ⟨fl, fh⟩ from hff])) (fun h => by subst h; exact qB5.trans (by rw [show b.s1.floor = ⟨fl, fh⟩ from hff]))
   have qF1 : w6.cell? ⟨w.heap.size, 1 + m * 4 + 1, none⟩ = some (I fh) := hm1.elim (fun h => by subst h; exact qB2.trans (by rw [show b.s0.floor = ⟨fl, fh⟩ from hff])) (fun h => by subst h; exact qB6.trans (by rw [show b.s1.floor = ⟨fl, fh⟩ from hff]))
   clear hff
   clear qB1 qB2 qB3 qB4 qB5 qB6 qB7 qB8 qB9 qB10 qB11 qB12 qB13
   refine wp_region_held_drew (S := fun w' => Held w6 w') (by kernel_rfl) (held_start w6) (fun _ => ?_)
   refine wpAnyH_take (i := 0) (oi := { dst := some 65, op := Go.Op.move (Go.Operand.tmp 10), type := 41, pos := "outright.go:163", after := #[], guard := none }) (v := ?v22) rfl (by kernel_rfl) (by kernel_rfl) (by kernel_rfl) (fun _ _ _ h => h) (Or.inl ⟨by rfl, ?hy22⟩) (held_start w6) ?r22
   case hy22 =>
    intro w' hSw
    have hq := hSw.1
    clear hSw
    go_simp
    with_reducible rfl
   try simp only [Act.put, List.setIfInBounds_toArray, List.set_cons_zero, List.set_cons_succ]
   refine wpAnyH_take (i := 1) (oi := { dst := some 66, op := Go.Op.binOp Go.BinOp.neq 41 (Go.Operand.tmp 65) (Go.Operand.const (Go.Value.int Go.IntKind.i64 0)) 41, type := 4, pos := "outright.go:163", after := #[{ on := 0, ground := Go.Ground.data }], guard := none }) (v := ?v23) rfl (by kernel_rfl) (by kernel_rfl) (by kernel_rfl) (fun _ _ _ h => h) (Or.inl ⟨by rfl, ?hy23⟩) (held_start w6) ?r23
   case hy23 =>
    intro w' hSw
    have hq := hSw.1
    clear hSw
    go_simp
    with_reducible rfl
   try simp only [Act.put, List.setIfInBounds_toArray, List.set_cons_zero, List.set_cons_succ]
   refine wpAnyH_take (i := 2) (oi := { dst := some 67, op := Go.Op.move (Go.Operand.tmp 66), type := 4, pos := "outright.go:163", after := #[{ on := 1, ground := Go.Ground.data }], guard := none }) (v := ?v24) rfl (by kernel_rfl) (by kernel_rfl) (by kernel_rfl) (fun _ _ _ h => h) (Or.inl ⟨by rfl, ?hy24⟩) (held_start w6) ?r24
   case hy24 =>
    intro w' hSw
    have hq := hSw.1
    clear hSw
    go_simp
    with_reducible rfl
   try simp only [Act.put, List.setIfInBounds_toArray, List.set_cons_zero, List.set_cons_succ]
   refine wpAnyH_take (i := 3) (oi := { dst := some 68, op := Go.Op.fieldAddr 30 (Go.Operand.tmp 2) 0, type := 0, pos := "outright.go:163", after := #[{ on := 2, ground := Go.Ground.guard }], guard := some (2, false) }) (v := ?v25) rfl (by kernel_rfl) (by kernel_rfl) (by kernel_rfl) (fun _ _ _ h => h) (Or.inl ⟨by rfl, ?hy25⟩) (held_start w6) ?r25
   case hy25 =>
    intro w' hSw
    have hq := hSw.1
    clear hSw
    go_simp
    with_reducible rfl
   try simp only [Act.put, List.setIfInBounds_toArray, List.set_cons_zero, List.set_cons_succ]
   refine wpAnyH_take (i := 4) (oi := { dst := some 69, op := Go.Op.load 22 (Go.Operand.tmp 68), type := 22, pos := "outright.go:163", after := #[{ on := 3, ground := Go.Ground.data }, { on := 2, ground := Go.Ground.guard }], guard := some (2, false) }) (v := ?v26) rfl (by kernel_rfl) (by kernel_rfl) (by kernel_rfl) (fun _ _ _ h => h) (Or.inl ⟨by rfl, ?hy26⟩) (held_start w6) ?r26
   case hy26 =>
    intro w' hSw
    have hq := hSw.1
    clear hSw
    go_simp
    with_reducible rfl
   try simp only [Act.put, List.setIfInBounds_toArray, List.set_cons_zero, List.set_cons_succ]
   refine wpAnyH_take (i := 5) (oi := { dst := some 70, op := Go.Op.move (Go.Operand.tmp 5), type := 3, pos := "outright.go:163", after := #[{ on := 2, ground := Go.Ground.guard }], guard := some (2, false) }) (v := ?v27) rfl (by kernel_rfl) (by kernel_rfl) (by kernel_rfl) (fun _ _ _ h => h) (Or.inl ⟨by rfl, ?hy27⟩) (held_start w6) ?r27
   case hy27 =>
    intro w' hSw
    have hq := hSw.1
    clear hSw
    go_simp
    with_reducible rfl
   try simp only [Act.put, List.setIfInBounds_toArray, List.set_cons_zero, List.set_cons_succ]
   refine wpAnyH_take (i := 6) (oi := { dst := some 71, op := Go.Op.indexAddr 22 (Go.Operand.tmp 69) (Go.Operand.tmp 70), type := 0, pos := "outright.go:163", after := #[{ on := 4, ground := Go.Ground.data }, { on := 5, ground := Go.Ground.data }, { on := 2, ground := Go.Ground.guard }], guard := some (2, false) }) (v := ?v28) rfl (by kernel_rfl) (by kernel_rfl) (by kernel_rfl) (fun _ _ _ h => h) (Or.inl ⟨by rfl, ?hy28⟩) (held_start w6) ?r28
   case hy28 =>
    intro w' hSw
    have hq := hSw.1
    clear hSw
    go_simp
    with_reducible rfl
   try simp only [Act.put, List.setIfInBounds_toArray, List.set_cons_zero, List.set_cons_succ]
   refine wpAnyH_take (i := 7) (oi := { dst := some 72, op := Go.Op.load 24 (Go.Operand.tmp 71), type := 24, pos := "outright.go:163", after := #[{ on := 6, ground := Go.Ground.data }, { on := 2, ground := Go.Ground.guard }], guard := some (2, false) }) (v := ?v29) rfl (by kernel_rfl) (by kernel_rfl) (by kernel_rfl) (fun _ _ _ h => h) (Or.inl ⟨by rfl, ?hy29⟩) (held_start w6) ?r29
   case hy29 =>
    intro w' hSw
    have hq := hSw.1
    clear hSw
    go_simp
    with_reducible rfl
   try simp only [Act.put, List.setIfInBounds_toArray, List.set_cons_zero, List.set_cons_succ]
   refine wpAnyH_take (i := 8) (oi := { dst := some 73, op := Go.Op.load 24 (Go.Operand.tmp 7), type := 24, pos := "outright.go:163", after := #[{ on := 2, ground := Go.Ground.guard }], guard := some (2, false) }) (v := ?v30) rfl (by kernel_rfl) (by kernel_rfl) (by kernel_rfl) (fun _ _ _ h => h) (Or.inl ⟨by rfl, ?hy30⟩) (held_start w6) ?r30
   case hy30 =>
    intro w' hSw
    have hq := hSw.1
    clear hSw
    go_simp
    with_reducible rfl
   try simp only [Act.put, List.setIfInBounds_toArray, List.set_cons_zero, List.set_cons_succ]
   refine wpAnyH_ready (rs := [9]) (by kernel_rfl) (by simp) ?_
   refine AllReadyH.cons rfl (fun K hK => ?_) AllReadyH.nil
   go_simp
   refine (HCV1.out _).mono ?_
   rintro e w31 ⟨rfl, hBw31⟩
   have hSw31 := held_step hBw31 (held_start w6)
   refine hK.out _ _ hSw31 (fun _ => ?_)
   clear hK K
   try simp only [Act.put, List.setIfInBounds_toArray, List.set_cons_zero, List.set_cons_succ]
   refine wpAnyH_take (i := 10) (oi := { dst := some 75, op := Go.Op.unOp Go.UnOp.not 4 (Go.Operand.tmp 74), type := 4, pos := "outright.go:163", after := #[{ on := 9, ground := Go.Ground.data }, { on := 2, ground := Go.Ground.guard }], guard := some (2, false) }) (v := ?v32) rfl (by kernel_rfl) (by kernel_rfl) (by kernel_rfl) (fun _ _ _ h => h) (Or.inl ⟨by rfl, ?hy32⟩) hSw31 ?r32
   case hy32 =>
    intro w' hSw
    have hq := hSw.1
    clear hSw
    go_simp
    with_reducible rfl
   try simp only [Act.put, List.setIfInBounds_toArray, List.set_cons_zero, List.set_cons_succ]
   refine wpAnyH_take (i := 11) (oi := { dst := some 76, op := Go.Op.pick (Go.Operand.tmp 67) (Go.Operand.const (Go.Value.bool true)) (Go.Operand.tmp 75), type := 4, pos := "outright.go:163", after := #[{ on := 2, ground := Go.Ground.data }, { on := 10, ground := Go.Ground.data }], guard := none }) (v := ?v33) rfl (by kernel_rfl) (by kernel_rfl) (by kernel_rfl) (fun _ _ _ h => h) (Or.inl ⟨by rfl, ?hy33⟩) hSw31 ?r33
   case hy33 =>
    intro w' hSw
    have hq := hSw.1
    clear hSw
    go_simp
    with_reducible rfl
   try simp only [Act.put, List.setIfInBounds_toArray, List.set_cons_zero, List.set_cons_succ]
   refine wpAnyH_take (i := 12) (oi := { dst := some 77, op := Go.Op.move (Go.Operand.tmp 76), type := 4, pos := "outright.go:163", after := #[{ on := 11, ground := Go.Ground.data }, { on := 9, ground := Go.Ground.chain }], guard := none }) (v := ?v34) rfl (by kernel_rfl) (by kernel_rfl) (by kernel_rfl) (fun _ _ _ h => h) (Or.inl ⟨by rfl, ?hy34⟩) hSw31 ?r34
   case hy34 =>
    intro w' hSw
    have hq := hSw.1
    clear hSw
    go_simp
    with_reducible rfl
   try simp only [Act.put, List.setIfInBounds_toArray, List.set_cons_zero, List.set_cons_succ]
   refine wpAnyH_take (i := 13) (oi := { dst := some 78, op := Go.Op.move (Go.Operand.tmp 6), type := 3, pos := "outright.go:163", after := #[{ on := 12, ground := Go.Ground.guard }], guard := some (12, false) }) (v := ?v35) rfl (by kernel_rfl) (by kernel_rfl) (by kernel_rfl) (fun _ _ _ h => h) (Or.inl ⟨by rfl, ?hy35⟩) hSw31 ?r35
   case hy35 =>
    intro w' hSw
    have hq := hSw.1
    clear hSw
    go_simp
    with_reducible rfl
   try simp only [Act.put, List.setIfInBounds_toArray, List.set_cons_zero, List.set_cons_succ]
   refine wpAnyH_take (i := 14) (oi := { dst := some 79, op := Go.Op.fieldAddr 30 (Go.Operand.tmp 2) 1, type := 0, pos := "outright.go:163", after := #[{ on := 12, ground := Go.Ground.guard }], guard := some (12, false) }) (v := ?v36) rfl (by kernel_rfl) (by kernel_rfl) (by kernel_rfl) (fun _ _ _ h => h) (Or.inl ⟨by rfl, ?hy36⟩) hSw31 ?r36
   case hy36 =>
    intro w' hSw
    have hq := hSw.1
    clear hSw
    go_simp
    with_reducible rfl
   try simp only [Act.put, List.setIfInBounds_toArray, List.set_cons_zero, List.set_cons_succ]
   refine wpAnyH_take (i := 15) (oi := { dst := some 80, op := Go.Op.indexAddr 27 (Go.Operand.tmp 79) (Go.Operand.tmp 78), type := 0, pos := "outright.go:163", after := #[{ on := 14, ground := Go.Ground.data }, { on := 13, ground := Go.Ground.data }, { on := 12, ground := Go.Ground.guard }], guard := some (12, false) }) (v := ?v37) rfl (by kernel_rfl) (by kernel_rfl) (by kernel_rfl) (fun _ _ _ h => h) (Or.inl ⟨by rfl, ?hy37⟩) hSw31 ?r37
   case hy37 =>
    intro w' hSw
    have hq := hSw.1
    clear hSw
    go_simp
    with_reducible rfl
   try simp only [Act.put, List.setIfInBounds_toArray, List.set_cons_zero, List.set_cons_succ]
   refine wpAnyH_take (i := 16) (oi := { dst := some 81, op := Go.Op.fieldAddr 26 (Go.Operand.tmp 80) 0, type := 0, pos := "outright.go:163", after := #[{ on := 15, ground := Go.Ground.data }, { on := 12, ground := Go.Ground.guard }], guard := some (12, false) }) (v := ?v38) rfl (by kernel_rfl) (by kernel_rfl) (by kernel_rfl) (fun _ _ _ h => h) (Or.inl ⟨by rfl, ?hy38⟩) hSw31 ?r38
   case hy38 =>
    intro w' hSw
    have hq := hSw.1
    clear hSw
    go_simp
    with_reducible rfl
   try simp only [Act.put, List.setIfInBounds_toArray, List.set_cons_zero, List.set_cons_succ]
   refine wpAnyH_take (i := 17) (oi := { dst := some 82, op := Go.Op.load 24 (Go.Operand.tmp 81), type := 24, pos := "outright.go:163", after := #[{ on := 16, ground := Go.Ground.data }, { on := 12, ground := Go.Ground.guard }], guard := some (12, false) }) (v := ?v39) rfl (by kernel_rfl) (by kernel_rfl) (by kernel_rfl) (fun _ _ _ h => h) (Or.inl ⟨by rfl, ?hy39⟩) hSw31 ?r39
   case hy39 =>
    intro w' hSw
    have hq := hSw.1
    clear hSw
    go_simp
    with_reducible rfl
   try simp only [Act.put, List.setIfInBounds_toArray, List.set_cons_zero, List.set_cons_succ]
   refine wpAnyH_take (i := 18) (oi := { dst := some 83, op := Go.Op.load 24 (Go.Operand.tmp 9), type := 24, pos := "outright.go:163", after := #[{ on := 12, ground := Go.Ground.guard }], guard := some (12, false) }) (v := ?v40) rfl (by kernel_rfl) (by kernel_rfl) (by kernel_rfl) (fun _ _ _ h => h) (Or.inl ⟨by rfl, ?hy40⟩) hSw31 ?r40
   case hy40 =>
    intro w' hSw
    have hq := hSw.1
    clear hSw
    go_simp
    with_reducible rfl
   try simp only [Act.put, List.setIfInBounds_toArray, List.set_cons_zero, List.set_cons_succ]
   refine wpAnyH_ready (rs := [19]) (by kernel_rfl) (by simp) ?_
   refine AllReadyH.cons rfl (fun K hK => ?_) AllReadyH.nil
   go_simp
   refine (HCV2.out _).mono ?_
   rintro e w41 ⟨rfl, hBw41⟩
   have hSw41 := held_step hBw41 hSw31
   refine hK.out _ _ hSw41 (fun _ => ?_)
   clear hK K
   try simp only [Act.put, List.setIfInBounds_toArray, List.set_cons_zero, List.set_cons_succ]
   refine wpAnyH_take (i := 20) (oi := { dst := some 85, op := Go.Op.unOp Go.UnOp.not 4 (Go.Operand.tmp 84), type := 4, pos := "outright.go:163", after := #[{ on := 19, ground := Go.Ground.data }, { on := 12, ground := Go.Ground.guard }], guard := some (12, false) }) (v := ?v42) rfl (by kernel_rfl) (by kernel_rfl) (by kernel_rfl) (fun _ _ _ h => h) (Or.inl ⟨by rfl, ?hy42⟩) hSw41 ?r42
   case hy42 =>
    intro w' hSw
    have hq := hSw.1
    clear hSw
    go_simp
    with_reducible rfl
   try simp only [Act.put, List.setIfInBounds_toArray, List.set_cons_zero, List.set_cons_succ]
   refine wpAnyH_take (i := 21) (oi := { dst := some 86, op := Go.Op.pick (Go.Operand.tmp 77) (Go.Operand.const (Go.Value.bool true)) (Go.Operand.tmp 85), type := 4, pos := "outright.go:163", after := #[{ on := 12, ground := Go.Ground.data }, { on := 20, ground := Go.Ground.data }], guard := none }) (v := ?v43) rfl (by kernel_rfl) (by kernel_rfl) (by kernel_rfl) (fun _ _ _ h => h) (Or.inl ⟨by rfl, ?hy43⟩) hSw41 ?r43
   case hy43 =>
    intro w' hSw
    have hq := hSw.1
    clear hSw
    go_simp
    with_reducible rfl
   try simp only [Act.put, List.setIfInBounds_toArray, List.set_cons_zero, List.set_cons_succ]
   refine wpAnyH_take (i := 22) (oi := { dst := some 87, op := Go.Op.move (Go.Operand.tmp 86), type := 4, pos := "outright.go:163", after := #[{ on := 21, ground := Go.Ground.data }, { on := 19, ground := Go.Ground.chain }], guard := none }) (v := ?v44) rfl (by kernel_rfl) (by kernel_rfl) (by kernel_rfl) (fun _ _ _ h => h) (Or.inl ⟨by rfl, ?hy44⟩) hSw41 ?r44
   case hy44 =>
    intro w' hSw
    have hq := hSw.1
    clear hSw
    go_simp
    with_reducible rfl
   try simp only [Act.put, List.setIfInBounds_toArray, List.set_cons_zero, List.set_cons_succ]
   refine wpAnyH_take (i := 23) (oi := { dst := some 88, op := Go.Op.fieldAddr 24 (Go.Operand.tmp 7) 0, type := 0, pos := "outright.go:163", after := #[{ on := 22, ground := Go.Ground.guard }], guard := some (22, false) }) (v := ?v45) rfl (by kernel_rfl) (by kernel_rfl) (by kernel_rfl) (fun _ _ _ h => h) (Or.inl ⟨by rfl, ?hy45⟩) hSw41 ?r45
   case hy45 =>
    intro w' hSw
    have hq := hSw.1
    clear hSw
    go_simp
    with_reducible rfl
   try simp only [Act.put, List.setIfInBounds_toArray, List.set_cons_zero, List.set_cons_succ]
   refine wpAnyH_take (i := 24) (oi := { dst := some 89, op := Go.Op.load 3 (Go.Operand.tmp 88), type := 3, pos := "outright.go:163", after := #[{ on := 23, ground := Go.Ground.data }, { on := 22, ground := Go.Ground.guard }], guard := some (22, false) }) (v := ?v46) rfl (by kernel_rfl) (by kernel_rfl) (by kernel_rfl) (fun _ _ _ h => h) (Or.inl ⟨by rfl, ?hy46⟩) hSw41 ?r46
   case hy46 =>
    intro w' hSw
    have hq := hSw.1
    clear hSw
    go_simp
    with_reducible rfl
   try simp only [Act.put, List.setIfInBounds_toArray, List.set_cons_zero, List.set_cons_succ]
   refine wpAnyH_take (i := 25) (oi := { dst := some 90, op := Go.Op.fieldAddr 24 (Go.Operand.tmp 7) 1, type := 0, pos := "outright.go:163", after := #[{ on := 22, ground := Go.Ground.guard }], guard := some (22, false) }) (v := ?v47) rfl (by kernel_rfl) (by kernel_rfl) (by kernel_rfl) (fun _ _ _ h => h) (Or.inl ⟨by rfl, ?hy47⟩) hSw41 ?r47
   case hy47 =>
    intro w' hSw
    have hq := hSw.1
    clear hSw
    go_simp
    with_reducible rfl
   try simp only [Act.put, List.setIfInBounds_toArray, List.set_cons_zero, List.set_cons_succ]
   refine wpAnyH_take (i := 26) (oi := { dst := some 91, op := Go.Op.load 3 (Go.Operand.tmp 90), type := 3, pos := "outright.go:163", after := #[{ on := 25, ground := Go.Ground.data }, { on := 22, ground := Go.Ground.guard }], guard := some (22, false) }) (v := ?v48) rfl (by kernel_rfl) (by kernel_rfl) (by kernel_rfl) (fun _ _ _ h => h) (Or.inl ⟨by rfl, ?hy48⟩) hSw41 ?r48
   case hy48 =>
    intro w' hSw
    have hq := hSw.1
    clear hSw
    go_simp
    with_reducible rfl
   try simp only [Act.put, List.setIfInBounds_toArray, List.set_cons_zero, List.set_cons_succ]
   refine wpAnyH_take (i := 27) (oi := { dst := some 92, op := Go.Op.binOp Go.BinOp.gtr 3 (Go.Operand.tmp 89) (Go.Operand.tmp 91) 3, type := 4, pos := "outright.go:163", after := #[{ on := 24, ground := Go.Ground.data }, { on := 26, ground := Go.Ground.data }, { on := 22, ground := Go.Ground.guard }], guard := some (22, false) }) (v := ?v49) rfl (by kernel_rfl) (by kernel_rfl) (by kernel_rfl) (fun _ _ _ h => h) (Or.inl ⟨by rfl, ?hy49⟩) hSw41 ?r49
   case hy49 =>
    intro w' hSw
    have hq := hSw.1
    clear hSw
    go_simp
    with_reducible rfl
   try simp only [Act.put, List.setIfInBounds_toArray, List.set_cons_zero, List.set_cons_succ]
   refine wpAnyH_take (i := 28) (oi := { dst := some 93, op := Go.Op.pick (Go.Operand.tmp 87) (Go.Operand.const (Go.Value.bool true)) (Go.Operand.tmp 92), type := 4, pos := "outright.go:163", after := #[{ on := 22, ground := Go.Ground.data }, { on := 27, ground := Go.Ground.data }], guard := none }) (v := ?v50) rfl (by kernel_rfl) (by kernel_rfl) (by kernel_rfl) (fun _ _ _ h => h) (Or.inl ⟨by rfl, ?hy50⟩) hSw41 ?r50
   case hy50 =>
    intro w' hSw
    have hq := hSw.1
    clear hSw
    go_simp
    with_reducible rfl
   try simp only [Act.put, List.setIfInBounds_toArray, List.set_cons_zero, List.set_cons_succ]
   refine wpAnyH_take (i := 29) (oi := { dst := some 94, op := Go.Op.move (Go.Operand.tmp 93), type := 4, pos := "outright.go:163", after := #[{ on := 28, ground := Go.Ground.data }, { on := 22, ground := Go.Ground.chain }], guard := none }) (v := ?v51) rfl (by kernel_rfl) (by kernel_rfl) (by kernel_rfl) (fun _ _ _ h => h) (Or.inl ⟨by rfl, ?hy51⟩) hSw41 ?r51
   case hy51 =>
    intro w' hSw
    have hq := hSw.1
    clear hSw
    go_simp
    with_reducible rfl
   try simp only [Act.put, List.setIfInBounds_toArray, List.set_cons_zero, List.set_cons_succ]
   refine wpAnyH_take (i := 30) (oi := { dst := some 95, op := Go.Op.fieldAddr 24 (Go.Operand.tmp 9) 0, type := 0, pos := "outright.go:163", after := #[{ on := 29, ground := Go.Ground.guard }], guard := some (29, false) }) (v := ?v52) rfl (by kernel_rfl) (by kernel_rfl) (by kernel_rfl) (fun _ _ _ h => h) (Or.inl ⟨by rfl, ?hy52⟩) hSw41 ?r52
   case hy52 =>
    intro w' hSw
    have hq := hSw.1
    clear hSw
    go_simp
    with_reducible rfl
   try simp only [Act.put, List.setIfInBounds_toArray, List.set_cons_zero, List.set_cons_succ]
   refine wpAnyH_take (i := 31) (oi := { dst := some 96, op := Go.Op.load 3 (Go.Operand.tmp 95), type := 3, pos := "outright.go:163", after := #[{ on := 30, ground := Go.Ground.data }, { on := 29, ground := Go.Ground.guard }], guard := some (29, false) }) (v := ?v53) rfl (by kernel_rfl) (by kernel_rfl) (by kernel_rfl) (fun _ _ _ h => h) (Or.inl ⟨by rfl, ?hy53⟩) hSw41 ?r53
   case hy53 =>
    intro w' hSw
    have hq := hSw.1
    clear hSw
    go_simp
    with_reducible rfl
   try simp only [Act.put, List.setIfInBounds_toArray, List.set_cons_zero, List.set_cons_succ]
   refine wpAnyH_take (i := 32) (oi := { dst := some 97, op := Go.Op.fieldAddr 24 (Go.Operand.tmp 9) 1, type := 0, pos := "outright.go:163", after := #[{ on := 29, ground := Go.Ground.guard }], guard := some (29, false) }) (v := ?v54) rfl (by kernel_rfl) (by kernel_rfl) (by kernel_rfl) (fun _ _ _ h => h) (Or.inl ⟨by rfl, ?hy54⟩) hSw41 ?r54
   case hy54 =>
    intro w' hSw
    have hq := hSw.1
    clear hSw
    go_simp
    with_reducible rfl
   try simp only [Act.put, List.setIfInBounds_toArray, List.set_cons_zero, List.set_cons_succ]
   refine wpAnyH_take (i := 33) (oi := { dst := some 98, op := Go.Op.load 3 (Go.Operand.tmp 97), type := 3, pos := "outright.go:163", after := #[{ on := 32, ground := Go.Ground.data }, { on := 29, ground := Go.Ground.guard }], guard := some (29, false) }) (v := ?v55) rfl (by kernel_rfl) (by kernel_rfl) (by kernel_rfl) (fun _ _ _ h => h) (Or.inl ⟨by rfl, ?hy55⟩) hSw41 ?r55
   case hy55 =>
    intro w' hSw
    have hq := hSw.1
    clear hSw
    go_simp
    with_reducible rfl
   try simp only [Act.put, List.setIfInBounds_toArray, List.set_cons_zero, List.set_cons_succ]
   refine wpAnyH_take (i := 34) (oi := { dst := some 99, op := Go.Op.binOp Go.BinOp.gtr 3 (Go.Operand.tmp 96) (Go.Operand.tmp 98) 3, type := 4, pos := "outright.go:163", after := #[{ on := 31, ground := Go.Ground.data }, { on := 33, ground := Go.Ground.data }, { on := 29, ground := Go.Ground.guard }], guard := some (29, false) }) (v := ?v56) rfl (by kernel_rfl) (by kernel_rfl) (by kernel_rfl) (fun _ _ _ h => h) (Or.inl ⟨by rfl, ?hy56⟩) hSw41 ?r56
   case hy56 =>
    intro w' hSw
    have hq := hSw.1
    clear hSw
    go_simp
    with_reducible rfl
   try simp only [Act.put, List.setIfInBounds_toArray, List.set_cons_zero, List.set_cons_succ]
   refine wpAnyH_take (i := 35) (oi := { dst := some 100, op := Go.Op.pick (Go.Operand.tmp 94) (Go.Operand.const (Go.Value.bool true)) (Go.Operand.tmp 99), type := 4, pos := "outright.go:163", after := #[{ on := 29, ground := Go.Ground.data }, { on := 34, ground := Go.Ground.data }], guard := none }) (v := ?v57) rfl (by kernel_rfl) (by kernel_rfl) (by kernel_rfl) (fun _ _ _ h => h) (Or.inl ⟨by rfl, ?hy57⟩) hSw41 ?r57
   case hy57 =>
    intro w' hSw
    have hq := hSw.1
    clear hSw
    go_simp
    with_reducible rfl
   try simp only [Act.put, List.setIfInBounds_toArray, List.set_cons_zero, List.set_cons_succ]
   refine wpAnyH_done (by kernel_rfl) ?_ _
   show R _ _
   rw [HR.out]
   simp only [Act.put, List.setIfInBounds_toArray, List.set_cons_zero, List.set_cons_succ]
   exact ⟨⟨_, _, _, _, _, _, _, _, _, _, _, _, _, _, _, _, _, _, _, _, _, _, _, _, _, _, _, _, _, _, _, _, _, _, _, rfl⟩, hSw41⟩
 case rest8 =>
  intro a' w7 hra
  rw [HR.out] at hra
  clear HR
  obtain ⟨⟨u65, u66, u67, u68, u69, u70, u71, u72, u73, u74, u75, u76, u77, u78, u79, u80, u81, u82, u83, u84, u85, u86, u87, u88, u89, u90, u91, u92, u93, u94, u95, u96, u97, u98, u99, rfl⟩, hHE⟩ := hra
  subst hA
  try simp only [Act.put, List.setIfInBounds_toArray, List.set_cons_zero, List.set_cons_succ]

  clear qP0 qP1 qU0 qU1 qB0 qB1 qB2 qB3 qB4 qB5 qB6 qB7 qB8 qB9 qB10 qB11 qB12 qB13 HCV1 HCV2
  have rB := (hHE.2.2.block _ (heap_lt RB6.out)).trans RB6.out
  have rN := (hHE.2.2.block _ (heap_lt RN6.out)).trans RN6.out
  have rP := (hHE.2.2.block _ (heap_lt RP6.out)).trans RP6.out
  have rU := (hHE.2.2.block _ (heap_lt RU6.out)).trans RU6.out
  replace ct0 := (hHE.2.2.cell (p := ⟨bl, off + q * 2, none⟩) hbl6).trans ct0
  replace ct1 := (hHE.2.2.cell (p := ⟨bl, off + q * 2 + 1, none⟩) hbl6).trans ct1
  have hb7 := HB6.out.trans (hHE.2.2.mono HB6.out.size)
  have hbl7 : bl < w7.heap.size := Nat.lt_of_lt_of_le hblw hb7.size
  clear hHE RB6 RN6 RP6 RU6 HB6 hbl6
  have qP0 := cell_of_row w7 _ 0 _ _ _ rP
  have qP1 := cell_of_row w7 _ 1 _ _ _ rP
  simp only [List.getElem?_toArray, List.getElem?_cons_zero, List.getElem?_cons_succ] at qP0 qP1
  have qU0 := cell_of_row w7 _ 0 _ _ _ rU
  have qU1 := cell_of_row w7 _ 1 _ _ _ rU
  simp only [List.getElem?_toArray, List.getElem?_cons_zero, List.getElem?_cons_succ] at qU0 qU1
  have qB0 := cell_of_row w7 _ 0 _ _ _ rB
  have qB1 := cell_of_row w7 _ 1 _ _ _ rB
  have qB2 := cell_of_row w7 _ 2 _ _ _ rB
  have qB3 := cell_of_row w7 _ 3 _ _ _ rB
  have qB4 := cell_of_row w7 _ 4 _ _ _ rB
  have qB5 := cell_of_row w7 _ 5 _ _ _ rB
  have qB6 := cell_of_row w7 _ 6 _ _ _ rB
  have qB7 := cell_of_row w7 _ 7 _ _ _ rB
  have qB8 := cell_of_row w7 _ 8 _ _ _ rB
  have qB9 := cell_of_row w7 _ 9 _ _ _ rB
  have qB10 := cell_of_row w7 _ 10 _ _ _ rB
  have qB11 := cell_of_row w7 _ 11 _ _ _ rB
  have qB12 := cell_of_row w7 _ 12 _ _ _ rB
  have qB13 := cell_of_row w7 _ 13 _ _ _ rB
  simp only [List.getElem?_toArray, List.getElem?_cons_zero, List.getElem?_cons_succ] at qB0 qB1 qB2 qB3 qB4 qB5 qB6 qB7 qB8 qB9 qB10 qB11 qB12 qB13
  have qN2 := cell_of_row w7 _ 2 _ _ _ rN
  have qN3 := cell_of_row w7 _ 3 _ _ _ rN
  simp only [List.getElem?_toArray, List.getElem?_cons_zero, List.getElem?_cons_succ] at qN2 qN3
  have lB7 := heap_lt rB
  have lN7 := heap_lt rN
  have lP7 := heap_lt rP
  have lU7 := heap_lt rU
  have HB7 := Lib.hid hb7
  have RB7 := Lib.hid rB
  have RP7 := Lib.hid rP
  have RU7 := Lib.hid rU
  have HWA := Lib.hid (show ∀ W', Calls Try.prog 31 #[vSp ⟨tl, th⟩, I n2] W' fun e w' => (∃ x, e = .returned (I x) ∧ tl ≤ x ∧ x ≤ th) ∧ Below W'.heap.size W' w' from fun W' => within_any ⟨tl, th⟩ n2 htb.1 htb.2.1 (show th ≤ 200 by omega) W')
  have HWB := Lib.hid (show ∀ W', Calls Try.prog 31 #[vSp ⟨fl, fh⟩, I n3] W' fun e w' => (∃ x, e = .returned (I x) ∧ fl ≤ x ∧ x ≤ fh) ∧ Below W'.heap.size W' w' from fun W' => within_any ⟨fl, fh⟩ n3 hfb2.1 hfb2.2.1 (show fh ≤ 200 by omega) W')
  clear hb7 rB rN rP rU
  go_wp2_with fail

  refine name_act ?_
  intro A hA
  obtain ⟨R, hR⟩ : ∃ R : Act → World → Prop, R = fun a' w' => ∃ (ga gb : Nat) (xa xb : Int), (∃ u101 u102 u103 u104 u105 u106 u107 u108 u109 u110 u111 u112 u113 u114 u115 u116 u117 u118 u119 u120 u121 u122 u123 u124 u125 u126, a' = ((((((((((((((((((((((((((((A.put (some 101) u101).put (some 102) u102).put (some 103) u103).put (some 104) u104).put (some 105) u105).put (some 106) u106).put (some 107) u107).put (some 108) u108).put (some 109) u109).put (some 110) u110).put (some 111) u111).put (some 112) u112).put (some 113) u113).put (some 114) u114).put (some 115) u115).put (some 116) u116).put (some 117) u117).put (some 118) u118).put (some 119) u119).put (some 120) u120).put (some 121) u121).put (some 122) u122).put (some 123) u123).put (some 124) u124).put (some 125) u125).put (some 126) u126).put (some 11) (.slice (some ⟨ga, 0, none⟩) 3 3)).put (some 12) (.slice (some ⟨gb, 0, none⟩) 3 3))) ∧ w'.heap[ga]? = some (.cells #[I p1, I z1, I xa] 3 (0, 0)) ∧ w'.heap[gb]? = some (.cells #[I p2, I z2, I xb] 3 (0, 0)) ∧ (tl ≤ xa ∧ xa ≤ th) ∧ (fl ≤ xb ∧ xb ≤ fh) ∧ Held w7 w' := ⟨_, rfl⟩
  have HR := Lib.hid hR
  clear hR
  refine wp_between R ?first10 ?rest10
  case first10 =>
   as_aux_lemma =>
    subst hA
    have hml : (m : Int) < 2 := by omega
    have qF0 : w7.cell? ⟨w.heap.size, 1 + m * 4, none⟩ = some (I fl) := hm1.elim (fun h => by subst h; exact qB1.trans (by rw [show b.s0.floor = ⟨fl, fh⟩ from hff])) (fun h => by subst h; exact qB5.trans (by rw [show b.s1.floor = ⟨fl, fh⟩ from hff]))
    have qF1 : w7.cell? ⟨w.heap.size, 1 + m * 4 + 1, none⟩ = some (I fh) := hm1.elim (fun h => by subst h; exact qB2.trans (by rw [show b.s0.floor = ⟨fl, fh⟩ from hff])) (fun h => by subst h; exact qB6.trans (by rw [show b.s1.floor = ⟨fl, fh⟩ from hff]))
    clear hff
    clear qB1 qB2 qB3 qB4 qB5 qB6 qB7 qB8 qB9 qB10 qB11 qB12 qB13
    refine wp_region_held_drew (S := fun w' => Held w7 w') (by kernel_rfl) (held_start w7) (fun _ => ?_)
    refine wpAnyH_take (i := 0) (oi := { dst := some 101, op := Go.Op.fieldAddr 24 (Go.Operand.tmp 7) 0, type := 0, pos := "outright.go:166", after := #[], guard := none }) (v := ?v58) rfl (by kernel_rfl) (by kernel_rfl) (by kernel_rfl) (fun _ _ _ h => h) (Or.inl ⟨by rfl, ?hy58⟩) (held_start w7) ?r58
    case hy58 =>
     intro w' hSw
     have hq := hSw.1
     clear hSw
     go_simp
     with_reducible rfl
    try simp only [Act.put, List.setIfInBounds_toArray, List.set_cons_zero, List.set_cons_succ]
    refine wpAnyH_take (i := 1) (oi := { dst := some 102, op := Go.Op.load 3 (Go.Operand.tmp 101), type := 3, pos := "outright.go:166", after := #[{ on := 0, ground := Go.Ground.data }], guard := none }) (v := ?v59) rfl (by kernel_rfl) (by kernel_rfl) (by kernel_rfl) (fun _ _ _ h => h) (Or.inl ⟨by rfl, ?hy59⟩) (held_start w7) ?r59
    case hy59 =>
     intro w' hSw
     have hq := hSw.1
     clear hSw
     go_simp
     with_reducible rfl
    try simp only [Act.put, List.setIfInBounds_toArray, List.set_cons_zero, List.set_cons_succ]
    refine wpAnyH_take (i := 2) (oi := { dst := some 103, op := Go.Op.fieldAddr 24 (Go.Operand.tmp 7) 1, type := 0, pos := "outright.go:166", after := #[], guard := none }) (v := ?v60) rfl (by kernel_rfl) (by kernel_rfl) (by kernel_rfl) (fun _ _ _ h => h) (Or.inl ⟨by rfl, ?hy60⟩) (held_start w7) ?r60
    case hy60 =>
     intro w' hSw
     have hq := hSw.1
     clear hSw
     go_simp
     with_reducible rfl
    try simp only [Act.put, List.setIfInBounds_toArray, List.set_cons_zero, List.set_cons_succ]
    refine wpAnyH_take (i := 3) (oi := { dst := some 104, op := Go.Op.load 3 (Go.Operand.tmp 103), type := 3, pos := "outright.go:166", after := #[{ on := 2, ground := Go.Ground.data }], guard := none }) (v := ?v61) rfl (by kernel_rfl) (by kernel_rfl) (by kernel_rfl) (fun _ _ _ h => h) (Or.inl ⟨by rfl, ?hy61⟩) (held_start w7) ?r61
    case hy61 =>
     intro w' hSw
     have hq := hSw.1
     clear hSw
     go_simp
     with_reducible rfl
    try simp only [Act.put, List.setIfInBounds_toArray, List.set_cons_zero, List.set_cons_succ]
    refine wpAnyH_take (i := 4) (oi := { dst := some 105, op := Go.Op.fieldAddr 30 (Go.Operand.tmp 2) 0, type := 0, pos := "outright.go:166", after := #[], guard := none }) (v := ?v62) rfl (by kernel_rfl) (by kernel_rfl) (by kernel_rfl) (fun _ _ _ h => h) (Or.inl ⟨by rfl, ?hy62⟩) (held_start w7) ?r62
    case hy62 =>
     intro w' hSw
     have hq := hSw.1
     clear hSw
     go_simp
     with_reducible rfl
    try simp only [Act.put, List.setIfInBounds_toArray, List.set_cons_zero, List.set_cons_succ]
    refine wpAnyH_take (i := 5) (oi := { dst := some 106, op := Go.Op.load 22 (Go.Operand.tmp 105), type := 22, pos := "outright.go:166", after := #[{ on := 4, ground := Go.Ground.data }], guard := none }) (v := ?v63) rfl (by kernel_rfl) (by kernel_rfl) (by kernel_rfl) (fun _ _ _ h => h) (Or.inl ⟨by rfl, ?hy63⟩) (held_start w7) ?r63
    case hy63 =>
     intro w' hSw
     have hq := hSw.1
     clear hSw
     go_simp
     with_reducible rfl
    try simp only [Act.put, List.setIfInBounds_toArray, List.set_cons_zero, List.set_cons_succ]
    refine wpAnyH_take (i := 6) (oi := { dst := some 107, op := Go.Op.move (Go.Operand.tmp 5), type := 3, pos := "outright.go:166", after := #[], guard := none }) (v := ?v64) rfl (by kernel_rfl) (by kernel_rfl) (by kernel_rfl) (fun _ _ _ h => h) (Or.inl ⟨by rfl, ?hy64⟩) (held_start w7) ?r64
    case hy64 =>
     intro w' hSw
     have hq := hSw.1
     clear hSw
     go_simp
     with_reducible rfl
    try simp only [Act.put, List.setIfInBounds_toArray, List.set_cons_zero, List.set_cons_succ]
    refine wpAnyH_take (i := 7) (oi := { dst := some 108, op := Go.Op.indexAddr 22 (Go.Operand.tmp 106) (Go.Operand.tmp 107), type := 0, pos := "outright.go:166", after := #[{ on := 5, ground := Go.Ground.data }, { on := 6, ground := Go.Ground.data }], guard := none }) (v := ?v65) rfl (by kernel_rfl) (by kernel_rfl) (by kernel_rfl) (fun _ _ _ h => h) (Or.inl ⟨by rfl, ?hy65⟩) (held_start w7) ?r65
    case hy65 =>
     intro w' hSw
     have hq := hSw.1
     clear hSw
     go_simp
     with_reducible rfl
    try simp only [Act.put, List.setIfInBounds_toArray, List.set_cons_zero, List.set_cons_succ]
    refine wpAnyH_take (i := 8) (oi := { dst := some 109, op := Go.Op.load 24 (Go.Operand.tmp 108), type := 24, pos := "outright.go:166", after := #[{ on := 7, ground := Go.Ground.data }], guard := none }) (v := ?v66) rfl (by kernel_rfl) (by kernel_rfl) (by kernel_rfl) (fun _ _ _ h => h) (Or.inl ⟨by rfl, ?hy66⟩) (held_start w7) ?r66
    case hy66 =>
     intro w' hSw
     have hq := hSw.1
     clear hSw
     go_simp
     with_reducible rfl
    try simp only [Act.put, List.setIfInBounds_toArray, List.set_cons_zero, List.set_cons_succ]
    refine wpAnyH_take (i := 9) (oi := { dst := some 110, op := Go.Op.indexAddr 57 (Go.Operand.tmp 3) (Go.Operand.const (Go.Value.int Go.IntKind.i64 2)), type := 0, pos := "outright.go:166", after := #[], guard := none }) (v := ?v67) rfl (by kernel_rfl) (by kernel_rfl) (by kernel_rfl) (fun _ _ _ h => h) (Or.inl ⟨by rfl, ?hy67⟩) (held_start w7) ?r67
    case hy67 =>
     intro w' hSw
     have hq := hSw.1
     clear hSw
     go_simp
     with_reducible rfl
    try simp only [Act.put, List.setIfInBounds_toArray, List.set_cons_zero, List.set_cons_succ]
    refine wpAnyH_take (i := 10) (oi := { dst := some 111, op := Go.Op.load 3 (Go.Operand.tmp 110), type := 3, pos := "outright.go:166", after := #[{ on := 9, ground := Go.Ground.data }], guard := none }) (v := ?v68) rfl (by kernel_rfl) (by kernel_rfl) (by kernel_rfl) (fun _ _ _ h => h) (Or.inl ⟨by rfl, ?hy68⟩) (held_start w7) ?r68
    case hy68 =>
     intro w' hSw
     have hq := hSw.1
     clear hSw
     go_simp
     with_reducible rfl
    try simp only [Act.put, List.setIfInBounds_toArray, List.set_cons_zero, List.set_cons_succ]
    refine wpAnyH_take (i := 13) (oi := { dst := some 114, op := Go.Op.fieldAddr 24 (Go.Operand.tmp 9) 0, type := 0, pos := "outright.go:166", after := #[{ on := 26, ground := Go.Ground.gcOnly Go.Departure.lateStores }], guard := none }) (v := ?v69) rfl (by kernel_rfl) (by kernel_rfl) (by kernel_rfl) (fun _ _ _ h => h) (Or.inl ⟨by rfl, ?hy69⟩) (held_start w7) ?r69
    case hy69 =>
     intro w' hSw
     have hq := hSw.1
     clear hSw
     go_simp
     with_reducible rfl
    try simp only [Act.put, List.setIfInBounds_toArray, List.set_cons_zero, List.set_cons_succ]
    refine wpAnyH_take (i := 14) (oi := { dst := some 115, op := Go.Op.load 3 (Go.Operand.tmp 114), type := 3, pos := "outright.go:166", after := #[{ on := 13, ground := Go.Ground.data }, { on := 26, ground := Go.Ground.gcOnly Go.Departure.lateStores }], guard := none }) (v := ?v70) rfl (by kernel_rfl) (by kernel_rfl) (by kernel_rfl) (fun _ _ _ h => h) (Or.inl ⟨by rfl, ?hy70⟩) (held_start w7) ?r70
    case hy70 =>
     intro w' hSw
     have hq := hSw.1
     clear hSw
     go_simp
     with_reducible rfl
    try simp only [Act.put, List.setIfInBounds_toArray, List.set_cons_zero, List.set_cons_succ]
    refine wpAnyH_take (i := 15) (oi := { dst := some 116, op := Go.Op.fieldAddr 24 (Go.Operand.tmp 9) 1, type := 0, pos := "outright.go:166", after := #[{ on := 26, ground := Go.Ground.gcOnly Go.Departure.lateStores }], guard := none }) (v := ?v71) rfl (by kernel_rfl) (by kernel_rfl) (by kernel_rfl) (fun _ _ _ h => h) (Or.inl ⟨by rfl, ?hy71⟩) (held_start w7) ?r71
    case hy71 =>
     intro w' hSw
     have hq := hSw.1
     clear hSw
     go_simp
     with_reducible rfl
    try simp only [Act.put, List.setIfInBounds_toArray, List.set_cons_zero, List.set_cons_succ]
    refine wpAnyH_take (i := 16) (oi := { dst := some 117, op := Go.Op.load 3 (Go.Operand.tmp 116), type := 3, pos := "outright.go:166", after := #[{ on := 15, ground := Go.Ground.data }, { on := 26, ground := Go.Ground.gcOnly Go.Departure.lateStores }], guard := none }) (v := ?v72) rfl (by kernel_rfl) (by kernel_rfl) (by kernel_rfl) (fun _ _ _ h => h) (Or.inl ⟨by rfl, ?hy72⟩) (held_start w7) ?r72
    case hy72 =>
     intro w' hSw
     have hq := hSw.1
     clear hSw
     go_simp
     with_reducible rfl
    try simp only [Act.put, List.setIfInBounds_toArray, List.set_cons_zero, List.set_cons_succ]
    refine wpAnyH_take (i := 17) (oi := { dst := some 118, op := Go.Op.move (Go.Operand.tmp 6), type := 3, pos := "outright.go:166", after := #[], guard := none }) (v := ?v73) rfl (by kernel_rfl) (by kernel_rfl) (by kernel_rfl) (fun _ _ _ h => h) (Or.inl ⟨by rfl, ?hy73⟩) (held_start w7) ?r73
    case hy73 =>
     intro w' hSw
     have hq := hSw.1
     clear hSw
     go_simp
     with_reducible rfl
    try simp only [Act.put, List.setIfInBounds_toArray, List.set_cons_zero, List.set_cons_succ]
    refine wpAnyH_take (i := 18) (oi := { dst := some 119, op := Go.Op.fieldAddr 30 (Go.Operand.tmp 2) 1, type := 0, pos := "outright.go:166", after := #[], guard := none }) (v := ?v74) rfl (by kernel_rfl) (by kernel_rfl) (by kernel_rfl) (fun _ _ _ h => h) (Or.inl ⟨by rfl, ?hy74⟩) (held_start w7) ?r74
    case hy74 =>
     intro w' hSw
     have hq := hSw.1
     clear hSw
     go_simp
     with_reducible rfl
    try simp only [Act.put, List.setIfInBounds_toArray, List.set_cons_zero, List.set_cons_succ]
    refine wpAnyH_take (i := 19) (oi := { dst := some 120, op := Go.Op.indexAddr 27 (Go.Operand.tmp 119) (Go.Operand.tmp 118), type := 0, pos := "outright.go:166", after := #[{ on := 18, ground := Go.Ground.data }, { on := 17, ground := Go.Ground.data }], guard := none }) (v := ?v75) rfl (by kernel_rfl) (by kernel_rfl) (by kernel_rfl) (fun _ _ _ h => h) (Or.inl ⟨by rfl, ?hy75⟩) (held_start w7) ?r75
    case hy75 =>
     intro w' hSw
     have hq := hSw.1
     clear hSw
     go_simp
     with_reducible rfl
    try simp only [Act.put, List.setIfInBounds_toArray, List.set_cons_zero, List.set_cons_succ]
    refine wpAnyH_take (i := 20) (oi := { dst := some 121, op := Go.Op.fieldAddr 26 (Go.Operand.tmp 120) 0, type := 0, pos := "outright.go:166", after := #[{ on := 19, ground := Go.Ground.data }], guard := none }) (v := ?v76) rfl (by kernel_rfl) (by kernel_rfl) (by kernel_rfl) (fun _ _ _ h => h) (Or.inl ⟨by rfl, ?hy76⟩) (held_start w7) ?r76
    case hy76 =>
     intro w' hSw
     have hq := hSw.1
     clear hSw
     go_simp
     with_reducible rfl
    try simp only [Act.put, List.setIfInBounds_toArray, List.set_cons_zero, List.set_cons_succ]
    refine wpAnyH_take (i := 21) (oi := { dst := some 122, op := Go.Op.load 24 (Go.Operand.tmp 121), type := 24, pos := "outright.go:166", after := #[{ on := 20, ground := Go.Ground.data }], guard := none }) (v := ?v77) rfl (by kernel_rfl) (by kernel_rfl) (by kernel_rfl) (fun _ _ _ h => h) (Or.inl ⟨by rfl, ?hy77⟩) (held_start w7) ?r77
    case hy77 =>
     intro w' hSw
     have hq := hSw.1
     clear hSw
     go_simp
     with_reducible rfl
    try simp only [Act.put, List.setIfInBounds_toArray, List.set_cons_zero, List.set_cons_succ]
    refine wpAnyH_take (i := 22) (oi := { dst := some 123, op := Go.Op.indexAddr 57 (Go.Operand.tmp 3) (Go.Operand.const (Go.Value.int Go.IntKind.i64 3)), type := 0, pos := "outright.go:166", after := #[], guard := none }) (v := ?v78) rfl (by kernel_rfl) (by kernel_rfl) (by kernel_rfl) (fun _ _ _ h => h) (Or.inl ⟨by rfl, ?hy78⟩) (held_start w7) ?r78
    case hy78 =>
     intro w' hSw
     have hq := hSw.1
     clear hSw
     go_simp
     with_reducible rfl
    try simp only [Act.put, List.setIfInBounds_toArray, List.set_cons_zero, List.set_cons_succ]
    refine wpAnyH_take (i := 23) (oi := { dst := some 124, op := Go.Op.load 3 (Go.Operand.tmp 123), type := 3, pos := "outright.go:166", after := #[{ on := 22, ground := Go.Ground.data }], guard := none }) (v := ?v79) rfl (by kernel_rfl) (by kernel_rfl) (by kernel_rfl) (fun _ _ _ h => h) (Or.inl ⟨by rfl, ?hy79⟩) (held_start w7) ?r79
    case hy79 =>
     intro w' hSw
     have hq := hSw.1
     clear hSw
     go_simp
     with_reducible rfl
    try simp only [Act.put, List.setIfInBounds_toArray, List.set_cons_zero, List.set_cons_succ]
    refine wpAnyH_ready (rs := [11]) (by kernel_rfl) (by simp) ?_
    refine AllReadyH.cons rfl (fun K hK => ?_) AllReadyH.nil
    go_simp
    refine (HWA.out _).mono ?_
    rintro e w80 ⟨⟨xa, rfl, hxa1, hxa2⟩, hBw80⟩
    have hSw80 := held_step hBw80 (held_start w7)
    refine hK.out _ _ hSw80 (fun _ => ?_)
    clear hK K
    try simp only [Act.put, List.setIfInBounds_toArray, List.set_cons_zero, List.set_cons_succ]
    refine wpAnyH_ready (rs := [12, 24]) (by kernel_rfl) (by simp) ?_
    refine AllReadyH.cons rfl (fun K hK => ?_) (AllReadyH.cons rfl (fun K hK => ?_) AllReadyH.nil)
    ·go_simp
     refine hK.out _ _ (held_alloc hSw80 _) (fun _ => ?_)
     clear hK K
     try simp only [Act.put, List.setIfInBounds_toArray, List.set_cons_zero, List.set_cons_succ]
     refine name_anyH ?_
     intro w81 hWw81
     have hAw81 : Below w80.heap.size w80 w81 := by rw [hWw81]; exact (Below.refl _ _).alloc (Nat.le_refl _) _
     have hrgaw81 : w81.heap[w80.heap.size]? = some (.cells #[I p1, I z1, I xa] 3 (0, 0)) := by rw [hWw81]; exact heap_at _ _ rfl
     have hSw81 : Held w7 w81 := by rw [hWw81]; exact held_alloc hSw80 _
     clear hWw81
     refine wpAnyH_ready (rs := [24]) (by kernel_rfl) (by simp) ?_
     refine AllReadyH.cons rfl (fun K hK => ?_) AllReadyH.nil
     go_simp
     refine (HWB.out _).mono ?_
     rintro e w82 ⟨⟨xb, rfl, hxb1, hxb2⟩, hBw82⟩
     have hSw82 := held_step hBw82 hSw81
     have hrgaw82 := (hBw82.block _ (heap_lt hrgaw81)).trans hrgaw81
     refine hK.out _ _ hSw82 (fun _ => ?_)
     clear hK K
     try simp only [Act.put, List.setIfInBounds_toArray, List.set_cons_zero, List.set_cons_succ]
     refine wpAnyH_take (i := 26) (oi := { dst := some 11, op := Go.Op.assign (Go.Operand.tmp 113), type := 31, pos := "outright.go:166", after := #[{ on := 12, ground := Go.Ground.data }, { on := 24, ground := Go.Ground.chain }, { on := 0, ground := Go.Ground.phase }, { on := 1, ground := Go.Ground.phase }, { on := 2, ground := Go.Ground.phase }, { on := 3, ground := Go.Ground.phase }, { on := 4, ground := Go.Ground.phase }, { on := 5, ground := Go.Ground.phase }, { on := 6, ground := Go.Ground.phase }, { on := 7, ground := Go.Ground.phase }, { on := 8, ground := Go.Ground.phase }, { on := 9, ground := Go.Ground.phase }, { on := 10, ground := Go.Ground.phase }, { on := 11, ground := Go.Ground.phase }, { on := 12, ground := Go.Ground.phase }, { on := 13, ground := Go.Ground.textOnly Go.Departure.lateStores }, { on := 14, ground := Go.Ground.textOnly Go.Departure.lateStores }, { on := 15, ground := Go.Ground.textOnly Go.Departure.lateStores }, { on := 16, ground := Go.Ground.textOnly Go.Departure.lateStores }, { on := 17, ground := Go.Ground.textOnly Go.Departure.lateStores }, { on := 18, ground := Go.Ground.textOnly Go.Departure.lateStores }, { on := 19, ground := Go.Ground.textOnly Go.Departure.lateStores }, { on := 20, ground := Go.Ground.textOnly Go.Departure.lateStores }, { on := 21, ground := Go.Ground.textOnly Go.Departure.lateStores }, { on := 22, ground := Go.Ground.textOnly Go.Departure.lateStores }, { on := 23, ground := Go.Ground.textOnly Go.Departure.lateStores }, { on := 24, ground := Go.Ground.textOnly Go.Departure.lateStoresUnsure }, { on := 25, ground := Go.Ground.textOnly Go.Departure.lateStores }], guard := none }) (v := ?v83) rfl (by kernel_rfl) (by kernel_rfl) (by kernel_rfl) (fun _ _ _ h => h) (Or.inl ⟨by rfl, ?hy83⟩) hSw82 ?r83
     case hy83 =>
      intro w' hSw
      have hq := hSw.1
      clear hSw
      go_simp
      with_reducible rfl
     try simp only [Act.put, List.setIfInBounds_toArray, List.set_cons_zero, List.set_cons_succ]
     refine wpAnyH_ready (rs := [25]) (by kernel_rfl) (by simp) ?_
     refine AllReadyH.cons rfl (fun K hK => ?_) AllReadyH.nil
     go_simp
     refine hK.out _ _ (held_alloc hSw82 _) (fun _ => ?_)
     clear hK K
     try simp only [Act.put, List.setIfInBounds_toArray, List.set_cons_zero, List.set_cons_succ]
     refine name_anyH ?_
     intro w84 hWw84
     have hAw84 : Below w82.heap.size w82 w84 := by rw [hWw84]; exact (Below.refl _ _).alloc (Nat.le_refl _) _
     have hrgbw84 : w84.heap[w82.heap.size]? = some (.cells #[I p2, I z2, I xb] 3 (0, 0)) := by rw [hWw84]; exact heap_at _ _ rfl
     have hSw84 : Held w7 w84 := by rw [hWw84]; exact held_alloc hSw82 _
     have hrgaw84 := (hAw84.block _ (heap_lt hrgaw82)).trans hrgaw82
     clear hWw84
     refine wpAnyH_take (i := 27) (oi := { dst := some 12, op := Go.Op.assign (Go.Operand.tmp 126), type := 31, pos := "outright.go:166", after := #[{ on := 25, ground := Go.Ground.data }, { on := 26, ground := Go.Ground.chain }, { on := 0, ground := Go.Ground.phase }, { on := 1, ground := Go.Ground.phase }, { on := 2, ground := Go.Ground.phase }, { on := 3, ground := Go.Ground.phase }, { on := 4, ground := Go.Ground.phase }, { on := 5, ground := Go.Ground.phase }, { on := 6, ground := Go.Ground.phase }, { on := 7, ground := Go.Ground.phase }, { on := 8, ground := Go.Ground.phase }, { on := 9, ground := Go.Ground.phase }, { on := 10, ground := Go.Ground.phase }, { on := 11, ground := Go.Ground.phase }, { on := 12, ground := Go.Ground.phase }, { on := 13, ground := Go.Ground.phase }, { on := 14, ground := Go.Ground.phase }, { on := 15, ground := Go.Ground.phase }, { on := 16, ground := Go.Ground.phase }, { on := 17, ground := Go.Ground.phase }, { on := 18, ground := Go.Ground.phase }, { on := 19, ground := Go.Ground.phase }, { on := 20, ground := Go.Ground.phase }, { on := 21, ground := Go.Ground.phase }, { on := 22, ground := Go.Ground.phase }, { on := 23, ground := Go.Ground.phase }, { on := 24, ground := Go.Ground.phase }, { on := 25, ground := Go.Ground.phase }, { on := 26, ground := Go.Ground.phase }], guard := none }) (v := ?v85) rfl (by kernel_rfl) (by kernel_rfl) (by kernel_rfl) (fun _ _ _ h => h) (Or.inl ⟨by rfl, ?hy85⟩) hSw84 ?r85
     case hy85 =>
      intro w' hSw
      have hq := hSw.1
      clear hSw
      go_simp
      with_reducible rfl
     try simp only [Act.put, List.setIfInBounds_toArray, List.set_cons_zero, List.set_cons_succ]
     refine wpAnyH_done (by kernel_rfl) ?_ _
     show R _ _
     rw [HR.out]
     simp only [Act.put, List.setIfInBounds_toArray, List.set_cons_zero, List.set_cons_succ]
     exact ⟨_, _, xa, xb, ⟨_, _, _, _, _, _, _, _, _, _, _, _, _, _, _, _, _, _, _, _, _, _, _, _, _, _, rfl⟩, hrgaw84, hrgbw84, ⟨hxa1, hxa2⟩, ⟨hxb1, hxb2⟩, hSw84⟩
    ·go_simp
     refine (HWB.out _).mono ?_
     rintro e w86 ⟨⟨xb, rfl, hxb1, hxb2⟩, hBw86⟩
     have hSw86 := held_step hBw86 hSw80
     refine hK.out _ _ hSw86 (fun _ => ?_)
     clear hK K
     try simp only [Act.put, List.setIfInBounds_toArray, List.set_cons_zero, List.set_cons_succ]
     refine wpAnyH_ready (rs := [12, 25]) (by kernel_rfl) (by simp) ?_
     refine AllReadyH.cons rfl (fun K hK => ?_) (AllReadyH.cons rfl (fun K hK => ?_) AllReadyH.nil)
     ·go_simp
      refine hK.out _ _ (held_alloc hSw86 _) (fun _ => ?_)
      clear hK K
      try simp only [Act.put, List.setIfInBounds_toArray, List.set_cons_zero, List.set_cons_succ]
      refine name_anyH ?_
      intro w87 hWw87
      have hAw87 : Below w86.heap.size w86 w87 := by rw [hWw87]; exact (Below.refl _ _).alloc (Nat.le_refl _) _
      have hrgaw87 : w87.heap[w86.heap.size]? = some (.cells #[I p1, I z1, I xa] 3 (0, 0)) := by rw [hWw87]; exact heap_at _ _ rfl
      have hSw87 : Held w7 w87 := by rw [hWw87]; exact held_alloc hSw86 _
      clear hWw87
      refine wpAnyH_take (i := 26) (oi := { dst := some 11, op := Go.Op.assign (Go.Operand.tmp 113), type := 31, pos := "outright.go:166", after := #[{ on := 12, ground := Go.Ground.data }, { on := 24, ground := Go.Ground.chain }, { on := 0, ground := Go.Ground.phase }, { on := 1, ground := Go.Ground.phase }, { on := 2, ground := Go.Ground.phase }, { on := 3, ground := Go.Ground.phase }, { on := 4, ground := Go.Ground.phase }, { on := 5, ground := Go.Ground.phase }, { on := 6, ground := Go.Ground.phase }, { on := 7, ground := Go.Ground.phase }, { on := 8, ground := Go.Ground.phase }, { on := 9, ground := Go.Ground.phase }, { on := 10, ground := Go.Ground.phase }, { on := 11, ground := Go.Ground.phase }, { on := 12, ground := Go.Ground.phase }, { on := 13, ground := Go.Ground.textOnly Go.Departure.lateStores }, { on := 14, ground := Go.Ground.textOnly Go.Departure.lateStores }, { on := 15, ground := Go.Ground.textOnly Go.Departure.lateStores }, { on := 16, ground := Go.Ground.textOnly Go.Departure.lateStores }, { on := 17, ground := Go.Ground.textOnly Go.Departure.lateStores }, { on := 18, ground := Go.Ground.textOnly Go.Departure.lateStores }, { on := 19, ground := Go.Ground.textOnly Go.Departure.lateStores }, { on := 20, ground := Go.Ground.textOnly Go.Departure.lateStores }, { on := 21, ground := Go.Ground.textOnly Go.Departure.lateStores }, { on := 22, ground := Go.Ground.textOnly Go.Departure.lateStores }, { on := 23, ground := Go.Ground.textOnly Go.Departure.lateStores }, { on := 24, ground := Go.Ground.textOnly Go.Departure.lateStoresUnsure }, { on := 25, ground := Go.Ground.textOnly Go.Departure.lateStores }], guard := none }) (v := ?v88) rfl (by kernel_rfl) (by kernel_rfl) (by kernel_rfl) (fun _ _ _ h => h) (Or.inl ⟨by rfl, ?hy88⟩) hSw87 ?r88
      case hy88 =>
       intro w' hSw
       have hq := hSw.1
       clear hSw
       go_simp
       with_reducible rfl
      try simp only [Act.put, List.setIfInBounds_toArray, List.set_cons_zero, List.set_cons_succ]
      refine wpAnyH_ready (rs := [25]) (by kernel_rfl) (by simp) ?_
      refine AllReadyH.cons rfl (fun K hK => ?_) AllReadyH.nil
      go_simp
      refine hK.out _ _ (held_alloc hSw87 _) (fun _ => ?_)
      clear hK K
      try simp only [Act.put, List.setIfInBounds_toArray, List.set_cons_zero, List.set_cons_succ]
      refine name_anyH ?_
      intro w89 hWw89
      have hAw89 : Below w87.heap.size w87 w89 := by rw [hWw89]; exact (Below.refl _ _).alloc (Nat.le_refl _) _
      have hrgbw89 : w89.heap[w87.heap.size]? = some (.cells #[I p2, I z2, I xb] 3 (0, 0)) := by rw [hWw89]; exact heap_at _ _ rfl
      have hSw89 : Held w7 w89 := by rw [hWw89]; exact held_alloc hSw87 _
      have hrgaw89 := (hAw89.block _ (heap_lt hrgaw87)).trans hrgaw87
      clear hWw89
      refine wpAnyH_take (i := 27) (oi := { dst := some 12, op := Go.Op.assign (Go.Operand.tmp 126), type := 31, pos := "outright.go:166", after := #[{ on := 25, ground := Go.Ground.data }, { on := 26, ground := Go.Ground.chain }, { on := 0, ground := Go.Ground.phase }, { on := 1, ground := Go.Ground.phase }, { on := 2, ground := Go.Ground.phase }, { on := 3, ground := Go.Ground.phase }, { on := 4, ground := Go.Ground.phase }, { on := 5, ground := Go.Ground.phase }, { on := 6, ground := Go.Ground.phase }, { on := 7, ground := Go.Ground.phase }, { on := 8, ground := Go.Ground.phase }, { on := 9, ground := Go.Ground.phase }, { on := 10, ground := Go.Ground.phase }, { on := 11, ground := Go.Ground.phase }, { on := 12, ground := Go.Ground.phase }, { on := 13, ground := Go.Ground.phase }, { on := 14, ground := Go.Ground.phase }, { on := 15, ground := Go.Ground.phase }, { on := 16, ground := Go.Ground.phase }, { on := 17, ground := Go.Ground.phase }, { on := 18, ground := Go.Ground.phase }, { on := 19, ground := Go.Ground.phase }, { on := 20, ground := Go.Ground.phase }, { on := 21, ground := Go.Ground.phase }, { on := 22, ground := Go.Ground.phase }, { on := 23, ground := Go.Ground.phase }, { on := 24, ground := Go.Ground.phase }, { on := 25, ground := Go.Ground.phase }, { on := 26, ground := Go.Ground.phase }], guard := none }) (v := ?v90) rfl (by kernel_rfl) (by kernel_rfl) (by kernel_rfl) (fun _ _ _ h => h) (Or.inl ⟨by rfl, ?hy90⟩) hSw89 ?r90
      case hy90 =>
       intro w' hSw
       have hq := hSw.1
       clear hSw
       go_simp
       with_reducible rfl
      try simp only [Act.put, List.setIfInBounds_toArray, List.set_cons_zero, List.set_cons_succ]
      refine wpAnyH_done (by kernel_rfl) ?_ _
      show R _ _
      rw [HR.out]
      simp only [Act.put, List.setIfInBounds_toArray, List.set_cons_zero, List.set_cons_succ]
      exact ⟨_, _, xa, xb, ⟨_, _, _, _, _, _, _, _, _, _, _, _, _, _, _, _, _, _, _, _, _, _, _, _, _, _, rfl⟩, hrgaw89, hrgbw89, ⟨hxa1, hxa2⟩, ⟨hxb1, hxb2⟩, hSw89⟩
     ·go_simp
      refine hK.out _ _ (held_alloc hSw86 _) (fun _ => ?_)
      clear hK K
      try simp only [Act.put, List.setIfInBounds_toArray, List.set_cons_zero, List.set_cons_succ]
      refine name_anyH ?_
      intro w91 hWw91
      have hAw91 : Below w86.heap.size w86 w91 := by rw [hWw91]; exact (Below.refl _ _).alloc (Nat.le_refl _) _
      have hrgbw91 : w91.heap[w86.heap.size]? = some (.cells #[I p2, I z2, I xb] 3 (0, 0)) := by rw [hWw91]; exact heap_at _ _ rfl
      have hSw91 : Held w7 w91 := by rw [hWw91]; exact held_alloc hSw86 _
      clear hWw91
      refine wpAnyH_ready (rs := [12]) (by kernel_rfl) (by simp) ?_
      refine AllReadyH.cons rfl (fun K hK => ?_) AllReadyH.nil
      go_simp
      refine hK.out _ _ (held_alloc hSw91 _) (fun _ => ?_)
      clear hK K
      try simp only [Act.put, List.setIfInBounds_toArray, List.set_cons_zero, List.set_cons_succ]
      refine name_anyH ?_
      intro w92 hWw92
      have hAw92 : Below w91.heap.size w91 w92 := by rw [hWw92]; exact (Below.refl _ _).alloc (Nat.le_refl _) _
      have hrgaw92 : w92.heap[w91.heap.size]? = some (.cells #[I p1, I z1, I xa] 3 (0, 0)) := by rw [hWw92]; exact heap_at _ _ rfl
      have hSw92 : Held w7 w92 := by rw [hWw92]; exact held_alloc hSw91 _
      have hrgbw92 := (hAw92.block _ (heap_lt hrgbw91)).trans hrgbw91
      clear hWw92
      refine wpAnyH_take (i := 26) (oi := { dst := some 11, op := Go.Op.assign (Go.Operand.tmp 113), type := 31, pos := "outright.go:166", after := #[{ on := 12, ground := Go.Ground.data }, { on := 24, ground := Go.Ground.chain }, { on := 0, ground := Go.Ground.phase }, { on := 1, ground := Go.Ground.phase }, { on := 2, ground := Go.Ground.phase }, { on := 3, ground := Go.Ground.phase }, { on := 4, ground := Go.Ground.phase }, { on := 5, ground := Go.Ground.phase }, { on := 6, ground := Go.Ground.phase }, { on := 7, ground := Go.Ground.phase }, { on := 8, ground := Go.Ground.phase }, { on := 9, ground := Go.Ground.phase }, { on := 10, ground := Go.Ground.phase }, { on := 11, ground := Go.Ground.phase }, { on := 12, ground := Go.Ground.phase }, { on := 13, ground := Go.Ground.textOnly Go.Departure.lateStores }, { on := 14, ground := Go.Ground.textOnly Go.Departure.lateStores }, { on := 15, ground := Go.Ground.textOnly Go.Departure.lateStores }, { on := 16, ground := Go.Ground.textOnly Go.Departure.lateStores }, { on := 17, ground := Go.Ground.textOnly Go.Departure.lateStores }, { on := 18, ground := Go.Ground.textOnly Go.Departure.lateStores }, { on := 19, ground := Go.Ground.textOnly Go.Departure.lateStores }, { on := 20, ground := Go.Ground.textOnly Go.Departure.lateStores }, { on := 21, ground := Go.Ground.textOnly Go.Departure.lateStores }, { on := 22, ground := Go.Ground.textOnly Go.Departure.lateStores }, { on := 23, ground := Go.Ground.textOnly Go.Departure.lateStores }, { on := 24, ground := Go.Ground.textOnly Go.Departure.lateStoresUnsure }, { on := 25, ground := Go.Ground.textOnly Go.Departure.lateStores }], guard := none }) (v := ?v93) rfl (by kernel_rfl) (by kernel_rfl) (by kernel_rfl) (fun _ _ _ h => h) (Or.inl ⟨by rfl, ?hy93⟩) hSw92 ?r93
      case hy93 =>
       intro w' hSw
       have hq := hSw.1
       clear hSw
       go_simp
       with_reducible rfl
      try simp only [Act.put, List.setIfInBounds_toArray, List.set_cons_zero, List.set_cons_succ]
      refine wpAnyH_take (i := 27) (oi := { dst := some 12, op := Go.Op.assign (Go.Operand.tmp 126), type := 31, pos := "outright.go:166", after := #[{ on := 25, ground := Go.Ground.data }, { on := 26, ground := Go.Ground.chain }, { on := 0, ground := Go.Ground.phase }, { on := 1, ground := Go.Ground.phase }, { on := 2, ground := Go.Ground.phase }, { on := 3, ground := Go.Ground.phase }, { on := 4, ground := Go.Ground.phase }, { on := 5, ground := Go.Ground.phase }, { on := 6, ground := Go.Ground.phase }, { on := 7, ground := Go.Ground.phase }, { on := 8, ground := Go.Ground.phase }, { on := 9, ground := Go.Ground.phase }, { on := 10, ground := Go.Ground.phase }, { on := 11, ground := Go.Ground.phase }, { on := 12, ground := Go.Ground.phase }, { on := 13, ground := Go.Ground.phase }, { on := 14, ground := Go.Ground.phase }, { on := 15, ground := Go.Ground.phase }, { on := 16, ground := Go.Ground.phase }, { on := 17, ground := Go.Ground.phase }, { on := 18, ground := Go.Ground.phase }, { on := 19, ground := Go.Ground.phase }, { on := 20, ground := Go.Ground.phase }, { on := 21, ground := Go.Ground.phase }, { on := 22, ground := Go.Ground.phase }, { on := 23, ground := Go.Ground.phase }, { on := 24, ground := Go.Ground.phase }, { on := 25, ground := Go.Ground.phase }, { on := 26, ground := Go.Ground.phase }], guard := none }) (v := ?v94) rfl (by kernel_rfl) (by kernel_rfl) (by kernel_rfl) (fun _ _ _ h => h) (Or.inl ⟨by rfl, ?hy94⟩) hSw92 ?r94
      case hy94 =>
       intro w' hSw
       have hq := hSw.1
       clear hSw
       go_simp
       with_reducible rfl
      try simp only [Act.put, List.setIfInBounds_toArray, List.set_cons_zero, List.set_cons_succ]
      refine wpAnyH_done (by kernel_rfl) ?_ _
      show R _ _
      rw [HR.out]
      simp only [Act.put, List.setIfInBounds_toArray, List.set_cons_zero, List.set_cons_succ]
      exact ⟨_, _, xa, xb, ⟨_, _, _, _, _, _, _, _, _, _, _, _, _, _, _, _, _, _, _, _, _, _, _, _, _, _, rfl⟩, hrgaw92, hrgbw92, ⟨hxa1, hxa2⟩, ⟨hxb1, hxb2⟩, hSw92⟩
  case rest10 =>
   intro a' w8 hra
   rw [HR.out] at hra
   clear HR
   obtain ⟨ga, gb, xa, xb, ⟨u101, u102, u103, u104, u105, u106, u107, u108, u109, u110, u111, u112, u113, u114, u115, u116, u117, u118, u119, u120, u121, u122, u123, u124, u125, u126, rfl⟩, rGA, rGB, hxa, hxb, hHE⟩ := hra
   subst hA
   try simp only [Act.put, List.setIfInBounds_toArray, List.set_cons_zero, List.set_cons_succ]

   clear qP0 qP1 qU0 qU1 qN2 qN3 qB0 qB1 qB2 qB3 qB4 qB5 qB6 qB7 qB8 qB9 qB10 qB11 qB12 qB13 HWA HWB ct0 ct1 dP dU
   have rB := (hHE.2.2.block _ (heap_lt RB7.out)).trans RB7.out
   have rP := (hHE.2.2.block _ (heap_lt RP7.out)).trans RP7.out
   have rU := (hHE.2.2.block _ (heap_lt RU7.out)).trans RU7.out
   have hb8 := HB7.out.trans (hHE.2.2.mono HB7.out.size)
   have HB8 := Lib.hid hb8
   have RB8 := Lib.hid rB
   have RP8 := Lib.hid rP
   have RU8 := Lib.hid rU
   have RGA := Lib.hid rGA
   have RGB := Lib.hid rGB
   clear hHE RB7 RP7 RU7 HB7 hb8 rB rP rU rGA rGB
   go_wp2_with fail
   go_loopw [13] (fun i wr => ∃ k : Nat, k ≤ 3 ∧ i = I k ∧ Below w8.heap.size w8 wr) (fun i _ => 3 - (intOf i).toNat)
   case atStart => exact ⟨0, by omega, rfl, Below.refl _ _⟩
   case round =>
    obtain ⟨k, hk, rfl, hB⟩ := hrel
    by_cases hlt : k < 3
    ·as_aux_lemma =>
      have hki : (k : Int) < 3 := by omega
      have hbr := HB8.out.trans (hB.mono HB8.out.size)
      have rB := (hB.block _ (heap_lt RB8.out)).trans RB8.out
      have rGA := (hB.block _ (heap_lt RGA.out)).trans RGA.out
      have rGB := (hB.block _ (heap_lt RGB.out)).trans RGB.out
      have rP := (hB.block _ (heap_lt RP8.out)).trans RP8.out
      have rU := (hB.block _ (heap_lt RU8.out)).trans RU8.out
      obtain ⟨a, ca, ha1, ha2, haP⟩ : ∃ a, wr.cell? ⟨ga, k, none⟩ = some (I a) ∧ tl ≤ a ∧ a ≤ th ∧ (k < 2 → Ld.possible (Ld.tideB b q a) = true) := by
       have hk3 : k = 0 ∨ k = 1 ∨ k = 2 := by omega
       rcases hk3 with rfl | rfl | rfl
       ·exact ⟨p1, cell_of_row wr _ 0 _ _ _ rGA, a1, by omega, fun _ => HP1.out⟩
       ·exact ⟨z1, cell_of_row wr _ 1 _ _ _ rGA, by omega, a2, fun _ => HP2.out⟩
       ·exact ⟨xa, cell_of_row wr _ 2 _ _ _ rGA, hxa.1, hxa.2, fun h => absurd h (by omega)⟩
      obtain ⟨c, cc, hc1, hc2, hcP⟩ : ∃ a, wr.cell? ⟨gb, k, none⟩ = some (I a) ∧ fl ≤ a ∧ a ≤ fh ∧ (k < 2 → Ld.possible (Ld.floorB b m a) = true) := by
       have hk3 : k = 0 ∨ k = 1 ∨ k = 2 := by omega
       rcases hk3 with rfl | rfl | rfl
       ·exact ⟨p2, cell_of_row wr _ 0 _ _ _ rGB, a4, by omega, fun _ => HP3.out⟩
       ·exact ⟨z2, cell_of_row wr _ 1 _ _ _ rGB, by omega, a5, fun _ => HP4.out⟩
       ·exact ⟨xb, cell_of_row wr _ 2 _ _ _ rGB, hxb.1, hxb.2, fun h => absurd h (by omega)⟩
      have hOa := HO1.out a ha1 ha2
      have hOc := HO2.out c hc1 hc2
      have hVa := Ld.tideB_valid (q := q) HVAL.out (show -40 ≤ a by omega) (show a ≤ 80 by omega)
      have hVc := Ld.floorB_valid (m := m) HVAL.out (show -40 ≤ c by omega) (show c ≤ 80 by omega)
      obtain ⟨is, his⟩ : ∃ x : Bool, Ld.possible (Ld.tideB b q a) = x := ⟨_, rfl⟩
      obtain ⟨so, hso⟩ : ∃ x : Bool, Ld.possible (Ld.floorB b m c) = x := ⟨_, rfl⟩
      have HT := Lib.hid (show ∀ W', Below w.heap.size w W' → Calls Try.prog 32 #[vBk (.slice (some ⟨bl, off, none⟩) b.tides.length k0) (.slice A1 b.sounds.length k1) b, I q, I a] W' fun e w' => (∃ T', e = .returned (vBk T' (.slice A1 b.sounds.length k1) b) ∧ RB w' w'.heap.size (Ld.tideB b q a) T' (.slice A1 b.sounds.length k1)) ∧ Below W'.heap.size W' w' from fun W' h => (tide_any b _ _ q a W' (HRB.out W' h) hq1 (by have := HSZ.out; omega)).mono fun e w' hp => ⟨⟨hp.1.choose, hp.1.choose_spec.1, ((HRB.out w' (h.trans (hp.2.mono h.size))).tideB q a hp.1.choose_spec.2)⟩, hp.2⟩)
      have HTR := Lib.hid (show ∀ W' T', RB W' W'.heap.size (Ld.tideB b q a) T' (.slice A1 b.sounds.length k1) → Calls Try.prog 17 #[vBk T' (.slice A1 b.sounds.length k1) b] W' fun e w' => e = .returned (.tuple #[.bool is, I 0]) ∧ Below W'.heap.size W' w' from fun W' T' h => by have := rightV_any (Ld.tideB b q a) T' _ W' h hVa; rw [his] at this; exact this)
      have HF := Lib.hid (show ∀ W', Below w.heap.size w W' → Calls Try.prog 33 #[vBk (.slice (some ⟨bl, off, none⟩) b.tides.length k0) (.slice A1 b.sounds.length k1) b, I m, I c] W' fun e w' => e = .returned (vBk (.slice (some ⟨bl, off, none⟩) b.tides.length k0) (.slice A1 b.sounds.length k1) (Ld.floorB b m c)) ∧ Below W'.heap.size W' w' from fun W' h => floorBk_any b _ _ m hm1 c W' (HRB.out W' h))
      have HFR := Lib.hid (show ∀ W', Below w.heap.size w W' → Calls Try.prog 17 #[vBk (.slice (some ⟨bl, off, none⟩) b.tides.length k0) (.slice A1 b.sounds.length k1) (Ld.floorB b m c)] W' fun e w' => e = .returned (.tuple #[.bool so, I 0]) ∧ Below W'.heap.size W' w' from fun W' h => by have := rightV_any (Ld.floorB b m c) _ _ W' ((HRB.out W' h).floorB m c) hVc; rw [hso] at this; exact this)
      have HBR := Lib.hid hB
      have HBr := Lib.hid hbr
      rw [his] at haP hOa
      rw [hso] at hcP hOc
      have HAP := Lib.hid haP
      have HCP := Lib.hid hcP
      have HOA := Lib.hid hOa
      have HOC := Lib.hid hOc
      clear haP hcP hOa hOc hVa hVc his hso hB hbr rGA rGB
      have hgaw : ga < wr.heap.size := Nat.lt_of_lt_of_le (heap_lt RGA.out) HBR.out.size
      have hgbw : gb < wr.heap.size := Nat.lt_of_lt_of_le (heap_lt RGB.out) HBR.out.size
      have RBr := Lib.hid rB
      have RPr := Lib.hid rP
      have RUr := Lib.hid rU
      have hk00 : (0 : Int) ≤ k := Int.natCast_nonneg _
      clear rB rP rU
      go_wp2_with fail

      refine name_act ?_
      intro A hA
      obtain ⟨R, hR⟩ : ∃ R : Act → World → Prop, R = fun a' w' => (∃ u132 u133 u134 u135 u136 u137 u138 u139 u131 u140 u141, a' = (((((((((((((A.put (some 132) u132).put (some 133) u133).put (some 134) u134).put (some 135) u135).put (some 136) u136).put (some 137) u137).put (some 138) u138).put (some 139) u139).put (some 131) u131).put (some 140) u140).put (some 141) u141).put (some 14) (.bool is)).put (some 15) (I 0))) ∧ Held wr w' := ⟨_, rfl⟩
      have HR := Lib.hid hR
      clear hR
      refine wp_between R ?first14 ?rest14
      case first14 =>
       as_aux_lemma =>
        subst hA
        refine wp_region_held_drew (S := fun w' => Held wr w') (by kernel_rfl) (held_start wr) (fun _ => ?_)
        refine wpAnyH_take (i := 0) (oi := { dst := some 132, op := Go.Op.load 30 (Go.Operand.tmp 2), type := 30, pos := "outright.go:168", after := #[], guard := none }) (v := (vBk (.slice (some ⟨bl, off, none⟩) b.tides.length k0) (.slice A1 b.sounds.length k1) b)) rfl (by kernel_rfl) (by kernel_rfl) (by kernel_rfl) (fun _ _ _ h => h) (Or.inl ⟨by rfl, ?hy95⟩) (held_start wr) ?r95
        case hy95 =>
         intro w' hSw
         exact exec_load_row (by rfl) (by rfl) ((hSw.2.2.block _ (heap_lt RBr.out)).trans RBr.out) Try.underlying30 rfl infoBk14
        try simp only [Act.put, List.setIfInBounds_toArray, List.set_cons_zero, List.set_cons_succ]
        refine wpAnyH_take (i := 1) (oi := { dst := some 133, op := Go.Op.move (Go.Operand.tmp 5), type := 3, pos := "outright.go:168", after := #[], guard := none }) (v := ?v96) rfl (by kernel_rfl) (by kernel_rfl) (by kernel_rfl) (fun _ _ _ h => h) (Or.inl ⟨by rfl, ?hy96⟩) (held_start wr) ?r96
        case hy96 =>
         intro w' hSw
         have hq := hSw.1
         clear hSw
         go_simp
         with_reducible rfl
        try simp only [Act.put, List.setIfInBounds_toArray, List.set_cons_zero, List.set_cons_succ]
        refine wpAnyH_take (i := 2) (oi := { dst := some 134, op := Go.Op.move (Go.Operand.tmp 11), type := 31, pos := "outright.go:168", after := #[], guard := none }) (v := ?v97) rfl (by kernel_rfl) (by kernel_rfl) (by kernel_rfl) (fun _ _ _ h => h) (Or.inl ⟨by rfl, ?hy97⟩) (held_start wr) ?r97
        case hy97 =>
         intro w' hSw
         have hq := hSw.1
         clear hSw
         go_simp
         with_reducible rfl
        try simp only [Act.put, List.setIfInBounds_toArray, List.set_cons_zero, List.set_cons_succ]
        refine wpAnyH_take (i := 3) (oi := { dst := some 135, op := Go.Op.move (Go.Operand.tmp 13), type := 3, pos := "outright.go:168", after := #[], guard := none }) (v := ?v98) rfl (by kernel_rfl) (by kernel_rfl) (by kernel_rfl) (fun _ _ _ h => h) (Or.inl ⟨by rfl, ?hy98⟩) (held_start wr) ?r98
        case hy98 =>
         intro w' hSw
         have hq := hSw.1
         clear hSw
         go_simp
         with_reducible rfl
        try simp only [Act.put, List.setIfInBounds_toArray, List.set_cons_zero, List.set_cons_succ]
        refine wpAnyH_take (i := 4) (oi := { dst := some 136, op := Go.Op.indexAddr 31 (Go.Operand.tmp 134) (Go.Operand.tmp 135), type := 0, pos := "outright.go:168", after := #[{ on := 2, ground := Go.Ground.data }, { on := 3, ground := Go.Ground.data }], guard := none }) (v := ?v99) rfl (by kernel_rfl) (by kernel_rfl) (by kernel_rfl) (fun _ _ _ h => h) (Or.inl ⟨by rfl, ?hy99⟩) (held_start wr) ?r99
        case hy99 =>
         intro w' hSw
         have hq := hSw.1
         clear hSw
         go_simp
         with_reducible rfl
        try simp only [Act.put, List.setIfInBounds_toArray, List.set_cons_zero, List.set_cons_succ]
        refine wpAnyH_take (i := 5) (oi := { dst := some 137, op := Go.Op.load 3 (Go.Operand.tmp 136), type := 3, pos := "outright.go:168", after := #[{ on := 4, ground := Go.Ground.data }], guard := none }) (v := ?v100) rfl (by kernel_rfl) (by kernel_rfl) (by kernel_rfl) (fun _ _ _ h => h) (Or.inl ⟨by rfl, ?hy100⟩) (held_start wr) ?r100
        case hy100 =>
         intro w' hSw
         have hq := hSw.1
         clear hSw
         go_simp
         with_reducible rfl
        try simp only [Act.put, List.setIfInBounds_toArray, List.set_cons_zero, List.set_cons_succ]
        refine wpAnyH_ready (rs := [6]) (by kernel_rfl) (by simp) ?_
        refine AllReadyH.cons rfl (fun K hK => ?_) AllReadyH.nil
        go_simp
        refine (HT.out _ (HBr.out.trans ((held_start wr).2.2.mono HBr.out.size))).mono ?_
        rintro e w101 ⟨⟨T', rfl, hRT⟩, hBw101⟩
        have hSw101 := held_step hBw101 (held_start wr)
        refine hK.out _ _ hSw101 (fun _ => ?_)
        clear hK K
        try simp only [Act.put, List.setIfInBounds_toArray, List.set_cons_zero, List.set_cons_succ]
        refine wpAnyH_ready (rs := [7]) (by kernel_rfl) (by simp) ?_
        refine AllReadyH.cons rfl (fun K hK => ?_) AllReadyH.nil
        go_simp
        refine (HTR.out _ _ hRT).mono ?_
        rintro e w102 ⟨rfl, hBw102⟩
        have hSw102 := held_step hBw102 hSw101
        refine hK.out _ _ hSw102 (fun _ => ?_)
        clear hK K
        try simp only [Act.put, List.setIfInBounds_toArray, List.set_cons_zero, List.set_cons_succ]
        refine wpAnyH_take (i := 8) (oi := { dst := some 131, op := Go.Op.move (Go.Operand.tmp 139), type := 42, pos := "outright.go:168", after := #[{ on := 7, ground := Go.Ground.data }], guard := none }) (v := ?v103) rfl (by kernel_rfl) (by kernel_rfl) (by kernel_rfl) (fun _ _ _ h => h) (Or.inl ⟨by rfl, ?hy103⟩) hSw102 ?r103
        case hy103 =>
         intro w' hSw
         have hq := hSw.1
         clear hSw
         go_simp
         with_reducible rfl
        try simp only [Act.put, List.setIfInBounds_toArray, List.set_cons_zero, List.set_cons_succ]
        refine wpAnyH_take (i := 9) (oi := { dst := some 140, op := Go.Op.extract (Go.Operand.tmp 131) 0, type := 4, pos := "outright.go:168", after := #[{ on := 8, ground := Go.Ground.data }], guard := none }) (v := ?v104) rfl (by kernel_rfl) (by kernel_rfl) (by kernel_rfl) (fun _ _ _ h => h) (Or.inl ⟨by rfl, ?hy104⟩) hSw102 ?r104
        case hy104 =>
         intro w' hSw
         have hq := hSw.1
         clear hSw
         go_simp
         with_reducible rfl
        try simp only [Act.put, List.setIfInBounds_toArray, List.set_cons_zero, List.set_cons_succ]
        refine wpAnyH_take (i := 10) (oi := { dst := some 141, op := Go.Op.extract (Go.Operand.tmp 131) 1, type := 41, pos := "outright.go:168", after := #[{ on := 8, ground := Go.Ground.data }, { on := 11, ground := Go.Ground.gcOnly Go.Departure.lateStores }], guard := none }) (v := ?v105) rfl (by kernel_rfl) (by kernel_rfl) (by kernel_rfl) (fun _ _ _ h => h) (Or.inl ⟨by rfl, ?hy105⟩) hSw102 ?r105
        case hy105 =>
         intro w' hSw
         have hq := hSw.1
         clear hSw
         go_simp
         with_reducible rfl
        try simp only [Act.put, List.setIfInBounds_toArray, List.set_cons_zero, List.set_cons_succ]
        refine wpAnyH_take (i := 11) (oi := { dst := some 14, op := Go.Op.assign (Go.Operand.tmp 140), type := 4, pos := "outright.go:168", after := #[{ on := 9, ground := Go.Ground.data }, { on := 7, ground := Go.Ground.chain }, { on := 0, ground := Go.Ground.phase }, { on := 1, ground := Go.Ground.phase }, { on := 2, ground := Go.Ground.phase }, { on := 3, ground := Go.Ground.phase }, { on := 4, ground := Go.Ground.phase }, { on := 5, ground := Go.Ground.phase }, { on := 6, ground := Go.Ground.phase }, { on := 7, ground := Go.Ground.phase }, { on := 8, ground := Go.Ground.phase }, { on := 9, ground := Go.Ground.phase }, { on := 10, ground := Go.Ground.textOnly Go.Departure.lateStores }], guard := none }) (v := ?v106) rfl (by kernel_rfl) (by kernel_rfl) (by kernel_rfl) (fun _ _ _ h => h) (Or.inl ⟨by rfl, ?hy106⟩) hSw102 ?r106
        case hy106 =>
         intro w' hSw
         have hq := hSw.1
         clear hSw
         go_simp
         with_reducible rfl
        try simp only [Act.put, List.setIfInBounds_toArray, List.set_cons_zero, List.set_cons_succ]
        refine wpAnyH_take (i := 12) (oi := { dst := some 15, op := Go.Op.assign (Go.Operand.tmp 141), type := 41, pos := "outright.go:168", after := #[{ on := 10, ground := Go.Ground.data }, { on := 11, ground := Go.Ground.chain }, { on := 0, ground := Go.Ground.phase }, { on := 1, ground := Go.Ground.phase }, { on := 2, ground := Go.Ground.phase }, { on := 3, ground := Go.Ground.phase }, { on := 4, ground := Go.Ground.phase }, { on := 5, ground := Go.Ground.phase }, { on := 6, ground := Go.Ground.phase }, { on := 7, ground := Go.Ground.phase }, { on := 8, ground := Go.Ground.phase }, { on := 9, ground := Go.Ground.phase }, { on := 10, ground := Go.Ground.phase }, { on := 11, ground := Go.Ground.phase }], guard := none }) (v := ?v107) rfl (by kernel_rfl) (by kernel_rfl) (by kernel_rfl) (fun _ _ _ h => h) (Or.inl ⟨by rfl, ?hy107⟩) hSw102 ?r107
        case hy107 =>
         intro w' hSw
         have hq := hSw.1
         clear hSw
         go_simp
         with_reducible rfl
        try simp only [Act.put, List.setIfInBounds_toArray, List.set_cons_zero, List.set_cons_succ]
        refine wpAnyH_done (by kernel_rfl) ?_ _
        show R _ _
        rw [HR.out]
        simp only [Act.put, List.setIfInBounds_toArray, List.set_cons_zero, List.set_cons_succ]
        exact ⟨⟨_, _, _, _, _, _, _, _, _, _, _, rfl⟩, hSw102⟩
      case rest14 =>
       intro a' w10 hra
       rw [HR.out] at hra
       clear HR
       obtain ⟨⟨u132, u133, u134, u135, u136, u137, u138, u139, u131, u140, u141, rfl⟩, hHE⟩ := hra
       subst hA
       try simp only [Act.put, List.setIfInBounds_toArray, List.set_cons_zero, List.set_cons_succ]

       have RBx := Lib.hid ((hHE.2.2.block _ (heap_lt RBr.out)).trans RBr.out)
       have RPx := Lib.hid ((hHE.2.2.block _ (heap_lt RPr.out)).trans RPr.out)
       have RUx := Lib.hid ((hHE.2.2.block _ (heap_lt RUr.out)).trans RUr.out)
       have ca2 := (hHE.2.2.cell (p := ⟨ga, k, none⟩) hgaw).trans ca
       have cc2 := (hHE.2.2.cell (p := ⟨gb, k, none⟩) hgbw).trans cc
       have HBx := Lib.hid (HBr.out.trans (hHE.2.2.mono HBr.out.size))
       have HBy := Lib.hid (HBR.out.trans (hHE.2.2.mono HBR.out.size))
       have hga2 : ga < w10.heap.size := Nat.lt_of_lt_of_le hgaw hHE.2.2.size
       have hgb2 : gb < w10.heap.size := Nat.lt_of_lt_of_le hgbw hHE.2.2.size
       clear hHE ca cc hgaw hgbw RBr RPr RUr HBr HBR HT HTR
       go_wp2_with fail

       refine name_act ?_
       intro A hA
       obtain ⟨R, hR⟩ : ∃ R : Act → World → Prop, R = fun a' w' => (∃ u143 u144 u145 u146 u147 u148 u149 u150 u142 u151 u152, a' = (((((((((((((A.put (some 143) u143).put (some 144) u144).put (some 145) u145).put (some 146) u146).put (some 147) u147).put (some 148) u148).put (some 149) u149).put (some 150) u150).put (some 142) u142).put (some 151) u151).put (some 152) u152).put (some 16) (.bool so)).put (some 17) (I 0))) ∧ Held w10 w' := ⟨_, rfl⟩
       have HR := Lib.hid hR
       clear hR
       refine wp_between R ?first15 ?rest15
       case first15 =>
        as_aux_lemma =>
         subst hA
         refine wp_region_held_drew (S := fun w' => Held w10 w') (by kernel_rfl) (held_start w10) (fun _ => ?_)
         refine wpAnyH_take (i := 0) (oi := { dst := some 143, op := Go.Op.load 30 (Go.Operand.tmp 2), type := 30, pos := "outright.go:169", after := #[], guard := none }) (v := (vBk (.slice (some ⟨bl, off, none⟩) b.tides.length k0) (.slice A1 b.sounds.length k1) b)) rfl (by kernel_rfl) (by kernel_rfl) (by kernel_rfl) (fun _ _ _ h => h) (Or.inl ⟨by rfl, ?hy108⟩) (held_start w10) ?r108
         case hy108 =>
          intro w' hSw
          exact exec_load_row (by rfl) (by rfl) ((hSw.2.2.block _ (heap_lt RBx.out)).trans RBx.out) Try.underlying30 rfl infoBk14
         try simp only [Act.put, List.setIfInBounds_toArray, List.set_cons_zero, List.set_cons_succ]
         refine wpAnyH_take (i := 1) (oi := { dst := some 144, op := Go.Op.move (Go.Operand.tmp 6), type := 3, pos := "outright.go:169", after := #[], guard := none }) (v := ?v109) rfl (by kernel_rfl) (by kernel_rfl) (by kernel_rfl) (fun _ _ _ h => h) (Or.inl ⟨by rfl, ?hy109⟩) (held_start w10) ?r109
         case hy109 =>
          intro w' hSw
          have hq := hSw.1
          clear hSw
          go_simp
          with_reducible rfl
         try simp only [Act.put, List.setIfInBounds_toArray, List.set_cons_zero, List.set_cons_succ]
         refine wpAnyH_take (i := 2) (oi := { dst := some 145, op := Go.Op.move (Go.Operand.tmp 12), type := 31, pos := "outright.go:169", after := #[], guard := none }) (v := ?v110) rfl (by kernel_rfl) (by kernel_rfl) (by kernel_rfl) (fun _ _ _ h => h) (Or.inl ⟨by rfl, ?hy110⟩) (held_start w10) ?r110
         case hy110 =>
          intro w' hSw
          have hq := hSw.1
          clear hSw
          go_simp
          with_reducible rfl
         try simp only [Act.put, List.setIfInBounds_toArray, List.set_cons_zero, List.set_cons_succ]
         refine wpAnyH_take (i := 3) (oi := { dst := some 146, op := Go.Op.move (Go.Operand.tmp 13), type := 3, pos := "outright.go:169", after := #[], guard := none }) (v := ?v111) rfl (by kernel_rfl) (by kernel_rfl) (by kernel_rfl) (fun _ _ _ h => h) (Or.inl ⟨by rfl, ?hy111⟩) (held_start w10) ?r111
         case hy111 =>
          intro w' hSw
          have hq := hSw.1
          clear hSw
          go_simp
          with_reducible rfl
         try simp only [Act.put, List.setIfInBounds_toArray, List.set_cons_zero, List.set_cons_succ]
         refine wpAnyH_take (i := 4) (oi := { dst := some 147, op := Go.Op.indexAddr 31 (Go.Operand.tmp 145) (Go.Operand.tmp 146), type := 0, pos := "outright.go:169", after := #[{ on := 2, ground := Go.Ground.data }, { on := 3, ground := Go.Ground.data }], guard := none }) (v := ?v112) rfl (by kernel_rfl) (by kernel_rfl) (by kernel_rfl) (fun _ _ _ h => h) (Or.inl ⟨by rfl, ?hy112⟩) (held_start w10) ?r112
         case hy112 =>
          intro w' hSw
          have hq := hSw.1
          clear hSw
          go_simp
          with_reducible rfl
         try simp only [Act.put, List.setIfInBounds_toArray, List.set_cons_zero, List.set_cons_succ]
         refine wpAnyH_take (i := 5) (oi := { dst := some 148, op := Go.Op.load 3 (Go.Operand.tmp 147), type := 3, pos := "outright.go:169", after := #[{ on := 4, ground := Go.Ground.data }], guard := none }) (v := ?v113) rfl (by kernel_rfl) (by kernel_rfl) (by kernel_rfl) (fun _ _ _ h => h) (Or.inl ⟨by rfl, ?hy113⟩) (held_start w10) ?r113
         case hy113 =>
          intro w' hSw
          have hq := hSw.1
          clear hSw
          go_simp
          with_reducible rfl
         try simp only [Act.put, List.setIfInBounds_toArray, List.set_cons_zero, List.set_cons_succ]
         refine wpAnyH_ready (rs := [6]) (by kernel_rfl) (by simp) ?_
         refine AllReadyH.cons rfl (fun K hK => ?_) AllReadyH.nil
         go_simp
         refine (HF.out _ (HBx.out.trans ((held_start w10).2.2.mono HBx.out.size))).mono ?_
         rintro e w114 ⟨rfl, hBw114⟩
         have hSw114 := held_step hBw114 (held_start w10)
         refine hK.out _ _ hSw114 (fun _ => ?_)
         clear hK K
         try simp only [Act.put, List.setIfInBounds_toArray, List.set_cons_zero, List.set_cons_succ]
         refine wpAnyH_ready (rs := [7]) (by kernel_rfl) (by simp) ?_
         refine AllReadyH.cons rfl (fun K hK => ?_) AllReadyH.nil
         go_simp
         refine (HFR.out _ (HBx.out.trans (hSw114.2.2.mono HBx.out.size))).mono ?_
         rintro e w115 ⟨rfl, hBw115⟩
         have hSw115 := held_step hBw115 hSw114
         refine hK.out _ _ hSw115 (fun _ => ?_)
         clear hK K
         try simp only [Act.put, List.setIfInBounds_toArray, List.set_cons_zero, List.set_cons_succ]
         refine wpAnyH_take (i := 8) (oi := { dst := some 142, op := Go.Op.move (Go.Operand.tmp 150), type := 42, pos := "outright.go:169", after := #[{ on := 7, ground := Go.Ground.data }], guard := none }) (v := ?v116) rfl (by kernel_rfl) (by kernel_rfl) (by kernel_rfl) (fun _ _ _ h => h) (Or.inl ⟨by rfl, ?hy116⟩) hSw115 ?r116
         case hy116 =>
          intro w' hSw
          have hq := hSw.1
          clear hSw
          go_simp
          with_reducible rfl
         try simp only [Act.put, List.setIfInBounds_toArray, List.set_cons_zero, List.set_cons_succ]
         refine wpAnyH_take (i := 9) (oi := { dst := some 151, op := Go.Op.extract (Go.Operand.tmp 142) 0, type := 4, pos := "outright.go:169", after := #[{ on := 8, ground := Go.Ground.data }], guard := none }) (v := ?v117) rfl (by kernel_rfl) (by kernel_rfl) (by kernel_rfl) (fun _ _ _ h => h) (Or.inl ⟨by rfl, ?hy117⟩) hSw115 ?r117
         case hy117 =>
          intro w' hSw
          have hq := hSw.1
          clear hSw
          go_simp
          with_reducible rfl
         try simp only [Act.put, List.setIfInBounds_toArray, List.set_cons_zero, List.set_cons_succ]
         refine wpAnyH_take (i := 10) (oi := { dst := some 152, op := Go.Op.extract (Go.Operand.tmp 142) 1, type := 41, pos := "outright.go:169", after := #[{ on := 8, ground := Go.Ground.data }, { on := 11, ground := Go.Ground.gcOnly Go.Departure.lateStores }], guard := none }) (v := ?v118) rfl (by kernel_rfl) (by kernel_rfl) (by kernel_rfl) (fun _ _ _ h => h) (Or.inl ⟨by rfl, ?hy118⟩) hSw115 ?r118
         case hy118 =>
          intro w' hSw
          have hq := hSw.1
          clear hSw
          go_simp
          with_reducible rfl
         try simp only [Act.put, List.setIfInBounds_toArray, List.set_cons_zero, List.set_cons_succ]
         refine wpAnyH_take (i := 11) (oi := { dst := some 16, op := Go.Op.assign (Go.Operand.tmp 151), type := 4, pos := "outright.go:169", after := #[{ on := 9, ground := Go.Ground.data }, { on := 7, ground := Go.Ground.chain }, { on := 0, ground := Go.Ground.phase }, { on := 1, ground := Go.Ground.phase }, { on := 2, ground := Go.Ground.phase }, { on := 3, ground := Go.Ground.phase }, { on := 4, ground := Go.Ground.phase }, { on := 5, ground := Go.Ground.phase }, { on := 6, ground := Go.Ground.phase }, { on := 7, ground := Go.Ground.phase }, { on := 8, ground := Go.Ground.phase }, { on := 9, ground := Go.Ground.phase }, { on := 10, ground := Go.Ground.textOnly Go.Departure.lateStores }], guard := none }) (v := ?v119) rfl (by kernel_rfl) (by kernel_rfl) (by kernel_rfl) (fun _ _ _ h => h) (Or.inl ⟨by rfl, ?hy119⟩) hSw115 ?r119
         case hy119 =>
          intro w' hSw
          have hq := hSw.1
          clear hSw
          go_simp
          with_reducible rfl
         try simp only [Act.put, List.setIfInBounds_toArray, List.set_cons_zero, List.set_cons_succ]
         refine wpAnyH_take (i := 12) (oi := { dst := some 17, op := Go.Op.assign (Go.Operand.tmp 152), type := 41, pos := "outright.go:169", after := #[{ on := 10, ground := Go.Ground.data }, { on := 11, ground := Go.Ground.chain }, { on := 0, ground := Go.Ground.phase }, { on := 1, ground := Go.Ground.phase }, { on := 2, ground := Go.Ground.phase }, { on := 3, ground := Go.Ground.phase }, { on := 4, ground := Go.Ground.phase }, { on := 5, ground := Go.Ground.phase }, { on := 6, ground := Go.Ground.phase }, { on := 7, ground := Go.Ground.phase }, { on := 8, ground := Go.Ground.phase }, { on := 9, ground := Go.Ground.phase }, { on := 10, ground := Go.Ground.phase }, { on := 11, ground := Go.Ground.phase }], guard := none }) (v := ?v120) rfl (by kernel_rfl) (by kernel_rfl) (by kernel_rfl) (fun _ _ _ h => h) (Or.inl ⟨by rfl, ?hy120⟩) hSw115 ?r120
         case hy120 =>
          intro w' hSw
          have hq := hSw.1
          clear hSw
          go_simp
          with_reducible rfl
         try simp only [Act.put, List.setIfInBounds_toArray, List.set_cons_zero, List.set_cons_succ]
         refine wpAnyH_done (by kernel_rfl) ?_ _
         show R _ _
         rw [HR.out]
         simp only [Act.put, List.setIfInBounds_toArray, List.set_cons_zero, List.set_cons_succ]
         exact ⟨⟨_, _, _, _, _, _, _, _, _, _, _, rfl⟩, hSw115⟩
       case rest15 =>
        intro a' w11 hra
        rw [HR.out] at hra
        clear HR
        obtain ⟨⟨u143, u144, u145, u146, u147, u148, u149, u150, u142, u151, u152, rfl⟩, hHE⟩ := hra
        subst hA
        try simp only [Act.put, List.setIfInBounds_toArray, List.set_cons_zero, List.set_cons_succ]

        have rPz := (hHE.2.2.block _ (heap_lt RPx.out)).trans RPx.out
        have rUz := (hHE.2.2.block _ (heap_lt RUx.out)).trans RUx.out
        have ca := (hHE.2.2.cell (p := ⟨ga, k, none⟩) hga2).trans ca2
        have cc := (hHE.2.2.cell (p := ⟨gb, k, none⟩) hgb2).trans cc2
        have HBz := Lib.hid (HBy.out.trans (hHE.2.2.mono HBy.out.size))
        have hga3 : ga < w11.heap.size := Nat.lt_of_lt_of_le hga2 hHE.2.2.size
        have hgb3 : gb < w11.heap.size := Nat.lt_of_lt_of_le hgb2 hHE.2.2.size
        clear hHE ca2 cc2 hga2 hgb2 RBx RPx RUx HBx HBy HF HFR
        have qP0 := cell_of_row w11 _ 0 _ _ _ rPz
        have qP1 := cell_of_row w11 _ 1 _ _ _ rPz
        simp only [List.getElem?_toArray, List.getElem?_cons_zero, List.getElem?_cons_succ] at qP0 qP1
        have qU0 := cell_of_row w11 _ 0 _ _ _ rUz
        have qU1 := cell_of_row w11 _ 1 _ _ _ rUz
        simp only [List.getElem?_toArray, List.getElem?_cons_zero, List.getElem?_cons_succ] at qU0 qU1
        have lP := heap_lt rPz
        have lU := heap_lt rUz
        clear rPz rUz
        have HCA := Lib.hid (show is = true → ∀ W', Calls Try.prog 22 #[vSp ⟨p1, z1⟩, I a] W' fun e w' => e = .returned (.bool true) ∧ Below W'.heap.size W' w' from fun h W' => by have := containsSp_any ⟨p1, z1⟩ a W'; rw [show Ld.between a (Ld.Sp.mk p1 z1).lo (Ld.Sp.mk p1 z1).hi = true from HOA.out h] at this; exact this)
        have HCC := Lib.hid (show so = true → ∀ W', Calls Try.prog 22 #[vSp ⟨p2, z2⟩, I c] W' fun e w' => e = .returned (.bool true) ∧ Below W'.heap.size W' w' from fun h W' => by have := containsSp_any ⟨p2, z2⟩ c W'; rw [show Ld.between c (Ld.Sp.mk p2 z2).lo (Ld.Sp.mk p2 z2).hi = true from HOC.out h] at this; exact this)
        clear HOA HOC
        go_wp2_with fail

        refine name_act ?_
        intro A hA
        obtain ⟨R, hR⟩ : ∃ R : Act → World → Prop, R = fun a' w' => (∃ u153 u154 u155 u156 u157 u158 u159 u160 u161 u162 u163 u164 u165 u166 u167 u168 u169 u170 u171 u172 u173 u174 u175 u176 u177 u178 u179 u180 u181 u182 u183 u184 u185 u186 u187 u188 u189 u190 u191 u192 u193, a' = ((((((((((((((((((((((((((((((((((((((((((A.put (some 153) u153).put (some 154) u154).put (some 155) u155).put (some 156) u156).put (some 157) u157).put (some 158) u158).put (some 159) u159).put (some 160) u160).put (some 161) u161).put (some 162) u162).put (some 163) u163).put (some 164) u164).put (some 165) u165).put (some 166) u166).put (some 167) u167).put (some 168) u168).put (some 169) u169).put (some 170) u170).put (some 171) u171).put (some 172) u172).put (some 173) u173).put (some 174) u174).put (some 175) u175).put (some 176) u176).put (some 177) u177).put (some 178) u178).put (some 179) u179).put (some 180) u180).put (some 181) u181).put (some 182) u182).put (some 183) u183).put (some 184) u184).put (some 185) u185).put (some 186) u186).put (some 187) u187).put (some 188) u188).put (some 189) u189).put (some 190) u190).put (some 191) u191).put (some 192) u192).put (some 193) u193).put (some 194) (.bool false))) ∧ Held w11 w' := ⟨_, rfl⟩
        have HR := Lib.hid hR
        clear hR
        refine wp_between R ?first16 ?rest16
        case first16 =>
         as_aux_lemma =>
          subst hA
          by_cases hk2 : k < 2
          ·obtain rfl := HAP.out hk2
           obtain rfl := HCP.out hk2
           have hk2i : (k : Int) < 2 := by omega
           have hk2d : decide ((k : Int) < 2) = true := decide_eq_true hk2i
           refine wp_region_held_drew (S := fun w' => Held w11 w') (by kernel_rfl) (held_start w11) (fun _ => ?_)
           refine wpAnyH_take (i := 0) (oi := { dst := some 153, op := Go.Op.move (Go.Operand.tmp 15), type := 41, pos := "outright.go:170", after := #[], guard := none }) (v := ?v121) rfl (by kernel_rfl) (by kernel_rfl) (by kernel_rfl) (fun _ _ _ h => h) (Or.inl ⟨by rfl, ?hy121⟩) (held_start w11) ?r121
           case hy121 =>
            intro w' hSw
            have hq := hSw.1
            clear hSw
            go_simp
            with_reducible rfl
           try simp only [Act.put, List.setIfInBounds_toArray, List.set_cons_zero, List.set_cons_succ]
           refine wpAnyH_take (i := 1) (oi := { dst := some 154, op := Go.Op.binOp Go.BinOp.neq 41 (Go.Operand.tmp 153) (Go.Operand.const (Go.Value.int Go.IntKind.i64 0)) 41, type := 4, pos := "outright.go:170", after := #[{ on := 0, ground := Go.Ground.data }], guard := none }) (v := ?v122) rfl (by kernel_rfl) (by kernel_rfl) (by kernel_rfl) (fun _ _ _ h => h) (Or.inl ⟨by rfl, ?hy122⟩) (held_start w11) ?r122
           case hy122 =>
            intro w' hSw
            have hq := hSw.1
            clear hSw
            go_simp
            with_reducible rfl
           try simp only [Act.put, List.setIfInBounds_toArray, List.set_cons_zero, List.set_cons_succ]
           refine wpAnyH_take (i := 2) (oi := { dst := some 155, op := Go.Op.move (Go.Operand.tmp 154), type := 4, pos := "outright.go:170", after := #[{ on := 1, ground := Go.Ground.data }], guard := none }) (v := ?v123) rfl (by kernel_rfl) (by kernel_rfl) (by kernel_rfl) (fun _ _ _ h => h) (Or.inl ⟨by rfl, ?hy123⟩) (held_start w11) ?r123
           case hy123 =>
            intro w' hSw
            have hq := hSw.1
            clear hSw
            go_simp
            with_reducible rfl
           try simp only [Act.put, List.setIfInBounds_toArray, List.set_cons_zero, List.set_cons_succ]
           refine wpAnyH_take (i := 3) (oi := { dst := some 156, op := Go.Op.move (Go.Operand.tmp 17), type := 41, pos := "outright.go:170", after := #[{ on := 2, ground := Go.Ground.guard }], guard := some (2, false) }) (v := ?v124) rfl (by kernel_rfl) (by kernel_rfl) (by kernel_rfl) (fun _ _ _ h => h) (Or.inl ⟨by rfl, ?hy124⟩) (held_start w11) ?r124
           case hy124 =>
            intro w' hSw
            have hq := hSw.1
            clear hSw
            go_simp
            with_reducible rfl
           try simp only [Act.put, List.setIfInBounds_toArray, List.set_cons_zero, List.set_cons_succ]
           refine wpAnyH_take (i := 4) (oi := { dst := some 157, op := Go.Op.binOp Go.BinOp.neq 41 (Go.Operand.tmp 156) (Go.Operand.const (Go.Value.int Go.IntKind.i64 0)) 41, type := 4, pos := "outright.go:170", after := #[{ on := 3, ground := Go.Ground.data }, { on := 2, ground := Go.Ground.guard }], guard := some (2, false) }) (v := ?v125) rfl (by kernel_rfl) (by kernel_rfl) (by kernel_rfl) (fun _ _ _ h => h) (Or.inl ⟨by rfl, ?hy125⟩) (held_start w11) ?r125
           case hy125 =>
            intro w' hSw
            have hq := hSw.1
            clear hSw
            go_simp
            with_reducible rfl
           try simp only [Act.put, List.setIfInBounds_toArray, List.set_cons_zero, List.set_cons_succ]
           refine wpAnyH_take (i := 5) (oi := { dst := some 158, op := Go.Op.pick (Go.Operand.tmp 155) (Go.Operand.const (Go.Value.bool true)) (Go.Operand.tmp 157), type := 4, pos := "outright.go:170", after := #[{ on := 2, ground := Go.Ground.data }, { on := 4, ground := Go.Ground.data }], guard := none }) (v := ?v126) rfl (by kernel_rfl) (by kernel_rfl) (by kernel_rfl) (fun _ _ _ h => h) (Or.inl ⟨by rfl, ?hy126⟩) (held_start w11) ?r126
           case hy126 =>
            intro w' hSw
            have hq := hSw.1
            clear hSw
            go_simp
            with_reducible rfl
           try simp only [Act.put, List.setIfInBounds_toArray, List.set_cons_zero, List.set_cons_succ]
           refine wpAnyH_take (i := 6) (oi := { dst := some 159, op := Go.Op.move (Go.Operand.tmp 158), type := 4, pos := "outright.go:170", after := #[{ on := 5, ground := Go.Ground.data }, { on := 2, ground := Go.Ground.chain }], guard := none }) (v := ?v127) rfl (by kernel_rfl) (by kernel_rfl) (by kernel_rfl) (fun _ _ _ h => h) (Or.inl ⟨by rfl, ?hy127⟩) (held_start w11) ?r127
           case hy127 =>
            intro w' hSw
            have hq := hSw.1
            clear hSw
            go_simp
            with_reducible rfl
           try simp only [Act.put, List.setIfInBounds_toArray, List.set_cons_zero, List.set_cons_succ]
           refine wpAnyH_take (i := 7) (oi := { dst := some 160, op := Go.Op.move (Go.Operand.tmp 13), type := 3, pos := "outright.go:170", after := #[{ on := 6, ground := Go.Ground.guard }], guard := some (6, false) }) (v := ?v128) rfl (by kernel_rfl) (by kernel_rfl) (by kernel_rfl) (fun _ _ _ h => h) (Or.inl ⟨by rfl, ?hy128⟩) (held_start w11) ?r128
           case hy128 =>
            intro w' hSw
            have hq := hSw.1
            clear hSw
            go_simp
            with_reducible rfl
           try simp only [Act.put, List.setIfInBounds_toArray, List.set_cons_zero, List.set_cons_succ]
           refine wpAnyH_take (i := 8) (oi := { dst := some 161, op := Go.Op.binOp Go.BinOp.lss 3 (Go.Operand.tmp 160) (Go.Operand.const (Go.Value.int Go.IntKind.i64 2)) 3, type := 4, pos := "outright.go:170", after := #[{ on := 7, ground := Go.Ground.data }, { on := 6, ground := Go.Ground.guard }], guard := some (6, false) }) (v := ?v129) rfl (by kernel_rfl) (by kernel_rfl) (by kernel_rfl) (fun _ _ _ h => h) (Or.inl ⟨by rfl, ?hy129⟩) (held_start w11) ?r129
           case hy129 =>
            intro w' hSw
            have hq := hSw.1
            clear hSw
            go_simp
            with_reducible rfl
           try simp only [Act.put, List.setIfInBounds_toArray, List.set_cons_zero, List.set_cons_succ]
           refine wpAnyH_take (i := 9) (oi := { dst := some 162, op := Go.Op.move (Go.Operand.tmp 161), type := 4, pos := "outright.go:170", after := #[{ on := 8, ground := Go.Ground.data }, { on := 6, ground := Go.Ground.chain }, { on := 6, ground := Go.Ground.guard }], guard := some (6, false) }) (v := ?v130) rfl (by kernel_rfl) (by kernel_rfl) (by kernel_rfl) (fun _ _ _ h => h) (Or.inl ⟨by rfl, ?hy130⟩) (held_start w11) ?r130
           case hy130 =>
            intro w' hSw
            have hq := hSw.1
            clear hSw
            go_simp
            with_reducible rfl
           try simp only [Act.put, List.setIfInBounds_toArray, List.set_cons_zero, List.set_cons_succ]
           refine wpAnyH_take (i := 10) (oi := { dst := some 163, op := Go.Op.move (Go.Operand.tmp 14), type := 4, pos := "outright.go:170", after := #[{ on := 9, ground := Go.Ground.guard }], guard := some (9, true) }) (v := ?v131) rfl (by kernel_rfl) (by kernel_rfl) (by kernel_rfl) (fun _ _ _ h => h) (Or.inl ⟨by rfl, ?hy131⟩) (held_start w11) ?r131
           case hy131 =>
            intro w' hSw
            have hq := hSw.1
            clear hSw
            go_simp
            with_reducible rfl
           try simp only [Act.put, List.setIfInBounds_toArray, List.set_cons_zero, List.set_cons_succ]
           refine wpAnyH_take (i := 11) (oi := { dst := some 164, op := Go.Op.unOp Go.UnOp.not 4 (Go.Operand.tmp 163), type := 4, pos := "outright.go:170", after := #[{ on := 10, ground := Go.Ground.data }, { on := 9, ground := Go.Ground.guard }], guard := some (9, true) }) (v := ?v132) rfl (by kernel_rfl) (by kernel_rfl) (by kernel_rfl) (fun _ _ _ h => h) (Or.inl ⟨by rfl, ?hy132⟩) (held_start w11) ?r132
           case hy132 =>
            intro w' hSw
            have hq := hSw.1
            clear hSw
            go_simp
            with_reducible rfl
           try simp only [Act.put, List.setIfInBounds_toArray, List.set_cons_zero, List.set_cons_succ]
           refine wpAnyH_take (i := 12) (oi := { dst := some 165, op := Go.Op.move (Go.Operand.tmp 164), type := 4, pos := "outright.go:170", after := #[{ on := 11, ground := Go.Ground.data }, { on := 9, ground := Go.Ground.chain }, { on := 9, ground := Go.Ground.guard }], guard := some (9, true) }) (v := ?v133) rfl (by kernel_rfl) (by kernel_rfl) (by kernel_rfl) (fun _ _ _ h => h) (Or.inl ⟨by rfl, ?hy133⟩) (held_start w11) ?r133
           case hy133 =>
            intro w' hSw
            have hq := hSw.1
            clear hSw
            go_simp
            with_reducible rfl
           try simp only [Act.put, List.setIfInBounds_toArray, List.set_cons_zero, List.set_cons_succ]
           refine wpAnyH_take (i := 13) (oi := { dst := some 166, op := Go.Op.move (Go.Operand.tmp 16), type := 4, pos := "outright.go:170", after := #[{ on := 12, ground := Go.Ground.guard }], guard := some (12, false) }) (v := ?v134) rfl (by kernel_rfl) (by kernel_rfl) (by kernel_rfl) (fun _ _ _ h => h) (Or.inl ⟨by rfl, ?hy134⟩) (held_start w11) ?r134
           case hy134 =>
            intro w' hSw
            have hq := hSw.1
            clear hSw
            go_simp
            with_reducible rfl
           try simp only [Act.put, List.setIfInBounds_toArray, List.set_cons_zero, List.set_cons_succ]
           refine wpAnyH_take (i := 14) (oi := { dst := some 167, op := Go.Op.unOp Go.UnOp.not 4 (Go.Operand.tmp 166), type := 4, pos := "outright.go:170", after := #[{ on := 13, ground := Go.Ground.data }, { on := 12, ground := Go.Ground.guard }], guard := some (12, false) }) (v := ?v135) rfl (by kernel_rfl) (by kernel_rfl) (by kernel_rfl) (fun _ _ _ h => h) (Or.inl ⟨by rfl, ?hy135⟩) (held_start w11) ?r135
           case hy135 =>
            intro w' hSw
            have hq := hSw.1
            clear hSw
            go_simp
            with_reducible rfl
           try simp only [Act.put, List.setIfInBounds_toArray, List.set_cons_zero, List.set_cons_succ]
           refine wpAnyH_take (i := 15) (oi := { dst := some 168, op := Go.Op.pick (Go.Operand.tmp 165) (Go.Operand.const (Go.Value.bool true)) (Go.Operand.tmp 167), type := 4, pos := "outright.go:170", after := #[{ on := 12, ground := Go.Ground.data }, { on := 14, ground := Go.Ground.data }, { on := 9, ground := Go.Ground.guard }], guard := some (9, true) }) (v := ?v136) rfl (by kernel_rfl) (by kernel_rfl) (by kernel_rfl) (fun _ _ _ h => h) (Or.inl ⟨by rfl, ?hy136⟩) (held_start w11) ?r136
           case hy136 =>
            intro w' hSw
            have hq := hSw.1
            clear hSw
            go_simp
            with_reducible rfl
           try simp only [Act.put, List.setIfInBounds_toArray, List.set_cons_zero, List.set_cons_succ]
           refine wpAnyH_take (i := 16) (oi := { dst := some 169, op := Go.Op.pick (Go.Operand.tmp 162) (Go.Operand.tmp 168) (Go.Operand.const (Go.Value.bool false)), type := 4, pos := "outright.go:170", after := #[{ on := 9, ground := Go.Ground.data }, { on := 15, ground := Go.Ground.data }, { on := 6, ground := Go.Ground.guard }], guard := some (6, false) }) (v := ?v137) rfl (by kernel_rfl) (by kernel_rfl) (by kernel_rfl) (fun _ _ _ h => h) (Or.inl ⟨by rfl, ?hy137⟩) (held_start w11) ?r137
           case hy137 =>
            intro w' hSw
            have hq := hSw.1
            clear hSw
            go_simp
            with_reducible rfl
           try simp only [Act.put, List.setIfInBounds_toArray, List.set_cons_zero, List.set_cons_succ]
           refine wpAnyH_take (i := 17) (oi := { dst := some 170, op := Go.Op.pick (Go.Operand.tmp 159) (Go.Operand.const (Go.Value.bool true)) (Go.Operand.tmp 169), type := 4, pos := "outright.go:170", after := #[{ on := 6, ground := Go.Ground.data }, { on := 16, ground := Go.Ground.data }], guard := none }) (v := ?v138) rfl (by kernel_rfl) (by kernel_rfl) (by kernel_rfl) (fun _ _ _ h => h) (Or.inl ⟨by rfl, ?hy138⟩) (held_start w11) ?r138
           case hy138 =>
            intro w' hSw
            have hq := hSw.1
            clear hSw
            go_simp
            with_reducible rfl
           try simp only [Act.put, List.setIfInBounds_toArray, List.set_cons_zero, List.set_cons_succ]
           refine wpAnyH_take (i := 18) (oi := { dst := some 171, op := Go.Op.move (Go.Operand.tmp 170), type := 4, pos := "outright.go:170", after := #[{ on := 17, ground := Go.Ground.data }, { on := 12, ground := Go.Ground.chain }], guard := none }) (v := ?v139) rfl (by kernel_rfl) (by kernel_rfl) (by kernel_rfl) (fun _ _ _ h => h) (Or.inl ⟨by rfl, ?hy139⟩) (held_start w11) ?r139
           case hy139 =>
            intro w' hSw
            have hq := hSw.1
            clear hSw
            go_simp
            with_reducible rfl
           try simp only [Act.put, List.setIfInBounds_toArray, List.set_cons_zero, List.set_cons_succ]
           refine wpAnyH_take (i := 19) (oi := { dst := some 172, op := Go.Op.move (Go.Operand.tmp 14), type := 4, pos := "outright.go:170", after := #[{ on := 18, ground := Go.Ground.guard }], guard := some (18, false) }) (v := ?v140) rfl (by kernel_rfl) (by kernel_rfl) (by kernel_rfl) (fun _ _ _ h => h) (Or.inl ⟨by rfl, ?hy140⟩) (held_start w11) ?r140
           case hy140 =>
            intro w' hSw
            have hq := hSw.1
            clear hSw
            go_simp
            with_reducible rfl
           try simp only [Act.put, List.setIfInBounds_toArray, List.set_cons_zero, List.set_cons_succ]
           refine wpAnyH_take (i := 20) (oi := { dst := some 173, op := Go.Op.move (Go.Operand.tmp 172), type := 4, pos := "outright.go:170", after := #[{ on := 19, ground := Go.Ground.data }, { on := 18, ground := Go.Ground.chain }, { on := 18, ground := Go.Ground.guard }], guard := some (18, false) }) (v := ?v141) rfl (by kernel_rfl) (by kernel_rfl) (by kernel_rfl) (fun _ _ _ h => h) (Or.inl ⟨by rfl, ?hy141⟩) (held_start w11) ?r141
           case hy141 =>
            intro w' hSw
            have hq := hSw.1
            clear hSw
            go_simp
            with_reducible rfl
           try simp only [Act.put, List.setIfInBounds_toArray, List.set_cons_zero, List.set_cons_succ]
           refine wpAnyH_take (i := 21) (oi := { dst := some 174, op := Go.Op.load 24 (Go.Operand.tmp 7), type := 24, pos := "outright.go:170", after := #[{ on := 20, ground := Go.Ground.guard }], guard := some (20, true) }) (v := ?v142) rfl (by kernel_rfl) (by kernel_rfl) (by kernel_rfl) (fun _ _ _ h => h) (Or.inl ⟨by rfl, ?hy142⟩) (held_start w11) ?r142
           case hy142 =>
            intro w' hSw
            have hq := hSw.1
            clear hSw
            go_simp
            with_reducible rfl
           try simp only [Act.put, List.setIfInBounds_toArray, List.set_cons_zero, List.set_cons_succ]
           refine wpAnyH_take (i := 22) (oi := { dst := some 175, op := Go.Op.move (Go.Operand.tmp 11), type := 31, pos := "outright.go:170", after := #[{ on := 20, ground := Go.Ground.guard }], guard := some (20, true) }) (v := ?v143) rfl (by kernel_rfl) (by kernel_rfl) (by kernel_rfl) (fun _ _ _ h => h) (Or.inl ⟨by rfl, ?hy143⟩) (held_start w11) ?r143
           case hy143 =>
            intro w' hSw
            have hq := hSw.1
            clear hSw
            go_simp
            with_reducible rfl
           try simp only [Act.put, List.setIfInBounds_toArray, List.set_cons_zero, List.set_cons_succ]
           refine wpAnyH_take (i := 23) (oi := { dst := some 176, op := Go.Op.move (Go.Operand.tmp 13), type := 3, pos := "outright.go:170", after := #[{ on := 20, ground := Go.Ground.guard }], guard := some (20, true) }) (v := ?v144) rfl (by kernel_rfl) (by kernel_rfl) (by kernel_rfl) (fun _ _ _ h => h) (Or.inl ⟨by rfl, ?hy144⟩) (held_start w11) ?r144
           case hy144 =>
            intro w' hSw
            have hq := hSw.1
            clear hSw
            go_simp
            with_reducible rfl
           try simp only [Act.put, List.setIfInBounds_toArray, List.set_cons_zero, List.set_cons_succ]
           refine wpAnyH_take (i := 24) (oi := { dst := some 177, op := Go.Op.indexAddr 31 (Go.Operand.tmp 175) (Go.Operand.tmp 176), type := 0, pos := "outright.go:170", after := #[{ on := 22, ground := Go.Ground.data }, { on := 23, ground := Go.Ground.data }, { on := 20, ground := Go.Ground.guard }], guard := some (20, true) }) (v := ?v145) rfl (by kernel_rfl) (by kernel_rfl) (by kernel_rfl) (fun _ _ _ h => h) (Or.inl ⟨by rfl, ?hy145⟩) (held_start w11) ?r145
           case hy145 =>
            intro w' hSw
            have hq := hSw.1
            clear hSw
            go_simp
            with_reducible rfl
           try simp only [Act.put, List.setIfInBounds_toArray, List.set_cons_zero, List.set_cons_succ]
           refine wpAnyH_take (i := 25) (oi := { dst := some 178, op := Go.Op.load 3 (Go.Operand.tmp 177), type := 3, pos := "outright.go:170", after := #[{ on := 24, ground := Go.Ground.data }, { on := 20, ground := Go.Ground.guard }], guard := some (20, true) }) (v := ?v146) rfl (by kernel_rfl) (by kernel_rfl) (by kernel_rfl) (fun _ _ _ h => h) (Or.inl ⟨by rfl, ?hy146⟩) (held_start w11) ?r146
           case hy146 =>
            intro w' hSw
            have hq := hSw.1
            clear hSw
            go_simp
            with_reducible rfl
           try simp only [Act.put, List.setIfInBounds_toArray, List.set_cons_zero, List.set_cons_succ]
           refine wpAnyH_ready (rs := [26]) (by kernel_rfl) (by simp) ?_
           refine AllReadyH.cons rfl (fun K hK => ?_) AllReadyH.nil
           go_simp
           refine (HCA.out rfl _).mono ?_
           rintro e w147 ⟨rfl, hBw147⟩
           have hSw147 := held_step hBw147 (held_start w11)
           refine hK.out _ _ hSw147 (fun _ => ?_)
           clear hK K
           try simp only [Act.put, List.setIfInBounds_toArray, List.set_cons_zero, List.set_cons_succ]
           refine wpAnyH_take (i := 27) (oi := { dst := some 180, op := Go.Op.unOp Go.UnOp.not 4 (Go.Operand.tmp 179), type := 4, pos := "outright.go:170", after := #[{ on := 26, ground := Go.Ground.data }, { on := 20, ground := Go.Ground.guard }], guard := some (20, true) }) (v := ?v148) rfl (by kernel_rfl) (by kernel_rfl) (by kernel_rfl) (fun _ _ _ h => h) (Or.inl ⟨by rfl, ?hy148⟩) hSw147 ?r148
           case hy148 =>
            intro w' hSw
            have hq := hSw.1
            clear hSw
            go_simp
            with_reducible rfl
           try simp only [Act.put, List.setIfInBounds_toArray, List.set_cons_zero, List.set_cons_succ]
           refine wpAnyH_take (i := 28) (oi := { dst := some 181, op := Go.Op.pick (Go.Operand.tmp 173) (Go.Operand.tmp 180) (Go.Operand.const (Go.Value.bool false)), type := 4, pos := "outright.go:170", after := #[{ on := 20, ground := Go.Ground.data }, { on := 27, ground := Go.Ground.data }, { on := 18, ground := Go.Ground.guard }], guard := some (18, false) }) (v := ?v149) rfl (by kernel_rfl) (by kernel_rfl) (by kernel_rfl) (fun _ _ _ h => h) (Or.inl ⟨by rfl, ?hy149⟩) hSw147 ?r149
           case hy149 =>
            intro w' hSw
            have hq := hSw.1
            clear hSw
            go_simp
            with_reducible rfl
           try simp only [Act.put, List.setIfInBounds_toArray, List.set_cons_zero, List.set_cons_succ]
           refine wpAnyH_take (i := 29) (oi := { dst := some 182, op := Go.Op.pick (Go.Operand.tmp 171) (Go.Operand.const (Go.Value.bool true)) (Go.Operand.tmp 181), type := 4, pos := "outright.go:170", after := #[{ on := 18, ground := Go.Ground.data }, { on := 28, ground := Go.Ground.data }], guard := none }) (v := ?v150) rfl (by kernel_rfl) (by kernel_rfl) (by kernel_rfl) (fun _ _ _ h => h) (Or.inl ⟨by rfl, ?hy150⟩) hSw147 ?r150
           case hy150 =>
            intro w' hSw
            have hq := hSw.1
            clear hSw
            go_simp
            with_reducible rfl
           try simp only [Act.put, List.setIfInBounds_toArray, List.set_cons_zero, List.set_cons_succ]
           refine wpAnyH_take (i := 30) (oi := { dst := some 183, op := Go.Op.move (Go.Operand.tmp 182), type := 4, pos := "outright.go:170", after := #[{ on := 29, ground := Go.Ground.data }, { on := 26, ground := Go.Ground.chain }], guard := none }) (v := ?v151) rfl (by kernel_rfl) (by kernel_rfl) (by kernel_rfl) (fun _ _ _ h => h) (Or.inl ⟨by rfl, ?hy151⟩) hSw147 ?r151
           case hy151 =>
            intro w' hSw
            have hq := hSw.1
            clear hSw
            go_simp
            with_reducible rfl
           try simp only [Act.put, List.setIfInBounds_toArray, List.set_cons_zero, List.set_cons_succ]
           refine wpAnyH_take (i := 31) (oi := { dst := some 184, op := Go.Op.move (Go.Operand.tmp 16), type := 4, pos := "outright.go:170", after := #[{ on := 30, ground := Go.Ground.guard }], guard := some (30, false) }) (v := ?v152) rfl (by kernel_rfl) (by kernel_rfl) (by kernel_rfl) (fun _ _ _ h => h) (Or.inl ⟨by rfl, ?hy152⟩) hSw147 ?r152
           case hy152 =>
            intro w' hSw
            have hq := hSw.1
            clear hSw
            go_simp
            with_reducible rfl
           try simp only [Act.put, List.setIfInBounds_toArray, List.set_cons_zero, List.set_cons_succ]
           refine wpAnyH_take (i := 32) (oi := { dst := some 185, op := Go.Op.move (Go.Operand.tmp 184), type := 4, pos := "outright.go:170", after := #[{ on := 31, ground := Go.Ground.data }, { on := 30, ground := Go.Ground.chain }, { on := 30, ground := Go.Ground.guard }], guard := some (30, false) }) (v := ?v153) rfl (by kernel_rfl) (by kernel_rfl) (by kernel_rfl) (fun _ _ _ h => h) (Or.inl ⟨by rfl, ?hy153⟩) hSw147 ?r153
           case hy153 =>
            intro w' hSw
            have hq := hSw.1
            clear hSw
            go_simp
            with_reducible rfl
           try simp only [Act.put, List.setIfInBounds_toArray, List.set_cons_zero, List.set_cons_succ]
           refine wpAnyH_take (i := 33) (oi := { dst := some 186, op := Go.Op.load 24 (Go.Operand.tmp 9), type := 24, pos := "outright.go:170", after := #[{ on := 32, ground := Go.Ground.guard }], guard := some (32, true) }) (v := ?v154) rfl (by kernel_rfl) (by kernel_rfl) (by kernel_rfl) (fun _ _ _ h => h) (Or.inl ⟨by rfl, ?hy154⟩) hSw147 ?r154
           case hy154 =>
            intro w' hSw
            have hq := hSw.1
            clear hSw
            go_simp
            with_reducible rfl
           try simp only [Act.put, List.setIfInBounds_toArray, List.set_cons_zero, List.set_cons_succ]
           refine wpAnyH_take (i := 34) (oi := { dst := some 187, op := Go.Op.move (Go.Operand.tmp 12), type := 31, pos := "outright.go:170", after := #[{ on := 32, ground := Go.Ground.guard }], guard := some (32, true) }) (v := ?v155) rfl (by kernel_rfl) (by kernel_rfl) (by kernel_rfl) (fun _ _ _ h => h) (Or.inl ⟨by rfl, ?hy155⟩) hSw147 ?r155
           case hy155 =>
            intro w' hSw
            have hq := hSw.1
            clear hSw
            go_simp
            with_reducible rfl
           try simp only [Act.put, List.setIfInBounds_toArray, List.set_cons_zero, List.set_cons_succ]
           refine wpAnyH_take (i := 35) (oi := { dst := some 188, op := Go.Op.move (Go.Operand.tmp 13), type := 3, pos := "outright.go:170", after := #[{ on := 32, ground := Go.Ground.guard }], guard := some (32, true) }) (v := ?v156) rfl (by kernel_rfl) (by kernel_rfl) (by kernel_rfl) (fun _ _ _ h => h) (Or.inl ⟨by rfl, ?hy156⟩) hSw147 ?r156
           case hy156 =>
            intro w' hSw
            have hq := hSw.1
            clear hSw
            go_simp
            with_reducible rfl
           try simp only [Act.put, List.setIfInBounds_toArray, List.set_cons_zero, List.set_cons_succ]
           refine wpAnyH_take (i := 36) (oi := { dst := some 189, op := Go.Op.indexAddr 31 (Go.Operand.tmp 187) (Go.Operand.tmp 188), type := 0, pos := "outright.go:170", after := #[{ on := 34, ground := Go.Ground.data }, { on := 35, ground := Go.Ground.data }, { on := 32, ground := Go.Ground.guard }], guard := some (32, true) }) (v := ?v157) rfl (by kernel_rfl) (by kernel_rfl) (by kernel_rfl) (fun _ _ _ h => h) (Or.inl ⟨by rfl, ?hy157⟩) hSw147 ?r157
           case hy157 =>
            intro w' hSw
            have hq := hSw.1
            clear hSw
            go_simp
            with_reducible rfl
           try simp only [Act.put, List.setIfInBounds_toArray, List.set_cons_zero, List.set_cons_succ]
           refine wpAnyH_take (i := 37) (oi := { dst := some 190, op := Go.Op.load 3 (Go.Operand.tmp 189), type := 3, pos := "outright.go:170", after := #[{ on := 36, ground := Go.Ground.data }, { on := 32, ground := Go.Ground.guard }], guard := some (32, true) }) (v := ?v158) rfl (by kernel_rfl) (by kernel_rfl) (by kernel_rfl) (fun _ _ _ h => h) (Or.inl ⟨by rfl, ?hy158⟩) hSw147 ?r158
           case hy158 =>
            intro w' hSw
            have hq := hSw.1
            clear hSw
            go_simp
            with_reducible rfl
           try simp only [Act.put, List.setIfInBounds_toArray, List.set_cons_zero, List.set_cons_succ]
           refine wpAnyH_ready (rs := [38]) (by kernel_rfl) (by simp) ?_
           refine AllReadyH.cons rfl (fun K hK => ?_) AllReadyH.nil
           go_simp
           refine (HCC.out rfl _).mono ?_
           rintro e w159 ⟨rfl, hBw159⟩
           have hSw159 := held_step hBw159 hSw147
           refine hK.out _ _ hSw159 (fun _ => ?_)
           clear hK K
           try simp only [Act.put, List.setIfInBounds_toArray, List.set_cons_zero, List.set_cons_succ]
           refine wpAnyH_take (i := 39) (oi := { dst := some 192, op := Go.Op.unOp Go.UnOp.not 4 (Go.Operand.tmp 191), type := 4, pos := "outright.go:170", after := #[{ on := 38, ground := Go.Ground.data }, { on := 32, ground := Go.Ground.guard }], guard := some (32, true) }) (v := ?v160) rfl (by kernel_rfl) (by kernel_rfl) (by kernel_rfl) (fun _ _ _ h => h) (Or.inl ⟨by rfl, ?hy160⟩) hSw159 ?r160
           case hy160 =>
            intro w' hSw
            have hq := hSw.1
            clear hSw
            go_simp
            with_reducible rfl
           try simp only [Act.put, List.setIfInBounds_toArray, List.set_cons_zero, List.set_cons_succ]
           refine wpAnyH_take (i := 40) (oi := { dst := some 193, op := Go.Op.pick (Go.Operand.tmp 185) (Go.Operand.tmp 192) (Go.Operand.const (Go.Value.bool false)), type := 4, pos := "outright.go:170", after := #[{ on := 32, ground := Go.Ground.data }, { on := 39, ground := Go.Ground.data }, { on := 30, ground := Go.Ground.guard }], guard := some (30, false) }) (v := ?v161) rfl (by kernel_rfl) (by kernel_rfl) (by kernel_rfl) (fun _ _ _ h => h) (Or.inl ⟨by rfl, ?hy161⟩) hSw159 ?r161
           case hy161 =>
            intro w' hSw
            have hq := hSw.1
            clear hSw
            go_simp
            with_reducible rfl
           try simp only [Act.put, List.setIfInBounds_toArray, List.set_cons_zero, List.set_cons_succ]
           refine wpAnyH_take (i := 41) (oi := { dst := some 194, op := Go.Op.pick (Go.Operand.tmp 183) (Go.Operand.const (Go.Value.bool true)) (Go.Operand.tmp 193), type := 4, pos := "outright.go:170", after := #[{ on := 30, ground := Go.Ground.data }, { on := 40, ground := Go.Ground.data }], guard := none }) (v := ?v162) rfl (by kernel_rfl) (by kernel_rfl) (by kernel_rfl) (fun _ _ _ h => h) (Or.inl ⟨by rfl, ?hy162⟩) hSw159 ?r162
           case hy162 =>
            intro w' hSw
            have hq := hSw.1
            clear hSw
            go_simp
            with_reducible rfl
           try simp only [Act.put, List.setIfInBounds_toArray, List.set_cons_zero, List.set_cons_succ]
           refine wpAnyH_done (by kernel_rfl) ?_ _
           show R _ _
           rw [HR.out]
           simp only [Act.put, List.setIfInBounds_toArray, List.set_cons_zero, List.set_cons_succ]
           exact ⟨⟨_, _, _, _, _, _, _, _, _, _, _, _, _, _, _, _, _, _, _, _, _, _, _, _, _, _, _, _, _, _, _, _, _, _, _, _, _, _, _, _, _, rfl⟩, hSw159⟩
          ·have hk2i : ¬ (k : Int) < 2 := by omega
           have hk2d : decide ((k : Int) < 2) = false := decide_eq_false hk2i
           have hk2e : (2 : Int) ≤ k := by omega
           cases is <;> cases so
           ·refine wp_region_held_drew (S := fun w' => Held w11 w') (by kernel_rfl) (held_start w11) (fun _ => ?_)
            refine wpAnyH_take (i := 0) (oi := { dst := some 153, op := Go.Op.move (Go.Operand.tmp 15), type := 41, pos := "outright.go:170", after := #[], guard := none }) (v := ?v163) rfl (by kernel_rfl) (by kernel_rfl) (by kernel_rfl) (fun _ _ _ h => h) (Or.inl ⟨by rfl, ?hy163⟩) (held_start w11) ?r163
            case hy163 =>
             intro w' hSw
             have hq := hSw.1
             clear hSw
             go_simp
             with_reducible rfl
            try simp only [Act.put, List.setIfInBounds_toArray, List.set_cons_zero, List.set_cons_succ]
            refine wpAnyH_take (i := 1) (oi := { dst := some 154, op := Go.Op.binOp Go.BinOp.neq 41 (Go.Operand.tmp 153) (Go.Operand.const (Go.Value.int Go.IntKind.i64 0)) 41, type := 4, pos := "outright.go:170", after := #[{ on := 0, ground := Go.Ground.data }], guard := none }) (v := ?v164) rfl (by kernel_rfl) (by kernel_rfl) (by kernel_rfl) (fun _ _ _ h => h) (Or.inl ⟨by rfl, ?hy164⟩) (held_start w11) ?r164
            case hy164 =>
             intro w' hSw
             have hq := hSw.1
             clear hSw
             go_simp
             with_reducible rfl
            try simp only [Act.put, List.setIfInBounds_toArray, List.set_cons_zero, List.set_cons_succ]
            refine wpAnyH_take (i := 2) (oi := { dst := some 155, op := Go.Op.move (Go.Operand.tmp 154), type := 4, pos := "outright.go:170", after := #[{ on := 1, ground := Go.Ground.data }], guard := none }) (v := ?v165) rfl (by kernel_rfl) (by kernel_rfl) (by kernel_rfl) (fun _ _ _ h => h) (Or.inl ⟨by rfl, ?hy165⟩) (held_start w11) ?r165
            case hy165 =>
             intro w' hSw
             have hq := hSw.1
             clear hSw
             go_simp
             with_reducible rfl
            try simp only [Act.put, List.setIfInBounds_toArray, List.set_cons_zero, List.set_cons_succ]
            refine wpAnyH_take (i := 3) (oi := { dst := some 156, op := Go.Op.move (Go.Operand.tmp 17), type := 41, pos := "outright.go:170", after := #[{ on := 2, ground := Go.Ground.guard }], guard := some (2, false) }) (v := ?v166) rfl (by kernel_rfl) (by kernel_rfl) (by kernel_rfl) (fun _ _ _ h => h) (Or.inl ⟨by rfl, ?hy166⟩) (held_start w11) ?r166
            case hy166 =>
             intro w' hSw
             have hq := hSw.1
             clear hSw
             go_simp
             with_reducible rfl
            try simp only [Act.put, List.setIfInBounds_toArray, List.set_cons_zero, List.set_cons_succ]
            refine wpAnyH_take (i := 4) (oi := { dst := some 157, op := Go.Op.binOp Go.BinOp.neq 41 (Go.Operand.tmp 156) (Go.Operand.const (Go.Value.int Go.IntKind.i64 0)) 41, type := 4, pos := "outright.go:170", after := #[{ on := 3, ground := Go.Ground.data }, { on := 2, ground := Go.Ground.guard }], guard := some (2, false) }) (v := ?v167) rfl (by kernel_rfl) (by kernel_rfl) (by kernel_rfl) (fun _ _ _ h => h) (Or.inl ⟨by rfl, ?hy167⟩) (held_start w11) ?r167
            case hy167 =>
             intro w' hSw
             have hq := hSw.1
             clear hSw
             go_simp
             with_reducible rfl
            try simp only [Act.put, List.setIfInBounds_toArray, List.set_cons_zero, List.set_cons_succ]
            refine wpAnyH_take (i := 5) (oi := { dst := some 158, op := Go.Op.pick (Go.Operand.tmp 155) (Go.Operand.const (Go.Value.bool true)) (Go.Operand.tmp 157), type := 4, pos := "outright.go:170", after := #[{ on := 2, ground := Go.Ground.data }, { on := 4, ground := Go.Ground.data }], guard := none }) (v := ?v168) rfl (by kernel_rfl) (by kernel_rfl) (by kernel_rfl) (fun _ _ _ h => h) (Or.inl ⟨by rfl, ?hy168⟩) (held_start w11) ?r168
            case hy168 =>
             intro w' hSw
             have hq := hSw.1
             clear hSw
             go_simp
             with_reducible rfl
            try simp only [Act.put, List.setIfInBounds_toArray, List.set_cons_zero, List.set_cons_succ]
            refine wpAnyH_take (i := 6) (oi := { dst := some 159, op := Go.Op.move (Go.Operand.tmp 158), type := 4, pos := "outright.go:170", after := #[{ on := 5, ground := Go.Ground.data }, { on := 2, ground := Go.Ground.chain }], guard := none }) (v := ?v169) rfl (by kernel_rfl) (by kernel_rfl) (by kernel_rfl) (fun _ _ _ h => h) (Or.inl ⟨by rfl, ?hy169⟩) (held_start w11) ?r169
            case hy169 =>
             intro w' hSw
             have hq := hSw.1
             clear hSw
             go_simp
             with_reducible rfl
            try simp only [Act.put, List.setIfInBounds_toArray, List.set_cons_zero, List.set_cons_succ]
            refine wpAnyH_take (i := 7) (oi := { dst := some 160, op := Go.Op.move (Go.Operand.tmp 13), type := 3, pos := "outright.go:170", after := #[{ on := 6, ground := Go.Ground.guard }], guard := some (6, false) }) (v := ?v170) rfl (by kernel_rfl) (by kernel_rfl) (by kernel_rfl) (fun _ _ _ h => h) (Or.inl ⟨by rfl, ?hy170⟩) (held_start w11) ?r170
            case hy170 =>
             intro w' hSw
             have hq := hSw.1
             clear hSw
             go_simp
             with_reducible rfl
            try simp only [Act.put, List.setIfInBounds_toArray, List.set_cons_zero, List.set_cons_succ]
            refine wpAnyH_take (i := 8) (oi := { dst := some 161, op := Go.Op.binOp Go.BinOp.lss 3 (Go.Operand.tmp 160) (Go.Operand.const (Go.Value.int Go.IntKind.i64 2)) 3, type := 4, pos := "outright.go:170", after := #[{ on := 7, ground := Go.Ground.data }, { on := 6, ground := Go.Ground.guard }], guard := some (6, false) }) (v := ?v171) rfl (by kernel_rfl) (by kernel_rfl) (by kernel_rfl) (fun _ _ _ h => h) (Or.inl ⟨by rfl, ?hy171⟩) (held_start w11) ?r171
            case hy171 =>
             intro w' hSw
             have hq := hSw.1
             clear hSw
             go_simp
             with_reducible rfl
            try simp only [Act.put, List.setIfInBounds_toArray, List.set_cons_zero, List.set_cons_succ]
            refine wpAnyH_take (i := 9) (oi := { dst := some 162, op := Go.Op.move (Go.Operand.tmp 161), type := 4, pos := "outright.go:170", after := #[{ on := 8, ground := Go.Ground.data }, { on := 6, ground := Go.Ground.chain }, { on := 6, ground := Go.Ground.guard }], guard := some (6, false) }) (v := ?v172) rfl (by kernel_rfl) (by kernel_rfl) (by kernel_rfl) (fun _ _ _ h => h) (Or.inl ⟨by rfl, ?hy172⟩) (held_start w11) ?r172
            case hy172 =>
             intro w' hSw
             have hq := hSw.1
             clear hSw
             go_simp
             with_reducible rfl
            try simp only [Act.put, List.setIfInBounds_toArray, List.set_cons_zero, List.set_cons_succ]
            refine wpAnyH_take (i := 10) (oi := { dst := some 163, op := Go.Op.move (Go.Operand.tmp 14), type := 4, pos := "outright.go:170", after := #[{ on := 9, ground := Go.Ground.guard }], guard := some (9, true) }) (v := undef) rfl (by kernel_rfl) (by kernel_rfl) (by kernel_rfl) (fun _ _ _ h => h) (Or.inr ⟨by rfl, rfl⟩) (held_start w11) ?_
            try simp only [Act.put, List.setIfInBounds_toArray, List.set_cons_zero, List.set_cons_succ]
            refine wpAnyH_take (i := 11) (oi := { dst := some 164, op := Go.Op.unOp Go.UnOp.not 4 (Go.Operand.tmp 163), type := 4, pos := "outright.go:170", after := #[{ on := 10, ground := Go.Ground.data }, { on := 9, ground := Go.Ground.guard }], guard := some (9, true) }) (v := undef) rfl (by kernel_rfl) (by kernel_rfl) (by kernel_rfl) (fun _ _ _ h => h) (Or.inr ⟨by rfl, rfl⟩) (held_start w11) ?_
            try simp only [Act.put, List.setIfInBounds_toArray, List.set_cons_zero, List.set_cons_succ]
            refine wpAnyH_take (i := 12) (oi := { dst := some 165, op := Go.Op.move (Go.Operand.tmp 164), type := 4, pos := "outright.go:170", after := #[{ on := 11, ground := Go.Ground.data }, { on := 9, ground := Go.Ground.chain }, { on := 9, ground := Go.Ground.guard }], guard := some (9, true) }) (v := undef) rfl (by kernel_rfl) (by kernel_rfl) (by kernel_rfl) (fun _ _ _ h => h) (Or.inr ⟨by rfl, rfl⟩) (held_start w11) ?_
            try simp only [Act.put, List.setIfInBounds_toArray, List.set_cons_zero, List.set_cons_succ]
            refine wpAnyH_take (i := 13) (oi := { dst := some 166, op := Go.Op.move (Go.Operand.tmp 16), type := 4, pos := "outright.go:170", after := #[{ on := 12, ground := Go.Ground.guard }], guard := some (12, false) }) (v := undef) rfl (by kernel_rfl) (by kernel_rfl) (by kernel_rfl) (fun _ _ _ h => h) (Or.inr ⟨by rfl, rfl⟩) (held_start w11) ?_
            try simp only [Act.put, List.setIfInBounds_toArray, List.set_cons_zero, List.set_cons_succ]
            refine wpAnyH_take (i := 14) (oi := { dst := some 167, op := Go.Op.unOp Go.UnOp.not 4 (Go.Operand.tmp 166), type := 4, pos := "outright.go:170", after := #[{ on := 13, ground := Go.Ground.data }, { on := 12, ground := Go.Ground.guard }], guard := some (12, false) }) (v := undef) rfl (by kernel_rfl) (by kernel_rfl) (by kernel_rfl) (fun _ _ _ h => h) (Or.inr ⟨by rfl, rfl⟩) (held_start w11) ?_
            try simp only [Act.put, List.setIfInBounds_toArray, List.set_cons_zero, List.set_cons_succ]
            refine wpAnyH_take (i := 15) (oi := { dst := some 168, op := Go.Op.pick (Go.Operand.tmp 165) (Go.Operand.const (Go.Value.bool true)) (Go.Operand.tmp 167), type := 4, pos := "outright.go:170", after := #[{ on := 12, ground := Go.Ground.data }, { on := 14, ground := Go.Ground.data }, { on := 9, ground := Go.Ground.guard }], guard := some (9, true) }) (v := undef) rfl (by kernel_rfl) (by kernel_rfl) (by kernel_rfl) (fun _ _ _ h => h) (Or.inr ⟨by rfl, rfl⟩) (held_start w11) ?_
            try simp only [Act.put, List.setIfInBounds_toArray, List.set_cons_zero, List.set_cons_succ]
            refine wpAnyH_take (i := 16) (oi := { dst := some 169, op := Go.Op.pick (Go.Operand.tmp 162) (Go.Operand.tmp 168) (Go.Operand.const (Go.Value.bool false)), type := 4, pos := "outright.go:170", after := #[{ on := 9, ground := Go.Ground.data }, { on := 15, ground := Go.Ground.data }, { on := 6, ground := Go.Ground.guard }], guard := some (6, false) }) (v := ?v173) rfl (by kernel_rfl) (by kernel_rfl) (by kernel_rfl) (fun _ _ _ h => h) (Or.inl ⟨by rfl, ?hy173⟩) (held_start w11) ?r173
            case hy173 =>
             intro w' hSw
             have hq := hSw.1
             clear hSw
             go_simp
             with_reducible rfl
            try simp only [Act.put, List.setIfInBounds_toArray, List.set_cons_zero, List.set_cons_succ]
            refine wpAnyH_take (i := 17) (oi := { dst := some 170, op := Go.Op.pick (Go.Operand.tmp 159) (Go.Operand.const (Go.Value.bool true)) (Go.Operand.tmp 169), type := 4, pos := "outright.go:170", after := #[{ on := 6, ground := Go.Ground.data }, { on := 16, ground := Go.Ground.data }], guard := none }) (v := ?v174) rfl (by kernel_rfl) (by kernel_rfl) (by kernel_rfl) (fun _ _ _ h => h) (Or.inl ⟨by rfl, ?hy174⟩) (held_start w11) ?r174
            case hy174 =>
             intro w' hSw
             have hq := hSw.1
             clear hSw
             go_simp
             with_reducible rfl
            try simp only [Act.put, List.setIfInBounds_toArray, List.set_cons_zero, List.set_cons_succ]
            refine wpAnyH_take (i := 18) (oi := { dst := some 171, op := Go.Op.move (Go.Operand.tmp 170), type := 4, pos := "outright.go:170", after := #[{ on := 17, ground := Go.Ground.data }, { on := 12, ground := Go.Ground.chain }], guard := none }) (v := ?v175) rfl (by kernel_rfl) (by kernel_rfl) (by kernel_rfl) (fun _ _ _ h => h) (Or.inl ⟨by rfl, ?hy175⟩) (held_start w11) ?r175
            case hy175 =>
             intro w' hSw
             have hq := hSw.1
             clear hSw
             go_simp
             with_reducible rfl
            try simp only [Act.put, List.setIfInBounds_toArray, List.set_cons_zero, List.set_cons_succ]
            refine wpAnyH_take (i := 19) (oi := { dst := some 172, op := Go.Op.move (Go.Operand.tmp 14), type := 4, pos := "outright.go:170", after := #[{ on := 18, ground := Go.Ground.guard }], guard := some (18, false) }) (v := ?v176) rfl (by kernel_rfl) (by kernel_rfl) (by kernel_rfl) (fun _ _ _ h => h) (Or.inl ⟨by rfl, ?hy176⟩) (held_start w11) ?r176
            case hy176 =>
             intro w' hSw
             have hq := hSw.1
             clear hSw
             go_simp
             with_reducible rfl
            try simp only [Act.put, List.setIfInBounds_toArray, List.set_cons_zero, List.set_cons_succ]
            refine wpAnyH_take (i := 20) (oi := { dst := some 173, op := Go.Op.move (Go.Operand.tmp 172), type := 4, pos := "outright.go:170", after := #[{ on := 19, ground := Go.Ground.data }, { on := 18, ground := Go.Ground.chain }, { on := 18, ground := Go.Ground.guard }], guard := some (18, false) }) (v := ?v177) rfl (by kernel_rfl) (by kernel_rfl) (by kernel_rfl) (fun _ _ _ h => h) (Or.inl ⟨by rfl, ?hy177⟩) (held_start w11) ?r177
            case hy177 =>
             intro w' hSw
             have hq := hSw.1
             clear hSw
             go_simp
             with_reducible rfl
            try simp only [Act.put, List.setIfInBounds_toArray, List.set_cons_zero, List.set_cons_succ]
            refine wpAnyH_take (i := 21) (oi := { dst := some 174, op := Go.Op.load 24 (Go.Operand.tmp 7), type := 24, pos := "outright.go:170", after := #[{ on := 20, ground := Go.Ground.guard }], guard := some (20, true) }) (v := undef) rfl (by kernel_rfl) (by kernel_rfl) (by kernel_rfl) (fun _ _ _ h => h) (Or.inr ⟨by rfl, rfl⟩) (held_start w11) ?_
            try simp only [Act.put, List.setIfInBounds_toArray, List.set_cons_zero, List.set_cons_succ]
            refine wpAnyH_take (i := 22) (oi := { dst := some 175, op := Go.Op.move (Go.Operand.tmp 11), type := 31, pos := "outright.go:170", after := #[{ on := 20, ground := Go.Ground.guard }], guard := some (20, true) }) (v := undef) rfl (by kernel_rfl) (by kernel_rfl) (by kernel_rfl) (fun _ _ _ h => h) (Or.inr ⟨by rfl, rfl⟩) (held_start w11) ?_
            try simp only [Act.put, List.setIfInBounds_toArray, List.set_cons_zero, List.set_cons_succ]
            refine wpAnyH_take (i := 23) (oi := { dst := some 176, op := Go.Op.move (Go.Operand.tmp 13), type := 3, pos := "outright.go:170", after := #[{ on := 20, ground := Go.Ground.guard }], guard := some (20, true) }) (v := undef) rfl (by kernel_rfl) (by kernel_rfl) (by kernel_rfl) (fun _ _ _ h => h) (Or.inr ⟨by rfl, rfl⟩) (held_start w11) ?_
            try simp only [Act.put, List.setIfInBounds_toArray, List.set_cons_zero, List.set_cons_succ]
            refine wpAnyH_take (i := 24) (oi := { dst := some 177, op := Go.Op.indexAddr 31 (Go.Operand.tmp 175) (Go.Operand.tmp 176), type := 0, pos := "outright.go:170", after := #[{ on := 22, ground := Go.Ground.data }, { on := 23, ground := Go.Ground.data }, { on := 20, ground := Go.Ground.guard }], guard := some (20, true) }) (v := undef) rfl (by kernel_rfl) (by kernel_rfl) (by kernel_rfl) (fun _ _ _ h => h) (Or.inr ⟨by rfl, rfl⟩) (held_start w11) ?_
            try simp only [Act.put, List.setIfInBounds_toArray, List.set_cons_zero, List.set_cons_succ]
            refine wpAnyH_take (i := 25) (oi := { dst := some 178, op := Go.Op.load 3 (Go.Operand.tmp 177), type := 3, pos := "outright.go:170", after := #[{ on := 24, ground := Go.Ground.data }, { on := 20, ground := Go.Ground.guard }], guard := some (20, true) }) (v := undef) rfl (by kernel_rfl) (by kernel_rfl) (by kernel_rfl) (fun _ _ _ h => h) (Or.inr ⟨by rfl, rfl⟩) (held_start w11) ?_
            try simp only [Act.put, List.setIfInBounds_toArray, List.set_cons_zero, List.set_cons_succ]
            refine wpAnyH_take (i := 26) (oi := { dst := some 179, op := Go.Op.call { callee := Go.Callee.value (Go.Operand.func 22), args := #[Go.Operand.tmp 174, Go.Operand.tmp 178], argTypes := #[24, 3] }, type := 4, pos := "outright.go:170", after := #[{ on := 21, ground := Go.Ground.data }, { on := 25, ground := Go.Ground.data }, { on := 20, ground := Go.Ground.chain }, { on := 20, ground := Go.Ground.guard }], guard := some (20, true) }) (v := undef) rfl (by kernel_rfl) (by kernel_rfl) (by kernel_rfl) (fun _ _ _ h => h) (Or.inr ⟨by rfl, rfl⟩) (held_start w11) ?_
            try simp only [Act.put, List.setIfInBounds_toArray, List.set_cons_zero, List.set_cons_succ]
            refine wpAnyH_take (i := 27) (oi := { dst := some 180, op := Go.Op.unOp Go.UnOp.not 4 (Go.Operand.tmp 179), type := 4, pos := "outright.go:170", after := #[{ on := 26, ground := Go.Ground.data }, { on := 20, ground := Go.Ground.guard }], guard := some (20, true) }) (v := undef) rfl (by kernel_rfl) (by kernel_rfl) (by kernel_rfl) (fun _ _ _ h => h) (Or.inr ⟨by rfl, rfl⟩) (held_start w11) ?_
            try simp only [Act.put, List.setIfInBounds_toArray, List.set_cons_zero, List.set_cons_succ]
            refine wpAnyH_take (i := 28) (oi := { dst := some 181, op := Go.Op.pick (Go.Operand.tmp 173) (Go.Operand.tmp 180) (Go.Operand.const (Go.Value.bool false)), type := 4, pos := "outright.go:170", after := #[{ on := 20, ground := Go.Ground.data }, { on := 27, ground := Go.Ground.data }, { on := 18, ground := Go.Ground.guard }], guard := some (18, false) }) (v := ?v178) rfl (by kernel_rfl) (by kernel_rfl) (by kernel_rfl) (fun _ _ _ h => h) (Or.inl ⟨by rfl, ?hy178⟩) (held_start w11) ?r178
            case hy178 =>
             intro w' hSw
             have hq := hSw.1
             clear hSw
             go_simp
             with_reducible rfl
            try simp only [Act.put, List.setIfInBounds_toArray, List.set_cons_zero, List.set_cons_succ]
            refine wpAnyH_take (i := 29) (oi := { dst := some 182, op := Go.Op.pick (Go.Operand.tmp 171) (Go.Operand.const (Go.Value.bool true)) (Go.Operand.tmp 181), type := 4, pos := "outright.go:170", after := #[{ on := 18, ground := Go.Ground.data }, { on := 28, ground := Go.Ground.data }], guard := none }) (v := ?v179) rfl (by kernel_rfl) (by kernel_rfl) (by kernel_rfl) (fun _ _ _ h => h) (Or.inl ⟨by rfl, ?hy179⟩) (held_start w11) ?r179
            case hy179 =>
             intro w' hSw
             have hq := hSw.1
             clear hSw
             go_simp
             with_reducible rfl
            try simp only [Act.put, List.setIfInBounds_toArray, List.set_cons_zero, List.set_cons_succ]
            refine wpAnyH_take (i := 30) (oi := { dst := some 183, op := Go.Op.move (Go.Operand.tmp 182), type := 4, pos := "outright.go:170", after := #[{ on := 29, ground := Go.Ground.data }, { on := 26, ground := Go.Ground.chain }], guard := none }) (v := ?v180) rfl (by kernel_rfl) (by kernel_rfl) (by kernel_rfl) (fun _ _ _ h => h) (Or.inl ⟨by rfl, ?hy180⟩) (held_start w11) ?r180
            case hy180 =>
             intro w' hSw
             have hq := hSw.1
             clear hSw
             go_simp
             with_reducible rfl
            try simp only [Act.put, List.setIfInBounds_toArray, List.set_cons_zero, List.set_cons_succ]
            refine wpAnyH_take (i := 31) (oi := { dst := some 184, op := Go.Op.move (Go.Operand.tmp 16), type := 4, pos := "outright.go:170", after := #[{ on := 30, ground := Go.Ground.guard }], guard := some (30, false) }) (v := ?v181) rfl (by kernel_rfl) (by kernel_rfl) (by kernel_rfl) (fun _ _ _ h => h) (Or.inl ⟨by rfl, ?hy181⟩) (held_start w11) ?r181
            case hy181 =>
             intro w' hSw
             have hq := hSw.1
             clear hSw
             go_simp
             with_reducible rfl
            try simp only [Act.put, List.setIfInBounds_toArray, List.set_cons_zero, List.set_cons_succ]
            refine wpAnyH_take (i := 32) (oi := { dst := some 185, op := Go.Op.move (Go.Operand.tmp 184), type := 4, pos := "outright.go:170", after := #[{ on := 31, ground := Go.Ground.data }, { on := 30, ground := Go.Ground.chain }, { on := 30, ground := Go.Ground.guard }], guard := some (30, false) }) (v := ?v182) rfl (by kernel_rfl) (by kernel_rfl) (by kernel_rfl) (fun _ _ _ h => h) (Or.inl ⟨by rfl, ?hy182⟩) (held_start w11) ?r182
            case hy182 =>
             intro w' hSw
             have hq := hSw.1
             clear hSw
             go_simp
             with_reducible rfl
            try simp only [Act.put, List.setIfInBounds_toArray, List.set_cons_zero, List.set_cons_succ]
            refine wpAnyH_take (i := 33) (oi := { dst := some 186, op := Go.Op.load 24 (Go.Operand.tmp 9), type := 24, pos := "outright.go:170", after := #[{ on := 32, ground := Go.Ground.guard }], guard := some (32, true) }) (v := undef) rfl (by kernel_rfl) (by kernel_rfl) (by kernel_rfl) (fun _ _ _ h => h) (Or.inr ⟨by rfl, rfl⟩) (held_start w11) ?_
            try simp only [Act.put, List.setIfInBounds_toArray, List.set_cons_zero, List.set_cons_succ]
            refine wpAnyH_take (i := 34) (oi := { dst := some 187, op := Go.Op.move (Go.Operand.tmp 12), type := 31, pos := "outright.go:170", after := #[{ on := 32, ground := Go.Ground.guard }], guard := some (32, true) }) (v := undef) rfl (by kernel_rfl) (by kernel_rfl) (by kernel_rfl) (fun _ _ _ h => h) (Or.inr ⟨by rfl, rfl⟩) (held_start w11) ?_
            try simp only [Act.put, List.setIfInBounds_toArray, List.set_cons_zero, List.set_cons_succ]
            refine wpAnyH_take (i := 35) (oi := { dst := some 188, op := Go.Op.move (Go.Operand.tmp 13), type := 3, pos := "outright.go:170", after := #[{ on := 32, ground := Go.Ground.guard }], guard := some (32, true) }) (v := undef) rfl (by kernel_rfl) (by kernel_rfl) (by kernel_rfl) (fun _ _ _ h => h) (Or.inr ⟨by rfl, rfl⟩) (held_start w11) ?_
            try simp only [Act.put, List.setIfInBounds_toArray, List.set_cons_zero, List.set_cons_succ]
            refine wpAnyH_take (i := 36) (oi := { dst := some 189, op := Go.Op.indexAddr 31 (Go.Operand.tmp 187) (Go.Operand.tmp 188), type := 0, pos := "outright.go:170", after := #[{ on := 34, ground := Go.Ground.data }, { on := 35, ground := Go.Ground.data }, { on := 32, ground := Go.Ground.guard }], guard := some (32, true) }) (v := undef) rfl (by kernel_rfl) (by kernel_rfl) (by kernel_rfl) (fun _ _ _ h => h) (Or.inr ⟨by rfl, rfl⟩) (held_start w11) ?_
            try simp only [Act.put, List.setIfInBounds_toArray, List.set_cons_zero, List.set_cons_succ]
            refine wpAnyH_take (i := 37) (oi := { dst := some 190, op := Go.Op.load 3 (Go.Operand.tmp 189), type := 3, pos := "outright.go:170", after := #[{ on := 36, ground := Go.Ground.data }, { on := 32, ground := Go.Ground.guard }], guard := some (32, true) }) (v := undef) rfl (by kernel_rfl) (by kernel_rfl) (by kernel_rfl) (fun _ _ _ h => h) (Or.inr ⟨by rfl, rfl⟩) (held_start w11) ?_
            try simp only [Act.put, List.setIfInBounds_toArray, List.set_cons_zero, List.set_cons_succ]
            refine wpAnyH_take (i := 38) (oi := { dst := some 191, op := Go.Op.call { callee := Go.Callee.value (Go.Operand.func 22), args := #[Go.Operand.tmp 186, Go.Operand.tmp 190], argTypes := #[24, 3] }, type := 4, pos := "outright.go:170", after := #[{ on := 33, ground := Go.Ground.data }, { on := 37, ground := Go.Ground.data }, { on := 32, ground := Go.Ground.chain }, { on := 32, ground := Go.Ground.guard }], guard := some (32, true) }) (v := undef) rfl (by kernel_rfl) (by kernel_rfl) (by kernel_rfl) (fun _ _ _ h => h) (Or.inr ⟨by rfl, rfl⟩) (held_start w11) ?_
            try simp only [Act.put, List.setIfInBounds_toArray, List.set_cons_zero, List.set_cons_succ]
            refine wpAnyH_take (i := 39) (oi := { dst := some 192, op := Go.Op.unOp Go.UnOp.not 4 (Go.Operand.tmp 191), type := 4, pos := "outright.go:170", after := #[{ on := 38, ground := Go.Ground.data }, { on := 32, ground := Go.Ground.guard }], guard := some (32, true) }) (v := undef) rfl (by kernel_rfl) (by kernel_rfl) (by kernel_rfl) (fun _ _ _ h => h) (Or.inr ⟨by rfl, rfl⟩) (held_start w11) ?_
            try simp only [Act.put, List.setIfInBounds_toArray, List.set_cons_zero, List.set_cons_succ]
            refine wpAnyH_take (i := 40) (oi := { dst := some 193, op := Go.Op.pick (Go.Operand.tmp 185) (Go.Operand.tmp 192) (Go.Operand.const (Go.Value.bool false)), type := 4, pos := "outright.go:170", after := #[{ on := 32, ground := Go.Ground.data }, { on := 39, ground := Go.Ground.data }, { on := 30, ground := Go.Ground.guard }], guard := some (30, false) }) (v := ?v183) rfl (by kernel_rfl) (by kernel_rfl) (by kernel_rfl) (fun _ _ _ h => h) (Or.inl ⟨by rfl, ?hy183⟩) (held_start w11) ?r183
            case hy183 =>
             intro w' hSw
             have hq := hSw.1
             clear hSw
             go_simp
             with_reducible rfl
            try simp only [Act.put, List.setIfInBounds_toArray, List.set_cons_zero, List.set_cons_succ]
            refine wpAnyH_take (i := 41) (oi := { dst := some 194, op := Go.Op.pick (Go.Operand.tmp 183) (Go.Operand.const (Go.Value.bool true)) (Go.Operand.tmp 193), type := 4, pos := "outright.go:170", after := #[{ on := 30, ground := Go.Ground.data }, { on := 40, ground := Go.Ground.data }], guard := none }) (v := ?v184) rfl (by kernel_rfl) (by kernel_rfl) (by kernel_rfl) (fun _ _ _ h => h) (Or.inl ⟨by rfl, ?hy184⟩) (held_start w11) ?r184
            case hy184 =>
             intro w' hSw
             have hq := hSw.1
             clear hSw
             go_simp
             with_reducible rfl
            try simp only [Act.put, List.setIfInBounds_toArray, List.set_cons_zero, List.set_cons_succ]
            refine wpAnyH_done (by kernel_rfl) ?_ _
            show R _ _
            rw [HR.out]
            simp only [Act.put, List.setIfInBounds_toArray, List.set_cons_zero, List.set_cons_succ]
            exact ⟨⟨_, _, _, _, _, _, _, _, _, _, _, _, _, _, _, _, _, _, _, _, _, _, _, _, _, _, _, _, _, _, _, _, _, _, _, _, _, _, _, _, _, rfl⟩, (held_start w11)⟩
           ·refine wp_region_held_drew (S := fun w' => Held w11 w') (by kernel_rfl) (held_start w11) (fun _ => ?_)
            refine wpAnyH_take (i := 0) (oi := { dst := some 153, op := Go.Op.move (Go.Operand.tmp 15), type := 41, pos := "outright.go:170", after := #[], guard := none }) (v := ?v185) rfl (by kernel_rfl) (by kernel_rfl) (by kernel_rfl) (fun _ _ _ h => h) (Or.inl ⟨by rfl, ?hy185⟩) (held_start w11) ?r185
            case hy185 =>
             intro w' hSw
             have hq := hSw.1
             clear hSw
             go_simp
             with_reducible rfl
            try simp only [Act.put, List.setIfInBounds_toArray, List.set_cons_zero, List.set_cons_succ]
            refine wpAnyH_take (i := 1) (oi := { dst := some 154, op := Go.Op.binOp Go.BinOp.neq 41 (Go.Operand.tmp 153) (Go.Operand.const (Go.Value.int Go.IntKind.i64 0)) 41, type := 4, pos := "outright.go:170", after := #[{ on := 0, ground := Go.Ground.data }], guard := none }) (v := ?v186) rfl (by kernel_rfl) (by kernel_rfl) (by kernel_rfl) (fun _ _ _ h => h) (Or.inl ⟨by rfl, ?hy186⟩) (held_start w11) ?r186
            case hy186 =>
             intro w' hSw
             have hq := hSw.1
             clear hSw
             go_simp
             with_reducible rfl
            try simp only [Act.put, List.setIfInBounds_toArray, List.set_cons_zero, List.set_cons_succ]
            refine wpAnyH_take (i := 2) (oi := { dst := some 155, op := Go.Op.move (Go.Operand.tmp 154), type := 4, pos := "outright.go:170", after := #[{ on := 1, ground := Go.Ground.data }], guard := none }) (v := ?v187) rfl (by kernel_rfl) (by kernel_rfl) (by kernel_rfl) (fun _ _ _ h => h) (Or.inl ⟨by rfl, ?hy187⟩) (held_start w11) ?r187
            case hy187 =>
             intro w' hSw
             have hq := hSw.1
             clear hSw
             go_simp
             with_reducible rfl
            try simp only [Act.put, List.setIfInBounds_toArray, List.set_cons_zero, List.set_cons_succ]
            refine wpAnyH_take (i := 3) (oi := { dst := some 156, op := Go.Op.move (Go.Operand.tmp 17), type := 41, pos := "outright.go:170", after := #[{ on := 2, ground := Go.Ground.guard }], guard := some (2, false) }) (v := ?v188) rfl (by kernel_rfl) (by kernel_rfl) (by kernel_rfl) (fun _ _ _ h => h) (Or.inl ⟨by rfl, ?hy188⟩) (held_start w11) ?r188
            case hy188 =>
             intro w' hSw
             have hq := hSw.1
             clear hSw
             go_simp
             with_reducible rfl
            try simp only [Act.put, List.setIfInBounds_toArray, List.set_cons_zero, List.set_cons_succ]
            refine wpAnyH_take (i := 4) (oi := { dst := some 157, op := Go.Op.binOp Go.BinOp.neq 41 (Go.Operand.tmp 156) (Go.Operand.const (Go.Value.int Go.IntKind.i64 0)) 41, type := 4, pos := "outright.go:170", after := #[{ on := 3, ground := Go.Ground.data }, { on := 2, ground := Go.Ground.guard }], guard := some (2, false) }) (v := ?v189) rfl (by kernel_rfl) (by kernel_rfl) (by kernel_rfl) (fun _ _ _ h => h) (Or.inl ⟨by rfl, ?hy189⟩) (held_start w11) ?r189
            case hy189 =>
             intro w' hSw
             have hq := hSw.1
             clear hSw
             go_simp
             with_reducible rfl
            try simp only [Act.put, List.setIfInBounds_toArray, List.set_cons_zero, List.set_cons_succ]
            refine wpAnyH_take (i := 5) (oi := { dst := some 158, op := Go.Op.pick (Go.Operand.tmp 155) (Go.Operand.const (Go.Value.bool true)) (Go.Operand.tmp 157), type := 4, pos := "outright.go:170", after := #[{ on := 2, ground := Go.Ground.data }, { on := 4, ground := Go.Ground.data }], guard := none }) (v := ?v190) rfl (by kernel_rfl) (by kernel_rfl) (by kernel_rfl) (fun _ _ _ h => h) (Or.inl ⟨by rfl, ?hy190⟩) (held_start w11) ?r190
            case hy190 =>
             intro w' hSw
             have hq := hSw.1
             clear hSw
             go_simp
             with_reducible rfl
            try simp only [Act.put, List.setIfInBounds_toArray, List.set_cons_zero, List.set_cons_succ]
            refine wpAnyH_take (i := 6) (oi := { dst := some 159, op := Go.Op.move (Go.Operand.tmp 158), type := 4, pos := "outright.go:170", after := #[{ on := 5, ground := Go.Ground.data }, { on := 2, ground := Go.Ground.chain }], guard := none }) (v := ?v191) rfl (by kernel_rfl) (by kernel_rfl) (by kernel_rfl) (fun _ _ _ h => h) (Or.inl ⟨by rfl, ?hy191⟩) (held_start w11) ?r191
            case hy191 =>
             intro w' hSw
             have hq := hSw.1
             clear hSw
             go_simp
             with_reducible rfl
            try simp only [Act.put, List.setIfInBounds_toArray, List.set_cons_zero, List.set_cons_succ]
            refine wpAnyH_take (i := 7) (oi := { dst := some 160, op := Go.Op.move (Go.Operand.tmp 13), type := 3, pos := "outright.go:170", after := #[{ on := 6, ground := Go.Ground.guard }], guard := some (6, false) }) (v := ?v192) rfl (by kernel_rfl) (by kernel_rfl) (by kernel_rfl) (fun _ _ _ h => h) (Or.inl ⟨by rfl, ?hy192⟩) (held_start w11) ?r192
            case hy192 =>
             intro w' hSw
             have hq := hSw.1
             clear hSw
             go_simp
             with_reducible rfl
            try simp only [Act.put, List.setIfInBounds_toArray, List.set_cons_zero, List.set_cons_succ]
            refine wpAnyH_take (i := 8) (oi := { dst := some 161, op := Go.Op.binOp Go.BinOp.lss 3 (Go.Operand.tmp 160) (Go.Operand.const (Go.Value.int Go.IntKind.i64 2)) 3, type := 4, pos := "outright.go:170", after := #[{ on := 7, ground := Go.Ground.data }, { on := 6, ground := Go.Ground.guard }], guard := some (6, false) }) (v := ?v193) rfl (by kernel_rfl) (by kernel_rfl) (by kernel_rfl) (fun _ _ _ h => h) (Or.inl ⟨by rfl, ?hy193⟩) (held_start w11) ?r193
            case hy193 =>
             intro w' hSw
             have hq := hSw.1
             clear hSw
             go_simp
             with_reducible rfl
            try simp only [Act.put, List.setIfInBounds_toArray, List.set_cons_zero, List.set_cons_succ]
            refine wpAnyH_take (i := 9) (oi := { dst := some 162, op := Go.Op.move (Go.Operand.tmp 161), type := 4, pos := "outright.go:170", after := #[{ on := 8, ground := Go.Ground.data }, { on := 6, ground := Go.Ground.chain }, { on := 6, ground := Go.Ground.guard }], guard := some (6, false) }) (v := ?v194) rfl (by kernel_rfl) (by kernel_rfl) (by kernel_rfl) (fun _ _ _ h => h) (Or.inl ⟨by rfl, ?hy194⟩) (held_start w11) ?r194
            case hy194 =>
             intro w' hSw
             have hq := hSw.1
             clear hSw
             go_simp
             with_reducible rfl
            try simp only [Act.put, List.setIfInBounds_toArray, List.set_cons_zero, List.set_cons_succ]
            refine wpAnyH_take (i := 10) (oi := { dst := some 163, op := Go.Op.move (Go.Operand.tmp 14), type := 4, pos := "outright.go:170", after := #[{ on := 9, ground := Go.Ground.guard }], guard := some (9, true) }) (v := undef) rfl (by kernel_rfl) (by kernel_rfl) (by kernel_rfl) (fun _ _ _ h => h) (Or.inr ⟨by rfl, rfl⟩) (held_start w11) ?_
            try simp only [Act.put, List.setIfInBounds_toArray, List.set_cons_zero, List.set_cons_succ]
            refine wpAnyH_take (i := 11) (oi := { dst := some 164, op := Go.Op.unOp Go.UnOp.not 4 (Go.Operand.tmp 163), type := 4, pos := "outright.go:170", after := #[{ on := 10, ground := Go.Ground.data }, { on := 9, ground := Go.Ground.guard }], guard := some (9, true) }) (v := undef) rfl (by kernel_rfl) (by kernel_rfl) (by kernel_rfl) (fun _ _ _ h => h) (Or.inr ⟨by rfl, rfl⟩) (held_start w11) ?_
            try simp only [Act.put, List.setIfInBounds_toArray, List.set_cons_zero, List.set_cons_succ]
            refine wpAnyH_take (i := 12) (oi := { dst := some 165, op := Go.Op.move (Go.Operand.tmp 164), type := 4, pos := "outright.go:170", after := #[{ on := 11, ground := Go.Ground.data }, { on := 9, ground := Go.Ground.chain }, { on := 9, ground := Go.Ground.guard }], guard := some (9, true) }) (v := undef) rfl (by kernel_rfl) (by kernel_rfl) (by kernel_rfl) (fun _ _ _ h => h) (Or.inr ⟨by rfl, rfl⟩) (held_start w11) ?_
            try simp only [Act.put, List.setIfInBounds_toArray, List.set_cons_zero, List.set_cons_succ]
            refine wpAnyH_take (i := 13) (oi := { dst := some 166, op := Go.Op.move (Go.Operand.tmp 16), type := 4, pos := "outright.go:170", after := #[{ on := 12, ground := Go.Ground.guard }], guard := some (12, false) }) (v := undef) rfl (by kernel_rfl) (by kernel_rfl) (by kernel_rfl) (fun _ _ _ h => h) (Or.inr ⟨by rfl, rfl⟩) (held_start w11) ?_
            try simp only [Act.put, List.setIfInBounds_toArray, List.set_cons_zero, List.set_cons_succ]
            refine wpAnyH_take (i := 14) (oi := { dst := some 167, op := Go.Op.unOp Go.UnOp.not 4 (Go.Operand.tmp 166), type := 4, pos := "outright.go:170", after := #[{ on := 13, ground := Go.Ground.data }, { on := 12, ground := Go.Ground.guard }], guard := some (12, false) }) (v := undef) rfl (by kernel_rfl) (by kernel_rfl) (by kernel_rfl) (fun _ _ _ h => h) (Or.inr ⟨by rfl, rfl⟩) (held_start w11) ?_
            try simp only [Act.put, List.setIfInBounds_toArray, List.set_cons_zero, List.set_cons_succ]
            refine wpAnyH_take (i := 15) (oi := { dst := some 168, op := Go.Op.pick (Go.Operand.tmp 165) (Go.Operand.const (Go.Value.bool true)) (Go.Operand.tmp 167), type := 4, pos := "outright.go:170", after := #[{ on := 12, ground := Go.Ground.data }, { on := 14, ground := Go.Ground.data }, { on := 9, ground := Go.Ground.guard }], guard := some (9, true) }) (v := undef) rfl (by kernel_rfl) (by kernel_rfl) (by kernel_rfl) (fun _ _ _ h => h) (Or.inr ⟨by rfl, rfl⟩) (held_start w11) ?_
            try simp only [Act.put, List.setIfInBounds_toArray, List.set_cons_zero, List.set_cons_succ]
            refine wpAnyH_take (i := 16) (oi := { dst := some 169, op := Go.Op.pick (Go.Operand.tmp 162) (Go.Operand.tmp 168) (Go.Operand.const (Go.Value.bool false)), type := 4, pos := "outright.go:170", after := #[{ on := 9, ground := Go.Ground.data }, { on := 15, ground := Go.Ground.data }, { on := 6, ground := Go.Ground.guard }], guard := some (6, false) }) (v := ?v195) rfl (by kernel_rfl) (by kernel_rfl) (by kernel_rfl) (fun _ _ _ h => h) (Or.inl ⟨by rfl, ?hy195⟩) (held_start w11) ?r195
            case hy195 =>
             intro w' hSw
             have hq := hSw.1
             clear hSw
             go_simp
             with_reducible rfl
            try simp only [Act.put, List.setIfInBounds_toArray, List.set_cons_zero, List.set_cons_succ]
            refine wpAnyH_take (i := 17) (oi := { dst := some 170, op := Go.Op.pick (Go.Operand.tmp 159) (Go.Operand.const (Go.Value.bool true)) (Go.Operand.tmp 169), type := 4, pos := "outright.go:170", after := #[{ on := 6, ground := Go.Ground.data }, { on := 16, ground := Go.Ground.data }], guard := none }) (v := ?v196) rfl (by kernel_rfl) (by kernel_rfl) (by kernel_rfl) (fun _ _ _ h => h) (Or.inl ⟨by rfl, ?hy196⟩) (held_start w11) ?r196
            case hy196 =>
             intro w' hSw
             have hq := hSw.1
             clear hSw
             go_simp
             with_reducible rfl
            try simp only [Act.put, List.setIfInBounds_toArray, List.set_cons_zero, List.set_cons_succ]
            refine wpAnyH_take (i := 18) (oi := { dst := some 171, op := Go.Op.move (Go.Operand.tmp 170), type := 4, pos := "outright.go:170", after := #[{ on := 17, ground := Go.Ground.data }, { on := 12, ground := Go.Ground.chain }], guard := none }) (v := ?v197) rfl (by kernel_rfl) (by kernel_rfl) (by kernel_rfl) (fun _ _ _ h => h) (Or.inl ⟨by rfl, ?hy197⟩) (held_start w11) ?r197
            case hy197 =>
             intro w' hSw
             have hq := hSw.1
             clear hSw
             go_simp
             with_reducible rfl
            try simp only [Act.put, List.setIfInBounds_toArray, List.set_cons_zero, List.set_cons_succ]
            refine wpAnyH_take (i := 19) (oi := { dst := some 172, op := Go.Op.move (Go.Operand.tmp 14), type := 4, pos := "outright.go:170", after := #[{ on := 18, ground := Go.Ground.guard }], guard := some (18, false) }) (v := ?v198) rfl (by kernel_rfl) (by kernel_rfl) (by kernel_rfl) (fun _ _ _ h => h) (Or.inl ⟨by rfl, ?hy198⟩) (held_start w11) ?r198
            case hy198 =>
             intro w' hSw
             have hq := hSw.1
             clear hSw
             go_simp
             with_reducible rfl
            try simp only [Act.put, List.setIfInBounds_toArray, List.set_cons_zero, List.set_cons_succ]
            refine wpAnyH_take (i := 20) (oi := { dst := some 173, op := Go.Op.move (Go.Operand.tmp 172), type := 4, pos := "outright.go:170", after := #[{ on := 19, ground := Go.Ground.data }, { on := 18, ground := Go.Ground.chain }, { on := 18, ground := Go.Ground.guard }], guard := some (18, false) }) (v := ?v199) rfl (by kernel_rfl) (by kernel_rfl) (by kernel_rfl) (fun _ _ _ h => h) (Or.inl ⟨by rfl, ?hy199⟩) (held_start w11) ?r199
            case hy199 =>
             intro w' hSw
             have hq := hSw.1
             clear hSw
             go_simp
             with_reducible rfl
            try simp only [Act.put, List.setIfInBounds_toArray, List.set_cons_zero, List.set_cons_succ]
            refine wpAnyH_take (i := 21) (oi := { dst := some 174, op := Go.Op.load 24 (Go.Operand.tmp 7), type := 24, pos := "outright.go:170", after := #[{ on := 20, ground := Go.Ground.guard }], guard := some (20, true) }) (v := undef) rfl (by kernel_rfl) (by kernel_rfl) (by kernel_rfl) (fun _ _ _ h => h) (Or.inr ⟨by rfl, rfl⟩) (held_start w11) ?_
            try simp only [Act.put, List.setIfInBounds_toArray, List.set_cons_zero, List.set_cons_succ]
            refine wpAnyH_take (i := 22) (oi := { dst := some 175, op := Go.Op.move (Go.Operand.tmp 11), type := 31, pos := "outright.go:170", after := #[{ on := 20, ground := Go.Ground.guard }], guard := some (20, true) }) (v := undef) rfl (by kernel_rfl) (by kernel_rfl) (by kernel_rfl) (fun _ _ _ h => h) (Or.inr ⟨by rfl, rfl⟩) (held_start w11) ?_
            try simp only [Act.put, List.setIfInBounds_toArray, List.set_cons_zero, List.set_cons_succ]
            refine wpAnyH_take (i := 23) (oi := { dst := some 176, op := Go.Op.move (Go.Operand.tmp 13), type := 3, pos := "outright.go:170", after := #[{ on := 20, ground := Go.Ground.guard }], guard := some (20, true) }) (v := undef) rfl (by kernel_rfl) (by kernel_rfl) (by kernel_rfl) (fun _ _ _ h => h) (Or.inr ⟨by rfl, rfl⟩) (held_start w11) ?_
            try simp only [Act.put, List.setIfInBounds_toArray, List.set_cons_zero, List.set_cons_succ]
            refine wpAnyH_take (i := 24) (oi := { dst := some 177, op := Go.Op.indexAddr 31 (Go.Operand.tmp 175) (Go.Operand.tmp 176), type := 0, pos := "outright.go:170", after := #[{ on := 22, ground := Go.Ground.data }, { on := 23, ground := Go.Ground.data }, { on := 20, ground := Go.Ground.guard }], guard := some (20, true) }) (v := undef) rfl (by kernel_rfl) (by kernel_rfl) (by kernel_rfl) (fun _ _ _ h => h) (Or.inr ⟨by rfl, rfl⟩) (held_start w11) ?_
            try simp only [Act.put, List.setIfInBounds_toArray, List.set_cons_zero, List.set_cons_succ]
            refine wpAnyH_take (i := 25) (oi := { dst := some 178, op := Go.Op.load 3 (Go.Operand.tmp 177), type := 3, pos := "outright.go:170", after := #[{ on := 24, ground := Go.Ground.data }, { on := 20, ground := Go.Ground.guard }], guard := some (20, true) }) (v := undef) rfl (by kernel_rfl) (by kernel_rfl) (by kernel_rfl) (fun _ _ _ h => h) (Or.inr ⟨by rfl, rfl⟩) (held_start w11) ?_
            try simp only [Act.put, List.setIfInBounds_toArray, List.set_cons_zero, List.set_cons_succ]
            refine wpAnyH_take (i := 26) (oi := { dst := some 179, op := Go.Op.call { callee := Go.Callee.value (Go.Operand.func 22), args := #[Go.Operand.tmp 174, Go.Operand.tmp 178], argTypes := #[24, 3] }, type := 4, pos := "outright.go:170", after := #[{ on := 21, ground := Go.Ground.data }, { on := 25, ground := Go.Ground.data }, { on := 20, ground := Go.Ground.chain }, { on := 20, ground := Go.Ground.guard }], guard := some (20, true) }) (v := undef) rfl (by kernel_rfl) (by kernel_rfl) (by kernel_rfl) (fun _ _ _ h => h) (Or.inr ⟨by rfl, rfl⟩) (held_start w11) ?_
            try simp only [Act.put, List.setIfInBounds_toArray, List.set_cons_zero, List.set_cons_succ]
            refine wpAnyH_take (i := 27) (oi := { dst := some 180, op := Go.Op.unOp Go.UnOp.not 4 (Go.Operand.tmp 179), type := 4, pos := "outright.go:170", after := #[{ on := 26, ground := Go.Ground.data }, { on := 20, ground := Go.Ground.guard }], guard := some (20, true) }) (v := undef) rfl (by kernel_rfl) (by kernel_rfl) (by kernel_rfl) (fun _ _ _ h => h) (Or.inr ⟨by rfl, rfl⟩) (held_start w11) ?_
            try simp only [Act.put, List.setIfInBounds_toArray, List.set_cons_zero, List.set_cons_succ]
            refine wpAnyH_take (i := 28) (oi := { dst := some 181, op := Go.Op.pick (Go.Operand.tmp 173) (Go.Operand.tmp 180) (Go.Operand.const (Go.Value.bool false)), type := 4, pos := "outright.go:170", after := #[{ on := 20, ground := Go.Ground.data }, { on := 27, ground := Go.Ground.data }, { on := 18, ground := Go.Ground.guard }], guard := some (18, false) }) (v := ?v200) rfl (by kernel_rfl) (by kernel_rfl) (by kernel_rfl) (fun _ _ _ h => h) (Or.inl ⟨by rfl, ?hy200⟩) (held_start w11) ?r200
            case hy200 =>
             intro w' hSw
             have hq := hSw.1
             clear hSw
             go_simp
             with_reducible rfl
            try simp only [Act.put, List.setIfInBounds_toArray, List.set_cons_zero, List.set_cons_succ]
            refine wpAnyH_take (i := 29) (oi := { dst := some 182, op := Go.Op.pick (Go.Operand.tmp 171) (Go.Operand.const (Go.Value.bool true)) (Go.Operand.tmp 181), type := 4, pos := "outright.go:170", after := #[{ on := 18, ground := Go.Ground.data }, { on := 28, ground := Go.Ground.data }], guard := none }) (v := ?v201) rfl (by kernel_rfl) (by kernel_rfl) (by kernel_rfl) (fun _ _ _ h => h) (Or.inl ⟨by rfl, ?hy201⟩) (held_start w11) ?r201
            case hy201 =>
             intro w' hSw
             have hq := hSw.1
             clear hSw
             go_simp
             with_reducible rfl
            try simp only [Act.put, List.setIfInBounds_toArray, List.set_cons_zero, List.set_cons_succ]
            refine wpAnyH_take (i := 30) (oi := { dst := some 183, op := Go.Op.move (Go.Operand.tmp 182), type := 4, pos := "outright.go:170", after := #[{ on := 29, ground := Go.Ground.data }, { on := 26, ground := Go.Ground.chain }], guard := none }) (v := ?v202) rfl (by kernel_rfl) (by kernel_rfl) (by kernel_rfl) (fun _ _ _ h => h) (Or.inl ⟨by rfl, ?hy202⟩) (held_start w11) ?r202
            case hy202 =>
             intro w' hSw
             have hq := hSw.1
             clear hSw
             go_simp
             with_reducible rfl
            try simp only [Act.put, List.setIfInBounds_toArray, List.set_cons_zero, List.set_cons_succ]
            refine wpAnyH_take (i := 31) (oi := { dst := some 184, op := Go.Op.move (Go.Operand.tmp 16), type := 4, pos := "outright.go:170", after := #[{ on := 30, ground := Go.Ground.guard }], guard := some (30, false) }) (v := ?v203) rfl (by kernel_rfl) (by kernel_rfl) (by kernel_rfl) (fun _ _ _ h => h) (Or.inl ⟨by rfl, ?hy203⟩) (held_start w11) ?r203
            case hy203 =>
             intro w' hSw
             have hq := hSw.1
             clear hSw
             go_simp
             with_reducible rfl
            try simp only [Act.put, List.setIfInBounds_toArray, List.set_cons_zero, List.set_cons_succ]
            refine wpAnyH_take (i := 32) (oi := { dst := some 185, op := Go.Op.move (Go.Operand.tmp 184), type := 4, pos := "outright.go:170", after := #[{ on := 31, ground := Go.Ground.data }, { on := 30, ground := Go.Ground.chain }, { on := 30, ground := Go.Ground.guard }], guard := some (30, false) }) (v := ?v204) rfl (by kernel_rfl) (by kernel_rfl) (by kernel_rfl) (fun _ _ _ h => h) (Or.inl ⟨by rfl, ?hy204⟩) (held_start w11) ?r204
            case hy204 =>
             intro w' hSw
             have hq := hSw.1
             clear hSw
             go_simp
             with_reducible rfl
            try simp only [Act.put, List.setIfInBounds_toArray, List.set_cons_zero, List.set_cons_succ]
            refine wpAnyH_take (i := 33) (oi := { dst := some 186, op := Go.Op.load 24 (Go.Operand.tmp 9), type := 24, pos := "outright.go:170", after := #[{ on := 32, ground := Go.Ground.guard }], guard := some (32, true) }) (v := ?v205) rfl (by kernel_rfl) (by kernel_rfl) (by kernel_rfl) (fun _ _ _ h => h) (Or.inl ⟨by rfl, ?hy205⟩) (held_start w11) ?r205
            case hy205 =>
             intro w' hSw
             have hq := hSw.1
             clear hSw
             go_simp
             with_reducible rfl
            try simp only [Act.put, List.setIfInBounds_toArray, List.set_cons_zero, List.set_cons_succ]
            refine wpAnyH_take (i := 34) (oi := { dst := some 187, op := Go.Op.move (Go.Operand.tmp 12), type := 31, pos := "outright.go:170", after := #[{ on := 32, ground := Go.Ground.guard }], guard := some (32, true) }) (v := ?v206) rfl (by kernel_rfl) (by kernel_rfl) (by kernel_rfl) (fun _ _ _ h => h) (Or.inl ⟨by rfl, ?hy206⟩) (held_start w11) ?r206
            case hy206 =>
             intro w' hSw
             have hq := hSw.1
             clear hSw
             go_simp
             with_reducible rfl
            try simp only [Act.put, List.setIfInBounds_toArray, List.set_cons_zero, List.set_cons_succ]
            refine wpAnyH_take (i := 35) (oi := { dst := some 188, op := Go.Op.move (Go.Operand.tmp 13), type := 3, pos := "outright.go:170", after := #[{ on := 32, ground := Go.Ground.guard }], guard := some (32, true) }) (v := ?v207) rfl (by kernel_rfl) (by kernel_rfl) (by kernel_rfl) (fun _ _ _ h => h) (Or.inl ⟨by rfl, ?hy207⟩) (held_start w11) ?r207
            case hy207 =>
             intro w' hSw
             have hq := hSw.1
             clear hSw
             go_simp
             with_reducible rfl
            try simp only [Act.put, List.setIfInBounds_toArray, List.set_cons_zero, List.set_cons_succ]
            refine wpAnyH_take (i := 36) (oi := { dst := some 189, op := Go.Op.indexAddr 31 (Go.Operand.tmp 187) (Go.Operand.tmp 188), type := 0, pos := "outright.go:170", after := #[{ on := 34, ground := Go.Ground.data }, { on := 35, ground := Go.Ground.data }, { on := 32, ground := Go.Ground.guard }], guard := some (32, true) }) (v := ?v208) rfl (by kernel_rfl) (by kernel_rfl) (by kernel_rfl) (fun _ _ _ h => h) (Or.inl ⟨by rfl, ?hy208⟩) (held_start w11) ?r208
            case hy208 =>
             intro w' hSw
             have hq := hSw.1
             clear hSw
             go_simp
             with_reducible rfl
            try simp only [Act.put, List.setIfInBounds_toArray, List.set_cons_zero, List.set_cons_succ]
            refine wpAnyH_take (i := 37) (oi := { dst := some 190, op := Go.Op.load 3 (Go.Operand.tmp 189), type := 3, pos := "outright.go:170", after := #[{ on := 36, ground := Go.Ground.data }, { on := 32, ground := Go.Ground.guard }], guard := some (32, true) }) (v := ?v209) rfl (by kernel_rfl) (by kernel_rfl) (by kernel_rfl) (fun _ _ _ h => h) (Or.inl ⟨by rfl, ?hy209⟩) (held_start w11) ?r209
            case hy209 =>
             intro w' hSw
             have hq := hSw.1
             clear hSw
             go_simp
             with_reducible rfl
            try simp only [Act.put, List.setIfInBounds_toArray, List.set_cons_zero, List.set_cons_succ]
            refine wpAnyH_ready (rs := [38]) (by kernel_rfl) (by simp) ?_
            refine AllReadyH.cons rfl (fun K hK => ?_) AllReadyH.nil
            go_simp
            refine (HCC.out rfl _).mono ?_
            rintro e w210 ⟨rfl, hBw210⟩
            have hSw210 := held_step hBw210 (held_start w11)
            refine hK.out _ _ hSw210 (fun _ => ?_)
            clear hK K
            try simp only [Act.put, List.setIfInBounds_toArray, List.set_cons_zero, List.set_cons_succ]
            refine wpAnyH_take (i := 39) (oi := { dst := some 192, op := Go.Op.unOp Go.UnOp.not 4 (Go.Operand.tmp 191), type := 4, pos := "outright.go:170", after := #[{ on := 38, ground := Go.Ground.data }, { on := 32, ground := Go.Ground.guard }], guard := some (32, true) }) (v := ?v211) rfl (by kernel_rfl) (by kernel_rfl) (by kernel_rfl) (fun _ _ _ h => h) (Or.inl ⟨by rfl, ?hy211⟩) hSw210 ?r211
            case hy211 =>
             intro w' hSw
             have hq := hSw.1
             clear hSw
             go_simp
             with_reducible rfl
            try simp only [Act.put, List.setIfInBounds_toArray, List.set_cons_zero, List.set_cons_succ]
            refine wpAnyH_take (i := 40) (oi := { dst := some 193, op := Go.Op.pick (Go.Operand.tmp 185) (Go.Operand.tmp 192) (Go.Operand.const (Go.Value.bool false)), type := 4, pos := "outright.go:170", after := #[{ on := 32, ground := Go.Ground.data }, { on := 39, ground := Go.Ground.data }, { on := 30, ground := Go.Ground.guard }], guard := some (30, false) }) (v := ?v212) rfl (by kernel_rfl) (by kernel_rfl) (by kernel_rfl) (fun _ _ _ h => h) (Or.inl ⟨by rfl, ?hy212⟩) hSw210 ?r212
            case hy212 =>
             intro w' hSw
             have hq := hSw.1
             clear hSw
             go_simp
             with_reducible rfl
            try simp only [Act.put, List.setIfInBounds_toArray, List.set_cons_zero, List.set_cons_succ]
            refine wpAnyH_take (i := 41) (oi := { dst := some 194, op := Go.Op.pick (Go.Operand.tmp 183) (Go.Operand.const (Go.Value.bool true)) (Go.Operand.tmp 193), type := 4, pos := "outright.go:170", after := #[{ on := 30, ground := Go.Ground.data }, { on := 40, ground := Go.Ground.data }], guard := none }) (v := ?v213) rfl (by kernel_rfl) (by kernel_rfl) (by kernel_rfl) (fun _ _ _ h => h) (Or.inl ⟨by rfl, ?hy213⟩) hSw210 ?r213
            case hy213 =>
             intro w' hSw
             have hq := hSw.1
             clear hSw
             go_simp
             with_reducible rfl
            try simp only [Act.put, List.setIfInBounds_toArray, List.set_cons_zero, List.set_cons_succ]
            refine wpAnyH_done (by kernel_rfl) ?_ _
            show R _ _
            rw [HR.out]
            simp only [Act.put, List.setIfInBounds_toArray, List.set_cons_zero, List.set_cons_succ]
            exact ⟨⟨_, _, _, _, _, _, _, _, _, _, _, _, _, _, _, _, _, _, _, _, _, _, _, _, _, _, _, _, _, _, _, _, _, _, _, _, _, _, _, _, _, rfl⟩, hSw210⟩
           ·refine wp_region_held_drew (S := fun w' => Held w11 w') (by kernel_rfl) (held_start w11) (fun _ => ?_)
            refine wpAnyH_take (i := 0) (oi := { dst := some 153, op := Go.Op.move (Go.Operand.tmp 15), type := 41, pos := "outright.go:170", after := #[], guard := none }) (v := ?v214) rfl (by kernel_rfl) (by kernel_rfl) (by kernel_rfl) (fun _ _ _ h => h) (Or.inl ⟨by rfl, ?hy214⟩) (held_start w11) ?r214
            case hy214 =>
             intro w' hSw
             have hq := hSw.1
             clear hSw
             go_simp
             with_reducible rfl
            try simp only [Act.put, List.setIfInBounds_toArray, List.set_cons_zero, List.set_cons_succ]
            refine wpAnyH_take (i := 1) (oi := { dst := some 154, op := Go.Op.binOp Go.BinOp.neq 41 (Go.Operand.tmp 153) (Go.Operand.const (Go.Value.int Go.IntKind.i64 0)) 41, type := 4, pos := "outright.go:170", after := #[{ on := 0, ground := Go.Ground.data }], guard := none }) (v := ?v215) rfl (by kernel_rfl) (by kernel_rfl) (by kernel_rfl) (fun _ _ _ h => h) (Or.inl ⟨by rfl, ?hy215⟩) (held_start w11) ?r215
            case hy215 =>
             intro w' hSw
             have hq := hSw.1
             clear hSw
             go_simp
             with_reducible rfl
            try simp only [Act.put, List.setIfInBounds_toArray, List.set_cons_zero, List.set_cons_succ]
            refine wpAnyH_take (i := 2) (oi := { dst := some 155, op := Go.Op.move (Go.Operand.tmp 154), type := 4, pos := "outright.go:170", after := #[{ on := 1, ground := Go.Ground.data }], guard := none }) (v := ?v216) rfl (by kernel_rfl) (by kernel_rfl) (by kernel_rfl) (fun _ _ _ h => h) (Or.inl ⟨by rfl, ?hy216⟩) (held_start w11) ?r216
            case hy216 =>
             intro w' hSw
             have hq := hSw.1
             clear hSw
             go_simp
             with_reducible rfl
            try simp only [Act.put, List.setIfInBounds_toArray, List.set_cons_zero, List.set_cons_succ]
            refine wpAnyH_take (i := 3) (oi := { dst := some 156, op := Go.Op.move (Go.Operand.tmp 17), type := 41, pos := "outright.go:170", after := #[{ on := 2, ground := Go.Ground.guard }], guard := some (2, false) }) (v := ?v217) rfl (by kernel_rfl) (by kernel_rfl) (by kernel_rfl) (fun _ _ _ h => h) (Or.inl ⟨by rfl, ?hy217⟩) (held_start w11) ?r217
            case hy217 =>
             intro w' hSw
             have hq := hSw.1
             clear hSw
             go_simp
             with_reducible rfl
            try simp only [Act.put, List.setIfInBounds_toArray, List.set_cons_zero, List.set_cons_succ]
            refine wpAnyH_take (i := 4) (oi := { dst := some 157, op := Go.Op.binOp Go.BinOp.neq 41 (Go.Operand.tmp 156) (Go.Operand.const (Go.Value.int Go.IntKind.i64 0)) 41, type := 4, pos := "outright.go:170", after := #[{ on := 3, ground := Go.Ground.data }, { on := 2, ground := Go.Ground.guard }], guard := some (2, false) }) (v := ?v218) rfl (by kernel_rfl) (by kernel_rfl) (by kernel_rfl) (fun _ _ _ h => h) (Or.inl ⟨by rfl, ?hy218⟩) (held_start w11) ?r218
            case hy218 =>
             intro w' hSw
             have hq := hSw.1
             clear hSw
             go_simp
             with_reducible rfl
            try simp only [Act.put, List.setIfInBounds_toArray, List.set_cons_zero, List.set_cons_succ]
            refine wpAnyH_take (i := 5) (oi := { dst := some 158, op := Go.Op.pick (Go.Operand.tmp 155) (Go.Operand.const (Go.Value.bool true)) (Go.Operand.tmp 157), type := 4, pos := "outright.go:170", after := #[{ on := 2, ground := Go.Ground.data }, { on := 4, ground := Go.Ground.data }], guard := none }) (v := ?v219) rfl (by kernel_rfl) (by kernel_rfl) (by kernel_rfl) (fun _ _ _ h => h) (Or.inl ⟨by rfl, ?hy219⟩) (held_start w11) ?r219
            case hy219 =>
             intro w' hSw
             have hq := hSw.1
             clear hSw
             go_simp
             with_reducible rfl
            try simp only [Act.put, List.setIfInBounds_toArray, List.set_cons_zero, List.set_cons_succ]
            refine wpAnyH_take (i := 6) (oi := { dst := some 159, op := Go.Op.move (Go.Operand.tmp 158), type := 4, pos := "outright.go:170", after := #[{ on := 5, ground := Go.Ground.data }, { on := 2, ground := Go.Ground.chain }], guard := none }) (v := ?v220) rfl (by kernel_rfl) (by kernel_rfl) (by kernel_rfl) (fun _ _ _ h => h) (Or.inl ⟨by rfl, ?hy220⟩) (held_start w11) ?r220
            case hy220 =>
             intro w' hSw
             have hq := hSw.1
             clear hSw
             go_simp
             with_reducible rfl
            try simp only [Act.put, List.setIfInBounds_toArray, List.set_cons_zero, List.set_cons_succ]
            refine wpAnyH_take (i := 7) (oi := { dst := some 160, op := Go.Op.move (Go.Operand.tmp 13), type := 3, pos := "outright.go:170", after := #[{ on := 6, ground := Go.Ground.guard }], guard := some (6, false) }) (v := ?v221) rfl (by kernel_rfl) (by kernel_rfl) (by kernel_rfl) (fun _ _ _ h => h) (Or.inl ⟨by rfl, ?hy221⟩) (held_start w11) ?r221
            case hy221 =>
             intro w' hSw
             have hq := hSw.1
             clear hSw
             go_simp
             with_reducible rfl
            try simp only [Act.put, List.setIfInBounds_toArray, List.set_cons_zero, List.set_cons_succ]
            refine wpAnyH_take (i := 8) (oi := { dst := some 161, op := Go.Op.binOp Go.BinOp.lss 3 (Go.Operand.tmp 160) (Go.Operand.const (Go.Value.int Go.IntKind.i64 2)) 3, type := 4, pos := "outright.go:170", after := #[{ on := 7, ground := Go.Ground.data }, { on := 6, ground := Go.Ground.guard }], guard := some (6, false) }) (v := ?v222) rfl (by kernel_rfl) (by kernel_rfl) (by kernel_rfl) (fun _ _ _ h => h) (Or.inl ⟨by rfl, ?hy222⟩) (held_start w11) ?r222
            case hy222 =>
             intro w' hSw
             have hq := hSw.1
             clear hSw
             go_simp
             with_reducible rfl
            try simp only [Act.put, List.setIfInBounds_toArray, List.set_cons_zero, List.set_cons_succ]
            refine wpAnyH_take (i := 9) (oi := { dst := some 162, op := Go.Op.move (Go.Operand.tmp 161), type := 4, pos := "outright.go:170", after := #[{ on := 8, ground := Go.Ground.data }, { on := 6, ground := Go.Ground.chain }, { on := 6, ground := Go.Ground.guard }], guard := some (6, false) }) (v := ?v223) rfl (by kernel_rfl) (by kernel_rfl) (by kernel_rfl) (fun _ _ _ h => h) (Or.inl ⟨by rfl, ?hy223⟩) (held_start w11) ?r223
            case hy223 =>
             intro w' hSw
             have hq := hSw.1
             clear hSw
             go_simp
             with_reducible rfl
            try simp only [Act.put, List.setIfInBounds_toArray, List.set_cons_zero, List.set_cons_succ]
            refine wpAnyH_take (i := 10) (oi := { dst := some 163, op := Go.Op.move (Go.Operand.tmp 14), type := 4, pos := "outright.go:170", after := #[{ on := 9, ground := Go.Ground.guard }], guard := some (9, true) }) (v := undef) rfl (by kernel_rfl) (by kernel_rfl) (by kernel_rfl) (fun _ _ _ h => h) (Or.inr ⟨by rfl, rfl⟩) (held_start w11) ?_
            try simp only [Act.put, List.setIfInBounds_toArray, List.set_cons_zero, List.set_cons_succ]
            refine wpAnyH_take (i := 11) (oi := { dst := some 164, op := Go.Op.unOp Go.UnOp.not 4 (Go.Operand.tmp 163), type := 4, pos := "outright.go:170", after := #[{ on := 10, ground := Go.Ground.data }, { on := 9, ground := Go.Ground.guard }], guard := some (9, true) }) (v := undef) rfl (by kernel_rfl) (by kernel_rfl) (by kernel_rfl) (fun _ _ _ h => h) (Or.inr ⟨by rfl, rfl⟩) (held_start w11) ?_
            try simp only [Act.put, List.setIfInBounds_toArray, List.set_cons_zero, List.set_cons_succ]
            refine wpAnyH_take (i := 12) (oi := { dst := some 165, op := Go.Op.move (Go.Operand.tmp 164), type := 4, pos := "outright.go:170", after := #[{ on := 11, ground := Go.Ground.data }, { on := 9, ground := Go.Ground.chain }, { on := 9, ground := Go.Ground.guard }], guard := some (9, true) }) (v := undef) rfl (by kernel_rfl) (by kernel_rfl) (by kernel_rfl) (fun _ _ _ h => h) (Or.inr ⟨by rfl, rfl⟩) (held_start w11) ?_
            try simp only [Act.put, List.setIfInBounds_toArray, List.set_cons_zero, List.set_cons_succ]
            refine wpAnyH_take (i := 13) (oi := { dst := some 166, op := Go.Op.move (Go.Operand.tmp 16), type := 4, pos := "outright.go:170", after := #[{ on := 12, ground := Go.Ground.guard }], guard := some (12, false) }) (v := undef) rfl (by kernel_rfl) (by kernel_rfl) (by kernel_rfl) (fun _ _ _ h => h) (Or.inr ⟨by rfl, rfl⟩) (held_start w11) ?_
            try simp only [Act.put, List.setIfInBounds_toArray, List.set_cons_zero, List.set_cons_succ]
            refine wpAnyH_take (i := 14) (oi := { dst := some 167, op := Go.Op.unOp Go.UnOp.not 4 (Go.Operand.tmp 166), type := 4, pos := "outright.go:170", after := #[{ on := 13, ground := Go.Ground.data }, { on := 12, ground := Go.Ground.guard }], guard := some (12, false) }) (v := undef) rfl (by kernel_rfl) (by kernel_rfl) (by kernel_rfl) (fun _ _ _ h => h) (Or.inr ⟨by rfl, rfl⟩) (held_start w11) ?_
            try simp only [Act.put, List.setIfInBounds_toArray, List.set_cons_zero, List.set_cons_succ]
            refine wpAnyH_take (i := 15) (oi := { dst := some 168, op := Go.Op.pick (Go.Operand.tmp 165) (Go.Operand.const (Go.Value.bool true)) (Go.Operand.tmp 167), type := 4, pos := "outright.go:170", after := #[{ on := 12, ground := Go.Ground.data }, { on := 14, ground := Go.Ground.data }, { on := 9, ground := Go.Ground.guard }], guard := some (9, true) }) (v := undef) rfl (by kernel_rfl) (by kernel_rfl) (by kernel_rfl) (fun _ _ _ h => h) (Or.inr ⟨by rfl, rfl⟩) (held_start w11) ?_
            try simp only [Act.put, List.setIfInBounds_toArray, List.set_cons_zero, List.set_cons_succ]
            refine wpAnyH_take (i := 16) (oi := { dst := some 169, op := Go.Op.pick (Go.Operand.tmp 162) (Go.Operand.tmp 168) (Go.Operand.const (Go.Value.bool false)), type := 4, pos := "outright.go:170", after := #[{ on := 9, ground := Go.Ground.data }, { on := 15, ground := Go.Ground.data }, { on := 6, ground := Go.Ground.guard }], guard := some (6, false) }) (v := ?v224) rfl (by kernel_rfl) (by kernel_rfl) (by kernel_rfl) (fun _ _ _ h => h) (Or.inl ⟨by rfl, ?hy224⟩) (held_start w11) ?r224
            case hy224 =>
             intro w' hSw
             have hq := hSw.1
             clear hSw
             go_simp
             with_reducible rfl
            try simp only [Act.put, List.setIfInBounds_toArray, List.set_cons_zero, List.set_cons_succ]
            refine wpAnyH_take (i := 17) (oi := { dst := some 170, op := Go.Op.pick (Go.Operand.tmp 159) (Go.Operand.const (Go.Value.bool true)) (Go.Operand.tmp 169), type := 4, pos := "outright.go:170", after := #[{ on := 6, ground := Go.Ground.data }, { on := 16, ground := Go.Ground.data }], guard := none }) (v := ?v225) rfl (by kernel_rfl) (by kernel_rfl) (by kernel_rfl) (fun _ _ _ h => h) (Or.inl ⟨by rfl, ?hy225⟩) (held_start w11) ?r225
            case hy225 =>
             intro w' hSw
             have hq := hSw.1
             clear hSw
             go_simp
             with_reducible rfl
            try simp only [Act.put, List.setIfInBounds_toArray, List.set_cons_zero, List.set_cons_succ]
            refine wpAnyH_take (i := 18) (oi := { dst := some 171, op := Go.Op.move (Go.Operand.tmp 170), type := 4, pos := "outright.go:170", after := #[{ on := 17, ground := Go.Ground.data }, { on := 12, ground := Go.Ground.chain }], guard := none }) (v := ?v226) rfl (by kernel_rfl) (by kernel_rfl) (by kernel_rfl) (fun _ _ _ h => h) (Or.inl ⟨by rfl, ?hy226⟩) (held_start w11) ?r226
            case hy226 =>
             intro w' hSw
             have hq := hSw.1
             clear hSw
             go_simp
             with_reducible rfl
            try simp only [Act.put, List.setIfInBounds_toArray, List.set_cons_zero, List.set_cons_succ]
            refine wpAnyH_take (i := 19) (oi := { dst := some 172, op := Go.Op.move (Go.Operand.tmp 14), type := 4, pos := "outright.go:170", after := #[{ on := 18, ground := Go.Ground.guard }], guard := some (18, false) }) (v := ?v227) rfl (by kernel_rfl) (by kernel_rfl) (by kernel_rfl) (fun _ _ _ h => h) (Or.inl ⟨by rfl, ?hy227⟩) (held_start w11) ?r227
            case hy227 =>
             intro w' hSw
             have hq := hSw.1
             clear hSw
             go_simp
             with_reducible rfl
            try simp only [Act.put, List.setIfInBounds_toArray, List.set_cons_zero, List.set_cons_succ]
            refine wpAnyH_take (i := 20) (oi := { dst := some 173, op := Go.Op.move (Go.Operand.tmp 172), type := 4, pos := "outright.go:170", after := #[{ on := 19, ground := Go.Ground.data }, { on := 18, ground := Go.Ground.chain }, { on := 18, ground := Go.Ground.guard }], guard := some (18, false) }) (v := ?v228) rfl (by kernel_rfl) (by kernel_rfl) (by kernel_rfl) (fun _ _ _ h => h) (Or.inl ⟨by rfl, ?hy228⟩) (held_start w11) ?r228
            case hy228 =>
             intro w' hSw
             have hq := hSw.1
             clear hSw
             go_simp
             with_reducible rfl
            try simp only [Act.put, List.setIfInBounds_toArray, List.set_cons_zero, List.set_cons_succ]
            refine wpAnyH_take (i := 21) (oi := { dst := some 174, op := Go.Op.load 24 (Go.Operand.tmp 7), type := 24, pos := "outright.go:170", after := #[{ on := 20, ground := Go.Ground.guard }], guard := some (20, true) }) (v := ?v229) rfl (by kernel_rfl) (by kernel_rfl) (by kernel_rfl) (fun _ _ _ h => h) (Or.inl ⟨by rfl, ?hy229⟩) (held_start w11) ?r229
            case hy229 =>
             intro w' hSw
             have hq := hSw.1
             clear hSw
             go_simp
             with_reducible rfl
            try simp only [Act.put, List.setIfInBounds_toArray, List.set_cons_zero, List.set_cons_succ]
            refine wpAnyH_take (i := 22) (oi := { dst := some 175, op := Go.Op.move (Go.Operand.tmp 11), type := 31, pos := "outright.go:170", after := #[{ on := 20, ground := Go.Ground.guard }], guard := some (20, true) }) (v := ?v230) rfl (by kernel_rfl) (by kernel_rfl) (by kernel_rfl) (fun _ _ _ h => h) (Or.inl ⟨by rfl, ?hy230⟩) (held_start w11) ?r230
            case hy230 =>
             intro w' hSw
             have hq := hSw.1
             clear hSw
             go_simp
             with_reducible rfl
            try simp only [Act.put, List.setIfInBounds_toArray, List.set_cons_zero, List.set_cons_succ]
            refine wpAnyH_take (i := 23) (oi := { dst := some 176, op := Go.Op.move (Go.Operand.tmp 13), type := 3, pos := "outright.go:170", after := #[{ on := 20, ground := Go.Ground.guard }], guard := some (20, true) }) (v := ?v231) rfl (by kernel_rfl) (by kernel_rfl) (by kernel_rfl) (fun _ _ _ h => h) (Or.inl ⟨by rfl, ?hy231⟩) (held_start w11) ?r231
            case hy231 =>
             intro w' hSw
             have hq := hSw.1
             clear hSw
             go_simp
             with_reducible rfl
            try simp only [Act.put, List.setIfInBounds_toArray, List.set_cons_zero, List.set_cons_succ]
            refine wpAnyH_take (i := 24) (oi := { dst := some 177, op := Go.Op.indexAddr 31 (Go.Operand.tmp 175) (Go.Operand.tmp 176), type := 0, pos := "outright.go:170", after := #[{ on := 22, ground := Go.Ground.data }, { on := 23, ground := Go.Ground.data }, { on := 20, ground := Go.Ground.guard }], guard := some (20, true) }) (v := ?v232) rfl (by kernel_rfl) (by kernel_rfl) (by kernel_rfl) (fun _ _ _ h => h) (Or.inl ⟨by rfl, ?hy232⟩) (held_start w11) ?r232
            case hy232 =>
             intro w' hSw
             have hq := hSw.1
             clear hSw
             go_simp
             with_reducible rfl
            try simp only [Act.put, List.setIfInBounds_toArray, List.set_cons_zero, List.set_cons_succ]
            refine wpAnyH_take (i := 25) (oi := { dst := some 178, op := Go.Op.load 3 (Go.Operand.tmp 177), type := 3, pos := "outright.go:170", after := #[{ on := 24, ground := Go.Ground.data }, { on := 20, ground := Go.Ground.guard }], guard := some (20, true) }) (v := ?v233) rfl (by kernel_rfl) (by kernel_rfl) (by kernel_rfl) (fun _ _ _ h => h) (Or.inl ⟨by rfl, ?hy233⟩) (held_start w11) ?r233
            case hy233 =>
             intro w' hSw
             have hq := hSw.1
             clear hSw
             go_simp
             with_reducible rfl
            try simp only [Act.put, List.setIfInBounds_toArray, List.set_cons_zero, List.set_cons_succ]
            refine wpAnyH_ready (rs := [26]) (by kernel_rfl) (by simp) ?_
            refine AllReadyH.cons rfl (fun K hK => ?_) AllReadyH.nil
            go_simp
            refine (HCA.out rfl _).mono ?_
            rintro e w234 ⟨rfl, hBw234⟩
            have hSw234 := held_step hBw234 (held_start w11)
            refine hK.out _ _ hSw234 (fun _ => ?_)
            clear hK K
            try simp only [Act.put, List.setIfInBounds_toArray, List.set_cons_zero, List.set_cons_succ]
            refine wpAnyH_take (i := 27) (oi := { dst := some 180, op := Go.Op.unOp Go.UnOp.not 4 (Go.Operand.tmp 179), type := 4, pos := "outright.go:170", after := #[{ on := 26, ground := Go.Ground.data }, { on := 20, ground := Go.Ground.guard }], guard := some (20, true) }) (v := ?v235) rfl (by kernel_rfl) (by kernel_rfl) (by kernel_rfl) (fun _ _ _ h => h) (Or.inl ⟨by rfl, ?hy235⟩) hSw234 ?r235
            case hy235 =>
             intro w' hSw
             have hq := hSw.1
             clear hSw
             go_simp
             with_reducible rfl
            try simp only [Act.put, List.setIfInBounds_toArray, List.set_cons_zero, List.set_cons_succ]
            refine wpAnyH_take (i := 28) (oi := { dst := some 181, op := Go.Op.pick (Go.Operand.tmp 173) (Go.Operand.tmp 180) (Go.Operand.const (Go.Value.bool false)), type := 4, pos := "outright.go:170", after := #[{ on := 20, ground := Go.Ground.data }, { on := 27, ground := Go.Ground.data }, { on := 18, ground := Go.Ground.guard }], guard := some (18, false) }) (v := ?v236) rfl (by kernel_rfl) (by kernel_rfl) (by kernel_rfl) (fun _ _ _ h => h) (Or.inl ⟨by rfl, ?hy236⟩) hSw234 ?r236
            case hy236 =>
             intro w' hSw
             have hq := hSw.1
             clear hSw
             go_simp
             with_reducible rfl
            try simp only [Act.put, List.setIfInBounds_toArray, List.set_cons_zero, List.set_cons_succ]
            refine wpAnyH_take (i := 29) (oi := { dst := some 182, op := Go.Op.pick (Go.Operand.tmp 171) (Go.Operand.const (Go.Value.bool true)) (Go.Operand.tmp 181), type := 4, pos := "outright.go:170", after := #[{ on := 18, ground := Go.Ground.data }, { on := 28, ground := Go.Ground.data }], guard := none }) (v := ?v237) rfl (by kernel_rfl) (by kernel_rfl) (by kernel_rfl) (fun _ _ _ h => h) (Or.inl ⟨by rfl, ?hy237⟩) hSw234 ?r237
            case hy237 =>
             intro w' hSw
             have hq := hSw.1
             clear hSw
             go_simp
             with_reducible rfl
            try simp only [Act.put, List.setIfInBounds_toArray, List.set_cons_zero, List.set_cons_succ]
            refine wpAnyH_take (i := 30) (oi := { dst := some 183, op := Go.Op.move (Go.Operand.tmp 182), type := 4, pos := "outright.go:170", after := #[{ on := 29, ground := Go.Ground.data }, { on := 26, ground := Go.Ground.chain }], guard := none }) (v := ?v238) rfl (by kernel_rfl) (by kernel_rfl) (by kernel_rfl) (fun _ _ _ h => h) (Or.inl ⟨by rfl, ?hy238⟩) hSw234 ?r238
            case hy238 =>
             intro w' hSw
             have hq := hSw.1
             clear hSw
             go_simp
             with_reducible rfl
            try simp only [Act.put, List.setIfInBounds_toArray, List.set_cons_zero, List.set_cons_succ]
            refine wpAnyH_take (i := 31) (oi := { dst := some 184, op := Go.Op.move (Go.Operand.tmp 16), type := 4, pos := "outright.go:170", after := #[{ on := 30, ground := Go.Ground.guard }], guard := some (30, false) }) (v := ?v239) rfl (by kernel_rfl) (by kernel_rfl) (by kernel_rfl) (fun _ _ _ h => h) (Or.inl ⟨by rfl, ?hy239⟩) hSw234 ?r239
            case hy239 =>
             intro w' hSw
             have hq := hSw.1
             clear hSw
             go_simp
             with_reducible rfl
            try simp only [Act.put, List.setIfInBounds_toArray, List.set_cons_zero, List.set_cons_succ]
            refine wpAnyH_take (i := 32) (oi := { dst := some 185, op := Go.Op.move (Go.Operand.tmp 184), type := 4, pos := "outright.go:170", after := #[{ on := 31, ground := Go.Ground.data }, { on := 30, ground := Go.Ground.chain }, { on := 30, ground := Go.Ground.guard }], guard := some (30, false) }) (v := ?v240) rfl (by kernel_rfl) (by kernel_rfl) (by kernel_rfl) (fun _ _ _ h => h) (Or.inl ⟨by rfl, ?hy240⟩) hSw234 ?r240
            case hy240 =>
             intro w' hSw
             have hq := hSw.1
             clear hSw
             go_simp
             with_reducible rfl
            try simp only [Act.put, List.setIfInBounds_toArray, List.set_cons_zero, List.set_cons_succ]
            refine wpAnyH_take (i := 33) (oi := { dst := some 186, op := Go.Op.load 24 (Go.Operand.tmp 9), type := 24, pos := "outright.go:170", after := #[{ on := 32, ground := Go.Ground.guard }], guard := some (32, true) }) (v := undef) rfl (by kernel_rfl) (by kernel_rfl) (by kernel_rfl) (fun _ _ _ h => h) (Or.inr ⟨by rfl, rfl⟩) hSw234 ?_
            try simp only [Act.put, List.setIfInBounds_toArray, List.set_cons_zero, List.set_cons_succ]
            refine wpAnyH_take (i := 34) (oi := { dst := some 187, op := Go.Op.move (Go.Operand.tmp 12), type := 31, pos := "outright.go:170", after := #[{ on := 32, ground := Go.Ground.guard }], guard := some (32, true) }) (v := undef) rfl (by kernel_rfl) (by kernel_rfl) (by kernel_rfl) (fun _ _ _ h => h) (Or.inr ⟨by rfl, rfl⟩) hSw234 ?_
            try simp only [Act.put, List.setIfInBounds_toArray, List.set_cons_zero, List.set_cons_succ]
            refine wpAnyH_take (i := 35) (oi := { dst := some 188, op := Go.Op.move (Go.Operand.tmp 13), type := 3, pos := "outright.go:170", after := #[{ on := 32, ground := Go.Ground.guard }], guard := some (32, true) }) (v := undef) rfl (by kernel_rfl) (by kernel_rfl) (by kernel_rfl) (fun _ _ _ h => h) (Or.inr ⟨by rfl, rfl⟩) hSw234 ?_
            try simp only [Act.put, List.setIfInBounds_toArray, List.set_cons_zero, List.set_cons_succ]
            refine wpAnyH_take (i := 36) (oi := { dst := some 189, op := Go.Op.indexAddr 31 (Go.Operand.tmp 187) (Go.Operand.tmp 188), type := 0, pos := "outright.go:170", after := #[{ on := 34, ground := Go.Ground.data }, { on := 35, ground := Go.Ground.data }, { on := 32, ground := Go.Ground.guard }], guard := some (32, true) }) (v := undef) rfl (by kernel_rfl) (by kernel_rfl) (by kernel_rfl) (fun _ _ _ h => h) (Or.inr ⟨by rfl, rfl⟩) hSw234 ?_
            try simp only [Act.put, List.setIfInBounds_toArray, List.set_cons_zero, List.set_cons_succ]
            refine wpAnyH_take (i := 37) (oi := { dst := some 190, op := Go.Op.load 3 (Go.Operand.tmp 189), type := 3, pos := "outright.go:170", after := #[{ on := 36, ground := Go.Ground.data }, { on := 32, ground := Go.Ground.guard }], guard := some (32, true) }) (v := undef) rfl (by kernel_rfl) (by kernel_rfl) (by kernel_rfl) (fun _ _ _ h => h) (Or.inr ⟨by rfl, rfl⟩) hSw234 ?_
            try simp only [Act.put, List.setIfInBounds_toArray, List.set_cons_zero, List.set_cons_succ]
            refine wpAnyH_take (i := 38) (oi := { dst := some 191, op := Go.Op.call { callee := Go.Callee.value (Go.Operand.func 22), args := #[Go.Operand.tmp 186, Go.Operand.tmp 190], argTypes := #[24, 3] }, type := 4, pos := "outright.go:170", after := #[{ on := 33, ground := Go.Ground.data }, { on := 37, ground := Go.Ground.data }, { on := 32, ground := Go.Ground.chain }, { on := 32, ground := Go.Ground.guard }], guard := some (32, true) }) (v := undef) rfl (by kernel_rfl) (by kernel_rfl) (by kernel_rfl) (fun _ _ _ h => h) (Or.inr ⟨by rfl, rfl⟩) hSw234 ?_
            try simp only [Act.put, List.setIfInBounds_toArray, List.set_cons_zero, List.set_cons_succ]
            refine wpAnyH_take (i := 39) (oi := { dst := some 192, op := Go.Op.unOp Go.UnOp.not 4 (Go.Operand.tmp 191), type := 4, pos := "outright.go:170", after := #[{ on := 38, ground := Go.Ground.data }, { on := 32, ground := Go.Ground.guard }], guard := some (32, true) }) (v := undef) rfl (by kernel_rfl) (by kernel_rfl) (by kernel_rfl) (fun _ _ _ h => h) (Or.inr ⟨by rfl, rfl⟩) hSw234 ?_
            try simp only [Act.put, List.setIfInBounds_toArray, List.set_cons_zero, List.set_cons_succ]
            refine wpAnyH_take (i := 40) (oi := { dst := some 193, op := Go.Op.pick (Go.Operand.tmp 185) (Go.Operand.tmp 192) (Go.Operand.const (Go.Value.bool false)), type := 4, pos := "outright.go:170", after := #[{ on := 32, ground := Go.Ground.data }, { on := 39, ground := Go.Ground.data }, { on := 30, ground := Go.Ground.guard }], guard := some (30, false) }) (v := ?v241) rfl (by kernel_rfl) (by kernel_rfl) (by kernel_rfl) (fun _ _ _ h => h) (Or.inl ⟨by rfl, ?hy241⟩) hSw234 ?r241
            case hy241 =>
             intro w' hSw
             have hq := hSw.1
             clear hSw
             go_simp
             with_reducible rfl
            try simp only [Act.put, List.setIfInBounds_toArray, List.set_cons_zero, List.set_cons_succ]
            refine wpAnyH_take (i := 41) (oi := { dst := some 194, op := Go.Op.pick (Go.Operand.tmp 183) (Go.Operand.const (Go.Value.bool true)) (Go.Operand.tmp 193), type := 4, pos := "outright.go:170", after := #[{ on := 30, ground := Go.Ground.data }, { on := 40, ground := Go.Ground.data }], guard := none }) (v := ?v242) rfl (by kernel_rfl) (by kernel_rfl) (by kernel_rfl) (fun _ _ _ h => h) (Or.inl ⟨by rfl, ?hy242⟩) hSw234 ?r242
            case hy242 =>
             intro w' hSw
             have hq := hSw.1
             clear hSw
             go_simp
             with_reducible rfl
            try simp only [Act.put, List.setIfInBounds_toArray, List.set_cons_zero, List.set_cons_succ]
            refine wpAnyH_done (by kernel_rfl) ?_ _
            show R _ _
            rw [HR.out]
            simp only [Act.put, List.setIfInBounds_toArray, List.set_cons_zero, List.set_cons_succ]
            exact ⟨⟨_, _, _, _, _, _, _, _, _, _, _, _, _, _, _, _, _, _, _, _, _, _, _, _, _, _, _, _, _, _, _, _, _, _, _, _, _, _, _, _, _, rfl⟩, hSw234⟩
           ·refine wp_region_held_drew (S := fun w' => Held w11 w') (by kernel_rfl) (held_start w11) (fun _ => ?_)
            refine wpAnyH_take (i := 0) (oi := { dst := some 153, op := Go.Op.move (Go.Operand.tmp 15), type := 41, pos := "outright.go:170", after := #[], guard := none }) (v := ?v243) rfl (by kernel_rfl) (by kernel_rfl) (by kernel_rfl) (fun _ _ _ h => h) (Or.inl ⟨by rfl, ?hy243⟩) (held_start w11) ?r243
            case hy243 =>
             intro w' hSw
             have hq := hSw.1
             clear hSw
             go_simp
             with_reducible rfl
            try simp only [Act.put, List.setIfInBounds_toArray, List.set_cons_zero, List.set_cons_succ]
            refine wpAnyH_take (i := 1) (oi := { dst := some 154, op := Go.Op.binOp Go.BinOp.neq 41 (Go.Operand.tmp 153) (Go.Operand.const (Go.Value.int Go.IntKind.i64 0)) 41, type := 4, pos := "outright.go:170", after := #[{ on := 0, ground := Go.Ground.data }], guard := none }) (v := ?v244) rfl (by kernel_rfl) (by kernel_rfl) (by kernel_rfl) (fun _ _ _ h => h) (Or.inl ⟨by rfl, ?hy244⟩) (held_start w11) ?r244
            case hy244 =>
             intro w' hSw
             have hq := hSw.1
             clear hSw
             go_simp
             with_reducible rfl
            try simp only [Act.put, List.setIfInBounds_toArray, List.set_cons_zero, List.set_cons_succ]
            refine wpAnyH_take (i := 2) (oi := { dst := some 155, op := Go.Op.move (Go.Operand.tmp 154), type := 4, pos := "outright.go:170", after := #[{ on := 1, ground := Go.Ground.data }], guard := none }) (v := ?v245) rfl (by kernel_rfl) (by kernel_rfl) (by kernel_rfl) (fun _ _ _ h => h) (Or.inl ⟨by rfl, ?hy245⟩) (held_start w11) ?r245
            case hy245 =>
             intro w' hSw
             have hq := hSw.1
             clear hSw
             go_simp
             with_reducible rfl
            try simp only [Act.put, List.setIfInBounds_toArray, List.set_cons_zero, List.set_cons_succ]
            refine wpAnyH_take (i := 3) (oi := { dst := some 156, op := Go.Op.move (Go.Operand.tmp 17), type := 41, pos := "outright.go:170", after := #[{ on := 2, ground := Go.Ground.guard }], guard := some (2, false) }) (v := ?v246) rfl (by kernel_rfl) (by kernel_rfl) (by kernel_rfl) (fun _ _ _ h => h) (Or.inl ⟨by rfl, ?hy246⟩) (held_start w11) ?r246
            case hy246 =>
             intro w' hSw
             have hq := hSw.1
             clear hSw
             go_simp
             with_reducible rfl
            try simp only [Act.put, List.setIfInBounds_toArray, List.set_cons_zero, List.set_cons_succ]
            refine wpAnyH_take (i := 4) (oi := { dst := some 157, op := Go.Op.binOp Go.BinOp.neq 41 (Go.Operand.tmp 156) (Go.Operand.const (Go.Value.int Go.IntKind.i64 0)) 41, type := 4, pos := "outright.go:170", after := #[{ on := 3, ground := Go.Ground.data }, { on := 2, ground := Go.Ground.guard }], guard := some (2, false) }) (v := ?v247) rfl (by kernel_rfl) (by kernel_rfl) (by kernel_rfl) (fun _ _ _ h => h) (Or.inl ⟨by rfl, ?hy247⟩) (held_start w11) ?r247
            case hy247 =>
             intro w' hSw
             have hq := hSw.1
             clear hSw
             go_simp
             with_reducible rfl
            try simp only [Act.put, List.setIfInBounds_toArray, List.set_cons_zero, List.set_cons_succ]
            refine wpAnyH_take (i := 5) (oi := { dst := some 158, op := Go.Op.pick (Go.Operand.tmp 155) (Go.Operand.const (Go.Value.bool true)) (Go.Operand.tmp 157), type := 4, pos := "outright.go:170", after := #[{ on := 2, ground := Go.Ground.data }, { on := 4, ground := Go.Ground.data }], guard := none }) (v := ?v248) rfl (by kernel_rfl) (by kernel_rfl) (by kernel_rfl) (fun _ _ _ h => h) (Or.inl ⟨by rfl, ?hy248⟩) (held_start w11) ?r248
            case hy248 =>
             intro w' hSw
             have hq := hSw.1
             clear hSw
             go_simp
             with_reducible rfl
            try simp only [Act.put, List.setIfInBounds_toArray, List.set_cons_zero, List.set_cons_succ]
            refine wpAnyH_take (i := 6) (oi := { dst := some 159, op := Go.Op.move (Go.Operand.tmp 158), type := 4, pos := "outright.go:170", after := #[{ on := 5, ground := Go.Ground.data }, { on := 2, ground := Go.Ground.chain }], guard := none }) (v := ?v249) rfl (by kernel_rfl) (by kernel_rfl) (by kernel_rfl) (fun _ _ _ h => h) (Or.inl ⟨by rfl, ?hy249⟩) (held_start w11) ?r249
            case hy249 =>
             intro w' hSw
             have hq := hSw.1
             clear hSw
             go_simp
             with_reducible rfl
            try simp only [Act.put, List.setIfInBounds_toArray, List.set_cons_zero, List.set_cons_succ]
            refine wpAnyH_take (i := 7) (oi := { dst := some 160, op := Go.Op.move (Go.Operand.tmp 13), type := 3, pos := "outright.go:170", after := #[{ on := 6, ground := Go.Ground.guard }], guard := some (6, false) }) (v := ?v250) rfl (by kernel_rfl) (by kernel_rfl) (by kernel_rfl) (fun _ _ _ h => h) (Or.inl ⟨by rfl, ?hy250⟩) (held_start w11) ?r250
            case hy250 =>
             intro w' hSw
             have hq := hSw.1
             clear hSw
             go_simp
             with_reducible rfl
            try simp only [Act.put, List.setIfInBounds_toArray, List.set_cons_zero, List.set_cons_succ]
            refine wpAnyH_take (i := 8) (oi := { dst := some 161, op := Go.Op.binOp Go.BinOp.lss 3 (Go.Operand.tmp 160) (Go.Operand.const (Go.Value.int Go.IntKind.i64 2)) 3, type := 4, pos := "outright.go:170", after := #[{ on := 7, ground := Go.Ground.data }, { on := 6, ground := Go.Ground.guard }], guard := some (6, false) }) (v := ?v251) rfl (by kernel_rfl) (by kernel_rfl) (by kernel_rfl) (fun _ _ _ h => h) (Or.inl ⟨by rfl, ?hy251⟩) (held_start w11) ?r251
            case hy251 =>
             intro w' hSw
             have hq := hSw.1
             clear hSw
             go_simp
             with_reducible rfl
            try simp only [Act.put, List.setIfInBounds_toArray, List.set_cons_zero, List.set_cons_succ]
            refine wpAnyH_take (i := 9) (oi := { dst := some 162, op := Go.Op.move (Go.Operand.tmp 161), type := 4, pos := "outright.go:170", after := #[{ on := 8, ground := Go.Ground.data }, { on := 6, ground := Go.Ground.chain }, { on := 6, ground := Go.Ground.guard }], guard := some (6, false) }) (v := ?v252) rfl (by kernel_rfl) (by kernel_rfl) (by kernel_rfl) (fun _ _ _ h => h) (Or.inl ⟨by rfl, ?hy252⟩) (held_start w11) ?r252
            case hy252 =>
             intro w' hSw
             have hq := hSw.1
             clear hSw
             go_simp
             with_reducible rfl
            try simp only [Act.put, List.setIfInBounds_toArray, List.set_cons_zero, List.set_cons_succ]
            refine wpAnyH_take (i := 10) (oi := { dst := some 163, op := Go.Op.move (Go.Operand.tmp 14), type := 4, pos := "outright.go:170", after := #[{ on := 9, ground := Go.Ground.guard }], guard := some (9, true) }) (v := undef) rfl (by kernel_rfl) (by kernel_rfl) (by kernel_rfl) (fun _ _ _ h => h) (Or.inr ⟨by rfl, rfl⟩) (held_start w11) ?_
            try simp only [Act.put, List.setIfInBounds_toArray, List.set_cons_zero, List.set_cons_succ]
            refine wpAnyH_take (i := 11) (oi := { dst := some 164, op := Go.Op.unOp Go.UnOp.not 4 (Go.Operand.tmp 163), type := 4, pos := "outright.go:170", after := #[{ on := 10, ground := Go.Ground.data }, { on := 9, ground := Go.Ground.guard }], guard := some (9, true) }) (v := undef) rfl (by kernel_rfl) (by kernel_rfl) (by kernel_rfl) (fun _ _ _ h => h) (Or.inr ⟨by rfl, rfl⟩) (held_start w11) ?_
            try simp only [Act.put, List.setIfInBounds_toArray, List.set_cons_zero, List.set_cons_succ]
            refine wpAnyH_take (i := 12) (oi := { dst := some 165, op := Go.Op.move (Go.Operand.tmp 164), type := 4, pos := "outright.go:170", after := #[{ on := 11, ground := Go.Ground.data }, { on := 9, ground := Go.Ground.chain }, { on := 9, ground := Go.Ground.guard }], guard := some (9, true) }) (v := undef) rfl (by kernel_rfl) (by kernel_rfl) (by kernel_rfl) (fun _ _ _ h => h) (Or.inr ⟨by rfl, rfl⟩) (held_start w11) ?_
            try simp only [Act.put, List.setIfInBounds_toArray, List.set_cons_zero, List.set_cons_succ]
            refine wpAnyH_take (i := 13) (oi := { dst := some 166, op := Go.Op.move (Go.Operand.tmp 16), type := 4, pos := "outright.go:170", after := #[{ on := 12, ground := Go.Ground.guard }], guard := some (12, false) }) (v := undef) rfl (by kernel_rfl) (by kernel_rfl) (by kernel_rfl) (fun _ _ _ h => h) (Or.inr ⟨by rfl, rfl⟩) (held_start w11) ?_
            try simp only [Act.put, List.setIfInBounds_toArray, List.set_cons_zero, List.set_cons_succ]
            refine wpAnyH_take (i := 14) (oi := { dst := some 167, op := Go.Op.unOp Go.UnOp.not 4 (Go.Operand.tmp 166), type := 4, pos := "outright.go:170", after := #[{ on := 13, ground := Go.Ground.data }, { on := 12, ground := Go.Ground.guard }], guard := some (12, false) }) (v := undef) rfl (by kernel_rfl) (by kernel_rfl) (by kernel_rfl) (fun _ _ _ h => h) (Or.inr ⟨by rfl, rfl⟩) (held_start w11) ?_
            try simp only [Act.put, List.setIfInBounds_toArray, List.set_cons_zero, List.set_cons_succ]
            refine wpAnyH_take (i := 15) (oi := { dst := some 168, op := Go.Op.pick (Go.Operand.tmp 165) (Go.Operand.const (Go.Value.bool true)) (Go.Operand.tmp 167), type := 4, pos := "outright.go:170", after := #[{ on := 12, ground := Go.Ground.data }, { on := 14, ground := Go.Ground.data }, { on := 9, ground := Go.Ground.guard }], guard := some (9, true) }) (v := undef) rfl (by kernel_rfl) (by kernel_rfl) (by kernel_rfl) (fun _ _ _ h => h) (Or.inr ⟨by rfl, rfl⟩) (held_start w11) ?_
            try simp only [Act.put, List.setIfInBounds_toArray, List.set_cons_zero, List.set_cons_succ]
            refine wpAnyH_take (i := 16) (oi := { dst := some 169, op := Go.Op.pick (Go.Operand.tmp 162) (Go.Operand.tmp 168) (Go.Operand.const (Go.Value.bool false)), type := 4, pos := "outright.go:170", after := #[{ on := 9, ground := Go.Ground.data }, { on := 15, ground := Go.Ground.data }, { on := 6, ground := Go.Ground.guard }], guard := some (6, false) }) (v := ?v253) rfl (by kernel_rfl) (by kernel_rfl) (by kernel_rfl) (fun _ _ _ h => h) (Or.inl ⟨by rfl, ?hy253⟩) (held_start w11) ?r253
            case hy253 =>
             intro w' hSw
             have hq := hSw.1
             clear hSw
             go_simp
             with_reducible rfl
            try simp only [Act.put, List.setIfInBounds_toArray, List.set_cons_zero, List.set_cons_succ]
            refine wpAnyH_take (i := 17) (oi := { dst := some 170, op := Go.Op.pick (Go.Operand.tmp 159) (Go.Operand.const (Go.Value.bool true)) (Go.Operand.tmp 169), type := 4, pos := "outright.go:170", after := #[{ on := 6, ground := Go.Ground.data }, { on := 16, ground := Go.Ground.data }], guard := none }) (v := ?v254) rfl (by kernel_rfl) (by kernel_rfl) (by kernel_rfl) (fun _ _ _ h => h) (Or.inl ⟨by rfl, ?hy254⟩) (held_start w11) ?r254
            case hy254 =>
             intro w' hSw
             have hq := hSw.1
             clear hSw
             go_simp
             with_reducible rfl
            try simp only [Act.put, List.setIfInBounds_toArray, List.set_cons_zero, List.set_cons_succ]
            refine wpAnyH_take (i := 18) (oi := { dst := some 171, op := Go.Op.move (Go.Operand.tmp 170), type := 4, pos := "outright.go:170", after := #[{ on := 17, ground := Go.Ground.data }, { on := 12, ground := Go.Ground.chain }], guard := none }) (v := ?v255) rfl (by kernel_rfl) (by kernel_rfl) (by kernel_rfl) (fun _ _ _ h => h) (Or.inl ⟨by rfl, ?hy255⟩) (held_start w11) ?r255
            case hy255 =>
             intro w' hSw
             have hq := hSw.1
             clear hSw
             go_simp
             with_reducible rfl
            try simp only [Act.put, List.setIfInBounds_toArray, List.set_cons_zero, List.set_cons_succ]
            refine wpAnyH_take (i := 19) (oi := { dst := some 172, op := Go.Op.move (Go.Operand.tmp 14), type := 4, pos := "outright.go:170", after := #[{ on := 18, ground := Go.Ground.guard }], guard := some (18, false) }) (v := ?v256) rfl (by kernel_rfl) (by kernel_rfl) (by kernel_rfl) (fun _ _ _ h => h) (Or.inl ⟨by rfl, ?hy256⟩) (held_start w11) ?r256
            case hy256 =>
             intro w' hSw
             have hq := hSw.1
             clear hSw
             go_simp
             with_reducible rfl
            try simp only [Act.put, List.setIfInBounds_toArray, List.set_cons_zero, List.set_cons_succ]
            refine wpAnyH_take (i := 20) (oi := { dst := some 173, op := Go.Op.move (Go.Operand.tmp 172), type := 4, pos := "outright.go:170", after := #[{ on := 19, ground := Go.Ground.data }, { on := 18, ground := Go.Ground.chain }, { on := 18, ground := Go.Ground.guard }], guard := some (18, false) }) (v := ?v257) rfl (by kernel_rfl) (by kernel_rfl) (by kernel_rfl) (fun _ _ _ h => h) (Or.inl ⟨by rfl, ?hy257⟩) (held_start w11) ?r257
            case hy257 =>
             intro w' hSw
             have hq := hSw.1
             clear hSw
             go_simp
             with_reducible rfl
            try simp only [Act.put, List.setIfInBounds_toArray, List.set_cons_zero, List.set_cons_succ]
            refine wpAnyH_take (i := 21) (oi := { dst := some 174, op := Go.Op.load 24 (Go.Operand.tmp 7), type := 24, pos := "outright.go:170", after := #[{ on := 20, ground := Go.Ground.guard }], guard := some (20, true) }) (v := ?v258) rfl (by kernel_rfl) (by kernel_rfl) (by kernel_rfl) (fun _ _ _ h => h) (Or.inl ⟨by rfl, ?hy258⟩) (held_start w11) ?r258
            case hy258 =>
             intro w' hSw
             have hq := hSw.1
             clear hSw
             go_simp
             with_reducible rfl
            try simp only [Act.put, List.setIfInBounds_toArray, List.set_cons_zero, List.set_cons_succ]
            refine wpAnyH_take (i := 22) (oi := { dst := some 175, op := Go.Op.move (Go.Operand.tmp 11), type := 31, pos := "outright.go:170", after := #[{ on := 20, ground := Go.Ground.guard }], guard := some (20, true) }) (v := ?v259) rfl (by kernel_rfl) (by kernel_rfl) (by kernel_rfl) (fun _ _ _ h => h) (Or.inl ⟨by rfl, ?hy259⟩) (held_start w11) ?r259
            case hy259 =>
             intro w' hSw
             have hq := hSw.1
             clear hSw
             go_simp
             with_reducible rfl
            try simp only [Act.put, List.setIfInBounds_toArray, List.set_cons_zero, List.set_cons_succ]
            refine wpAnyH_take (i := 23) (oi := { dst := some 176, op := Go.Op.move (Go.Operand.tmp 13), type := 3, pos := "outright.go:170", after := #[{ on := 20, ground := Go.Ground.guard }], guard := some (20, true) }) (v := ?v260) rfl (by kernel_rfl) (by kernel_rfl) (by kernel_rfl) (fun _ _ _ h => h) (Or.inl ⟨by rfl, ?hy260⟩) (held_start w11) ?r260
            case hy260 =>
             intro w' hSw
             have hq := hSw.1
             clear hSw
             go_simp
             with_reducible rfl
            try simp only [Act.put, List.setIfInBounds_toArray, List.set_cons_zero, List.set_cons_succ]
            refine wpAnyH_take (i := 24) (oi := { dst := some 177, op := Go.Op.indexAddr 31 (Go.Operand.tmp 175) (Go.Operand.tmp 176), type := 0, pos := "outright.go:170", after := #[{ on := 22, ground := Go.Ground.data }, { on := 23, ground := Go.Ground.data }, { on := 20, ground := Go.Ground.guard }], guard := some (20, true) }) (v := ?v261) rfl (by kernel_rfl) (by kernel_rfl) (by kernel_rfl) (fun _ _ _ h => h) (Or.inl ⟨by rfl, ?hy261⟩) (held_start w11) ?r261
            case hy261 =>
             intro w' hSw
             have hq := hSw.1
             clear hSw
             go_simp
             with_reducible rfl
            try simp only [Act.put, List.setIfInBounds_toArray, List.set_cons_zero, List.set_cons_succ]
            refine wpAnyH_take (i := 25) (oi := { dst := some 178, op := Go.Op.load 3 (Go.Operand.tmp 177), type := 3, pos := "outright.go:170", after := #[{ on := 24, ground := Go.Ground.data }, { on := 20, ground := Go.Ground.guard }], guard := some (20, true) }) (v := ?v262) rfl (by kernel_rfl) (by kernel_rfl) (by kernel_rfl) (fun _ _ _ h => h) (Or.inl ⟨by rfl, ?hy262⟩) (held_start w11) ?r262
            case hy262 =>
             intro w' hSw
             have hq := hSw.1
             clear hSw
             go_simp
             with_reducible rfl
            try simp only [Act.put, List.setIfInBounds_toArray, List.set_cons_zero, List.set_cons_succ]
            refine wpAnyH_ready (rs := [26]) (by kernel_rfl) (by simp) ?_
            refine AllReadyH.cons rfl (fun K hK => ?_) AllReadyH.nil
            go_simp
            refine (HCA.out rfl _).mono ?_
            rintro e w263 ⟨rfl, hBw263⟩
            have hSw263 := held_step hBw263 (held_start w11)
            refine hK.out _ _ hSw263 (fun _ => ?_)
            clear hK K
            try simp only [Act.put, List.setIfInBounds_toArray, List.set_cons_zero, List.set_cons_succ]
            refine wpAnyH_take (i := 27) (oi := { dst := some 180, op := Go.Op.unOp Go.UnOp.not 4 (Go.Operand.tmp 179), type := 4, pos := "outright.go:170", after := #[{ on := 26, ground := Go.Ground.data }, { on := 20, ground := Go.Ground.guard }], guard := some (20, true) }) (v := ?v264) rfl (by kernel_rfl) (by kernel_rfl) (by kernel_rfl) (fun _ _ _ h => h) (Or.inl ⟨by rfl, ?hy264⟩) hSw263 ?r264
            case hy264 =>
             intro w' hSw
             have hq := hSw.1
             clear hSw
             go_simp
             with_reducible rfl
            try simp only [Act.put, List.setIfInBounds_toArray, List.set_cons_zero, List.set_cons_succ]
            refine wpAnyH_take (i := 28) (oi := { dst := some 181, op := Go.Op.pick (Go.Operand.tmp 173) (Go.Operand.tmp 180) (Go.Operand.const (Go.Value.bool false)), type := 4, pos := "outright.go:170", after := #[{ on := 20, ground := Go.Ground.data }, { on := 27, ground := Go.Ground.data }, { on := 18, ground := Go.Ground.guard }], guard := some (18, false) }) (v := ?v265) rfl (by kernel_rfl) (by kernel_rfl) (by kernel_rfl) (fun _ _ _ h => h) (Or.inl ⟨by rfl, ?hy265⟩) hSw263 ?r265
            case hy265 =>
             intro w' hSw
             have hq := hSw.1
             clear hSw
             go_simp
             with_reducible rfl
            try simp only [Act.put, List.setIfInBounds_toArray, List.set_cons_zero, List.set_cons_succ]
            refine wpAnyH_take (i := 29) (oi := { dst := some 182, op := Go.Op.pick (Go.Operand.tmp 171) (Go.Operand.const (Go.Value.bool true)) (Go.Operand.tmp 181), type := 4, pos := "outright.go:170", after := #[{ on := 18, ground := Go.Ground.data }, { on := 28, ground := Go.Ground.data }], guard := none }) (v := ?v266) rfl (by kernel_rfl) (by kernel_rfl) (by kernel_rfl) (fun _ _ _ h => h) (Or.inl ⟨by rfl, ?hy266⟩) hSw263 ?r266
            case hy266 =>
             intro w' hSw
             have hq := hSw.1
             clear hSw
             go_simp
             with_reducible rfl
            try simp only [Act.put, List.setIfInBounds_toArray, List.set_cons_zero, List.set_cons_succ]
            refine wpAnyH_take (i := 30) (oi := { dst := some 183, op := Go.Op.move (Go.Operand.tmp 182), type := 4, pos := "outright.go:170", after := #[{ on := 29, ground := Go.Ground.data }, { on := 26, ground := Go.Ground.chain }], guard := none }) (v := ?v267) rfl (by kernel_rfl) (by kernel_rfl) (by kernel_rfl) (fun _ _ _ h => h) (Or.inl ⟨by rfl, ?hy267⟩) hSw263 ?r267
            case hy267 =>
             intro w' hSw
             have hq := hSw.1
             clear hSw
             go_simp
             with_reducible rfl
            try simp only [Act.put, List.setIfInBounds_toArray, List.set_cons_zero, List.set_cons_succ]
            refine wpAnyH_take (i := 31) (oi := { dst := some 184, op := Go.Op.move (Go.Operand.tmp 16), type := 4, pos := "outright.go:170", after := #[{ on := 30, ground := Go.Ground.guard }], guard := some (30, false) }) (v := ?v268) rfl (by kernel_rfl) (by kernel_rfl) (by kernel_rfl) (fun _ _ _ h => h) (Or.inl ⟨by rfl, ?hy268⟩) hSw263 ?r268
            case hy268 =>
             intro w' hSw
             have hq := hSw.1
             clear hSw
             go_simp
             with_reducible rfl
            try simp only [Act.put, List.setIfInBounds_toArray, List.set_cons_zero, List.set_cons_succ]
            refine wpAnyH_take (i := 32) (oi := { dst := some 185, op := Go.Op.move (Go.Operand.tmp 184), type := 4, pos := "outright.go:170", after := #[{ on := 31, ground := Go.Ground.data }, { on := 30, ground := Go.Ground.chain }, { on := 30, ground := Go.Ground.guard }], guard := some (30, false) }) (v := ?v269) rfl (by kernel_rfl) (by kernel_rfl) (by kernel_rfl) (fun _ _ _ h => h) (Or.inl ⟨by rfl, ?hy269⟩) hSw263 ?r269
            case hy269 =>
             intro w' hSw
             have hq := hSw.1
             clear hSw
             go_simp
             with_reducible rfl
            try simp only [Act.put, List.setIfInBounds_toArray, List.set_cons_zero, List.set_cons_succ]
            refine wpAnyH_take (i := 33) (oi := { dst := some 186, op := Go.Op.load 24 (Go.Operand.tmp 9), type := 24, pos := "outright.go:170", after := #[{ on := 32, ground := Go.Ground.guard }], guard := some (32, true) }) (v := ?v270) rfl (by kernel_rfl) (by kernel_rfl) (by kernel_rfl) (fun _ _ _ h => h) (Or.inl ⟨by rfl, ?hy270⟩) hSw263 ?r270
            case hy270 =>
             intro w' hSw
             have hq := hSw.1
             clear hSw
             go_simp
             with_reducible rfl
            try simp only [Act.put, List.setIfInBounds_toArray, List.set_cons_zero, List.set_cons_succ]
            refine wpAnyH_take (i := 34) (oi := { dst := some 187, op := Go.Op.move (Go.Operand.tmp 12), type := 31, pos := "outright.go:170", after := #[{ on := 32, ground := Go.Ground.guard }], guard := some (32, true) }) (v := ?v271) rfl (by kernel_rfl) (by kernel_rfl) (by kernel_rfl) (fun _ _ _ h => h) (Or.inl ⟨by rfl, ?hy271⟩) hSw263 ?r271
            case hy271 =>
             intro w' hSw
             have hq := hSw.1
             clear hSw
             go_simp
             with_reducible rfl
            try simp only [Act.put, List.setIfInBounds_toArray, List.set_cons_zero, List.set_cons_succ]
            refine wpAnyH_take (i := 35) (oi := { dst := some 188, op := Go.Op.move (Go.Operand.tmp 13), type := 3, pos := "outright.go:170", after := #[{ on := 32, ground := Go.Ground.guard }], guard := some (32, true) }) (v := ?v272) rfl (by kernel_rfl) (by kernel_rfl) (by kernel_rfl) (fun _ _ _ h => h) (Or.inl ⟨by rfl, ?hy272⟩) hSw263 ?r272
            case hy272 =>
             intro w' hSw
             have hq := hSw.1
             clear hSw
             go_simp
             with_reducible rfl
            try simp only [Act.put, List.setIfInBounds_toArray, List.set_cons_zero, List.set_cons_succ]
            refine wpAnyH_take (i := 36) (oi := { dst := some 189, op := Go.Op.indexAddr 31 (Go.Operand.tmp 187) (Go.Operand.tmp 188), type := 0, pos := "outright.go:170", after := #[{ on := 34, ground := Go.Ground.data }, { on := 35, ground := Go.Ground.data }, { on := 32, ground := Go.Ground.guard }], guard := some (32, true) }) (v := ?v273) rfl (by kernel_rfl) (by kernel_rfl) (by kernel_rfl) (fun _ _ _ h => h) (Or.inl ⟨by rfl, ?hy273⟩) hSw263 ?r273
            case hy273 =>
             intro w' hSw
             have hq := hSw.1
             clear hSw
             go_simp
             with_reducible rfl
            try simp only [Act.put, List.setIfInBounds_toArray, List.set_cons_zero, List.set_cons_succ]
            refine wpAnyH_take (i := 37) (oi := { dst := some 190, op := Go.Op.load 3 (Go.Operand.tmp 189), type := 3, pos := "outright.go:170", after := #[{ on := 36, ground := Go.Ground.data }, { on := 32, ground := Go.Ground.guard }], guard := some (32, true) }) (v := ?v274) rfl (by kernel_rfl) (by kernel_rfl) (by kernel_rfl) (fun _ _ _ h => h) (Or.inl ⟨by rfl, ?hy274⟩) hSw263 ?r274
            case hy274 =>
             intro w' hSw
             have hq := hSw.1
             clear hSw
             go_simp
             with_reducible rfl
            try simp only [Act.put, List.setIfInBounds_toArray, List.set_cons_zero, List.set_cons_succ]
            refine wpAnyH_ready (rs := [38]) (by kernel_rfl) (by simp) ?_
            refine AllReadyH.cons rfl (fun K hK => ?_) AllReadyH.nil
            go_simp
            refine (HCC.out rfl _).mono ?_
            rintro e w275 ⟨rfl, hBw275⟩
            have hSw275 := held_step hBw275 hSw263
            refine hK.out _ _ hSw275 (fun _ => ?_)
            clear hK K
            try simp only [Act.put, List.setIfInBounds_toArray, List.set_cons_zero, List.set_cons_succ]
            refine wpAnyH_take (i := 39) (oi := { dst := some 192, op := Go.Op.unOp Go.UnOp.not 4 (Go.Operand.tmp 191), type := 4, pos := "outright.go:170", after := #[{ on := 38, ground := Go.Ground.data }, { on := 32, ground := Go.Ground.guard }], guard := some (32, true) }) (v := ?v276) rfl (by kernel_rfl) (by kernel_rfl) (by kernel_rfl) (fun _ _ _ h => h) (Or.inl ⟨by rfl, ?hy276⟩) hSw275 ?r276
            case hy276 =>
             intro w' hSw
             have hq := hSw.1
             clear hSw
             go_simp
             with_reducible rfl
            try simp only [Act.put, List.setIfInBounds_toArray, List.set_cons_zero, List.set_cons_succ]
            refine wpAnyH_take (i := 40) (oi := { dst := some 193, op := Go.Op.pick (Go.Operand.tmp 185) (Go.Operand.tmp 192) (Go.Operand.const (Go.Value.bool false)), type := 4, pos := "outright.go:170", after := #[{ on := 32, ground := Go.Ground.data }, { on := 39, ground := Go.Ground.data }, { on := 30, ground := Go.Ground.guard }], guard := some (30, false) }) (v := ?v277) rfl (by kernel_rfl) (by kernel_rfl) (by kernel_rfl) (fun _ _ _ h => h) (Or.inl ⟨by rfl, ?hy277⟩) hSw275 ?r277
            case hy277 =>
             intro w' hSw
             have hq := hSw.1
             clear hSw
             go_simp
             with_reducible rfl
            try simp only [Act.put, List.setIfInBounds_toArray, List.set_cons_zero, List.set_cons_succ]
            refine wpAnyH_take (i := 41) (oi := { dst := some 194, op := Go.Op.pick (Go.Operand.tmp 183) (Go.Operand.const (Go.Value.bool true)) (Go.Operand.tmp 193), type := 4, pos := "outright.go:170", after := #[{ on := 30, ground := Go.Ground.data }, { on := 40, ground := Go.Ground.data }], guard := none }) (v := ?v278) rfl (by kernel_rfl) (by kernel_rfl) (by kernel_rfl) (fun _ _ _ h => h) (Or.inl ⟨by rfl, ?hy278⟩) hSw275 ?r278
            case hy278 =>
             intro w' hSw
             have hq := hSw.1
             clear hSw
             go_simp
             with_reducible rfl
            try simp only [Act.put, List.setIfInBounds_toArray, List.set_cons_zero, List.set_cons_succ]
            refine wpAnyH_done (by kernel_rfl) ?_ _
            show R _ _
            rw [HR.out]
            simp only [Act.put, List.setIfInBounds_toArray, List.set_cons_zero, List.set_cons_succ]
            exact ⟨⟨_, _, _, _, _, _, _, _, _, _, _, _, _, _, _, _, _, _, _, _, _, _, _, _, _, _, _, _, _, _, _, _, _, _, _, _, _, _, _, _, _, rfl⟩, hSw275⟩
        case rest16 =>
         intro a' w12 hra
         rw [HR.out] at hra
         clear HR
         obtain ⟨⟨u153, u154, u155, u156, u157, u158, u159, u160, u161, u162, u163, u164, u165, u166, u167, u168, u169, u170, u171, u172, u173, u174, u175, u176, u177, u178, u179, u180, u181, u182, u183, u184, u185, u186, u187, u188, u189, u190, u191, u192, u193, rfl⟩, hHE⟩ := hra
         subst hA
         try simp only [Act.put, List.setIfInBounds_toArray, List.set_cons_zero, List.set_cons_succ]

         have HBe := Lib.hid (HBz.out.trans (hHE.2.2.mono HBz.out.size))
         clear hHE ca cc qP0 qP1 qU0 qU1 hga3 hgb3 lP lU HBz HCA HCC HAP HCP
         go_wp2_with fail
         go_roundw
         case rel => exact ⟨k + 1, by omega, by go_num, HBe.out⟩
         case measure => simp [intOf]; omega
    ·obtain rfl : k = 3 := by omega
     have HBe := Lib.hid (HB8.out.trans (hB.mono HB8.out.size))
     clear hB
     go_wp2_with fail
     refine (moored_any _).mono ?_
     rintro e wZ ⟨rfl, hBZ⟩
     have HBZ := Lib.hid (HBe.out.trans (hBZ.mono HBe.out.size))
     clear hBZ
     go_wp2_with fail
     go_ret
     exact ⟨rfl, HBZ.out⟩

end Go.Proofs.Ytjgpghaofhcfnaa
