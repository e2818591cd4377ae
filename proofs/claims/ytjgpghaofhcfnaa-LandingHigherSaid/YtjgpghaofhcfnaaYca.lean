/- Texts on the program that the proof leans on, part 53. -/
import Derived.Test.YtjgpghaofhcfnaaYbe
import Derived.Test.YtjgpghaofhcfnaaYbc
import Derived.Test.YtjgpghaofhcfnaaYbo
import Derived.Test.YtjgpghaofhcfnaaYby
import Derived.Test.YtjgpghaofhcfnaaYbz
set_option linter.unusedVariables false
set_option linter.unusedSimpArgs false

/- Contract of LandingHigher: it returns true, whatever the book and the numbers. -/
namespace Go.Proofs.Ytjgpghaofhcfnaa
open Go.RowKit

theorem infoSpn : (Try.prog.info? 24).map (fun i => (i.zero, i.size, i.bytes)) = some (some (vSp ⟨0, 0⟩), 2, 16) := by kernel_rfl
theorem underSpn : Try.prog.underlying 22 = some (.slice 24) := by kernel_rfl
/-- A book whose first shores are higher. -/
def Ld.upTo (b : Ld.Bk) (d : Int) (k : Nat) : Ld.Bk := { b with s0 := if 0 < k then Ld.upSh b.s0 d else b.s0, s1 := if 1 < k then Ld.upSh b.s1 d else b.s1 }
def Ld.upTides (b : Ld.Bk) (d : Int) (k : Nat) : List Ld.Sp := (b.tides.take k).map fun s => Ld.upSp s d
theorem Ld.upTides_succ {b : Ld.Bk} {d : Int} {k : Nat} (hk : k < b.tides.length) : Ld.upTides b d (k + 1) = Ld.upTides b d k ++ [Ld.upSp b.tides[k] d] := by
  unfold Ld.upTides
  rw [List.take_succ_eq_append_getElem hk, List.map_append]
  rfl
theorem Ld.upTides_len {b : Ld.Bk} {d : Int} {k : Nat} (hk : k ≤ b.tides.length) : (Ld.upTides b d k).length = k := by
  unfold Ld.upTides
  rw [List.length_map, List.length_take]
  omega

set_option maxRecDepth 100000 in
set_option maxHeartbeats 20000000 in
theorem LandingHigher_any (b : Ld.Bk) (T D : Value) (n0 n1 n2 n3 : Int) (w : World) (hb : RB w w.heap.size b T D) :
    Calls Try.prog 10 #[vBk T D b, .agg #[I n0, I n1, I n2, I n3]] w fun e w' => e = .returned (.bool true) ∧ Below w.heap.size w w' := by
  obtain ⟨A0, k0, rfl⟩ := hb.tides.form
  obtain ⟨A1, k1, rfl⟩ := hb.sounds.form
  obtain ⟨o, ho⟩ : ∃ o : Obj, o = .cells (rBk (.slice A0 b.tides.length k0) (.slice A1 b.sounds.length k1) b) 30 := ⟨_, rfl⟩
  obtain ⟨o2, ho2⟩ : ∃ o : Obj, o = .cells #[I n0, I n1, I n2, I n3] 57 := ⟨_, rfl⟩
  obtain ⟨W0, hW0⟩ : ∃ W : World, W = (w.alloc o).alloc o2 := ⟨_, rfl⟩
  have hb0 : Below w.heap.size w W0 := by rw [hW0]; exact ((Below.refl _ _).alloc (Nat.le_refl _) _).alloc (by simp) _
  have rB : W0.heap[w.heap.size]? = some o := by rw [hW0]; exact (Below.heap_alloc _ _ _ (by simp)).trans (heap_at _ _ rfl)
  have rN : W0.heap[w.heap.size + 1]? = some o2 := by rw [hW0]; exact heap_at _ _ (by simp)
  have lB : w.heap.size < W0.heap.size := by rw [hW0]; simp; omega
  have lN : w.heap.size + 1 < W0.heap.size := by rw [hW0]; simp
  go_enter Try.func10, Try.ntmps10
  go_wp2_with fail
  rw [← ho, ← ho2, ← hW0]
  subst ho ho2
  clear hW0
  have hRB := (hb.below hb0 (Nat.le_refl _)).more hb0.size
  refine (sound_any b _ _ W0 hRB).mono ?_
  rintro e w1 ⟨rfl, hB1⟩
  replace rB := (hB1.block _ lB).trans rB
  replace lB := Nat.lt_of_lt_of_le lB hB1.size
  replace rN := (hB1.block _ lN).trans rN
  replace lN := Nat.lt_of_lt_of_le lN hB1.size
  have hb1 := hb0.trans (hB1.mono hb0.size)
  clear hRB hb0 hB1
  by_cases hck : Ld.check b = 0
  case neg =>
    rw [decide_eq_false hck]
    clear rB rN lB lN
    go_wp2_with fail
    refine (moored_any _).mono ?_
    rintro e w2 ⟨rfl, hB2⟩
    have HB2 := Lib.hid (hb1.trans (hB2.mono hb1.size))
    clear hB2
    go_wp2_with fail
    go_ret
    exact ⟨rfl, HB2.out⟩
  rw [decide_eq_true hck]
  have hval : Ld.valid b = true := by
    unfold Ld.check at hck
    split at hck
    · assumption
    · omega
  have hsz := Ld.sized_bd (Ld.valid_parts hval).1
  have HRB := Lib.hid (show ∀ W', Below w.heap.size w W' → RB W' W'.heap.size b (.slice A0 b.tides.length k0) (.slice A1 b.sounds.length k1) from fun W' h => (hb.below h (Nat.le_refl _)).more h.size)
  clear hb hck
  obtain ⟨q, hq⟩ : ∃ q : Nat, (q : Int) = n1 % b.tides.length := ⟨_, Int.toNat_of_nonneg (Int.emod_nonneg _ (by omega))⟩
  have hq1 : q < b.tides.length := by have := Int.emod_lt_of_pos n1 (show (0 : Int) < b.tides.length by omega); omega
  obtain ⟨m, hm⟩ : ∃ m : Nat, (m : Int) = n0 % 2 := ⟨_, Int.toNat_of_nonneg (Int.emod_nonneg _ (by omega))⟩
  have hm1 : m = 0 ∨ m = 1 := by have := Int.emod_lt_of_pos n0 (show (0 : Int) < 2 by omega); omega
  obtain ⟨y, hy⟩ : ∃ y : Int, y = n2 % 201 := ⟨_, rfl⟩
  have hy0 : 0 ≤ y := by have := Int.emod_nonneg n2 (show (201 : Int) ≠ 0 by omega); omega
  have hy1 : y ≤ 200 := by have := Int.emod_lt_of_pos n2 (show (0 : Int) < 201 by omega); omega
  obtain ⟨d, hd⟩ : ∃ d : Int, d = n3 % 41 - 20 := ⟨_, rfl⟩
  have hd0 : -20 ≤ d ∧ d ≤ 20 := by have := Int.emod_nonneg n3 (show (41 : Int) ≠ 0 by omega); have := Int.emod_lt_of_pos n3 (show (0 : Int) < 41 by omega); omega
  have hdw : IntKind.i64.wrap (n3 % 41 - 20) = n3 % 41 - 20 := IntWalk.i64_in _ (by omega)
  have HVAL := Lib.hid hval
  have HSZ := Lib.hid hsz
  have hs1 : (0 : Int) < b.tides.length := by omega
  have hs2 : (b.tides.length : Int) ≤ 1000 := by omega
  clear hval hsz
  have qB0 := cell_of_row w1 _ 0 _ _ _ rB
  simp only [List.getElem?_toArray, List.getElem?_cons_zero, List.getElem?_cons_succ] at qB0
  have qN0 := cell_of_row w1 _ 0 _ _ _ rN
  have qN3 := cell_of_row w1 _ 3 _ _ _ rN
  have qN1 := cell_of_row w1 _ 1 _ _ _ rN
  have qN2 := cell_of_row w1 _ 2 _ _ _ rN
  simp only [List.getElem?_toArray, List.getElem?_cons_zero, List.getElem?_cons_succ] at qN0 qN1 qN2 qN3
  go_wp2_with fail
  go_region_held3 (fun w' => Held w1 w') (first | assumption | exact held_start _ | exact held_step (by assumption) (by assumption) | exact held_step (by assumption) (held_start _) | go_keep)
    (first | (go_at_call 16; refine (mod_any _ _ (by omega) (by omega) _).mono ?_; rintro e w2 ⟨rfl, hB2⟩))
  have hHE : Held w1 w2 := by assumption
  rw [← hm, ← hq, ← hy, ← hd]
  obtain ⟨u, hu⟩ : ∃ u : World, u = w2 := ⟨_, rfl⟩
  rw [← hu] at hHE ⊢
  clear hu hB2
  have hBu := hHE.2.2
  replace rB := (hBu.block _ lB).trans rB
  replace lB := Nat.lt_of_lt_of_le lB hBu.size
  clear rN lN
  skip
  have hbu := hb1.trans (hBu.mono hb1.size)
  clear qB0 qN0 qN1 qN2 qN3 hdw hd hHE hBu hb1 hs1 hs2 hm hq hy

  have qB0 := cell_of_row u _ 0 _ _ _ rB
  have qB1 := cell_of_row u _ 1 _ _ _ rB
  have qB2 := cell_of_row u _ 2 _ _ _ rB
  have qB3 := cell_of_row u _ 3 _ _ _ rB
  have qB4 := cell_of_row u _ 4 _ _ _ rB
  have qB5 := cell_of_row u _ 5 _ _ _ rB
  have qB6 := cell_of_row u _ 6 _ _ _ rB
  have qB7 := cell_of_row u _ 7 _ _ _ rB
  have qB8 := cell_of_row u _ 8 _ _ _ rB
  have qB9 := cell_of_row u _ 9 _ _ _ rB
  have qB10 := cell_of_row u _ 10 _ _ _ rB
  have qB11 := cell_of_row u _ 11 _ _ _ rB
  have qB12 := cell_of_row u _ 12 _ _ _ rB
  have qB13 := cell_of_row u _ 13 _ _ _ rB
  simp only [List.getElem?_toArray, List.getElem?_cons_zero, List.getElem?_cons_succ] at qB0 qB1 qB2 qB3 qB4 qB5 qB6 qB7 qB8 qB9 qB10 qB11 qB12 qB13
  go_wp2_with fail
  clear qB0 qB1 qB2 qB3 qB4 qB5 qB6 qB7 qB8 qB9 qB10 qB11 qB12 qB13
  refine name_world ?_
  intro W1 hW1
  have hbW : Below w.heap.size w W1 := by rw [hW1]; exact hbu.alloc hbu.size _
  have rBW : W1.heap[w.heap.size]? = some (.cells (rBk (.slice A0 b.tides.length k0) (.slice A1 b.sounds.length k1) b) 30 (0, 0)) := by rw [hW1]; exact (Below.heap_alloc _ _ _ lB).trans rB
  have rX : W1.heap[u.heap.size]? = some (.cells (rBk (.slice none 0 0) (.slice A1 b.sounds.length k1) b) 30 (0, 0)) := by rw [hW1]; exact heap_at _ _ rfl
  have hWX : W1.heap.size = u.heap.size + 1 := by rw [hW1]; simp
  have lBX : w.heap.size < u.heap.size := lB
  obtain ⟨X, hX⟩ : ∃ X : Nat, X = u.heap.size := ⟨_, rfl⟩
  rw [← hX] at rX lBX hWX ⊢
  have HBW := Lib.hid hbW
  have RBW := Lib.hid rBW
  have HWX := Lib.hid hWX
  clear hW1 hX hbW rBW rB lB hbu hWX
  have hl24 : b.tides.length ≤ 24 := by have := HSZ.out; omega
  go_loopw [10] (fun i wr => ∃ (k : Nat) (v : Value), k ≤ b.tides.length ∧ i = I k ∧ Below X W1 wr ∧ wr.heap[X]? = some (.cells (rBk v (.slice A1 b.sounds.length k1) b) 30 (0, 0)) ∧ wr.ownsRow (X + 1) 24 2 v (Ld.upTides b d k).length ((Ld.upTides b d k).flatMap cSp)) (fun i _ => b.tides.length - (intOf i).toNat)
  case atStart => exact ⟨0, .slice none 0 0, Nat.zero_le _, rfl, Below.refl _ _, rX, World.ownsRow_nil _ _ _ _⟩
  case round =>
    obtain ⟨k, v, hk, rfl, hB, rXr, hown⟩ := hrel
    have hXW : X ≤ W1.heap.size := Nat.le_of_lt (heap_lt rX)
    have hbw : Below w.heap.size w wr := HBW.out.trans (hB.mono (Nat.le_of_lt lBX))
    have rBr := (hB.block w.heap.size lBX).trans RBW.out
    have qB0 := cell_of_row wr _ 0 _ _ _ rBr
    simp only [List.getElem?_toArray, List.getElem?_cons_zero, List.getElem?_cons_succ] at qB0
    have HBr := Lib.hid hB
    have HBw := Lib.hid hbw
    have RXR := Lib.hid rXr
    have RBR := Lib.hid rBr
    have HOWN := Lib.hid hown
    clear hB hbw rXr hown rBr
    by_cases hlt : k < b.tides.length
    · as_aux_lemma =>
        have hki : (k : Int) < b.tides.length := by omega
        have HK := Lib.hid (Ld.upTides_succ (d := d) hlt)
        have hlen := Ld.upTides_len (b := b) (d := d) (Nat.le_of_lt hlt)
        obtain ⟨bl, off, c', hv, hbl, q0, q1⟩ := ((HRB.out w (Below.refl _ _)).below HBw.out (Nat.le_refl _)).tide hlt
        injection hv with hA _ hc
        subst hA hc
        have htb := Ld.tide_bd (Ld.valid_parts HVAL.out).2.1 hlt
        rw [show Ld.tide b k = b.tides[k] by simp [Ld.tide, hlt]] at htb
        generalize hx : b.tides[k] = x at q0 q1 htb
        have HX := Lib.hid hx
        obtain ⟨n', hn'⟩ : ∃ n', (Ld.upTides b d k).length = n' := ⟨_, rfl⟩
        obtain ⟨xs, hxs⟩ : ∃ xs, (Ld.upTides b d k).flatMap cSp = xs := ⟨_, rfl⟩
        have hown2 := HOWN.out
        rw [hn', hxs] at hown2
        rw [hn'] at hlen
        have HM := Lib.hid hn'
        have HXS := Lib.hid hxs
        have hblX : bl < X := by omega
        have HOWN2 := Lib.hid hown2
        have hup : ∀ W', Calls Try.prog 41 #[vSp x, I d] W' fun e w' => e = .returned (vSp (Ld.upSp x d)) ∧ Below W'.heap.size W' w' := fun W' => up_any x d (by omega) (by omega) hd0 W'
        have HUP := Lib.hid hup
        obtain ⟨ux, hux⟩ : ∃ z : Ld.Sp, Ld.upSp x d = z := ⟨_, rfl⟩
        rw [hux] at hup
        have HUP := Lib.hid hup
        have HUX := Lib.hid hux
        have hn24 : n' ≤ 24 := by omega
        clear hown2 hn' hxs hx htb hup hux HOWN hlen
        go_wp2_with fail

        refine name_act ?_
        intro A hA
        obtain ⟨R, hR⟩ : ∃ R : Act → World → Prop, R = fun a' w' => ∃ g cap : Nat, (∃ u59 u60 u61 u62 u63 u64 u65 u66 u67 u68 u69 u70, a' = ((((((((((((A.put (some 59) u59).put (some 60) u60).put (some 61) u61).put (some 62) u62).put (some 63) u63).put (some 64) u64).put (some 65) u65).put (some 66) u66).put (some 67) u67).put (some 68) u68).put (some 69) u69).put (some 70) u70)) ∧ w'.heap[X]? = some (.cells (rBk (.slice (some ⟨g, 0, none⟩) (n' + 1) cap) (.slice A1 b.sounds.length k1) b) 30 (0, 0)) ∧ w'.ownsRow (X + 1) 24 2 (.slice (some ⟨g, 0, none⟩) (n' + 1) cap) (n' + 1) (xs ++ cSp ux) ∧ HeldB X wr w' := ⟨_, rfl⟩
        have HR := Lib.hid hR
        clear hR
        refine wp_between R ?first9 ?rest9
        case first9 =>
          as_aux_lemma =>
            subst hA
            have hX0 : wr.drew.heap[X]? = _ := RXR.out
            have hS0 : HeldB X wr wr.drew := heldB_of (Below.refl _ _).drew
            have ho0 : wr.drew.ownsRow (X + 1) 24 2 v n' xs := HOWN2.out
            have hz0 : X + 1 ≤ wr.drew.heap.size := heap_lt RXR.out
            have hFw : X ≤ wr.heap.size := Nat.le_of_lt (heap_lt RXR.out)
            refine wp_region_held_drew (S := fun w' => HeldB X wr w') (by kernel_rfl) hS0 (fun _ => ?_)
            refine wpAnyH_take (i := 0) (oi := { dst := some 59, op := Go.Op.fieldAddr 30 (Go.Operand.tmp 9) 0, type := 0, pos := "outright.go:334", after := #[], guard := none }) (v := ?v1) rfl (by kernel_rfl) (by kernel_rfl) (by kernel_rfl) (fun _ _ _ h => h) (Or.inl ⟨by rfl, ?hy1⟩) hS0 ?r1
            case hy1 =>
              intro w' hSw
              have hq := hSw.1
              clear hSw
              go_simp
              with_reducible rfl
            try simp only [Act.put, List.setIfInBounds_toArray, List.set_cons_zero, List.set_cons_succ]
            refine wpAnyH_take (i := 2) (oi := { dst := some 61, op := Go.Op.fieldAddr 30 (Go.Operand.tmp 2) 0, type := 0, pos := "outright.go:334", after := #[], guard := none }) (v := ?v2) rfl (by kernel_rfl) (by kernel_rfl) (by kernel_rfl) (fun _ _ _ h => h) (Or.inl ⟨by rfl, ?hy2⟩) hS0 ?r2
            case hy2 =>
              intro w' hSw
              have hq := hSw.1
              clear hSw
              go_simp
              with_reducible rfl
            try simp only [Act.put, List.setIfInBounds_toArray, List.set_cons_zero, List.set_cons_succ]
            refine wpAnyH_take (i := 3) (oi := { dst := some 62, op := Go.Op.load 22 (Go.Operand.tmp 61), type := 22, pos := "outright.go:334", after := #[{ on := 2, ground := Go.Ground.data }], guard := none }) (v := ?v3) rfl (by kernel_rfl) (by kernel_rfl) (by kernel_rfl) (fun _ _ _ h => h) (Or.inl ⟨by rfl, ?hy3⟩) hS0 ?r3
            case hy3 =>
              intro w' hSw
              have hq := hSw.1
              clear hSw
              go_simp
              with_reducible rfl
            try simp only [Act.put, List.setIfInBounds_toArray, List.set_cons_zero, List.set_cons_succ]
            refine wpAnyH_take (i := 4) (oi := { dst := some 63, op := Go.Op.move (Go.Operand.tmp 10), type := 3, pos := "outright.go:334", after := #[], guard := none }) (v := ?v4) rfl (by kernel_rfl) (by kernel_rfl) (by kernel_rfl) (fun _ _ _ h => h) (Or.inl ⟨by rfl, ?hy4⟩) hS0 ?r4
            case hy4 =>
              intro w' hSw
              have hq := hSw.1
              clear hSw
              go_simp
              with_reducible rfl
            try simp only [Act.put, List.setIfInBounds_toArray, List.set_cons_zero, List.set_cons_succ]
            refine wpAnyH_take (i := 5) (oi := { dst := some 64, op := Go.Op.indexAddr 22 (Go.Operand.tmp 62) (Go.Operand.tmp 63), type := 0, pos := "outright.go:334", after := #[{ on := 3, ground := Go.Ground.data }, { on := 4, ground := Go.Ground.data }], guard := none }) (v := ?v5) rfl (by kernel_rfl) (by kernel_rfl) (by kernel_rfl) (fun _ _ _ h => h) (Or.inl ⟨by rfl, ?hy5⟩) hS0 ?r5
            case hy5 =>
              intro w' hSw
              have hq := hSw.1
              clear hSw
              go_simp
              with_reducible rfl
            try simp only [Act.put, List.setIfInBounds_toArray, List.set_cons_zero, List.set_cons_succ]
            refine wpAnyH_take (i := 6) (oi := { dst := some 65, op := Go.Op.load 24 (Go.Operand.tmp 64), type := 24, pos := "outright.go:334", after := #[{ on := 5, ground := Go.Ground.data }], guard := none }) (v := ?v6) rfl (by kernel_rfl) (by kernel_rfl) (by kernel_rfl) (fun _ _ _ h => h) (Or.inl ⟨by rfl, ?hy6⟩) hS0 ?r6
            case hy6 =>
              intro w' hSw
              have hq := hSw.1
              clear hSw
              go_simp
              with_reducible rfl
            try simp only [Act.put, List.setIfInBounds_toArray, List.set_cons_zero, List.set_cons_succ]
            refine wpAnyH_take (i := 7) (oi := { dst := some 66, op := Go.Op.move (Go.Operand.tmp 8), type := 3, pos := "outright.go:334", after := #[], guard := none }) (v := ?v7) rfl (by kernel_rfl) (by kernel_rfl) (by kernel_rfl) (fun _ _ _ h => h) (Or.inl ⟨by rfl, ?hy7⟩) hS0 ?r7
            case hy7 =>
              intro w' hSw
              have hq := hSw.1
              clear hSw
              go_simp
              with_reducible rfl
            try simp only [Act.put, List.setIfInBounds_toArray, List.set_cons_zero, List.set_cons_succ]
            refine wpAnyH_ready (rs := [1, 8]) (by kernel_rfl) (by simp) ?_
            refine AllReadyH.cons rfl (fun K hK => ?_) (AllReadyH.cons rfl (fun K hK => ?_) AllReadyH.nil)
            · have qXw8 := cell_of_row wr.drew _ 0 _ _ _ hX0
              simp only [List.getElem?_toArray, List.getElem?_cons_zero, List.getElem?_cons_succ] at qXw8
              go_simp
              refine hK.out _ _ hS0 (fun _ => ?_)
              clear hK K qXw8
              try simp only [Act.put, List.setIfInBounds_toArray, List.set_cons_zero, List.set_cons_succ]
              refine wpAnyH_ready (rs := [8]) (by kernel_rfl) (by simp) ?_
              refine AllReadyH.cons rfl (fun K hK => ?_) AllReadyH.nil
              go_simp
              refine (HUP.out _).mono ?_
              rintro e w9 ⟨rfl, hBw9⟩
              have hSw9 : HeldB X wr w9 := heldB_of (hS0.2.trans (hBw9.mono (Nat.le_trans hFw hS0.2.size)))
              have how9 := ho0.kept (grown_of_below hBw9 none) (by cases v.ownBlock <;> simp)
              have hzw9 : X + 1 ≤ w9.heap.size := Nat.le_trans hz0 hBw9.size
              have hrXw9 := (hBw9.block _ (heap_lt hX0)).trans hX0
              refine hK.out _ _ hSw9 (fun _ => ?_)
              clear hK K
              try simp only [Act.put, List.setIfInBounds_toArray, List.set_cons_zero, List.set_cons_succ]
              refine wpAnyH_ready (rs := [9]) (by kernel_rfl) (by simp) ?_
              refine AllReadyH.cons rfl (fun K hK => ?_) AllReadyH.nil
              go_simp
              refine hK.out _ _ (heldB_of (hSw9.2.alloc (Nat.le_trans hFw hSw9.2.size) _)) (fun _ => ?_)
              clear hK K
              try simp only [Act.put, List.setIfInBounds_toArray, List.set_cons_zero, List.set_cons_succ]
              refine name_anyH ?_
              intro w10 hWw10
              have hAw10 : Below w9.heap.size w9 w10 := by rw [hWw10]; exact (Below.refl _ _).alloc (Nat.le_refl _) _
              have hSw10 : HeldB X wr w10 := heldB_of (hSw9.2.trans (hAw10.mono (Nat.le_trans hFw hSw9.2.size)))
              have hr5w10 : w10.heap[w9.heap.size]? = some (.cells #[I ux.lo, I ux.hi] 24 (0, 0)) := by rw [hWw10]; exact heap_at _ _ rfl
              have how10 : w10.ownsRow (X + 1) 24 2 v n' xs := by rw [hWw10]; exact how9.alloc _
              have hzw10 : X + 1 ≤ w10.heap.size := Nat.le_trans hzw9 hAw10.size
              clear hWw10
              have hrXw10 := (hAw10.block _ (heap_lt hrXw9)).trans hrXw9
              refine wpAnyH_ready (rs := [10]) (by kernel_rfl) (by simp) ?_
              refine AllReadyH.cons rfl (fun K hK => ?_) AllReadyH.nil
              obtain ⟨i0, hi, hq0, hq1', hq2⟩ := info_parts infoSpn
              obtain ⟨vw11, w11, hrunw11, how11, hgw11, -, -⟩ := run_append_own_at (P := Try.prog) w10 (X + 1) 22 22 24 i0 (vSp ⟨0, 0⟩) 2 16 underSpn hi hq0 hq1' hq2 rfl (by decide) v n' xs how10 ⟨w9.heap.size, 0, none⟩ 1 1 (cSp ux) rfl (fun j u hj => by rw [Addr.add_lit, Nat.zero_add, cell_of_row _ _ j _ _ _ hr5w10]; simpa [cSp] using hj) (by intro u hu; simp [cSp] at hu; rcases hu with rfl | rfl <;> rfl) (by unfold maxLen; omega) (by omega) hzw10
              have hAw11 : Below (X + 1) w10 w11 := ⟨hgw11.os, hgw11.tape, hgw11.output, hgw11.size, fun i hi => hgw11.block i (Nat.lt_of_lt_of_le hi hzw10) (fun e => by have := (how10.lt i e.symm).1; omega)⟩
              clear hi hq0 hq1' hq2
              rw [if_pos (by rfl)]
              refine wp_append_run (t := 22) (v0 := v) (vx := .slice (some ⟨w9.heap.size, 0, none⟩) 1 1) (v' := vw11) (w' := w11) (by rfl) (by simp [go_sem]) (by simp [go_sem]) hrunw11 ?_
              clear hrunw11
              have hSw11 := heldB_of (hSw10.2.trans (hAw11.mono (Nat.le_succ _)))
              refine hK.out _ _ hSw11 (fun _ => ?_)
              clear hK K
              have hrXw11 := (hAw11.block _ (Nat.lt_succ_self _)).trans hrXw10
              rcases how11 with ⟨hxw11, ⟨he, hcw11⟩ | ⟨gw11, capw11, curw11, rfl, hxxw11⟩⟩
              · exfalso; simp at hcw11
              have how11 : w11.ownsRow (X + 1) 24 2 (.slice (some ⟨gw11, 0, none⟩) (n' + 1) capw11) (n' + 1) (xs ++ cSp ux) := ⟨hxw11, .inr ⟨gw11, capw11, curw11, rfl, hxxw11⟩⟩
              try simp only [Act.put, List.setIfInBounds_toArray, List.set_cons_zero, List.set_cons_succ]
              have qXw11 := cell_of_row w11 _ 0 _ _ _ hrXw11
              simp only [List.getElem?_toArray, List.getElem?_cons_zero, List.getElem?_cons_succ] at qXw11
              have fXw11 : w11.frozen? ⟨X, 0, none⟩ = false := by simp [World.frozen?, hrXw11]
              refine wpAnyH_take (i := 11) (oi := { dst := some 70, op := Go.Op.fieldAddr 30 (Go.Operand.tmp 9) 0, type := 0, pos := "outright.go:334", after := #[{ on := 0, ground := Go.Ground.phase }, { on := 1, ground := Go.Ground.phase }, { on := 2, ground := Go.Ground.phase }, { on := 3, ground := Go.Ground.phase }, { on := 4, ground := Go.Ground.phase }, { on := 5, ground := Go.Ground.phase }, { on := 6, ground := Go.Ground.phase }, { on := 7, ground := Go.Ground.phase }, { on := 8, ground := Go.Ground.phase }, { on := 9, ground := Go.Ground.phase }, { on := 10, ground := Go.Ground.phase }], guard := none }) (v := ?v12) rfl (by kernel_rfl) (by kernel_rfl) (by kernel_rfl) (fun _ _ _ h => h) (Or.inl ⟨by rfl, ?hy12⟩) hSw11 ?r12
              case hy12 =>
                intro w' hSw
                have hq := hSw.1
                clear hSw
                go_simp
                with_reducible rfl
              try simp only [Act.put, List.setIfInBounds_toArray, List.set_cons_zero, List.set_cons_succ]
              refine wpAnyH_ready (rs := [12]) (by kernel_rfl) (by simp) ?_
              refine AllReadyH.cons rfl (fun K hK => ?_) AllReadyH.nil
              go_simp
              have hSw13 := heldB_of (hSw11.2.setCell (p := ⟨X, 0, none⟩) (Nat.le_refl _) (.slice (some ⟨gw11, 0, none⟩) (n' + 1) capw11))
              refine hK.out _ _ hSw13 (fun _ => ?_)
              clear hK K
              try simp only [Act.put, List.setIfInBounds_toArray, List.set_cons_zero, List.set_cons_succ]
              refine wpAnyH_done (by kernel_rfl) ?_ _
              show R _ _
              rw [HR.out]
              simp only [Act.put, List.setIfInBounds_toArray, List.set_cons_zero, List.set_cons_succ]
              refine ⟨gw11, capw11, ⟨_, _, _, _, _, _, _, _, _, _, _, _, rfl⟩, by simp [World.setCell, Array.getElem?_modify, hrXw11], how11.kept (row := some X) ⟨rfl, rfl, rfl, by simp [World.setCell], fun k _ hk => Below.heap_setCell _ _ _ _ (fun e => hk (by rw [e]))⟩ (.inr ?_), hSw13⟩
              have := (how11.lt gw11 rfl).1
              simp [Value.ownBlock]
              omega
            · go_simp
              refine (HUP.out _).mono ?_
              rintro e w14 ⟨rfl, hBw14⟩
              have hSw14 : HeldB X wr w14 := heldB_of (hS0.2.trans (hBw14.mono (Nat.le_trans hFw hS0.2.size)))
              have how14 := ho0.kept (grown_of_below hBw14 none) (by cases v.ownBlock <;> simp)
              have hzw14 : X + 1 ≤ w14.heap.size := Nat.le_trans hz0 hBw14.size
              have hrXw14 := (hBw14.block _ (heap_lt hX0)).trans hX0
              refine hK.out _ _ hSw14 (fun _ => ?_)
              clear hK K
              try simp only [Act.put, List.setIfInBounds_toArray, List.set_cons_zero, List.set_cons_succ]
              refine wpAnyH_ready (rs := [1, 9]) (by kernel_rfl) (by simp) ?_
              refine AllReadyH.cons rfl (fun K hK => ?_) (AllReadyH.cons rfl (fun K hK => ?_) AllReadyH.nil)
              · have qXw15 := cell_of_row w14 _ 0 _ _ _ hrXw14
                simp only [List.getElem?_toArray, List.getElem?_cons_zero, List.getElem?_cons_succ] at qXw15
                go_simp
                refine hK.out _ _ hSw14 (fun _ => ?_)
                clear hK K qXw15
                try simp only [Act.put, List.setIfInBounds_toArray, List.set_cons_zero, List.set_cons_succ]
                refine wpAnyH_ready (rs := [9]) (by kernel_rfl) (by simp) ?_
                refine AllReadyH.cons rfl (fun K hK => ?_) AllReadyH.nil
                go_simp
                refine hK.out _ _ (heldB_of (hSw14.2.alloc (Nat.le_trans hFw hSw14.2.size) _)) (fun _ => ?_)
                clear hK K
                try simp only [Act.put, List.setIfInBounds_toArray, List.set_cons_zero, List.set_cons_succ]
                refine name_anyH ?_
                intro w16 hWw16
                have hAw16 : Below w14.heap.size w14 w16 := by rw [hWw16]; exact (Below.refl _ _).alloc (Nat.le_refl _) _
                have hSw16 : HeldB X wr w16 := heldB_of (hSw14.2.trans (hAw16.mono (Nat.le_trans hFw hSw14.2.size)))
                have hr5w16 : w16.heap[w14.heap.size]? = some (.cells #[I ux.lo, I ux.hi] 24 (0, 0)) := by rw [hWw16]; exact heap_at _ _ rfl
                have how16 : w16.ownsRow (X + 1) 24 2 v n' xs := by rw [hWw16]; exact how14.alloc _
                have hzw16 : X + 1 ≤ w16.heap.size := Nat.le_trans hzw14 hAw16.size
                clear hWw16
                have hrXw16 := (hAw16.block _ (heap_lt hrXw14)).trans hrXw14
                refine wpAnyH_ready (rs := [10]) (by kernel_rfl) (by simp) ?_
                refine AllReadyH.cons rfl (fun K hK => ?_) AllReadyH.nil
                obtain ⟨i0, hi, hq0, hq1', hq2⟩ := info_parts infoSpn
                obtain ⟨vw17, w17, hrunw17, how17, hgw17, -, -⟩ := run_append_own_at (P := Try.prog) w16 (X + 1) 22 22 24 i0 (vSp ⟨0, 0⟩) 2 16 underSpn hi hq0 hq1' hq2 rfl (by decide) v n' xs how16 ⟨w14.heap.size, 0, none⟩ 1 1 (cSp ux) rfl (fun j u hj => by rw [Addr.add_lit, Nat.zero_add, cell_of_row _ _ j _ _ _ hr5w16]; simpa [cSp] using hj) (by intro u hu; simp [cSp] at hu; rcases hu with rfl | rfl <;> rfl) (by unfold maxLen; omega) (by omega) hzw16
                have hAw17 : Below (X + 1) w16 w17 := ⟨hgw17.os, hgw17.tape, hgw17.output, hgw17.size, fun i hi => hgw17.block i (Nat.lt_of_lt_of_le hi hzw16) (fun e => by have := (how16.lt i e.symm).1; omega)⟩
                clear hi hq0 hq1' hq2
                rw [if_pos (by rfl)]
                refine wp_append_run (t := 22) (v0 := v) (vx := .slice (some ⟨w14.heap.size, 0, none⟩) 1 1) (v' := vw17) (w' := w17) (by rfl) (by simp [go_sem]) (by simp [go_sem]) hrunw17 ?_
                clear hrunw17
                have hSw17 := heldB_of (hSw16.2.trans (hAw17.mono (Nat.le_succ _)))
                refine hK.out _ _ hSw17 (fun _ => ?_)
                clear hK K
                have hrXw17 := (hAw17.block _ (Nat.lt_succ_self _)).trans hrXw16
                rcases how17 with ⟨hxw17, ⟨he, hcw17⟩ | ⟨gw17, capw17, curw17, rfl, hxxw17⟩⟩
                · exfalso; simp at hcw17
                have how17 : w17.ownsRow (X + 1) 24 2 (.slice (some ⟨gw17, 0, none⟩) (n' + 1) capw17) (n' + 1) (xs ++ cSp ux) := ⟨hxw17, .inr ⟨gw17, capw17, curw17, rfl, hxxw17⟩⟩
                try simp only [Act.put, List.setIfInBounds_toArray, List.set_cons_zero, List.set_cons_succ]
                have qXw17 := cell_of_row w17 _ 0 _ _ _ hrXw17
                simp only [List.getElem?_toArray, List.getElem?_cons_zero, List.getElem?_cons_succ] at qXw17
                have fXw17 : w17.frozen? ⟨X, 0, none⟩ = false := by simp [World.frozen?, hrXw17]
                refine wpAnyH_take (i := 11) (oi := { dst := some 70, op := Go.Op.fieldAddr 30 (Go.Operand.tmp 9) 0, type := 0, pos := "outright.go:334", after := #[{ on := 0, ground := Go.Ground.phase }, { on := 1, ground := Go.Ground.phase }, { on := 2, ground := Go.Ground.phase }, { on := 3, ground := Go.Ground.phase }, { on := 4, ground := Go.Ground.phase }, { on := 5, ground := Go.Ground.phase }, { on := 6, ground := Go.Ground.phase }, { on := 7, ground := Go.Ground.phase }, { on := 8, ground := Go.Ground.phase }, { on := 9, ground := Go.Ground.phase }, { on := 10, ground := Go.Ground.phase }], guard := none }) (v := ?v18) rfl (by kernel_rfl) (by kernel_rfl) (by kernel_rfl) (fun _ _ _ h => h) (Or.inl ⟨by rfl, ?hy18⟩) hSw17 ?r18
                case hy18 =>
                  intro w' hSw
                  have hq := hSw.1
                  clear hSw
                  go_simp
                  with_reducible rfl
                try simp only [Act.put, List.setIfInBounds_toArray, List.set_cons_zero, List.set_cons_succ]
                refine wpAnyH_ready (rs := [12]) (by kernel_rfl) (by simp) ?_
                refine AllReadyH.cons rfl (fun K hK => ?_) AllReadyH.nil
                go_simp
                have hSw19 := heldB_of (hSw17.2.setCell (p := ⟨X, 0, none⟩) (Nat.le_refl _) (.slice (some ⟨gw17, 0, none⟩) (n' + 1) capw17))
                refine hK.out _ _ hSw19 (fun _ => ?_)
                clear hK K
                try simp only [Act.put, List.setIfInBounds_toArray, List.set_cons_zero, List.set_cons_succ]
                refine wpAnyH_done (by kernel_rfl) ?_ _
                show R _ _
                rw [HR.out]
                simp only [Act.put, List.setIfInBounds_toArray, List.set_cons_zero, List.set_cons_succ]
                refine ⟨gw17, capw17, ⟨_, _, _, _, _, _, _, _, _, _, _, _, rfl⟩, by simp [World.setCell, Array.getElem?_modify, hrXw17], how17.kept (row := some X) ⟨rfl, rfl, rfl, by simp [World.setCell], fun k _ hk => Below.heap_setCell _ _ _ _ (fun e => hk (by rw [e]))⟩ (.inr ?_), hSw19⟩
                have := (how17.lt gw17 rfl).1
                simp [Value.ownBlock]
                omega
              · go_simp
                refine hK.out _ _ (heldB_of (hSw14.2.alloc (Nat.le_trans hFw hSw14.2.size) _)) (fun _ => ?_)
                clear hK K
                try simp only [Act.put, List.setIfInBounds_toArray, List.set_cons_zero, List.set_cons_succ]
                refine name_anyH ?_
                intro w20 hWw20
                have hAw20 : Below w14.heap.size w14 w20 := by rw [hWw20]; exact (Below.refl _ _).alloc (Nat.le_refl _) _
                have hSw20 : HeldB X wr w20 := heldB_of (hSw14.2.trans (hAw20.mono (Nat.le_trans hFw hSw14.2.size)))
                have hr5w20 : w20.heap[w14.heap.size]? = some (.cells #[I ux.lo, I ux.hi] 24 (0, 0)) := by rw [hWw20]; exact heap_at _ _ rfl
                have how20 : w20.ownsRow (X + 1) 24 2 v n' xs := by rw [hWw20]; exact how14.alloc _
                have hzw20 : X + 1 ≤ w20.heap.size := Nat.le_trans hzw14 hAw20.size
                clear hWw20
                have hrXw20 := (hAw20.block _ (heap_lt hrXw14)).trans hrXw14
                refine wpAnyH_ready (rs := [1]) (by kernel_rfl) (by simp) ?_
                refine AllReadyH.cons rfl (fun K hK => ?_) AllReadyH.nil
                have qXw21 := cell_of_row w20 _ 0 _ _ _ hrXw20
                simp only [List.getElem?_toArray, List.getElem?_cons_zero, List.getElem?_cons_succ] at qXw21
                go_simp
                refine hK.out _ _ hSw20 (fun _ => ?_)
                clear hK K qXw21
                try simp only [Act.put, List.setIfInBounds_toArray, List.set_cons_zero, List.set_cons_succ]
                refine wpAnyH_ready (rs := [10]) (by kernel_rfl) (by simp) ?_
                refine AllReadyH.cons rfl (fun K hK => ?_) AllReadyH.nil
                obtain ⟨i0, hi, hq0, hq1', hq2⟩ := info_parts infoSpn
                obtain ⟨vw22, w22, hrunw22, how22, hgw22, -, -⟩ := run_append_own_at (P := Try.prog) w20 (X + 1) 22 22 24 i0 (vSp ⟨0, 0⟩) 2 16 underSpn hi hq0 hq1' hq2 rfl (by decide) v n' xs how20 ⟨w14.heap.size, 0, none⟩ 1 1 (cSp ux) rfl (fun j u hj => by rw [Addr.add_lit, Nat.zero_add, cell_of_row _ _ j _ _ _ hr5w20]; simpa [cSp] using hj) (by intro u hu; simp [cSp] at hu; rcases hu with rfl | rfl <;> rfl) (by unfold maxLen; omega) (by omega) hzw20
                have hAw22 : Below (X + 1) w20 w22 := ⟨hgw22.os, hgw22.tape, hgw22.output, hgw22.size, fun i hi => hgw22.block i (Nat.lt_of_lt_of_le hi hzw20) (fun e => by have := (how20.lt i e.symm).1; omega)⟩
                clear hi hq0 hq1' hq2
                rw [if_pos (by rfl)]
                refine wp_append_run (t := 22) (v0 := v) (vx := .slice (some ⟨w14.heap.size, 0, none⟩) 1 1) (v' := vw22) (w' := w22) (by rfl) (by simp [go_sem]) (by simp [go_sem]) hrunw22 ?_
                clear hrunw22
                have hSw22 := heldB_of (hSw20.2.trans (hAw22.mono (Nat.le_succ _)))
                refine hK.out _ _ hSw22 (fun _ => ?_)
                clear hK K
                have hrXw22 := (hAw22.block _ (Nat.lt_succ_self _)).trans hrXw20
                rcases how22 with ⟨hxw22, ⟨he, hcw22⟩ | ⟨gw22, capw22, curw22, rfl, hxxw22⟩⟩
                · exfalso; simp at hcw22
                have how22 : w22.ownsRow (X + 1) 24 2 (.slice (some ⟨gw22, 0, none⟩) (n' + 1) capw22) (n' + 1) (xs ++ cSp ux) := ⟨hxw22, .inr ⟨gw22, capw22, curw22, rfl, hxxw22⟩⟩
                try simp only [Act.put, List.setIfInBounds_toArray, List.set_cons_zero, List.set_cons_succ]
                have qXw22 := cell_of_row w22 _ 0 _ _ _ hrXw22
                simp only [List.getElem?_toArray, List.getElem?_cons_zero, List.getElem?_cons_succ] at qXw22
                have fXw22 : w22.frozen? ⟨X, 0, none⟩ = false := by simp [World.frozen?, hrXw22]
                refine wpAnyH_take (i := 11) (oi := { dst := some 70, op := Go.Op.fieldAddr 30 (Go.Operand.tmp 9) 0, type := 0, pos := "outright.go:334", after := #[{ on := 0, ground := Go.Ground.phase }, { on := 1, ground := Go.Ground.phase }, { on := 2, ground := Go.Ground.phase }, { on := 3, ground := Go.Ground.phase }, { on := 4, ground := Go.Ground.phase }, { on := 5, ground := Go.Ground.phase }, { on := 6, ground := Go.Ground.phase }, { on := 7, ground := Go.Ground.phase }, { on := 8, ground := Go.Ground.phase }, { on := 9, ground := Go.Ground.phase }, { on := 10, ground := Go.Ground.phase }], guard := none }) (v := ?v23) rfl (by kernel_rfl) (by kernel_rfl) (by kernel_rfl) (fun _ _ _ h => h) (Or.inl ⟨by rfl, ?hy23⟩) hSw22 ?r23
                case hy23 =>
                  intro w' hSw
                  have hq := hSw.1
                  clear hSw
                  go_simp
                  with_reducible rfl
                try simp only [Act.put, List.setIfInBounds_toArray, List.set_cons_zero, List.set_cons_succ]
                refine wpAnyH_ready (rs := [12]) (by kernel_rfl) (by simp) ?_
                refine AllReadyH.cons rfl (fun K hK => ?_) AllReadyH.nil
                go_simp
                have hSw24 := heldB_of (hSw22.2.setCell (p := ⟨X, 0, none⟩) (Nat.le_refl _) (.slice (some ⟨gw22, 0, none⟩) (n' + 1) capw22))
                refine hK.out _ _ hSw24 (fun _ => ?_)
                clear hK K
                try simp only [Act.put, List.setIfInBounds_toArray, List.set_cons_zero, List.set_cons_succ]
                refine wpAnyH_done (by kernel_rfl) ?_ _
                show R _ _
                rw [HR.out]
                simp only [Act.put, List.setIfInBounds_toArray, List.set_cons_zero, List.set_cons_succ]
                refine ⟨gw22, capw22, ⟨_, _, _, _, _, _, _, _, _, _, _, _, rfl⟩, by simp [World.setCell, Array.getElem?_modify, hrXw22], how22.kept (row := some X) ⟨rfl, rfl, rfl, by simp [World.setCell], fun k _ hk => Below.heap_setCell _ _ _ _ (fun e => hk (by rw [e]))⟩ (.inr ?_), hSw24⟩
                have := (how22.lt gw22 rfl).1
                simp [Value.ownBlock]
                omega
        case rest9 =>
          intro a' w3 hra
          rw [HR.out] at hra
          clear HR
          obtain ⟨g, cap, ⟨u59, u60, u61, u62, u63, u64, u65, u66, u67, u68, u69, u70, rfl⟩, rX3, hown3, hHE⟩ := hra
          subst hA
          try simp only [Act.put, List.setIfInBounds_toArray, List.set_cons_zero, List.set_cons_succ]
          go_wp2_with fail
          go_roundw
          case rel =>
            refine ⟨k + 1, _, by omega, by go_num, HBr.out.trans hHE.2, rX3, ?_⟩
            rw [HK.out, List.length_append, List.flatMap_append, HX.out, HM.out, HXS.out, HUX.out]
            simpa using hown3
          case measure => simp [intOf]; omega
    · obtain rfl : k = b.tides.length := by omega
      have hsl : Sl wr wr.heap.size 2 v (Ld.upB b d).tides.length ((Ld.upB b d).tides.flatMap cSp) := by
        have h1 := sl_ownN HOWN.out (Nat.le_refl _)
        have e1 : Ld.upTides b d b.tides.length = (Ld.upB b d).tides := by unfold Ld.upTides Ld.upB; rw [List.take_length]
        rw [e1] at h1
        exact h1
      obtain ⟨Av, cv, rfl⟩ := hsl.form
      have HSL := Lib.hid hsl
      have HNE := Lib.hid (show ∀ g o n' c, (Value.slice Av (Ld.upB b d).tides.length cv) = .slice (some ⟨g, o, none⟩) n' c → g ≠ X from fun g o n' c e => by have := (HOWN.out.lt g (by rw [e]; rfl)).1; omega)
      clear hsl HOWN
      go_wp2_with fail
      clear qB0
      have hXwr := heap_lt RXR.out

      obtain ⟨wo, rfl⟩ : ∃ wo : World, wo = wr := ⟨_, rfl⟩
      have lBr := heap_lt RBR.out
      go_loopw [11] (fun i wr => ∃ k : Nat, k ≤ 2 ∧ i = I k ∧ Below X wo wr ∧ Apart X wo wr ∧ wr.heap[X]? = some (.cells (rBk (.slice Av (Ld.upB b d).tides.length cv) (.slice A1 b.sounds.length k1) (Ld.upTo b d k)) 30 (0, 0))) (fun i _ => 2 - (intOf i).toNat)
      case atStart => exact ⟨0, by omega, rfl, Below.refl _ _, ⟨fun _ _ _ _ => rfl, Below.refl _ _, Nat.le_refl _⟩, RXR.out⟩
      case round =>
        obtain ⟨k, hk, rfl, hBz, hAp, rXz⟩ := hrel
        have rBz := (hBz.block w.heap.size lBX).trans RBR.out
        have HBz := Lib.hid hBz
        have HAP := Lib.hid hAp
        have RXZ := Lib.hid rXz
        have RBZ := Lib.hid rBz
        clear hBz rXz hAp
        by_cases hlt : k < 2
        · have hfb0 := Ld.floor_bd (Ld.valid_parts HVAL.out).2.2.1 0
          have hfb1 := Ld.floor_bd (Ld.valid_parts HVAL.out).2.2.1 1
          rw [show Ld.shore b 0 = b.s0 from rfl] at hfb0
          rw [show Ld.shore b 1 = b.s1 from rfl] at hfb1
          have hk2 : k = 0 ∨ k = 1 := by omega
          have HU0 := Lib.hid (show ∀ W', Calls Try.prog 41 #[vSp b.s0.floor, I d] W' fun e w' => e = .returned (vSp (Ld.upSp b.s0.floor d)) ∧ Below W'.heap.size W' w' from fun W' => up_any _ d (by omega) (by omega) hd0 W')
          have HU1 := Lib.hid (show ∀ W', Calls Try.prog 41 #[vSp b.s1.floor, I d] W' fun e w' => e = .returned (vSp (Ld.upSp b.s1.floor d)) ∧ Below W'.heap.size W' w' from fun W' => up_any _ d (by omega) (by omega) hd0 W')
          have e1 : IntKind.i64.wrap (b.s0.lo + d) = b.s0.lo + d := IntWalk.i64_in _ (by omega)
          have e2 : IntKind.i64.wrap (b.s0.hi + d) = b.s0.hi + d := IntWalk.i64_in _ (by omega)
          have e3 : IntKind.i64.wrap (b.s1.lo + d) = b.s1.lo + d := IntWalk.i64_in _ (by omega)
          have e4 : IntKind.i64.wrap (b.s1.hi + d) = b.s1.hi + d := IntWalk.i64_in _ (by omega)
          clear hfb0 hfb1
          have qB1 := cell_of_row wr _ 1 _ _ _ rBz
          have qB2 := cell_of_row wr _ 2 _ _ _ rBz
          have qB3 := cell_of_row wr _ 3 _ _ _ rBz
          have qB4 := cell_of_row wr _ 4 _ _ _ rBz
          have qB5 := cell_of_row wr _ 5 _ _ _ rBz
          have qB6 := cell_of_row wr _ 6 _ _ _ rBz
          have qB7 := cell_of_row wr _ 7 _ _ _ rBz
          have qB8 := cell_of_row wr _ 8 _ _ _ rBz
          simp only [List.getElem?_toArray, List.getElem?_cons_zero, List.getElem?_cons_succ] at qB1 qB2 qB3 qB4 qB5 qB6 qB7 qB8
          have hXz := heap_lt RXZ.out
          have lBz := heap_lt RBZ.out
          clear rBz
          rcases hk2 with rfl | rfl

          · as_aux_lemma =>
              go_upto_region 14 with fail
              refine name_world ?_
              intro W4 hW4
              have hA4 : Below wr.heap.size wr W4 := by rw [hW4]; exact (Below.refl _ _).alloc (Nat.le_refl _) _
              have rY : W4.heap[wr.heap.size]? = some (.cells #[I b.s0.floor.lo, I b.s0.floor.hi, I b.s0.lo, I b.s0.hi] 26 (0, 0)) := by rw [hW4]; exact heap_at _ _ rfl
              have rX4 := (hA4.block _ hXz).trans RXZ.out
              have hYX : wr.heap.size ≠ X := by omega
              have lY := heap_lt rY
              clear hW4 qB1 qB2 qB3 qB4 qB5 qB6 qB7 qB8
              have qY0 := cell_of_row W4 _ 0 _ _ _ rY
              have qY1 := cell_of_row W4 _ 1 _ _ _ rY
              have qY2 := cell_of_row W4 _ 2 _ _ _ rY
              have qY3 := cell_of_row W4 _ 3 _ _ _ rY
              simp only [List.getElem?_toArray, List.getElem?_cons_zero, List.getElem?_cons_succ] at qY0 qY1 qY2 qY3
              have HA4 := Lib.hid hA4
              clear rY hA4
              refine name_act ?_
              intro A hA
              obtain ⟨R, hR⟩ : ∃ R : Act → World → Prop, R = fun a' w' => (∃ u79 u80 u81 u82 u83 u84 u85 u86 u87 u88 u89 u90 u91 u92 u93 u94, a' = ((((((((((((((((A.put (some 79) u79).put (some 80) u80).put (some 81) u81).put (some 82) u82).put (some 83) u83).put (some 84) u84).put (some 85) u85).put (some 86) u86).put (some 87) u87).put (some 88) u88).put (some 89) u89).put (some 90) u90).put (some 91) u91).put (some 92) u92).put (some 93) u93).put (some 94) u94)) ∧ w'.heap[X]? = some (.cells (rBk (.slice Av (Ld.upB b d).tides.length cv) (.slice A1 b.sounds.length k1) (Ld.upTo b d 1)) 30 (0, 0)) ∧ Apart X W4 w' := ⟨_, rfl⟩
              have HR := Lib.hid hR
              clear hR
              refine wp_between R ?first14 ?rest14
              case first14 =>
                as_aux_lemma =>
                  subst hA
                  have hX0 : W4.drew.heap[X]? = _ := rX4
                  have hXW4 : X ≤ W4.heap.size := Nat.le_of_lt (heap_lt rX4)
                  refine wp_region_held_drew (S := fun w' => Apart X W4 w') (by kernel_rfl) (apart_start _ _) (fun _ => ?_)
                  refine wpAnyH_take (i := 0) (oi := { dst := some 79, op := Go.Op.move (Go.Operand.tmp 11), type := 3, pos := "outright.go:338", after := #[], guard := none }) (v := ?v25) rfl (by kernel_rfl) (by kernel_rfl) (by kernel_rfl) (fun _ _ _ h => h) (Or.inl ⟨by rfl, ?hy25⟩) (apart_start _ _) ?r25
                  case hy25 =>
                    intro w' hSw
                    have hq := hSw.1
                    clear hSw
                    go_simp
                    with_reducible rfl
                  try simp only [Act.put, List.setIfInBounds_toArray, List.set_cons_zero, List.set_cons_succ]
                  refine wpAnyH_take (i := 1) (oi := { dst := some 80, op := Go.Op.fieldAddr 26 (Go.Operand.tmp 12) 0, type := 0, pos := "outright.go:338", after := #[], guard := none }) (v := ?v26) rfl (by kernel_rfl) (by kernel_rfl) (by kernel_rfl) (fun _ _ _ h => h) (Or.inl ⟨by rfl, ?hy26⟩) (apart_start _ _) ?r26
                  case hy26 =>
                    intro w' hSw
                    have hq := hSw.1
                    clear hSw
                    go_simp
                    with_reducible rfl
                  try simp only [Act.put, List.setIfInBounds_toArray, List.set_cons_zero, List.set_cons_succ]
                  refine wpAnyH_take (i := 2) (oi := { dst := some 81, op := Go.Op.load 24 (Go.Operand.tmp 80), type := 24, pos := "outright.go:338", after := #[{ on := 1, ground := Go.Ground.data }], guard := none }) (v := ?v27) rfl (by kernel_rfl) (by kernel_rfl) (by kernel_rfl) (fun _ _ _ h => h) (Or.inl ⟨by rfl, ?hy27⟩) (apart_start _ _) ?r27
                  case hy27 =>
                    intro w' hSw
                    have hq := hSw.1
                    clear hSw
                    go_simp
                    with_reducible rfl
                  try simp only [Act.put, List.setIfInBounds_toArray, List.set_cons_zero, List.set_cons_succ]
                  refine wpAnyH_take (i := 3) (oi := { dst := some 82, op := Go.Op.move (Go.Operand.tmp 8), type := 3, pos := "outright.go:338", after := #[], guard := none }) (v := ?v28) rfl (by kernel_rfl) (by kernel_rfl) (by kernel_rfl) (fun _ _ _ h => h) (Or.inl ⟨by rfl, ?hy28⟩) (apart_start _ _) ?r28
                  case hy28 =>
                    intro w' hSw
                    have hq := hSw.1
                    clear hSw
                    go_simp
                    with_reducible rfl
                  try simp only [Act.put, List.setIfInBounds_toArray, List.set_cons_zero, List.set_cons_succ]
                  refine wpAnyH_take (i := 5) (oi := { dst := some 84, op := Go.Op.fieldAddr 26 (Go.Operand.tmp 12) 1, type := 0, pos := "outright.go:338", after := #[], guard := none }) (v := ?v29) rfl (by kernel_rfl) (by kernel_rfl) (by kernel_rfl) (fun _ _ _ h => h) (Or.inl ⟨by rfl, ?hy29⟩) (apart_start _ _) ?r29
                  case hy29 =>
                    intro w' hSw
                    have hq := hSw.1
                    clear hSw
                    go_simp
                    with_reducible rfl
                  try simp only [Act.put, List.setIfInBounds_toArray, List.set_cons_zero, List.set_cons_succ]
                  refine wpAnyH_take (i := 6) (oi := { dst := some 85, op := Go.Op.load 3 (Go.Operand.tmp 84), type := 3, pos := "outright.go:338", after := #[{ on := 5, ground := Go.Ground.data }], guard := none }) (v := ?v30) rfl (by kernel_rfl) (by kernel_rfl) (by kernel_rfl) (fun _ _ _ h => h) (Or.inl ⟨by rfl, ?hy30⟩) (apart_start _ _) ?r30
                  case hy30 =>
                    intro w' hSw
                    have hq := hSw.1
                    clear hSw
                    go_simp
                    with_reducible rfl
                  try simp only [Act.put, List.setIfInBounds_toArray, List.set_cons_zero, List.set_cons_succ]
                  refine wpAnyH_take (i := 7) (oi := { dst := some 86, op := Go.Op.move (Go.Operand.tmp 8), type := 3, pos := "outright.go:338", after := #[], guard := none }) (v := ?v31) rfl (by kernel_rfl) (by kernel_rfl) (by kernel_rfl) (fun _ _ _ h => h) (Or.inl ⟨by rfl, ?hy31⟩) (apart_start _ _) ?r31
                  case hy31 =>
                    intro w' hSw
                    have hq := hSw.1
                    clear hSw
                    go_simp
                    with_reducible rfl
                  try simp only [Act.put, List.setIfInBounds_toArray, List.set_cons_zero, List.set_cons_succ]
                  refine wpAnyH_take (i := 8) (oi := { dst := some 87, op := Go.Op.binOp Go.BinOp.add 3 (Go.Operand.tmp 85) (Go.Operand.tmp 86) 3, type := 3, pos := "outright.go:338", after := #[{ on := 6, ground := Go.Ground.data }, { on := 7, ground := Go.Ground.data }], guard := none }) (v := ?v32) rfl (by kernel_rfl) (by kernel_rfl) (by kernel_rfl) (fun _ _ _ h => h) (Or.inl ⟨by rfl, ?hy32⟩) (apart_start _ _) ?r32
                  case hy32 =>
                    intro w' hSw
                    have hq := hSw.1
                    clear hSw
                    go_simp
                    with_reducible rfl
                  try simp only [Act.put, List.setIfInBounds_toArray, List.set_cons_zero, List.set_cons_succ]
                  refine wpAnyH_take (i := 9) (oi := { dst := some 88, op := Go.Op.fieldAddr 26 (Go.Operand.tmp 12) 2, type := 0, pos := "outright.go:338", after := #[], guard := none }) (v := ?v33) rfl (by kernel_rfl) (by kernel_rfl) (by kernel_rfl) (fun _ _ _ h => h) (Or.inl ⟨by rfl, ?hy33⟩) (apart_start _ _) ?r33
                  case hy33 =>
                    intro w' hSw
                    have hq := hSw.1
                    clear hSw
                    go_simp
                    with_reducible rfl
                  try simp only [Act.put, List.setIfInBounds_toArray, List.set_cons_zero, List.set_cons_succ]
                  refine wpAnyH_take (i := 10) (oi := { dst := some 89, op := Go.Op.load 3 (Go.Operand.tmp 88), type := 3, pos := "outright.go:338", after := #[{ on := 9, ground := Go.Ground.data }], guard := none }) (v := ?v34) rfl (by kernel_rfl) (by kernel_rfl) (by kernel_rfl) (fun _ _ _ h => h) (Or.inl ⟨by rfl, ?hy34⟩) (apart_start _ _) ?r34
                  case hy34 =>
                    intro w' hSw
                    have hq := hSw.1
                    clear hSw
                    go_simp
                    with_reducible rfl
                  try simp only [Act.put, List.setIfInBounds_toArray, List.set_cons_zero, List.set_cons_succ]
                  refine wpAnyH_take (i := 11) (oi := { dst := some 90, op := Go.Op.move (Go.Operand.tmp 8), type := 3, pos := "outright.go:338", after := #[], guard := none }) (v := ?v35) rfl (by kernel_rfl) (by kernel_rfl) (by kernel_rfl) (fun _ _ _ h => h) (Or.inl ⟨by rfl, ?hy35⟩) (apart_start _ _) ?r35
                  case hy35 =>
                    intro w' hSw
                    have hq := hSw.1
                    clear hSw
                    go_simp
                    with_reducible rfl
                  try simp only [Act.put, List.setIfInBounds_toArray, List.set_cons_zero, List.set_cons_succ]
                  refine wpAnyH_take (i := 12) (oi := { dst := some 91, op := Go.Op.binOp Go.BinOp.add 3 (Go.Operand.tmp 89) (Go.Operand.tmp 90) 3, type := 3, pos := "outright.go:338", after := #[{ on := 10, ground := Go.Ground.data }, { on := 11, ground := Go.Ground.data }], guard := none }) (v := ?v36) rfl (by kernel_rfl) (by kernel_rfl) (by kernel_rfl) (fun _ _ _ h => h) (Or.inl ⟨by rfl, ?hy36⟩) (apart_start _ _) ?r36
                  case hy36 =>
                    intro w' hSw
                    have hq := hSw.1
                    clear hSw
                    go_simp
                    with_reducible rfl
                  try simp only [Act.put, List.setIfInBounds_toArray, List.set_cons_zero, List.set_cons_succ]
                  refine wpAnyH_take (i := 14) (oi := { dst := some 93, op := Go.Op.fieldAddr 30 (Go.Operand.tmp 9) 1, type := 0, pos := "outright.go:338", after := #[], guard := none }) (v := ?v37) rfl (by kernel_rfl) (by kernel_rfl) (by kernel_rfl) (fun _ _ _ h => h) (Or.inl ⟨by rfl, ?hy37⟩) (apart_start _ _) ?r37
                  case hy37 =>
                    intro w' hSw
                    have hq := hSw.1
                    clear hSw
                    go_simp
                    with_reducible rfl
                  try simp only [Act.put, List.setIfInBounds_toArray, List.set_cons_zero, List.set_cons_succ]
                  refine wpAnyH_ready (rs := [4]) (by kernel_rfl) (by simp) ?_
                  refine AllReadyH.cons rfl (fun K hK => ?_) AllReadyH.nil
                  go_simp
                  refine (HU0.out _).mono ?_
                  rintro e w38 ⟨rfl, hBw38⟩
                  have hSw38 := apart_step hXW4 hBw38 (apart_start _ _)
                  have hrXw38 := (hBw38.block _ (heap_lt hX0)).trans hX0
                  refine hK.out _ _ hSw38 (fun _ => ?_)
                  clear hK K
                  try simp only [Act.put, List.setIfInBounds_toArray, List.set_cons_zero, List.set_cons_succ]
                  refine wpAnyH_take (i := 13) (oi := { dst := some 92, op := Go.Op.build 26 #[(0, Go.Operand.tmp 83), (1, Go.Operand.tmp 87), (2, Go.Operand.tmp 91)], type := 26, pos := "outright.go:338", after := #[{ on := 4, ground := Go.Ground.data }, { on := 8, ground := Go.Ground.data }, { on := 12, ground := Go.Ground.data }], guard := none }) (v := ?v39) rfl (by kernel_rfl) (by kernel_rfl) (by kernel_rfl) (fun _ _ _ h => h) (Or.inl ⟨by rfl, ?hy39⟩) hSw38 ?r39
                  case hy39 =>
                    intro w' hSw
                    have hq := hSw.1
                    clear hSw
                    go_simp
                    with_reducible rfl
                  try simp only [Act.put, List.setIfInBounds_toArray, List.set_cons_zero, List.set_cons_succ]
                  refine wpAnyH_take (i := 15) (oi := { dst := some 94, op := Go.Op.indexAddr 27 (Go.Operand.tmp 93) (Go.Operand.tmp 79), type := 0, pos := "outright.go:338", after := #[{ on := 14, ground := Go.Ground.data }, { on := 0, ground := Go.Ground.data }, { on := 0, ground := Go.Ground.phase }, { on := 1, ground := Go.Ground.phase }, { on := 2, ground := Go.Ground.phase }, { on := 3, ground := Go.Ground.phase }, { on := 4, ground := Go.Ground.phase }, { on := 5, ground := Go.Ground.phase }, { on := 6, ground := Go.Ground.phase }, { on := 7, ground := Go.Ground.phase }, { on := 8, ground := Go.Ground.phase }, { on := 9, ground := Go.Ground.phase }, { on := 10, ground := Go.Ground.phase }, { on := 11, ground := Go.Ground.phase }, { on := 12, ground := Go.Ground.phase }, { on := 13, ground := Go.Ground.phase }], guard := none }) (v := ?v40) rfl (by kernel_rfl) (by kernel_rfl) (by kernel_rfl) (fun _ _ _ h => h) (Or.inl ⟨by rfl, ?hy40⟩) hSw38 ?r40
                  case hy40 =>
                    intro w' hSw
                    have hq := hSw.1
                    clear hSw
                    go_simp
                    with_reducible rfl
                  try simp only [Act.put, List.setIfInBounds_toArray, List.set_cons_zero, List.set_cons_succ]
                  refine wpAnyH_ready (rs := [16]) (by kernel_rfl) (by simp) ?_
                  refine AllReadyH.cons rfl (fun K hK => ?_) AllReadyH.nil
                  have cX0 := cell_of_row w38 _ 1 _ _ _ hrXw38
                  have fX0 : w38.frozen? ⟨X, 1, none⟩ = false := by simp [World.frozen?, hrXw38]
                  have cX1 := cell_of_row w38 _ 2 _ _ _ hrXw38
                  have fX1 : w38.frozen? ⟨X, 2, none⟩ = false := by simp [World.frozen?, hrXw38]
                  have cX2 := cell_of_row w38 _ 3 _ _ _ hrXw38
                  have fX2 : w38.frozen? ⟨X, 3, none⟩ = false := by simp [World.frozen?, hrXw38]
                  have cX3 := cell_of_row w38 _ 4 _ _ _ hrXw38
                  have fX3 : w38.frozen? ⟨X, 4, none⟩ = false := by simp [World.frozen?, hrXw38]
                  simp only [List.getElem?_toArray, List.getElem?_cons_zero, List.getElem?_cons_succ] at cX0 cX1 cX2 cX3
                  go_simp
                  refine hK.out _ _ (apart_set (apart_set (apart_set (apart_set hSw38 1 (I (b.s0.floor.lo + d))) 2 (I (b.s0.floor.hi + d))) 3 (I (b.s0.lo + d))) 4 (I (b.s0.hi + d))) (fun _ => ?_)
                  have hSw41 := (apart_set (apart_set (apart_set (apart_set hSw38 1 (I (b.s0.floor.lo + d))) 2 (I (b.s0.floor.hi + d))) 3 (I (b.s0.lo + d))) 4 (I (b.s0.hi + d)))
                  clear hK K
                  try simp only [Act.put, List.setIfInBounds_toArray, List.set_cons_zero, List.set_cons_succ]
                  refine wpAnyH_done (by kernel_rfl) ?_ _
                  show R _ _
                  rw [HR.out]
                  simp only [Act.put, List.setIfInBounds_toArray, List.set_cons_zero, List.set_cons_succ]
                  exact ⟨⟨_, _, _, _, _, _, _, _, _, _, _, _, _, _, _, _, rfl⟩, by simp [World.setCell, Array.getElem?_modify, hrXw38, Ld.upTo, Ld.upSh, Ld.upSp], hSw41⟩
              case rest14 =>
                intro a' w5 hra
                rw [HR.out] at hra
                clear HR
                obtain ⟨⟨u79, u80, u81, u82, u83, u84, u85, u86, u87, u88, u89, u90, u91, u92, u93, u94, rfl⟩, rX5, hHE⟩ := hra
                subst hA
                try simp only [Act.put, List.setIfInBounds_toArray, List.set_cons_zero, List.set_cons_succ]
                have hAw : Apart X wo w5 := by
                  have h1 := HAP.out
                  have h2 := HA4.out
                  refine ⟨fun b' o' hb' hne => ?_, h1.2.1.trans ((h2.mono (Nat.le_of_lt hXz)).trans hHE.2.1), Nat.le_trans h1.2.2 (Nat.le_trans h2.size hHE.2.2)⟩
                  have hlz := Nat.lt_of_lt_of_le hb' h1.2.2
                  exact (hHE.1 b' o' (Nat.lt_of_lt_of_le hlz h2.size) hne).trans ((h2.cell (p := ⟨b', o', none⟩) hlz).trans (h1.1 b' o' hb' hne))
                have HAW := Lib.hid hAw
                have HBN := Lib.hid (HBz.out.trans ((HA4.out.mono (Nat.le_of_lt hXz)).trans hHE.2.1))
                clear hHE hAw qY0 qY1 qY2 qY3
                go_wp2_with fail
                go_roundw
                case rel => exact ⟨1, by omega, by go_num, HBN.out, HAW.out, rX5⟩
                case measure => simp [intOf]
          · as_aux_lemma =>
              go_upto_region 14 with fail
              refine name_world ?_
              intro W4 hW4
              have hA4 : Below wr.heap.size wr W4 := by rw [hW4]; exact (Below.refl _ _).alloc (Nat.le_refl _) _
              have rY : W4.heap[wr.heap.size]? = some (.cells #[I b.s1.floor.lo, I b.s1.floor.hi, I b.s1.lo, I b.s1.hi] 26 (0, 0)) := by rw [hW4]; exact heap_at _ _ rfl
              have rX4 := (hA4.block _ hXz).trans RXZ.out
              have hYX : wr.heap.size ≠ X := by omega
              have lY := heap_lt rY
              clear hW4 qB1 qB2 qB3 qB4 qB5 qB6 qB7 qB8
              have qY0 := cell_of_row W4 _ 0 _ _ _ rY
              have qY1 := cell_of_row W4 _ 1 _ _ _ rY
              have qY2 := cell_of_row W4 _ 2 _ _ _ rY
              have qY3 := cell_of_row W4 _ 3 _ _ _ rY
              simp only [List.getElem?_toArray, List.getElem?_cons_zero, List.getElem?_cons_succ] at qY0 qY1 qY2 qY3
              have HA4 := Lib.hid hA4
              clear rY hA4
              refine name_act ?_
              intro A hA
              obtain ⟨R, hR⟩ : ∃ R : Act → World → Prop, R = fun a' w' => (∃ u79 u80 u81 u82 u83 u84 u85 u86 u87 u88 u89 u90 u91 u92 u93 u94, a' = ((((((((((((((((A.put (some 79) u79).put (some 80) u80).put (some 81) u81).put (some 82) u82).put (some 83) u83).put (some 84) u84).put (some 85) u85).put (some 86) u86).put (some 87) u87).put (some 88) u88).put (some 89) u89).put (some 90) u90).put (some 91) u91).put (some 92) u92).put (some 93) u93).put (some 94) u94)) ∧ w'.heap[X]? = some (.cells (rBk (.slice Av (Ld.upB b d).tides.length cv) (.slice A1 b.sounds.length k1) (Ld.upTo b d 2)) 30 (0, 0)) ∧ Apart X W4 w' := ⟨_, rfl⟩
              have HR := Lib.hid hR
              clear hR
              refine wp_between R ?first14 ?rest14
              case first14 =>
                as_aux_lemma =>
                  subst hA
                  have hX0 : W4.drew.heap[X]? = _ := rX4
                  have hXW4 : X ≤ W4.heap.size := Nat.le_of_lt (heap_lt rX4)
                  refine wp_region_held_drew (S := fun w' => Apart X W4 w') (by kernel_rfl) (apart_start _ _) (fun _ => ?_)
                  refine wpAnyH_take (i := 0) (oi := { dst := some 79, op := Go.Op.move (Go.Operand.tmp 11), type := 3, pos := "outright.go:338", after := #[], guard := none }) (v := ?v42) rfl (by kernel_rfl) (by kernel_rfl) (by kernel_rfl) (fun _ _ _ h => h) (Or.inl ⟨by rfl, ?hy42⟩) (apart_start _ _) ?r42
                  case hy42 =>
                    intro w' hSw
                    have hq := hSw.1
                    clear hSw
                    go_simp
                    with_reducible rfl
                  try simp only [Act.put, List.setIfInBounds_toArray, List.set_cons_zero, List.set_cons_succ]
                  refine wpAnyH_take (i := 1) (oi := { dst := some 80, op := Go.Op.fieldAddr 26 (Go.Operand.tmp 12) 0, type := 0, pos := "outright.go:338", after := #[], guard := none }) (v := ?v43) rfl (by kernel_rfl) (by kernel_rfl) (by kernel_rfl) (fun _ _ _ h => h) (Or.inl ⟨by rfl, ?hy43⟩) (apart_start _ _) ?r43
                  case hy43 =>
                    intro w' hSw
                    have hq := hSw.1
                    clear hSw
                    go_simp
                    with_reducible rfl
                  try simp only [Act.put, List.setIfInBounds_toArray, List.set_cons_zero, List.set_cons_succ]
                  refine wpAnyH_take (i := 2) (oi := { dst := some 81, op := Go.Op.load 24 (Go.Operand.tmp 80), type := 24, pos := "outright.go:338", after := #[{ on := 1, ground := Go.Ground.data }], guard := none }) (v := ?v44) rfl (by kernel_rfl) (by kernel_rfl) (by kernel_rfl) (fun _ _ _ h => h) (Or.inl ⟨by rfl, ?hy44⟩) (apart_start _ _) ?r44
                  case hy44 =>
                    intro w' hSw
                    have hq := hSw.1
                    clear hSw
                    go_simp
                    with_reducible rfl
                  try simp only [Act.put, List.setIfInBounds_toArray, List.set_cons_zero, List.set_cons_succ]
                  refine wpAnyH_take (i := 3) (oi := { dst := some 82, op := Go.Op.move (Go.Operand.tmp 8), type := 3, pos := "outright.go:338", after := #[], guard := none }) (v := ?v45) rfl (by kernel_rfl) (by kernel_rfl) (by kernel_rfl) (fun _ _ _ h => h) (Or.inl ⟨by rfl, ?hy45⟩) (apart_start _ _) ?r45
                  case hy45 =>
                    intro w' hSw
                    have hq := hSw.1
                    clear hSw
                    go_simp
                    with_reducible rfl
                  try simp only [Act.put, List.setIfInBounds_toArray, List.set_cons_zero, List.set_cons_succ]
                  refine wpAnyH_take (i := 5) (oi := { dst := some 84, op := Go.Op.fieldAddr 26 (Go.Operand.tmp 12) 1, type := 0, pos := "outright.go:338", after := #[], guard := none }) (v := ?v46) rfl (by kernel_rfl) (by kernel_rfl) (by kernel_rfl) (fun _ _ _ h => h) (Or.inl ⟨by rfl, ?hy46⟩) (apart_start _ _) ?r46
                  case hy46 =>
                    intro w' hSw
                    have hq := hSw.1
                    clear hSw
                    go_simp
                    with_reducible rfl
                  try simp only [Act.put, List.setIfInBounds_toArray, List.set_cons_zero, List.set_cons_succ]
                  refine wpAnyH_take (i := 6) (oi := { dst := some 85, op := Go.Op.load 3 (Go.Operand.tmp 84), type := 3, pos := "outright.go:338", after := #[{ on := 5, ground := Go.Ground.data }], guard := none }) (v := ?v47) rfl (by kernel_rfl) (by kernel_rfl) (by kernel_rfl) (fun _ _ _ h => h) (Or.inl ⟨by rfl, ?hy47⟩) (apart_start _ _) ?r47
                  case hy47 =>
                    intro w' hSw
                    have hq := hSw.1
                    clear hSw
                    go_simp
                    with_reducible rfl
                  try simp only [Act.put, List.setIfInBounds_toArray, List.set_cons_zero, List.set_cons_succ]
                  refine wpAnyH_take (i := 7) (oi := { dst := some 86, op := Go.Op.move (Go.Operand.tmp 8), type := 3, pos := "outright.go:338", after := #[], guard := none }) (v := ?v48) rfl (by kernel_rfl) (by kernel_rfl) (by kernel_rfl) (fun _ _ _ h => h) (Or.inl ⟨by rfl, ?hy48⟩) (apart_start _ _) ?r48
                  case hy48 =>
                    intro w' hSw
                    have hq := hSw.1
                    clear hSw
                    go_simp
                    with_reducible rfl
                  try simp only [Act.put, List.setIfInBounds_toArray, List.set_cons_zero, List.set_cons_succ]
                  refine wpAnyH_take (i := 8) (oi := { dst := some 87, op := Go.Op.binOp Go.BinOp.add 3 (Go.Operand.tmp 85) (Go.Operand.tmp 86) 3, type := 3, pos := "outright.go:338", after := #[{ on := 6, ground := Go.Ground.data }, { on := 7, ground := Go.Ground.data }], guard := none }) (v := ?v49) rfl (by kernel_rfl) (by kernel_rfl) (by kernel_rfl) (fun _ _ _ h => h) (Or.inl ⟨by rfl, ?hy49⟩) (apart_start _ _) ?r49
                  case hy49 =>
                    intro w' hSw
                    have hq := hSw.1
                    clear hSw
                    go_simp
                    with_reducible rfl
                  try simp only [Act.put, List.setIfInBounds_toArray, List.set_cons_zero, List.set_cons_succ]
                  refine wpAnyH_take (i := 9) (oi := { dst := some 88, op := Go.Op.fieldAddr 26 (Go.Operand.tmp 12) 2, type := 0, pos := "outright.go:338", after := #[], guard := none }) (v := ?v50) rfl (by kernel_rfl) (by kernel_rfl) (by kernel_rfl) (fun _ _ _ h => h) (Or.inl ⟨by rfl, ?hy50⟩) (apart_start _ _) ?r50
                  case hy50 =>
                    intro w' hSw
                    have hq := hSw.1
                    clear hSw
                    go_simp
                    with_reducible rfl
                  try simp only [Act.put, List.setIfInBounds_toArray, List.set_cons_zero, List.set_cons_succ]
                  refine wpAnyH_take (i := 10) (oi := { dst := some 89, op := Go.Op.load 3 (Go.Operand.tmp 88), type := 3, pos := "outright.go:338", after := #[{ on := 9, ground := Go.Ground.data }], guard := none }) (v := ?v51) rfl (by kernel_rfl) (by kernel_rfl) (by kernel_rfl) (fun _ _ _ h => h) (Or.inl ⟨by rfl, ?hy51⟩) (apart_start _ _) ?r51
                  case hy51 =>
                    intro w' hSw
                    have hq := hSw.1
                    clear hSw
                    go_simp
                    with_reducible rfl
                  try simp only [Act.put, List.setIfInBounds_toArray, List.set_cons_zero, List.set_cons_succ]
                  refine wpAnyH_take (i := 11) (oi := { dst := some 90, op := Go.Op.move (Go.Operand.tmp 8), type := 3, pos := "outright.go:338", after := #[], guard := none }) (v := ?v52) rfl (by kernel_rfl) (by kernel_rfl) (by kernel_rfl) (fun _ _ _ h => h) (Or.inl ⟨by rfl, ?hy52⟩) (apart_start _ _) ?r52
                  case hy52 =>
                    intro w' hSw
                    have hq := hSw.1
                    clear hSw
                    go_simp
                    with_reducible rfl
                  try simp only [Act.put, List.setIfInBounds_toArray, List.set_cons_zero, List.set_cons_succ]
                  refine wpAnyH_take (i := 12) (oi := { dst := some 91, op := Go.Op.binOp Go.BinOp.add 3 (Go.Operand.tmp 89) (Go.Operand.tmp 90) 3, type := 3, pos := "outright.go:338", after := #[{ on := 10, ground := Go.Ground.data }, { on := 11, ground := Go.Ground.data }], guard := none }) (v := ?v53) rfl (by kernel_rfl) (by kernel_rfl) (by kernel_rfl) (fun _ _ _ h => h) (Or.inl ⟨by rfl, ?hy53⟩) (apart_start _ _) ?r53
                  case hy53 =>
                    intro w' hSw
                    have hq := hSw.1
                    clear hSw
                    go_simp
                    with_reducible rfl
                  try simp only [Act.put, List.setIfInBounds_toArray, List.set_cons_zero, List.set_cons_succ]
                  refine wpAnyH_take (i := 14) (oi := { dst := some 93, op := Go.Op.fieldAddr 30 (Go.Operand.tmp 9) 1, type := 0, pos := "outright.go:338", after := #[], guard := none }) (v := ?v54) rfl (by kernel_rfl) (by kernel_rfl) (by kernel_rfl) (fun _ _ _ h => h) (Or.inl ⟨by rfl, ?hy54⟩) (apart_start _ _) ?r54
                  case hy54 =>
                    intro w' hSw
                    have hq := hSw.1
                    clear hSw
                    go_simp
                    with_reducible rfl
                  try simp only [Act.put, List.setIfInBounds_toArray, List.set_cons_zero, List.set_cons_succ]
                  refine wpAnyH_ready (rs := [4]) (by kernel_rfl) (by simp) ?_
                  refine AllReadyH.cons rfl (fun K hK => ?_) AllReadyH.nil
                  go_simp
                  refine (HU1.out _).mono ?_
                  rintro e w55 ⟨rfl, hBw55⟩
                  have hSw55 := apart_step hXW4 hBw55 (apart_start _ _)
                  have hrXw55 := (hBw55.block _ (heap_lt hX0)).trans hX0
                  refine hK.out _ _ hSw55 (fun _ => ?_)
                  clear hK K
                  try simp only [Act.put, List.setIfInBounds_toArray, List.set_cons_zero, List.set_cons_succ]
                  refine wpAnyH_take (i := 13) (oi := { dst := some 92, op := Go.Op.build 26 #[(0, Go.Operand.tmp 83), (1, Go.Operand.tmp 87), (2, Go.Operand.tmp 91)], type := 26, pos := "outright.go:338", after := #[{ on := 4, ground := Go.Ground.data }, { on := 8, ground := Go.Ground.data }, { on := 12, ground := Go.Ground.data }], guard := none }) (v := ?v56) rfl (by kernel_rfl) (by kernel_rfl) (by kernel_rfl) (fun _ _ _ h => h) (Or.inl ⟨by rfl, ?hy56⟩) hSw55 ?r56
                  case hy56 =>
                    intro w' hSw
                    have hq := hSw.1
                    clear hSw
                    go_simp
                    with_reducible rfl
                  try simp only [Act.put, List.setIfInBounds_toArray, List.set_cons_zero, List.set_cons_succ]
                  refine wpAnyH_take (i := 15) (oi := { dst := some 94, op := Go.Op.indexAddr 27 (Go.Operand.tmp 93) (Go.Operand.tmp 79), type := 0, pos := "outright.go:338", after := #[{ on := 14, ground := Go.Ground.data }, { on := 0, ground := Go.Ground.data }, { on := 0, ground := Go.Ground.phase }, { on := 1, ground := Go.Ground.phase }, { on := 2, ground := Go.Ground.phase }, { on := 3, ground := Go.Ground.phase }, { on := 4, ground := Go.Ground.phase }, { on := 5, ground := Go.Ground.phase }, { on := 6, ground := Go.Ground.phase }, { on := 7, ground := Go.Ground.phase }, { on := 8, ground := Go.Ground.phase }, { on := 9, ground := Go.Ground.phase }, { on := 10, ground := Go.Ground.phase }, { on := 11, ground := Go.Ground.phase }, { on := 12, ground := Go.Ground.phase }, { on := 13, ground := Go.Ground.phase }], guard := none }) (v := ?v57) rfl (by kernel_rfl) (by kernel_rfl) (by kernel_rfl) (fun _ _ _ h => h) (Or.inl ⟨by rfl, ?hy57⟩) hSw55 ?r57
                  case hy57 =>
                    intro w' hSw
                    have hq := hSw.1
                    clear hSw
                    go_simp
                    with_reducible rfl
                  try simp only [Act.put, List.setIfInBounds_toArray, List.set_cons_zero, List.set_cons_succ]
                  refine wpAnyH_ready (rs := [16]) (by kernel_rfl) (by simp) ?_
                  refine AllReadyH.cons rfl (fun K hK => ?_) AllReadyH.nil
                  have cX0 := cell_of_row w55 _ 5 _ _ _ hrXw55
                  have fX0 : w55.frozen? ⟨X, 5, none⟩ = false := by simp [World.frozen?, hrXw55]
                  have cX1 := cell_of_row w55 _ 6 _ _ _ hrXw55
                  have fX1 : w55.frozen? ⟨X, 6, none⟩ = false := by simp [World.frozen?, hrXw55]
                  have cX2 := cell_of_row w55 _ 7 _ _ _ hrXw55
                  have fX2 : w55.frozen? ⟨X, 7, none⟩ = false := by simp [World.frozen?, hrXw55]
                  have cX3 := cell_of_row w55 _ 8 _ _ _ hrXw55
                  have fX3 : w55.frozen? ⟨X, 8, none⟩ = false := by simp [World.frozen?, hrXw55]
                  simp only [List.getElem?_toArray, List.getElem?_cons_zero, List.getElem?_cons_succ] at cX0 cX1 cX2 cX3
                  go_simp
                  refine hK.out _ _ (apart_set (apart_set (apart_set (apart_set hSw55 5 (I (b.s1.floor.lo + d))) 6 (I (b.s1.floor.hi + d))) 7 (I (b.s1.lo + d))) 8 (I (b.s1.hi + d))) (fun _ => ?_)
                  have hSw58 := (apart_set (apart_set (apart_set (apart_set hSw55 5 (I (b.s1.floor.lo + d))) 6 (I (b.s1.floor.hi + d))) 7 (I (b.s1.lo + d))) 8 (I (b.s1.hi + d)))
                  clear hK K
                  try simp only [Act.put, List.setIfInBounds_toArray, List.set_cons_zero, List.set_cons_succ]
                  refine wpAnyH_done (by kernel_rfl) ?_ _
                  show R _ _
                  rw [HR.out]
                  simp only [Act.put, List.setIfInBounds_toArray, List.set_cons_zero, List.set_cons_succ]
                  exact ⟨⟨_, _, _, _, _, _, _, _, _, _, _, _, _, _, _, _, rfl⟩, by simp [World.setCell, Array.getElem?_modify, hrXw55, Ld.upTo, Ld.upSh, Ld.upSp], hSw58⟩
              case rest14 =>
                intro a' w5 hra
                rw [HR.out] at hra
                clear HR
                obtain ⟨⟨u79, u80, u81, u82, u83, u84, u85, u86, u87, u88, u89, u90, u91, u92, u93, u94, rfl⟩, rX5, hHE⟩ := hra
                subst hA
                try simp only [Act.put, List.setIfInBounds_toArray, List.set_cons_zero, List.set_cons_succ]
                have hAw : Apart X wo w5 := by
                  have h1 := HAP.out
                  have h2 := HA4.out
                  refine ⟨fun b' o' hb' hne => ?_, h1.2.1.trans ((h2.mono (Nat.le_of_lt hXz)).trans hHE.2.1), Nat.le_trans h1.2.2 (Nat.le_trans h2.size hHE.2.2)⟩
                  have hlz := Nat.lt_of_lt_of_le hb' h1.2.2
                  exact (hHE.1 b' o' (Nat.lt_of_lt_of_le hlz h2.size) hne).trans ((h2.cell (p := ⟨b', o', none⟩) hlz).trans (h1.1 b' o' hb' hne))
                have HAW := Lib.hid hAw
                have HBN := Lib.hid (HBz.out.trans ((HA4.out.mono (Nat.le_of_lt hXz)).trans hHE.2.1))
                clear hHE hAw qY0 qY1 qY2 qY3
                go_wp2_with fail
                go_roundw
                case rel => exact ⟨2, by omega, by go_num, HBN.out, HAW.out, rX5⟩
                case measure => simp [intOf]

        · as_aux_lemma =>
            obtain rfl : k = 2 := by omega
            obtain ⟨wz, rfl⟩ : ∃ wz : World, wz = wr := ⟨_, rfl⟩
            have hbz : Below w.heap.size w wz := HBw.out.trans (HBz.out.mono (Nat.le_of_lt lBX))
            have hslz : Sl wz wz.heap.size 2 (.slice Av (Ld.upB b d).tides.length cv) (Ld.upB b d).tides.length ((Ld.upB b d).tides.flatMap cSp) := by
              obtain ⟨g1, A, c, hv, g2, g3, g4⟩ := HSL.out
              refine ⟨g1, A, c, hv, g2, g3, fun h0 => ?_⟩
              obtain ⟨b', off', e, hb', hc⟩ := g4 h0
              subst e
              exact ⟨b', off', rfl, Nat.lt_of_lt_of_le hb' HAP.out.2.2, fun j u hu => (HAP.out.1 b' (off' + j) hb' (HNE.out b' off' _ _ hv)).trans (hc j u hu)⟩
            have rX : wz.heap[X]? = some (.cells (rBk (.slice Av (Ld.upB b d).tides.length cv) (.slice A1 b.sounds.length k1) (Ld.upB b d)) 30 (0, 0)) := RXZ.out
            have rB := RBZ.out
            have lX := heap_lt rX
            have lB := heap_lt rB
            have HBZ := Lib.hid hbz
            have HSLZ := Lib.hid hslz
            have HRX := Lib.hid (show ∀ W', Below wz.heap.size wz W' → RB W' W'.heap.size (Ld.upB b d) (.slice Av (Ld.upB b d).tides.length cv) (.slice A1 b.sounds.length k1) from fun W' h => ⟨(HSLZ.out.below h (Nat.le_refl _)).more h.size, (HRB.out W' (HBZ.out.trans (h.mono HBZ.out.size))).sounds⟩)
            clear hbz hslz HSL HNE HAP RXZ RBZ HBz
            have qX0 := cell_of_row wz _ 0 _ _ _ rX
            have qX1 := cell_of_row wz _ 1 _ _ _ rX
            have qX2 := cell_of_row wz _ 2 _ _ _ rX
            have qX3 := cell_of_row wz _ 3 _ _ _ rX
            have qX4 := cell_of_row wz _ 4 _ _ _ rX
            have qX5 := cell_of_row wz _ 5 _ _ _ rX
            have qX6 := cell_of_row wz _ 6 _ _ _ rX
            have qX7 := cell_of_row wz _ 7 _ _ _ rX
            have qX8 := cell_of_row wz _ 8 _ _ _ rX
            have qX9 := cell_of_row wz _ 9 _ _ _ rX
            have qX10 := cell_of_row wz _ 10 _ _ _ rX
            have qX11 := cell_of_row wz _ 11 _ _ _ rX
            have qX12 := cell_of_row wz _ 12 _ _ _ rX
            have qX13 := cell_of_row wz _ 13 _ _ _ rX
            simp only [List.getElem?_toArray, List.getElem?_cons_zero, List.getElem?_cons_succ] at qX0 qX1 qX2 qX3 qX4 qX5 qX6 qX7 qX8 qX9 qX10 qX11 qX12 qX13
            go_wp2_with fail
            clear qX0 qX1 qX2 qX3 qX4 qX5 qX6 qX7 qX8 qX9 qX10 qX11 qX12 qX13
            refine (check_any (Ld.upB b d) (.slice Av (Ld.upB b d).tides.length cv) (.slice A1 b.sounds.length k1) _ (HRX.out _ (Below.refl _ _))).mono ?_
            rintro e w6 ⟨rfl, hB⟩
            replace rB := (hB.block _ lB).trans rB
            replace lB := Nat.lt_of_lt_of_le lB hB.size
            replace rX := (hB.block _ lX).trans rX
            replace lX := Nat.lt_of_lt_of_le lX hB.size
            have hb6 := HBZ.out.trans (hB.mono HBZ.out.size)
            have hx6 := hB
            clear hB
            by_cases hcx : Ld.check (Ld.upB b d) = 0
            case neg =>
              have h20 : Ld.check (Ld.upB b d) = 20 := by
                unfold Ld.check at hcx ⊢
                split at hcx
                · exact absurd rfl hcx
                · rename_i hn; rw [if_neg hn]
              rw [h20]
              clear rB rX lB lX hcx h20 hx6
              go_wp2_with fail
              refine (moored_any _).mono ?_
              rintro e wZ ⟨rfl, hBZ⟩
              have HBZ := Lib.hid (hb6.trans (hBZ.mono hb6.size))
              clear hBZ
              go_wp2_with fail
              go_ret
              exact ⟨rfl, HBZ.out⟩
            have hvx : Ld.valid (Ld.upB b d) = true := by
              unfold Ld.check at hcx
              split at hcx
              · assumption
              · omega
            have hcb : Ld.check b = 0 := by unfold Ld.check; rw [if_pos HVAL.out]
            have hsp := Ld.higher_spec HVAL.out hvx hq1 hm1 hy0 hy1
            have hen := Ld.ends_spec HVAL.out hq1 hm1
            have htb := Ld.tide_bd (Ld.valid_parts HVAL.out).2.1 hq1
            have c1 := fun W' h => Height_any b (.slice A0 b.tides.length k0) (.slice A1 b.sounds.length k1) q W' (HRB.out W' h)
            have c2 := fun W' h => Height_any (Ld.upB b d) (.slice Av (Ld.upB b d).tides.length cv) (.slice A1 b.sounds.length k1) q W' (HRX.out W' h)
            have c3 := fun W' h => Lands_any b (.slice A0 b.tides.length k0) (.slice A1 b.sounds.length k1) m q y W' (HRB.out W' h)
            have c4 := fun W' h => Lands_any (Ld.upB b d) (.slice Av (Ld.upB b d).tides.length cv) (.slice A1 b.sounds.length k1) m q y W' (HRX.out W' h)
            have c5 := fun W' h => most_any b (.slice A0 b.tides.length k0) (.slice A1 b.sounds.length k1) m q W' (HRB.out W' h)
            have c6 := fun W' h => most_any (Ld.upB b d) (.slice Av (Ld.upB b d).tides.length cv) (.slice A1 b.sounds.length k1) m q W' (HRX.out W' h)
            have c7 := fun W' h => first_any b (.slice A0 b.tides.length k0) (.slice A1 b.sounds.length k1) m y W' (HRB.out W' h)
            have c8 := fun W' h => first_any (Ld.upB b d) (.slice Av (Ld.upB b d).tides.length cv) (.slice A1 b.sounds.length k1) m y W' (HRX.out W' h)
            have c9 := fun W' h => Both_any b (.slice A0 b.tides.length k0) (.slice A1 b.sounds.length k1) y W' (HRB.out W' h)
            have c10 := fun W' h => Both_any (Ld.upB b d) (.slice Av (Ld.upB b d).tides.length cv) (.slice A1 b.sounds.length k1) y W' (HRX.out W' h)
            have c11 := fun W' h => Wrong_any b (.slice A0 b.tides.length k0) (.slice A1 b.sounds.length k1) W' (HRB.out W' h)
            have c12 := fun W' h => Wrong_any (Ld.upB b d) (.slice Av (Ld.upB b d).tides.length cv) (.slice A1 b.sounds.length k1) W' (HRX.out W' h)
            obtain ⟨s1, s2, s3, s4, s5, s6, s7, s8⟩ := hsp
            have hbd : Ld.studyE b (Ld.isHour b q) = 0 → -100 ≤ (Ld.heightR b q).lo ∧ (Ld.heightR b q).lo ≤ 100 ∧ -100 ≤ (Ld.heightR b q).hi ∧ (Ld.heightR b q).hi ≤ 100 := by
              rcases hen with ⟨h1, -⟩ | ⟨-, -, h1, -⟩
              · intro h; rw [h1] at h; cases h
              · intro _
                have k1 := h1.low
                have k2 := h1.high
                have k3 := h1.le
                omega
            obtain ⟨⟨p1, z1⟩, g1⟩ : ∃ v : Ld.Sp, Ld.heightR b q = v := ⟨_, rfl⟩
            obtain ⟨⟨p2, z2⟩, g2⟩ : ∃ v : Ld.Sp, Ld.heightR (Ld.upB b d) q = v := ⟨_, rfl⟩
            obtain ⟨⟨p3, z3⟩, g3⟩ : ∃ v : Int × Int, Ld.landsR b m q y = v := ⟨_, rfl⟩
            obtain ⟨⟨p4, z4⟩, g4⟩ : ∃ v : Int × Int, Ld.mostR b m q = v := ⟨_, rfl⟩
            obtain ⟨⟨p5, z5⟩, g5⟩ : ∃ v : Int × Int, Ld.firstR b m y = v := ⟨_, rfl⟩
            obtain ⟨e1, g6⟩ : ∃ E : Int, Ld.studyE b (Ld.isHour b q) = E := ⟨_, rfl⟩
            obtain ⟨e2, g7⟩ : ∃ E : Int, Ld.studyE b (Ld.isLoad y) = E := ⟨_, rfl⟩
            obtain ⟨L, g8⟩ : ∃ L : List Int, Ld.bothL b y = L := ⟨_, rfl⟩
            obtain ⟨M, g9⟩ : ∃ L : List Int, Ld.wrongL b = L := ⟨_, rfl⟩
            rw [g6] at s1 hbd
            rw [g6, g1, g2] at s2
            rw [g1] at hbd
            rw [g3] at s3
            rw [g4] at s4
            rw [g5] at s5
            rw [g7] at s6
            rw [g8] at s7
            rw [g9] at s8
            simp only [g1, g6] at c1
            simp only [g2, s1] at c2
            simp only [g3] at c3
            simp only [s3] at c4
            simp only [g4] at c5
            simp only [s4] at c6
            simp only [g5] at c7
            simp only [s5] at c8
            simp only [g8, g7] at c9
            simp only [s7, s6] at c10
            simp only [g9, hcb] at c11
            simp only [s8, hcx] at c12
            have C1 := Lib.hid c1
            have C2 := Lib.hid c2
            have C3 := Lib.hid c3
            have C4 := Lib.hid c4
            have C5 := Lib.hid c5
            have C6 := Lib.hid c6
            have C7 := Lib.hid c7
            have C8 := Lib.hid c8
            have C9 := Lib.hid c9
            have C10 := Lib.hid c10
            have C11 := Lib.hid c11
            have C12 := Lib.hid c12
            have HS2 := Lib.hid s2
            have HBD := Lib.hid hbd
            rw [hcx]
            clear c1 c2 c3 c4 c5 c6 c7 c8 c9 c10 c11 c12 s1 s2 s3 s4 s5 s6 s7 s8 g1 g2 g3 g4 g5 g6 g7 g8 g9 hbd hen htb hcb hcx hvx

            have qB0 := cell_of_row w6 _ 0 _ _ _ rB
            have qB1 := cell_of_row w6 _ 1 _ _ _ rB
            have qB2 := cell_of_row w6 _ 2 _ _ _ rB
            have qB3 := cell_of_row w6 _ 3 _ _ _ rB
            have qB4 := cell_of_row w6 _ 4 _ _ _ rB
            have qB5 := cell_of_row w6 _ 5 _ _ _ rB
            have qB6 := cell_of_row w6 _ 6 _ _ _ rB
            have qB7 := cell_of_row w6 _ 7 _ _ _ rB
            have qB8 := cell_of_row w6 _ 8 _ _ _ rB
            have qB9 := cell_of_row w6 _ 9 _ _ _ rB
            have qB10 := cell_of_row w6 _ 10 _ _ _ rB
            have qB11 := cell_of_row w6 _ 11 _ _ _ rB
            have qB12 := cell_of_row w6 _ 12 _ _ _ rB
            have qB13 := cell_of_row w6 _ 13 _ _ _ rB
            simp only [List.getElem?_toArray, List.getElem?_cons_zero, List.getElem?_cons_succ] at qB0 qB1 qB2 qB3 qB4 qB5 qB6 qB7 qB8 qB9 qB10 qB11 qB12 qB13
            go_wp2_with fail
            clear qB0 qB1 qB2 qB3 qB4 qB5 qB6 qB7 qB8 qB9 qB10 qB11 qB12 qB13
            refine (C1.out _ hb6).mono ?_
            rintro e w7 ⟨rfl, hB⟩
            replace rB := (hB.block _ lB).trans rB
            replace lB := Nat.lt_of_lt_of_le lB hB.size
            replace rX := (hB.block _ lX).trans rX
            replace lX := Nat.lt_of_lt_of_le lX hB.size
            have hb7 := hb6.trans (hB.mono hb6.size)
            have hx7 := hx6.trans (hB.mono hx6.size)
            clear hB hb6 hx6

            have qX0 := cell_of_row w7 _ 0 _ _ _ rX
            have qX1 := cell_of_row w7 _ 1 _ _ _ rX
            have qX2 := cell_of_row w7 _ 2 _ _ _ rX
            have qX3 := cell_of_row w7 _ 3 _ _ _ rX
            have qX4 := cell_of_row w7 _ 4 _ _ _ rX
            have qX5 := cell_of_row w7 _ 5 _ _ _ rX
            have qX6 := cell_of_row w7 _ 6 _ _ _ rX
            have qX7 := cell_of_row w7 _ 7 _ _ _ rX
            have qX8 := cell_of_row w7 _ 8 _ _ _ rX
            have qX9 := cell_of_row w7 _ 9 _ _ _ rX
            have qX10 := cell_of_row w7 _ 10 _ _ _ rX
            have qX11 := cell_of_row w7 _ 11 _ _ _ rX
            have qX12 := cell_of_row w7 _ 12 _ _ _ rX
            have qX13 := cell_of_row w7 _ 13 _ _ _ rX
            simp only [List.getElem?_toArray, List.getElem?_cons_zero, List.getElem?_cons_succ] at qX0 qX1 qX2 qX3 qX4 qX5 qX6 qX7 qX8 qX9 qX10 qX11 qX12 qX13
            go_wp2_with fail
            clear qX0 qX1 qX2 qX3 qX4 qX5 qX6 qX7 qX8 qX9 qX10 qX11 qX12 qX13
            refine name_calls ?_
            intro w8 hW
            have hA : Below w7.heap.size w7 w8 := by rw [hW]; exact (Below.refl _ _).alloc (Nat.le_refl _) _
            have rP : w8.heap[w7.heap.size]? = some (.cells #[I p1, I z1] 24 (0, 0)) := by rw [hW]; exact heap_at _ _ rfl
            have lP : w7.heap.size < w8.heap.size := by rw [hW]; simp
            clear hW
            replace rB := (hA.block _ lB).trans rB
            replace lB := Nat.lt_of_lt_of_le lB hA.size
            replace rX := (hA.block _ lX).trans rX
            replace lX := Nat.lt_of_lt_of_le lX hA.size
            have hb8 := hb7.trans (hA.mono hb7.size)
            have hx8 := hx7.trans (hA.mono hx7.size)
            clear hA hb7 hx7

            refine (C2.out _ hx8).mono ?_
            rintro e w9 ⟨rfl, hB⟩
            replace rB := (hB.block _ lB).trans rB
            replace lB := Nat.lt_of_lt_of_le lB hB.size
            replace rX := (hB.block _ lX).trans rX
            replace lX := Nat.lt_of_lt_of_le lX hB.size
            replace rP := (hB.block _ lP).trans rP
            replace lP := Nat.lt_of_lt_of_le lP hB.size
            have hb9 := hb8.trans (hB.mono hb8.size)
            have hx9 := hx8.trans (hB.mono hx8.size)
            clear hB hb8 hx8

            go_upto_region 20 with fail
            refine name_world ?_
            intro w10 hW
            have hA : Below w9.heap.size w9 w10 := by rw [hW]; exact (Below.refl _ _).alloc (Nat.le_refl _) _
            have rQ : w10.heap[w9.heap.size]? = some (.cells #[I p2, I z2] 24 (0, 0)) := by rw [hW]; exact heap_at _ _ rfl
            have lQ : w9.heap.size < w10.heap.size := by rw [hW]; simp
            clear hW
            replace rB := (hA.block _ lB).trans rB
            replace lB := Nat.lt_of_lt_of_le lB hA.size
            replace rX := (hA.block _ lX).trans rX
            replace lX := Nat.lt_of_lt_of_le lX hA.size
            replace rP := (hA.block _ lP).trans rP
            replace lP := Nat.lt_of_lt_of_le lP hA.size
            have hb10 := hb9.trans (hA.mono hb9.size)
            have hx10 := hx9.trans (hA.mono hx9.size)
            clear hA hb9 hx9

            have qP0 := cell_of_row w10 _ 0 _ _ _ rP
            have qP1 := cell_of_row w10 _ 1 _ _ _ rP
            simp only [List.getElem?_toArray, List.getElem?_cons_zero, List.getElem?_cons_succ] at qP0 qP1
            have qQ0 := cell_of_row w10 _ 0 _ _ _ rQ
            have qQ1 := cell_of_row w10 _ 1 _ _ _ rQ
            simp only [List.getElem?_toArray, List.getElem?_cons_zero, List.getElem?_cons_succ] at qQ0 qQ1
            clear rP rQ
            refine name_act ?_
            intro A hA
            obtain ⟨R, hR⟩ : ∃ R : Act → World → Prop, R = fun a' w' => (∃ u116 u117 u118 u119 u120 u121 u122 u123 u124 u125 u126 u127 u128, a' = ((((((((((((((A.put (some 116) u116).put (some 117) u117).put (some 118) u118).put (some 119) u119).put (some 120) u120).put (some 121) u121).put (some 122) u122).put (some 123) u123).put (some 124) u124).put (some 125) u125).put (some 126) u126).put (some 127) u127).put (some 128) u128).put (some 129) (.bool false))) ∧ Held w10 w' := ⟨_, rfl⟩
            have HR := Lib.hid hR
            clear hR
            refine wp_between R ?first20 ?rest20
            case first20 =>
              as_aux_lemma =>
                subst hA
                by_cases he : e1 = 0
                · subst he
                  obtain ⟨k1, k2⟩ : p2 = p1 + d ∧ z2 = z1 + d := by have h := HS2.out rfl; injection h with h1 h2; exact ⟨h1, h2⟩
                  have hbd := HBD.out rfl
                  have HUQ := Lib.hid (show ∀ W', Calls Try.prog 41 #[vSp ⟨p1, z1⟩, I d] W' fun e w' => e = .returned (vSp ⟨p2, z2⟩) ∧ Below W'.heap.size W' w' from fun W' => (up_any ⟨p1, z1⟩ d ⟨hbd.1, hbd.2.1⟩ ⟨hbd.2.2.1, hbd.2.2.2⟩ hd0 W').mono fun e w' h => ⟨by rw [h.1, k1, k2]; rfl, h.2⟩)
                  clear k1 k2 hbd
                  refine wp_region_held_drew (S := fun w' => Held w10 w') (by kernel_rfl) (held_start w10) (fun _ => ?_)
                  refine wpAnyH_take (i := 0) (oi := { dst := some 116, op := Go.Op.move (Go.Operand.tmp 15), type := 41, pos := "outright.go:345", after := #[], guard := none }) (v := ?v59) rfl (by kernel_rfl) (by kernel_rfl) (by kernel_rfl) (fun _ _ _ h => h) (Or.inl ⟨by rfl, ?hy59⟩) (held_start w10) ?r59
                  case hy59 =>
                    intro w' hSw
                    have hq := hSw.1
                    clear hSw
                    go_simp
                    with_reducible rfl
                  try simp only [Act.put, List.setIfInBounds_toArray, List.set_cons_zero, List.set_cons_succ]
                  refine wpAnyH_take (i := 1) (oi := { dst := some 117, op := Go.Op.move (Go.Operand.tmp 17), type := 41, pos := "outright.go:345", after := #[], guard := none }) (v := ?v60) rfl (by kernel_rfl) (by kernel_rfl) (by kernel_rfl) (fun _ _ _ h => h) (Or.inl ⟨by rfl, ?hy60⟩) (held_start w10) ?r60
                  case hy60 =>
                    intro w' hSw
                    have hq := hSw.1
                    clear hSw
                    go_simp
                    with_reducible rfl
                  try simp only [Act.put, List.setIfInBounds_toArray, List.set_cons_zero, List.set_cons_succ]
                  refine wpAnyH_take (i := 2) (oi := { dst := some 118, op := Go.Op.binOp Go.BinOp.neq 41 (Go.Operand.tmp 116) (Go.Operand.tmp 117) 41, type := 4, pos := "outright.go:345", after := #[{ on := 0, ground := Go.Ground.data }, { on := 1, ground := Go.Ground.data }], guard := none }) (v := ?v61) rfl (by kernel_rfl) (by kernel_rfl) (by kernel_rfl) (fun _ _ _ h => h) (Or.inl ⟨by rfl, ?hy61⟩) (held_start w10) ?r61
                  case hy61 =>
                    intro w' hSw
                    have hq := hSw.1
                    clear hSw
                    go_simp
                    with_reducible rfl
                  try simp only [Act.put, List.setIfInBounds_toArray, List.set_cons_zero, List.set_cons_succ]
                  refine wpAnyH_take (i := 3) (oi := { dst := some 119, op := Go.Op.move (Go.Operand.tmp 118), type := 4, pos := "outright.go:345", after := #[{ on := 2, ground := Go.Ground.data }], guard := none }) (v := ?v62) rfl (by kernel_rfl) (by kernel_rfl) (by kernel_rfl) (fun _ _ _ h => h) (Or.inl ⟨by rfl, ?hy62⟩) (held_start w10) ?r62
                  case hy62 =>
                    intro w' hSw
                    have hq := hSw.1
                    clear hSw
                    go_simp
                    with_reducible rfl
                  try simp only [Act.put, List.setIfInBounds_toArray, List.set_cons_zero, List.set_cons_succ]
                  refine wpAnyH_take (i := 4) (oi := { dst := some 120, op := Go.Op.move (Go.Operand.tmp 15), type := 41, pos := "outright.go:345", after := #[{ on := 3, ground := Go.Ground.guard }], guard := some (3, false) }) (v := ?v63) rfl (by kernel_rfl) (by kernel_rfl) (by kernel_rfl) (fun _ _ _ h => h) (Or.inl ⟨by rfl, ?hy63⟩) (held_start w10) ?r63
                  case hy63 =>
                    intro w' hSw
                    have hq := hSw.1
                    clear hSw
                    go_simp
                    with_reducible rfl
                  try simp only [Act.put, List.setIfInBounds_toArray, List.set_cons_zero, List.set_cons_succ]
                  refine wpAnyH_take (i := 5) (oi := { dst := some 121, op := Go.Op.binOp Go.BinOp.eql 41 (Go.Operand.tmp 120) (Go.Operand.const (Go.Value.int Go.IntKind.i64 0)) 41, type := 4, pos := "outright.go:345", after := #[{ on := 4, ground := Go.Ground.data }, { on := 3, ground := Go.Ground.guard }], guard := some (3, false) }) (v := ?v64) rfl (by kernel_rfl) (by kernel_rfl) (by kernel_rfl) (fun _ _ _ h => h) (Or.inl ⟨by rfl, ?hy64⟩) (held_start w10) ?r64
                  case hy64 =>
                    intro w' hSw
                    have hq := hSw.1
                    clear hSw
                    go_simp
                    with_reducible rfl
                  try simp only [Act.put, List.setIfInBounds_toArray, List.set_cons_zero, List.set_cons_succ]
                  refine wpAnyH_take (i := 6) (oi := { dst := some 122, op := Go.Op.move (Go.Operand.tmp 121), type := 4, pos := "outright.go:345", after := #[{ on := 5, ground := Go.Ground.data }, { on := 3, ground := Go.Ground.chain }, { on := 3, ground := Go.Ground.guard }], guard := some (3, false) }) (v := ?v65) rfl (by kernel_rfl) (by kernel_rfl) (by kernel_rfl) (fun _ _ _ h => h) (Or.inl ⟨by rfl, ?hy65⟩) (held_start w10) ?r65
                  case hy65 =>
                    intro w' hSw
                    have hq := hSw.1
                    clear hSw
                    go_simp
                    with_reducible rfl
                  try simp only [Act.put, List.setIfInBounds_toArray, List.set_cons_zero, List.set_cons_succ]
                  refine wpAnyH_take (i := 7) (oi := { dst := some 123, op := Go.Op.load 24 (Go.Operand.tmp 16), type := 24, pos := "outright.go:345", after := #[{ on := 6, ground := Go.Ground.guard }], guard := some (6, true) }) (v := ?v66) rfl (by kernel_rfl) (by kernel_rfl) (by kernel_rfl) (fun _ _ _ h => h) (Or.inl ⟨by rfl, ?hy66⟩) (held_start w10) ?r66
                  case hy66 =>
                    intro w' hSw
                    have hq := hSw.1
                    clear hSw
                    go_simp
                    with_reducible rfl
                  try simp only [Act.put, List.setIfInBounds_toArray, List.set_cons_zero, List.set_cons_succ]
                  refine wpAnyH_take (i := 8) (oi := { dst := some 124, op := Go.Op.load 24 (Go.Operand.tmp 14), type := 24, pos := "outright.go:345", after := #[{ on := 6, ground := Go.Ground.guard }], guard := some (6, true) }) (v := ?v67) rfl (by kernel_rfl) (by kernel_rfl) (by kernel_rfl) (fun _ _ _ h => h) (Or.inl ⟨by rfl, ?hy67⟩) (held_start w10) ?r67
                  case hy67 =>
                    intro w' hSw
                    have hq := hSw.1
                    clear hSw
                    go_simp
                    with_reducible rfl
                  try simp only [Act.put, List.setIfInBounds_toArray, List.set_cons_zero, List.set_cons_succ]
                  refine wpAnyH_take (i := 9) (oi := { dst := some 125, op := Go.Op.move (Go.Operand.tmp 8), type := 3, pos := "outright.go:345", after := #[{ on := 6, ground := Go.Ground.guard }], guard := some (6, true) }) (v := ?v68) rfl (by kernel_rfl) (by kernel_rfl) (by kernel_rfl) (fun _ _ _ h => h) (Or.inl ⟨by rfl, ?hy68⟩) (held_start w10) ?r68
                  case hy68 =>
                    intro w' hSw
                    have hq := hSw.1
                    clear hSw
                    go_simp
                    with_reducible rfl
                  try simp only [Act.put, List.setIfInBounds_toArray, List.set_cons_zero, List.set_cons_succ]
                  refine wpAnyH_ready (rs := [10]) (by kernel_rfl) (by simp) ?_
                  refine AllReadyH.cons rfl (fun K hK => ?_) AllReadyH.nil
                  go_simp
                  refine (HUQ.out _).mono ?_
                  rintro e w69 ⟨rfl, hBw69⟩
                  have hSw69 := held_step hBw69 (held_start w10)
                  refine hK.out _ _ hSw69 (fun _ => ?_)
                  clear hK K
                  try simp only [Act.put, List.setIfInBounds_toArray, List.set_cons_zero, List.set_cons_succ]
                  refine wpAnyH_take (i := 11) (oi := { dst := some 127, op := Go.Op.binOp Go.BinOp.neq 24 (Go.Operand.tmp 123) (Go.Operand.tmp 126) 24, type := 4, pos := "outright.go:345", after := #[{ on := 7, ground := Go.Ground.data }, { on := 10, ground := Go.Ground.data }, { on := 6, ground := Go.Ground.guard }], guard := some (6, true) }) (v := ?v70) rfl (by kernel_rfl) (by kernel_rfl) (by kernel_rfl) (fun _ _ _ h => h) (Or.inl ⟨by rfl, ?hy70⟩) hSw69 ?r70
                  case hy70 =>
                    intro w' hSw
                    have hq := hSw.1
                    clear hSw
                    go_simp
                    with_reducible rfl
                  try simp only [Act.put, List.setIfInBounds_toArray, List.set_cons_zero, List.set_cons_succ]
                  refine wpAnyH_take (i := 12) (oi := { dst := some 128, op := Go.Op.pick (Go.Operand.tmp 122) (Go.Operand.tmp 127) (Go.Operand.const (Go.Value.bool false)), type := 4, pos := "outright.go:345", after := #[{ on := 6, ground := Go.Ground.data }, { on := 11, ground := Go.Ground.data }, { on := 3, ground := Go.Ground.guard }], guard := some (3, false) }) (v := ?v71) rfl (by kernel_rfl) (by kernel_rfl) (by kernel_rfl) (fun _ _ _ h => h) (Or.inl ⟨by rfl, ?hy71⟩) hSw69 ?r71
                  case hy71 =>
                    intro w' hSw
                    have hq := hSw.1
                    clear hSw
                    go_simp
                    with_reducible rfl
                  try simp only [Act.put, List.setIfInBounds_toArray, List.set_cons_zero, List.set_cons_succ]
                  refine wpAnyH_take (i := 13) (oi := { dst := some 129, op := Go.Op.pick (Go.Operand.tmp 119) (Go.Operand.const (Go.Value.bool true)) (Go.Operand.tmp 128), type := 4, pos := "outright.go:345", after := #[{ on := 3, ground := Go.Ground.data }, { on := 12, ground := Go.Ground.data }], guard := none }) (v := ?v72) rfl (by kernel_rfl) (by kernel_rfl) (by kernel_rfl) (fun _ _ _ h => h) (Or.inl ⟨by rfl, ?hy72⟩) hSw69 ?r72
                  case hy72 =>
                    intro w' hSw
                    have hq := hSw.1
                    clear hSw
                    go_simp
                    with_reducible rfl
                  try simp only [Act.put, List.setIfInBounds_toArray, List.set_cons_zero, List.set_cons_succ]
                  refine wpAnyH_done (by kernel_rfl) ?_ _
                  show R _ _
                  rw [HR.out]
                  simp only [Act.put, List.setIfInBounds_toArray, List.set_cons_zero, List.set_cons_succ]
                  exact ⟨⟨_, _, _, _, _, _, _, _, _, _, _, _, _, rfl⟩, hSw69⟩
                · have heb : (e1 == 0) = false := by simp; exact he
                  have hed : decide (e1 = 0) = false := decide_eq_false he
                  refine wp_region_held_drew (S := fun w' => Held w10 w') (by kernel_rfl) (held_start w10) (fun _ => ?_)
                  refine wpAnyH_take (i := 0) (oi := { dst := some 116, op := Go.Op.move (Go.Operand.tmp 15), type := 41, pos := "outright.go:345", after := #[], guard := none }) (v := ?v73) rfl (by kernel_rfl) (by kernel_rfl) (by kernel_rfl) (fun _ _ _ h => h) (Or.inl ⟨by rfl, ?hy73⟩) (held_start w10) ?r73
                  case hy73 =>
                    intro w' hSw
                    have hq := hSw.1
                    clear hSw
                    go_simp
                    with_reducible rfl
                  try simp only [Act.put, List.setIfInBounds_toArray, List.set_cons_zero, List.set_cons_succ]
                  refine wpAnyH_take (i := 1) (oi := { dst := some 117, op := Go.Op.move (Go.Operand.tmp 17), type := 41, pos := "outright.go:345", after := #[], guard := none }) (v := ?v74) rfl (by kernel_rfl) (by kernel_rfl) (by kernel_rfl) (fun _ _ _ h => h) (Or.inl ⟨by rfl, ?hy74⟩) (held_start w10) ?r74
                  case hy74 =>
                    intro w' hSw
                    have hq := hSw.1
                    clear hSw
                    go_simp
                    with_reducible rfl
                  try simp only [Act.put, List.setIfInBounds_toArray, List.set_cons_zero, List.set_cons_succ]
                  refine wpAnyH_take (i := 2) (oi := { dst := some 118, op := Go.Op.binOp Go.BinOp.neq 41 (Go.Operand.tmp 116) (Go.Operand.tmp 117) 41, type := 4, pos := "outright.go:345", after := #[{ on := 0, ground := Go.Ground.data }, { on := 1, ground := Go.Ground.data }], guard := none }) (v := ?v75) rfl (by kernel_rfl) (by kernel_rfl) (by kernel_rfl) (fun _ _ _ h => h) (Or.inl ⟨by rfl, ?hy75⟩) (held_start w10) ?r75
                  case hy75 =>
                    intro w' hSw
                    have hq := hSw.1
                    clear hSw
                    go_simp
                    with_reducible rfl
                  try simp only [Act.put, List.setIfInBounds_toArray, List.set_cons_zero, List.set_cons_succ]
                  refine wpAnyH_take (i := 3) (oi := { dst := some 119, op := Go.Op.move (Go.Operand.tmp 118), type := 4, pos := "outright.go:345", after := #[{ on := 2, ground := Go.Ground.data }], guard := none }) (v := ?v76) rfl (by kernel_rfl) (by kernel_rfl) (by kernel_rfl) (fun _ _ _ h => h) (Or.inl ⟨by rfl, ?hy76⟩) (held_start w10) ?r76
                  case hy76 =>
                    intro w' hSw
                    have hq := hSw.1
                    clear hSw
                    go_simp
                    with_reducible rfl
                  try simp only [Act.put, List.setIfInBounds_toArray, List.set_cons_zero, List.set_cons_succ]
                  refine wpAnyH_take (i := 4) (oi := { dst := some 120, op := Go.Op.move (Go.Operand.tmp 15), type := 41, pos := "outright.go:345", after := #[{ on := 3, ground := Go.Ground.guard }], guard := some (3, false) }) (v := ?v77) rfl (by kernel_rfl) (by kernel_rfl) (by kernel_rfl) (fun _ _ _ h => h) (Or.inl ⟨by rfl, ?hy77⟩) (held_start w10) ?r77
                  case hy77 =>
                    intro w' hSw
                    have hq := hSw.1
                    clear hSw
                    go_simp
                    with_reducible rfl
                  try simp only [Act.put, List.setIfInBounds_toArray, List.set_cons_zero, List.set_cons_succ]
                  refine wpAnyH_take (i := 5) (oi := { dst := some 121, op := Go.Op.binOp Go.BinOp.eql 41 (Go.Operand.tmp 120) (Go.Operand.const (Go.Value.int Go.IntKind.i64 0)) 41, type := 4, pos := "outright.go:345", after := #[{ on := 4, ground := Go.Ground.data }, { on := 3, ground := Go.Ground.guard }], guard := some (3, false) }) (v := ?v78) rfl (by kernel_rfl) (by kernel_rfl) (by kernel_rfl) (fun _ _ _ h => h) (Or.inl ⟨by rfl, ?hy78⟩) (held_start w10) ?r78
                  case hy78 =>
                    intro w' hSw
                    have hq := hSw.1
                    clear hSw
                    go_simp
                    with_reducible rfl
                  try simp only [Act.put, List.setIfInBounds_toArray, List.set_cons_zero, List.set_cons_succ]
                  refine wpAnyH_take (i := 6) (oi := { dst := some 122, op := Go.Op.move (Go.Operand.tmp 121), type := 4, pos := "outright.go:345", after := #[{ on := 5, ground := Go.Ground.data }, { on := 3, ground := Go.Ground.chain }, { on := 3, ground := Go.Ground.guard }], guard := some (3, false) }) (v := ?v79) rfl (by kernel_rfl) (by kernel_rfl) (by kernel_rfl) (fun _ _ _ h => h) (Or.inl ⟨by rfl, ?hy79⟩) (held_start w10) ?r79
                  case hy79 =>
                    intro w' hSw
                    have hq := hSw.1
                    clear hSw
                    go_simp
                    with_reducible rfl
                  try simp only [Act.put, List.setIfInBounds_toArray, List.set_cons_zero, List.set_cons_succ]
                  refine wpAnyH_take (i := 7) (oi := { dst := some 123, op := Go.Op.load 24 (Go.Operand.tmp 16), type := 24, pos := "outright.go:345", after := #[{ on := 6, ground := Go.Ground.guard }], guard := some (6, true) }) (v := undef) rfl (by kernel_rfl) (by kernel_rfl) (by kernel_rfl) (fun _ _ _ h => h) (Or.inr ⟨by rfl, rfl⟩) (held_start w10) ?_
                  try simp only [Act.put, List.setIfInBounds_toArray, List.set_cons_zero, List.set_cons_succ]
                  refine wpAnyH_take (i := 8) (oi := { dst := some 124, op := Go.Op.load 24 (Go.Operand.tmp 14), type := 24, pos := "outright.go:345", after := #[{ on := 6, ground := Go.Ground.guard }], guard := some (6, true) }) (v := undef) rfl (by kernel_rfl) (by kernel_rfl) (by kernel_rfl) (fun _ _ _ h => h) (Or.inr ⟨by rfl, rfl⟩) (held_start w10) ?_
                  try simp only [Act.put, List.setIfInBounds_toArray, List.set_cons_zero, List.set_cons_succ]
                  refine wpAnyH_take (i := 9) (oi := { dst := some 125, op := Go.Op.move (Go.Operand.tmp 8), type := 3, pos := "outright.go:345", after := #[{ on := 6, ground := Go.Ground.guard }], guard := some (6, true) }) (v := undef) rfl (by kernel_rfl) (by kernel_rfl) (by kernel_rfl) (fun _ _ _ h => h) (Or.inr ⟨by rfl, rfl⟩) (held_start w10) ?_
                  try simp only [Act.put, List.setIfInBounds_toArray, List.set_cons_zero, List.set_cons_succ]
                  refine wpAnyH_take (i := 10) (oi := { dst := some 126, op := Go.Op.call { callee := Go.Callee.value (Go.Operand.func 41), args := #[Go.Operand.tmp 124, Go.Operand.tmp 125], argTypes := #[24, 3] }, type := 24, pos := "outright.go:345", after := #[{ on := 8, ground := Go.Ground.data }, { on := 9, ground := Go.Ground.data }, { on := 6, ground := Go.Ground.chain }, { on := 6, ground := Go.Ground.guard }], guard := some (6, true) }) (v := undef) rfl (by kernel_rfl) (by kernel_rfl) (by kernel_rfl) (fun _ _ _ h => h) (Or.inr ⟨by rfl, rfl⟩) (held_start w10) ?_
                  try simp only [Act.put, List.setIfInBounds_toArray, List.set_cons_zero, List.set_cons_succ]
                  refine wpAnyH_take (i := 11) (oi := { dst := some 127, op := Go.Op.binOp Go.BinOp.neq 24 (Go.Operand.tmp 123) (Go.Operand.tmp 126) 24, type := 4, pos := "outright.go:345", after := #[{ on := 7, ground := Go.Ground.data }, { on := 10, ground := Go.Ground.data }, { on := 6, ground := Go.Ground.guard }], guard := some (6, true) }) (v := undef) rfl (by kernel_rfl) (by kernel_rfl) (by kernel_rfl) (fun _ _ _ h => h) (Or.inr ⟨by rfl, rfl⟩) (held_start w10) ?_
                  try simp only [Act.put, List.setIfInBounds_toArray, List.set_cons_zero, List.set_cons_succ]
                  refine wpAnyH_take (i := 12) (oi := { dst := some 128, op := Go.Op.pick (Go.Operand.tmp 122) (Go.Operand.tmp 127) (Go.Operand.const (Go.Value.bool false)), type := 4, pos := "outright.go:345", after := #[{ on := 6, ground := Go.Ground.data }, { on := 11, ground := Go.Ground.data }, { on := 3, ground := Go.Ground.guard }], guard := some (3, false) }) (v := ?v80) rfl (by kernel_rfl) (by kernel_rfl) (by kernel_rfl) (fun _ _ _ h => h) (Or.inl ⟨by rfl, ?hy80⟩) (held_start w10) ?r80
                  case hy80 =>
                    intro w' hSw
                    have hq := hSw.1
                    clear hSw
                    go_simp
                    with_reducible rfl
                  try simp only [Act.put, List.setIfInBounds_toArray, List.set_cons_zero, List.set_cons_succ]
                  refine wpAnyH_take (i := 13) (oi := { dst := some 129, op := Go.Op.pick (Go.Operand.tmp 119) (Go.Operand.const (Go.Value.bool true)) (Go.Operand.tmp 128), type := 4, pos := "outright.go:345", after := #[{ on := 3, ground := Go.Ground.data }, { on := 12, ground := Go.Ground.data }], guard := none }) (v := ?v81) rfl (by kernel_rfl) (by kernel_rfl) (by kernel_rfl) (fun _ _ _ h => h) (Or.inl ⟨by rfl, ?hy81⟩) (held_start w10) ?r81
                  case hy81 =>
                    intro w' hSw
                    have hq := hSw.1
                    clear hSw
                    go_simp
                    with_reducible rfl
                  try simp only [Act.put, List.setIfInBounds_toArray, List.set_cons_zero, List.set_cons_succ]
                  refine wpAnyH_done (by kernel_rfl) ?_ _
                  show R _ _
                  rw [HR.out]
                  simp only [Act.put, List.setIfInBounds_toArray, List.set_cons_zero, List.set_cons_succ]
                  exact ⟨⟨_, _, _, _, _, _, _, _, _, _, _, _, _, rfl⟩, (held_start w10)⟩
            case rest20 =>
              intro a' w11 hra
              rw [HR.out] at hra
              clear HR
              obtain ⟨⟨u116, u117, u118, u119, u120, u121, u122, u123, u124, u125, u126, u127, u128, rfl⟩, hHE⟩ := hra
              subst hA
              try simp only [Act.put, List.setIfInBounds_toArray, List.set_cons_zero, List.set_cons_succ]

              have hB := hHE.2.2
              clear hHE qP0 qP1 qQ0 qQ1 lP lQ HS2 HBD C1 C2
              replace rB := (hB.block _ lB).trans rB
              replace lB := Nat.lt_of_lt_of_le lB hB.size
              replace rX := (hB.block _ lX).trans rX
              replace lX := Nat.lt_of_lt_of_le lX hB.size
              have hb11 := hb10.trans (hB.mono hb10.size)
              have hx11 := hx10.trans (hB.mono hx10.size)
              clear hB hb10 hx10

              have qB0 := cell_of_row w11 _ 0 _ _ _ rB
              have qB1 := cell_of_row w11 _ 1 _ _ _ rB
              have qB2 := cell_of_row w11 _ 2 _ _ _ rB
              have qB3 := cell_of_row w11 _ 3 _ _ _ rB
              have qB4 := cell_of_row w11 _ 4 _ _ _ rB
              have qB5 := cell_of_row w11 _ 5 _ _ _ rB
              have qB6 := cell_of_row w11 _ 6 _ _ _ rB
              have qB7 := cell_of_row w11 _ 7 _ _ _ rB
              have qB8 := cell_of_row w11 _ 8 _ _ _ rB
              have qB9 := cell_of_row w11 _ 9 _ _ _ rB
              have qB10 := cell_of_row w11 _ 10 _ _ _ rB
              have qB11 := cell_of_row w11 _ 11 _ _ _ rB
              have qB12 := cell_of_row w11 _ 12 _ _ _ rB
              have qB13 := cell_of_row w11 _ 13 _ _ _ rB
              simp only [List.getElem?_toArray, List.getElem?_cons_zero, List.getElem?_cons_succ] at qB0 qB1 qB2 qB3 qB4 qB5 qB6 qB7 qB8 qB9 qB10 qB11 qB12 qB13
              go_wp2_with fail
              clear qB0 qB1 qB2 qB3 qB4 qB5 qB6 qB7 qB8 qB9 qB10 qB11 qB12 qB13
              refine (C3.out _ hb11).mono ?_
              rintro e w12 ⟨rfl, hB⟩
              replace rB := (hB.block _ lB).trans rB
              replace lB := Nat.lt_of_lt_of_le lB hB.size
              replace rX := (hB.block _ lX).trans rX
              replace lX := Nat.lt_of_lt_of_le lX hB.size
              have hb12 := hb11.trans (hB.mono hb11.size)
              have hx12 := hx11.trans (hB.mono hx11.size)
              clear hB hb11 hx11
              have qX0 := cell_of_row w12 _ 0 _ _ _ rX
              have qX1 := cell_of_row w12 _ 1 _ _ _ rX
              have qX2 := cell_of_row w12 _ 2 _ _ _ rX
              have qX3 := cell_of_row w12 _ 3 _ _ _ rX
              have qX4 := cell_of_row w12 _ 4 _ _ _ rX
              have qX5 := cell_of_row w12 _ 5 _ _ _ rX
              have qX6 := cell_of_row w12 _ 6 _ _ _ rX
              have qX7 := cell_of_row w12 _ 7 _ _ _ rX
              have qX8 := cell_of_row w12 _ 8 _ _ _ rX
              have qX9 := cell_of_row w12 _ 9 _ _ _ rX
              have qX10 := cell_of_row w12 _ 10 _ _ _ rX
              have qX11 := cell_of_row w12 _ 11 _ _ _ rX
              have qX12 := cell_of_row w12 _ 12 _ _ _ rX
              have qX13 := cell_of_row w12 _ 13 _ _ _ rX
              simp only [List.getElem?_toArray, List.getElem?_cons_zero, List.getElem?_cons_succ] at qX0 qX1 qX2 qX3 qX4 qX5 qX6 qX7 qX8 qX9 qX10 qX11 qX12 qX13
              go_wp2_with fail
              clear qX0 qX1 qX2 qX3 qX4 qX5 qX6 qX7 qX8 qX9 qX10 qX11 qX12 qX13
              refine (C4.out _ hx12).mono ?_
              rintro e w13 ⟨rfl, hB⟩
              replace rB := (hB.block _ lB).trans rB
              replace lB := Nat.lt_of_lt_of_le lB hB.size
              replace rX := (hB.block _ lX).trans rX
              replace lX := Nat.lt_of_lt_of_le lX hB.size
              have hb13 := hb12.trans (hB.mono hb12.size)
              have hx13 := hx12.trans (hB.mono hx12.size)
              clear hB hb12 hx12
              have qB0 := cell_of_row w13 _ 0 _ _ _ rB
              have qB1 := cell_of_row w13 _ 1 _ _ _ rB
              have qB2 := cell_of_row w13 _ 2 _ _ _ rB
              have qB3 := cell_of_row w13 _ 3 _ _ _ rB
              have qB4 := cell_of_row w13 _ 4 _ _ _ rB
              have qB5 := cell_of_row w13 _ 5 _ _ _ rB
              have qB6 := cell_of_row w13 _ 6 _ _ _ rB
              have qB7 := cell_of_row w13 _ 7 _ _ _ rB
              have qB8 := cell_of_row w13 _ 8 _ _ _ rB
              have qB9 := cell_of_row w13 _ 9 _ _ _ rB
              have qB10 := cell_of_row w13 _ 10 _ _ _ rB
              have qB11 := cell_of_row w13 _ 11 _ _ _ rB
              have qB12 := cell_of_row w13 _ 12 _ _ _ rB
              have qB13 := cell_of_row w13 _ 13 _ _ _ rB
              simp only [List.getElem?_toArray, List.getElem?_cons_zero, List.getElem?_cons_succ] at qB0 qB1 qB2 qB3 qB4 qB5 qB6 qB7 qB8 qB9 qB10 qB11 qB12 qB13
              go_wp2_with fail
              clear qB0 qB1 qB2 qB3 qB4 qB5 qB6 qB7 qB8 qB9 qB10 qB11 qB12 qB13
              refine (C5.out _ hb13).mono ?_
              rintro e w14 ⟨rfl, hB⟩
              replace rB := (hB.block _ lB).trans rB
              replace lB := Nat.lt_of_lt_of_le lB hB.size
              replace rX := (hB.block _ lX).trans rX
              replace lX := Nat.lt_of_lt_of_le lX hB.size
              have hb14 := hb13.trans (hB.mono hb13.size)
              have hx14 := hx13.trans (hB.mono hx13.size)
              clear hB hb13 hx13
              have qX0 := cell_of_row w14 _ 0 _ _ _ rX
              have qX1 := cell_of_row w14 _ 1 _ _ _ rX
              have qX2 := cell_of_row w14 _ 2 _ _ _ rX
              have qX3 := cell_of_row w14 _ 3 _ _ _ rX
              have qX4 := cell_of_row w14 _ 4 _ _ _ rX
              have qX5 := cell_of_row w14 _ 5 _ _ _ rX
              have qX6 := cell_of_row w14 _ 6 _ _ _ rX
              have qX7 := cell_of_row w14 _ 7 _ _ _ rX
              have qX8 := cell_of_row w14 _ 8 _ _ _ rX
              have qX9 := cell_of_row w14 _ 9 _ _ _ rX
              have qX10 := cell_of_row w14 _ 10 _ _ _ rX
              have qX11 := cell_of_row w14 _ 11 _ _ _ rX
              have qX12 := cell_of_row w14 _ 12 _ _ _ rX
              have qX13 := cell_of_row w14 _ 13 _ _ _ rX
              simp only [List.getElem?_toArray, List.getElem?_cons_zero, List.getElem?_cons_succ] at qX0 qX1 qX2 qX3 qX4 qX5 qX6 qX7 qX8 qX9 qX10 qX11 qX12 qX13
              go_wp2_with fail
              clear qX0 qX1 qX2 qX3 qX4 qX5 qX6 qX7 qX8 qX9 qX10 qX11 qX12 qX13
              refine (C6.out _ hx14).mono ?_
              rintro e w15 ⟨rfl, hB⟩
              replace rB := (hB.block _ lB).trans rB
              replace lB := Nat.lt_of_lt_of_le lB hB.size
              replace rX := (hB.block _ lX).trans rX
              replace lX := Nat.lt_of_lt_of_le lX hB.size
              have hb15 := hb14.trans (hB.mono hb14.size)
              have hx15 := hx14.trans (hB.mono hx14.size)
              clear hB hb14 hx14
              have qB0 := cell_of_row w15 _ 0 _ _ _ rB
              have qB1 := cell_of_row w15 _ 1 _ _ _ rB
              have qB2 := cell_of_row w15 _ 2 _ _ _ rB
              have qB3 := cell_of_row w15 _ 3 _ _ _ rB
              have qB4 := cell_of_row w15 _ 4 _ _ _ rB
              have qB5 := cell_of_row w15 _ 5 _ _ _ rB
              have qB6 := cell_of_row w15 _ 6 _ _ _ rB
              have qB7 := cell_of_row w15 _ 7 _ _ _ rB
              have qB8 := cell_of_row w15 _ 8 _ _ _ rB
              have qB9 := cell_of_row w15 _ 9 _ _ _ rB
              have qB10 := cell_of_row w15 _ 10 _ _ _ rB
              have qB11 := cell_of_row w15 _ 11 _ _ _ rB
              have qB12 := cell_of_row w15 _ 12 _ _ _ rB
              have qB13 := cell_of_row w15 _ 13 _ _ _ rB
              simp only [List.getElem?_toArray, List.getElem?_cons_zero, List.getElem?_cons_succ] at qB0 qB1 qB2 qB3 qB4 qB5 qB6 qB7 qB8 qB9 qB10 qB11 qB12 qB13
              go_wp2_with fail
              clear qB0 qB1 qB2 qB3 qB4 qB5 qB6 qB7 qB8 qB9 qB10 qB11 qB12 qB13
              refine (C7.out _ hb15).mono ?_
              rintro e w16 ⟨rfl, hB⟩
              replace rB := (hB.block _ lB).trans rB
              replace lB := Nat.lt_of_lt_of_le lB hB.size
              replace rX := (hB.block _ lX).trans rX
              replace lX := Nat.lt_of_lt_of_le lX hB.size
              have hb16 := hb15.trans (hB.mono hb15.size)
              have hx16 := hx15.trans (hB.mono hx15.size)
              clear hB hb15 hx15
              have qX0 := cell_of_row w16 _ 0 _ _ _ rX
              have qX1 := cell_of_row w16 _ 1 _ _ _ rX
              have qX2 := cell_of_row w16 _ 2 _ _ _ rX
              have qX3 := cell_of_row w16 _ 3 _ _ _ rX
              have qX4 := cell_of_row w16 _ 4 _ _ _ rX
              have qX5 := cell_of_row w16 _ 5 _ _ _ rX
              have qX6 := cell_of_row w16 _ 6 _ _ _ rX
              have qX7 := cell_of_row w16 _ 7 _ _ _ rX
              have qX8 := cell_of_row w16 _ 8 _ _ _ rX
              have qX9 := cell_of_row w16 _ 9 _ _ _ rX
              have qX10 := cell_of_row w16 _ 10 _ _ _ rX
              have qX11 := cell_of_row w16 _ 11 _ _ _ rX
              have qX12 := cell_of_row w16 _ 12 _ _ _ rX
              have qX13 := cell_of_row w16 _ 13 _ _ _ rX
              simp only [List.getElem?_toArray, List.getElem?_cons_zero, List.getElem?_cons_succ] at qX0 qX1 qX2 qX3 qX4 qX5 qX6 qX7 qX8 qX9 qX10 qX11 qX12 qX13
              go_wp2_with fail
              clear qX0 qX1 qX2 qX3 qX4 qX5 qX6 qX7 qX8 qX9 qX10 qX11 qX12 qX13
              refine (C8.out _ hx16).mono ?_
              rintro e w17 ⟨rfl, hB⟩
              replace rB := (hB.block _ lB).trans rB
              replace lB := Nat.lt_of_lt_of_le lB hB.size
              replace rX := (hB.block _ lX).trans rX
              replace lX := Nat.lt_of_lt_of_le lX hB.size
              have hb17 := hb16.trans (hB.mono hb16.size)
              have hx17 := hx16.trans (hB.mono hx16.size)
              clear hB hb16 hx16

              have qB0 := cell_of_row w17 _ 0 _ _ _ rB
              have qB1 := cell_of_row w17 _ 1 _ _ _ rB
              have qB2 := cell_of_row w17 _ 2 _ _ _ rB
              have qB3 := cell_of_row w17 _ 3 _ _ _ rB
              have qB4 := cell_of_row w17 _ 4 _ _ _ rB
              have qB5 := cell_of_row w17 _ 5 _ _ _ rB
              have qB6 := cell_of_row w17 _ 6 _ _ _ rB
              have qB7 := cell_of_row w17 _ 7 _ _ _ rB
              have qB8 := cell_of_row w17 _ 8 _ _ _ rB
              have qB9 := cell_of_row w17 _ 9 _ _ _ rB
              have qB10 := cell_of_row w17 _ 10 _ _ _ rB
              have qB11 := cell_of_row w17 _ 11 _ _ _ rB
              have qB12 := cell_of_row w17 _ 12 _ _ _ rB
              have qB13 := cell_of_row w17 _ 13 _ _ _ rB
              simp only [List.getElem?_toArray, List.getElem?_cons_zero, List.getElem?_cons_succ] at qB0 qB1 qB2 qB3 qB4 qB5 qB6 qB7 qB8 qB9 qB10 qB11 qB12 qB13
              go_wp2_with fail
              clear qB0 qB1 qB2 qB3 qB4 qB5 qB6 qB7 qB8 qB9 qB10 qB11 qB12 qB13
              refine (C9.out _ hb17).mono ?_
              rintro e w18 ⟨⟨va, rfl, hsa⟩, hB⟩
              obtain ⟨Aa, ca, rfl⟩ := hsa.form
              have HSa := Lib.hid hsa
              clear hsa
              replace rB := (hB.block _ lB).trans rB
              replace lB := Nat.lt_of_lt_of_le lB hB.size
              replace rX := (hB.block _ lX).trans rX
              replace lX := Nat.lt_of_lt_of_le lX hB.size
              have hb18 := hb17.trans (hB.mono hb17.size)
              have hx18 := hx17.trans (hB.mono hx17.size)
              clear hB hb17 hx17
              have qX0 := cell_of_row w18 _ 0 _ _ _ rX
              have qX1 := cell_of_row w18 _ 1 _ _ _ rX
              have qX2 := cell_of_row w18 _ 2 _ _ _ rX
              have qX3 := cell_of_row w18 _ 3 _ _ _ rX
              have qX4 := cell_of_row w18 _ 4 _ _ _ rX
              have qX5 := cell_of_row w18 _ 5 _ _ _ rX
              have qX6 := cell_of_row w18 _ 6 _ _ _ rX
              have qX7 := cell_of_row w18 _ 7 _ _ _ rX
              have qX8 := cell_of_row w18 _ 8 _ _ _ rX
              have qX9 := cell_of_row w18 _ 9 _ _ _ rX
              have qX10 := cell_of_row w18 _ 10 _ _ _ rX
              have qX11 := cell_of_row w18 _ 11 _ _ _ rX
              have qX12 := cell_of_row w18 _ 12 _ _ _ rX
              have qX13 := cell_of_row w18 _ 13 _ _ _ rX
              simp only [List.getElem?_toArray, List.getElem?_cons_zero, List.getElem?_cons_succ] at qX0 qX1 qX2 qX3 qX4 qX5 qX6 qX7 qX8 qX9 qX10 qX11 qX12 qX13
              go_wp2_with fail
              clear qX0 qX1 qX2 qX3 qX4 qX5 qX6 qX7 qX8 qX9 qX10 qX11 qX12 qX13
              refine (C10.out _ hx18).mono ?_
              rintro e w19 ⟨⟨vb, rfl, hsb⟩, hB⟩
              have hsa := (HSa.out.below hB (Nat.le_refl _)).more hB.size
              clear HSa
              have HSa := Lib.hid hsa
              clear hsa
              obtain ⟨Ab, cb, rfl⟩ := hsb.form
              have HSb := Lib.hid hsb
              clear hsb
              replace rB := (hB.block _ lB).trans rB
              replace lB := Nat.lt_of_lt_of_le lB hB.size
              replace rX := (hB.block _ lX).trans rX
              replace lX := Nat.lt_of_lt_of_le lX hB.size
              have hb19 := hb18.trans (hB.mono hb18.size)
              have hx19 := hx18.trans (hB.mono hx18.size)
              clear hB hb18 hx18
              have qB0 := cell_of_row w19 _ 0 _ _ _ rB
              have qB1 := cell_of_row w19 _ 1 _ _ _ rB
              have qB2 := cell_of_row w19 _ 2 _ _ _ rB
              have qB3 := cell_of_row w19 _ 3 _ _ _ rB
              have qB4 := cell_of_row w19 _ 4 _ _ _ rB
              have qB5 := cell_of_row w19 _ 5 _ _ _ rB
              have qB6 := cell_of_row w19 _ 6 _ _ _ rB
              have qB7 := cell_of_row w19 _ 7 _ _ _ rB
              have qB8 := cell_of_row w19 _ 8 _ _ _ rB
              have qB9 := cell_of_row w19 _ 9 _ _ _ rB
              have qB10 := cell_of_row w19 _ 10 _ _ _ rB
              have qB11 := cell_of_row w19 _ 11 _ _ _ rB
              have qB12 := cell_of_row w19 _ 12 _ _ _ rB
              have qB13 := cell_of_row w19 _ 13 _ _ _ rB
              simp only [List.getElem?_toArray, List.getElem?_cons_zero, List.getElem?_cons_succ] at qB0 qB1 qB2 qB3 qB4 qB5 qB6 qB7 qB8 qB9 qB10 qB11 qB12 qB13
              go_wp2_with fail
              clear qB0 qB1 qB2 qB3 qB4 qB5 qB6 qB7 qB8 qB9 qB10 qB11 qB12 qB13
              refine (C11.out _ hb19).mono ?_
              rintro e w20 ⟨⟨vc, rfl, hsc⟩, hB⟩
              have hsa := (HSa.out.below hB (Nat.le_refl _)).more hB.size
              clear HSa
              have HSa := Lib.hid hsa
              clear hsa
              have hsb := (HSb.out.below hB (Nat.le_refl _)).more hB.size
              clear HSb
              have HSb := Lib.hid hsb
              clear hsb
              obtain ⟨Ac, cc, rfl⟩ := hsc.form
              have HSc := Lib.hid hsc
              clear hsc
              replace rB := (hB.block _ lB).trans rB
              replace lB := Nat.lt_of_lt_of_le lB hB.size
              replace rX := (hB.block _ lX).trans rX
              replace lX := Nat.lt_of_lt_of_le lX hB.size
              have hb20 := hb19.trans (hB.mono hb19.size)
              have hx20 := hx19.trans (hB.mono hx19.size)
              clear hB hb19 hx19
              have qX0 := cell_of_row w20 _ 0 _ _ _ rX
              have qX1 := cell_of_row w20 _ 1 _ _ _ rX
              have qX2 := cell_of_row w20 _ 2 _ _ _ rX
              have qX3 := cell_of_row w20 _ 3 _ _ _ rX
              have qX4 := cell_of_row w20 _ 4 _ _ _ rX
              have qX5 := cell_of_row w20 _ 5 _ _ _ rX
              have qX6 := cell_of_row w20 _ 6 _ _ _ rX
              have qX7 := cell_of_row w20 _ 7 _ _ _ rX
              have qX8 := cell_of_row w20 _ 8 _ _ _ rX
              have qX9 := cell_of_row w20 _ 9 _ _ _ rX
              have qX10 := cell_of_row w20 _ 10 _ _ _ rX
              have qX11 := cell_of_row w20 _ 11 _ _ _ rX
              have qX12 := cell_of_row w20 _ 12 _ _ _ rX
              have qX13 := cell_of_row w20 _ 13 _ _ _ rX
              simp only [List.getElem?_toArray, List.getElem?_cons_zero, List.getElem?_cons_succ] at qX0 qX1 qX2 qX3 qX4 qX5 qX6 qX7 qX8 qX9 qX10 qX11 qX12 qX13
              go_wp2_with fail
              clear qX0 qX1 qX2 qX3 qX4 qX5 qX6 qX7 qX8 qX9 qX10 qX11 qX12 qX13
              refine (C12.out _ hx20).mono ?_
              rintro e w21 ⟨⟨ve, rfl, hse⟩, hB⟩
              have hsa := (HSa.out.below hB (Nat.le_refl _)).more hB.size
              clear HSa
              have HSa := Lib.hid hsa
              clear hsa
              have hsb := (HSb.out.below hB (Nat.le_refl _)).more hB.size
              clear HSb
              have HSb := Lib.hid hsb
              clear hsb
              have hsc := (HSc.out.below hB (Nat.le_refl _)).more hB.size
              clear HSc
              have HSc := Lib.hid hsc
              clear hsc
              obtain ⟨Ae, ce, rfl⟩ := hse.form
              have HSe := Lib.hid hse
              clear hse
              replace rB := (hB.block _ lB).trans rB
              replace lB := Nat.lt_of_lt_of_le lB hB.size
              replace rX := (hB.block _ lX).trans rX
              replace lX := Nat.lt_of_lt_of_le lX hB.size
              have hb21 := hb20.trans (hB.mono hb20.size)
              have hx21 := hx20.trans (hB.mono hx20.size)
              clear hB hb20 hx20

              clear rB rX lB lX hx21 C3 C4 C5 C6 C7 C8 C9 C10 C11 C12
              go_wp2_with fail
              refine (alike_same L _ _ _ HSa.out HSb.out).mono ?_
              rintro e w22 ⟨rfl, hB⟩
              have hsc := (HSc.out.below hB (Nat.le_refl _)).more hB.size
              have hse := (HSe.out.below hB (Nat.le_refl _)).more hB.size
              have HSc2 := Lib.hid hsc
              have HSe2 := Lib.hid hse
              have hb22 := hb21.trans (hB.mono hb21.size)
              clear hB hb21 hsc hse HSa HSb HSc HSe
              go_wp2_with fail
              refine (alike_same M _ _ _ HSc2.out HSe2.out).mono ?_
              rintro e w23 ⟨rfl, hB⟩
              have HB23 := Lib.hid (hb22.trans (hB.mono hb22.size))
              clear hB hb22 HSc2 HSe2
              go_wp2_with fail
              refine (moored_any _).mono ?_
              rintro e wZ ⟨rfl, hBZ⟩
              have HBZ := Lib.hid (HB23.out.trans (hBZ.mono HB23.out.size))
              clear hBZ
              go_wp2_with fail
              go_ret
              exact ⟨rfl, HBZ.out⟩

end Go.Proofs.Ytjgpghaofhcfnaa
