/- Texts on the program that the proof leans on, part 55. -/
import Derived.Test.YtjgpghaofhcfnaaYbd
import Derived.Test.YtjgpghaofhcfnaaYbc
import Derived.Test.YtjgpghaofhcfnaaYby
set_option linter.unusedVariables false
set_option linter.unusedSimpArgs false

/- Contracts of the statements' helpers: Choose, Within, tide. -/
namespace Go.Proofs.Ytjgpghaofhcfnaa
open Go.RowKit

/-- Below a number all lies as it lay. -/
abbrev HeldC (F : Nat) (W w' : World) : Prop := (∀ b o, b < F → w'.cell? ⟨b, o, none⟩ = W.cell? ⟨b, o, none⟩) ∧ Below F W w'
theorem heldC_of {F : Nat} {W w' : World} (h : Below F W w') : HeldC F W w' := ⟨fun b o hb => h.cell (p := ⟨b, o, none⟩) hb, h⟩

set_option maxHeartbeats 400000 in
theorem mod_wide (n many : Int) (h0 : 0 < many) (hm : many ≤ 9223372036854775807) (w : World) :
    Calls Try.prog 16 #[I n, I many] w fun e w' => e = .returned (I (n % many)) ∧ Below w.heap.size w w' := by
  have h1 : ¬ many ≤ 0 := by omega
  have h2 : (many == 0) = false := by simp; omega
  have hp := Int.emod_nonneg n (b := many) (by omega)
  have hq := Int.emod_lt_of_pos n h0
  by_cases hc : 0 ≤ n ∨ many ∣ n
  · have h3 : n.tmod many = n % many := by rw [Int.tmod_eq_emod, if_pos hc]; simp
    have h4 : ¬ n % many < 0 := by omega
    clear hc
    go_enter Try.func16, Try.ntmps16
    go_wp2
    go_ret
    exact ⟨rfl, Below.refl _ _⟩
  · have h3 : n.tmod many = n % many - many := by rw [Int.tmod_eq_emod, if_neg hc]; omega
    have h4 : n % many - many < 0 := by omega
    have h5 : IntKind.i64.wrap (n % many - many + many) = n % many := by rw [IntWalk.i64_in] <;> omega
    clear hc
    go_enter Try.func16, Try.ntmps16
    go_wp2
    go_ret
    exact ⟨rfl, Below.refl _ _⟩

set_option maxHeartbeats 1000000 in
theorem choose_any (l : List Int) (v : Value) (n : Int) (w : World) (hv : Sl w w.heap.size 1 v l.length (l.map I)) :
    Calls Try.prog 48 #[v, I n] w fun e w' => (∃ x, e = .returned (I x)) ∧ Below w.heap.size w w' := by
  have hm := hv.le
  unfold maxLen at hm
  obtain ⟨A, c, rfl⟩ := hv.form
  by_cases hn : l.length = 0
  · have hn' : (l.length : Int) = 0 := by omega
    have HN := Lib.hid hn
    clear hn
    go_enter Try.func48, Try.ntmps48
    go_wp2_with fail
    go_ret
    exact ⟨⟨0, rfl⟩, Below.refl _ _⟩
  · have hn' : ¬ (l.length : Int) = 0 := by omega
    have hb : ((l.length : Int) == 0) = false := beq_eq_false_iff_ne.2 hn'
    have hp0 := Int.emod_nonneg n (b := (l.length : Int)) (by omega)
    have hp1 := Int.emod_lt_of_pos n (show 0 < (l.length : Int) by omega)
    obtain ⟨r, hr⟩ : ∃ r, n % (l.length : Int) = r := ⟨_, rfl⟩
    rw [hr] at hp0 hp1
    obtain ⟨k, rfl⟩ : ∃ k : Nat, r = k := ⟨r.toNat, by omega⟩
    have hk := hr
    have hk2 : k < l.length := by omega
    clear hr hp0 hp1
    have hki : (k : Int) < l.length := by omega
    have HM := mod_wide n l.length (by omega) (by omega)
    clear hn hm
    go_enter Try.func48, Try.ntmps48
    go_wp2_with fail
    refine (HM _).mono ?_
    rintro e w1 ⟨rfl, hB1⟩
    rw [hk]
    obtain ⟨b', off', c', hv', hb', ck⟩ := (hv.below hB1 (Nat.le_refl _)).int hk2
    injection hv' with hA _ hc
    subst hA hc
    have HB1 := Lib.hid hB1
    clear HM hv hk hB1
    go_wp2_with fail
    go_ret
    exact ⟨⟨_, rfl⟩, HB1.out⟩

set_option maxHeartbeats 2000000 in
theorem within_any (s : Ld.Sp) (n : Int) (h0 : -40 ≤ s.lo) (h1 : s.lo ≤ s.hi) (h2 : s.hi ≤ 200) (w : World) :
    Calls Try.prog 31 #[vSp s, I n] w fun e w' => (∃ x, e = .returned (I x) ∧ s.lo ≤ x ∧ x ≤ s.hi) ∧ Below w.heap.size w w' := by
  obtain ⟨a, b⟩ := s
  replace h0 : -40 ≤ a := h0
  replace h1 : a ≤ b := h1
  replace h2 : b ≤ 200 := h2
  obtain ⟨q, hq⟩ : ∃ q, n % (b - a + 1) = q := ⟨_, rfl⟩
  have hp0 := Int.emod_nonneg n (b := b - a + 1) (by omega)
  have hp1 := Int.emod_lt_of_pos n (show 0 < b - a + 1 by omega)
  rw [hq] at hp0 hp1
  have e1 : IntKind.i64.wrap (b - a) = b - a := IntWalk.i64_in _ (by omega)
  have e2 : IntKind.i64.wrap (b - a + 1) = b - a + 1 := IntWalk.i64_in _ (by omega)
  have e3 : IntKind.i64.wrap (a + q) = a + q := IntWalk.i64_in _ (by omega)
  have HM : ∀ W, Calls Try.prog 16 #[I n, I (b - a + 1)] W fun e w' => e = .returned (I q) ∧ Below W.heap.size W w' := fun W => by
    have := mod_any n (b - a + 1) (by omega) (by omega) W
    rw [hq] at this
    exact this
  have HMM := Lib.hid HM
  clear HM hq
  go_enter Try.func31, Try.ntmps31
  go_wp2_with fail
  refine name_world ?_
  intro W hW
  have hB : Below w.heap.size w W := by rw [hW]; exact (Below.refl _ _).alloc (Nat.le_refl _) _
  have hr : W.heap[w.heap.size]? = some (.cells #[I a, I b] 24 (0, 0)) := by rw [hW]; exact heap_at _ _ rfl
  have hlt : w.heap.size < W.heap.size := heap_lt hr
  have c0 := cell_of_row W _ 0 _ _ _ hr
  have c1 := cell_of_row W _ 1 _ _ _ hr
  simp only [List.getElem?_toArray, List.getElem?_cons_zero, List.getElem?_cons_succ] at c0 c1
  have HB := Lib.hid hB
  clear hW hr hB
  go_region_held3 (fun w' => Held W w') (first | assumption | exact held_start _ | exact held_step (by assumption) (by assumption) | exact held_step (by assumption) (held_start _) | go_keep)
    (first | (go_at_call 16; refine (HMM.out _).mono ?_; rintro e w1 ⟨rfl, hB1⟩))
  all_goals
    rename_i hHE
    have hbX := HB.out.trans (hHE.2.2.mono HB.out.size)
    have HBX := Lib.hid hbX
    clear hbX
    go_wp2_with fail
    go_ret
    exact ⟨⟨_, rfl, by show a ≤ _; omega, by show _ ≤ b; omega⟩, HBX.out⟩


theorem infoSpan : (Try.prog.info? 24).map (fun i => (i.zero, i.size, i.bytes)) = some (some (vSp ⟨0, 0⟩), 2, 16) := by kernel_rfl
theorem underSpans : Try.prog.underlying 22 = some (.slice 24) := by kernel_rfl
/-- The cells of a list of spans in which one is another one. -/
theorem set_cells (l : List Ld.Sp) (q : Nat) (n : Int) (j : Nat) (u : Value) (hu : ((l.set q ⟨n, n⟩).flatMap cSp)[j]? = some u) : ((j = q * 2 ∨ j = q * 2 + 1) ∧ u = I n) ∨ (j ≠ q * 2 ∧ j ≠ q * 2 + 1 ∧ (l.flatMap cSp)[j]? = some u) := by
  have hj : j < l.length * 2 := by
    have := (List.getElem?_eq_some_iff.1 hu).1
    rw [len_flatN 2 cSp (fun _ => rfl)] at this
    simpa using this
  have hk : j / 2 < l.length := by omega
  have hk' : j / 2 < (l.set q ⟨n, n⟩).length := by simpa using hk
  have h1 := flatN 2 cSp (fun _ => rfl) (l.set q ⟨n, n⟩) (j / 2) (j % 2) hk' (by omega)
  have h2 := flatN 2 cSp (fun _ => rfl) l (j / 2) (j % 2) hk (by omega)
  rw [show j / 2 * 2 + j % 2 = j by omega] at h1 h2
  rw [h1] at hu
  by_cases hc : q = j / 2
  · left
    refine ⟨by omega, ?_⟩
    subst hc
    rw [List.getElem_set_self] at hu
    have hr : j % 2 = 0 ∨ j % 2 = 1 := by omega
    rcases hr with hr | hr <;> (rw [hr] at hu; simp [cSp] at hu; exact hu.symm)
  · right
    refine ⟨by omega, by omega, ?_⟩
    rw [List.getElem_set_ne hc] at hu
    rw [h2, hu]

set_option maxRecDepth 100000 in
set_option maxHeartbeats 8000000 in
theorem tide_any (b : Ld.Bk) (T D : Value) (q : Nat) (n : Int) (w : World) (hb : RB w w.heap.size b T D) (hq : q < b.tides.length) (hl : b.tides.length ≤ 24) :
    Calls Try.prog 32 #[vBk T D b, I q, I n] w fun e w' => (∃ T', e = .returned (vBk T' D b) ∧ Sl w' w'.heap.size 2 T' (Ld.tideB b q n).tides.length ((Ld.tideB b q n).tides.flatMap cSp)) ∧ Below w.heap.size w w' := by
  obtain ⟨A1, k1, rfl⟩ := hb.sounds.form
  obtain ⟨h1, A0, c0, rfl, h2, h3, h4⟩ := hb.tides
  obtain ⟨bl, off, rfl, hbl, hc⟩ := h4 (by omega)
  have HB := Lib.hid hb
  clear hb h4
  go_enter Try.func32, Try.ntmps32
  go_upto_region 2 with fail
  refine name_world ?_
  intro W hW
  have hbW : Below w.heap.size w W := by rw [hW]; exact (((Below.refl _ _).alloc (Nat.le_refl _) _).alloc (by simp) _).alloc (by simp <;> omega) _
  have rB : W.heap[w.heap.size]? = some (.cells (rBk (.slice (some ⟨bl, off, none⟩) b.tides.length c0) (.slice A1 b.sounds.length k1) b) 30 (0, 0)) := by rw [hW]; exact (Below.heap_alloc _ _ _ (by simp <;> omega)).trans ((Below.heap_alloc _ _ _ (by simp)).trans (heap_at _ _ rfl))
  have rO : W.heap[w.heap.size + 1]? = some (.cells #[.slice none 0 0, I 0, I 0, I 0, I 0, I 0, I 0, I 0, I 0, I 0, I 0, I 0, I 0, .slice none 0 0] 30 (0, 0)) := by rw [hW]; exact (Below.heap_alloc _ _ _ (by simp)).trans (heap_at _ _ (by simp))
  have rX : W.heap[w.heap.size + 1 + 1]? = some (.cells (rBk (.slice (some ⟨bl, off, none⟩) b.tides.length c0) (.slice A1 b.sounds.length k1) b) 30 (0, 0)) := by rw [hW]; exact heap_at _ _ (by simp)
  have hWs : W.heap.size = w.heap.size + 3 := by rw [hW]; simp
  have rBA : (W.alloc (.cells #[] 24)).heap[w.heap.size]? = some (.cells (rBk (.slice (some ⟨bl, off, none⟩) b.tides.length c0) (.slice A1 b.sounds.length k1) b) 30 (0, 0)) := (Below.heap_alloc _ _ _ (heap_lt rB)).trans rB
  have qB0 := cell_of_row _ _ 0 _ _ _ rBA
  simp only [List.getElem?_toArray, List.getElem?_cons_zero, List.getElem?_cons_succ] at qB0
  have hown0 : (W.alloc (.cells #[] 24)).ownsRow W.heap.size 24 2 (.slice (some ⟨W.heap.size, 0, none⟩) 0 0) 0 [] := ⟨rfl, .inr ⟨W.heap.size, 0, #[], rfl, Nat.le_refl _, heap_at _ _ rfl, Nat.le_refl _, by unfold maxLen; omega, rfl, rfl⟩⟩
  have hnews : ∀ (j : Nat) (u : Value), (b.tides.flatMap cSp)[j]? = some u → (W.alloc (.cells #[] 24)).cell? ((⟨bl, off, none⟩ : Addr).add j) = some u := fun j u hu => by
    rw [Addr.add_lit]
    have hA : Below w.heap.size w (W.alloc (.cells #[] 24)) := hbW.alloc hbW.size _
    rw [hA.cell (p := ⟨bl, off + j, none⟩) hbl]
    exact hc j u hu
  have hone : ∀ u ∈ b.tides.flatMap cSp, u.oneCell' = true := by
    intro u hu
    obtain ⟨x, -, hx⟩ := List.mem_flatMap.1 hu
    simp [cSp] at hx
    rcases hx with rfl | rfl <;> rfl
  have rXA : (W.alloc (.cells #[] 24)).heap[w.heap.size + 1 + 1]? = some (.cells (rBk (.slice (some ⟨bl, off, none⟩) b.tides.length c0) (.slice A1 b.sounds.length k1) b) 30 (0, 0)) := (Below.heap_alloc _ _ _ (heap_lt rX)).trans rX
  have rOA : (W.alloc (.cells #[] 24)).heap[w.heap.size + 1]? = some (.cells #[.slice none 0 0, I 0, I 0, I 0, I 0, I 0, I 0, I 0, I 0, I 0, I 0, I 0, I 0, .slice none 0 0] 30 (0, 0)) := (Below.heap_alloc _ _ _ (heap_lt rO)).trans rO
  have HOWN0 := Lib.hid hown0
  have HNEWS := Lib.hid hnews
  have HONE := Lib.hid hone
  have RXA := Lib.hid rXA
  have ROA := Lib.hid rOA
  have HBW0 := Lib.hid hbW
  have HL2 := Lib.hid h1
  have lX := heap_lt rX
  have lO := heap_lt rO
  have HWS := Lib.hid hWs
  clear hown0 hnews hone rXA rOA hbW h1 h2 h3 hc hW rX rO rB hWs rBA
  obtain ⟨i0, hi, hz0, hz1, hz2⟩ := info_parts infoSpan
  go_wp2_with (at_builtin; go_must (refine wpList_append_own_at _ rfl _ _ 22 rfl W.heap.size 24 i0 (vSp ⟨0, 0⟩) 2 16 underSpans hi hz0 hz1 hz2 rfl (by decide) (.slice (some ⟨W.heap.size, 0, none⟩) 0 0) 0 [] (by rfl) HOWN0.out ⟨bl, off, none⟩ b.tides.length c0 (b.tides.flatMap cSp) (by rfl) HL2.out HNEWS.out HONE.out (by unfold maxLen; omega) (by omega) (by simp) ?_; intro v' w3 hown' hgrow hnil hat; rw [Nat.zero_add, List.nil_append] at hown'; obtain ⟨Av, cv, rfl⟩ := (sl_ownN hown' (Nat.le_refl _)).form; have HOW := Lib.hid hown'; have HGR := Lib.hid hgrow; have rX3 := (hgrow.block _ (heap_lt RXA.out) (fun e => by simp [Value.ownBlock] at e <;> omega)).trans RXA.out; have qX0 := cell_of_row w3 _ 0 _ _ _ rX3; simp only [List.getElem?_toArray, List.getElem?_cons_zero, List.getElem?_cons_succ] at qX0; have fX0 : w3.frozen? ⟨w.heap.size + 1 + 1, 0, none⟩ = false := (by simp [World.frozen?, rX3]); have RX3 := Lib.hid rX3; clear hown' hgrow hnil hat rX3))
  have hWs := HWS.out
  refine name_world ?_
  intro W4 hW4
  have rX4 : W4.heap[w.heap.size + 1 + 1]? = some (.cells (rBk (.slice Av b.tides.length cv) (.slice A1 b.sounds.length k1) b) 30 (0, 0)) := by rw [hW4]; simp [World.setCell, Array.getElem?_modify, RX3.out]
  have rO4 : W4.heap[w.heap.size + 1]? = some (.cells #[.slice none 0 0, I 0, I 0, I 0, I 0, I 0, I 0, I 0, I 0, I 0, I 0, I 0, I 0, .slice none 0 0] 30 (0, 0)) := by
    rw [hW4]
    refine (Below.heap_setCell _ _ _ _ (show w.heap.size + 1 ≠ w.heap.size + 1 + 1 by omega)).trans ?_
    exact (HGR.out.block _ (heap_lt ROA.out) (fun e => by simp [Value.ownBlock] at e <;> omega)).trans ROA.out
  have hb4 : Below w.heap.size w W4 := by
    rw [hW4]
    refine Below.setCell (Below.trans (HBW0.out.alloc HBW0.out.size _) ⟨HGR.out.os, HGR.out.tape, HGR.out.output, HGR.out.size, fun i hi => HGR.out.block i (by simp; omega) (fun e => by simp [Value.ownBlock] at e <;> omega)⟩) (by simp <;> omega) _
  have hown4 : W4.ownsRow W.heap.size 24 2 (.slice Av b.tides.length cv) b.tides.length (b.tides.flatMap cSp) := by
    rw [hW4]
    refine HOW.out.kept (row := some (w.heap.size + 1 + 1)) ⟨rfl, rfl, rfl, by simp [World.setCell], fun k _ hk => Below.heap_setCell _ _ _ _ (fun e => hk (by rw [e]))⟩ (.inr ?_)
    intro e
    have := (HOW.out.lt _ e).1
    omega
  clear hW4 HOW HGR RX3 qX0 fX0 HOWN0 HNEWS HONE RXA ROA HBW0 HL2 hi hz0 hz1 hz2 qB0
  have hFw : W.heap.size ≤ W4.heap.size := by have := heap_lt rX4; omega
  obtain ⟨hx, hcase⟩ := hown4
  rcases hcase with ⟨he, hc⟩ | ⟨g, cap, cur, hv, hgW, hg, hle, hmx, hcs, htk⟩
  · exfalso
    omega
  injection hv with hv1 _ hv2
  subst hv1 hv2
  have hgX : g ≠ w.heap.size + 1 + 1 := by omega
  have hcs2 : q * 2 + 1 < cur.size := by omega
  have qX0 := cell_of_row W4 _ 0 _ _ _ rX4
  simp only [List.getElem?_toArray, List.getElem?_cons_zero, List.getElem?_cons_succ] at qX0
  have hXlt : w.heap.size + 1 + 1 < W.heap.size := by omega
  have hqi : (q : Int) < b.tides.length := by omega
  have HB4 := Lib.hid hb4
  have RO4 := Lib.hid rO4
  have hW1 : w.heap.size + 1 < W.heap.size := by omega
  have hWle : w.heap.size ≤ W.heap.size := by omega
  clear hb4 rO4 hWs
  refine name_act ?_
  intro A hA
  obtain ⟨R, hR⟩ : ∃ R : Act → World → Prop, R = fun a' w' => (∃ u14 u15 u16 u17 u18 u19, a' = ((((((A.put (some 14) u14).put (some 15) u15).put (some 16) u16).put (some 17) u17).put (some 18) u18).put (some 19) u19)) ∧ w'.heap[w.heap.size + 1 + 1]? = some (.cells (rBk (.slice (some ⟨g, 0, none⟩) b.tides.length cv) (.slice A1 b.sounds.length k1) b) 30 (0, 0)) ∧ w'.heap[g]? = some (.cells ((cur.setIfInBounds (q * 2) (I n)).setIfInBounds (q * 2 + 1) (I n)) 24 (0, 0)) ∧ HeldC W.heap.size W4 w' := ⟨_, rfl⟩
  have HR := Lib.hid hR
  clear hR
  refine wp_between R ?first ?rest
  case first =>
    subst hA
    have hX0 : W4.drew.heap[w.heap.size + 1 + 1]? = _ := rX4
    have hG0 : W4.drew.heap[g]? = _ := hg
    have hS0 : HeldC W.heap.size W4 W4.drew := heldC_of (Below.refl _ _).drew
    refine wp_region_held_drew (S := fun w' => HeldC W.heap.size W4 w') (by kernel_rfl) hS0 (fun _ => ?_)
    refine wpAnyH_take (i := 0) (oi := { dst := some 14, op := Go.Op.fieldAddr 30 (Go.Operand.tmp 7) 0, type := 0, pos := "outright.go:141", after := #[], guard := none }) (v := ?v1) rfl (by kernel_rfl) (by kernel_rfl) (by kernel_rfl) (fun _ _ _ h => h) (Or.inl ⟨by rfl, ?hy1⟩) hS0 ?r1
    case hy1 =>
      intro w' hSw
      have hq := hSw.1
      clear hSw
      go_simp
      with_reducible rfl
    try simp only [Act.put, List.setIfInBounds_toArray, List.set_cons_zero, List.set_cons_succ]
    refine wpAnyH_take (i := 1) (oi := { dst := some 15, op := Go.Op.load 22 (Go.Operand.tmp 14), type := 22, pos := "outright.go:141", after := #[{ on := 0, ground := Go.Ground.data }], guard := none }) (v := ?v2) rfl (by kernel_rfl) (by kernel_rfl) (by kernel_rfl) (fun _ _ _ h => h) (Or.inl ⟨by rfl, ?hy2⟩) hS0 ?r2
    case hy2 =>
      intro w' hSw
      have hq := hSw.1
      clear hSw
      go_simp
      with_reducible rfl
    try simp only [Act.put, List.setIfInBounds_toArray, List.set_cons_zero, List.set_cons_succ]
    refine wpAnyH_take (i := 2) (oi := { dst := some 16, op := Go.Op.move (Go.Operand.tmp 1), type := 3, pos := "outright.go:141", after := #[], guard := none }) (v := ?v3) rfl (by kernel_rfl) (by kernel_rfl) (by kernel_rfl) (fun _ _ _ h => h) (Or.inl ⟨by rfl, ?hy3⟩) hS0 ?r3
    case hy3 =>
      intro w' hSw
      have hq := hSw.1
      clear hSw
      go_simp
      with_reducible rfl
    try simp only [Act.put, List.setIfInBounds_toArray, List.set_cons_zero, List.set_cons_succ]
    refine wpAnyH_take (i := 3) (oi := { dst := some 17, op := Go.Op.move (Go.Operand.tmp 2), type := 3, pos := "outright.go:141", after := #[], guard := none }) (v := ?v4) rfl (by kernel_rfl) (by kernel_rfl) (by kernel_rfl) (fun _ _ _ h => h) (Or.inl ⟨by rfl, ?hy4⟩) hS0 ?r4
    case hy4 =>
      intro w' hSw
      have hq := hSw.1
      clear hSw
      go_simp
      with_reducible rfl
    try simp only [Act.put, List.setIfInBounds_toArray, List.set_cons_zero, List.set_cons_succ]
    refine wpAnyH_ready (rs := [4]) (by kernel_rfl) (by simp) ?_
    refine AllReadyH.cons rfl (fun K hK => ?_) AllReadyH.nil
    go_simp
    refine (point_any n _).mono ?_
    rintro e w5 ⟨rfl, hBw5⟩
    have hSw5 : HeldC W.heap.size W4 w5 := heldC_of (hS0.2.trans (hBw5.mono (Nat.le_trans hFw hS0.2.size)))
    have hrGw5 := (hBw5.block _ (heap_lt hG0)).trans hG0
    have hrXw5 := (hBw5.block _ (heap_lt hX0)).trans hX0
    refine hK.out _ _ hSw5 (fun _ => ?_)
    clear hK K
    try simp only [Act.put, List.setIfInBounds_toArray, List.set_cons_zero, List.set_cons_succ]
    refine wpAnyH_take (i := 5) (oi := { dst := some 19, op := Go.Op.indexAddr 22 (Go.Operand.tmp 15) (Go.Operand.tmp 16), type := 0, pos := "outright.go:141", after := #[{ on := 1, ground := Go.Ground.data }, { on := 2, ground := Go.Ground.data }, { on := 0, ground := Go.Ground.phase }, { on := 1, ground := Go.Ground.phase }, { on := 2, ground := Go.Ground.phase }, { on := 3, ground := Go.Ground.phase }, { on := 4, ground := Go.Ground.phase }], guard := none }) (v := ?v6) rfl (by kernel_rfl) (by kernel_rfl) (by kernel_rfl) (fun _ _ _ h => h) (Or.inl ⟨by rfl, ?hy6⟩) hSw5 ?r6
    case hy6 =>
      intro w' hSw
      have hq := hSw.1
      clear hSw
      go_simp
      with_reducible rfl
    try simp only [Act.put, List.setIfInBounds_toArray, List.set_cons_zero, List.set_cons_succ]
    refine wpAnyH_ready (rs := [6]) (by kernel_rfl) (by simp) ?_
    refine AllReadyH.cons rfl (fun K hK => ?_) AllReadyH.nil
    have cG0 := cell_of_row w5 _ (q * 2) _ _ _ hrGw5
    have cG1 := cell_of_row w5 _ (q * 2 + 1) _ _ _ hrGw5
    rw [Array.getElem?_eq_getElem (by omega)] at cG0 cG1
    have fG0 : w5.frozen? ⟨g, q * 2, none⟩ = false := by simp [World.frozen?, hrGw5]
    have fG1 : w5.frozen? ⟨g, q * 2 + 1, none⟩ = false := by simp [World.frozen?, hrGw5]
    go_simp
    have hSw7 : HeldC W.heap.size W4 ((w5.setCell ⟨g, q * 2, none⟩ (I n)).setCell ⟨g, q * 2 + 1, none⟩ (I n)) := heldC_of ((hSw5.2.setCell (p := ⟨g, q * 2, none⟩) hgW _).setCell (p := ⟨g, q * 2 + 1, none⟩) hgW _)
    refine hK.out _ _ hSw7 (fun _ => ?_)
    clear hK K
    try simp only [Act.put, List.setIfInBounds_toArray, List.set_cons_zero, List.set_cons_succ]
    refine wpAnyH_done (by kernel_rfl) ?_ _
    show R _ _
    rw [HR.out]
    simp only [Act.put, List.setIfInBounds_toArray, List.set_cons_zero, List.set_cons_succ]
    exact ⟨⟨_, _, _, _, _, _, rfl⟩, by simp [World.setCell, Array.getElem?_modify, hgX, hrXw5], by simp [World.setCell, Array.getElem?_modify, hrGw5], hSw7⟩
  case rest =>
    intro a' w5 hra
    rw [HR.out] at hra
    clear HR
    obtain ⟨⟨u14, u15, u16, u17, u18, u19, rfl⟩, rX5, rG5, hHE⟩ := hra
    subst hA
    try simp only [Act.put, List.setIfInBounds_toArray, List.set_cons_zero, List.set_cons_succ]
    have rO := (hHE.2.block (w.heap.size + 1) hW1).trans RO4.out
    have hbw : Below w.heap.size w w5 := HB4.out.trans (hHE.2.mono hWle)
    have hsl : Sl w5 w5.heap.size 2 (.slice (some ⟨g, 0, none⟩) b.tides.length cv) (Ld.tideB b q n).tides.length ((Ld.tideB b q n).tides.flatMap cSp) := by
      have e1 : (Ld.tideB b q n).tides.length = b.tides.length := by simp [Ld.tideB]
      rw [e1]
      refine ⟨by rw [len_flatN 2 cSp (fun _ => rfl)]; simp [Ld.tideB], _, _, rfl, hle, hmx, fun _ => ⟨g, 0, rfl, heap_lt rG5, fun j u hu => ?_⟩⟩
      rw [Nat.zero_add, cell_of_row _ _ _ _ _ _ rG5]
      rcases set_cells b.tides q n j u hu with ⟨hj, rfl⟩ | ⟨hj1, hj2, hj3⟩
      · rcases hj with rfl | rfl
        · rw [Array.getElem?_setIfInBounds_ne (by omega), Array.getElem?_setIfInBounds_self_of_lt (by omega)]
        · rw [Array.getElem?_setIfInBounds_self_of_lt (by simp; omega)]
      · rw [Array.getElem?_setIfInBounds_ne (by omega), Array.getElem?_setIfInBounds_ne (by omega)]
        rw [← htk, List.getElem?_take] at hj3
        split at hj3
        · simpa using hj3
        · cases hj3
    have HSL := Lib.hid hsl
    have HBW := Lib.hid hbw
    clear hsl hbw hHE rG5
    have qX0 := cell_of_row w5 _ 0 _ _ _ rX5
    have qO0 := cell_of_row w5 _ 0 _ _ _ rO
    have zO0 : w5.frozen? ⟨w.heap.size + 1, 0, none⟩ = false := by simp [World.frozen?, rO]
    have qX1 := cell_of_row w5 _ 1 _ _ _ rX5
    have qO1 := cell_of_row w5 _ 1 _ _ _ rO
    have zO1 : w5.frozen? ⟨w.heap.size + 1, 1, none⟩ = false := by simp [World.frozen?, rO]
    have qX2 := cell_of_row w5 _ 2 _ _ _ rX5
    have qO2 := cell_of_row w5 _ 2 _ _ _ rO
    have zO2 : w5.frozen? ⟨w.heap.size + 1, 2, none⟩ = false := by simp [World.frozen?, rO]
    have qX3 := cell_of_row w5 _ 3 _ _ _ rX5
    have qO3 := cell_of_row w5 _ 3 _ _ _ rO
    have zO3 : w5.frozen? ⟨w.heap.size + 1, 3, none⟩ = false := by simp [World.frozen?, rO]
    have qX4 := cell_of_row w5 _ 4 _ _ _ rX5
    have qO4 := cell_of_row w5 _ 4 _ _ _ rO
    have zO4 : w5.frozen? ⟨w.heap.size + 1, 4, none⟩ = false := by simp [World.frozen?, rO]
    have qX5 := cell_of_row w5 _ 5 _ _ _ rX5
    have qO5 := cell_of_row w5 _ 5 _ _ _ rO
    have zO5 : w5.frozen? ⟨w.heap.size + 1, 5, none⟩ = false := by simp [World.frozen?, rO]
    have qX6 := cell_of_row w5 _ 6 _ _ _ rX5
    have qO6 := cell_of_row w5 _ 6 _ _ _ rO
    have zO6 : w5.frozen? ⟨w.heap.size + 1, 6, none⟩ = false := by simp [World.frozen?, rO]
    have qX7 := cell_of_row w5 _ 7 _ _ _ rX5
    have qO7 := cell_of_row w5 _ 7 _ _ _ rO
    have zO7 : w5.frozen? ⟨w.heap.size + 1, 7, none⟩ = false := by simp [World.frozen?, rO]
    have qX8 := cell_of_row w5 _ 8 _ _ _ rX5
    have qO8 := cell_of_row w5 _ 8 _ _ _ rO
    have zO8 : w5.frozen? ⟨w.heap.size + 1, 8, none⟩ = false := by simp [World.frozen?, rO]
    have qX9 := cell_of_row w5 _ 9 _ _ _ rX5
    have qO9 := cell_of_row w5 _ 9 _ _ _ rO
    have zO9 : w5.frozen? ⟨w.heap.size + 1, 9, none⟩ = false := by simp [World.frozen?, rO]
    have qX10 := cell_of_row w5 _ 10 _ _ _ rX5
    have qO10 := cell_of_row w5 _ 10 _ _ _ rO
    have zO10 : w5.frozen? ⟨w.heap.size + 1, 10, none⟩ = false := by simp [World.frozen?, rO]
    have qX11 := cell_of_row w5 _ 11 _ _ _ rX5
    have qO11 := cell_of_row w5 _ 11 _ _ _ rO
    have zO11 : w5.frozen? ⟨w.heap.size + 1, 11, none⟩ = false := by simp [World.frozen?, rO]
    have qX12 := cell_of_row w5 _ 12 _ _ _ rX5
    have qO12 := cell_of_row w5 _ 12 _ _ _ rO
    have zO12 : w5.frozen? ⟨w.heap.size + 1, 12, none⟩ = false := by simp [World.frozen?, rO]
    have qX13 := cell_of_row w5 _ 13 _ _ _ rX5
    have qO13 := cell_of_row w5 _ 13 _ _ _ rO
    have zO13 : w5.frozen? ⟨w.heap.size + 1, 13, none⟩ = false := by simp [World.frozen?, rO]
    simp only [List.getElem?_toArray, List.getElem?_cons_zero, List.getElem?_cons_succ] at qX0 qX1 qX2 qX3 qX4 qX5 qX6 qX7 qX8 qX9 qX10 qX11 qX12 qX13 qO0 qO1 qO2 qO3 qO4 qO5 qO6 qO7 qO8 qO9 qO10 qO11 qO12 qO13
    clear rX5 rO
    go_wp2_with fail
    have hne : ∀ g' o m c, (Value.slice (some ⟨g, 0, none⟩) b.tides.length cv) = .slice (some ⟨g', o, none⟩) m c → g' ≠ w.heap.size + 1 := fun g' o m c e => by
      injection e with e
      injection e with e
      injection e with e
      omega
    refine bodyPost_ret (v := vBk (.slice (some ⟨g, 0, none⟩) b.tides.length cv) (.slice A1 b.sounds.length k1) b) (by simp [results, Try.results32, go_sem, qO0, qO1, qO2, qO3, qO4, qO5, qO6, qO7, qO8, qO9, qO10, qO11, qO12, qO13]) rfl ⟨⟨_, rfl, ?_⟩, ?_⟩
    · refine Sl.more (HSL.out.same (fun g' o m c e => ?_)) (by simp [World.setCell])
      have h1 := hne g' o m c e
      exact (Below.heap_setCell _ _ _ _ h1).trans ((Below.heap_setCell _ _ _ _ h1).trans ((Below.heap_setCell _ _ _ _ h1).trans ((Below.heap_setCell _ _ _ _ h1).trans ((Below.heap_setCell _ _ _ _ h1).trans ((Below.heap_setCell _ _ _ _ h1).trans ((Below.heap_setCell _ _ _ _ h1).trans ((Below.heap_setCell _ _ _ _ h1).trans ((Below.heap_setCell _ _ _ _ h1).trans ((Below.heap_setCell _ _ _ _ h1).trans ((Below.heap_setCell _ _ _ _ h1).trans ((Below.heap_setCell _ _ _ _ h1).trans ((Below.heap_setCell _ _ _ _ h1).trans (Below.heap_setCell _ _ _ _ h1)))))))))))))
    · refine Below.setCell (Below.setCell (Below.setCell (Below.setCell (Below.setCell (Below.setCell (Below.setCell (Below.setCell (Below.setCell (Below.setCell (Below.setCell (Below.setCell (Below.setCell (Below.setCell HBW.out ?_ _) ?_ _) ?_ _) ?_ _) ?_ _) ?_ _) ?_ _) ?_ _) ?_ _) ?_ _) ?_ _) ?_ _) ?_ _) ?_ _
      all_goals (simp)

end Go.Proofs.Ytjgpghaofhcfnaa
