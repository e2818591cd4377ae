/- Texts on the program that the proof leans on, part 16. -/
import Derived.Test.YtjgpghaofhcfnaaYan
import Derived.Test.YtjgpghaofhcfnaaYao
set_option linter.unusedVariables false
set_option linter.unusedSimpArgs false

namespace Go.Proofs.Ytjgpghaofhcfnaa
open Go.RowKit
def cTr (t : Ld.Tr) : List Value := [I t.f0, I t.f1]
theorem window_lo (b : Ld.Bk) (t : Ld.Tr) (T D R : Value) (r : Nat) (k : Ld.Sp × Ld.Sp) (hour load : Int) (sh : Nat) (hs : sh = 0 ∨ sh = 1) (w : World) (hT : ∃ A n c, T = .slice A n c) (hD : ∃ A n c, D = .slice A n c) (hR : ∃ A n c, R = .slice A n c) (hv : Ld.valid b = true) (ht : TrOk t) (h0 : 0 ≤ load) (h1 : load ≤ 200) :
 Calls Try.prog 106 #[vLg T D (.map (some r)) R b k, vTr t, .agg #[I hour, I sh, I load], vLow] w fun e w' => e = .returned (vSp (Ld.window b t sh load b.empty.lo)) ∧ Below w.heap.size w w' := by
 rcases hs with rfl | rfl
 · exact window0lo_any b t T D R r k hour load w hT hD hR hv ht h0 h1
 · exact window1lo_any b t T D R r k hour load w hT hD hR hv ht h0 h1
theorem window_hi (b : Ld.Bk) (t : Ld.Tr) (T D R : Value) (r : Nat) (k : Ld.Sp × Ld.Sp) (hour load : Int) (sh : Nat) (hs : sh = 0 ∨ sh = 1) (w : World) (hT : ∃ A n c, T = .slice A n c) (hD : ∃ A n c, D = .slice A n c) (hR : ∃ A n c, R = .slice A n c) (hv : Ld.valid b = true) (ht : TrOk t) (h0 : 0 ≤ load) (h1 : load ≤ 200) :
 Calls Try.prog 106 #[vLg T D (.map (some r)) R b k, vTr t, .agg #[I hour, I sh, I load], vHigh] w fun e w' => e = .returned (vSp (Ld.window b t sh load b.empty.hi)) ∧ Below w.heap.size w w' := by
 rcases hs with rfl | rfl
 · exact window0hi_any b t T D R r k hour load w hT hD hR hv ht h0 h1
 · exact window1hi_any b t T D R r k hour load w hT hD hR hv ht h0 h1
theorem truths_ok {b : Ld.Bk} (hv : Ld.valid b = true) : ∀ t ∈ Ld.truths b, TrOk t := by
 intro t ht
 obtain ⟨-, -, h3, -, -⟩ := Ld.valid_parts hv
 have f0 := Ld.floor_bd h3 0
 have f1 := Ld.floor_bd h3 1
 rw [show Ld.shore b 0 = b.s0 from rfl] at f0
 rw [show Ld.shore b 1 = b.s1 from rfl] at f1
 have hd := (List.mem_filter.1 ht).1
 obtain ⟨x, hx, hy⟩ := List.mem_flatMap.1 hd
 obtain ⟨y, hyy, rfl⟩ := List.mem_map.1 hy
 have h4 := Ld.mem_nums.1 hx
 have h5 := Ld.mem_nums.1 hyy
 exact ⟨by show -1000 ≤ x; omega, by show x ≤ 1000; omega, by show -1000 ≤ y; omega, by show y ≤ 1000; omega⟩
structure LT (b : Ld.Bk) (T D R : Value) (r : Nat) (w : World) : Prop where
 led : Led b T D r w
 tr : Sl w w.heap.size 2 R (Ld.truths b).length ((Ld.truths b).flatMap cTr)
theorem LT.up {b : Ld.Bk} {T D R : Value} {r : Nat} {w w' : World} (h : LT b T D R r w) (hb : Below w.heap.size w w') : LT b T D R r w' := ⟨h.led.up hb, (h.tr.below hb (Nat.le_refl _)).more hb.size⟩
theorem Sl.tr {w : World} {B : Nat} {l : List Ld.Tr} {R : Value} (h : Sl w B 2 R l.length (l.flatMap cTr)) {j : Nat} (hj : j < l.length) :
 ∃ bl off c, R = .slice (some ⟨bl, off, none⟩) l.length c ∧ bl < B ∧ w.cell? ⟨bl, off + j * 2, none⟩ = some (I l[j].f0) ∧ w.cell? ⟨bl, off + j * 2 + 1, none⟩ = some (I l[j].f1) := by
 obtain ⟨bl, off, c, hv, hb, h0, h1⟩ := h.at2 hj
 refine ⟨bl, off, c, hv, hb, h0.trans ?_, h1.trans ?_⟩
 · have := flatN 2 cTr (fun _ => rfl) l j 0 hj (by omega); simpa [cTr] using this
 · have := flatN 2 cTr (fun _ => rfl) l j 1 hj (by omega); simpa [cTr] using this
set_option maxRecDepth 100000 in
set_option maxHeartbeats 8000000 in
theorem worst_any (b : Ld.Bk) (T D R : Value) (r : Nat) (k : Ld.Sp × Ld.Sp) (n sh : Nat) (load : Int) (w : World) (hlt : LT b T D R r w) (hv : Ld.valid b = true) (hn : n < b.tides.length) (hs : sh = 0 ∨ sh = 1) (h0 : 0 ≤ load) (h1 : load ≤ 200) (hm : (Ld.truths b).length ≤ 100000) :
 Calls Try.prog 94 #[vLg T D (.map (some r)) R b k, .agg #[I n, I sh, I load]] w fun e w' => e = .returned (.bool (Ld.atWorst b sh n load)) ∧ Below w.heap.size w w' := by
 obtain ⟨A0, c0, rfl⟩ := hlt.led.rb.tides.form
 obtain ⟨A1, c1, rfl⟩ := hlt.led.rb.sounds.form
 obtain ⟨A2, c2, rfl⟩ := hlt.tr.form
 have hok := truths_ok hv
 obtain ⟨hp1, hp2, -, -, -⟩ := Ld.valid_parts hv
 have h24 := (Ld.sized_bd hp1).2.1
 have HLT := Lib.hid hlt
 have HOK := Lib.hid hok
 have HP2 := Lib.hid hp2
 have hsI : (sh : Int) = 0 ∨ (sh : Int) = 1 := by omega
 clear hlt hok hp1 hp2
 go_enter Try.func94, Try.ntmps94
 go_wp2_with fail
 refine name_world ?_
 intro W0 hW0
 have hb0 : Below w.heap.size w W0 := by rw [hW0]; exact ((Below.refl _ _).alloc (Nat.le_refl _) _).alloc (by simp) _
 have e0 : W0.heap[w.heap.size]? = some (oLg (.slice A0 b.tides.length c0) (.slice A1 b.sounds.length c1) (.map (some r)) (.slice A2 (Ld.truths b).length c2) b k) := by rw [hW0]; exact (Below.heap_alloc _ _ _ (by simp)).trans (heap_at _ _ rfl)
 have e1 : W0.heap[w.heap.size + 1]? = some (.cells #[I n, I sh, I load] 100 (0, 0)) := by rw [hW0]; exact heap_at _ _ (by simp)
 have l15 := cell_of_row W0 _ 15 _ _ _ e0
 simp only [List.getElem?_toArray, List.getElem?_cons_zero, List.getElem?_cons_succ] at l15
 have HB0 := Lib.hid hb0
 have E0 := Lib.hid e0
 have E1 := Lib.hid e1
 clear hW0 hb0 e0 e1
 go_wp2_with fail
 go_loopw [10] (fun i wr => ∃ j : Nat, j ≤ (Ld.truths b).length ∧ i = I j ∧ Below W0.heap.size W0 wr ∧ ((Ld.truths b).take j).all (fun t => Ld.inside (Ld.water b t n) (Ld.window b t sh load b.empty.hi)) = true) (fun i _ => (Ld.truths b).length - (intOf i).toNat)
 case atStart => exact ⟨0, Nat.zero_le _, rfl, Below.refl _ _, by simp⟩
 case round =>
  obtain ⟨j, hj, rfl, hB, hall⟩ := hrel
  clear l15
  have hbw : Below w.heap.size w wr := HB0.out.trans (hB.mono HB0.out.size)
  have HLW := Lib.hid (HLT.out.up hbw)
  have HBW := Lib.hid hbw
  have HB := Lib.hid hB
  have HALL := Lib.hid hall
  have HR0 := Lib.hid ((hB.block _ (heap_lt E0.out)).trans E0.out)
  have HR1 := Lib.hid ((hB.block _ (heap_lt E1.out)).trans E1.out)
  have hzr := hB.size
  clear hbw hB hall
  by_cases hlt : j < (Ld.truths b).length
  · obtain ⟨bl, off, c', hvv, hbl, q0, q1⟩ := Sl.tr HLW.out.tr hlt
    injection hvv with hA _ hc
    subst hA hc
    have htx : (Ld.truths b)[j]? = some (Ld.truths b)[j] := List.getElem?_eq_getElem hlt
    have htk := HOK.out _ (List.getElem_mem hlt)
    generalize (Ld.truths b)[j] = t at q0 q1 htx htk
    have HTX := Lib.hid htx
    have HTO := Lib.hid htk
    have hji : (j : Int) < (Ld.truths b).length := by omega
    clear htx htk
    go_wp2_with fail
    refine name_world ?_
    intro W hW
    have hBW : Below wr.heap.size wr W := by rw [hW]; exact (Below.refl _ _).alloc (Nat.le_refl _) _
    have rT : W.heap[wr.heap.size]? = some (oTr t) := by rw [hW]; exact heap_at _ _ rfl
    have rL := (hBW.block _ (heap_lt HR0.out)).trans HR0.out
    have rA := (hBW.block _ (heap_lt HR1.out)).trans HR1.out
    have z0 := heap_lt rT
    have z1 := heap_lt rL
    have z2 := heap_lt rA
    have t0 := cell_of_row W _ 0 _ _ _ rT
    have t1 := cell_of_row W _ 1 _ _ _ rT
    have a0 := cell_of_row W _ 0 _ _ _ rA
    have a1 := cell_of_row W _ 1 _ _ _ rA
    have a2 := cell_of_row W _ 2 _ _ _ rA
    simp only [List.getElem?_toArray, List.getElem?_cons_zero, List.getElem?_cons_succ] at t0 t1 a0 a1 a2
    have RL := Lib.hid rL
    have HBWW := Lib.hid hBW
    have HWA : Hid (∀ w', Held W w' → Calls Try.prog 76 #[vLg (.slice A0 b.tides.length c0) (.slice A1 b.sounds.length c1) (.map (some r)) (.slice (some ⟨bl, off, none⟩) (Ld.truths b).length c2) b k, vTr t, I n] w' fun e w'' => e = .returned (vSp (Ld.water b t n)) ∧ Below w'.heap.size w' w'') := by
     refine Lib.hid fun w' h => ?_
     have hL := (HLW.out.up hBW).up h.2.2
     obtain ⟨B, hsm⟩ := hL.led.sm
     exact water_any b t n _ _ _ _ B r k w' hL.led.rb hsm ⟨_, _, rfl⟩ HP2.out hn (by omega) HTO.out.1 HTO.out.2.1 HTO.out.2.2.1 HTO.out.2.2.2
    clear hW hBW rT rL rA q0 q1 hbl
    obtain ⟨VV, hVV⟩ : ∃ v, (Ld.inside (Ld.water b t n) (Ld.window b t sh load b.empty.hi)) = v := ⟨_, rfl⟩
    have HVV := Lib.hid hVV
    refine name_act ?_
    intro A9 hA
    obtain ⟨Q, hQ⟩ : ∃ Q : Act → World → Prop, Q = fun a' w' => (∃ u14 u15 u16 u17 u18 u19 u20 u21 u22 u23 u24 u25, a' = (((((((((((((A9.put (some 14) u14).put (some 15) u15).put (some 16) u16).put (some 17) u17).put (some 18) u18).put (some 19) u19).put (some 20) u20).put (some 21) u21).put (some 22) u22).put (some 23) u23).put (some 24) u24).put (some 25) u25).put (some 26) (.bool (!VV)))) ∧ Held W w' := ⟨_, rfl⟩
    have HQ := Lib.hid hQ
    clear hQ
    refine wp_between Q ?first ?rest
    case first =>
     subst hA
     clear hVV
     have hK0 : Held W W.drew := held_start W
     refine wp_region_held_drew (S := fun w' => Held W w') (by kernel_rfl) hK0 (fun _ => ?_)
     refine wpAnyH_take (i := 0) (oi := { dst := some 14, op := Op.load 86 (Operand.tmp 2), type := 86, pos := "known.go:41", after := #[], guard := none }) (v := (vLg (.slice A0 b.tides.length c0) (.slice A1 b.sounds.length c1) (.map (some r)) (.slice (some ⟨bl, off, none⟩) (Ld.truths b).length c2) b k)) rfl (by kernel_rfl) (by kernel_rfl) (by kernel_rfl) (fun _ _ _ h => h) (Or.inl ⟨by rfl, ?hy1⟩) hK0 ?r1
     case hy1 =>
      intro w' hSw
      exact exec_load_row (by rfl) (by rfl) ((hSw.2.2.block _ (heap_lt RL.out)).trans RL.out) Try.underlying86 rfl infoLg
     try simp only [putL]
     refine wpAnyH_take (i := 1) (oi := { dst := some 15, op := Op.load 112 (Operand.tmp 6), type := 112, pos := "known.go:41", after := #[], guard := none }) (v := ?v2) rfl (by kernel_rfl) (by kernel_rfl) (by kernel_rfl) (fun _ _ _ h => h) (Or.inl ⟨by rfl, ?hy2⟩) hK0 ?r2
     case hy2 =>
      intro w' hSw
      have hq := hSw.1
      clear hSw
      go_simp
      with_reducible rfl
     try simp only [putL]
     refine wpAnyH_take (i := 2) (oi := { dst := some 16, op := Op.fieldAddr 100 (Operand.tmp 3) 0, type := 0, pos := "known.go:41", after := #[], guard := none }) (v := ?v3) rfl (by kernel_rfl) (by kernel_rfl) (by kernel_rfl) (fun _ _ _ h => h) (Or.inl ⟨by rfl, ?hy3⟩) hK0 ?r3
     case hy3 =>
      intro w' hSw
      have hq := hSw.1
      clear hSw
      go_simp
      with_reducible rfl
     try simp only [putL]
     refine wpAnyH_take (i := 3) (oi := { dst := some 17, op := Op.fieldAddr 96 (Operand.tmp 16) 0, type := 0, pos := "known.go:41", after := #[{ on := 2, ground := Ground.data }], guard := none }) (v := ?v4) rfl (by kernel_rfl) (by kernel_rfl) (by kernel_rfl) (fun _ _ _ h => h) (Or.inl ⟨by rfl, ?hy4⟩) hK0 ?r4
     case hy4 =>
      intro w' hSw
      have hq := hSw.1
      clear hSw
      go_simp
      with_reducible rfl
     try simp only [putL]
     refine wpAnyH_take (i := 4) (oi := { dst := some 18, op := Op.load 3 (Operand.tmp 17), type := 3, pos := "known.go:41", after := #[{ on := 3, ground := Ground.data }], guard := none }) (v := ?v5) rfl (by kernel_rfl) (by kernel_rfl) (by kernel_rfl) (fun _ _ _ h => h) (Or.inl ⟨by rfl, ?hy5⟩) hK0 ?r5
     case hy5 =>
      intro w' hSw
      have hq := hSw.1
      clear hSw
      go_simp
      with_reducible rfl
     try simp only [putL]
     refine wpAnyH_take (i := 6) (oi := { dst := some 20, op := Op.load 86 (Operand.tmp 2), type := 86, pos := "known.go:41", after := #[], guard := none }) (v := (vLg (.slice A0 b.tides.length c0) (.slice A1 b.sounds.length c1) (.map (some r)) (.slice (some ⟨bl, off, none⟩) (Ld.truths b).length c2) b k)) rfl (by kernel_rfl) (by kernel_rfl) (by kernel_rfl) (fun _ _ _ h => h) (Or.inl ⟨by rfl, ?hy6⟩) hK0 ?r6
     case hy6 =>
      intro w' hSw
      exact exec_load_row (by rfl) (by rfl) ((hSw.2.2.block _ (heap_lt RL.out)).trans RL.out) Try.underlying86 rfl infoLg
     try simp only [putL]
     refine wpAnyH_take (i := 7) (oi := { dst := some 21, op := Op.load 112 (Operand.tmp 6), type := 112, pos := "known.go:41", after := #[], guard := none }) (v := ?v7) rfl (by kernel_rfl) (by kernel_rfl) (by kernel_rfl) (fun _ _ _ h => h) (Or.inl ⟨by rfl, ?hy7⟩) hK0 ?r7
     case hy7 =>
      intro w' hSw
      have hq := hSw.1
      clear hSw
      go_simp
      with_reducible rfl
     try simp only [putL]
     refine wpAnyH_take (i := 8) (oi := { dst := some 22, op := Op.load 100 (Operand.tmp 3), type := 100, pos := "known.go:41", after := #[], guard := none }) (v := ?v8) rfl (by kernel_rfl) (by kernel_rfl) (by kernel_rfl) (fun _ _ _ h => h) (Or.inl ⟨by rfl, ?hy8⟩) hK0 ?r8
     case hy8 =>
      intro w' hSw
      have hq := hSw.1
      clear hSw
      go_simp
      with_reducible rfl
     try simp only [putL]
     refine wpAnyH_ready (rs := [5]) (by kernel_rfl) (by simp) ?_
     refine AllReadyH.cons rfl (fun K hK => ?_) AllReadyH.nil
     go_simp
     refine (HWA.out _ hK0).mono ?_
     rintro e w9 ⟨rfl, hBw9⟩
     have hSw9 := held_step hBw9 hK0
     refine hK.out _ _ hSw9 (fun _ => ?_)
     clear hK K
     try simp only [putL]
     refine wpAnyH_ready (rs := [9]) (by kernel_rfl) (by simp) ?_
     refine AllReadyH.cons rfl (fun K hK => ?_) AllReadyH.nil
     go_simp
     refine (high_any _).mono ?_
     rintro e w10 ⟨rfl, hBw10⟩
     have hSw10 := held_step hBw10 hSw9
     refine hK.out _ _ hSw10 (fun _ => ?_)
     clear hK K
     try simp only [putL]
     refine wpAnyH_ready (rs := [10]) (by kernel_rfl) (by simp) ?_
     refine AllReadyH.cons rfl (fun K hK => ?_) AllReadyH.nil
     go_simp
     refine (window_hi b t _ _ _ r k n load sh hs _ ⟨_, _, _, rfl⟩ ⟨_, _, _, rfl⟩ ⟨_, _, _, rfl⟩ hv HTO.out h0 h1).mono ?_
     rintro e w11 ⟨rfl, hBw11⟩
     have hSw11 := held_step hBw11 hSw10
     refine hK.out _ _ hSw11 (fun _ => ?_)
     clear hK K
     try simp only [putL]
     refine wpAnyH_ready (rs := [11]) (by kernel_rfl) (by simp) ?_
     refine AllReadyH.cons rfl (fun K hK => ?_) AllReadyH.nil
     go_simp
     refine (inside_any _ _ _).mono ?_
     rintro e w12 ⟨rfl, hBw12⟩
     have hSw12 := held_step hBw12 hSw11
     refine hK.out _ _ hSw12 (fun _ => ?_)
     clear hK K
     try simp only [putL]
     refine wpAnyH_take (i := 12) (oi := { dst := some 26, op := Op.unOp UnOp.not 4 (Operand.tmp 25), type := 4, pos := "known.go:41", after := #[{ on := 11, ground := Ground.data }], guard := none }) (v := ?v13) rfl (by kernel_rfl) (by kernel_rfl) (by kernel_rfl) (fun _ _ _ h => h) (Or.inl ⟨by rfl, ?hy13⟩) hSw12 ?r13
     case hy13 =>
      intro w' hSw
      have hq := hSw.1
      clear hSw
      go_simp
      with_reducible rfl
     try simp only [putL]
     refine wpAnyH_done (by kernel_rfl) ?_ _
     show Q _ _
     rw [HQ.out]
     simp only [putL]
     exact ⟨⟨_, _, _, _, _, _, _, _, _, _, _, _, by rw [HVV.out]⟩, hSw12⟩
    case rest =>
     intro a' w3 hra
     rw [HQ.out] at hra
     clear HQ
     obtain ⟨⟨u14, u15, u16, u17, u18, u19, u20, u21, u22, u23, u24, u25, rfl⟩, hh3⟩ := hra
     subst hA
     try simp only [putL]
     have hb3 : Below wr.heap.size wr w3 := HBWW.out.trans (hh3.2.2.mono HBWW.out.size)
     have HB3 := Lib.hid hb3
     clear hh3 hb3 z0 z1 z2 t0 t1 a0 a1 a2
     cases hc : VV
     · have HC := Lib.hid (hVV.trans hc)
       clear hc hVV
       go_wp2_with fail
       go_ret
       refine ⟨ret_b (Eq.symm ?_), HBW.out.trans (HB3.out.mono HBW.out.size)⟩
       unfold Ld.atWorst
       rw [List.all_eq_false]
       exact ⟨t, List.mem_of_getElem? HTX.out, by simp [HC.out]⟩
     · have HC := Lib.hid (hVV.trans hc)
       clear hc hVV
       go_wp2_with fail
       go_roundw
       case rel =>
        refine ⟨j + 1, hlt, by go_num, HB.out.trans (HB3.out.mono hzr), ?_⟩
        rw [List.take_add_one, HTX.out, List.all_append, HALL.out]
        simp [HC.out]
       case measure => simp [intOf]; omega
  · obtain rfl : j = (Ld.truths b).length := by omega
    go_wp2_with fail
    go_ret
    exact ⟨ret_b (by unfold Ld.atWorst; rw [← HALL.out, List.take_length]), HBW.out⟩
end Go.Proofs.Ytjgpghaofhcfnaa
namespace Go.Proofs.Ytjgpghaofhcfnaa
open Go.RowKit
set_option maxRecDepth 100000 in
set_option maxHeartbeats 8000000 in
theorem best_any (b : Ld.Bk) (T D R : Value) (r : Nat) (k : Ld.Sp × Ld.Sp) (n sh : Nat) (load : Int) (w : World) (hlt : LT b T D R r w) (hv : Ld.valid b = true) (hn : n < b.tides.length) (hs : sh = 0 ∨ sh = 1) (h0 : 0 ≤ load) (h1 : load ≤ 200) (hm : (Ld.truths b).length ≤ 100000) :
 Calls Try.prog 95 #[vLg T D (.map (some r)) R b k, .agg #[I n, I sh, I load]] w fun e w' => e = .returned (.bool (Ld.atBest b sh n load)) ∧ Below w.heap.size w w' := by
 obtain ⟨A0, c0, rfl⟩ := hlt.led.rb.tides.form
 obtain ⟨A1, c1, rfl⟩ := hlt.led.rb.sounds.form
 obtain ⟨A2, c2, rfl⟩ := hlt.tr.form
 have hok := truths_ok hv
 obtain ⟨hp1, hp2, -, -, -⟩ := Ld.valid_parts hv
 have h24 := (Ld.sized_bd hp1).2.1
 have HLT := Lib.hid hlt
 have HOK := Lib.hid hok
 have HP2 := Lib.hid hp2
 have hsI : (sh : Int) = 0 ∨ (sh : Int) = 1 := by omega
 clear hlt hok hp1 hp2
 go_enter Try.func95, Try.ntmps95
 go_wp2_with fail
 refine name_world ?_
 intro W0 hW0
 have hb0 : Below w.heap.size w W0 := by rw [hW0]; exact ((Below.refl _ _).alloc (Nat.le_refl _) _).alloc (by simp) _
 have e0 : W0.heap[w.heap.size]? = some (oLg (.slice A0 b.tides.length c0) (.slice A1 b.sounds.length c1) (.map (some r)) (.slice A2 (Ld.truths b).length c2) b k) := by rw [hW0]; exact (Below.heap_alloc _ _ _ (by simp)).trans (heap_at _ _ rfl)
 have e1 : W0.heap[w.heap.size + 1]? = some (.cells #[I n, I sh, I load] 100 (0, 0)) := by rw [hW0]; exact heap_at _ _ (by simp)
 have l15 := cell_of_row W0 _ 15 _ _ _ e0
 simp only [List.getElem?_toArray, List.getElem?_cons_zero, List.getElem?_cons_succ] at l15
 have HB0 := Lib.hid hb0
 have E0 := Lib.hid e0
 have E1 := Lib.hid e1
 clear hW0 hb0 e0 e1
 go_wp2_with fail
 go_loopw [10] (fun i wr => ∃ j : Nat, j ≤ (Ld.truths b).length ∧ i = I j ∧ Below W0.heap.size W0 wr ∧ ((Ld.truths b).take j).any (fun t => !Ld.isEmpty (Ld.meet (Ld.water b t n) (Ld.window b t sh load b.empty.lo))) = false) (fun i _ => (Ld.truths b).length - (intOf i).toNat)
 case atStart => exact ⟨0, Nat.zero_le _, rfl, Below.refl _ _, by simp⟩
 case round =>
  obtain ⟨j, hj, rfl, hB, hall⟩ := hrel
  clear l15
  have hbw : Below w.heap.size w wr := HB0.out.trans (hB.mono HB0.out.size)
  have HLW := Lib.hid (HLT.out.up hbw)
  have HBW := Lib.hid hbw
  have HB := Lib.hid hB
  have HALL := Lib.hid hall
  have HR0 := Lib.hid ((hB.block _ (heap_lt E0.out)).trans E0.out)
  have HR1 := Lib.hid ((hB.block _ (heap_lt E1.out)).trans E1.out)
  have hzr := hB.size
  clear hbw hB hall
  by_cases hlt : j < (Ld.truths b).length
  · obtain ⟨bl, off, c', hvv, hbl, q0, q1⟩ := Sl.tr HLW.out.tr hlt
    injection hvv with hA _ hc
    subst hA hc
    have htx : (Ld.truths b)[j]? = some (Ld.truths b)[j] := List.getElem?_eq_getElem hlt
    have htk := HOK.out _ (List.getElem_mem hlt)
    generalize (Ld.truths b)[j] = t at q0 q1 htx htk
    have HTX := Lib.hid htx
    have HTO := Lib.hid htk
    have hji : (j : Int) < (Ld.truths b).length := by omega
    clear htx htk
    go_wp2_with fail
    refine name_world ?_
    intro W hW
    have hBW : Below wr.heap.size wr W := by rw [hW]; exact (Below.refl _ _).alloc (Nat.le_refl _) _
    have rT : W.heap[wr.heap.size]? = some (oTr t) := by rw [hW]; exact heap_at _ _ rfl
    have rL := (hBW.block _ (heap_lt HR0.out)).trans HR0.out
    have rA := (hBW.block _ (heap_lt HR1.out)).trans HR1.out
    have z0 := heap_lt rT
    have z1 := heap_lt rL
    have z2 := heap_lt rA
    have t0 := cell_of_row W _ 0 _ _ _ rT
    have t1 := cell_of_row W _ 1 _ _ _ rT
    have a0 := cell_of_row W _ 0 _ _ _ rA
    have a1 := cell_of_row W _ 1 _ _ _ rA
    have a2 := cell_of_row W _ 2 _ _ _ rA
    simp only [List.getElem?_toArray, List.getElem?_cons_zero, List.getElem?_cons_succ] at t0 t1 a0 a1 a2
    have RL := Lib.hid rL
    have HBWW := Lib.hid hBW
    have HWA : Hid (∀ w', Held W w' → Calls Try.prog 76 #[vLg (.slice A0 b.tides.length c0) (.slice A1 b.sounds.length c1) (.map (some r)) (.slice (some ⟨bl, off, none⟩) (Ld.truths b).length c2) b k, vTr t, I n] w' fun e w'' => e = .returned (vSp (Ld.water b t n)) ∧ Below w'.heap.size w' w'') := by
     refine Lib.hid fun w' h => ?_
     have hL := (HLW.out.up hBW).up h.2.2
     obtain ⟨B, hsm⟩ := hL.led.sm
     exact water_any b t n _ _ _ _ B r k w' hL.led.rb hsm ⟨_, _, rfl⟩ HP2.out hn (by omega) HTO.out.1 HTO.out.2.1 HTO.out.2.2.1 HTO.out.2.2.2
    clear hW hBW rT rL rA q0 q1 hbl
    obtain ⟨VV, hVV⟩ : ∃ v, (Ld.isEmpty (Ld.meet (Ld.water b t n) (Ld.window b t sh load b.empty.lo))) = v := ⟨_, rfl⟩
    have HVV := Lib.hid hVV
    refine name_act ?_
    intro A9 hA
    obtain ⟨Q, hQ⟩ : ∃ Q : Act → World → Prop, Q = fun a' w' => (∃ u14 u15 u16 u17 u18 u19 u20 u21 u22 u23 u24 u25 u26, a' = ((((((((((((((A9.put (some 14) u14).put (some 15) u15).put (some 16) u16).put (some 17) u17).put (some 18) u18).put (some 19) u19).put (some 20) u20).put (some 21) u21).put (some 22) u22).put (some 23) u23).put (some 24) u24).put (some 25) u25).put (some 26) u26).put (some 27) (.bool (!VV)))) ∧ Held W w' := ⟨_, rfl⟩
    have HQ := Lib.hid hQ
    clear hQ
    refine wp_between Q ?first ?rest
    case first =>
     subst hA
     clear hVV
     have hK0 : Held W W.drew := held_start W
     refine wp_region_held_drew (S := fun w' => Held W w') (by kernel_rfl) hK0 (fun _ => ?_)
     refine wpAnyH_take (i := 0) (oi := { dst := some 14, op := Op.load 86 (Operand.tmp 2), type := 86, pos := "known.go:50", after := #[], guard := none }) (v := (vLg (.slice A0 b.tides.length c0) (.slice A1 b.sounds.length c1) (.map (some r)) (.slice (some ⟨bl, off, none⟩) (Ld.truths b).length c2) b k)) rfl (by kernel_rfl) (by kernel_rfl) (by kernel_rfl) (fun _ _ _ h => h) (Or.inl ⟨by rfl, ?hy1⟩) hK0 ?r1
     case hy1 =>
      intro w' hSw
      exact exec_load_row (by rfl) (by rfl) ((hSw.2.2.block _ (heap_lt RL.out)).trans RL.out) Try.underlying86 rfl infoLg
     try simp only [putL]
     refine wpAnyH_take (i := 1) (oi := { dst := some 15, op := Op.load 112 (Operand.tmp 6), type := 112, pos := "known.go:50", after := #[], guard := none }) (v := ?v2) rfl (by kernel_rfl) (by kernel_rfl) (by kernel_rfl) (fun _ _ _ h => h) (Or.inl ⟨by rfl, ?hy2⟩) hK0 ?r2
     case hy2 =>
      intro w' hSw
      have hq := hSw.1
      clear hSw
      go_simp
      with_reducible rfl
     try simp only [putL]
     refine wpAnyH_take (i := 2) (oi := { dst := some 16, op := Op.fieldAddr 100 (Operand.tmp 3) 0, type := 0, pos := "known.go:50", after := #[], guard := none }) (v := ?v3) rfl (by kernel_rfl) (by kernel_rfl) (by kernel_rfl) (fun _ _ _ h => h) (Or.inl ⟨by rfl, ?hy3⟩) hK0 ?r3
     case hy3 =>
      intro w' hSw
      have hq := hSw.1
      clear hSw
      go_simp
      with_reducible rfl
     try simp only [putL]
     refine wpAnyH_take (i := 3) (oi := { dst := some 17, op := Op.fieldAddr 96 (Operand.tmp 16) 0, type := 0, pos := "known.go:50", after := #[{ on := 2, ground := Ground.data }], guard := none }) (v := ?v4) rfl (by kernel_rfl) (by kernel_rfl) (by kernel_rfl) (fun _ _ _ h => h) (Or.inl ⟨by rfl, ?hy4⟩) hK0 ?r4
     case hy4 =>
      intro w' hSw
      have hq := hSw.1
      clear hSw
      go_simp
      with_reducible rfl
     try simp only [putL]
     refine wpAnyH_take (i := 4) (oi := { dst := some 18, op := Op.load 3 (Operand.tmp 17), type := 3, pos := "known.go:50", after := #[{ on := 3, ground := Ground.data }], guard := none }) (v := ?v5) rfl (by kernel_rfl) (by kernel_rfl) (by kernel_rfl) (fun _ _ _ h => h) (Or.inl ⟨by rfl, ?hy5⟩) hK0 ?r5
     case hy5 =>
      intro w' hSw
      have hq := hSw.1
      clear hSw
      go_simp
      with_reducible rfl
     try simp only [putL]
     refine wpAnyH_take (i := 6) (oi := { dst := some 20, op := Op.load 86 (Operand.tmp 2), type := 86, pos := "known.go:50", after := #[], guard := none }) (v := (vLg (.slice A0 b.tides.length c0) (.slice A1 b.sounds.length c1) (.map (some r)) (.slice (some ⟨bl, off, none⟩) (Ld.truths b).length c2) b k)) rfl (by kernel_rfl) (by kernel_rfl) (by kernel_rfl) (fun _ _ _ h => h) (Or.inl ⟨by rfl, ?hy6⟩) hK0 ?r6
     case hy6 =>
      intro w' hSw
      exact exec_load_row (by rfl) (by rfl) ((hSw.2.2.block _ (heap_lt RL.out)).trans RL.out) Try.underlying86 rfl infoLg
     try simp only [putL]
     refine wpAnyH_take (i := 7) (oi := { dst := some 21, op := Op.load 112 (Operand.tmp 6), type := 112, pos := "known.go:50", after := #[], guard := none }) (v := ?v7) rfl (by kernel_rfl) (by kernel_rfl) (by kernel_rfl) (fun _ _ _ h => h) (Or.inl ⟨by rfl, ?hy7⟩) hK0 ?r7
     case hy7 =>
      intro w' hSw
      have hq := hSw.1
      clear hSw
      go_simp
      with_reducible rfl
     try simp only [putL]
     refine wpAnyH_take (i := 8) (oi := { dst := some 22, op := Op.load 100 (Operand.tmp 3), type := 100, pos := "known.go:50", after := #[], guard := none }) (v := ?v8) rfl (by kernel_rfl) (by kernel_rfl) (by kernel_rfl) (fun _ _ _ h => h) (Or.inl ⟨by rfl, ?hy8⟩) hK0 ?r8
     case hy8 =>
      intro w' hSw
      have hq := hSw.1
      clear hSw
      go_simp
      with_reducible rfl
     try simp only [putL]
     refine wpAnyH_ready (rs := [5]) (by kernel_rfl) (by simp) ?_
     refine AllReadyH.cons rfl (fun K hK => ?_) AllReadyH.nil
     go_simp
     refine (HWA.out _ hK0).mono ?_
     rintro e w9 ⟨rfl, hBw9⟩
     have hSw9 := held_step hBw9 hK0
     refine hK.out _ _ hSw9 (fun _ => ?_)
     clear hK K
     try simp only [putL]
     refine wpAnyH_ready (rs := [9]) (by kernel_rfl) (by simp) ?_
     refine AllReadyH.cons rfl (fun K hK => ?_) AllReadyH.nil
     go_simp
     refine (low_any _).mono ?_
     rintro e w10 ⟨rfl, hBw10⟩
     have hSw10 := held_step hBw10 hSw9
     refine hK.out _ _ hSw10 (fun _ => ?_)
     clear hK K
     try simp only [putL]
     refine wpAnyH_ready (rs := [10]) (by kernel_rfl) (by simp) ?_
     refine AllReadyH.cons rfl (fun K hK => ?_) AllReadyH.nil
     go_simp
     refine (window_lo b t _ _ _ r k n load sh hs _ ⟨_, _, _, rfl⟩ ⟨_, _, _, rfl⟩ ⟨_, _, _, rfl⟩ hv HTO.out h0 h1).mono ?_
     rintro e w11 ⟨rfl, hBw11⟩
     have hSw11 := held_step hBw11 hSw10
     refine hK.out _ _ hSw11 (fun _ => ?_)
     clear hK K
     try simp only [putL]
     refine wpAnyH_ready (rs := [11]) (by kernel_rfl) (by simp) ?_
     refine AllReadyH.cons rfl (fun K hK => ?_) AllReadyH.nil
     go_simp
     refine (meet_any _ _ _).mono ?_
     rintro e w12 ⟨rfl, hBw12⟩
     have hSw12 := held_step hBw12 hSw11
     refine hK.out _ _ hSw12 (fun _ => ?_)
     clear hK K
     try simp only [putL]
     refine wpAnyH_ready (rs := [12]) (by kernel_rfl) (by simp) ?_
     refine AllReadyH.cons rfl (fun K hK => ?_) AllReadyH.nil
     go_simp
     refine (isEmpty_any _ _).mono ?_
     rintro e w13 ⟨rfl, hBw13⟩
     have hSw13 := held_step hBw13 hSw12
     refine hK.out _ _ hSw13 (fun _ => ?_)
     clear hK K
     try simp only [putL]
     refine wpAnyH_take (i := 13) (oi := { dst := some 27, op := Op.unOp UnOp.not 4 (Operand.tmp 26), type := 4, pos := "known.go:50", after := #[{ on := 12, ground := Ground.data }], guard := none }) (v := ?v14) rfl (by kernel_rfl) (by kernel_rfl) (by kernel_rfl) (fun _ _ _ h => h) (Or.inl ⟨by rfl, ?hy14⟩) hSw13 ?r14
     case hy14 =>
      intro w' hSw
      have hq := hSw.1
      clear hSw
      go_simp
      with_reducible rfl
     try simp only [putL]
     refine wpAnyH_done (by kernel_rfl) ?_ _
     show Q _ _
     rw [HQ.out]
     simp only [putL]
     exact ⟨⟨_, _, _, _, _, _, _, _, _, _, _, _, _, by rw [HVV.out]⟩, hSw13⟩
    case rest =>
     intro a' w3 hra
     rw [HQ.out] at hra
     clear HQ
     obtain ⟨⟨u14, u15, u16, u17, u18, u19, u20, u21, u22, u23, u24, u25, u26, rfl⟩, hh3⟩ := hra
     subst hA
     try simp only [putL]
     have hb3 : Below wr.heap.size wr w3 := HBWW.out.trans (hh3.2.2.mono HBWW.out.size)
     have HB3 := Lib.hid hb3
     clear hh3 hb3 z0 z1 z2 t0 t1 a0 a1 a2
     cases hc : VV
     · have HC := Lib.hid (hVV.trans hc)
       clear hc hVV
       go_wp2_with fail
       go_ret
       refine ⟨ret_b (Eq.symm ?_), HBW.out.trans (HB3.out.mono HBW.out.size)⟩
       unfold Ld.atBest
       rw [List.any_eq_true]
       exact ⟨t, List.mem_of_getElem? HTX.out, by simp [HC.out]⟩
     · have HC := Lib.hid (hVV.trans hc)
       clear hc hVV
       go_wp2_with fail
       go_roundw
       case rel =>
        refine ⟨j + 1, hlt, by go_num, HB.out.trans (HB3.out.mono hzr), ?_⟩
        rw [List.take_add_one, HTX.out, List.any_append, HALL.out]
        simp [HC.out]
       case measure => simp [intOf]; omega
  · obtain rfl : j = (Ld.truths b).length := by omega
    go_wp2_with fail
    go_ret
    exact ⟨ret_b (by unfold Ld.atBest; rw [← HALL.out, List.take_length]), HBW.out⟩
end Go.Proofs.Ytjgpghaofhcfnaa
