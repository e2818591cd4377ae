/- Texts on the program that the proof leans on, part 24. -/
import Derived.Test.YtjgpghaofhcfnaaYau
set_option linter.unusedVariables false
set_option linter.unusedSimpArgs false

namespace Go.Proofs.Ytjgpghaofhcfnaa
open Go.RowKit
def Ld.someH (b : Ld.Bk) (n j : Nat) : Ld.Sp := ((Ld.truths b).take j).foldl (fun a t => Ld.join a (Ld.water b t n)) Ld.none
theorem Ld.someH_next {b : Ld.Bk} {n j : Nat} {t : Ld.Tr} (h : (Ld.truths b)[j]? = some t) : Ld.someH b n (j + 1) = Ld.join (Ld.someH b n j) (Ld.water b t n) := by
 unfold Ld.someH
 rw [List.take_add_one, h, List.foldl_append]
 rfl
theorem Ld.someH_all {b : Ld.Bk} {n : Nat} : Ld.someH b n (Ld.truths b).length = Ld.height b n := by
 unfold Ld.someH Ld.height
 rw [List.take_length]
set_option maxRecDepth 100000 in
set_option maxHeartbeats 4000000 in
theorem height_any (b : Ld.Bk) (T D R : Value) (r : Nat) (k : Ld.Sp × Ld.Sp) (n : Nat) (w : World) (hlt : LT b T D R r w) (hv : Ld.valid b = true) (hn : n < b.tides.length) (hm : (Ld.truths b).length ≤ 100000) :
 Calls Try.prog 56 #[vLg T D (.map (some r)) R b k, I n] w fun e w' => e = .returned (vSp (Ld.height b n)) ∧ Below w.heap.size w w' := by
 obtain ⟨A0, c0, rfl⟩ := hlt.led.rb.tides.form
 obtain ⟨A1, c1, rfl⟩ := hlt.led.rb.sounds.form
 obtain ⟨A2, c2, rfl⟩ := hlt.tr.form
 have hok := truths_ok hv
 obtain ⟨hp1, hp2, -, -, -⟩ := Ld.valid_parts hv
 have h24 := (Ld.sized_bd hp1).2.1
 have HLT := Lib.hid hlt
 have HOK := Lib.hid hok
 have HP2 := Lib.hid hp2
 clear hlt hok hp1 hp2
 have hB0 : Below w.heap.size w ((w.alloc (oLg (.slice A0 b.tides.length c0) (.slice A1 b.sounds.length c1) (.map (some r)) (.slice A2 (Ld.truths b).length c2) b k)).alloc (.cells #[I 0, I 0] 24)) := ((Below.refl _ _).alloc (Nat.le_refl _) _).alloc (by simp) _
 go_enter Try.func56, Try.ntmps56
 go_wp2_with fail
 refine (nothing_any _).mono ?_
 rintro e w1 ⟨rfl, hB1⟩
 have hb1 : Below w.heap.size w w1 := hB0.trans (hB1.mono hB0.size)
 have r0 : w1.heap[w.heap.size]? = some (oLg (.slice A0 b.tides.length c0) (.slice A1 b.sounds.length c1) (.map (some r)) (.slice A2 (Ld.truths b).length c2) b k) := (hB1.block _ (by simp <;> omega)).trans ((Below.heap_alloc _ _ _ (by simp)).trans (heap_at _ _ rfl))
 have r1 : w1.heap[w.heap.size + 1]? = some (.cells #[I 0, I 0] 24 (0, 0)) := (hB1.block _ (by simp)).trans (heap_at _ _ (by simp))
 have h11 := heap_lt r1
 have R0 := Lib.hid r0
 have R1 := Lib.hid r1
 have HB1 := Lib.hid hb1
 clear hB0 hB1 r0 r1 hb1
 go_upto_region 2 with fail
 refine name_world ?_
 intro W0 hW0
 have hF : W0.heap[w1.heap.size]? = some (.cells #[I Ld.none.lo, I Ld.none.hi] 24 (0, 0)) := by rw [hW0]; exact heap_at _ _ rfl
 have hbA : Below w1.heap.size w1 W0 := by rw [hW0]; exact (Below.refl _ _).alloc (Nat.le_refl _) _
 have e0 := (hbA.block _ (heap_lt R0.out)).trans R0.out
 have e1 := (hbA.block _ (heap_lt R1.out)).trans R1.out
 have l15 := cell_of_row W0 _ 15 _ _ _ e0
 simp only [List.getElem?_toArray, List.getElem?_cons_zero, List.getElem?_cons_succ] at l15
 have HF := Lib.hid hF
 have HB0 := Lib.hid (HB1.out.trans (hbA.mono HB1.out.size))
 have E0 := Lib.hid e0
 have E1 := Lib.hid e1
 clear hW0 hF hbA e0 e1
 go_wp2_with fail
 go_loopw [12] (fun i wr => ∃ j : Nat, j ≤ (Ld.truths b).length ∧ i = I j ∧ wr.heap[w1.heap.size]? = some (.cells #[I (Ld.someH b n j).lo, I (Ld.someH b n j).hi] 24 (0, 0)) ∧ Below w1.heap.size W0 wr) (fun i _ => (Ld.truths b).length - (intOf i).toNat)
 case atStart => exact ⟨0, Nat.zero_le _, rfl, HF.out, Below.refl _ _⟩
 case round =>
  obtain ⟨j, hj, rfl, hrow, hB⟩ := hrel
  clear l15
  have hbw : Below w.heap.size w wr := HB0.out.trans (hB.mono (by omega))
  have HLW := Lib.hid (HLT.out.up hbw)
  have HBW := Lib.hid hbw
  have HR0 := Lib.hid ((hB.block _ (by omega)).trans E0.out)
  have HR1 := Lib.hid ((hB.block _ (by omega)).trans E1.out)
  have HROW := Lib.hid hrow
  have HB := Lib.hid hB
  have hzr := heap_lt hrow
  clear hbw hB hrow
  by_cases hlt : j < (Ld.truths b).length
  · obtain ⟨bl, off, c', hvv, hbl, q0, q1⟩ := Sl.tr HLW.out.tr hlt
    injection hvv with hA _ hc
    subst hA hc
    have htx : (Ld.truths b)[j]? = some (Ld.truths b)[j] := List.getElem?_eq_getElem hlt
    have htk := HOK.out _ (List.getElem_mem hlt)
    generalize (Ld.truths b)[j] = t at q0 q1 htx htk
    have HTX := Lib.hid htx
    have HTO := Lib.hid htk
    have hji : (j : Int) < (Ld.truths b).length := by omega
    clear htx htk
    go_upto_region 5 with fail
    refine name_world ?_
    intro W hW
    have hBW : Below wr.heap.size wr W := by rw [hW]; exact (Below.refl _ _).alloc (Nat.le_refl _) _
    have rT : W.heap[wr.heap.size]? = some (oTr t) := by rw [hW]; exact heap_at _ _ rfl
    have rL := (hBW.block _ (heap_lt HR0.out)).trans HR0.out
    have rF := (hBW.block _ hzr).trans HROW.out
    have z0 := heap_lt rT
    have t0 := cell_of_row W _ 0 _ _ _ rT
    have t1 := cell_of_row W _ 1 _ _ _ rT
    simp only [List.getElem?_toArray, List.getElem?_cons_zero, List.getElem?_cons_succ] at t0 t1
    have hFW : w1.heap.size ≤ W.heap.size := by omega
    have hne : wr.heap.size ≠ w1.heap.size := by omega
    have RL := Lib.hid rL
    have RF := Lib.hid rF
    have HBWW := Lib.hid hBW
    have HWA : Hid (∀ w', Apart w1.heap.size W w' → Calls Try.prog 76 #[(vLg (.slice A0 b.tides.length c0) (.slice A1 b.sounds.length c1) (.map (some r)) (.slice (some ⟨bl, off, none⟩) (Ld.truths b).length c2) b k), vTr t, I n] w' fun e w'' => e = .returned (vSp (Ld.water b t n)) ∧ Below w'.heap.size w' w'') := by
     refine Lib.hid fun w' h => ?_
     have hL := (HLW.out.up hBW).led.rb
     obtain ⟨B, hsm⟩ := (HLT.out.up (HBW.out.trans ((hBW.mono HBW.out.size).trans (h.2.1.mono (by omega))))).led.sm
     exact water_any b t n _ _ _ _ B r k w' (HLT.out.up (HBW.out.trans ((hBW.mono HBW.out.size).trans (h.2.1.mono (by omega))))).led.rb hsm ⟨_, _, rfl⟩ HP2.out hn (by omega) HTO.out.1 HTO.out.2.1 HTO.out.2.2.1 HTO.out.2.2.2
    obtain ⟨G, hG⟩ : ∃ G, Ld.someH b n j = G := ⟨_, rfl⟩
    rw [hG] at rF
    replace RF := Lib.hid rF
    have HG := Lib.hid hG
    obtain ⟨V, hVV⟩ : ∃ V, Ld.water b t n = V := ⟨_, rfl⟩
    rw [hVV] at HWA
    have HVV := Lib.hid hVV
    clear hW hBW rT rL rF q0 q1 hbl hG hVV
    refine name_act ?_
    intro A9 hA
    obtain ⟨Q, hQ⟩ : ∃ Q : Act → World → Prop, Q = fun a' w' => ∃ w5 : World, (∃ u16 u17 u18 u19 u20 u21, a' = ((((((A9.put (some 16) u16).put (some 17) u17).put (some 18) u18).put (some 19) u19).put (some 20) u20).put (some 21) u21)) ∧ Below W.heap.size W w5 ∧ w' = (w5.setCell ⟨w1.heap.size, 0, none⟩ (I (Ld.join G V).lo)).setCell ⟨w1.heap.size, 1, none⟩ (I (Ld.join G V).hi) := ⟨_, rfl⟩
    have HQ := Lib.hid hQ
    clear hQ
    refine wp_between Q ?first ?rest
    case first =>
     subst hA
     have hS0 : Apart w1.heap.size W W.drew := apart_start _ _
     have hF0 : W.drew.heap[w1.heap.size]? = _ := RF.out
     have hb0 : Below W.heap.size W W.drew := (Below.refl _ _).drew
     refine wp_region_held_drew (S := fun w' => Apart w1.heap.size W w') (by kernel_rfl) hS0 (fun _ => ?_)
     refine wpAnyH_take (i := 1) (oi := { dst := some 17, op := Op.load 86 (Operand.tmp 2), type := 86, pos := "known.go:12", after := #[], guard := none }) (v := (vLg (.slice A0 b.tides.length c0) (.slice A1 b.sounds.length c1) (.map (some r)) (.slice (some ⟨bl, off, none⟩) (Ld.truths b).length c2) b k)) rfl (by kernel_rfl) (by kernel_rfl) (by kernel_rfl) (fun _ _ _ h => h) (Or.inl ⟨by rfl, ?hy1⟩) hS0 ?r1
     case hy1 =>
      intro w' hSw
      exact exec_load_row (by rfl) (by rfl) ((hSw.2.1.block _ (by omega)).trans RL.out) Try.underlying86 rfl infoLg
     try simp only [putL]
     refine wpAnyH_take (i := 2) (oi := { dst := some 18, op := Op.load 112 (Operand.tmp 7), type := 112, pos := "known.go:12", after := #[], guard := none }) (v := ?v2) rfl (by kernel_rfl) (by kernel_rfl) (by kernel_rfl) (fun _ _ _ h => h) (Or.inl ⟨by rfl, ?hy2⟩) hS0 ?r2
     case hy2 =>
      intro w' hSw
      have hq := hSw.1
      clear hSw
      have y0 := (hq _ 0 z0 hne).trans t0
      have y1 := (hq _ 1 z0 hne).trans t1
      go_simp
      with_reducible rfl
     try simp only [putL]
     refine wpAnyH_take (i := 3) (oi := { dst := some 19, op := Op.move (Operand.tmp 1), type := 3, pos := "known.go:12", after := #[], guard := none }) (v := ?v3) rfl (by kernel_rfl) (by kernel_rfl) (by kernel_rfl) (fun _ _ _ h => h) (Or.inl ⟨by rfl, ?hy3⟩) hS0 ?r3
     case hy3 =>
      intro w' hSw
      have hq := hSw.1
      clear hSw
      go_simp
      with_reducible rfl
     try simp only [putL]
     refine wpAnyH_ready (rs := [0, 4]) (by kernel_rfl) (by simp) ?_
     refine AllReadyH.cons rfl (fun K hK => ?_) (AllReadyH.cons rfl (fun K hK => ?_) AllReadyH.nil)
     · have y0 := cell_of_row W.drew _ 0 _ _ _ hF0
       have y1 := cell_of_row W.drew _ 1 _ _ _ hF0
       simp only [List.getElem?_toArray, List.getElem?_cons_zero, List.getElem?_cons_succ] at y0 y1
       go_simp
       refine hK.out _ _ hS0 (fun _ => ?_)
       clear hK K y0 y1
       try simp only [putL]
       refine wpAnyH_ready (rs := [4]) (by kernel_rfl) (by simp) ?_
       refine AllReadyH.cons rfl (fun K hK => ?_) AllReadyH.nil
       go_simp
       refine (HWA.out _ hS0).mono ?_
       rintro e w5 ⟨rfl, hBw5⟩
       have hSw5 := apart_step hFW hBw5 hS0
       have fFw5 := (hBw5.block _ (heap_lt hF0)).trans hF0
       have mbww5 := hb0.trans (hBw5.mono hb0.size)
       refine hK.out _ _ hSw5 (fun _ => ?_)
       clear hK K
       try simp only [putL]
       refine wpAnyH_ready (rs := [5]) (by kernel_rfl) (by simp) ?_
       refine AllReadyH.cons rfl (fun K hK => ?_) AllReadyH.nil
       go_simp
       refine (join_any G V _).mono ?_
       rintro e w6 ⟨rfl, hBw6⟩
       have hSw6 := apart_step hFW hBw6 hSw5
       have fFw6 := (hBw6.block _ (heap_lt fFw5)).trans fFw5
       have mbww6 := mbww5.trans (hBw6.mono mbww5.size)
       refine hK.out _ _ hSw6 (fun _ => ?_)
       clear hK K
       try simp only [putL]
       refine wpAnyH_ready (rs := [6]) (by kernel_rfl) (by simp) ?_
       refine AllReadyH.cons rfl (fun K hK => ?_) AllReadyH.nil
       have y0 := cell_of_row w6 _ 0 _ _ _ fFw6
       have y1 := cell_of_row w6 _ 1 _ _ _ fFw6
       simp only [List.getElem?_toArray, List.getElem?_cons_zero, List.getElem?_cons_succ] at y0 y1
       have fz0 : w6.frozen? ⟨w1.heap.size, 0, none⟩ = false := by simp [World.frozen?, fFw6]
       have fz1 : w6.frozen? ⟨w1.heap.size, 1, none⟩ = false := by simp [World.frozen?, fFw6]
       go_simp
       refine hK.out _ _ (apart_set (apart_set hSw6 _ _) _ _) (fun _ => ?_)
       clear hK K
       try simp only [putL]
       refine wpAnyH_done (by kernel_rfl) ?_ _
       show Q _ _
       rw [HQ.out]
       simp only [putL]
       exact ⟨w6, ⟨_, _, _, _, _, _, rfl⟩, mbww6, rfl⟩
     · go_simp
       refine (HWA.out _ hS0).mono ?_
       rintro e w8 ⟨rfl, hBw8⟩
       have hSw8 := apart_step hFW hBw8 hS0
       have fFw8 := (hBw8.block _ (heap_lt hF0)).trans hF0
       have mbww8 := hb0.trans (hBw8.mono hb0.size)
       refine hK.out _ _ hSw8 (fun _ => ?_)
       clear hK K
       try simp only [putL]
       refine wpAnyH_ready (rs := [0]) (by kernel_rfl) (by simp) ?_
       refine AllReadyH.cons rfl (fun K hK => ?_) AllReadyH.nil
       have y0 := cell_of_row w8 _ 0 _ _ _ fFw8
       have y1 := cell_of_row w8 _ 1 _ _ _ fFw8
       simp only [List.getElem?_toArray, List.getElem?_cons_zero, List.getElem?_cons_succ] at y0 y1
       go_simp
       refine hK.out _ _ hSw8 (fun _ => ?_)
       clear hK K y0 y1
       try simp only [putL]
       refine wpAnyH_ready (rs := [5]) (by kernel_rfl) (by simp) ?_
       refine AllReadyH.cons rfl (fun K hK => ?_) AllReadyH.nil
       go_simp
       refine (join_any G V _).mono ?_
       rintro e w10 ⟨rfl, hBw10⟩
       have hSw10 := apart_step hFW hBw10 hSw8
       have fFw10 := (hBw10.block _ (heap_lt fFw8)).trans fFw8
       have mbww10 := mbww8.trans (hBw10.mono mbww8.size)
       refine hK.out _ _ hSw10 (fun _ => ?_)
       clear hK K
       try simp only [putL]
       refine wpAnyH_ready (rs := [6]) (by kernel_rfl) (by simp) ?_
       refine AllReadyH.cons rfl (fun K hK => ?_) AllReadyH.nil
       have y0 := cell_of_row w10 _ 0 _ _ _ fFw10
       have y1 := cell_of_row w10 _ 1 _ _ _ fFw10
       simp only [List.getElem?_toArray, List.getElem?_cons_zero, List.getElem?_cons_succ] at y0 y1
       have fz0 : w10.frozen? ⟨w1.heap.size, 0, none⟩ = false := by simp [World.frozen?, fFw10]
       have fz1 : w10.frozen? ⟨w1.heap.size, 1, none⟩ = false := by simp [World.frozen?, fFw10]
       go_simp
       refine hK.out _ _ (apart_set (apart_set hSw10 _ _) _ _) (fun _ => ?_)
       clear hK K
       try simp only [putL]
       refine wpAnyH_done (by kernel_rfl) ?_ _
       show Q _ _
       rw [HQ.out]
       simp only [putL]
       exact ⟨w10, ⟨_, _, _, _, _, _, rfl⟩, mbww10, rfl⟩
    case rest =>
     intro a' w3 hra
     rw [HQ.out] at hra
     clear HQ
     obtain ⟨w5, ⟨u16, u17, u18, u19, u20, u21, rfl⟩, hb5, hw3⟩ := hra
     subst hA
     try simp only [putL]
     have hrw := (hb5.block _ (heap_lt RF.out)).trans RF.out
     have HRW := Lib.hid hrw
     have HW3 := Lib.hid hw3
     have HB5 := Lib.hid hb5
     clear hb5 hrw hw3 t0 t1
     go_wp2_with fail
     go_roundw
     case rel =>
      refine ⟨j + 1, hlt, by go_num, ?_, ?_⟩
      · rw [HW3.out, Ld.someH_next HTX.out, HG.out, HVV.out]; simp [World.setCell, Array.getElem?_modify, HRW.out]
      · rw [HW3.out]; exact ((HB.out.trans ((HBWW.out.mono (by omega)).trans (HB5.out.mono (by omega)))).setCell (Nat.le_refl _) _).setCell (Nat.le_refl _) _
     case measure => simp [intOf]; omega
  · obtain rfl : j = (Ld.truths b).length := by omega
    obtain ⟨G, hG⟩ : ∃ G, Ld.someH b n (Ld.truths b).length = G := ⟨_, rfl⟩
    have hrow := HROW.out
    rw [hG] at hrow
    have hres := HR1.out
    have z0 := cell_of_row wr _ 0 _ _ _ hrow
    have z1 := cell_of_row wr _ 1 _ _ _ hrow
    have y0 := cell_of_row wr _ 0 _ _ _ hres
    have y1 := cell_of_row wr _ 1 _ _ _ hres
    simp only [List.getElem?_toArray, List.getElem?_cons_zero, List.getElem?_cons_succ] at z0 z1 y0 y1
    have ff : ∀ o, wr.frozen? ⟨w.heap.size + 1, o, none⟩ = false := fun o => by simp [World.frozen?, hres]
    rw [Ld.someH_all] at hG
    have HG := Lib.hid hG
    clear hrow hres hG
    go_wp2_with fail
    refine name_post ?_
    intro W hW
    have hrow : W.heap[w.heap.size + 1]? = some (.cells #[I G.lo, I G.hi] 24 (0, 0)) := by rw [hW]; simp [World.setCell, Array.getElem?_modify, HR1.out]
    have hbW : Below w.heap.size w W := by rw [hW]; exact (HBW.out.setCell (by simp) _).setCell (by simp) _
    have hq : ∀ j : Nat, W.cell? ⟨w.heap.size + 1, j, none⟩ = #[I G.lo, I G.hi][j]? := fun j => cell_of_row W _ j _ _ _ hrow
    clear hW
    exact bodyPost_ret (v := vSp G) (by simp [results, Try.results56, go_sem, hq]) rfl ⟨by rw [HG.out], hbW⟩
end Go.Proofs.Ytjgpghaofhcfnaa
namespace Go.Proofs.Ytjgpghaofhcfnaa
open Go.RowKit
def Ld.heightR (b : Ld.Bk) (x : Int) : Ld.Sp := if Ld.studyE b (Ld.isHour b x) = 0 then Ld.height b x.toNat else ⟨0, 0⟩
set_option maxRecDepth 100000 in
set_option maxHeartbeats 4000000 in
theorem Height_any (b : Ld.Bk) (T D : Value) (x : Int) (w : World) (hb : RB w w.heap.size b T D) :
 Calls Try.prog 19 #[vBk T D b, I x] w fun e w' => e = .returned (.tuple #[vSp (Ld.heightR b x), I (Ld.studyE b (Ld.isHour b x))]) ∧ Below w.heap.size w w' := by
 obtain ⟨A0, c0, rfl⟩ := hb.tides.form
 obtain ⟨A1, c1, rfl⟩ := hb.sounds.form
 have HRB := Lib.hid hb
 clear hb
 go_enter Try.func19, Try.ntmps19
 go_upto_region 1 with fail
 refine name_world ?_
 intro W hW
 have hB : Below w.heap.size w W := by rw [hW]; exact ((Below.refl _ _).alloc (Nat.le_refl _) _).alloc (by simp) _
 have rL : W.heap[w.heap.size]? = some (.cells (rBk (.slice A0 b.tides.length c0) (.slice A1 b.sounds.length c1) b) 30 (0, 0)) := by rw [hW]; exact (Below.heap_alloc _ _ _ (by simp)).trans (heap_at _ _ rfl)
 have rS : W.heap[w.heap.size + 1]? = some (.cells #[I 0, I 0] 24 (0, 0)) := by rw [hW]; exact heap_at _ _ (by simp)
 have hlF := heap_lt rL
 have RL := Lib.hid rL
 have RS := Lib.hid rS
 have HB := Lib.hid hB
 clear hW rL rS hB
 refine name_act ?_
 intro A hA
 obtain ⟨R, hR⟩ : ∃ R : Act → World → Prop, R = fun a' w' => ∃ (n B : Nat) (L : Array Value), (∃ u9 u10 u11 u12 u13 u8 u14 u15, a' = ((((((((((A.put (some 9) u9).put (some 10) u10).put (some 11) u11).put (some 12) u12).put (some 13) u13).put (some 8) u8).put (some 14) u14).put (some 15) u15).put (some 6) (vPtr n)).put (some 7) (I (Ld.studyE b (Ld.isHour b x))))) ∧ w'.heap[n]? = some (.cells L 86 (0, 0)) ∧ Told b (.slice A0 b.tides.length c0) (.slice A1 b.sounds.length c1) (Ld.isHour b x) B w' L ∧ W.heap.size ≤ n ∧ W.heap.size ≤ B ∧ Held W w' := ⟨_, rfl⟩
 have HR := Lib.hid hR
 clear hR
 refine wp_between R ?first ?rest
 case first =>
  subst hA
  have hK0 : Held W W.drew := held_start W
  refine wp_region_held_drew (S := fun w' => Held W w') (by kernel_rfl) hK0 (fun _ => ?_)
  refine wpAnyH_take (i := 0) (oi := { dst := some 9, op := Op.load 30 (Operand.tmp 2), type := 30, pos := "landing.go:27", after := #[], guard := none }) (v := (vBk (.slice A0 b.tides.length c0) (.slice A1 b.sounds.length c1) b)) rfl (by kernel_rfl) (by kernel_rfl) (by kernel_rfl) (fun _ _ _ h => h) (Or.inl ⟨by rfl, ?hy1⟩) hK0 ?r1
  case hy1 =>
   intro w' hSw
   exact exec_load_row (by rfl) (by rfl) ((hSw.2.2.block _ (heap_lt RL.out)).trans RL.out) Try.underlying30 rfl infoBk14
  try simp only [putL]
  refine wpAnyH_take (i := 1) (oi := { dst := some 10, op := Op.load 30 (Operand.tmp 2), type := 30, pos := "landing.go:27", after := #[], guard := none }) (v := (vBk (.slice A0 b.tides.length c0) (.slice A1 b.sounds.length c1) b)) rfl (by kernel_rfl) (by kernel_rfl) (by kernel_rfl) (fun _ _ _ h => h) (Or.inl ⟨by rfl, ?hy2⟩) hK0 ?r2
  case hy2 =>
   intro w' hSw
   exact exec_load_row (by rfl) (by rfl) ((hSw.2.2.block _ (heap_lt RL.out)).trans RL.out) Try.underlying30 rfl infoBk14
  try simp only [putL]
  refine wpAnyH_take (i := 2) (oi := { dst := some 11, op := Op.move (Operand.tmp 1), type := 3, pos := "landing.go:27", after := #[], guard := none }) (v := ?v3) rfl (by kernel_rfl) (by kernel_rfl) (by kernel_rfl) (fun _ _ _ h => h) (Or.inl ⟨by rfl, ?hy3⟩) hK0 ?r3
  case hy3 =>
   intro w' hSw
   have hq := hSw.1
   clear hSw
   go_simp
   with_reducible rfl
  try simp only [putL]
  refine wpAnyH_ready (rs := [3, 8]) (by kernel_rfl) (by simp) ?_
  refine AllReadyH.cons rfl (fun K hK => ?_) (AllReadyH.cons rfl (fun K hK => ?_) AllReadyH.nil)
  · go_simp
    refine (isHour_any b _ _ x _ (HRB.out.up (HB.out.trans (hK0.2.2.mono HB.out.size)))).mono ?_
    rintro e w4 ⟨rfl, hBw4⟩
    have hSw4 := held_step hBw4 hK0
    refine hK.out _ _ hSw4 (fun _ => ?_)
    clear hK K
    try simp only [putL]
    refine wpAnyH_ready (rs := [4, 8]) (by kernel_rfl) (by simp) ?_
    refine AllReadyH.cons rfl (fun K hK => ?_) (AllReadyH.cons rfl (fun K hK => ?_) AllReadyH.nil)
    · go_simp
      refine (study_told b (.slice A0 b.tides.length c0) (.slice A1 b.sounds.length c1) (Ld.isHour b x) _ (HRB.out.up (HB.out.trans (hSw4.2.2.mono HB.out.size)))).mono ?_
      rintro e w5 ⟨⟨L, rfl, hTw5⟩, hBw5⟩
      have hSw5 := held_step hBw5 hSw4
      have hgw5 : W.heap.size ≤ w4.heap.size := hSw4.2.2.size
      refine hK.out _ _ hSw5 (fun _ => ?_)
      clear hK K
      try simp only [putL]
      refine wpAnyH_take (i := 5) (oi := { dst := some 8, op := Op.move (Operand.tmp 13), type := 92, pos := "landing.go:27", after := #[{ on := 4, ground := Ground.data }], guard := none }) (v := ?v6) rfl (by kernel_rfl) (by kernel_rfl) (by kernel_rfl) (fun _ _ _ h => h) (Or.inl ⟨by rfl, ?hy6⟩) hSw5 ?r6
      case hy6 =>
       intro w' hSw
       have hq := hSw.1
       clear hSw
       go_simp
       with_reducible rfl
      try simp only [putL]
      refine wpAnyH_take (i := 6) (oi := { dst := some 14, op := Op.extract (Operand.tmp 8) 0, type := 86, pos := "landing.go:27", after := #[{ on := 5, ground := Ground.data }], guard := none }) (v := ?v7) rfl (by kernel_rfl) (by kernel_rfl) (by kernel_rfl) (fun _ _ _ h => h) (Or.inl ⟨by rfl, ?hy7⟩) hSw5 ?r7
      case hy7 =>
       intro w' hSw
       have hq := hSw.1
       clear hSw
       go_simp
       with_reducible rfl
      try simp only [putL]
      refine wpAnyH_take (i := 7) (oi := { dst := some 15, op := Op.extract (Operand.tmp 8) 1, type := 41, pos := "landing.go:27", after := #[{ on := 5, ground := Ground.data }, { on := 9, ground := Ground.gcOnly Go.Departure.lateStores }], guard := none }) (v := ?v8) rfl (by kernel_rfl) (by kernel_rfl) (by kernel_rfl) (fun _ _ _ h => h) (Or.inl ⟨by rfl, ?hy8⟩) hSw5 ?r8
      case hy8 =>
       intro w' hSw
       have hq := hSw.1
       clear hSw
       go_simp
       with_reducible rfl
      try simp only [putL]
      refine wpAnyH_ready (rs := [8]) (by kernel_rfl) (by simp) ?_
      refine AllReadyH.cons rfl (fun K hK => ?_) AllReadyH.nil
      go_simp
      refine hK.out _ _ (held_alloc hSw5 _) (fun _ => ?_)
      clear hK K
      try simp only [putL]
      refine name_anyH ?_
      intro w9 hWw9
      have hAw9 : Below w5.heap.size w5 w9 := by rw [hWw9]; exact (Below.refl _ _).alloc (Nat.le_refl _) _
      have fAw9 : w9.heap[w5.heap.size]? = some (.cells rLg0 86 (0, 0)) := by rw [hWw9]; exact heap_at _ _ rfl
      have hSw9 : Held W w9 := by rw [hWw9]; exact held_alloc hSw5 _
      have mTw9 := hTw5.up hAw9
      have hlAw9 : W.heap.size ≤ w5.heap.size := hSw5.2.2.size
      clear hWw9
      refine wpAnyH_ready (rs := [9]) (by kernel_rfl) (by simp) ?_
      refine AllReadyH.cons rfl (fun K hK => ?_) AllReadyH.nil
      rw [if_pos (by rfl)]
      refine wp_store_row 86 _ _ rfl _ L rfl rfl _ _ fAw9 (by rw [mTw9.size]; exact infoLg) (mTw9.size.symm) mTw9.one ?_
      have hSw10 := held_row hSw9 hlAw9 L
      refine hK.out _ _ hSw10 (fun _ => ?_)
      clear hK K
      try simp only [putL]
      have hrw10 := setRow_heap _ _ _ L _ _ fAw9
      refine wpAnyH_take (i := 10) (oi := { dst := some 7, op := Op.assign (Operand.tmp 15), type := 41, pos := "landing.go:27", after := #[{ on := 7, ground := Ground.data }, { on := 9, ground := Ground.chain }, { on := 0, ground := Ground.phase }, { on := 1, ground := Ground.phase }, { on := 2, ground := Ground.phase }, { on := 3, ground := Ground.phase }, { on := 4, ground := Ground.phase }, { on := 5, ground := Ground.phase }, { on := 6, ground := Ground.phase }, { on := 7, ground := Ground.phase }, { on := 8, ground := Ground.phase }, { on := 9, ground := Ground.phase }], guard := none }) (v := ?v11) rfl (by kernel_rfl) (by kernel_rfl) (by kernel_rfl) (fun _ _ _ h => h) (Or.inl ⟨by rfl, ?hy11⟩) hSw10 ?r11
      case hy11 =>
       intro w' hSw
       have hq := hSw.1
       clear hSw
       go_simp
       with_reducible rfl
      try simp only [putL]
      refine wpAnyH_done (by kernel_rfl) ?_ _
      show R _ _
      rw [HR.out]
      simp only [putL]
      exact ⟨w5.heap.size, w4.heap.size, L, ⟨_, _, _, _, _, _, _, _, rfl⟩, hrw10, hTw5.up (below_setRow hAw9 (Nat.le_refl _) L), hlAw9, hgw5, hSw10⟩
    · go_simp
      refine hK.out _ _ (held_alloc hSw4 _) (fun _ => ?_)
      clear hK K
      try simp only [putL]
      refine name_anyH ?_
      intro w12 hWw12
      have hAw12 : Below w4.heap.size w4 w12 := by rw [hWw12]; exact (Below.refl _ _).alloc (Nat.le_refl _) _
      have fAw12 : w12.heap[w4.heap.size]? = some (.cells rLg0 86 (0, 0)) := by rw [hWw12]; exact heap_at _ _ rfl
      have hSw12 : Held W w12 := by rw [hWw12]; exact held_alloc hSw4 _
      have hlAw12 : W.heap.size ≤ w4.heap.size := hSw4.2.2.size
      clear hWw12
      refine wpAnyH_ready (rs := [4]) (by kernel_rfl) (by simp) ?_
      refine AllReadyH.cons rfl (fun K hK => ?_) AllReadyH.nil
      go_simp
      refine (study_told b (.slice A0 b.tides.length c0) (.slice A1 b.sounds.length c1) (Ld.isHour b x) _ (HRB.out.up (HB.out.trans (hSw12.2.2.mono HB.out.size)))).mono ?_
      rintro e w13 ⟨⟨L, rfl, hTw13⟩, hBw13⟩
      have hSw13 := held_step hBw13 hSw12
      have hgw13 : W.heap.size ≤ w12.heap.size := hSw12.2.2.size
      have fAw13 := (hBw13.block _ (heap_lt fAw12)).trans fAw12
      refine hK.out _ _ hSw13 (fun _ => ?_)
      clear hK K
      try simp only [putL]
      refine wpAnyH_take (i := 5) (oi := { dst := some 8, op := Op.move (Operand.tmp 13), type := 92, pos := "landing.go:27", after := #[{ on := 4, ground := Ground.data }], guard := none }) (v := ?v14) rfl (by kernel_rfl) (by kernel_rfl) (by kernel_rfl) (fun _ _ _ h => h) (Or.inl ⟨by rfl, ?hy14⟩) hSw13 ?r14
      case hy14 =>
       intro w' hSw
       have hq := hSw.1
       clear hSw
       go_simp
       with_reducible rfl
      try simp only [putL]
      refine wpAnyH_take (i := 6) (oi := { dst := some 14, op := Op.extract (Operand.tmp 8) 0, type := 86, pos := "landing.go:27", after := #[{ on := 5, ground := Ground.data }], guard := none }) (v := ?v15) rfl (by kernel_rfl) (by kernel_rfl) (by kernel_rfl) (fun _ _ _ h => h) (Or.inl ⟨by rfl, ?hy15⟩) hSw13 ?r15
      case hy15 =>
       intro w' hSw
       have hq := hSw.1
       clear hSw
       go_simp
       with_reducible rfl
      try simp only [putL]
      refine wpAnyH_take (i := 7) (oi := { dst := some 15, op := Op.extract (Operand.tmp 8) 1, type := 41, pos := "landing.go:27", after := #[{ on := 5, ground := Ground.data }, { on := 9, ground := Ground.gcOnly Go.Departure.lateStores }], guard := none }) (v := ?v16) rfl (by kernel_rfl) (by kernel_rfl) (by kernel_rfl) (fun _ _ _ h => h) (Or.inl ⟨by rfl, ?hy16⟩) hSw13 ?r16
      case hy16 =>
       intro w' hSw
       have hq := hSw.1
       clear hSw
       go_simp
       with_reducible rfl
      try simp only [putL]
      refine wpAnyH_ready (rs := [9]) (by kernel_rfl) (by simp) ?_
      refine AllReadyH.cons rfl (fun K hK => ?_) AllReadyH.nil
      rw [if_pos (by rfl)]
      refine wp_store_row 86 _ _ rfl _ L rfl rfl _ _ fAw13 (by rw [hTw13.size]; exact infoLg) (hTw13.size.symm) hTw13.one ?_
      have hSw17 := held_row hSw13 hlAw12 L
      refine hK.out _ _ hSw17 (fun _ => ?_)
      clear hK K
      try simp only [putL]
      have hrw17 := setRow_heap _ _ _ L _ _ fAw13
      refine wpAnyH_take (i := 10) (oi := { dst := some 7, op := Op.assign (Operand.tmp 15), type := 41, pos := "landing.go:27", after := #[{ on := 7, ground := Ground.data }, { on := 9, ground := Ground.chain }, { on := 0, ground := Ground.phase }, { on := 1, ground := Ground.phase }, { on := 2, ground := Ground.phase }, { on := 3, ground := Ground.phase }, { on := 4, ground := Ground.phase }, { on := 5, ground := Ground.phase }, { on := 6, ground := Ground.phase }, { on := 7, ground := Ground.phase }, { on := 8, ground := Ground.phase }, { on := 9, ground := Ground.phase }], guard := none }) (v := ?v18) rfl (by kernel_rfl) (by kernel_rfl) (by kernel_rfl) (fun _ _ _ h => h) (Or.inl ⟨by rfl, ?hy18⟩) hSw17 ?r18
      case hy18 =>
       intro w' hSw
       have hq := hSw.1
       clear hSw
       go_simp
       with_reducible rfl
      try simp only [putL]
      refine wpAnyH_done (by kernel_rfl) ?_ _
      show R _ _
      rw [HR.out]
      simp only [putL]
      exact ⟨w4.heap.size, w12.heap.size, L, ⟨_, _, _, _, _, _, _, _, rfl⟩, hrw17, hTw13.row fAw13 (heap_lt fAw12), hlAw12, hgw13, hSw17⟩
  · go_simp
    refine hK.out _ _ (held_alloc hK0 _) (fun _ => ?_)
    clear hK K
    try simp only [putL]
    refine name_anyH ?_
    intro w19 hWw19
    have hAw19 : Below W.drew.heap.size W.drew w19 := by rw [hWw19]; exact (Below.refl _ _).alloc (Nat.le_refl _) _
    have fAw19 : w19.heap[W.drew.heap.size]? = some (.cells rLg0 86 (0, 0)) := by rw [hWw19]; exact heap_at _ _ rfl
    have hSw19 : Held W w19 := by rw [hWw19]; exact held_alloc hK0 _
    have hlAw19 : W.heap.size ≤ W.drew.heap.size := hK0.2.2.size
    clear hWw19
    refine wpAnyH_ready (rs := [3]) (by kernel_rfl) (by simp) ?_
    refine AllReadyH.cons rfl (fun K hK => ?_) AllReadyH.nil
    go_simp
    refine (isHour_any b _ _ x _ (HRB.out.up (HB.out.trans (hSw19.2.2.mono HB.out.size)))).mono ?_
    rintro e w20 ⟨rfl, hBw20⟩
    have hSw20 := held_step hBw20 hSw19
    have fAw20 := (hBw20.block _ (heap_lt fAw19)).trans fAw19
    refine hK.out _ _ hSw20 (fun _ => ?_)
    clear hK K
    try simp only [putL]
    refine wpAnyH_ready (rs := [4]) (by kernel_rfl) (by simp) ?_
    refine AllReadyH.cons rfl (fun K hK => ?_) AllReadyH.nil
    go_simp
    refine (study_told b (.slice A0 b.tides.length c0) (.slice A1 b.sounds.length c1) (Ld.isHour b x) _ (HRB.out.up (HB.out.trans (hSw20.2.2.mono HB.out.size)))).mono ?_
    rintro e w21 ⟨⟨L, rfl, hTw21⟩, hBw21⟩
    have hSw21 := held_step hBw21 hSw20
    have hgw21 : W.heap.size ≤ w20.heap.size := hSw20.2.2.size
    have fAw21 := (hBw21.block _ (heap_lt fAw20)).trans fAw20
    refine hK.out _ _ hSw21 (fun _ => ?_)
    clear hK K
    try simp only [putL]
    refine wpAnyH_take (i := 5) (oi := { dst := some 8, op := Op.move (Operand.tmp 13), type := 92, pos := "landing.go:27", after := #[{ on := 4, ground := Ground.data }], guard := none }) (v := ?v22) rfl (by kernel_rfl) (by kernel_rfl) (by kernel_rfl) (fun _ _ _ h => h) (Or.inl ⟨by rfl, ?hy22⟩) hSw21 ?r22
    case hy22 =>
     intro w' hSw
     have hq := hSw.1
     clear hSw
     go_simp
     with_reducible rfl
    try simp only [putL]
    refine wpAnyH_take (i := 6) (oi := { dst := some 14, op := Op.extract (Operand.tmp 8) 0, type := 86, pos := "landing.go:27", after := #[{ on := 5, ground := Ground.data }], guard := none }) (v := ?v23) rfl (by kernel_rfl) (by kernel_rfl) (by kernel_rfl) (fun _ _ _ h => h) (Or.inl ⟨by rfl, ?hy23⟩) hSw21 ?r23
    case hy23 =>
     intro w' hSw
     have hq := hSw.1
     clear hSw
     go_simp
     with_reducible rfl
    try simp only [putL]
    refine wpAnyH_take (i := 7) (oi := { dst := some 15, op := Op.extract (Operand.tmp 8) 1, type := 41, pos := "landing.go:27", after := #[{ on := 5, ground := Ground.data }, { on := 9, ground := Ground.gcOnly Go.Departure.lateStores }], guard := none }) (v := ?v24) rfl (by kernel_rfl) (by kernel_rfl) (by kernel_rfl) (fun _ _ _ h => h) (Or.inl ⟨by rfl, ?hy24⟩) hSw21 ?r24
    case hy24 =>
     intro w' hSw
     have hq := hSw.1
     clear hSw
     go_simp
     with_reducible rfl
    try simp only [putL]
    refine wpAnyH_ready (rs := [9]) (by kernel_rfl) (by simp) ?_
    refine AllReadyH.cons rfl (fun K hK => ?_) AllReadyH.nil
    rw [if_pos (by rfl)]
    refine wp_store_row 86 _ _ rfl _ L rfl rfl _ _ fAw21 (by rw [hTw21.size]; exact infoLg) (hTw21.size.symm) hTw21.one ?_
    have hSw25 := held_row hSw21 hlAw19 L
    refine hK.out _ _ hSw25 (fun _ => ?_)
    clear hK K
    try simp only [putL]
    have hrw25 := setRow_heap _ _ _ L _ _ fAw21
    refine wpAnyH_take (i := 10) (oi := { dst := some 7, op := Op.assign (Operand.tmp 15), type := 41, pos := "landing.go:27", after := #[{ on := 7, ground := Ground.data }, { on := 9, ground := Ground.chain }, { on := 0, ground := Ground.phase }, { on := 1, ground := Ground.phase }, { on := 2, ground := Ground.phase }, { on := 3, ground := Ground.phase }, { on := 4, ground := Ground.phase }, { on := 5, ground := Ground.phase }, { on := 6, ground := Ground.phase }, { on := 7, ground := Ground.phase }, { on := 8, ground := Ground.phase }, { on := 9, ground := Ground.phase }], guard := none }) (v := ?v26) rfl (by kernel_rfl) (by kernel_rfl) (by kernel_rfl) (fun _ _ _ h => h) (Or.inl ⟨by rfl, ?hy26⟩) hSw25 ?r26
    case hy26 =>
     intro w' hSw
     have hq := hSw.1
     clear hSw
     go_simp
     with_reducible rfl
    try simp only [putL]
    refine wpAnyH_done (by kernel_rfl) ?_ _
    show R _ _
    rw [HR.out]
    simp only [putL]
    exact ⟨W.drew.heap.size, w20.heap.size, L, ⟨_, _, _, _, _, _, _, _, rfl⟩, hrw25, hTw21.row fAw21 (heap_lt fAw20), hlAw19, hgw21, hSw25⟩
 case rest =>
  intro a' w' hra
  rw [HR.out] at hra
  clear HR
  obtain ⟨n, B, L, ⟨u9, u10, u11, u12, u13, u8, u14, u15, rfl⟩, hrow, hT, hn, hBn, hH⟩ := hra
  subst hA
  simp only [putL]
  have hsp := (hH.2.2.block _ (heap_lt RS.out)).trans RS.out
  have z0 := cell_of_row w' _ 0 _ _ _ hsp
  have z1 := cell_of_row w' _ 1 _ _ _ hsp
  simp only [List.getElem?_toArray, List.getElem?_cons_zero, List.getElem?_cons_succ] at z0 z1
  have f0 : w'.frozen? ⟨w.heap.size + 1, 0, none⟩ = false := by simp [World.frozen?, hsp]
  have f1 : w'.frozen? ⟨w.heap.size + 1, 1, none⟩ = false := by simp [World.frozen?, hsp]
  have hbw : Below w.heap.size w w' := HB.out.trans (hH.2.2.mono HB.out.size)
  have HSP := Lib.hid hsp
  have HBW := Lib.hid hbw
  have HN := Lib.hid hn
  by_cases h0 : Ld.studyE b (Ld.isHour b x) = 0
  · obtain ⟨hv, hp, hne⟩ := Ld.studyE_parts h0
    obtain ⟨R2, r, rfl, hg⟩ := hT.yes h0
    obtain ⟨A2, c2, rfl⟩ := hg.tr.form
    have hlt := hg.lt (HRB.out.up hbw)
    obtain ⟨q, rfl⟩ : ∃ q : Nat, x = q := by
     simp [Ld.isHour] at hp
     exact ⟨x.toNat, by omega⟩
    have hq : q < b.tides.length := by simp [Ld.isHour] at hp; exact hp
    obtain ⟨G, hG⟩ : ∃ G, Ld.height b q = G := ⟨_, rfl⟩
    have hfr : Ld.heightR b q = G := by rw [Ld.heightR, if_pos h0, ← hG]; rfl
    obtain ⟨K, hK⟩ : ∃ K, Ld.known (Ld.truths b) = K := ⟨_, rfl⟩
    rw [hK] at hrow
    have HROW := Lib.hid hrow
    have HLT := Lib.hid hlt
    have HV := Lib.hid hv
    have HF := Lib.hid hfr
    have H0 := Lib.hid h0
    have HG := Lib.hid hG
    rw [h0]
    clear hT hrow hlt hbw hH hg hn hBn h0 hfr hK hne hv hp f0 f1 z0 z1 hG
    go_wp2_with (refine wpList_load_row rfl 86 (Operand.tmp 6) rfl n rfl 86 (rLg (.slice A0 b.tides.length c0) (.slice A1 b.sounds.length c1) (.map (some r)) (.slice A2 (Ld.truths b).length c2) b K) (0, 0) _ HROW.out Try.underlying86 rfl infoLg ?_)
    refine (height_any b _ _ _ r K q w' HLT.out HV.out hq (truths_len HV.out)).mono ?_
    rintro e w1 ⟨rfl, hB1⟩
    rw [HG.out]
    have hsp1 := (hB1.block _ (heap_lt hsp)).trans hsp
    have f0 : w1.frozen? ⟨w.heap.size + 1, 0, none⟩ = false := by simp [World.frozen?, hsp1]
    have f1 : w1.frozen? ⟨w.heap.size + 1, 1, none⟩ = false := by simp [World.frozen?, hsp1]
    have y0 := cell_of_row w1 _ 0 _ _ _ hsp1
    have y1 := cell_of_row w1 _ 1 _ _ _ hsp1
    simp only [List.getElem?_toArray, List.getElem?_cons_zero, List.getElem?_cons_succ] at y0 y1
    have HS1 := Lib.hid hsp1
    have HBE := Lib.hid (HBW.out.trans (hB1.mono HBW.out.size))
    clear hsp hsp1 hB1
    go_wp2_with fail
    refine name_post ?_
    intro V hV
    have hrow : V.heap[w.heap.size + 1]? = some (.cells #[I G.lo, I G.hi] 24 (0, 0)) := by rw [hV]; simp [World.setCell, Array.getElem?_modify, HS1.out]
    have hbV : Below w.heap.size w V := by rw [hV]; exact (HBE.out.setCell (by simp) _).setCell (by simp) _
    have hq : ∀ j : Nat, V.cell? ⟨w.heap.size + 1, j, none⟩ = #[I G.lo, I G.hi][j]? := fun j => cell_of_row V _ j _ _ _ hrow
    clear hV
    exact bodyPost_ret (v := .tuple #[vSp G, I 0]) (by simp [results, Try.results19, go_sem, hq]) rfl ⟨by rw [HF.out, H0.out], hbV⟩
  · have hfr : Ld.heightR b x = ⟨0, 0⟩ := by rw [Ld.heightR, if_neg h0]
    have hne : (Ld.studyE b (Ld.isHour b x) != 0) = true := by simpa using h0
    have hnd : (Ld.studyE b (Ld.isHour b x) == 0) = false := by simpa using h0
    have HF := Lib.hid hfr
    clear hT hrow hsp hbw hH hn hBn h0 hfr
    go_wp2_with fail
    refine bodyPost_ret (v := .tuple #[vSp ⟨0, 0⟩, I (Ld.studyE b (Ld.isHour b x))]) (by simp [results, Try.results19, go_sem, z0, z1]) rfl ⟨by rw [HF.out], ?_⟩
    repeat (refine Below.setCell ?_ (by simp) _)
    exact HBW.out
end Go.Proofs.Ytjgpghaofhcfnaa
