/- Texts on the program that the proof leans on, part 6. -/
import Derived.Test.YtkfahochpnggbaaGreatYae
import Derived.Test.YtkfahochpnggbaaGreatYaa
set_option linter.unusedVariables false
set_option linter.unusedSimpArgs false

/- Contracts of chain's ledger: how thick a section can be at first if all surveys of it are right. -/
namespace Go.Proofs.YtkfahochpnggbaaGreat
open Go.RowKit

set_option maxHeartbeats 2000000 in
set_option maxRecDepth 100000 in
theorem surveyed_any (b : Ch.Bk) (S T V M R : Value) (rule : Int) (wear : Nat → Int) (hw : Ch.WearOk wear) (s : Nat) (w : World) (hb : RB w w.heap.size b S T V) (hM : RM w w.heap.size b M) (hn : b.secs.length ≤ 4) (hdays : b.days ≤ 30) (hs : s < b.secs.length) (hsv : ∀ x ∈ b.svs, SvOk b x) (hm : b.svs.length ≤ 8) :
    Calls Tryz.prog 143 #[vLg S T V rule b.days M R, I s, vPl wear] w fun e w' => e = .returned (vSp (Ch.surveyed b wear s)) ∧ Below w.heap.size w w' := by
  obtain ⟨bl, off, c, hv, hbl, h0, h1, h2, h3⟩ := hb.sec hs
  subst hv
  obtain ⟨A2, c2, rfl⟩ := hb.svs.form
  have hbl1 : bl < w.heap.size + 1 := by omega
  have hbl2 : bl < w.heap.size + 1 + 1 := by omega
  have hbl3 : bl < w.heap.size + 1 + 1 + 1 := by omega
  go_enter Tryz.func143, Tryz.ntmps143
  go_wp2_with fail
  refine name_world ?_
  intro W0 hW
  have a0 : W0.cell? ⟨w.heap.size, 0, none⟩ = some (.slice (some ⟨bl, off, none⟩) b.secs.length c) := by rw [hW]; simp [go_sem]
  have a1 : W0.cell? ⟨w.heap.size, 1, none⟩ = some T := by rw [hW]; simp [go_sem]
  have a2 : W0.cell? ⟨w.heap.size, 2, none⟩ = some (.slice A2 b.svs.length c2) := by rw [hW]; simp [go_sem]
  have a3 : W0.cell? ⟨w.heap.size, 3, none⟩ = some (I rule) := by rw [hW]; simp [go_sem]
  have a4 : W0.cell? ⟨w.heap.size, 4, none⟩ = some (I b.days) := by rw [hW]; simp [go_sem]
  have a5 : W0.cell? ⟨w.heap.size, 5, none⟩ = some M := by rw [hW]; simp [go_sem]
  have a6 : W0.cell? ⟨w.heap.size, 6, none⟩ = some R := by rw [hW]; simp [go_sem]
  have p0 : W0.cell? ⟨w.heap.size + 1, 0, none⟩ = some (I (wear 0)) := by rw [hW]; simp [go_sem]
  have p1 : W0.cell? ⟨w.heap.size + 1, 1, none⟩ = some (I (wear 1)) := by rw [hW]; simp [go_sem]
  have p2 : W0.cell? ⟨w.heap.size + 1, 2, none⟩ = some (I (wear 2)) := by rw [hW]; simp [go_sem]
  have p3 : W0.cell? ⟨w.heap.size + 1, 3, none⟩ = some (I (wear 3)) := by rw [hW]; simp [go_sem]
  have z0 : W0.cell? ⟨w.heap.size + 1 + 1, 0, none⟩ = some (I 0) := by rw [hW]; simp [go_sem]
  have z1 : W0.cell? ⟨w.heap.size + 1 + 1, 1, none⟩ = some (I 0) := by rw [hW]; simp [go_sem]
  have y0 : W0.frozen? ⟨w.heap.size + 1 + 1, 0, none⟩ = false := by rw [hW]; simp [go_sem]
  have y1 : W0.frozen? ⟨w.heap.size + 1 + 1, 1, none⟩ = false := by rw [hW]; simp [go_sem]
  have hz : W0.heap.size = w.heap.size + 4 := by rw [hW]; simp
  have hF0 : W0.heap[w.heap.size + 1 + 1 + 1]? = some (.cells #[I b.secs[s].thick.lo, I b.secs[s].thick.hi] 51 (0, 0)) := by
    rw [hW]; exact heap_at _ _ (by simp)
  have hB0 : Below w.heap.size w W0 := by rw [hW]; exact ((((Below.refl _ _).alloc (Nat.le_refl _) _).alloc (by simp) _).alloc (by simp; omega) _).alloc (by simp; omega) _
  have hts : (b.secs.getD s ⟨⟨0, 0⟩, ⟨0, 0⟩⟩).thick = b.secs[s].thick := by simp [hs]
  have hsd : Ch.surveyed b wear s = Ch.surveyedL b wear s b.secs[s].thick b.svs := by unfold Ch.surveyed; rw [hts]
  have HTS := Lib.hid hsd
  clear hsd
  have HF0 := Lib.hid hF0
  clear hW hF0 hts h0 h1 h2 h3
  go_loopw [21] (fun i wr => ∃ k : Nat, k ≤ b.svs.length ∧ i = I k ∧ wr.heap[w.heap.size + 1 + 1 + 1]? = some (.cells #[I (Ch.surveyedL b wear s b.secs[s].thick (b.svs.take k)).lo, I (Ch.surveyedL b wear s b.secs[s].thick (b.svs.take k)).hi] 51 (0, 0)) ∧ Below (w.heap.size + 1 + 1 + 1) W0 wr) (fun i _ => b.svs.length - (intOf i).toNat)
  case atStart => exact ⟨0, Nat.zero_le _, rfl, HF0.out, Below.refl _ _⟩
  case round =>
    obtain ⟨k, hk, rfl, hF, hB⟩ := hrel
    have hz1 : w.heap.size + 1 + 1 + 1 < wr.heap.size := by have := hB.size; omega
    have hBw : Below w.heap.size w wr := hB0.trans (hB.mono (by omega))
    have hq : ∀ b o, b < w.heap.size + 1 + 1 + 1 → wr.cell? ⟨b, o, none⟩ = W0.cell? ⟨b, o, none⟩ := fun b o h => hB.cell (p := ⟨b, o, none⟩) h
    by_cases hlt : k < b.svs.length
    · obtain ⟨bl2, off2, c', hv, hbl', q0, q1, q2, q3⟩ := (hb.below hBw (Nat.le_refl _)).sv hlt
      injection hv with hA _ hc
      subst hA hc
      have hsn := Ch.surveyedL_snoc b wear s b.secs[s].thick (b.svs.take k) b.svs[k]
      rw [← List.take_succ_eq_append_getElem hlt] at hsn
      have hxo := hsv _ (List.getElem_mem hlt)
      by_cases hx : b.svs[k].sec = (s : Int)
      · rw [if_pos hx] at hsn
        have HS := Lib.hid hsn
        have HFF := Lib.hid hF
        have hxb : (b.svs[k].sec == (s : Int)) = true := by simp [hx]
        have HX := Lib.hid hx
        clear hsn hF hx
        go_wp2_with fail
        refine name_world ?_
        intro W hW
        have hcF : ∀ j, W.cell? ⟨w.heap.size + 1 + 1 + 1, j, none⟩ = #[I (Ch.surveyedL b wear s b.secs[s].thick (b.svs.take k)).lo, I (Ch.surveyedL b wear s b.secs[s].thick (b.svs.take k)).hi][j]? := fun j => by
          rw [hW]; exact (World.cell?_alloc_past _ _ _ hz1).trans (cell_of_row wr _ j _ _ _ HFF.out)
        have F0 : W.cell? ⟨w.heap.size + 1 + 1 + 1, 0, none⟩ = some (I (Ch.surveyedL b wear s b.secs[s].thick (b.svs.take k)).lo) := hcF 0
        have F1 : W.cell? ⟨w.heap.size + 1 + 1 + 1, 1, none⟩ = some (I (Ch.surveyedL b wear s b.secs[s].thick (b.svs.take k)).hi) := hcF 1
        have x0 : W.cell? ⟨wr.heap.size, 0, none⟩ = some (I b.svs[k].sec) := by rw [hW]; simp [go_sem]
        have x1 : W.cell? ⟨wr.heap.size, 1, none⟩ = some (I b.svs[k].day) := by rw [hW]; simp [go_sem]
        have x2 : W.cell? ⟨wr.heap.size, 2, none⟩ = some (I b.svs[k].read) := by rw [hW]; simp [go_sem]
        have x3 : W.cell? ⟨wr.heap.size, 3, none⟩ = some (I b.svs[k].err) := by rw [hW]; simp [go_sem]
        have hz2 : W.heap.size = wr.heap.size + 1 := by rw [hW]; simp
        have hqq : ∀ b o, b < w.heap.size + 1 + 1 + 1 → W.cell? ⟨b, o, none⟩ = W0.cell? ⟨b, o, none⟩ := fun b o h => by
          rw [hW]; exact (World.cell?_alloc_past _ _ _ (by omega)).trans (hq b o h)
        have hBW : Below (w.heap.size + 1 + 1 + 1) W0 W := by rw [hW]; exact hB.alloc (by omega) _
        have hBWF : Below wr.heap.size wr W := by rw [hW]; exact (Below.refl _ _).alloc (Nat.le_refl _) _
        have hM1 : RM W.drew W.drew.heap.size b M := (hM.below (hB0.trans ((hBW.mono (by omega)).trans (Below.refl _ _).drew)) (Nat.le_refl _)).more (by show _ ≤ W.heap.size; omega)
        have HM1 := Lib.hid hM1
        have hfz : W.heap[w.heap.size + 1 + 1 + 1]? = wr.heap[w.heap.size + 1 + 1 + 1]? := by rw [hW]; exact Below.heap_alloc _ _ _ hz1
        have fz0 : W.frozen? ⟨w.heap.size + 1 + 1 + 1, 0, none⟩ = false := by simp [World.frozen?, hfz, HFF.out]
        have fz1 : W.frozen? ⟨w.heap.size + 1 + 1 + 1, 1, none⟩ = false := by simp [World.frozen?, hfz, HFF.out]
        have HWF := Lib.hid (hfz.trans HFF.out)
        clear hfz
        have hlt0 : w.heap.size < w.heap.size + 1 + 1 + 1 := by omega
        have hlt1 : w.heap.size + 1 < w.heap.size + 1 + 1 + 1 := by omega
        clear hW hq hcF hM1
        have hxs : Hid (Ch.surveyedL b wear s b.secs[s].thick (b.svs.take (k + 1)) = Ch.meet (Ch.surveyedL b wear s b.secs[s].thick (b.svs.take k)) (Ch.read b wear b.svs[k])) := HS
        have hltF : w.heap.size + 1 + 1 + 1 < W.heap.size := by omega
        have hl0 : w.heap.size < W.heap.size := by omega
        have hl1 : w.heap.size + 1 < W.heap.size := by omega
        have hlr : wr.heap.size < W.heap.size := by omega
        have hner : wr.heap.size ≠ w.heap.size + 1 + 1 + 1 := by omega
        refine name_act ?_
        intro A hA
        refine wp_between (fun a' wx => (∃ u29 u30 u31 u32 u33 u34, a' = (((((A.put (some 29) u29).put (some 30) u30).put (some 31) u31).put (some 32) u32).put (some 33) u33).put (some 34) u34) ∧ wx.heap[w.heap.size + 1 + 1 + 1]? = some (.cells #[I (Ch.surveyedL b wear s b.secs[s].thick (b.svs.take (k + 1))).lo, I (Ch.surveyedL b wear s b.secs[s].thick (b.svs.take (k + 1))).hi] 51 (0, 0)) ∧ Below (w.heap.size + 1 + 1 + 1) W0 wx) ?first ?rest
        case first =>
          subst hA
          have hS0 : Apart (w.heap.size + 1 + 1 + 1) W W.drew := apart_start _ _
          refine wp_region_held_drew (S := fun w' => Apart (w.heap.size + 1 + 1 + 1) W w') (by kernel_rfl) hS0 (fun _ => ?_)
          refine wpAnyH_take (i := 1) (v := ?v1) rfl (by kernel_rfl) (by kernel_rfl) (by kernel_rfl) (fun _ _ _ h => h) (Or.inl ⟨by rfl, ?hy1⟩) hS0 ?r1
          case hy1 =>
            intro w' hSw
            have hq1 : ∀ b o, b < w.heap.size + 1 + 1 + 1 → w'.cell? ⟨b, o, none⟩ = W.cell? ⟨b, o, none⟩ := fun b o h => hSw.1 b o (by omega) (by omega)
            have hq2 : ∀ o, w'.cell? ⟨wr.heap.size, o, none⟩ = W.cell? ⟨wr.heap.size, o, none⟩ := fun o => hSw.1 _ o hlr hner
            clear hSw
            go_simp
            with_reducible rfl
          simp only [Act.put, List.setIfInBounds_toArray, List.set_cons_zero, List.set_cons_succ]
          refine wpAnyH_take (i := 2) (v := ?v2) rfl (by kernel_rfl) (by kernel_rfl) (by kernel_rfl) (fun _ _ _ h => h) (Or.inl ⟨by rfl, ?hy2⟩) hS0 ?r2
          case hy2 =>
            intro w' hSw
            have hq1 : ∀ b o, b < w.heap.size + 1 + 1 + 1 → w'.cell? ⟨b, o, none⟩ = W.cell? ⟨b, o, none⟩ := fun b o h => hSw.1 b o (by omega) (by omega)
            have hq2 : ∀ o, w'.cell? ⟨wr.heap.size, o, none⟩ = W.cell? ⟨wr.heap.size, o, none⟩ := fun o => hSw.1 _ o hlr hner
            clear hSw
            go_simp
            with_reducible rfl
          simp only [Act.put, List.setIfInBounds_toArray, List.set_cons_zero, List.set_cons_succ]
          refine wpAnyH_take (i := 3) (v := ?v3) rfl (by kernel_rfl) (by kernel_rfl) (by kernel_rfl) (fun _ _ _ h => h) (Or.inl ⟨by rfl, ?hy3⟩) hS0 ?r3
          case hy3 =>
            intro w' hSw
            have hq1 : ∀ b o, b < w.heap.size + 1 + 1 + 1 → w'.cell? ⟨b, o, none⟩ = W.cell? ⟨b, o, none⟩ := fun b o h => hSw.1 b o (by omega) (by omega)
            have hq2 : ∀ o, w'.cell? ⟨wr.heap.size, o, none⟩ = W.cell? ⟨wr.heap.size, o, none⟩ := fun o => hSw.1 _ o hlr hner
            clear hSw
            go_simp
            with_reducible rfl
          simp only [Act.put, List.setIfInBounds_toArray, List.set_cons_zero, List.set_cons_succ]
          have hFW : w.heap.size + 1 + 1 + 1 ≤ W.heap.size := by omega
          refine wpAnyH_ready (rs := [0, 4]) (by kernel_rfl) (by simp) ?_
          refine AllReadyH.cons rfl (fun K hK => ?_) (AllReadyH.cons rfl (fun K hK => ?_) AllReadyH.nil)
          · go_simp
            refine hK.out _ _ hS0 (fun _ => ?_)
            clear hK K
            try simp only [Act.put, List.setIfInBounds_toArray, List.set_cons_zero, List.set_cons_succ]
            refine wpAnyH_ready (rs := [4]) (by kernel_rfl) (by simp) ?_
            refine AllReadyH.cons rfl (fun K hK => ?_) AllReadyH.nil
            go_simp
            refine (read_any b _ T _ M R rule wear hw b.svs[k] _ HM1.out hn hdays hxo).mono ?_
            rintro e w1 ⟨rfl, hB1⟩
            have hS1 := apart_step hFW hB1 hS0
            refine hK.out _ _ hS1 (fun _ => ?_)
            clear hK K
            try simp only [Act.put, List.setIfInBounds_toArray, List.set_cons_zero, List.set_cons_succ]
            have G0 := (hB1.cell (p := ⟨w.heap.size + 1 + 1 + 1, 0, none⟩) hltF).trans F0
            have G1 := (hB1.cell (p := ⟨w.heap.size + 1 + 1 + 1, 1, none⟩) hltF).trans F1
            have hlF1 : w.heap.size + 1 + 1 + 1 < w1.heap.size := Nat.lt_of_lt_of_le hltF hB1.size
            have hH1 := (hB1.block _ hltF).trans HWF.out
            refine wpAnyH_ready (rs := [5]) (by kernel_rfl) (by simp) ?_
            refine AllReadyH.cons rfl (fun K hK => ?_) AllReadyH.nil
            go_simp
            refine (meet_any _ _ _ _ _).mono ?_
            rintro e w2 ⟨rfl, hB2⟩
            have hS2 := apart_step hFW hB2 hS1
            have G2 := (hB2.cell (p := ⟨w.heap.size + 1 + 1 + 1, 0, none⟩) hlF1).trans G0
            have G3 := (hB2.cell (p := ⟨w.heap.size + 1 + 1 + 1, 1, none⟩) hlF1).trans G1
            have hH2 := (hB2.block _ hlF1).trans hH1
            have H2 : w2.frozen? ⟨w.heap.size + 1 + 1 + 1, 0, none⟩ = false := by simp [World.frozen?, hH2]
            have H3 : w2.frozen? ⟨w.heap.size + 1 + 1 + 1, 1, none⟩ = false := by simp [World.frozen?, hH2]
            have HH2 := Lib.hid hH2
            clear hH2 hH1 G0 G1
            refine hK.out _ _ hS2 (fun _ => ?_)
            clear hK K
            try simp only [Act.put, List.setIfInBounds_toArray, List.set_cons_zero, List.set_cons_succ]
            refine wpAnyH_ready (rs := [6]) (by kernel_rfl) (by simp) ?_
            refine AllReadyH.cons rfl (fun K hK => ?_) AllReadyH.nil
            go_simp
            refine hK.out _ _ (apart_set (apart_set hS2 _ _) _ _) (fun _ => ?_)
            clear hK K
            refine wpAnyH_done (by kernel_rfl) ?_ _
            refine ⟨⟨_, _, _, _, _, _, rfl⟩, ?_, ?_⟩
            · rw [hxs.out]
              simp [World.setCell, Array.getElem?_modify, HH2.out, Ch.meet]
            · exact hBW.trans ((apart_set (apart_set hS2 _ _) _ _ : Apart _ W _).2.1)
          · go_simp
            refine (read_any b _ T _ M R rule wear hw b.svs[k] _ HM1.out hn hdays hxo).mono ?_
            rintro e w1 ⟨rfl, hB1⟩
            have hS1 := apart_step hFW hB1 hS0
            have G0 := (hB1.cell (p := ⟨w.heap.size + 1 + 1 + 1, 0, none⟩) hltF).trans F0
            have G1 := (hB1.cell (p := ⟨w.heap.size + 1 + 1 + 1, 1, none⟩) hltF).trans F1
            have hlF1 : w.heap.size + 1 + 1 + 1 < w1.heap.size := Nat.lt_of_lt_of_le hltF hB1.size
            have hH1 := (hB1.block _ hltF).trans HWF.out
            refine hK.out _ _ hS1 (fun _ => ?_)
            clear hK K
            try simp only [Act.put, List.setIfInBounds_toArray, List.set_cons_zero, List.set_cons_succ]
            refine wpAnyH_ready (rs := [0]) (by kernel_rfl) (by simp) ?_
            refine AllReadyH.cons rfl (fun K hK => ?_) AllReadyH.nil
            go_simp
            refine hK.out _ _ hS1 (fun _ => ?_)
            clear hK K
            try simp only [Act.put, List.setIfInBounds_toArray, List.set_cons_zero, List.set_cons_succ]
            refine wpAnyH_ready (rs := [5]) (by kernel_rfl) (by simp) ?_
            refine AllReadyH.cons rfl (fun K hK => ?_) AllReadyH.nil
            go_simp
            refine (meet_any _ _ _ _ _).mono ?_
            rintro e w2 ⟨rfl, hB2⟩
            have hS2 := apart_step hFW hB2 hS1
            have G2 := (hB2.cell (p := ⟨w.heap.size + 1 + 1 + 1, 0, none⟩) hlF1).trans G0
            have G3 := (hB2.cell (p := ⟨w.heap.size + 1 + 1 + 1, 1, none⟩) hlF1).trans G1
            have hH2 := (hB2.block _ hlF1).trans hH1
            have H2 : w2.frozen? ⟨w.heap.size + 1 + 1 + 1, 0, none⟩ = false := by simp [World.frozen?, hH2]
            have H3 : w2.frozen? ⟨w.heap.size + 1 + 1 + 1, 1, none⟩ = false := by simp [World.frozen?, hH2]
            have HH2 := Lib.hid hH2
            clear hH2 hH1 G0 G1
            refine hK.out _ _ hS2 (fun _ => ?_)
            clear hK K
            try simp only [Act.put, List.setIfInBounds_toArray, List.set_cons_zero, List.set_cons_succ]
            refine wpAnyH_ready (rs := [6]) (by kernel_rfl) (by simp) ?_
            refine AllReadyH.cons rfl (fun K hK => ?_) AllReadyH.nil
            go_simp
            refine hK.out _ _ (apart_set (apart_set hS2 _ _) _ _) (fun _ => ?_)
            clear hK K
            refine wpAnyH_done (by kernel_rfl) ?_ _
            refine ⟨⟨_, _, _, _, _, _, rfl⟩, ?_, ?_⟩
            · rw [hxs.out]
              simp [World.setCell, Array.getElem?_modify, HH2.out, Ch.meet]
            · exact hBW.trans ((apart_set (apart_set hS2 _ _) _ _ : Apart _ W _).2.1)
        case rest =>
          rintro a' wx ⟨⟨u29, u30, u31, u32, u33, u34, rfl⟩, hF6, hB6⟩
          subst hA
          clear hqq F0 F1 x0 x1 x2 x3 fz0 fz1 hBW hBWF
          simp only [Act.put, List.setIfInBounds_toArray, List.set_cons_zero, List.set_cons_succ]
          have HF6 := Lib.hid hF6
          clear hF6
          go_wp2_with fail
          go_roundw
          case rel => exact ⟨k + 1, by omega, by go_num, HF6.out, hB6⟩
          case measure => simp [intOf]; omega
      · rw [if_neg hx] at hsn
        have HS := Lib.hid hsn
        have HFF := Lib.hid hF
        have hxb : (b.svs[k].sec == (s : Int)) = false := by simp [hx]
        clear hsn hF hx
        go_wp2_with fail
        go_roundw
        case rel => exact ⟨k + 1, by omega, by go_num, by rw [HS.out]; exact (Below.heap_alloc _ _ _ hz1).trans HFF.out, hB.alloc (by omega) _⟩
        case measure => simp [intOf]; omega
    · obtain rfl : k = b.svs.length := by omega
      rw [List.take_length] at hF
      have hfc : ∀ j, wr.cell? ⟨w.heap.size + 1 + 1 + 1, j, none⟩ = _ := fun j => cell_of_row wr _ j _ _ _ hF
      have g0 := hfc 0
      have g1 := hfc 1
      simp at g0 g1
      have zz0 := (hq (w.heap.size + 1 + 1) 0 (by omega)).trans z0
      have zz1 := (hq (w.heap.size + 1 + 1) 1 (by omega)).trans z1
      have yy0 : wr.frozen? ⟨w.heap.size + 1 + 1, 0, none⟩ = false := (hB.frozen (p := ⟨w.heap.size + 1 + 1, 0, none⟩) (Nat.lt_succ_self _)).trans y0
      have yy1 : wr.frozen? ⟨w.heap.size + 1 + 1, 1, none⟩ = false := (hB.frozen (p := ⟨w.heap.size + 1 + 1, 1, none⟩) (Nat.lt_succ_self _)).trans y1
      clear hfc hF hq
      go_wp2_with fail
      refine bodyPost_ret (v := vSp (Ch.surveyedL b wear s b.secs[s].thick b.svs)) (by simp [results, Tryz.results143, go_sem, zz0, zz1]) rfl ⟨by rw [HTS.out], ?_⟩
      exact (hBw.setCell (by simp; omega) _).setCell (by simp; omega) _

end Go.Proofs.YtkfahochpnggbaaGreat

/- Contracts of chain's ledger: settled; lay. -/
namespace Go.Proofs.YtkfahochpnggbaaGreat
open Go.RowKit

def settledL (n p : Int) : List Int := if p < n - 1 - p then [] else [n - 1 - p, p]

set_option maxHeartbeats 1000000 in
theorem settled_any (n : Nat) (A : Option Addr) (c : Nat) (T V M R : Value) (rule days : Int) (p : Int) (w : World) (h0 : 0 ≤ p) (h1 : p < n) (hn : n ≤ 4) :
    Calls Tryz.prog 142 #[vLg (.slice A n c) T V rule days M R, I p] w fun e w' => (∃ v, e = .returned v ∧ Sl w' w'.heap.size 1 v (settledL n p).length ((settledL n p).map I)) ∧ Below w.heap.size w w' := by
  have hB : Below w.heap.size w (w.alloc (cLg (.slice A n c) T V rule days M R)) := (Below.refl _ _).alloc (Nat.le_refl _) _
  by_cases h : p < n - 1 - p
  · have hs : settledL n p = [] := by simp [settledL, h]
    have HS := Lib.hid hs
    clear hs
    go_enter Tryz.func142, Tryz.ntmps142
    go_wp2_with fail
    refine (across_any n A c T V M R rule days p _ h0 h1 hn).mono ?_
    rintro e w1 ⟨rfl, hB1⟩
    go_wp2_with fail
    go_ret
    refine ⟨⟨_, rfl, ?_⟩, hB.trans (hB1.mono (by simp))⟩
    rw [HS.out]
    exact ⟨rfl, none, 0, rfl, Nat.le_refl _, by unfold maxLen; omega, fun h => by simp at h⟩
  · have hs : settledL n p = [(n : Int) - 1 - p, p] := by simp [settledL, h]
    have HS := Lib.hid hs
    clear hs
    go_enter Tryz.func142, Tryz.ntmps142
    go_wp2_with fail
    refine (across_any n A c T V M R rule days p _ h0 h1 hn).mono ?_
    rintro e w1 ⟨rfl, hB1⟩
    have hb1 := hB.trans (hB1.mono (by simp))
    go_wp2_with fail
    go_ret
    refine ⟨⟨_, rfl, ?_⟩, hb1.alloc hb1.size _⟩
    rw [HS.out]
    refine ⟨rfl, _, _, rfl, Nat.le_refl _, by unfold maxLen; simp, fun _ => ⟨w1.heap.size, 0, rfl, by simp, fun j u hu => ?_⟩⟩
    match j, hu with
    | 0, hu => simpa using hu
    | 1, hu => simpa using hu

theorem RM.same {w w' : World} {B : Nat} {b : Ch.Bk} {r : Nat} (h : RM w B b (.map (some r))) (hh : w'.heap[r]? = w.heap[r]?) : RM w' B b (.map (some r)) := by
  obtain ⟨r', es, clock, hM, hr, h0, h1, h2⟩ := h
  injection hM with hM
  injection hM with hM
  subst hM
  exact ⟨r, es, clock, rfl, hr, hh.trans h0, h1, h2⟩

set_option maxHeartbeats 1000000 in
theorem lay_any (b : Ch.Bk) (S T V : Value) (w : World) (hb : RB w w.heap.size b S T V) (hn : b.secs.length ≤ 4) (hd0 : 0 ≤ b.days) (hd : b.days ≤ 30) :
    Calls Tryz.prog 76 #[vBk S T V b.rule b.days] w fun e w' => (∃ M, e = .returned (vLg S T V b.rule b.days M (.slice none 0 0)) ∧ RM w' w'.heap.size b M) ∧ Below w.heap.size w w' := by
  obtain ⟨A, c, rfl⟩ := hb.secs.form
  obtain ⟨A1, c1, rfl⟩ := hb.turns.form
  obtain ⟨A2, c2, rfl⟩ := hb.svs.form
  go_enter Tryz.func76, Tryz.ntmps76
  go_wp2_with fail
  have hB0 : Below w.heap.size w (((w.alloc (.cells #[.slice A b.secs.length c, .slice A1 b.turns.length c1, .slice A2 b.svs.length c2, I b.rule, I b.days] 26)).alloc (cLg (.slice none 0 0) (.slice none 0 0) (.slice none 0 0) 0 0 (.map none) (.slice none 0 0))).alloc (cLg (.slice A b.secs.length c) (.slice A1 b.turns.length c1) (.slice A2 b.svs.length c2) b.rule b.days (.map none) (.slice none 0 0))) :=
    (((Below.refl _ _).alloc (Nat.le_refl _) _).alloc (by simp) _).alloc (by simp; omega) _
  refine (allLain_any b _ _ _ _ _ b.rule _ ((hb.below hB0 (Nat.le_refl _)).more hB0.size) hn hd0 hd).mono ?_
  rintro e w1 ⟨⟨M, rfl, hM⟩, hB1⟩
  obtain ⟨r, es, clock, rfl, hr, hrest⟩ := hM
  have hM : RM w1 w1.heap.size b (.map (some r)) := ⟨r, es, clock, rfl, hr, hrest⟩
  clear hrest hr
  have hz : w.heap.size + 1 + 1 < w1.heap.size := by have := hB1.size; simp at this; omega
  have hb1 : Below w.heap.size w w1 := hB0.trans (hB1.mono hB0.size)
  have e2 : w1.heap[w.heap.size + 1 + 1]? = some (cLg (.slice A b.secs.length c) (.slice A1 b.turns.length c1) (.slice A2 b.svs.length c2) b.rule b.days (.map none) (.slice none 0 0)) := (hB1.block _ (by simp)).trans (heap_at _ _ (by simp))
  have e1 : w1.heap[w.heap.size + 1]? = some (cLg (.slice none 0 0) (.slice none 0 0) (.slice none 0 0) 0 0 (.map none) (.slice none 0 0)) := (hB1.block _ (by simp)).trans ((Below.heap_alloc _ _ _ (by simp)).trans (heap_at _ _ (by simp)))
  have f2 : ∀ j, w1.frozen? ⟨w.heap.size + 1 + 1, j, none⟩ = false := fun j => by simp [World.frozen?, e2]
  have f1 : ∀ j, w1.frozen? ⟨w.heap.size + 1, j, none⟩ = false := fun j => by simp [World.frozen?, e1]
  have g2 : ∀ j, w1.cell? ⟨w.heap.size + 1 + 1, j, none⟩ = #[.slice A b.secs.length c, .slice A1 b.turns.length c1, .slice A2 b.svs.length c2, I b.rule, I b.days, .map none, .slice none 0 0][j]? := fun j => cell_of_row w1 _ j _ _ _ e2
  have g1 : ∀ j, w1.cell? ⟨w.heap.size + 1, j, none⟩ = #[.slice none 0 0, .slice none 0 0, .slice none 0 0, I 0, I 0, .map none, .slice none 0 0][j]? := fun j => cell_of_row w1 _ j _ _ _ e1
  have ne2 : ¬ w.heap.size + 1 + 1 = r := fun e => by obtain ⟨r', es', cl', hM1, _, hM2, _⟩ := hM; injection hM1 with hM1; injection hM1 with hM1; subst hM1; rw [← e, e2] at hM2; cases hM2
  have ne1 : ¬ w.heap.size + 1 = r := fun e => by obtain ⟨r', es', cl', hM1, _, hM2, _⟩ := hM; injection hM1 with hM1; injection hM1 with hM1; subst hM1; rw [← e, e1] at hM2; cases hM2
  clear e1 e2
  have HM := Lib.hid hM
  clear hM
  go_wp2_with fail
  refine bodyPost_ret (v := vLg (.slice A b.secs.length c) (.slice A1 b.turns.length c1) (.slice A2 b.svs.length c2) b.rule b.days (.map (some r)) (.slice none 0 0)) ?_ rfl ⟨⟨_, rfl, ?_⟩, ?_⟩
  · simp [results, Tryz.results76, go_sem, g1, g2]
  · refine (HM.out.same ?_).more (by simp)
    simp [World.setCell, Array.getElem?_modify, ne1, ne2]
  · repeat (refine Below.setCell ?_ (by simp <;> omega) _)
    exact hb1

end Go.Proofs.YtkfahochpnggbaaGreat

/- The layer of chains, as plain mathematics: the truths of a book, one after the other, as they are produced. Imports nothing of the program. -/
namespace Go.Proofs.YtkfahochpnggbaaGreat.Ch

/-- What places wear, and how thick sections can be at first. -/
structure Tr where
  wear : Nat → Int
  first : Nat → Sp
def upd {α : Type} (f : Nat → α) (i : Nat) (x : α) : Nat → α := fun j => if j = i then x else f j
def Tr.setWear (t : Tr) (p : Nat) (v : Int) : Tr := ⟨upd t.wear p v, t.first⟩
def Tr.setFirst (t : Tr) (s : Nat) (v : Sp) : Tr := ⟨t.wear, upd t.first s v⟩
/-- The sections that can lie in this place, and in no later one. -/
def settledN (n p : Nat) : List Nat := if p < n - 1 - p then [] else [n - 1 - p, p]
/-- Sections are held against their surveys, one after the other, until one cannot be. -/
def settle (b : Bk) (t : Tr) : List Nat → Tr × Bool
  | [] => (t, true)
  | s :: r =>
    let t' := t.setFirst s (surveyed b t.wear s)
    if isEmpty (surveyed b t.wear s) then (t', false) else settle b t' r
/-- One wear of one place, and all that follows from it. -/
def tryWear (b : Bk) (next : Tr → List Tr × Tr) (p : Nat) (t : Tr) (v : Int) : List Tr × Tr :=
  let r := settle b (t.setWear p v) (settledN b.secs.length p)
  if r.2 then next r.1 else ([], r.1)
/-- So many wears of one place, from one on. -/
def wearLoop (b : Bk) (next : Tr → List Tr × Tr) (p : Nat) (lo : Int) : Nat → Tr → List Tr × Tr
  | 0, t => ([], t)
  | k + 1, t =>
    let r := wearLoop b next p lo k t
    let r' := tryWear b next p r.2 (lo + k)
    (r.1 ++ r'.1, r'.2)
def secAt (b : Bk) (p : Nat) : Sec := b.secs.getD p ⟨⟨0, 0⟩, ⟨0, 0⟩⟩
def wears (b : Bk) (p : Nat) : Nat := ((secAt b p).wear.hi - (secAt b p).wear.lo + 1).toNat
/-- All truths, m places being left; and what is left behind. -/
def worn (b : Bk) : Nat → Tr → List Tr × Tr
  | 0, t => ([t], t)
  | m + 1, t => wearLoop b (worn b m) (b.secs.length - (m + 1)) (secAt b (b.secs.length - (m + 1))).wear.lo (wears b (b.secs.length - (m + 1))) t
def noTr : Tr := ⟨fun _ => 0, fun _ => ⟨0, 0⟩⟩
def truths (b : Bk) : List Tr := (worn b b.secs.length noTr).1

theorem settle_wear (b : Bk) (t : Tr) (l : List Nat) : (settle b t l).1.wear = t.wear := by
  induction l generalizing t with
  | nil => rfl
  | cons s r ih =>
    simp only [settle]
    split
    · rfl
    · exact ih _
theorem wearOk_upd {f : Nat → Int} (h : WearOk f) (p : Nat) {v : Int} (h0 : 0 ≤ v) (h1 : v ≤ 3) : WearOk (upd f p v) := by
  intro q
  unfold upd
  split
  · exact ⟨h0, h1⟩
  · exact h q
/-- A book whose wears are small, as a valid one's are. -/
def SecsOk (b : Bk) : Prop := ∀ s ∈ b.secs, 0 ≤ s.wear.lo ∧ s.wear.lo ≤ s.wear.hi ∧ s.wear.hi ≤ 3 ∧ 0 ≤ s.thick.lo ∧ s.thick.lo ≤ s.thick.hi ∧ s.thick.hi ≤ 200
theorem secAt_ok {b : Bk} (h : SecsOk b) (p : Nat) : 0 ≤ (secAt b p).wear.lo ∧ (secAt b p).wear.lo ≤ (secAt b p).wear.hi ∧ (secAt b p).wear.hi ≤ 3 := by
  unfold secAt
  rcases Nat.lt_or_ge p b.secs.length with hp | hp
  · have := h _ (List.getElem_mem hp)
    simp [hp]
    omega
  · simp [hp]
theorem tryWear_ok {b : Bk} {next : Tr → List Tr × Tr} (hn : ∀ t, WearOk t.wear → WearOk (next t).2.wear) (p : Nat) (t : Tr) (v : Int) (ht : WearOk t.wear) (h0 : 0 ≤ v) (h1 : v ≤ 3) : WearOk (tryWear b next p t v).2.wear := by
  have hs : WearOk (settle b (t.setWear p v) (settledN b.secs.length p)).1.wear := by rw [settle_wear]; exact wearOk_upd ht p h0 h1
  simp only [tryWear]
  split
  · exact hn _ hs
  · exact hs
theorem wearLoop_ok {b : Bk} {next : Tr → List Tr × Tr} (hn : ∀ t, WearOk t.wear → WearOk (next t).2.wear) (p : Nat) (lo : Int) (k : Nat) (t : Tr) (ht : WearOk t.wear) (h0 : 0 ≤ lo) (h1 : lo + k ≤ 4) : WearOk (wearLoop b next p lo k t).2.wear := by
  induction k with
  | zero => exact ht
  | succ k ih => exact tryWear_ok hn p _ _ (ih (by omega)) (by omega) (by omega)
theorem worn_ok {b : Bk} (h : SecsOk b) (m : Nat) (t : Tr) (ht : WearOk t.wear) : WearOk (worn b m t).2.wear := by
  induction m generalizing t with
  | zero => exact ht
  | succ m ih =>
    have := secAt_ok h (b.secs.length - (m + 1))
    exact wearLoop_ok (fun t ht => ih t ht) _ _ _ t ht (by omega) (by unfold wears; omega)

end Go.Proofs.YtkfahochpnggbaaGreat.Ch
