/- Texts on the program that the proof leans on, part 30. -/
import Derived.Test.YtkfahochpnggbaaGreatYbc
import Derived.Test.YtkfahochpnggbaaGreatYax
set_option linter.unusedVariables false
set_option linter.unusedSimpArgs false

/- Contracts of reckon's Lists, and of Fewest at chain's question which surveys must be wrong. -/
namespace Go.Proofs.YtkfahochpnggbaaGreat
open Go.RowKit
attribute [local go_sem] Oper.semAt_some

/-- The marks that ranges over functions leave among what is deferred. -/
def marksOf (Ds : List Nat) : List Deferred := Ds.map fun D => { target := .collected D, args := #[] }
def MarksOk (B : Nat) (Ds : List Nat) (W : World) : Prop := Ds.Nodup ∧ ∀ D ∈ Ds, B ≤ D ∧ W.heap[D]? = some (.deferred (some []))
theorem MarksOk.below {B : Nat} {Ds : List Nat} {W W' : World} (h : MarksOk B Ds W) (hb : Below W.heap.size W W') : MarksOk B Ds W' :=
  ⟨h.1, fun D hD => ⟨(h.2 D hD).1, (hb.block D (heap_lt (h.2 D hD).2)).trans (h.2 D hD).2⟩⟩
theorem MarksOk.more {B D : Nat} {Ds : List Nat} {W : World} (h : MarksOk B Ds W) (hD : B ≤ D) (hn : D ∉ Ds) (hr : W.heap[D]? = some (.deferred (some []))) : MarksOk B (D :: Ds) W :=
  ⟨List.nodup_cons.2 ⟨hn, h.1⟩, fun E hE => by rcases List.mem_cons.1 hE with rfl | hE; exact ⟨hD, hr⟩; exact h.2 E hE⟩
/-- They are taken up one after the other. -/
theorem leaves_marks {fn : Func} {tmps : Array Value} {R : Ending → World → Prop} {B : Nat} (Ds : List Nat) : ∀ (W : World), MarksOk B Ds W →
    (∀ W', Below B W W' → (∀ k : Nat, (∀ ds : Option (List Deferred), W.heap[k]? ≠ some (Obj.deferred ds)) → W'.heap[k]? = W.heap[k]?) → LeavesInM Fence.wide 1 Tryz.prog fn tmps R [] .returning W') →
    LeavesInM Fence.wide 1 Tryz.prog fn tmps R (marksOf Ds) .returning W := by
  induction Ds with
  | nil => intro W _ h; exact h W (Below.refl _ _) (fun _ _ => rfl)
  | cons D Ds ih =>
    intro W hm h
    obtain ⟨hn, hr⟩ := hm
    obtain ⟨hD, hDs⟩ := List.nodup_cons.1 hn
    have hrow := (hr D (List.mem_cons_self ..)).2
    have hBD := (hr D (List.mem_cons_self ..)).1
    refine ⟨by simp, .inl ⟨_, _, rfl, run_takeDeferred hrow, ih _ ⟨hDs, fun E hE => ⟨(hr E (List.mem_cons_of_mem _ hE)).1, (putObj_other _ (fun e => hD (by rw [← e]; exact hE))).trans (hr E (List.mem_cons_of_mem _ hE)).2⟩⟩ (fun W' hb hk => h W' ?_ ?_)⟩⟩
    · exact (Below.putO (Below.refl _ _) hBD _).trans hb
    · intro k hc
      have hkD : k ≠ D := fun e => hc _ (by rw [e]; exact hrow)
      exact (hk k (fun ds => by rw [putObj_other _ hkD]; exact hc ds)).trans (putObj_other _ hkD)

set_option maxHeartbeats 400000 in
theorem Lists_any (n : Int) (w : World) :
    Calls Tryz.prog 112 #[I n] w fun e w' => e = .returned (.func (.func 144) #[] #[vPtr w.heap.size]) ∧ w' = w.alloc (.cells #[I n] 3) := by
  go_enter Tryz.func112, Tryz.ntmps112
  go_wp2_with fail
  go_ret
  exact ⟨rfl, rfl⟩

set_option maxHeartbeats 2000000 in
theorem Lists1_iter (F : List Int → Bool) (n nb : Nat) (hn : n ≤ 50) (P : Nat → Prop) (Z : Value → World → Prop) (W : World) (l : Nat) (hf : Foot W P Z) (hY : ∀ d, RoundL F (XO P Z) W W.heap.size l d)
    (hnb : W.heap[nb]? = some (.cells #[I n] 3 (0, 0))) :
    Calls Tryz.prog 144 #[.func (.yield l) #[] #[], vPtr nb] W (IterPost F P Z W (Ch.fewest n F (n + 1))) := by
  have lnb := heap_lt hnb
  have q0 := cell_of_row W nb 0 #[I n] 3 (0, 0) hnb
  simp only [List.getElem?_toArray, List.getElem?_cons_zero] at q0
  have hn1 : IntKind.i64.wrap ((n : Int) + 1) = (n : Int) + 1 := IntWalk.i64_in _ (by omega)
  have HY := Lib.hid hY
  have HF := Lib.hid hf
  have HNB := Lib.hid hnb
  clear hY hf hnb
  refine (callsIn_wide (n := 1)).1 ?_
  refine callsIn_of_wp_marks Tryz.func144 rfl trivial ?_ rfl
  simp only [Tryz.ntmps144, List.size_toArray, List.length_cons, List.length_nil, Nat.reduceAdd, Nat.reduceSub, Array.replicate_succ, Array.replicate_zero, List.push_toArray, List.append_toArray, List.nil_append, List.cons_append]
  refine wpIn_wide.2 ?_
  go_wp2_with fail
  refine name_world ?_
  intro W1 hW1
  have hb1 : Below W.heap.size W W1 := by rw [hW1]; exact (Below.refl _ _).alloc (Nat.le_refl _) _
  have hy1 : W1.heap[W.heap.size]? = some (.cells #[.func (.yield l) #[] #[]] 98 (0, 0)) := by rw [hW1]; exact heap_at _ _ rfl
  have hz1 : W1.heap.size = W.heap.size + 1 := by rw [hW1]; simp
  have hn2 : W1.heap[nb]? = some (.cells #[I n] 3 (0, 0)) := (hb1.block _ lnb).trans HNB.out
  have HY1 := Lib.hid hy1
  have HN2 := Lib.hid hn2
  have HB1 := Lib.hid hb1
  clear hW1 q0 hy1 hn2 hb1
  refine wp_loop (fun a' w' => ∃ (k : Nat) (Ds : List Nat) (u3 u4 u8 u9 u10 u11 u12 u13 u14 u15 u16 u17 u18 : Value), k ≤ n + 1 ∧ a' = { tmps := #[.func (.yield l) #[] #[], vPtr nb, vPtr W.heap.size, u3, u4, I n, I (n + 1), I k, u8, u9, u10, u11, u12, u13, u14, u15, u16, u17, u18], defers := marksOf Ds } ∧ Below (W.heap.size + 1) W1 w' ∧ MarksOk (W.heap.size + 1) Ds w' ∧ Ch.fewest n F k = none) (fun a' _ => n + 1 - (intOf (a'.tmps.getD 7 undef)).toNat) ?start ?round
  case start => exact ⟨0, [], _, _, _, _, _, _, _, _, _, _, _, _, _, Nat.zero_le _, rfl, Below.refl _ _, ⟨List.nodup_nil, fun D hD => by simp at hD⟩, rfl⟩
  case round =>
    rintro a' w' ⟨k, Ds, u3, u4, u8, u9, u10, u11, u12, u13, u14, u15, u16, u17, u18, hk, rfl, hB, hM, hN⟩
    have hzw := hB.size
    have rn := (hB.block nb (by omega)).trans HN2.out
    have ry := (hB.block W.heap.size (by omega)).trans HY1.out
    have hbw : Below W.heap.size W w' := HB1.out.trans (hB.mono (by omega))
    have hnw : nb < w'.heap.size := by omega
    have qn := cell_of_row w' nb 0 #[I n] 3 (0, 0) rn
    simp only [List.getElem?_toArray, List.getElem?_cons_zero] at qn
    have HB := Lib.hid hB
    have HM := Lib.hid hM
    have HN := Lib.hid hN
    have HBW := Lib.hid hbw
    have RY := Lib.hid ry
    clear hB hM hN hbw ry rn
    by_cases hlt : k < n + 1
    · have hki : (k : Int) < (n : Int) + 1 := by omega
      go_wp2_with fail
      refine (lists_any n k _).mono ?_
      rintro e w2 ⟨rfl, rfl⟩
      go_wp2_with fail
      have hbb : Below w'.heap.size w' ((w'.alloc (.cells #[I n] 3)).alloc (.cells #[I k] 3)) := ((Below.refl _ _).alloc (Nat.le_refl _) _).alloc (by simp) _
      have hb2 : Below W.heap.size W ((w'.alloc (.cells #[I n] 3)).alloc (.cells #[I k] 3)) := HBW.out.trans (hbb.mono HBW.out.size)
      have hz2 : ((w'.alloc (.cells #[I n] 3)).alloc (.cells #[I k] 3)).heap.size = w'.heap.size + 2 := by simp
      have HB2 := Lib.hid hb2
      have HBB := Lib.hid hbb
      have HZ2 := Lib.hid hz2
      clear hb2 hbb hz2
      refine (wpIn_wide (n := 1)).1 (range_lists F ((Ch.listsOf n k).find? F) P Z (HF.out.mono HB2.out) (w'.heap.size + 1) w'.heap.size rfl rfl ?iter (fun sl a' => ∃ v8 v9 v10 v11 v12 v13 v14 v15 v16 v17 v18 : Value, a' = { tmps := #[.func (.yield l) #[] #[], vPtr nb, vPtr W.heap.size, I k, sl, I n, I (n + 1), I k, v8, v9, v10, v11, v12, v13, v14, v15, v16, v17, v18], defers := [] }) ?assign ?body ?done ?stop)
      case iter =>
        intro P' Z' W2 l2 hbW hf2 hY2
        refine lists1_iter F n k _ _ (by omega) (by omega) P' Z' W2 l2 hf2 hY2 ((hbW.block _ (by simp)).trans (heap_at _ _ (by simp))) ((hbW.block _ (by simp; omega)).trans ((Below.heap_alloc _ _ _ (by simp)).trans (heap_at _ _ rfl)))
      case assign =>
        intro l2 d sl W2 K hK
        gi_wp2_with fail
        exact ⟨_, _, _, _, _, _, _, _, _, _, _, rfl⟩
      case body =>
        rintro l2 d x sl a' W2 ⟨v8, v9, v10, v11, v12, v13, v14, v15, v16, v17, v18, rfl⟩ hbW hsl
        have hlow : Below W.heap.size W W2 := HB2.out.trans (hbW.mono HB2.out.size)
        obtain ⟨fn, tm, asg, bd, hy, hR⟩ := HY.out (d - 1) x sl W2 hlow hlow.size hsl
        obtain ⟨As, cs, rfl⟩ := hsl.form
        have hrow := (hbW.block W.heap.size (by rw [HZ2.out]; have := heap_lt RY.out; omega)).trans ((HBB.out.block _ (heap_lt RY.out)).trans RY.out)
        have e0 := cell_of_row W2 _ 0 _ _ _ hrow
        simp only [List.getElem?_toArray, List.getElem?_cons_zero] at e0
        have HR := Lib.hid hR
        clear hbW hlow hsl hrow hR
        gi_wp2_with fail
        refine ⟨fun h => by simp [Fence.wide] at h, RoundIn.mono (show RoundIn (Fence.wide.inRound l2) (d - 1) Tryz.prog l fn tm asg bd W2 _ from HR.out) ?_⟩
        rintro e w3 ⟨rfl, hA⟩
        unfold After at hA
        clear hy e0
        cases hF : F x
        · rw [hF, if_neg (by simp)] at hA
          have HFX := Lib.hid hF
          have HA := Lib.hid hA
          clear hF hA
          gi_wp2_with fail
          exact ⟨HFX.out, HA.out⟩
        · rw [hF, if_pos rfl] at hA
          have HFX := Lib.hid hF
          have HA := Lib.hid hA
          clear hF hA
          gi_wp2_with fail
          exact ⟨HFX.out, HA.out⟩
      case done =>
        rintro D W2 hD hnone hbW hrow
        have HNO := Lib.hid hnone
        have HBWW := Lib.hid hbW
        have HROW := Lib.hid hrow
        rw [HZ2.out] at hD
        clear hnone hbW hrow
        go_wp2_with fail
        have hbw2 : Below w'.heap.size w' W2 := HBB.out.trans (HBWW.out.mono (by rw [HZ2.out]; omega))
        refine ⟨⟨k + 1, D :: Ds, _, _, _, _, _, _, _, _, _, _, _, _, _, by omega, rfl, HB.out.trans (hbw2.mono (by omega)), (HM.out.below hbw2).more (by omega) (fun hin => ?_) HROW.out, ?_⟩, ?_⟩
        · have := heap_lt (HM.out.2 D hin).2
          omega
        · simp only [Ch.fewest, HN.out, HNO.out]
        · simp [intOf]; omega
      case stop =>
        rintro D x sl W2 hD hsome hO hZ hsl hrow
        rw [HZ2.out] at hD
        have hfew : Ch.fewest n F (n + 1) = some x := by
          have h1 : Ch.fewest n F (k + 1) = some x := by simp only [Ch.fewest, HN.out]; exact hsome
          have := Ch.fewest_some h1 (n - k)
          rwa [show k + 1 + (n - k) = n + 1 by omega] at this
        have hmk : MarksOk (W.heap.size + 1) (D :: Ds) W2 := by
          have h2 : MarksOk (W.heap.size + 1) Ds W2 := ⟨HM.out.1, fun E hE => ⟨(HM.out.2 E hE).1, by
            have hr := (HM.out.2 E hE).2
            have hE3 := (HM.out.2 E hE).1
            exact (hO.keep E (by rw [HZ2.out]; have := heap_lt hr; omega) (fun hP => by have := HF.out.lt E hP; omega)).trans ((HBB.out.block E (heap_lt hr)).trans hr)⟩⟩
          refine h2.more (by omega) (fun hin => ?_) hrow
          have := heap_lt (HM.out.2 D hin).2
          omega
        obtain ⟨As, cs, rfl⟩ := hsl.form
        have HFEW := Lib.hid hfew
        have HMK := Lib.hid hmk
        have HO := Lib.hid hO
        have HZ := Lib.hid hZ
        have HSL := Lib.hid hsl
        clear hfew hmk hO hZ hsl hsome hrow
        refine wpIn_wide.2 ?_
        go_wp2_with fail
        refine leaves_marks (D :: Ds) W2 HMK.out (fun W' hbW hk => ?_)
        have hs2 := HO.out.size
        refine ⟨_, results_none rfl _ _ _, ⟨_, rfl⟩, .inr ⟨x, .slice As x.length cs, HFEW.out, ⟨hbW.os.trans (HO.out.os.trans HB2.out.os), hbW.tape.trans (HO.out.tape.trans HB2.out.tape), hbW.output.trans (HO.out.output.trans HB2.out.output), Nat.le_trans HB2.out.size (Nat.le_trans hs2 hbW.size), fun i hi hP => ?_⟩, ?_, ?_⟩⟩
        · exact (hbW.block i (by omega)).trans ((HO.out.keep i (by have := HB2.out.size; omega) hP).trans (HB2.out.block i hi))
        · exact HF.out.stable _ W2 W' (fun i hi => hbW.block i (by have := HF.out.lt i hi; omega)) HZ.out
        · refine Sl.more (Sl.apart HSL.out (fun k j n' hc => ?_)) hbW.size
          refine hk k (fun ds hh => ?_)
          simp [World.cell?, hh] at hc
    · obtain rfl : k = n + 1 := by omega
      go_wp2_with fail
      refine leaves_marks Ds _ HM.out (fun W' hbW hk => ?_)
      exact ⟨_, results_none rfl _ _ _, ⟨_, rfl⟩, .inl ⟨HN.out, HBW.out.trans (hbW.mono (by omega))⟩⟩

/-- What Fewest leaves. -/
def FewPost (n : Nat) (F : List Int → Bool) (w : World) (e : Ending) (w' : World) : Prop :=
  ∃ v, e = .returned (.tuple #[v, .bool (Ch.fewest n F (n + 1)).isSome]) ∧ Sl w' w'.heap.size 1 v ((Ch.fewest n F (n + 1)).getD []).length (((Ch.fewest n F (n + 1)).getD []).map I) ∧ Below w.heap.size w w'

set_option maxHeartbeats 2000000 in
theorem fewest_any (n : Nat) (hn : n ≤ 50) (F : List Int → Bool) (lx : Nat) (w : World)
    (he : ∀ x sl W', Below w.heap.size w W' → Sl W' W'.heap.size 1 sl x.length (x.map I) → Calls Tryz.prog 79 #[sl, vPtr lx] W' fun e w' => e = .returned (.bool (F x)) ∧ Below W'.heap.size W' w') :
    Calls Tryz.prog 78 #[I n, .func (.func 79) #[] #[vPtr lx]] w (FewPost n F w) := by
  have HE := Lib.hid he
  clear he
  refine (callsIn_wide (n := 1)).1 ?_
  refine callsIn_of_wp_marks Tryz.func78 rfl trivial ?_ rfl
  simp only [Tryz.ntmps78, List.size_toArray, List.length_cons, List.length_nil, Nat.reduceAdd, Nat.reduceSub, Array.replicate_succ, Array.replicate_zero, List.push_toArray, List.append_toArray, List.nil_append, List.cons_append]
  refine wpIn_wide.2 ?_
  go_wp2_with fail
  refine (Lists_any n _).mono ?_
  rintro e w0 ⟨rfl, rfl⟩
  go_wp2_with fail
  refine name_world ?_
  intro W1 hW1
  have hb1 : Below w.heap.size w W1 := by rw [hW1]; exact ((((Below.refl _ _).alloc (Nat.le_refl _) _).alloc (by simp) _).alloc (by simp; omega) _).alloc (by simp; omega) _
  have he1 : W1.heap[w.heap.size]? = some (.cells #[.func (.func 79) #[] #[vPtr lx]] 98 (0, 0)) := by
    rw [hW1]; exact (Below.heap_alloc _ _ _ (by simp <;> omega)).trans ((Below.heap_alloc _ _ _ (by simp <;> omega)).trans ((Below.heap_alloc _ _ _ (by simp <;> omega)).trans (heap_at _ _ rfl)))
  have h41 : W1.heap[w.heap.size + 1]? = some (.cells #[.slice none 0 0] 23 (0, 0)) := by
    rw [hW1]; exact (Below.heap_alloc _ _ _ (by simp <;> omega)).trans ((Below.heap_alloc _ _ _ (by simp <;> omega)).trans (heap_at _ _ (by simp)))
  have h51 : W1.heap[w.heap.size + 1 + 1]? = some (.cells #[.bool false] 4 (0, 0)) := by rw [hW1]; exact (Below.heap_alloc _ _ _ (by simp)).trans (heap_at _ _ (by simp))
  have h61 : W1.heap[w.heap.size + 1 + 1 + 1]? = some (.cells #[I n] 3 (0, 0)) := by rw [hW1]; exact heap_at _ _ (by simp)
  have hz1 : W1.heap.size = w.heap.size + 4 := by rw [hW1]; simp
  have HB1 := Lib.hid hb1
  have HE1 := Lib.hid he1
  have H41 := Lib.hid h41
  have H51 := Lib.hid h51
  have H61 := Lib.hid h61
  clear hW1 hb1 he1 h41 h51 h61
  have hfoot : Foot W1 (fun k => k = w.heap.size + 1 ∨ k = w.heap.size + 1 + 1) (fun sl W => W.heap[w.heap.size + 1]? = some (.cells #[sl] 23 (0, 0)) ∧ W.heap[w.heap.size + 1 + 1]? = some (.cells #[.bool true] 4 (0, 0))) := by
    refine ⟨by rintro k (rfl | rfl) <;> omega, ?_, fun sl W W' hk hz => ⟨(hk _ (.inl rfl)).trans hz.1, (hk _ (.inr rfl)).trans hz.2⟩⟩
    rintro k (rfl | rfl) W hW j m hc
    · rw [cell_of_row _ _ j _ _ _ (hW.trans H41.out)] at hc; cases j <;> simp at hc
    · rw [cell_of_row _ _ j _ _ _ (hW.trans H51.out)] at hc; cases j <;> simp at hc
  refine (wpIn_wide (n := 1)).1 (range_Lists F (Ch.fewest n F (n + 1)) _ _ hfoot (w.heap.size + 1 + 1 + 1) rfl rfl ?iter (fun sl a' => ∃ v7 v8 v9 v10 v11 v12 v13 : Value, a' = { tmps := #[I n, .func (.func 79) #[] #[vPtr lx], undef, vPtr w.heap.size, vPtr (w.heap.size + 1), vPtr (w.heap.size + 1 + 1), sl, v7, v8, v9, v10, v11, v12, v13], defers := [] }) ?assign ?body ?done ?stop)
  case iter =>
    intro P' Z' W2 l2 hbW hf2 hY2
    exact Lists1_iter F n _ hn P' Z' W2 l2 hf2 hY2 ((hbW.block _ (by omega)).trans H61.out)
  case assign =>
    intro l d sl W K hK
    gi_wp2_with fail
    exact ⟨_, _, _, _, _, _, _, rfl⟩
  case body =>
    rintro l d x sl a' W ⟨v7, v8, v9, v10, v11, v12, v13, rfl⟩ hbW hsl
    have hbw2 : Below w.heap.size w W := HB1.out.trans (hbW.mono (by omega))
    obtain ⟨As, cs, rfl⟩ := hsl.form
    have hcall := HE.out x _ W hbw2 hsl
    have hrow := (hbW.block w.heap.size (by omega)).trans HE1.out
    have h4 := (hbW.block (w.heap.size + 1) (by omega)).trans H41.out
    have h5 := (hbW.block (w.heap.size + 1 + 1) (by omega)).trans H51.out
    have e0 := cell_of_row W _ 0 _ _ _ hrow
    simp only [List.getElem?_toArray, List.getElem?_cons_zero] at e0
    have HC := Lib.hid hcall
    have H4 := Lib.hid h4
    have H5 := Lib.hid h5
    clear hbW hbw2 hsl hcall hrow h4 h5
    gi_wp2_with fail
    refine ⟨trivial, fun h => by simp [Fence.wide] at h, (CallsIn.inRound l (callsIn_wide.2 HC.out)).mono ?_⟩
    rintro e w3 ⟨rfl, hB3⟩
    have h4r := (hB3.block _ (heap_lt H4.out)).trans H4.out
    have h5r := (hB3.block _ (heap_lt H5.out)).trans H5.out
    have c4 := cell_of_row w3 _ 0 _ _ _ h4r
    have c5 := cell_of_row w3 _ 0 _ _ _ h5r
    simp only [List.getElem?_toArray, List.getElem?_cons_zero] at c4 c5
    have f4 : w3.frozen? ⟨w.heap.size + 1, 0, none⟩ = false := by simp [World.frozen?, h4r]
    have f5 : w3.frozen? ⟨w.heap.size + 1 + 1, 0, none⟩ = false := by simp [World.frozen?, h5r]
    have H4R := Lib.hid h4r
    have H5R := Lib.hid h5r
    have HB3 := Lib.hid hB3
    clear e0 h4r h5r hB3
    cases hF : F x
    · have HF := Lib.hid hF
      clear hF
      gi_wp2_with fail
      exact ⟨HF.out, HB3.out⟩
    · have HF := Lib.hid hF
      clear hF
      gi_wp2_with fail
      refine ⟨HF.out, ⟨HB3.out.os, HB3.out.tape, HB3.out.output, by have := HB3.out.size; simp [World.setCell]; omega, fun k hk hP => ?_⟩, ?_, ?_⟩
      · exact (Below.heap_setCell _ _ _ _ (fun e => hP (.inr e))).trans ((Below.heap_setCell _ _ _ _ (fun e => hP (.inl e))).trans (HB3.out.block k hk))
      · refine (Below.heap_setCell _ _ _ _ (by simp)).trans ?_
        simp [World.setCell, Array.getElem?_modify, H4R.out]
      · simp [World.setCell, Array.getElem?_modify, H5R.out]
  case done =>
    rintro D W hD hnone hbW hrow
    have r4 := (hbW.block (w.heap.size + 1) (by omega)).trans H41.out
    have r5 := (hbW.block (w.heap.size + 1 + 1) (by omega)).trans H51.out
    have s4 := cell_of_row W _ 0 _ _ _ r4
    have s5 := cell_of_row W _ 0 _ _ _ r5
    simp only [List.getElem?_toArray, List.getElem?_cons_zero] at s4 s5
    have f4 : W.frozen? ⟨w.heap.size + 1, 0, none⟩ = false := by simp [World.frozen?, r4]
    have f5 : W.frozen? ⟨w.heap.size + 1 + 1, 0, none⟩ = false := by simp [World.frozen?, r5]
    have HNO := Lib.hid hnone
    have HBW := Lib.hid (HB1.out.trans (hbW.mono (by omega)))
    have R4 := Lib.hid r4
    have R5 := Lib.hid r5
    have HMS : Hid (MarksOk (w.heap.size + 4) [D] ((W.setCell ⟨w.heap.size + 1, 0, none⟩ (.slice none 0 0)).setCell ⟨w.heap.size + 1 + 1, 0, none⟩ (.bool false))) := Lib.hid ⟨by simp, fun E hE => by
      have e1 : E = D := by simpa using hE
      subst e1
      exact ⟨by omega, (Below.heap_setCell _ _ _ _ (by simp; omega)).trans ((Below.heap_setCell _ _ _ _ (by simp; omega)).trans hrow)⟩⟩
    clear hnone hbW hrow r4 r5
    go_wp2_with fail
    refine leaves_marks [D] _ HMS.out (fun W' hbW hk => ?_)
    have g4 : ((W.setCell ⟨w.heap.size + 1, 0, none⟩ (.slice none 0 0)).setCell ⟨w.heap.size + 1 + 1, 0, none⟩ (.bool false)).heap[w.heap.size + 1]? = some (.cells #[.slice none 0 0] 23 (0, 0)) := (Below.heap_setCell _ _ _ _ (by simp)).trans (by simp [World.setCell, Array.getElem?_modify, R4.out])
    have g5 : ((W.setCell ⟨w.heap.size + 1, 0, none⟩ (.slice none 0 0)).setCell ⟨w.heap.size + 1 + 1, 0, none⟩ (.bool false)).heap[w.heap.size + 1 + 1]? = some (.cells #[.bool false] 4 (0, 0)) := by simp [World.setCell, Array.getElem?_modify, R5.out]
    have q4 := cell_of_row W' (w.heap.size + 1) 0 #[.slice none 0 0] 23 (0, 0) ((hk _ (fun ds => by rw [g4]; simp)).trans g4)
    have q5 := cell_of_row W' (w.heap.size + 1 + 1) 0 #[.bool false] 4 (0, 0) ((hk _ (fun ds => by rw [g5]; simp)).trans g5)
    simp only [List.getElem?_toArray, List.getElem?_cons_zero] at q4 q5
    refine ⟨.tuple #[.slice none 0 0, .bool false], ?_, .slice none 0 0, ?_, ?_, ?_⟩
    · simp [results, Tryz.f78, go_sem, q4, q5]
    · rw [HNO.out]; rfl
    · rw [HNO.out]; exact sl_nil _ _ _
    · exact ((HBW.out.setCell (p := ⟨w.heap.size + 1, 0, none⟩) (by simp) _).setCell (p := ⟨w.heap.size + 1 + 1, 0, none⟩) (by simp; omega) _).trans (hbW.mono (by omega))
  case stop =>
    rintro D x sl W hD hsome hO hZ hsl hrow
    have hmk : MarksOk (w.heap.size + 4) [D] W := ⟨by simp, fun E hE => by
      have e1 : E = D := by simpa using hE
      subst e1
      exact ⟨by omega, hrow⟩⟩
    have hbw : Below w.heap.size w W := ⟨hO.os.trans HB1.out.os, hO.tape.trans HB1.out.tape, hO.output.trans HB1.out.output, Nat.le_trans HB1.out.size hO.size, fun i hi => (hO.keep i (by omega) (by omega)).trans (HB1.out.block i hi)⟩
    obtain ⟨As, cs, rfl⟩ := hsl.form
    have HFEW := Lib.hid hsome
    have HMK := Lib.hid hmk
    have HBWW := Lib.hid hbw
    have HSL := Lib.hid hsl
    have HT4 := Lib.hid hZ.1
    have HT5 := Lib.hid hZ.2
    clear hsome hmk hbw hsl hO hZ hrow
    refine wpIn_wide.2 ?_
    go_wp2_with fail
    refine leaves_marks [D] W HMK.out (fun W' hbW hk => ?_)
    have q4 := cell_of_row W' _ 0 _ _ _ ((hk _ (fun ds => by rw [HT4.out]; simp)).trans HT4.out)
    have q5 := cell_of_row W' _ 0 _ _ _ ((hk _ (fun ds => by rw [HT5.out]; simp)).trans HT5.out)
    simp only [List.getElem?_toArray, List.getElem?_cons_zero] at q4 q5
    refine ⟨.tuple #[.slice As x.length cs, .bool true], ?_, .slice As x.length cs, ?_, ?_, ?_⟩
    · simp [results, Tryz.f78, go_sem, q4, q5]
    · rw [HFEW.out]; rfl
    · rw [HFEW.out]
      refine Sl.more (Sl.apart HSL.out (fun k j n' hc => ?_)) hbW.size
      refine hk k (fun ds hh => ?_)
      simp [World.cell?, hh] at hc
    · exact HBWW.out.trans (hbW.mono (by omega))

end Go.Proofs.YtkfahochpnggbaaGreat

/- Contracts of reckon.Without at surveys; chain's ledger without some of its surveys. -/
namespace Go.Proofs.YtkfahochpnggbaaGreat
open Go.RowKit
attribute [local go_sem] Oper.semAt_some

namespace Ch
/-- Those things of a list whose numbers are none of these, up to the k-th. -/
def keptTo (l : List Sv) (no : List Int) (k : Nat) : List Sv := ((List.range k).filter fun i : Nat => !decide ((i : Int) ∈ no)).map fun i : Nat => l.getD i ⟨0, 0, 0, 0⟩
def withoutL (l : List Sv) (no : List Int) : List Sv := keptTo l no l.length
theorem keptTo_zero (l : List Sv) (no : List Int) : keptTo l no 0 = [] := rfl
theorem keptTo_no {l : List Sv} {no : List Int} {k : Nat} (h : (k : Int) ∈ no) : keptTo l no (k + 1) = keptTo l no k := by simp [keptTo, List.range_succ, h]
theorem keptTo_yes {l : List Sv} {no : List Int} {k : Nat} (hk : k < l.length) (h : ¬ (k : Int) ∈ no) : keptTo l no (k + 1) = keptTo l no k ++ [l[k]] := by simp [keptTo, List.range_succ, h, hk]
theorem keptTo_le (l : List Sv) (no : List Int) (k : Nat) : (keptTo l no k).length ≤ k := by
  unfold keptTo
  rw [List.length_map]
  exact Nat.le_trans (List.length_filter_le _ _) (by simp)
theorem keptTo_mem {l : List Sv} {no : List Int} {k : Nat} (hk : k ≤ l.length) : ∀ x ∈ keptTo l no k, x ∈ l := by
  intro x hx
  obtain ⟨i, hi, rfl⟩ := List.mem_map.1 hx
  have hi := List.mem_range.1 (List.mem_filter.1 hi).1
  have hil : i < l.length := by omega
  rw [List.getD_eq_getElem?_getD, List.getElem?_eq_getElem hil]
  exact List.getElem_mem hil
/-- A book without some of its surveys. -/
def without (b : Bk) (no : List Int) : Bk := ⟨b.secs, b.turns, withoutL b.svs no, b.rule, b.days⟩
theorem lain_without (b : Bk) (no : List Int) (s : Int) (d p : Nat) : lain (without b no) s d p = lain b s d p := by
  induction d with
  | zero => rfl
  | succ d ih => simp only [lain, ih]; rfl
end Ch

theorem infoSv : (Tryz.prog.info? 34).map (fun i => (i.zero, i.size, i.bytes)) = some (some (vSv ⟨0, 0, 0, 0⟩), 4, 32) := by kernel_rfl
theorem underSvs : Tryz.prog.underlying 24 = some (.slice 34) := by kernel_rfl
theorem cSv_cells (W : World) (x : Ch.Sv) : ∀ j u, (cSv x)[j]? = some u → (W.alloc (.cells #[I x.sec, I x.day, I x.read, I x.err] 34)).cell? ((⟨W.heap.size, 0, none⟩ : Addr).add j) = some u := by
  intro j u hu
  have hadd : (⟨W.heap.size, 0, none⟩ : Addr).add j = ⟨W.heap.size, j, none⟩ := by unfold Addr.add; split <;> simp_all
  rw [hadd, cell_of_row _ W.heap.size j _ _ _ (heap_at W _ rfl)]
  simpa [cSv] using hu
theorem sl_ownN {w : World} {B base n size : Nat} {t : TypeId} {v : Value} {xs : List Value} (h : w.ownsRow base t size v n xs) (hB : w.heap.size ≤ B) : Sl w B size v n xs := by
  obtain ⟨hl, hc⟩ := h
  rcases hc with ⟨rfl, rfl⟩ | ⟨g, cap, cur, rfl, hb, hg, hle, hmx, hcs, htk⟩
  · exact ⟨hl, none, 0, rfl, Nat.le_refl _, by unfold maxLen; omega, fun h => by omega⟩
  · refine ⟨hl, _, _, rfl, hle, hmx, fun _ => ⟨g, 0, rfl, Nat.lt_of_lt_of_le (heap_lt hg) hB, fun j u hu => ?_⟩⟩
    rw [Nat.zero_add, cell_of_row _ _ _ _ _ _ hg]
    rw [← htk, List.getElem?_take] at hu
    split at hu
    · simpa using hu
    · cases hu

theorem Sl.same {w w' : World} {B size n : Nat} {v : Value} {xs : List Value} (h : Sl w B size v n xs) (hk : ∀ g o m c, v = .slice (some ⟨g, o, none⟩) m c → w'.heap[g]? = w.heap[g]?) : Sl w' B size v n xs := by
  obtain ⟨h1, A, c, hv, h2, h3, h4⟩ := h
  refine ⟨h1, A, c, hv, h2, h3, fun hn => ?_⟩
  obtain ⟨b, off, e, hb, hc⟩ := h4 hn
  exact ⟨b, off, e, hb, fun j u hu => (World.cell?_of_block (hk b off n c (by rw [hv, e]))).trans (hc j u hu)⟩
/-- A slice that lies beyond, if it lies anywhere. -/
def Fresh (base : Nat) (v : Value) : Prop := ∀ g o m c, v = .slice (some ⟨g, o, none⟩) m c → base ≤ g

set_option maxRecDepth 100000 in
set_option maxHeartbeats 2000000 in
theorem Without_any (l : List Ch.Sv) (hl : l.length ≤ 100) (no : List Int) (V v : Value) (w : World) (hV : Sl w w.heap.size 4 V l.length (l.flatMap cSv)) (hv : Sl w w.heap.size 1 v no.length (no.map I)) :
    Calls Tryz.prog 113 #[V, v] w fun e w' => (∃ V', e = .returned V' ∧ Sl w' w'.heap.size 4 V' (Ch.withoutL l no).length ((Ch.withoutL l no).flatMap cSv) ∧ Fresh w.heap.size V') ∧ Below w.heap.size w w' := by
  obtain ⟨AV, cV, rfl⟩ := hV.form
  obtain ⟨Av, cv, rfl⟩ := hv.form
  have HV := Lib.hid hV
  have Hv := Lib.hid hv
  clear hV hv
  go_enter Tryz.func113, Tryz.ntmps113
  go_wp2_with fail
  go_loopw [5, 10] (fun u i wr => ∃ (k : Nat) (u0 : Value), k ≤ l.length ∧ i = I k ∧ u0 = u ∧ wr.ownsRow w.heap.size 34 4 u0 (Ch.keptTo l no k).length ((Ch.keptTo l no k).flatMap cSv) ∧ Below w.heap.size w wr) (fun _ i _ => l.length - (intOf i).toNat)
  case atStart => exact ⟨0, _, Nat.zero_le _, rfl, rfl, World.ownsRow_nil _ _ _ _, Below.refl _ _⟩
  case round =>
    obtain ⟨k, u, hk, rfl, rfl, hown, hBr⟩ := hrel
    have HOWN := Lib.hid hown
    clear hown
    by_cases hlt : k < l.length
    · have hki : (k : Int) < l.length := by omega
      obtain ⟨bl, off, c', hv, hbl, h0, h1, h2, h3⟩ := (HV.out.below hBr (Nat.le_refl _)).at4 hlt
      injection hv with hA _ hc
      subst hA hc
      have q0 := h0.trans (by have := flat4 cSv (fun _ => rfl) l k 0 hlt (by omega); simpa [cSv] using this : _ = some (I l[k].sec))
      have q1 := h1.trans (by have := flat4 cSv (fun _ => rfl) l k 1 hlt (by omega); simpa [cSv] using this : _ = some (I l[k].day))
      have q2 := h2.trans (by have := flat4 cSv (fun _ => rfl) l k 2 hlt (by omega); simpa [cSv] using this : _ = some (I l[k].read))
      have q3 := h3.trans (by have := flat4 cSv (fun _ => rfl) l k 3 hlt (by omega); simpa [cSv] using this : _ = some (I l[k].err))
      clear h0 h1 h2 h3
      generalize hx : l[k] = x at q0 q1 q2 q3
      have HX := Lib.hid hx
      clear hx
      have hbz := hBr.size
      go_wp2_with fail
      have hba : Below w.heap.size w (wr.alloc (.cells #[I x.sec, I x.day, I x.read, I x.err] 34)) := hBr.alloc hBr.size _
      refine (contains_any no k _ _ ((Hv.out.below hba (Nat.le_refl _)).more hba.size)).mono ?_
      rintro e w2 ⟨rfl, hB2⟩
      have hb2 := hba.trans (hB2.mono hba.size)
      have hxr := (hB2.block wr.heap.size (by simp)).trans (heap_at wr (.cells #[I x.sec, I x.day, I x.read, I x.err] 34) rfl)
      have x0 := cell_of_row w2 _ 0 _ _ _ hxr
      have x1 := cell_of_row w2 _ 1 _ _ _ hxr
      have x2 := cell_of_row w2 _ 2 _ _ _ hxr
      have x3 := cell_of_row w2 _ 3 _ _ _ hxr
      simp only [List.getElem?_toArray, List.getElem?_cons_zero, List.getElem?_cons_succ] at x0 x1 x2 x3
      have hown2 := (HOWN.out.alloc (.cells #[I x.sec, I x.day, I x.read, I x.err] 34)).kept (grown_of_below hB2 none) (by cases u.ownBlock <;> simp)
      have HOWN2 := Lib.hid hown2
      have HB2 := Lib.hid hb2
      have hz2 := hb2.size
      have hle := Ch.keptTo_le l no k
      clear hxr hba hB2 hb2 q0 q1 q2 q3 hown2
      by_cases hin : (k : Int) ∈ no
      · have hd : decide ((k : Int) ∈ no) = true := by simp [hin]
        have HK := Lib.hid (Ch.keptTo_no (l := l) hin)
        rw [hd]
        clear hd hin
        go_wp2_with fail
        go_roundw
        case rel => exact ⟨k + 1, _, by omega, by go_num, rfl, by rw [HK.out]; exact HOWN2.out, HB2.out⟩
        case measure => simp [intOf]; omega
      · have hd : decide ((k : Int) ∈ no) = false := by simp [hin]
        have HK := Lib.hid (Ch.keptTo_yes (l := l) hlt hin)
        rw [hd]
        clear hd hin
        obtain ⟨i0, hi, hz0, hz1', hz2'⟩ := info_parts infoSv
        have hone : ∀ u ∈ cSv x, u.oneCell' = true := by intro u hu; simp [cSv] at hu; rcases hu with rfl | rfl | rfl | rfl <;> rfl
        have HON := Lib.hid hone
        clear hone
        go_wp2_with (at_builtin; go_must (refine wpList_append_own_at _ rfl _ _ 24 rfl w.heap.size 34 i0 (vSv ⟨0, 0, 0, 0⟩) 4 32 underSvs hi hz0 hz1' hz2' rfl (by decide) _ (Ch.keptTo l no k).length ((Ch.keptTo l no k).flatMap cSv) rfl (HOWN2.out.alloc _) ⟨w2.heap.size, 0, none⟩ 1 1 (cSv x) rfl rfl (cSv_cells w2 x) HON.out (by unfold maxLen; omega) (by omega) (by simp; omega) ?_; intro v' w3 hown' hgrow hnil hat; have HOW := Lib.hid hown'; have HGR := Lib.hid hgrow; clear hown' hgrow hnil hat))
        go_roundw
        case rel =>
          refine ⟨k + 1, _, by omega, by go_num, rfl, ?_, ?_⟩
          · rw [HK.out, List.length_append, List.flatMap_append, HX.out]; simpa using HOW.out
          · refine HB2.out.trans (Below.trans ((Below.refl _ _).alloc (Nat.le_refl _) _ |>.mono hz2) ⟨HGR.out.os, HGR.out.tape, HGR.out.output, HGR.out.size, fun i hi => HGR.out.block i (by simp; omega) (fun e => ?_)⟩)
            have := (HOWN2.out.lt i e.symm).1
            omega
        case measure => simp [intOf]; omega
    · obtain rfl : k = l.length := by omega
      have hsl := sl_ownN HOWN.out (Nat.le_refl _)
      have HSL := Lib.hid hsl
      have hfr : Fresh w.heap.size u := fun g o m c e => (HOWN.out.lt g (by rw [e]; rfl)).1
      obtain ⟨Au, cu, rfl⟩ := hsl.form
      have HFR := Lib.hid (show Fresh w.heap.size (.slice Au (Ch.keptTo l no l.length).length (Ch.keptTo l no l.length).length) from fun g o m c e => hfr g o _ cu (by injection e with e1 e2 e3; rw [e1]))
      clear hfr
      have hm := hsl.le
      obtain ⟨_, _, _, e1, e2, _⟩ := hsl
      injection e1 with e1 e3 e4
      subst e1 e4
      unfold maxLen at hm
      have hvv : ((Ch.keptTo l no l.length).length : Int) ≤ (cu : Int) := by omega
      go_wp2_with fail
      go_ret
      exact ⟨⟨_, rfl, sl_cut HSL.out, HFR.out⟩, hBr⟩

set_option maxHeartbeats 1000000 in
theorem without_any (b : Ch.Bk) (hm : b.svs.length ≤ 100) (S T V M R : Value) (rule days : Int) (no : List Int) (v : Value) (n0 c0 : Nat) (A0 : Option Addr) (hS : S = .slice A0 n0 c0) (n1 c1 : Nat) (A1 : Option Addr) (hT : T = .slice A1 n1 c1) (m : Option Nat) (hM : M = .map m) (n3 c3 : Nat) (A3 : Option Addr) (hR : R = .slice A3 n3 c3)
    (w : World) (hV : Sl w w.heap.size 4 V b.svs.length (b.svs.flatMap cSv)) (hv : Sl w w.heap.size 1 v no.length (no.map I)) :
    Calls Tryz.prog 80 #[vLg S T V rule days M R, v] w fun e w' => (∃ V', e = .returned (vLg S T V' rule days M R) ∧ Sl w' w'.heap.size 4 V' (Ch.without b no).svs.length ((Ch.without b no).svs.flatMap cSv)) ∧ Below w.heap.size w w' := by
  subst hS hT hM hR
  obtain ⟨AV, cV, rfl⟩ := hV.form
  obtain ⟨Av, cv, rfl⟩ := hv.form
  have hB0 : Below w.heap.size w ((w.alloc (cLg (.slice A0 n0 c0) (.slice A1 n1 c1) (.slice AV b.svs.length cV) rule days (.map m) (.slice A3 n3 c3))).alloc (cLg (.slice none 0 0) (.slice none 0 0) (.slice none 0 0) 0 0 (.map none) (.slice none 0 0))) := ((Below.refl _ _).alloc (Nat.le_refl _) _).alloc (by simp) _
  go_enter Tryz.func80, Tryz.ntmps80
  go_wp2_with fail
  refine (Without_any b.svs hm no _ _ _ ((hV.below hB0 (Nat.le_refl _)).more hB0.size) ((hv.below hB0 (Nat.le_refl _)).more hB0.size)).mono ?_
  rintro e w1 ⟨⟨V', rfl, hV', hfr⟩, hB1⟩
  have hb1 := hB0.trans (hB1.mono hB0.size)
  obtain ⟨AV', cV', rfl⟩ := hV'.form
  have r0 : w1.heap[w.heap.size]? = some (cLg (.slice A0 n0 c0) (.slice A1 n1 c1) (.slice AV b.svs.length cV) rule days (.map m) (.slice A3 n3 c3)) := (hB1.block _ (by simp; omega)).trans ((Below.heap_alloc _ _ _ (by simp)).trans (heap_at _ _ rfl))
  have r1 : w1.heap[w.heap.size + 1]? = some (cLg (.slice none 0 0) (.slice none 0 0) (.slice none 0 0) 0 0 (.map none) (.slice none 0 0)) := (hB1.block _ (by simp)).trans (heap_at _ _ (by simp))
  have g0 : ∀ j, w1.cell? ⟨w.heap.size, j, none⟩ = #[.slice A0 n0 c0, .slice A1 n1 c1, .slice AV b.svs.length cV, I rule, I days, .map m, .slice A3 n3 c3][j]? := fun j => cell_of_row w1 _ j _ _ _ r0
  have g1 : ∀ j, w1.cell? ⟨w.heap.size + 1, j, none⟩ = #[.slice none 0 0, .slice none 0 0, .slice none 0 0, I 0, I 0, .map none, .slice none 0 0][j]? := fun j => cell_of_row w1 _ j _ _ _ r1
  have f0 : ∀ j, w1.frozen? ⟨w.heap.size, j, none⟩ = false := fun j => by simp [World.frozen?, r0]
  have f1 : ∀ j, w1.frozen? ⟨w.heap.size + 1, j, none⟩ = false := fun j => by simp [World.frozen?, r1]
  have HFR := Lib.hid hfr
  have HV' := Lib.hid hV'
  have HB1 := Lib.hid hb1
  have R0 := Lib.hid r0
  have R1 := Lib.hid r1
  clear hB0 hB1 hV' hV hv hb1 r0 r1 hfr
  go_wp2_with fail
  refine bodyPost_ret (v := vLg (.slice A0 n0 c0) (.slice A1 n1 c1) (.slice AV' (Ch.withoutL b.svs no).length cV') rule days (.map m) (.slice A3 n3 c3)) ?_ rfl ⟨⟨_, rfl, ?_⟩, ?_⟩
  · simp [results, Tryz.results80, go_sem, g0, g1]
  · refine Sl.more (HV'.out.same (fun g o m' c' e => ?_)) (by simp [World.setCell])
    have hg := HFR.out g o m' c' e
    simp at hg
    repeat (refine (Below.heap_setCell _ _ _ _ (by simp; omega)).trans ?_)
    rfl
  · repeat (refine Below.setCell ?_ (by simp <;> omega) _)
    exact HB1.out

end Go.Proofs.YtkfahochpnggbaaGreat
