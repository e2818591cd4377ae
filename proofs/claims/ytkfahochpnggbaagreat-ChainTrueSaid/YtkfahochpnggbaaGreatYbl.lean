/- Texts on the program that the proof leans on, part 38. -/
import Derived.Test.YtkfahochpnggbaaGreatYar
set_option linter.unusedVariables false
set_option linter.unusedSimpArgs false

/- Contract of the statements' comparison of two lists of ints. -/
namespace Go.Proofs.YtkfahochpnggbaaGreat
open Go.RowKit

namespace Ch
theorem alike_no {l m : List Int} {k : Nat} (h1 : k < l.length) (h2 : k < m.length) (h : l[k] ≠ m[k]) : decide (l = m) = false := by
  rw [decide_eq_false_iff_not]
  intro e
  subst e
  exact h rfl
theorem alike_yes {l m : List Int} (hn : l.length = m.length) (h : ∀ j (h1 : j < l.length) (h2 : j < m.length), l[j] = m[j]) : decide (l = m) = true := by
  rw [decide_eq_true_iff]
  exact List.ext_getElem hn h
theorem alike_len {l m : List Int} (hn : l.length ≠ m.length) : decide (l = m) = false := by
  rw [decide_eq_false_iff_not]
  intro e
  subst e
  exact hn rfl
end Ch

set_option maxHeartbeats 1000000 in
theorem alike_any (l m : List Int) (v u : Value) (w : World) (hv : Sl w w.heap.size 1 v l.length (l.map I)) (hu : Sl w w.heap.size 1 u m.length (m.map I)) :
    Calls Tryz.prog 43 #[v, u] w fun e w' => e = .returned (.bool (decide (l = m))) ∧ Below w.heap.size w w' := by
  have hm := hv.le
  have hm2 := hu.le
  unfold maxLen at hm hm2
  obtain ⟨A, c, rfl⟩ := hv.form
  obtain ⟨A1, c1, rfl⟩ := hu.form
  go_enter Tryz.func43, Tryz.ntmps43
  by_cases hn : l.length = m.length
  · have hn' : (l.length : Int) = m.length := by omega
    have HN := Lib.hid hn
    clear hn
    go_wp2_with fail
    go_loopw [5] (fun i wr => Below w.heap.size w wr ∧ ∃ k : Nat, k ≤ l.length ∧ i = I k ∧ ∀ j (h1 : j < l.length) (h2 : j < m.length), j < k → l[j] = m[j]) (fun i _ => l.length - (intOf i).toNat)
    case atStart => exact ⟨Below.refl _ _, 0, Nat.zero_le _, rfl, fun j _ _ hj => by omega⟩
    case round =>
      obtain ⟨hw, k, hk, rfl, hF⟩ := hrel
      have hv2 := hv.below hw (Nat.le_refl _)
      have hu2 := hu.below hw (Nat.le_refl _)
      clear hv hu
      have HW := Lib.hid hw
      clear hw
      have HF := Lib.hid hF
      clear hF
      by_cases hlt : k < l.length
      · have hlt2 : k < m.length := by rw [← HN.out]; exact hlt
        obtain ⟨b', off', c', hv', hb', ck⟩ := hv2.int hlt
        injection hv' with hA _ hc
        subst hA hc
        clear hv2
        obtain ⟨b2, off2, c2, hu', hb2, ck2⟩ := hu2.int hlt2
        injection hu' with hA2 _ hc2
        subst hA2 hc2
        clear hu2
        have hki : (k : Int) < l.length := by omega
        by_cases hx : l[k] = m[k]
        · have hb : (l[k] != m[k]) = false := by simp [hx]
          have HX := Lib.hid hx
          clear hx
          go_wp2_with fail
          go_region
          all_goals
            go_wp2_with fail
            go_roundw
            case rel =>
              refine ⟨HW.out.drew, k + 1, by omega, by go_num, fun j h1 h2 hjk => ?_⟩
              rcases Nat.lt_succ_iff_lt_or_eq.1 hjk with h' | h'
              · exact HF.out j h1 h2 h'
              · subst h'; exact HX.out
            case measure => simp [intOf]; omega
        · have hb : (l[k] != m[k]) = true := by simp [hx]
          have HX := Lib.hid hx
          clear hx
          go_wp2_with fail
          go_region
          all_goals
            go_wp2_with fail
            go_ret
            exact ⟨ret_b (Ch.alike_no hlt hlt2 HX.out).symm, HW.out.drew⟩
      · obtain rfl : k = l.length := by omega
        go_wp2_with fail
        go_ret
        exact ⟨ret_b (Ch.alike_yes HN.out (fun j h1 h2 => HF.out j h1 h2 h1)).symm, HW.out⟩
  · have hn' : ¬ (l.length : Int) = m.length := by omega
    have HN := Lib.hid hn
    clear hn
    go_wp2_with fail
    go_ret
    exact ⟨ret_b (Ch.alike_len HN.out).symm, Below.refl _ _⟩

end Go.Proofs.YtkfahochpnggbaaGreat
