/- Texts on the program that the proof leans on, part 18. -/
import Derived.Test.YtkfahochpnggbaaGreatYaq
set_option linter.unusedVariables false
set_option linter.unusedSimpArgs false

/- Contract of chain's least. -/
namespace Go.Proofs.YtkfahochpnggbaaGreat
open Go.RowKit

set_option maxHeartbeats 1000000 in
theorem least_any (x : Int) (l : List Int) (v : Value) (w : World) (h : Sl w w.heap.size 1 v l.length (l.map I)) :
    Calls Tryz.prog 127 #[I x, v] w fun e w' => e = .returned (I (l.foldl min x)) ∧ Below w.heap.size w w' := by
  have hm := h.le
  unfold maxLen at hm
  obtain ⟨A, c, rfl⟩ := h.form
  go_enter Tryz.func127, Tryz.ntmps127
  go_wp2_with fail
  go_loop [0, 9] (fun m i => ∃ k : Nat, k ≤ l.length ∧ i = I k ∧ m = I ((l.take k).foldl min x)) (fun _ i => l.length - (intOf i).toNat)
  case atStart => exact ⟨0, Nat.zero_le _, rfl, rfl⟩
  case round =>
    obtain ⟨k, hk, rfl, rfl⟩ := hrel
    by_cases hlt : k < l.length
    · obtain ⟨b', off', c', hv, hb', ck⟩ := h.int hlt
      injection hv with hA _ hc
      subst hA hc
      have hs : (l.take (k + 1)).foldl min x = min ((l.take k).foldl min x) l[k] := by rw [List.take_succ_eq_append_getElem hlt, List.foldl_append]; rfl
      have HS := Lib.hid hs
      clear hs
      generalize (l.take k).foldl min x = m at HS ⊢
      go_wp2_with fail
      go_round
      case rel => exact ⟨k + 1, by omega, by go_num, by rw [HS.out]; congr 1; omega⟩
      case measure => simp [intOf]; omega
    · obtain rfl : k = l.length := by omega
      rw [List.take_length]
      go_wp2_with fail
      go_ret
      exact ⟨rfl, Below.refl _ _⟩

end Go.Proofs.YtkfahochpnggbaaGreat

/- Contracts of slices.Index, slices.Contains at ints. -/
namespace Go.Proofs.YtkfahochpnggbaaGreat
open Go.RowKit

namespace Ch
/-- Where a number stands first; -1, if nowhere. -/
def indexOf (l : List Int) (x : Int) : Int := if x ∈ l then (l.findIdx (· == x) : Nat) else -1
theorem indexOf_none {l : List Int} {x : Int} (h : ∀ j (hj : j < l.length), l[j] ≠ x) : indexOf l x = -1 := by
  unfold indexOf
  rw [if_neg]
  intro hx
  obtain ⟨j, hj, e⟩ := List.mem_iff_getElem.1 hx
  exact h j hj e
theorem indexOf_found {l : List Int} {x : Int} {k : Nat} (hk : k < l.length) (h1 : l[k] = x) (h : ∀ j (hj : j < l.length), j < k → l[j] ≠ x) : indexOf l x = k := by
  unfold indexOf
  rw [if_pos (by rw [← h1]; exact List.getElem_mem hk)]
  have : l.findIdx (· == x) = k := by
    rw [List.findIdx_eq hk]
    exact ⟨by simp [h1], fun j hj => by simpa using h j (by omega) hj⟩
  rw [this]
end Ch

set_option maxHeartbeats 1000000 in
theorem index_any (l : List Int) (x : Int) (v : Value) (w : World) (h : Sl w w.heap.size 1 v l.length (l.map I)) :
    Calls Tryz.prog 154 #[v, I x] w fun e w' => e = .returned (I (Ch.indexOf l x)) ∧ Below w.heap.size w w' := by
  have hm := h.le
  unfold maxLen at hm
  obtain ⟨A, c, rfl⟩ := h.form
  go_enter Tryz.func154, Tryz.ntmps154
  go_wp2_with fail
  go_loopw [8] (fun i wr => wr = w ∧ ∃ k : Nat, k ≤ l.length ∧ i = I k ∧ ∀ j (hj : j < l.length), j < k → l[j] ≠ x) (fun i _ => l.length - (intOf i).toNat)
  case atStart => exact ⟨rfl, 0, Nat.zero_le _, rfl, fun j _ hj => by omega⟩
  case round =>
    obtain ⟨hw, k, hk, rfl, hF⟩ := hrel
    subst hw
    have HF := Lib.hid hF
    clear hF
    by_cases hlt : k < l.length
    · obtain ⟨b', off', c', hv, hb', ck⟩ := h.int hlt
      injection hv with hA _ hc
      subst hA hc
      have hki : (k : Int) < l.length := by omega
      by_cases hx : l[k] = x
      · have hb : (x == l[k]) = true := by simp [hx]
        have HX := Lib.hid hx
        clear hx
        go_wp2_with fail
        go_ret
        exact ⟨ret_i (Ch.indexOf_found hlt HX.out HF.out).symm, Below.refl _ _⟩
      · have hb : (x == l[k]) = false := by simp; exact fun e => hx e.symm
        have HX := Lib.hid hx
        clear hx
        go_wp2_with fail
        go_roundw
        case rel =>
          refine ⟨by trivial, k + 1, by omega, by go_num, fun j hj hjk => ?_⟩
          rcases Nat.lt_succ_iff_lt_or_eq.1 hjk with h' | h'
          · exact HF.out j hj h'
          · subst h'; exact HX.out
        case measure => simp [intOf]; omega
    · obtain rfl : k = l.length := by omega
      go_wp2_with fail
      go_ret
      exact ⟨ret_i (Ch.indexOf_none (fun j hj => HF.out j hj hj)).symm, Below.refl _ _⟩

set_option maxHeartbeats 1000000 in
theorem contains_any (l : List Int) (x : Int) (v : Value) (w : World) (h : Sl w w.heap.size 1 v l.length (l.map I)) :
    Calls Tryz.prog 128 #[v, I x] w fun e w' => e = .returned (.bool (decide (x ∈ l))) ∧ Below w.heap.size w w' := by
  obtain ⟨A, c, rfl⟩ := h.form
  go_enter Tryz.func128, Tryz.ntmps128
  go_wp2_with fail
  refine (index_any l x _ w h).mono ?_
  rintro e w1 ⟨rfl, hB1⟩
  by_cases hx : x ∈ l
  · obtain ⟨n, hn⟩ : ∃ n : Nat, Ch.indexOf l x = n := ⟨l.findIdx (· == x), by unfold Ch.indexOf; rw [if_pos hx]⟩
    have hd : decide (x ∈ l) = true := by simp [hx]
    have HD := Lib.hid hd
    rw [hn]
    clear hn hd hx
    go_wp2_with fail
    go_ret
    exact ⟨ret_b (by rw [HD.out] <;> simp), hB1⟩
  · have hn : Ch.indexOf l x = -1 := by simp [Ch.indexOf, hx]
    have hd : decide (x ∈ l) = false := by simp [hx]
    have HD := Lib.hid hd
    rw [hn]
    clear hn hd hx
    go_wp2_with fail
    go_ret
    exact ⟨ret_b (by rw [HD.out] <;> simp), hB1⟩

end Go.Proofs.YtkfahochpnggbaaGreat

/- Contract of chain's canTurn. -/
namespace Go.Proofs.YtkfahochpnggbaaGreat
open Go.RowKit

/-- Whether the chain can be turned once more on a day. -/
def Ch.canTurn (b : Ch.Bk) (day : Int) : Bool := !(decide (day = 0) || decide (day ∈ b.turns)) && b.svs.all fun x => !decide (day < x.day)

set_option maxHeartbeats 1000000 in
theorem canTurn_any (b : Ch.Bk) (S T V M R : Value) (rule days day : Int) (n0 c0 : Nat) (A0 : Option Addr) (hS : S = .slice A0 n0 c0) (w : World) (hb : RB w w.heap.size b S T V) :
    Calls Tryz.prog 93 #[vLg S T V rule days M R, I day] w fun e w' => e = .returned (.bool (Ch.canTurn b day)) ∧ Below w.heap.size w w' := by
  subst hS
  have hm := hb.svs.le
  unfold maxLen at hm
  obtain ⟨A1, c1, rfl⟩ := hb.turns.form
  obtain ⟨A2, c2, rfl⟩ := hb.svs.form
  have hB0 : Below w.heap.size w (w.alloc (cLg (.slice A0 n0 c0) (.slice A1 b.turns.length c1) (.slice A2 b.svs.length c2) rule days M R)) := (Below.refl _ _).alloc (Nat.le_refl _) _
  by_cases h0 : day = 0
  · have hr : Ch.canTurn b day = false := by simp [Ch.canTurn, h0]
    have HR := Lib.hid hr
    clear hr
    subst h0
    go_enter Tryz.func93, Tryz.ntmps93
    go_wp2_with fail
    go_ret
    exact ⟨ret_b HR.out.symm, hB0⟩
  · have hb0 : (day == 0) = false := by simp [h0]
    go_enter Tryz.func93, Tryz.ntmps93
    go_wp2_with fail
    refine (contains_any b.turns day _ _ ((hb.turns.below hB0 (Nat.le_refl _)).more hB0.size)).mono ?_
    rintro e w1 ⟨rfl, hB1⟩
    have hb1 : Below w.heap.size w w1 := hB0.trans (hB1.mono hB0.size)
    have hlB : w1.heap[w.heap.size]? = some (cLg (.slice A0 n0 c0) (.slice A1 b.turns.length c1) (.slice A2 b.svs.length c2) rule days M R) := (hB1.block _ (by simp)).trans (heap_at _ _ rfl)
    have a2 := cell_of_row w1 _ 2 _ _ _ hlB
    simp only [List.getElem?_toArray, List.getElem?_cons_zero, List.getElem?_cons_succ] at a2
    clear hlB hB1 hB0
    by_cases ht : day ∈ b.turns
    · have hr : Ch.canTurn b day = false := by simp [Ch.canTurn, ht]
      have hd : decide (day ∈ b.turns) = true := by simp [ht]
      have HR := Lib.hid hr
      rw [hd]
      clear hr hd ht
      go_wp2_with fail
      go_ret
      exact ⟨ret_b HR.out.symm, hb1⟩
    · have hr : Ch.canTurn b day = b.svs.all fun x => !decide (day < x.day) := by simp [Ch.canTurn, ht, h0]
      have hd : decide (day ∈ b.turns) = false := by simp [ht]
      have HR := Lib.hid hr
      rw [hd]
      clear hr hd ht h0
      go_wp2_with fail
      go_loopw [20] (fun i wr => ∃ k : Nat, k ≤ b.svs.length ∧ i = I k ∧ (∀ j (hj : j < b.svs.length), j < k → ¬ day < b.svs[j].day) ∧ Below w1.heap.size w1 wr) (fun i _ => b.svs.length - (intOf i).toNat)
      case atStart => exact ⟨0, Nat.zero_le _, rfl, fun j _ hj => by omega, Below.refl _ _⟩
      case round =>
        obtain ⟨k, hk, rfl, hF, hBr⟩ := hrel
        have hbw : Below w.heap.size w wr := hb1.trans (hBr.mono hb1.size)
        have HF := Lib.hid hF
        clear hF a2
        by_cases hlt : k < b.svs.length
        · obtain ⟨bl, off, c', hv, hbl, q0, q1, q2, q3⟩ := (hb.below hbw (Nat.le_refl _)).sv hlt
          injection hv with hA _ hc
          subst hA hc
          have hki : (k : Int) < b.svs.length := by omega
          by_cases hx : day < b.svs[k].day
          · have hal : (b.svs.all fun x => !decide (day < x.day)) = false := all_false hlt (by simp [hx])
            have HAL := Lib.hid hal
            clear hal
            go_wp2_with fail
            go_ret
            exact ⟨ret_b (by rw [HR.out, HAL.out]), hbw.alloc hbw.size _⟩
          · have HX := Lib.hid hx
            go_wp2_with fail
            go_roundw
            case rel =>
              refine ⟨k + 1, by omega, by go_num, fun j hj hjk => ?_, hBr.alloc hBr.size _⟩
              rcases Nat.lt_succ_iff_lt_or_eq.1 hjk with h' | h'
              · exact HF.out j hj h'
              · subst h'; exact HX.out
            case measure => simp [intOf]; omega
        · obtain rfl : k = b.svs.length := by omega
          have hal : (b.svs.all fun x => !decide (day < x.day)) = true := by
            rw [List.all_eq_true]
            intro x hx
            obtain ⟨j, hj, rfl⟩ := List.mem_iff_getElem.1 hx
            have := HF.out j hj hj
            simp [this]
          have HAL := Lib.hid hal
          clear hal
          go_wp2_with fail
          go_ret
          exact ⟨ret_b (by rw [HR.out, HAL.out]), hbw⟩

end Go.Proofs.YtkfahochpnggbaaGreat
