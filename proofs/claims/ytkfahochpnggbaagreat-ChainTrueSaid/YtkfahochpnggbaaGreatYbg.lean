/- Texts on the program that the proof leans on, part 33. -/
import Derived.Test.YtkfahochpnggbaaGreatYbf
set_option linter.unusedVariables false
set_option linter.unusedSimpArgs false

/- Contracts of slices.Sort at a few ints. -/
namespace Go.Proofs.YtkfahochpnggbaaGreat
open Go.RowKit

set_option maxRecDepth 100000 in
set_option maxHeartbeats 1000000 in
theorem pdq_any (P : List Int → Prop) (hP : Loose P) (g cap : Nat) (L0 : List Int) (hL0 : P L0) (hn : L0.length ≤ 8) (hc : L0.length ≤ cap) (lim : Int) (w : World) (hA0 : ArrAt w g L0) :
    Calls Tryz.prog 155 #[.slice (some ⟨g, 0, none⟩) L0.length cap, I 0, I L0.length, I lim] w fun e w' => (∃ v, e = .returned v) ∧ (∃ L, P L ∧ L.length = L0.length ∧ ArrAt w' g L) ∧ w.grownBy w' (some g) := by
  have h := insSort_any P hP g cap L0 hL0 hn hc w hA0
  have H := Lib.hid h
  have hni : (L0.length : Int) ≤ 8 := by omega
  have hn0 : (0 : Int) ≤ L0.length := by omega
  have hn12 : (L0.length : Int) ≤ 12 := by omega
  generalize hnn : L0.length = n at *
  clear h hL0 hA0 hP hnn
  go_enter Tryz.func155, Tryz.ntmps155
  go_wp2_with fail
  refine wp_loop (fun a' w' => a' = { tmps := #[.slice (some ⟨g, 0, none⟩) n cap, I 0, I n, I lim, undef, undef, undef, undef, .bool true, .bool true, undef, undef, undef, undef, undef, undef, undef, undef, undef, undef, undef, undef, undef, undef, undef, undef, undef, undef, undef, undef, undef, undef, undef, undef, undef, undef, undef, undef, undef, undef, undef, undef, undef, undef, undef, undef, undef, undef, undef, undef, undef, undef, undef, undef, undef, undef, undef, undef, undef, undef, undef, undef, undef, undef, undef, undef, undef, undef, undef, undef, undef, undef, undef, undef, undef, undef, undef, undef, undef, undef, undef, undef, undef, undef, undef, undef, undef, undef, undef, undef, undef, undef, undef, undef, undef, undef, undef, undef, undef, undef, undef, undef, undef, undef, undef, undef, undef, undef, undef, undef, undef, undef, undef, undef, undef, undef, undef, undef, undef, undef, undef, undef, undef, undef, undef, undef, undef, undef, undef, undef, undef, undef, undef, undef], defers := [] } ∧ w' = w) (fun _ _ => 0) ⟨rfl, rfl⟩ ?_
  rintro _ _ ⟨rfl, rfl⟩
  go_wp2_with fail
  refine H.out.mono ?_
  rintro e w1 ⟨⟨v, rfl⟩, hL, hG⟩
  have HL := Lib.hid hL
  have HG := Lib.hid hG
  clear hL hG
  go_wp2_with fail
  exact bodyPost_ret (results_none rfl _ _ _) rfl ⟨⟨_, rfl⟩, HL.out, HG.out⟩

set_option maxHeartbeats 400000 in
theorem len_any (n : Nat) (hn : n ≤ 8) (w : World) : Calls Tryz.prog 156 #[.int .u64 n] w fun e w' => (∃ k : Int, e = .returned (I k)) ∧ w = w' := by
  have H := Lib.hid (len64_any n hn w)
  have hn0 : (0 : Int) ≤ (n : Int) := by omega
  have hn8 : (n : Int) ≤ 8 := by omega
  go_enter Tryz.func156, Tryz.ntmps156
  go_wp2_with fail
  refine H.out.mono ?_
  rintro e w1 ⟨⟨k, rfl⟩, rfl⟩
  go_wp2_with fail
  go_ret
  exact ⟨⟨k, rfl⟩, rfl⟩

set_option maxRecDepth 100000 in
set_option maxHeartbeats 1000000 in
theorem sort_any (P : List Int → Prop) (hP : Loose P) (g cap : Nat) (L0 : List Int) (hL0 : P L0) (hn : L0.length ≤ 8) (hc : L0.length ≤ cap) (w : World) (hA0 : ArrAt w g L0) :
    Calls Tryz.prog 129 #[.slice (some ⟨g, 0, none⟩) L0.length cap] w fun e w' => (∃ v, e = .returned v) ∧ (∃ L, P L ∧ L.length = L0.length ∧ ArrAt w' g L) ∧ w.grownBy w' (some g) := by
  have h := fun lim => pdq_any P hP g cap L0 hL0 hn hc lim w hA0
  have hl := len_any L0.length hn w
  have H := Lib.hid h
  have HL := Lib.hid hl
  have hni : (L0.length : Int) ≤ 8 := by omega
  have hn0 : (0 : Int) ≤ L0.length := by omega
  generalize hnn : L0.length = n at *
  clear h hl hL0 hA0 hP hnn
  go_enter Tryz.func129, Tryz.ntmps129
  go_wp2_with fail
  refine HL.out.mono ?_
  rintro e w1 ⟨⟨k, rfl⟩, rfl⟩
  go_wp2_with fail
  refine (H.out k).mono ?_
  rintro e w2 ⟨⟨v, rfl⟩, hL2, hG2⟩
  have HL2 := Lib.hid hL2
  have HG2 := Lib.hid hG2
  clear hL2 hG2
  go_wp2_with fail
  go_end0
  exact ⟨⟨_, rfl⟩, HL2.out, HG2.out⟩

end Go.Proofs.YtkfahochpnggbaaGreat
