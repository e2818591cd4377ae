/- Texts on the program that the proof leans on, part 27. -/
import Derived.Test.YtkfahochpnggbaaGreatYaa
set_option linter.unusedVariables false
set_option linter.unusedSimpArgs false

/- The lists of a few of several numbers, as plain mathematics. Imports nothing of the program. -/
namespace Go.Proofs.YtkfahochpnggbaaGreat.Ch

/-- All lists that go on from acc with numbers from f on, m numbers being left. -/
def combL (size : Nat) : Nat → Nat → List Int → List (List Int)
  | 0, _, _ => []
  | m + 1, f, acc => (if acc.length + 1 = size then [acc ++ [(f : Int)]] else combL size m (f + 1) (acc ++ [(f : Int)])) ++ combL size m (f + 1) acc
def comb (size m f : Nat) (acc : List Int) : List (List Int) := if acc.length = size then [acc] else combL size m f acc
theorem combL_succ (size m f : Nat) (acc : List Int) : combL size (m + 1) f acc = comb size m (f + 1) (acc ++ [(f : Int)]) ++ combL size m (f + 1) acc := by
  simp [combL, comb]
/-- All strictly increasing lists of so many numbers below n, in their order. -/
def listsOf (n size : Nat) : List (List Int) := comb size n 0 []
/-- The first one of the shortest ones that are enough, of at most so many. -/
def fewest (n : Nat) (F : List Int → Bool) : Nat → Option (List Int)
  | 0 => none
  | k + 1 => match fewest n F k with
    | some x => some x
    | none => (listsOf n k).find? F
theorem fewest_some {n : Nat} {F : List Int → Bool} {k : Nat} {x : List Int} (h : fewest n F k = some x) : ∀ j, fewest n F (k + j) = some x
  | 0 => h
  | j + 1 => by
    have := fewest_some h j
    show fewest n F ((k + j) + 1) = some x
    simp only [fewest, this]
theorem combL_len {size m f : Nat} {acc x : List Int} (ha : acc.length < size) (h : x ∈ combL size m f acc) : x.length = size := by
  induction m generalizing f acc with
  | zero => simp [combL] at h
  | succ m ih =>
    simp only [combL, List.mem_append] at h
    rcases h with h | h
    · split at h
      · simp at h; subst h; simp; omega
      · exact ih (by simp; omega) h
    · exact ih ha h
theorem comb_len {size m f : Nat} {acc x : List Int} (ha : acc.length ≤ size) (h : x ∈ comb size m f acc) : x.length = size := by
  unfold comb at h
  split at h
  · simp at h; subst h; assumption
  · exact combL_len (by omega) h

end Go.Proofs.YtkfahochpnggbaaGreat.Ch
