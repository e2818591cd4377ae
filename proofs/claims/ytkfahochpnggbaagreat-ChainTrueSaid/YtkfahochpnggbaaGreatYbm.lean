/- Texts on the program that the proof leans on, part 39. -/
import Derived.Test.YtkfahochpnggbaaGreatYbj
import Derived.Test.YtkfahochpnggbaaGreatYbi
import Derived.Test.YtkfahochpnggbaaGreatYav
import Derived.Test.YtkfahochpnggbaaGreatYaz
import Derived.Test.YtkfahochpnggbaaGreatYat
import Derived.Test.YtkfahochpnggbaaGreatYau
import Derived.Test.YtkfahochpnggbaaGreatYax
import Derived.Test.YtkfahochpnggbaaGreatYbe
set_option linter.unusedVariables false
set_option linter.unusedSimpArgs false

/- What Ch says of the chapter's books. -/
namespace Go.Proofs.YtkfahochpnggbaaGreat
open Go.RowKit
namespace Ch
theorem f_thick_own : thickSp ownB 0 12 = ⟨22, 36⟩ := by decide +kernel
theorem f_thick_own_e : studyE ownB (isSection ownB 0 && isDay ownB 12) = 0 := by decide +kernel
theorem f_thick_sur : thickSp surveyedB 1 12 = ⟨26, 33⟩ := by decide +kernel
theorem f_thick_sur_e : studyE surveyedB (isSection surveyedB 1 && isDay surveyedB 12) = 0 := by decide +kernel
theorem f_wear : wearSp surveyedB 0 = ⟨1, 1⟩ := by decide +kernel
theorem f_wear_e : studyE surveyedB (isSection surveyedB 0) = 0 := by decide +kernel
theorem f_thin : thinR ownB 1 = (8, 0) := by decide +kernel
theorem f_cut : cutL ownB 8 = [0, 1] := by decide +kernel
theorem f_cut_e : studyE ownB (isDay ownB 8) = 0 := by decide +kernel
theorem f_fits : fitsR surveyedB ⟨1, 6, 39, 0⟩ = true := by decide +kernel
theorem f_fits_e : studyE surveyedB (isSurvey surveyedB ⟨1, 6, 39, 0⟩) = 0 := by decide +kernel
theorem f_turn : turnR straightB = (4, 0) := by decide +kernel
theorem f_wrong : wrongL tornB = [1] := by decide +kernel
theorem f_wrong_e : check tornB = 0 := by decide +kernel
theorem f_right : right surveyedB = true := by decide +kernel
theorem f_right_e : check surveyedB = 0 := by decide +kernel
theorem f_gone : goneR ownB 0 = (0, 4) := by decide +kernel
end Ch
end Go.Proofs.YtkfahochpnggbaaGreat
