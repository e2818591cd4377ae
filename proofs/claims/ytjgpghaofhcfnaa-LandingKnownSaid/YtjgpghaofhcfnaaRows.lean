/-
  No cell of these rows narrows 'for every input' (looked for: loops, veiled, ifaces, maps, wideKeys, modest, calm, conditions, laid).
  DERIVED. THE GIVEN ROWS OF THIS SEAT. 9 by the template 'for every input the law returns true; each argument reads behind the call as it read before'; 0 by the template 'total and deterministic' (their statements: YtjgpghaofhcfnaaTotals.lean).
  GIVEN WITH THE SEED: the statements are not yours to turn. If you find one false, say at which input.
  Laid BY PROGRAM, IN A SANDBOX (cutbox-rows.mjs): the forced cells as the released guide's own fill.sh prints them over the translation fee5865564e85179… (all of the seat's roots in one cut). By AI agents, Wed Nov 11 2026. No macro, syntax, notation, axiom, sorry.
-/
import Derived.Test.YtjgpghaofhcfnaaChecked
import GoSem.Claim
import GoSem.ClaimJoined
import GoSem.ClaimMapViews
import Derived.JoinedTies
import Derived.KernelRfl
namespace Go.Proofs.Ytjgpghaofhcfnaa
/- THE CELL 'sum', in the pinned program and in every row, IS THE sha256 OF THE DUMP (.gsa) THAT YtjgpghaofhcfnaaProg.lean LOADS. Nothing in Lean hashes anything: it is a label: what it is worth is what the hold of that sum in a sandbox is worth. -/
noncomputable def Try.pinned : Pinned := { name := "ytjgpghaofhcfnaa", sum := "fee5865564e85179ef2cb0be670c347cc69186e9d6e2b479d8fdd7999eb2ac15", checked := Try.checked }
namespace Rows
def none {H : Type} : Left H := { results := [], args := [] }

/-- 'prowlaw02.LandingTrue': WHATEVER THE INPUT: true; the input reads as it did. -/
def landingTrueSpec : ChangeSpec := { name := "landingTrue", fn := fun _ => fun
  | [d1, d2, d3] => { results := [.lit (.bool true)], args := [d1, d2, d3] }
  | _ => none }
def landingTrueRow : OpenClaim := { program := "ytjgpghaofhcfnaa", sum := "fee5865564e85179ef2cb0be670c347cc69186e9d6e2b479d8fdd7999eb2ac15", func := "prow/prowlaw02.LandingTrue", spec := "landingTrue", unfollowed := true, recurses := true, plainKeys := false, apart := false }
def LandingTrueSaid : Prop := landingTrueRow.holds Try.pinned (OpenSpec.ofChange landingTrueSpec)

/-- ITS FALSE NEIGHBOUR: 'it returns false'. Refute it at one input. -/
def landingTrueWrong : ChangeSpec := { name := "landingTrue", fn := fun _ => fun
  | [d1, d2, d3] => { results := [.lit (.bool false)], args := [d1, d2, d3] }
  | _ => none }
def LandingTrueWrongFalsely : Prop := landingTrueRow.holds Try.pinned (OpenSpec.ofChange landingTrueWrong)

/-- 'prowlaw02.LandingEnds': WHATEVER THE INPUT: true; the input reads as it did. -/
def landingEndsSpec : ChangeSpec := { name := "landingEnds", fn := fun _ => fun
  | [d1, d2] => { results := [.lit (.bool true)], args := [d1, d2] }
  | _ => none }
def landingEndsRow : OpenClaim := { program := "ytjgpghaofhcfnaa", sum := "fee5865564e85179ef2cb0be670c347cc69186e9d6e2b479d8fdd7999eb2ac15", func := "prow/prowlaw02.LandingEnds", spec := "landingEnds", unfollowed := true, recurses := true, plainKeys := false, apart := false }
def LandingEndsSaid : Prop := landingEndsRow.holds Try.pinned (OpenSpec.ofChange landingEndsSpec)

/-- ITS FALSE NEIGHBOUR: 'it returns false'. Refute it at one input. -/
def landingEndsWrong : ChangeSpec := { name := "landingEnds", fn := fun _ => fun
  | [d1, d2] => { results := [.lit (.bool false)], args := [d1, d2] }
  | _ => none }
def LandingEndsWrongFalsely : Prop := landingEndsRow.holds Try.pinned (OpenSpec.ofChange landingEndsWrong)

/-- 'prowlaw02.LandingMore': WHATEVER THE INPUT: true; the input reads as it did. -/
def landingMoreSpec : ChangeSpec := { name := "landingMore", fn := fun _ => fun
  | [d1, d2, d3] => { results := [.lit (.bool true)], args := [d1, d2, d3] }
  | _ => none }
def landingMoreRow : OpenClaim := { program := "ytjgpghaofhcfnaa", sum := "fee5865564e85179ef2cb0be670c347cc69186e9d6e2b479d8fdd7999eb2ac15", func := "prow/prowlaw02.LandingMore", spec := "landingMore", unfollowed := true, recurses := true, plainKeys := false, apart := false }
def LandingMoreSaid : Prop := landingMoreRow.holds Try.pinned (OpenSpec.ofChange landingMoreSpec)

/-- ITS FALSE NEIGHBOUR: 'it returns false'. Refute it at one input. -/
def landingMoreWrong : ChangeSpec := { name := "landingMore", fn := fun _ => fun
  | [d1, d2, d3] => { results := [.lit (.bool false)], args := [d1, d2, d3] }
  | _ => none }
def LandingMoreWrongFalsely : Prop := landingMoreRow.holds Try.pinned (OpenSpec.ofChange landingMoreWrong)

/-- 'prowlaw02.LandingMost': WHATEVER THE INPUT: true; the input reads as it did. -/
def landingMostSpec : ChangeSpec := { name := "landingMost", fn := fun _ => fun
  | [d1, d2] => { results := [.lit (.bool true)], args := [d1, d2] }
  | _ => none }
def landingMostRow : OpenClaim := { program := "ytjgpghaofhcfnaa", sum := "fee5865564e85179ef2cb0be670c347cc69186e9d6e2b479d8fdd7999eb2ac15", func := "prow/prowlaw02.LandingMost", spec := "landingMost", unfollowed := true, recurses := true, plainKeys := false, apart := false }
def LandingMostSaid : Prop := landingMostRow.holds Try.pinned (OpenSpec.ofChange landingMostSpec)

/-- ITS FALSE NEIGHBOUR: 'it returns false'. Refute it at one input. -/
def landingMostWrong : ChangeSpec := { name := "landingMost", fn := fun _ => fun
  | [d1, d2] => { results := [.lit (.bool false)], args := [d1, d2] }
  | _ => none }
def LandingMostWrongFalsely : Prop := landingMostRow.holds Try.pinned (OpenSpec.ofChange landingMostWrong)

/-- 'prowlaw02.LandingFirst': WHATEVER THE INPUT: true; the input reads as it did. -/
def landingFirstSpec : ChangeSpec := { name := "landingFirst", fn := fun _ => fun
  | [d1, d2] => { results := [.lit (.bool true)], args := [d1, d2] }
  | _ => none }
def landingFirstRow : OpenClaim := { program := "ytjgpghaofhcfnaa", sum := "fee5865564e85179ef2cb0be670c347cc69186e9d6e2b479d8fdd7999eb2ac15", func := "prow/prowlaw02.LandingFirst", spec := "landingFirst", unfollowed := true, recurses := true, plainKeys := false, apart := false }
def LandingFirstSaid : Prop := landingFirstRow.holds Try.pinned (OpenSpec.ofChange landingFirstSpec)

/-- ITS FALSE NEIGHBOUR: 'it returns false'. Refute it at one input. -/
def landingFirstWrong : ChangeSpec := { name := "landingFirst", fn := fun _ => fun
  | [d1, d2] => { results := [.lit (.bool false)], args := [d1, d2] }
  | _ => none }
def LandingFirstWrongFalsely : Prop := landingFirstRow.holds Try.pinned (OpenSpec.ofChange landingFirstWrong)

/-- 'prowlaw02.LandingWrong': WHATEVER THE INPUT: true; the input reads as it did. -/
def landingWrongSpec : ChangeSpec := { name := "landingWrong", fn := fun _ => fun
  | [d1, d2] => { results := [.lit (.bool true)], args := [d1, d2] }
  | _ => none }
def landingWrongRow : OpenClaim := { program := "ytjgpghaofhcfnaa", sum := "fee5865564e85179ef2cb0be670c347cc69186e9d6e2b479d8fdd7999eb2ac15", func := "prow/prowlaw02.LandingWrong", spec := "landingWrong", unfollowed := true, recurses := true, plainKeys := false, apart := false }
def LandingWrongSaid : Prop := landingWrongRow.holds Try.pinned (OpenSpec.ofChange landingWrongSpec)

/-- ITS FALSE NEIGHBOUR: 'it returns false'. Refute it at one input. -/
def landingWrongWrong : ChangeSpec := { name := "landingWrong", fn := fun _ => fun
  | [d1, d2] => { results := [.lit (.bool false)], args := [d1, d2] }
  | _ => none }
def LandingWrongWrongFalsely : Prop := landingWrongRow.holds Try.pinned (OpenSpec.ofChange landingWrongWrong)

/-- 'prowlaw02.LandingEasier': WHATEVER THE INPUT: true; the input reads as it did. -/
def landingEasierSpec : ChangeSpec := { name := "landingEasier", fn := fun _ => fun
  | [d1, d2] => { results := [.lit (.bool true)], args := [d1, d2] }
  | _ => none }
def landingEasierRow : OpenClaim := { program := "ytjgpghaofhcfnaa", sum := "fee5865564e85179ef2cb0be670c347cc69186e9d6e2b479d8fdd7999eb2ac15", func := "prow/prowlaw02.LandingEasier", spec := "landingEasier", unfollowed := true, recurses := true, plainKeys := false, apart := false }
def LandingEasierSaid : Prop := landingEasierRow.holds Try.pinned (OpenSpec.ofChange landingEasierSpec)

/-- ITS FALSE NEIGHBOUR: 'it returns false'. Refute it at one input. -/
def landingEasierWrong : ChangeSpec := { name := "landingEasier", fn := fun _ => fun
  | [d1, d2] => { results := [.lit (.bool false)], args := [d1, d2] }
  | _ => none }
def LandingEasierWrongFalsely : Prop := landingEasierRow.holds Try.pinned (OpenSpec.ofChange landingEasierWrong)

/-- 'prowlaw02.LandingHigher': WHATEVER THE INPUT: true; the input reads as it did. -/
def landingHigherSpec : ChangeSpec := { name := "landingHigher", fn := fun _ => fun
  | [d1, d2] => { results := [.lit (.bool true)], args := [d1, d2] }
  | _ => none }
def landingHigherRow : OpenClaim := { program := "ytjgpghaofhcfnaa", sum := "fee5865564e85179ef2cb0be670c347cc69186e9d6e2b479d8fdd7999eb2ac15", func := "prow/prowlaw02.LandingHigher", spec := "landingHigher", unfollowed := true, recurses := true, plainKeys := false, apart := false }
def LandingHigherSaid : Prop := landingHigherRow.holds Try.pinned (OpenSpec.ofChange landingHigherSpec)

/-- ITS FALSE NEIGHBOUR: 'it returns false'. Refute it at one input. -/
def landingHigherWrong : ChangeSpec := { name := "landingHigher", fn := fun _ => fun
  | [d1, d2] => { results := [.lit (.bool false)], args := [d1, d2] }
  | _ => none }
def LandingHigherWrongFalsely : Prop := landingHigherRow.holds Try.pinned (OpenSpec.ofChange landingHigherWrong)

/-- 'prowlaw02.LandingKnown': WHATEVER THE INPUT: true; the input reads as it did. -/
def landingKnownSpec : ChangeSpec := { name := "landingKnown", fn := fun _ => fun
  | [] => { results := [.lit (.bool true)], args := [] }
  | _ => none }
def landingKnownRow : OpenClaim := { program := "ytjgpghaofhcfnaa", sum := "fee5865564e85179ef2cb0be670c347cc69186e9d6e2b479d8fdd7999eb2ac15", func := "prow/prowlaw02.LandingKnown", spec := "landingKnown", unfollowed := true, recurses := true, plainKeys := false, apart := false }
def LandingKnownSaid : Prop := landingKnownRow.holds Try.pinned (OpenSpec.ofChange landingKnownSpec)

/-- ITS FALSE NEIGHBOUR: 'it returns false'. Refute it at one input. -/
def landingKnownWrong : ChangeSpec := { name := "landingKnown", fn := fun _ => fun
  | [] => { results := [.lit (.bool false)], args := [] }
  | _ => none }
def LandingKnownWrongFalsely : Prop := landingKnownRow.holds Try.pinned (OpenSpec.ofChange landingKnownWrong)

/- THE SECOND FORM. 'bulk': how many values and letters a reading holds, each counted each time it is reached (what is shared counts as often as it is met; a slice's spare places count too). A statement '..UptoSaid' is the law's where the arguments, and the package variables that the reading takes, are together of bulk at most 1048576: NARROWER than '..Said'. Prove '..Said' where nothing that the law and all that it calls make is longer than what came in: it says more and counts as full. Else prove '..UptoSaid'. A law counts once. -/
mutual
def uptoBulk {H : Type} : DataW H → Nat
  | .lit (.string bytes) => bytes.length + 1
  | .lit _ => 1
  | .nil => 1
  | .ptr d => uptoBulk d + 1
  | .slice elems spare => uptoBulkAll elems + uptoBulkAll spare + 1
  | .agg parts => uptoBulkAll parts + 1
  | .iface _ d => uptoBulk d + 1
  | .map entries => uptoBulkEntries entries + 1
  | .held _ => 1
def uptoBulkAll {H : Type} : List (DataW H) → Nat
  | [] => 0
  | d :: r => uptoBulk d + uptoBulkAll r
def uptoBulkEntries {H : Type} : List (Lit × DataW H) → Nat
  | [] => 0
  | x :: r => uptoBulkEntry x + uptoBulkEntries r
def uptoBulkEntry {H : Type} : Lit × DataW H → Nat
  | (.string bytes, d) => bytes.length + uptoBulk d + 1
  | (_, d) => uptoBulk d + 1
 end
def uptoSmall : (H : Type) → List (DataW H) → Bool := fun _ ds => decide (uptoBulkAll ds ≤ 1048576)
def OpenSpec.upto (s : _root_.Go.ChangeSpec) : _root_.Go.OpenSpec := { _root_.Go.OpenSpec.ofChange s with cond := some uptoSmall }

/-- 'prowlaw02.LandingTrue', WHERE WHAT IT READS IS OF BULK AT MOST 1048576: true; the input reads as it did. -/
def landingTrueUptoRow : OpenClaim := { program := "ytjgpghaofhcfnaa", sum := "fee5865564e85179ef2cb0be670c347cc69186e9d6e2b479d8fdd7999eb2ac15", func := "prow/prowlaw02.LandingTrue", spec := "landingTrue", unfollowed := true, recurses := true, plainKeys := false, apart := false, narrowed := true }
def LandingTrueUptoSaid : Prop := landingTrueUptoRow.holds Try.pinned (OpenSpec.upto landingTrueSpec)

/-- 'prowlaw02.LandingEnds', WHERE WHAT IT READS IS OF BULK AT MOST 1048576: true; the input reads as it did. -/
def landingEndsUptoRow : OpenClaim := { program := "ytjgpghaofhcfnaa", sum := "fee5865564e85179ef2cb0be670c347cc69186e9d6e2b479d8fdd7999eb2ac15", func := "prow/prowlaw02.LandingEnds", spec := "landingEnds", unfollowed := true, recurses := true, plainKeys := false, apart := false, narrowed := true }
def LandingEndsUptoSaid : Prop := landingEndsUptoRow.holds Try.pinned (OpenSpec.upto landingEndsSpec)

/-- 'prowlaw02.LandingMore', WHERE WHAT IT READS IS OF BULK AT MOST 1048576: true; the input reads as it did. -/
def landingMoreUptoRow : OpenClaim := { program := "ytjgpghaofhcfnaa", sum := "fee5865564e85179ef2cb0be670c347cc69186e9d6e2b479d8fdd7999eb2ac15", func := "prow/prowlaw02.LandingMore", spec := "landingMore", unfollowed := true, recurses := true, plainKeys := false, apart := false, narrowed := true }
def LandingMoreUptoSaid : Prop := landingMoreUptoRow.holds Try.pinned (OpenSpec.upto landingMoreSpec)

/-- 'prowlaw02.LandingMost', WHERE WHAT IT READS IS OF BULK AT MOST 1048576: true; the input reads as it did. -/
def landingMostUptoRow : OpenClaim := { program := "ytjgpghaofhcfnaa", sum := "fee5865564e85179ef2cb0be670c347cc69186e9d6e2b479d8fdd7999eb2ac15", func := "prow/prowlaw02.LandingMost", spec := "landingMost", unfollowed := true, recurses := true, plainKeys := false, apart := false, narrowed := true }
def LandingMostUptoSaid : Prop := landingMostUptoRow.holds Try.pinned (OpenSpec.upto landingMostSpec)

/-- 'prowlaw02.LandingFirst', WHERE WHAT IT READS IS OF BULK AT MOST 1048576: true; the input reads as it did. -/
def landingFirstUptoRow : OpenClaim := { program := "ytjgpghaofhcfnaa", sum := "fee5865564e85179ef2cb0be670c347cc69186e9d6e2b479d8fdd7999eb2ac15", func := "prow/prowlaw02.LandingFirst", spec := "landingFirst", unfollowed := true, recurses := true, plainKeys := false, apart := false, narrowed := true }
def LandingFirstUptoSaid : Prop := landingFirstUptoRow.holds Try.pinned (OpenSpec.upto landingFirstSpec)

/-- 'prowlaw02.LandingWrong', WHERE WHAT IT READS IS OF BULK AT MOST 1048576: true; the input reads as it did. -/
def landingWrongUptoRow : OpenClaim := { program := "ytjgpghaofhcfnaa", sum := "fee5865564e85179ef2cb0be670c347cc69186e9d6e2b479d8fdd7999eb2ac15", func := "prow/prowlaw02.LandingWrong", spec := "landingWrong", unfollowed := true, recurses := true, plainKeys := false, apart := false, narrowed := true }
def LandingWrongUptoSaid : Prop := landingWrongUptoRow.holds Try.pinned (OpenSpec.upto landingWrongSpec)

/-- 'prowlaw02.LandingEasier', WHERE WHAT IT READS IS OF BULK AT MOST 1048576: true; the input reads as it did. -/
def landingEasierUptoRow : OpenClaim := { program := "ytjgpghaofhcfnaa", sum := "fee5865564e85179ef2cb0be670c347cc69186e9d6e2b479d8fdd7999eb2ac15", func := "prow/prowlaw02.LandingEasier", spec := "landingEasier", unfollowed := true, recurses := true, plainKeys := false, apart := false, narrowed := true }
def LandingEasierUptoSaid : Prop := landingEasierUptoRow.holds Try.pinned (OpenSpec.upto landingEasierSpec)

/-- 'prowlaw02.LandingHigher', WHERE WHAT IT READS IS OF BULK AT MOST 1048576: true; the input reads as it did. -/
def landingHigherUptoRow : OpenClaim := { program := "ytjgpghaofhcfnaa", sum := "fee5865564e85179ef2cb0be670c347cc69186e9d6e2b479d8fdd7999eb2ac15", func := "prow/prowlaw02.LandingHigher", spec := "landingHigher", unfollowed := true, recurses := true, plainKeys := false, apart := false, narrowed := true }
def LandingHigherUptoSaid : Prop := landingHigherUptoRow.holds Try.pinned (OpenSpec.upto landingHigherSpec)

/-- 'prowlaw02.LandingKnown', WHERE WHAT IT READS IS OF BULK AT MOST 1048576: true; the input reads as it did. -/
def landingKnownUptoRow : OpenClaim := { program := "ytjgpghaofhcfnaa", sum := "fee5865564e85179ef2cb0be670c347cc69186e9d6e2b479d8fdd7999eb2ac15", func := "prow/prowlaw02.LandingKnown", spec := "landingKnown", unfollowed := true, recurses := true, plainKeys := false, apart := false, narrowed := true }
def LandingKnownUptoSaid : Prop := landingKnownUptoRow.holds Try.pinned (OpenSpec.upto landingKnownSpec)

end Rows
end Go.Proofs.Ytjgpghaofhcfnaa
