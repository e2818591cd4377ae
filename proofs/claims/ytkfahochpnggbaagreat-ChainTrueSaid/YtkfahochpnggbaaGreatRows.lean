/-
  No cell of these rows narrows 'for every input' (looked for: loops, veiled, ifaces, maps, wideKeys, modest, calm, conditions, laid).
  DERIVED. THE GIVEN ROWS OF THIS SEAT. 12 by the template 'for every input the law returns true; each argument reads behind the call as it read before'; 0 by the template 'total and deterministic' (their statements: YtkfahochpnggbaaGreatTotals.lean).
  GIVEN WITH THE SEED: the statements are not yours to turn. If you find one false, say at which input.
  Laid BY PROGRAM, IN A SANDBOX (cutbox-rows.mjs): the forced cells as the released guide's own fill.sh prints them over the translation ed39c44e71f8dd3a… (all of the seat's roots in one cut). By AI agents, Wed Nov 11 2026. No macro, syntax, notation, axiom, sorry.
-/
import Derived.Test.YtkfahochpnggbaaGreatChecked
import GoSem.Claim
import GoSem.ClaimJoined
import GoSem.ClaimMapViews
import Derived.JoinedTies
import Derived.KernelRfl
namespace Go.Proofs.YtkfahochpnggbaaGreat
/- THE CELL 'sum', in the pinned program and in every row, IS THE sha256 OF THE DUMP (.gsa) THAT YtkfahochpnggbaaGreatProg.lean LOADS. Nothing in Lean hashes anything: it is a label: what it is worth is what the hold of that sum in a sandbox is worth. -/
noncomputable def Tryz.pinned : Pinned := { name := "ytkfahochpnggbaagreat", sum := "ed39c44e71f8dd3a8b160ce50a137462e0b1f12c8b11443fdb196aaf21e6e713", checked := Tryz.checked }
namespace Rows
def none {H : Type} : Left H := { results := [], args := [] }

/-- 'prowlaw01.ChainThicks': WHATEVER THE INPUT: true; the input reads as it did. -/
def chainThicksSpec : ChangeSpec := { name := "chainThicks", fn := fun _ => fun
  | [d1, d2] => { results := [.lit (.bool true)], args := [d1, d2] }
  | _ => none }
def chainThicksRow : OpenClaim := { program := "ytkfahochpnggbaagreat", sum := "ed39c44e71f8dd3a8b160ce50a137462e0b1f12c8b11443fdb196aaf21e6e713", func := "prow/prowlaw01.ChainThicks", spec := "chainThicks", unfollowed := true, recurses := true, plainKeys := false, apart := false }
def ChainThicksSaid : Prop := chainThicksRow.holds Tryz.pinned (OpenSpec.ofChange chainThicksSpec)

/-- ITS FALSE NEIGHBOUR: 'it returns false'. Refute it at one input. -/
def chainThicksWrong : ChangeSpec := { name := "chainThicks", fn := fun _ => fun
  | [d1, d2] => { results := [.lit (.bool false)], args := [d1, d2] }
  | _ => none }
def ChainThicksWrongFalsely : Prop := chainThicksRow.holds Tryz.pinned (OpenSpec.ofChange chainThicksWrong)

/-- 'prowlaw01.ChainThins': WHATEVER THE INPUT: true; the input reads as it did. -/
def chainThinsSpec : ChangeSpec := { name := "chainThins", fn := fun _ => fun
  | [d1, d2, d3] => { results := [.lit (.bool true)], args := [d1, d2, d3] }
  | _ => none }
def chainThinsRow : OpenClaim := { program := "ytkfahochpnggbaagreat", sum := "ed39c44e71f8dd3a8b160ce50a137462e0b1f12c8b11443fdb196aaf21e6e713", func := "prow/prowlaw01.ChainThins", spec := "chainThins", unfollowed := true, recurses := true, plainKeys := false, apart := false }
def ChainThinsSaid : Prop := chainThinsRow.holds Tryz.pinned (OpenSpec.ofChange chainThinsSpec)

/-- ITS FALSE NEIGHBOUR: 'it returns false'. Refute it at one input. -/
def chainThinsWrong : ChangeSpec := { name := "chainThins", fn := fun _ => fun
  | [d1, d2, d3] => { results := [.lit (.bool false)], args := [d1, d2, d3] }
  | _ => none }
def ChainThinsWrongFalsely : Prop := chainThinsRow.holds Tryz.pinned (OpenSpec.ofChange chainThinsWrong)

/-- 'prowlaw01.ChainTurns': WHATEVER THE INPUT: true; the input reads as it did. -/
def chainTurnsSpec : ChangeSpec := { name := "chainTurns", fn := fun _ => fun
  | [d] => { results := [.lit (.bool true)], args := [d] }
  | _ => none }
def chainTurnsRow : OpenClaim := { program := "ytkfahochpnggbaagreat", sum := "ed39c44e71f8dd3a8b160ce50a137462e0b1f12c8b11443fdb196aaf21e6e713", func := "prow/prowlaw01.ChainTurns", spec := "chainTurns", unfollowed := true, recurses := true, plainKeys := false, apart := false }
def ChainTurnsSaid : Prop := chainTurnsRow.holds Tryz.pinned (OpenSpec.ofChange chainTurnsSpec)

/-- ITS FALSE NEIGHBOUR: 'it returns false'. Refute it at one input. -/
def chainTurnsWrong : ChangeSpec := { name := "chainTurns", fn := fun _ => fun
  | [d] => { results := [.lit (.bool false)], args := [d] }
  | _ => none }
def ChainTurnsWrongFalsely : Prop := chainTurnsRow.holds Tryz.pinned (OpenSpec.ofChange chainTurnsWrong)

/-- 'prowlaw01.ChainTrue': WHATEVER THE INPUT: true; the input reads as it did. -/
def chainTrueSpec : ChangeSpec := { name := "chainTrue", fn := fun _ => fun
  | [d1, d2, d3] => { results := [.lit (.bool true)], args := [d1, d2, d3] }
  | _ => none }
def chainTrueRow : OpenClaim := { program := "ytkfahochpnggbaagreat", sum := "ed39c44e71f8dd3a8b160ce50a137462e0b1f12c8b11443fdb196aaf21e6e713", func := "prow/prowlaw01.ChainTrue", spec := "chainTrue", unfollowed := true, recurses := true, plainKeys := false, apart := false }
def ChainTrueSaid : Prop := chainTrueRow.holds Tryz.pinned (OpenSpec.ofChange chainTrueSpec)

/-- ITS FALSE NEIGHBOUR: 'it returns false'. Refute it at one input. -/
def chainTrueWrong : ChangeSpec := { name := "chainTrue", fn := fun _ => fun
  | [d1, d2, d3] => { results := [.lit (.bool false)], args := [d1, d2, d3] }
  | _ => none }
def ChainTrueWrongFalsely : Prop := chainTrueRow.holds Tryz.pinned (OpenSpec.ofChange chainTrueWrong)

/-- 'prowlaw01.ChainEnds': WHATEVER THE INPUT: true; the input reads as it did. -/
def chainEndsSpec : ChangeSpec := { name := "chainEnds", fn := fun _ => fun
  | [d1, d2] => { results := [.lit (.bool true)], args := [d1, d2] }
  | _ => none }
def chainEndsRow : OpenClaim := { program := "ytkfahochpnggbaagreat", sum := "ed39c44e71f8dd3a8b160ce50a137462e0b1f12c8b11443fdb196aaf21e6e713", func := "prow/prowlaw01.ChainEnds", spec := "chainEnds", unfollowed := true, recurses := true, plainKeys := false, apart := false }
def ChainEndsSaid : Prop := chainEndsRow.holds Tryz.pinned (OpenSpec.ofChange chainEndsSpec)

/-- ITS FALSE NEIGHBOUR: 'it returns false'. Refute it at one input. -/
def chainEndsWrong : ChangeSpec := { name := "chainEnds", fn := fun _ => fun
  | [d1, d2] => { results := [.lit (.bool false)], args := [d1, d2] }
  | _ => none }
def ChainEndsWrongFalsely : Prop := chainEndsRow.holds Tryz.pinned (OpenSpec.ofChange chainEndsWrong)

/-- 'prowlaw01.ChainMore': WHATEVER THE INPUT: true; the input reads as it did. -/
def chainMoreSpec : ChangeSpec := { name := "chainMore", fn := fun _ => fun
  | [d1, d2, d3] => { results := [.lit (.bool true)], args := [d1, d2, d3] }
  | _ => none }
def chainMoreRow : OpenClaim := { program := "ytkfahochpnggbaagreat", sum := "ed39c44e71f8dd3a8b160ce50a137462e0b1f12c8b11443fdb196aaf21e6e713", func := "prow/prowlaw01.ChainMore", spec := "chainMore", unfollowed := true, recurses := true, plainKeys := false, apart := false }
def ChainMoreSaid : Prop := chainMoreRow.holds Tryz.pinned (OpenSpec.ofChange chainMoreSpec)

/-- ITS FALSE NEIGHBOUR: 'it returns false'. Refute it at one input. -/
def chainMoreWrong : ChangeSpec := { name := "chainMore", fn := fun _ => fun
  | [d1, d2, d3] => { results := [.lit (.bool false)], args := [d1, d2, d3] }
  | _ => none }
def ChainMoreWrongFalsely : Prop := chainMoreRow.holds Tryz.pinned (OpenSpec.ofChange chainMoreWrong)

/-- 'prowlaw01.ChainFirst': WHATEVER THE INPUT: true; the input reads as it did. -/
def chainFirstSpec : ChangeSpec := { name := "chainFirst", fn := fun _ => fun
  | [d1, d2] => { results := [.lit (.bool true)], args := [d1, d2] }
  | _ => none }
def chainFirstRow : OpenClaim := { program := "ytkfahochpnggbaagreat", sum := "ed39c44e71f8dd3a8b160ce50a137462e0b1f12c8b11443fdb196aaf21e6e713", func := "prow/prowlaw01.ChainFirst", spec := "chainFirst", unfollowed := true, recurses := true, plainKeys := false, apart := false }
def ChainFirstSaid : Prop := chainFirstRow.holds Tryz.pinned (OpenSpec.ofChange chainFirstSpec)

/-- ITS FALSE NEIGHBOUR: 'it returns false'. Refute it at one input. -/
def chainFirstWrong : ChangeSpec := { name := "chainFirst", fn := fun _ => fun
  | [d1, d2] => { results := [.lit (.bool false)], args := [d1, d2] }
  | _ => none }
def ChainFirstWrongFalsely : Prop := chainFirstRow.holds Tryz.pinned (OpenSpec.ofChange chainFirstWrong)

/-- 'prowlaw01.ChainMirror': WHATEVER THE INPUT: true; the input reads as it did. -/
def chainMirrorSpec : ChangeSpec := { name := "chainMirror", fn := fun _ => fun
  | [d1, d2] => { results := [.lit (.bool true)], args := [d1, d2] }
  | _ => none }
def chainMirrorRow : OpenClaim := { program := "ytkfahochpnggbaagreat", sum := "ed39c44e71f8dd3a8b160ce50a137462e0b1f12c8b11443fdb196aaf21e6e713", func := "prow/prowlaw01.ChainMirror", spec := "chainMirror", unfollowed := true, recurses := true, plainKeys := false, apart := false }
def ChainMirrorSaid : Prop := chainMirrorRow.holds Tryz.pinned (OpenSpec.ofChange chainMirrorSpec)

/-- ITS FALSE NEIGHBOUR: 'it returns false'. Refute it at one input. -/
def chainMirrorWrong : ChangeSpec := { name := "chainMirror", fn := fun _ => fun
  | [d1, d2] => { results := [.lit (.bool false)], args := [d1, d2] }
  | _ => none }
def ChainMirrorWrongFalsely : Prop := chainMirrorRow.holds Tryz.pinned (OpenSpec.ofChange chainMirrorWrong)

/-- 'prowlaw01.ChainTurn': WHATEVER THE INPUT: true; the input reads as it did. -/
def chainTurnSpec : ChangeSpec := { name := "chainTurn", fn := fun _ => fun
  | [d1, d2] => { results := [.lit (.bool true)], args := [d1, d2] }
  | _ => none }
def chainTurnRow : OpenClaim := { program := "ytkfahochpnggbaagreat", sum := "ed39c44e71f8dd3a8b160ce50a137462e0b1f12c8b11443fdb196aaf21e6e713", func := "prow/prowlaw01.ChainTurn", spec := "chainTurn", unfollowed := true, recurses := true, plainKeys := false, apart := false }
def ChainTurnSaid : Prop := chainTurnRow.holds Tryz.pinned (OpenSpec.ofChange chainTurnSpec)

/-- ITS FALSE NEIGHBOUR: 'it returns false'. Refute it at one input. -/
def chainTurnWrong : ChangeSpec := { name := "chainTurn", fn := fun _ => fun
  | [d1, d2] => { results := [.lit (.bool false)], args := [d1, d2] }
  | _ => none }
def ChainTurnWrongFalsely : Prop := chainTurnRow.holds Tryz.pinned (OpenSpec.ofChange chainTurnWrong)

/-- 'prowlaw01.ChainWrong': WHATEVER THE INPUT: true; the input reads as it did. -/
def chainWrongSpec : ChangeSpec := { name := "chainWrong", fn := fun _ => fun
  | [d1, d2] => { results := [.lit (.bool true)], args := [d1, d2] }
  | _ => none }
def chainWrongRow : OpenClaim := { program := "ytkfahochpnggbaagreat", sum := "ed39c44e71f8dd3a8b160ce50a137462e0b1f12c8b11443fdb196aaf21e6e713", func := "prow/prowlaw01.ChainWrong", spec := "chainWrong", unfollowed := true, recurses := true, plainKeys := false, apart := false }
def ChainWrongSaid : Prop := chainWrongRow.holds Tryz.pinned (OpenSpec.ofChange chainWrongSpec)

/-- ITS FALSE NEIGHBOUR: 'it returns false'. Refute it at one input. -/
def chainWrongWrong : ChangeSpec := { name := "chainWrong", fn := fun _ => fun
  | [d1, d2] => { results := [.lit (.bool false)], args := [d1, d2] }
  | _ => none }
def ChainWrongWrongFalsely : Prop := chainWrongRow.holds Tryz.pinned (OpenSpec.ofChange chainWrongWrong)

/-- 'prowlaw01.ChainPlain': WHATEVER THE INPUT: true; the input reads as it did. -/
def chainPlainSpec : ChangeSpec := { name := "chainPlain", fn := fun _ => fun
  | [d1, d2] => { results := [.lit (.bool true)], args := [d1, d2] }
  | _ => none }
def chainPlainRow : OpenClaim := { program := "ytkfahochpnggbaagreat", sum := "ed39c44e71f8dd3a8b160ce50a137462e0b1f12c8b11443fdb196aaf21e6e713", func := "prow/prowlaw01.ChainPlain", spec := "chainPlain", unfollowed := true, recurses := true, plainKeys := false, apart := false }
def ChainPlainSaid : Prop := chainPlainRow.holds Tryz.pinned (OpenSpec.ofChange chainPlainSpec)

/-- ITS FALSE NEIGHBOUR: 'it returns false'. Refute it at one input. -/
def chainPlainWrong : ChangeSpec := { name := "chainPlain", fn := fun _ => fun
  | [d1, d2] => { results := [.lit (.bool false)], args := [d1, d2] }
  | _ => none }
def ChainPlainWrongFalsely : Prop := chainPlainRow.holds Tryz.pinned (OpenSpec.ofChange chainPlainWrong)

/-- 'prowlaw01.ChainKnown': WHATEVER THE INPUT: true; the input reads as it did. -/
def chainKnownSpec : ChangeSpec := { name := "chainKnown", fn := fun _ => fun
  | [] => { results := [.lit (.bool true)], args := [] }
  | _ => none }
def chainKnownRow : OpenClaim := { program := "ytkfahochpnggbaagreat", sum := "ed39c44e71f8dd3a8b160ce50a137462e0b1f12c8b11443fdb196aaf21e6e713", func := "prow/prowlaw01.ChainKnown", spec := "chainKnown", unfollowed := true, recurses := true, plainKeys := false, apart := false }
def ChainKnownSaid : Prop := chainKnownRow.holds Tryz.pinned (OpenSpec.ofChange chainKnownSpec)

/-- ITS FALSE NEIGHBOUR: 'it returns false'. Refute it at one input. -/
def chainKnownWrong : ChangeSpec := { name := "chainKnown", fn := fun _ => fun
  | [] => { results := [.lit (.bool false)], args := [] }
  | _ => none }
def ChainKnownWrongFalsely : Prop := chainKnownRow.holds Tryz.pinned (OpenSpec.ofChange chainKnownWrong)

/- THE SECOND FORM. 'bulk': how many values and letters a reading holds, each counted each time it is reached (what is shared counts as often as it is met; a slice's spare places count too). A statement '..UptoSaid' is the law's where the arguments, and the package variables that the reading takes, are together of bulk at most 1048576: NARROWER than '..Said'. Prove '..Said' where nothing that the law and all that it calls make is longer than what came in: it says more and counts as full. Else prove '..UptoSaid'. A law counts once. -/
mutual
def uptoBulk {H : Type} : DataW H → Nat
  | .lit (.string bytes) => bytes.length + 1
  | .lit _ => 1
  | .nil => 1
  | .ptr d => uptoBulk d + 1
  | .slice elems spare => uptoBulkAll elems + uptoBulkAll spare + 1
  | .agg parts => uptoBulkAll parts + 1
  | .iface _ d => uptoBulk d + 1
  | .map entries => uptoBulkEntries entries + 1
  | .held _ => 1
def uptoBulkAll {H : Type} : List (DataW H) → Nat
  | [] => 0
  | d :: r => uptoBulk d + uptoBulkAll r
def uptoBulkEntries {H : Type} : List (Lit × DataW H) → Nat
  | [] => 0
  | x :: r => uptoBulkEntry x + uptoBulkEntries r
def uptoBulkEntry {H : Type} : Lit × DataW H → Nat
  | (.string bytes, d) => bytes.length + uptoBulk d + 1
  | (_, d) => uptoBulk d + 1
 end
def uptoSmall : (H : Type) → List (DataW H) → Bool := fun _ ds => decide (uptoBulkAll ds ≤ 1048576)
def OpenSpec.upto (s : _root_.Go.ChangeSpec) : _root_.Go.OpenSpec := { _root_.Go.OpenSpec.ofChange s with cond := some uptoSmall }

/-- 'prowlaw01.ChainThicks', WHERE WHAT IT READS IS OF BULK AT MOST 1048576: true; the input reads as it did. -/
def chainThicksUptoRow : OpenClaim := { program := "ytkfahochpnggbaagreat", sum := "ed39c44e71f8dd3a8b160ce50a137462e0b1f12c8b11443fdb196aaf21e6e713", func := "prow/prowlaw01.ChainThicks", spec := "chainThicks", unfollowed := true, recurses := true, plainKeys := false, apart := false, narrowed := true }
def ChainThicksUptoSaid : Prop := chainThicksUptoRow.holds Tryz.pinned (OpenSpec.upto chainThicksSpec)

/-- 'prowlaw01.ChainThins', WHERE WHAT IT READS IS OF BULK AT MOST 1048576: true; the input reads as it did. -/
def chainThinsUptoRow : OpenClaim := { program := "ytkfahochpnggbaagreat", sum := "ed39c44e71f8dd3a8b160ce50a137462e0b1f12c8b11443fdb196aaf21e6e713", func := "prow/prowlaw01.ChainThins", spec := "chainThins", unfollowed := true, recurses := true, plainKeys := false, apart := false, narrowed := true }
def ChainThinsUptoSaid : Prop := chainThinsUptoRow.holds Tryz.pinned (OpenSpec.upto chainThinsSpec)

/-- 'prowlaw01.ChainTurns', WHERE WHAT IT READS IS OF BULK AT MOST 1048576: true; the input reads as it did. -/
def chainTurnsUptoRow : OpenClaim := { program := "ytkfahochpnggbaagreat", sum := "ed39c44e71f8dd3a8b160ce50a137462e0b1f12c8b11443fdb196aaf21e6e713", func := "prow/prowlaw01.ChainTurns", spec := "chainTurns", unfollowed := true, recurses := true, plainKeys := false, apart := false, narrowed := true }
def ChainTurnsUptoSaid : Prop := chainTurnsUptoRow.holds Tryz.pinned (OpenSpec.upto chainTurnsSpec)

/-- 'prowlaw01.ChainTrue', WHERE WHAT IT READS IS OF BULK AT MOST 1048576: true; the input reads as it did. -/
def chainTrueUptoRow : OpenClaim := { program := "ytkfahochpnggbaagreat", sum := "ed39c44e71f8dd3a8b160ce50a137462e0b1f12c8b11443fdb196aaf21e6e713", func := "prow/prowlaw01.ChainTrue", spec := "chainTrue", unfollowed := true, recurses := true, plainKeys := false, apart := false, narrowed := true }
def ChainTrueUptoSaid : Prop := chainTrueUptoRow.holds Tryz.pinned (OpenSpec.upto chainTrueSpec)

/-- 'prowlaw01.ChainEnds', WHERE WHAT IT READS IS OF BULK AT MOST 1048576: true; the input reads as it did. -/
def chainEndsUptoRow : OpenClaim := { program := "ytkfahochpnggbaagreat", sum := "ed39c44e71f8dd3a8b160ce50a137462e0b1f12c8b11443fdb196aaf21e6e713", func := "prow/prowlaw01.ChainEnds", spec := "chainEnds", unfollowed := true, recurses := true, plainKeys := false, apart := false, narrowed := true }
def ChainEndsUptoSaid : Prop := chainEndsUptoRow.holds Tryz.pinned (OpenSpec.upto chainEndsSpec)

/-- 'prowlaw01.ChainMore', WHERE WHAT IT READS IS OF BULK AT MOST 1048576: true; the input reads as it did. -/
def chainMoreUptoRow : OpenClaim := { program := "ytkfahochpnggbaagreat", sum := "ed39c44e71f8dd3a8b160ce50a137462e0b1f12c8b11443fdb196aaf21e6e713", func := "prow/prowlaw01.ChainMore", spec := "chainMore", unfollowed := true, recurses := true, plainKeys := false, apart := false, narrowed := true }
def ChainMoreUptoSaid : Prop := chainMoreUptoRow.holds Tryz.pinned (OpenSpec.upto chainMoreSpec)

/-- 'prowlaw01.ChainFirst', WHERE WHAT IT READS IS OF BULK AT MOST 1048576: true; the input reads as it did. -/
def chainFirstUptoRow : OpenClaim := { program := "ytkfahochpnggbaagreat", sum := "ed39c44e71f8dd3a8b160ce50a137462e0b1f12c8b11443fdb196aaf21e6e713", func := "prow/prowlaw01.ChainFirst", spec := "chainFirst", unfollowed := true, recurses := true, plainKeys := false, apart := false, narrowed := true }
def ChainFirstUptoSaid : Prop := chainFirstUptoRow.holds Tryz.pinned (OpenSpec.upto chainFirstSpec)

/-- 'prowlaw01.ChainMirror', WHERE WHAT IT READS IS OF BULK AT MOST 1048576: true; the input reads as it did. -/
def chainMirrorUptoRow : OpenClaim := { program := "ytkfahochpnggbaagreat", sum := "ed39c44e71f8dd3a8b160ce50a137462e0b1f12c8b11443fdb196aaf21e6e713", func := "prow/prowlaw01.ChainMirror", spec := "chainMirror", unfollowed := true, recurses := true, plainKeys := false, apart := false, narrowed := true }
def ChainMirrorUptoSaid : Prop := chainMirrorUptoRow.holds Tryz.pinned (OpenSpec.upto chainMirrorSpec)

/-- 'prowlaw01.ChainTurn', WHERE WHAT IT READS IS OF BULK AT MOST 1048576: true; the input reads as it did. -/
def chainTurnUptoRow : OpenClaim := { program := "ytkfahochpnggbaagreat", sum := "ed39c44e71f8dd3a8b160ce50a137462e0b1f12c8b11443fdb196aaf21e6e713", func := "prow/prowlaw01.ChainTurn", spec := "chainTurn", unfollowed := true, recurses := true, plainKeys := false, apart := false, narrowed := true }
def ChainTurnUptoSaid : Prop := chainTurnUptoRow.holds Tryz.pinned (OpenSpec.upto chainTurnSpec)

/-- 'prowlaw01.ChainWrong', WHERE WHAT IT READS IS OF BULK AT MOST 1048576: true; the input reads as it did. -/
def chainWrongUptoRow : OpenClaim := { program := "ytkfahochpnggbaagreat", sum := "ed39c44e71f8dd3a8b160ce50a137462e0b1f12c8b11443fdb196aaf21e6e713", func := "prow/prowlaw01.ChainWrong", spec := "chainWrong", unfollowed := true, recurses := true, plainKeys := false, apart := false, narrowed := true }
def ChainWrongUptoSaid : Prop := chainWrongUptoRow.holds Tryz.pinned (OpenSpec.upto chainWrongSpec)

/-- 'prowlaw01.ChainPlain', WHERE WHAT IT READS IS OF BULK AT MOST 1048576: true; the input reads as it did. -/
def chainPlainUptoRow : OpenClaim := { program := "ytkfahochpnggbaagreat", sum := "ed39c44e71f8dd3a8b160ce50a137462e0b1f12c8b11443fdb196aaf21e6e713", func := "prow/prowlaw01.ChainPlain", spec := "chainPlain", unfollowed := true, recurses := true, plainKeys := false, apart := false, narrowed := true }
def ChainPlainUptoSaid : Prop := chainPlainUptoRow.holds Tryz.pinned (OpenSpec.upto chainPlainSpec)

/-- 'prowlaw01.ChainKnown', WHERE WHAT IT READS IS OF BULK AT MOST 1048576: true; the input reads as it did. -/
def chainKnownUptoRow : OpenClaim := { program := "ytkfahochpnggbaagreat", sum := "ed39c44e71f8dd3a8b160ce50a137462e0b1f12c8b11443fdb196aaf21e6e713", func := "prow/prowlaw01.ChainKnown", spec := "chainKnown", unfollowed := true, recurses := true, plainKeys := false, apart := false, narrowed := true }
def ChainKnownUptoSaid : Prop := chainKnownUptoRow.holds Tryz.pinned (OpenSpec.upto chainKnownSpec)

end Rows
end Go.Proofs.YtkfahochpnggbaaGreat
