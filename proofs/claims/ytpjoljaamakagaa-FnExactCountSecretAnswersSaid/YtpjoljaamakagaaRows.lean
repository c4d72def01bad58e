/-
  No cell of these rows narrows 'for every input' (looked for: loops, veiled, ifaces, maps, wideKeys, modest, calm, conditions, laid).
  DERIVED. THE GIVEN ROWS OF THIS SEAT. 9 by the template 'for every input the law returns true; each argument reads behind the call as it read before'; 0 by the template 'total and deterministic' (their statements: YtpjoljaamakagaaTotals.lean).
  GIVEN WITH THE SEED: the statements are not yours to turn. If you find one false, say at which input.
  Laid BY PROGRAM, IN A SANDBOX (cutbox-rows.mjs): the forced cells as the released guide's own fill.sh prints them over the translation e09960841b71255e… (all of the seat's roots in one cut). By AI agents, Wed Nov 11 2026. No macro, syntax, notation, axiom, sorry.
-/
import Derived.Test.YtpjoljaamakagaaChecked
import GoSem.Claim
import GoSem.ClaimJoined
import GoSem.ClaimMapViews
import Derived.JoinedTies
import Derived.KernelRfl
namespace Go.Proofs.Ytpjoljaamakagaa
/- THE CELL 'sum', in the pinned program and in every row, IS THE sha256 OF THE DUMP (.gsa) THAT YtpjoljaamakagaaProg.lean LOADS. Nothing in Lean hashes anything: it is a label: what it is worth is what the hold of that sum in a sandbox is worth. -/
noncomputable def Try.pinned : Pinned := { name := "ytpjoljaamakagaa", sum := "e09960841b71255e941f727d2dab613c3d4209e8ca63e3681c7ce447df53cd5d", checked := Try.checked }
namespace Rows
def none {H : Type} : Left H := { results := [], args := [] }

/-- 'laws.FnExactIsRoom': WHATEVER THE INPUT: true; the input reads as it did. -/
def fnExactIsRoomSpec : ChangeSpec := { name := "fnExactIsRoom", fn := fun _ => fun
  | [d] => { results := [.lit (.bool true)], args := [d] }
  | _ => none }
def fnExactIsRoomRow : OpenClaim := { program := "ytpjoljaamakagaa", sum := "e09960841b71255e941f727d2dab613c3d4209e8ca63e3681c7ce447df53cd5d", func := "loop.example/g01269/laws.FnExactIsRoom", spec := "fnExactIsRoom", apart := false }
def FnExactIsRoomSaid : Prop := fnExactIsRoomRow.holds Try.pinned (OpenSpec.ofChange fnExactIsRoomSpec)

/-- ITS FALSE NEIGHBOUR: 'it returns false'. Refute it at one input. -/
def fnExactIsRoomWrong : ChangeSpec := { name := "fnExactIsRoom", fn := fun _ => fun
  | [d] => { results := [.lit (.bool false)], args := [d] }
  | _ => none }
def FnExactIsRoomWrongFalsely : Prop := fnExactIsRoomRow.holds Try.pinned (OpenSpec.ofChange fnExactIsRoomWrong)

/-- 'laws.FnExactNewRoom': WHATEVER THE INPUT: true; the input reads as it did. -/
def fnExactNewRoomSpec : ChangeSpec := { name := "fnExactNewRoom", fn := fun _ => fun
  | [d] => { results := [.lit (.bool true)], args := [d] }
  | _ => none }
def fnExactNewRoomRow : OpenClaim := { program := "ytpjoljaamakagaa", sum := "e09960841b71255e941f727d2dab613c3d4209e8ca63e3681c7ce447df53cd5d", func := "loop.example/g01269/laws.FnExactNewRoom", spec := "fnExactNewRoom", apart := false }
def FnExactNewRoomSaid : Prop := fnExactNewRoomRow.holds Try.pinned (OpenSpec.ofChange fnExactNewRoomSpec)

/-- ITS FALSE NEIGHBOUR: 'it returns false'. Refute it at one input. -/
def fnExactNewRoomWrong : ChangeSpec := { name := "fnExactNewRoom", fn := fun _ => fun
  | [d] => { results := [.lit (.bool false)], args := [d] }
  | _ => none }
def FnExactNewRoomWrongFalsely : Prop := fnExactNewRoomRow.holds Try.pinned (OpenSpec.ofChange fnExactNewRoomWrong)

/-- 'laws.FnExactStateOfRoom': WHATEVER THE INPUT: true; the input reads as it did. -/
def fnExactStateOfRoomSpec : ChangeSpec := { name := "fnExactStateOfRoom", fn := fun _ => fun
  | [d] => { results := [.lit (.bool true)], args := [d] }
  | _ => none }
def fnExactStateOfRoomRow : OpenClaim := { program := "ytpjoljaamakagaa", sum := "e09960841b71255e941f727d2dab613c3d4209e8ca63e3681c7ce447df53cd5d", func := "loop.example/g01269/laws.FnExactStateOfRoom", spec := "fnExactStateOfRoom", apart := false }
def FnExactStateOfRoomSaid : Prop := fnExactStateOfRoomRow.holds Try.pinned (OpenSpec.ofChange fnExactStateOfRoomSpec)

/-- ITS FALSE NEIGHBOUR: 'it returns false'. Refute it at one input. -/
def fnExactStateOfRoomWrong : ChangeSpec := { name := "fnExactStateOfRoom", fn := fun _ => fun
  | [d] => { results := [.lit (.bool false)], args := [d] }
  | _ => none }
def FnExactStateOfRoomWrongFalsely : Prop := fnExactStateOfRoomRow.holds Try.pinned (OpenSpec.ofChange fnExactStateOfRoomWrong)

/-- 'laws.FnExactNewConsole': WHATEVER THE INPUT: true; the input reads as it did. -/
def fnExactNewConsoleSpec : ChangeSpec := { name := "fnExactNewConsole", fn := fun _ => fun
  | [d] => { results := [.lit (.bool true)], args := [d] }
  | _ => none }
def fnExactNewConsoleRow : OpenClaim := { program := "ytpjoljaamakagaa", sum := "e09960841b71255e941f727d2dab613c3d4209e8ca63e3681c7ce447df53cd5d", func := "loop.example/g01269/laws.FnExactNewConsole", spec := "fnExactNewConsole", apart := false }
def FnExactNewConsoleSaid : Prop := fnExactNewConsoleRow.holds Try.pinned (OpenSpec.ofChange fnExactNewConsoleSpec)

/-- ITS FALSE NEIGHBOUR: 'it returns false'. Refute it at one input. -/
def fnExactNewConsoleWrong : ChangeSpec := { name := "fnExactNewConsole", fn := fun _ => fun
  | [d] => { results := [.lit (.bool false)], args := [d] }
  | _ => none }
def FnExactNewConsoleWrongFalsely : Prop := fnExactNewConsoleRow.holds Try.pinned (OpenSpec.ofChange fnExactNewConsoleWrong)

/-- 'laws.FnExactIsValidRecord': WHATEVER THE INPUT: true; the input reads as it did. -/
def fnExactIsValidRecordSpec : ChangeSpec := { name := "fnExactIsValidRecord", fn := fun _ => fun
  | [d] => { results := [.lit (.bool true)], args := [d] }
  | _ => none }
def fnExactIsValidRecordRow : OpenClaim := { program := "ytpjoljaamakagaa", sum := "e09960841b71255e941f727d2dab613c3d4209e8ca63e3681c7ce447df53cd5d", func := "loop.example/g01269/laws.FnExactIsValidRecord", spec := "fnExactIsValidRecord", inPlace := ["internal/bytealg.IndexByteString", "internal/bytealg.IndexString"], named := ["internal/bytealg.MaxLen"], apart := false }
def FnExactIsValidRecordSaid : Prop := fnExactIsValidRecordRow.holds Try.pinned (OpenSpec.ofChange fnExactIsValidRecordSpec)

/-- ITS FALSE NEIGHBOUR: 'it returns false'. Refute it at one input. -/
def fnExactIsValidRecordWrong : ChangeSpec := { name := "fnExactIsValidRecord", fn := fun _ => fun
  | [d] => { results := [.lit (.bool false)], args := [d] }
  | _ => none }
def FnExactIsValidRecordWrongFalsely : Prop := fnExactIsValidRecordRow.holds Try.pinned (OpenSpec.ofChange fnExactIsValidRecordWrong)

/-- 'laws.FnExactPlayRace': WHATEVER THE INPUT: true; the input reads as it did. -/
def fnExactPlayRaceSpec : ChangeSpec := { name := "fnExactPlayRace", fn := fun _ => fun
  | [d1, d2] => { results := [.lit (.bool true)], args := [d1, d2] }
  | _ => none }
def fnExactPlayRaceRow : OpenClaim := { program := "ytpjoljaamakagaa", sum := "e09960841b71255e941f727d2dab613c3d4209e8ca63e3681c7ce447df53cd5d", func := "loop.example/g01269/laws.FnExactPlayRace", spec := "fnExactPlayRace", inPlace := ["internal/abi.NoEscape"], unfollowed := true, recurses := true, apart := false }
def FnExactPlayRaceSaid : Prop := fnExactPlayRaceRow.holds Try.pinned (OpenSpec.ofChange fnExactPlayRaceSpec)

/-- ITS FALSE NEIGHBOUR: 'it returns false'. Refute it at one input. -/
def fnExactPlayRaceWrong : ChangeSpec := { name := "fnExactPlayRace", fn := fun _ => fun
  | [d1, d2] => { results := [.lit (.bool false)], args := [d1, d2] }
  | _ => none }
def FnExactPlayRaceWrongFalsely : Prop := fnExactPlayRaceRow.holds Try.pinned (OpenSpec.ofChange fnExactPlayRaceWrong)

/-- 'laws.FnExactSecretAnswers': WHATEVER THE INPUT: true; the input reads as it did. -/
def fnExactSecretAnswersSpec : ChangeSpec := { name := "fnExactSecretAnswers", fn := fun _ => fun
  | [d1, d2, d3] => { results := [.lit (.bool true)], args := [d1, d2, d3] }
  | _ => none }
def fnExactSecretAnswersRow : OpenClaim := { program := "ytpjoljaamakagaa", sum := "e09960841b71255e941f727d2dab613c3d4209e8ca63e3681c7ce447df53cd5d", func := "loop.example/g01269/laws.FnExactSecretAnswers", spec := "fnExactSecretAnswers", apart := false }
def FnExactSecretAnswersSaid : Prop := fnExactSecretAnswersRow.holds Try.pinned (OpenSpec.ofChange fnExactSecretAnswersSpec)

/-- ITS FALSE NEIGHBOUR: 'it returns false'. Refute it at one input. -/
def fnExactSecretAnswersWrong : ChangeSpec := { name := "fnExactSecretAnswers", fn := fun _ => fun
  | [d1, d2, d3] => { results := [.lit (.bool false)], args := [d1, d2, d3] }
  | _ => none }
def FnExactSecretAnswersWrongFalsely : Prop := fnExactSecretAnswersRow.holds Try.pinned (OpenSpec.ofChange fnExactSecretAnswersWrong)

/-- 'laws.FnExactCountSecretAnswers': WHATEVER THE INPUT: true; the input reads as it did. -/
def fnExactCountSecretAnswersSpec : ChangeSpec := { name := "fnExactCountSecretAnswers", fn := fun _ => fun
  | [d1, d2, d3] => { results := [.lit (.bool true)], args := [d1, d2, d3] }
  | _ => none }
def fnExactCountSecretAnswersRow : OpenClaim := { program := "ytpjoljaamakagaa", sum := "e09960841b71255e941f727d2dab613c3d4209e8ca63e3681c7ce447df53cd5d", func := "loop.example/g01269/laws.FnExactCountSecretAnswers", spec := "fnExactCountSecretAnswers", apart := false }
def FnExactCountSecretAnswersSaid : Prop := fnExactCountSecretAnswersRow.holds Try.pinned (OpenSpec.ofChange fnExactCountSecretAnswersSpec)

/-- ITS FALSE NEIGHBOUR: 'it returns false'. Refute it at one input. -/
def fnExactCountSecretAnswersWrong : ChangeSpec := { name := "fnExactCountSecretAnswers", fn := fun _ => fun
  | [d1, d2, d3] => { results := [.lit (.bool false)], args := [d1, d2, d3] }
  | _ => none }
def FnExactCountSecretAnswersWrongFalsely : Prop := fnExactCountSecretAnswersRow.holds Try.pinned (OpenSpec.ofChange fnExactCountSecretAnswersWrong)

/-- 'laws.FnRacePlays': WHATEVER THE INPUT: true; the input reads as it did. -/
def fnRacePlaysSpec : ChangeSpec := { name := "fnRacePlays", fn := fun _ => fun
  | [d] => { results := [.lit (.bool true)], args := [d] }
  | _ => none }
def fnRacePlaysRow : OpenClaim := { program := "ytpjoljaamakagaa", sum := "e09960841b71255e941f727d2dab613c3d4209e8ca63e3681c7ce447df53cd5d", func := "loop.example/g01269/laws.FnRacePlays", spec := "fnRacePlays", inPlace := ["internal/abi.NoEscape"], unfollowed := true, recurses := true, apart := false }
def FnRacePlaysSaid : Prop := fnRacePlaysRow.holds Try.pinned (OpenSpec.ofChange fnRacePlaysSpec)

/-- ITS FALSE NEIGHBOUR: 'it returns false'. Refute it at one input. -/
def fnRacePlaysWrong : ChangeSpec := { name := "fnRacePlays", fn := fun _ => fun
  | [d] => { results := [.lit (.bool false)], args := [d] }
  | _ => none }
def FnRacePlaysWrongFalsely : Prop := fnRacePlaysRow.holds Try.pinned (OpenSpec.ofChange fnRacePlaysWrong)

/- THE SECOND FORM. 'bulk': how many values and letters a reading holds, each counted each time it is reached (what is shared counts as often as it is met; a slice's spare places count too). A statement '..UptoSaid' is the law's where the arguments, and the package variables that the reading takes, are together of bulk at most 1048576: NARROWER than '..Said'. Prove '..Said' where nothing that the law and all that it calls make is longer than what came in: it says more and counts as full. Else prove '..UptoSaid'. A law counts once. -/
mutual
def uptoBulk {H : Type} : DataW H → Nat
  | .lit (.string bytes) => bytes.length + 1
  | .lit _ => 1
  | .nil => 1
  | .ptr d => uptoBulk d + 1
  | .slice elems spare => uptoBulkAll elems + uptoBulkAll spare + 1
  | .agg parts => uptoBulkAll parts + 1
  | .iface _ d => uptoBulk d + 1
  | .map entries => uptoBulkEntries entries + 1
  | .held _ => 1
def uptoBulkAll {H : Type} : List (DataW H) → Nat
  | [] => 0
  | d :: r => uptoBulk d + uptoBulkAll r
def uptoBulkEntries {H : Type} : List (Lit × DataW H) → Nat
  | [] => 0
  | x :: r => uptoBulkEntry x + uptoBulkEntries r
def uptoBulkEntry {H : Type} : Lit × DataW H → Nat
  | (.string bytes, d) => bytes.length + uptoBulk d + 1
  | (_, d) => uptoBulk d + 1
 end
def uptoSmall : (H : Type) → List (DataW H) → Bool := fun _ ds => decide (uptoBulkAll ds ≤ 1048576)
def OpenSpec.upto (s : _root_.Go.ChangeSpec) : _root_.Go.OpenSpec := { _root_.Go.OpenSpec.ofChange s with cond := some uptoSmall }

/-- 'laws.FnExactIsRoom', WHERE WHAT IT READS IS OF BULK AT MOST 1048576: true; the input reads as it did. -/
def fnExactIsRoomUptoRow : OpenClaim := { program := "ytpjoljaamakagaa", sum := "e09960841b71255e941f727d2dab613c3d4209e8ca63e3681c7ce447df53cd5d", func := "loop.example/g01269/laws.FnExactIsRoom", spec := "fnExactIsRoom", apart := false, narrowed := true }
def FnExactIsRoomUptoSaid : Prop := fnExactIsRoomUptoRow.holds Try.pinned (OpenSpec.upto fnExactIsRoomSpec)

/-- 'laws.FnExactNewRoom', WHERE WHAT IT READS IS OF BULK AT MOST 1048576: true; the input reads as it did. -/
def fnExactNewRoomUptoRow : OpenClaim := { program := "ytpjoljaamakagaa", sum := "e09960841b71255e941f727d2dab613c3d4209e8ca63e3681c7ce447df53cd5d", func := "loop.example/g01269/laws.FnExactNewRoom", spec := "fnExactNewRoom", apart := false, narrowed := true }
def FnExactNewRoomUptoSaid : Prop := fnExactNewRoomUptoRow.holds Try.pinned (OpenSpec.upto fnExactNewRoomSpec)

/-- 'laws.FnExactStateOfRoom', WHERE WHAT IT READS IS OF BULK AT MOST 1048576: true; the input reads as it did. -/
def fnExactStateOfRoomUptoRow : OpenClaim := { program := "ytpjoljaamakagaa", sum := "e09960841b71255e941f727d2dab613c3d4209e8ca63e3681c7ce447df53cd5d", func := "loop.example/g01269/laws.FnExactStateOfRoom", spec := "fnExactStateOfRoom", apart := false, narrowed := true }
def FnExactStateOfRoomUptoSaid : Prop := fnExactStateOfRoomUptoRow.holds Try.pinned (OpenSpec.upto fnExactStateOfRoomSpec)

/-- 'laws.FnExactNewConsole', WHERE WHAT IT READS IS OF BULK AT MOST 1048576: true; the input reads as it did. -/
def fnExactNewConsoleUptoRow : OpenClaim := { program := "ytpjoljaamakagaa", sum := "e09960841b71255e941f727d2dab613c3d4209e8ca63e3681c7ce447df53cd5d", func := "loop.example/g01269/laws.FnExactNewConsole", spec := "fnExactNewConsole", apart := false, narrowed := true }
def FnExactNewConsoleUptoSaid : Prop := fnExactNewConsoleUptoRow.holds Try.pinned (OpenSpec.upto fnExactNewConsoleSpec)

/-- 'laws.FnExactIsValidRecord', WHERE WHAT IT READS IS OF BULK AT MOST 1048576: true; the input reads as it did. -/
def fnExactIsValidRecordUptoRow : OpenClaim := { program := "ytpjoljaamakagaa", sum := "e09960841b71255e941f727d2dab613c3d4209e8ca63e3681c7ce447df53cd5d", func := "loop.example/g01269/laws.FnExactIsValidRecord", spec := "fnExactIsValidRecord", inPlace := ["internal/bytealg.IndexByteString", "internal/bytealg.IndexString"], named := ["internal/bytealg.MaxLen"], apart := false, narrowed := true }
def FnExactIsValidRecordUptoSaid : Prop := fnExactIsValidRecordUptoRow.holds Try.pinned (OpenSpec.upto fnExactIsValidRecordSpec)

/-- 'laws.FnExactPlayRace', WHERE WHAT IT READS IS OF BULK AT MOST 1048576: true; the input reads as it did. -/
def fnExactPlayRaceUptoRow : OpenClaim := { program := "ytpjoljaamakagaa", sum := "e09960841b71255e941f727d2dab613c3d4209e8ca63e3681c7ce447df53cd5d", func := "loop.example/g01269/laws.FnExactPlayRace", spec := "fnExactPlayRace", inPlace := ["internal/abi.NoEscape"], unfollowed := true, recurses := true, apart := false, narrowed := true }
def FnExactPlayRaceUptoSaid : Prop := fnExactPlayRaceUptoRow.holds Try.pinned (OpenSpec.upto fnExactPlayRaceSpec)

/-- 'laws.FnExactSecretAnswers', WHERE WHAT IT READS IS OF BULK AT MOST 1048576: true; the input reads as it did. -/
def fnExactSecretAnswersUptoRow : OpenClaim := { program := "ytpjoljaamakagaa", sum := "e09960841b71255e941f727d2dab613c3d4209e8ca63e3681c7ce447df53cd5d", func := "loop.example/g01269/laws.FnExactSecretAnswers", spec := "fnExactSecretAnswers", apart := false, narrowed := true }
def FnExactSecretAnswersUptoSaid : Prop := fnExactSecretAnswersUptoRow.holds Try.pinned (OpenSpec.upto fnExactSecretAnswersSpec)

/-- 'laws.FnExactCountSecretAnswers', WHERE WHAT IT READS IS OF BULK AT MOST 1048576: true; the input reads as it did. -/
def fnExactCountSecretAnswersUptoRow : OpenClaim := { program := "ytpjoljaamakagaa", sum := "e09960841b71255e941f727d2dab613c3d4209e8ca63e3681c7ce447df53cd5d", func := "loop.example/g01269/laws.FnExactCountSecretAnswers", spec := "fnExactCountSecretAnswers", apart := false, narrowed := true }
def FnExactCountSecretAnswersUptoSaid : Prop := fnExactCountSecretAnswersUptoRow.holds Try.pinned (OpenSpec.upto fnExactCountSecretAnswersSpec)

/-- 'laws.FnRacePlays', WHERE WHAT IT READS IS OF BULK AT MOST 1048576: true; the input reads as it did. -/
def fnRacePlaysUptoRow : OpenClaim := { program := "ytpjoljaamakagaa", sum := "e09960841b71255e941f727d2dab613c3d4209e8ca63e3681c7ce447df53cd5d", func := "loop.example/g01269/laws.FnRacePlays", spec := "fnRacePlays", inPlace := ["internal/abi.NoEscape"], unfollowed := true, recurses := true, apart := false, narrowed := true }
def FnRacePlaysUptoSaid : Prop := fnRacePlaysUptoRow.holds Try.pinned (OpenSpec.upto fnRacePlaysSpec)

end Rows
end Go.Proofs.Ytpjoljaamakagaa
