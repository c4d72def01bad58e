/-
  No cell of these rows narrows 'for every input' (looked for: loops, veiled, ifaces, maps, wideKeys, modest, calm, conditions, laid).
  DERIVED. THE GIVEN ROWS OF THIS SEAT. 11 by the template 'for every input the law returns true; each argument reads behind the call as it read before'; 0 by the template 'total and deterministic' (their statements: YtichjhahnahaoaaTotals.lean).
  GIVEN WITH THE SEED: the statements are not yours to turn. If you find one false, say at which input.
  Laid BY PROGRAM, IN A SANDBOX (cutbox-rows.mjs): the forced cells as the released guide's own fill.sh prints them over the translation 4ff8e844329008dd… (all of the seat's roots in one cut). By AI agents, Wed Nov 11 2026. No macro, syntax, notation, axiom, sorry.
-/
import Derived.Test.YtichjhahnahaoaaChecked
import GoSem.Claim
import GoSem.ClaimJoined
import GoSem.ClaimMapViews
import Derived.JoinedTies
import Derived.KernelRfl
namespace Go.Proofs.Ytichjhahnahaoaa
/- THE CELL 'sum', in the pinned program and in every row, IS THE sha256 OF THE DUMP (.gsa) THAT YtichjhahnahaoaaProg.lean LOADS. Nothing in Lean hashes anything: it is a label: what it is worth is what the hold of that sum in a sandbox is worth. -/
noncomputable def Try.pinned : Pinned := { name := "ytichjhahnahaoaa", sum := "4ff8e844329008dd03c0d9cc6fb418265179365129091f2970a7ce016c8c6fb2", checked := Try.checked }
namespace Rows
def none {H : Type} : Left H := { results := [], args := [] }

/-- 'laws.FnExactLessQuestion': WHATEVER THE INPUT: true; the input reads as it did. -/
def fnExactLessQuestionSpec : ChangeSpec := { name := "fnExactLessQuestion", fn := fun _ => fun
  | [d1, d2] => { results := [.lit (.bool true)], args := [d1, d2] }
  | _ => none }
def fnExactLessQuestionRow : OpenClaim := { program := "ytichjhahnahaoaa", sum := "4ff8e844329008dd03c0d9cc6fb418265179365129091f2970a7ce016c8c6fb2", func := "loop.example/g01269/laws.FnExactLessQuestion", spec := "fnExactLessQuestion", plainKeys := false, apart := false }
def FnExactLessQuestionSaid : Prop := fnExactLessQuestionRow.holds Try.pinned (OpenSpec.ofChange fnExactLessQuestionSpec)

/-- ITS FALSE NEIGHBOUR: 'it returns false'. Refute it at one input. -/
def fnExactLessQuestionWrong : ChangeSpec := { name := "fnExactLessQuestion", fn := fun _ => fun
  | [d1, d2] => { results := [.lit (.bool false)], args := [d1, d2] }
  | _ => none }
def FnExactLessQuestionWrongFalsely : Prop := fnExactLessQuestionRow.holds Try.pinned (OpenSpec.ofChange fnExactLessQuestionWrong)

/-- 'laws.FnExactLessNeed': WHATEVER THE INPUT: true; the input reads as it did. -/
def fnExactLessNeedSpec : ChangeSpec := { name := "fnExactLessNeed", fn := fun _ => fun
  | [d] => { results := [.lit (.bool true)], args := [d] }
  | _ => none }
def fnExactLessNeedRow : OpenClaim := { program := "ytichjhahnahaoaa", sum := "4ff8e844329008dd03c0d9cc6fb418265179365129091f2970a7ce016c8c6fb2", func := "loop.example/g01269/laws.FnExactLessNeed", spec := "fnExactLessNeed", inPlace := ["internal/abi.NoEscape"], recurses := true, plainKeys := false, apart := false }
def FnExactLessNeedSaid : Prop := fnExactLessNeedRow.holds Try.pinned (OpenSpec.ofChange fnExactLessNeedSpec)

/-- ITS FALSE NEIGHBOUR: 'it returns false'. Refute it at one input. -/
def fnExactLessNeedWrong : ChangeSpec := { name := "fnExactLessNeed", fn := fun _ => fun
  | [d] => { results := [.lit (.bool false)], args := [d] }
  | _ => none }
def FnExactLessNeedWrongFalsely : Prop := fnExactLessNeedRow.holds Try.pinned (OpenSpec.ofChange fnExactLessNeedWrong)

/-- 'laws.FnExactBestLess': WHATEVER THE INPUT: true; the input reads as it did. -/
def fnExactBestLessSpec : ChangeSpec := { name := "fnExactBestLess", fn := fun _ => fun
  | [d] => { results := [.lit (.bool true)], args := [d] }
  | _ => none }
def fnExactBestLessRow : OpenClaim := { program := "ytichjhahnahaoaa", sum := "4ff8e844329008dd03c0d9cc6fb418265179365129091f2970a7ce016c8c6fb2", func := "loop.example/g01269/laws.FnExactBestLess", spec := "fnExactBestLess", inPlace := ["internal/abi.NoEscape"], recurses := true, plainKeys := false, apart := false }
def FnExactBestLessSaid : Prop := fnExactBestLessRow.holds Try.pinned (OpenSpec.ofChange fnExactBestLessSpec)

/-- ITS FALSE NEIGHBOUR: 'it returns false'. Refute it at one input. -/
def fnExactBestLessWrong : ChangeSpec := { name := "fnExactBestLess", fn := fun _ => fun
  | [d] => { results := [.lit (.bool false)], args := [d] }
  | _ => none }
def FnExactBestLessWrongFalsely : Prop := fnExactBestLessRow.holds Try.pinned (OpenSpec.ofChange fnExactBestLessWrong)

/-- 'laws.FnExactNeedOfLess': WHATEVER THE INPUT: true; the input reads as it did. -/
def fnExactNeedOfLessSpec : ChangeSpec := { name := "fnExactNeedOfLess", fn := fun _ => fun
  | [d1, d2] => { results := [.lit (.bool true)], args := [d1, d2] }
  | _ => none }
def fnExactNeedOfLessRow : OpenClaim := { program := "ytichjhahnahaoaa", sum := "4ff8e844329008dd03c0d9cc6fb418265179365129091f2970a7ce016c8c6fb2", func := "loop.example/g01269/laws.FnExactNeedOfLess", spec := "fnExactNeedOfLess", inPlace := ["internal/abi.NoEscape"], recurses := true, plainKeys := false, apart := false }
def FnExactNeedOfLessSaid : Prop := fnExactNeedOfLessRow.holds Try.pinned (OpenSpec.ofChange fnExactNeedOfLessSpec)

/-- ITS FALSE NEIGHBOUR: 'it returns false'. Refute it at one input. -/
def fnExactNeedOfLessWrong : ChangeSpec := { name := "fnExactNeedOfLess", fn := fun _ => fun
  | [d1, d2] => { results := [.lit (.bool false)], args := [d1, d2] }
  | _ => none }
def FnExactNeedOfLessWrongFalsely : Prop := fnExactNeedOfLessRow.holds Try.pinned (OpenSpec.ofChange fnExactNeedOfLessWrong)

/-- 'laws.FnExactLessTable': WHATEVER THE INPUT: true; the input reads as it did. -/
def fnExactLessTableSpec : ChangeSpec := { name := "fnExactLessTable", fn := fun _ => fun
  | [d] => { results := [.lit (.bool true)], args := [d] }
  | _ => none }
def fnExactLessTableRow : OpenClaim := { program := "ytichjhahnahaoaa", sum := "4ff8e844329008dd03c0d9cc6fb418265179365129091f2970a7ce016c8c6fb2", func := "loop.example/g01269/laws.FnExactLessTable", spec := "fnExactLessTable", inPlace := ["internal/abi.NoEscape"], recurses := true, plainKeys := false, apart := false }
def FnExactLessTableSaid : Prop := fnExactLessTableRow.holds Try.pinned (OpenSpec.ofChange fnExactLessTableSpec)

/-- ITS FALSE NEIGHBOUR: 'it returns false'. Refute it at one input. -/
def fnExactLessTableWrong : ChangeSpec := { name := "fnExactLessTable", fn := fun _ => fun
  | [d] => { results := [.lit (.bool false)], args := [d] }
  | _ => none }
def FnExactLessTableWrongFalsely : Prop := fnExactLessTableRow.holds Try.pinned (OpenSpec.ofChange fnExactLessTableWrong)

/-- 'laws.FnExactLessPlay': WHATEVER THE INPUT: true; the input reads as it did. -/
def fnExactLessPlaySpec : ChangeSpec := { name := "fnExactLessPlay", fn := fun _ => fun
  | [d1, d2, d3] => { results := [.lit (.bool true)], args := [d1, d2, d3] }
  | _ => none }
def fnExactLessPlayRow : OpenClaim := { program := "ytichjhahnahaoaa", sum := "4ff8e844329008dd03c0d9cc6fb418265179365129091f2970a7ce016c8c6fb2", func := "loop.example/g01269/laws.FnExactLessPlay", spec := "fnExactLessPlay", inPlace := ["internal/abi.NoEscape"], recurses := true, plainKeys := false, apart := false }
def FnExactLessPlaySaid : Prop := fnExactLessPlayRow.holds Try.pinned (OpenSpec.ofChange fnExactLessPlaySpec)

/-- ITS FALSE NEIGHBOUR: 'it returns false'. Refute it at one input. -/
def fnExactLessPlayWrong : ChangeSpec := { name := "fnExactLessPlay", fn := fun _ => fun
  | [d1, d2, d3] => { results := [.lit (.bool false)], args := [d1, d2, d3] }
  | _ => none }
def FnExactLessPlayWrongFalsely : Prop := fnExactLessPlayRow.holds Try.pinned (OpenSpec.ofChange fnExactLessPlayWrong)

/-- 'laws.FnExactLessWorst': WHATEVER THE INPUT: true; the input reads as it did. -/
def fnExactLessWorstSpec : ChangeSpec := { name := "fnExactLessWorst", fn := fun _ => fun
  | [d] => { results := [.lit (.bool true)], args := [d] }
  | _ => none }
def fnExactLessWorstRow : OpenClaim := { program := "ytichjhahnahaoaa", sum := "4ff8e844329008dd03c0d9cc6fb418265179365129091f2970a7ce016c8c6fb2", func := "loop.example/g01269/laws.FnExactLessWorst", spec := "fnExactLessWorst", inPlace := ["internal/abi.NoEscape"], recurses := true, plainKeys := false, apart := false }
def FnExactLessWorstSaid : Prop := fnExactLessWorstRow.holds Try.pinned (OpenSpec.ofChange fnExactLessWorstSpec)

/-- ITS FALSE NEIGHBOUR: 'it returns false'. Refute it at one input. -/
def fnExactLessWorstWrong : ChangeSpec := { name := "fnExactLessWorst", fn := fun _ => fun
  | [d] => { results := [.lit (.bool false)], args := [d] }
  | _ => none }
def FnExactLessWorstWrongFalsely : Prop := fnExactLessWorstRow.holds Try.pinned (OpenSpec.ofChange fnExactLessWorstWrong)

/-- 'laws.FnExactMoreThanSets': WHATEVER THE INPUT: true; the input reads as it did. -/
def fnExactMoreThanSetsSpec : ChangeSpec := { name := "fnExactMoreThanSets", fn := fun _ => fun
  | [d1, d2] => { results := [.lit (.bool true)], args := [d1, d2] }
  | _ => none }
def fnExactMoreThanSetsRow : OpenClaim := { program := "ytichjhahnahaoaa", sum := "4ff8e844329008dd03c0d9cc6fb418265179365129091f2970a7ce016c8c6fb2", func := "loop.example/g01269/laws.FnExactMoreThanSets", spec := "fnExactMoreThanSets", inPlace := ["internal/abi.NoEscape"], recurses := true, plainKeys := false, apart := false }
def FnExactMoreThanSetsSaid : Prop := fnExactMoreThanSetsRow.holds Try.pinned (OpenSpec.ofChange fnExactMoreThanSetsSpec)

/-- ITS FALSE NEIGHBOUR: 'it returns false'. Refute it at one input. -/
def fnExactMoreThanSetsWrong : ChangeSpec := { name := "fnExactMoreThanSets", fn := fun _ => fun
  | [d1, d2] => { results := [.lit (.bool false)], args := [d1, d2] }
  | _ => none }
def FnExactMoreThanSetsWrongFalsely : Prop := fnExactMoreThanSetsRow.holds Try.pinned (OpenSpec.ofChange fnExactMoreThanSetsWrong)

/-- 'laws.FnExactUsefulLess': WHATEVER THE INPUT: true; the input reads as it did. -/
def fnExactUsefulLessSpec : ChangeSpec := { name := "fnExactUsefulLess", fn := fun _ => fun
  | [d] => { results := [.lit (.bool true)], args := [d] }
  | _ => none }
def fnExactUsefulLessRow : OpenClaim := { program := "ytichjhahnahaoaa", sum := "4ff8e844329008dd03c0d9cc6fb418265179365129091f2970a7ce016c8c6fb2", func := "loop.example/g01269/laws.FnExactUsefulLess", spec := "fnExactUsefulLess", plainKeys := false, apart := false }
def FnExactUsefulLessSaid : Prop := fnExactUsefulLessRow.holds Try.pinned (OpenSpec.ofChange fnExactUsefulLessSpec)

/-- ITS FALSE NEIGHBOUR: 'it returns false'. Refute it at one input. -/
def fnExactUsefulLessWrong : ChangeSpec := { name := "fnExactUsefulLess", fn := fun _ => fun
  | [d] => { results := [.lit (.bool false)], args := [d] }
  | _ => none }
def FnExactUsefulLessWrongFalsely : Prop := fnExactUsefulLessRow.holds Try.pinned (OpenSpec.ofChange fnExactUsefulLessWrong)

/-- 'laws.FnExactOpenSpan': WHATEVER THE INPUT: true; the input reads as it did. -/
def fnExactOpenSpanSpec : ChangeSpec := { name := "fnExactOpenSpan", fn := fun _ => fun
  | [d] => { results := [.lit (.bool true)], args := [d] }
  | _ => none }
def fnExactOpenSpanRow : OpenClaim := { program := "ytichjhahnahaoaa", sum := "4ff8e844329008dd03c0d9cc6fb418265179365129091f2970a7ce016c8c6fb2", func := "loop.example/g01269/laws.FnExactOpenSpan", spec := "fnExactOpenSpan", plainKeys := false, apart := false }
def FnExactOpenSpanSaid : Prop := fnExactOpenSpanRow.holds Try.pinned (OpenSpec.ofChange fnExactOpenSpanSpec)

/-- ITS FALSE NEIGHBOUR: 'it returns false'. Refute it at one input. -/
def fnExactOpenSpanWrong : ChangeSpec := { name := "fnExactOpenSpan", fn := fun _ => fun
  | [d] => { results := [.lit (.bool false)], args := [d] }
  | _ => none }
def FnExactOpenSpanWrongFalsely : Prop := fnExactOpenSpanRow.holds Try.pinned (OpenSpec.ofChange fnExactOpenSpanWrong)

/-- 'laws.FnLessPlays': WHATEVER THE INPUT: true; the input reads as it did. -/
def fnLessPlaysSpec : ChangeSpec := { name := "fnLessPlays", fn := fun _ => fun
  | [d] => { results := [.lit (.bool true)], args := [d] }
  | _ => none }
def fnLessPlaysRow : OpenClaim := { program := "ytichjhahnahaoaa", sum := "4ff8e844329008dd03c0d9cc6fb418265179365129091f2970a7ce016c8c6fb2", func := "loop.example/g01269/laws.FnLessPlays", spec := "fnLessPlays", inPlace := ["internal/abi.NoEscape"], recurses := true, plainKeys := false, apart := false }
def FnLessPlaysSaid : Prop := fnLessPlaysRow.holds Try.pinned (OpenSpec.ofChange fnLessPlaysSpec)

/-- ITS FALSE NEIGHBOUR: 'it returns false'. Refute it at one input. -/
def fnLessPlaysWrong : ChangeSpec := { name := "fnLessPlays", fn := fun _ => fun
  | [d] => { results := [.lit (.bool false)], args := [d] }
  | _ => none }
def FnLessPlaysWrongFalsely : Prop := fnLessPlaysRow.holds Try.pinned (OpenSpec.ofChange fnLessPlaysWrong)

/- THE SECOND FORM. 'bulk': how many values and letters a reading holds, each counted each time it is reached (what is shared counts as often as it is met; a slice's spare places count too). A statement '..UptoSaid' is the law's where the arguments, and the package variables that the reading takes, are together of bulk at most 1048576: NARROWER than '..Said'. Prove '..Said' where nothing that the law and all that it calls make is longer than what came in: it says more and counts as full. Else prove '..UptoSaid'. A law counts once. -/
mutual
def uptoBulk {H : Type} : DataW H → Nat
  | .lit (.string bytes) => bytes.length + 1
  | .lit _ => 1
  | .nil => 1
  | .ptr d => uptoBulk d + 1
  | .slice elems spare => uptoBulkAll elems + uptoBulkAll spare + 1
  | .agg parts => uptoBulkAll parts + 1
  | .iface _ d => uptoBulk d + 1
  | .map entries => uptoBulkEntries entries + 1
  | .held _ => 1
def uptoBulkAll {H : Type} : List (DataW H) → Nat
  | [] => 0
  | d :: r => uptoBulk d + uptoBulkAll r
def uptoBulkEntries {H : Type} : List (Lit × DataW H) → Nat
  | [] => 0
  | x :: r => uptoBulkEntry x + uptoBulkEntries r
def uptoBulkEntry {H : Type} : Lit × DataW H → Nat
  | (.string bytes, d) => bytes.length + uptoBulk d + 1
  | (_, d) => uptoBulk d + 1
 end
def uptoSmall : (H : Type) → List (DataW H) → Bool := fun _ ds => decide (uptoBulkAll ds ≤ 1048576)
def OpenSpec.upto (s : _root_.Go.ChangeSpec) : _root_.Go.OpenSpec := { _root_.Go.OpenSpec.ofChange s with cond := some uptoSmall }

/-- 'laws.FnExactLessQuestion', WHERE WHAT IT READS IS OF BULK AT MOST 1048576: true; the input reads as it did. -/
def fnExactLessQuestionUptoRow : OpenClaim := { program := "ytichjhahnahaoaa", sum := "4ff8e844329008dd03c0d9cc6fb418265179365129091f2970a7ce016c8c6fb2", func := "loop.example/g01269/laws.FnExactLessQuestion", spec := "fnExactLessQuestion", plainKeys := false, apart := false, narrowed := true }
def FnExactLessQuestionUptoSaid : Prop := fnExactLessQuestionUptoRow.holds Try.pinned (OpenSpec.upto fnExactLessQuestionSpec)

/-- 'laws.FnExactLessNeed', WHERE WHAT IT READS IS OF BULK AT MOST 1048576: true; the input reads as it did. -/
def fnExactLessNeedUptoRow : OpenClaim := { program := "ytichjhahnahaoaa", sum := "4ff8e844329008dd03c0d9cc6fb418265179365129091f2970a7ce016c8c6fb2", func := "loop.example/g01269/laws.FnExactLessNeed", spec := "fnExactLessNeed", inPlace := ["internal/abi.NoEscape"], recurses := true, plainKeys := false, apart := false, narrowed := true }
def FnExactLessNeedUptoSaid : Prop := fnExactLessNeedUptoRow.holds Try.pinned (OpenSpec.upto fnExactLessNeedSpec)

/-- 'laws.FnExactBestLess', WHERE WHAT IT READS IS OF BULK AT MOST 1048576: true; the input reads as it did. -/
def fnExactBestLessUptoRow : OpenClaim := { program := "ytichjhahnahaoaa", sum := "4ff8e844329008dd03c0d9cc6fb418265179365129091f2970a7ce016c8c6fb2", func := "loop.example/g01269/laws.FnExactBestLess", spec := "fnExactBestLess", inPlace := ["internal/abi.NoEscape"], recurses := true, plainKeys := false, apart := false, narrowed := true }
def FnExactBestLessUptoSaid : Prop := fnExactBestLessUptoRow.holds Try.pinned (OpenSpec.upto fnExactBestLessSpec)

/-- 'laws.FnExactNeedOfLess', WHERE WHAT IT READS IS OF BULK AT MOST 1048576: true; the input reads as it did. -/
def fnExactNeedOfLessUptoRow : OpenClaim := { program := "ytichjhahnahaoaa", sum := "4ff8e844329008dd03c0d9cc6fb418265179365129091f2970a7ce016c8c6fb2", func := "loop.example/g01269/laws.FnExactNeedOfLess", spec := "fnExactNeedOfLess", inPlace := ["internal/abi.NoEscape"], recurses := true, plainKeys := false, apart := false, narrowed := true }
def FnExactNeedOfLessUptoSaid : Prop := fnExactNeedOfLessUptoRow.holds Try.pinned (OpenSpec.upto fnExactNeedOfLessSpec)

/-- 'laws.FnExactLessTable', WHERE WHAT IT READS IS OF BULK AT MOST 1048576: true; the input reads as it did. -/
def fnExactLessTableUptoRow : OpenClaim := { program := "ytichjhahnahaoaa", sum := "4ff8e844329008dd03c0d9cc6fb418265179365129091f2970a7ce016c8c6fb2", func := "loop.example/g01269/laws.FnExactLessTable", spec := "fnExactLessTable", inPlace := ["internal/abi.NoEscape"], recurses := true, plainKeys := false, apart := false, narrowed := true }
def FnExactLessTableUptoSaid : Prop := fnExactLessTableUptoRow.holds Try.pinned (OpenSpec.upto fnExactLessTableSpec)

/-- 'laws.FnExactLessPlay', WHERE WHAT IT READS IS OF BULK AT MOST 1048576: true; the input reads as it did. -/
def fnExactLessPlayUptoRow : OpenClaim := { program := "ytichjhahnahaoaa", sum := "4ff8e844329008dd03c0d9cc6fb418265179365129091f2970a7ce016c8c6fb2", func := "loop.example/g01269/laws.FnExactLessPlay", spec := "fnExactLessPlay", inPlace := ["internal/abi.NoEscape"], recurses := true, plainKeys := false, apart := false, narrowed := true }
def FnExactLessPlayUptoSaid : Prop := fnExactLessPlayUptoRow.holds Try.pinned (OpenSpec.upto fnExactLessPlaySpec)

/-- 'laws.FnExactLessWorst', WHERE WHAT IT READS IS OF BULK AT MOST 1048576: true; the input reads as it did. -/
def fnExactLessWorstUptoRow : OpenClaim := { program := "ytichjhahnahaoaa", sum := "4ff8e844329008dd03c0d9cc6fb418265179365129091f2970a7ce016c8c6fb2", func := "loop.example/g01269/laws.FnExactLessWorst", spec := "fnExactLessWorst", inPlace := ["internal/abi.NoEscape"], recurses := true, plainKeys := false, apart := false, narrowed := true }
def FnExactLessWorstUptoSaid : Prop := fnExactLessWorstUptoRow.holds Try.pinned (OpenSpec.upto fnExactLessWorstSpec)

/-- 'laws.FnExactMoreThanSets', WHERE WHAT IT READS IS OF BULK AT MOST 1048576: true; the input reads as it did. -/
def fnExactMoreThanSetsUptoRow : OpenClaim := { program := "ytichjhahnahaoaa", sum := "4ff8e844329008dd03c0d9cc6fb418265179365129091f2970a7ce016c8c6fb2", func := "loop.example/g01269/laws.FnExactMoreThanSets", spec := "fnExactMoreThanSets", inPlace := ["internal/abi.NoEscape"], recurses := true, plainKeys := false, apart := false, narrowed := true }
def FnExactMoreThanSetsUptoSaid : Prop := fnExactMoreThanSetsUptoRow.holds Try.pinned (OpenSpec.upto fnExactMoreThanSetsSpec)

/-- 'laws.FnExactUsefulLess', WHERE WHAT IT READS IS OF BULK AT MOST 1048576: true; the input reads as it did. -/
def fnExactUsefulLessUptoRow : OpenClaim := { program := "ytichjhahnahaoaa", sum := "4ff8e844329008dd03c0d9cc6fb418265179365129091f2970a7ce016c8c6fb2", func := "loop.example/g01269/laws.FnExactUsefulLess", spec := "fnExactUsefulLess", plainKeys := false, apart := false, narrowed := true }
def FnExactUsefulLessUptoSaid : Prop := fnExactUsefulLessUptoRow.holds Try.pinned (OpenSpec.upto fnExactUsefulLessSpec)

/-- 'laws.FnExactOpenSpan', WHERE WHAT IT READS IS OF BULK AT MOST 1048576: true; the input reads as it did. -/
def fnExactOpenSpanUptoRow : OpenClaim := { program := "ytichjhahnahaoaa", sum := "4ff8e844329008dd03c0d9cc6fb418265179365129091f2970a7ce016c8c6fb2", func := "loop.example/g01269/laws.FnExactOpenSpan", spec := "fnExactOpenSpan", plainKeys := false, apart := false, narrowed := true }
def FnExactOpenSpanUptoSaid : Prop := fnExactOpenSpanUptoRow.holds Try.pinned (OpenSpec.upto fnExactOpenSpanSpec)

/-- 'laws.FnLessPlays', WHERE WHAT IT READS IS OF BULK AT MOST 1048576: true; the input reads as it did. -/
def fnLessPlaysUptoRow : OpenClaim := { program := "ytichjhahnahaoaa", sum := "4ff8e844329008dd03c0d9cc6fb418265179365129091f2970a7ce016c8c6fb2", func := "loop.example/g01269/laws.FnLessPlays", spec := "fnLessPlays", inPlace := ["internal/abi.NoEscape"], recurses := true, plainKeys := false, apart := false, narrowed := true }
def FnLessPlaysUptoSaid : Prop := fnLessPlaysUptoRow.holds Try.pinned (OpenSpec.upto fnLessPlaysSpec)

end Rows
end Go.Proofs.Ytichjhahnahaoaa
