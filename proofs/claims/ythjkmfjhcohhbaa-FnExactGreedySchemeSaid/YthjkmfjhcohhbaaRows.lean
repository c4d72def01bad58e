/-
  No cell of these rows narrows 'for every input' (looked for: loops, veiled, ifaces, maps, wideKeys, modest, calm, conditions, laid).
  DERIVED. THE GIVEN ROWS OF THIS SEAT. 12 by the template 'for every input the law returns true; each argument reads behind the call as it read before'; 0 by the template 'total and deterministic' (their statements: YthjkmfjhcohhbaaTotals.lean).
  GIVEN WITH THE SEED: the statements are not yours to turn. If you find one false, say at which input.
  Laid BY PROGRAM, IN A SANDBOX (cutbox-rows.mjs): the forced cells as the released guide's own fill.sh prints them over the translation 3c041c7ef32a5af1… (all of the seat's roots in one cut). By AI agents, Wed Nov 11 2026. No macro, syntax, notation, axiom, sorry.
-/
import Derived.Test.YthjkmfjhcohhbaaChecked
import GoSem.Claim
import GoSem.ClaimJoined
import GoSem.ClaimMapViews
import Derived.JoinedTies
import Derived.KernelRfl
namespace Go.Proofs.Ythjkmfjhcohhbaa
/- THE CELL 'sum', in the pinned program and in every row, IS THE sha256 OF THE DUMP (.gsa) THAT YthjkmfjhcohhbaaProg.lean LOADS. Nothing in Lean hashes anything: it is a label: what it is worth is what the hold of that sum in a sandbox is worth. -/
noncomputable def Try.pinned : Pinned := { name := "ythjkmfjhcohhbaa", sum := "3c041c7ef32a5af1351aaf1ebe560c62f7baca9bd9f80b3cbd7c1ee20c6a9ad1", checked := Try.checked }
namespace Rows
def none {H : Type} : Left H := { results := [], args := [] }

/-- 'laws.FnExactIsScheme': WHATEVER THE INPUT: true; the input reads as it did. -/
def fnExactIsSchemeSpec : ChangeSpec := { name := "fnExactIsScheme", fn := fun _ => fun
  | [d1, d2] => { results := [.lit (.bool true)], args := [d1, d2] }
  | _ => none }
def fnExactIsSchemeRow : OpenClaim := { program := "ythjkmfjhcohhbaa", sum := "3c041c7ef32a5af1351aaf1ebe560c62f7baca9bd9f80b3cbd7c1ee20c6a9ad1", func := "loop.example/g01269/laws.FnExactIsScheme", spec := "fnExactIsScheme", plainKeys := false, apart := false }
def FnExactIsSchemeSaid : Prop := fnExactIsSchemeRow.holds Try.pinned (OpenSpec.ofChange fnExactIsSchemeSpec)

/-- ITS FALSE NEIGHBOUR: 'it returns false'. Refute it at one input. -/
def fnExactIsSchemeWrong : ChangeSpec := { name := "fnExactIsScheme", fn := fun _ => fun
  | [d1, d2] => { results := [.lit (.bool false)], args := [d1, d2] }
  | _ => none }
def FnExactIsSchemeWrongFalsely : Prop := fnExactIsSchemeRow.holds Try.pinned (OpenSpec.ofChange fnExactIsSchemeWrong)

/-- 'laws.FnExactTrueWord': WHATEVER THE INPUT: true; the input reads as it did. -/
def fnExactTrueWordSpec : ChangeSpec := { name := "fnExactTrueWord", fn := fun _ => fun
  | [d1, d2, d3] => { results := [.lit (.bool true)], args := [d1, d2, d3] }
  | _ => none }
def fnExactTrueWordRow : OpenClaim := { program := "ythjkmfjhcohhbaa", sum := "3c041c7ef32a5af1351aaf1ebe560c62f7baca9bd9f80b3cbd7c1ee20c6a9ad1", func := "loop.example/g01269/laws.FnExactTrueWord", spec := "fnExactTrueWord", plainKeys := false, apart := false }
def FnExactTrueWordSaid : Prop := fnExactTrueWordRow.holds Try.pinned (OpenSpec.ofChange fnExactTrueWordSpec)

/-- ITS FALSE NEIGHBOUR: 'it returns false'. Refute it at one input. -/
def fnExactTrueWordWrong : ChangeSpec := { name := "fnExactTrueWord", fn := fun _ => fun
  | [d1, d2, d3] => { results := [.lit (.bool false)], args := [d1, d2, d3] }
  | _ => none }
def FnExactTrueWordWrongFalsely : Prop := fnExactTrueWordRow.holds Try.pinned (OpenSpec.ofChange fnExactTrueWordWrong)

/-- 'laws.FnExactTrueWords': WHATEVER THE INPUT: true; the input reads as it did. -/
def fnExactTrueWordsSpec : ChangeSpec := { name := "fnExactTrueWords", fn := fun _ => fun
  | [d1, d2] => { results := [.lit (.bool true)], args := [d1, d2] }
  | _ => none }
def fnExactTrueWordsRow : OpenClaim := { program := "ythjkmfjhcohhbaa", sum := "3c041c7ef32a5af1351aaf1ebe560c62f7baca9bd9f80b3cbd7c1ee20c6a9ad1", func := "loop.example/g01269/laws.FnExactTrueWords", spec := "fnExactTrueWords", plainKeys := false, apart := false }
def FnExactTrueWordsSaid : Prop := fnExactTrueWordsRow.holds Try.pinned (OpenSpec.ofChange fnExactTrueWordsSpec)

/-- ITS FALSE NEIGHBOUR: 'it returns false'. Refute it at one input. -/
def fnExactTrueWordsWrong : ChangeSpec := { name := "fnExactTrueWords", fn := fun _ => fun
  | [d1, d2] => { results := [.lit (.bool false)], args := [d1, d2] }
  | _ => none }
def FnExactTrueWordsWrongFalsely : Prop := fnExactTrueWordsRow.holds Try.pinned (OpenSpec.ofChange fnExactTrueWordsWrong)

/-- 'laws.FnExactSchemeOf': WHATEVER THE INPUT: true; the input reads as it did. -/
def fnExactSchemeOfSpec : ChangeSpec := { name := "fnExactSchemeOf", fn := fun _ => fun
  | [d1, d2] => { results := [.lit (.bool true)], args := [d1, d2] }
  | _ => none }
def fnExactSchemeOfRow : OpenClaim := { program := "ythjkmfjhcohhbaa", sum := "3c041c7ef32a5af1351aaf1ebe560c62f7baca9bd9f80b3cbd7c1ee20c6a9ad1", func := "loop.example/g01269/laws.FnExactSchemeOf", spec := "fnExactSchemeOf", plainKeys := false, apart := false }
def FnExactSchemeOfSaid : Prop := fnExactSchemeOfRow.holds Try.pinned (OpenSpec.ofChange fnExactSchemeOfSpec)

/-- ITS FALSE NEIGHBOUR: 'it returns false'. Refute it at one input. -/
def fnExactSchemeOfWrong : ChangeSpec := { name := "fnExactSchemeOf", fn := fun _ => fun
  | [d1, d2] => { results := [.lit (.bool false)], args := [d1, d2] }
  | _ => none }
def FnExactSchemeOfWrongFalsely : Prop := fnExactSchemeOfRow.holds Try.pinned (OpenSpec.ofChange fnExactSchemeOfWrong)

/-- 'laws.FnExactGapOf': WHATEVER THE INPUT: true; the input reads as it did. -/
def fnExactGapOfSpec : ChangeSpec := { name := "fnExactGapOf", fn := fun _ => fun
  | [d1, d2] => { results := [.lit (.bool true)], args := [d1, d2] }
  | _ => none }
def fnExactGapOfRow : OpenClaim := { program := "ythjkmfjhcohhbaa", sum := "3c041c7ef32a5af1351aaf1ebe560c62f7baca9bd9f80b3cbd7c1ee20c6a9ad1", func := "loop.example/g01269/laws.FnExactGapOf", spec := "fnExactGapOf", plainKeys := false, apart := false }
def FnExactGapOfSaid : Prop := fnExactGapOfRow.holds Try.pinned (OpenSpec.ofChange fnExactGapOfSpec)

/-- ITS FALSE NEIGHBOUR: 'it returns false'. Refute it at one input. -/
def fnExactGapOfWrong : ChangeSpec := { name := "fnExactGapOf", fn := fun _ => fun
  | [d1, d2] => { results := [.lit (.bool false)], args := [d1, d2] }
  | _ => none }
def FnExactGapOfWrongFalsely : Prop := fnExactGapOfRow.holds Try.pinned (OpenSpec.ofChange fnExactGapOfWrong)

/-- 'laws.FnExactIsSafe': WHATEVER THE INPUT: true; the input reads as it did. -/
def fnExactIsSafeSpec : ChangeSpec := { name := "fnExactIsSafe", fn := fun _ => fun
  | [d1, d2, d3] => { results := [.lit (.bool true)], args := [d1, d2, d3] }
  | _ => none }
def fnExactIsSafeRow : OpenClaim := { program := "ythjkmfjhcohhbaa", sum := "3c041c7ef32a5af1351aaf1ebe560c62f7baca9bd9f80b3cbd7c1ee20c6a9ad1", func := "loop.example/g01269/laws.FnExactIsSafe", spec := "fnExactIsSafe", plainKeys := false, apart := false }
def FnExactIsSafeSaid : Prop := fnExactIsSafeRow.holds Try.pinned (OpenSpec.ofChange fnExactIsSafeSpec)

/-- ITS FALSE NEIGHBOUR: 'it returns false'. Refute it at one input. -/
def fnExactIsSafeWrong : ChangeSpec := { name := "fnExactIsSafe", fn := fun _ => fun
  | [d1, d2, d3] => { results := [.lit (.bool false)], args := [d1, d2, d3] }
  | _ => none }
def FnExactIsSafeWrongFalsely : Prop := fnExactIsSafeRow.holds Try.pinned (OpenSpec.ofChange fnExactIsSafeWrong)

/-- 'laws.FnExactNearNumbers': WHATEVER THE INPUT: true; the input reads as it did. -/
def fnExactNearNumbersSpec : ChangeSpec := { name := "fnExactNearNumbers", fn := fun _ => fun
  | [d1, d2, d3] => { results := [.lit (.bool true)], args := [d1, d2, d3] }
  | _ => none }
def fnExactNearNumbersRow : OpenClaim := { program := "ythjkmfjhcohhbaa", sum := "3c041c7ef32a5af1351aaf1ebe560c62f7baca9bd9f80b3cbd7c1ee20c6a9ad1", func := "loop.example/g01269/laws.FnExactNearNumbers", spec := "fnExactNearNumbers", recurses := true, plainKeys := false, apart := false }
def FnExactNearNumbersSaid : Prop := fnExactNearNumbersRow.holds Try.pinned (OpenSpec.ofChange fnExactNearNumbersSpec)

/-- ITS FALSE NEIGHBOUR: 'it returns false'. Refute it at one input. -/
def fnExactNearNumbersWrong : ChangeSpec := { name := "fnExactNearNumbers", fn := fun _ => fun
  | [d1, d2, d3] => { results := [.lit (.bool false)], args := [d1, d2, d3] }
  | _ => none }
def FnExactNearNumbersWrongFalsely : Prop := fnExactNearNumbersRow.holds Try.pinned (OpenSpec.ofChange fnExactNearNumbersWrong)

/-- 'laws.FnExactFitNumbers': WHATEVER THE INPUT: true; the input reads as it did. -/
def fnExactFitNumbersSpec : ChangeSpec := { name := "fnExactFitNumbers", fn := fun _ => fun
  | [d1, d2, d3, d4] => { results := [.lit (.bool true)], args := [d1, d2, d3, d4] }
  | _ => none }
def fnExactFitNumbersRow : OpenClaim := { program := "ythjkmfjhcohhbaa", sum := "3c041c7ef32a5af1351aaf1ebe560c62f7baca9bd9f80b3cbd7c1ee20c6a9ad1", func := "loop.example/g01269/laws.FnExactFitNumbers", spec := "fnExactFitNumbers", recurses := true, plainKeys := false, apart := false }
def FnExactFitNumbersSaid : Prop := fnExactFitNumbersRow.holds Try.pinned (OpenSpec.ofChange fnExactFitNumbersSpec)

/-- ITS FALSE NEIGHBOUR: 'it returns false'. Refute it at one input. -/
def fnExactFitNumbersWrong : ChangeSpec := { name := "fnExactFitNumbers", fn := fun _ => fun
  | [d1, d2, d3, d4] => { results := [.lit (.bool false)], args := [d1, d2, d3, d4] }
  | _ => none }
def FnExactFitNumbersWrongFalsely : Prop := fnExactFitNumbersRow.holds Try.pinned (OpenSpec.ofChange fnExactFitNumbersWrong)

/-- 'laws.FnExactCountUntold': WHATEVER THE INPUT: true; the input reads as it did. -/
def fnExactCountUntoldSpec : ChangeSpec := { name := "fnExactCountUntold", fn := fun _ => fun
  | [d1, d2, d3] => { results := [.lit (.bool true)], args := [d1, d2, d3] }
  | _ => none }
def fnExactCountUntoldRow : OpenClaim := { program := "ythjkmfjhcohhbaa", sum := "3c041c7ef32a5af1351aaf1ebe560c62f7baca9bd9f80b3cbd7c1ee20c6a9ad1", func := "loop.example/g01269/laws.FnExactCountUntold", spec := "fnExactCountUntold", recurses := true, plainKeys := false, apart := false }
def FnExactCountUntoldSaid : Prop := fnExactCountUntoldRow.holds Try.pinned (OpenSpec.ofChange fnExactCountUntoldSpec)

/-- ITS FALSE NEIGHBOUR: 'it returns false'. Refute it at one input. -/
def fnExactCountUntoldWrong : ChangeSpec := { name := "fnExactCountUntold", fn := fun _ => fun
  | [d1, d2, d3] => { results := [.lit (.bool false)], args := [d1, d2, d3] }
  | _ => none }
def FnExactCountUntoldWrongFalsely : Prop := fnExactCountUntoldRow.holds Try.pinned (OpenSpec.ofChange fnExactCountUntoldWrong)

/-- 'laws.FnExactBitScheme': WHATEVER THE INPUT: true; the input reads as it did. -/
def fnExactBitSchemeSpec : ChangeSpec := { name := "fnExactBitScheme", fn := fun _ => fun
  | [d] => { results := [.lit (.bool true)], args := [d] }
  | _ => none }
def fnExactBitSchemeRow : OpenClaim := { program := "ythjkmfjhcohhbaa", sum := "3c041c7ef32a5af1351aaf1ebe560c62f7baca9bd9f80b3cbd7c1ee20c6a9ad1", func := "loop.example/g01269/laws.FnExactBitScheme", spec := "fnExactBitScheme", plainKeys := false, apart := false }
def FnExactBitSchemeSaid : Prop := fnExactBitSchemeRow.holds Try.pinned (OpenSpec.ofChange fnExactBitSchemeSpec)

/-- ITS FALSE NEIGHBOUR: 'it returns false'. Refute it at one input. -/
def fnExactBitSchemeWrong : ChangeSpec := { name := "fnExactBitScheme", fn := fun _ => fun
  | [d] => { results := [.lit (.bool false)], args := [d] }
  | _ => none }
def FnExactBitSchemeWrongFalsely : Prop := fnExactBitSchemeRow.holds Try.pinned (OpenSpec.ofChange fnExactBitSchemeWrong)

/-- 'laws.FnExactGreedyScheme': WHATEVER THE INPUT: true; the input reads as it did. -/
def fnExactGreedySchemeSpec : ChangeSpec := { name := "fnExactGreedyScheme", fn := fun _ => fun
  | [d1, d2] => { results := [.lit (.bool true)], args := [d1, d2] }
  | _ => none }
def fnExactGreedySchemeRow : OpenClaim := { program := "ythjkmfjhcohhbaa", sum := "3c041c7ef32a5af1351aaf1ebe560c62f7baca9bd9f80b3cbd7c1ee20c6a9ad1", func := "loop.example/g01269/laws.FnExactGreedyScheme", spec := "fnExactGreedyScheme", plainKeys := false, apart := false }
def FnExactGreedySchemeSaid : Prop := fnExactGreedySchemeRow.holds Try.pinned (OpenSpec.ofChange fnExactGreedySchemeSpec)

/-- ITS FALSE NEIGHBOUR: 'it returns false'. Refute it at one input. -/
def fnExactGreedySchemeWrong : ChangeSpec := { name := "fnExactGreedyScheme", fn := fun _ => fun
  | [d1, d2] => { results := [.lit (.bool false)], args := [d1, d2] }
  | _ => none }
def FnExactGreedySchemeWrongFalsely : Prop := fnExactGreedySchemeRow.holds Try.pinned (OpenSpec.ofChange fnExactGreedySchemeWrong)

/-- 'laws.FnExactVainFixed': WHATEVER THE INPUT: true; the input reads as it did. -/
def fnExactVainFixedSpec : ChangeSpec := { name := "fnExactVainFixed", fn := fun _ => fun
  | [d1, d2, d3] => { results := [.lit (.bool true)], args := [d1, d2, d3] }
  | _ => none }
def fnExactVainFixedRow : OpenClaim := { program := "ythjkmfjhcohhbaa", sum := "3c041c7ef32a5af1351aaf1ebe560c62f7baca9bd9f80b3cbd7c1ee20c6a9ad1", func := "loop.example/g01269/laws.FnExactVainFixed", spec := "fnExactVainFixed", plainKeys := false, apart := false }
def FnExactVainFixedSaid : Prop := fnExactVainFixedRow.holds Try.pinned (OpenSpec.ofChange fnExactVainFixedSpec)

/-- ITS FALSE NEIGHBOUR: 'it returns false'. Refute it at one input. -/
def fnExactVainFixedWrong : ChangeSpec := { name := "fnExactVainFixed", fn := fun _ => fun
  | [d1, d2, d3] => { results := [.lit (.bool false)], args := [d1, d2, d3] }
  | _ => none }
def FnExactVainFixedWrongFalsely : Prop := fnExactVainFixedRow.holds Try.pinned (OpenSpec.ofChange fnExactVainFixedWrong)

/- THE SECOND FORM. 'bulk': how many values and letters a reading holds, each counted each time it is reached (what is shared counts as often as it is met; a slice's spare places count too). A statement '..UptoSaid' is the law's where the arguments, and the package variables that the reading takes, are together of bulk at most 1048576: NARROWER than '..Said'. Prove '..Said' where nothing that the law and all that it calls make is longer than what came in: it says more and counts as full. Else prove '..UptoSaid'. A law counts once. -/
mutual
def uptoBulk {H : Type} : DataW H → Nat
  | .lit (.string bytes) => bytes.length + 1
  | .lit _ => 1
  | .nil => 1
  | .ptr d => uptoBulk d + 1
  | .slice elems spare => uptoBulkAll elems + uptoBulkAll spare + 1
  | .agg parts => uptoBulkAll parts + 1
  | .iface _ d => uptoBulk d + 1
  | .map entries => uptoBulkEntries entries + 1
  | .held _ => 1
def uptoBulkAll {H : Type} : List (DataW H) → Nat
  | [] => 0
  | d :: r => uptoBulk d + uptoBulkAll r
def uptoBulkEntries {H : Type} : List (Lit × DataW H) → Nat
  | [] => 0
  | x :: r => uptoBulkEntry x + uptoBulkEntries r
def uptoBulkEntry {H : Type} : Lit × DataW H → Nat
  | (.string bytes, d) => bytes.length + uptoBulk d + 1
  | (_, d) => uptoBulk d + 1
 end
def uptoSmall : (H : Type) → List (DataW H) → Bool := fun _ ds => decide (uptoBulkAll ds ≤ 1048576)
def OpenSpec.upto (s : _root_.Go.ChangeSpec) : _root_.Go.OpenSpec := { _root_.Go.OpenSpec.ofChange s with cond := some uptoSmall }

/-- 'laws.FnExactIsScheme', WHERE WHAT IT READS IS OF BULK AT MOST 1048576: true; the input reads as it did. -/
def fnExactIsSchemeUptoRow : OpenClaim := { program := "ythjkmfjhcohhbaa", sum := "3c041c7ef32a5af1351aaf1ebe560c62f7baca9bd9f80b3cbd7c1ee20c6a9ad1", func := "loop.example/g01269/laws.FnExactIsScheme", spec := "fnExactIsScheme", plainKeys := false, apart := false, narrowed := true }
def FnExactIsSchemeUptoSaid : Prop := fnExactIsSchemeUptoRow.holds Try.pinned (OpenSpec.upto fnExactIsSchemeSpec)

/-- 'laws.FnExactTrueWord', WHERE WHAT IT READS IS OF BULK AT MOST 1048576: true; the input reads as it did. -/
def fnExactTrueWordUptoRow : OpenClaim := { program := "ythjkmfjhcohhbaa", sum := "3c041c7ef32a5af1351aaf1ebe560c62f7baca9bd9f80b3cbd7c1ee20c6a9ad1", func := "loop.example/g01269/laws.FnExactTrueWord", spec := "fnExactTrueWord", plainKeys := false, apart := false, narrowed := true }
def FnExactTrueWordUptoSaid : Prop := fnExactTrueWordUptoRow.holds Try.pinned (OpenSpec.upto fnExactTrueWordSpec)

/-- 'laws.FnExactTrueWords', WHERE WHAT IT READS IS OF BULK AT MOST 1048576: true; the input reads as it did. -/
def fnExactTrueWordsUptoRow : OpenClaim := { program := "ythjkmfjhcohhbaa", sum := "3c041c7ef32a5af1351aaf1ebe560c62f7baca9bd9f80b3cbd7c1ee20c6a9ad1", func := "loop.example/g01269/laws.FnExactTrueWords", spec := "fnExactTrueWords", plainKeys := false, apart := false, narrowed := true }
def FnExactTrueWordsUptoSaid : Prop := fnExactTrueWordsUptoRow.holds Try.pinned (OpenSpec.upto fnExactTrueWordsSpec)

/-- 'laws.FnExactSchemeOf', WHERE WHAT IT READS IS OF BULK AT MOST 1048576: true; the input reads as it did. -/
def fnExactSchemeOfUptoRow : OpenClaim := { program := "ythjkmfjhcohhbaa", sum := "3c041c7ef32a5af1351aaf1ebe560c62f7baca9bd9f80b3cbd7c1ee20c6a9ad1", func := "loop.example/g01269/laws.FnExactSchemeOf", spec := "fnExactSchemeOf", plainKeys := false, apart := false, narrowed := true }
def FnExactSchemeOfUptoSaid : Prop := fnExactSchemeOfUptoRow.holds Try.pinned (OpenSpec.upto fnExactSchemeOfSpec)

/-- 'laws.FnExactGapOf', WHERE WHAT IT READS IS OF BULK AT MOST 1048576: true; the input reads as it did. -/
def fnExactGapOfUptoRow : OpenClaim := { program := "ythjkmfjhcohhbaa", sum := "3c041c7ef32a5af1351aaf1ebe560c62f7baca9bd9f80b3cbd7c1ee20c6a9ad1", func := "loop.example/g01269/laws.FnExactGapOf", spec := "fnExactGapOf", plainKeys := false, apart := false, narrowed := true }
def FnExactGapOfUptoSaid : Prop := fnExactGapOfUptoRow.holds Try.pinned (OpenSpec.upto fnExactGapOfSpec)

/-- 'laws.FnExactIsSafe', WHERE WHAT IT READS IS OF BULK AT MOST 1048576: true; the input reads as it did. -/
def fnExactIsSafeUptoRow : OpenClaim := { program := "ythjkmfjhcohhbaa", sum := "3c041c7ef32a5af1351aaf1ebe560c62f7baca9bd9f80b3cbd7c1ee20c6a9ad1", func := "loop.example/g01269/laws.FnExactIsSafe", spec := "fnExactIsSafe", plainKeys := false, apart := false, narrowed := true }
def FnExactIsSafeUptoSaid : Prop := fnExactIsSafeUptoRow.holds Try.pinned (OpenSpec.upto fnExactIsSafeSpec)

/-- 'laws.FnExactNearNumbers', WHERE WHAT IT READS IS OF BULK AT MOST 1048576: true; the input reads as it did. -/
def fnExactNearNumbersUptoRow : OpenClaim := { program := "ythjkmfjhcohhbaa", sum := "3c041c7ef32a5af1351aaf1ebe560c62f7baca9bd9f80b3cbd7c1ee20c6a9ad1", func := "loop.example/g01269/laws.FnExactNearNumbers", spec := "fnExactNearNumbers", recurses := true, plainKeys := false, apart := false, narrowed := true }
def FnExactNearNumbersUptoSaid : Prop := fnExactNearNumbersUptoRow.holds Try.pinned (OpenSpec.upto fnExactNearNumbersSpec)

/-- 'laws.FnExactFitNumbers', WHERE WHAT IT READS IS OF BULK AT MOST 1048576: true; the input reads as it did. -/
def fnExactFitNumbersUptoRow : OpenClaim := { program := "ythjkmfjhcohhbaa", sum := "3c041c7ef32a5af1351aaf1ebe560c62f7baca9bd9f80b3cbd7c1ee20c6a9ad1", func := "loop.example/g01269/laws.FnExactFitNumbers", spec := "fnExactFitNumbers", recurses := true, plainKeys := false, apart := false, narrowed := true }
def FnExactFitNumbersUptoSaid : Prop := fnExactFitNumbersUptoRow.holds Try.pinned (OpenSpec.upto fnExactFitNumbersSpec)

/-- 'laws.FnExactCountUntold', WHERE WHAT IT READS IS OF BULK AT MOST 1048576: true; the input reads as it did. -/
def fnExactCountUntoldUptoRow : OpenClaim := { program := "ythjkmfjhcohhbaa", sum := "3c041c7ef32a5af1351aaf1ebe560c62f7baca9bd9f80b3cbd7c1ee20c6a9ad1", func := "loop.example/g01269/laws.FnExactCountUntold", spec := "fnExactCountUntold", recurses := true, plainKeys := false, apart := false, narrowed := true }
def FnExactCountUntoldUptoSaid : Prop := fnExactCountUntoldUptoRow.holds Try.pinned (OpenSpec.upto fnExactCountUntoldSpec)

/-- 'laws.FnExactBitScheme', WHERE WHAT IT READS IS OF BULK AT MOST 1048576: true; the input reads as it did. -/
def fnExactBitSchemeUptoRow : OpenClaim := { program := "ythjkmfjhcohhbaa", sum := "3c041c7ef32a5af1351aaf1ebe560c62f7baca9bd9f80b3cbd7c1ee20c6a9ad1", func := "loop.example/g01269/laws.FnExactBitScheme", spec := "fnExactBitScheme", plainKeys := false, apart := false, narrowed := true }
def FnExactBitSchemeUptoSaid : Prop := fnExactBitSchemeUptoRow.holds Try.pinned (OpenSpec.upto fnExactBitSchemeSpec)

/-- 'laws.FnExactGreedyScheme', WHERE WHAT IT READS IS OF BULK AT MOST 1048576: true; the input reads as it did. -/
def fnExactGreedySchemeUptoRow : OpenClaim := { program := "ythjkmfjhcohhbaa", sum := "3c041c7ef32a5af1351aaf1ebe560c62f7baca9bd9f80b3cbd7c1ee20c6a9ad1", func := "loop.example/g01269/laws.FnExactGreedyScheme", spec := "fnExactGreedyScheme", plainKeys := false, apart := false, narrowed := true }
def FnExactGreedySchemeUptoSaid : Prop := fnExactGreedySchemeUptoRow.holds Try.pinned (OpenSpec.upto fnExactGreedySchemeSpec)

/-- 'laws.FnExactVainFixed', WHERE WHAT IT READS IS OF BULK AT MOST 1048576: true; the input reads as it did. -/
def fnExactVainFixedUptoRow : OpenClaim := { program := "ythjkmfjhcohhbaa", sum := "3c041c7ef32a5af1351aaf1ebe560c62f7baca9bd9f80b3cbd7c1ee20c6a9ad1", func := "loop.example/g01269/laws.FnExactVainFixed", spec := "fnExactVainFixed", plainKeys := false, apart := false, narrowed := true }
def FnExactVainFixedUptoSaid : Prop := fnExactVainFixedUptoRow.holds Try.pinned (OpenSpec.upto fnExactVainFixedSpec)

end Rows
end Go.Proofs.Ythjkmfjhcohhbaa
