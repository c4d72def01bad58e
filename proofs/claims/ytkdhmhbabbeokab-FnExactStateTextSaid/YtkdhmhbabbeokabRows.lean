/-
  No cell of these rows narrows 'for every input' (looked for: loops, veiled, ifaces, maps, wideKeys, modest, calm, conditions, laid).
  DERIVED. THE GIVEN ROWS OF THIS SEAT. 5 by the template 'for every input the law returns true; each argument reads behind the call as it read before'; 0 by the template 'total and deterministic' (their statements: YtkdhmhbabbeokabTotals.lean).
  GIVEN WITH THE SEED: the statements are not yours to turn. If you find one false, say at which input.
  Laid BY PROGRAM, IN A SANDBOX (cutbox-rows.mjs): the forced cells as the released guide's own fill.sh prints them over the translation e19190714324ebc9… (all of the seat's roots in one cut). By AI agents, Wed Nov 11 2026. No macro, syntax, notation, axiom, sorry.
-/
import Derived.Test.YtkdhmhbabbeokabChecked
import GoSem.Claim
import GoSem.ClaimJoined
import GoSem.ClaimMapViews
import Derived.JoinedTies
import Derived.KernelRfl
namespace Go.Proofs.Ytkdhmhbabbeokab
/- THE CELL 'sum', in the pinned program and in every row, IS THE sha256 OF THE DUMP (.gsa) THAT YtkdhmhbabbeokabProg.lean LOADS. Nothing in Lean hashes anything: it is a label: what it is worth is what the hold of that sum in a sandbox is worth. -/
noncomputable def Try.pinned : Pinned := { name := "ytkdhmhbabbeokab", sum := "e19190714324ebc9d6ce8ef4733a3d247072f8b059604e5c41e5bbdab2f67676", checked := Try.checked }
namespace Rows
def none {H : Type} : Left H := { results := [], args := [] }

/-- 'laws.FnExactQuestionOf': WHATEVER THE INPUT: true; the input reads as it did. -/
def fnExactQuestionOfSpec : ChangeSpec := { name := "fnExactQuestionOf", fn := fun _ => fun
  | [d1, d2] => { results := [.lit (.bool true)], args := [d1, d2] }
  | _ => none }
def fnExactQuestionOfRow : OpenClaim := { program := "ytkdhmhbabbeokab", sum := "e19190714324ebc9d6ce8ef4733a3d247072f8b059604e5c41e5bbdab2f67676", func := "loop.example/g01269/laws.FnExactQuestionOf", spec := "fnExactQuestionOf", apart := false }
def FnExactQuestionOfSaid : Prop := fnExactQuestionOfRow.holds Try.pinned (OpenSpec.ofChange fnExactQuestionOfSpec)

/-- ITS FALSE NEIGHBOUR: 'it returns false'. Refute it at one input. -/
def fnExactQuestionOfWrong : ChangeSpec := { name := "fnExactQuestionOf", fn := fun _ => fun
  | [d1, d2] => { results := [.lit (.bool false)], args := [d1, d2] }
  | _ => none }
def FnExactQuestionOfWrongFalsely : Prop := fnExactQuestionOfRow.holds Try.pinned (OpenSpec.ofChange fnExactQuestionOfWrong)

/-- 'laws.FnExactNumbersOf': WHATEVER THE INPUT: true; the input reads as it did. -/
def fnExactNumbersOfSpec : ChangeSpec := { name := "fnExactNumbersOf", fn := fun _ => fun
  | [d1, d2] => { results := [.lit (.bool true)], args := [d1, d2] }
  | _ => none }
def fnExactNumbersOfRow : OpenClaim := { program := "ytkdhmhbabbeokab", sum := "e19190714324ebc9d6ce8ef4733a3d247072f8b059604e5c41e5bbdab2f67676", func := "loop.example/g01269/laws.FnExactNumbersOf", spec := "fnExactNumbersOf", apart := false }
def FnExactNumbersOfSaid : Prop := fnExactNumbersOfRow.holds Try.pinned (OpenSpec.ofChange fnExactNumbersOfSpec)

/-- ITS FALSE NEIGHBOUR: 'it returns false'. Refute it at one input. -/
def fnExactNumbersOfWrong : ChangeSpec := { name := "fnExactNumbersOf", fn := fun _ => fun
  | [d1, d2] => { results := [.lit (.bool false)], args := [d1, d2] }
  | _ => none }
def FnExactNumbersOfWrongFalsely : Prop := fnExactNumbersOfRow.holds Try.pinned (OpenSpec.ofChange fnExactNumbersOfWrong)

/-- 'laws.FnExactVainQuestion': WHATEVER THE INPUT: true; the input reads as it did. -/
def fnExactVainQuestionSpec : ChangeSpec := { name := "fnExactVainQuestion", fn := fun _ => fun
  | [d1, d2] => { results := [.lit (.bool true)], args := [d1, d2] }
  | _ => none }
def fnExactVainQuestionRow : OpenClaim := { program := "ytkdhmhbabbeokab", sum := "e19190714324ebc9d6ce8ef4733a3d247072f8b059604e5c41e5bbdab2f67676", func := "loop.example/g01269/laws.FnExactVainQuestion", spec := "fnExactVainQuestion", apart := false }
def FnExactVainQuestionSaid : Prop := fnExactVainQuestionRow.holds Try.pinned (OpenSpec.ofChange fnExactVainQuestionSpec)

/-- ITS FALSE NEIGHBOUR: 'it returns false'. Refute it at one input. -/
def fnExactVainQuestionWrong : ChangeSpec := { name := "fnExactVainQuestion", fn := fun _ => fun
  | [d1, d2] => { results := [.lit (.bool false)], args := [d1, d2] }
  | _ => none }
def FnExactVainQuestionWrongFalsely : Prop := fnExactVainQuestionRow.holds Try.pinned (OpenSpec.ofChange fnExactVainQuestionWrong)

/-- 'laws.FnExactCanAnswer': WHATEVER THE INPUT: true; the input reads as it did. -/
def fnExactCanAnswerSpec : ChangeSpec := { name := "fnExactCanAnswer", fn := fun _ => fun
  | [d1, d2] => { results := [.lit (.bool true)], args := [d1, d2] }
  | _ => none }
def fnExactCanAnswerRow : OpenClaim := { program := "ytkdhmhbabbeokab", sum := "e19190714324ebc9d6ce8ef4733a3d247072f8b059604e5c41e5bbdab2f67676", func := "loop.example/g01269/laws.FnExactCanAnswer", spec := "fnExactCanAnswer", apart := false }
def FnExactCanAnswerSaid : Prop := fnExactCanAnswerRow.holds Try.pinned (OpenSpec.ofChange fnExactCanAnswerSpec)

/-- ITS FALSE NEIGHBOUR: 'it returns false'. Refute it at one input. -/
def fnExactCanAnswerWrong : ChangeSpec := { name := "fnExactCanAnswer", fn := fun _ => fun
  | [d1, d2] => { results := [.lit (.bool false)], args := [d1, d2] }
  | _ => none }
def FnExactCanAnswerWrongFalsely : Prop := fnExactCanAnswerRow.holds Try.pinned (OpenSpec.ofChange fnExactCanAnswerWrong)

/-- 'laws.FnExactStateText': WHATEVER THE INPUT: true; the input reads as it did. -/
def fnExactStateTextSpec : ChangeSpec := { name := "fnExactStateText", fn := fun _ => fun
  | [d] => { results := [.lit (.bool true)], args := [d] }
  | _ => none }
def fnExactStateTextRow : OpenClaim := { program := "ytkdhmhbabbeokab", sum := "e19190714324ebc9d6ce8ef4733a3d247072f8b059604e5c41e5bbdab2f67676", func := "loop.example/g01269/laws.FnExactStateText", spec := "fnExactStateText", inPlace := ["internal/abi.NoEscape"], recurses := true, apart := false }
def FnExactStateTextSaid : Prop := fnExactStateTextRow.holds Try.pinned (OpenSpec.ofChange fnExactStateTextSpec)

/-- ITS FALSE NEIGHBOUR: 'it returns false'. Refute it at one input. -/
def fnExactStateTextWrong : ChangeSpec := { name := "fnExactStateText", fn := fun _ => fun
  | [d] => { results := [.lit (.bool false)], args := [d] }
  | _ => none }
def FnExactStateTextWrongFalsely : Prop := fnExactStateTextRow.holds Try.pinned (OpenSpec.ofChange fnExactStateTextWrong)

/- THE SECOND FORM. 'bulk': how many values and letters a reading holds, each counted each time it is reached (what is shared counts as often as it is met; a slice's spare places count too). A statement '..UptoSaid' is the law's where the arguments, and the package variables that the reading takes, are together of bulk at most 1048576: NARROWER than '..Said'. Prove '..Said' where nothing that the law and all that it calls make is longer than what came in: it says more and counts as full. Else prove '..UptoSaid'. A law counts once. -/
mutual
def uptoBulk {H : Type} : DataW H → Nat
  | .lit (.string bytes) => bytes.length + 1
  | .lit _ => 1
  | .nil => 1
  | .ptr d => uptoBulk d + 1
  | .slice elems spare => uptoBulkAll elems + uptoBulkAll spare + 1
  | .agg parts => uptoBulkAll parts + 1
  | .iface _ d => uptoBulk d + 1
  | .map entries => uptoBulkEntries entries + 1
  | .held _ => 1
def uptoBulkAll {H : Type} : List (DataW H) → Nat
  | [] => 0
  | d :: r => uptoBulk d + uptoBulkAll r
def uptoBulkEntries {H : Type} : List (Lit × DataW H) → Nat
  | [] => 0
  | x :: r => uptoBulkEntry x + uptoBulkEntries r
def uptoBulkEntry {H : Type} : Lit × DataW H → Nat
  | (.string bytes, d) => bytes.length + uptoBulk d + 1
  | (_, d) => uptoBulk d + 1
 end
def uptoSmall : (H : Type) → List (DataW H) → Bool := fun _ ds => decide (uptoBulkAll ds ≤ 1048576)
def OpenSpec.upto (s : _root_.Go.ChangeSpec) : _root_.Go.OpenSpec := { _root_.Go.OpenSpec.ofChange s with cond := some uptoSmall }

/-- 'laws.FnExactQuestionOf', WHERE WHAT IT READS IS OF BULK AT MOST 1048576: true; the input reads as it did. -/
def fnExactQuestionOfUptoRow : OpenClaim := { program := "ytkdhmhbabbeokab", sum := "e19190714324ebc9d6ce8ef4733a3d247072f8b059604e5c41e5bbdab2f67676", func := "loop.example/g01269/laws.FnExactQuestionOf", spec := "fnExactQuestionOf", apart := false, narrowed := true }
def FnExactQuestionOfUptoSaid : Prop := fnExactQuestionOfUptoRow.holds Try.pinned (OpenSpec.upto fnExactQuestionOfSpec)

/-- 'laws.FnExactNumbersOf', WHERE WHAT IT READS IS OF BULK AT MOST 1048576: true; the input reads as it did. -/
def fnExactNumbersOfUptoRow : OpenClaim := { program := "ytkdhmhbabbeokab", sum := "e19190714324ebc9d6ce8ef4733a3d247072f8b059604e5c41e5bbdab2f67676", func := "loop.example/g01269/laws.FnExactNumbersOf", spec := "fnExactNumbersOf", apart := false, narrowed := true }
def FnExactNumbersOfUptoSaid : Prop := fnExactNumbersOfUptoRow.holds Try.pinned (OpenSpec.upto fnExactNumbersOfSpec)

/-- 'laws.FnExactVainQuestion', WHERE WHAT IT READS IS OF BULK AT MOST 1048576: true; the input reads as it did. -/
def fnExactVainQuestionUptoRow : OpenClaim := { program := "ytkdhmhbabbeokab", sum := "e19190714324ebc9d6ce8ef4733a3d247072f8b059604e5c41e5bbdab2f67676", func := "loop.example/g01269/laws.FnExactVainQuestion", spec := "fnExactVainQuestion", apart := false, narrowed := true }
def FnExactVainQuestionUptoSaid : Prop := fnExactVainQuestionUptoRow.holds Try.pinned (OpenSpec.upto fnExactVainQuestionSpec)

/-- 'laws.FnExactCanAnswer', WHERE WHAT IT READS IS OF BULK AT MOST 1048576: true; the input reads as it did. -/
def fnExactCanAnswerUptoRow : OpenClaim := { program := "ytkdhmhbabbeokab", sum := "e19190714324ebc9d6ce8ef4733a3d247072f8b059604e5c41e5bbdab2f67676", func := "loop.example/g01269/laws.FnExactCanAnswer", spec := "fnExactCanAnswer", apart := false, narrowed := true }
def FnExactCanAnswerUptoSaid : Prop := fnExactCanAnswerUptoRow.holds Try.pinned (OpenSpec.upto fnExactCanAnswerSpec)

/-- 'laws.FnExactStateText', WHERE WHAT IT READS IS OF BULK AT MOST 1048576: true; the input reads as it did. -/
def fnExactStateTextUptoRow : OpenClaim := { program := "ytkdhmhbabbeokab", sum := "e19190714324ebc9d6ce8ef4733a3d247072f8b059604e5c41e5bbdab2f67676", func := "loop.example/g01269/laws.FnExactStateText", spec := "fnExactStateText", inPlace := ["internal/abi.NoEscape"], recurses := true, apart := false, narrowed := true }
def FnExactStateTextUptoSaid : Prop := fnExactStateTextUptoRow.holds Try.pinned (OpenSpec.upto fnExactStateTextSpec)

end Rows
end Go.Proofs.Ytkdhmhbabbeokab
