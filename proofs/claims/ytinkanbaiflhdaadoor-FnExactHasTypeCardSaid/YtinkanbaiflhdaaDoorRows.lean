/-
  NARROWER THAN 'FOR EVERY INPUT', by the rows' own cells (each row's printed sentence says how): FnValues: laid · FnExactIsValue: loops, laid · FnExactHasType: loops, laid.
  DERIVED. THE GIVEN ROWS OF THIS SEAT. 3 by the template 'for every input the law returns true; each argument reads behind the call as it read before'; 0 by the template 'total and deterministic' (their statements: YtinkanbaiflhdaaDoorTotals.lean).
  GIVEN WITH THE SEED: the statements are not yours to turn. If you find one false, say at which input.
  Laid BY PROGRAM, IN A SANDBOX (cutbox-rows.mjs): the forced cells as the released guide's own fill.sh prints them over the translation 872784dafbb637b3… (all of the seat's roots in one cut). By AI agents, Wed Nov 11 2026. No macro, syntax, notation, axiom, sorry.
-/
import Derived.Test.YtinkanbaiflhdaaDoorChecked
import GoSem.Claim
import GoSem.ClaimJoined
import GoSem.ClaimMapViews
import Derived.JoinedTies
import Derived.KernelRfl
namespace Go.Proofs.YtinkanbaiflhdaaDoor
/- THE CELL 'sum', in the pinned program and in every row, IS THE sha256 OF THE DUMP (.gsa) THAT YtinkanbaiflhdaaDoorProg.lean LOADS. Nothing in Lean hashes anything: it is a label: what it is worth is what the hold of that sum in a sandbox is worth. -/
noncomputable def Tryd.pinned : Pinned := { name := "ytinkanbaiflhdaadoor", sum := "872784dafbb637b3636a5fe8236774703f9e7b6c09a82724bb6a6a6136f55289", checked := Tryd.checked }
namespace Rows
def none {H : Type} : Left H := { results := [], args := [] }

/- WHAT THE LISTED PACKAGE-LEVEL VARIABLES READ AS WHEN THE CALL BEGINS. Each datum BY PROGRAM (the guide's laid-datum.mjs) off the statement by which the dump's own 'gosem.cut.vars' lays the variable. In a bare row this is a premise. The card (YtinkanbaiflhdaaDoorCards.lean) ties it to the program's text. -/
def laid_loop_example_g00592_impl_valueForms {H : Type} : DataW H := .agg [.agg [.lit (.int .i64 0), .lit (.int .i64 0), .lit (.bool false), .lit (.bool false), .lit (.int .i64 0), .lit (.int .i64 0)], .agg [.lit (.int .i64 (-9223372036854775808)), .lit (.int .i64 9223372036854775807), .lit (.bool false), .lit (.bool false), .lit (.int .i64 0), .lit (.int .i64 0)], .agg [.lit (.int .i64 0), .lit (.int .i64 1), .lit (.bool false), .lit (.bool false), .lit (.int .i64 0), .lit (.int .i64 0)], .agg [.lit (.int .i64 0), .lit (.int .i64 0), .lit (.bool false), .lit (.bool true), .lit (.int .i64 1), .lit (.int .i64 4)], .agg [.lit (.int .i64 0), .lit (.int .i64 0), .lit (.bool true), .lit (.bool false), .lit (.int .i64 1), .lit (.int .i64 1)], .agg [.lit (.int .i64 0), .lit (.int .i64 0), .lit (.bool false), .lit (.bool false), .lit (.int .i64 0), .lit (.int .i64 9223372036854775807)]]

/-- 'laws.FnValues': WHATEVER THE INPUT: true; the input reads as it did. -/
def fnValuesSpec : ChangeSpec := { name := "fnValues", vars := ["loop.example/g00592/impl.valueForms"], fn := fun _ => fun
  | [d, g1] => { results := [.lit (.bool true)], args := [d], vars := [g1] }
  | _ => none }
def fnValuesRow : OpenClaim := { program := "ytinkanbaiflhdaadoor", sum := "872784dafbb637b3636a5fe8236774703f9e7b6c09a82724bb6a6a6136f55289", func := "loop.example/g00592/laws.FnValues", spec := "fnValues", unfollowed := true, recurses := true, named := ["loop.example/g00592/impl.valueForms"], plainKeys := false, apart := false, laid := [("loop.example/g00592/impl.valueForms", laid_loop_example_g00592_impl_valueForms)] }
def FnValuesSaid : Prop := fnValuesRow.holds Tryd.pinned (OpenSpec.ofChange fnValuesSpec)

/-- ITS FALSE NEIGHBOUR: 'it returns false'. Refute it at one input. -/
def fnValuesWrong : ChangeSpec := { name := "fnValues", vars := ["loop.example/g00592/impl.valueForms"], fn := fun _ => fun
  | [d, g1] => { results := [.lit (.bool false)], args := [d], vars := [g1] }
  | _ => none }
def FnValuesWrongFalsely : Prop := fnValuesRow.holds Tryd.pinned (OpenSpec.ofChange fnValuesWrong)

/-- 'laws.FnExactIsValue': WHATEVER THE INPUT: true; the input reads as it did. -/
def fnExactIsValueSpec : ChangeSpec := { name := "fnExactIsValue", vars := ["loop.example/g00592/impl.valueForms"], fn := fun _ => fun
  | [d, g1] => { results := [.lit (.bool true)], args := [d], vars := [g1] }
  | _ => none }
def fnExactIsValueRow : OpenClaim := { program := "ytinkanbaiflhdaadoor", sum := "872784dafbb637b3636a5fe8236774703f9e7b6c09a82724bb6a6a6136f55289", func := "loop.example/g00592/laws.FnExactIsValue", spec := "fnExactIsValue", recurses := true, named := ["loop.example/g00592/impl.valueForms"], loops := true, plainKeys := false, apart := false, laid := [("loop.example/g00592/impl.valueForms", laid_loop_example_g00592_impl_valueForms)] }
def FnExactIsValueSaid : Prop := fnExactIsValueRow.holds Tryd.pinned (OpenSpec.ofChange fnExactIsValueSpec)

/-- ITS FALSE NEIGHBOUR: 'it returns false'. Refute it at one input. -/
def fnExactIsValueWrong : ChangeSpec := { name := "fnExactIsValue", vars := ["loop.example/g00592/impl.valueForms"], fn := fun _ => fun
  | [d, g1] => { results := [.lit (.bool false)], args := [d], vars := [g1] }
  | _ => none }
def FnExactIsValueWrongFalsely : Prop := fnExactIsValueRow.holds Tryd.pinned (OpenSpec.ofChange fnExactIsValueWrong)

/-- 'laws.FnExactHasType': WHATEVER THE INPUT: true; the input reads as it did. -/
def fnExactHasTypeSpec : ChangeSpec := { name := "fnExactHasType", vars := ["loop.example/g00592/impl.valueForms"], fn := fun _ => fun
  | [d1, d2, g1] => { results := [.lit (.bool true)], args := [d1, d2], vars := [g1] }
  | _ => none }
def fnExactHasTypeRow : OpenClaim := { program := "ytinkanbaiflhdaadoor", sum := "872784dafbb637b3636a5fe8236774703f9e7b6c09a82724bb6a6a6136f55289", func := "loop.example/g00592/laws.FnExactHasType", spec := "fnExactHasType", unfollowed := true, recurses := true, named := ["loop.example/g00592/impl.valueForms"], loops := true, plainKeys := false, apart := false, laid := [("loop.example/g00592/impl.valueForms", laid_loop_example_g00592_impl_valueForms)] }
def FnExactHasTypeSaid : Prop := fnExactHasTypeRow.holds Tryd.pinned (OpenSpec.ofChange fnExactHasTypeSpec)

/-- ITS FALSE NEIGHBOUR: 'it returns false'. Refute it at one input. -/
def fnExactHasTypeWrong : ChangeSpec := { name := "fnExactHasType", vars := ["loop.example/g00592/impl.valueForms"], fn := fun _ => fun
  | [d1, d2, g1] => { results := [.lit (.bool false)], args := [d1, d2], vars := [g1] }
  | _ => none }
def FnExactHasTypeWrongFalsely : Prop := fnExactHasTypeRow.holds Tryd.pinned (OpenSpec.ofChange fnExactHasTypeWrong)

/- THE SECOND FORM. 'bulk': how many values and letters a reading holds, each counted each time it is reached (what is shared counts as often as it is met; a slice's spare places count too). A statement '..UptoSaid' is the law's where the arguments, and the package variables that the reading takes, are together of bulk at most 1048576: NARROWER than '..Said'. Prove '..Said' where nothing that the law and all that it calls make is longer than what came in: it says more and counts as full. Else prove '..UptoSaid'. A law counts once. -/
mutual
def uptoBulk {H : Type} : DataW H → Nat
  | .lit (.string bytes) => bytes.length + 1
  | .lit _ => 1
  | .nil => 1
  | .ptr d => uptoBulk d + 1
  | .slice elems spare => uptoBulkAll elems + uptoBulkAll spare + 1
  | .agg parts => uptoBulkAll parts + 1
  | .iface _ d => uptoBulk d + 1
  | .map entries => uptoBulkEntries entries + 1
  | .held _ => 1
def uptoBulkAll {H : Type} : List (DataW H) → Nat
  | [] => 0
  | d :: r => uptoBulk d + uptoBulkAll r
def uptoBulkEntries {H : Type} : List (Lit × DataW H) → Nat
  | [] => 0
  | x :: r => uptoBulkEntry x + uptoBulkEntries r
def uptoBulkEntry {H : Type} : Lit × DataW H → Nat
  | (.string bytes, d) => bytes.length + uptoBulk d + 1
  | (_, d) => uptoBulk d + 1
 end
def uptoSmall : (H : Type) → List (DataW H) → Bool := fun _ ds => decide (uptoBulkAll ds ≤ 1048576)
def OpenSpec.upto (s : _root_.Go.ChangeSpec) : _root_.Go.OpenSpec := { _root_.Go.OpenSpec.ofChange s with cond := some uptoSmall }

/-- 'laws.FnValues', WHERE WHAT IT READS IS OF BULK AT MOST 1048576: true; the input reads as it did. -/
def fnValuesUptoRow : OpenClaim := { program := "ytinkanbaiflhdaadoor", sum := "872784dafbb637b3636a5fe8236774703f9e7b6c09a82724bb6a6a6136f55289", func := "loop.example/g00592/laws.FnValues", spec := "fnValues", unfollowed := true, recurses := true, named := ["loop.example/g00592/impl.valueForms"], plainKeys := false, apart := false, laid := [("loop.example/g00592/impl.valueForms", laid_loop_example_g00592_impl_valueForms)], narrowed := true }
def FnValuesUptoSaid : Prop := fnValuesUptoRow.holds Tryd.pinned (OpenSpec.upto fnValuesSpec)

/-- 'laws.FnExactIsValue', WHERE WHAT IT READS IS OF BULK AT MOST 1048576: true; the input reads as it did. -/
def fnExactIsValueUptoRow : OpenClaim := { program := "ytinkanbaiflhdaadoor", sum := "872784dafbb637b3636a5fe8236774703f9e7b6c09a82724bb6a6a6136f55289", func := "loop.example/g00592/laws.FnExactIsValue", spec := "fnExactIsValue", recurses := true, named := ["loop.example/g00592/impl.valueForms"], loops := true, plainKeys := false, apart := false, laid := [("loop.example/g00592/impl.valueForms", laid_loop_example_g00592_impl_valueForms)], narrowed := true }
def FnExactIsValueUptoSaid : Prop := fnExactIsValueUptoRow.holds Tryd.pinned (OpenSpec.upto fnExactIsValueSpec)

/-- 'laws.FnExactHasType', WHERE WHAT IT READS IS OF BULK AT MOST 1048576: true; the input reads as it did. -/
def fnExactHasTypeUptoRow : OpenClaim := { program := "ytinkanbaiflhdaadoor", sum := "872784dafbb637b3636a5fe8236774703f9e7b6c09a82724bb6a6a6136f55289", func := "loop.example/g00592/laws.FnExactHasType", spec := "fnExactHasType", unfollowed := true, recurses := true, named := ["loop.example/g00592/impl.valueForms"], loops := true, plainKeys := false, apart := false, laid := [("loop.example/g00592/impl.valueForms", laid_loop_example_g00592_impl_valueForms)], narrowed := true }
def FnExactHasTypeUptoSaid : Prop := fnExactHasTypeUptoRow.holds Tryd.pinned (OpenSpec.upto fnExactHasTypeSpec)

end Rows
end Go.Proofs.YtinkanbaiflhdaaDoor
