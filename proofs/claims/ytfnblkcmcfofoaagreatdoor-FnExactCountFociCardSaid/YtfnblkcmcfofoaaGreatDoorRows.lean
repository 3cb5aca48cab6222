/-
  NARROWER THAN 'FOR EVERY INPUT', by the rows' own cells (each row's printed sentence says how): FnTyped: ifaces, laid · FnFoci: ifaces, laid · FnExactFoci: loops, ifaces, laid · FnExactCountFoci: loops, ifaces, laid · FnExactFirstFocus: loops, ifaces, laid.
  DERIVED. THE GIVEN ROWS OF THIS SEAT. 5 by the template 'for every input the law returns true; each argument reads behind the call as it read before'; 0 by the template 'total and deterministic' (their statements: YtfnblkcmcfofoaaGreatDoorTotals.lean).
  GIVEN WITH THE SEED: the statements are not yours to turn. If you find one false, say at which input.
  Laid BY PROGRAM, IN A SANDBOX (cutbox-rows.mjs): the forced cells as the released guide's own fill.sh prints them over the translation 63a4532395bcf1c4… (all of the seat's roots in one cut). By AI agents, Wed Nov 11 2026. No macro, syntax, notation, axiom, sorry.
-/
import Derived.Test.YtfnblkcmcfofoaaGreatDoorChecked
import GoSem.Claim
import GoSem.ClaimJoined
import GoSem.ClaimMapViews
import Derived.JoinedTies
import Derived.KernelRfl
namespace Go.Proofs.YtfnblkcmcfofoaaGreatDoor
/- THE CELL 'sum', in the pinned program and in every row, IS THE sha256 OF THE DUMP (.gsa) THAT YtfnblkcmcfofoaaGreatDoorProg.lean LOADS. Nothing in Lean hashes anything: it is a label: what it is worth is what the hold of that sum in a sandbox is worth. -/
noncomputable def Tryz.pinned : Pinned := { name := "ytfnblkcmcfofoaagreatdoor", sum := "63a4532395bcf1c458cc9ab26012c0f27ae59b18eeb20e09d0193c78401f3d88", checked := Tryz.checked }
namespace Rows
def none {H : Type} : Left H := { results := [], args := [] }

/- WHAT THE LISTED PACKAGE-LEVEL VARIABLES READ AS WHEN THE CALL BEGINS. Each datum BY PROGRAM (the guide's laid-datum.mjs) off the statement by which the dump's own 'gosem.cut.vars' lays the variable. In a bare row this is a premise. The card (YtfnblkcmcfofoaaGreatDoorCards.lean) ties it to the program's text. -/
def laid_loop_example_g00592_impl_kindJoins {H : Type} : DataW H := .agg [.agg [.lit (.int .i64 0), .lit (.int .i64 0), .lit (.int .i64 0), .lit (.int .i64 0), .lit (.int .i64 0), .lit (.int .i64 0)], .agg [.lit (.int .i64 0), .lit (.int .i64 1), .lit (.int .i64 2), .lit (.int .i64 3), .lit (.int .i64 4), .lit (.int .i64 5)], .agg [.lit (.int .i64 0), .lit (.int .i64 2), .lit (.int .i64 2), .lit (.int .i64 4), .lit (.int .i64 4), .lit (.int .i64 5)], .agg [.lit (.int .i64 0), .lit (.int .i64 3), .lit (.int .i64 4), .lit (.int .i64 3), .lit (.int .i64 4), .lit (.int .i64 5)], .agg [.lit (.int .i64 0), .lit (.int .i64 4), .lit (.int .i64 4), .lit (.int .i64 4), .lit (.int .i64 4), .lit (.int .i64 5)], .agg [.lit (.int .i64 0), .lit (.int .i64 5), .lit (.int .i64 5), .lit (.int .i64 5), .lit (.int .i64 5), .lit (.int .i64 5)]]
def laid_loop_example_g00592_impl_errUnfit {H : Type} : DataW H := .iface "*errors.errorString" (.ptr (.agg [.lit (.string [116, 104, 101, 32, 111, 112, 116, 105, 99, 32, 100, 111, 101, 115, 32, 110, 111, 116, 32, 102, 105, 116, 32, 116, 104, 101, 32, 115, 111, 117, 114, 99, 101])]))
def laid_loop_example_g00592_impl_valueForms {H : Type} : DataW H := .agg [.agg [.lit (.int .i64 0), .lit (.int .i64 0), .lit (.bool false), .lit (.bool false), .lit (.int .i64 0), .lit (.int .i64 0)], .agg [.lit (.int .i64 (-9223372036854775808)), .lit (.int .i64 9223372036854775807), .lit (.bool false), .lit (.bool false), .lit (.int .i64 0), .lit (.int .i64 0)], .agg [.lit (.int .i64 0), .lit (.int .i64 1), .lit (.bool false), .lit (.bool false), .lit (.int .i64 0), .lit (.int .i64 0)], .agg [.lit (.int .i64 0), .lit (.int .i64 0), .lit (.bool false), .lit (.bool true), .lit (.int .i64 1), .lit (.int .i64 4)], .agg [.lit (.int .i64 0), .lit (.int .i64 0), .lit (.bool true), .lit (.bool false), .lit (.int .i64 1), .lit (.int .i64 1)], .agg [.lit (.int .i64 0), .lit (.int .i64 0), .lit (.bool false), .lit (.bool false), .lit (.int .i64 0), .lit (.int .i64 9223372036854775807)]]

/-- 'laws.FnTyped': WHATEVER THE INPUT: true; the input reads as it did. -/
def fnTypedSpec : ChangeSpec := { name := "fnTyped", vars := ["loop.example/g00592/impl.errUnfit", "loop.example/g00592/impl.kindJoins"], fn := fun _ => fun
  | [d, g1, g2] => { results := [.lit (.bool true)], args := [d], vars := [g1, g2] }
  | _ => none }
def fnTypedRow : OpenClaim := { program := "ytfnblkcmcfofoaagreatdoor", sum := "63a4532395bcf1c458cc9ab26012c0f27ae59b18eeb20e09d0193c78401f3d88", func := "loop.example/g00592/laws.FnTyped", spec := "fnTyped", inPlace := ["internal/reflectlite.TypeOf"], unfollowed := true, recurses := true, named := ["loop.example/g00592/impl.errUnfit", "loop.example/g00592/impl.kindJoins"], ifaces := true, plainKeys := false, apart := false, laid := [("loop.example/g00592/impl.kindJoins", laid_loop_example_g00592_impl_kindJoins), ("loop.example/g00592/impl.errUnfit", laid_loop_example_g00592_impl_errUnfit)] }
def FnTypedSaid : Prop := fnTypedRow.holds Tryz.pinned (OpenSpec.ofChange fnTypedSpec)

/-- ITS FALSE NEIGHBOUR: 'it returns false'. Refute it at one input. -/
def fnTypedWrong : ChangeSpec := { name := "fnTyped", vars := ["loop.example/g00592/impl.errUnfit", "loop.example/g00592/impl.kindJoins"], fn := fun _ => fun
  | [d, g1, g2] => { results := [.lit (.bool false)], args := [d], vars := [g1, g2] }
  | _ => none }
def FnTypedWrongFalsely : Prop := fnTypedRow.holds Tryz.pinned (OpenSpec.ofChange fnTypedWrong)

/-- 'laws.FnFoci': WHATEVER THE INPUT: true; the input reads as it did. -/
def fnFociSpec : ChangeSpec := { name := "fnFoci", vars := ["loop.example/g00592/impl.errUnfit", "loop.example/g00592/impl.kindJoins", "loop.example/g00592/impl.valueForms"], fn := fun _ => fun
  | [d, g1, g2, g3] => { results := [.lit (.bool true)], args := [d], vars := [g1, g2, g3] }
  | _ => none }
def fnFociRow : OpenClaim := { program := "ytfnblkcmcfofoaagreatdoor", sum := "63a4532395bcf1c458cc9ab26012c0f27ae59b18eeb20e09d0193c78401f3d88", func := "loop.example/g00592/laws.FnFoci", spec := "fnFoci", inPlace := ["internal/reflectlite.TypeOf"], unfollowed := true, recurses := true, named := ["loop.example/g00592/impl.errUnfit", "loop.example/g00592/impl.kindJoins", "loop.example/g00592/impl.valueForms"], ifaces := true, plainKeys := false, apart := false, laid := [("loop.example/g00592/impl.valueForms", laid_loop_example_g00592_impl_valueForms), ("loop.example/g00592/impl.kindJoins", laid_loop_example_g00592_impl_kindJoins), ("loop.example/g00592/impl.errUnfit", laid_loop_example_g00592_impl_errUnfit)] }
def FnFociSaid : Prop := fnFociRow.holds Tryz.pinned (OpenSpec.ofChange fnFociSpec)

/-- ITS FALSE NEIGHBOUR: 'it returns false'. Refute it at one input. -/
def fnFociWrong : ChangeSpec := { name := "fnFoci", vars := ["loop.example/g00592/impl.errUnfit", "loop.example/g00592/impl.kindJoins", "loop.example/g00592/impl.valueForms"], fn := fun _ => fun
  | [d, g1, g2, g3] => { results := [.lit (.bool false)], args := [d], vars := [g1, g2, g3] }
  | _ => none }
def FnFociWrongFalsely : Prop := fnFociRow.holds Tryz.pinned (OpenSpec.ofChange fnFociWrong)

/-- 'laws.FnExactFoci': WHATEVER THE INPUT: true; the input reads as it did. -/
def fnExactFociSpec : ChangeSpec := { name := "fnExactFoci", vars := ["loop.example/g00592/impl.errUnfit", "loop.example/g00592/impl.kindJoins", "loop.example/g00592/impl.valueForms"], fn := fun _ => fun
  | [d1, d2, d3, g1, g2, g3] => { results := [.lit (.bool true)], args := [d1, d2, d3], vars := [g1, g2, g3] }
  | _ => none }
def fnExactFociRow : OpenClaim := { program := "ytfnblkcmcfofoaagreatdoor", sum := "63a4532395bcf1c458cc9ab26012c0f27ae59b18eeb20e09d0193c78401f3d88", func := "loop.example/g00592/laws.FnExactFoci", spec := "fnExactFoci", inPlace := ["internal/reflectlite.TypeOf"], unfollowed := true, recurses := true, named := ["loop.example/g00592/impl.errUnfit", "loop.example/g00592/impl.kindJoins", "loop.example/g00592/impl.valueForms"], ifaces := true, loops := true, plainKeys := false, apart := false, laid := [("loop.example/g00592/impl.valueForms", laid_loop_example_g00592_impl_valueForms), ("loop.example/g00592/impl.kindJoins", laid_loop_example_g00592_impl_kindJoins), ("loop.example/g00592/impl.errUnfit", laid_loop_example_g00592_impl_errUnfit)] }
def FnExactFociSaid : Prop := fnExactFociRow.holds Tryz.pinned (OpenSpec.ofChange fnExactFociSpec)

/-- ITS FALSE NEIGHBOUR: 'it returns false'. Refute it at one input. -/
def fnExactFociWrong : ChangeSpec := { name := "fnExactFoci", vars := ["loop.example/g00592/impl.errUnfit", "loop.example/g00592/impl.kindJoins", "loop.example/g00592/impl.valueForms"], fn := fun _ => fun
  | [d1, d2, d3, g1, g2, g3] => { results := [.lit (.bool false)], args := [d1, d2, d3], vars := [g1, g2, g3] }
  | _ => none }
def FnExactFociWrongFalsely : Prop := fnExactFociRow.holds Tryz.pinned (OpenSpec.ofChange fnExactFociWrong)

/-- 'laws.FnExactCountFoci': WHATEVER THE INPUT: true; the input reads as it did. -/
def fnExactCountFociSpec : ChangeSpec := { name := "fnExactCountFoci", vars := ["loop.example/g00592/impl.errUnfit", "loop.example/g00592/impl.kindJoins", "loop.example/g00592/impl.valueForms"], fn := fun _ => fun
  | [d1, d2, d3, g1, g2, g3] => { results := [.lit (.bool true)], args := [d1, d2, d3], vars := [g1, g2, g3] }
  | _ => none }
def fnExactCountFociRow : OpenClaim := { program := "ytfnblkcmcfofoaagreatdoor", sum := "63a4532395bcf1c458cc9ab26012c0f27ae59b18eeb20e09d0193c78401f3d88", func := "loop.example/g00592/laws.FnExactCountFoci", spec := "fnExactCountFoci", inPlace := ["internal/reflectlite.TypeOf"], unfollowed := true, recurses := true, named := ["loop.example/g00592/impl.errUnfit", "loop.example/g00592/impl.kindJoins", "loop.example/g00592/impl.valueForms"], ifaces := true, loops := true, plainKeys := false, apart := false, laid := [("loop.example/g00592/impl.valueForms", laid_loop_example_g00592_impl_valueForms), ("loop.example/g00592/impl.kindJoins", laid_loop_example_g00592_impl_kindJoins), ("loop.example/g00592/impl.errUnfit", laid_loop_example_g00592_impl_errUnfit)] }
def FnExactCountFociSaid : Prop := fnExactCountFociRow.holds Tryz.pinned (OpenSpec.ofChange fnExactCountFociSpec)

/-- ITS FALSE NEIGHBOUR: 'it returns false'. Refute it at one input. -/
def fnExactCountFociWrong : ChangeSpec := { name := "fnExactCountFoci", vars := ["loop.example/g00592/impl.errUnfit", "loop.example/g00592/impl.kindJoins", "loop.example/g00592/impl.valueForms"], fn := fun _ => fun
  | [d1, d2, d3, g1, g2, g3] => { results := [.lit (.bool false)], args := [d1, d2, d3], vars := [g1, g2, g3] }
  | _ => none }
def FnExactCountFociWrongFalsely : Prop := fnExactCountFociRow.holds Tryz.pinned (OpenSpec.ofChange fnExactCountFociWrong)

/-- 'laws.FnExactFirstFocus': WHATEVER THE INPUT: true; the input reads as it did. -/
def fnExactFirstFocusSpec : ChangeSpec := { name := "fnExactFirstFocus", vars := ["loop.example/g00592/impl.errUnfit", "loop.example/g00592/impl.kindJoins", "loop.example/g00592/impl.valueForms"], fn := fun _ => fun
  | [d1, d2, d3, g1, g2, g3] => { results := [.lit (.bool true)], args := [d1, d2, d3], vars := [g1, g2, g3] }
  | _ => none }
def fnExactFirstFocusRow : OpenClaim := { program := "ytfnblkcmcfofoaagreatdoor", sum := "63a4532395bcf1c458cc9ab26012c0f27ae59b18eeb20e09d0193c78401f3d88", func := "loop.example/g00592/laws.FnExactFirstFocus", spec := "fnExactFirstFocus", inPlace := ["internal/reflectlite.TypeOf"], unfollowed := true, recurses := true, named := ["loop.example/g00592/impl.errUnfit", "loop.example/g00592/impl.kindJoins", "loop.example/g00592/impl.valueForms"], ifaces := true, loops := true, plainKeys := false, apart := false, laid := [("loop.example/g00592/impl.valueForms", laid_loop_example_g00592_impl_valueForms), ("loop.example/g00592/impl.kindJoins", laid_loop_example_g00592_impl_kindJoins), ("loop.example/g00592/impl.errUnfit", laid_loop_example_g00592_impl_errUnfit)] }
def FnExactFirstFocusSaid : Prop := fnExactFirstFocusRow.holds Tryz.pinned (OpenSpec.ofChange fnExactFirstFocusSpec)

/-- ITS FALSE NEIGHBOUR: 'it returns false'. Refute it at one input. -/
def fnExactFirstFocusWrong : ChangeSpec := { name := "fnExactFirstFocus", vars := ["loop.example/g00592/impl.errUnfit", "loop.example/g00592/impl.kindJoins", "loop.example/g00592/impl.valueForms"], fn := fun _ => fun
  | [d1, d2, d3, g1, g2, g3] => { results := [.lit (.bool false)], args := [d1, d2, d3], vars := [g1, g2, g3] }
  | _ => none }
def FnExactFirstFocusWrongFalsely : Prop := fnExactFirstFocusRow.holds Tryz.pinned (OpenSpec.ofChange fnExactFirstFocusWrong)

/- THE SECOND FORM. 'bulk': how many values and letters a reading holds, each counted each time it is reached (what is shared counts as often as it is met; a slice's spare places count too). A statement '..UptoSaid' is the law's where the arguments, and the package variables that the reading takes, are together of bulk at most 1048576: NARROWER than '..Said'. Prove '..Said' where nothing that the law and all that it calls make is longer than what came in: it says more and counts as full. Else prove '..UptoSaid'. A law counts once. -/
mutual
def uptoBulk {H : Type} : DataW H → Nat
  | .lit (.string bytes) => bytes.length + 1
  | .lit _ => 1
  | .nil => 1
  | .ptr d => uptoBulk d + 1
  | .slice elems spare => uptoBulkAll elems + uptoBulkAll spare + 1
  | .agg parts => uptoBulkAll parts + 1
  | .iface _ d => uptoBulk d + 1
  | .map entries => uptoBulkEntries entries + 1
  | .held _ => 1
def uptoBulkAll {H : Type} : List (DataW H) → Nat
  | [] => 0
  | d :: r => uptoBulk d + uptoBulkAll r
def uptoBulkEntries {H : Type} : List (Lit × DataW H) → Nat
  | [] => 0
  | x :: r => uptoBulkEntry x + uptoBulkEntries r
def uptoBulkEntry {H : Type} : Lit × DataW H → Nat
  | (.string bytes, d) => bytes.length + uptoBulk d + 1
  | (_, d) => uptoBulk d + 1
 end
def uptoSmall : (H : Type) → List (DataW H) → Bool := fun _ ds => decide (uptoBulkAll ds ≤ 1048576)
def OpenSpec.upto (s : _root_.Go.ChangeSpec) : _root_.Go.OpenSpec := { _root_.Go.OpenSpec.ofChange s with cond := some uptoSmall }

/-- 'laws.FnTyped', WHERE WHAT IT READS IS OF BULK AT MOST 1048576: true; the input reads as it did. -/
def fnTypedUptoRow : OpenClaim := { program := "ytfnblkcmcfofoaagreatdoor", sum := "63a4532395bcf1c458cc9ab26012c0f27ae59b18eeb20e09d0193c78401f3d88", func := "loop.example/g00592/laws.FnTyped", spec := "fnTyped", inPlace := ["internal/reflectlite.TypeOf"], unfollowed := true, recurses := true, named := ["loop.example/g00592/impl.errUnfit", "loop.example/g00592/impl.kindJoins"], ifaces := true, plainKeys := false, apart := false, laid := [("loop.example/g00592/impl.kindJoins", laid_loop_example_g00592_impl_kindJoins), ("loop.example/g00592/impl.errUnfit", laid_loop_example_g00592_impl_errUnfit)], narrowed := true }
def FnTypedUptoSaid : Prop := fnTypedUptoRow.holds Tryz.pinned (OpenSpec.upto fnTypedSpec)

/-- 'laws.FnFoci', WHERE WHAT IT READS IS OF BULK AT MOST 1048576: true; the input reads as it did. -/
def fnFociUptoRow : OpenClaim := { program := "ytfnblkcmcfofoaagreatdoor", sum := "63a4532395bcf1c458cc9ab26012c0f27ae59b18eeb20e09d0193c78401f3d88", func := "loop.example/g00592/laws.FnFoci", spec := "fnFoci", inPlace := ["internal/reflectlite.TypeOf"], unfollowed := true, recurses := true, named := ["loop.example/g00592/impl.errUnfit", "loop.example/g00592/impl.kindJoins", "loop.example/g00592/impl.valueForms"], ifaces := true, plainKeys := false, apart := false, laid := [("loop.example/g00592/impl.valueForms", laid_loop_example_g00592_impl_valueForms), ("loop.example/g00592/impl.kindJoins", laid_loop_example_g00592_impl_kindJoins), ("loop.example/g00592/impl.errUnfit", laid_loop_example_g00592_impl_errUnfit)], narrowed := true }
def FnFociUptoSaid : Prop := fnFociUptoRow.holds Tryz.pinned (OpenSpec.upto fnFociSpec)

/-- 'laws.FnExactFoci', WHERE WHAT IT READS IS OF BULK AT MOST 1048576: true; the input reads as it did. -/
def fnExactFociUptoRow : OpenClaim := { program := "ytfnblkcmcfofoaagreatdoor", sum := "63a4532395bcf1c458cc9ab26012c0f27ae59b18eeb20e09d0193c78401f3d88", func := "loop.example/g00592/laws.FnExactFoci", spec := "fnExactFoci", inPlace := ["internal/reflectlite.TypeOf"], unfollowed := true, recurses := true, named := ["loop.example/g00592/impl.errUnfit", "loop.example/g00592/impl.kindJoins", "loop.example/g00592/impl.valueForms"], ifaces := true, loops := true, plainKeys := false, apart := false, laid := [("loop.example/g00592/impl.valueForms", laid_loop_example_g00592_impl_valueForms), ("loop.example/g00592/impl.kindJoins", laid_loop_example_g00592_impl_kindJoins), ("loop.example/g00592/impl.errUnfit", laid_loop_example_g00592_impl_errUnfit)], narrowed := true }
def FnExactFociUptoSaid : Prop := fnExactFociUptoRow.holds Tryz.pinned (OpenSpec.upto fnExactFociSpec)

/-- 'laws.FnExactCountFoci', WHERE WHAT IT READS IS OF BULK AT MOST 1048576: true; the input reads as it did. -/
def fnExactCountFociUptoRow : OpenClaim := { program := "ytfnblkcmcfofoaagreatdoor", sum := "63a4532395bcf1c458cc9ab26012c0f27ae59b18eeb20e09d0193c78401f3d88", func := "loop.example/g00592/laws.FnExactCountFoci", spec := "fnExactCountFoci", inPlace := ["internal/reflectlite.TypeOf"], unfollowed := true, recurses := true, named := ["loop.example/g00592/impl.errUnfit", "loop.example/g00592/impl.kindJoins", "loop.example/g00592/impl.valueForms"], ifaces := true, loops := true, plainKeys := false, apart := false, laid := [("loop.example/g00592/impl.valueForms", laid_loop_example_g00592_impl_valueForms), ("loop.example/g00592/impl.kindJoins", laid_loop_example_g00592_impl_kindJoins), ("loop.example/g00592/impl.errUnfit", laid_loop_example_g00592_impl_errUnfit)], narrowed := true }
def FnExactCountFociUptoSaid : Prop := fnExactCountFociUptoRow.holds Tryz.pinned (OpenSpec.upto fnExactCountFociSpec)

/-- 'laws.FnExactFirstFocus', WHERE WHAT IT READS IS OF BULK AT MOST 1048576: true; the input reads as it did. -/
def fnExactFirstFocusUptoRow : OpenClaim := { program := "ytfnblkcmcfofoaagreatdoor", sum := "63a4532395bcf1c458cc9ab26012c0f27ae59b18eeb20e09d0193c78401f3d88", func := "loop.example/g00592/laws.FnExactFirstFocus", spec := "fnExactFirstFocus", inPlace := ["internal/reflectlite.TypeOf"], unfollowed := true, recurses := true, named := ["loop.example/g00592/impl.errUnfit", "loop.example/g00592/impl.kindJoins", "loop.example/g00592/impl.valueForms"], ifaces := true, loops := true, plainKeys := false, apart := false, laid := [("loop.example/g00592/impl.valueForms", laid_loop_example_g00592_impl_valueForms), ("loop.example/g00592/impl.kindJoins", laid_loop_example_g00592_impl_kindJoins), ("loop.example/g00592/impl.errUnfit", laid_loop_example_g00592_impl_errUnfit)], narrowed := true }
def FnExactFirstFocusUptoSaid : Prop := fnExactFirstFocusUptoRow.holds Tryz.pinned (OpenSpec.upto fnExactFirstFocusSpec)

end Rows
end Go.Proofs.YtfnblkcmcfofoaaGreatDoor
