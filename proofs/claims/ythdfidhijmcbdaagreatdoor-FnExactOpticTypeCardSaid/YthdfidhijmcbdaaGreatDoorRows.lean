/-
  NARROWER THAN 'FOR EVERY INPUT', by the rows' own cells (each row's printed sentence says how): FnTyped: ifaces, laid · FnExactOpticType: loops, ifaces, laid · FnExactIsTyped: loops, ifaces, laid.
  DERIVED. THE GIVEN ROWS OF THIS SEAT. 3 by the template 'for every input the law returns true; each argument reads behind the call as it read before'; 0 by the template 'total and deterministic' (their statements: YthdfidhijmcbdaaGreatDoorTotals.lean).
  GIVEN WITH THE SEED: the statements are not yours to turn. If you find one false, say at which input.
  Laid BY PROGRAM, IN A SANDBOX (cutbox-rows.mjs): the forced cells as the released guide's own fill.sh prints them over the translation c4ba63b356325670… (all of the seat's roots in one cut). By AI agents, Wed Nov 11 2026. No macro, syntax, notation, axiom, sorry.
-/
import Derived.Test.YthdfidhijmcbdaaGreatDoorChecked
import GoSem.Claim
import GoSem.ClaimJoined
import GoSem.ClaimMapViews
import Derived.JoinedTies
import Derived.KernelRfl
namespace Go.Proofs.YthdfidhijmcbdaaGreatDoor
/- THE CELL 'sum', in the pinned program and in every row, IS THE sha256 OF THE DUMP (.gsa) THAT YthdfidhijmcbdaaGreatDoorProg.lean LOADS. Nothing in Lean hashes anything: it is a label: what it is worth is what the hold of that sum in a sandbox is worth. -/
noncomputable def Tryz.pinned : Pinned := { name := "ythdfidhijmcbdaagreatdoor", sum := "c4ba63b3563256706defe1fc291accf05676dcbfff21db2726bde6d3af062e6c", checked := Tryz.checked }
namespace Rows
def none {H : Type} : Left H := { results := [], args := [] }

/- WHAT THE LISTED PACKAGE-LEVEL VARIABLES READ AS WHEN THE CALL BEGINS. Each datum BY PROGRAM (the guide's laid-datum.mjs) off the statement by which the dump's own 'gosem.cut.vars' lays the variable. In a bare row this is a premise. The card (YthdfidhijmcbdaaGreatDoorCards.lean) ties it to the program's text. -/
def laid_loop_example_g00592_impl_kindJoins {H : Type} : DataW H := .agg [.agg [.lit (.int .i64 0), .lit (.int .i64 0), .lit (.int .i64 0), .lit (.int .i64 0), .lit (.int .i64 0), .lit (.int .i64 0)], .agg [.lit (.int .i64 0), .lit (.int .i64 1), .lit (.int .i64 2), .lit (.int .i64 3), .lit (.int .i64 4), .lit (.int .i64 5)], .agg [.lit (.int .i64 0), .lit (.int .i64 2), .lit (.int .i64 2), .lit (.int .i64 4), .lit (.int .i64 4), .lit (.int .i64 5)], .agg [.lit (.int .i64 0), .lit (.int .i64 3), .lit (.int .i64 4), .lit (.int .i64 3), .lit (.int .i64 4), .lit (.int .i64 5)], .agg [.lit (.int .i64 0), .lit (.int .i64 4), .lit (.int .i64 4), .lit (.int .i64 4), .lit (.int .i64 4), .lit (.int .i64 5)], .agg [.lit (.int .i64 0), .lit (.int .i64 5), .lit (.int .i64 5), .lit (.int .i64 5), .lit (.int .i64 5), .lit (.int .i64 5)]]
def laid_loop_example_g00592_impl_errUnfit {H : Type} : DataW H := .iface "*errors.errorString" (.ptr (.agg [.lit (.string [116, 104, 101, 32, 111, 112, 116, 105, 99, 32, 100, 111, 101, 115, 32, 110, 111, 116, 32, 102, 105, 116, 32, 116, 104, 101, 32, 115, 111, 117, 114, 99, 101])]))

/-- 'laws.FnTyped': WHATEVER THE INPUT: true; the input reads as it did. -/
def fnTypedSpec : ChangeSpec := { name := "fnTyped", vars := ["loop.example/g00592/impl.errUnfit", "loop.example/g00592/impl.kindJoins"], fn := fun _ => fun
  | [d, g1, g2] => { results := [.lit (.bool true)], args := [d], vars := [g1, g2] }
  | _ => none }
def fnTypedRow : OpenClaim := { program := "ythdfidhijmcbdaagreatdoor", sum := "c4ba63b3563256706defe1fc291accf05676dcbfff21db2726bde6d3af062e6c", func := "loop.example/g00592/laws.FnTyped", spec := "fnTyped", inPlace := ["internal/reflectlite.TypeOf"], unfollowed := true, recurses := true, named := ["loop.example/g00592/impl.errUnfit", "loop.example/g00592/impl.kindJoins"], ifaces := true, plainKeys := false, apart := false, laid := [("loop.example/g00592/impl.kindJoins", laid_loop_example_g00592_impl_kindJoins), ("loop.example/g00592/impl.errUnfit", laid_loop_example_g00592_impl_errUnfit)] }
def FnTypedSaid : Prop := fnTypedRow.holds Tryz.pinned (OpenSpec.ofChange fnTypedSpec)

/-- ITS FALSE NEIGHBOUR: 'it returns false'. Refute it at one input. -/
def fnTypedWrong : ChangeSpec := { name := "fnTyped", vars := ["loop.example/g00592/impl.errUnfit", "loop.example/g00592/impl.kindJoins"], fn := fun _ => fun
  | [d, g1, g2] => { results := [.lit (.bool false)], args := [d], vars := [g1, g2] }
  | _ => none }
def FnTypedWrongFalsely : Prop := fnTypedRow.holds Tryz.pinned (OpenSpec.ofChange fnTypedWrong)

/-- 'laws.FnExactOpticType': WHATEVER THE INPUT: true; the input reads as it did. -/
def fnExactOpticTypeSpec : ChangeSpec := { name := "fnExactOpticType", vars := ["loop.example/g00592/impl.errUnfit", "loop.example/g00592/impl.kindJoins"], fn := fun _ => fun
  | [d1, d2, g1, g2] => { results := [.lit (.bool true)], args := [d1, d2], vars := [g1, g2] }
  | _ => none }
def fnExactOpticTypeRow : OpenClaim := { program := "ythdfidhijmcbdaagreatdoor", sum := "c4ba63b3563256706defe1fc291accf05676dcbfff21db2726bde6d3af062e6c", func := "loop.example/g00592/laws.FnExactOpticType", spec := "fnExactOpticType", inPlace := ["internal/reflectlite.TypeOf"], unfollowed := true, recurses := true, named := ["loop.example/g00592/impl.errUnfit", "loop.example/g00592/impl.kindJoins"], ifaces := true, loops := true, plainKeys := false, apart := false, laid := [("loop.example/g00592/impl.kindJoins", laid_loop_example_g00592_impl_kindJoins), ("loop.example/g00592/impl.errUnfit", laid_loop_example_g00592_impl_errUnfit)] }
def FnExactOpticTypeSaid : Prop := fnExactOpticTypeRow.holds Tryz.pinned (OpenSpec.ofChange fnExactOpticTypeSpec)

/-- ITS FALSE NEIGHBOUR: 'it returns false'. Refute it at one input. -/
def fnExactOpticTypeWrong : ChangeSpec := { name := "fnExactOpticType", vars := ["loop.example/g00592/impl.errUnfit", "loop.example/g00592/impl.kindJoins"], fn := fun _ => fun
  | [d1, d2, g1, g2] => { results := [.lit (.bool false)], args := [d1, d2], vars := [g1, g2] }
  | _ => none }
def FnExactOpticTypeWrongFalsely : Prop := fnExactOpticTypeRow.holds Tryz.pinned (OpenSpec.ofChange fnExactOpticTypeWrong)

/-- 'laws.FnExactIsTyped': WHATEVER THE INPUT: true; the input reads as it did. -/
def fnExactIsTypedSpec : ChangeSpec := { name := "fnExactIsTyped", vars := ["loop.example/g00592/impl.errUnfit", "loop.example/g00592/impl.kindJoins"], fn := fun _ => fun
  | [d1, d2, g1, g2] => { results := [.lit (.bool true)], args := [d1, d2], vars := [g1, g2] }
  | _ => none }
def fnExactIsTypedRow : OpenClaim := { program := "ythdfidhijmcbdaagreatdoor", sum := "c4ba63b3563256706defe1fc291accf05676dcbfff21db2726bde6d3af062e6c", func := "loop.example/g00592/laws.FnExactIsTyped", spec := "fnExactIsTyped", inPlace := ["internal/reflectlite.TypeOf"], unfollowed := true, recurses := true, named := ["loop.example/g00592/impl.errUnfit", "loop.example/g00592/impl.kindJoins"], ifaces := true, loops := true, plainKeys := false, apart := false, laid := [("loop.example/g00592/impl.kindJoins", laid_loop_example_g00592_impl_kindJoins), ("loop.example/g00592/impl.errUnfit", laid_loop_example_g00592_impl_errUnfit)] }
def FnExactIsTypedSaid : Prop := fnExactIsTypedRow.holds Tryz.pinned (OpenSpec.ofChange fnExactIsTypedSpec)

/-- ITS FALSE NEIGHBOUR: 'it returns false'. Refute it at one input. -/
def fnExactIsTypedWrong : ChangeSpec := { name := "fnExactIsTyped", vars := ["loop.example/g00592/impl.errUnfit", "loop.example/g00592/impl.kindJoins"], fn := fun _ => fun
  | [d1, d2, g1, g2] => { results := [.lit (.bool false)], args := [d1, d2], vars := [g1, g2] }
  | _ => none }
def FnExactIsTypedWrongFalsely : Prop := fnExactIsTypedRow.holds Tryz.pinned (OpenSpec.ofChange fnExactIsTypedWrong)

/- THE SECOND FORM. 'bulk': how many values and letters a reading holds, each counted each time it is reached (what is shared counts as often as it is met; a slice's spare places count too). A statement '..UptoSaid' is the law's where the arguments, and the package variables that the reading takes, are together of bulk at most 1048576: NARROWER than '..Said'. Prove '..Said' where nothing that the law and all that it calls make is longer than what came in: it says more and counts as full. Else prove '..UptoSaid'. A law counts once. -/
mutual
def uptoBulk {H : Type} : DataW H → Nat
  | .lit (.string bytes) => bytes.length + 1
  | .lit _ => 1
  | .nil => 1
  | .ptr d => uptoBulk d + 1
  | .slice elems spare => uptoBulkAll elems + uptoBulkAll spare + 1
  | .agg parts => uptoBulkAll parts + 1
  | .iface _ d => uptoBulk d + 1
  | .map entries => uptoBulkEntries entries + 1
  | .held _ => 1
def uptoBulkAll {H : Type} : List (DataW H) → Nat
  | [] => 0
  | d :: r => uptoBulk d + uptoBulkAll r
def uptoBulkEntries {H : Type} : List (Lit × DataW H) → Nat
  | [] => 0
  | x :: r => uptoBulkEntry x + uptoBulkEntries r
def uptoBulkEntry {H : Type} : Lit × DataW H → Nat
  | (.string bytes, d) => bytes.length + uptoBulk d + 1
  | (_, d) => uptoBulk d + 1
 end
def uptoSmall : (H : Type) → List (DataW H) → Bool := fun _ ds => decide (uptoBulkAll ds ≤ 1048576)
def OpenSpec.upto (s : _root_.Go.ChangeSpec) : _root_.Go.OpenSpec := { _root_.Go.OpenSpec.ofChange s with cond := some uptoSmall }

/-- 'laws.FnTyped', WHERE WHAT IT READS IS OF BULK AT MOST 1048576: true; the input reads as it did. -/
def fnTypedUptoRow : OpenClaim := { program := "ythdfidhijmcbdaagreatdoor", sum := "c4ba63b3563256706defe1fc291accf05676dcbfff21db2726bde6d3af062e6c", func := "loop.example/g00592/laws.FnTyped", spec := "fnTyped", inPlace := ["internal/reflectlite.TypeOf"], unfollowed := true, recurses := true, named := ["loop.example/g00592/impl.errUnfit", "loop.example/g00592/impl.kindJoins"], ifaces := true, plainKeys := false, apart := false, laid := [("loop.example/g00592/impl.kindJoins", laid_loop_example_g00592_impl_kindJoins), ("loop.example/g00592/impl.errUnfit", laid_loop_example_g00592_impl_errUnfit)], narrowed := true }
def FnTypedUptoSaid : Prop := fnTypedUptoRow.holds Tryz.pinned (OpenSpec.upto fnTypedSpec)

/-- 'laws.FnExactOpticType', WHERE WHAT IT READS IS OF BULK AT MOST 1048576: true; the input reads as it did. -/
def fnExactOpticTypeUptoRow : OpenClaim := { program := "ythdfidhijmcbdaagreatdoor", sum := "c4ba63b3563256706defe1fc291accf05676dcbfff21db2726bde6d3af062e6c", func := "loop.example/g00592/laws.FnExactOpticType", spec := "fnExactOpticType", inPlace := ["internal/reflectlite.TypeOf"], unfollowed := true, recurses := true, named := ["loop.example/g00592/impl.errUnfit", "loop.example/g00592/impl.kindJoins"], ifaces := true, loops := true, plainKeys := false, apart := false, laid := [("loop.example/g00592/impl.kindJoins", laid_loop_example_g00592_impl_kindJoins), ("loop.example/g00592/impl.errUnfit", laid_loop_example_g00592_impl_errUnfit)], narrowed := true }
def FnExactOpticTypeUptoSaid : Prop := fnExactOpticTypeUptoRow.holds Tryz.pinned (OpenSpec.upto fnExactOpticTypeSpec)

/-- 'laws.FnExactIsTyped', WHERE WHAT IT READS IS OF BULK AT MOST 1048576: true; the input reads as it did. -/
def fnExactIsTypedUptoRow : OpenClaim := { program := "ythdfidhijmcbdaagreatdoor", sum := "c4ba63b3563256706defe1fc291accf05676dcbfff21db2726bde6d3af062e6c", func := "loop.example/g00592/laws.FnExactIsTyped", spec := "fnExactIsTyped", inPlace := ["internal/reflectlite.TypeOf"], unfollowed := true, recurses := true, named := ["loop.example/g00592/impl.errUnfit", "loop.example/g00592/impl.kindJoins"], ifaces := true, loops := true, plainKeys := false, apart := false, laid := [("loop.example/g00592/impl.kindJoins", laid_loop_example_g00592_impl_kindJoins), ("loop.example/g00592/impl.errUnfit", laid_loop_example_g00592_impl_errUnfit)], narrowed := true }
def FnExactIsTypedUptoSaid : Prop := fnExactIsTypedUptoRow.holds Tryz.pinned (OpenSpec.upto fnExactIsTypedSpec)

end Rows
end Go.Proofs.YthdfidhijmcbdaaGreatDoor
