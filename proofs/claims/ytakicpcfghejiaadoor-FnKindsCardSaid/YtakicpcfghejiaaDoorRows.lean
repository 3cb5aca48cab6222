/-
  NARROWER THAN 'FOR EVERY INPUT', by the rows' own cells (each row's printed sentence says how): FnKinds: laid · FnExactIsKind: laid · FnExactIsWithin: laid · FnExactJoinKinds: laid.
  DERIVED. THE GIVEN ROWS OF THIS SEAT. 4 by the template 'for every input the law returns true; each argument reads behind the call as it read before'; 0 by the template 'total and deterministic' (their statements: YtakicpcfghejiaaDoorTotals.lean).
  GIVEN WITH THE SEED: the statements are not yours to turn. If you find one false, say at which input.
  Laid BY PROGRAM, IN A SANDBOX (cutbox-rows.mjs): the forced cells as the released guide's own fill.sh prints them over the translation 3986d498b7879ff1… (all of the seat's roots in one cut). By AI agents, Wed Nov 11 2026. No macro, syntax, notation, axiom, sorry.
-/
import Derived.Test.YtakicpcfghejiaaDoorChecked
import GoSem.Claim
import GoSem.ClaimJoined
import GoSem.ClaimMapViews
import Derived.JoinedTies
import Derived.KernelRfl
namespace Go.Proofs.YtakicpcfghejiaaDoor
/- THE CELL 'sum', in the pinned program and in every row, IS THE sha256 OF THE DUMP (.gsa) THAT YtakicpcfghejiaaDoorProg.lean LOADS. Nothing in Lean hashes anything: it is a label: what it is worth is what the hold of that sum in a sandbox is worth. -/
noncomputable def Tryd.pinned : Pinned := { name := "ytakicpcfghejiaadoor", sum := "3986d498b7879ff1e37fa53523195e9f5102cc73015eacbc2bb777d618946156", checked := Tryd.checked }
namespace Rows
def none {H : Type} : Left H := { results := [], args := [] }

/- WHAT THE LISTED PACKAGE-LEVEL VARIABLES READ AS WHEN THE CALL BEGINS. Each datum BY PROGRAM (the guide's laid-datum.mjs) off the statement by which the dump's own 'gosem.cut.vars' lays the variable. In a bare row this is a premise. The card (YtakicpcfghejiaaDoorCards.lean) ties it to the program's text. -/
def laid_loop_example_g00592_impl_kindJoins {H : Type} : DataW H := .agg [.agg [.lit (.int .i64 0), .lit (.int .i64 0), .lit (.int .i64 0), .lit (.int .i64 0), .lit (.int .i64 0), .lit (.int .i64 0)], .agg [.lit (.int .i64 0), .lit (.int .i64 1), .lit (.int .i64 2), .lit (.int .i64 3), .lit (.int .i64 4), .lit (.int .i64 5)], .agg [.lit (.int .i64 0), .lit (.int .i64 2), .lit (.int .i64 2), .lit (.int .i64 4), .lit (.int .i64 4), .lit (.int .i64 5)], .agg [.lit (.int .i64 0), .lit (.int .i64 3), .lit (.int .i64 4), .lit (.int .i64 3), .lit (.int .i64 4), .lit (.int .i64 5)], .agg [.lit (.int .i64 0), .lit (.int .i64 4), .lit (.int .i64 4), .lit (.int .i64 4), .lit (.int .i64 4), .lit (.int .i64 5)], .agg [.lit (.int .i64 0), .lit (.int .i64 5), .lit (.int .i64 5), .lit (.int .i64 5), .lit (.int .i64 5), .lit (.int .i64 5)]]

/-- 'laws.FnKinds': WHATEVER THE INPUT: true; the input reads as it did. -/
def fnKindsSpec : ChangeSpec := { name := "fnKinds", vars := ["loop.example/g00592/impl.kindJoins"], fn := fun _ => fun
  | [d, g1] => { results := [.lit (.bool true)], args := [d], vars := [g1] }
  | _ => none }
def fnKindsRow : OpenClaim := { program := "ytakicpcfghejiaadoor", sum := "3986d498b7879ff1e37fa53523195e9f5102cc73015eacbc2bb777d618946156", func := "loop.example/g00592/laws.FnKinds", spec := "fnKinds", named := ["loop.example/g00592/impl.kindJoins"], apart := false, laid := [("loop.example/g00592/impl.kindJoins", laid_loop_example_g00592_impl_kindJoins)] }
def FnKindsSaid : Prop := fnKindsRow.holds Tryd.pinned (OpenSpec.ofChange fnKindsSpec)

/-- ITS FALSE NEIGHBOUR: 'it returns false'. Refute it at one input. -/
def fnKindsWrong : ChangeSpec := { name := "fnKinds", vars := ["loop.example/g00592/impl.kindJoins"], fn := fun _ => fun
  | [d, g1] => { results := [.lit (.bool false)], args := [d], vars := [g1] }
  | _ => none }
def FnKindsWrongFalsely : Prop := fnKindsRow.holds Tryd.pinned (OpenSpec.ofChange fnKindsWrong)

/-- 'laws.FnExactIsKind': WHATEVER THE INPUT: true; the input reads as it did. -/
def fnExactIsKindSpec : ChangeSpec := { name := "fnExactIsKind", vars := ["loop.example/g00592/impl.kindJoins"], fn := fun _ => fun
  | [d, g1] => { results := [.lit (.bool true)], args := [d], vars := [g1] }
  | _ => none }
def fnExactIsKindRow : OpenClaim := { program := "ytakicpcfghejiaadoor", sum := "3986d498b7879ff1e37fa53523195e9f5102cc73015eacbc2bb777d618946156", func := "loop.example/g00592/laws.FnExactIsKind", spec := "fnExactIsKind", named := ["loop.example/g00592/impl.kindJoins"], apart := false, laid := [("loop.example/g00592/impl.kindJoins", laid_loop_example_g00592_impl_kindJoins)] }
def FnExactIsKindSaid : Prop := fnExactIsKindRow.holds Tryd.pinned (OpenSpec.ofChange fnExactIsKindSpec)

/-- ITS FALSE NEIGHBOUR: 'it returns false'. Refute it at one input. -/
def fnExactIsKindWrong : ChangeSpec := { name := "fnExactIsKind", vars := ["loop.example/g00592/impl.kindJoins"], fn := fun _ => fun
  | [d, g1] => { results := [.lit (.bool false)], args := [d], vars := [g1] }
  | _ => none }
def FnExactIsKindWrongFalsely : Prop := fnExactIsKindRow.holds Tryd.pinned (OpenSpec.ofChange fnExactIsKindWrong)

/-- 'laws.FnExactIsWithin': WHATEVER THE INPUT: true; the input reads as it did. -/
def fnExactIsWithinSpec : ChangeSpec := { name := "fnExactIsWithin", vars := ["loop.example/g00592/impl.kindJoins"], fn := fun _ => fun
  | [d1, d2, g1] => { results := [.lit (.bool true)], args := [d1, d2], vars := [g1] }
  | _ => none }
def fnExactIsWithinRow : OpenClaim := { program := "ytakicpcfghejiaadoor", sum := "3986d498b7879ff1e37fa53523195e9f5102cc73015eacbc2bb777d618946156", func := "loop.example/g00592/laws.FnExactIsWithin", spec := "fnExactIsWithin", named := ["loop.example/g00592/impl.kindJoins"], apart := false, laid := [("loop.example/g00592/impl.kindJoins", laid_loop_example_g00592_impl_kindJoins)] }
def FnExactIsWithinSaid : Prop := fnExactIsWithinRow.holds Tryd.pinned (OpenSpec.ofChange fnExactIsWithinSpec)

/-- ITS FALSE NEIGHBOUR: 'it returns false'. Refute it at one input. -/
def fnExactIsWithinWrong : ChangeSpec := { name := "fnExactIsWithin", vars := ["loop.example/g00592/impl.kindJoins"], fn := fun _ => fun
  | [d1, d2, g1] => { results := [.lit (.bool false)], args := [d1, d2], vars := [g1] }
  | _ => none }
def FnExactIsWithinWrongFalsely : Prop := fnExactIsWithinRow.holds Tryd.pinned (OpenSpec.ofChange fnExactIsWithinWrong)

/-- 'laws.FnExactJoinKinds': WHATEVER THE INPUT: true; the input reads as it did. -/
def fnExactJoinKindsSpec : ChangeSpec := { name := "fnExactJoinKinds", vars := ["loop.example/g00592/impl.kindJoins"], fn := fun _ => fun
  | [d1, d2, g1] => { results := [.lit (.bool true)], args := [d1, d2], vars := [g1] }
  | _ => none }
def fnExactJoinKindsRow : OpenClaim := { program := "ytakicpcfghejiaadoor", sum := "3986d498b7879ff1e37fa53523195e9f5102cc73015eacbc2bb777d618946156", func := "loop.example/g00592/laws.FnExactJoinKinds", spec := "fnExactJoinKinds", named := ["loop.example/g00592/impl.kindJoins"], apart := false, laid := [("loop.example/g00592/impl.kindJoins", laid_loop_example_g00592_impl_kindJoins)] }
def FnExactJoinKindsSaid : Prop := fnExactJoinKindsRow.holds Tryd.pinned (OpenSpec.ofChange fnExactJoinKindsSpec)

/-- ITS FALSE NEIGHBOUR: 'it returns false'. Refute it at one input. -/
def fnExactJoinKindsWrong : ChangeSpec := { name := "fnExactJoinKinds", vars := ["loop.example/g00592/impl.kindJoins"], fn := fun _ => fun
  | [d1, d2, g1] => { results := [.lit (.bool false)], args := [d1, d2], vars := [g1] }
  | _ => none }
def FnExactJoinKindsWrongFalsely : Prop := fnExactJoinKindsRow.holds Tryd.pinned (OpenSpec.ofChange fnExactJoinKindsWrong)

/- THE SECOND FORM. 'bulk': how many values and letters a reading holds, each counted each time it is reached (what is shared counts as often as it is met; a slice's spare places count too). A statement '..UptoSaid' is the law's where the arguments, and the package variables that the reading takes, are together of bulk at most 1048576: NARROWER than '..Said'. Prove '..Said' where nothing that the law and all that it calls make is longer than what came in: it says more and counts as full. Else prove '..UptoSaid'. A law counts once. -/
mutual
def uptoBulk {H : Type} : DataW H → Nat
  | .lit (.string bytes) => bytes.length + 1
  | .lit _ => 1
  | .nil => 1
  | .ptr d => uptoBulk d + 1
  | .slice elems spare => uptoBulkAll elems + uptoBulkAll spare + 1
  | .agg parts => uptoBulkAll parts + 1
  | .iface _ d => uptoBulk d + 1
  | .map entries => uptoBulkEntries entries + 1
  | .held _ => 1
def uptoBulkAll {H : Type} : List (DataW H) → Nat
  | [] => 0
  | d :: r => uptoBulk d + uptoBulkAll r
def uptoBulkEntries {H : Type} : List (Lit × DataW H) → Nat
  | [] => 0
  | x :: r => uptoBulkEntry x + uptoBulkEntries r
def uptoBulkEntry {H : Type} : Lit × DataW H → Nat
  | (.string bytes, d) => bytes.length + uptoBulk d + 1
  | (_, d) => uptoBulk d + 1
 end
def uptoSmall : (H : Type) → List (DataW H) → Bool := fun _ ds => decide (uptoBulkAll ds ≤ 1048576)
def OpenSpec.upto (s : _root_.Go.ChangeSpec) : _root_.Go.OpenSpec := { _root_.Go.OpenSpec.ofChange s with cond := some uptoSmall }

/-- 'laws.FnKinds', WHERE WHAT IT READS IS OF BULK AT MOST 1048576: true; the input reads as it did. -/
def fnKindsUptoRow : OpenClaim := { program := "ytakicpcfghejiaadoor", sum := "3986d498b7879ff1e37fa53523195e9f5102cc73015eacbc2bb777d618946156", func := "loop.example/g00592/laws.FnKinds", spec := "fnKinds", named := ["loop.example/g00592/impl.kindJoins"], apart := false, laid := [("loop.example/g00592/impl.kindJoins", laid_loop_example_g00592_impl_kindJoins)], narrowed := true }
def FnKindsUptoSaid : Prop := fnKindsUptoRow.holds Tryd.pinned (OpenSpec.upto fnKindsSpec)

/-- 'laws.FnExactIsKind', WHERE WHAT IT READS IS OF BULK AT MOST 1048576: true; the input reads as it did. -/
def fnExactIsKindUptoRow : OpenClaim := { program := "ytakicpcfghejiaadoor", sum := "3986d498b7879ff1e37fa53523195e9f5102cc73015eacbc2bb777d618946156", func := "loop.example/g00592/laws.FnExactIsKind", spec := "fnExactIsKind", named := ["loop.example/g00592/impl.kindJoins"], apart := false, laid := [("loop.example/g00592/impl.kindJoins", laid_loop_example_g00592_impl_kindJoins)], narrowed := true }
def FnExactIsKindUptoSaid : Prop := fnExactIsKindUptoRow.holds Tryd.pinned (OpenSpec.upto fnExactIsKindSpec)

/-- 'laws.FnExactIsWithin', WHERE WHAT IT READS IS OF BULK AT MOST 1048576: true; the input reads as it did. -/
def fnExactIsWithinUptoRow : OpenClaim := { program := "ytakicpcfghejiaadoor", sum := "3986d498b7879ff1e37fa53523195e9f5102cc73015eacbc2bb777d618946156", func := "loop.example/g00592/laws.FnExactIsWithin", spec := "fnExactIsWithin", named := ["loop.example/g00592/impl.kindJoins"], apart := false, laid := [("loop.example/g00592/impl.kindJoins", laid_loop_example_g00592_impl_kindJoins)], narrowed := true }
def FnExactIsWithinUptoSaid : Prop := fnExactIsWithinUptoRow.holds Tryd.pinned (OpenSpec.upto fnExactIsWithinSpec)

/-- 'laws.FnExactJoinKinds', WHERE WHAT IT READS IS OF BULK AT MOST 1048576: true; the input reads as it did. -/
def fnExactJoinKindsUptoRow : OpenClaim := { program := "ytakicpcfghejiaadoor", sum := "3986d498b7879ff1e37fa53523195e9f5102cc73015eacbc2bb777d618946156", func := "loop.example/g00592/laws.FnExactJoinKinds", spec := "fnExactJoinKinds", named := ["loop.example/g00592/impl.kindJoins"], apart := false, laid := [("loop.example/g00592/impl.kindJoins", laid_loop_example_g00592_impl_kindJoins)], narrowed := true }
def FnExactJoinKindsUptoSaid : Prop := fnExactJoinKindsUptoRow.holds Tryd.pinned (OpenSpec.upto fnExactJoinKindsSpec)

end Rows
end Go.Proofs.YtakicpcfghejiaaDoor
