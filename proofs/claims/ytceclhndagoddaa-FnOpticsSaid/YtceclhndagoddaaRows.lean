/-
  NARROWER THAN 'FOR EVERY INPUT', by the rows' own cells (each row's printed sentence says how): FnExactSizeOf: loops · FnExactDepthOf: loops · FnExactIsOptic: loops · FnExactEqualOptic: loops.
  DERIVED. THE GIVEN ROWS OF THIS SEAT. 6 by the template 'for every input the law returns true; each argument reads behind the call as it read before'; 0 by the template 'total and deterministic' (their statements: YtceclhndagoddaaTotals.lean).
  GIVEN WITH THE SEED: the statements are not yours to turn. If you find one false, say at which input.
  Laid BY PROGRAM, IN A SANDBOX (cutbox-rows.mjs): the forced cells as the released guide's own fill.sh prints them over the translation ca46cac1606a138e… (all of the seat's roots in one cut). By AI agents, Wed Nov 11 2026. No macro, syntax, notation, axiom, sorry.
-/
import Derived.Test.YtceclhndagoddaaChecked
import GoSem.Claim
import GoSem.ClaimJoined
import GoSem.ClaimMapViews
import Derived.JoinedTies
import Derived.KernelRfl
namespace Go.Proofs.Ytceclhndagoddaa
/- THE CELL 'sum', in the pinned program and in every row, IS THE sha256 OF THE DUMP (.gsa) THAT YtceclhndagoddaaProg.lean LOADS. Nothing in Lean hashes anything: it is a label: what it is worth is what the hold of that sum in a sandbox is worth. -/
noncomputable def Try.pinned : Pinned := { name := "ytceclhndagoddaa", sum := "ca46cac1606a138e0f7ab8ab7e7eec043c2f44da0933ca6d3513560f702d09ff", checked := Try.checked }
namespace Rows
def none {H : Type} : Left H := { results := [], args := [] }

/-- 'laws.FnOptics': WHATEVER THE INPUT: true; the input reads as it did. -/
def fnOpticsSpec : ChangeSpec := { name := "fnOptics", fn := fun _ => fun
  | [d] => { results := [.lit (.bool true)], args := [d] }
  | _ => none }
def fnOpticsRow : OpenClaim := { program := "ytceclhndagoddaa", sum := "ca46cac1606a138e0f7ab8ab7e7eec043c2f44da0933ca6d3513560f702d09ff", func := "loop.example/g00592/laws.FnOptics", spec := "fnOptics", unfollowed := true, recurses := true, plainKeys := false, apart := false }
def FnOpticsSaid : Prop := fnOpticsRow.holds Try.pinned (OpenSpec.ofChange fnOpticsSpec)

/-- ITS FALSE NEIGHBOUR: 'it returns false'. Refute it at one input. -/
def fnOpticsWrong : ChangeSpec := { name := "fnOptics", fn := fun _ => fun
  | [d] => { results := [.lit (.bool false)], args := [d] }
  | _ => none }
def FnOpticsWrongFalsely : Prop := fnOpticsRow.holds Try.pinned (OpenSpec.ofChange fnOpticsWrong)

/-- 'laws.FnExactArityOf': WHATEVER THE INPUT: true; the input reads as it did. -/
def fnExactArityOfSpec : ChangeSpec := { name := "fnExactArityOf", fn := fun _ => fun
  | [d] => { results := [.lit (.bool true)], args := [d] }
  | _ => none }
def fnExactArityOfRow : OpenClaim := { program := "ytceclhndagoddaa", sum := "ca46cac1606a138e0f7ab8ab7e7eec043c2f44da0933ca6d3513560f702d09ff", func := "loop.example/g00592/laws.FnExactArityOf", spec := "fnExactArityOf", plainKeys := false, apart := false }
def FnExactArityOfSaid : Prop := fnExactArityOfRow.holds Try.pinned (OpenSpec.ofChange fnExactArityOfSpec)

/-- ITS FALSE NEIGHBOUR: 'it returns false'. Refute it at one input. -/
def fnExactArityOfWrong : ChangeSpec := { name := "fnExactArityOf", fn := fun _ => fun
  | [d] => { results := [.lit (.bool false)], args := [d] }
  | _ => none }
def FnExactArityOfWrongFalsely : Prop := fnExactArityOfRow.holds Try.pinned (OpenSpec.ofChange fnExactArityOfWrong)

/-- 'laws.FnExactSizeOf': WHATEVER THE INPUT: true; the input reads as it did. -/
def fnExactSizeOfSpec : ChangeSpec := { name := "fnExactSizeOf", fn := fun _ => fun
  | [d] => { results := [.lit (.bool true)], args := [d] }
  | _ => none }
def fnExactSizeOfRow : OpenClaim := { program := "ytceclhndagoddaa", sum := "ca46cac1606a138e0f7ab8ab7e7eec043c2f44da0933ca6d3513560f702d09ff", func := "loop.example/g00592/laws.FnExactSizeOf", spec := "fnExactSizeOf", unfollowed := true, recurses := true, loops := true, plainKeys := false, apart := false }
def FnExactSizeOfSaid : Prop := fnExactSizeOfRow.holds Try.pinned (OpenSpec.ofChange fnExactSizeOfSpec)

/-- ITS FALSE NEIGHBOUR: 'it returns false'. Refute it at one input. -/
def fnExactSizeOfWrong : ChangeSpec := { name := "fnExactSizeOf", fn := fun _ => fun
  | [d] => { results := [.lit (.bool false)], args := [d] }
  | _ => none }
def FnExactSizeOfWrongFalsely : Prop := fnExactSizeOfRow.holds Try.pinned (OpenSpec.ofChange fnExactSizeOfWrong)

/-- 'laws.FnExactDepthOf': WHATEVER THE INPUT: true; the input reads as it did. -/
def fnExactDepthOfSpec : ChangeSpec := { name := "fnExactDepthOf", fn := fun _ => fun
  | [d] => { results := [.lit (.bool true)], args := [d] }
  | _ => none }
def fnExactDepthOfRow : OpenClaim := { program := "ytceclhndagoddaa", sum := "ca46cac1606a138e0f7ab8ab7e7eec043c2f44da0933ca6d3513560f702d09ff", func := "loop.example/g00592/laws.FnExactDepthOf", spec := "fnExactDepthOf", unfollowed := true, recurses := true, loops := true, plainKeys := false, apart := false }
def FnExactDepthOfSaid : Prop := fnExactDepthOfRow.holds Try.pinned (OpenSpec.ofChange fnExactDepthOfSpec)

/-- ITS FALSE NEIGHBOUR: 'it returns false'. Refute it at one input. -/
def fnExactDepthOfWrong : ChangeSpec := { name := "fnExactDepthOf", fn := fun _ => fun
  | [d] => { results := [.lit (.bool false)], args := [d] }
  | _ => none }
def FnExactDepthOfWrongFalsely : Prop := fnExactDepthOfRow.holds Try.pinned (OpenSpec.ofChange fnExactDepthOfWrong)

/-- 'laws.FnExactIsOptic': WHATEVER THE INPUT: true; the input reads as it did. -/
def fnExactIsOpticSpec : ChangeSpec := { name := "fnExactIsOptic", fn := fun _ => fun
  | [d] => { results := [.lit (.bool true)], args := [d] }
  | _ => none }
def fnExactIsOpticRow : OpenClaim := { program := "ytceclhndagoddaa", sum := "ca46cac1606a138e0f7ab8ab7e7eec043c2f44da0933ca6d3513560f702d09ff", func := "loop.example/g00592/laws.FnExactIsOptic", spec := "fnExactIsOptic", unfollowed := true, recurses := true, loops := true, plainKeys := false, apart := false }
def FnExactIsOpticSaid : Prop := fnExactIsOpticRow.holds Try.pinned (OpenSpec.ofChange fnExactIsOpticSpec)

/-- ITS FALSE NEIGHBOUR: 'it returns false'. Refute it at one input. -/
def fnExactIsOpticWrong : ChangeSpec := { name := "fnExactIsOptic", fn := fun _ => fun
  | [d] => { results := [.lit (.bool false)], args := [d] }
  | _ => none }
def FnExactIsOpticWrongFalsely : Prop := fnExactIsOpticRow.holds Try.pinned (OpenSpec.ofChange fnExactIsOpticWrong)

/-- 'laws.FnExactEqualOptic': WHATEVER THE INPUT: true; the input reads as it did. -/
def fnExactEqualOpticSpec : ChangeSpec := { name := "fnExactEqualOptic", fn := fun _ => fun
  | [d1, d2] => { results := [.lit (.bool true)], args := [d1, d2] }
  | _ => none }
def fnExactEqualOpticRow : OpenClaim := { program := "ytceclhndagoddaa", sum := "ca46cac1606a138e0f7ab8ab7e7eec043c2f44da0933ca6d3513560f702d09ff", func := "loop.example/g00592/laws.FnExactEqualOptic", spec := "fnExactEqualOptic", unfollowed := true, recurses := true, loops := true, plainKeys := false, apart := false }
def FnExactEqualOpticSaid : Prop := fnExactEqualOpticRow.holds Try.pinned (OpenSpec.ofChange fnExactEqualOpticSpec)

/-- ITS FALSE NEIGHBOUR: 'it returns false'. Refute it at one input. -/
def fnExactEqualOpticWrong : ChangeSpec := { name := "fnExactEqualOptic", fn := fun _ => fun
  | [d1, d2] => { results := [.lit (.bool false)], args := [d1, d2] }
  | _ => none }
def FnExactEqualOpticWrongFalsely : Prop := fnExactEqualOpticRow.holds Try.pinned (OpenSpec.ofChange fnExactEqualOpticWrong)

/- THE SECOND FORM. 'bulk': how many values and letters a reading holds, each counted each time it is reached (what is shared counts as often as it is met; a slice's spare places count too). A statement '..UptoSaid' is the law's where the arguments, and the package variables that the reading takes, are together of bulk at most 1048576: NARROWER than '..Said'. Prove '..Said' where nothing that the law and all that it calls make is longer than what came in: it says more and counts as full. Else prove '..UptoSaid'. A law counts once. -/
mutual
def uptoBulk {H : Type} : DataW H → Nat
  | .lit (.string bytes) => bytes.length + 1
  | .lit _ => 1
  | .nil => 1
  | .ptr d => uptoBulk d + 1
  | .slice elems spare => uptoBulkAll elems + uptoBulkAll spare + 1
  | .agg parts => uptoBulkAll parts + 1
  | .iface _ d => uptoBulk d + 1
  | .map entries => uptoBulkEntries entries + 1
  | .held _ => 1
def uptoBulkAll {H : Type} : List (DataW H) → Nat
  | [] => 0
  | d :: r => uptoBulk d + uptoBulkAll r
def uptoBulkEntries {H : Type} : List (Lit × DataW H) → Nat
  | [] => 0
  | x :: r => uptoBulkEntry x + uptoBulkEntries r
def uptoBulkEntry {H : Type} : Lit × DataW H → Nat
  | (.string bytes, d) => bytes.length + uptoBulk d + 1
  | (_, d) => uptoBulk d + 1
 end
def uptoSmall : (H : Type) → List (DataW H) → Bool := fun _ ds => decide (uptoBulkAll ds ≤ 1048576)
def OpenSpec.upto (s : _root_.Go.ChangeSpec) : _root_.Go.OpenSpec := { _root_.Go.OpenSpec.ofChange s with cond := some uptoSmall }

/-- 'laws.FnOptics', WHERE WHAT IT READS IS OF BULK AT MOST 1048576: true; the input reads as it did. -/
def fnOpticsUptoRow : OpenClaim := { program := "ytceclhndagoddaa", sum := "ca46cac1606a138e0f7ab8ab7e7eec043c2f44da0933ca6d3513560f702d09ff", func := "loop.example/g00592/laws.FnOptics", spec := "fnOptics", unfollowed := true, recurses := true, plainKeys := false, apart := false, narrowed := true }
def FnOpticsUptoSaid : Prop := fnOpticsUptoRow.holds Try.pinned (OpenSpec.upto fnOpticsSpec)

/-- 'laws.FnExactArityOf', WHERE WHAT IT READS IS OF BULK AT MOST 1048576: true; the input reads as it did. -/
def fnExactArityOfUptoRow : OpenClaim := { program := "ytceclhndagoddaa", sum := "ca46cac1606a138e0f7ab8ab7e7eec043c2f44da0933ca6d3513560f702d09ff", func := "loop.example/g00592/laws.FnExactArityOf", spec := "fnExactArityOf", plainKeys := false, apart := false, narrowed := true }
def FnExactArityOfUptoSaid : Prop := fnExactArityOfUptoRow.holds Try.pinned (OpenSpec.upto fnExactArityOfSpec)

/-- 'laws.FnExactSizeOf', WHERE WHAT IT READS IS OF BULK AT MOST 1048576: true; the input reads as it did. -/
def fnExactSizeOfUptoRow : OpenClaim := { program := "ytceclhndagoddaa", sum := "ca46cac1606a138e0f7ab8ab7e7eec043c2f44da0933ca6d3513560f702d09ff", func := "loop.example/g00592/laws.FnExactSizeOf", spec := "fnExactSizeOf", unfollowed := true, recurses := true, loops := true, plainKeys := false, apart := false, narrowed := true }
def FnExactSizeOfUptoSaid : Prop := fnExactSizeOfUptoRow.holds Try.pinned (OpenSpec.upto fnExactSizeOfSpec)

/-- 'laws.FnExactDepthOf', WHERE WHAT IT READS IS OF BULK AT MOST 1048576: true; the input reads as it did. -/
def fnExactDepthOfUptoRow : OpenClaim := { program := "ytceclhndagoddaa", sum := "ca46cac1606a138e0f7ab8ab7e7eec043c2f44da0933ca6d3513560f702d09ff", func := "loop.example/g00592/laws.FnExactDepthOf", spec := "fnExactDepthOf", unfollowed := true, recurses := true, loops := true, plainKeys := false, apart := false, narrowed := true }
def FnExactDepthOfUptoSaid : Prop := fnExactDepthOfUptoRow.holds Try.pinned (OpenSpec.upto fnExactDepthOfSpec)

/-- 'laws.FnExactIsOptic', WHERE WHAT IT READS IS OF BULK AT MOST 1048576: true; the input reads as it did. -/
def fnExactIsOpticUptoRow : OpenClaim := { program := "ytceclhndagoddaa", sum := "ca46cac1606a138e0f7ab8ab7e7eec043c2f44da0933ca6d3513560f702d09ff", func := "loop.example/g00592/laws.FnExactIsOptic", spec := "fnExactIsOptic", unfollowed := true, recurses := true, loops := true, plainKeys := false, apart := false, narrowed := true }
def FnExactIsOpticUptoSaid : Prop := fnExactIsOpticUptoRow.holds Try.pinned (OpenSpec.upto fnExactIsOpticSpec)

/-- 'laws.FnExactEqualOptic', WHERE WHAT IT READS IS OF BULK AT MOST 1048576: true; the input reads as it did. -/
def fnExactEqualOpticUptoRow : OpenClaim := { program := "ytceclhndagoddaa", sum := "ca46cac1606a138e0f7ab8ab7e7eec043c2f44da0933ca6d3513560f702d09ff", func := "loop.example/g00592/laws.FnExactEqualOptic", spec := "fnExactEqualOptic", unfollowed := true, recurses := true, loops := true, plainKeys := false, apart := false, narrowed := true }
def FnExactEqualOpticUptoSaid : Prop := fnExactEqualOpticUptoRow.holds Try.pinned (OpenSpec.upto fnExactEqualOpticSpec)

end Rows
end Go.Proofs.Ytceclhndagoddaa
