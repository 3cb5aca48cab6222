/-
  NARROWER THAN 'FOR EVERY INPUT', by the rows' own cells (each row's printed sentence says how): FnExactSizeOfType: loops · FnExactDepthOfType: loops · FnExactIsValidType: loops · FnExactEqualType: loops · FnExactPartType: loops · FnExactIsUniform: loops.
  DERIVED. THE GIVEN ROWS OF THIS SEAT. 10 by the template 'for every input the law returns true; each argument reads behind the call as it read before'; 0 by the template 'total and deterministic' (their statements: YtghipacdhpglcaaTotals.lean).
  GIVEN WITH THE SEED: the statements are not yours to turn. If you find one false, say at which input.
  Laid BY PROGRAM, IN A SANDBOX (cutbox-rows.mjs): the forced cells as the released guide's own fill.sh prints them over the translation 6e423298bb5b791d… (all of the seat's roots in one cut). By AI agents, Wed Nov 11 2026. No macro, syntax, notation, axiom, sorry.
-/
import Derived.Test.YtghipacdhpglcaaChecked
import GoSem.Claim
import GoSem.ClaimJoined
import GoSem.ClaimMapViews
import Derived.JoinedTies
import Derived.KernelRfl
namespace Go.Proofs.Ytghipacdhpglcaa
/- THE CELL 'sum', in the pinned program and in every row, IS THE sha256 OF THE DUMP (.gsa) THAT YtghipacdhpglcaaProg.lean LOADS. Nothing in Lean hashes anything: it is a label: what it is worth is what the hold of that sum in a sandbox is worth. -/
noncomputable def Try.pinned : Pinned := { name := "ytghipacdhpglcaa", sum := "6e423298bb5b791da2c15e2bf9b8336f39ceaf6a217101271e217a2117d858dd", checked := Try.checked }
namespace Rows
def none {H : Type} : Left H := { results := [], args := [] }

/-- 'laws.FnNames': WHATEVER THE INPUT: true; the input reads as it did. -/
def fnNamesSpec : ChangeSpec := { name := "fnNames", fn := fun _ => fun
  | [d] => { results := [.lit (.bool true)], args := [d] }
  | _ => none }
def fnNamesRow : OpenClaim := { program := "ytghipacdhpglcaa", sum := "6e423298bb5b791da2c15e2bf9b8336f39ceaf6a217101271e217a2117d858dd", func := "loop.example/g00592/laws.FnNames", spec := "fnNames", inPlace := ["slices.overlaps[string]"], unfollowed := true, recurses := true, plainKeys := false, apart := false }
def FnNamesSaid : Prop := fnNamesRow.holds Try.pinned (OpenSpec.ofChange fnNamesSpec)

/-- ITS FALSE NEIGHBOUR: 'it returns false'. Refute it at one input. -/
def fnNamesWrong : ChangeSpec := { name := "fnNames", fn := fun _ => fun
  | [d] => { results := [.lit (.bool false)], args := [d] }
  | _ => none }
def FnNamesWrongFalsely : Prop := fnNamesRow.holds Try.pinned (OpenSpec.ofChange fnNamesWrong)

/-- 'laws.FnTypes': WHATEVER THE INPUT: true; the input reads as it did. -/
def fnTypesSpec : ChangeSpec := { name := "fnTypes", fn := fun _ => fun
  | [d] => { results := [.lit (.bool true)], args := [d] }
  | _ => none }
def fnTypesRow : OpenClaim := { program := "ytghipacdhpglcaa", sum := "6e423298bb5b791da2c15e2bf9b8336f39ceaf6a217101271e217a2117d858dd", func := "loop.example/g00592/laws.FnTypes", spec := "fnTypes", unfollowed := true, recurses := true, plainKeys := false, apart := false }
def FnTypesSaid : Prop := fnTypesRow.holds Try.pinned (OpenSpec.ofChange fnTypesSpec)

/-- ITS FALSE NEIGHBOUR: 'it returns false'. Refute it at one input. -/
def fnTypesWrong : ChangeSpec := { name := "fnTypes", fn := fun _ => fun
  | [d] => { results := [.lit (.bool false)], args := [d] }
  | _ => none }
def FnTypesWrongFalsely : Prop := fnTypesRow.holds Try.pinned (OpenSpec.ofChange fnTypesWrong)

/-- 'laws.FnExactInsertName': WHATEVER THE INPUT: true; the input reads as it did. -/
def fnExactInsertNameSpec : ChangeSpec := { name := "fnExactInsertName", fn := fun _ => fun
  | [d1, d2] => { results := [.lit (.bool true)], args := [d1, d2] }
  | _ => none }
def fnExactInsertNameRow : OpenClaim := { program := "ytghipacdhpglcaa", sum := "6e423298bb5b791da2c15e2bf9b8336f39ceaf6a217101271e217a2117d858dd", func := "loop.example/g00592/laws.FnExactInsertName", spec := "fnExactInsertName", inPlace := ["slices.overlaps[string]"], plainKeys := false, apart := false }
def FnExactInsertNameSaid : Prop := fnExactInsertNameRow.holds Try.pinned (OpenSpec.ofChange fnExactInsertNameSpec)

/-- ITS FALSE NEIGHBOUR: 'it returns false'. Refute it at one input. -/
def fnExactInsertNameWrong : ChangeSpec := { name := "fnExactInsertName", fn := fun _ => fun
  | [d1, d2] => { results := [.lit (.bool false)], args := [d1, d2] }
  | _ => none }
def FnExactInsertNameWrongFalsely : Prop := fnExactInsertNameRow.holds Try.pinned (OpenSpec.ofChange fnExactInsertNameWrong)

/-- 'laws.FnExactWithoutName': WHATEVER THE INPUT: true; the input reads as it did. -/
def fnExactWithoutNameSpec : ChangeSpec := { name := "fnExactWithoutName", fn := fun _ => fun
  | [d1, d2] => { results := [.lit (.bool true)], args := [d1, d2] }
  | _ => none }
def fnExactWithoutNameRow : OpenClaim := { program := "ytghipacdhpglcaa", sum := "6e423298bb5b791da2c15e2bf9b8336f39ceaf6a217101271e217a2117d858dd", func := "loop.example/g00592/laws.FnExactWithoutName", spec := "fnExactWithoutName", unfollowed := true, recurses := true, plainKeys := false, apart := false }
def FnExactWithoutNameSaid : Prop := fnExactWithoutNameRow.holds Try.pinned (OpenSpec.ofChange fnExactWithoutNameSpec)

/-- ITS FALSE NEIGHBOUR: 'it returns false'. Refute it at one input. -/
def fnExactWithoutNameWrong : ChangeSpec := { name := "fnExactWithoutName", fn := fun _ => fun
  | [d1, d2] => { results := [.lit (.bool false)], args := [d1, d2] }
  | _ => none }
def FnExactWithoutNameWrongFalsely : Prop := fnExactWithoutNameRow.holds Try.pinned (OpenSpec.ofChange fnExactWithoutNameWrong)

/-- 'laws.FnExactSizeOfType': WHATEVER THE INPUT: true; the input reads as it did. -/
def fnExactSizeOfTypeSpec : ChangeSpec := { name := "fnExactSizeOfType", fn := fun _ => fun
  | [d] => { results := [.lit (.bool true)], args := [d] }
  | _ => none }
def fnExactSizeOfTypeRow : OpenClaim := { program := "ytghipacdhpglcaa", sum := "6e423298bb5b791da2c15e2bf9b8336f39ceaf6a217101271e217a2117d858dd", func := "loop.example/g00592/laws.FnExactSizeOfType", spec := "fnExactSizeOfType", unfollowed := true, recurses := true, loops := true, plainKeys := false, apart := false }
def FnExactSizeOfTypeSaid : Prop := fnExactSizeOfTypeRow.holds Try.pinned (OpenSpec.ofChange fnExactSizeOfTypeSpec)

/-- ITS FALSE NEIGHBOUR: 'it returns false'. Refute it at one input. -/
def fnExactSizeOfTypeWrong : ChangeSpec := { name := "fnExactSizeOfType", fn := fun _ => fun
  | [d] => { results := [.lit (.bool false)], args := [d] }
  | _ => none }
def FnExactSizeOfTypeWrongFalsely : Prop := fnExactSizeOfTypeRow.holds Try.pinned (OpenSpec.ofChange fnExactSizeOfTypeWrong)

/-- 'laws.FnExactDepthOfType': WHATEVER THE INPUT: true; the input reads as it did. -/
def fnExactDepthOfTypeSpec : ChangeSpec := { name := "fnExactDepthOfType", fn := fun _ => fun
  | [d] => { results := [.lit (.bool true)], args := [d] }
  | _ => none }
def fnExactDepthOfTypeRow : OpenClaim := { program := "ytghipacdhpglcaa", sum := "6e423298bb5b791da2c15e2bf9b8336f39ceaf6a217101271e217a2117d858dd", func := "loop.example/g00592/laws.FnExactDepthOfType", spec := "fnExactDepthOfType", unfollowed := true, recurses := true, loops := true, plainKeys := false, apart := false }
def FnExactDepthOfTypeSaid : Prop := fnExactDepthOfTypeRow.holds Try.pinned (OpenSpec.ofChange fnExactDepthOfTypeSpec)

/-- ITS FALSE NEIGHBOUR: 'it returns false'. Refute it at one input. -/
def fnExactDepthOfTypeWrong : ChangeSpec := { name := "fnExactDepthOfType", fn := fun _ => fun
  | [d] => { results := [.lit (.bool false)], args := [d] }
  | _ => none }
def FnExactDepthOfTypeWrongFalsely : Prop := fnExactDepthOfTypeRow.holds Try.pinned (OpenSpec.ofChange fnExactDepthOfTypeWrong)

/-- 'laws.FnExactIsValidType': WHATEVER THE INPUT: true; the input reads as it did. -/
def fnExactIsValidTypeSpec : ChangeSpec := { name := "fnExactIsValidType", fn := fun _ => fun
  | [d] => { results := [.lit (.bool true)], args := [d] }
  | _ => none }
def fnExactIsValidTypeRow : OpenClaim := { program := "ytghipacdhpglcaa", sum := "6e423298bb5b791da2c15e2bf9b8336f39ceaf6a217101271e217a2117d858dd", func := "loop.example/g00592/laws.FnExactIsValidType", spec := "fnExactIsValidType", unfollowed := true, recurses := true, loops := true, plainKeys := false, apart := false }
def FnExactIsValidTypeSaid : Prop := fnExactIsValidTypeRow.holds Try.pinned (OpenSpec.ofChange fnExactIsValidTypeSpec)

/-- ITS FALSE NEIGHBOUR: 'it returns false'. Refute it at one input. -/
def fnExactIsValidTypeWrong : ChangeSpec := { name := "fnExactIsValidType", fn := fun _ => fun
  | [d] => { results := [.lit (.bool false)], args := [d] }
  | _ => none }
def FnExactIsValidTypeWrongFalsely : Prop := fnExactIsValidTypeRow.holds Try.pinned (OpenSpec.ofChange fnExactIsValidTypeWrong)

/-- 'laws.FnExactEqualType': WHATEVER THE INPUT: true; the input reads as it did. -/
def fnExactEqualTypeSpec : ChangeSpec := { name := "fnExactEqualType", fn := fun _ => fun
  | [d1, d2] => { results := [.lit (.bool true)], args := [d1, d2] }
  | _ => none }
def fnExactEqualTypeRow : OpenClaim := { program := "ytghipacdhpglcaa", sum := "6e423298bb5b791da2c15e2bf9b8336f39ceaf6a217101271e217a2117d858dd", func := "loop.example/g00592/laws.FnExactEqualType", spec := "fnExactEqualType", unfollowed := true, recurses := true, loops := true, plainKeys := false, apart := false }
def FnExactEqualTypeSaid : Prop := fnExactEqualTypeRow.holds Try.pinned (OpenSpec.ofChange fnExactEqualTypeSpec)

/-- ITS FALSE NEIGHBOUR: 'it returns false'. Refute it at one input. -/
def fnExactEqualTypeWrong : ChangeSpec := { name := "fnExactEqualType", fn := fun _ => fun
  | [d1, d2] => { results := [.lit (.bool false)], args := [d1, d2] }
  | _ => none }
def FnExactEqualTypeWrongFalsely : Prop := fnExactEqualTypeRow.holds Try.pinned (OpenSpec.ofChange fnExactEqualTypeWrong)

/-- 'laws.FnExactPartType': WHATEVER THE INPUT: true; the input reads as it did. -/
def fnExactPartTypeSpec : ChangeSpec := { name := "fnExactPartType", fn := fun _ => fun
  | [d1, d2] => { results := [.lit (.bool true)], args := [d1, d2] }
  | _ => none }
def fnExactPartTypeRow : OpenClaim := { program := "ytghipacdhpglcaa", sum := "6e423298bb5b791da2c15e2bf9b8336f39ceaf6a217101271e217a2117d858dd", func := "loop.example/g00592/laws.FnExactPartType", spec := "fnExactPartType", unfollowed := true, recurses := true, loops := true, plainKeys := false, apart := false }
def FnExactPartTypeSaid : Prop := fnExactPartTypeRow.holds Try.pinned (OpenSpec.ofChange fnExactPartTypeSpec)

/-- ITS FALSE NEIGHBOUR: 'it returns false'. Refute it at one input. -/
def fnExactPartTypeWrong : ChangeSpec := { name := "fnExactPartType", fn := fun _ => fun
  | [d1, d2] => { results := [.lit (.bool false)], args := [d1, d2] }
  | _ => none }
def FnExactPartTypeWrongFalsely : Prop := fnExactPartTypeRow.holds Try.pinned (OpenSpec.ofChange fnExactPartTypeWrong)

/-- 'laws.FnExactIsUniform': WHATEVER THE INPUT: true; the input reads as it did. -/
def fnExactIsUniformSpec : ChangeSpec := { name := "fnExactIsUniform", fn := fun _ => fun
  | [d] => { results := [.lit (.bool true)], args := [d] }
  | _ => none }
def fnExactIsUniformRow : OpenClaim := { program := "ytghipacdhpglcaa", sum := "6e423298bb5b791da2c15e2bf9b8336f39ceaf6a217101271e217a2117d858dd", func := "loop.example/g00592/laws.FnExactIsUniform", spec := "fnExactIsUniform", unfollowed := true, recurses := true, loops := true, plainKeys := false, apart := false }
def FnExactIsUniformSaid : Prop := fnExactIsUniformRow.holds Try.pinned (OpenSpec.ofChange fnExactIsUniformSpec)

/-- ITS FALSE NEIGHBOUR: 'it returns false'. Refute it at one input. -/
def fnExactIsUniformWrong : ChangeSpec := { name := "fnExactIsUniform", fn := fun _ => fun
  | [d] => { results := [.lit (.bool false)], args := [d] }
  | _ => none }
def FnExactIsUniformWrongFalsely : Prop := fnExactIsUniformRow.holds Try.pinned (OpenSpec.ofChange fnExactIsUniformWrong)

/- THE SECOND FORM. 'bulk': how many values and letters a reading holds, each counted each time it is reached (what is shared counts as often as it is met; a slice's spare places count too). A statement '..UptoSaid' is the law's where the arguments, and the package variables that the reading takes, are together of bulk at most 1048576: NARROWER than '..Said'. Prove '..Said' where nothing that the law and all that it calls make is longer than what came in: it says more and counts as full. Else prove '..UptoSaid'. A law counts once. -/
mutual
def uptoBulk {H : Type} : DataW H → Nat
  | .lit (.string bytes) => bytes.length + 1
  | .lit _ => 1
  | .nil => 1
  | .ptr d => uptoBulk d + 1
  | .slice elems spare => uptoBulkAll elems + uptoBulkAll spare + 1
  | .agg parts => uptoBulkAll parts + 1
  | .iface _ d => uptoBulk d + 1
  | .map entries => uptoBulkEntries entries + 1
  | .held _ => 1
def uptoBulkAll {H : Type} : List (DataW H) → Nat
  | [] => 0
  | d :: r => uptoBulk d + uptoBulkAll r
def uptoBulkEntries {H : Type} : List (Lit × DataW H) → Nat
  | [] => 0
  | x :: r => uptoBulkEntry x + uptoBulkEntries r
def uptoBulkEntry {H : Type} : Lit × DataW H → Nat
  | (.string bytes, d) => bytes.length + uptoBulk d + 1
  | (_, d) => uptoBulk d + 1
 end
def uptoSmall : (H : Type) → List (DataW H) → Bool := fun _ ds => decide (uptoBulkAll ds ≤ 1048576)
def OpenSpec.upto (s : _root_.Go.ChangeSpec) : _root_.Go.OpenSpec := { _root_.Go.OpenSpec.ofChange s with cond := some uptoSmall }

/-- 'laws.FnNames', WHERE WHAT IT READS IS OF BULK AT MOST 1048576: true; the input reads as it did. -/
def fnNamesUptoRow : OpenClaim := { program := "ytghipacdhpglcaa", sum := "6e423298bb5b791da2c15e2bf9b8336f39ceaf6a217101271e217a2117d858dd", func := "loop.example/g00592/laws.FnNames", spec := "fnNames", inPlace := ["slices.overlaps[string]"], unfollowed := true, recurses := true, plainKeys := false, apart := false, narrowed := true }
def FnNamesUptoSaid : Prop := fnNamesUptoRow.holds Try.pinned (OpenSpec.upto fnNamesSpec)

/-- 'laws.FnTypes', WHERE WHAT IT READS IS OF BULK AT MOST 1048576: true; the input reads as it did. -/
def fnTypesUptoRow : OpenClaim := { program := "ytghipacdhpglcaa", sum := "6e423298bb5b791da2c15e2bf9b8336f39ceaf6a217101271e217a2117d858dd", func := "loop.example/g00592/laws.FnTypes", spec := "fnTypes", unfollowed := true, recurses := true, plainKeys := false, apart := false, narrowed := true }
def FnTypesUptoSaid : Prop := fnTypesUptoRow.holds Try.pinned (OpenSpec.upto fnTypesSpec)

/-- 'laws.FnExactInsertName', WHERE WHAT IT READS IS OF BULK AT MOST 1048576: true; the input reads as it did. -/
def fnExactInsertNameUptoRow : OpenClaim := { program := "ytghipacdhpglcaa", sum := "6e423298bb5b791da2c15e2bf9b8336f39ceaf6a217101271e217a2117d858dd", func := "loop.example/g00592/laws.FnExactInsertName", spec := "fnExactInsertName", inPlace := ["slices.overlaps[string]"], plainKeys := false, apart := false, narrowed := true }
def FnExactInsertNameUptoSaid : Prop := fnExactInsertNameUptoRow.holds Try.pinned (OpenSpec.upto fnExactInsertNameSpec)

/-- 'laws.FnExactWithoutName', WHERE WHAT IT READS IS OF BULK AT MOST 1048576: true; the input reads as it did. -/
def fnExactWithoutNameUptoRow : OpenClaim := { program := "ytghipacdhpglcaa", sum := "6e423298bb5b791da2c15e2bf9b8336f39ceaf6a217101271e217a2117d858dd", func := "loop.example/g00592/laws.FnExactWithoutName", spec := "fnExactWithoutName", unfollowed := true, recurses := true, plainKeys := false, apart := false, narrowed := true }
def FnExactWithoutNameUptoSaid : Prop := fnExactWithoutNameUptoRow.holds Try.pinned (OpenSpec.upto fnExactWithoutNameSpec)

/-- 'laws.FnExactSizeOfType', WHERE WHAT IT READS IS OF BULK AT MOST 1048576: true; the input reads as it did. -/
def fnExactSizeOfTypeUptoRow : OpenClaim := { program := "ytghipacdhpglcaa", sum := "6e423298bb5b791da2c15e2bf9b8336f39ceaf6a217101271e217a2117d858dd", func := "loop.example/g00592/laws.FnExactSizeOfType", spec := "fnExactSizeOfType", unfollowed := true, recurses := true, loops := true, plainKeys := false, apart := false, narrowed := true }
def FnExactSizeOfTypeUptoSaid : Prop := fnExactSizeOfTypeUptoRow.holds Try.pinned (OpenSpec.upto fnExactSizeOfTypeSpec)

/-- 'laws.FnExactDepthOfType', WHERE WHAT IT READS IS OF BULK AT MOST 1048576: true; the input reads as it did. -/
def fnExactDepthOfTypeUptoRow : OpenClaim := { program := "ytghipacdhpglcaa", sum := "6e423298bb5b791da2c15e2bf9b8336f39ceaf6a217101271e217a2117d858dd", func := "loop.example/g00592/laws.FnExactDepthOfType", spec := "fnExactDepthOfType", unfollowed := true, recurses := true, loops := true, plainKeys := false, apart := false, narrowed := true }
def FnExactDepthOfTypeUptoSaid : Prop := fnExactDepthOfTypeUptoRow.holds Try.pinned (OpenSpec.upto fnExactDepthOfTypeSpec)

/-- 'laws.FnExactIsValidType', WHERE WHAT IT READS IS OF BULK AT MOST 1048576: true; the input reads as it did. -/
def fnExactIsValidTypeUptoRow : OpenClaim := { program := "ytghipacdhpglcaa", sum := "6e423298bb5b791da2c15e2bf9b8336f39ceaf6a217101271e217a2117d858dd", func := "loop.example/g00592/laws.FnExactIsValidType", spec := "fnExactIsValidType", unfollowed := true, recurses := true, loops := true, plainKeys := false, apart := false, narrowed := true }
def FnExactIsValidTypeUptoSaid : Prop := fnExactIsValidTypeUptoRow.holds Try.pinned (OpenSpec.upto fnExactIsValidTypeSpec)

/-- 'laws.FnExactEqualType', WHERE WHAT IT READS IS OF BULK AT MOST 1048576: true; the input reads as it did. -/
def fnExactEqualTypeUptoRow : OpenClaim := { program := "ytghipacdhpglcaa", sum := "6e423298bb5b791da2c15e2bf9b8336f39ceaf6a217101271e217a2117d858dd", func := "loop.example/g00592/laws.FnExactEqualType", spec := "fnExactEqualType", unfollowed := true, recurses := true, loops := true, plainKeys := false, apart := false, narrowed := true }
def FnExactEqualTypeUptoSaid : Prop := fnExactEqualTypeUptoRow.holds Try.pinned (OpenSpec.upto fnExactEqualTypeSpec)

/-- 'laws.FnExactPartType', WHERE WHAT IT READS IS OF BULK AT MOST 1048576: true; the input reads as it did. -/
def fnExactPartTypeUptoRow : OpenClaim := { program := "ytghipacdhpglcaa", sum := "6e423298bb5b791da2c15e2bf9b8336f39ceaf6a217101271e217a2117d858dd", func := "loop.example/g00592/laws.FnExactPartType", spec := "fnExactPartType", unfollowed := true, recurses := true, loops := true, plainKeys := false, apart := false, narrowed := true }
def FnExactPartTypeUptoSaid : Prop := fnExactPartTypeUptoRow.holds Try.pinned (OpenSpec.upto fnExactPartTypeSpec)

/-- 'laws.FnExactIsUniform', WHERE WHAT IT READS IS OF BULK AT MOST 1048576: true; the input reads as it did. -/
def fnExactIsUniformUptoRow : OpenClaim := { program := "ytghipacdhpglcaa", sum := "6e423298bb5b791da2c15e2bf9b8336f39ceaf6a217101271e217a2117d858dd", func := "loop.example/g00592/laws.FnExactIsUniform", spec := "fnExactIsUniform", unfollowed := true, recurses := true, loops := true, plainKeys := false, apart := false, narrowed := true }
def FnExactIsUniformUptoSaid : Prop := fnExactIsUniformUptoRow.holds Try.pinned (OpenSpec.upto fnExactIsUniformSpec)

end Rows
end Go.Proofs.Ytghipacdhpglcaa
