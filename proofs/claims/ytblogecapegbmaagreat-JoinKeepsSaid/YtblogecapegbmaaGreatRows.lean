/-
  No cell of these rows narrows 'for every input' (looked for: loops, veiled, ifaces, maps, wideKeys, modest, calm, conditions, laid).
  DERIVED. THE GIVEN ROWS OF THIS SEAT. 8 by the template 'for every input the law returns true; each argument reads behind the call as it read before'; 0 by the template 'total and deterministic' (their statements: YtblogecapegbmaaGreatTotals.lean).
  GIVEN WITH THE SEED: the statements are not yours to turn. If you find one false, say at which input.
  Laid BY PROGRAM, IN A SANDBOX (cutbox-rows.mjs): the forced cells as the released guide's own fill.sh prints them over the translation 5a9c428d5789f1a8… (all of the seat's roots in one cut). By AI agents, Wed Nov 11 2026. No macro, syntax, notation, axiom, sorry.
-/
import Derived.Test.YtblogecapegbmaaGreatChecked
import GoSem.Claim
import GoSem.ClaimJoined
import GoSem.ClaimMapViews
import Derived.JoinedTies
import Derived.KernelRfl
namespace Go.Proofs.YtblogecapegbmaaGreat
/- THE CELL 'sum', in the pinned program and in every row, IS THE sha256 OF THE DUMP (.gsa) THAT YtblogecapegbmaaGreatProg.lean LOADS. Nothing in Lean hashes anything: it is a label: what it is worth is what the hold of that sum in a sandbox is worth. -/
noncomputable def Tryz.pinned : Pinned := { name := "ytblogecapegbmaagreat", sum := "5a9c428d5789f1a89cd701a0ee102b07f8fa9b6e7c0068d8075e8c9cb4e777dd", checked := Tryz.checked }
namespace Rows
def none {H : Type} : Left H := { results := [], args := [] }

/-- 'crannoglaw11.JoinStates': WHATEVER THE INPUT: true; the input reads as it did. -/
def joinStatesSpec : ChangeSpec := { name := "joinStates", fn := fun _ => fun
  | [d1, d2] => { results := [.lit (.bool true)], args := [d1, d2] }
  | _ => none }
def joinStatesRow : OpenClaim := { program := "ytblogecapegbmaagreat", sum := "5a9c428d5789f1a89cd701a0ee102b07f8fa9b6e7c0068d8075e8c9cb4e777dd", func := "crannog/crannoglaw11.JoinStates", spec := "joinStates", unfollowed := true, recurses := true, plainKeys := false, apart := false }
def JoinStatesSaid : Prop := joinStatesRow.holds Tryz.pinned (OpenSpec.ofChange joinStatesSpec)

/-- ITS FALSE NEIGHBOUR: 'it returns false'. Refute it at one input. -/
def joinStatesWrong : ChangeSpec := { name := "joinStates", fn := fun _ => fun
  | [d1, d2] => { results := [.lit (.bool false)], args := [d1, d2] }
  | _ => none }
def JoinStatesWrongFalsely : Prop := joinStatesRow.holds Tryz.pinned (OpenSpec.ofChange joinStatesWrong)

/-- 'crannoglaw11.JoinMerges': WHATEVER THE INPUT: true; the input reads as it did. -/
def joinMergesSpec : ChangeSpec := { name := "joinMerges", fn := fun _ => fun
  | [d1, d2] => { results := [.lit (.bool true)], args := [d1, d2] }
  | _ => none }
def joinMergesRow : OpenClaim := { program := "ytblogecapegbmaagreat", sum := "5a9c428d5789f1a89cd701a0ee102b07f8fa9b6e7c0068d8075e8c9cb4e777dd", func := "crannog/crannoglaw11.JoinMerges", spec := "joinMerges", unfollowed := true, recurses := true, plainKeys := false, apart := false }
def JoinMergesSaid : Prop := joinMergesRow.holds Tryz.pinned (OpenSpec.ofChange joinMergesSpec)

/-- ITS FALSE NEIGHBOUR: 'it returns false'. Refute it at one input. -/
def joinMergesWrong : ChangeSpec := { name := "joinMerges", fn := fun _ => fun
  | [d1, d2] => { results := [.lit (.bool false)], args := [d1, d2] }
  | _ => none }
def JoinMergesWrongFalsely : Prop := joinMergesRow.holds Tryz.pinned (OpenSpec.ofChange joinMergesWrong)

/-- 'crannoglaw11.JoinOne': WHATEVER THE INPUT: true; the input reads as it did. -/
def joinOneSpec : ChangeSpec := { name := "joinOne", fn := fun _ => fun
  | [d1, d2, d3] => { results := [.lit (.bool true)], args := [d1, d2, d3] }
  | _ => none }
def joinOneRow : OpenClaim := { program := "ytblogecapegbmaagreat", sum := "5a9c428d5789f1a89cd701a0ee102b07f8fa9b6e7c0068d8075e8c9cb4e777dd", func := "crannog/crannoglaw11.JoinOne", spec := "joinOne", unfollowed := true, recurses := true, plainKeys := false, apart := false }
def JoinOneSaid : Prop := joinOneRow.holds Tryz.pinned (OpenSpec.ofChange joinOneSpec)

/-- ITS FALSE NEIGHBOUR: 'it returns false'. Refute it at one input. -/
def joinOneWrong : ChangeSpec := { name := "joinOne", fn := fun _ => fun
  | [d1, d2, d3] => { results := [.lit (.bool false)], args := [d1, d2, d3] }
  | _ => none }
def JoinOneWrongFalsely : Prop := joinOneRow.holds Tryz.pinned (OpenSpec.ofChange joinOneWrong)

/-- 'crannoglaw11.JoinAll': WHATEVER THE INPUT: true; the input reads as it did. -/
def joinAllSpec : ChangeSpec := { name := "joinAll", fn := fun _ => fun
  | [d1, d2] => { results := [.lit (.bool true)], args := [d1, d2] }
  | _ => none }
def joinAllRow : OpenClaim := { program := "ytblogecapegbmaagreat", sum := "5a9c428d5789f1a89cd701a0ee102b07f8fa9b6e7c0068d8075e8c9cb4e777dd", func := "crannog/crannoglaw11.JoinAll", spec := "joinAll", unfollowed := true, recurses := true, plainKeys := false, apart := false }
def JoinAllSaid : Prop := joinAllRow.holds Tryz.pinned (OpenSpec.ofChange joinAllSpec)

/-- ITS FALSE NEIGHBOUR: 'it returns false'. Refute it at one input. -/
def joinAllWrong : ChangeSpec := { name := "joinAll", fn := fun _ => fun
  | [d1, d2] => { results := [.lit (.bool false)], args := [d1, d2] }
  | _ => none }
def JoinAllWrongFalsely : Prop := joinAllRow.holds Tryz.pinned (OpenSpec.ofChange joinAllWrong)

/-- 'crannoglaw11.JoinKeeps': WHATEVER THE INPUT: true; the input reads as it did. -/
def joinKeepsSpec : ChangeSpec := { name := "joinKeeps", fn := fun _ => fun
  | [d1, d2] => { results := [.lit (.bool true)], args := [d1, d2] }
  | _ => none }
def joinKeepsRow : OpenClaim := { program := "ytblogecapegbmaagreat", sum := "5a9c428d5789f1a89cd701a0ee102b07f8fa9b6e7c0068d8075e8c9cb4e777dd", func := "crannog/crannoglaw11.JoinKeeps", spec := "joinKeeps", unfollowed := true, recurses := true, plainKeys := false, apart := false }
def JoinKeepsSaid : Prop := joinKeepsRow.holds Tryz.pinned (OpenSpec.ofChange joinKeepsSpec)

/-- ITS FALSE NEIGHBOUR: 'it returns false'. Refute it at one input. -/
def joinKeepsWrong : ChangeSpec := { name := "joinKeeps", fn := fun _ => fun
  | [d1, d2] => { results := [.lit (.bool false)], args := [d1, d2] }
  | _ => none }
def JoinKeepsWrongFalsely : Prop := joinKeepsRow.holds Tryz.pinned (OpenSpec.ofChange joinKeepsWrong)

/-- 'crannoglaw22.ModelFolds': WHATEVER THE INPUT: true; the input reads as it did. -/
def modelFoldsSpec : ChangeSpec := { name := "modelFolds", fn := fun _ => fun
  | [d1, d2, d3] => { results := [.lit (.bool true)], args := [d1, d2, d3] }
  | _ => none }
def modelFoldsRow : OpenClaim := { program := "ytblogecapegbmaagreat", sum := "5a9c428d5789f1a89cd701a0ee102b07f8fa9b6e7c0068d8075e8c9cb4e777dd", func := "crannog/crannoglaw22.ModelFolds", spec := "modelFolds", inPlace := ["math.Float64bits"], unfollowed := true, recurses := true, plainKeys := false, apart := false }
def ModelFoldsSaid : Prop := modelFoldsRow.holds Tryz.pinned (OpenSpec.ofChange modelFoldsSpec)

/-- ITS FALSE NEIGHBOUR: 'it returns false'. Refute it at one input. -/
def modelFoldsWrong : ChangeSpec := { name := "modelFolds", fn := fun _ => fun
  | [d1, d2, d3] => { results := [.lit (.bool false)], args := [d1, d2, d3] }
  | _ => none }
def ModelFoldsWrongFalsely : Prop := modelFoldsRow.holds Tryz.pinned (OpenSpec.ofChange modelFoldsWrong)

/-- 'crannoglaw22.ModelOrder': WHATEVER THE INPUT: true; the input reads as it did. -/
def modelOrderSpec : ChangeSpec := { name := "modelOrder", fn := fun _ => fun
  | [d1, d2] => { results := [.lit (.bool true)], args := [d1, d2] }
  | _ => none }
def modelOrderRow : OpenClaim := { program := "ytblogecapegbmaagreat", sum := "5a9c428d5789f1a89cd701a0ee102b07f8fa9b6e7c0068d8075e8c9cb4e777dd", func := "crannog/crannoglaw22.ModelOrder", spec := "modelOrder", inPlace := ["math.Float64bits"], unfollowed := true, recurses := true, plainKeys := false, apart := false }
def ModelOrderSaid : Prop := modelOrderRow.holds Tryz.pinned (OpenSpec.ofChange modelOrderSpec)

/-- ITS FALSE NEIGHBOUR: 'it returns false'. Refute it at one input. -/
def modelOrderWrong : ChangeSpec := { name := "modelOrder", fn := fun _ => fun
  | [d1, d2] => { results := [.lit (.bool false)], args := [d1, d2] }
  | _ => none }
def ModelOrderWrongFalsely : Prop := modelOrderRow.holds Tryz.pinned (OpenSpec.ofChange modelOrderWrong)

/-- 'crannoglaw22.ModelJoined': WHATEVER THE INPUT: true; the input reads as it did. -/
def modelJoinedSpec : ChangeSpec := { name := "modelJoined", fn := fun _ => fun
  | [d1, d2] => { results := [.lit (.bool true)], args := [d1, d2] }
  | _ => none }
def modelJoinedRow : OpenClaim := { program := "ytblogecapegbmaagreat", sum := "5a9c428d5789f1a89cd701a0ee102b07f8fa9b6e7c0068d8075e8c9cb4e777dd", func := "crannog/crannoglaw22.ModelJoined", spec := "modelJoined", inPlace := ["math.Float64bits"], unfollowed := true, recurses := true, plainKeys := false, apart := false }
def ModelJoinedSaid : Prop := modelJoinedRow.holds Tryz.pinned (OpenSpec.ofChange modelJoinedSpec)

/-- ITS FALSE NEIGHBOUR: 'it returns false'. Refute it at one input. -/
def modelJoinedWrong : ChangeSpec := { name := "modelJoined", fn := fun _ => fun
  | [d1, d2] => { results := [.lit (.bool false)], args := [d1, d2] }
  | _ => none }
def ModelJoinedWrongFalsely : Prop := modelJoinedRow.holds Tryz.pinned (OpenSpec.ofChange modelJoinedWrong)

/- THE SECOND FORM. 'bulk': how many values and letters a reading holds, each counted each time it is reached (what is shared counts as often as it is met; a slice's spare places count too). A statement '..UptoSaid' is the law's where the arguments, and the package variables that the reading takes, are together of bulk at most 1048576: NARROWER than '..Said'. Prove '..Said' where nothing that the law and all that it calls make is longer than what came in: it says more and counts as full. Else prove '..UptoSaid'. A law counts once. -/
mutual
def uptoBulk {H : Type} : DataW H → Nat
  | .lit (.string bytes) => bytes.length + 1
  | .lit _ => 1
  | .nil => 1
  | .ptr d => uptoBulk d + 1
  | .slice elems spare => uptoBulkAll elems + uptoBulkAll spare + 1
  | .agg parts => uptoBulkAll parts + 1
  | .iface _ d => uptoBulk d + 1
  | .map entries => uptoBulkEntries entries + 1
  | .held _ => 1
def uptoBulkAll {H : Type} : List (DataW H) → Nat
  | [] => 0
  | d :: r => uptoBulk d + uptoBulkAll r
def uptoBulkEntries {H : Type} : List (Lit × DataW H) → Nat
  | [] => 0
  | x :: r => uptoBulkEntry x + uptoBulkEntries r
def uptoBulkEntry {H : Type} : Lit × DataW H → Nat
  | (.string bytes, d) => bytes.length + uptoBulk d + 1
  | (_, d) => uptoBulk d + 1
 end
def uptoSmall : (H : Type) → List (DataW H) → Bool := fun _ ds => decide (uptoBulkAll ds ≤ 1048576)
def OpenSpec.upto (s : _root_.Go.ChangeSpec) : _root_.Go.OpenSpec := { _root_.Go.OpenSpec.ofChange s with cond := some uptoSmall }

/-- 'crannoglaw11.JoinStates', WHERE WHAT IT READS IS OF BULK AT MOST 1048576: true; the input reads as it did. -/
def joinStatesUptoRow : OpenClaim := { program := "ytblogecapegbmaagreat", sum := "5a9c428d5789f1a89cd701a0ee102b07f8fa9b6e7c0068d8075e8c9cb4e777dd", func := "crannog/crannoglaw11.JoinStates", spec := "joinStates", unfollowed := true, recurses := true, plainKeys := false, apart := false, narrowed := true }
def JoinStatesUptoSaid : Prop := joinStatesUptoRow.holds Tryz.pinned (OpenSpec.upto joinStatesSpec)

/-- 'crannoglaw11.JoinMerges', WHERE WHAT IT READS IS OF BULK AT MOST 1048576: true; the input reads as it did. -/
def joinMergesUptoRow : OpenClaim := { program := "ytblogecapegbmaagreat", sum := "5a9c428d5789f1a89cd701a0ee102b07f8fa9b6e7c0068d8075e8c9cb4e777dd", func := "crannog/crannoglaw11.JoinMerges", spec := "joinMerges", unfollowed := true, recurses := true, plainKeys := false, apart := false, narrowed := true }
def JoinMergesUptoSaid : Prop := joinMergesUptoRow.holds Tryz.pinned (OpenSpec.upto joinMergesSpec)

/-- 'crannoglaw11.JoinOne', WHERE WHAT IT READS IS OF BULK AT MOST 1048576: true; the input reads as it did. -/
def joinOneUptoRow : OpenClaim := { program := "ytblogecapegbmaagreat", sum := "5a9c428d5789f1a89cd701a0ee102b07f8fa9b6e7c0068d8075e8c9cb4e777dd", func := "crannog/crannoglaw11.JoinOne", spec := "joinOne", unfollowed := true, recurses := true, plainKeys := false, apart := false, narrowed := true }
def JoinOneUptoSaid : Prop := joinOneUptoRow.holds Tryz.pinned (OpenSpec.upto joinOneSpec)

/-- 'crannoglaw11.JoinAll', WHERE WHAT IT READS IS OF BULK AT MOST 1048576: true; the input reads as it did. -/
def joinAllUptoRow : OpenClaim := { program := "ytblogecapegbmaagreat", sum := "5a9c428d5789f1a89cd701a0ee102b07f8fa9b6e7c0068d8075e8c9cb4e777dd", func := "crannog/crannoglaw11.JoinAll", spec := "joinAll", unfollowed := true, recurses := true, plainKeys := false, apart := false, narrowed := true }
def JoinAllUptoSaid : Prop := joinAllUptoRow.holds Tryz.pinned (OpenSpec.upto joinAllSpec)

/-- 'crannoglaw11.JoinKeeps', WHERE WHAT IT READS IS OF BULK AT MOST 1048576: true; the input reads as it did. -/
def joinKeepsUptoRow : OpenClaim := { program := "ytblogecapegbmaagreat", sum := "5a9c428d5789f1a89cd701a0ee102b07f8fa9b6e7c0068d8075e8c9cb4e777dd", func := "crannog/crannoglaw11.JoinKeeps", spec := "joinKeeps", unfollowed := true, recurses := true, plainKeys := false, apart := false, narrowed := true }
def JoinKeepsUptoSaid : Prop := joinKeepsUptoRow.holds Tryz.pinned (OpenSpec.upto joinKeepsSpec)

/-- 'crannoglaw22.ModelFolds', WHERE WHAT IT READS IS OF BULK AT MOST 1048576: true; the input reads as it did. -/
def modelFoldsUptoRow : OpenClaim := { program := "ytblogecapegbmaagreat", sum := "5a9c428d5789f1a89cd701a0ee102b07f8fa9b6e7c0068d8075e8c9cb4e777dd", func := "crannog/crannoglaw22.ModelFolds", spec := "modelFolds", inPlace := ["math.Float64bits"], unfollowed := true, recurses := true, plainKeys := false, apart := false, narrowed := true }
def ModelFoldsUptoSaid : Prop := modelFoldsUptoRow.holds Tryz.pinned (OpenSpec.upto modelFoldsSpec)

/-- 'crannoglaw22.ModelOrder', WHERE WHAT IT READS IS OF BULK AT MOST 1048576: true; the input reads as it did. -/
def modelOrderUptoRow : OpenClaim := { program := "ytblogecapegbmaagreat", sum := "5a9c428d5789f1a89cd701a0ee102b07f8fa9b6e7c0068d8075e8c9cb4e777dd", func := "crannog/crannoglaw22.ModelOrder", spec := "modelOrder", inPlace := ["math.Float64bits"], unfollowed := true, recurses := true, plainKeys := false, apart := false, narrowed := true }
def ModelOrderUptoSaid : Prop := modelOrderUptoRow.holds Tryz.pinned (OpenSpec.upto modelOrderSpec)

/-- 'crannoglaw22.ModelJoined', WHERE WHAT IT READS IS OF BULK AT MOST 1048576: true; the input reads as it did. -/
def modelJoinedUptoRow : OpenClaim := { program := "ytblogecapegbmaagreat", sum := "5a9c428d5789f1a89cd701a0ee102b07f8fa9b6e7c0068d8075e8c9cb4e777dd", func := "crannog/crannoglaw22.ModelJoined", spec := "modelJoined", inPlace := ["math.Float64bits"], unfollowed := true, recurses := true, plainKeys := false, apart := false, narrowed := true }
def ModelJoinedUptoSaid : Prop := modelJoinedUptoRow.holds Tryz.pinned (OpenSpec.upto modelJoinedSpec)

end Rows
end Go.Proofs.YtblogecapegbmaaGreat
