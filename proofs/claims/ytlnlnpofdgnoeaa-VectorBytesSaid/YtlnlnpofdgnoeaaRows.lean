/-
  No cell of these rows narrows 'for every input' (looked for: loops, veiled, ifaces, maps, wideKeys, modest, calm, conditions, laid).
  DERIVED. THE GIVEN ROWS OF THIS SEAT. 6 by the template 'for every input the law returns true; each argument reads behind the call as it read before'; 0 by the template 'total and deterministic' (their statements: YtlnlnpofdgnoeaaTotals.lean).
  GIVEN WITH THE SEED: the statements are not yours to turn. If you find one false, say at which input.
  Laid BY PROGRAM, IN A SANDBOX (cutbox-rows.mjs): the forced cells as the released guide's own fill.sh prints them over the translation e49dd0cfdee5aa44… (all of the seat's roots in one cut). By AI agents, Wed Nov 11 2026. No macro, syntax, notation, axiom, sorry.
-/
import Derived.Test.YtlnlnpofdgnoeaaChecked
import GoSem.Claim
import GoSem.ClaimJoined
import GoSem.ClaimMapViews
import Derived.JoinedTies
import Derived.KernelRfl
namespace Go.Proofs.Ytlnlnpofdgnoeaa
/- THE CELL 'sum', in the pinned program and in every row, IS THE sha256 OF THE DUMP (.gsa) THAT YtlnlnpofdgnoeaaProg.lean LOADS. Nothing in Lean hashes anything: it is a label: what it is worth is what the hold of that sum in a sandbox is worth. -/
noncomputable def Try.pinned : Pinned := { name := "ytlnlnpofdgnoeaa", sum := "e49dd0cfdee5aa44d2ef8ff9bfa22bf8e957ec8fa5a82b21d1c5bf04307b32c3", checked := Try.checked }
namespace Rows
def none {H : Type} : Left H := { results := [], args := [] }

/-- 'crannoglaw09.VectorStamps': WHATEVER THE INPUT: true; the input reads as it did. -/
def vectorStampsSpec : ChangeSpec := { name := "vectorStamps", fn := fun _ => fun
  | [d1, d2, d3] => { results := [.lit (.bool true)], args := [d1, d2, d3] }
  | _ => none }
def vectorStampsRow : OpenClaim := { program := "ytlnlnpofdgnoeaa", sum := "e49dd0cfdee5aa44d2ef8ff9bfa22bf8e957ec8fa5a82b21d1c5bf04307b32c3", func := "crannog/crannoglaw09.VectorStamps", spec := "vectorStamps", apart := false }
def VectorStampsSaid : Prop := vectorStampsRow.holds Try.pinned (OpenSpec.ofChange vectorStampsSpec)

/-- ITS FALSE NEIGHBOUR: 'it returns false'. Refute it at one input. -/
def vectorStampsWrong : ChangeSpec := { name := "vectorStamps", fn := fun _ => fun
  | [d1, d2, d3] => { results := [.lit (.bool false)], args := [d1, d2, d3] }
  | _ => none }
def VectorStampsWrongFalsely : Prop := vectorStampsRow.holds Try.pinned (OpenSpec.ofChange vectorStampsWrong)

/-- 'crannoglaw09.VectorTwo': WHATEVER THE INPUT: true; the input reads as it did. -/
def vectorTwoSpec : ChangeSpec := { name := "vectorTwo", fn := fun _ => fun
  | [d1, d2] => { results := [.lit (.bool true)], args := [d1, d2] }
  | _ => none }
def vectorTwoRow : OpenClaim := { program := "ytlnlnpofdgnoeaa", sum := "e49dd0cfdee5aa44d2ef8ff9bfa22bf8e957ec8fa5a82b21d1c5bf04307b32c3", func := "crannog/crannoglaw09.VectorTwo", spec := "vectorTwo", apart := false }
def VectorTwoSaid : Prop := vectorTwoRow.holds Try.pinned (OpenSpec.ofChange vectorTwoSpec)

/-- ITS FALSE NEIGHBOUR: 'it returns false'. Refute it at one input. -/
def vectorTwoWrong : ChangeSpec := { name := "vectorTwo", fn := fun _ => fun
  | [d1, d2] => { results := [.lit (.bool false)], args := [d1, d2] }
  | _ => none }
def VectorTwoWrongFalsely : Prop := vectorTwoRow.holds Try.pinned (OpenSpec.ofChange vectorTwoWrong)

/-- 'crannoglaw09.VectorNext': WHATEVER THE INPUT: true; the input reads as it did. -/
def vectorNextSpec : ChangeSpec := { name := "vectorNext", fn := fun _ => fun
  | [d1, d2] => { results := [.lit (.bool true)], args := [d1, d2] }
  | _ => none }
def vectorNextRow : OpenClaim := { program := "ytlnlnpofdgnoeaa", sum := "e49dd0cfdee5aa44d2ef8ff9bfa22bf8e957ec8fa5a82b21d1c5bf04307b32c3", func := "crannog/crannoglaw09.VectorNext", spec := "vectorNext", apart := false }
def VectorNextSaid : Prop := vectorNextRow.holds Try.pinned (OpenSpec.ofChange vectorNextSpec)

/-- ITS FALSE NEIGHBOUR: 'it returns false'. Refute it at one input. -/
def vectorNextWrong : ChangeSpec := { name := "vectorNext", fn := fun _ => fun
  | [d1, d2] => { results := [.lit (.bool false)], args := [d1, d2] }
  | _ => none }
def VectorNextWrongFalsely : Prop := vectorNextRow.holds Try.pinned (OpenSpec.ofChange vectorNextWrong)

/-- 'crannoglaw09.VectorBytes': WHATEVER THE INPUT: true; the input reads as it did. -/
def vectorBytesSpec : ChangeSpec := { name := "vectorBytes", fn := fun _ => fun
  | [d1, d2, d3, d4] => { results := [.lit (.bool true)], args := [d1, d2, d3, d4] }
  | _ => none }
def vectorBytesRow : OpenClaim := { program := "ytlnlnpofdgnoeaa", sum := "e49dd0cfdee5aa44d2ef8ff9bfa22bf8e957ec8fa5a82b21d1c5bf04307b32c3", func := "crannog/crannoglaw09.VectorBytes", spec := "vectorBytes", unfollowed := true, recurses := true, apart := false }
def VectorBytesSaid : Prop := vectorBytesRow.holds Try.pinned (OpenSpec.ofChange vectorBytesSpec)

/-- ITS FALSE NEIGHBOUR: 'it returns false'. Refute it at one input. -/
def vectorBytesWrong : ChangeSpec := { name := "vectorBytes", fn := fun _ => fun
  | [d1, d2, d3, d4] => { results := [.lit (.bool false)], args := [d1, d2, d3, d4] }
  | _ => none }
def VectorBytesWrongFalsely : Prop := vectorBytesRow.holds Try.pinned (OpenSpec.ofChange vectorBytesWrong)

/-- 'crannoglaw09.VectorOrder': WHATEVER THE INPUT: true; the input reads as it did. -/
def vectorOrderSpec : ChangeSpec := { name := "vectorOrder", fn := fun _ => fun
  | [d1, d2, d3] => { results := [.lit (.bool true)], args := [d1, d2, d3] }
  | _ => none }
def vectorOrderRow : OpenClaim := { program := "ytlnlnpofdgnoeaa", sum := "e49dd0cfdee5aa44d2ef8ff9bfa22bf8e957ec8fa5a82b21d1c5bf04307b32c3", func := "crannog/crannoglaw09.VectorOrder", spec := "vectorOrder", inPlace := ["internal/bytealg.Compare"], unfollowed := true, recurses := true, apart := false }
def VectorOrderSaid : Prop := vectorOrderRow.holds Try.pinned (OpenSpec.ofChange vectorOrderSpec)

/-- ITS FALSE NEIGHBOUR: 'it returns false'. Refute it at one input. -/
def vectorOrderWrong : ChangeSpec := { name := "vectorOrder", fn := fun _ => fun
  | [d1, d2, d3] => { results := [.lit (.bool false)], args := [d1, d2, d3] }
  | _ => none }
def VectorOrderWrongFalsely : Prop := vectorOrderRow.holds Try.pinned (OpenSpec.ofChange vectorOrderWrong)

/-- 'crannoglaw09.VectorJoined': WHATEVER THE INPUT: true; the input reads as it did. -/
def vectorJoinedSpec : ChangeSpec := { name := "vectorJoined", fn := fun _ => fun
  | [d1, d2, d3] => { results := [.lit (.bool true)], args := [d1, d2, d3] }
  | _ => none }
def vectorJoinedRow : OpenClaim := { program := "ytlnlnpofdgnoeaa", sum := "e49dd0cfdee5aa44d2ef8ff9bfa22bf8e957ec8fa5a82b21d1c5bf04307b32c3", func := "crannog/crannoglaw09.VectorJoined", spec := "vectorJoined", apart := false }
def VectorJoinedSaid : Prop := vectorJoinedRow.holds Try.pinned (OpenSpec.ofChange vectorJoinedSpec)

/-- ITS FALSE NEIGHBOUR: 'it returns false'. Refute it at one input. -/
def vectorJoinedWrong : ChangeSpec := { name := "vectorJoined", fn := fun _ => fun
  | [d1, d2, d3] => { results := [.lit (.bool false)], args := [d1, d2, d3] }
  | _ => none }
def VectorJoinedWrongFalsely : Prop := vectorJoinedRow.holds Try.pinned (OpenSpec.ofChange vectorJoinedWrong)

/- THE SECOND FORM. 'bulk': how many values and letters a reading holds, each counted each time it is reached (what is shared counts as often as it is met; a slice's spare places count too). A statement '..UptoSaid' is the law's where the arguments, and the package variables that the reading takes, are together of bulk at most 1048576: NARROWER than '..Said'. Prove '..Said' where nothing that the law and all that it calls make is longer than what came in: it says more and counts as full. Else prove '..UptoSaid'. A law counts once. -/
mutual
def uptoBulk {H : Type} : DataW H → Nat
  | .lit (.string bytes) => bytes.length + 1
  | .lit _ => 1
  | .nil => 1
  | .ptr d => uptoBulk d + 1
  | .slice elems spare => uptoBulkAll elems + uptoBulkAll spare + 1
  | .agg parts => uptoBulkAll parts + 1
  | .iface _ d => uptoBulk d + 1
  | .map entries => uptoBulkEntries entries + 1
  | .held _ => 1
def uptoBulkAll {H : Type} : List (DataW H) → Nat
  | [] => 0
  | d :: r => uptoBulk d + uptoBulkAll r
def uptoBulkEntries {H : Type} : List (Lit × DataW H) → Nat
  | [] => 0
  | x :: r => uptoBulkEntry x + uptoBulkEntries r
def uptoBulkEntry {H : Type} : Lit × DataW H → Nat
  | (.string bytes, d) => bytes.length + uptoBulk d + 1
  | (_, d) => uptoBulk d + 1
 end
def uptoSmall : (H : Type) → List (DataW H) → Bool := fun _ ds => decide (uptoBulkAll ds ≤ 1048576)
def OpenSpec.upto (s : _root_.Go.ChangeSpec) : _root_.Go.OpenSpec := { _root_.Go.OpenSpec.ofChange s with cond := some uptoSmall }

/-- 'crannoglaw09.VectorStamps', WHERE WHAT IT READS IS OF BULK AT MOST 1048576: true; the input reads as it did. -/
def vectorStampsUptoRow : OpenClaim := { program := "ytlnlnpofdgnoeaa", sum := "e49dd0cfdee5aa44d2ef8ff9bfa22bf8e957ec8fa5a82b21d1c5bf04307b32c3", func := "crannog/crannoglaw09.VectorStamps", spec := "vectorStamps", apart := false, narrowed := true }
def VectorStampsUptoSaid : Prop := vectorStampsUptoRow.holds Try.pinned (OpenSpec.upto vectorStampsSpec)

/-- 'crannoglaw09.VectorTwo', WHERE WHAT IT READS IS OF BULK AT MOST 1048576: true; the input reads as it did. -/
def vectorTwoUptoRow : OpenClaim := { program := "ytlnlnpofdgnoeaa", sum := "e49dd0cfdee5aa44d2ef8ff9bfa22bf8e957ec8fa5a82b21d1c5bf04307b32c3", func := "crannog/crannoglaw09.VectorTwo", spec := "vectorTwo", apart := false, narrowed := true }
def VectorTwoUptoSaid : Prop := vectorTwoUptoRow.holds Try.pinned (OpenSpec.upto vectorTwoSpec)

/-- 'crannoglaw09.VectorNext', WHERE WHAT IT READS IS OF BULK AT MOST 1048576: true; the input reads as it did. -/
def vectorNextUptoRow : OpenClaim := { program := "ytlnlnpofdgnoeaa", sum := "e49dd0cfdee5aa44d2ef8ff9bfa22bf8e957ec8fa5a82b21d1c5bf04307b32c3", func := "crannog/crannoglaw09.VectorNext", spec := "vectorNext", apart := false, narrowed := true }
def VectorNextUptoSaid : Prop := vectorNextUptoRow.holds Try.pinned (OpenSpec.upto vectorNextSpec)

/-- 'crannoglaw09.VectorBytes', WHERE WHAT IT READS IS OF BULK AT MOST 1048576: true; the input reads as it did. -/
def vectorBytesUptoRow : OpenClaim := { program := "ytlnlnpofdgnoeaa", sum := "e49dd0cfdee5aa44d2ef8ff9bfa22bf8e957ec8fa5a82b21d1c5bf04307b32c3", func := "crannog/crannoglaw09.VectorBytes", spec := "vectorBytes", unfollowed := true, recurses := true, apart := false, narrowed := true }
def VectorBytesUptoSaid : Prop := vectorBytesUptoRow.holds Try.pinned (OpenSpec.upto vectorBytesSpec)

/-- 'crannoglaw09.VectorOrder', WHERE WHAT IT READS IS OF BULK AT MOST 1048576: true; the input reads as it did. -/
def vectorOrderUptoRow : OpenClaim := { program := "ytlnlnpofdgnoeaa", sum := "e49dd0cfdee5aa44d2ef8ff9bfa22bf8e957ec8fa5a82b21d1c5bf04307b32c3", func := "crannog/crannoglaw09.VectorOrder", spec := "vectorOrder", inPlace := ["internal/bytealg.Compare"], unfollowed := true, recurses := true, apart := false, narrowed := true }
def VectorOrderUptoSaid : Prop := vectorOrderUptoRow.holds Try.pinned (OpenSpec.upto vectorOrderSpec)

/-- 'crannoglaw09.VectorJoined', WHERE WHAT IT READS IS OF BULK AT MOST 1048576: true; the input reads as it did. -/
def vectorJoinedUptoRow : OpenClaim := { program := "ytlnlnpofdgnoeaa", sum := "e49dd0cfdee5aa44d2ef8ff9bfa22bf8e957ec8fa5a82b21d1c5bf04307b32c3", func := "crannog/crannoglaw09.VectorJoined", spec := "vectorJoined", apart := false, narrowed := true }
def VectorJoinedUptoSaid : Prop := vectorJoinedUptoRow.holds Try.pinned (OpenSpec.upto vectorJoinedSpec)

end Rows
end Go.Proofs.Ytlnlnpofdgnoeaa
