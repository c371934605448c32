/-
  No cell of these rows narrows 'for every input' (looked for: loops, veiled, ifaces, maps, wideKeys, modest, calm, conditions, laid).
  DERIVED. THE GIVEN ROWS OF THIS SEAT. 7 by the template 'for every input the law returns true; each argument reads behind the call as it read before'; 0 by the template 'total and deterministic' (their statements: YtdedbbbgpjhjhaaTotals.lean).
  GIVEN WITH THE SEED: the statements are not yours to turn. If you find one false, say at which input.
  Laid BY PROGRAM, IN A SANDBOX (cutbox-rows.mjs): the forced cells as the released guide's own fill.sh prints them over the translation 1dac2931150e68b7… (all of the seat's roots in one cut). By AI agents, Wed Nov 11 2026. No macro, syntax, notation, axiom, sorry.
-/
import Derived.Test.YtdedbbbgpjhjhaaChecked
import GoSem.Claim
import GoSem.ClaimJoined
import GoSem.ClaimMapViews
import Derived.JoinedTies
import Derived.KernelRfl
namespace Go.Proofs.Ytdedbbbgpjhjhaa
/- THE CELL 'sum', in the pinned program and in every row, IS THE sha256 OF THE DUMP (.gsa) THAT YtdedbbbgpjhjhaaProg.lean LOADS. Nothing in Lean hashes anything: it is a label: what it is worth is what the hold of that sum in a sandbox is worth. -/
noncomputable def Try.pinned : Pinned := { name := "ytdedbbbgpjhjhaa", sum := "1dac2931150e68b798bd12d30028d56f46499d0aad28c46bf93cda0e6ed38f25", checked := Try.checked }
namespace Rows
def none {H : Type} : Left H := { results := [], args := [] }

/-- 'crannoglaw01.OctetPuts': WHATEVER THE INPUT: true; the input reads as it did. -/
def octetPutsSpec : ChangeSpec := { name := "octetPuts", fn := fun _ => fun
  | [d1, d2, d3, d4] => { results := [.lit (.bool true)], args := [d1, d2, d3, d4] }
  | _ => none }
def octetPutsRow : OpenClaim := { program := "ytdedbbbgpjhjhaa", sum := "1dac2931150e68b798bd12d30028d56f46499d0aad28c46bf93cda0e6ed38f25", func := "crannog/crannoglaw01.OctetPuts", spec := "octetPuts", unfollowed := true, recurses := true, apart := false }
def OctetPutsSaid : Prop := octetPutsRow.holds Try.pinned (OpenSpec.ofChange octetPutsSpec)

/-- ITS FALSE NEIGHBOUR: 'it returns false'. Refute it at one input. -/
def octetPutsWrong : ChangeSpec := { name := "octetPuts", fn := fun _ => fun
  | [d1, d2, d3, d4] => { results := [.lit (.bool false)], args := [d1, d2, d3, d4] }
  | _ => none }
def OctetPutsWrongFalsely : Prop := octetPutsRow.holds Try.pinned (OpenSpec.ofChange octetPutsWrong)

/-- 'crannoglaw01.OctetReads': WHATEVER THE INPUT: true; the input reads as it did. -/
def octetReadsSpec : ChangeSpec := { name := "octetReads", fn := fun _ => fun
  | [d1, d2] => { results := [.lit (.bool true)], args := [d1, d2] }
  | _ => none }
def octetReadsRow : OpenClaim := { program := "ytdedbbbgpjhjhaa", sum := "1dac2931150e68b798bd12d30028d56f46499d0aad28c46bf93cda0e6ed38f25", func := "crannog/crannoglaw01.OctetReads", spec := "octetReads", unfollowed := true, recurses := true, apart := false }
def OctetReadsSaid : Prop := octetReadsRow.holds Try.pinned (OpenSpec.ofChange octetReadsSpec)

/-- ITS FALSE NEIGHBOUR: 'it returns false'. Refute it at one input. -/
def octetReadsWrong : ChangeSpec := { name := "octetReads", fn := fun _ => fun
  | [d1, d2] => { results := [.lit (.bool false)], args := [d1, d2] }
  | _ => none }
def OctetReadsWrongFalsely : Prop := octetReadsRow.holds Try.pinned (OpenSpec.ofChange octetReadsWrong)

/-- 'crannoglaw01.OctetBack': WHATEVER THE INPUT: true; the input reads as it did. -/
def octetBackSpec : ChangeSpec := { name := "octetBack", fn := fun _ => fun
  | [d1, d2, d3] => { results := [.lit (.bool true)], args := [d1, d2, d3] }
  | _ => none }
def octetBackRow : OpenClaim := { program := "ytdedbbbgpjhjhaa", sum := "1dac2931150e68b798bd12d30028d56f46499d0aad28c46bf93cda0e6ed38f25", func := "crannog/crannoglaw01.OctetBack", spec := "octetBack", unfollowed := true, recurses := true, apart := false }
def OctetBackSaid : Prop := octetBackRow.holds Try.pinned (OpenSpec.ofChange octetBackSpec)

/-- ITS FALSE NEIGHBOUR: 'it returns false'. Refute it at one input. -/
def octetBackWrong : ChangeSpec := { name := "octetBack", fn := fun _ => fun
  | [d1, d2, d3] => { results := [.lit (.bool false)], args := [d1, d2, d3] }
  | _ => none }
def OctetBackWrongFalsely : Prop := octetBackRow.holds Try.pinned (OpenSpec.ofChange octetBackWrong)

/-- 'crannoglaw01.OctetNobody': WHATEVER THE INPUT: true; the input reads as it did. -/
def octetNobodySpec : ChangeSpec := { name := "octetNobody", fn := fun _ => fun
  | [d1, d2] => { results := [.lit (.bool true)], args := [d1, d2] }
  | _ => none }
def octetNobodyRow : OpenClaim := { program := "ytdedbbbgpjhjhaa", sum := "1dac2931150e68b798bd12d30028d56f46499d0aad28c46bf93cda0e6ed38f25", func := "crannog/crannoglaw01.OctetNobody", spec := "octetNobody", unfollowed := true, recurses := true, apart := false }
def OctetNobodySaid : Prop := octetNobodyRow.holds Try.pinned (OpenSpec.ofChange octetNobodySpec)

/-- ITS FALSE NEIGHBOUR: 'it returns false'. Refute it at one input. -/
def octetNobodyWrong : ChangeSpec := { name := "octetNobody", fn := fun _ => fun
  | [d1, d2] => { results := [.lit (.bool false)], args := [d1, d2] }
  | _ => none }
def OctetNobodyWrongFalsely : Prop := octetNobodyRow.holds Try.pinned (OpenSpec.ofChange octetNobodyWrong)

/-- 'crannoglaw02.InstantSums': WHATEVER THE INPUT: true; the input reads as it did. -/
def instantSumsSpec : ChangeSpec := { name := "instantSums", fn := fun _ => fun
  | [d1, d2] => { results := [.lit (.bool true)], args := [d1, d2] }
  | _ => none }
def instantSumsRow : OpenClaim := { program := "ytdedbbbgpjhjhaa", sum := "1dac2931150e68b798bd12d30028d56f46499d0aad28c46bf93cda0e6ed38f25", func := "crannog/crannoglaw02.InstantSums", spec := "instantSums", inPlace := ["math.Float64frombits", "math.Float64bits", "math.archFloor", "math.archTrunc"], unfollowed := true, recurses := true, apart := false }
def InstantSumsSaid : Prop := instantSumsRow.holds Try.pinned (OpenSpec.ofChange instantSumsSpec)

/-- ITS FALSE NEIGHBOUR: 'it returns false'. Refute it at one input. -/
def instantSumsWrong : ChangeSpec := { name := "instantSums", fn := fun _ => fun
  | [d1, d2] => { results := [.lit (.bool false)], args := [d1, d2] }
  | _ => none }
def InstantSumsWrongFalsely : Prop := instantSumsRow.holds Try.pinned (OpenSpec.ofChange instantSumsWrong)

/-- 'crannoglaw02.InstantAdds': WHATEVER THE INPUT: true; the input reads as it did. -/
def instantAddsSpec : ChangeSpec := { name := "instantAdds", fn := fun _ => fun
  | [d1, d2, d3] => { results := [.lit (.bool true)], args := [d1, d2, d3] }
  | _ => none }
def instantAddsRow : OpenClaim := { program := "ytdedbbbgpjhjhaa", sum := "1dac2931150e68b798bd12d30028d56f46499d0aad28c46bf93cda0e6ed38f25", func := "crannog/crannoglaw02.InstantAdds", spec := "instantAdds", inPlace := ["math.Float64frombits", "math.Float64bits", "math.archFloor", "math.archTrunc"], unfollowed := true, recurses := true, apart := false }
def InstantAddsSaid : Prop := instantAddsRow.holds Try.pinned (OpenSpec.ofChange instantAddsSpec)

/-- ITS FALSE NEIGHBOUR: 'it returns false'. Refute it at one input. -/
def instantAddsWrong : ChangeSpec := { name := "instantAdds", fn := fun _ => fun
  | [d1, d2, d3] => { results := [.lit (.bool false)], args := [d1, d2, d3] }
  | _ => none }
def InstantAddsWrongFalsely : Prop := instantAddsRow.holds Try.pinned (OpenSpec.ofChange instantAddsWrong)

/-- 'crannoglaw02.InstantMiddle': WHATEVER THE INPUT: true; the input reads as it did. -/
def instantMiddleSpec : ChangeSpec := { name := "instantMiddle", fn := fun _ => fun
  | [d1, d2] => { results := [.lit (.bool true)], args := [d1, d2] }
  | _ => none }
def instantMiddleRow : OpenClaim := { program := "ytdedbbbgpjhjhaa", sum := "1dac2931150e68b798bd12d30028d56f46499d0aad28c46bf93cda0e6ed38f25", func := "crannog/crannoglaw02.InstantMiddle", spec := "instantMiddle", inPlace := ["math.Float64frombits", "math.Float64bits", "math.archFloor", "math.archTrunc"], unfollowed := true, recurses := true, apart := false }
def InstantMiddleSaid : Prop := instantMiddleRow.holds Try.pinned (OpenSpec.ofChange instantMiddleSpec)

/-- ITS FALSE NEIGHBOUR: 'it returns false'. Refute it at one input. -/
def instantMiddleWrong : ChangeSpec := { name := "instantMiddle", fn := fun _ => fun
  | [d1, d2] => { results := [.lit (.bool false)], args := [d1, d2] }
  | _ => none }
def InstantMiddleWrongFalsely : Prop := instantMiddleRow.holds Try.pinned (OpenSpec.ofChange instantMiddleWrong)

/- THE SECOND FORM. 'bulk': how many values and letters a reading holds, each counted each time it is reached (what is shared counts as often as it is met; a slice's spare places count too). A statement '..UptoSaid' is the law's where the arguments, and the package variables that the reading takes, are together of bulk at most 1048576: NARROWER than '..Said'. Prove '..Said' where nothing that the law and all that it calls make is longer than what came in: it says more and counts as full. Else prove '..UptoSaid'. A law counts once. -/
mutual
def uptoBulk {H : Type} : DataW H → Nat
  | .lit (.string bytes) => bytes.length + 1
  | .lit _ => 1
  | .nil => 1
  | .ptr d => uptoBulk d + 1
  | .slice elems spare => uptoBulkAll elems + uptoBulkAll spare + 1
  | .agg parts => uptoBulkAll parts + 1
  | .iface _ d => uptoBulk d + 1
  | .map entries => uptoBulkEntries entries + 1
  | .held _ => 1
def uptoBulkAll {H : Type} : List (DataW H) → Nat
  | [] => 0
  | d :: r => uptoBulk d + uptoBulkAll r
def uptoBulkEntries {H : Type} : List (Lit × DataW H) → Nat
  | [] => 0
  | x :: r => uptoBulkEntry x + uptoBulkEntries r
def uptoBulkEntry {H : Type} : Lit × DataW H → Nat
  | (.string bytes, d) => bytes.length + uptoBulk d + 1
  | (_, d) => uptoBulk d + 1
 end
def uptoSmall : (H : Type) → List (DataW H) → Bool := fun _ ds => decide (uptoBulkAll ds ≤ 1048576)
def OpenSpec.upto (s : _root_.Go.ChangeSpec) : _root_.Go.OpenSpec := { _root_.Go.OpenSpec.ofChange s with cond := some uptoSmall }

/-- 'crannoglaw01.OctetPuts', WHERE WHAT IT READS IS OF BULK AT MOST 1048576: true; the input reads as it did. -/
def octetPutsUptoRow : OpenClaim := { program := "ytdedbbbgpjhjhaa", sum := "1dac2931150e68b798bd12d30028d56f46499d0aad28c46bf93cda0e6ed38f25", func := "crannog/crannoglaw01.OctetPuts", spec := "octetPuts", unfollowed := true, recurses := true, apart := false, narrowed := true }
def OctetPutsUptoSaid : Prop := octetPutsUptoRow.holds Try.pinned (OpenSpec.upto octetPutsSpec)

/-- 'crannoglaw01.OctetReads', WHERE WHAT IT READS IS OF BULK AT MOST 1048576: true; the input reads as it did. -/
def octetReadsUptoRow : OpenClaim := { program := "ytdedbbbgpjhjhaa", sum := "1dac2931150e68b798bd12d30028d56f46499d0aad28c46bf93cda0e6ed38f25", func := "crannog/crannoglaw01.OctetReads", spec := "octetReads", unfollowed := true, recurses := true, apart := false, narrowed := true }
def OctetReadsUptoSaid : Prop := octetReadsUptoRow.holds Try.pinned (OpenSpec.upto octetReadsSpec)

/-- 'crannoglaw01.OctetBack', WHERE WHAT IT READS IS OF BULK AT MOST 1048576: true; the input reads as it did. -/
def octetBackUptoRow : OpenClaim := { program := "ytdedbbbgpjhjhaa", sum := "1dac2931150e68b798bd12d30028d56f46499d0aad28c46bf93cda0e6ed38f25", func := "crannog/crannoglaw01.OctetBack", spec := "octetBack", unfollowed := true, recurses := true, apart := false, narrowed := true }
def OctetBackUptoSaid : Prop := octetBackUptoRow.holds Try.pinned (OpenSpec.upto octetBackSpec)

/-- 'crannoglaw01.OctetNobody', WHERE WHAT IT READS IS OF BULK AT MOST 1048576: true; the input reads as it did. -/
def octetNobodyUptoRow : OpenClaim := { program := "ytdedbbbgpjhjhaa", sum := "1dac2931150e68b798bd12d30028d56f46499d0aad28c46bf93cda0e6ed38f25", func := "crannog/crannoglaw01.OctetNobody", spec := "octetNobody", unfollowed := true, recurses := true, apart := false, narrowed := true }
def OctetNobodyUptoSaid : Prop := octetNobodyUptoRow.holds Try.pinned (OpenSpec.upto octetNobodySpec)

/-- 'crannoglaw02.InstantSums', WHERE WHAT IT READS IS OF BULK AT MOST 1048576: true; the input reads as it did. -/
def instantSumsUptoRow : OpenClaim := { program := "ytdedbbbgpjhjhaa", sum := "1dac2931150e68b798bd12d30028d56f46499d0aad28c46bf93cda0e6ed38f25", func := "crannog/crannoglaw02.InstantSums", spec := "instantSums", inPlace := ["math.Float64frombits", "math.Float64bits", "math.archFloor", "math.archTrunc"], unfollowed := true, recurses := true, apart := false, narrowed := true }
def InstantSumsUptoSaid : Prop := instantSumsUptoRow.holds Try.pinned (OpenSpec.upto instantSumsSpec)

/-- 'crannoglaw02.InstantAdds', WHERE WHAT IT READS IS OF BULK AT MOST 1048576: true; the input reads as it did. -/
def instantAddsUptoRow : OpenClaim := { program := "ytdedbbbgpjhjhaa", sum := "1dac2931150e68b798bd12d30028d56f46499d0aad28c46bf93cda0e6ed38f25", func := "crannog/crannoglaw02.InstantAdds", spec := "instantAdds", inPlace := ["math.Float64frombits", "math.Float64bits", "math.archFloor", "math.archTrunc"], unfollowed := true, recurses := true, apart := false, narrowed := true }
def InstantAddsUptoSaid : Prop := instantAddsUptoRow.holds Try.pinned (OpenSpec.upto instantAddsSpec)

/-- 'crannoglaw02.InstantMiddle', WHERE WHAT IT READS IS OF BULK AT MOST 1048576: true; the input reads as it did. -/
def instantMiddleUptoRow : OpenClaim := { program := "ytdedbbbgpjhjhaa", sum := "1dac2931150e68b798bd12d30028d56f46499d0aad28c46bf93cda0e6ed38f25", func := "crannog/crannoglaw02.InstantMiddle", spec := "instantMiddle", inPlace := ["math.Float64frombits", "math.Float64bits", "math.archFloor", "math.archTrunc"], unfollowed := true, recurses := true, apart := false, narrowed := true }
def InstantMiddleUptoSaid : Prop := instantMiddleUptoRow.holds Try.pinned (OpenSpec.upto instantMiddleSpec)

end Rows
end Go.Proofs.Ytdedbbbgpjhjhaa
