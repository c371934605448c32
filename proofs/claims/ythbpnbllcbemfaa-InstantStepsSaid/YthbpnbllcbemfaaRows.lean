/-
  No cell of these rows narrows 'for every input' (looked for: loops, veiled, ifaces, maps, wideKeys, modest, calm, conditions, laid).
  DERIVED. THE GIVEN ROWS OF THIS SEAT. 12 by the template 'for every input the law returns true; each argument reads behind the call as it read before'; 0 by the template 'total and deterministic' (their statements: YthbpnbllcbemfaaTotals.lean).
  GIVEN WITH THE SEED: the statements are not yours to turn. If you find one false, say at which input.
  Laid BY PROGRAM, IN A SANDBOX (cutbox-rows.mjs): the forced cells as the released guide's own fill.sh prints them over the translation c602aae857798375… (all of the seat's roots in one cut). By AI agents, Wed Nov 11 2026. No macro, syntax, notation, axiom, sorry.
-/
import Derived.Test.YthbpnbllcbemfaaChecked
import GoSem.Claim
import GoSem.ClaimJoined
import GoSem.ClaimMapViews
import Derived.JoinedTies
import Derived.KernelRfl
namespace Go.Proofs.Ythbpnbllcbemfaa
/- THE CELL 'sum', in the pinned program and in every row, IS THE sha256 OF THE DUMP (.gsa) THAT YthbpnbllcbemfaaProg.lean LOADS. Nothing in Lean hashes anything: it is a label: what it is worth is what the hold of that sum in a sandbox is worth. -/
noncomputable def Try.pinned : Pinned := { name := "ythbpnbllcbemfaa", sum := "c602aae85779837538f5c5ab4d002a951e8b9a8185a1ab628d83aa15bb20b1a4", checked := Try.checked }
namespace Rows
def none {H : Type} : Left H := { results := [], args := [] }

/-- 'crannoglaw01.OctetPuts': WHATEVER THE INPUT: true; the input reads as it did. -/
def octetPutsSpec : ChangeSpec := { name := "octetPuts", fn := fun _ => fun
  | [d1, d2, d3, d4] => { results := [.lit (.bool true)], args := [d1, d2, d3, d4] }
  | _ => none }
def octetPutsRow : OpenClaim := { program := "ythbpnbllcbemfaa", sum := "c602aae85779837538f5c5ab4d002a951e8b9a8185a1ab628d83aa15bb20b1a4", func := "crannog/crannoglaw01.OctetPuts", spec := "octetPuts", unfollowed := true, recurses := true, apart := false }
def OctetPutsSaid : Prop := octetPutsRow.holds Try.pinned (OpenSpec.ofChange octetPutsSpec)

/-- ITS FALSE NEIGHBOUR: 'it returns false'. Refute it at one input. -/
def octetPutsWrong : ChangeSpec := { name := "octetPuts", fn := fun _ => fun
  | [d1, d2, d3, d4] => { results := [.lit (.bool false)], args := [d1, d2, d3, d4] }
  | _ => none }
def OctetPutsWrongFalsely : Prop := octetPutsRow.holds Try.pinned (OpenSpec.ofChange octetPutsWrong)

/-- 'crannoglaw01.OctetReads': WHATEVER THE INPUT: true; the input reads as it did. -/
def octetReadsSpec : ChangeSpec := { name := "octetReads", fn := fun _ => fun
  | [d1, d2] => { results := [.lit (.bool true)], args := [d1, d2] }
  | _ => none }
def octetReadsRow : OpenClaim := { program := "ythbpnbllcbemfaa", sum := "c602aae85779837538f5c5ab4d002a951e8b9a8185a1ab628d83aa15bb20b1a4", func := "crannog/crannoglaw01.OctetReads", spec := "octetReads", unfollowed := true, recurses := true, apart := false }
def OctetReadsSaid : Prop := octetReadsRow.holds Try.pinned (OpenSpec.ofChange octetReadsSpec)

/-- ITS FALSE NEIGHBOUR: 'it returns false'. Refute it at one input. -/
def octetReadsWrong : ChangeSpec := { name := "octetReads", fn := fun _ => fun
  | [d1, d2] => { results := [.lit (.bool false)], args := [d1, d2] }
  | _ => none }
def OctetReadsWrongFalsely : Prop := octetReadsRow.holds Try.pinned (OpenSpec.ofChange octetReadsWrong)

/-- 'crannoglaw01.OctetBack': WHATEVER THE INPUT: true; the input reads as it did. -/
def octetBackSpec : ChangeSpec := { name := "octetBack", fn := fun _ => fun
  | [d1, d2, d3] => { results := [.lit (.bool true)], args := [d1, d2, d3] }
  | _ => none }
def octetBackRow : OpenClaim := { program := "ythbpnbllcbemfaa", sum := "c602aae85779837538f5c5ab4d002a951e8b9a8185a1ab628d83aa15bb20b1a4", func := "crannog/crannoglaw01.OctetBack", spec := "octetBack", unfollowed := true, recurses := true, apart := false }
def OctetBackSaid : Prop := octetBackRow.holds Try.pinned (OpenSpec.ofChange octetBackSpec)

/-- ITS FALSE NEIGHBOUR: 'it returns false'. Refute it at one input. -/
def octetBackWrong : ChangeSpec := { name := "octetBack", fn := fun _ => fun
  | [d1, d2, d3] => { results := [.lit (.bool false)], args := [d1, d2, d3] }
  | _ => none }
def OctetBackWrongFalsely : Prop := octetBackRow.holds Try.pinned (OpenSpec.ofChange octetBackWrong)

/-- 'crannoglaw01.OctetOrder': WHATEVER THE INPUT: true; the input reads as it did. -/
def octetOrderSpec : ChangeSpec := { name := "octetOrder", fn := fun _ => fun
  | [d1, d2, d3] => { results := [.lit (.bool true)], args := [d1, d2, d3] }
  | _ => none }
def octetOrderRow : OpenClaim := { program := "ythbpnbllcbemfaa", sum := "c602aae85779837538f5c5ab4d002a951e8b9a8185a1ab628d83aa15bb20b1a4", func := "crannog/crannoglaw01.OctetOrder", spec := "octetOrder", inPlace := ["internal/bytealg.Compare"], unfollowed := true, recurses := true, apart := false }
def OctetOrderSaid : Prop := octetOrderRow.holds Try.pinned (OpenSpec.ofChange octetOrderSpec)

/-- ITS FALSE NEIGHBOUR: 'it returns false'. Refute it at one input. -/
def octetOrderWrong : ChangeSpec := { name := "octetOrder", fn := fun _ => fun
  | [d1, d2, d3] => { results := [.lit (.bool false)], args := [d1, d2, d3] }
  | _ => none }
def OctetOrderWrongFalsely : Prop := octetOrderRow.holds Try.pinned (OpenSpec.ofChange octetOrderWrong)

/-- 'crannoglaw01.OctetTexts': WHATEVER THE INPUT: true; the input reads as it did. -/
def octetTextsSpec : ChangeSpec := { name := "octetTexts", fn := fun _ => fun
  | [d1, d2] => { results := [.lit (.bool true)], args := [d1, d2] }
  | _ => none }
def octetTextsRow : OpenClaim := { program := "ythbpnbllcbemfaa", sum := "c602aae85779837538f5c5ab4d002a951e8b9a8185a1ab628d83aa15bb20b1a4", func := "crannog/crannoglaw01.OctetTexts", spec := "octetTexts", unfollowed := true, recurses := true, apart := false }
def OctetTextsSaid : Prop := octetTextsRow.holds Try.pinned (OpenSpec.ofChange octetTextsSpec)

/-- ITS FALSE NEIGHBOUR: 'it returns false'. Refute it at one input. -/
def octetTextsWrong : ChangeSpec := { name := "octetTexts", fn := fun _ => fun
  | [d1, d2] => { results := [.lit (.bool false)], args := [d1, d2] }
  | _ => none }
def OctetTextsWrongFalsely : Prop := octetTextsRow.holds Try.pinned (OpenSpec.ofChange octetTextsWrong)

/-- 'crannoglaw01.OctetLeast': WHATEVER THE INPUT: true; the input reads as it did. -/
def octetLeastSpec : ChangeSpec := { name := "octetLeast", fn := fun _ => fun
  | [d1, d2] => { results := [.lit (.bool true)], args := [d1, d2] }
  | _ => none }
def octetLeastRow : OpenClaim := { program := "ythbpnbllcbemfaa", sum := "c602aae85779837538f5c5ab4d002a951e8b9a8185a1ab628d83aa15bb20b1a4", func := "crannog/crannoglaw01.OctetLeast", spec := "octetLeast", unfollowed := true, recurses := true, apart := false }
def OctetLeastSaid : Prop := octetLeastRow.holds Try.pinned (OpenSpec.ofChange octetLeastSpec)

/-- ITS FALSE NEIGHBOUR: 'it returns false'. Refute it at one input. -/
def octetLeastWrong : ChangeSpec := { name := "octetLeast", fn := fun _ => fun
  | [d1, d2] => { results := [.lit (.bool false)], args := [d1, d2] }
  | _ => none }
def OctetLeastWrongFalsely : Prop := octetLeastRow.holds Try.pinned (OpenSpec.ofChange octetLeastWrong)

/-- 'crannoglaw01.OctetNobody': WHATEVER THE INPUT: true; the input reads as it did. -/
def octetNobodySpec : ChangeSpec := { name := "octetNobody", fn := fun _ => fun
  | [d1, d2] => { results := [.lit (.bool true)], args := [d1, d2] }
  | _ => none }
def octetNobodyRow : OpenClaim := { program := "ythbpnbllcbemfaa", sum := "c602aae85779837538f5c5ab4d002a951e8b9a8185a1ab628d83aa15bb20b1a4", func := "crannog/crannoglaw01.OctetNobody", spec := "octetNobody", unfollowed := true, recurses := true, apart := false }
def OctetNobodySaid : Prop := octetNobodyRow.holds Try.pinned (OpenSpec.ofChange octetNobodySpec)

/-- ITS FALSE NEIGHBOUR: 'it returns false'. Refute it at one input. -/
def octetNobodyWrong : ChangeSpec := { name := "octetNobody", fn := fun _ => fun
  | [d1, d2] => { results := [.lit (.bool false)], args := [d1, d2] }
  | _ => none }
def OctetNobodyWrongFalsely : Prop := octetNobodyRow.holds Try.pinned (OpenSpec.ofChange octetNobodyWrong)

/-- 'crannoglaw02.InstantOf': WHATEVER THE INPUT: true; the input reads as it did. -/
def instantOfSpec : ChangeSpec := { name := "instantOf", fn := fun _ => fun
  | [d] => { results := [.lit (.bool true)], args := [d] }
  | _ => none }
def instantOfRow : OpenClaim := { program := "ythbpnbllcbemfaa", sum := "c602aae85779837538f5c5ab4d002a951e8b9a8185a1ab628d83aa15bb20b1a4", func := "crannog/crannoglaw02.InstantOf", spec := "instantOf", inPlace := ["math.Float64bits", "math.Float64frombits", "math.archFloor", "math.archTrunc"], apart := false }
def InstantOfSaid : Prop := instantOfRow.holds Try.pinned (OpenSpec.ofChange instantOfSpec)

/-- ITS FALSE NEIGHBOUR: 'it returns false'. Refute it at one input. -/
def instantOfWrong : ChangeSpec := { name := "instantOf", fn := fun _ => fun
  | [d] => { results := [.lit (.bool false)], args := [d] }
  | _ => none }
def InstantOfWrongFalsely : Prop := instantOfRow.holds Try.pinned (OpenSpec.ofChange instantOfWrong)

/-- 'crannoglaw02.InstantTo': WHATEVER THE INPUT: true; the input reads as it did. -/
def instantToSpec : ChangeSpec := { name := "instantTo", fn := fun _ => fun
  | [d] => { results := [.lit (.bool true)], args := [d] }
  | _ => none }
def instantToRow : OpenClaim := { program := "ythbpnbllcbemfaa", sum := "c602aae85779837538f5c5ab4d002a951e8b9a8185a1ab628d83aa15bb20b1a4", func := "crannog/crannoglaw02.InstantTo", spec := "instantTo", inPlace := ["math.Float64frombits", "math.Float64bits", "math.archFloor", "math.archTrunc"], apart := false }
def InstantToSaid : Prop := instantToRow.holds Try.pinned (OpenSpec.ofChange instantToSpec)

/-- ITS FALSE NEIGHBOUR: 'it returns false'. Refute it at one input. -/
def instantToWrong : ChangeSpec := { name := "instantTo", fn := fun _ => fun
  | [d] => { results := [.lit (.bool false)], args := [d] }
  | _ => none }
def InstantToWrongFalsely : Prop := instantToRow.holds Try.pinned (OpenSpec.ofChange instantToWrong)

/-- 'crannoglaw02.InstantSums': WHATEVER THE INPUT: true; the input reads as it did. -/
def instantSumsSpec : ChangeSpec := { name := "instantSums", fn := fun _ => fun
  | [d1, d2] => { results := [.lit (.bool true)], args := [d1, d2] }
  | _ => none }
def instantSumsRow : OpenClaim := { program := "ythbpnbllcbemfaa", sum := "c602aae85779837538f5c5ab4d002a951e8b9a8185a1ab628d83aa15bb20b1a4", func := "crannog/crannoglaw02.InstantSums", spec := "instantSums", inPlace := ["math.Float64frombits", "math.Float64bits", "math.archFloor", "math.archTrunc"], unfollowed := true, recurses := true, apart := false }
def InstantSumsSaid : Prop := instantSumsRow.holds Try.pinned (OpenSpec.ofChange instantSumsSpec)

/-- ITS FALSE NEIGHBOUR: 'it returns false'. Refute it at one input. -/
def instantSumsWrong : ChangeSpec := { name := "instantSums", fn := fun _ => fun
  | [d1, d2] => { results := [.lit (.bool false)], args := [d1, d2] }
  | _ => none }
def InstantSumsWrongFalsely : Prop := instantSumsRow.holds Try.pinned (OpenSpec.ofChange instantSumsWrong)

/-- 'crannoglaw02.InstantSteps': WHATEVER THE INPUT: true; the input reads as it did. -/
def instantStepsSpec : ChangeSpec := { name := "instantSteps", fn := fun _ => fun
  | [d] => { results := [.lit (.bool true)], args := [d] }
  | _ => none }
def instantStepsRow : OpenClaim := { program := "ythbpnbllcbemfaa", sum := "c602aae85779837538f5c5ab4d002a951e8b9a8185a1ab628d83aa15bb20b1a4", func := "crannog/crannoglaw02.InstantSteps", spec := "instantSteps", inPlace := ["math.Float64frombits", "math.Float64bits", "math.archFloor", "math.archTrunc"], apart := false }
def InstantStepsSaid : Prop := instantStepsRow.holds Try.pinned (OpenSpec.ofChange instantStepsSpec)

/-- ITS FALSE NEIGHBOUR: 'it returns false'. Refute it at one input. -/
def instantStepsWrong : ChangeSpec := { name := "instantSteps", fn := fun _ => fun
  | [d] => { results := [.lit (.bool false)], args := [d] }
  | _ => none }
def InstantStepsWrongFalsely : Prop := instantStepsRow.holds Try.pinned (OpenSpec.ofChange instantStepsWrong)

/-- 'crannoglaw02.InstantOrder': WHATEVER THE INPUT: true; the input reads as it did. -/
def instantOrderSpec : ChangeSpec := { name := "instantOrder", fn := fun _ => fun
  | [d1, d2] => { results := [.lit (.bool true)], args := [d1, d2] }
  | _ => none }
def instantOrderRow : OpenClaim := { program := "ythbpnbllcbemfaa", sum := "c602aae85779837538f5c5ab4d002a951e8b9a8185a1ab628d83aa15bb20b1a4", func := "crannog/crannoglaw02.InstantOrder", spec := "instantOrder", inPlace := ["math.Float64bits", "math.Float64frombits", "math.archFloor", "math.archTrunc"], apart := false }
def InstantOrderSaid : Prop := instantOrderRow.holds Try.pinned (OpenSpec.ofChange instantOrderSpec)

/-- ITS FALSE NEIGHBOUR: 'it returns false'. Refute it at one input. -/
def instantOrderWrong : ChangeSpec := { name := "instantOrder", fn := fun _ => fun
  | [d1, d2] => { results := [.lit (.bool false)], args := [d1, d2] }
  | _ => none }
def InstantOrderWrongFalsely : Prop := instantOrderRow.holds Try.pinned (OpenSpec.ofChange instantOrderWrong)

/- THE SECOND FORM. 'bulk': how many values and letters a reading holds, each counted each time it is reached (what is shared counts as often as it is met; a slice's spare places count too). A statement '..UptoSaid' is the law's where the arguments, and the package variables that the reading takes, are together of bulk at most 1048576: NARROWER than '..Said'. Prove '..Said' where nothing that the law and all that it calls make is longer than what came in: it says more and counts as full. Else prove '..UptoSaid'. A law counts once. -/
mutual
def uptoBulk {H : Type} : DataW H → Nat
  | .lit (.string bytes) => bytes.length + 1
  | .lit _ => 1
  | .nil => 1
  | .ptr d => uptoBulk d + 1
  | .slice elems spare => uptoBulkAll elems + uptoBulkAll spare + 1
  | .agg parts => uptoBulkAll parts + 1
  | .iface _ d => uptoBulk d + 1
  | .map entries => uptoBulkEntries entries + 1
  | .held _ => 1
def uptoBulkAll {H : Type} : List (DataW H) → Nat
  | [] => 0
  | d :: r => uptoBulk d + uptoBulkAll r
def uptoBulkEntries {H : Type} : List (Lit × DataW H) → Nat
  | [] => 0
  | x :: r => uptoBulkEntry x + uptoBulkEntries r
def uptoBulkEntry {H : Type} : Lit × DataW H → Nat
  | (.string bytes, d) => bytes.length + uptoBulk d + 1
  | (_, d) => uptoBulk d + 1
 end
def uptoSmall : (H : Type) → List (DataW H) → Bool := fun _ ds => decide (uptoBulkAll ds ≤ 1048576)
def OpenSpec.upto (s : _root_.Go.ChangeSpec) : _root_.Go.OpenSpec := { _root_.Go.OpenSpec.ofChange s with cond := some uptoSmall }

/-- 'crannoglaw01.OctetPuts', WHERE WHAT IT READS IS OF BULK AT MOST 1048576: true; the input reads as it did. -/
def octetPutsUptoRow : OpenClaim := { program := "ythbpnbllcbemfaa", sum := "c602aae85779837538f5c5ab4d002a951e8b9a8185a1ab628d83aa15bb20b1a4", func := "crannog/crannoglaw01.OctetPuts", spec := "octetPuts", unfollowed := true, recurses := true, apart := false, narrowed := true }
def OctetPutsUptoSaid : Prop := octetPutsUptoRow.holds Try.pinned (OpenSpec.upto octetPutsSpec)

/-- 'crannoglaw01.OctetReads', WHERE WHAT IT READS IS OF BULK AT MOST 1048576: true; the input reads as it did. -/
def octetReadsUptoRow : OpenClaim := { program := "ythbpnbllcbemfaa", sum := "c602aae85779837538f5c5ab4d002a951e8b9a8185a1ab628d83aa15bb20b1a4", func := "crannog/crannoglaw01.OctetReads", spec := "octetReads", unfollowed := true, recurses := true, apart := false, narrowed := true }
def OctetReadsUptoSaid : Prop := octetReadsUptoRow.holds Try.pinned (OpenSpec.upto octetReadsSpec)

/-- 'crannoglaw01.OctetBack', WHERE WHAT IT READS IS OF BULK AT MOST 1048576: true; the input reads as it did. -/
def octetBackUptoRow : OpenClaim := { program := "ythbpnbllcbemfaa", sum := "c602aae85779837538f5c5ab4d002a951e8b9a8185a1ab628d83aa15bb20b1a4", func := "crannog/crannoglaw01.OctetBack", spec := "octetBack", unfollowed := true, recurses := true, apart := false, narrowed := true }
def OctetBackUptoSaid : Prop := octetBackUptoRow.holds Try.pinned (OpenSpec.upto octetBackSpec)

/-- 'crannoglaw01.OctetOrder', WHERE WHAT IT READS IS OF BULK AT MOST 1048576: true; the input reads as it did. -/
def octetOrderUptoRow : OpenClaim := { program := "ythbpnbllcbemfaa", sum := "c602aae85779837538f5c5ab4d002a951e8b9a8185a1ab628d83aa15bb20b1a4", func := "crannog/crannoglaw01.OctetOrder", spec := "octetOrder", inPlace := ["internal/bytealg.Compare"], unfollowed := true, recurses := true, apart := false, narrowed := true }
def OctetOrderUptoSaid : Prop := octetOrderUptoRow.holds Try.pinned (OpenSpec.upto octetOrderSpec)

/-- 'crannoglaw01.OctetTexts', WHERE WHAT IT READS IS OF BULK AT MOST 1048576: true; the input reads as it did. -/
def octetTextsUptoRow : OpenClaim := { program := "ythbpnbllcbemfaa", sum := "c602aae85779837538f5c5ab4d002a951e8b9a8185a1ab628d83aa15bb20b1a4", func := "crannog/crannoglaw01.OctetTexts", spec := "octetTexts", unfollowed := true, recurses := true, apart := false, narrowed := true }
def OctetTextsUptoSaid : Prop := octetTextsUptoRow.holds Try.pinned (OpenSpec.upto octetTextsSpec)

/-- 'crannoglaw01.OctetLeast', WHERE WHAT IT READS IS OF BULK AT MOST 1048576: true; the input reads as it did. -/
def octetLeastUptoRow : OpenClaim := { program := "ythbpnbllcbemfaa", sum := "c602aae85779837538f5c5ab4d002a951e8b9a8185a1ab628d83aa15bb20b1a4", func := "crannog/crannoglaw01.OctetLeast", spec := "octetLeast", unfollowed := true, recurses := true, apart := false, narrowed := true }
def OctetLeastUptoSaid : Prop := octetLeastUptoRow.holds Try.pinned (OpenSpec.upto octetLeastSpec)

/-- 'crannoglaw01.OctetNobody', WHERE WHAT IT READS IS OF BULK AT MOST 1048576: true; the input reads as it did. -/
def octetNobodyUptoRow : OpenClaim := { program := "ythbpnbllcbemfaa", sum := "c602aae85779837538f5c5ab4d002a951e8b9a8185a1ab628d83aa15bb20b1a4", func := "crannog/crannoglaw01.OctetNobody", spec := "octetNobody", unfollowed := true, recurses := true, apart := false, narrowed := true }
def OctetNobodyUptoSaid : Prop := octetNobodyUptoRow.holds Try.pinned (OpenSpec.upto octetNobodySpec)

/-- 'crannoglaw02.InstantOf', WHERE WHAT IT READS IS OF BULK AT MOST 1048576: true; the input reads as it did. -/
def instantOfUptoRow : OpenClaim := { program := "ythbpnbllcbemfaa", sum := "c602aae85779837538f5c5ab4d002a951e8b9a8185a1ab628d83aa15bb20b1a4", func := "crannog/crannoglaw02.InstantOf", spec := "instantOf", inPlace := ["math.Float64bits", "math.Float64frombits", "math.archFloor", "math.archTrunc"], apart := false, narrowed := true }
def InstantOfUptoSaid : Prop := instantOfUptoRow.holds Try.pinned (OpenSpec.upto instantOfSpec)

/-- 'crannoglaw02.InstantTo', WHERE WHAT IT READS IS OF BULK AT MOST 1048576: true; the input reads as it did. -/
def instantToUptoRow : OpenClaim := { program := "ythbpnbllcbemfaa", sum := "c602aae85779837538f5c5ab4d002a951e8b9a8185a1ab628d83aa15bb20b1a4", func := "crannog/crannoglaw02.InstantTo", spec := "instantTo", inPlace := ["math.Float64frombits", "math.Float64bits", "math.archFloor", "math.archTrunc"], apart := false, narrowed := true }
def InstantToUptoSaid : Prop := instantToUptoRow.holds Try.pinned (OpenSpec.upto instantToSpec)

/-- 'crannoglaw02.InstantSums', WHERE WHAT IT READS IS OF BULK AT MOST 1048576: true; the input reads as it did. -/
def instantSumsUptoRow : OpenClaim := { program := "ythbpnbllcbemfaa", sum := "c602aae85779837538f5c5ab4d002a951e8b9a8185a1ab628d83aa15bb20b1a4", func := "crannog/crannoglaw02.InstantSums", spec := "instantSums", inPlace := ["math.Float64frombits", "math.Float64bits", "math.archFloor", "math.archTrunc"], unfollowed := true, recurses := true, apart := false, narrowed := true }
def InstantSumsUptoSaid : Prop := instantSumsUptoRow.holds Try.pinned (OpenSpec.upto instantSumsSpec)

/-- 'crannoglaw02.InstantSteps', WHERE WHAT IT READS IS OF BULK AT MOST 1048576: true; the input reads as it did. -/
def instantStepsUptoRow : OpenClaim := { program := "ythbpnbllcbemfaa", sum := "c602aae85779837538f5c5ab4d002a951e8b9a8185a1ab628d83aa15bb20b1a4", func := "crannog/crannoglaw02.InstantSteps", spec := "instantSteps", inPlace := ["math.Float64frombits", "math.Float64bits", "math.archFloor", "math.archTrunc"], apart := false, narrowed := true }
def InstantStepsUptoSaid : Prop := instantStepsUptoRow.holds Try.pinned (OpenSpec.upto instantStepsSpec)

/-- 'crannoglaw02.InstantOrder', WHERE WHAT IT READS IS OF BULK AT MOST 1048576: true; the input reads as it did. -/
def instantOrderUptoRow : OpenClaim := { program := "ythbpnbllcbemfaa", sum := "c602aae85779837538f5c5ab4d002a951e8b9a8185a1ab628d83aa15bb20b1a4", func := "crannog/crannoglaw02.InstantOrder", spec := "instantOrder", inPlace := ["math.Float64bits", "math.Float64frombits", "math.archFloor", "math.archTrunc"], apart := false, narrowed := true }
def InstantOrderUptoSaid : Prop := instantOrderUptoRow.holds Try.pinned (OpenSpec.upto instantOrderSpec)

end Rows
end Go.Proofs.Ythbpnbllcbemfaa
