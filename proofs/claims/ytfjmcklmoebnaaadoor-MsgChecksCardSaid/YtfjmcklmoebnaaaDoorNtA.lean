/- Messages: their cells, whether two are the same, marks. -/
import Derived.Test.YtfjmcklmoebnaaaDoorVcF
import Derived.Deep.WholeRow
import Derived.Deep.MidRow
import Derived.Laws.StructEq
import Derived.ChangeKeysEq
namespace Go.Proofs.YtfjmcklmoebnaaaDoor.Nt
open Go.RowKit Go.Proofs.YtfjmcklmoebnaaaDoor.Mem Go.Proofs.YtfjmcklmoebnaaaDoor.Vc
set_option linter.unusedVariables false

structure MsgP where
  kind : Int
  fr : Int
  to : Int
  vol : Int
  base : Int × Int
  mark : Int × Int
  ix : Int
  tot : Int
  seen : Nat → Int
  data : ByteArray
def msgC (m : MsgP) : Array Value := #[.int .i64 m.kind, .int .i64 m.fr, .int .i64 m.to, .int .i64 m.vol, .int .i64 m.base.1, .int .i64 m.base.2, .int .i64 m.mark.1, .int .i64 m.mark.2, .int .i64 m.ix, .int .i64 m.tot,
  .int .i64 (m.seen 0), .int .i64 (m.seen 1), .int .i64 (m.seen 2), .int .i64 (m.seen 3), .int .i64 (m.seen 4), .int .i64 (m.seen 5), .int .i64 (m.seen 6), .int .i64 (m.seen 7), .string m.data]
def msg0 : MsgP := ⟨0, 0, 0, 0, (0, 0), (0, 0), 0, 0, fun _ => 0, ⟨#[]⟩⟩
theorem msgC_size (m : MsgP) : (msgC m).size = 19 := rfl
theorem msgC_one (m : MsgP) : (msgC m).all (·.oneCell') = true := by simp [msgC, Value.oneCell']
theorem info_msg : (Tryd.prog.info? 27).map (fun i => (i.zero, i.size, i.bytes)) = some (some (.agg (msgC msg0)), 19, 160) := by kernel_rfl
theorem info_size (m : MsgP) : (Tryd.prog.info? 27).map (·.size) = some (msgC m).size := by
  have h := info_msg
  cases hi : Tryd.prog.info? 27 with
  | none => rw [hi] at h; simp at h
  | some i => rw [hi] at h; simp at h; simp [h.2.1, msgC_size]

def markC (k : Int × Int) : Array Value := #[.int .i64 k.1, .int .i64 k.2]
def sameM (x y : MsgP) : Bool := x.kind == y.kind && x.fr == y.fr && x.to == y.to && x.vol == y.vol && (x.base.1 == y.base.1 && x.base.2 == y.base.2) && (x.mark.1 == y.mark.1 && x.mark.2 == y.mark.2) && x.ix == y.ix && x.tot == y.tot && eq8 x.seen y.seen && (x.data.toList == y.data.toList)
theorem toList_eq {a b : ByteArray} (h : a.toList = b.toList) : a = b := by
  have e : a.data = b.data := by
    apply Array.toList_inj.1
    rw [← Go.ByteArray.toList_eq, ← Go.ByteArray.toList_eq, h]
  cases a; cases b; simpa using e
theorem sameM_yes {x y : MsgP} (h : sameM x y = true) : msgC x = msgC y := by
  unfold sameM at h
  simp only [Bool.and_eq_true, beq_iff_eq] at h
  obtain ⟨⟨⟨⟨⟨⟨⟨⟨⟨h0, h1⟩, h2⟩, h3⟩, h4, h5⟩, h6, h7⟩, h8⟩, h9⟩, h10⟩, h11⟩ := h
  have e := eq8_iff.1 h10
  unfold msgC
  rw [h0, h1, h2, h3, h4, h5, h6, h7, h8, h9, toList_eq h11, e 0 (by decide), e 1 (by decide), e 2 (by decide), e 3 (by decide), e 4 (by decide), e 5 (by decide), e 6 (by decide), e 7 (by decide)]
theorem sameM_of {x y : MsgP} (h : msgC x = msgC y) : sameM x y = true := by
  have g : ∀ j : Nat, (msgC x)[j]? = (msgC y)[j]? := fun j => by rw [h]
  have k0 := g 0; have k1 := g 1; have k2 := g 2; have k3 := g 3; have k4 := g 4; have k5 := g 5; have k6 := g 6; have k7 := g 7; have k8 := g 8
  have k9 := g 9; have k10 := g 10; have k11 := g 11; have k12 := g 12; have k13 := g 13; have k14 := g 14; have k15 := g 15; have k16 := g 16
  have k17 := g 17; have k18 := g 18
  simp [msgC] at k0 k1 k2 k3 k4 k5 k6 k7 k8 k9 k10 k11 k12 k13 k14 k15 k16 k17 k18
  have e1 : eq8 x.seen y.seen = true := eq8_iff.2 fun i hi => by
    match i, hi with
    | 0, _ => exact k10
    | 1, _ => exact k11
    | 2, _ => exact k12
    | 3, _ => exact k13
    | 4, _ => exact k14
    | 5, _ => exact k15
    | 6, _ => exact k16
    | 7, _ => exact k17
    | i + 8, hi => omega
  unfold sameM
  rw [e1, k0, k1, k2, k3, k4, k5, k6, k7, k8, k9, k18]
  simp
theorem sameM_iff {x y : MsgP} : sameM x y = true ↔ msgC x = msgC y := ⟨sameM_yes, sameM_of⟩
theorem eqvf (k : Nat) (x y : Nat → Int) (w : World) : (Op.equalIn (k + 2) 25 (.agg #[.int .i64 (x 0), .int .i64 (x 1), .int .i64 (x 2), .int .i64 (x 3), .int .i64 (x 4), .int .i64 (x 5), .int .i64 (x 6), .int .i64 (x 7)]) (.agg #[.int .i64 (y 0), .int .i64 (y 1), .int .i64 (y 2), .int .i64 (y 3), .int .i64 (y 4), .int .i64 (y 5), .int .i64 (y 6), .int .i64 (y 7)])).run Tryd.prog w = .ok (eq8 x y) w := by
  have u3 := Tryd.underlying3
  have a3 := Tryd.isAgg3
  have z3 := Tryd.sizeOf3
  rw [← eq8_and, show k + 2 = (k + 1) + 1 from rfl, Op.equalIn]
  simp only [Sem.run_bind, run_underlying Tryd.underlying25, Result.andThen_ok]
  simp only [Std.Legacy.Range.forIn_eq_forIn_range', Std.Legacy.Range.size, Nat.sub_zero, Nat.add_sub_cancel, Nat.div_one, List.range'_succ, List.range'_zero, List.forIn_cons, List.forIn_nil]
  go_simp
  by_cases h0 : x 0 = y 0 <;> simp [h0]
  by_cases h1 : x 1 = y 1 <;> simp [h1]
  by_cases h2 : x 2 = y 2 <;> simp [h2]
  by_cases h3 : x 3 = y 3 <;> simp [h3]
  by_cases h4 : x 4 = y 4 <;> simp [h4]
  by_cases h5 : x 5 = y 5 <;> simp [h5]
  by_cases h6 : x 6 = y 6 <;> simp [h6]
  by_cases h7 : x 7 = y 7 <;> simp [h7]
set_option maxRecDepth 100000 in
set_option maxHeartbeats 8000000 in
theorem equal_msg (x y : MsgP) (w : World) : (Op.equalIn 10000 27 (.agg (msgC x)) (.agg (msgC y))).run Tryd.prog w = .ok (sameM x y) w := by
  have u3 := Tryd.underlying3
  have a3 := Tryd.isAgg3
  have z3 := Tryd.sizeOf3
  have u9 := Tryd.underlying9
  have a9 := Tryd.isAgg9
  have z9 := Tryd.sizeOf9
  have u23 := Tryd.underlying25
  have a23 := Tryd.isAgg25
  have z23 := Tryd.sizeOf25
  have u29 := Tryd.underlying23
  have a29 := Tryd.isAgg23
  have z29 := Tryd.sizeOf23
  have hS : Tryd.prog.underlying 27 = some (.struct (Tryd.prog.fieldsOf 27)) := by kernel_rfl
  have hp : Tryd.prog.stoodInHeld 27 = false := by kernel_rfl
  have hS2 : Tryd.prog.underlying 23 = some (.struct (Tryd.prog.fieldsOf 23)) := by kernel_rfl
  have hp2 : Tryd.prog.stoodInHeld 23 = false := by kernel_rfl
  have hv := eqvf 9997 x.seen y.seen
  simp only [Nat.reduceAdd] at hv
  rw [show (10000 : Nat) = 9999 + 1 from rfl]
  rw [run_equalIn_agg w 9999 27 _ _ hS hp]
  simp only [Program.fieldsOf, Tryd.underlying27]
  unfold msgC sameM
  go_simp
  rcases Classical.em (x.kind = y.kind) with h0 | h0
  case' inr => simp [h0]
  rcases Classical.em (x.fr = y.fr) with h1 | h1
  case' inr => simp [h0, h1]
  rcases Classical.em (x.to = y.to) with h2 | h2
  case' inr => simp [h0, h1, h2]
  rcases Classical.em (x.vol = y.vol) with h3 | h3
  case' inr => simp [h0, h1, h2, h3]
  rcases Classical.em (x.base.1 = y.base.1) with h4 | h4
  case' inr => simp [h0, h1, h2, h3, h4]
  rcases Classical.em (x.base.2 = y.base.2) with h5 | h5
  case' inr => simp [h0, h1, h2, h3, h4, h5]
  rcases Classical.em (x.mark.1 = y.mark.1) with h6 | h6
  case' inr => simp [h0, h1, h2, h3, h4, h5, h6]
  rcases Classical.em (x.mark.2 = y.mark.2) with h7 | h7
  case' inr => simp [h0, h1, h2, h3, h4, h5, h6, h7]
  rcases Classical.em (x.ix = y.ix) with h8 | h8
  case' inr => simp [h0, h1, h2, h3, h4, h5, h6, h7, h8]
  rcases Classical.em (x.tot = y.tot) with h9 | h9
  case' inr => simp [h0, h1, h2, h3, h4, h5, h6, h7, h8, h9]
  simp only [h0, h1, h2, h3, h4, h5, h6, h7, h8, h9]
  cases eq8 x.seen y.seen <;> simp
  by_cases h10 : x.data.toList = y.data.toList <;> simp [h10]
theorem eql_msg (x y : MsgP) (w : World) : (binOp .eql 27 (.agg (msgC x)) (.agg (msgC y))).run Tryd.prog w = .ok (.bool (sameM x y)) w := by
  rw [run_eql_struct]
  simp only [equal_msg, Result.andThen_ok]
theorem neq_msg (x y : MsgP) (w : World) : (binOp .neq 27 (.agg (msgC x)) (.agg (msgC y))).run Tryd.prog w = .ok (.bool (!sameM x y)) w := by
  rw [run_neq_struct]
  simp only [equal_msg, Result.andThen_ok]
theorem equal_mark (a b c d : Int) (w : World) : (Op.equalIn 10000 23 (.agg #[.int .i64 a, .int .i64 b]) (.agg #[.int .i64 c, .int .i64 d])).run Tryd.prog w = .ok (a == c && b == d) w := by
  have u3 := Tryd.underlying3
  have a3 := Tryd.isAgg3
  have z3 := Tryd.sizeOf3
  have hS : Tryd.prog.underlying 23 = some (.struct (Tryd.prog.fieldsOf 23)) := by kernel_rfl
  have hp : Tryd.prog.stoodInHeld 23 = false := by kernel_rfl
  rw [show (10000 : Nat) = 9999 + 1 from rfl]
  rw [run_equalIn_agg w 9999 23 _ _ hS hp]
  simp only [Program.fieldsOf, Tryd.underlying23]
  go_simp
  by_cases h1 : a = c <;> by_cases h2 : b = d <;> simp [h1, h2]
theorem eql_mark (a b c d : Int) (w : World) : (binOp .eql 23 (.agg #[.int .i64 a, .int .i64 b]) (.agg #[.int .i64 c, .int .i64 d])).run Tryd.prog w = .ok (.bool (a == c && b == d)) w := by
  rw [run_eql_struct]
  simp only [equal_mark, Result.andThen_ok]
theorem neq_mark (a b c d : Int) (w : World) : (binOp .neq 23 (.agg #[.int .i64 a, .int .i64 b]) (.agg #[.int .i64 c, .int .i64 d])).run Tryd.prog w = .ok (.bool (!(a == c && b == d))) w := by
  rw [run_neq_struct]
  simp only [equal_mark, Result.andThen_ok]
end Go.Proofs.YtfjmcklmoebnaaaDoor.Nt
