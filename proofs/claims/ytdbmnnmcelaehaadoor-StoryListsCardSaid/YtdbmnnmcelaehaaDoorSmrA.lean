/- Structs that are compared with themselves. -/
import Derived.Test.YtdbmnnmcelaehaaDoorSrE
namespace Go.Proofs.YtdbmnnmcelaehaaDoor.Smr
open Go.RowKit Go.Proofs.YtdbmnnmcelaehaaDoor.Mem
open Go.Proofs.YtdbmnnmcelaehaaDoor.Fc (PieceP XattrP LinkP NodeC pieceC xattrC linkC nodeC stateC)
open Go.Proofs.YtdbmnnmcelaehaaDoor.Vc (vecC stC eq8 eq8_iff eqv neq_st eql_st)
set_option linter.unusedVariables false set_option linter.unusedSimpArgs false

theorem eq8_self (x : Nat → Int) : eq8 x x = true := eq8_iff.2 (fun i _ => rfl)
theorem eqv_self (k : Nat) (x : Nat → Int) (w : World) : (Op.equalIn (k + 2) 25 (.agg #[.int .i64 (x 0), .int .i64 (x 1), .int .i64 (x 2), .int .i64 (x 3), .int .i64 (x 4), .int .i64 (x 5), .int .i64 (x 6), .int .i64 (x 7)]) (.agg #[.int .i64 (x 0), .int .i64 (x 1), .int .i64 (x 2), .int .i64 (x 3), .int .i64 (x 4), .int .i64 (x 5), .int .i64 (x 6), .int .i64 (x 7)])).run Tryd.prog w = .ok true w := by
  have u3 := Tryd.underlying3
  have a3 := Tryd.isAgg3
  have z3 := Tryd.sizeOf3
  rw [show k + 2 = (k + 1) + 1 from rfl, Op.equalIn]
  simp only [Sem.run_bind, run_underlying Tryd.underlying25, Result.andThen_ok]
  simp only [Std.Legacy.Range.forIn_eq_forIn_range', Std.Legacy.Range.size, Nat.sub_zero, Nat.add_sub_cancel, Nat.div_one, List.range'_succ, List.range'_zero, List.forIn_cons, List.forIn_nil]
  go_simp
theorem nref_st (a b : Int) (w : World) : (binOp .neq 23 (.agg #[.int .i64 a, .int .i64 b]) (.agg #[.int .i64 a, .int .i64 b])).run Tryd.prog w = .ok (.bool false) w := by
  have h := neq_st a b a b w
  unfold stC at h
  rw [h]
  simp
theorem eref_st (a b : Int) (w : World) : (binOp .eql 23 (.agg #[.int .i64 a, .int .i64 b]) (.agg #[.int .i64 a, .int .i64 b])).run Tryd.prog w = .ok (.bool true) w := by
  have h := eql_st a b a b w
  unfold stC at h
  rw [h]
  simp
theorem nref_vec (x : Nat → Int) (w : World) : (binOp .neq 25 (.agg (vecC x)) (.agg (vecC x))).run Tryd.prog w = .ok (.bool false) w := by
  rw [run_neq_struct, eqv, eq8_self]
  rfl
theorem eref_vec (x : Nat → Int) (w : World) : (binOp .eql 25 (.agg (vecC x)) (.agg (vecC x))).run Tryd.prog w = .ok (.bool true) w := by
  rw [run_eql_struct, eqv, eq8_self]
  rfl
set_option maxRecDepth 100000 in
set_option maxHeartbeats 4000000 in
theorem nref_attr (a b m : Int) (t : Nat) (w : World) : (binOp .neq 56 (.agg (#[.int .i64 a, .int .i64 b, .int .i64 m, .int .u64 t])) (.agg (#[.int .i64 a, .int .i64 b, .int .i64 m, .int .u64 t]))).run Tryd.prog w = .ok (.bool false) w := by
  have uqi := Tryd.underlying3
  have aqi := Tryd.isAgg3
  have zqi := Tryd.sizeOf3
  have uqs := Tryd.underlying9
  have aqs := Tryd.isAgg9
  have zqs := Tryd.sizeOf9
  have uqb := Tryd.underlying4
  have aqb := Tryd.isAgg4
  have zqb := Tryd.sizeOf4
  have uqu := Tryd.underlying54
  have aqu := Tryd.isAgg54
  have zqu := Tryd.sizeOf54
  have uqv := Tryd.underlying25
  have aqv := Tryd.isAgg25
  have zqv := Tryd.sizeOf25
  have uqt := Tryd.underlying23
  have aqt := Tryd.isAgg23
  have zqt := Tryd.sizeOf23
  have hS : Tryd.prog.underlying 56 = some (.struct (Tryd.prog.fieldsOf 56)) := by kernel_rfl
  have hp : Tryd.prog.stoodInHeld 56 = false := by kernel_rfl
  have hS2 : Tryd.prog.underlying 23 = some (.struct (Tryd.prog.fieldsOf 23)) := by kernel_rfl
  have hp2 : Tryd.prog.stoodInHeld 23 = false := by kernel_rfl
  rw [run_neq_struct]
  rw [show (10000 : Nat) = 9999 + 1 from rfl]
  rw [run_equalIn_agg w 9999 56 _ _ hS hp]
  simp only [Program.fieldsOf, Tryd.underlying56]
  go_simp
set_option maxRecDepth 100000 in
set_option maxHeartbeats 4000000 in
theorem nref_size (a b m : Int) (w : World) : (binOp .neq 58 (.agg (#[.int .i64 a, .int .i64 b, .int .i64 m])) (.agg (#[.int .i64 a, .int .i64 b, .int .i64 m]))).run Tryd.prog w = .ok (.bool false) w := by
  have uqi := Tryd.underlying3
  have aqi := Tryd.isAgg3
  have zqi := Tryd.sizeOf3
  have uqs := Tryd.underlying9
  have aqs := Tryd.isAgg9
  have zqs := Tryd.sizeOf9
  have uqb := Tryd.underlying4
  have aqb := Tryd.isAgg4
  have zqb := Tryd.sizeOf4
  have uqu := Tryd.underlying54
  have aqu := Tryd.isAgg54
  have zqu := Tryd.sizeOf54
  have uqv := Tryd.underlying25
  have aqv := Tryd.isAgg25
  have zqv := Tryd.sizeOf25
  have uqt := Tryd.underlying23
  have aqt := Tryd.isAgg23
  have zqt := Tryd.sizeOf23
  have hS : Tryd.prog.underlying 58 = some (.struct (Tryd.prog.fieldsOf 58)) := by kernel_rfl
  have hp : Tryd.prog.stoodInHeld 58 = false := by kernel_rfl
  have hS2 : Tryd.prog.underlying 23 = some (.struct (Tryd.prog.fieldsOf 23)) := by kernel_rfl
  have hp2 : Tryd.prog.stoodInHeld 23 = false := by kernel_rfl
  rw [run_neq_struct]
  rw [show (10000 : Nat) = 9999 + 1 from rfl]
  rw [run_equalIn_agg w 9999 58 _ _ hS hp]
  simp only [Program.fieldsOf, Tryd.underlying58]
  go_simp
set_option maxRecDepth 100000 in
set_option maxHeartbeats 4000000 in
theorem nref_piece (x : PieceP) (w : World) : (binOp .neq 83 (.agg (pieceC x)) (.agg (pieceC x))).run Tryd.prog w = .ok (.bool false) w := by
  have uqi := Tryd.underlying3
  have aqi := Tryd.isAgg3
  have zqi := Tryd.sizeOf3
  have uqs := Tryd.underlying9
  have aqs := Tryd.isAgg9
  have zqs := Tryd.sizeOf9
  have uqb := Tryd.underlying4
  have aqb := Tryd.isAgg4
  have zqb := Tryd.sizeOf4
  have uqu := Tryd.underlying54
  have aqu := Tryd.isAgg54
  have zqu := Tryd.sizeOf54
  have uqv := Tryd.underlying25
  have aqv := Tryd.isAgg25
  have zqv := Tryd.sizeOf25
  have uqt := Tryd.underlying23
  have aqt := Tryd.isAgg23
  have zqt := Tryd.sizeOf23
  have hS : Tryd.prog.underlying 83 = some (.struct (Tryd.prog.fieldsOf 83)) := by kernel_rfl
  have hp : Tryd.prog.stoodInHeld 83 = false := by kernel_rfl
  have hS2 : Tryd.prog.underlying 23 = some (.struct (Tryd.prog.fieldsOf 23)) := by kernel_rfl
  have hp2 : Tryd.prog.stoodInHeld 23 = false := by kernel_rfl
  rw [run_neq_struct]
  rw [show (10000 : Nat) = 9999 + 1 from rfl]
  rw [run_equalIn_agg w 9999 83 _ _ hS hp]
  simp only [Program.fieldsOf, Tryd.underlying83]
  unfold pieceC
  go_simp
set_option maxRecDepth 100000 in
set_option maxHeartbeats 4000000 in
theorem nref_xattr (x : XattrP) (w : World) : (binOp .neq 85 (.agg (xattrC x)) (.agg (xattrC x))).run Tryd.prog w = .ok (.bool false) w := by
  have uqi := Tryd.underlying3
  have aqi := Tryd.isAgg3
  have zqi := Tryd.sizeOf3
  have uqs := Tryd.underlying9
  have aqs := Tryd.isAgg9
  have zqs := Tryd.sizeOf9
  have uqb := Tryd.underlying4
  have aqb := Tryd.isAgg4
  have zqb := Tryd.sizeOf4
  have uqu := Tryd.underlying54
  have aqu := Tryd.isAgg54
  have zqu := Tryd.sizeOf54
  have uqv := Tryd.underlying25
  have aqv := Tryd.isAgg25
  have zqv := Tryd.sizeOf25
  have uqt := Tryd.underlying23
  have aqt := Tryd.isAgg23
  have zqt := Tryd.sizeOf23
  have hS : Tryd.prog.underlying 85 = some (.struct (Tryd.prog.fieldsOf 85)) := by kernel_rfl
  have hp : Tryd.prog.stoodInHeld 85 = false := by kernel_rfl
  have hS2 : Tryd.prog.underlying 23 = some (.struct (Tryd.prog.fieldsOf 23)) := by kernel_rfl
  have hp2 : Tryd.prog.stoodInHeld 23 = false := by kernel_rfl
  rw [run_neq_struct]
  rw [show (10000 : Nat) = 9999 + 1 from rfl]
  rw [run_equalIn_agg w 9999 85 _ _ hS hp]
  simp only [Program.fieldsOf, Tryd.underlying85]
  unfold xattrC
  go_simp
set_option maxRecDepth 100000 in
set_option maxHeartbeats 4000000 in
theorem nref_link (x : LinkP) (w : World) : (binOp .neq 66 (.agg (linkC x)) (.agg (linkC x))).run Tryd.prog w = .ok (.bool false) w := by
  have uqi := Tryd.underlying3
  have aqi := Tryd.isAgg3
  have zqi := Tryd.sizeOf3
  have uqs := Tryd.underlying9
  have aqs := Tryd.isAgg9
  have zqs := Tryd.sizeOf9
  have uqb := Tryd.underlying4
  have aqb := Tryd.isAgg4
  have zqb := Tryd.sizeOf4
  have uqu := Tryd.underlying54
  have aqu := Tryd.isAgg54
  have zqu := Tryd.sizeOf54
  have uqv := Tryd.underlying25
  have aqv := Tryd.isAgg25
  have zqv := Tryd.sizeOf25
  have uqt := Tryd.underlying23
  have aqt := Tryd.isAgg23
  have zqt := Tryd.sizeOf23
  have hS : Tryd.prog.underlying 66 = some (.struct (Tryd.prog.fieldsOf 66)) := by kernel_rfl
  have hp : Tryd.prog.stoodInHeld 66 = false := by kernel_rfl
  have hS2 : Tryd.prog.underlying 23 = some (.struct (Tryd.prog.fieldsOf 23)) := by kernel_rfl
  have hp2 : Tryd.prog.stoodInHeld 23 = false := by kernel_rfl
  have hv := eqv_self 9997 x.al
  have hv2 := eqv_self 9997 x.de
  simp only [Nat.reduceAdd] at hv hv2
  rw [run_neq_struct]
  rw [show (10000 : Nat) = 9999 + 1 from rfl]
  rw [run_equalIn_agg w 9999 66 _ _ hS hp]
  simp only [Program.fieldsOf, Tryd.underlying66]
  unfold linkC
  go_simp
end Go.Proofs.YtdbmnnmcelaehaaDoor.Smr
