/- Structs that are compared with themselves. -/
import Derived.Test.YtigkdoicmcdbhaaGreatSrE
namespace Go.Proofs.YtigkdoicmcdbhaaGreat.Smr
open Go.RowKit Go.Proofs.YtigkdoicmcdbhaaGreat.Mem
open Go.Proofs.YtigkdoicmcdbhaaGreat.Fc (PieceP XattrP LinkP NodeC pieceC xattrC linkC nodeC stateC)
open Go.Proofs.YtigkdoicmcdbhaaGreat.Vc (vecC stC eq8 eq8_iff eqv neq_st eql_st)
set_option linter.unusedVariables false set_option linter.unusedSimpArgs false

theorem eq8_self (x : Nat → Int) : eq8 x x = true := eq8_iff.2 (fun i _ => rfl)
theorem eqv_self (k : Nat) (x : Nat → Int) (w : World) : (Op.equalIn (k + 2) 24 (.agg #[.int .i64 (x 0), .int .i64 (x 1), .int .i64 (x 2), .int .i64 (x 3), .int .i64 (x 4), .int .i64 (x 5), .int .i64 (x 6), .int .i64 (x 7)]) (.agg #[.int .i64 (x 0), .int .i64 (x 1), .int .i64 (x 2), .int .i64 (x 3), .int .i64 (x 4), .int .i64 (x 5), .int .i64 (x 6), .int .i64 (x 7)])).run Tryz.prog w = .ok true w := by
  have u3 := Tryz.underlying3
  have a3 := Tryz.isAgg3
  have z3 := Tryz.sizeOf3
  rw [show k + 2 = (k + 1) + 1 from rfl, Op.equalIn]
  simp only [Sem.run_bind, run_underlying Tryz.underlying24, Result.andThen_ok]
  simp only [Std.Legacy.Range.forIn_eq_forIn_range', Std.Legacy.Range.size, Nat.sub_zero, Nat.add_sub_cancel, Nat.div_one, List.range'_succ, List.range'_zero, List.forIn_cons, List.forIn_nil]
  go_simp
theorem nref_st (a b : Int) (w : World) : (binOp .neq 26 (.agg #[.int .i64 a, .int .i64 b]) (.agg #[.int .i64 a, .int .i64 b])).run Tryz.prog w = .ok (.bool false) w := by
  have h := neq_st a b a b w
  unfold stC at h
  rw [h]
  simp
theorem eref_st (a b : Int) (w : World) : (binOp .eql 26 (.agg #[.int .i64 a, .int .i64 b]) (.agg #[.int .i64 a, .int .i64 b])).run Tryz.prog w = .ok (.bool true) w := by
  have h := eql_st a b a b w
  unfold stC at h
  rw [h]
  simp
theorem nref_vec (x : Nat → Int) (w : World) : (binOp .neq 24 (.agg (vecC x)) (.agg (vecC x))).run Tryz.prog w = .ok (.bool false) w := by
  rw [run_neq_struct, eqv, eq8_self]
  rfl
theorem eref_vec (x : Nat → Int) (w : World) : (binOp .eql 24 (.agg (vecC x)) (.agg (vecC x))).run Tryz.prog w = .ok (.bool true) w := by
  rw [run_eql_struct, eqv, eq8_self]
  rfl
set_option maxRecDepth 100000 in
set_option maxHeartbeats 4000000 in
theorem nref_attr (a b m : Int) (t : Nat) (w : World) : (binOp .neq 54 (.agg (#[.int .i64 a, .int .i64 b, .int .i64 m, .int .u64 t])) (.agg (#[.int .i64 a, .int .i64 b, .int .i64 m, .int .u64 t]))).run Tryz.prog w = .ok (.bool false) w := by
  have uqi := Tryz.underlying3
  have aqi := Tryz.isAgg3
  have zqi := Tryz.sizeOf3
  have uqs := Tryz.underlying9
  have aqs := Tryz.isAgg9
  have zqs := Tryz.sizeOf9
  have uqb := Tryz.underlying4
  have aqb := Tryz.isAgg4
  have zqb := Tryz.sizeOf4
  have uqu := Tryz.underlying52
  have aqu := Tryz.isAgg52
  have zqu := Tryz.sizeOf52
  have uqv := Tryz.underlying24
  have aqv := Tryz.isAgg24
  have zqv := Tryz.sizeOf24
  have uqt := Tryz.underlying26
  have aqt := Tryz.isAgg26
  have zqt := Tryz.sizeOf26
  have hS : Tryz.prog.underlying 54 = some (.struct (Tryz.prog.fieldsOf 54)) := by kernel_rfl
  have hp : Tryz.prog.stoodInHeld 54 = false := by kernel_rfl
  have hS2 : Tryz.prog.underlying 26 = some (.struct (Tryz.prog.fieldsOf 26)) := by kernel_rfl
  have hp2 : Tryz.prog.stoodInHeld 26 = false := by kernel_rfl
  rw [run_neq_struct]
  rw [show (10000 : Nat) = 9999 + 1 from rfl]
  rw [run_equalIn_agg w 9999 54 _ _ hS hp]
  simp only [Program.fieldsOf, Tryz.underlying54]
  go_simp
set_option maxRecDepth 100000 in
set_option maxHeartbeats 4000000 in
theorem nref_size (a b m : Int) (w : World) : (binOp .neq 56 (.agg (#[.int .i64 a, .int .i64 b, .int .i64 m])) (.agg (#[.int .i64 a, .int .i64 b, .int .i64 m]))).run Tryz.prog w = .ok (.bool false) w := by
  have uqi := Tryz.underlying3
  have aqi := Tryz.isAgg3
  have zqi := Tryz.sizeOf3
  have uqs := Tryz.underlying9
  have aqs := Tryz.isAgg9
  have zqs := Tryz.sizeOf9
  have uqb := Tryz.underlying4
  have aqb := Tryz.isAgg4
  have zqb := Tryz.sizeOf4
  have uqu := Tryz.underlying52
  have aqu := Tryz.isAgg52
  have zqu := Tryz.sizeOf52
  have uqv := Tryz.underlying24
  have aqv := Tryz.isAgg24
  have zqv := Tryz.sizeOf24
  have uqt := Tryz.underlying26
  have aqt := Tryz.isAgg26
  have zqt := Tryz.sizeOf26
  have hS : Tryz.prog.underlying 56 = some (.struct (Tryz.prog.fieldsOf 56)) := by kernel_rfl
  have hp : Tryz.prog.stoodInHeld 56 = false := by kernel_rfl
  have hS2 : Tryz.prog.underlying 26 = some (.struct (Tryz.prog.fieldsOf 26)) := by kernel_rfl
  have hp2 : Tryz.prog.stoodInHeld 26 = false := by kernel_rfl
  rw [run_neq_struct]
  rw [show (10000 : Nat) = 9999 + 1 from rfl]
  rw [run_equalIn_agg w 9999 56 _ _ hS hp]
  simp only [Program.fieldsOf, Tryz.underlying56]
  go_simp
set_option maxRecDepth 100000 in
set_option maxHeartbeats 4000000 in
theorem nref_piece (x : PieceP) (w : World) : (binOp .neq 69 (.agg (pieceC x)) (.agg (pieceC x))).run Tryz.prog w = .ok (.bool false) w := by
  have uqi := Tryz.underlying3
  have aqi := Tryz.isAgg3
  have zqi := Tryz.sizeOf3
  have uqs := Tryz.underlying9
  have aqs := Tryz.isAgg9
  have zqs := Tryz.sizeOf9
  have uqb := Tryz.underlying4
  have aqb := Tryz.isAgg4
  have zqb := Tryz.sizeOf4
  have uqu := Tryz.underlying52
  have aqu := Tryz.isAgg52
  have zqu := Tryz.sizeOf52
  have uqv := Tryz.underlying24
  have aqv := Tryz.isAgg24
  have zqv := Tryz.sizeOf24
  have uqt := Tryz.underlying26
  have aqt := Tryz.isAgg26
  have zqt := Tryz.sizeOf26
  have hS : Tryz.prog.underlying 69 = some (.struct (Tryz.prog.fieldsOf 69)) := by kernel_rfl
  have hp : Tryz.prog.stoodInHeld 69 = false := by kernel_rfl
  have hS2 : Tryz.prog.underlying 26 = some (.struct (Tryz.prog.fieldsOf 26)) := by kernel_rfl
  have hp2 : Tryz.prog.stoodInHeld 26 = false := by kernel_rfl
  rw [run_neq_struct]
  rw [show (10000 : Nat) = 9999 + 1 from rfl]
  rw [run_equalIn_agg w 9999 69 _ _ hS hp]
  simp only [Program.fieldsOf, Tryz.underlying69]
  unfold pieceC
  go_simp
set_option maxRecDepth 100000 in
set_option maxHeartbeats 4000000 in
theorem nref_xattr (x : XattrP) (w : World) : (binOp .neq 71 (.agg (xattrC x)) (.agg (xattrC x))).run Tryz.prog w = .ok (.bool false) w := by
  have uqi := Tryz.underlying3
  have aqi := Tryz.isAgg3
  have zqi := Tryz.sizeOf3
  have uqs := Tryz.underlying9
  have aqs := Tryz.isAgg9
  have zqs := Tryz.sizeOf9
  have uqb := Tryz.underlying4
  have aqb := Tryz.isAgg4
  have zqb := Tryz.sizeOf4
  have uqu := Tryz.underlying52
  have aqu := Tryz.isAgg52
  have zqu := Tryz.sizeOf52
  have uqv := Tryz.underlying24
  have aqv := Tryz.isAgg24
  have zqv := Tryz.sizeOf24
  have uqt := Tryz.underlying26
  have aqt := Tryz.isAgg26
  have zqt := Tryz.sizeOf26
  have hS : Tryz.prog.underlying 71 = some (.struct (Tryz.prog.fieldsOf 71)) := by kernel_rfl
  have hp : Tryz.prog.stoodInHeld 71 = false := by kernel_rfl
  have hS2 : Tryz.prog.underlying 26 = some (.struct (Tryz.prog.fieldsOf 26)) := by kernel_rfl
  have hp2 : Tryz.prog.stoodInHeld 26 = false := by kernel_rfl
  rw [run_neq_struct]
  rw [show (10000 : Nat) = 9999 + 1 from rfl]
  rw [run_equalIn_agg w 9999 71 _ _ hS hp]
  simp only [Program.fieldsOf, Tryz.underlying71]
  unfold xattrC
  go_simp
set_option maxRecDepth 100000 in
set_option maxHeartbeats 4000000 in
theorem nref_link (x : LinkP) (w : World) : (binOp .neq 63 (.agg (linkC x)) (.agg (linkC x))).run Tryz.prog w = .ok (.bool false) w := by
  have uqi := Tryz.underlying3
  have aqi := Tryz.isAgg3
  have zqi := Tryz.sizeOf3
  have uqs := Tryz.underlying9
  have aqs := Tryz.isAgg9
  have zqs := Tryz.sizeOf9
  have uqb := Tryz.underlying4
  have aqb := Tryz.isAgg4
  have zqb := Tryz.sizeOf4
  have uqu := Tryz.underlying52
  have aqu := Tryz.isAgg52
  have zqu := Tryz.sizeOf52
  have uqv := Tryz.underlying24
  have aqv := Tryz.isAgg24
  have zqv := Tryz.sizeOf24
  have uqt := Tryz.underlying26
  have aqt := Tryz.isAgg26
  have zqt := Tryz.sizeOf26
  have hS : Tryz.prog.underlying 63 = some (.struct (Tryz.prog.fieldsOf 63)) := by kernel_rfl
  have hp : Tryz.prog.stoodInHeld 63 = false := by kernel_rfl
  have hS2 : Tryz.prog.underlying 26 = some (.struct (Tryz.prog.fieldsOf 26)) := by kernel_rfl
  have hp2 : Tryz.prog.stoodInHeld 26 = false := by kernel_rfl
  have hv := eqv_self 9997 x.al
  have hv2 := eqv_self 9997 x.de
  simp only [Nat.reduceAdd] at hv hv2
  rw [run_neq_struct]
  rw [show (10000 : Nat) = 9999 + 1 from rfl]
  rw [run_equalIn_agg w 9999 63 _ _ hS hp]
  simp only [Program.fieldsOf, Tryz.underlying63]
  unfold linkC
  go_simp
end Go.Proofs.YtigkdoicmcdbhaaGreat.Smr
