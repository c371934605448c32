/- Structs that are compared with themselves (SmrA, for the seat of join). -/
import Derived.Test.YtblogecapegbmaaGreatJnM
namespace Go.Proofs.YtblogecapegbmaaGreat.Jn
open Go.RowKit Go.Proofs.YtblogecapegbmaaGreat.Mem
open Go.Proofs.YtblogecapegbmaaGreat.Fc (PieceP XattrP LinkP NodeC pieceC xattrC linkC nodeC stateC)
open Go.Proofs.YtblogecapegbmaaGreat.Vc (vecC stC eq8 eq8_iff eqv neq_st eql_st)
set_option linter.unusedVariables false set_option linter.unusedSimpArgs false

theorem eq8_self (x : Nat → Int) : eq8 x x = true := eq8_iff.2 (fun i _ => rfl)
theorem eqv_self (k : Nat) (x : Nat → Int) (w : World) : (Op.equalIn (k + 2) 23 (.agg #[.int .i64 (x 0), .int .i64 (x 1), .int .i64 (x 2), .int .i64 (x 3), .int .i64 (x 4), .int .i64 (x 5), .int .i64 (x 6), .int .i64 (x 7)]) (.agg #[.int .i64 (x 0), .int .i64 (x 1), .int .i64 (x 2), .int .i64 (x 3), .int .i64 (x 4), .int .i64 (x 5), .int .i64 (x 6), .int .i64 (x 7)])).run Tryz.prog w = .ok true w := by
 have u3 := Tryz.underlying3
 have a3 := Tryz.isAgg3
 have z3 := Tryz.sizeOf3
 rw [show k + 2 = (k + 1) + 1 from rfl, Op.equalIn]
 simp only [Sem.run_bind, run_underlying Tryz.underlying23, Result.andThen_ok]
 simp only [Std.Legacy.Range.forIn_eq_forIn_range', Std.Legacy.Range.size, Nat.sub_zero, Nat.add_sub_cancel, Nat.div_one, List.range'_succ, List.range'_zero, List.forIn_cons, List.forIn_nil]
 go_simp
theorem nref_st (a b : Int) (w : World) : (binOp .neq 37 (.agg #[.int .i64 a, .int .i64 b]) (.agg #[.int .i64 a, .int .i64 b])).run Tryz.prog w = .ok (.bool false) w := by
 have h := neq_st a b a b w
 unfold stC at h
 rw [h]
 simp
theorem eref_st (a b : Int) (w : World) : (binOp .eql 37 (.agg #[.int .i64 a, .int .i64 b]) (.agg #[.int .i64 a, .int .i64 b])).run Tryz.prog w = .ok (.bool true) w := by
 have h := eql_st a b a b w
 unfold stC at h
 rw [h]
 simp
theorem nref_vec (x : Nat → Int) (w : World) : (binOp .neq 23 (.agg (vecC x)) (.agg (vecC x))).run Tryz.prog w = .ok (.bool false) w := by
 rw [run_neq_struct, eqv, eq8_self]
 rfl
theorem eref_vec (x : Nat → Int) (w : World) : (binOp .eql 23 (.agg (vecC x)) (.agg (vecC x))).run Tryz.prog w = .ok (.bool true) w := by
 rw [run_eql_struct, eqv, eq8_self]
 rfl
set_option maxRecDepth 100000 in
set_option maxHeartbeats 4000000 in
theorem nref_attr (a b m : Int) (t : Nat) (w : World) : (binOp .neq 40 (.agg (#[.int .i64 a, .int .i64 b, .int .i64 m, .int .u64 t])) (.agg (#[.int .i64 a, .int .i64 b, .int .i64 m, .int .u64 t]))).run Tryz.prog w = .ok (.bool false) w := by
 have uqi := Tryz.underlying3
 have aqi := Tryz.isAgg3
 have zqi := Tryz.sizeOf3
 have uqs := Tryz.underlying9
 have aqs := Tryz.isAgg9
 have zqs := Tryz.sizeOf9
 have uqb := Tryz.underlying4
 have aqb := Tryz.isAgg4
 have zqb := Tryz.sizeOf4
 have uqu := Tryz.underlying38
 have aqu := Tryz.isAgg38
 have zqu := Tryz.sizeOf38
 have uqv := Tryz.underlying23
 have aqv := Tryz.isAgg23
 have zqv := Tryz.sizeOf23
 have uqt := Tryz.underlying37
 have aqt := Tryz.isAgg37
 have zqt := Tryz.sizeOf37
 have hS : Tryz.prog.underlying 40 = some (.struct (Tryz.prog.fieldsOf 40)) := by kernel_rfl
 have hp : Tryz.prog.stoodInHeld 40 = false := by kernel_rfl
 have hS2 : Tryz.prog.underlying 37 = some (.struct (Tryz.prog.fieldsOf 37)) := by kernel_rfl
 have hp2 : Tryz.prog.stoodInHeld 37 = false := by kernel_rfl
 rw [run_neq_struct]
 rw [show (10000 : Nat) = 9999 + 1 from rfl]
 rw [run_equalIn_agg w 9999 40 _ _ hS hp]
 simp only [Program.fieldsOf, Tryz.underlying40]
 go_simp
set_option maxRecDepth 100000 in
set_option maxHeartbeats 4000000 in
theorem nref_size (a b m : Int) (w : World) : (binOp .neq 42 (.agg (#[.int .i64 a, .int .i64 b, .int .i64 m])) (.agg (#[.int .i64 a, .int .i64 b, .int .i64 m]))).run Tryz.prog w = .ok (.bool false) w := by
 have uqi := Tryz.underlying3
 have aqi := Tryz.isAgg3
 have zqi := Tryz.sizeOf3
 have uqs := Tryz.underlying9
 have aqs := Tryz.isAgg9
 have zqs := Tryz.sizeOf9
 have uqb := Tryz.underlying4
 have aqb := Tryz.isAgg4
 have zqb := Tryz.sizeOf4
 have uqu := Tryz.underlying38
 have aqu := Tryz.isAgg38
 have zqu := Tryz.sizeOf38
 have uqv := Tryz.underlying23
 have aqv := Tryz.isAgg23
 have zqv := Tryz.sizeOf23
 have uqt := Tryz.underlying37
 have aqt := Tryz.isAgg37
 have zqt := Tryz.sizeOf37
 have hS : Tryz.prog.underlying 42 = some (.struct (Tryz.prog.fieldsOf 42)) := by kernel_rfl
 have hp : Tryz.prog.stoodInHeld 42 = false := by kernel_rfl
 have hS2 : Tryz.prog.underlying 37 = some (.struct (Tryz.prog.fieldsOf 37)) := by kernel_rfl
 have hp2 : Tryz.prog.stoodInHeld 37 = false := by kernel_rfl
 rw [run_neq_struct]
 rw [show (10000 : Nat) = 9999 + 1 from rfl]
 rw [run_equalIn_agg w 9999 42 _ _ hS hp]
 simp only [Program.fieldsOf, Tryz.underlying42]
 go_simp
set_option maxRecDepth 100000 in
set_option maxHeartbeats 4000000 in
theorem nref_piece (x : PieceP) (w : World) : (binOp .neq 74 (.agg (pieceC x)) (.agg (pieceC x))).run Tryz.prog w = .ok (.bool false) w := by
 have uqi := Tryz.underlying3
 have aqi := Tryz.isAgg3
 have zqi := Tryz.sizeOf3
 have uqs := Tryz.underlying9
 have aqs := Tryz.isAgg9
 have zqs := Tryz.sizeOf9
 have uqb := Tryz.underlying4
 have aqb := Tryz.isAgg4
 have zqb := Tryz.sizeOf4
 have uqu := Tryz.underlying38
 have aqu := Tryz.isAgg38
 have zqu := Tryz.sizeOf38
 have uqv := Tryz.underlying23
 have aqv := Tryz.isAgg23
 have zqv := Tryz.sizeOf23
 have uqt := Tryz.underlying37
 have aqt := Tryz.isAgg37
 have zqt := Tryz.sizeOf37
 have hS : Tryz.prog.underlying 74 = some (.struct (Tryz.prog.fieldsOf 74)) := by kernel_rfl
 have hp : Tryz.prog.stoodInHeld 74 = false := by kernel_rfl
 have hS2 : Tryz.prog.underlying 37 = some (.struct (Tryz.prog.fieldsOf 37)) := by kernel_rfl
 have hp2 : Tryz.prog.stoodInHeld 37 = false := by kernel_rfl
 rw [run_neq_struct]
 rw [show (10000 : Nat) = 9999 + 1 from rfl]
 rw [run_equalIn_agg w 9999 74 _ _ hS hp]
 simp only [Program.fieldsOf, Tryz.underlying74]
 unfold pieceC
 go_simp
set_option maxRecDepth 100000 in
set_option maxHeartbeats 4000000 in
theorem nref_xattr (x : XattrP) (w : World) : (binOp .neq 77 (.agg (xattrC x)) (.agg (xattrC x))).run Tryz.prog w = .ok (.bool false) w := by
 have uqi := Tryz.underlying3
 have aqi := Tryz.isAgg3
 have zqi := Tryz.sizeOf3
 have uqs := Tryz.underlying9
 have aqs := Tryz.isAgg9
 have zqs := Tryz.sizeOf9
 have uqb := Tryz.underlying4
 have aqb := Tryz.isAgg4
 have zqb := Tryz.sizeOf4
 have uqu := Tryz.underlying38
 have aqu := Tryz.isAgg38
 have zqu := Tryz.sizeOf38
 have uqv := Tryz.underlying23
 have aqv := Tryz.isAgg23
 have zqv := Tryz.sizeOf23
 have uqt := Tryz.underlying37
 have aqt := Tryz.isAgg37
 have zqt := Tryz.sizeOf37
 have hS : Tryz.prog.underlying 77 = some (.struct (Tryz.prog.fieldsOf 77)) := by kernel_rfl
 have hp : Tryz.prog.stoodInHeld 77 = false := by kernel_rfl
 have hS2 : Tryz.prog.underlying 37 = some (.struct (Tryz.prog.fieldsOf 37)) := by kernel_rfl
 have hp2 : Tryz.prog.stoodInHeld 37 = false := by kernel_rfl
 rw [run_neq_struct]
 rw [show (10000 : Nat) = 9999 + 1 from rfl]
 rw [run_equalIn_agg w 9999 77 _ _ hS hp]
 simp only [Program.fieldsOf, Tryz.underlying77]
 unfold xattrC
 go_simp
set_option maxRecDepth 100000 in
set_option maxHeartbeats 4000000 in
theorem nref_link (x : LinkP) (w : World) : (binOp .neq 51 (.agg (linkC x)) (.agg (linkC x))).run Tryz.prog w = .ok (.bool false) w := by
 have uqi := Tryz.underlying3
 have aqi := Tryz.isAgg3
 have zqi := Tryz.sizeOf3
 have uqs := Tryz.underlying9
 have aqs := Tryz.isAgg9
 have zqs := Tryz.sizeOf9
 have uqb := Tryz.underlying4
 have aqb := Tryz.isAgg4
 have zqb := Tryz.sizeOf4
 have uqu := Tryz.underlying38
 have aqu := Tryz.isAgg38
 have zqu := Tryz.sizeOf38
 have uqv := Tryz.underlying23
 have aqv := Tryz.isAgg23
 have zqv := Tryz.sizeOf23
 have uqt := Tryz.underlying37
 have aqt := Tryz.isAgg37
 have zqt := Tryz.sizeOf37
 have hS : Tryz.prog.underlying 51 = some (.struct (Tryz.prog.fieldsOf 51)) := by kernel_rfl
 have hp : Tryz.prog.stoodInHeld 51 = false := by kernel_rfl
 have hS2 : Tryz.prog.underlying 37 = some (.struct (Tryz.prog.fieldsOf 37)) := by kernel_rfl
 have hp2 : Tryz.prog.stoodInHeld 37 = false := by kernel_rfl
 have hv := eqv_self 9997 x.al
 have hv2 := eqv_self 9997 x.de
 simp only [Nat.reduceAdd] at hv hv2
 rw [run_neq_struct]
 rw [show (10000 : Nat) = 9999 + 1 from rfl]
 rw [run_equalIn_agg w 9999 51 _ _ hS hp]
 simp only [Program.fieldsOf, Tryz.underlying51]
 unfold linkC
 go_simp
end Go.Proofs.YtblogecapegbmaaGreat.Jn
