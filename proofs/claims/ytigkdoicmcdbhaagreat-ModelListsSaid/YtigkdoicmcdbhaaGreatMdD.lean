/- Model: who wrote what, the closures. -/
import Derived.Test.YtigkdoicmcdbhaaGreatMdC
namespace Go.Proofs.YtigkdoicmcdbhaaGreat.Md
open Go.RowKit Go.Proofs.YtigkdoicmcdbhaaGreat.Mem
open Go.Proofs.YtigkdoicmcdbhaaGreat.Fc (PieceP XattrP LinkP NodeC pieceC xattrC linkC nodeC stateC)
open Go.Proofs.YtigkdoicmcdbhaaGreat.Sr (EOwn GrewE zeroS)
open Go.Proofs.YtigkdoicmcdbhaaGreat.Stab (EOut eown_nil eown_sl)
open Go.Proofs.YtigkdoicmcdbhaaGreat.Stl (IdxIs any_take any_hit isId filter_yes filter_no filter_len eown_below eown_mono)
open Go.Proofs.YtigkdoicmcdbhaaGreat.Vc (vecC stC eql_st neq_st)
set_option linter.unusedVariables false set_option linter.unusedSimpArgs false

def wroteN (id : Int × Int) (what : Int) (x : NodeC) : Bool := isId x.p.id id && ((decide (what = 1) && !zeroS x.p.aat) || (decide (what = 2) && !zeroS x.p.sat))
def wroteL (id : Int × Int) (what : Int) (k : LinkP) : Bool := isId k.id id && decide (what = 3) && !zeroS k.at_
def wroteE (id : Int × Int) (what : Int) (e : Fc.EventC) : Bool := e.d.nodes.any (wroteN id what) || e.d.links.any (wroteL id what)
set_option maxRecDepth 100000 in
set_option maxHeartbeats 2000000 in
theorem writers1_any (x : NodeC) (id : Int × Int) (what : Int) (g1 g2 g3 : Nat) (w : World) (h1 : Has w g1 26 #[.int .i64 id.1, .int .i64 id.2]) (h2 : Has w g2 3 #[.int .i64 what]) (h3 : Has w g3 26 #[.int .i64 0, .int .i64 0]) : Calls Tryz.prog 28 #[.agg (nodeC x), .pointer (some ⟨g1, 0, none⟩), .pointer (some ⟨g2, 0, none⟩), .pointer (some ⟨g3, 0, none⟩)] w fun e w' => e = .returned (.bool (wroteN id what x)) ∧ Below w.heap.size w w' := by
  have HB0 := Lib.hid ((Below.refl w.heap.size w).alloc (Nat.le_refl _) (.cells (nodeC x) 60))
  have HX := Lib.hid (Has.fresh w 60 (nodeC x))
  have H1 := Lib.hid (h1.past (.cells (nodeC x) 60))
  have H3 := Lib.hid (h3.past (.cells (nodeC x) 60))
  have c2 : (w.alloc (.cells (nodeC x) 60)).cell? ⟨g2, 0, none⟩ = some (.int .i64 what) := (h2.past (.cells (nodeC x) 60)).at_ 0
  have q1 := fun W => eql_st x.p.id.1 x.p.id.2 id.1 id.2 W
  have q2 := fun W => neq_st x.p.aat.1 x.p.aat.2 0 0 W
  have q3 := fun W => neq_st x.p.sat.1 x.p.sat.2 0 0 W
  unfold stC at q1 q2 q3
  have HD := Lib.hid (show wroteN id what x = ((x.p.id.1 == id.1 && x.p.id.2 == id.2) && ((decide (what = 1) && !(x.p.aat.1 == 0 && x.p.aat.2 == 0)) || (decide (what = 2) && !(x.p.sat.1 == 0 && x.p.sat.2 == 0)))) from rfl)
  obtain ⟨z1, hz1⟩ : ∃ z1, z1 = (x.p.id.1 == id.1 && x.p.id.2 == id.2) := ⟨_, rfl⟩
  obtain ⟨z2, hz2⟩ : ∃ z2, z2 = (x.p.aat.1 == 0 && x.p.aat.2 == 0) := ⟨_, rfl⟩
  obtain ⟨z3, hz3⟩ : ∃ z3, z3 = (x.p.sat.1 == 0 && x.p.sat.2 == 0) := ⟨_, rfl⟩
  rw [← hz1] at q1 HD
  rw [← hz2] at q2 HD
  rw [← hz3] at q3 HD
  clear hz1 hz2 hz3 h1 h2 h3
  go_enter Tryz.func28, Tryz.ntmps28
  cases z1 with
  | false =>
    go_wp2_with (first | ((with_reducible refine Who.wpList_loadC 26 (.tmp 6) rfl (w.heap.size) 0 (#[.int .i64 x.p.id.1, .int .i64 x.p.id.2]) ?_); refine And.intro ⟨by rfl, by rfl, ⟨_, Tryz.underlying26, rfl⟩, Sr.info_st⟩ (And.intro (Sr.nid_range HX.out) ?_); (try simp only [Act.put, List.setIfInBounds_toArray, List.set_cons_zero, List.set_cons_succ])) | ((with_reducible refine Who.wpList_loadC 26 (.tmp 1) rfl (g1) 0 (#[.int .i64 id.1, .int .i64 id.2]) ?_); refine And.intro ⟨by rfl, by rfl, ⟨_, Tryz.underlying26, rfl⟩, Sr.info_st⟩ (And.intro (Who.has_range H1.out) ?_); (try simp only [Act.put, List.setIfInBounds_toArray, List.set_cons_zero, List.set_cons_succ])) | fail)
    go_ret
    exact ⟨by rw [HD.out]; rfl, HB0.out⟩
  | true =>
    by_cases e1 : what = 1
    · have e2 : ¬ what = 2 := by omega
      have HE := Lib.hid (show wroteN id what x = !z2 by rw [HD.out, decide_eq_true e1, decide_eq_false e2]; cases z2 <;> rfl)
      cases z2 with
      | true =>
        go_wp2_with (first | ((with_reducible refine Who.wpList_loadC 26 (.tmp 6) rfl (w.heap.size) 0 (#[.int .i64 x.p.id.1, .int .i64 x.p.id.2]) ?_); refine And.intro ⟨by rfl, by rfl, ⟨_, Tryz.underlying26, rfl⟩, Sr.info_st⟩ (And.intro (Sr.nid_range HX.out) ?_); (try simp only [Act.put, List.setIfInBounds_toArray, List.set_cons_zero, List.set_cons_succ])) | ((with_reducible refine Who.wpList_loadC 26 (.tmp 1) rfl (g1) 0 (#[.int .i64 id.1, .int .i64 id.2]) ?_); refine And.intro ⟨by rfl, by rfl, ⟨_, Tryz.underlying26, rfl⟩, Sr.info_st⟩ (And.intro (Who.has_range H1.out) ?_); (try simp only [Act.put, List.setIfInBounds_toArray, List.set_cons_zero, List.set_cons_succ])) | ((with_reducible refine Who.wpList_loadC 26 (.tmp 15) rfl (w.heap.size) 4 (#[.int .i64 x.p.aat.1, .int .i64 x.p.aat.2]) ?_); refine And.intro ⟨by rfl, by rfl, ⟨_, Tryz.underlying26, rfl⟩, Sr.info_st⟩ (And.intro (Sr.aat_range HX.out) ?_); (try simp only [Act.put, List.setIfInBounds_toArray, List.set_cons_zero, List.set_cons_succ])) | ((with_reducible refine Who.wpList_loadC 26 (.tmp 3) rfl (g3) 0 (#[.int .i64 0, .int .i64 0]) ?_); refine And.intro ⟨by rfl, by rfl, ⟨_, Tryz.underlying26, rfl⟩, Sr.info_st⟩ (And.intro (Who.has_range H3.out) ?_); (try simp only [Act.put, List.setIfInBounds_toArray, List.set_cons_zero, List.set_cons_succ])) | fail)
        go_ret
        exact ⟨by rw [HE.out]; rfl, HB0.out⟩
      | false =>
        go_wp2_with (first | ((with_reducible refine Who.wpList_loadC 26 (.tmp 6) rfl (w.heap.size) 0 (#[.int .i64 x.p.id.1, .int .i64 x.p.id.2]) ?_); refine And.intro ⟨by rfl, by rfl, ⟨_, Tryz.underlying26, rfl⟩, Sr.info_st⟩ (And.intro (Sr.nid_range HX.out) ?_); (try simp only [Act.put, List.setIfInBounds_toArray, List.set_cons_zero, List.set_cons_succ])) | ((with_reducible refine Who.wpList_loadC 26 (.tmp 1) rfl (g1) 0 (#[.int .i64 id.1, .int .i64 id.2]) ?_); refine And.intro ⟨by rfl, by rfl, ⟨_, Tryz.underlying26, rfl⟩, Sr.info_st⟩ (And.intro (Who.has_range H1.out) ?_); (try simp only [Act.put, List.setIfInBounds_toArray, List.set_cons_zero, List.set_cons_succ])) | ((with_reducible refine Who.wpList_loadC 26 (.tmp 15) rfl (w.heap.size) 4 (#[.int .i64 x.p.aat.1, .int .i64 x.p.aat.2]) ?_); refine And.intro ⟨by rfl, by rfl, ⟨_, Tryz.underlying26, rfl⟩, Sr.info_st⟩ (And.intro (Sr.aat_range HX.out) ?_); (try simp only [Act.put, List.setIfInBounds_toArray, List.set_cons_zero, List.set_cons_succ])) | ((with_reducible refine Who.wpList_loadC 26 (.tmp 3) rfl (g3) 0 (#[.int .i64 0, .int .i64 0]) ?_); refine And.intro ⟨by rfl, by rfl, ⟨_, Tryz.underlying26, rfl⟩, Sr.info_st⟩ (And.intro (Who.has_range H3.out) ?_); (try simp only [Act.put, List.setIfInBounds_toArray, List.set_cons_zero, List.set_cons_succ])) | fail)
        go_ret
        exact ⟨by rw [HE.out]; rfl, HB0.out⟩
    · by_cases e2 : what = 2
      · have HE := Lib.hid (show wroteN id what x = !z3 by rw [HD.out, decide_eq_false e1, decide_eq_true e2]; cases z3 <;> rfl)
        cases z3 with
        | true =>
          go_wp2_with (first | ((with_reducible refine Who.wpList_loadC 26 (.tmp 6) rfl (w.heap.size) 0 (#[.int .i64 x.p.id.1, .int .i64 x.p.id.2]) ?_); refine And.intro ⟨by rfl, by rfl, ⟨_, Tryz.underlying26, rfl⟩, Sr.info_st⟩ (And.intro (Sr.nid_range HX.out) ?_); (try simp only [Act.put, List.setIfInBounds_toArray, List.set_cons_zero, List.set_cons_succ])) | ((with_reducible refine Who.wpList_loadC 26 (.tmp 1) rfl (g1) 0 (#[.int .i64 id.1, .int .i64 id.2]) ?_); refine And.intro ⟨by rfl, by rfl, ⟨_, Tryz.underlying26, rfl⟩, Sr.info_st⟩ (And.intro (Who.has_range H1.out) ?_); (try simp only [Act.put, List.setIfInBounds_toArray, List.set_cons_zero, List.set_cons_succ])) | ((with_reducible refine Who.wpList_loadC 26 (.tmp 25) rfl (w.heap.size) 8 (#[.int .i64 x.p.sat.1, .int .i64 x.p.sat.2]) ?_); refine And.intro ⟨by rfl, by rfl, ⟨_, Tryz.underlying26, rfl⟩, Sr.info_st⟩ (And.intro (Sr.sat_range HX.out) ?_); (try simp only [Act.put, List.setIfInBounds_toArray, List.set_cons_zero, List.set_cons_succ])) | ((with_reducible refine Who.wpList_loadC 26 (.tmp 3) rfl (g3) 0 (#[.int .i64 0, .int .i64 0]) ?_); refine And.intro ⟨by rfl, by rfl, ⟨_, Tryz.underlying26, rfl⟩, Sr.info_st⟩ (And.intro (Who.has_range H3.out) ?_); (try simp only [Act.put, List.setIfInBounds_toArray, List.set_cons_zero, List.set_cons_succ])) | fail)
          go_ret
          exact ⟨by rw [HE.out]; rfl, HB0.out⟩
        | false =>
          go_wp2_with (first | ((with_reducible refine Who.wpList_loadC 26 (.tmp 6) rfl (w.heap.size) 0 (#[.int .i64 x.p.id.1, .int .i64 x.p.id.2]) ?_); refine And.intro ⟨by rfl, by rfl, ⟨_, Tryz.underlying26, rfl⟩, Sr.info_st⟩ (And.intro (Sr.nid_range HX.out) ?_); (try simp only [Act.put, List.setIfInBounds_toArray, List.set_cons_zero, List.set_cons_succ])) | ((with_reducible refine Who.wpList_loadC 26 (.tmp 1) rfl (g1) 0 (#[.int .i64 id.1, .int .i64 id.2]) ?_); refine And.intro ⟨by rfl, by rfl, ⟨_, Tryz.underlying26, rfl⟩, Sr.info_st⟩ (And.intro (Who.has_range H1.out) ?_); (try simp only [Act.put, List.setIfInBounds_toArray, List.set_cons_zero, List.set_cons_succ])) | ((with_reducible refine Who.wpList_loadC 26 (.tmp 25) rfl (w.heap.size) 8 (#[.int .i64 x.p.sat.1, .int .i64 x.p.sat.2]) ?_); refine And.intro ⟨by rfl, by rfl, ⟨_, Tryz.underlying26, rfl⟩, Sr.info_st⟩ (And.intro (Sr.sat_range HX.out) ?_); (try simp only [Act.put, List.setIfInBounds_toArray, List.set_cons_zero, List.set_cons_succ])) | ((with_reducible refine Who.wpList_loadC 26 (.tmp 3) rfl (g3) 0 (#[.int .i64 0, .int .i64 0]) ?_); refine And.intro ⟨by rfl, by rfl, ⟨_, Tryz.underlying26, rfl⟩, Sr.info_st⟩ (And.intro (Who.has_range H3.out) ?_); (try simp only [Act.put, List.setIfInBounds_toArray, List.set_cons_zero, List.set_cons_succ])) | fail)
          go_ret
          exact ⟨by rw [HE.out]; rfl, HB0.out⟩
      · have HE := Lib.hid (show wroteN id what x = false by rw [HD.out, decide_eq_false e1, decide_eq_false e2]; cases z2 <;> cases z3 <;> rfl)
        go_wp2_with (first | ((with_reducible refine Who.wpList_loadC 26 (.tmp 6) rfl (w.heap.size) 0 (#[.int .i64 x.p.id.1, .int .i64 x.p.id.2]) ?_); refine And.intro ⟨by rfl, by rfl, ⟨_, Tryz.underlying26, rfl⟩, Sr.info_st⟩ (And.intro (Sr.nid_range HX.out) ?_); (try simp only [Act.put, List.setIfInBounds_toArray, List.set_cons_zero, List.set_cons_succ])) | ((with_reducible refine Who.wpList_loadC 26 (.tmp 1) rfl (g1) 0 (#[.int .i64 id.1, .int .i64 id.2]) ?_); refine And.intro ⟨by rfl, by rfl, ⟨_, Tryz.underlying26, rfl⟩, Sr.info_st⟩ (And.intro (Who.has_range H1.out) ?_); (try simp only [Act.put, List.setIfInBounds_toArray, List.set_cons_zero, List.set_cons_succ])) | fail)
        go_ret
        exact ⟨by rw [HE.out]; rfl, HB0.out⟩
set_option maxRecDepth 100000 in
set_option maxHeartbeats 2000000 in
theorem writers2_any (k : LinkP) (id : Int × Int) (what : Int) (g1 g2 g3 : Nat) (w : World) (h1 : Has w g1 26 #[.int .i64 id.1, .int .i64 id.2]) (h2 : Has w g2 3 #[.int .i64 what]) (h3 : Has w g3 26 #[.int .i64 0, .int .i64 0]) : Calls Tryz.prog 29 #[.agg (linkC k), .pointer (some ⟨g1, 0, none⟩), .pointer (some ⟨g2, 0, none⟩), .pointer (some ⟨g3, 0, none⟩)] w fun e w' => e = .returned (.bool (wroteL id what k)) ∧ Below w.heap.size w w' := by
  have HB0 := Lib.hid ((Below.refl w.heap.size w).alloc (Nat.le_refl _) (.cells (linkC k) 63))
  have HX := Lib.hid (Has.fresh w 63 (linkC k))
  have H1 := Lib.hid (h1.past (.cells (linkC k) 63))
  have H3 := Lib.hid (h3.past (.cells (linkC k) 63))
  have c2 : (w.alloc (.cells (linkC k) 63)).cell? ⟨g2, 0, none⟩ = some (.int .i64 what) := (h2.past (.cells (linkC k) 63)).at_ 0
  have q1 := fun W => eql_st k.id.1 k.id.2 id.1 id.2 W
  have q2 := fun W => neq_st k.at_.1 k.at_.2 0 0 W
  unfold stC at q1 q2
  have HD := Lib.hid (show wroteL id what k = ((k.id.1 == id.1 && k.id.2 == id.2) && decide (what = 3) && !(k.at_.1 == 0 && k.at_.2 == 0)) from rfl)
  obtain ⟨z1, hz1⟩ : ∃ z1, z1 = (k.id.1 == id.1 && k.id.2 == id.2) := ⟨_, rfl⟩
  obtain ⟨z2, hz2⟩ : ∃ z2, z2 = (k.at_.1 == 0 && k.at_.2 == 0) := ⟨_, rfl⟩
  rw [← hz1] at q1 HD
  rw [← hz2] at q2 HD
  clear hz1 hz2 h1 h2 h3
  go_enter Tryz.func29, Tryz.ntmps29
  cases z1 with
  | false =>
    go_wp2_with (first | ((with_reducible refine Who.wpList_loadC 26 (.tmp 6) rfl (w.heap.size) 0 (#[.int .i64 k.id.1, .int .i64 k.id.2]) ?_); refine And.intro ⟨by rfl, by rfl, ⟨_, Tryz.underlying26, rfl⟩, Sr.info_st⟩ (And.intro (Sr.id_range HX.out) ?_); (try simp only [Act.put, List.setIfInBounds_toArray, List.set_cons_zero, List.set_cons_succ])) | ((with_reducible refine Who.wpList_loadC 26 (.tmp 1) rfl (g1) 0 (#[.int .i64 id.1, .int .i64 id.2]) ?_); refine And.intro ⟨by rfl, by rfl, ⟨_, Tryz.underlying26, rfl⟩, Sr.info_st⟩ (And.intro (Who.has_range H1.out) ?_); (try simp only [Act.put, List.setIfInBounds_toArray, List.set_cons_zero, List.set_cons_succ])) | fail)
    go_ret
    exact ⟨by rw [HD.out]; rfl, HB0.out⟩
  | true =>
    by_cases e1 : what = 3
    · have HE := Lib.hid (show wroteL id what k = !z2 by rw [HD.out, decide_eq_true e1]; cases z2 <;> rfl)
      go_wp2_with (first | ((with_reducible refine Who.wpList_loadC 26 (.tmp 6) rfl (w.heap.size) 0 (#[.int .i64 k.id.1, .int .i64 k.id.2]) ?_); refine And.intro ⟨by rfl, by rfl, ⟨_, Tryz.underlying26, rfl⟩, Sr.info_st⟩ (And.intro (Sr.id_range HX.out) ?_); (try simp only [Act.put, List.setIfInBounds_toArray, List.set_cons_zero, List.set_cons_succ])) | ((with_reducible refine Who.wpList_loadC 26 (.tmp 1) rfl (g1) 0 (#[.int .i64 id.1, .int .i64 id.2]) ?_); refine And.intro ⟨by rfl, by rfl, ⟨_, Tryz.underlying26, rfl⟩, Sr.info_st⟩ (And.intro (Who.has_range H1.out) ?_); (try simp only [Act.put, List.setIfInBounds_toArray, List.set_cons_zero, List.set_cons_succ])) | ((with_reducible refine Who.wpList_loadC 26 (.tmp 15) rfl (w.heap.size) 4 (#[.int .i64 k.at_.1, .int .i64 k.at_.2]) ?_); refine And.intro ⟨by rfl, by rfl, ⟨_, Tryz.underlying26, rfl⟩, Sr.info_st⟩ (And.intro (Sr.at_range HX.out) ?_); (try simp only [Act.put, List.setIfInBounds_toArray, List.set_cons_zero, List.set_cons_succ])) | ((with_reducible refine Who.wpList_loadC 26 (.tmp 3) rfl (g3) 0 (#[.int .i64 0, .int .i64 0]) ?_); refine And.intro ⟨by rfl, by rfl, ⟨_, Tryz.underlying26, rfl⟩, Sr.info_st⟩ (And.intro (Who.has_range H3.out) ?_); (try simp only [Act.put, List.setIfInBounds_toArray, List.set_cons_zero, List.set_cons_succ])) | fail)
      go_ret
      exact ⟨by rw [HE.out]; rfl, HB0.out⟩
    · have HE := Lib.hid (show wroteL id what k = false by rw [HD.out, decide_eq_false e1]; cases z2 <;> rfl)
      go_wp2_with (first | ((with_reducible refine Who.wpList_loadC 26 (.tmp 6) rfl (w.heap.size) 0 (#[.int .i64 k.id.1, .int .i64 k.id.2]) ?_); refine And.intro ⟨by rfl, by rfl, ⟨_, Tryz.underlying26, rfl⟩, Sr.info_st⟩ (And.intro (Sr.id_range HX.out) ?_); (try simp only [Act.put, List.setIfInBounds_toArray, List.set_cons_zero, List.set_cons_succ])) | ((with_reducible refine Who.wpList_loadC 26 (.tmp 1) rfl (g1) 0 (#[.int .i64 id.1, .int .i64 id.2]) ?_); refine And.intro ⟨by rfl, by rfl, ⟨_, Tryz.underlying26, rfl⟩, Sr.info_st⟩ (And.intro (Who.has_range H1.out) ?_); (try simp only [Act.put, List.setIfInBounds_toArray, List.set_cons_zero, List.set_cons_succ])) | fail)
      go_ret
      exact ⟨by rw [HE.out]; rfl, HB0.out⟩
set_option maxRecDepth 100000 in
set_option maxHeartbeats 2000000 in
theorem writers3_any (e : Fc.EventC) (id : Int × Int) (what : Int) (g1 g2 g3 g4 g5 : Nat) (t4 t5 : TypeId) (w : World) (hf : Fc.StateFit w e.d) (h1 : Has w g1 26 #[.int .i64 id.1, .int .i64 id.2]) (h2 : Has w g2 3 #[.int .i64 what]) (h3 : Has w g3 26 #[.int .i64 0, .int .i64 0])
    (h4 : Has w g4 t4 #[.func (.func 28) #[] #[.pointer (some ⟨g1, 0, none⟩), .pointer (some ⟨g2, 0, none⟩), .pointer (some ⟨g3, 0, none⟩)]]) (h5 : Has w g5 t5 #[.func (.func 29) #[] #[.pointer (some ⟨g1, 0, none⟩), .pointer (some ⟨g2, 0, none⟩), .pointer (some ⟨g3, 0, none⟩)]]) :
    Calls Tryz.prog 30 #[.agg (Fc.eventC e), .pointer (some ⟨g4, 0, none⟩), .pointer (some ⟨g5, 0, none⟩)] w fun q w' => q = .returned (.bool (wroteE id what e)) ∧ Below w.heap.size w w' := by
  have hb0 := (Below.refl w.heap.size w).alloc (Nat.le_refl _) (.cells (Fc.eventC e) 34)
  have HB0 := Lib.hid hb0
  have HX := Lib.hid (Has.fresh w 34 (Fc.eventC e))
  have k1 := h1.past (.cells (Fc.eventC e) 34)
  have k2 := h2.past (.cells (Fc.eventC e) 34)
  have k3 := h3.past (.cells (Fc.eventC e) 34)
  have H5 := Lib.hid (h5.past (.cells (Fc.eventC e) 34))
  have c4 : (w.alloc (.cells (Fc.eventC e) 34)).cell? ⟨g4, 0, none⟩ = some (.func (.func 28) #[] #[.pointer (some ⟨g1, 0, none⟩), .pointer (some ⟨g2, 0, none⟩), .pointer (some ⟨g3, 0, none⟩)]) := (h4.past (.cells (Fc.eventC e) 34)).at_ 0
  have c19 : (w.alloc (.cells (Fc.eventC e) 34)).cell? ⟨w.heap.size, 19, none⟩ = some (.slice e.d.A1 e.d.n1 e.d.c1) := HX.out.at_ 19
  have HF := Lib.hid (hf.below hb0)
  have HC1 := Lib.hid (contains_node e.d.A1 e.d.n1 e.d.c1 e.d.nodes 28 #[.pointer (some ⟨g1, 0, none⟩), .pointer (some ⟨g2, 0, none⟩), .pointer (some ⟨g3, 0, none⟩)] (fun args V => enters Tryz.func28 (by kernel_rfl) rfl args V) (wroteN id what) HF.out.m1 _ HF.out.nodes (fun V hV x _ => writers1_any x id what g1 g2 g3 V (k1.below hV) (k2.below hV) (k3.below hV)))
  have HK := Lib.hid (And.intro k1 (And.intro k2 k3))
  have HD := Lib.hid (show wroteE id what e = (e.d.nodes.any (wroteN id what) || e.d.links.any (wroteL id what)) from rfl)
  clear hf h1 h2 h3 h4 h5 k1 k2 k3 hb0
  go_enter Tryz.func30, Tryz.ntmps30
  go_wp2_with fail
  refine HC1.out.mono ?_
  rintro q w2 ⟨rfl, hb⟩
  have HB2 := Lib.hid (HB0.out.trans (hb.mono HB0.out.size))
  have HX2 := Lib.hid (HX.out.below hb)
  have HF2 := Lib.hid (HF.out.below hb)
  have HK2 := Lib.hid (And.intro (HK.out.1.below hb) (And.intro (HK.out.2.1.below hb) (HK.out.2.2.below hb)))
  have c5 : w2.cell? ⟨g5, 0, none⟩ = some (.func (.func 29) #[] #[.pointer (some ⟨g1, 0, none⟩), .pointer (some ⟨g2, 0, none⟩), .pointer (some ⟨g3, 0, none⟩)]) := (H5.out.below hb).at_ 0
  have c20 : w2.cell? ⟨w.heap.size, 20, none⟩ = some (.slice e.d.A2 e.d.n2 e.d.c2) := HX2.out.at_ 20
  clear hb c19 c4 HC1 HF HK
  cases hq1 : e.d.nodes.any (wroteN id what) with
  | true =>
    have HE := Lib.hid (show wroteE id what e = true by rw [HD.out, hq1]; rfl)
    clear hq1
    go_wp2_with fail
    go_ret
    exact ⟨by rw [HE.out]; rfl, HB2.out⟩
  | false =>
    have HE := Lib.hid (show wroteE id what e = e.d.links.any (wroteL id what) by rw [HD.out, hq1]; rfl)
    have HC2 := Lib.hid (contains_link e.d.A2 e.d.n2 e.d.c2 e.d.links 29 #[.pointer (some ⟨g1, 0, none⟩), .pointer (some ⟨g2, 0, none⟩), .pointer (some ⟨g3, 0, none⟩)] (fun args V => enters Tryz.func29 (by kernel_rfl) rfl args V) (wroteL id what) HF2.out.m2 _ HF2.out.links (fun V hV x _ => writers2_any x id what g1 g2 g3 V (HK2.out.1.below hV) (HK2.out.2.1.below hV) (HK2.out.2.2.below hV)))
    clear hq1
    go_wp2_with fail
    refine HC2.out.mono ?_
    rintro q w3 ⟨rfl, hb⟩
    have HB3 := Lib.hid (HB2.out.trans (hb.mono HB2.out.size))
    clear hb
    go_wp2
    go_ret
    exact ⟨by rw [HE.out]; rfl, HB3.out⟩
end Go.Proofs.YtigkdoicmcdbhaaGreat.Md
