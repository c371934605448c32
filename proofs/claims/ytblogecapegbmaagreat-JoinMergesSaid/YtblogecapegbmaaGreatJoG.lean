/- Join: the document's Link. -/
import Derived.Test.YtblogecapegbmaaGreatJoF
import Derived.Test.YtblogecapegbmaaGreatJnRow
import Derived.Test.YtblogecapegbmaaGreatVcE
namespace Go.Proofs.YtblogecapegbmaaGreat.Jn
open Go.RowKit Go.Proofs.YtblogecapegbmaaGreat.Mem
open Go.Proofs.YtblogecapegbmaaGreat.Vc (joinV vecC stC)
set_option linter.unusedVariables false set_option linter.unusedSimpArgs false

theorem ltL_eq (a b : Fc.LinkP) : ltL (plL a) (plL b) = (Vc.lessB a.at_.1 a.at_.2 b.at_.1 b.at_.2 || (decide (a.at_ = b.at_) && (Vc.lessB a.par.1 a.par.2 b.par.1 b.par.2 || (decide (a.par = b.par) && Op.bytesLess a.name.toList b.name.toList)))) := rfl
theorem op_true {a b : Fc.LinkP} (h : ltL (plL a) (plL b) = true) : opL a b = ⟨a.id, top stLt a.node b.node, b.at_, b.par, b.name, joinV a.al b.al, joinV a.de b.de⟩ := by unfold opL; rw [show top ltL (plL a) (plL b) = plL b from if_pos h]; rfl
theorem op_false {a b : Fc.LinkP} (h : ltL (plL a) (plL b) = false) : opL a b = ⟨a.id, top stLt a.node b.node, a.at_, a.par, a.name, joinV a.al b.al, joinV a.de b.de⟩ := by unfold opL; rw [show top ltL (plL a) (plL b) = plL a from if_neg (by rw [h]; simp)]; rfl
theorem link_par {w : World} {g : Nat} {t : TypeId} {x : Fc.LinkP} (h : Has w g t (Fc.linkC x)) : w.rangeAt g 6 (#[.int .i64 x.par.1, .int .i64 x.par.2] : Array Value).toList := range_of h fun j hj => by
 match j, (show j < 2 from hj) with
 | 0, _ | 1, _ => rfl
/-- What the walk keeps: both boxes, what is returned, and c. -/
structure LnI (w wr : World) (a b c : Fc.LinkP) : Prop where
 below : Below w.heap.size w wr
 ha : Has wr w.heap.size 51 (Fc.linkC a)
 hb : Has wr (w.heap.size + 1) 51 (Fc.linkC b)
 hz : Has wr (w.heap.size + 1 + 1) 51 zeroL
 hc : Has wr (w.heap.size + 1 + 1 + 1) 51 (Fc.linkC c)
theorem LnI.low {w wr w2 : World} {a b c : Fc.LinkP} (h : LnI w wr a b c) (hb : Below wr.heap.size wr w2) : LnI w w2 a b c := ⟨h.below.trans (hb.mono h.below.size), h.ha.below hb, h.hb.below hb, h.hz.below hb, h.hc.below hb⟩
theorem LnI.put {w wr w2 : World} {a b c d : Fc.LinkP} (h : LnI w wr a b c) (hx : Has w2 (w.heap.size + 1 + 1 + 1) 51 (Fc.linkC d)) (hc : Chg (· = w.heap.size + 1 + 1 + 1) wr w2) : LnI w w2 a b d := ⟨below_step h.below hc (by omega), h.ha.over hc (by omega), h.hb.over hc (by omega), h.hz.over hc (by omega), hx⟩
set_option maxRecDepth 100000 in
set_option maxHeartbeats 16000000 in
theorem rlink_one (a b : Fc.LinkP) (ha : a.name.size ≤ maxLen) (hb : b.name.size ≤ maxLen) (w : World) : Calls Tryz.prog 95 #[.agg (Fc.linkC a), .agg (Fc.linkC b)] w fun e w' => e = .returned (.agg (Fc.linkC (opL a b))) ∧ Below w.heap.size w w' := by
 have HS := Lib.hid (fun V => rsless_any a.name b.name ha hb V)
 have h3 := Has.fresh (w.alloc (.cells (Fc.linkC a) 51)) 51 (Fc.linkC b)
 have h4 := Has.fresh ((w.alloc (.cells (Fc.linkC a) 51)).alloc (.cells (Fc.linkC b) 51)) 51 zeroL
 have h5 := Has.fresh (((w.alloc (.cells (Fc.linkC a) 51)).alloc (.cells (Fc.linkC b) 51)).alloc (.cells zeroL 51)) 51 (Fc.linkC a)
 rw [World.size_alloc] at h3
 rw [World.size_alloc, World.size_alloc] at h4
 rw [World.size_alloc, World.size_alloc, World.size_alloc] at h5
 have HA1 := Lib.hid (((Has.fresh w 51 (Fc.linkC a)).past (.cells (Fc.linkC b) 51)).past (.cells zeroL 51))
 have H0 := Lib.hid (show LnI w ((((w.alloc (.cells (Fc.linkC a) 51)).alloc (.cells (Fc.linkC b) 51)).alloc (.cells zeroL 51)).alloc (.cells (Fc.linkC a) 51)) a b a from ⟨((((Below.refl w.heap.size w).alloc (Nat.le_refl _) _).alloc (by simp) _).alloc (by simp; omega) _).alloc (by simp; omega) _, HA1.out.past _, (h3.past _).past _, h4.past _, h5⟩)
 clear ha hb h3 h4 h5
 go_enter Tryz.func95, Tryz.ntmps95
 go_wp2_with (first | ((with_reducible refine Who.wpList_alloc 51 4 rfl rfl rfl (zeroL) allocL ?_); (try simp only [World.size_alloc])) | ((with_reducible refine Who.wpList_loadC 51 (.tmp 2) rfl (w.heap.size) 0 (Fc.linkC a) ?_); refine And.intro ⟨by rfl, by rfl, ⟨_, Tryz.underlying51, rfl⟩, info_link⟩ (And.intro (Who.has_range HA1.out) ?_)) | ((with_reducible refine Who.wpList_newC 51 5 (.tmp 6) rfl rfl rfl (zeroL) (Fc.linkC a) ?_); refine And.intro ⟨rfl, rfl, rfl, allocL, by rfl, by rfl, info_link, rfl, own1 a⟩ ?_; (try simp only [World.size_alloc])) | ((with_reducible refine Who.wpList_loadC 37 (.tmp 7) rfl (w.heap.size) 4 (#[.int .i64 a.at_.1, .int .i64 a.at_.2]) ?_); refine And.intro ⟨by rfl, by rfl, ⟨_, Tryz.underlying37, rfl⟩, info_st⟩ (And.intro (link_at H0.out.ha) ?_)) | ((with_reducible refine Who.wpList_loadC 37 (.tmp 9) rfl (w.heap.size + 1) 4 (#[.int .i64 b.at_.1, .int .i64 b.at_.2]) ?_); refine And.intro ⟨by rfl, by rfl, ⟨_, Tryz.underlying37, rfl⟩, info_st⟩ (And.intro (link_at H0.out.hb) ?_)) | fail)
 refine (Vc.rless_any a.at_.1 a.at_.2 b.at_.1 b.at_.2 _).mono ?_
 rintro e w1 ⟨rfl, hb⟩
 have H1 := Lib.hid (H0.out.low hb)
 clear hb H0 HA1
 cases hL1 : Vc.lessB a.at_.1 a.at_.2 b.at_.1 b.at_.2 with
 | true =>
  have HL1 := Lib.hid hL1
  clear hL1
  have HOP := Lib.hid (op_true (a := a) (b := b) (by rw [ltL_eq, HL1.out]; rfl))
  go_wp2_with (first | ((with_reducible refine Who.wpList_loadC 37 (.tmp 40) rfl (w.heap.size + 1) 4 (#[.int .i64 b.at_.1, .int .i64 b.at_.2]) ?_); refine And.intro ⟨by rfl, by rfl, ⟨_, Tryz.underlying37, rfl⟩, info_st⟩ (And.intro (link_at H1.out.hb) ?_)) | ((with_reducible refine wpList_storeH (T := 51) 37 (.tmp 42) (.tmp 41) rfl (w.heap.size + 1 + 1 + 1) 4 (Fc.linkC a) (#[.int .i64 b.at_.1, .int .i64 b.at_.2]) (Fc.linkC { a with at_ := b.at_ }) ?_); refine And.intro ⟨rfl, by rfl, by rfl, info_st, st_one _ _, of_decide_eq_true rfl, by kernel_rfl, H1.out.hc⟩ ?_; intro W20 HX20 HC20; have M20 := Lib.hid (H1.out.put HX20.out HC20.out)) | ((with_reducible refine Who.wpList_loadC 37 (.tmp 43) rfl (w.heap.size + 1) 6 (#[.int .i64 b.par.1, .int .i64 b.par.2]) ?_); refine And.intro ⟨by rfl, by rfl, ⟨_, Tryz.underlying37, rfl⟩, info_st⟩ (And.intro (link_par M20.out.hb) ?_)) | ((with_reducible refine wpList_storeH (T := 51) 37 (.tmp 45) (.tmp 44) rfl (w.heap.size + 1 + 1 + 1) 6 (Fc.linkC { a with at_ := b.at_ }) (#[.int .i64 b.par.1, .int .i64 b.par.2]) (Fc.linkC { a with at_ := b.at_, par := b.par }) ?_); refine And.intro ⟨rfl, by rfl, by rfl, info_st, st_one _ _, of_decide_eq_true rfl, by kernel_rfl, M20.out.hc⟩ ?_; intro W21 HX21 HC21; have M21 := Lib.hid (M20.out.put HX21.out HC21.out); have cn : W21.cell? ⟨w.heap.size + 1, 8, none⟩ = some (.string b.name) := M21.out.hb.at_ 8) | ((with_reducible refine wpList_cell (T := 51) 9 (.tmp 48) (.tmp 47) rfl (w.heap.size + 1 + 1 + 1) 8 (Fc.linkC { a with at_ := b.at_, par := b.par }) (Fc.linkC { a with at_ := b.at_, par := b.par, name := b.name }) (.string b.name) ?_); refine And.intro ⟨rfl, rfl, by rfl, by rfl, info_str, rfl, of_decide_eq_true rfl, by kernel_rfl, M21.out.hc⟩ ?_; intro W22 HX22 HC22; have M22 := Lib.hid (M21.out.put HX22.out HC22.out)) | ((with_reducible refine Who.wpList_loadC 37 (.tmp 49) rfl (w.heap.size) 2 (#[.int .i64 a.node.1, .int .i64 a.node.2]) ?_); refine And.intro ⟨by rfl, by rfl, ⟨_, Tryz.underlying37, rfl⟩, info_st⟩ (And.intro (link_node M22.out.ha) ?_)) | ((with_reducible refine Who.wpList_loadC 37 (.tmp 51) rfl (w.heap.size + 1) 2 (#[.int .i64 b.node.1, .int .i64 b.node.2]) ?_); refine And.intro ⟨by rfl, by rfl, ⟨_, Tryz.underlying37, rfl⟩, info_st⟩ (And.intro (link_node M22.out.hb) ?_)) | fail)
  refine (Vc.rlater_any a.node.1 a.node.2 b.node.1 b.node.2 _).mono ?_
  rintro e v30 ⟨rfl, hb⟩
  rw [later_top a.node b.node]
  have K30 := Lib.hid (M22.out.low hb)
  clear hb
  go_wp2_with (first | ((with_reducible refine wpList_storeH (T := 51) 37 (.tmp 54) (.tmp 53) rfl (w.heap.size + 1 + 1 + 1) 2 (Fc.linkC { a with at_ := b.at_, par := b.par, name := b.name }) (#[.int .i64 (top stLt a.node b.node).1, .int .i64 (top stLt a.node b.node).2]) (Fc.linkC { { a with at_ := b.at_, par := b.par, name := b.name } with node := top stLt a.node b.node }) ?_); refine And.intro ⟨rfl, by rfl, by rfl, info_st, st_one _ _, of_decide_eq_true rfl, by kernel_rfl, K30.out.hc⟩ ?_; intro W30 HX30 HC30; have L30 := Lib.hid (K30.out.put HX30.out HC30.out)) | ((with_reducible refine Who.wpList_loadC 23 (.tmp 55) rfl (w.heap.size) 9 (vecC a.al) ?_); refine And.intro ⟨by rfl, by rfl, ⟨_, Tryz.underlying23, rfl⟩, info_vec⟩ (And.intro (link_al L30.out.ha) ?_)) | ((with_reducible refine Who.wpList_loadC 23 (.tmp 57) rfl (w.heap.size + 1) 9 (vecC b.al) ?_); refine And.intro ⟨by rfl, by rfl, ⟨_, Tryz.underlying23, rfl⟩, info_vec⟩ (And.intro (link_al L30.out.hb) ?_)) | fail)
  refine (Vc.rjoin_any a.al b.al _).mono ?_
  rintro e v31 ⟨rfl, hb⟩
  have K31 := Lib.hid (L30.out.low hb)
  clear hb
  go_wp2_with (first | ((with_reducible refine wpList_storeH (T := 51) 23 (.tmp 60) (.tmp 59) rfl (w.heap.size + 1 + 1 + 1) 9 (Fc.linkC { { a with at_ := b.at_, par := b.par, name := b.name } with node := top stLt a.node b.node }) (vecC (joinV a.al b.al)) (Fc.linkC { { a with at_ := b.at_, par := b.par, name := b.name } with node := top stLt a.node b.node, al := joinV a.al b.al }) ?_); refine And.intro ⟨rfl, by rfl, by rfl, info_vec, vec_one _, of_decide_eq_true rfl, by kernel_rfl, K31.out.hc⟩ ?_; intro W31 HX31 HC31; have L31 := Lib.hid (K31.out.put HX31.out HC31.out)) | ((with_reducible refine Who.wpList_loadC 23 (.tmp 61) rfl (w.heap.size) 17 (vecC a.de) ?_); refine And.intro ⟨by rfl, by rfl, ⟨_, Tryz.underlying23, rfl⟩, info_vec⟩ (And.intro (link_de L31.out.ha) ?_)) | ((with_reducible refine Who.wpList_loadC 23 (.tmp 63) rfl (w.heap.size + 1) 17 (vecC b.de) ?_); refine And.intro ⟨by rfl, by rfl, ⟨_, Tryz.underlying23, rfl⟩, info_vec⟩ (And.intro (link_de L31.out.hb) ?_)) | fail)
  refine (Vc.rjoin_any a.de b.de _).mono ?_
  rintro e v32 ⟨rfl, hb⟩
  have K32 := Lib.hid (L31.out.low hb)
  clear hb
  go_wp2_with (first | ((with_reducible refine wpList_storeH (T := 51) 23 (.tmp 66) (.tmp 65) rfl (w.heap.size + 1 + 1 + 1) 17 (Fc.linkC { { a with at_ := b.at_, par := b.par, name := b.name } with node := top stLt a.node b.node, al := joinV a.al b.al }) (vecC (joinV a.de b.de)) (Fc.linkC { { a with at_ := b.at_, par := b.par, name := b.name } with node := top stLt a.node b.node, al := joinV a.al b.al, de := joinV a.de b.de }) ?_); refine And.intro ⟨rfl, by rfl, by rfl, info_vec, vec_one _, of_decide_eq_true rfl, by kernel_rfl, K32.out.hc⟩ ?_; intro W32 HX32 HC32; have L32 := Lib.hid (K32.out.put HX32.out HC32.out)) | ((with_reducible refine Who.wpList_loadC 51 (.tmp 5) rfl ((w.heap.size + 1 + 1 + 1)) 0 (Fc.linkC { { a with at_ := b.at_, par := b.par, name := b.name } with node := top stLt a.node b.node, al := joinV a.al b.al, de := joinV a.de b.de }) ?_); refine And.intro ⟨by rfl, by rfl, ⟨_, Tryz.underlying51, rfl⟩, info_link⟩ (And.intro (Who.has_range L32.out.hc) ?_)) | ((with_reducible refine wpList_storeG 51 (.tmp 4) (.tmp 67) rfl (w.heap.size + 1 + 1) (zeroL) (Fc.linkC { { a with at_ := b.at_, par := b.par, name := b.name } with node := top stLt a.node b.node, al := joinV a.al b.al, de := joinV a.de b.de }) ?_); refine And.intro ⟨rfl, by rfl, by rfl, info_link, own1 _, rfl, L32.out.hz⟩ ?_; intro W33 HX33 HC33) | fail)
  have HBF := Lib.hid (below_step L32.out.below HC33.out (by omega))
  refine bodyPost_ret (v := .agg (Fc.linkC { { a with at_ := b.at_, par := b.par, name := b.name } with node := top stLt a.node b.node, al := joinV a.al b.al, de := joinV a.de b.de })) (Who.results_cell (p := 4) (t := 51) rfl _ _ (w.heap.size + 1 + 1) 0 (Fc.linkC { { a with at_ := b.at_, par := b.par, name := b.name } with node := top stLt a.node b.node, al := joinV a.al b.al, de := joinV a.de b.de }) _ (by rfl) (Who.has_range HX33.out) Tryz.underlying51 rfl info_link) rfl ?_
  exact ⟨by rw [HOP.out], HBF.out⟩
 | false =>
  have HL1 := Lib.hid hL1
  clear hL1
  by_cases q1 : a.at_ = b.at_
  ·have heq : ∀ w : World, (Op.equalIn 10000 37 (.agg #[.int .i64 a.at_.1, .int .i64 a.at_.2]) (.agg #[.int .i64 b.at_.1, .int .i64 b.at_.2])).run Tryz.prog w = .ok true w := fun w => by have h := Vc.eqs a.at_.1 a.at_.2 b.at_.1 b.at_.2 w; rw [show (a.at_.1 == b.at_.1 && a.at_.2 == b.at_.2) = true by simp [q1]] at h; exact h
   have HQ1 := Lib.hid q1
   clear q1
   go_wp2_with (first | ((with_reducible refine Who.wpList_loadC 37 (.tmp 13) rfl (w.heap.size) 4 (#[.int .i64 a.at_.1, .int .i64 a.at_.2]) ?_); refine And.intro ⟨by rfl, by rfl, ⟨_, Tryz.underlying37, rfl⟩, info_st⟩ (And.intro (link_at H1.out.ha) ?_)) | ((with_reducible refine Who.wpList_loadC 37 (.tmp 15) rfl (w.heap.size + 1) 4 (#[.int .i64 b.at_.1, .int .i64 b.at_.2]) ?_); refine And.intro ⟨by rfl, by rfl, ⟨_, Tryz.underlying37, rfl⟩, info_st⟩ (And.intro (link_at H1.out.hb) ?_)) | ((with_reducible refine Who.wpList_loadC 37 (.tmp 19) rfl (w.heap.size) 6 (#[.int .i64 a.par.1, .int .i64 a.par.2]) ?_); refine And.intro ⟨by rfl, by rfl, ⟨_, Tryz.underlying37, rfl⟩, info_st⟩ (And.intro (link_par H1.out.ha) ?_)) | ((with_reducible refine Who.wpList_loadC 37 (.tmp 21) rfl (w.heap.size + 1) 6 (#[.int .i64 b.par.1, .int .i64 b.par.2]) ?_); refine And.intro ⟨by rfl, by rfl, ⟨_, Tryz.underlying37, rfl⟩, info_st⟩ (And.intro (link_par H1.out.hb) ?_)) | fail)
   refine (Vc.rless_any a.par.1 a.par.2 b.par.1 b.par.2 _).mono ?_
   rintro e w2 ⟨rfl, hb⟩
   have H2 := Lib.hid (H1.out.low hb)
   clear hb H1 heq
   cases hL2 : Vc.lessB a.par.1 a.par.2 b.par.1 b.par.2 with
   | true =>
    have HL2 := Lib.hid hL2
    clear hL2
    have HOP := Lib.hid (op_true (a := a) (b := b) (by rw [ltL_eq, HL1.out, HL2.out, decide_eq_true HQ1.out]; rfl))
    go_wp2_with (first | ((with_reducible refine Who.wpList_loadC 37 (.tmp 40) rfl (w.heap.size + 1) 4 (#[.int .i64 b.at_.1, .int .i64 b.at_.2]) ?_); refine And.intro ⟨by rfl, by rfl, ⟨_, Tryz.underlying37, rfl⟩, info_st⟩ (And.intro (link_at H2.out.hb) ?_)) | ((with_reducible refine wpList_storeH (T := 51) 37 (.tmp 42) (.tmp 41) rfl (w.heap.size + 1 + 1 + 1) 4 (Fc.linkC a) (#[.int .i64 b.at_.1, .int .i64 b.at_.2]) (Fc.linkC { a with at_ := b.at_ }) ?_); refine And.intro ⟨rfl, by rfl, by rfl, info_st, st_one _ _, of_decide_eq_true rfl, by kernel_rfl, H2.out.hc⟩ ?_; intro W40 HX40 HC40; have M40 := Lib.hid (H2.out.put HX40.out HC40.out)) | ((with_reducible refine Who.wpList_loadC 37 (.tmp 43) rfl (w.heap.size + 1) 6 (#[.int .i64 b.par.1, .int .i64 b.par.2]) ?_); refine And.intro ⟨by rfl, by rfl, ⟨_, Tryz.underlying37, rfl⟩, info_st⟩ (And.intro (link_par M40.out.hb) ?_)) | ((with_reducible refine wpList_storeH (T := 51) 37 (.tmp 45) (.tmp 44) rfl (w.heap.size + 1 + 1 + 1) 6 (Fc.linkC { a with at_ := b.at_ }) (#[.int .i64 b.par.1, .int .i64 b.par.2]) (Fc.linkC { a with at_ := b.at_, par := b.par }) ?_); refine And.intro ⟨rfl, by rfl, by rfl, info_st, st_one _ _, of_decide_eq_true rfl, by kernel_rfl, M40.out.hc⟩ ?_; intro W41 HX41 HC41; have M41 := Lib.hid (M40.out.put HX41.out HC41.out); have cn : W41.cell? ⟨w.heap.size + 1, 8, none⟩ = some (.string b.name) := M41.out.hb.at_ 8) | ((with_reducible refine wpList_cell (T := 51) 9 (.tmp 48) (.tmp 47) rfl (w.heap.size + 1 + 1 + 1) 8 (Fc.linkC { a with at_ := b.at_, par := b.par }) (Fc.linkC { a with at_ := b.at_, par := b.par, name := b.name }) (.string b.name) ?_); refine And.intro ⟨rfl, rfl, by rfl, by rfl, info_str, rfl, of_decide_eq_true rfl, by kernel_rfl, M41.out.hc⟩ ?_; intro W42 HX42 HC42; have M42 := Lib.hid (M41.out.put HX42.out HC42.out)) | ((with_reducible refine Who.wpList_loadC 37 (.tmp 49) rfl (w.heap.size) 2 (#[.int .i64 a.node.1, .int .i64 a.node.2]) ?_); refine And.intro ⟨by rfl, by rfl, ⟨_, Tryz.underlying37, rfl⟩, info_st⟩ (And.intro (link_node M42.out.ha) ?_)) | ((with_reducible refine Who.wpList_loadC 37 (.tmp 51) rfl (w.heap.size + 1) 2 (#[.int .i64 b.node.1, .int .i64 b.node.2]) ?_); refine And.intro ⟨by rfl, by rfl, ⟨_, Tryz.underlying37, rfl⟩, info_st⟩ (And.intro (link_node M42.out.hb) ?_)) | fail)
    refine (Vc.rlater_any a.node.1 a.node.2 b.node.1 b.node.2 _).mono ?_
    rintro e v50 ⟨rfl, hb⟩
    rw [later_top a.node b.node]
    have K50 := Lib.hid (M42.out.low hb)
    clear hb
    go_wp2_with (first | ((with_reducible refine wpList_storeH (T := 51) 37 (.tmp 54) (.tmp 53) rfl (w.heap.size + 1 + 1 + 1) 2 (Fc.linkC { a with at_ := b.at_, par := b.par, name := b.name }) (#[.int .i64 (top stLt a.node b.node).1, .int .i64 (top stLt a.node b.node).2]) (Fc.linkC { { a with at_ := b.at_, par := b.par, name := b.name } with node := top stLt a.node b.node }) ?_); refine And.intro ⟨rfl, by rfl, by rfl, info_st, st_one _ _, of_decide_eq_true rfl, by kernel_rfl, K50.out.hc⟩ ?_; intro W50 HX50 HC50; have L50 := Lib.hid (K50.out.put HX50.out HC50.out)) | ((with_reducible refine Who.wpList_loadC 23 (.tmp 55) rfl (w.heap.size) 9 (vecC a.al) ?_); refine And.intro ⟨by rfl, by rfl, ⟨_, Tryz.underlying23, rfl⟩, info_vec⟩ (And.intro (link_al L50.out.ha) ?_)) | ((with_reducible refine Who.wpList_loadC 23 (.tmp 57) rfl (w.heap.size + 1) 9 (vecC b.al) ?_); refine And.intro ⟨by rfl, by rfl, ⟨_, Tryz.underlying23, rfl⟩, info_vec⟩ (And.intro (link_al L50.out.hb) ?_)) | fail)
    refine (Vc.rjoin_any a.al b.al _).mono ?_
    rintro e v51 ⟨rfl, hb⟩
    have K51 := Lib.hid (L50.out.low hb)
    clear hb
    go_wp2_with (first | ((with_reducible refine wpList_storeH (T := 51) 23 (.tmp 60) (.tmp 59) rfl (w.heap.size + 1 + 1 + 1) 9 (Fc.linkC { { a with at_ := b.at_, par := b.par, name := b.name } with node := top stLt a.node b.node }) (vecC (joinV a.al b.al)) (Fc.linkC { { a with at_ := b.at_, par := b.par, name := b.name } with node := top stLt a.node b.node, al := joinV a.al b.al }) ?_); refine And.intro ⟨rfl, by rfl, by rfl, info_vec, vec_one _, of_decide_eq_true rfl, by kernel_rfl, K51.out.hc⟩ ?_; intro W51 HX51 HC51; have L51 := Lib.hid (K51.out.put HX51.out HC51.out)) | ((with_reducible refine Who.wpList_loadC 23 (.tmp 61) rfl (w.heap.size) 17 (vecC a.de) ?_); refine And.intro ⟨by rfl, by rfl, ⟨_, Tryz.underlying23, rfl⟩, info_vec⟩ (And.intro (link_de L51.out.ha) ?_)) | ((with_reducible refine Who.wpList_loadC 23 (.tmp 63) rfl (w.heap.size + 1) 17 (vecC b.de) ?_); refine And.intro ⟨by rfl, by rfl, ⟨_, Tryz.underlying23, rfl⟩, info_vec⟩ (And.intro (link_de L51.out.hb) ?_)) | fail)
    refine (Vc.rjoin_any a.de b.de _).mono ?_
    rintro e v52 ⟨rfl, hb⟩
    have K52 := Lib.hid (L51.out.low hb)
    clear hb
    go_wp2_with (first | ((with_reducible refine wpList_storeH (T := 51) 23 (.tmp 66) (.tmp 65) rfl (w.heap.size + 1 + 1 + 1) 17 (Fc.linkC { { a with at_ := b.at_, par := b.par, name := b.name } with node := top stLt a.node b.node, al := joinV a.al b.al }) (vecC (joinV a.de b.de)) (Fc.linkC { { a with at_ := b.at_, par := b.par, name := b.name } with node := top stLt a.node b.node, al := joinV a.al b.al, de := joinV a.de b.de }) ?_); refine And.intro ⟨rfl, by rfl, by rfl, info_vec, vec_one _, of_decide_eq_true rfl, by kernel_rfl, K52.out.hc⟩ ?_; intro W52 HX52 HC52; have L52 := Lib.hid (K52.out.put HX52.out HC52.out)) | ((with_reducible refine Who.wpList_loadC 51 (.tmp 5) rfl ((w.heap.size + 1 + 1 + 1)) 0 (Fc.linkC { { a with at_ := b.at_, par := b.par, name := b.name } with node := top stLt a.node b.node, al := joinV a.al b.al, de := joinV a.de b.de }) ?_); refine And.intro ⟨by rfl, by rfl, ⟨_, Tryz.underlying51, rfl⟩, info_link⟩ (And.intro (Who.has_range L52.out.hc) ?_)) | ((with_reducible refine wpList_storeG 51 (.tmp 4) (.tmp 67) rfl (w.heap.size + 1 + 1) (zeroL) (Fc.linkC { { a with at_ := b.at_, par := b.par, name := b.name } with node := top stLt a.node b.node, al := joinV a.al b.al, de := joinV a.de b.de }) ?_); refine And.intro ⟨rfl, by rfl, by rfl, info_link, own1 _, rfl, L52.out.hz⟩ ?_; intro W53 HX53 HC53) | fail)
    have HBF := Lib.hid (below_step L52.out.below HC53.out (by omega))
    refine bodyPost_ret (v := .agg (Fc.linkC { { a with at_ := b.at_, par := b.par, name := b.name } with node := top stLt a.node b.node, al := joinV a.al b.al, de := joinV a.de b.de })) (Who.results_cell (p := 4) (t := 51) rfl _ _ (w.heap.size + 1 + 1) 0 (Fc.linkC { { a with at_ := b.at_, par := b.par, name := b.name } with node := top stLt a.node b.node, al := joinV a.al b.al, de := joinV a.de b.de }) _ (by rfl) (Who.has_range HX53.out) Tryz.underlying51 rfl info_link) rfl ?_
    exact ⟨by rw [HOP.out], HBF.out⟩
   | false =>
    have HL2 := Lib.hid hL2
    clear hL2
    by_cases q2 : a.par = b.par
    ·have heq : ∀ w : World, (Op.equalIn 10000 37 (.agg #[.int .i64 a.par.1, .int .i64 a.par.2]) (.agg #[.int .i64 b.par.1, .int .i64 b.par.2])).run Tryz.prog w = .ok true w := fun w => by have h := Vc.eqs a.par.1 a.par.2 b.par.1 b.par.2 w; rw [show (a.par.1 == b.par.1 && a.par.2 == b.par.2) = true by simp [q2]] at h; exact h
     have HQ2 := Lib.hid q2
     clear q2
     obtain ⟨v2, hv2⟩ : ∃ v : World, v = w2 := ⟨_, rfl⟩
     have c1 : w2.cell? ⟨w.heap.size, 8, none⟩ = some (.string a.name) := H2.out.ha.at_ 8
     have c2 : w2.cell? ⟨w.heap.size + 1, 8, none⟩ = some (.string b.name) := H2.out.hb.at_ 8
     clear hv2 v2
     go_wp2_with (first | ((with_reducible refine Who.wpList_loadC 37 (.tmp 25) rfl (w.heap.size) 6 (#[.int .i64 a.par.1, .int .i64 a.par.2]) ?_); refine And.intro ⟨by rfl, by rfl, ⟨_, Tryz.underlying37, rfl⟩, info_st⟩ (And.intro (link_par H2.out.ha) ?_)) | ((with_reducible refine Who.wpList_loadC 37 (.tmp 27) rfl (w.heap.size + 1) 6 (#[.int .i64 b.par.1, .int .i64 b.par.2]) ?_); refine And.intro ⟨by rfl, by rfl, ⟨_, Tryz.underlying37, rfl⟩, info_st⟩ (And.intro (link_par H2.out.hb) ?_)) | fail)
     refine (HS.out _).mono ?_
     rintro e w3 ⟨rfl, hb⟩
     have H3 := Lib.hid (H2.out.low hb)
     clear hb H2 heq c1 c2
     cases hL3 : Op.bytesLess a.name.toList b.name.toList with
     | true =>
      have HL3 := Lib.hid hL3
      clear hL3
      have HOP := Lib.hid (op_true (a := a) (b := b) (by rw [ltL_eq, HL1.out, HL2.out, HL3.out, decide_eq_true HQ1.out, decide_eq_true HQ2.out]; rfl))
      go_wp2_with (first | ((with_reducible refine Who.wpList_loadC 37 (.tmp 40) rfl (w.heap.size + 1) 4 (#[.int .i64 b.at_.1, .int .i64 b.at_.2]) ?_); refine And.intro ⟨by rfl, by rfl, ⟨_, Tryz.underlying37, rfl⟩, info_st⟩ (And.intro (link_at H3.out.hb) ?_)) | ((with_reducible refine wpList_storeH (T := 51) 37 (.tmp 42) (.tmp 41) rfl (w.heap.size + 1 + 1 + 1) 4 (Fc.linkC a) (#[.int .i64 b.at_.1, .int .i64 b.at_.2]) (Fc.linkC { a with at_ := b.at_ }) ?_); refine And.intro ⟨rfl, by rfl, by rfl, info_st, st_one _ _, of_decide_eq_true rfl, by kernel_rfl, H3.out.hc⟩ ?_; intro W60 HX60 HC60; have M60 := Lib.hid (H3.out.put HX60.out HC60.out)) | ((with_reducible refine Who.wpList_loadC 37 (.tmp 43) rfl (w.heap.size + 1) 6 (#[.int .i64 b.par.1, .int .i64 b.par.2]) ?_); refine And.intro ⟨by rfl, by rfl, ⟨_, Tryz.underlying37, rfl⟩, info_st⟩ (And.intro (link_par M60.out.hb) ?_)) | ((with_reducible refine wpList_storeH (T := 51) 37 (.tmp 45) (.tmp 44) rfl (w.heap.size + 1 + 1 + 1) 6 (Fc.linkC { a with at_ := b.at_ }) (#[.int .i64 b.par.1, .int .i64 b.par.2]) (Fc.linkC { a with at_ := b.at_, par := b.par }) ?_); refine And.intro ⟨rfl, by rfl, by rfl, info_st, st_one _ _, of_decide_eq_true rfl, by kernel_rfl, M60.out.hc⟩ ?_; intro W61 HX61 HC61; have M61 := Lib.hid (M60.out.put HX61.out HC61.out); have cn : W61.cell? ⟨w.heap.size + 1, 8, none⟩ = some (.string b.name) := M61.out.hb.at_ 8) | ((with_reducible refine wpList_cell (T := 51) 9 (.tmp 48) (.tmp 47) rfl (w.heap.size + 1 + 1 + 1) 8 (Fc.linkC { a with at_ := b.at_, par := b.par }) (Fc.linkC { a with at_ := b.at_, par := b.par, name := b.name }) (.string b.name) ?_); refine And.intro ⟨rfl, rfl, by rfl, by rfl, info_str, rfl, of_decide_eq_true rfl, by kernel_rfl, M61.out.hc⟩ ?_; intro W62 HX62 HC62; have M62 := Lib.hid (M61.out.put HX62.out HC62.out)) | ((with_reducible refine Who.wpList_loadC 37 (.tmp 49) rfl (w.heap.size) 2 (#[.int .i64 a.node.1, .int .i64 a.node.2]) ?_); refine And.intro ⟨by rfl, by rfl, ⟨_, Tryz.underlying37, rfl⟩, info_st⟩ (And.intro (link_node M62.out.ha) ?_)) | ((with_reducible refine Who.wpList_loadC 37 (.tmp 51) rfl (w.heap.size + 1) 2 (#[.int .i64 b.node.1, .int .i64 b.node.2]) ?_); refine And.intro ⟨by rfl, by rfl, ⟨_, Tryz.underlying37, rfl⟩, info_st⟩ (And.intro (link_node M62.out.hb) ?_)) | fail)
      refine (Vc.rlater_any a.node.1 a.node.2 b.node.1 b.node.2 _).mono ?_
      rintro e v70 ⟨rfl, hb⟩
      rw [later_top a.node b.node]
      have K70 := Lib.hid (M62.out.low hb)
      clear hb
      go_wp2_with (first | ((with_reducible refine wpList_storeH (T := 51) 37 (.tmp 54) (.tmp 53) rfl (w.heap.size + 1 + 1 + 1) 2 (Fc.linkC { a with at_ := b.at_, par := b.par, name := b.name }) (#[.int .i64 (top stLt a.node b.node).1, .int .i64 (top stLt a.node b.node).2]) (Fc.linkC { { a with at_ := b.at_, par := b.par, name := b.name } with node := top stLt a.node b.node }) ?_); refine And.intro ⟨rfl, by rfl, by rfl, info_st, st_one _ _, of_decide_eq_true rfl, by kernel_rfl, K70.out.hc⟩ ?_; intro W70 HX70 HC70; have L70 := Lib.hid (K70.out.put HX70.out HC70.out)) | ((with_reducible refine Who.wpList_loadC 23 (.tmp 55) rfl (w.heap.size) 9 (vecC a.al) ?_); refine And.intro ⟨by rfl, by rfl, ⟨_, Tryz.underlying23, rfl⟩, info_vec⟩ (And.intro (link_al L70.out.ha) ?_)) | ((with_reducible refine Who.wpList_loadC 23 (.tmp 57) rfl (w.heap.size + 1) 9 (vecC b.al) ?_); refine And.intro ⟨by rfl, by rfl, ⟨_, Tryz.underlying23, rfl⟩, info_vec⟩ (And.intro (link_al L70.out.hb) ?_)) | fail)
      refine (Vc.rjoin_any a.al b.al _).mono ?_
      rintro e v71 ⟨rfl, hb⟩
      have K71 := Lib.hid (L70.out.low hb)
      clear hb
      go_wp2_with (first | ((with_reducible refine wpList_storeH (T := 51) 23 (.tmp 60) (.tmp 59) rfl (w.heap.size + 1 + 1 + 1) 9 (Fc.linkC { { a with at_ := b.at_, par := b.par, name := b.name } with node := top stLt a.node b.node }) (vecC (joinV a.al b.al)) (Fc.linkC { { a with at_ := b.at_, par := b.par, name := b.name } with node := top stLt a.node b.node, al := joinV a.al b.al }) ?_); refine And.intro ⟨rfl, by rfl, by rfl, info_vec, vec_one _, of_decide_eq_true rfl, by kernel_rfl, K71.out.hc⟩ ?_; intro W71 HX71 HC71; have L71 := Lib.hid (K71.out.put HX71.out HC71.out)) | ((with_reducible refine Who.wpList_loadC 23 (.tmp 61) rfl (w.heap.size) 17 (vecC a.de) ?_); refine And.intro ⟨by rfl, by rfl, ⟨_, Tryz.underlying23, rfl⟩, info_vec⟩ (And.intro (link_de L71.out.ha) ?_)) | ((with_reducible refine Who.wpList_loadC 23 (.tmp 63) rfl (w.heap.size + 1) 17 (vecC b.de) ?_); refine And.intro ⟨by rfl, by rfl, ⟨_, Tryz.underlying23, rfl⟩, info_vec⟩ (And.intro (link_de L71.out.hb) ?_)) | fail)
      refine (Vc.rjoin_any a.de b.de _).mono ?_
      rintro e v72 ⟨rfl, hb⟩
      have K72 := Lib.hid (L71.out.low hb)
      clear hb
      go_wp2_with (first | ((with_reducible refine wpList_storeH (T := 51) 23 (.tmp 66) (.tmp 65) rfl (w.heap.size + 1 + 1 + 1) 17 (Fc.linkC { { a with at_ := b.at_, par := b.par, name := b.name } with node := top stLt a.node b.node, al := joinV a.al b.al }) (vecC (joinV a.de b.de)) (Fc.linkC { { a with at_ := b.at_, par := b.par, name := b.name } with node := top stLt a.node b.node, al := joinV a.al b.al, de := joinV a.de b.de }) ?_); refine And.intro ⟨rfl, by rfl, by rfl, info_vec, vec_one _, of_decide_eq_true rfl, by kernel_rfl, K72.out.hc⟩ ?_; intro W72 HX72 HC72; have L72 := Lib.hid (K72.out.put HX72.out HC72.out)) | ((with_reducible refine Who.wpList_loadC 51 (.tmp 5) rfl ((w.heap.size + 1 + 1 + 1)) 0 (Fc.linkC { { a with at_ := b.at_, par := b.par, name := b.name } with node := top stLt a.node b.node, al := joinV a.al b.al, de := joinV a.de b.de }) ?_); refine And.intro ⟨by rfl, by rfl, ⟨_, Tryz.underlying51, rfl⟩, info_link⟩ (And.intro (Who.has_range L72.out.hc) ?_)) | ((with_reducible refine wpList_storeG 51 (.tmp 4) (.tmp 67) rfl (w.heap.size + 1 + 1) (zeroL) (Fc.linkC { { a with at_ := b.at_, par := b.par, name := b.name } with node := top stLt a.node b.node, al := joinV a.al b.al, de := joinV a.de b.de }) ?_); refine And.intro ⟨rfl, by rfl, by rfl, info_link, own1 _, rfl, L72.out.hz⟩ ?_; intro W73 HX73 HC73) | fail)
      have HBF := Lib.hid (below_step L72.out.below HC73.out (by omega))
      refine bodyPost_ret (v := .agg (Fc.linkC { { a with at_ := b.at_, par := b.par, name := b.name } with node := top stLt a.node b.node, al := joinV a.al b.al, de := joinV a.de b.de })) (Who.results_cell (p := 4) (t := 51) rfl _ _ (w.heap.size + 1 + 1) 0 (Fc.linkC { { a with at_ := b.at_, par := b.par, name := b.name } with node := top stLt a.node b.node, al := joinV a.al b.al, de := joinV a.de b.de }) _ (by rfl) (Who.has_range HX73.out) Tryz.underlying51 rfl info_link) rfl ?_
      exact ⟨by rw [HOP.out], HBF.out⟩
     | false =>
      have HL3 := Lib.hid hL3
      clear hL3
      have HOP := Lib.hid (op_false (a := a) (b := b) (by rw [ltL_eq, HL1.out, HL2.out, HL3.out, decide_eq_true HQ1.out, decide_eq_true HQ2.out]; rfl))
      go_wp2_with (first | ((with_reducible refine Who.wpList_loadC 37 (.tmp 49) rfl (w.heap.size) 2 (#[.int .i64 a.node.1, .int .i64 a.node.2]) ?_); refine And.intro ⟨by rfl, by rfl, ⟨_, Tryz.underlying37, rfl⟩, info_st⟩ (And.intro (link_node H3.out.ha) ?_)) | ((with_reducible refine Who.wpList_loadC 37 (.tmp 51) rfl (w.heap.size + 1) 2 (#[.int .i64 b.node.1, .int .i64 b.node.2]) ?_); refine And.intro ⟨by rfl, by rfl, ⟨_, Tryz.underlying37, rfl⟩, info_st⟩ (And.intro (link_node H3.out.hb) ?_)) | fail)
      refine (Vc.rlater_any a.node.1 a.node.2 b.node.1 b.node.2 _).mono ?_
      rintro e v90 ⟨rfl, hb⟩
      rw [later_top a.node b.node]
      have K90 := Lib.hid (H3.out.low hb)
      clear hb
      go_wp2_with (first | ((with_reducible refine wpList_storeH (T := 51) 37 (.tmp 54) (.tmp 53) rfl (w.heap.size + 1 + 1 + 1) 2 (Fc.linkC a) (#[.int .i64 (top stLt a.node b.node).1, .int .i64 (top stLt a.node b.node).2]) (Fc.linkC { a with node := top stLt a.node b.node }) ?_); refine And.intro ⟨rfl, by rfl, by rfl, info_st, st_one _ _, of_decide_eq_true rfl, by kernel_rfl, K90.out.hc⟩ ?_; intro W90 HX90 HC90; have L90 := Lib.hid (K90.out.put HX90.out HC90.out)) | ((with_reducible refine Who.wpList_loadC 23 (.tmp 55) rfl (w.heap.size) 9 (vecC a.al) ?_); refine And.intro ⟨by rfl, by rfl, ⟨_, Tryz.underlying23, rfl⟩, info_vec⟩ (And.intro (link_al L90.out.ha) ?_)) | ((with_reducible refine Who.wpList_loadC 23 (.tmp 57) rfl (w.heap.size + 1) 9 (vecC b.al) ?_); refine And.intro ⟨by rfl, by rfl, ⟨_, Tryz.underlying23, rfl⟩, info_vec⟩ (And.intro (link_al L90.out.hb) ?_)) | fail)
      refine (Vc.rjoin_any a.al b.al _).mono ?_
      rintro e v91 ⟨rfl, hb⟩
      have K91 := Lib.hid (L90.out.low hb)
      clear hb
      go_wp2_with (first | ((with_reducible refine wpList_storeH (T := 51) 23 (.tmp 60) (.tmp 59) rfl (w.heap.size + 1 + 1 + 1) 9 (Fc.linkC { a with node := top stLt a.node b.node }) (vecC (joinV a.al b.al)) (Fc.linkC { a with node := top stLt a.node b.node, al := joinV a.al b.al }) ?_); refine And.intro ⟨rfl, by rfl, by rfl, info_vec, vec_one _, of_decide_eq_true rfl, by kernel_rfl, K91.out.hc⟩ ?_; intro W91 HX91 HC91; have L91 := Lib.hid (K91.out.put HX91.out HC91.out)) | ((with_reducible refine Who.wpList_loadC 23 (.tmp 61) rfl (w.heap.size) 17 (vecC a.de) ?_); refine And.intro ⟨by rfl, by rfl, ⟨_, Tryz.underlying23, rfl⟩, info_vec⟩ (And.intro (link_de L91.out.ha) ?_)) | ((with_reducible refine Who.wpList_loadC 23 (.tmp 63) rfl (w.heap.size + 1) 17 (vecC b.de) ?_); refine And.intro ⟨by rfl, by rfl, ⟨_, Tryz.underlying23, rfl⟩, info_vec⟩ (And.intro (link_de L91.out.hb) ?_)) | fail)
      refine (Vc.rjoin_any a.de b.de _).mono ?_
      rintro e v92 ⟨rfl, hb⟩
      have K92 := Lib.hid (L91.out.low hb)
      clear hb
      go_wp2_with (first | ((with_reducible refine wpList_storeH (T := 51) 23 (.tmp 66) (.tmp 65) rfl (w.heap.size + 1 + 1 + 1) 17 (Fc.linkC { a with node := top stLt a.node b.node, al := joinV a.al b.al }) (vecC (joinV a.de b.de)) (Fc.linkC { a with node := top stLt a.node b.node, al := joinV a.al b.al, de := joinV a.de b.de }) ?_); refine And.intro ⟨rfl, by rfl, by rfl, info_vec, vec_one _, of_decide_eq_true rfl, by kernel_rfl, K92.out.hc⟩ ?_; intro W92 HX92 HC92; have L92 := Lib.hid (K92.out.put HX92.out HC92.out)) | ((with_reducible refine Who.wpList_loadC 51 (.tmp 5) rfl ((w.heap.size + 1 + 1 + 1)) 0 (Fc.linkC { a with node := top stLt a.node b.node, al := joinV a.al b.al, de := joinV a.de b.de }) ?_); refine And.intro ⟨by rfl, by rfl, ⟨_, Tryz.underlying51, rfl⟩, info_link⟩ (And.intro (Who.has_range L92.out.hc) ?_)) | ((with_reducible refine wpList_storeG 51 (.tmp 4) (.tmp 67) rfl (w.heap.size + 1 + 1) (zeroL) (Fc.linkC { a with node := top stLt a.node b.node, al := joinV a.al b.al, de := joinV a.de b.de }) ?_); refine And.intro ⟨rfl, by rfl, by rfl, info_link, own1 _, rfl, L92.out.hz⟩ ?_; intro W93 HX93 HC93) | fail)
      have HBF := Lib.hid (below_step L92.out.below HC93.out (by omega))
      refine bodyPost_ret (v := .agg (Fc.linkC { a with node := top stLt a.node b.node, al := joinV a.al b.al, de := joinV a.de b.de })) (Who.results_cell (p := 4) (t := 51) rfl _ _ (w.heap.size + 1 + 1) 0 (Fc.linkC { a with node := top stLt a.node b.node, al := joinV a.al b.al, de := joinV a.de b.de }) _ (by rfl) (Who.has_range HX93.out) Tryz.underlying51 rfl info_link) rfl ?_
      exact ⟨by rw [HOP.out], HBF.out⟩
    ·have heq : ∀ w : World, (Op.equalIn 10000 37 (.agg #[.int .i64 a.par.1, .int .i64 a.par.2]) (.agg #[.int .i64 b.par.1, .int .i64 b.par.2])).run Tryz.prog w = .ok false w := fun w => by have h := Vc.eqs a.par.1 a.par.2 b.par.1 b.par.2 w; rw [show (a.par.1 == b.par.1 && a.par.2 == b.par.2) = false by (cases hq : (a.par.1 == b.par.1 && a.par.2 == b.par.2) with | false => rfl | true => simp at hq; exact absurd (Prod.ext hq.1 hq.2) q2)] at h; exact h
     have HQN := Lib.hid q2
     clear q2
     have HOP := Lib.hid (op_false (a := a) (b := b) (by rw [ltL_eq, HL1.out, HL2.out, decide_eq_false HQN.out]; simp))
     go_wp2_with (first | ((with_reducible refine Who.wpList_loadC 37 (.tmp 25) rfl (w.heap.size) 6 (#[.int .i64 a.par.1, .int .i64 a.par.2]) ?_); refine And.intro ⟨by rfl, by rfl, ⟨_, Tryz.underlying37, rfl⟩, info_st⟩ (And.intro (link_par H2.out.ha) ?_)) | ((with_reducible refine Who.wpList_loadC 37 (.tmp 27) rfl (w.heap.size + 1) 6 (#[.int .i64 b.par.1, .int .i64 b.par.2]) ?_); refine And.intro ⟨by rfl, by rfl, ⟨_, Tryz.underlying37, rfl⟩, info_st⟩ (And.intro (link_par H2.out.hb) ?_)) | ((with_reducible refine Who.wpList_loadC 37 (.tmp 49) rfl (w.heap.size) 2 (#[.int .i64 a.node.1, .int .i64 a.node.2]) ?_); refine And.intro ⟨by rfl, by rfl, ⟨_, Tryz.underlying37, rfl⟩, info_st⟩ (And.intro (link_node H2.out.ha) ?_)) | ((with_reducible refine Who.wpList_loadC 37 (.tmp 51) rfl (w.heap.size + 1) 2 (#[.int .i64 b.node.1, .int .i64 b.node.2]) ?_); refine And.intro ⟨by rfl, by rfl, ⟨_, Tryz.underlying37, rfl⟩, info_st⟩ (And.intro (link_node H2.out.hb) ?_)) | fail)
     clear heq
     refine (Vc.rlater_any a.node.1 a.node.2 b.node.1 b.node.2 _).mono ?_
     rintro e v100 ⟨rfl, hb⟩
     rw [later_top a.node b.node]
     have K100 := Lib.hid (H2.out.low hb)
     clear hb
     go_wp2_with (first | ((with_reducible refine wpList_storeH (T := 51) 37 (.tmp 54) (.tmp 53) rfl (w.heap.size + 1 + 1 + 1) 2 (Fc.linkC a) (#[.int .i64 (top stLt a.node b.node).1, .int .i64 (top stLt a.node b.node).2]) (Fc.linkC { a with node := top stLt a.node b.node }) ?_); refine And.intro ⟨rfl, by rfl, by rfl, info_st, st_one _ _, of_decide_eq_true rfl, by kernel_rfl, K100.out.hc⟩ ?_; intro W100 HX100 HC100; have L100 := Lib.hid (K100.out.put HX100.out HC100.out)) | ((with_reducible refine Who.wpList_loadC 23 (.tmp 55) rfl (w.heap.size) 9 (vecC a.al) ?_); refine And.intro ⟨by rfl, by rfl, ⟨_, Tryz.underlying23, rfl⟩, info_vec⟩ (And.intro (link_al L100.out.ha) ?_)) | ((with_reducible refine Who.wpList_loadC 23 (.tmp 57) rfl (w.heap.size + 1) 9 (vecC b.al) ?_); refine And.intro ⟨by rfl, by rfl, ⟨_, Tryz.underlying23, rfl⟩, info_vec⟩ (And.intro (link_al L100.out.hb) ?_)) | fail)
     refine (Vc.rjoin_any a.al b.al _).mono ?_
     rintro e v101 ⟨rfl, hb⟩
     have K101 := Lib.hid (L100.out.low hb)
     clear hb
     go_wp2_with (first | ((with_reducible refine wpList_storeH (T := 51) 23 (.tmp 60) (.tmp 59) rfl (w.heap.size + 1 + 1 + 1) 9 (Fc.linkC { a with node := top stLt a.node b.node }) (vecC (joinV a.al b.al)) (Fc.linkC { a with node := top stLt a.node b.node, al := joinV a.al b.al }) ?_); refine And.intro ⟨rfl, by rfl, by rfl, info_vec, vec_one _, of_decide_eq_true rfl, by kernel_rfl, K101.out.hc⟩ ?_; intro W101 HX101 HC101; have L101 := Lib.hid (K101.out.put HX101.out HC101.out)) | ((with_reducible refine Who.wpList_loadC 23 (.tmp 61) rfl (w.heap.size) 17 (vecC a.de) ?_); refine And.intro ⟨by rfl, by rfl, ⟨_, Tryz.underlying23, rfl⟩, info_vec⟩ (And.intro (link_de L101.out.ha) ?_)) | ((with_reducible refine Who.wpList_loadC 23 (.tmp 63) rfl (w.heap.size + 1) 17 (vecC b.de) ?_); refine And.intro ⟨by rfl, by rfl, ⟨_, Tryz.underlying23, rfl⟩, info_vec⟩ (And.intro (link_de L101.out.hb) ?_)) | fail)
     refine (Vc.rjoin_any a.de b.de _).mono ?_
     rintro e v102 ⟨rfl, hb⟩
     have K102 := Lib.hid (L101.out.low hb)
     clear hb
     go_wp2_with (first | ((with_reducible refine wpList_storeH (T := 51) 23 (.tmp 66) (.tmp 65) rfl (w.heap.size + 1 + 1 + 1) 17 (Fc.linkC { a with node := top stLt a.node b.node, al := joinV a.al b.al }) (vecC (joinV a.de b.de)) (Fc.linkC { a with node := top stLt a.node b.node, al := joinV a.al b.al, de := joinV a.de b.de }) ?_); refine And.intro ⟨rfl, by rfl, by rfl, info_vec, vec_one _, of_decide_eq_true rfl, by kernel_rfl, K102.out.hc⟩ ?_; intro W102 HX102 HC102; have L102 := Lib.hid (K102.out.put HX102.out HC102.out)) | ((with_reducible refine Who.wpList_loadC 51 (.tmp 5) rfl ((w.heap.size + 1 + 1 + 1)) 0 (Fc.linkC { a with node := top stLt a.node b.node, al := joinV a.al b.al, de := joinV a.de b.de }) ?_); refine And.intro ⟨by rfl, by rfl, ⟨_, Tryz.underlying51, rfl⟩, info_link⟩ (And.intro (Who.has_range L102.out.hc) ?_)) | ((with_reducible refine wpList_storeG 51 (.tmp 4) (.tmp 67) rfl (w.heap.size + 1 + 1) (zeroL) (Fc.linkC { a with node := top stLt a.node b.node, al := joinV a.al b.al, de := joinV a.de b.de }) ?_); refine And.intro ⟨rfl, by rfl, by rfl, info_link, own1 _, rfl, L102.out.hz⟩ ?_; intro W103 HX103 HC103) | fail)
     have HBF := Lib.hid (below_step L102.out.below HC103.out (by omega))
     refine bodyPost_ret (v := .agg (Fc.linkC { a with node := top stLt a.node b.node, al := joinV a.al b.al, de := joinV a.de b.de })) (Who.results_cell (p := 4) (t := 51) rfl _ _ (w.heap.size + 1 + 1) 0 (Fc.linkC { a with node := top stLt a.node b.node, al := joinV a.al b.al, de := joinV a.de b.de }) _ (by rfl) (Who.has_range HX103.out) Tryz.underlying51 rfl info_link) rfl ?_
     exact ⟨by rw [HOP.out], HBF.out⟩
  ·have heq : ∀ w : World, (Op.equalIn 10000 37 (.agg #[.int .i64 a.at_.1, .int .i64 a.at_.2]) (.agg #[.int .i64 b.at_.1, .int .i64 b.at_.2])).run Tryz.prog w = .ok false w := fun w => by have h := Vc.eqs a.at_.1 a.at_.2 b.at_.1 b.at_.2 w; rw [show (a.at_.1 == b.at_.1 && a.at_.2 == b.at_.2) = false by (cases hq : (a.at_.1 == b.at_.1 && a.at_.2 == b.at_.2) with | false => rfl | true => simp at hq; exact absurd (Prod.ext hq.1 hq.2) q1)] at h; exact h
   have HQN := Lib.hid q1
   clear q1
   have HOP := Lib.hid (op_false (a := a) (b := b) (by rw [ltL_eq, HL1.out, decide_eq_false HQN.out]; simp))
   go_wp2_with (first | ((with_reducible refine Who.wpList_loadC 37 (.tmp 13) rfl (w.heap.size) 4 (#[.int .i64 a.at_.1, .int .i64 a.at_.2]) ?_); refine And.intro ⟨by rfl, by rfl, ⟨_, Tryz.underlying37, rfl⟩, info_st⟩ (And.intro (link_at H1.out.ha) ?_)) | ((with_reducible refine Who.wpList_loadC 37 (.tmp 15) rfl (w.heap.size + 1) 4 (#[.int .i64 b.at_.1, .int .i64 b.at_.2]) ?_); refine And.intro ⟨by rfl, by rfl, ⟨_, Tryz.underlying37, rfl⟩, info_st⟩ (And.intro (link_at H1.out.hb) ?_)) | ((with_reducible refine Who.wpList_loadC 37 (.tmp 49) rfl (w.heap.size) 2 (#[.int .i64 a.node.1, .int .i64 a.node.2]) ?_); refine And.intro ⟨by rfl, by rfl, ⟨_, Tryz.underlying37, rfl⟩, info_st⟩ (And.intro (link_node H1.out.ha) ?_)) | ((with_reducible refine Who.wpList_loadC 37 (.tmp 51) rfl (w.heap.size + 1) 2 (#[.int .i64 b.node.1, .int .i64 b.node.2]) ?_); refine And.intro ⟨by rfl, by rfl, ⟨_, Tryz.underlying37, rfl⟩, info_st⟩ (And.intro (link_node H1.out.hb) ?_)) | fail)
   clear heq
   refine (Vc.rlater_any a.node.1 a.node.2 b.node.1 b.node.2 _).mono ?_
   rintro e v110 ⟨rfl, hb⟩
   rw [later_top a.node b.node]
   have K110 := Lib.hid (H1.out.low hb)
   clear hb
   go_wp2_with (first | ((with_reducible refine wpList_storeH (T := 51) 37 (.tmp 54) (.tmp 53) rfl (w.heap.size + 1 + 1 + 1) 2 (Fc.linkC a) (#[.int .i64 (top stLt a.node b.node).1, .int .i64 (top stLt a.node b.node).2]) (Fc.linkC { a with node := top stLt a.node b.node }) ?_); refine And.intro ⟨rfl, by rfl, by rfl, info_st, st_one _ _, of_decide_eq_true rfl, by kernel_rfl, K110.out.hc⟩ ?_; intro W110 HX110 HC110; have L110 := Lib.hid (K110.out.put HX110.out HC110.out)) | ((with_reducible refine Who.wpList_loadC 23 (.tmp 55) rfl (w.heap.size) 9 (vecC a.al) ?_); refine And.intro ⟨by rfl, by rfl, ⟨_, Tryz.underlying23, rfl⟩, info_vec⟩ (And.intro (link_al L110.out.ha) ?_)) | ((with_reducible refine Who.wpList_loadC 23 (.tmp 57) rfl (w.heap.size + 1) 9 (vecC b.al) ?_); refine And.intro ⟨by rfl, by rfl, ⟨_, Tryz.underlying23, rfl⟩, info_vec⟩ (And.intro (link_al L110.out.hb) ?_)) | fail)
   refine (Vc.rjoin_any a.al b.al _).mono ?_
   rintro e v111 ⟨rfl, hb⟩
   have K111 := Lib.hid (L110.out.low hb)
   clear hb
   go_wp2_with (first | ((with_reducible refine wpList_storeH (T := 51) 23 (.tmp 60) (.tmp 59) rfl (w.heap.size + 1 + 1 + 1) 9 (Fc.linkC { a with node := top stLt a.node b.node }) (vecC (joinV a.al b.al)) (Fc.linkC { a with node := top stLt a.node b.node, al := joinV a.al b.al }) ?_); refine And.intro ⟨rfl, by rfl, by rfl, info_vec, vec_one _, of_decide_eq_true rfl, by kernel_rfl, K111.out.hc⟩ ?_; intro W111 HX111 HC111; have L111 := Lib.hid (K111.out.put HX111.out HC111.out)) | ((with_reducible refine Who.wpList_loadC 23 (.tmp 61) rfl (w.heap.size) 17 (vecC a.de) ?_); refine And.intro ⟨by rfl, by rfl, ⟨_, Tryz.underlying23, rfl⟩, info_vec⟩ (And.intro (link_de L111.out.ha) ?_)) | ((with_reducible refine Who.wpList_loadC 23 (.tmp 63) rfl (w.heap.size + 1) 17 (vecC b.de) ?_); refine And.intro ⟨by rfl, by rfl, ⟨_, Tryz.underlying23, rfl⟩, info_vec⟩ (And.intro (link_de L111.out.hb) ?_)) | fail)
   refine (Vc.rjoin_any a.de b.de _).mono ?_
   rintro e v112 ⟨rfl, hb⟩
   have K112 := Lib.hid (L111.out.low hb)
   clear hb
   go_wp2_with (first | ((with_reducible refine wpList_storeH (T := 51) 23 (.tmp 66) (.tmp 65) rfl (w.heap.size + 1 + 1 + 1) 17 (Fc.linkC { a with node := top stLt a.node b.node, al := joinV a.al b.al }) (vecC (joinV a.de b.de)) (Fc.linkC { a with node := top stLt a.node b.node, al := joinV a.al b.al, de := joinV a.de b.de }) ?_); refine And.intro ⟨rfl, by rfl, by rfl, info_vec, vec_one _, of_decide_eq_true rfl, by kernel_rfl, K112.out.hc⟩ ?_; intro W112 HX112 HC112; have L112 := Lib.hid (K112.out.put HX112.out HC112.out)) | ((with_reducible refine Who.wpList_loadC 51 (.tmp 5) rfl ((w.heap.size + 1 + 1 + 1)) 0 (Fc.linkC { a with node := top stLt a.node b.node, al := joinV a.al b.al, de := joinV a.de b.de }) ?_); refine And.intro ⟨by rfl, by rfl, ⟨_, Tryz.underlying51, rfl⟩, info_link⟩ (And.intro (Who.has_range L112.out.hc) ?_)) | ((with_reducible refine wpList_storeG 51 (.tmp 4) (.tmp 67) rfl (w.heap.size + 1 + 1) (zeroL) (Fc.linkC { a with node := top stLt a.node b.node, al := joinV a.al b.al, de := joinV a.de b.de }) ?_); refine And.intro ⟨rfl, by rfl, by rfl, info_link, own1 _, rfl, L112.out.hz⟩ ?_; intro W113 HX113 HC113) | fail)
   have HBF := Lib.hid (below_step L112.out.below HC113.out (by omega))
   refine bodyPost_ret (v := .agg (Fc.linkC { a with node := top stLt a.node b.node, al := joinV a.al b.al, de := joinV a.de b.de })) (Who.results_cell (p := 4) (t := 51) rfl _ _ (w.heap.size + 1 + 1) 0 (Fc.linkC { a with node := top stLt a.node b.node, al := joinV a.al b.al, de := joinV a.de b.de }) _ (by rfl) (Who.has_range HX113.out) Tryz.underlying51 rfl info_link) rfl ?_
   exact ⟨by rw [HOP.out], HBF.out⟩
end Go.Proofs.YtblogecapegbmaaGreat.Jn
