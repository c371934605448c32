/- Whether a store is what a commit said: contract. -/
import Derived.Test.YtkbpjegegjgbkaaSwG
import Derived.Deep.RegionHeld3
namespace Go.Proofs.Ytkbpjegegjgbkaa.Sto
open Go.RowKit
open Oct (Has Chg)
open Rws
open Dv (DoV)
open Mem (IMap)
set_option linter.unusedVariables false

theorem out_len {w : World} {B : Nat} {v : Value} {es : List BE} (h : OutRow w B v es) : es.length ≤ 9223372036854775807 := by
  rcases h.row.2 with ⟨_, e0⟩ | ⟨_, _, _, _, _, _, e3, e4, _⟩
  · omega
  · unfold maxLen at e4; omega
set_option maxRecDepth 100000 in
set_option maxHeartbeats 8000000 in
theorem is_any (r q g p : Nat) (F : Fr) (s : SV) (root croot : Int) (note cnote : ByteArray) (A : Option Addr) (n c B1 : Nat) (es : List BE) (hsm : ∀ i, (Dv.rdS s.dev i).size ≤ 4104) (w : World)
    (hr : Has w r 3 #[.int .i64 root]) (hq : Has w q 9 #[.string note]) (hg : Has w g 31 #[.pointer (some ⟨p, 0, none⟩)]) (hs : StoIs w p F s) (ho : OutRow w B1 (.slice A n c) es) :
    Calls Try.prog 18 #[.agg #[.int .i64 croot, .string cnote, .slice A n c], .pointer (some ⟨r, 0, none⟩), .pointer (some ⟨q, 0, none⟩), .pointer (some ⟨g, 0, none⟩)] w fun e w' => EqIs (root, note, hangs (getV s) root) (croot, cnote, es.map BE.val) e ∧ Below w.heap.size w w' := by
  have hb0 : Below w.heap.size w (w.alloc (.cells #[.int .i64 croot, .string cnote, .slice A n c] 38)).drew := ((Below.refl _ w).alloc (Nat.le_refl _) _).drew
  have HB0 := Lib.hid (show Below w.heap.size w (w.alloc (.cells #[.int .i64 croot, .string cnote, .slice A n c] 38)) from (Below.refl _ w).alloc (Nat.le_refl _) _)
  have hx : Has (w.alloc (.cells #[.int .i64 croot, .string cnote, .slice A n c] 38)).drew w.heap.size 38 #[.int .i64 croot, .string cnote, .slice A n c] := Has.fresh w _ _
  have hr1 := has_blw hr hb0
  have hq1 := has_blw hq hb0
  have hg1 := has_blw hg hb0
  have HS1 := Lib.hid (hs.below hb0)
  have HO1 := Lib.hid (ho.below hb0)
  have HB1 := Lib.hid hb0
  have HSM := Lib.hid hsm
  clear hr hq hg hs ho hb0 hsm
  have a0 := Has.at_ hr1 0
  have a1 := Has.at_ hq1 0
  have a2 := Has.at_ hg1 0
  have a3 := Has.at_ hx 0
  have a4 := Has.at_ hx 1
  have a5 := Has.at_ hx 2
  simp at a0 a1 a2 a3 a4 a5
  by_cases e1 : root = croot
  · by_cases e2 : note = cnote
    · subst e1 e2
      go_enter Try.func18, Try.ntmps18
      go_wp2_with fail
      go_region_held3 (fun w' => w'.cell? ⟨r, 0, none⟩ = some (.int .i64 root) ∧ w'.cell? ⟨q, 0, none⟩ = some (.string note) ∧ w'.cell? ⟨g, 0, none⟩ = some (.pointer (some ⟨p, 0, none⟩)) ∧ w'.cell? ⟨w.heap.size, 0, none⟩ = some (.int .i64 root) ∧ w'.cell? ⟨w.heap.size, 1, none⟩ = some (.string note) ∧ w'.cell? ⟨w.heap.size, 2, none⟩ = some (.slice A n c)) (exact ⟨Has.at_ hr1 0, Has.at_ hq1 0, Has.at_ hg1 0, Has.at_ hx 0, Has.at_ hx 1, Has.at_ hx 2⟩) (first | (go_at_call 19; refine (same_any _ _ A8 _ c8 es8 A n c es (out_len ho8) _ ho8 HO1.out).mono ?_; rintro e w' ⟨⟨b, rfl, hbe⟩, b9⟩; replace hr1 := has_blw hr1 b9; replace hq1 := has_blw hq1 b9; replace hg1 := has_blw hg1 b9; replace hx := has_blw hx b9; replace HB1 := Lib.hid (HB1.out.trans (b9.mono HB1.out.size)); clear b9) | (go_at_call 12; refine (below_any p F s root HSM.out _ HS1.out).mono ?_; rintro e w' ⟨⟨v8, es8, rfl, ho8, hm8⟩, b8⟩; obtain ⟨A8, c8, rfl⟩ := own_sl2 ho8.row; replace hr1 := has_blw hr1 b8; replace hq1 := has_blw hq1 b8; replace hg1 := has_blw hg1 b8; replace hx := has_blw hx b8; replace HO1 := Lib.hid (HO1.out.below b8); replace HB1 := Lib.hid (HB1.out.trans (b8.mono HB1.out.size)); clear b8))
      all_goals go_wp2_with fail
      all_goals go_ret
      all_goals exact ⟨⟨b, rfl, by rw [hbe, hm8]; exact ⟨fun h => by rw [h], fun h => by injection h with _ h; injection h⟩⟩, HB1.out⟩
    · have t2 := txt_other e2
      subst e1
      go_enter Try.func18, Try.ntmps18
      go_wp2_with fail
      go_quiet (fail)
      go_wp2
      go_ret
      exact ⟨⟨_, rfl, ⟨(fun h => by cases h), fun h => (e2 (by injection h with _ h; injection h)).elim⟩⟩, below_drewN HB0.out _⟩
  · have t1 : (root == croot) = false := beq_eq_false_iff_ne.2 e1
    go_enter Try.func18, Try.ntmps18
    go_wp2_with fail
    go_quiet (fail)
    go_wp2
    go_ret
    exact ⟨⟨_, rfl, ⟨(fun h => by cases h), fun h => (e1 (by injection h)).elim⟩⟩, below_drewN HB0.out _⟩
end Go.Proofs.Ytkbpjegegjgbkaa.Sto
