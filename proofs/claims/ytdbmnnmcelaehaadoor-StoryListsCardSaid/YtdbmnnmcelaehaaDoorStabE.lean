/- How two events stand: by their stamps, then by their volumes. -/
import Derived.Test.YtdbmnnmcelaehaaDoorStabC
namespace Go.Proofs.YtdbmnnmcelaehaaDoor.Stab
open Go.RowKit Go.Proofs.YtdbmnnmcelaehaaDoor.Mem
open Go.Proofs.YtdbmnnmcelaehaaDoor.Vc (lessB stC)
set_option linter.unusedVariables false set_option linter.unusedSimpArgs false

def cmpI (a b : Int) : Int := if a < b then -1 else if b < a then 1 else 0
theorem cmpi_any (a b : Int) (W : World) : Calls Tryd.prog 53 #[.int .i64 a, .int .i64 b] W fun e W' => e = .returned (.int .i64 (cmpI a b)) ∧ W' = W := by
  by_cases h1 : a < b
  · have HP := Lib.hid (show cmpI a b = -1 by unfold cmpI; rw [if_pos h1])
    go_enter Tryd.func53, Tryd.ntmps53
    go_wp2
    go_ret
    exact ⟨by rw [HP.out]; rfl, rfl⟩
  · by_cases h2 : b < a
    · have HP := Lib.hid (show cmpI a b = 1 by unfold cmpI; rw [if_neg h1, if_pos h2])
      go_enter Tryd.func53, Tryd.ntmps53
      go_wp2
      go_ret
      exact ⟨by rw [HP.out]; rfl, rfl⟩
    · have HP := Lib.hid (show cmpI a b = 0 by unfold cmpI; rw [if_neg h1, if_neg h2])
      go_enter Tryd.func53, Tryd.ntmps53
      go_wp2
      go_ret
      exact ⟨by rw [HP.out]; rfl, rfl⟩
def lessE (x y : Fc.EventC) : Bool := lessB x.at_.1 x.at_.2 y.at_.1 y.at_.2
/-- what order gives -/
def ordE (x y : Fc.EventC) : Int := if lessE x y = true then -1 else if lessE y x = true then 1 else cmpI x.vol y.vol
theorem at_range {w : World} {g : Nat} {t : TypeId} {x : Fc.EventC} (h : Has w g t (Fc.eventC x)) : w.rangeAt g 0 (#[.int .i64 x.at_.1, .int .i64 x.at_.2] : Array Value).toList := fun j v hv => by
  have hj : j < 2 := by
    have := (List.getElem?_eq_some_iff.1 hv).1
    simpa using this
  rw [h.at_ (0 + j)]
  match j, hj with
  | 0, _ => exact hv
  | 1, _ => exact hv
theorem vol_cell {w : World} {g : Nat} {t : TypeId} {x : Fc.EventC} (h : Has w g t (Fc.eventC x)) : w.cell? ⟨g, 2, none⟩ = some (.int .i64 x.vol) := h.at_ 2
set_option maxRecDepth 100000 in
set_option maxHeartbeats 1000000 in
theorem order_any (x y : Fc.EventC) (w : World) : Calls Tryd.prog 34 #[.agg (Fc.eventC x), .agg (Fc.eventC y)] w fun e w' => e = .returned (.int .i64 (ordE x y)) ∧ Below w.heap.size w w' := by
  have hxy := fun V => Vc.less_any x.at_.1 x.at_.2 y.at_.1 y.at_.2 V
  have hyx := fun V => Vc.less_any y.at_.1 y.at_.2 x.at_.1 x.at_.2 V
  unfold stC at hxy hyx
  have HB0 := Lib.hid (((Below.refl w.heap.size w).alloc (Nat.le_refl _) (.cells (Fc.eventC x) 31)).alloc (by simp) (.cells (Fc.eventC y) 31))
  have HX0 := Lib.hid ((Has.fresh w 31 (Fc.eventC x)).past (.cells (Fc.eventC y) 31))
  have n1 : Has ((w.alloc (.cells (Fc.eventC x) 31)).alloc (.cells (Fc.eventC y) 31)) (w.heap.size + 1) 31 (Fc.eventC y) := by have q := Has.fresh (w.alloc (.cells (Fc.eventC x) 31)) 31 (Fc.eventC y); rw [World.size_alloc] at q; exact q
  have HY0 := Lib.hid n1
  clear n1
  have HC := Lib.hid (cmpi_any x.vol y.vol)
  cases h1 : lessE x y with
  | true =>
    have HP := Lib.hid (show ordE x y = -1 by unfold ordE; rw [if_pos h1])
    have h1' : lessB x.at_.1 x.at_.2 y.at_.1 y.at_.2 = true := h1
    rw [h1'] at hxy
    have HL := Lib.hid hxy
    clear hxy hyx h1 h1' HC
    go_enter Tryd.func34, Tryd.ntmps34
    go_wp2_with (first | ((with_reducible refine Who.wpList_loadC 23 (.tmp 6) rfl w.heap.size 0 (#[.int .i64 x.at_.1, .int .i64 x.at_.2]) ?_); refine And.intro ⟨by rfl, by rfl, ⟨_, Tryd.underlying23, rfl⟩, Sr.info_st⟩ (And.intro (at_range HX0.out) ?_); (try simp only [Act.put, List.setIfInBounds_toArray, List.set_cons_zero, List.set_cons_succ])) | ((with_reducible refine Who.wpList_loadC 23 (.tmp 8) rfl (w.heap.size + 1) 0 (#[.int .i64 y.at_.1, .int .i64 y.at_.2]) ?_); refine And.intro ⟨by rfl, by rfl, ⟨_, Tryd.underlying23, rfl⟩, Sr.info_st⟩ (And.intro (at_range HY0.out) ?_); (try simp only [Act.put, List.setIfInBounds_toArray, List.set_cons_zero, List.set_cons_succ])) | fail)
    refine (HL.out _).mono ?_
    rintro q w1 ⟨rfl, hb⟩
    have HB1 := Lib.hid (HB0.out.trans (hb.mono HB0.out.size))
    have HX1 := Lib.hid (HX0.out.below hb)
    have HY1 := Lib.hid (HY0.out.below hb)
    clear hb
    go_wp2
    go_ret
    exact ⟨by rw [HP.out]; rfl, HB1.out⟩
  | false =>
    have h1' : lessB x.at_.1 x.at_.2 y.at_.1 y.at_.2 = false := h1
    rw [h1'] at hxy
    have HL := Lib.hid hxy
    clear hxy
    cases h2 : lessE y x with
    | true =>
      have HP := Lib.hid (show ordE x y = 1 by unfold ordE; rw [if_neg (by rw [h1]; decide), if_pos h2])
      have h2' : lessB y.at_.1 y.at_.2 x.at_.1 x.at_.2 = true := h2
      rw [h2'] at hyx
      have HL2 := Lib.hid hyx
      clear hyx h1 h1' h2 h2' HC
      go_enter Tryd.func34, Tryd.ntmps34
      go_wp2_with (first | ((with_reducible refine Who.wpList_loadC 23 (.tmp 6) rfl w.heap.size 0 (#[.int .i64 x.at_.1, .int .i64 x.at_.2]) ?_); refine And.intro ⟨by rfl, by rfl, ⟨_, Tryd.underlying23, rfl⟩, Sr.info_st⟩ (And.intro (at_range HX0.out) ?_); (try simp only [Act.put, List.setIfInBounds_toArray, List.set_cons_zero, List.set_cons_succ])) | ((with_reducible refine Who.wpList_loadC 23 (.tmp 8) rfl (w.heap.size + 1) 0 (#[.int .i64 y.at_.1, .int .i64 y.at_.2]) ?_); refine And.intro ⟨by rfl, by rfl, ⟨_, Tryd.underlying23, rfl⟩, Sr.info_st⟩ (And.intro (at_range HY0.out) ?_); (try simp only [Act.put, List.setIfInBounds_toArray, List.set_cons_zero, List.set_cons_succ])) | fail)
      refine (HL.out _).mono ?_
      rintro q w1 ⟨rfl, hb⟩
      have HB1 := Lib.hid (HB0.out.trans (hb.mono HB0.out.size))
      have HX1 := Lib.hid (HX0.out.below hb)
      have HY1 := Lib.hid (HY0.out.below hb)
      clear hb
      go_wp2_with (first | ((with_reducible refine Who.wpList_loadC 23 (.tmp 14) rfl w.heap.size 0 (#[.int .i64 x.at_.1, .int .i64 x.at_.2]) ?_); refine And.intro ⟨by rfl, by rfl, ⟨_, Tryd.underlying23, rfl⟩, Sr.info_st⟩ (And.intro (at_range HX1.out) ?_); (try simp only [Act.put, List.setIfInBounds_toArray, List.set_cons_zero, List.set_cons_succ])) | ((with_reducible refine Who.wpList_loadC 23 (.tmp 12) rfl (w.heap.size + 1) 0 (#[.int .i64 y.at_.1, .int .i64 y.at_.2]) ?_); refine And.intro ⟨by rfl, by rfl, ⟨_, Tryd.underlying23, rfl⟩, Sr.info_st⟩ (And.intro (at_range HY1.out) ?_); (try simp only [Act.put, List.setIfInBounds_toArray, List.set_cons_zero, List.set_cons_succ])) | fail)
      refine (HL2.out _).mono ?_
      rintro q w2 ⟨rfl, hb⟩
      have HB2 := Lib.hid (HB1.out.trans (hb.mono HB1.out.size))
      have HX2 := Lib.hid (HX1.out.below hb)
      have HY2 := Lib.hid (HY1.out.below hb)
      clear hb
      go_wp2
      go_ret
      exact ⟨by rw [HP.out]; rfl, HB2.out⟩
    | false =>
      have HP := Lib.hid (show ordE x y = cmpI x.vol y.vol by unfold ordE; rw [if_neg (by rw [h1]; decide), if_neg (by rw [h2]; decide)])
      have h2' : lessB y.at_.1 y.at_.2 x.at_.1 x.at_.2 = false := h2
      rw [h2'] at hyx
      have HL2 := Lib.hid hyx
      clear hyx h1 h1' h2 h2'
      go_enter Tryd.func34, Tryd.ntmps34
      go_wp2_with (first | ((with_reducible refine Who.wpList_loadC 23 (.tmp 6) rfl w.heap.size 0 (#[.int .i64 x.at_.1, .int .i64 x.at_.2]) ?_); refine And.intro ⟨by rfl, by rfl, ⟨_, Tryd.underlying23, rfl⟩, Sr.info_st⟩ (And.intro (at_range HX0.out) ?_); (try simp only [Act.put, List.setIfInBounds_toArray, List.set_cons_zero, List.set_cons_succ])) | ((with_reducible refine Who.wpList_loadC 23 (.tmp 8) rfl (w.heap.size + 1) 0 (#[.int .i64 y.at_.1, .int .i64 y.at_.2]) ?_); refine And.intro ⟨by rfl, by rfl, ⟨_, Tryd.underlying23, rfl⟩, Sr.info_st⟩ (And.intro (at_range HY0.out) ?_); (try simp only [Act.put, List.setIfInBounds_toArray, List.set_cons_zero, List.set_cons_succ])) | fail)
      refine (HL.out _).mono ?_
      rintro q w1 ⟨rfl, hb⟩
      have HB1 := Lib.hid (HB0.out.trans (hb.mono HB0.out.size))
      have HX1 := Lib.hid (HX0.out.below hb)
      have HY1 := Lib.hid (HY0.out.below hb)
      clear hb
      go_wp2_with (first | ((with_reducible refine Who.wpList_loadC 23 (.tmp 14) rfl w.heap.size 0 (#[.int .i64 x.at_.1, .int .i64 x.at_.2]) ?_); refine And.intro ⟨by rfl, by rfl, ⟨_, Tryd.underlying23, rfl⟩, Sr.info_st⟩ (And.intro (at_range HX1.out) ?_); (try simp only [Act.put, List.setIfInBounds_toArray, List.set_cons_zero, List.set_cons_succ])) | ((with_reducible refine Who.wpList_loadC 23 (.tmp 12) rfl (w.heap.size + 1) 0 (#[.int .i64 y.at_.1, .int .i64 y.at_.2]) ?_); refine And.intro ⟨by rfl, by rfl, ⟨_, Tryd.underlying23, rfl⟩, Sr.info_st⟩ (And.intro (at_range HY1.out) ?_); (try simp only [Act.put, List.setIfInBounds_toArray, List.set_cons_zero, List.set_cons_succ])) | fail)
      refine (HL2.out _).mono ?_
      rintro q w2 ⟨rfl, hb⟩
      have HB2 := Lib.hid (HB1.out.trans (hb.mono HB1.out.size))
      have HX2 := Lib.hid (HX1.out.below hb)
      have HY2 := Lib.hid (HY1.out.below hb)
      clear hb
      have c1 := vol_cell HX2.out
      have c2 := vol_cell HY2.out
      go_wp2_with fail
      refine (HC.out _).mono ?_
      rintro q w3 ⟨rfl, rfl⟩
      go_wp2
      go_ret
      exact ⟨by rw [HP.out]; rfl, HB2.out⟩
end Go.Proofs.YtdbmnnmcelaehaaDoor.Stab
