/- The law StoryLists walked. -/
import Derived.Test.YtdbmnnmcelaehaaDoorStlG
import Derived.Test.YtdbmnnmcelaehaaDoorStlD
import Derived.Test.YtdbmnnmcelaehaaDoorStlA
import Derived.Test.YtdbmnnmcelaehaaDoorStabS
namespace Go.Proofs.YtdbmnnmcelaehaaDoor.Stl
open Go.RowKit Go.Proofs.YtdbmnnmcelaehaaDoor.Mem
open Go.Proofs.YtdbmnnmcelaehaaDoor.Stab (OrdL eown_sl eown_srow own_rw OrdIs ord_row)
open Go.Proofs.YtdbmnnmcelaehaaDoor.Sr (EOwn)
open Go.Proofs.YtdbmnnmcelaehaaDoor.Vc (vecC)
open Go.Proofs.YtdbmnnmcelaehaaDoor.Tx (Tabs)
set_option linter.unusedVariables false set_option linter.unusedSimpArgs false

/-- the boxed stamp, and how many of each replica -/
structure LsI (id : Int × Int) (x : Nat → Int) (W w3 w : World) : Prop where
  below : Below W.heap.size W w
  b3 : Below w3.heap.size w3 w
  h1 : Has w W.heap.size 23 #[.int .i64 id.1, .int .i64 id.2]
  h2 : Has w w3.heap.size 24 (vecC x)
  lt : W.heap.size < w3.heap.size
section
variable {id : Int × Int} {x : Nat → Int} {W w3 w w2 : World}
theorem LsI.low (h : LsI id x W w3 w) (hb : Below w.heap.size w w2) : LsI id x W w3 w2 := ⟨h.below.trans (hb.mono h.below.size), h.b3.trans (hb.mono h.b3.size), h.h1.below hb, h.h2.below hb, h.lt⟩
theorem LsI.drew (h : LsI id x W w3 w) : LsI id x W w3 w.drew := ⟨h.below.drew, h.b3.drew, h.h1, h.h2, h.lt⟩
theorem LsI.put (h : LsI id x W w3 w) {k : Nat} (hk : k < 8) (v : Int) : LsI id (Vc.upd x k v) W w3 (w.setCell ⟨w3.heap.size, k, none⟩ (.int .i64 v)) :=
  ⟨h.below.setCell (p := ⟨w3.heap.size, k, none⟩) (Nat.le_of_lt h.lt) _, h.b3.setCell (p := ⟨w3.heap.size, k, none⟩) (Nat.le_refl _) _, h.h1.keep (p := ⟨w3.heap.size, k, none⟩) (Nat.ne_of_lt h.lt) _, Vc.Has.putV h.h2 hk v, h.lt⟩
theorem LsI.s (h : LsI id x W w3 w) : w.rangeAt W.heap.size 0 (#[.int .i64 id.1, .int .i64 id.2] : Array Value).toList ∧ w.rangeAt w3.heap.size 0 (vecC x).toList := ⟨Who.has_range h.h1, Who.has_range h.h2⟩
end
set_option maxRecDepth 100000 in
theorem eqin_a8 (x : Nat → Int) (w : World) : (Op.equalIn 10000 24 (.agg (vecC x)) (.agg (vecC x))).run Tryd.prog w = .ok true w := by
  have u3 := Tryd.underlying3
  have a3 := Tryd.isAgg3
  have z3 := Tryd.sizeOf3
  rw [show (10000 : Nat) = 9999 + 1 from rfl, Op.equalIn]
  simp only [Sem.run_bind, run_underlying Tryd.underlying24, Result.andThen_ok]
  simp only [Std.Legacy.Range.forIn_eq_forIn_range', Std.Legacy.Range.size, Nat.sub_zero, Nat.add_sub_cancel, Nat.div_one, List.range'_succ, List.range'_zero, List.forIn_cons, List.forIn_nil]
  unfold vecC
  go_simp
  try rfl
theorem own_le {w : World} {B c : Nat} {A : Option Addr} {es : List Fc.EventC} (h : EOwn w B (.slice A es.length c) es) : es.length ≤ c := by
  obtain ⟨A3, c3, e, hnil, hsome⟩ := eown_sl h
  cases e
  cases A with
  | none =>
    rw [(hnil rfl).2]
    exact Nat.zero_le _
  | some a =>
    obtain ⟨g, rfl⟩ := hsome a rfl
    exact (own_rw h).2.1
def EndIs (w : World) (e : Ending) (w' : World) : Prop := e = .returned (.bool true) ∧ Below w.heap.size w w'
set_option maxRecDepth 100000 in
set_option maxHeartbeats 16000000 in
theorem lists_walk (W : World) (A0 : Option Addr) (n0 c0 : Nat) (es : List Fc.EventC) (id : Int × Int) (hr : Fc.SRow W 21 Fc.eventC A0 n0 es) (hfe : ∀ e ∈ es, Fc.EventFit W e) (hn : n0 ≤ c0) (hc : c0 ≤ maxLen) (hid : Fc.fitS id) (hT : Tabs W) :
    Calls Tryd.prog 4 #[.slice A0 n0 c0, .agg #[.int .i64 id.1, .int .i64 id.2]] W (EndIs W) := by
  have HR := Lib.hid hr
  have HTT := Lib.hid (show ∀ V, Below W.heap.size W V → Tabs V from fun V h => hT.self h)
  have HF := Lib.hid (show ∀ V, Below W.heap.size W V → ∀ e ∈ es, Fc.StateFit V e.d from fun V hb e he => (hfe e he).1.below hb)
  have HLN := Lib.hid hr.len
  have hn64 : n0 ≤ 9223372036854775807 := by unfold maxLen at hc; omega
  have hb0 := (Below.refl W.heap.size W).alloc (Nat.le_refl _) (.cells #[.int .i64 id.1, .int .i64 id.2] 23)
  have HB0 := Lib.hid hb0
  have HS0 := Lib.hid (Has.fresh W 23 #[.int .i64 id.1, .int .i64 id.2])
  have HSM := Lib.hid (Stab.small_le A0 n0 c0 es hn64 _ (HR.out.below hb0) (HF.out _ hb0))
  clear hr hfe hT hb0 hid
  go_enter Tryd.func4, Tryd.ntmps4
  go_wp2_with fail
  go_at_call 6
  refine HSM.out.mono ?_
  rintro q w1 ⟨⟨z, rfl, hz⟩, hb⟩
  have HB1 := Lib.hid (HB0.out.trans (hb.mono HB0.out.size))
  have HS1 := Lib.hid (HS0.out.below hb)
  clear hb HSM HB0 HS0
  cases z with
  | false =>
    clear hz
    go_wp2_with fail
    go_at_call 10
    refine (Sr.awake_any _ (HTT.out _ HB1.out)).mono ?_
    rintro q w2 ⟨rfl, hb⟩
    have HB2 := Lib.hid (HB1.out.trans (hb.mono HB1.out.size))
    clear hb
    go_wp2
    go_ret
    exact ⟨rfl, HB2.out⟩
  | true =>
    have h60 := hz rfl
    have h64 : n0 ≤ 4000000 := by omega
    have h4m : n0 ≤ 4000000 := h64
    clear hz
    have HCL := Lib.hid (Stab.clone_any A0 n0 c0 es h64 w1 (HR.out.below HB1.out))
    go_wp2_with fail
    go_at_call 11
    refine HCL.out.mono ?_
    rintro q w3 ⟨v3, rfl, hv, hb⟩
    obtain ⟨A1, c1, rfl, _, _⟩ := eown_sl hv
    rw [HLN.out]
    have HC := Lib.hid (show Fc.SRow w3 21 Fc.eventC A1 n0 es by have q := eown_srow hv; rwa [HLN.out] at q)
    have HNC := Lib.hid (show n0 ≤ c1 by rw [← HLN.out]; exact own_le hv)
    have HB3 := Lib.hid (HB1.out.trans (hb.mono HB1.out.size))
    have HS3 := Lib.hid (HS1.out.below hb)
    obtain ⟨f, hf⟩ : ∃ f : Nat → Fc.EventC, f = fun i => (es[i]?).getD Sr.zeroE := ⟨_, rfl⟩
    have HEL := Lib.hid (show ∀ i (h : i < es.length), es[i] = f i from fun i h => by rw [hf]; show _ = (es[i]?).getD Sr.zeroE; rw [List.getElem?_eq_getElem h]; rfl)
    have HFL := Lib.hid (show (es.filter (aboutB id)).length ≤ 9223372036854775807 from Nat.le_trans (List.length_filter_le _ _) (by rw [HLN.out]; exact hn64))
    have HFF := Lib.hid (show ∀ V, Below W.heap.size W V → ∀ e ∈ es.filter (aboutB id), Fc.StateFit V e.d from fun V hb e he => HF.out V hb e (List.mem_filter.1 he).1)
    have HPL := Lib.hid (show (apA (fun i => (es[i]?).getD Sr.zeroE) n0).length ≤ 9223372036854775807 from Nat.le_trans (apA_len _ n0 h60) (by omega))
    have halv := Sr.alloc_event
    have hala := alloc_a8
    have HI4 : Hid (LsI id (cntF f 0) W w3 (w3.alloc (.cells (vecC fun _ => 0) 24))) := Lib.hid ⟨HB3.out.alloc HB3.out.size _, (Below.refl _ _).alloc (Nat.le_refl _) _, HS3.out.past _, Has.fresh w3 24 (vecC fun _ => 0), HS3.out.bound⟩
    clear hv hb HCL HB1 HS1 HB3 HS3
    go_wp2_with (first | ((with_reducible refine Who.wpList_alloc 24 6 rfl rfl rfl (vecC fun _ => 0) hala ?_); (try simp only [Act.put, List.setIfInBounds_toArray, List.set_cons_zero, List.set_cons_succ]); (try simp only [World.size_alloc])) | fail)
    go_loopw [19] (fun i wr => ∃ j : Nat, i = .int .i64 j ∧ j ≤ n0 ∧ Hid (LsI id (cntF f j) W w3 wr)) (fun i _ => n0 - (intOf i).toNat)
    case atStart => exact ⟨0, rfl, Nat.zero_le _, HI4⟩
    case round =>
      clear HI4
      obtain ⟨j, rfl, hj, HI⟩ := hrel
      by_cases hlt : j < n0
      · obtain ⟨b, off, rfl, hbl, hx, mr⟩ := (HR.out.below HI.out.below).range (i := j) hlt
        rw [HEL.out j hx] at mr
        have HYE := Lib.hid (fun k h hk => @cnt_yes f j k h hk)
        have HNO := Lib.hid (fun h => @cnt_no f j h)
        have HLO := Lib.hid (cnt_low f j)
        obtain ⟨y, hy⟩ : ∃ y, y = f j := ⟨_, rfl⟩
        rw [← hy] at mr HYE HNO
        obtain ⟨X1, hX1⟩ : ∃ X1, X1 = cntF f (j + 1) := ⟨_, rfl⟩
        obtain ⟨X0, hX0⟩ : ∃ X0, X0 = cntF f j := ⟨_, rfl⟩
        rw [← hX1, ← hX0] at HYE HNO
        rw [← hX0] at HLO HI
        have HXN := Lib.hid hX1
        have MR := Lib.hid mr
        have hb1 := (Below.refl wr.heap.size wr).alloc (Nat.le_refl _) (.cells (Fc.eventC y) 31)
        have HI1 := Lib.hid (HI.out.low hb1)
        have HE1 := Lib.hid (Has.fresh wr 31 (Fc.eventC y))
        obtain ⟨Y, hY⟩ : ∃ Y, Y = wr.heap.size := ⟨_, rfl⟩
        have HGY := Lib.hid (show w3.heap.size < Y by rw [hY]; exact HI.out.h2.bound)
        rw [← hY] at HE1
        clear hx mr hbl hb1 HI hy hX1 hX0
        go_wp2_with (first | ((with_reducible refine Who.wpList_loadC 31 (.tmp 21) rfl (b) (off + j * 21) (Fc.eventC y) ?_); refine And.intro ⟨by rfl, by rfl, ⟨_, Tryd.underlying31, rfl⟩, Sr.info_event⟩ (And.intro (MR.out) ?_); (try simp only [Act.put, List.setIfInBounds_toArray, List.set_cons_zero, List.set_cons_succ])) | ((with_reducible refine Who.wpList_newC 31 8 (.tmp 22) rfl rfl rfl (Fc.eventC Sr.zeroE) (Fc.eventC y) ?_); refine And.intro ⟨rfl, rfl, rfl, halv, by rfl, by rfl, Sr.info_event, rfl, Sr.event_one _⟩ ?_; (try simp only [Act.put, List.setIfInBounds_toArray, List.set_cons_zero, List.set_cons_succ]); (try simp only [World.size_alloc])) | fail)
        rw [← hY]
        clear hY
        go_loopw [23] (fun i wr => ∃ k : Nat, i = .int .i64 k ∧ k ≤ 8 ∧ Hid (LsI id (if 0 ≤ y.at_.2 ∧ y.at_.2 < (k : Int) then X1 else X0) W w3 wr) ∧ Hid (Has wr Y 31 (Fc.eventC y))) (fun i _ => 8 - (intOf i).toNat)
        case atStart => exact ⟨0, rfl, Nat.zero_le _, Lib.hid (by rw [if_neg (by omega)]; exact HI1.out), HE1⟩
        case round =>
          clear HI1 HE1
          obtain ⟨k, rfl, hk, HI, HE⟩ := hrel
          by_cases hk8 : k < 8
          · have hw1 : wr.cell? ⟨Y, 1, none⟩ = some (.int .i64 y.at_.2) := HE.out.at_ 1
            have hki : (k : Int) < 8 := by omega
            by_cases hyk : y.at_.2 = (k : Int)
            · have HIK := Lib.hid (show LsI id X0 W w3 wr by have q := HI.out; rw [if_neg (by omega)] at q; exact q)
              have cv := vec_cell HIK.out.h2 hk8
              have fv := HIK.out.h2.free k
              have hkb := HLO.out k
              have HIN := Lib.hid (show LsI id (if 0 ≤ y.at_.2 ∧ y.at_.2 < ((k + 1 : Nat) : Int) then X1 else X0) W w3 (wr.setCell ⟨w3.heap.size, k, none⟩ (.int .i64 (X0 k + 1))) by rw [if_pos (by omega), HYE.out k hyk hk8]; exact HIK.out.put hk8 _)
              have HEN := Lib.hid (HE.out.keep (p := ⟨w3.heap.size, k, none⟩) (by show Y ≠ w3.heap.size; have := HGY.out; omega) (.int .i64 (X0 k + 1)))
              rw [hyk] at hw1
              obtain ⟨v, hv⟩ : ∃ v, v = X0 k := ⟨_, rfl⟩
              rw [← hv] at hkb cv HIN HEN
              have hv1 : 0 ≤ v := hkb.1
              have hv2 : v ≤ 60 := by omega
              clear hyk hkb hv HI HE HIK
              go_wp2_with fail
              go_roundw
              case rel => exact ⟨k + 1, by go_num, by omega, HIN, HEN⟩
              case measure => simp [intOf]; omega
            · have HIN := Lib.hid (show LsI id (if 0 ≤ y.at_.2 ∧ y.at_.2 < ((k + 1 : Nat) : Int) then X1 else X0) W w3 wr by
                have q := HI.out
                by_cases c : 0 ≤ y.at_.2 ∧ y.at_.2 < (k : Int)
                · rw [if_pos (by omega)]; rwa [if_pos c] at q
                · rw [if_neg (by omega)]; rwa [if_neg c] at q)
              clear HI
              go_wp2_with fail
              go_roundw
              case rel => exact ⟨k + 1, by go_num, by omega, HIN, HE⟩
              case measure => simp [intOf]; omega
          · have hkk : k = 8 := by omega
            have HIN := Lib.hid (show LsI id X1 W w3 wr by
              have q := HI.out
              by_cases c : 0 ≤ y.at_.2 ∧ y.at_.2 < 8
              · rwa [if_pos (by omega)] at q
              · rw [if_neg (by omega)] at q; rw [HNO.out c]; exact q)
            clear HI HE
            go_wp2_with fail
            go_roundw
            case rel => exact ⟨j + 1, by go_num, by omega, Lib.hid (by rw [← HXN.out]; exact HIN.out)⟩
            case measure => simp [intOf]; omega
      · obtain rfl : n0 = j := by omega
        have HI5 := HI
        clear HI hlt hj
        go_wp2_with fail
        have HI11 := Lib.hid HI5.out.drew
        refine wp_region_held_drew (S := fun V => V.rangeAt W.heap.size 0 (#[.int .i64 id.1, .int .i64 id.2] : Array Value).toList ∧ V.rangeAt w3.heap.size 0 (vecC (cntF f n0)).toList) (by kernel_rfl) HI11.out.s (fun hHeld => ?_)
        refine Vc.wpAnyH_read (i := 0) (d := some 38) (v := ?v1) (by rfl) (by rfl) (by kernel_rfl) (by kernel_rfl) (by kernel_rfl) (fun _ _ _ h => h) (by rfl) ?hy1 (by assumption) ?rest1
        case hy1 =>
          intro w hSw
          go_simp
          try with_reducible rfl
        (try simp only [Act.put, List.setIfInBounds_toArray, List.set_cons_zero, List.set_cons_succ])
        refine Vc.wpAnyH_read (i := 2) (d := some 40) (v := ?v2) (by rfl) (by rfl) (by kernel_rfl) (by kernel_rfl) (by kernel_rfl) (fun _ _ _ h => h) (by rfl) ?hy2 (by assumption) ?rest2
        case hy2 =>
          intro w hSw
          go_simp
          try with_reducible rfl
        (try simp only [Act.put, List.setIfInBounds_toArray, List.set_cons_zero, List.set_cons_succ])
        refine wpAnyH_ready (rs := [1]) (by kernel_rfl) (by simp) ?_
        refine AllReadyH.cons rfl (fun K hK => ?_) AllReadyH.nil
        go_simp
        go_at_call 13
        refine (Stab.order_all A1 n0 c1 es h64 _ (HC.out.below HI11.out.b3)).mono ?_
        intro q w6 ho
        obtain ⟨A6, c6, os, rfl, o1, o2, o3, hb⟩ := ord_row ho
        have HOL := Lib.hid o1
        have HX6 := Lib.hid o3
        clear ho o1 o2 o3
        have HI12 := Lib.hid (HI11.out.low hb)
        clear hb HI11
        refine hK.out _ _ HI12.out.s (fun hHeld => ?_)
        clear hK K
        (try simp only [Act.put, List.setIfInBounds_toArray, List.set_cons_zero, List.set_cons_succ])
        refine wpAnyH_ready (rs := [3]) (by kernel_rfl) (by simp) ?_
        refine AllReadyH.cons rfl (fun K hK => ?_) AllReadyH.nil
        go_simp
        go_at_call 14
        refine (rorder_all A0 n0 c0 es h60 _ (HR.out.below HI12.out.below)).mono ?_
        intro q w7 ho
        obtain ⟨A7, c7, os2, rfl, o1, o2, o3, hb⟩ := ord_row ho
        obtain rfl : os2 = os := o1.uniq HOL.out
        have HX7 := Lib.hid o3
        have HX6b := Lib.hid (HX6.out.below hb)
        have hos : os2.length ≤ 9223372036854775807 := by rw [HLN.out] at o2; omega
        have HFO := Lib.hid (show ∀ V, Below W.heap.size W V → ∀ e ∈ os2, Fc.StateFit V e.d from fun V hb e he => HF.out V hb e (Stab.first_mem ((o1.mem e).1 he)))
        clear ho o1 o2 o3 HX6
        have HI13 := Lib.hid (HI12.out.low hb)
        clear hb HI12
        refine hK.out _ _ HI13.out.s (fun hHeld => ?_)
        clear hK K
        (try simp only [Act.put, List.setIfInBounds_toArray, List.set_cons_zero, List.set_cons_succ])
        refine wpAnyH_ready (rs := [4]) (by kernel_rfl) (by simp) ?_
        refine AllReadyH.cons rfl (fun K hK => ?_) AllReadyH.nil
        go_simp
        go_at_call 12
        refine (Smr.sames_self A6 A7 os2.length c6 c7 os2 hos _ HX6b.out HX7.out (HFO.out _ (HI13.out.below))).mono ?_
        rintro q w8 ⟨rfl, hb⟩
        clear HX6b HX7 HFO hos
        have HI14 := Lib.hid (HI13.out.low hb)
        clear hb HI13
        refine hK.out _ _ HI14.out.s (fun hHeld => ?_)
        clear hK K
        (try simp only [Act.put, List.setIfInBounds_toArray, List.set_cons_zero, List.set_cons_succ])
        refine Vc.wpAnyH_read (i := 5) (d := some 43) (v := ?v3) (by rfl) (by rfl) (by kernel_rfl) (by kernel_rfl) (by kernel_rfl) (fun _ _ _ h => h) (by rfl) ?hy3 (by assumption) ?rest3
        case hy3 =>
          intro w hSw
          go_simp
          try with_reducible rfl
        (try simp only [Act.put, List.setIfInBounds_toArray, List.set_cons_zero, List.set_cons_succ])
        refine Vc.wpAnyH_read (i := 6) (d := some 44) (v := ?v4) (by rfl) (by rfl) (by kernel_rfl) (by kernel_rfl) (by kernel_rfl) (fun _ _ _ h => h) (by rfl) ?hy4 (by assumption) ?rest4
        case hy4 =>
          intro w hSw
          go_simp
          try with_reducible rfl
        (try simp only [Act.put, List.setIfInBounds_toArray, List.set_cons_zero, List.set_cons_succ])
        refine Vc.wpAnyH_read (i := 7) (d := some 45) (v := .agg #[.int .i64 id.1, .int .i64 id.2]) (by rfl) (by rfl) (by kernel_rfl) (by kernel_rfl) (by kernel_rfl) (fun _ _ _ h => h) (by rfl) ?hy5 (by assumption) ?rest5
        case hy5 =>
          intro w hSw
          exact Who.exec_loadA _ rfl rfl hSw.1 Tryd.underlying23 rfl Sr.info_st
        (try simp only [Act.put, List.setIfInBounds_toArray, List.set_cons_zero, List.set_cons_succ])
        refine Vc.wpAnyH_read (i := 9) (d := some 47) (v := ?v6) (by rfl) (by rfl) (by kernel_rfl) (by kernel_rfl) (by kernel_rfl) (fun _ _ _ h => h) (by rfl) ?hy6 (by assumption) ?rest6
        case hy6 =>
          intro w hSw
          go_simp
          try with_reducible rfl
        (try simp only [Act.put, List.setIfInBounds_toArray, List.set_cons_zero, List.set_cons_succ])
        refine Vc.wpAnyH_read (i := 10) (d := some 48) (v := .agg #[.int .i64 id.1, .int .i64 id.2]) (by rfl) (by rfl) (by kernel_rfl) (by kernel_rfl) (by kernel_rfl) (fun _ _ _ h => h) (by rfl) ?hy7 (by assumption) ?rest7
        case hy7 =>
          intro w hSw
          exact Who.exec_loadA _ rfl rfl hSw.1 Tryd.underlying23 rfl Sr.info_st
        (try simp only [Act.put, List.setIfInBounds_toArray, List.set_cons_zero, List.set_cons_succ])
        refine wpAnyH_ready (rs := [8]) (by kernel_rfl) (by simp) ?_
        refine AllReadyH.cons rfl (fun K hK => ?_) AllReadyH.nil
        go_simp
        go_at_call 15
        refine (about_all A1 n0 c1 es id h4m _ (HC.out.below HI14.out.b3) (HF.out _ HI14.out.below)).mono ?_
        rintro q w9 ⟨v9, rfl, hv, hb⟩
        obtain ⟨A9, c9, rfl, _, _⟩ := eown_sl hv
        have HX9 := Lib.hid (eown_srow hv)
        clear hv
        have HI15 := Lib.hid (HI14.out.low hb)
        clear hb HI14
        refine hK.out _ _ HI15.out.s (fun hHeld => ?_)
        clear hK K
        (try simp only [Act.put, List.setIfInBounds_toArray, List.set_cons_zero, List.set_cons_succ])
        refine wpAnyH_ready (rs := [11]) (by kernel_rfl) (by simp) ?_
        refine AllReadyH.cons rfl (fun K hK => ?_) AllReadyH.nil
        go_simp
        go_at_call 16
        refine (rabout_all A0 n0 c0 es id h4m _ (HR.out.below HI15.out.below) (HF.out _ HI15.out.below)).mono ?_
        rintro q w10 ⟨v10, rfl, hv, hb⟩
        obtain ⟨A10, c10, rfl, _, _⟩ := eown_sl hv
        have HX10 := Lib.hid (eown_srow hv)
        have HX9b := Lib.hid (HX9.out.below hb)
        clear hv HX9
        have HI16 := Lib.hid (HI15.out.low hb)
        clear hb HI15
        refine hK.out _ _ HI16.out.s (fun hHeld => ?_)
        clear hK K
        (try simp only [Act.put, List.setIfInBounds_toArray, List.set_cons_zero, List.set_cons_succ])
        refine wpAnyH_ready (rs := [12]) (by kernel_rfl) (by simp) ?_
        refine AllReadyH.cons rfl (fun K hK => ?_) AllReadyH.nil
        go_simp
        go_at_call 12
        refine (Smr.sames_self A9 A10 (es.filter (aboutB id)).length c9 c10 (es.filter (aboutB id)) HFL.out _ HX9b.out HX10.out (HFF.out _ (HI16.out.below))).mono ?_
        rintro q w11 ⟨rfl, hb⟩
        clear HX9b HX10
        have HI17 := Lib.hid (HI16.out.low hb)
        clear hb HI16
        refine hK.out _ _ HI17.out.s (fun hHeld => ?_)
        clear hK K
        (try simp only [Act.put, List.setIfInBounds_toArray, List.set_cons_zero, List.set_cons_succ])
        refine Vc.wpAnyH_read (i := 13) (d := some 51) (v := ?v8) (by rfl) (by rfl) (by kernel_rfl) (by kernel_rfl) (by kernel_rfl) (fun _ _ _ h => h) (by rfl) ?hy8 (by assumption) ?rest8
        case hy8 =>
          intro w hSw
          go_simp
          try with_reducible rfl
        (try simp only [Act.put, List.setIfInBounds_toArray, List.set_cons_zero, List.set_cons_succ])
        refine Vc.wpAnyH_read (i := 14) (d := some 10) (v := ?v9) (by rfl) (by rfl) (by kernel_rfl) (by kernel_rfl) (by kernel_rfl) (fun _ _ _ h => h) (by rfl) ?hy9 (by assumption) ?rest9
        case hy9 =>
          intro w hSw
          go_simp
          try with_reducible rfl
        (try simp only [Act.put, List.setIfInBounds_toArray, List.set_cons_zero, List.set_cons_succ])
        refine wpAnyH_done (by kernel_rfl) ?_ _
        go_wp2_with fail
        have HI18 := Lib.hid HI17.out.drew
        refine wp_region_held_drew (S := fun V => V.rangeAt W.heap.size 0 (#[.int .i64 id.1, .int .i64 id.2] : Array Value).toList ∧ V.rangeAt w3.heap.size 0 (vecC (cntF f n0)).toList) (by kernel_rfl) HI18.out.s (fun hHeld => ?_)
        refine Vc.wpAnyH_read (i := 0) (d := some 52) (v := ?v10) (by rfl) (by rfl) (by kernel_rfl) (by kernel_rfl) (by kernel_rfl) (fun _ _ _ h => h) (by rfl) ?hy10 (by assumption) ?rest10
        case hy10 =>
          intro w hSw
          go_simp
          try with_reducible rfl
        (try simp only [Act.put, List.setIfInBounds_toArray, List.set_cons_zero, List.set_cons_succ])
        refine Vc.wpAnyH_read (i := 1) (d := some 53) (v := ?v11) (by rfl) (by rfl) (by kernel_rfl) (by kernel_rfl) (by kernel_rfl) (fun _ _ _ h => h) (by rfl) ?hy11 (by assumption) ?rest11
        case hy11 =>
          intro w hSw
          go_simp
          try with_reducible rfl
        (try simp only [Act.put, List.setIfInBounds_toArray, List.set_cons_zero, List.set_cons_succ])
        refine Vc.wpAnyH_read (i := 2) (d := some 54) (v := ?v12) (by rfl) (by rfl) (by kernel_rfl) (by kernel_rfl) (by kernel_rfl) (fun _ _ _ h => h) (by rfl) ?hy12 (by assumption) ?rest12
        case hy12 =>
          intro w hSw
          go_simp
          try with_reducible rfl
        (try simp only [Act.put, List.setIfInBounds_toArray, List.set_cons_zero, List.set_cons_succ])
        refine Vc.wpAnyH_read (i := 4) (d := some 56) (v := ?v13) (by rfl) (by rfl) (by kernel_rfl) (by kernel_rfl) (by kernel_rfl) (fun _ _ _ h => h) (by rfl) ?hy13 (by assumption) ?rest13
        case hy13 =>
          intro w hSw
          go_simp
          try with_reducible rfl
        (try simp only [Act.put, List.setIfInBounds_toArray, List.set_cons_zero, List.set_cons_succ])
        refine wpAnyH_ready (rs := [3]) (by kernel_rfl) (by simp) ?_
        refine AllReadyH.cons rfl (fun K hK => ?_) AllReadyH.nil
        go_simp
        go_at_call 18
        refine (apart_all A1 n0 c1 es h60 HNC.out _ (HC.out.below HI18.out.b3)).mono ?_
        rintro q w12 ⟨v12, rfl, hv, hb⟩
        obtain ⟨A12, c12, rfl⟩ := pown_sl hv
        have HX12 := Lib.hid (pown_srow hv)
        clear hv
        have HI19 := Lib.hid (HI18.out.low hb)
        clear hb HI18
        refine hK.out _ _ HI19.out.s (fun hHeld => ?_)
        clear hK K
        (try simp only [Act.put, List.setIfInBounds_toArray, List.set_cons_zero, List.set_cons_succ])
        refine wpAnyH_ready (rs := [5]) (by kernel_rfl) (by simp) ?_
        refine AllReadyH.cons rfl (fun K hK => ?_) AllReadyH.nil
        go_simp
        go_at_call 19
        refine (rapart_all A0 n0 c0 es h60 hn _ (HR.out.below HI19.out.below)).mono ?_
        rintro q w13 ⟨v13, rfl, hv, hb⟩
        obtain ⟨A13, c13, rfl⟩ := pown_sl hv
        have HX13 := Lib.hid (pown_srow hv)
        have HX12b := Lib.hid (HX12.out.below hb)
        clear hv HX12
        have HI20 := Lib.hid (HI19.out.low hb)
        clear hb HI19
        refine hK.out _ _ HI20.out.s (fun hHeld => ?_)
        clear hK K
        (try simp only [Act.put, List.setIfInBounds_toArray, List.set_cons_zero, List.set_cons_succ])
        refine wpAnyH_ready (rs := [6]) (by kernel_rfl) (by simp) ?_
        refine AllReadyH.cons rfl (fun K hK => ?_) AllReadyH.nil
        go_simp
        go_at_call 17
        refine (eqp_self A12 A13 _ c12 c13 _ HPL.out _ HX12b.out HX13.out).mono ?_
        rintro q w14 ⟨rfl, hb⟩
        clear HX12b HX13
        have HI21 := Lib.hid (HI20.out.low hb)
        clear hb HI20
        refine hK.out _ _ HI21.out.s (fun hHeld => ?_)
        clear hK K
        (try simp only [Act.put, List.setIfInBounds_toArray, List.set_cons_zero, List.set_cons_succ])
        refine Vc.wpAnyH_read (i := 7) (d := some 59) (v := ?v14) (by rfl) (by rfl) (by kernel_rfl) (by kernel_rfl) (by kernel_rfl) (fun _ _ _ h => h) (by rfl) ?hy14 (by assumption) ?rest14
        case hy14 =>
          intro w hSw
          go_simp
          try with_reducible rfl
        (try simp only [Act.put, List.setIfInBounds_toArray, List.set_cons_zero, List.set_cons_succ])
        refine Vc.wpAnyH_read (i := 8) (d := some 60) (v := ?v15) (by rfl) (by rfl) (by kernel_rfl) (by kernel_rfl) (by kernel_rfl) (fun _ _ _ h => h) (by rfl) ?hy15 (by assumption) ?rest15
        case hy15 =>
          intro w hSw
          go_simp
          try with_reducible rfl
        (try simp only [Act.put, List.setIfInBounds_toArray, List.set_cons_zero, List.set_cons_succ])
        refine Vc.wpAnyH_read (i := 9) (d := some 61) (v := ?v16) (by rfl) (by rfl) (by kernel_rfl) (by kernel_rfl) (by kernel_rfl) (fun _ _ _ h => h) (by rfl) ?hy16 (by assumption) ?rest16
        case hy16 =>
          intro w hSw
          go_simp
          try with_reducible rfl
        (try simp only [Act.put, List.setIfInBounds_toArray, List.set_cons_zero, List.set_cons_succ])
        refine Vc.wpAnyH_read (i := 11) (d := some 63) (v := .agg (vecC (cntF f n0))) (by rfl) (by rfl) (by kernel_rfl) (by kernel_rfl) (by kernel_rfl) (fun _ _ _ h => h) (by rfl) ?hy17 (by assumption) ?rest17
        case hy17 =>
          intro w hSw
          exact Who.exec_loadA _ rfl rfl hSw.2 Tryd.underlying24 rfl info_a8
        (try simp only [Act.put, List.setIfInBounds_toArray, List.set_cons_zero, List.set_cons_succ])
        refine wpAnyH_ready (rs := [10]) (by kernel_rfl) (by simp) ?_
        refine AllReadyH.cons rfl (fun K hK => ?_) AllReadyH.nil
        go_simp
        go_at_call 20
        refine (counts_all A1 n0 c1 es h60 _ (HC.out.below HI21.out.b3)).mono ?_
        rintro q w15 ⟨rfl, hb⟩
        rw [← hf]
        have HI22 := Lib.hid (HI21.out.low hb)
        clear hb HI21
        refine hK.out _ _ HI22.out.s (fun hHeld => ?_)
        clear hK K
        (try simp only [Act.put, List.setIfInBounds_toArray, List.set_cons_zero, List.set_cons_succ])
        refine Vc.wpAnyH_read (i := 12) (d := some 64) (v := .bool true) (by rfl) (by rfl) (by kernel_rfl) (by kernel_rfl) (by kernel_rfl) (fun _ _ _ h => h) (by rfl) ?hy18 (by assumption) ?rest18
        case hy18 =>
          intro w hSw
          go_simp
          rw [eqin_a8]
          rfl
        (try simp only [Act.put, List.setIfInBounds_toArray, List.set_cons_zero, List.set_cons_succ])
        refine Vc.wpAnyH_read (i := 13) (d := some 65) (v := ?v19) (by rfl) (by rfl) (by kernel_rfl) (by kernel_rfl) (by kernel_rfl) (fun _ _ _ h => h) (by rfl) ?hy19 (by assumption) ?rest19
        case hy19 =>
          intro w hSw
          go_simp
          try with_reducible rfl
        (try simp only [Act.put, List.setIfInBounds_toArray, List.set_cons_zero, List.set_cons_succ])
        refine Vc.wpAnyH_read (i := 14) (d := some 66) (v := ?v20) (by rfl) (by rfl) (by kernel_rfl) (by kernel_rfl) (by kernel_rfl) (fun _ _ _ h => h) (by rfl) ?hy20 (by assumption) ?rest20
        case hy20 =>
          intro w hSw
          go_simp
          try with_reducible rfl
        (try simp only [Act.put, List.setIfInBounds_toArray, List.set_cons_zero, List.set_cons_succ])
        refine Vc.wpAnyH_read (i := 15) (d := some 67) (v := ?v21) (by rfl) (by rfl) (by kernel_rfl) (by kernel_rfl) (by kernel_rfl) (fun _ _ _ h => h) (by rfl) ?hy21 (by assumption) ?rest21
        case hy21 =>
          intro w hSw
          go_simp
          try with_reducible rfl
        (try simp only [Act.put, List.setIfInBounds_toArray, List.set_cons_zero, List.set_cons_succ])
        refine Vc.wpAnyH_read (i := 16) (d := some 68) (v := ?v22) (by rfl) (by rfl) (by kernel_rfl) (by kernel_rfl) (by kernel_rfl) (fun _ _ _ h => h) (by rfl) ?hy22 (by assumption) ?rest22
        case hy22 =>
          intro w hSw
          go_simp
          try with_reducible rfl
        (try simp only [Act.put, List.setIfInBounds_toArray, List.set_cons_zero, List.set_cons_succ])
        refine wpAnyH_ready (rs := [17]) (by kernel_rfl) (by simp) ?_
        refine AllReadyH.cons rfl (fun K hK => ?_) AllReadyH.nil
        go_simp
        go_at_call 12
        refine (Smr.sames_self A1 A0 n0 c1 c0 es hn64 _ (HC.out.below HI22.out.b3) (HR.out.below HI22.out.below) (HF.out _ HI22.out.below)).mono ?_
        rintro q w16 ⟨rfl, hb⟩
        have HI23 := Lib.hid (HI22.out.low hb)
        clear hb HI22
        refine hK.out _ _ HI23.out.s (fun hHeld => ?_)
        clear hK K
        (try simp only [Act.put, List.setIfInBounds_toArray, List.set_cons_zero, List.set_cons_succ])
        refine Vc.wpAnyH_read (i := 18) (d := some 70) (v := ?v23) (by rfl) (by rfl) (by kernel_rfl) (by kernel_rfl) (by kernel_rfl) (fun _ _ _ h => h) (by rfl) ?hy23 (by assumption) ?rest23
        case hy23 =>
          intro w hSw
          go_simp
          try with_reducible rfl
        (try simp only [Act.put, List.setIfInBounds_toArray, List.set_cons_zero, List.set_cons_succ])
        refine Vc.wpAnyH_read (i := 19) (d := some 71) (v := ?v24) (by rfl) (by rfl) (by kernel_rfl) (by kernel_rfl) (by kernel_rfl) (fun _ _ _ h => h) (by rfl) ?hy24 (by assumption) ?rest24
        case hy24 =>
          intro w hSw
          go_simp
          try with_reducible rfl
        (try simp only [Act.put, List.setIfInBounds_toArray, List.set_cons_zero, List.set_cons_succ])
        refine wpAnyH_ready (rs := [20]) (by kernel_rfl) (by simp) ?_
        refine AllReadyH.cons rfl (fun K hK => ?_) AllReadyH.nil
        go_simp
        go_at_call 10
        refine (Sr.awake_any _ (HTT.out _ (HI23.out.below))).mono ?_
        rintro q w17 ⟨rfl, hb⟩
        have HI24 := Lib.hid (HI23.out.low hb)
        clear hb HI23
        refine hK.out _ _ HI24.out.s (fun hHeld => ?_)
        clear hK K
        (try simp only [Act.put, List.setIfInBounds_toArray, List.set_cons_zero, List.set_cons_succ])
        refine Vc.wpAnyH_read (i := 21) (d := some 73) (v := ?v25) (by rfl) (by rfl) (by kernel_rfl) (by kernel_rfl) (by kernel_rfl) (fun _ _ _ h => h) (by rfl) ?hy25 (by assumption) ?rest25
        case hy25 =>
          intro w hSw
          go_simp
          try with_reducible rfl
        (try simp only [Act.put, List.setIfInBounds_toArray, List.set_cons_zero, List.set_cons_succ])
        refine Vc.wpAnyH_read (i := 22) (d := some 4) (v := ?v26) (by rfl) (by rfl) (by kernel_rfl) (by kernel_rfl) (by kernel_rfl) (fun _ _ _ h => h) (by rfl) ?hy26 (by assumption) ?rest26
        case hy26 =>
          intro w hSw
          go_simp
          try with_reducible rfl
        (try simp only [Act.put, List.setIfInBounds_toArray, List.set_cons_zero, List.set_cons_succ])
        refine wpAnyH_done (by kernel_rfl) ?_ _
        go_wp2
        go_ret
        exact ⟨rfl, HI24.out.below⟩
end Go.Proofs.YtdbmnnmcelaehaaDoor.Stl
