/- VectorBack, walked. -/
import Derived.Test.YtlnlnpofdgnoeabVcW5
namespace Go.Proofs.Ytlnlnpofdgnoeab.Vc
open Go.RowKit Go.Proofs.Ytlnlnpofdgnoeab.Oct

theorem eql_lit (x : Nat → Int) (w : World) : (binOp .eql 23 (.agg #[.int .i64 (x 0), .int .i64 (x 1), .int .i64 (x 2), .int .i64 (x 3), .int .i64 (x 4), .int .i64 (x 5), .int .i64 (x 6), .int .i64 (x 7)]) (.agg #[.int .i64 (x 0), .int .i64 (x 1), .int .i64 (x 2), .int .i64 (x 3), .int .i64 (x 4), .int .i64 (x 5), .int .i64 (x 6), .int .i64 (x 7)])).run Try.prog w = .ok (.bool true) w := (eql_vec x x w).trans (by rw [eq8_self])
theorem eql_same_st (a b : Int) (w : World) : (binOp .eql 25 (.agg #[.int .i64 a, .int .i64 b]) (.agg #[.int .i64 a, .int .i64 b])).run Try.prog w = .ok (.bool true) w := (eql_st a b a b w).trans (by simp)
theorem hover {w w' : World} {g : Nat} {t : TypeId} {cs : Array Value} (h : Oct.Has w g t cs) (hb : Below w.heap.size w w') : Oct.Has w' g t cs := Oct.Has.over h (Chg.of_below hb (fun _ => False)) (fun k => k)

set_option maxHeartbeats 8000000 in
set_option maxRecDepth 100000 in
theorem back_ok (v : Nat → Int) (t u : Int) (W : World) (hg : goodB v = true) (hi : isB t u = true) :
    Calls Try.prog 4 #[.agg (vecC v), .agg (stC t u)] W fun e w' => e = .returned (.bool true) ∧ Below W.heap.size W w' := by
  have hb0 := Below.drew (((((Below.refl W.heap.size W).alloc (Nat.le_refl _) (.cells #[.int .i64 (v 0), .int .i64 (v 1), .int .i64 (v 2), .int .i64 (v 3), .int .i64 (v 4), .int .i64 (v 5), .int .i64 (v 6), .int .i64 (v 7)] 23)).alloc (by simp) (.cells #[.int .i64 t, .int .i64 u] 25)).alloc (by simp; omega) (.cells #[.int .i64 0, .int .i64 0, .int .i64 0, .int .i64 0, .int .i64 0, .int .i64 0, .int .i64 0, .int .i64 0] 23)).alloc (by simp; omega) (.cells #[.int .i64 0, .int .i64 0] 25))
  have hv := Oct.Has.drew ((((Oct.Has.fresh W 23 #[.int .i64 (v 0), .int .i64 (v 1), .int .i64 (v 2), .int .i64 (v 3), .int .i64 (v 4), .int .i64 (v 5), .int .i64 (v 6), .int .i64 (v 7)]).past (.cells #[.int .i64 t, .int .i64 u] 25)).past (.cells #[.int .i64 0, .int .i64 0, .int .i64 0, .int .i64 0, .int .i64 0, .int .i64 0, .int .i64 0, .int .i64 0] 23)).past (.cells #[.int .i64 0, .int .i64 0] 25))
  have hs := Oct.Has.drew (((Oct.Has.fresh (W.alloc (.cells #[.int .i64 (v 0), .int .i64 (v 1), .int .i64 (v 2), .int .i64 (v 3), .int .i64 (v 4), .int .i64 (v 5), .int .i64 (v 6), .int .i64 (v 7)] 23)) 25 #[.int .i64 t, .int .i64 u]).past (.cells #[.int .i64 0, .int .i64 0, .int .i64 0, .int .i64 0, .int .i64 0, .int .i64 0, .int .i64 0, .int .i64 0] 23)).past (.cells #[.int .i64 0, .int .i64 0] 25))
  have hx := Oct.Has.drew ((Oct.Has.fresh ((W.alloc (.cells #[.int .i64 (v 0), .int .i64 (v 1), .int .i64 (v 2), .int .i64 (v 3), .int .i64 (v 4), .int .i64 (v 5), .int .i64 (v 6), .int .i64 (v 7)] 23)).alloc (.cells #[.int .i64 t, .int .i64 u] 25)) 23 #[.int .i64 0, .int .i64 0, .int .i64 0, .int .i64 0, .int .i64 0, .int .i64 0, .int .i64 0, .int .i64 0]).past (.cells #[.int .i64 0, .int .i64 0] 25))
  have hy := Oct.Has.drew (Oct.Has.fresh (((W.alloc (.cells #[.int .i64 (v 0), .int .i64 (v 1), .int .i64 (v 2), .int .i64 (v 3), .int .i64 (v 4), .int .i64 (v 5), .int .i64 (v 6), .int .i64 (v 7)] 23)).alloc (.cells #[.int .i64 t, .int .i64 u] 25)).alloc (.cells #[.int .i64 0, .int .i64 0, .int .i64 0, .int .i64 0, .int .i64 0, .int .i64 0, .int .i64 0, .int .i64 0] 23)) 25 #[.int .i64 0, .int .i64 0])
  rw [World.size_alloc] at hs hx hy
  rw [World.size_alloc] at hx hy
  rw [World.size_alloc] at hy
  have hmf : ∀ (fn : Fn) (first cap : Array Value) (w : World), (Instr.makeFunc fn first cap).run Try.prog w = .ok (.func fn first cap) w := fun _ _ _ _ => rfl
  have HP := Lib.hid (fun w => show Calls Try.prog 14 #[.slice none 0 0, .agg #[.int .i64 (v 0), .int .i64 (v 1), .int .i64 (v 2), .int .i64 (v 3), .int .i64 (v 4), .int .i64 (v 5), .int .i64 (v 6), .int .i64 (v 7)]] w fun e w' => ∃ x, e = .returned x ∧ Owns w' w.heap.size x (vecB v) ∧ Below w.heap.size w w' from put_vec none 0 0 v [] (by omega) w (row_nil w) (fun _ => ⟨rfl, rfl⟩))
  have hR : vsB v t u = ⟨(vecB v ++ stB t u).toArray⟩ := rfl
  have hlen : (vecB v).length = 48 := vecTo_len v 8
  have HI := Lib.hid (fun W => show Calls Try.prog 8 #[.agg #[.int .i64 t, .int .i64 u]] W fun e w' => e = .returned (.bool (isB t u)) ∧ Below W.heap.size W w' from is_any t u W)
  have HG := Lib.hid (fun W => show Calls Try.prog 18 #[.agg #[.int .i64 (v 0), .int .i64 (v 1), .int .i64 (v 2), .int .i64 (v 3), .int .i64 (v 4), .int .i64 (v 5), .int .i64 (v 6), .int .i64 (v 7)]] W fun e w' => e = .returned (.bool (goodB v)) ∧ Below W.heap.size W w' from good_any v W)
  have HSZ := Lib.hid (vsB_size v t u)
  have HGG := Lib.hid (back_good t u hg)
  have HST := Lib.hid (show stampB (seeT ((vsB v t u).extract 48 (vsB v t u).size)) (seeW ((vsB v t u).extract 48 (vsB v t u).size)) = true by rw [(back_t v hi).1, (back_t v hi).2]; unfold stampB; rw [hi]; rfl)
  have HBV := Lib.hid (back_v (v := v) t u hg)
  have HBT := Lib.hid (back_t v hi)
  rw [hg] at HG
  rw [hi] at HI
  have q1 := fun w => eql_lit v w
  have q2 := fun w => eql_same_st t u w
  clear hg hi
  have HRR := Lib.hid hR
  have HLEN := Lib.hid hlen
  clear hR hlen
  unfold vecC stC
  go_enter Try.func4, Try.ntmps4
  go_wp2_with fail
  refine wp_region_held_drew (S := (fun w' => (w'.cell? ⟨W.heap.size, 0, none⟩ = some (.int .i64 (v 0)) ∧ w'.cell? ⟨W.heap.size, 1, none⟩ = some (.int .i64 (v 1)) ∧ w'.cell? ⟨W.heap.size, 2, none⟩ = some (.int .i64 (v 2)) ∧ w'.cell? ⟨W.heap.size, 3, none⟩ = some (.int .i64 (v 3)) ∧ w'.cell? ⟨W.heap.size, 4, none⟩ = some (.int .i64 (v 4)) ∧ w'.cell? ⟨W.heap.size, 5, none⟩ = some (.int .i64 (v 5)) ∧ w'.cell? ⟨W.heap.size, 6, none⟩ = some (.int .i64 (v 6)) ∧ w'.cell? ⟨W.heap.size, 7, none⟩ = some (.int .i64 (v 7))) ∧ w'.cell? ⟨W.heap.size + 1, 0, none⟩ = some (.int .i64 t) ∧ w'.cell? ⟨W.heap.size + 1, 1, none⟩ = some (.int .i64 u))) (by kernel_rfl) ⟨has_vec hv, has_st hs⟩ (fun hHeld => ?_)
  refine wpAnyH_read (i := 0) (d := some 8) (v := ?v2) (by rfl) (by rfl) (by kernel_rfl) (by kernel_rfl) (by kernel_rfl) (fun _ _ _ h => h) (by rfl) ?hy2 (by assumption) ?rest2
  case hy2 =>
    intro w hSw
    try dsimp only at hSw
    go_simp
    try with_reducible rfl
  try simp only [Act.put, List.setIfInBounds_toArray, List.set_cons_zero, List.set_cons_succ]
  refine wpAnyH_read (i := 2) (d := some 10) (v := ?v3) (by rfl) (by rfl) (by kernel_rfl) (by kernel_rfl) (by kernel_rfl) (fun _ _ _ h => h) (by rfl) ?hy3 (by assumption) ?rest3
  case hy3 =>
    intro w hSw
    try dsimp only at hSw
    go_simp
    try with_reducible rfl
  try simp only [Act.put, List.setIfInBounds_toArray, List.set_cons_zero, List.set_cons_succ]
  refine wpAnyH_read (i := 4) (d := some 12) (v := ?v4) (by rfl) (by rfl) (by kernel_rfl) (by kernel_rfl) (by kernel_rfl) (fun _ _ _ h => h) (by rfl) ?hy4 (by assumption) ?rest4
  case hy4 =>
    intro w hSw
    try dsimp only at hSw
    go_simp
    try with_reducible rfl
  try simp only [Act.put, List.setIfInBounds_toArray, List.set_cons_zero, List.set_cons_succ]
  refine wpAnyH_ready (rs := [1]) (by kernel_rfl) (by simp) ?_
  refine AllReadyH.cons rfl (fun K hK => ?_) AllReadyH.nil
  go_simp
  go_at_call 14
  refine (HP.out _).mono ?_
  rintro e w7 ⟨x1, rfl, ho, hb⟩
  obtain ⟨A1, k1, rfl, r1, n1⟩ := owns_lens ho
  rw [HLEN.out] at r1 n1 ⊢
  clear ho
  replace hv := hover hv hb
  replace hs := hover hs hb
  replace hx := hover hx hb
  replace hy := hover hy hb
  replace hb0 := hb0.trans (hb.mono hb0.size)
  clear hb
  refine hK.out _ _ ⟨has_vec hv, has_st hs⟩ (fun hHeld => ?_)
  clear hK K
  try simp only [Act.put, List.setIfInBounds_toArray, List.set_cons_zero, List.set_cons_succ]
  refine wpAnyH_ready (rs := [3]) (by kernel_rfl) (by simp) ?_
  refine AllReadyH.cons rfl (fun K hK => ?_) AllReadyH.nil
  go_simp
  go_at_call 13
  refine (putStamp_any A1 48 k1 t u (vecB v) (by omega) _ r1 n1).mono ?_
  rintro e w8 ⟨x2, rfl, ho, hb⟩
  obtain ⟨A2, k2, rfl, r2, n2⟩ := owns_lens ho
  clear ho r1 n1
  replace hv := hover hv hb
  replace hs := hover hs hb
  replace hx := hover hx hb
  replace hy := hover hy hb
  replace hb0 := hb0.trans (hb.mono hb0.size)
  clear hb
  refine hK.out _ _ ⟨has_vec hv, has_st hs⟩ (fun hHeld => ?_)
  clear hK K
  try simp only [Act.put, List.setIfInBounds_toArray, List.set_cons_zero, List.set_cons_succ]
  refine wpAnyH_ready (rs := [5]) (by kernel_rfl) (by simp) ?_
  refine AllReadyH.cons rfl (fun K hK => ?_) AllReadyH.nil
  go_simp
  go_at_call 12
  refine (read_ok A2 _ k2 (W.heap.size + 1 + 1) (W.heap.size + 1 + 1 + 1) (vecB v ++ stB t u) (vsB v t u) HRR.out nil8 0 0 HSZ.out HGG.out HST.out (by omega) _ r2 hx hy).mono ?_
  rintro e w9 ⟨rfl, gx, gy, hc⟩
  rw [HBV.out] at gx
  rw [HBT.out.1, HBT.out.2] at gy
  replace hv := Oct.Has.over hv hc (by rintro (e | e) <;> omega)
  replace hs := Oct.Has.over hs hc (by rintro (e | e) <;> omega)
  replace hb0 := below_over hb0 hb0.size hc (by rintro i hi (e | e) <;> omega)
  clear hx hy
  have hx := gx
  have hy := gy
  clear gx gy hc
  refine hK.out _ _ ⟨has_vec hv, has_st hs⟩ (fun hHeld => ?_)
  clear hK K
  try simp only [Act.put, List.setIfInBounds_toArray, List.set_cons_zero, List.set_cons_succ]
  refine wpAnyH_read (i := 6) (d := some 7) (v := ?v8) (by rfl) (by rfl) (by kernel_rfl) (by kernel_rfl) (by kernel_rfl) (fun _ _ _ h => h) (by rfl) ?hy8 (by assumption) ?rest8
  case hy8 =>
    intro w hSw
    try dsimp only at hSw
    go_simp
    try with_reducible rfl
  try simp only [Act.put, List.setIfInBounds_toArray, List.set_cons_zero, List.set_cons_succ]
  refine wpAnyH_done (by kernel_rfl) ?_ _
  obtain ⟨cv0, cv1, cv2, cv3, cv4, cv5, cv6, cv7⟩ := has_vec hv
  obtain ⟨cs0, cs1⟩ := has_st hs
  go_wp2_with fail
  refine (HG.out _).mono ?_
  rintro e w10 ⟨rfl, hb⟩
  clear cv0 cv1 cv2 cv3 cv4 cv5 cv6 cv7 cs0 cs1
  replace hv := hover hv hb
  replace hs := hover hs hb
  replace hx := hover hx hb
  replace hy := hover hy hb
  replace hb0 := hb0.trans (hb.mono hb0.size)
  clear hb
  obtain ⟨cv0, cv1, cv2, cv3, cv4, cv5, cv6, cv7⟩ := has_vec hv
  obtain ⟨cs0, cs1⟩ := has_st hs
  go_wp2_with fail
  refine (HI.out _).mono ?_
  rintro e w10 ⟨rfl, hb⟩
  clear cv0 cv1 cv2 cv3 cv4 cv5 cv6 cv7 cs0 cs1
  replace hv := hover hv hb
  replace hs := hover hs hb
  replace hx := hover hx hb
  replace hy := hover hy hb
  replace hb0 := hb0.trans (hb.mono hb0.size)
  clear hb
  obtain ⟨cv0, cv1, cv2, cv3, cv4, cv5, cv6, cv7⟩ := has_vec hv
  obtain ⟨cs0, cs1⟩ := has_st hs
  obtain ⟨cx0, cx1, cx2, cx3, cx4, cx5, cx6, cx7⟩ := has_vec hx
  obtain ⟨cy0, cy1⟩ := has_st hy
  go_wp2_with fail
  refine (awake_any _).mono ?_
  rintro e w11 ⟨rfl, hb⟩
  go_wp2
  go_ret
  exact ⟨rfl, hb0.trans (hb.mono hb0.size)⟩

theorem read_any (A : Option Addr) (n cap X Y : Nat) (l : List UInt8) (r : ByteArray) (hr : r = ⟨l.toArray⟩) (x0 : Nat → Int) (t0 w0 : Int) (hn : r.size = 55) (hXY : X ≠ Y) (w : World) (h : RowB w A n l)
    (hX : Oct.Has w X 23 (vecC x0)) (hY : Oct.Has w Y 25 (stC t0 w0)) :
    Calls Try.prog 12 #[.slice A n cap, .func (.func 15) #[] #[.pointer (some ⟨X, 0, none⟩), .pointer (some ⟨Y, 0, none⟩)]] w fun e w' => ∃ err : Int, e = .returned (.int .i64 err) ∧ Chg (XY X Y) w w' := by
  cases hg : goodB (seeV r) with
  | false => exact (read_bad A n cap X Y l r hr hn (.inl hg) w h (Oct.Has.bound hX) (Oct.Has.bound hY)).mono fun e w' h => ⟨201, h.1, h.2⟩
  | true =>
    cases hs : stampB (seeT (r.extract 48 r.size)) (seeW (r.extract 48 r.size)) with
    | false => exact (read_bad A n cap X Y l r hr hn (.inr hs) w h (Oct.Has.bound hX) (Oct.Has.bound hY)).mono fun e w' h => ⟨201, h.1, h.2⟩
    | true => exact (read_ok A n cap X Y l r hr x0 t0 w0 hn hg hs hXY w h hX hY).mono fun e w' h => ⟨0, h.1, h.2.2.2⟩

set_option maxHeartbeats 8000000 in
set_option maxRecDepth 100000 in
theorem back_not (v : Nat → Int) (t u : Int) (W : World) (hno : (goodB v && isB t u) = false) :
    Calls Try.prog 4 #[.agg (vecC v), .agg (stC t u)] W fun e w' => e = .returned (.bool true) ∧ Below W.heap.size W w' := by
  have hb0 := Below.drew (((((Below.refl W.heap.size W).alloc (Nat.le_refl _) (.cells #[.int .i64 (v 0), .int .i64 (v 1), .int .i64 (v 2), .int .i64 (v 3), .int .i64 (v 4), .int .i64 (v 5), .int .i64 (v 6), .int .i64 (v 7)] 23)).alloc (by simp) (.cells #[.int .i64 t, .int .i64 u] 25)).alloc (by simp; omega) (.cells #[.int .i64 0, .int .i64 0, .int .i64 0, .int .i64 0, .int .i64 0, .int .i64 0, .int .i64 0, .int .i64 0] 23)).alloc (by simp; omega) (.cells #[.int .i64 0, .int .i64 0] 25))
  have hv := Oct.Has.drew ((((Oct.Has.fresh W 23 #[.int .i64 (v 0), .int .i64 (v 1), .int .i64 (v 2), .int .i64 (v 3), .int .i64 (v 4), .int .i64 (v 5), .int .i64 (v 6), .int .i64 (v 7)]).past (.cells #[.int .i64 t, .int .i64 u] 25)).past (.cells #[.int .i64 0, .int .i64 0, .int .i64 0, .int .i64 0, .int .i64 0, .int .i64 0, .int .i64 0, .int .i64 0] 23)).past (.cells #[.int .i64 0, .int .i64 0] 25))
  have hs := Oct.Has.drew (((Oct.Has.fresh (W.alloc (.cells #[.int .i64 (v 0), .int .i64 (v 1), .int .i64 (v 2), .int .i64 (v 3), .int .i64 (v 4), .int .i64 (v 5), .int .i64 (v 6), .int .i64 (v 7)] 23)) 25 #[.int .i64 t, .int .i64 u]).past (.cells #[.int .i64 0, .int .i64 0, .int .i64 0, .int .i64 0, .int .i64 0, .int .i64 0, .int .i64 0, .int .i64 0] 23)).past (.cells #[.int .i64 0, .int .i64 0] 25))
  have hx := Oct.Has.drew ((Oct.Has.fresh ((W.alloc (.cells #[.int .i64 (v 0), .int .i64 (v 1), .int .i64 (v 2), .int .i64 (v 3), .int .i64 (v 4), .int .i64 (v 5), .int .i64 (v 6), .int .i64 (v 7)] 23)).alloc (.cells #[.int .i64 t, .int .i64 u] 25)) 23 #[.int .i64 0, .int .i64 0, .int .i64 0, .int .i64 0, .int .i64 0, .int .i64 0, .int .i64 0, .int .i64 0]).past (.cells #[.int .i64 0, .int .i64 0] 25))
  have hy := Oct.Has.drew (Oct.Has.fresh (((W.alloc (.cells #[.int .i64 (v 0), .int .i64 (v 1), .int .i64 (v 2), .int .i64 (v 3), .int .i64 (v 4), .int .i64 (v 5), .int .i64 (v 6), .int .i64 (v 7)] 23)).alloc (.cells #[.int .i64 t, .int .i64 u] 25)).alloc (.cells #[.int .i64 0, .int .i64 0, .int .i64 0, .int .i64 0, .int .i64 0, .int .i64 0, .int .i64 0, .int .i64 0] 23)) 25 #[.int .i64 0, .int .i64 0])
  rw [World.size_alloc] at hs hx hy
  rw [World.size_alloc] at hx hy
  rw [World.size_alloc] at hy
  have hmf : ∀ (fn : Fn) (first cap : Array Value) (w : World), (Instr.makeFunc fn first cap).run Try.prog w = .ok (.func fn first cap) w := fun _ _ _ _ => rfl
  have HP := Lib.hid (fun w => show Calls Try.prog 14 #[.slice none 0 0, .agg #[.int .i64 (v 0), .int .i64 (v 1), .int .i64 (v 2), .int .i64 (v 3), .int .i64 (v 4), .int .i64 (v 5), .int .i64 (v 6), .int .i64 (v 7)]] w fun e w' => ∃ x, e = .returned x ∧ Owns w' w.heap.size x (vecB v) ∧ Below w.heap.size w w' from put_vec none 0 0 v [] (by omega) w (row_nil w) (fun _ => ⟨rfl, rfl⟩))
  have hR : vsB v t u = ⟨(vecB v ++ stB t u).toArray⟩ := rfl
  have hlen : (vecB v).length = 48 := vecTo_len v 8
  have HI := Lib.hid (fun W => show Calls Try.prog 8 #[.agg #[.int .i64 t, .int .i64 u]] W fun e w' => e = .returned (.bool (isB t u)) ∧ Below W.heap.size W w' from is_any t u W)
  have HG := Lib.hid (fun W => show Calls Try.prog 18 #[.agg #[.int .i64 (v 0), .int .i64 (v 1), .int .i64 (v 2), .int .i64 (v 3), .int .i64 (v 4), .int .i64 (v 5), .int .i64 (v 6), .int .i64 (v 7)]] W fun e w' => e = .returned (.bool (goodB v)) ∧ Below W.heap.size W w' from good_any v W)
  have HSZ := Lib.hid (vsB_size v t u)
  have hor : (goodB v && isB t u) = false := hno
  have HRR := Lib.hid hR
  have HLEN := Lib.hid hlen
  clear hR hlen
  unfold vecC stC
  go_enter Try.func4, Try.ntmps4
  go_wp2_with fail
  refine wp_region_held_drew (S := (fun w' => (w'.cell? ⟨W.heap.size, 0, none⟩ = some (.int .i64 (v 0)) ∧ w'.cell? ⟨W.heap.size, 1, none⟩ = some (.int .i64 (v 1)) ∧ w'.cell? ⟨W.heap.size, 2, none⟩ = some (.int .i64 (v 2)) ∧ w'.cell? ⟨W.heap.size, 3, none⟩ = some (.int .i64 (v 3)) ∧ w'.cell? ⟨W.heap.size, 4, none⟩ = some (.int .i64 (v 4)) ∧ w'.cell? ⟨W.heap.size, 5, none⟩ = some (.int .i64 (v 5)) ∧ w'.cell? ⟨W.heap.size, 6, none⟩ = some (.int .i64 (v 6)) ∧ w'.cell? ⟨W.heap.size, 7, none⟩ = some (.int .i64 (v 7))) ∧ w'.cell? ⟨W.heap.size + 1, 0, none⟩ = some (.int .i64 t) ∧ w'.cell? ⟨W.heap.size + 1, 1, none⟩ = some (.int .i64 u))) (by kernel_rfl) ⟨has_vec hv, has_st hs⟩ (fun hHeld => ?_)
  refine wpAnyH_read (i := 0) (d := some 8) (v := ?v11) (by rfl) (by rfl) (by kernel_rfl) (by kernel_rfl) (by kernel_rfl) (fun _ _ _ h => h) (by rfl) ?hy11 (by assumption) ?rest11
  case hy11 =>
    intro w hSw
    try dsimp only at hSw
    go_simp
    try with_reducible rfl
  try simp only [Act.put, List.setIfInBounds_toArray, List.set_cons_zero, List.set_cons_succ]
  refine wpAnyH_read (i := 2) (d := some 10) (v := ?v12) (by rfl) (by rfl) (by kernel_rfl) (by kernel_rfl) (by kernel_rfl) (fun _ _ _ h => h) (by rfl) ?hy12 (by assumption) ?rest12
  case hy12 =>
    intro w hSw
    try dsimp only at hSw
    go_simp
    try with_reducible rfl
  try simp only [Act.put, List.setIfInBounds_toArray, List.set_cons_zero, List.set_cons_succ]
  refine wpAnyH_read (i := 4) (d := some 12) (v := ?v13) (by rfl) (by rfl) (by kernel_rfl) (by kernel_rfl) (by kernel_rfl) (fun _ _ _ h => h) (by rfl) ?hy13 (by assumption) ?rest13
  case hy13 =>
    intro w hSw
    try dsimp only at hSw
    go_simp
    try with_reducible rfl
  try simp only [Act.put, List.setIfInBounds_toArray, List.set_cons_zero, List.set_cons_succ]
  refine wpAnyH_ready (rs := [1]) (by kernel_rfl) (by simp) ?_
  refine AllReadyH.cons rfl (fun K hK => ?_) AllReadyH.nil
  go_simp
  go_at_call 14
  refine (HP.out _).mono ?_
  rintro e w7 ⟨x1, rfl, ho, hb⟩
  obtain ⟨A1, k1, rfl, r1, n1⟩ := owns_lens ho
  rw [HLEN.out] at r1 n1 ⊢
  clear ho
  replace hv := hover hv hb
  replace hs := hover hs hb
  replace hx := hover hx hb
  replace hy := hover hy hb
  replace hb0 := hb0.trans (hb.mono hb0.size)
  clear hb
  refine hK.out _ _ ⟨has_vec hv, has_st hs⟩ (fun hHeld => ?_)
  clear hK K
  try simp only [Act.put, List.setIfInBounds_toArray, List.set_cons_zero, List.set_cons_succ]
  refine wpAnyH_ready (rs := [3]) (by kernel_rfl) (by simp) ?_
  refine AllReadyH.cons rfl (fun K hK => ?_) AllReadyH.nil
  go_simp
  go_at_call 13
  refine (putStamp_any A1 48 k1 t u (vecB v) (by omega) _ r1 n1).mono ?_
  rintro e w8 ⟨x2, rfl, ho, hb⟩
  obtain ⟨A2, k2, rfl, r2, n2⟩ := owns_lens ho
  clear ho r1 n1
  replace hv := hover hv hb
  replace hs := hover hs hb
  replace hx := hover hx hb
  replace hy := hover hy hb
  replace hb0 := hb0.trans (hb.mono hb0.size)
  clear hb
  refine hK.out _ _ ⟨has_vec hv, has_st hs⟩ (fun hHeld => ?_)
  clear hK K
  try simp only [Act.put, List.setIfInBounds_toArray, List.set_cons_zero, List.set_cons_succ]
  refine wpAnyH_ready (rs := [5]) (by kernel_rfl) (by simp) ?_
  refine AllReadyH.cons rfl (fun K hK => ?_) AllReadyH.nil
  go_simp
  go_at_call 12
  refine (read_any A2 _ k2 (W.heap.size + 1 + 1) (W.heap.size + 1 + 1 + 1) (vecB v ++ stB t u) (vsB v t u) HRR.out nil8 0 0 HSZ.out (by omega) _ r2 hx hy).mono ?_
  rintro e w9 ⟨err, rfl, hc⟩
  replace hv := Oct.Has.over hv hc (by rintro (e | e) <;> omega)
  replace hs := Oct.Has.over hs hc (by rintro (e | e) <;> omega)
  replace hb0 := below_over hb0 hb0.size hc (by rintro i hi (e | e) <;> omega)
  clear hx hy hc
  refine hK.out _ _ ⟨has_vec hv, has_st hs⟩ (fun hHeld => ?_)
  clear hK K
  try simp only [Act.put, List.setIfInBounds_toArray, List.set_cons_zero, List.set_cons_succ]
  refine wpAnyH_read (i := 6) (d := some 7) (v := ?v17) (by rfl) (by rfl) (by kernel_rfl) (by kernel_rfl) (by kernel_rfl) (fun _ _ _ h => h) (by rfl) ?hy17 (by assumption) ?rest17
  case hy17 =>
    intro w hSw
    try dsimp only at hSw
    go_simp
    try with_reducible rfl
  try simp only [Act.put, List.setIfInBounds_toArray, List.set_cons_zero, List.set_cons_succ]
  refine wpAnyH_done (by kernel_rfl) ?_ _
  cases hg : goodB v with
  | false =>
    rw [hg] at HG hor
    clear hg
    clear hor
    obtain ⟨cv0, cv1, cv2, cv3, cv4, cv5, cv6, cv7⟩ := has_vec hv
    obtain ⟨cs0, cs1⟩ := has_st hs
    go_wp2_with fail
    refine (HG.out _).mono ?_
    rintro e w10 ⟨rfl, hb⟩
    clear cv0 cv1 cv2 cv3 cv4 cv5 cv6 cv7 cs0 cs1
    replace hv := hover hv hb
    replace hs := hover hs hb
    replace hb0 := hb0.trans (hb.mono hb0.size)
    clear hb
    go_wp2_with fail
    refine (awake_any _).mono ?_
    rintro e w11 ⟨rfl, hb⟩
    go_wp2
    go_ret
    exact ⟨rfl, hb0.trans (hb.mono hb0.size)⟩
  | true =>
    rw [hg] at HG hor
    clear hg
    rw [Bool.true_and] at hor
    rw [hor] at HI
    clear hor
    obtain ⟨cv0, cv1, cv2, cv3, cv4, cv5, cv6, cv7⟩ := has_vec hv
    obtain ⟨cs0, cs1⟩ := has_st hs
    go_wp2_with fail
    refine (HG.out _).mono ?_
    rintro e w10 ⟨rfl, hb⟩
    clear cv0 cv1 cv2 cv3 cv4 cv5 cv6 cv7 cs0 cs1
    replace hv := hover hv hb
    replace hs := hover hs hb
    replace hb0 := hb0.trans (hb.mono hb0.size)
    clear hb
    obtain ⟨cv0, cv1, cv2, cv3, cv4, cv5, cv6, cv7⟩ := has_vec hv
    obtain ⟨cs0, cs1⟩ := has_st hs
    go_wp2_with fail
    refine (HI.out _).mono ?_
    rintro e w10 ⟨rfl, hb⟩
    clear cv0 cv1 cv2 cv3 cv4 cv5 cv6 cv7 cs0 cs1
    replace hv := hover hv hb
    replace hs := hover hs hb
    replace hb0 := hb0.trans (hb.mono hb0.size)
    clear hb
    go_wp2_with fail
    refine (awake_any _).mono ?_
    rintro e w11 ⟨rfl, hb⟩
    go_wp2
    go_ret
    exact ⟨rfl, hb0.trans (hb.mono hb0.size)⟩

theorem back_law (v : Nat → Int) (t u : Int) (_ : ∀ i, i < 8 → (Lit.int .i64 (v i)).wf = true) (_ : (Lit.int .i64 t).wf = true) (_ : (Lit.int .i64 u).wf = true) (W : World) :
    Calls Try.prog 4 #[.agg (vecC v), .agg (stC t u)] W fun e w' => e = .returned (.bool true) ∧ Below W.heap.size W w' := by
  cases h : (goodB v && isB t u) with
  | false => exact back_not v t u W h
  | true =>
    rw [Bool.and_eq_true] at h
    exact back_ok v t u W h.1 h.2
end Go.Proofs.Ytlnlnpofdgnoeab.Vc
