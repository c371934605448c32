/- What the document's eye sees of stamps and vectors. -/
import Derived.Test.YtlnlnpofdgnoeaaVcRye
import Derived.Test.YtlnlnpofdgnoeaaVcSee2
import Derived.Test.YtlnlnpofdgnoeaaVcG
namespace Go.Proofs.Ytlnlnpofdgnoeaa.Vc
open Go.RowKit Go.Proofs.Ytlnlnpofdgnoeaa.Oct

theorem Rye.over {w w' : World} {x : Nat} {B : ByteArray} {a : Nat} {d : Bool} {y : Int} {S : Nat → Prop} (h : Rye w x B a d y) (hc : Chg S w w') (hx : ¬ S x) : Rye w' x B a d y := Oct.Has.over h hc hx
theorem Rye.past {w : World} {x : Nat} {B : ByteArray} {a : Nat} {d : Bool} {y : Int} (h : Rye w x B a d y) (o : Obj) : Rye (w.alloc o) x B a d y := Oct.Has.past h o
theorem Rye.below {w w' : World} {x : Nat} {B : ByteArray} {a : Nat} {d : Bool} {y : Int} (h : Rye w x B a d y) (hb : Below w.heap.size w w') : Rye w' x B a d y := Oct.Has.over h (Chg.of_below hb (fun _ => False)) (fun k => k)
theorem Rye.keep {w : World} {x : Nat} {B : ByteArray} {a : Nat} {d : Bool} {y : Int} (h : Rye w x B a d y) {p : Addr} (hp : x ≠ p.block) (u : Value) : Rye (w.setCell p u) x B a d y := Oct.Has.keep h hp u
theorem rye_put2 {w : World} {x g : Nat} {B : ByteArray} {at_ : Nat} {d : Bool} {y : Int} (h : Rye w x B at_ d y) (hg : x ≠ g) (a b : Int) : Rye ((w.setCell ⟨g, 0, none⟩ (.int .i64 a)).setCell ⟨g, 1, none⟩ (.int .i64 b)) x B at_ d y :=
  Rye.keep (Rye.keep h (p := ⟨g, 0, none⟩) hg _) (p := ⟨g, 1, none⟩) hg _
theorem rye_put8 {w : World} {x g : Nat} {B : ByteArray} {at_ : Nat} {d : Bool} {y : Int} (h : Rye w x B at_ d y) (hg : x ≠ g) (z : Nat → Int) : Rye (((((((((w).setCell ⟨g, 0, none⟩ (.int .i64 (z 0))).setCell ⟨g, 1, none⟩ (.int .i64 (z 1))).setCell ⟨g, 2, none⟩ (.int .i64 (z 2))).setCell ⟨g, 3, none⟩ (.int .i64 (z 3))).setCell ⟨g, 4, none⟩ (.int .i64 (z 4))).setCell ⟨g, 5, none⟩ (.int .i64 (z 5))).setCell ⟨g, 6, none⟩ (.int .i64 (z 6))).setCell ⟨g, 7, none⟩ (.int .i64 (z 7))) x B at_ d y :=
  (Rye.keep (Rye.keep (Rye.keep (Rye.keep (Rye.keep (Rye.keep (Rye.keep (Rye.keep h (p := ⟨g, 0, none⟩) hg _) (p := ⟨g, 1, none⟩) hg _) (p := ⟨g, 2, none⟩) hg _) (p := ⟨g, 3, none⟩) hg _) (p := ⟨g, 4, none⟩) hg _) (p := ⟨g, 5, none⟩) hg _) (p := ⟨g, 6, none⟩) hg _) (p := ⟨g, 7, none⟩) hg _)
/-- The time, the replica, the vector at a place. -/
def timeAt (B : ByteArray) (a : Nat) : Int := (numL ((B.data.toList.drop a).take 6) : Nat)
def whoAt (B : ByteArray) (a : Nat) : Int := (numL ((B.data.toList.drop (a + 6)).take 1) : Nat)
def seeAt (B : ByteArray) (a : Nat) : Nat → Int := fun i => (numL ((B.data.toList.drop (a + 6 * i)).take 6) : Nat)
/-- A stamp, any; the looking is over. -/
def StampBad (x : Nat) (B : ByteArray) (w : World) (e : Ending) (w' : World) : Prop := ∃ (t u : Int) (a : Nat), e = .returned (.agg #[.int .i64 t, .int .i64 u]) ∧ Rye w' x B a true 201 ∧ Chg (· = x) w w'
def VecBad (x : Nat) (B : ByteArray) (w : World) (e : Ending) (w' : World) : Prop := ∃ (z : Nat → Int) (a : Nat), e = .returned (.agg (vecC z)) ∧ Rye w' x B a true 201 ∧ Chg (· = x) w w'

set_option maxRecDepth 100000 in
set_option maxHeartbeats 4000000 in
theorem rst_event (x a : Nat) (B : ByteArray) (hB : B.size ≤ 8192) (hn : a + 7 ≤ B.size) (hi : isB (timeAt B a) (whoAt B a) = true) (w : World) (h : Rye w x B a false 0) :
    Calls Try.prog 39 #[.pointer (some ⟨x, 0, none⟩)] w fun e w' => e = .returned (.agg (stC (timeAt B a) (whoAt B a))) ∧ Rye w' x B (a + 7) false 0 ∧ Chg (· = x) w w' := by
  have hx := Oct.Has.bound h
  have H := Lib.hid (Rye.past h (.cells #[.int .i64 0, .int .i64 0] 23))
  have hr0 := Oct.Has.fresh w 23 #[.int .i64 0, .int .i64 0]
  have hc0 := (Chg.refl (· = x) w).alloc (.cells #[.int .i64 0, .int .i64 0] 23)
  have HN1 := Lib.hid (fun W => rnum_ok x a 6 B hB (by omega) (by omega) (by omega) W)
  have HN2 := Lib.hid (fun W => rnum_ok x (a + 6) 1 B hB (by omega) (by omega) (by omega) W)
  have HT := Lib.hid (show ((numL ((B.data.toList.drop a).take 6) : Nat) : Int) = timeAt B a from rfl)
  have HU := Lib.hid (show ((numL ((B.data.toList.drop (a + 6)).take 1) : Nat) : Int) = whoAt B a from rfl)
  have HI := Lib.hid (fun W => show Calls Try.prog 10 #[.agg #[.int .i64 (timeAt B a), .int .i64 (whoAt B a)]] W fun e w' => e = .returned (.bool true) ∧ Below W.heap.size W w' from by have h := ris_any (timeAt B a) (whoAt B a) W; rw [hi] at h; exact h)
  generalize timeAt B a = T at *
  generalize whoAt B a = U at *
  clear h
  go_enter Try.func39, Try.ntmps39
  go_wp2_with fail
  refine (HN1.out _ H.out).mono ?_
  rintro e w1 ⟨rfl, hl1, hc1⟩
  rw [HT.out]
  have HR1 := Lib.hid (Oct.Has.past (Oct.Has.over hr0 hc1 (show w.heap.size ≠ x by omega)) (.cells #[.int .i64 T, .int .i64 0] 23))
  have HS1 := Lib.hid (Oct.Has.fresh w1 23 #[.int .i64 T, .int .i64 0])
  have HC1 := Lib.hid ((hc0.trans hc1).alloc (.cells #[.int .i64 T, .int .i64 0] 23))
  have HL1 := Lib.hid (Rye.past hl1 (.cells #[.int .i64 T, .int .i64 0] 23))
  have hx1 := Oct.Has.bound hl1
  have hr1 : w.heap.size < w1.heap.size := Oct.Has.bound (Oct.Has.over hr0 hc1 (show w.heap.size ≠ x by omega))
  clear hr0 hc0 hl1 hc1
  go_wp2_with fail
  refine (HN2.out _ HL1.out).mono ?_
  rintro e w2 ⟨rfl, hl2, hc2⟩
  rw [HU.out]
  have hs2 := Oct.Has.over HS1.out hc2 (show w1.heap.size ≠ x by omega)
  have s1 := Oct.Has.at_ hs2 1
  have fs := Oct.Has.free hs2 1
  simp at s1
  have HS2 := Lib.hid (Oct.Has.put hs2 1 (.int .i64 U))
  have HR2 := Lib.hid (Oct.Has.keep (Oct.Has.over HR1.out hc2 (show w.heap.size ≠ x by omega)) (p := ⟨w1.heap.size, 1, none⟩) (show w.heap.size ≠ w1.heap.size by omega) (.int .i64 U))
  have HL2 := Lib.hid (Rye.keep hl2 (p := ⟨w1.heap.size, 1, none⟩) (show x ≠ w1.heap.size by omega) (.int .i64 U))
  have HC2 := Lib.hid ((HC1.out.trans hc2).setCell (p := ⟨w1.heap.size, 1, none⟩) (.inr (show w.heap.size ≤ w1.heap.size by omega)) (.int .i64 U))
  have hss := HS2.out
  simp at hss
  obtain ⟨k0, k1⟩ := has_st (a := T) (b := U) hss
  clear hl2 hc2 hs2
  go_wp2_with fail
  refine (HI.out _).mono ?_
  rintro e w3 ⟨rfl, hb⟩
  have HS3 := Lib.hid (Oct.Has.over (S := fun _ => False) hss (Chg.of_below hb _) (fun k => k))
  have HR3 := Lib.hid (Oct.Has.over HR2.out (Chg.of_below hb (fun _ => False)) (fun k => k))
  have HL3 := Lib.hid (Rye.below HL2.out hb)
  have HC3 := Lib.hid (HC2.out.trans (Chg.of_below hb (· = x)))
  clear hb k0 k1 hss s1 fs
  have hs4 := HS3.out
  have hr4 := HR3.out
  have hl4 := HL3.out
  have hcc := HC3.out
  obtain ⟨s0, s1⟩ := has_st (a := T) (b := U) hs4
  obtain ⟨r0, r1⟩ := has_st (a := 0) (b := 0) hr4
  have ff := fun i => Oct.Has.free hr4 i
  obtain ⟨d0, d1⟩ := cells_put2 (a := 0) (b := 0) hr4 T U
  have HQ := Lib.hid (rye_put2 hl4 (g := w.heap.size) (by omega) T U)
  have HQ2 := Lib.hid (chg_put2 hcc (g := w.heap.size) (Nat.le_refl _) T U)
  clear hs4 hr4 hl4 hcc
  go_wp2
  refine bodyPost_ret (v := .agg #[.int .i64 T, .int .i64 U]) (by simp [results, Try.results39, go_sem, d0, d1]) rfl ⟨rfl, HQ.out, HQ2.out⟩

set_option maxRecDepth 100000 in
set_option maxHeartbeats 4000000 in
theorem rst_zero (x a : Nat) (B : ByteArray) (hB : B.size ≤ 8192) (hn : a + 7 ≤ B.size) (ht : timeAt B a = 0) (hu : whoAt B a = 0) (w : World) (h : Rye w x B a false 0) :
    Calls Try.prog 39 #[.pointer (some ⟨x, 0, none⟩)] w fun e w' => e = .returned (.agg (stC (timeAt B a) (whoAt B a))) ∧ Rye w' x B (a + 7) false 0 ∧ Chg (· = x) w w' := by
  have hx := Oct.Has.bound h
  have H := Lib.hid (Rye.past h (.cells #[.int .i64 0, .int .i64 0] 23))
  have hr0 := Oct.Has.fresh w 23 #[.int .i64 0, .int .i64 0]
  have hc0 := (Chg.refl (· = x) w).alloc (.cells #[.int .i64 0, .int .i64 0] 23)
  have HN1 := Lib.hid (fun W => rnum_ok x a 6 B hB (by omega) (by omega) (by omega) W)
  have HN2 := Lib.hid (fun W => rnum_ok x (a + 6) 1 B hB (by omega) (by omega) (by omega) W)
  have HT := Lib.hid (show ((numL ((B.data.toList.drop a).take 6) : Nat) : Int) = timeAt B a from rfl)
  have HU := Lib.hid (show ((numL ((B.data.toList.drop (a + 6)).take 1) : Nat) : Int) = whoAt B a from rfl)
  have HI := Lib.hid (fun W => show Calls Try.prog 10 #[.agg #[.int .i64 0, .int .i64 0]] W fun e w' => e = .returned (.bool false) ∧ Below W.heap.size W w' from ris_any 0 0 W)
  rw [ht] at HT ⊢
  rw [hu] at HU ⊢
  clear ht hu
  clear h
  go_enter Try.func39, Try.ntmps39
  go_wp2_with fail
  refine (HN1.out _ H.out).mono ?_
  rintro e w1 ⟨rfl, hl1, hc1⟩
  rw [HT.out]
  have HR1 := Lib.hid (Oct.Has.past (Oct.Has.over hr0 hc1 (show w.heap.size ≠ x by omega)) (.cells #[.int .i64 0, .int .i64 0] 23))
  have HS1 := Lib.hid (Oct.Has.fresh w1 23 #[.int .i64 0, .int .i64 0])
  have HC1 := Lib.hid ((hc0.trans hc1).alloc (.cells #[.int .i64 0, .int .i64 0] 23))
  have HL1 := Lib.hid (Rye.past hl1 (.cells #[.int .i64 0, .int .i64 0] 23))
  have hx1 := Oct.Has.bound hl1
  have hr1 : w.heap.size < w1.heap.size := Oct.Has.bound (Oct.Has.over hr0 hc1 (show w.heap.size ≠ x by omega))
  clear hr0 hc0 hl1 hc1
  go_wp2_with fail
  refine (HN2.out _ HL1.out).mono ?_
  rintro e w2 ⟨rfl, hl2, hc2⟩
  rw [HU.out]
  have hs2 := Oct.Has.over HS1.out hc2 (show w1.heap.size ≠ x by omega)
  have s1 := Oct.Has.at_ hs2 1
  have fs := Oct.Has.free hs2 1
  simp at s1
  have HS2 := Lib.hid (Oct.Has.put hs2 1 (.int .i64 0))
  have HR2 := Lib.hid (Oct.Has.keep (Oct.Has.over HR1.out hc2 (show w.heap.size ≠ x by omega)) (p := ⟨w1.heap.size, 1, none⟩) (show w.heap.size ≠ w1.heap.size by omega) (.int .i64 0))
  have HL2 := Lib.hid (Rye.keep hl2 (p := ⟨w1.heap.size, 1, none⟩) (show x ≠ w1.heap.size by omega) (.int .i64 0))
  have HC2 := Lib.hid ((HC1.out.trans hc2).setCell (p := ⟨w1.heap.size, 1, none⟩) (.inr (show w.heap.size ≤ w1.heap.size by omega)) (.int .i64 0))
  have hss := HS2.out
  simp at hss
  obtain ⟨k0, k1⟩ := has_st (a := 0) (b := 0) hss
  clear hl2 hc2 hs2
  go_wp2_with fail
  refine (HI.out _).mono ?_
  rintro e w3 ⟨rfl, hb⟩
  have HS3 := Lib.hid (Oct.Has.over (S := fun _ => False) hss (Chg.of_below hb _) (fun k => k))
  have HR3 := Lib.hid (Oct.Has.over HR2.out (Chg.of_below hb (fun _ => False)) (fun k => k))
  have HL3 := Lib.hid (Rye.below HL2.out hb)
  have HC3 := Lib.hid (HC2.out.trans (Chg.of_below hb (· = x)))
  clear hb k0 k1 hss s1 fs
  have hs4 := HS3.out
  have hr4 := HR3.out
  have hl4 := HL3.out
  have hcc := HC3.out
  obtain ⟨s0, s1⟩ := has_st (a := 0) (b := 0) hs4
  obtain ⟨r0, r1⟩ := has_st (a := 0) (b := 0) hr4
  have ff := fun i => Oct.Has.free hr4 i
  obtain ⟨d0, d1⟩ := cells_put2 (a := 0) (b := 0) hr4 0 0
  have HQ := Lib.hid (rye_put2 hl4 (g := w.heap.size) (by omega) 0 0)
  have HQ2 := Lib.hid (chg_put2 hcc (g := w.heap.size) (Nat.le_refl _) 0 0)
  clear hs4 hr4 hl4 hcc
  go_wp2
  refine bodyPost_ret (v := .agg #[.int .i64 0, .int .i64 0]) (by simp [results, Try.results39, go_sem, d0, d1]) rfl ⟨rfl, HQ.out, HQ2.out⟩

set_option maxRecDepth 100000 in
set_option maxHeartbeats 4000000 in
theorem rst_wrongT (x a : Nat) (B : ByteArray) (hB : B.size ≤ 8192) (hn : a + 7 ≤ B.size) (ht : timeAt B a ≠ 0) (hi : isB (timeAt B a) (whoAt B a) = false) (w : World) (h : Rye w x B a false 0) :
    Calls Try.prog 39 #[.pointer (some ⟨x, 0, none⟩)] w (StampBad x B w) := by
  have hx := Oct.Has.bound h
  have H := Lib.hid (Rye.past h (.cells #[.int .i64 0, .int .i64 0] 23))
  have hr0 := Oct.Has.fresh w 23 #[.int .i64 0, .int .i64 0]
  have hc0 := (Chg.refl (· = x) w).alloc (.cells #[.int .i64 0, .int .i64 0] 23)
  have HN1 := Lib.hid (fun W => rnum_ok x a 6 B hB (by omega) (by omega) (by omega) W)
  have HN2 := Lib.hid (fun W => rnum_ok x (a + 6) 1 B hB (by omega) (by omega) (by omega) W)
  have HT := Lib.hid (show ((numL ((B.data.toList.drop a).take 6) : Nat) : Int) = timeAt B a from rfl)
  have HU := Lib.hid (show ((numL ((B.data.toList.drop (a + 6)).take 1) : Nat) : Int) = whoAt B a from rfl)
  have nt : (timeAt B a != 0) = true := by simp [ht]
  have nt2 : (timeAt B a == 0) = false := by simp [ht]
  have HI := Lib.hid (fun W => show Calls Try.prog 10 #[.agg #[.int .i64 (timeAt B a), .int .i64 (whoAt B a)]] W fun e w' => e = .returned (.bool false) ∧ Below W.heap.size W w' from by have h := ris_any (timeAt B a) (whoAt B a) W; rw [hi] at h; exact h)
  clear ht hi
  generalize timeAt B a = T at *
  generalize whoAt B a = U at *
  clear h
  go_enter Try.func39, Try.ntmps39
  go_wp2_with fail
  refine (HN1.out _ H.out).mono ?_
  rintro e w1 ⟨rfl, hl1, hc1⟩
  rw [HT.out]
  have HR1 := Lib.hid (Oct.Has.past (Oct.Has.over hr0 hc1 (show w.heap.size ≠ x by omega)) (.cells #[.int .i64 T, .int .i64 0] 23))
  have HS1 := Lib.hid (Oct.Has.fresh w1 23 #[.int .i64 T, .int .i64 0])
  have HC1 := Lib.hid ((hc0.trans hc1).alloc (.cells #[.int .i64 T, .int .i64 0] 23))
  have HL1 := Lib.hid (Rye.past hl1 (.cells #[.int .i64 T, .int .i64 0] 23))
  have hx1 := Oct.Has.bound hl1
  have hr1 : w.heap.size < w1.heap.size := Oct.Has.bound (Oct.Has.over hr0 hc1 (show w.heap.size ≠ x by omega))
  clear hr0 hc0 hl1 hc1
  go_wp2_with fail
  refine (HN2.out _ HL1.out).mono ?_
  rintro e w2 ⟨rfl, hl2, hc2⟩
  rw [HU.out]
  have hs2 := Oct.Has.over HS1.out hc2 (show w1.heap.size ≠ x by omega)
  have s1 := Oct.Has.at_ hs2 1
  have fs := Oct.Has.free hs2 1
  simp at s1
  have HS2 := Lib.hid (Oct.Has.put hs2 1 (.int .i64 U))
  have HR2 := Lib.hid (Oct.Has.keep (Oct.Has.over HR1.out hc2 (show w.heap.size ≠ x by omega)) (p := ⟨w1.heap.size, 1, none⟩) (show w.heap.size ≠ w1.heap.size by omega) (.int .i64 U))
  have HL2 := Lib.hid (Rye.keep hl2 (p := ⟨w1.heap.size, 1, none⟩) (show x ≠ w1.heap.size by omega) (.int .i64 U))
  have HC2 := Lib.hid ((HC1.out.trans hc2).setCell (p := ⟨w1.heap.size, 1, none⟩) (.inr (show w.heap.size ≤ w1.heap.size by omega)) (.int .i64 U))
  have hss := HS2.out
  simp at hss
  obtain ⟨k0, k1⟩ := has_st (a := T) (b := U) hss
  clear hl2 hc2 hs2
  go_wp2_with fail
  refine (HI.out _).mono ?_
  rintro e w3 ⟨rfl, hb⟩
  have HS3 := Lib.hid (Oct.Has.over (S := fun _ => False) hss (Chg.of_below hb _) (fun k => k))
  have HR3 := Lib.hid (Oct.Has.over HR2.out (Chg.of_below hb (fun _ => False)) (fun k => k))
  have HL3 := Lib.hid (Rye.below HL2.out hb)
  have HC3 := Lib.hid (HC2.out.trans (Chg.of_below hb (· = x)))
  clear hb k0 k1 hss s1 fs
  obtain ⟨s0, s1⟩ := has_st (a := T) (b := U) HS3.out
  have HF := Lib.hid (rfail_any x B _ 201 _ HL3.out)
  go_wp2_with fail
  refine HF.out.mono ?_
  rintro e w4 ⟨rfl, hl4, hc4⟩
  clear s0 s1
  have hs4 := Oct.Has.over HS3.out hc4 (show w1.heap.size ≠ x by omega)
  have hr4 := Oct.Has.over HR3.out hc4 (show w.heap.size ≠ x by omega)
  have hcc := HC3.out.trans hc4
  obtain ⟨s0, s1⟩ := has_st (a := T) (b := U) hs4
  obtain ⟨r0, r1⟩ := has_st (a := 0) (b := 0) hr4
  have ff := fun i => Oct.Has.free hr4 i
  obtain ⟨d0, d1⟩ := cells_put2 (a := 0) (b := 0) hr4 T U
  have HQ := Lib.hid (rye_put2 hl4 (g := w.heap.size) (by omega) T U)
  have HQ2 := Lib.hid (chg_put2 hcc (g := w.heap.size) (Nat.le_refl _) T U)
  clear hs4 hr4 hl4 hcc
  go_wp2
  refine bodyPost_ret (v := .agg #[.int .i64 T, .int .i64 U]) (by simp [results, Try.results39, go_sem, d0, d1]) rfl ⟨_, _, _, rfl, HQ.out, HQ2.out⟩

set_option maxRecDepth 100000 in
set_option maxHeartbeats 4000000 in
theorem rst_wrongU (x a : Nat) (B : ByteArray) (hB : B.size ≤ 8192) (hn : a + 7 ≤ B.size) (ht : timeAt B a = 0) (hu : whoAt B a ≠ 0) (hi : isB (timeAt B a) (whoAt B a) = false) (w : World) (h : Rye w x B a false 0) :
    Calls Try.prog 39 #[.pointer (some ⟨x, 0, none⟩)] w (StampBad x B w) := by
  have hx := Oct.Has.bound h
  have H := Lib.hid (Rye.past h (.cells #[.int .i64 0, .int .i64 0] 23))
  have hr0 := Oct.Has.fresh w 23 #[.int .i64 0, .int .i64 0]
  have hc0 := (Chg.refl (· = x) w).alloc (.cells #[.int .i64 0, .int .i64 0] 23)
  have HN1 := Lib.hid (fun W => rnum_ok x a 6 B hB (by omega) (by omega) (by omega) W)
  have HN2 := Lib.hid (fun W => rnum_ok x (a + 6) 1 B hB (by omega) (by omega) (by omega) W)
  have HT := Lib.hid (show ((numL ((B.data.toList.drop a).take 6) : Nat) : Int) = timeAt B a from rfl)
  have HU := Lib.hid (show ((numL ((B.data.toList.drop (a + 6)).take 1) : Nat) : Int) = whoAt B a from rfl)
  have nu : (whoAt B a != 0) = true := by simp [hu]
  have nu2 : (whoAt B a == 0) = false := by simp [hu]
  have HI := Lib.hid (fun W => show Calls Try.prog 10 #[.agg #[.int .i64 (timeAt B a), .int .i64 (whoAt B a)]] W fun e w' => e = .returned (.bool false) ∧ Below W.heap.size W w' from by have h := ris_any (timeAt B a) (whoAt B a) W; rw [hi] at h; exact h)
  rw [ht] at HI HT
  clear ht hu hi
  generalize whoAt B a = U at *
  clear h
  go_enter Try.func39, Try.ntmps39
  go_wp2_with fail
  refine (HN1.out _ H.out).mono ?_
  rintro e w1 ⟨rfl, hl1, hc1⟩
  rw [HT.out]
  have HR1 := Lib.hid (Oct.Has.past (Oct.Has.over hr0 hc1 (show w.heap.size ≠ x by omega)) (.cells #[.int .i64 0, .int .i64 0] 23))
  have HS1 := Lib.hid (Oct.Has.fresh w1 23 #[.int .i64 0, .int .i64 0])
  have HC1 := Lib.hid ((hc0.trans hc1).alloc (.cells #[.int .i64 0, .int .i64 0] 23))
  have HL1 := Lib.hid (Rye.past hl1 (.cells #[.int .i64 0, .int .i64 0] 23))
  have hx1 := Oct.Has.bound hl1
  have hr1 : w.heap.size < w1.heap.size := Oct.Has.bound (Oct.Has.over hr0 hc1 (show w.heap.size ≠ x by omega))
  clear hr0 hc0 hl1 hc1
  go_wp2_with fail
  refine (HN2.out _ HL1.out).mono ?_
  rintro e w2 ⟨rfl, hl2, hc2⟩
  rw [HU.out]
  have hs2 := Oct.Has.over HS1.out hc2 (show w1.heap.size ≠ x by omega)
  have s1 := Oct.Has.at_ hs2 1
  have fs := Oct.Has.free hs2 1
  simp at s1
  have HS2 := Lib.hid (Oct.Has.put hs2 1 (.int .i64 U))
  have HR2 := Lib.hid (Oct.Has.keep (Oct.Has.over HR1.out hc2 (show w.heap.size ≠ x by omega)) (p := ⟨w1.heap.size, 1, none⟩) (show w.heap.size ≠ w1.heap.size by omega) (.int .i64 U))
  have HL2 := Lib.hid (Rye.keep hl2 (p := ⟨w1.heap.size, 1, none⟩) (show x ≠ w1.heap.size by omega) (.int .i64 U))
  have HC2 := Lib.hid ((HC1.out.trans hc2).setCell (p := ⟨w1.heap.size, 1, none⟩) (.inr (show w.heap.size ≤ w1.heap.size by omega)) (.int .i64 U))
  have hss := HS2.out
  simp at hss
  obtain ⟨k0, k1⟩ := has_st (a := 0) (b := U) hss
  clear hl2 hc2 hs2
  go_wp2_with fail
  refine (HI.out _).mono ?_
  rintro e w3 ⟨rfl, hb⟩
  have HS3 := Lib.hid (Oct.Has.over (S := fun _ => False) hss (Chg.of_below hb _) (fun k => k))
  have HR3 := Lib.hid (Oct.Has.over HR2.out (Chg.of_below hb (fun _ => False)) (fun k => k))
  have HL3 := Lib.hid (Rye.below HL2.out hb)
  have HC3 := Lib.hid (HC2.out.trans (Chg.of_below hb (· = x)))
  clear hb k0 k1 hss s1 fs
  obtain ⟨s0, s1⟩ := has_st (a := 0) (b := U) HS3.out
  have HF := Lib.hid (rfail_any x B _ 201 _ HL3.out)
  go_wp2_with fail
  refine HF.out.mono ?_
  rintro e w4 ⟨rfl, hl4, hc4⟩
  clear s0 s1
  have hs4 := Oct.Has.over HS3.out hc4 (show w1.heap.size ≠ x by omega)
  have hr4 := Oct.Has.over HR3.out hc4 (show w.heap.size ≠ x by omega)
  have hcc := HC3.out.trans hc4
  obtain ⟨s0, s1⟩ := has_st (a := 0) (b := U) hs4
  obtain ⟨r0, r1⟩ := has_st (a := 0) (b := 0) hr4
  have ff := fun i => Oct.Has.free hr4 i
  obtain ⟨d0, d1⟩ := cells_put2 (a := 0) (b := 0) hr4 0 U
  have HQ := Lib.hid (rye_put2 hl4 (g := w.heap.size) (by omega) 0 U)
  have HQ2 := Lib.hid (chg_put2 hcc (g := w.heap.size) (Nat.le_refl _) 0 U)
  clear hs4 hr4 hl4 hcc
  go_wp2
  refine bodyPost_ret (v := .agg #[.int .i64 0, .int .i64 U]) (by simp [results, Try.results39, go_sem, d0, d1]) rfl ⟨_, _, _, rfl, HQ.out, HQ2.out⟩

set_option maxRecDepth 100000 in
set_option maxHeartbeats 4000000 in
theorem rst_none (x a : Nat) (B : ByteArray) (hB : B.size ≤ 8192) (ha : a ≤ B.size) (hn : B.size < a + 6) (w : World) (h : Rye w x B a false 0) :
    Calls Try.prog 39 #[.pointer (some ⟨x, 0, none⟩)] w (StampBad x B w) := by
  have hx := Oct.Has.bound h
  have H := Lib.hid (Rye.past h (.cells #[.int .i64 0, .int .i64 0] 23))
  have hr0 := Oct.Has.fresh w 23 #[.int .i64 0, .int .i64 0]
  have hc0 := (Chg.refl (· = x) w).alloc (.cells #[.int .i64 0, .int .i64 0] 23)
  have HN1 := Lib.hid (fun W => rnum_short x a 6 B hB (by omega) (by omega) ha hn W)
  have HN2 := Lib.hid (fun W => rnum_done x a 1 B 201 W)
  have HI := Lib.hid (fun W => show Calls Try.prog 10 #[.agg #[.int .i64 0, .int .i64 0]] W fun e w' => e = .returned (.bool false) ∧ Below W.heap.size W w' from ris_any 0 0 W)
  clear h
  go_enter Try.func39, Try.ntmps39
  go_wp2_with fail
  refine (HN1.out _ H.out).mono ?_
  rintro e w1 ⟨rfl, hl1, hc1⟩
  have HR1 := Lib.hid (Oct.Has.past (Oct.Has.over hr0 hc1 (show w.heap.size ≠ x by omega)) (.cells #[.int .i64 0, .int .i64 0] 23))
  have HS1 := Lib.hid (Oct.Has.fresh w1 23 #[.int .i64 0, .int .i64 0])
  have HC1 := Lib.hid ((hc0.trans hc1).alloc (.cells #[.int .i64 0, .int .i64 0] 23))
  have HL1 := Lib.hid (Rye.past hl1 (.cells #[.int .i64 0, .int .i64 0] 23))
  have hx1 := Oct.Has.bound hl1
  have hr1 : w.heap.size < w1.heap.size := Oct.Has.bound (Oct.Has.over hr0 hc1 (show w.heap.size ≠ x by omega))
  clear hr0 hc0 hl1 hc1
  go_wp2_with fail
  refine (HN2.out _ HL1.out).mono ?_
  rintro e w2 ⟨rfl, rfl⟩
  have hl2 := HL1.out
  have hc2 : Chg (· = x) (w1.alloc (.cells #[.int .i64 0, .int .i64 0] 23)) (w1.alloc (.cells #[.int .i64 0, .int .i64 0] 23)) := Chg.refl _ _
  have hs2 := Oct.Has.over HS1.out hc2 (show w1.heap.size ≠ x by omega)
  have s1 := Oct.Has.at_ hs2 1
  have fs := Oct.Has.free hs2 1
  simp at s1
  have hss := hs2
  have HR2 := Lib.hid (Oct.Has.over HR1.out hc2 (show w.heap.size ≠ x by omega))
  have HL2 := Lib.hid hl2
  have HC2 := Lib.hid (HC1.out.trans hc2)
  clear fs
  obtain ⟨k0, k1⟩ := has_st (a := 0) (b := 0) hss
  clear hl2 hc2 hs2
  go_wp2_with fail
  refine (HI.out _).mono ?_
  rintro e w3 ⟨rfl, hb⟩
  have HS3 := Lib.hid (Oct.Has.over (S := fun _ => False) hss (Chg.of_below hb _) (fun k => k))
  have HR3 := Lib.hid (Oct.Has.over HR2.out (Chg.of_below hb (fun _ => False)) (fun k => k))
  have HL3 := Lib.hid (Rye.below HL2.out hb)
  have HC3 := Lib.hid (HC2.out.trans (Chg.of_below hb (· = x)))
  clear hb k0 k1 hss s1
  have hs4 := HS3.out
  have hr4 := HR3.out
  have hl4 := HL3.out
  have hcc := HC3.out
  obtain ⟨s0, s1⟩ := has_st (a := 0) (b := 0) hs4
  obtain ⟨r0, r1⟩ := has_st (a := 0) (b := 0) hr4
  have ff := fun i => Oct.Has.free hr4 i
  obtain ⟨d0, d1⟩ := cells_put2 (a := 0) (b := 0) hr4 0 0
  have HQ := Lib.hid (rye_put2 hl4 (g := w.heap.size) (by omega) 0 0)
  have HQ2 := Lib.hid (chg_put2 hcc (g := w.heap.size) (Nat.le_refl _) 0 0)
  clear hs4 hr4 hl4 hcc
  go_wp2
  refine bodyPost_ret (v := .agg #[.int .i64 0, .int .i64 0]) (by simp [results, Try.results39, go_sem, d0, d1]) rfl ⟨_, _, _, rfl, HQ.out, HQ2.out⟩

set_option maxRecDepth 100000 in
set_option maxHeartbeats 4000000 in
theorem rst_shortI (x a : Nat) (B : ByteArray) (hB : B.size ≤ 8192) (hn : a + 6 ≤ B.size) (hn7 : B.size < a + 7) (hi : isB (timeAt B a) 0 = true) (w : World) (h : Rye w x B a false 0) :
    Calls Try.prog 39 #[.pointer (some ⟨x, 0, none⟩)] w (StampBad x B w) := by
  have hx := Oct.Has.bound h
  have H := Lib.hid (Rye.past h (.cells #[.int .i64 0, .int .i64 0] 23))
  have hr0 := Oct.Has.fresh w 23 #[.int .i64 0, .int .i64 0]
  have hc0 := (Chg.refl (· = x) w).alloc (.cells #[.int .i64 0, .int .i64 0] 23)
  have HN1 := Lib.hid (fun W => rnum_ok x a 6 B hB (by omega) (by omega) (by omega) W)
  have HN2 := Lib.hid (fun W => rnum_short x (a + 6) 1 B hB (by omega) (by omega) (by omega) (by omega) W)
  have HT := Lib.hid (show ((numL ((B.data.toList.drop a).take 6) : Nat) : Int) = timeAt B a from rfl)
  have HI := Lib.hid (fun W => show Calls Try.prog 10 #[.agg #[.int .i64 (timeAt B a), .int .i64 0]] W fun e w' => e = .returned (.bool true) ∧ Below W.heap.size W w' from by have h := ris_any (timeAt B a) 0 W; rw [hi] at h; exact h)
  clear hi
  generalize timeAt B a = T at *
  clear h
  go_enter Try.func39, Try.ntmps39
  go_wp2_with fail
  refine (HN1.out _ H.out).mono ?_
  rintro e w1 ⟨rfl, hl1, hc1⟩
  rw [HT.out]
  have HR1 := Lib.hid (Oct.Has.past (Oct.Has.over hr0 hc1 (show w.heap.size ≠ x by omega)) (.cells #[.int .i64 T, .int .i64 0] 23))
  have HS1 := Lib.hid (Oct.Has.fresh w1 23 #[.int .i64 T, .int .i64 0])
  have HC1 := Lib.hid ((hc0.trans hc1).alloc (.cells #[.int .i64 T, .int .i64 0] 23))
  have HL1 := Lib.hid (Rye.past hl1 (.cells #[.int .i64 T, .int .i64 0] 23))
  have hx1 := Oct.Has.bound hl1
  have hr1 : w.heap.size < w1.heap.size := Oct.Has.bound (Oct.Has.over hr0 hc1 (show w.heap.size ≠ x by omega))
  clear hr0 hc0 hl1 hc1
  go_wp2_with fail
  refine (HN2.out _ HL1.out).mono ?_
  rintro e w2 ⟨rfl, hl2, hc2⟩
  have hs2 := Oct.Has.over HS1.out hc2 (show w1.heap.size ≠ x by omega)
  have s1 := Oct.Has.at_ hs2 1
  have fs := Oct.Has.free hs2 1
  simp at s1
  have HS2 := Lib.hid (Oct.Has.put hs2 1 (.int .i64 0))
  have HR2 := Lib.hid (Oct.Has.keep (Oct.Has.over HR1.out hc2 (show w.heap.size ≠ x by omega)) (p := ⟨w1.heap.size, 1, none⟩) (show w.heap.size ≠ w1.heap.size by omega) (.int .i64 0))
  have HL2 := Lib.hid (Rye.keep hl2 (p := ⟨w1.heap.size, 1, none⟩) (show x ≠ w1.heap.size by omega) (.int .i64 0))
  have HC2 := Lib.hid ((HC1.out.trans hc2).setCell (p := ⟨w1.heap.size, 1, none⟩) (.inr (show w.heap.size ≤ w1.heap.size by omega)) (.int .i64 0))
  have hss := HS2.out
  simp at hss
  obtain ⟨k0, k1⟩ := has_st (a := T) (b := 0) hss
  clear hl2 hc2 hs2
  go_wp2_with fail
  refine (HI.out _).mono ?_
  rintro e w3 ⟨rfl, hb⟩
  have HS3 := Lib.hid (Oct.Has.over (S := fun _ => False) hss (Chg.of_below hb _) (fun k => k))
  have HR3 := Lib.hid (Oct.Has.over HR2.out (Chg.of_below hb (fun _ => False)) (fun k => k))
  have HL3 := Lib.hid (Rye.below HL2.out hb)
  have HC3 := Lib.hid (HC2.out.trans (Chg.of_below hb (· = x)))
  clear hb k0 k1 hss s1 fs
  have hs4 := HS3.out
  have hr4 := HR3.out
  have hl4 := HL3.out
  have hcc := HC3.out
  obtain ⟨s0, s1⟩ := has_st (a := T) (b := 0) hs4
  obtain ⟨r0, r1⟩ := has_st (a := 0) (b := 0) hr4
  have ff := fun i => Oct.Has.free hr4 i
  obtain ⟨d0, d1⟩ := cells_put2 (a := 0) (b := 0) hr4 T 0
  have HQ := Lib.hid (rye_put2 hl4 (g := w.heap.size) (by omega) T 0)
  have HQ2 := Lib.hid (chg_put2 hcc (g := w.heap.size) (Nat.le_refl _) T 0)
  clear hs4 hr4 hl4 hcc
  go_wp2
  refine bodyPost_ret (v := .agg #[.int .i64 T, .int .i64 0]) (by simp [results, Try.results39, go_sem, d0, d1]) rfl ⟨_, _, _, rfl, HQ.out, HQ2.out⟩

set_option maxRecDepth 100000 in
set_option maxHeartbeats 4000000 in
theorem rst_shortT (x a : Nat) (B : ByteArray) (hB : B.size ≤ 8192) (hn : a + 6 ≤ B.size) (hn7 : B.size < a + 7) (ht : timeAt B a ≠ 0) (hi : isB (timeAt B a) 0 = false) (w : World) (h : Rye w x B a false 0) :
    Calls Try.prog 39 #[.pointer (some ⟨x, 0, none⟩)] w (StampBad x B w) := by
  have hx := Oct.Has.bound h
  have H := Lib.hid (Rye.past h (.cells #[.int .i64 0, .int .i64 0] 23))
  have hr0 := Oct.Has.fresh w 23 #[.int .i64 0, .int .i64 0]
  have hc0 := (Chg.refl (· = x) w).alloc (.cells #[.int .i64 0, .int .i64 0] 23)
  have HN1 := Lib.hid (fun W => rnum_ok x a 6 B hB (by omega) (by omega) (by omega) W)
  have HN2 := Lib.hid (fun W => rnum_short x (a + 6) 1 B hB (by omega) (by omega) (by omega) (by omega) W)
  have HT := Lib.hid (show ((numL ((B.data.toList.drop a).take 6) : Nat) : Int) = timeAt B a from rfl)
  have nt : (timeAt B a != 0) = true := by simp [ht]
  have nt2 : (timeAt B a == 0) = false := by simp [ht]
  have HI := Lib.hid (fun W => show Calls Try.prog 10 #[.agg #[.int .i64 (timeAt B a), .int .i64 0]] W fun e w' => e = .returned (.bool false) ∧ Below W.heap.size W w' from by have h := ris_any (timeAt B a) 0 W; rw [hi] at h; exact h)
  clear ht hi
  generalize timeAt B a = T at *
  clear h
  go_enter Try.func39, Try.ntmps39
  go_wp2_with fail
  refine (HN1.out _ H.out).mono ?_
  rintro e w1 ⟨rfl, hl1, hc1⟩
  rw [HT.out]
  have HR1 := Lib.hid (Oct.Has.past (Oct.Has.over hr0 hc1 (show w.heap.size ≠ x by omega)) (.cells #[.int .i64 T, .int .i64 0] 23))
  have HS1 := Lib.hid (Oct.Has.fresh w1 23 #[.int .i64 T, .int .i64 0])
  have HC1 := Lib.hid ((hc0.trans hc1).alloc (.cells #[.int .i64 T, .int .i64 0] 23))
  have HL1 := Lib.hid (Rye.past hl1 (.cells #[.int .i64 T, .int .i64 0] 23))
  have hx1 := Oct.Has.bound hl1
  have hr1 : w.heap.size < w1.heap.size := Oct.Has.bound (Oct.Has.over hr0 hc1 (show w.heap.size ≠ x by omega))
  clear hr0 hc0 hl1 hc1
  go_wp2_with fail
  refine (HN2.out _ HL1.out).mono ?_
  rintro e w2 ⟨rfl, hl2, hc2⟩
  have hs2 := Oct.Has.over HS1.out hc2 (show w1.heap.size ≠ x by omega)
  have s1 := Oct.Has.at_ hs2 1
  have fs := Oct.Has.free hs2 1
  simp at s1
  have HS2 := Lib.hid (Oct.Has.put hs2 1 (.int .i64 0))
  have HR2 := Lib.hid (Oct.Has.keep (Oct.Has.over HR1.out hc2 (show w.heap.size ≠ x by omega)) (p := ⟨w1.heap.size, 1, none⟩) (show w.heap.size ≠ w1.heap.size by omega) (.int .i64 0))
  have HL2 := Lib.hid (Rye.keep hl2 (p := ⟨w1.heap.size, 1, none⟩) (show x ≠ w1.heap.size by omega) (.int .i64 0))
  have HC2 := Lib.hid ((HC1.out.trans hc2).setCell (p := ⟨w1.heap.size, 1, none⟩) (.inr (show w.heap.size ≤ w1.heap.size by omega)) (.int .i64 0))
  have hss := HS2.out
  simp at hss
  obtain ⟨k0, k1⟩ := has_st (a := T) (b := 0) hss
  clear hl2 hc2 hs2
  go_wp2_with fail
  refine (HI.out _).mono ?_
  rintro e w3 ⟨rfl, hb⟩
  have HS3 := Lib.hid (Oct.Has.over (S := fun _ => False) hss (Chg.of_below hb _) (fun k => k))
  have HR3 := Lib.hid (Oct.Has.over HR2.out (Chg.of_below hb (fun _ => False)) (fun k => k))
  have HL3 := Lib.hid (Rye.below HL2.out hb)
  have HC3 := Lib.hid (HC2.out.trans (Chg.of_below hb (· = x)))
  clear hb k0 k1 hss s1 fs
  obtain ⟨s0, s1⟩ := has_st (a := T) (b := 0) HS3.out
  have HF := Lib.hid (rfail_done x B _ 201 201 _ HL3.out)
  go_wp2_with fail
  refine HF.out.mono ?_
  rintro e w4 ⟨rfl, rfl⟩
  clear s0 s1
  have hs4 := HS3.out
  have hr4 := HR3.out
  have hl4 := HL3.out
  have hcc := HC3.out
  obtain ⟨s0, s1⟩ := has_st (a := T) (b := 0) hs4
  obtain ⟨r0, r1⟩ := has_st (a := 0) (b := 0) hr4
  have ff := fun i => Oct.Has.free hr4 i
  obtain ⟨d0, d1⟩ := cells_put2 (a := 0) (b := 0) hr4 T 0
  have HQ := Lib.hid (rye_put2 hl4 (g := w.heap.size) (by omega) T 0)
  have HQ2 := Lib.hid (chg_put2 hcc (g := w.heap.size) (Nat.le_refl _) T 0)
  clear hs4 hr4 hl4 hcc
  go_wp2
  refine bodyPost_ret (v := .agg #[.int .i64 T, .int .i64 0]) (by simp [results, Try.results39, go_sem, d0, d1]) rfl ⟨_, _, _, rfl, HQ.out, HQ2.out⟩

set_option maxRecDepth 100000 in
set_option maxHeartbeats 4000000 in
theorem rst_short0 (x a : Nat) (B : ByteArray) (hB : B.size ≤ 8192) (hn : a + 6 ≤ B.size) (hn7 : B.size < a + 7) (ht : timeAt B a = 0) (hi : isB (timeAt B a) 0 = false) (w : World) (h : Rye w x B a false 0) :
    Calls Try.prog 39 #[.pointer (some ⟨x, 0, none⟩)] w (StampBad x B w) := by
  have hx := Oct.Has.bound h
  have H := Lib.hid (Rye.past h (.cells #[.int .i64 0, .int .i64 0] 23))
  have hr0 := Oct.Has.fresh w 23 #[.int .i64 0, .int .i64 0]
  have hc0 := (Chg.refl (· = x) w).alloc (.cells #[.int .i64 0, .int .i64 0] 23)
  have HN1 := Lib.hid (fun W => rnum_ok x a 6 B hB (by omega) (by omega) (by omega) W)
  have HN2 := Lib.hid (fun W => rnum_short x (a + 6) 1 B hB (by omega) (by omega) (by omega) (by omega) W)
  have HT := Lib.hid (show ((numL ((B.data.toList.drop a).take 6) : Nat) : Int) = timeAt B a from rfl)
  have HI := Lib.hid (fun W => show Calls Try.prog 10 #[.agg #[.int .i64 (timeAt B a), .int .i64 0]] W fun e w' => e = .returned (.bool false) ∧ Below W.heap.size W w' from by have h := ris_any (timeAt B a) 0 W; rw [hi] at h; exact h)
  rw [ht] at HI HT
  clear ht hi
  clear h
  go_enter Try.func39, Try.ntmps39
  go_wp2_with fail
  refine (HN1.out _ H.out).mono ?_
  rintro e w1 ⟨rfl, hl1, hc1⟩
  rw [HT.out]
  have HR1 := Lib.hid (Oct.Has.past (Oct.Has.over hr0 hc1 (show w.heap.size ≠ x by omega)) (.cells #[.int .i64 0, .int .i64 0] 23))
  have HS1 := Lib.hid (Oct.Has.fresh w1 23 #[.int .i64 0, .int .i64 0])
  have HC1 := Lib.hid ((hc0.trans hc1).alloc (.cells #[.int .i64 0, .int .i64 0] 23))
  have HL1 := Lib.hid (Rye.past hl1 (.cells #[.int .i64 0, .int .i64 0] 23))
  have hx1 := Oct.Has.bound hl1
  have hr1 : w.heap.size < w1.heap.size := Oct.Has.bound (Oct.Has.over hr0 hc1 (show w.heap.size ≠ x by omega))
  clear hr0 hc0 hl1 hc1
  go_wp2_with fail
  refine (HN2.out _ HL1.out).mono ?_
  rintro e w2 ⟨rfl, hl2, hc2⟩
  have hs2 := Oct.Has.over HS1.out hc2 (show w1.heap.size ≠ x by omega)
  have s1 := Oct.Has.at_ hs2 1
  have fs := Oct.Has.free hs2 1
  simp at s1
  have HS2 := Lib.hid (Oct.Has.put hs2 1 (.int .i64 0))
  have HR2 := Lib.hid (Oct.Has.keep (Oct.Has.over HR1.out hc2 (show w.heap.size ≠ x by omega)) (p := ⟨w1.heap.size, 1, none⟩) (show w.heap.size ≠ w1.heap.size by omega) (.int .i64 0))
  have HL2 := Lib.hid (Rye.keep hl2 (p := ⟨w1.heap.size, 1, none⟩) (show x ≠ w1.heap.size by omega) (.int .i64 0))
  have HC2 := Lib.hid ((HC1.out.trans hc2).setCell (p := ⟨w1.heap.size, 1, none⟩) (.inr (show w.heap.size ≤ w1.heap.size by omega)) (.int .i64 0))
  have hss := HS2.out
  simp at hss
  obtain ⟨k0, k1⟩ := has_st (a := 0) (b := 0) hss
  clear hl2 hc2 hs2
  go_wp2_with fail
  refine (HI.out _).mono ?_
  rintro e w3 ⟨rfl, hb⟩
  have HS3 := Lib.hid (Oct.Has.over (S := fun _ => False) hss (Chg.of_below hb _) (fun k => k))
  have HR3 := Lib.hid (Oct.Has.over HR2.out (Chg.of_below hb (fun _ => False)) (fun k => k))
  have HL3 := Lib.hid (Rye.below HL2.out hb)
  have HC3 := Lib.hid (HC2.out.trans (Chg.of_below hb (· = x)))
  clear hb k0 k1 hss s1 fs
  have hs4 := HS3.out
  have hr4 := HR3.out
  have hl4 := HL3.out
  have hcc := HC3.out
  obtain ⟨s0, s1⟩ := has_st (a := 0) (b := 0) hs4
  obtain ⟨r0, r1⟩ := has_st (a := 0) (b := 0) hr4
  have ff := fun i => Oct.Has.free hr4 i
  obtain ⟨d0, d1⟩ := cells_put2 (a := 0) (b := 0) hr4 0 0
  have HQ := Lib.hid (rye_put2 hl4 (g := w.heap.size) (by omega) 0 0)
  have HQ2 := Lib.hid (chg_put2 hcc (g := w.heap.size) (Nat.le_refl _) 0 0)
  clear hs4 hr4 hl4 hcc
  go_wp2
  refine bodyPost_ret (v := .agg #[.int .i64 0, .int .i64 0]) (by simp [results, Try.results39, go_sem, d0, d1]) rfl ⟨_, _, _, rfl, HQ.out, HQ2.out⟩

theorem rst_ok (x a : Nat) (B : ByteArray) (hB : B.size ≤ 8192) (hn : a + 7 ≤ B.size) (hs : stampB (timeAt B a) (whoAt B a) = true) (w : World) (h : Rye w x B a false 0) :
    Calls Try.prog 39 #[.pointer (some ⟨x, 0, none⟩)] w fun e w' => e = .returned (.agg (stC (timeAt B a) (whoAt B a))) ∧ Rye w' x B (a + 7) false 0 ∧ Chg (· = x) w w' := by
  cases hi : isB (timeAt B a) (whoAt B a) with
  | true => exact rst_event x a B hB hn hi w h
  | false =>
    unfold stampB at hs
    rw [hi, Bool.false_or, Bool.and_eq_true, beq_iff_eq, beq_iff_eq] at hs
    exact rst_zero x a B hB hn hs.1 hs.2 w h
theorem rst_bad (x a : Nat) (B : ByteArray) (hB : B.size ≤ 8192) (ha : a ≤ B.size) (hbad : B.size < a + 7 ∨ stampB (timeAt B a) (whoAt B a) = false) (w : World) (h : Rye w x B a false 0) :
    Calls Try.prog 39 #[.pointer (some ⟨x, 0, none⟩)] w (StampBad x B w) := by
  by_cases h6 : B.size < a + 6
  · exact rst_none x a B hB ha h6 w h
  · by_cases h7 : B.size < a + 7
    · cases hi : isB (timeAt B a) 0 with
      | true => exact rst_shortI x a B hB (by omega) h7 hi w h
      | false =>
        by_cases ht : timeAt B a = 0
        · exact rst_short0 x a B hB (by omega) h7 ht hi w h
        · exact rst_shortT x a B hB (by omega) h7 ht hi w h
    · have hs := hbad.resolve_left h7
      unfold stampB at hs
      rw [Bool.or_eq_false_iff] at hs
      by_cases ht : timeAt B a = 0
      · refine rst_wrongU x a B hB (by omega) ht (fun hu => ?_) hs.1 w h
        rw [ht, hu] at hs
        exact absurd hs.2 (by decide)
      · exact rst_wrongT x a B hB (by omega) ht hs.1 w h
end Go.Proofs.Ytlnlnpofdgnoeaa.Vc
