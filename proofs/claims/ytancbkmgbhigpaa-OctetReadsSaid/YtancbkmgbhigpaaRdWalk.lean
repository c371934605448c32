/- The walk of the law OctetReads. -/
import Derived.Test.YtancbkmgbhigpaaRdRead
import Derived.Test.YtancbkmgbhigpaaRdEq
import Derived.Test.YtancbkmgbhigpaaRdNone
import Derived.Test.YtancbkmgbhigpaaRdClone
namespace Go.Proofs.Ytancbkmgbhigpaa.Vc
open Go.RowKit Go.Proofs.Ytancbkmgbhigpaa.Oct

theorem reads_big (A D : Option Addr) (n c m d : Nat) (hb : 8192 < n) (w : World) :
    Calls Try.prog 3 #[.slice A n c, .slice D m d] w fun e w' => e = .returned (.bool true) ∧ Below w.heap.size w w' := by
  have g1 : 8192 < (n : Int) := by omega
  have hb0 := (Below.refl w.heap.size w).alloc (Nat.le_refl _) (.cells #[.slice D m d] 23)
  have HB0 := Lib.hid hb0
  clear hb hb0
  go_enter Try.func3, Try.ntmps3
  go_wp2_with fail
  refine (awake_any _).mono ?_
  rintro e w' ⟨rfl, hb⟩
  go_wp2
  go_ret
  exact ⟨rfl, HB0.out.trans (hb.mono HB0.out.size)⟩
theorem reads_many (A D : Option Addr) (n c m d : Nat) (hb : n ≤ 8192) (hm : 100 < m) (w : World) :
    Calls Try.prog 3 #[.slice A n c, .slice D m d] w fun e w' => e = .returned (.bool true) ∧ Below w.heap.size w w' := by
  have g1 : ¬ 8192 < (n : Int) := by omega
  have g2 : 100 < (m : Int) := by omega
  have hb0 := (Below.refl w.heap.size w).alloc (Nat.le_refl _) (.cells #[.slice D m d] 23)
  have HB0 := Lib.hid hb0
  clear hb hm hb0
  go_enter Try.func3, Try.ntmps3
  go_wp2_with fail
  refine (awake_any _).mono ?_
  rintro e w' ⟨rfl, hb⟩
  go_wp2
  go_ret
  exact ⟨rfl, HB0.out.trans (hb.mono HB0.out.size)⟩
/-- The document's eye ends as the looking does. -/
theorem end_of {x : Nat} {B : ByteArray} {st : St} {w : World} (h : EyeAt w x B st) :
    Calls Try.prog 12 #[.pointer (some ⟨x, 0, none⟩)] w fun e w' => e = .returned (.int .i64 (endOf st)) ∧ Chg (· = x) w w' := by
  unfold EyeAt at h
  unfold endOf
  cases hw : st.why with
  | none =>
    rw [hw] at h
    obtain ⟨a, ha, hr, hk⟩ := h
    refine (rend_open x a B w hk).mono ?_
    rintro e w' ⟨rfl, hc⟩
    refine ⟨?_, hc⟩
    have hz := ext_size B a ha
    have e1 : (B.extract a B.size).toList.isEmpty = decide (B.size ≤ a) := by
      rw [ByteArray.toList_eq]
      have : (B.extract a B.size).data.toList.length = B.size - a := by rw [Array.length_toList]; exact hz
      cases hl : (B.extract a B.size).data.toList with
      | nil => rw [hl] at this; simp at this; simp; omega
      | cons b l => rw [hl] at this; simp at this; simp; omega
    rw [hr]
    unfold why
    rw [e1]
    by_cases hlt : a < B.size
    · rw [if_pos hlt, decide_eq_false (by omega)]
      rfl
    · rw [if_neg hlt, decide_eq_true (by omega)]
      rfl
  | some y =>
    rw [hw] at h
    obtain ⟨a, hk⟩ := h
    exact rend_done x a B y w hk
theorem eye_over {x : Nat} {B : ByteArray} {st : St} {w w' : World} {S : Nat → Prop} (h : EyeAt w x B st) (hc : Chg S w w') (hx : ¬ S x) : EyeAt w' x B st := by
  unfold EyeAt at *
  cases hw : st.why with
  | none =>
    rw [hw] at h
    obtain ⟨a, ha, hr, hk⟩ := h
    exact ⟨a, ha, hr, Oct.Has.over hk hc hx⟩
  | some y =>
    rw [hw] at h
    obtain ⟨a, hk⟩ := h
    exact ⟨a, Oct.Has.over hk hc hx⟩
theorem eye_bound {x : Nat} {B : ByteArray} {st : St} {w : World} (h : EyeAt w x B st) : x < w.heap.size := by
  unfold EyeAt at h
  cases hw : st.why with
  | none =>
    rw [hw] at h
    obtain ⟨a, ha, hr, hk⟩ := h
    exact Oct.Has.bound hk
  | some y =>
    rw [hw] at h
    obtain ⟨a, hk⟩ := h
    exact Oct.Has.bound hk
set_option maxRecDepth 100000 in
set_option maxHeartbeats 8000000 in
theorem reads_few (A D : Option Addr) (n c m d : Nat) (l : List UInt8) (xs : List (Int × Int)) (hb : n ≤ 8192) (hm : m ≤ 100) (bo : Bool) (hbo : (asked ⟨l.toArray⟩ xs).why.isSome = bo) (w : World) (h : RowB w A n l) (h0 : A = none → n = 0 ∧ c = 0) (hx : LookRow w D m xs) :
    Calls Try.prog 3 #[.slice A n c, .slice D m d] w fun e w' => e = .returned (.bool true) ∧ Below w.heap.size w w' := by
  have g1 : ¬ 8192 < (n : Int) := by omega
  have g2 : ¬ 100 < (m : Int) := by omega
  have hbn : (asked ⟨l.toArray⟩ xs).why.isNone = !bo := by rw [← hbo]; cases (asked ⟨l.toArray⟩ xs).why <;> rfl
  have hlen := asked_len ⟨l.toArray⟩ xs xs.length (Nat.le_refl _)
  rw [List.take_length, hx.1] at hlen
  have hB : (⟨l.toArray⟩ : ByteArray).size ≤ 8192 := by
    have : (⟨l.toArray⟩ : ByteArray).size = l.length := by simp [ByteArray.size]
    rw [this, h.1]
    exact hb
  have hb1 := (Below.refl w.heap.size w).alloc (Nat.le_refl _) (.cells #[.slice D m d] 23)
  have hb2 := hb1.alloc hb1.size (.cells #[.string ⟨l.toArray⟩, .int .i64 0, .bool false, .int .i64 0] 28)
  have kc : (convert 22 9 (.slice A n c)).run Try.prog (w.alloc (.cells #[.slice D m d] 23)) = .ok (.string ⟨l.toArray⟩) (w.alloc (.cells #[.slice D m d] 23)) := conv_RowB _ A n c l (h.below hb1)
  have hl1 := (Oct.Has.fresh w 23 #[.slice D m d]).past (.cells #[.string ⟨l.toArray⟩, .int .i64 0, .bool false, .int .i64 0] 28)
  have hk2 : Rye ((w.alloc (.cells #[.slice D m d] 23)).alloc (.cells #[.string ⟨l.toArray⟩, .int .i64 0, .bool false, .int .i64 0] 28)) (w.heap.size + 1) ⟨l.toArray⟩ 0 false 0 := by
    have := Oct.Has.fresh (w.alloc (.cells #[.slice D m d] 23)) 28 #[.string ⟨l.toArray⟩, .int .i64 0, .bool false, .int .i64 0]
    rw [World.size_alloc] at this
    exact this
  have hD : 0 < m → ∀ b off, D = some ⟨b, off, none⟩ → b < w.heap.size := by
    intro hm0 b off e
    obtain ⟨b', off', e', hlt, _⟩ := hx.2 hm0
    rw [e] at e'
    injection e' with e'
    injection e' with e1 _ _
    omega
  have HAL := Lib.hid (also_any (w.heap.size + 1) ⟨l.toArray⟩ hB D m d xs (by omega) _ (hx.below hb2) (fun hm0 b off e => by have := hD hm0 b off e; omega) hk2)
  have HR := Lib.hid h
  have HX := Lib.hid hx
  have HD := Lib.hid hD
  have HB2 := Lib.hid hb2
  have HL1 := Lib.hid hl1
  have HBO := Lib.hid hbo
  have HBN := Lib.hid hbn
  have H0 := Lib.hid h0
  have HLEN := Lib.hid hlen
  clear h hx hD hb1 hb2 hl1 hk2 hbo hbn h0 hlen hB
  go_enter Try.func3, Try.ntmps3
  go_wp2_with fail
  refine HAL.out.mono ?_
  rintro e w3 hd
  unfold Also at hd
  obtain ⟨u, v, he1, hu, hv, hE, hc⟩ := hd
  rw [HBO.out] at he1
  subst he1
  have hl3 := HL1.out.over hc (by omega)
  have hz3 : w.heap.size + 2 ≤ w3.heap.size := by have := hc.size; simp at this; omega
  have hb3 : Below w.heap.size w w3 := HB2.out.trans (hc.below HB2.out.size (fun k hk e => by omega))
  have hB4 : Below w3.heap.size w3 ((((w3.alloc (.cells #[.slice none 0 0] 29)).alloc (.cells #[.slice none 0 0] 30)).alloc (.cells #[.bool false] 4)).alloc (.cells #[.pointer none] 33)) := ((((Below.refl _ w3).alloc (Nat.le_refl _) _).alloc (by simp) _).alloc (by simp; omega) _).alloc (by simp; omega) _
  have hn4 : Oct.Has ((((w3.alloc (.cells #[.slice none 0 0] 29)).alloc (.cells #[.slice none 0 0] 30)).alloc (.cells #[.bool false] 4)).alloc (.cells #[.pointer none] 33)) w3.heap.size 29 #[.slice none 0 0] := (((Oct.Has.fresh w3 29 #[.slice none 0 0]).past _).past _).past _
  have hs4 : Oct.Has ((((w3.alloc (.cells #[.slice none 0 0] 29)).alloc (.cells #[.slice none 0 0] 30)).alloc (.cells #[.bool false] 4)).alloc (.cells #[.pointer none] 33)) (w3.heap.size + 1) 30 #[.slice none 0 0] := by
    have h := Oct.Has.fresh (w3.alloc (.cells #[.slice none 0 0] 29)) 30 #[.slice none 0 0]
    rw [World.size_alloc] at h
    exact (h.past _).past _
  have hbb4 : Oct.Has ((((w3.alloc (.cells #[.slice none 0 0] 29)).alloc (.cells #[.slice none 0 0] 30)).alloc (.cells #[.bool false] 4)).alloc (.cells #[.pointer none] 33)) (w3.heap.size + 2) 4 #[.bool false] := by
    have h := Oct.Has.fresh ((w3.alloc (.cells #[.slice none 0 0] 29)).alloc (.cells #[.slice none 0 0] 30)) 4 #[.bool false]
    rw [World.size_alloc, World.size_alloc] at h
    exact h.past _
  have hk4 : Oct.Has ((((w3.alloc (.cells #[.slice none 0 0] 29)).alloc (.cells #[.slice none 0 0] 30)).alloc (.cells #[.bool false] 4)).alloc (.cells #[.pointer none] 33)) (w3.heap.size + 3) 33 #[.pointer none] := by
    have h := Oct.Has.fresh (((w3.alloc (.cells #[.slice none 0 0] 29)).alloc (.cells #[.slice none 0 0] 30)).alloc (.cells #[.bool false] 4)) 33 #[.pointer none]
    rw [World.size_alloc, World.size_alloc, World.size_alloc] at h
    exact h
  have HB4 := Lib.hid hB4
  have HB3 := Lib.hid hb3
  have HC4 := Lib.hid (And.intro hn4 (And.intro hs4 (And.intro hbb4 hk4)))
  have HL4 := Lib.hid (hl3.below hB4)
  have HR4 := Lib.hid (HR.out.below (hb3.trans (hB4.mono hb3.size)))
  have HX4 := Lib.hid (HX.out.below (hb3.trans (hB4.mono hb3.size)))
  have HU := Lib.hid hu
  have HV := Lib.hid hv
  have HE := Lib.hid hE
  have HL3 := Lib.hid hl3
  have HZ3 := Lib.hid hz3
  clear hl3 hz3 hb3 hB4 hn4 hs4 hbb4 hk4 hu hv hE hc HAL kc HL1
  go_wp2_with fail
  refine (clone_any A n c l (by omega) _ HR4.out H0.out).mono ?_
  rintro e w5 ⟨cv, rfl, ho, hb5⟩
  obtain ⟨A5, c5, rfl, _⟩ := ho.slice
  have HR5 := Lib.hid (ho.row rfl)
  have HB5 := Lib.hid (HB4.out.trans (hb5.mono HB4.out.size))
  have HRD := Lib.hid (reads_read A5 l.length c5 l (w3.heap.size + 3) w.heap.size w3.heap.size (w3.heap.size + 1) (w3.heap.size + 2) D m d xs hm w5 HR5.out (HC4.out.2.2.2.below hb5) (HL4.out.below hb5) (HC4.out.1.below hb5) (HC4.out.2.1.below hb5) (HC4.out.2.2.1.below hb5) (HX4.out.below hb5) HD.out (by have := HZ3.out; omega))
  clear ho hb5
  go_wp2_with fail
  refine HRD.out.mono ?_
  rintro e w6 ⟨rfl, hd6⟩
  obtain ⟨st, hst⟩ : ∃ st, asked ⟨l.toArray⟩ xs = st := ⟨_, rfl⟩
  rw [hst] at hd6 HU HV HE HBN HLEN ⊢
  obtain ⟨E, hEE⟩ : ∃ E, endOf st = E := ⟨_, rfl⟩
  have hc36 : Chg (fun _ => False) w3 w6 := (Chg.of_below HB5.out (fun _ => False)).step hd6.chg (fun i hi hT => by unfold RdX at hT; omega)
  have hl6 := HL3.out.over hc36 (fun h => h)
  have hE6 := eye_over HE.out hc36 (fun h => h)
  have hu6 := own_chg HU.out hc36 (fun _ _ h => h)
  have hv6 := own_chg HV.out hc36 (fun _ _ h => h)
  have hb6 : Below w.heap.size w w6 := HB3.out.trans (hc36.below HB3.out.size (fun _ _ h => h))
  obtain ⟨⟨u5, n6, o6⟩, ⟨v5, s6, p6⟩⟩ := And.intro hd6.nums hd6.txts
  have b6 := hd6.back
  rw [HBN.out] at b6
  have HK6 := Lib.hid (And.intro hd6.kept (And.intro hd6.eye hd6.sight))
  have c1 := Oct.Has.at_ n6 0
  simp at c1
  have HE1 := Lib.hid (eqi_own u5 u _ _ st.nums (by have := HLEN.out; omega) w6 o6 hu6)
  have HE2 := Lib.hid (fun (W : World) (hW : Below w6.heap.size w6 W) => eqs_own v5 v _ _ st.txts (by have := HLEN.out; omega) W (own_chg p6 (Chg.of_below hW (fun _ => False)) (fun _ _ h => h)) (own_chg hv6 (Chg.of_below hW (fun _ => False)) (fun _ _ h => h)))
  have HE3 := Lib.hid (fun (W : World) (hW : Below w6.heap.size w6 W) => end_of (eye_over hE6 (Chg.of_below hW (fun _ => False)) (fun h => h)))
  have HS6 := Lib.hid s6
  have HB6 := Lib.hid hb6
  have HBB := Lib.hid b6
  have HL6 := Lib.hid hl6
  have HX6 := Lib.hid (HX.out.below hb6)
  have HZ6 := Lib.hid (show w.heap.size + 1 < w6.heap.size by have := eye_bound hE6; exact this)
  rw [hEE] at HE3 ⊢
  clear hd6 hc36 hl6 hE6 hu6 hv6 hb6 n6 o6 s6 p6 b6 hst hEE HRD
  have hff : ((!bo) == bo) = false := by cases bo <;> rfl
  go_wp2_with fail
  refine HE1.out.mono ?_
  rintro e w7 ⟨rfl, hb7⟩
  have c2 := Oct.Has.at_ (Oct.Has.below HS6.out hb7) 0
  simp at c2
  have HB7 := Lib.hid hb7
  clear hb7 c1 HE1
  go_wp2_with fail
  refine (HE2.out _ HB7.out).mono ?_
  rintro e w8 ⟨rfl, hb8⟩
  have HB8 := Lib.hid (HB7.out.trans (hb8.mono HB7.out.size))
  have c3 := Oct.Has.at_ (Oct.Has.below HBB.out HB8.out) 0
  simp at c3
  clear hb8 c2 HE2 HB7
  go_wp2_with fail
  refine (HE3.out _ HB8.out).mono ?_
  rintro e w9 ⟨rfl, hc9⟩
  have hz5 := HB5.out.size
  have hz3 := HZ3.out
  have hb9 : Below w.heap.size w w9 := (HB6.out.trans (HB8.out.mono HB6.out.size)).trans (hc9.below (HB6.out.trans (HB8.out.mono HB6.out.size)).size (fun k hk e => by omega))
  have HX9 := Lib.hid (HX.out.below hb9)
  have k9 := (HK6.out.1.below HB8.out).over hc9 (by omega)
  have l9 := (HL6.out.below HB8.out).over hc9 (by omega)
  obtain ⟨r0, y0, s9⟩ := HK6.out.2.2
  have HI9 := Lib.hid (show Idle w9 (some ⟨w5.heap.size + 3, 0, none⟩) from .done _ (w5.heap.size + 1) r0 y0 ((HK6.out.2.1.below HB8.out).over hc9 (by omega)) (Oct.Has.over (Oct.Has.below s9 HB8.out) hc9 (by omega)))
  have c4 := Oct.Has.at_ k9 0
  have c5 := Oct.Has.at_ l9 0
  simp at c4 c5
  have HB9 := Lib.hid hb9
  clear hz5 hz3 hb9 k9 l9 s9 hc9 c3 HE3 HK6
  go_wp2_with fail
  refine (looks_idle (some ⟨w5.heap.size + 3, 0, none⟩) D m d xs (by omega) _ HX9.out HI9.out).mono ?_
  rintro x w10 ⟨ua, va, pa, qa, rfl, hpq, hu, hv, hb10⟩
  have HU10 := Lib.hid hu
  have HV10 := Lib.hid hv
  have HPQ := Lib.hid hpq
  have HB10 := Lib.hid (HB9.out.trans (hb10.mono HB9.out.size))
  clear hu hv hpq hb10 c4 c5
  go_wp2_with fail
  refine (cont_i _ ent1 nob1 ua _ pa (by have := HPQ.out; omega) _ HU10.out).mono ?_
  rintro x w' ⟨rfl, rfl⟩
  go_wp2_with fail
  refine (cont_s _ ent2 nob2 va _ qa (by have := HPQ.out; omega) _ HV10.out).mono ?_
  rintro x w' ⟨rfl, rfl⟩
  go_wp2_with fail
  refine (awake_any _).mono ?_
  rintro e w11 ⟨rfl, hb11⟩
  have HB11 := Lib.hid (HB10.out.trans (hb11.mono HB10.out.size))
  clear hb11
  go_wp2
  go_ret
  exact ⟨rfl, HB11.out⟩
theorem reads_walk (w : World) (A0 : Option Addr) (n0 c0 : Nat) (a0 : List UInt8) (A1 : Option Addr) (n1 c1 : Nat) (a1 : List (Int × Int)) (w0 : RowB w A0 n0 a0) (z0 : A0 = none → n0 = 0 ∧ c0 = 0) (_ : n0 ≤ c0) (_ : c0 ≤ maxLen)
    (w1 : LookRow w A1 n1 a1) (_ : n1 ≤ c1) (_ : c1 ≤ maxLen) :
    Calls Try.prog 3 #[.slice A0 n0 c0, .slice A1 n1 c1] w fun e w' => e = .returned (.bool true) ∧ Below w.heap.size w w' := by
  by_cases hb : 8192 < n0
  · exact reads_big A0 A1 n0 c0 n1 c1 hb w
  · by_cases hm : 100 < n1
    · exact reads_many A0 A1 n0 c0 n1 c1 (by omega) hm w
    · exact reads_few A0 A1 n0 c0 n1 c1 a0 a1 (by omega) (by omega) _ rfl w w0 z0 w1
end Go.Proofs.Ytancbkmgbhigpaa.Vc
