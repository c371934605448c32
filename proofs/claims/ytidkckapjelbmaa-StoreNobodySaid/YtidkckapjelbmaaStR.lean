/- A store is laid on a device: contract of Format. -/
import Derived.Test.YtidkckapjelbmaaStQ
namespace Go.Proofs.Ytidkckapjelbmaa.Sto
open Go.RowKit
open Oct (Has Chg)
open Rws
open Mem (IMap)

/-- Blocks are emptied, one after another. -/
def wipe : List Int → Dv.St → Int × Dv.St
  | [], D => (0, D)
  | i :: l, D => if Dv.wrE D i ⟨#[]⟩ = 0 then wipe l (Dv.wrD D i ⟨#[]⟩) else (Dv.wrE D i ⟨#[]⟩, Dv.wrD D i ⟨#[]⟩)
def fmtLaid (note : ByteArray) (D : Dv.St) : Bool × Int × Dv.St :=
  if layE D 1 0 note = 0 then (true, Dv.flE (layD D 1 0 note), Dv.flD (layD D 1 0 note)) else (false, layE D 1 0 note, layD D 1 0 note)
def fmtWiped (note : ByteArray) (r : Int × Dv.St) : Bool × Int × Dv.St := if r.1 = 0 then fmtLaid note r.2 else (false, r.1, r.2)
/-- What Format comes to: whether there is a store, the error, the device. -/
def fmtV (note : ByteArray) (D : Dv.St) : Bool × Int × Dv.St := fmtWiped note (wipe [0, 1] D)
/-- A store is there, or none. -/
structure Laid (B : Nat) (V : SV) (d dk dd p : Nat) (F : Fr) (w' : World) : Prop where
  is : StoIs w' p F V
  d : F.d = d
  dk : F.dk = dk
  dd : F.dd = dd
  p : B ≤ p
  t : B ≤ F.t
  k : B ≤ F.k
def FOut (r : Bool × Int × Dv.St) (note : ByteArray) (d dk dd B : Nat) (e : Ending) (w' : World) : Prop :=
  match r with
  | (true, E, Z) => ∃ p F, e = .returned (.tuple #[.pointer (some ⟨p, 0, none⟩), .int .i64 E]) ∧ Laid B (bareV 1 0 note Z) d dk dd p F w'
  | (false, E, Z) => e = .returned (.tuple #[.pointer none, .int .i64 E]) ∧ Dv.DevIs w' d dk dd Z
theorem drop_two (j : Nat) (h : j < 2) : ([0, 1] : List Int).drop j = (j : Int) :: ([0, 1] : List Int).drop (j + 1) := by
  rcases j with _ | _ | j
  · rfl
  · rfl
  · omega
set_option maxRecDepth 100000 in
set_option maxHeartbeats 4000000 in
theorem format_dev (d dk dd : Nat) (D : Dv.St) (note : ByteArray) (hsz : D.size ≠ 0) (hn : note.size ≤ 3900) (w : World) (h : Dv.DevIs w d dk dd D) (R : Bool × Int × Dv.St) (hR : fmtV note D = R) :
    Calls Try.prog 9 #[.pointer (some ⟨d, 0, none⟩), .string note] w fun e w' => FOut R note d dk dd w.heap.size e w' ∧ Chg (Dv.Own d dk dd) w w' := by
  have HSZ := Lib.hid (size_dev d dk dd D w h)
  have t1 : (((D.size : Nat) : Int) == 0) = false := beq_eq_false_iff_ne.2 (by omega)
  have t2 : ¬ 3900 < (note.size : Int) := by omega
  have HH := Lib.hid h
  have HN := Lib.hid hn
  have HR := Lib.hid (show fmtWiped note (wipe (([0, 1] : List Int).drop 0) D) = R from hR)
  have HC0 := Lib.hid (Chg.refl (Dv.Own d dk dd) w)
  clear h hR hn hsz
  go_enter Try.func9, Try.ntmps9
  go_wp2_with fail
  refine HSZ.out.mono ?_
  rintro e w' ⟨rfl, rfl⟩
  go_wp2_with fail
  go_loopw [16] (fun i wr => ∃ (j : Nat) (D1 : Dv.St), j ≤ 2 ∧ i = .int .i64 j ∧ Hid (fmtWiped note (wipe (([0, 1] : List Int).drop j) D1) = R) ∧ Hid (Dv.DevIs wr d dk dd D1) ∧ Hid (Chg (Dv.Own d dk dd) w wr)) (fun i _ => 2 - (intOf i).toNat)
  case atStart => exact ⟨0, D, by omega, rfl, HR, HH, HC0⟩
  case round =>
    obtain ⟨j, D1, hj, rfl, HV, HJ, HC⟩ := hrel
    clear HR HH HC0
    by_cases hlt : j < 2
    · obtain ⟨E1, hE1⟩ : ∃ E1, Dv.wrE D1 j ⟨#[]⟩ = E1 := ⟨_, rfl⟩
      have HW := Lib.hid (Dv.write_all d dk dd D1 j ⟨#[]⟩ wr HJ.out)
      rw [hE1] at HW
      have HVN := Lib.hid (show fmtWiped note (if E1 = 0 then wipe (([0, 1] : List Int).drop (j + 1)) (Dv.wrD D1 j ⟨#[]⟩) else (E1, Dv.wrD D1 j ⟨#[]⟩)) = R by
        rw [← HV.out, drop_two j hlt]
        show _ = fmtWiped note (if Dv.wrE D1 j ⟨#[]⟩ = 0 then wipe (([0, 1] : List Int).drop (j + 1)) (Dv.wrD D1 j ⟨#[]⟩) else (Dv.wrE D1 j ⟨#[]⟩, Dv.wrD D1 j ⟨#[]⟩))
        rw [hE1])
      clear hE1 HV
      go_wp2_with fail
      refine HW.out.mono ?_
      rintro e w3 ⟨rfl, hd3, hc3⟩
      have HJ3 := Lib.hid hd3
      have HC3 := Lib.hid (HC.out.trans (Oct.Chg.of hc3))
      clear hd3 hc3 HW HJ HC
      by_cases h0 : E1 = 0
      · subst h0
        have HV2 := Lib.hid (show fmtWiped note (wipe (([0, 1] : List Int).drop (j + 1)) (Dv.wrD D1 j ⟨#[]⟩)) = R by rw [← HVN.out, if_pos rfl])
        clear HVN
        go_wp2
        go_roundw
        case rel => exact ⟨j + 1, _, by omega, by go_num, HV2, HJ3, HC3⟩
        case measure => simp [intOf]; omega
      · have hne : (E1 != 0) = true := by simpa using h0
        have HV2 := Lib.hid (show (false, E1, Dv.wrD D1 j ⟨#[]⟩) = R by
          rw [← HVN.out, if_neg h0]
          unfold fmtWiped
          rw [if_neg h0])
        clear h0 HVN
        go_wp2
        go_ret2
        exact ⟨by rw [← HV2.out]; exact ⟨rfl, HJ3.out⟩, HC3.out⟩
    · have hje : j = 2 := by omega
      subst hje
      have HV1 := Lib.hid (show fmtLaid note D1 = R from (if_pos rfl).symm.trans HV.out)
      have HO := Lib.hid (over_sto 1 0 note d dk dd D1 wr HJ.out)
      clear HV
      go_wp2_with fail
      refine HO.out.mono ?_
      rintro e w1 ⟨p, F, rfl, hst, e1, e2, e3, e4, e5, e6, e7⟩
      have HS1 := Lib.hid hst
      have HEQ := Lib.hid (show F.d = d ∧ F.dk = dk ∧ F.dd = dd from ⟨e1, e2, e3⟩)
      have hz := HC.out.size
      have HGE := Lib.hid (show w.heap.size ≤ p ∧ w.heap.size ≤ F.t ∧ w.heap.size ≤ F.k from ⟨by omega, by omega, by omega⟩)
      have HC1 := Lib.hid (HC.out.trans (Chg.of_below e7 (Dv.Own d dk dd)))
      have c0 := Has.at_ hst.obj 0
      have c1 := Has.at_ hst.obj 1
      have c2 := Has.at_ hst.obj 2
      simp at c0 c1 c2
      obtain ⟨E1, hE1⟩ : ∃ E, layE D1 1 0 note = E := ⟨_, rfl⟩
      obtain ⟨Z1, hZ1⟩ : ∃ Z, layD D1 1 0 note = Z := ⟨_, rfl⟩
      have HL := Lib.hid (lay_sto p F (bareV 1 0 note D1) 1 0 note (by omega) HN.out w1 hst E1 Z1 hE1 hZ1)
      have HV2 := Lib.hid (show (if E1 = 0 then (true, Dv.flE Z1, Dv.flD Z1) else (false, E1, Z1)) = R by
        rw [← HV1.out]
        unfold fmtLaid
        rw [hE1, hZ1])
      clear hst e1 e2 e3 e4 e5 e6 e7 hz HV1 HO HJ HC hE1 hZ1
      go_wp2_with fail
      refine HL.out.mono ?_
      rintro e w2 ⟨rfl, h2, hc2⟩
      have HS2 := Lib.hid (show StoIs w2 p F (bareV 1 0 note Z1) from h2)
      have HC2 := Lib.hid (HC1.out.trans (show Chg (Dv.Own d dk dd) w1 w2 by rw [← HEQ.out.1, ← HEQ.out.2.1, ← HEQ.out.2.2]; exact hc2))
      clear h2 hc2 HL c0 c1 c2 HS1 HC1
      by_cases h0 : E1 = 0
      · subst h0
        have HV3 := Lib.hid (show (true, Dv.flE Z1, Dv.flD Z1) = R by rw [← HV2.out, if_pos rfl])
        have HFL := Lib.hid (show Calls Try.prog 30 #[.pointer (some ⟨d, 0, none⟩)] w2 _ by have h := Dv.flush_all F.d F.dk F.dd Z1 w2 HS2.out.dev; rw [HEQ.out.1] at h; exact h)
        clear HV2
        go_wp2_with fail
        refine HFL.out.mono ?_
        rintro e w3 ⟨rfl, hd3, hc3⟩
        have HL3 := Lib.hid (show Laid w.heap.size (bareV 1 0 note (Dv.flD Z1)) d dk dd p F w3 from ⟨HS2.out.devs (by rw [HEQ.out.1]; exact hd3) (by rw [HEQ.out.1]; exact Oct.Chg.of hc3), HEQ.out.1, HEQ.out.2.1, HEQ.out.2.2, HGE.out.1, HGE.out.2.1, HGE.out.2.2⟩)
        have HC3 := Lib.hid (HC2.out.trans (show Chg (Dv.Own d dk dd) w2 w3 by have h := Oct.Chg.of hc3; rw [HEQ.out.2.1, HEQ.out.2.2] at h; exact h))
        clear hd3 hc3 HFL
        go_wp2
        go_ret2
        exact ⟨by rw [← HV3.out]; exact ⟨p, F, rfl, HL3.out⟩, HC3.out⟩
      · have hne : (E1 != 0) = true := by simpa using h0
        have HV3 := Lib.hid (show (false, E1, Z1) = R by rw [← HV2.out, if_neg h0])
        have HD := Lib.hid (show Dv.DevIs w2 d dk dd Z1 by have h := HS2.out.dev; rw [HEQ.out.1, HEQ.out.2.1, HEQ.out.2.2] at h; exact h)
        clear h0 HV2
        go_wp2
        go_ret2
        exact ⟨by rw [← HV3.out]; exact ⟨rfl, HD.out⟩, HC2.out⟩
end Go.Proofs.Ytidkckapjelbmaa.Sto
