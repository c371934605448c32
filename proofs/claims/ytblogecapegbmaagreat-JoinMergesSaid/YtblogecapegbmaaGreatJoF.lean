/- The document's Less of texts (SmX's, for texts of any length). -/
import Derived.Test.YtblogecapegbmaaGreatJnM
namespace Go.Proofs.YtblogecapegbmaaGreat.Jn
open Go.RowKit Go.Proofs.YtblogecapegbmaaGreat.Mem
set_option linter.unusedVariables false set_option linter.unusedSimpArgs false

def lessT (a b : ByteArray) (j : Nat) : Bool := Op.bytesLess (a.data.toList.drop j) (b.data.toList.drop j)
theorem lessT_zero (a b : ByteArray) : lessT a b 0 = Op.bytesLess a.toList b.toList := by
 unfold lessT
 rw [ByteArray.toList_eq, ByteArray.toList_eq, List.drop_zero, List.drop_zero]
theorem drop_byte (a : ByteArray) (j : Nat) (h : j < a.size) : a.data.toList.drop j = a[j] :: a.data.toList.drop (j + 1) := List.drop_eq_getElem_cons (i := j) (l := a.data.toList) h
theorem drop_end (a : ByteArray) (j : Nat) (h : a.size ≤ j) : a.data.toList.drop j = [] := List.drop_of_length_le h
theorem lessT_lt {a b : ByteArray} {j : Nat} (ha : j < a.size) (hb : j < b.size) (e : a[j].toNat < b[j].toNat) : lessT a b j = true := by
 unfold lessT
 rw [drop_byte a j ha, drop_byte b j hb]
 have h : a[j] < b[j] := e
 unfold Op.bytesLess
 simp [h]
theorem lessT_gt {a b : ByteArray} {j : Nat} (ha : j < a.size) (hb : j < b.size) (e : b[j].toNat < a[j].toNat) : lessT a b j = false := by
 unfold lessT
 rw [drop_byte a j ha, drop_byte b j hb]
 have h : ¬ a[j] < b[j] := fun h => by have h2 : a[j].toNat < b[j].toNat := h; omega
 have h3 : ¬ a[j] = b[j] := fun h => by rw [h] at e; omega
 unfold Op.bytesLess
 simp [h, h3]
theorem lessT_eq {a b : ByteArray} {j : Nat} (ha : j < a.size) (hb : j < b.size) (e : a[j].toNat = b[j].toNat) : lessT a b j = lessT a b (j + 1) := by
 have h3 : a[j] = b[j] := UInt8.toNat_inj.1 e
 have h : ¬ a[j] < b[j] := fun h => by have h2 : a[j].toNat < b[j].toNat := h; omega
 unfold lessT
 rw [drop_byte a j ha, drop_byte b j hb]
 conv => lhs; unfold Op.bytesLess
 simp [h3]
theorem lessT_short {a b : ByteArray} {j : Nat} (ha : a.size ≤ j) (hb : j < b.size) : lessT a b j = true := by
 unfold lessT
 rw [drop_end a j ha, drop_byte b j hb]
 rfl
theorem lessT_end {a b : ByteArray} {j : Nat} (hb : b.size ≤ j) : lessT a b j = false := by
 unfold lessT
 rw [drop_end b j hb]
 cases a.data.toList.drop j <;> rfl
set_option maxRecDepth 100000 in
set_option maxHeartbeats 4000000 in
theorem rsless_any (a b : ByteArray) (ha : a.size ≤ maxLen) (hb : b.size ≤ maxLen) (w : World) :
  Calls Tryz.prog 128 #[.string a, .string b] w fun e w' => e = .returned (.bool (Op.bytesLess a.toList b.toList)) ∧ Below w.heap.size w w' := by
 rw [← lessT_zero]
 obtain ⟨R, hR⟩ : ∃ R, R = lessT a b 0 := ⟨_, rfl⟩
 rw [← hR]
 have HR0 := Lib.hid (show lessT a b 0 = R from hR.symm)
 clear hR
 have hma : a.size ≤ 9223372036854775807 := ha
 have hmb : b.size ≤ 9223372036854775807 := hb
 go_enter Tryz.func128, Tryz.ntmps128
 go_wp2_with fail
 go_loopw [8] (fun z wr => ∃ j : Nat, j ≤ b.size ∧ z = .int .i64 j ∧ Hid (lessT a b j = R) ∧ Below w.heap.size w wr) (fun z _ => b.size - (intOf z).toNat)
 case atStart => exact ⟨0, Nat.zero_le _, rfl, HR0, Below.refl _ _⟩
 case round =>
  obtain ⟨j, hj, rfl, HC, hbw⟩ := hrel
  by_cases hlt : j < b.size
  ·by_cases hja : j < a.size
   ·have hd : decide (a.size ≤ j) = false := decide_eq_false (by omega)
    rcases Nat.lt_trichotomy a[j].toNat b[j].toNat with e | e | e
    ·have t1 : decide ((a[j].toNat : Int) < (b[j].toNat : Int)) = true := decide_eq_true (by omega)
     have t2 : decide (a[j].toNat < b[j].toNat) = true := decide_eq_true (by omega)
     have HE := Lib.hid (show R = true by rw [← HC.out]; exact lessT_lt hja hlt e)
     clear e
     go_wp2_with fail
     go_quiet (fail)
     go_wp2
     go_ret
     exact ⟨by rw [HE.out]; rfl, below_drewN hbw _⟩
    ·have t1 : decide (a[j].toNat < b[j].toNat) = false := decide_eq_false (by omega)
     have t2 : decide (b[j].toNat < a[j].toNat) = false := decide_eq_false (by omega)
     have HE := Lib.hid (show lessT a b (j + 1) = R by rw [← HC.out]; exact (lessT_eq hja hlt e).symm)
     clear e
     go_wp2_with fail
     go_quiet (fail)
     go_wp2_with fail
     go_quiet (fail)
     go_wp2
     go_roundw
     case rel => exact ⟨j + 1, by omega, by go_num, HE, below_drewN hbw _⟩
     case measure => simp [intOf]; omega
    ·have t1 : decide (a[j].toNat < b[j].toNat) = false := decide_eq_false (by omega)
     have t2 : decide (b[j].toNat < a[j].toNat) = true := decide_eq_true (by omega)
     have HE := Lib.hid (show R = false by rw [← HC.out]; exact lessT_gt hja hlt e)
     clear e
     go_wp2_with fail
     go_quiet (fail)
     go_wp2_with fail
     go_quiet (fail)
     go_wp2
     go_ret
     exact ⟨by rw [HE.out]; rfl, below_drewN (below_drewN hbw _) _⟩
   ·have hd : decide (a.size ≤ j) = true := decide_eq_true (by omega)
    have HE := Lib.hid (show R = true by rw [← HC.out]; exact lessT_short (by omega) hlt)
    go_wp2_with fail
    go_quiet (fail)
    go_wp2
    go_ret
    exact ⟨by rw [HE.out]; rfl, below_drewN hbw _⟩
  ·have HE := Lib.hid (show R = false by rw [← HC.out]; exact lessT_end (by omega))
   obtain rfl : j = b.size := by omega
   go_wp2
   go_ret
   exact ⟨by rw [HE.out]; rfl, hbw⟩
end Go.Proofs.YtblogecapegbmaaGreat.Jn
