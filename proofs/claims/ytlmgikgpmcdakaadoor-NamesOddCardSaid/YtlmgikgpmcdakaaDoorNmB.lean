/- The number of hexadecimal digits, as the library takes it. -/
import Derived.Test.YtlmgikgpmcdakaaDoorNmA
import Derived.Lib.ConvBytes
import Derived.Lib.AtoiErrMem
import Derived.Laws.Strings3
import Derived.Laws.Closers25
import Derived.Laws.Closers25b
namespace Go.Proofs.YtlmgikgpmcdakaaDoor.Nm
open Go.RowKit Go.Proofs.YtlmgikgpmcdakaaDoor.Mem

/-- A byte with the bit of small letters. -/
def low (c : Nat) : Int := bits .or .u8 (c : Int) 32
/-- What a byte is as a hexadecimal digit. -/
def hv (c : Nat) : Option Nat := if 48 ≤ c ∧ c ≤ 57 then some (c - 48) else if 97 ≤ low c ∧ low c ≤ 102 then some ((low c).toNat - 87) else none
/-- The number of digits, if they are some and it is below 2^48. -/
def num : Nat → List UInt8 → Option Nat
  | n, [] => some n
  | n, c :: l => match hv c.toNat with
    | none => none
    | some d => if n * 16 + d < 281474976710656 then num (n * 16 + d) l else none
theorem hv_lt (c d : Nat) (h : hv c = some d) : d < 16 := by
  unfold hv at h
  split at h
  · injection h; omega
  · split at h
    · injection h; omega
    · cases h
theorem num_none (n : Nat) (c : UInt8) (l : List UInt8) (h : hv c.toNat = none) : num n (c :: l) = none := by unfold num; rw [h]
theorem num_some (n d : Nat) (c : UInt8) (l : List UInt8) (h : hv c.toNat = some d) : num n (c :: l) = if n * 16 + d < 281474976710656 then num (n * 16 + d) l else none := by rw [num, h]
/-- How a parse ends. -/
def Ends (o : Option Nat) (e : Ending) : Prop := match o with
  | some n => e = .returned (.tuple #[.int .u64 (n : Int), .nilIface])
  | none => ∃ (x : Int) (k : Int), (k = 1 ∨ k = 2) ∧ e = .returned (.tuple #[.int .u64 x, .iface 98 (.int .i64 k)])

set_option maxHeartbeats 4000000 in
set_option maxRecDepth 100000 in
theorem parse_in (t : ByteArray) (hne : t.size ≠ 0) (hmax : t.size ≤ 9223372036854775806) (w : World) :
    Calls Tryd.prog 57 #[.string t, .int .i64 16, .int .i64 48] w fun e w' => Ends (num 0 t.data.toList) e ∧ Below w.heap.size w w' := by
  have hemp : t.toList.isEmpty = false := by
    rw [← decide_eq_emptyBytes]
    exact decide_eq_false (fun h => hne (by rw [h]; rfl))
  have hcv := Lib.run_convert_string_bytes (P := Tryd.prog) w 9 61 5 t (u := .string) Tryd.underlying9 Tryd.underlying61 Tryd.underlying5
  have hB : ∀ j, j < t.size → (Lib.bytesWorld w 5 t).cell? ⟨w.heap.size, j, none⟩ = some (.int .u8 (t.data.toList.getD j 0).toNat) := fun j hj => Lib.bytesWorld_cell w 5 t j hj
  have hbel := Lib.hid (Lib.bytesWorld_below w 5 t)
  obtain ⟨W1, hW1⟩ : ∃ W1, W1 = Lib.bytesWorld w 5 t := ⟨_, rfl⟩
  rw [← hW1] at hcv hB hbel
  clear hW1
  obtain ⟨bs, hL⟩ : ∃ bs, bs = t.data.toList := ⟨_, rfl⟩
  have hLn : bs.length = t.size := by rw [hL, Lib.size_eq]
  rw [← hL] at hB ⊢
  clear hL
  go_enter Tryd.func57, Tryd.ntmps57
  go_wp2
  go_loop [12, 13, 101] (fun vu vn vi => ∃ (k acc : Nat) (a : Int), vu = .bool false ∧ vn = .int .u64 a ∧ vi = .int .i64 k ∧ k ≤ t.size ∧ Hid (a = (acc : Int) ∧ acc < 281474976710656 ∧ num 0 bs = num acc (bs.drop k)))
    (fun _ _ vi => t.size - (intOf vi).toNat)
  case atStart => exact ⟨0, 0, 0, rfl, rfl, rfl, by omega, rfl, by omega, rfl⟩
  case round =>
    obtain ⟨k, acc, a, rfl, rfl, rfl, hk, hh⟩ := hrel
    obtain ⟨ha, hacc, hdec⟩ := hh.out
    clear hh
    have a0 : 0 ≤ a := by omega
    have a1 : a < 281474976710656 := by omega
    have icut : a < 1152921504606846976 := by omega
    by_cases hkn : k < t.size
    · have hc := hB k hkn
      have hdrop : bs.drop k = bs[k]'(by omega) :: bs.drop (k + 1) := List.drop_eq_getElem_cons (by omega)
      have hget : bs.getD k 0 = bs[k]'(by omega) := by simp [List.getD, List.getElem?_eq_getElem (show k < bs.length by omega)]
      rw [hdrop] at hdec
      rw [hget] at hc
      generalize bs[k]'(by omega) = c at hc hdec
      have hc256 : c.toNat < 256 := c.toNat_lt
      clear hB hdrop hget
      by_cases hdig : 48 ≤ c.toNat ∧ c.toNat ≤ 57
      · have hF := num_some acc (c.toNat - 48) c (bs.drop (k + 1)) (by unfold hv; rw [if_pos hdig])
        obtain ⟨hd0, hd1⟩ := hdig
        by_cases hov : acc * 16 + (c.toNat - 48) < 281474976710656
        · rw [if_pos hov] at hF
          have HN := Lib.hid (show a * 16 + ((c.toNat : Int) - 48) = ((acc * 16 + (c.toNat - 48) : Nat) : Int) ∧ acc * 16 + (c.toNat - 48) < 281474976710656 ∧ num 0 bs = num (acc * 16 + (c.toNat - 48)) (bs.drop (k + 1)) from ⟨by omega, hov, hdec.trans hF⟩)
          have iov : a * 16 + ((c.toNat : Int) - 48) ≤ 281474976710655 := by omega
          have iom : a ≤ a * 16 + ((c.toNat : Int) - 48) := by omega
          clear hacc hF hov hdec ha a1
          go_wp2
          refine ⟨⟨k + 1, acc * 16 + (c.toNat - 48), a * 16 + ((c.toNat : Int) - 48), rfl, (by first | rfl | (congr 1; omega)), (by first | rfl | (congr 1; omega)), by omega, HN⟩, by simp [intOf]; omega⟩
        · rw [if_neg hov] at hF
          have HN := Lib.hid (hdec.trans hF)
          have iov : 281474976710655 < a * 16 + ((c.toNat : Int) - 48) := by omega
          have iom : a ≤ a * 16 + ((c.toNat : Int) - 48) := by omega
          clear hacc hF hov hdec ha
          go_wp2
          go_ret2
          exact ⟨by rw [HN.out]; exact ⟨_, 1, .inl rfl, rfl⟩, hbel.out⟩
      · have hv0 := bits_lo_u8 .or (c.toNat : Int) 32
        have hv1 := bits_hi_u8 .or (c.toNat : Int) 32
        by_cases hlet : 97 ≤ low c.toNat ∧ low c.toNat ≤ 102
        · have hF := num_some acc ((low c.toNat).toNat - 87) c (bs.drop (k + 1)) (by unfold hv; rw [if_neg hdig, if_pos hlet])
          have h95 : ¬ c.toNat = 95 := by
            intro e
            rw [e] at hlet
            revert hlet
            decide
          obtain ⟨hd0, hd1⟩ := hlet
          unfold low at hd0 hd1 hF
          generalize hV : bits .or .u8 (c.toNat : Int) 32 = v at *
          have HV := Lib.hid hV
          clear hV
          have hd2 : v ≤ 122 := by omega
          have e1 : v.toNat - 87 = v.toNat - 87 := rfl
          by_cases hov : acc * 16 + (v.toNat - 87) < 281474976710656
          · rw [if_pos hov] at hF
            have HN := Lib.hid (show a * 16 + (v - 97 + 10) = ((acc * 16 + (v.toNat - 87) : Nat) : Int) ∧ acc * 16 + (v.toNat - 87) < 281474976710656 ∧ num 0 bs = num (acc * 16 + (v.toNat - 87)) (bs.drop (k + 1)) from ⟨by omega, hov, hdec.trans hF⟩)
            have iov : a * 16 + (v - 97 + 10) ≤ 281474976710655 := by omega
            have iom : a ≤ a * 16 + (v - 97 + 10) := by omega
            have i16 : v - 97 + 10 < 16 := by omega
            clear hacc hF hov hdec ha a1 e1
            go_wp2_with (go_at_call 74; refine (Tryd.internal_strconv_lower _ _).mono ?_; rintro e w' ⟨rfl, rfl⟩; rw [HV.out])
            all_goals refine ⟨⟨k + 1, acc * 16 + (v.toNat - 87), a * 16 + (v - 97 + 10), rfl, (by first | rfl | (congr 1; omega)), (by first | rfl | (congr 1; omega)), by omega, HN⟩, by simp [intOf]; omega⟩
          · rw [if_neg hov] at hF
            have HN := Lib.hid (hdec.trans hF)
            have iov : 281474976710655 < a * 16 + (v - 97 + 10) := by omega
            have iom : a ≤ a * 16 + (v - 97 + 10) := by omega
            have i16 : v - 97 + 10 < 16 := by omega
            clear hacc hF hov hdec ha e1
            go_wp2_with (go_at_call 74; refine (Tryd.internal_strconv_lower _ _).mono ?_; rintro e w' ⟨rfl, rfl⟩; rw [HV.out])
            all_goals go_ret2
            all_goals exact ⟨by rw [HN.out]; exact ⟨_, 1, .inl rfl, rfl⟩, hbel.out⟩
        · have hF := num_none acc c (bs.drop (k + 1)) (by unfold hv; rw [if_neg hdig, if_neg hlet])
          have HN := Lib.hid (hdec.trans hF)
          unfold low at hlet
          have hu0 := bits_lo_u8 .or 95 32
          have hu1 := bits_hi_u8 .or 95 32
          have hu2 : bits .or .u8 95 32 = 127 := by decide
          clear hacc hF ha hdec
          by_cases h97 : 97 ≤ bits .or .u8 (c.toNat : Int) 32
          · by_cases h122 : bits .or .u8 (c.toNat : Int) 32 ≤ 122
            · have i16 : ¬ bits .or .u8 (c.toNat : Int) 32 - 97 + 10 < 16 := by omega
              have h95 : ¬ c.toNat = 95 := by
                intro e
                rw [e] at h122
                revert h122
                decide
              go_wp2_with (go_at_call 74; refine (Tryd.internal_strconv_lower _ _).mono ?_; rintro e w' ⟨rfl, rfl⟩)
              all_goals go_ret2
              all_goals exact ⟨by rw [HN.out]; exact ⟨_, 2, .inr rfl, rfl⟩, hbel.out⟩
            · go_wp2_with (go_at_call 74; refine (Tryd.internal_strconv_lower _ _).mono ?_; rintro e w' ⟨rfl, rfl⟩)
              all_goals go_ret2
              all_goals exact ⟨by rw [HN.out]; exact ⟨_, 2, .inr rfl, rfl⟩, hbel.out⟩
          · go_wp2_with (go_at_call 74; refine (Tryd.internal_strconv_lower _ _).mono ?_; rintro e w' ⟨rfl, rfl⟩)
            all_goals go_ret2
            all_goals exact ⟨by rw [HN.out]; exact ⟨_, 2, .inr rfl, rfl⟩, hbel.out⟩
    · have hkk : k = t.size := by omega
      subst hkk
      have hF : num acc (bs.drop t.size) = some acc := by rw [List.drop_eq_nil_of_le (by omega)]; rfl
      rw [hF] at hdec
      subst ha
      have HN := Lib.hid hdec
      clear hacc hF a0 a1 hdec
      go_wp2
      go_ret2
      exact ⟨by rw [HN.out]; rfl, hbel.out⟩
end Go.Proofs.YtlmgikgpmcdakaaDoor.Nm
