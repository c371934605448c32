/- The hexadecimal digits of a number, as the library lays them. -/
import Derived.Test.YtlmgikgpmcdakaaDoorMem
import Derived.Test.YtlmgikgpmcdakaaDoorShelf
import Derived.LoopTactic
import Derived.WalkMore
import Derived.Laws.IdiomStrings
import Derived.Laws.BitsAllLaws
import Derived.Laws.BytesArg
namespace Go.Proofs.YtlmgikgpmcdakaaDoor.Nm
open Go.RowKit Go.Proofs.YtlmgikgpmcdakaaDoor.Mem

theorem tz16 (w : World) (h : w.cell? ⟨7, 15, none⟩ = some (.int .u8 4)) :
    Calls Tryd.prog 84 #[.int .u64 16] w fun e w' => e = .returned (.int .i64 4) ∧ w' = w := by
  have hm : bits .and .u64 16 (IntKind.u64.wrap (-16)) = 16 := by kernel_rfl
  have hw : IntKind.u64.wrap (16 * 285870213051353865) = 4573923408821661840 := by kernel_rfl
  go_enter Tryd.func84, Tryd.ntmps84
  go_wp2
  go_ret
  exact ⟨rfl, rfl⟩

/-- A digit. -/
def dig (n : Nat) : UInt8 := if n < 10 then (48 + n).toUInt8 else (87 + n).toUInt8
/-- The digits of a number, the highest first. -/
def hexU (u : Nat) : List UInt8 := if _h : u < 16 then [dig u] else hexU (u / 16) ++ [dig (u % 16)]
termination_by u
decreasing_by omega
theorem hexU_small (u : Nat) (h : u < 16) : hexU u = [dig u] := by rw [hexU, dif_pos h]
theorem hexU_step (u : Nat) (h : ¬ u < 16) : hexU u = hexU (u / 16) ++ [dig (u % 16)] := by rw [hexU, dif_neg h]

/-- The cells of the library's row while digits are laid from its end on. -/
def arr (l : List UInt8) : Array Value := (List.replicate (65 - l.length) (Value.int .u8 0) ++ l.map fun b => Value.int .u8 (b.toNat : Int)).toArray
theorem arr_nil : arr [] = Tryd.zeroCells106 := by kernel_rfl
theorem arr_size (l : List UInt8) (h : l.length ≤ 65) : (arr l).size = 65 := by unfold arr; simp; omega

theorem arr_put (l : List UInt8) (j : Nat) (h : j + 1 + l.length = 65) (b : UInt8) : (arr l).setIfInBounds j (.int .u8 (b.toNat : Int)) = arr (b :: l) := by
  apply Array.toList_inj.1
  unfold arr
  rw [Array.toList_setIfInBounds]
  have e : 65 - l.length = j + 1 := by omega
  have e2 : 65 - (b :: l).length = j := by simp; omega
  rw [e, e2, List.replicate_succ', List.append_assoc]
  rw [List.set_append_right _ _ (by simp)]
  simp
theorem arr_zero (l : List UInt8) (j : Nat) (h : j + 1 + l.length = 65) : (arr l)[j]? = some (.int .u8 0) := by
  unfold arr
  have e : 65 - l.length = j + 1 := by omega
  rw [List.getElem?_toArray, e, List.getElem?_append_left (by simp)]
  rw [List.getElem?_replicate]
  simp
theorem arr_tail (l : List UInt8) (j : Nat) (h : j + l.length = 65) (i : Nat) (hi : i < l.length) : (arr l)[j + i]? = some (.int .u8 (l[i].toNat : Int)) := by
  unfold arr
  have e : 65 - l.length = j := by omega
  rw [List.getElem?_toArray, e, List.getElem?_append_right (by simp)]
  simp [hi]
theorem and15 (v : Nat) (hv : v < 18446744073709551616) : bits .and .u64 (v : Int) 15 = ((v % 16 : Nat) : Int) := by
  have := u64_and_nat v 15 hv (by omega)
  rw [show v &&& 15 = v % 16 from Nat.and_two_pow_sub_one_eq_mod v 4] at this
  exact this
/-- The library's row of digits. -/
def row : ByteArray := ⟨#[48, 49, 50, 51, 52, 53, 54, 55, 56, 57, 97, 98, 99, 100, 101, 102, 103, 104, 105, 106, 107, 108, 109, 110, 111, 112, 113, 114, 115, 116, 117, 118, 119, 120, 121, 122]⟩
theorem row_dig : ∀ (d : Nat) (_ : d < 16) (h : d < row.size), row[d] = dig d := by decide
theorem slice_tail (j : Nat) (hj : j < 65) (B : Nat) (wd : World) : (Instr.sliceAt 106 (.pointer (some ⟨B, 0, none⟩)) (some (.int .i64 (j : Int))) none none).run Tryd.prog wd = .ok (.slice (some ⟨B, j, none⟩) (65 - j) (65 - j)) wd := by
  have hl : Tryd.prog.arrayLen 106 = 65 := by kernel_rfl
  have he : Tryd.prog.elem 106 = 5 := by kernel_rfl
  rw [run_sliceAt_array_l (P := Tryd.prog) wd 106 ⟨B, 0, none⟩ (by kernel_rfl) .i64 j (by omega) (by rw [hl]; omega), hl, he, Tryd.sizeOf5]
  simp [slicedAt, Addr.add]
  rw [if_neg (by omega)]
  split
  · next h => rw [h]
  · rfl
theorem conv_tail (l : List UInt8) (j : Nat) (h : j + l.length = 65) (B : Nat) (wd : World) (hh : Has wd B 106 (arr l)) : (convert 61 9 (.slice (some ⟨B, j, none⟩) l.length l.length)).run Tryd.prog wd = .ok (.string ⟨l.toArray⟩) wd := by
  refine run_convert_bytes_back (P := Tryd.prog) wd 61 9 5 _ _ l Tryd.underlying61 Tryd.underlying5 Tryd.underlying9 fun i hi => ?_
  have ha : (⟨B, j, none⟩ : Addr).add i = ⟨B, j + i, none⟩ := by
    unfold Addr.add
    split
    · next h => rw [h]; rfl
    · rfl
  rw [ha, Has.at_ hh, arr_tail l j h i hi]
set_option maxRecDepth 100000 in
theorem format (u : Nat) (hu : u < 18446744073709551616) (w : World) (h : w.cell? ⟨7, 15, none⟩ = some (.int .u8 4)) (hz : 7 < w.heap.size) :
    Calls Tryd.prog 62 #[.slice none 0 0, .int .u64 u, .int .i64 16, .bool false, .bool false] w fun e w' => e = .returned (.tuple #[.slice none 0 0, .string ⟨(hexU u).toArray⟩]) ∧ Below w.heap.size w w' := by
  have hT := Lib.hid (tz16 (w.alloc (.cells Tryd.zeroCells106 106)) (by rw [← h]; exact (((Below.refl w.heap.size w).alloc (Nat.le_refl _) _).cell (p := ⟨7, 15, none⟩) hz)))
  clear h
  go_enter Tryd.func62, Tryd.ntmps62
  go_wp2_with (first | (go_at_call 84; refine hT.out.mono ?_; rintro e w1 ⟨rfl, rfl⟩) | go_in)
  have hb0 := (Below.refl w.heap.size w).alloc (Nat.le_refl _) (.cells Tryd.zeroCells106 106)
  have hh0 := Has.fresh w 106 Tryd.zeroCells106
  clear hT
  generalize hW : w.alloc (.cells Tryd.zeroCells106 106) = W0 at *
  clear hW
  rw [← arr_nil] at hh0
  go_loopw [1, 13] (fun x i wr => ∃ (v k : Nat) (l : List UInt8), x = .int .u64 v ∧ i = .int .i64 (k : Int) ∧ k + l.length = 65 ∧ v < 18446744073709551616 ∧ hexU u = hexU v ++ l ∧ v * 16 ^ l.length ≤ u ∧ (l.length = 0 ∨ 1 ≤ v) ∧ Below w.heap.size w wr ∧ Has wr w.heap.size 106 (arr l)) (fun x _ _ => (intOf x).toNat)
  case atStart => exact ⟨u, 65, [], rfl, rfl, rfl, hu, by simp, by simp, .inl rfl, hb0, hh0⟩
  case round =>
    obtain ⟨v, k, l, rfl, rfl, hk, hv, hx, hm, h1, hb, hh⟩ := hrel
    have hl : l.length ≤ 15 := by
      rcases h1 with h1 | h1
      · omega
      · by_cases hc : l.length ≤ 15
        · exact hc
        · have h2 : 16 ^ 16 ≤ 16 ^ l.length := Nat.pow_le_pow_right (by omega) (by omega)
          have h3 : 1 * 16 ^ l.length ≤ v * 16 ^ l.length := Nat.mul_le_mul_right _ h1
          have h4 : (16 : Nat) ^ 16 = 18446744073709551616 := by decide
          omega
    obtain ⟨j, rfl⟩ : ∃ j, k = j + 1 := ⟨k - 1, by omega⟩
    have hj : j < 65 := by omega
    have hc := Has.at_ hh j
    rw [arr_zero l j hk] at hc
    have hf := Has.free hh j
    by_cases hlt : v < 16
    · have HP := Lib.hid (hh.put j (.int .u8 ((dig v).toNat : Int)))
      have HX := Lib.hid hx
      have HB := Lib.hid hb
      have HD := Lib.hid (row_dig v hlt)
      have hlen : (dig v :: l).length = 65 - j := by simp; omega
      have kc := Lib.hid (conv_tail (dig v :: l) j (by simp; omega) w.heap.size)
      clear hx hm h1 hb hl
      have ks := slice_tail j hj w.heap.size
      go_wp2
      have e : ({ data := #[48, 49, 50, 51, 52, 53, 54, 55, 56, 57, 97, 98, 99, 100, 101, 102, 103, 104, 105, 106, 107, 108, 109, 110, 111, 112, 113, 114, 115, 116, 117, 118, 119, 120, 121, 122] } : ByteArray)[v]'(Nat.lt_of_lt_of_le hlt (by decide)) = dig v := HD.out _
      rw [e]
      have hp := HP.out
      rw [arr_put l j hk] at hp
      have kc2 := kc.out _ hp
      rw [hlen] at kc2
      go_wp2
      go_ret2
      refine ⟨by rw [HX.out, hexU_small v hlt]; rfl, HB.out.setCell (Nat.le_refl _) _⟩
    · have hA := and15 v hv
      have HX := Lib.hid hx
      have HM := Lib.hid hm
      have HB := Lib.hid hb
      have H1 := Lib.hid h1
      clear hx hm h1 hb
      have HD := Lib.hid (row_dig (v % 16) (Nat.mod_lt _ (by omega)))
      have HP := Lib.hid (hh.put j (.int .u8 ((dig (v % 16)).toNat : Int)))
      go_wp2
      have e : ({ data := #[48, 49, 50, 51, 52, 53, 54, 55, 56, 57, 97, 98, 99, 100, 101, 102, 103, 104, 105, 106, 107, 108, 109, 110, 111, 112, 113, 114, 115, 116, 117, 118, 119, 120, 121, 122] } : ByteArray)[v % 16]'(Nat.lt_of_lt_of_le (Nat.mod_lt _ (by omega)) (by decide)) = dig (v % 16) := HD.out _
      rw [e]
      refine ⟨⟨v / 16, j, dig (v % 16) :: l, by simp, rfl, by simp; omega, by omega, ?_, ?_, .inr (by omega), HB.out.setCell (Nat.le_refl _) _, ?_⟩, ?_⟩
      · rw [HX.out, hexU_step v hlt, List.append_assoc]; rfl
      · rw [List.length_cons, Nat.pow_succ]
        refine Nat.le_trans ?_ HM.out
        rw [← Nat.mul_assoc, Nat.mul_right_comm]
        exact Nat.mul_le_mul_right _ (Nat.div_mul_le_self v 16)
      · have := HP.out
        rw [arr_put l j hk] at this
        exact this
      · simp [intOf]; omega

/-- What the library's own variables hold that are read here. -/
structure Tabs (w : World) : Prop where
  ml : ∃ m, w.cell? ⟨0, 0, none⟩ = some (.int .i64 m)
  tz : w.cell? ⟨7, 15, none⟩ = some (.int .u8 4)
  es : ∃ ev, w.cell? ⟨2, 0, none⟩ = some ev ∧ (ev = .nilIface ∨ ∃ te pe, ev = .iface te pe)
  er : ∃ ev, w.cell? ⟨3, 0, none⟩ = some ev ∧ (ev = .nilIface ∨ ∃ te pe, ev = .iface te pe)
  big : 8 ≤ w.heap.size
theorem Tabs.below {B : Nat} {w w' : World} (h : Tabs w) (hB : 8 ≤ B) (hb : Below B w w') : Tabs w' := by
  obtain ⟨⟨m, hm⟩, ht, ⟨e1, h1, k1⟩, ⟨e2, h2, k2⟩, hs⟩ := h
  exact ⟨⟨m, (hb.cell (p := ⟨0, 0, none⟩) (Nat.lt_of_lt_of_le (by decide) hB)).trans hm⟩, (hb.cell (p := ⟨7, 15, none⟩) (Nat.lt_of_lt_of_le (by decide) hB)).trans ht,
    ⟨e1, (hb.cell (p := ⟨2, 0, none⟩) (Nat.lt_of_lt_of_le (by decide) hB)).trans h1, k1⟩, ⟨e2, (hb.cell (p := ⟨3, 0, none⟩) (Nat.lt_of_lt_of_le (by decide) hB)).trans h2, k2⟩, Nat.le_trans hs hb.size⟩
theorem Tabs.self {w w' : World} (h : Tabs w) (hb : Below w.heap.size w w') : Tabs w' := h.below h.big hb

theorem fmt16 (u : Nat) (hu : u < 18446744073709551616) (w : World) (h : Tabs w) :
    Calls Tryd.prog 36 #[.int .u64 u, .int .i64 16] w fun e w' => e = .returned (.string ⟨(hexU u).toArray⟩) ∧ Below w.heap.size w w' := by
  have hF := Lib.hid (format u hu w h.tz (by have := h.big; omega))
  go_enter Tryd.func36, Tryd.ntmps36
  go_wp2_with (first | (go_at_call 62; refine hF.out.mono ?_; rintro e w1 ⟨rfl, hb⟩) | go_in)
  go_ret
  exact ⟨rfl, hb⟩
end Go.Proofs.YtlmgikgpmcdakaaDoor.Nm
