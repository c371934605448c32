/- The walk of the law CrcApart. -/
import Derived.Test.YthbpnbllcbemfabCrcWTold
import Derived.Test.YthbpnbllcbemfabArr8
import Derived.Deep.RegionWith
import Derived.StillTailTactics
namespace Go.Proofs.Ythbpnbllcbemfab.CrcW
open Go.RowKit
open Go.Proofs.Ythbpnbllcbemfab.CrcM
open Go.Proofs.Ythbpnbllcbemfab.Arr8

/-- A row of the call's own reads as these bytes, and can be written. -/
def RB (w : World) (g : Nat) (l : List UInt8) : Prop :=
  ∀ j (h : j < l.length), w.cell? ⟨g, j, none⟩ = some (.int .u8 (l[j].toNat : Int)) ∧ w.frozen? ⟨g, j, none⟩ = false
theorem RB.set {w : World} {g : Nat} {l : List UInt8} (h : RB w g l) (i : Nat) (v : UInt8) (hi : i < l.length) : RB (w.setCell ⟨g, i, none⟩ (.int .u8 (v.toNat : Int))) g (l.set i v) := by
  intro j hj
  have hj' : j < l.length := by simpa using hj
  refine ⟨?_, ?_⟩
  · by_cases e : i = j
    · subst e
      rw [World.cell?_setCell_same _ _ _ (h i hi).1, List.getElem_set_self]
    · rw [World.cell?_setCell_other _ _ _ _ (by intro k; apply e; injection k), (h j hj').1, List.getElem_set_ne e]
  · rw [World.frozen?_setCell]
    exact (h j hj').2
theorem xor_byte (a : UInt8) (x : Int) (h : 0 ≤ x ∧ x ≤ 255) : ∃ v : UInt8, bits .xor .u8 (a.toNat : Int) x = (v.toNat : Int) := by
  obtain ⟨y, rfl⟩ := Int.eq_ofNat_of_zero_le h.1
  refine ⟨UInt8.ofNat (a.toNat ^^^ y), ?_⟩
  rw [u8_xor_nat _ _ a.toNat_lt (by omega), UInt8.toNat_ofNat', Nat.mod_eq_of_lt (Nat.xor_lt_two_pow (n := 8) a.toNat_lt (by omega))]
theorem win_at (l y : List UInt8) (i : Nat) (h : i + y.length < l.length) : ∃ h2 : i + y.length < (l.take i ++ y ++ l.drop (i + y.length)).length, (l.take i ++ y ++ l.drop (i + y.length))[i + y.length] = l[i + y.length] := by
  have h0 : (l.take i ++ y).length = i + y.length := by rw [List.length_append, List.length_take]; omega
  refine ⟨by rw [List.length_append, h0, List.length_drop]; omega, ?_⟩
  rw [List.getElem_append_right (by omega)]
  simp [h0]
theorem win_set (l y : List UInt8) (i : Nat) (v : UInt8) (h : i + y.length < l.length) : (l.take i ++ y ++ l.drop (i + y.length)).set (i + y.length) v = l.take i ++ (y ++ [v]) ++ l.drop (i + (y ++ [v]).length) := by
  have h0 : (l.take i ++ y).length = i + y.length := by rw [List.length_append, List.length_take]; omega
  rw [List.set_append_right _ _ (by omega), h0, Nat.sub_self, List.drop_eq_getElem_cons h]
  simp [Nat.add_assoc]

theorem conv_RB (w : World) (g n cap : Nat) (l : List UInt8) (h : RB w g l) (hn : l.length = n) :
    (convert 47 9 (.slice (some ⟨g, 0, none⟩) n cap)).run Try.prog w = .ok (.string ⟨l.toArray⟩) w := by
  subst hn
  refine run_convert_bytes_back (P := Try.prog) _ 47 9 5 ⟨g, 0, none⟩ cap _ Try.underlying47 Try.underlying5 Try.underlying9 ?_
  intro j hj
  have ha : (⟨g, 0, none⟩ : Addr).add j = ⟨g, j, none⟩ := by
    unfold Addr.add
    split
    · next h => rw [h]
    · simp
  rw [ha]
  exact (h j hj).1
theorem win_len (l y : List UInt8) (m : Nat) (h : m + y.length ≤ l.length) : (l.take m ++ y ++ l.drop (m + y.length)).length = l.length := by
  rw [List.length_append, List.length_append, List.length_take, List.length_drop]
  omega
theorem win_tells (l y : List UInt8) (m : Nat) (hy : y.length = 8) (h : m + 8 ≤ l.length) :
    (((more 0 (l.take m ++ y ++ l.drop (m + y.length)) : Nat) : Int) == ((more 0 l : Nat) : Int)) = ((l.take m ++ y ++ l.drop (m + y.length)) == l) := by
  rw [hy]
  have h3 : l.take m ++ (l.drop m).take 8 ++ l.drop (m + 8) = l := by
    rw [List.append_assoc, ← List.drop_drop, List.take_append_drop, List.take_append_drop]
  by_cases e : y = (l.drop m).take 8
  · rw [e, h3]
    simp
  · have h1 : more 0 (l.take m ++ y ++ l.drop (m + 8)) ≠ more 0 l := by
      intro h2
      apply e
      refine apart 0 (l.take m) y ((l.drop m).take 8) (l.drop (m + 8)) hy (by rw [List.length_take, List.length_drop]; omega) ?_
      rw [h3]
      exact h2
    have h2 : l.take m ++ y ++ l.drop (m + 8) ≠ l := fun h4 => h1 (by rw [h4])
    rw [beq_eq_false_iff_ne.2 h2, beq_eq_false_iff_ne.2 (by omega)]
theorem win_nil (l : List UInt8) (m : Nat) : l.take m ++ [] ++ l.drop (m + ([] : List UInt8).length) = l := by simp

set_option maxHeartbeats 400000 in
theorem apart_long (b : ByteArray) (a1 : Int) (x : Nat → Int) (hb : ¬ 4096 < b.size) (hb8 : ¬ b.size < 8) (hx : ∀ i, i < 8 → 0 ≤ x i ∧ x i ≤ 255) (w : World) :
    Calls Try.prog 11 #[.string b, .int .i64 a1, val x] w fun e w' => e = .returned (.bool true) ∧ Below w.heap.size w w' := by
  have hu0 : 0 ≤ IntKind.u64.wrap a1 := wrap_u64_nonneg a1
  obtain ⟨U, hU⟩ := Int.eq_ofNat_of_zero_le hu0
  have hm0 : 0 ≤ (U : Int) % ((b.size : Int) - 7) := Int.emod_nonneg _ (by omega)
  have hm1 : (U : Int) % ((b.size : Int) - 7) < (b.size : Int) - 7 := Int.emod_lt_of_pos _ (by omega)
  obtain ⟨m, hM⟩ := Int.eq_ofNat_of_zero_le hm0
  rw [hM] at hm1
  have HX := Lib.hid hx
  clear hx hm0 hu0
  unfold val
  go_enter Try.func11, Try.ntmps11
  obtain ⟨O, cap, kc, hcap, hcell, hfz⟩ := bytes_of (w.alloc (.cells #[.int .u8 (x 0), .int .u8 (x 1), .int .u8 (x 2), .int .u8 (x 3), .int .u8 (x 4), .int .u8 (x 5), .int .u8 (x 6), .int .u8 (x 7)] 50)) b
  have hRB : RB ((w.alloc (.cells #[.int .u8 (x 0), .int .u8 (x 1), .int .u8 (x 2), .int .u8 (x 3), .int .u8 (x 4), .int .u8 (x 5), .int .u8 (x 6), .int .u8 (x 7)] 50)).alloc O).drew (w.heap.size + 1) (b.data.toList.take m ++ [] ++ b.data.toList.drop (m + ([] : List UInt8).length)) := by
    rw [win_nil]
    intro j hj
    have hj' : j < b.size := by rw [Array.length_toList] at hj; exact hj
    have h1 := hcell j hj'
    have h2 := hfz j hj'
    rw [World.size_alloc] at h1 h2
    exact ⟨h1, h2⟩
  have HR := Lib.hid hRB
  clear hcell hfz hRB
  go_wp2_with fail
  go_loopw [31] (fun i wr => ∃ (k : Nat) (y : List UInt8), k ≤ 8 ∧ y.length = k ∧ i = .int .i64 k ∧ RB wr (w.heap.size + 1) (b.data.toList.take m ++ y ++ b.data.toList.drop (m + y.length)) ∧ Below w.heap.size w wr) (fun i _ => 8 - (intOf i).toNat)
  case atStart => exact ⟨0, [], by omega, rfl, rfl, HR.out, (((Below.refl _ w).alloc (Nat.le_refl _) _).alloc (by simp) _).drew⟩
  case round =>
    obtain ⟨k, y, hk, hy, rfl, hR, hbw⟩ := hrel
    have HY := Lib.hid hy
    clear HR kc
    by_cases hlt : k < 8
    · have hbl : b.data.toList.length = b.size := Array.length_toList
      have hin : m + y.length < b.data.toList.length := by omega
      obtain ⟨h2, hat⟩ := win_at b.data.toList y m hin
      have hc := (hR _ h2).1
      have hf := (hR _ h2).2
      rw [hat] at hc
      obtain ⟨v, hv⟩ := xor_byte b.data.toList[m + y.length] (x k) (HX.out k hlt)
      have hset := hR.set _ v h2
      rw [win_set _ _ _ _ hin] at hset
      rw [← hv] at hset
      generalize b.data.toList[m + y.length] = z at *
      have HV := Lib.hid hv
      have HS := Lib.hid hset
      have HB := Lib.hid hbl
      clear hv hset hat h2 hin hR hbl
      rw [hy] at hc hf
      clear hy
      have ix : ∀ W : World, (Instr.index 50 (.agg #[.int .u8 (x 0), .int .u8 (x 1), .int .u8 (x 2), .int .u8 (x 3), .int .u8 (x 4), .int .u8 (x 5), .int .u8 (x 6), .int .u8 (x 7)]) (.int .i64 (k : Int))).run Try.prog W = .ok (.int .u8 (x k)) W := fun W => index_at x k hlt W
      go_wp2
      go_roundw
      case rel =>
        have hs := HS.out
        rw [HY.out] at hs
        exact ⟨k + 1, y ++ [v], by omega, by rw [List.length_append, HY.out]; rfl, by go_num, hs, hbw.setCell (by simp) _⟩
      case measure => simp [intOf]; omega
    · obtain rfl : k = 8 := by omega
      have hl := win_len b.data.toList y m (by have h0 : b.data.toList.length = b.size := Array.length_toList; omega)
      rw [Array.length_toList] at hl
      have hq := win_tells b.data.toList y m hy (by have h0 : b.data.toList.length = b.size := Array.length_toList; omega)
      have kc2 := conv_RB wr.drew (w.heap.size + 1) b.size cap _ hR hl
      have hT : (⟨(b.data.toList.take m ++ y ++ b.data.toList.drop (m + y.length)).toArray⟩ : ByteArray).size = b.size := by
        rw [ByteArray.size_mk', List.size_toArray]
        exact hl
      obtain ⟨T, hTe⟩ : ∃ T : ByteArray, T = ⟨(b.data.toList.take m ++ y ++ b.data.toList.drop (m + y.length)).toArray⟩ := ⟨_, rfl⟩
      have hd : T.data.toList = b.data.toList.take m ++ y ++ b.data.toList.drop (m + y.length) := by rw [hTe]
      have ht : T.toList = T.data.toList := ByteArray.toList_eq T
      have hbt : b.toList = b.data.toList := ByteArray.toList_eq b
      rw [← hTe] at kc2 hT
      rw [← hd, ← ht, ← hbt] at hq
      have hT4 : T.size ≤ 4096 := by omega
      rw [ht, hbt] at hq
      have hq2 : (((more 0 T.data.toList : Nat) : Int) == ((more 0 b.data.toList : Nat) : Int)) = (T.toList == b.toList) := by rw [ht, hbt]; exact hq
      have HQ := Lib.hid hq2
      clear hy hl hq hR hTe hd ht hbt hT HY hq2
      go_wp2
      refine wp_region_still_tail 12 (by kernel_rfl) (by kernel_rfl) ?_
      simp only [List.take_succ_cons, List.take_zero, List.drop_succ_cons, List.drop_zero]
      change wpStill _ _ wr.drew (fun a' => wpList _ _ _ _ a' wr.drew) _ _
      still_step
      still_step
      still_call ((of_any T (by unfold maxLen; omega) _).mono fun e w' h => ⟨h.1, h.2.symm⟩)
      still_step
      still_call ((of_any b (by unfold maxLen; omega) _).mono fun e w' h => ⟨h.1, h.2.symm⟩)
      repeat still_step
      refine wpStill_nil ?_
      have hq := HQ.out
      have hbt : ((((more 0 T.data.toList : Nat) : Int) == ((more 0 b.data.toList : Nat) : Int)) == (T.toList == b.toList)) = true := by rw [hq]; simp
      clear hq
      go_wp2_with fail
      refine (awake_any _).mono ?_
      rintro e w3 ⟨rfl, hb3⟩
      go_wp2
      go_ret
      exact ⟨rfl, below_two hbw.drew hbw.drew.size hb3⟩
theorem apart_walk (b : ByteArray) (a1 : Int) (x : Nat → Int) (hx : ∀ i, i < 8 → 0 ≤ x i ∧ x i ≤ 255) (w : World) :
    Calls Try.prog 11 #[.string b, .int .i64 a1, val x] w fun e w' => e = .returned (.bool true) ∧ Below w.heap.size w w' := by
  by_cases hb : 4096 < b.size
  · clear hx
    unfold val
    go_enter Try.func11, Try.ntmps11
    go_wp2_with fail
    refine (awake_any _).mono ?_
    rintro e w3 ⟨rfl, hb3⟩
    go_wp2
    go_ret
    have h0 := (Below.refl w.heap.size w).alloc (Nat.le_refl _) (.cells #[.int .u8 (x 0), .int .u8 (x 1), .int .u8 (x 2), .int .u8 (x 3), .int .u8 (x 4), .int .u8 (x 5), .int .u8 (x 6), .int .u8 (x 7)] 50)
    exact ⟨rfl, below_two h0 h0.size hb3⟩
  · by_cases hb8 : b.size < 8
    · clear hx
      unfold val
      go_enter Try.func11, Try.ntmps11
      go_wp2_with fail
      refine (awake_any _).mono ?_
      rintro e w3 ⟨rfl, hb3⟩
      go_wp2
      go_ret
      have h0 := (Below.refl w.heap.size w).alloc (Nat.le_refl _) (.cells #[.int .u8 (x 0), .int .u8 (x 1), .int .u8 (x 2), .int .u8 (x 3), .int .u8 (x 4), .int .u8 (x 5), .int .u8 (x 6), .int .u8 (x 7)] 50)
      exact ⟨rfl, below_two h0 h0.size hb3⟩
    · exact apart_long b a1 x hb hb8 hx w
end Go.Proofs.Ythbpnbllcbemfab.CrcW
