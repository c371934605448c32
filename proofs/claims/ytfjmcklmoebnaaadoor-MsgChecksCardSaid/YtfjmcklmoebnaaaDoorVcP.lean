/- Bytes behind bytes in new memory: slices.Grow of nil, slices.Concat of two. -/
import Derived.Test.YtfjmcklmoebnaaaDoorOctPut
import Derived.Lib.AppendZeros
import Derived.WalkSpells
namespace Go.Proofs.YtfjmcklmoebnaaaDoor.Oct set_option linter.unusedSimpArgs false
open Go.RowKit

set_option maxRecDepth 100000 in
set_option maxHeartbeats 1000000 in
theorem grow_any (m : Nat) (hm : m ≤ 1048576) (w : World) :
    Calls Tryd.prog 79 #[.slice none 0 0, .int .i64 m] w fun e w' => ∃ v, e = .returned v ∧ Owns w' w.heap.size v [] ∧ Below w.heap.size w w' := by
  by_cases h0 : m = 0
  · subst h0
    go_enter Tryd.func79, Tryd.ntmps79
    go_wp2
    go_ret
    exact ⟨_, rfl, ⟨rfl, .inl ⟨rfl, rfl⟩⟩, Below.refl _ w⟩
  · obtain ⟨i0, hi, hz0, hz1, hz2⟩ := info_parts info_u8
    have hr : ∀ ty, (Builtin.append_ #[41, 3] ty #[.slice none 0 0, .int .i64 (m : Int)]).run Tryd.prog w = _ := fun ty => Lib.run_append_nil_zeros (P := Tryd.prog) w 41 3 ty 5 i0 (.int .u8 0) .i64 .i64 Tryd.underlying41 Tryd.underlying3 hi hz0 m (by omega) (by rw [hz1]; omega) (by omega) (by rw [hz2]; omega)
    have hown := World.ownsRow_made (base := w.heap.size) (e := 5) (size := 1) w.drew (Builtin.zeroCells (Value.int .u8 0).cells m ++ Builtin.zeroCells (Value.int .u8 0).cells (grownCap w m 0 5 - m)) (grownCap w m 0 5) (Nat.le_refl _) (grownCap_le_maxLen _ _ _ _ (by unfold maxLen; omega)) (by
      have := grownCap_ge w m 0 5
      simp [Builtin.zeroCells, Value.cells]
      omega)
    have HO := Lib.hid hown
    have HB := Lib.hid ((Below.refl w.heap.size w).drew.alloc (Nat.le_refl _) (.cells (Builtin.zeroCells (Value.int .u8 0).cells m ++ Builtin.zeroCells (Value.int .u8 0).cells (grownCap w m 0 5 - m)) 5))
    have m0 : 0 < (m : Int) := by omega
    have m1 : (m : Int) ≤ 1048576 := by omega
    clear hi hz0 hz1 hz2 hown
    go_enter Tryd.func79, Tryd.ntmps79
    go_wp2_with (at_builtin; refine Lib.wpList_append_run _ rfl _ _ _ _ rfl _ _ rfl rfl _ _ (hr _) ?_)
    go_ret
    exact ⟨_, rfl, HO.out, HB.out⟩

def sumAt (n m : Nat) : Nat → Nat
  | 0 => 0
  | 1 => n
  | _ => n + m
def accAt (l r : List UInt8) : Nat → List UInt8
  | 0 => []
  | 1 => l
  | _ => l ++ r
theorem Owns.grownB {w w1 w2 : World} {v v' : Value} {l : List UInt8} (hb : Below w.heap.size w w1) (ho : Owns w1 w.heap.size v l) (hg : w1.grownBy w2 v.ownBlock) (_ : v' = v') : Below w.heap.size w w2 :=
  hb.grown hg hb.size (fun k hk => (World.ownsRow.lt ho k hk).1)
set_option maxRecDepth 100000 in
set_option maxHeartbeats 4000000 in
theorem concat_some (T m d : Nat) (a : Addr) (n c : Nat) (l : List UInt8) (hn : n ≤ 500000) (b : Addr) (r : List UInt8) (hm : m ≤ 500000) (w : World) (hT : Has w T 41 #[.slice (some a) n c, .slice (some b) m d]) (h : RowB w (some a) n l) (h2 : RowB w (some b) m r) :
    Calls Tryd.prog 63 #[.slice (some ⟨T, 0, none⟩) 2 2] w fun e w' => ∃ v, e = .returned v ∧ Owns w' w.heap.size v (l ++ r) ∧ Below w.heap.size w w' := by
  obtain ⟨i0, hi, hz0, hz1, hz2⟩ := info_parts info_u8
  have HI := Lib.hid (And.intro hi (And.intro hz0 (And.intro hz1 hz2)))
  have HT := Lib.hid hT
  have HR1 := Lib.hid h
  have HR2 := Lib.hid h2
  have c0 := Has.at_ hT 0
  have c1 := Has.at_ hT 1
  simp at c0 c1
  clear hi hz0 hz1 hz2 hT h h2
  go_enter Tryd.func63, Tryd.ntmps63
  go_wp2
  go_loop [3, 11] (fun s i => ∃ k : Nat, k ≤ 2 ∧ i = .int .i64 k ∧ s = .int .i64 (sumAt n m k)) (fun _ i => 2 - (intOf i).toNat)
  case atStart => exact ⟨0, by omega, rfl, rfl⟩
  case round =>
    obtain ⟨k, hk, rfl, rfl⟩ := hrel
    rcases (by omega : k = 0 ∨ k = 1 ∨ k = 2) with rfl | rfl | rfl
    · simp only [sumAt]
      go_wp2
      go_round
      case rel => exact ⟨1, by omega, rfl, rfl⟩
      case measure => simp [intOf]
    · simp only [sumAt]
      go_wp2
      go_round
      case rel => exact ⟨2, by omega, rfl, by first | go_num | simp [sumAt]⟩
      case measure => simp [intOf]
    · simp only [sumAt]
      go_wp2_with fail
      have hg := grow_any (n + m) (by omega) w
      rw [Int.natCast_add] at hg
      
      refine hg.mono ?_
      rintro e w1 ⟨v, rfl, ho, hb⟩
      have HO0 := Lib.hid ho
      have HB0 := Lib.hid hb
      clear ho hb hg c0 c1
      go_wp2
      go_loopw [6, 27] (fun v i wr => ∃ k : Nat, k ≤ 2 ∧ i = .int .i64 k ∧ Hid (Owns wr w.heap.size v (accAt l r k)) ∧ Hid (Below w.heap.size w wr)) (fun _ i _ => 2 - (intOf i).toNat)
      case atStart => exact ⟨0, by omega, rfl, HO0, HB0⟩
      case round =>
        obtain ⟨k, hk, rfl, HO, HB⟩ := hrel
        clear HO0 HB0
        have d0 := Has.at_ (Has.over HT.out (Chg.of_below HB.out (fun _ => False)) (fun k => k)) 0
        have d1 := Has.at_ (Has.over HT.out (Chg.of_below HB.out (fun _ => False)) (fun k => k)) 1
        simp at d0 d1
        rcases (by omega : k = 0 ∨ k = 1 ∨ k = 2) with rfl | rfl | rfl
        · have NW := Lib.hid (row_news (HR1.out.below HB.out))
          have HL := Lib.hid HR1.out.1
          go_wp2_with (at_builtin; refine wpList_append_own _ rfl _ _ _ rfl w.heap.size 5 i0 (.int .u8 0) 1 1 Tryd.underlying41 HI.out.1 HI.out.2.1 HI.out.2.2.1 HI.out.2.2.2 rfl (by decide) _ _ _ rfl HO.out a n c (l.map bv) rfl ?c01 NW.out (bytes_one l) ?c02 ?c03 ?c04 ?_)
          case c01 => rw [List.length_map, HL.out, Nat.mul_one]
          case c02 => unfold maxLen; simp only [accAt, List.length_nil]; omega
          case c03 => simp only [accAt, List.length_nil]; omega
          case c04 => exact HB.out.size
          intro v1 w2 o2 g2 _
          have HB2 := Lib.hid (Owns.grownB (v' := v1) HB.out HO.out g2 rfl)
          have HO2 := Lib.hid (show Owns w2 w.heap.size v1 (accAt l r 1) by
            unfold Owns
            simp only [accAt, List.length_append, List.map_append, List.length_nil, List.map_nil, List.nil_append, Nat.zero_add] at o2 ⊢
            rw [HL.out]
            exact o2)
          clear o2 g2 NW
          go_wp2
          go_roundw
          case rel => exact ⟨1, by omega, rfl, HO2, HB2⟩
          case measure => simp [intOf]
        · have NW := Lib.hid (row_news (HR2.out.below HB.out))
          have HL := Lib.hid HR2.out.1
          have HL1 := Lib.hid HR1.out.1
          go_wp2_with (at_builtin; refine wpList_append_own _ rfl _ _ _ rfl w.heap.size 5 i0 (.int .u8 0) 1 1 Tryd.underlying41 HI.out.1 HI.out.2.1 HI.out.2.2.1 HI.out.2.2.2 rfl (by decide) _ _ _ rfl HO.out b m d (r.map bv) rfl ?c11 NW.out (bytes_one r) ?c12 ?c13 ?c14 ?_)
          case c11 => rw [List.length_map, HL.out, Nat.mul_one]
          case c12 => unfold maxLen; simp only [accAt]; rw [HL1.out]; omega
          case c13 => simp only [accAt]; rw [HL1.out]; omega
          case c14 => exact HB.out.size
          intro v1 w2 o2 g2 _
          have HB2 := Lib.hid (Owns.grownB (v' := v1) HB.out HO.out g2 rfl)
          have HO2 := Lib.hid (show Owns w2 w.heap.size v1 (accAt l r 2) by
            unfold Owns
            simp only [accAt, List.length_append, List.map_append] at o2 ⊢
            rw [HL.out]
            exact o2)
          clear o2 g2 NW
          go_wp2
          go_roundw
          case rel => exact ⟨2, by omega, rfl, HO2, HB2⟩
          case measure => simp [intOf]
        · go_wp2
          go_ret
          exact ⟨_, rfl, HO.out, HB.out⟩
set_option maxRecDepth 100000 in
set_option maxHeartbeats 4000000 in
theorem concat_none (T m d : Nat) (b : Addr) (r : List UInt8) (hm : m ≤ 500000) (w : World) (hT : Has w T 41 #[.slice none 0 0, .slice (some b) m d]) (h2 : RowB w (some b) m r) :
    Calls Tryd.prog 63 #[.slice (some ⟨T, 0, none⟩) 2 2] w fun e w' => ∃ v, e = .returned v ∧ Owns w' w.heap.size v ([] ++ r) ∧ Below w.heap.size w w' := by
  obtain ⟨i0, hi, hz0, hz1, hz2⟩ := info_parts info_u8
  have HI := Lib.hid (And.intro hi (And.intro hz0 (And.intro hz1 hz2)))
  have HT := Lib.hid hT
  have HR2 := Lib.hid h2
  have c0 := Has.at_ hT 0
  have c1 := Has.at_ hT 1
  simp at c0 c1
  clear hi hz0 hz1 hz2 hT h2
  go_enter Tryd.func63, Tryd.ntmps63
  go_wp2
  go_loop [3, 11] (fun s i => ∃ k : Nat, k ≤ 2 ∧ i = .int .i64 k ∧ s = .int .i64 (sumAt 0 m k)) (fun _ i => 2 - (intOf i).toNat)
  case atStart => exact ⟨0, by omega, rfl, rfl⟩
  case round =>
    obtain ⟨k, hk, rfl, rfl⟩ := hrel
    rcases (by omega : k = 0 ∨ k = 1 ∨ k = 2) with rfl | rfl | rfl
    · simp only [sumAt]
      go_wp2
      go_round
      case rel => exact ⟨1, by omega, rfl, rfl⟩
      case measure => simp [intOf]
    · simp only [sumAt]
      go_wp2
      go_round
      case rel => exact ⟨2, by omega, rfl, by first | go_num | simp [sumAt]⟩
      case measure => simp [intOf]
    · simp only [sumAt]
      go_wp2_with fail
      have hg := grow_any (0 + m) (by omega) w
      rw [Nat.zero_add] at hg
      try rw [Nat.zero_add]
      refine hg.mono ?_
      rintro e w1 ⟨v, rfl, ho, hb⟩
      have HO0 := Lib.hid ho
      have HB0 := Lib.hid hb
      clear ho hb hg c0 c1
      go_wp2
      go_loopw [6, 27] (fun v i wr => ∃ k : Nat, k ≤ 2 ∧ i = .int .i64 k ∧ Hid (Owns wr w.heap.size v (accAt [] r k)) ∧ Hid (Below w.heap.size w wr)) (fun _ i _ => 2 - (intOf i).toNat)
      case atStart => exact ⟨0, by omega, rfl, HO0, HB0⟩
      case round =>
        obtain ⟨k, hk, rfl, HO, HB⟩ := hrel
        clear HO0 HB0
        have d0 := Has.at_ (Has.over HT.out (Chg.of_below HB.out (fun _ => False)) (fun k => k)) 0
        have d1 := Has.at_ (Has.over HT.out (Chg.of_below HB.out (fun _ => False)) (fun k => k)) 1
        simp at d0 d1
        rcases (by omega : k = 0 ∨ k = 1 ∨ k = 2) with rfl | rfl | rfl
        · go_wp2_with (at_builtin; refine wpList_append_own_none rfl _ _ _ rfl w.heap.size 5 i0 1 Tryd.underlying41 HI.out.1 _ _ _ rfl HO.out rfl ?_)
          go_roundw
          case rel => exact ⟨1, by omega, rfl, HO, HB⟩
          case measure => simp [intOf]
        · have NW := Lib.hid (row_news (HR2.out.below HB.out))
          have HL := Lib.hid HR2.out.1
          go_wp2_with (at_builtin; refine wpList_append_own _ rfl _ _ _ rfl w.heap.size 5 i0 (.int .u8 0) 1 1 Tryd.underlying41 HI.out.1 HI.out.2.1 HI.out.2.2.1 HI.out.2.2.2 rfl (by decide) _ _ _ rfl HO.out b m d (r.map bv) rfl ?c11 NW.out (bytes_one r) ?c12 ?c13 ?c14 ?_)
          case c11 => rw [List.length_map, HL.out, Nat.mul_one]
          case c12 => unfold maxLen; simp only [accAt, List.length_nil]; omega
          case c13 => simp only [accAt, List.length_nil]; omega
          case c14 => exact HB.out.size
          intro v1 w2 o2 g2 _
          have HB2 := Lib.hid (Owns.grownB (v' := v1) HB.out HO.out g2 rfl)
          have HO2 := Lib.hid (show Owns w2 w.heap.size v1 (accAt [] r 2) by
            unfold Owns
            simp only [accAt, List.length_append, List.map_append, List.length_nil, List.map_nil, List.nil_append, Nat.zero_add] at o2 ⊢
            rw [HL.out]
            exact o2)
          clear o2 g2 NW
          go_wp2
          go_roundw
          case rel => exact ⟨2, by omega, rfl, HO2, HB2⟩
          case measure => simp [intOf]
        · go_wp2
          go_ret
          exact ⟨_, rfl, HO.out, HB.out⟩
end Go.Proofs.YtfjmcklmoebnaaaDoor.Oct
