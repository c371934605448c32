/- Bytes once more with room behind them; numbers and texts put behind bytes: contracts. -/
import Derived.Test.YtfjmcklmoebnaaaDoorOctRead
import Derived.Laws.BitsAllLaws
import Derived.Laws.AppendOwn
import Derived.Laws.AppendOwnNone
import Derived.Laws.OwnMore
import Derived.OwnWalk
import Derived.Maps.AppendAt
namespace Go.Proofs.YtfjmcklmoebnaaaDoor.Oct
open Go.RowKit

theorem info_u8 : (Tryd.prog.info? 5).map (fun i => (i.zero, i.size, i.bytes)) = some (some (.int .u8 0), 1, 1) := by kernel_rfl
def bv (b : UInt8) : Value := .int .u8 (b.toNat : Int)
/-- A row of the call's own that holds these bytes. -/
def Owns (w : World) (B : Nat) (v : Value) (l : List UInt8) : Prop := w.ownsRow B 5 1 v l.length (l.map bv)
theorem Owns.row {w : World} {B : Nat} {A : Option Addr} {n cap : Nat} {l : List UInt8} (h : Owns w B (.slice A n cap) l) (hn : l.length = n) : RowB w A n l := by
  refine ⟨hn, fun h0 => ?_⟩
  rcases h.2 with ⟨e, e0⟩ | ⟨g, c, cur, e, hb, hh, _⟩
  · omega
  · injection e with e1 e2 e3
    subst e1
    refine ⟨g, 0, rfl, (Array.getElem?_eq_some_iff.1 hh).1, fun i hi => ?_⟩
    have hc := World.ownsRow.cells h (g := g) rfl i (bv l[i]) (by rw [List.getElem?_map, List.getElem?_eq_getElem hi]; rfl)
    have ha : (⟨g, 0, none⟩ : Addr).add i = ⟨g, 0 + i, none⟩ := by
      unfold Addr.add
      split
      · next h => rw [h]
      · rfl
    rw [ha] at hc
    exact hc
theorem bytes_one (l : List UInt8) : ∀ u ∈ l.map bv, u.oneCell' = true := by
  intro u hu
  obtain ⟨b, _, rfl⟩ := List.mem_map.1 hu
  rfl
theorem row_news {w : World} {ad : Addr} {n : Nat} {l : List UInt8} (h : RowB w (some ad) n l) : ∀ j u, (l.map bv)[j]? = some u → w.cell? (ad.add j) = some u := by
  intro j u hu
  have hj : j < l.length := by
    have := (List.getElem?_eq_some_iff.1 hu).1
    simpa using this
  obtain ⟨b, off, e, _, hx⟩ := h.2 (by have := h.1; omega)
  injection e with e
  subst e
  rw [List.getElem?_map, List.getElem?_eq_getElem hj] at hu
  have ha : (⟨b, off, none⟩ : Addr).add j = ⟨b, off + j, none⟩ := by
    unfold Addr.add
    split
    · next h => rw [h]; rfl
    · rfl
  rw [ha, hx j hj]
  exact hu

/-- make([]byte, 0, c): an empty row of the call's own. -/
theorem made (c : Nat) (hc : c ≤ 281474976710656) (w : World) : ∃ C : Array Value, (Instr.makeSlice 41 (.int .i64 0) (.int .i64 (c : Int))).run Tryd.prog w = .ok (.slice (some ⟨w.heap.size, 0, none⟩) 0 c) (w.alloc (.cells C 5)) ∧ C.size = c := by
  obtain ⟨i0, hi, hz0, hz1, hz2⟩ := info_parts info_u8
  have h := run_make (P := Tryd.prog) w 41 5 i0 (.int .u8 0) Tryd.underlying41 hi hz0 .i64 .i64 0 (c : Int) (by omega) (by omega) (by rw [hz2]; omega) (by omega)
  rw [Int.toNat_natCast, hz1, Nat.mul_one] at h
  exact ⟨_, h, size_madeCells _ _⟩
set_option maxRecDepth 100000 in
theorem with_nil (room : Nat) (hr : room ≤ 1048576) (w : World) :
    Calls Tryd.prog 62 #[.slice none 0 0, .int .i64 room] w fun e w' => ∃ v, e = .returned v ∧ Owns w' w.heap.size v [] ∧ Below w.heap.size w w' := by
  obtain ⟨i0, hi, hz0, hz1, hz2⟩ := info_parts info_u8
  have HI := Lib.hid (And.intro hi (And.intro hz0 (And.intro hz1 hz2)))
  clear hi hz0 hz1 hz2
  obtain ⟨C, hmk, hC⟩ := made room (by omega) w
  have hown := World.ownsRow_made (base := w.heap.size) (e := 5) (size := 1) w C room (Nat.le_refl _) (by unfold maxLen; omega) (by omega)
  have HO := Lib.hid hown
  have HC := Lib.hid hC
  clear hown hC
  go_enter Tryd.func62, Tryd.ntmps62
  go_wp2_with (at_builtin; refine wpList_append_own_none rfl _ _ _ rfl w.heap.size 5 i0 1 Tryd.underlying41 HI.out.1 _ 0 [] rfl HO.out rfl ?_)
  go_ret
  exact ⟨_, rfl, HO.out, (Below.refl _ w).alloc (Nat.le_refl _) _⟩
set_option maxRecDepth 100000 in
theorem with_some (ad : Addr) (n cap room : Nat) (l : List UInt8) (hn : n ≤ 1048576) (hr : room ≤ 1048576) (w : World) (h : RowB w (some ad) n l) :
    Calls Tryd.prog 62 #[.slice (some ad) n cap, .int .i64 room] w fun e w' => ∃ v, e = .returned v ∧ Owns w' w.heap.size v l ∧ Below w.heap.size w w' := by
  obtain ⟨i0, hi, hz0, hz1, hz2⟩ := info_parts info_u8
  have HI := Lib.hid (And.intro hi (And.intro hz0 (And.intro hz1 hz2)))
  clear hi hz0 hz1 hz2
  obtain ⟨C, hmk, hC⟩ := made (n + room) (by omega) w
  rw [Int.natCast_add] at hmk
  have hown := World.ownsRow_made (base := w.heap.size) (e := 5) (size := 1) w C (n + room) (Nat.le_refl _) (by unfold maxLen; omega) (by omega)
  have HO := Lib.hid hown
  have HC := Lib.hid hC
  have HB := Lib.hid ((Below.refl w.heap.size w).alloc (Nat.le_refl _) (.cells C 5))
  have HR := Lib.hid (row_news (h.below HB.out))
  have HL := Lib.hid h.1
  clear hown hC h
  go_enter Tryd.func62, Tryd.ntmps62
  go_wp2_with (at_builtin; refine wpList_append_own (w.alloc (.cells C 5)) rfl _ _ _ rfl w.heap.size 5 i0 (.int .u8 0) 1 1 Tryd.underlying41 HI.out.1 HI.out.2.1 HI.out.2.2.1 HI.out.2.2.2 rfl (by decide) _ 0 [] rfl HO.out ad n cap (l.map bv) rfl ?c1 HR.out (bytes_one l) ?c2 ?c3 ?c4 ?_)
  case c1 => rw [List.length_map, HL.out, Nat.mul_one]
  case c2 => unfold maxLen; omega
  case c3 => omega
  case c4 => simp
  intro v w1 h1 h2 _
  go_wp2
  go_ret
  refine ⟨_, rfl, ?_, HB.out.grown h2 (by simp) (fun k hk => ?_)⟩
  · unfold Owns
    rw [HL.out]
    exact h1
  · simp [Value.ownBlock] at hk
    omega
theorem with_any (A : Option Addr) (n cap room : Nat) (l : List UInt8) (hn : n ≤ 1048576) (hr : room ≤ 1048576) (w : World) (h : RowB w A n l) (h0 : A = none → n = 0 ∧ cap = 0) :
    Calls Tryd.prog 62 #[.slice A n cap, .int .i64 room] w fun e w' => ∃ v, e = .returned v ∧ Owns w' w.heap.size v l ∧ Below w.heap.size w w' := by
  cases A with
  | none =>
    obtain ⟨rfl, rfl⟩ := h0 rfl
    obtain rfl : l = [] := List.eq_nil_of_length_eq_zero h.1
    exact with_nil room hr w
  | some ad => exact with_some ad n cap room l hn hr w h

/-- A number's lowest bytes, the highest first. -/
def putL (U k : Nat) : List UInt8 := (List.range k).map fun i => UInt8.ofNat (U / 2 ^ (8 * (k - 1 - i)) % 256)
theorem putL_len (U k : Nat) : (putL U k).length = k := by simp [putL]
theorem putL_snoc (U k j : Nat) (h : j < k) : (putL U k).take (j + 1) = (putL U k).take j ++ [UInt8.ofNat (U / 2 ^ (8 * (k - 1 - j)) % 256)] := by
  rw [List.take_succ_eq_append_getElem (by rw [putL_len]; exact h)]
  simp [putL]
theorem byte_val (m : Nat) : bv (UInt8.ofNat (m % 256)) = .int .u8 ((m : Int) % 256) := by
  unfold bv
  rw [UInt8.toNat_ofNat']
  congr 1
  omega
set_option maxRecDepth 100000 in
set_option maxHeartbeats 1000000 in
theorem put_in (A : Option Addr) (n cap k : Nat) (x : Int) (l : List UInt8) (hn : n ≤ 1048000) (h1 : 1 ≤ k) (h8 : k ≤ 8) (w : World) (h : RowB w A n l) (h0 : A = none → n = 0 ∧ cap = 0) :
    Calls Tryd.prog 34 #[.slice A n cap, .int .i64 x, .int .i64 k] w fun e w' => ∃ v, e = .returned v ∧ Owns w' w.heap.size v (l ++ putL (IntKind.u64.wrap x).toNat k) ∧ Below w.heap.size w w' := by
  have hu0 : 0 ≤ IntKind.u64.wrap x := wrap_u64_nonneg x
  obtain ⟨U, hU⟩ := Int.eq_ofNat_of_zero_le hu0
  have HW := Lib.hid (with_any A n cap k l (by omega) (by omega) w h h0)
  have HL := Lib.hid h.1
  rw [hU, Int.toNat_natCast]
  clear h h0 hu0
  go_enter Tryd.func34, Tryd.ntmps34
  go_wp2_with fail
  refine HW.out.mono ?_
  rintro e w1 ⟨v, rfl, hown, hb⟩
  go_wp2_with fail
  go_loopw [7, 19] (fun v i wr => ∃ j : Nat, j ≤ k ∧ i = .int .i64 j ∧ Owns wr w.heap.size v (l ++ (putL U k).take j) ∧ Below w.heap.size w wr) (fun _ i _ => k - (intOf i).toNat)
  case atStart => exact ⟨0, Nat.zero_le _, rfl, by rw [List.take_zero, List.append_nil]; exact hown, hb⟩
  case round =>
    obtain ⟨j, hj, rfl, ho, hb1⟩ := hrel
    obtain ⟨i0, hi, hz0, hz1, hz2⟩ := info_parts info_u8
    have HI := Lib.hid (And.intro hi (And.intro hz0 (And.intro hz1 hz2)))
    clear hi hz0 hz1 hz2 HW
    by_cases hlt : j < k
    · have hlen : (l ++ (putL U k).take j).length ≤ 1048100 := by rw [List.length_append, List.length_take, HL.out]; omega
      have hnx : l ++ (putL U k).take (j + 1) = (l ++ (putL U k).take j) ++ [UInt8.ofNat (U / 2 ^ (8 * (k - 1 - j)) % 256)] := by rw [putL_snoc U k j hlt, List.append_assoc]
      have hbv := byte_val (U / 2 ^ (8 * (k - 1 - j)))
      generalize l ++ (putL U k).take j = L at *
      rw [Int.natCast_ediv, Int.natCast_pow] at hbv
      have HN := Lib.hid hnx
      have HB := Lib.hid hbv
      have HO := Lib.hid ho
      clear hnx hbv ho
      go_wp2_with (at_builtin; (refine wpList_append_own (wr.alloc (.cells #[.int .u8 ((U : Int) / 2 ^ (8 * (k - 1 - j)) % 256)] 5)) rfl _ _ _ rfl w.heap.size 5 i0 (.int .u8 0) 1 1 Tryd.underlying41 HI.out.1 HI.out.2.1 HI.out.2.2.1 HI.out.2.2.2 rfl (by decide) _ L.length (L.map bv) rfl (World.ownsRow.alloc HO.out _) ⟨wr.heap.size, 0, none⟩ 1 1 [.int .u8 ((U : Int) / 2 ^ (8 * (k - 1 - j)) % 256)] rfl rfl (cell_one_new _ _ _) ?c1 ?c2 ?c3 ?c4 ?_))
      case c1 => intro u hu; rw [List.mem_singleton.1 hu]; rfl
      case c2 => unfold maxLen; omega
      case c3 => omega
      case c4 => simp; exact Nat.le_trans hb1.size (Nat.le_succ _)
      intro v' w2 g1 g2 _
      go_wp2
      go_roundw
      case rel =>
        refine ⟨j + 1, by omega, by go_num, ?_, (hb1.alloc hb1.size _).grown g2 (by simp; exact Nat.le_trans hb1.size (Nat.le_succ _)) (fun g hg => (World.ownsRow.lt HO.out g hg).1)⟩
        unfold Owns
        rw [HN.out, List.length_append, List.map_append, List.map_singleton, HB.out]
        exact g1
      case measure => simp [intOf]; omega
    · obtain rfl : j = k := by omega
      rw [List.take_of_length_le (by rw [putL_len]; exact Nat.le_refl _)] at ho
      go_wp2
      go_ret
      exact ⟨_, rfl, ho, hb1⟩
set_option maxRecDepth 100000 in
theorem put_out (A : Option Addr) (n cap : Nat) (x k : Int) (l : List UInt8) (hn : n ≤ 1048000) (hk : k < 1 ∨ 8 < k) (w : World) (h : RowB w A n l) (h0 : A = none → n = 0 ∧ cap = 0) :
    Calls Tryd.prog 34 #[.slice A n cap, .int .i64 x, .int .i64 k] w fun e w' => ∃ v, e = .returned v ∧ Owns w' w.heap.size v l ∧ Below w.heap.size w w' := by
  have HW := Lib.hid (with_any A n cap 0 l (by omega) (by omega) w h h0)
  clear h h0
  by_cases h1 : k < 1
  · clear hk
    go_enter Tryd.func34, Tryd.ntmps34
    go_wp2_with fail
    refine HW.out.mono ?_
    rintro e w1 ⟨v, rfl, hown, hb⟩
    go_wp2_with fail
    go_loopw [7, 19] (fun u i wr => u = v ∧ i = .int .i64 0 ∧ wr = w1) (fun _ _ _ => 0)
    case atStart => exact ⟨rfl, rfl, rfl⟩
    case round =>
      obtain ⟨rfl, rfl, rfl⟩ := hrel
      go_wp2
      go_ret
      exact ⟨_, rfl, hown, hb⟩
  · have h2 : 8 < k := by omega
    clear hk
    go_enter Tryd.func34, Tryd.ntmps34
    go_wp2_with fail
    refine HW.out.mono ?_
    rintro e w1 ⟨v, rfl, hown, hb⟩
    go_wp2_with fail
    go_loopw [7, 19] (fun u i wr => u = v ∧ i = .int .i64 0 ∧ wr = w1) (fun _ _ _ => 0)
    case atStart => exact ⟨rfl, rfl, rfl⟩
    case round =>
      obtain ⟨rfl, rfl, rfl⟩ := hrel
      go_wp2
      go_ret
      exact ⟨_, rfl, hown, hb⟩
end Go.Proofs.YtfjmcklmoebnaaaDoor.Oct
