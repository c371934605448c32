/- Good: whether a text is a name. -/
import Derived.Test.YtlmgikgpmcdakaaDoorNmF
import Derived.Lib.OthersKept
import Derived.Lib.IndexAny
namespace Go.Proofs.YtlmgikgpmcdakaaDoor.Nm
open Go.RowKit Go.Proofs.YtlmgikgpmcdakaaDoor.Mem

theorem no_more {s : List UInt8} {i j : Nat} (h : Lib.NoAny s [47, 0] i) (hk : ∀ k b, i ≤ k → k < j → s[k]? = some b → 128 ≤ b.toNat) : Lib.NoAny s [47, 0] j := fun k b hj hb => by
  by_cases hi : k < i
  · exact h k b hi hb
  · have := hk k b (by omega) hj hb
    simp
    constructor
    · rintro rfl
      revert this
      decide
    · rintro rfl
      revert this
      decide
set_option maxRecDepth 100000 in
theorem any_short (s : ByteArray) (h8 : s.size ≤ 8) (w : World) :
    Calls Tryd.prog 39 #[.string s, .string ⟨#[47, 0]⟩] w fun e w' => e = .returned (.int .i64 (Lib.indexAny s.data.toList [47, 0])) ∧ Below w.heap.size w w' := by
  have hA := Lib.hid (Tryd.strings_shouldUseASCIISet s.size w)
  have h8z : decide ((8 : Int) < (s.size : Int)) = false := decide_eq_false (by omega)
  have hl : s.data.toList.length = s.size := by simp
  go_enter Tryd.func39, Tryd.ntmps39
  go_wp2_with fail
  refine hA.out.mono ?_
  rintro e w' ⟨rfl, hw⟩
  rw [hw, h8z]
  clear hw
  go_wp2_with fail
  go_loopg [9, 10] s.size (fun g _ _ wx => ∃ i : Nat, i ≤ s.size ∧ s.size - i = g ∧ wx.heap[w.heap.size]? = some (.stringIter s i) ∧ Below w.heap.size w wx ∧ Lib.NoAny s.data.toList [47, 0] i)
  case atStart => exact ⟨0, by omega, by omega, World.iter_heap w s 0, (Below.refl _ w).alloc (Nat.le_refl _) _, Lib.NoAny.zero _ _⟩
  case round =>
    obtain ⟨i, hi, hg, hk, hb, hno⟩ := hrel
    have HN := Lib.hid hno
    have HB := Lib.hid hb
    clear hno hb
    cases gk with
    | zero =>
      obtain rfl : i = s.size := by omega
      have hnx := fun ty => Lib.run_next_end_at (P := Tryd.prog) _ w.heap.size s s.size ty hk (Nat.lt_irrefl _)
      go_wp2
      go_ret
      exact ⟨by rw [Lib.indexAny_none (by rw [hl]; exact HN.out)]; rfl, HB.out⟩
    | succ g =>
      have hlt : i < s.size := by omega
      by_cases ha : (s[i]'hlt).toNat < 128
      · have hnx := fun ty => Lib.run_next_ascii_at (P := Tryd.prog) _ w.heap.size s i ty hk hlt ha
        obtain ⟨x, hx⟩ : ∃ x : UInt8, s[i]'hlt = x := ⟨_, rfl⟩
        have hxl : s.data.toList[i]? = some x := by rw [← hx]; exact Lib.data_getElem? s i hlt
        rw [hx] at hnx ha
        have hcon := Lib.contains_iff_indexByte [47, 0] x
        have hback : ((x.toNat : Int)).toNat.toUInt8 = x := by simp
        have HK := Lib.hid (Lib.iterAt_heap _ w.heap.size s i (i + 1) hk)
        have HB2 := Lib.hid (Lib.below_iterAt HB.out (Nat.le_refl _) s (i + 1))
        have HX := Lib.hid hxl
        have HR := Lib.hid (fun w => Tryd.strings_IndexRune_ascii ⟨#[47, 0]⟩ (x.toNat : Int) w (by omega) (by omega))
        clear hxl hx hk
        cases hin : [47, 0].contains x
        · rw [hin] at hcon
          have hlt2 : ¬ ((0 : Int) ≤ Lib.indexByte [47, 0] x) := of_decide_eq_false hcon.symm
          clear hcon
          go_wp2_with (go_at_call 50; refine (HR.out _).mono ?_; rintro e w' ⟨rfl, hw⟩; rw [hw, hback])
          go_roundg g
          case measure => omega
          case rel => exact ⟨i + 1, by omega, by omega, HK.out, HB2.out, HN.out.succ HX.out hin⟩
        · rw [hin] at hcon
          have hge : (0 : Int) ≤ Lib.indexByte [47, 0] x := of_decide_eq_true hcon.symm
          clear hcon
          go_wp2_with (go_at_call 50; refine (HR.out _).mono ?_; rintro e w' ⟨rfl, hw⟩; rw [hw, hback])
          go_ret
          exact ⟨by rw [Lib.indexAny_hit HN.out HX.out hin]; rfl, HB2.out⟩
      · have hnx := fun ty => Lib.run_next_any_at (P := Tryd.prog) _ w.heap.size s i ty hk hlt
        have hp := decode_past s i hlt (by omega)
        have hd := (decode_high s i hlt (by omega)).1
        have hr := decode_rune s i
        have HK := Lib.hid (Lib.iterAt_heap _ w.heap.size s i (i + (Utf8.decode s i).2) hk)
        have HB2 := Lib.hid (Lib.below_iterAt HB.out (Nat.le_refl _) s (i + (Utf8.decode s i).2))
        have HN2 := Lib.hid (no_more (j := i + (Utf8.decode s i).2) HN.out (fun k b h1 h2 h3 => by
          have hk2 : k < s.size := by omega
          rw [Lib.data_getElem? s k hk2] at h3
          injection h3 with h3
          subst h3
          exact hp.2.2 k hk2 h1 h2))
        obtain ⟨hp1, hp2, _⟩ := hp
        have HR := Lib.hid (fun w => rune_any ((Utf8.decode s i).1 : Int) (by omega) (by omega) w)
        have hsz := (Array.getElem?_eq_some_iff.1 hk).1
        have HS := Lib.hid hsz
        clear hk hd hr hsz
        generalize (Utf8.decode s i).1 = r at *
        generalize (Utf8.decode s i).2 = d at *
        go_wp2_with fail
        refine (HR.out _).mono ?_
        rintro e w' ⟨rfl, hb⟩
        have hk3 := (hb.block w.heap.size (by rw [Lib.iterAt_size]; exact HS.out)).trans HK.out
        have hb3 := HB2.out.trans (hb.mono (by rw [Lib.iterAt_size]; exact Nat.le_of_lt HS.out))
        have HK3 := Lib.hid hk3
        have HB3 := Lib.hid hb3
        clear hk3 hb3 hb
        go_wp2_with fail
        go_roundg (s.size - (i + d))
        case measure => omega
        case rel => exact ⟨i + d, by omega, rfl, HK3.out, HB3.out, HN2.out⟩
end Go.Proofs.YtlmgikgpmcdakaaDoor.Nm
