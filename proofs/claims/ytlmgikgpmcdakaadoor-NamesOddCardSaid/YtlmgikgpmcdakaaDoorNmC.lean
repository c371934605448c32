/- Names of events, and events of names: number, Odd. -/
import Derived.Test.YtlmgikgpmcdakaaDoorNmB
namespace Go.Proofs.YtlmgikgpmcdakaaDoor.Nm
open Go.RowKit Go.Proofs.YtlmgikgpmcdakaaDoor.Mem

set_option maxRecDepth 100000 in
theorem parse_empty (w : World) :
    Calls Tryd.prog 57 #[.string ⟨#[]⟩, .int .i64 16, .int .i64 48] w fun e w' => e = .returned (.tuple #[.int .u64 0, .iface 98 (.int .i64 2)]) ∧ w = w' := by
  go_enter Tryd.func57, Tryd.ntmps57
  go_wp2_with fail
  iterate 80 (try go_step)
  go_ret2
  exact ⟨rfl, rfl⟩
theorem num_lt : ∀ (l : List UInt8) (n m : Nat), n < 281474976710656 → num n l = some m → m < 281474976710656
  | [], n, m, h, e => by unfold num at e; injection e; omega
  | c :: l, n, m, h, e => by
    unfold num at e
    split at e
    · cases e
    · split at e
      · next hlt => exact num_lt l _ m hlt e
      · cases e
/-- A text's number; none: it has none. -/
def numT (t : ByteArray) : Option Nat := if t.size = 0 then none else num 0 t.data.toList
def PEnds (o : Option Nat) (e : Ending) : Prop := match o with
  | some n => e = .returned (.tuple #[.int .u64 (n : Int), .nilIface])
  | none => ∃ (x : Int) (p : Value), e = .returned (.tuple #[.int .u64 x, .iface 100 p])
theorem parse_public (t : ByteArray) (hmax : t.size ≤ 281474976710656) (w : World) (h : Tabs w) :
    Calls Tryd.prog 44 #[.string t, .int .i64 16, .int .i64 48] w fun e w' => PEnds (numT t) e ∧ Below w.heap.size w w' := by
  have go2 : ∀ (x : Int) (k : Int) (hk : k = 1 ∨ k = 2) (hn : numT t = none) (w1 : World) (hb : Below w.heap.size w w1),
      Calls Tryd.prog 58 #[.string ⟨#[80, 97, 114, 115, 101, 85, 105, 110, 116]⟩, .string t, .int .i64 16, .int .i64 48, .iface 98 (.int .i64 k)] w1 fun e w' => (∃ N, e = .returned (.iface 100 (.pointer (some ⟨N, 0, none⟩)))) ∧ Below w.heap.size w w' := by
    intro x k hk hn w1 hb
    have h1 := h.self hb
    rcases hk with rfl | rfl
    · obtain ⟨ev, hv, he⟩ := h1.er
      refine (Tryd.strconv_toError_range _ t 16 48 ev w1 hmax hv he).mono ?_
      rintro e w' ⟨N, rfl, _, _, hb2⟩
      exact ⟨⟨N, rfl⟩, hb.trans (hb2.mono hb.size)⟩
    · obtain ⟨ev, hv, he⟩ := h1.es
      refine (Tryd.strconv_toError_syntax _ t 16 48 ev w1 hmax hv he).mono ?_
      rintro e w' ⟨N, rfl, _, _, hb2⟩
      exact ⟨⟨N, rfl⟩, hb.trans (hb2.mono hb.size)⟩
  have G := Lib.hid go2
  clear go2
  by_cases h0 : t.size = 0
  · have hn : numT t = none := by unfold numT; rw [if_pos h0]
    have ht : t = ⟨#[]⟩ := by
      cases t with
      | mk d => congr 1; exact Array.size_eq_zero_iff.1 h0
    have H := Lib.hid parse_empty
    subst ht
    go_enter Tryd.func44, Tryd.ntmps44
    go_wp2_with (first | (go_at_call 57; refine (H.out _).mono ?_; rintro e w1 ⟨rfl, rfl⟩) | (go_at_call 58; refine (G.out 0 2 (.inr rfl) hn _ (Below.refl _ _)).mono ?_; rintro e w2 ⟨⟨N, rfl⟩, hb⟩))
    go_ret2
    exact ⟨by rw [hn]; exact ⟨_, _, rfl⟩, hb⟩
  · have hn : numT t = num 0 t.data.toList := by unfold numT; rw [if_neg h0]
    have H := Lib.hid (parse_in t h0 (by omega) w)
    cases hx : num 0 t.data.toList with
    | some n =>
      rw [hx] at hn H
      go_enter Tryd.func44, Tryd.ntmps44
      go_wp2_with fail
      refine H.out.mono ?_
      rintro e w1 ⟨he, hb⟩
      obtain rfl : e = _ := he
      go_wp2
      go_ret2
      exact ⟨by rw [hn]; rfl, hb⟩
    | none =>
      rw [hx] at hn H
      go_enter Tryd.func44, Tryd.ntmps44
      go_wp2_with fail
      refine H.out.mono ?_
      rintro e w1 ⟨⟨x, k, hk, rfl⟩, hb⟩
      have HB := Lib.hid hb
      go_wp2_with (go_at_call 58; refine (G.out x k hk hn _ HB.out).mono ?_; rintro e w2 ⟨⟨N, rfl⟩, hb2⟩)
      go_ret2
      exact ⟨by rw [hn]; exact ⟨_, _, rfl⟩, hb2⟩
/-- names.number: 0 of what is none. -/
def numM (t : ByteArray) : Nat := (numT t).getD 0
theorem number_any (t : ByteArray) (hmax : t.size ≤ 281474976710656) (w : World) (h : Tabs w) :
    Calls Tryd.prog 34 #[.string t] w fun e w' => e = .returned (.int .i64 (numM t : Int)) ∧ Below w.heap.size w w' := by
  have H := Lib.hid (parse_public t hmax w h)
  cases hx : numT t with
  | some n =>
    have hl : n < 281474976710656 := by
      unfold numT at hx
      split at hx
      · cases hx
      · exact num_lt _ 0 n (by omega) hx
    have hM : numM t = n := by unfold numM; rw [hx]; rfl
    have HM := Lib.hid hM
    rw [hx] at H
    have hw : (n : Int) < 9223372036854775808 := by omega
    go_enter Tryd.func34, Tryd.ntmps34
    go_wp2_with fail
    refine H.out.mono ?_
    rintro e w1 ⟨he, hb⟩
    obtain rfl : e = _ := he
    clear hM
    go_wp2
    go_ret
    exact ⟨by rw [HM.out]; rfl, hb⟩
  | none =>
    have hM : numM t = 0 := by unfold numM; rw [hx]; rfl
    rw [hx] at H
    rw [hM]
    go_enter Tryd.func34, Tryd.ntmps34
    go_wp2_with fail
    refine H.out.mono ?_
    rintro e w1 ⟨⟨x, p, rfl⟩, hb⟩
    go_wp2
    go_ret
    exact ⟨rfl, hb⟩
end Go.Proofs.YtlmgikgpmcdakaaDoor.Nm
