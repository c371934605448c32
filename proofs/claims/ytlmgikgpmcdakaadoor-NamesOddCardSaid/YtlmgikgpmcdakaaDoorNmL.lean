/- Lists of texts: short ones, equal ones, and Within. -/
import Derived.Test.YtlmgikgpmcdakaaDoorNmK
import Derived.Test.YtlmgikgpmcdakaaDoorOpenS
namespace Go.Proofs.YtlmgikgpmcdakaaDoor.Nm
open Go.RowKit Go.Proofs.YtlmgikgpmcdakaaDoor.Mem Go.Proofs.YtlmgikgpmcdakaaDoor.Rws

def sumL (l : List ByteArray) : Nat := (l.map fun x => min x.size 4097).sum
def shortB (l : List ByteArray) : Bool := decide (l.length ≤ 40) && decide (sumL l ≤ 4096)
theorem sumL_take (l : List ByteArray) (k : Nat) (h : k < l.length) : sumL (l.take (k + 1)) = sumL (l.take k) + min (l[k]).size 4097 := by
  unfold sumL
  rw [List.take_succ_eq_append_getElem h, List.map_append, List.sum_append]
  simp only [List.map_cons, List.map_nil, List.sum_cons, List.sum_nil, Nat.add_zero]
theorem sumL_le (l : List ByteArray) (k : Nat) : sumL (l.take k) ≤ sumL l := by
  have : sumL l = sumL (l.take k) + sumL (l.drop k) := by
    unfold sumL
    rw [← List.sum_append, ← List.map_append, List.take_append_drop]
  omega
theorem short_cell {w : World} {A : Option Addr} {n : Nat} {l : List ByteArray} (h : TxtRow w A n l) (k : Nat) (hk : k < l.length) : ∃ b off, A = some ⟨b, off, none⟩ ∧ w.cell? ⟨b, off + k, none⟩ = some (.string l[k]) := by
  obtain ⟨b, off, e, _, hx⟩ := h.2 (by have := h.1; omega)
  exact ⟨b, off, e, hx k hk⟩
theorem short_any (A : Option Addr) (n c : Nat) (l : List ByteArray) (hn : n ≤ 9223372036854775807) (w : World) (h : TxtRow w A n l) :
    Calls Tryd.prog 18 #[.slice A n c] w fun e w' => e = .returned (.bool (shortB l)) ∧ w' = w := by
  have hl := h.1
  go_enter Tryd.func18, Tryd.ntmps18
  go_wp2
  go_loop [3, 4] (fun x i => ∃ k : Nat, i = .int .i64 k ∧ x = .int .i64 (sumL (l.take k) : Nat) ∧ k ≤ n ∧ k ≤ 41) (fun _ i => n - (intOf i).toNat)
  case atStart => exact ⟨0, rfl, rfl, by omega, by omega⟩
  case round =>
    obtain ⟨k, rfl, rfl, hk, h41⟩ := hrel
    by_cases hlt : k < n
    · by_cases h40 : k ≤ 40
      · by_cases hs : sumL (l.take k) ≤ 4096
        · obtain ⟨b, off, rfl, hc⟩ := short_cell h k (by omega)
          have ht := sumL_take l k (by omega)
          have HT := Lib.hid ht
          generalize l[k] = x at *
          generalize sumL (l.take k) = S at *
          clear ht h
          by_cases hx : x.size ≤ 4097
          · have hx2 : ((x.size : Int)) ≤ 4097 := by omega
            have HT2 := Lib.hid (HT.out.trans (by rw [Nat.min_eq_left hx]))
            clear hx
            go_wp2
            all_goals go_round
            all_goals first
              | exact ⟨k + 1, by go_num, by rw [HT2.out]; go_num, by omega, by omega⟩
              | (simp [intOf]; omega)
          · have hx2 : ¬ ((x.size : Int)) ≤ 4097 := by omega
            have HT2 := Lib.hid (HT.out.trans (by rw [Nat.min_eq_right (by omega)]))
            clear hx
            go_wp2
            all_goals go_round
            all_goals first
              | exact ⟨k + 1, by go_num, by rw [HT2.out]; go_num, by omega, by omega⟩
              | (simp [intOf]; omega)
        · have hb : shortB l = false := by
            have := sumL_le l k
            unfold shortB
            rw [decide_eq_false (p := sumL l ≤ 4096) (by omega)]
            simp
          have HB := Lib.hid hb
          generalize sumL (l.take k) = S at *
          have hsi : ¬ (S : Int) ≤ 4096 := by omega
          clear hb h
          go_wp2
          all_goals go_ret
          all_goals exact ⟨by rw [HB.out]; rfl, rfl⟩
      · have hb : shortB l = false := by
          unfold shortB
          rw [decide_eq_false (p := l.length ≤ 40) (by omega)]
          simp
        have HB := Lib.hid hb
        have hn40 : ¬ (n : Int) ≤ 40 := by omega
        generalize sumL (l.take k) = S at *
        clear hb h
        go_wp2
        all_goals go_ret
        all_goals exact ⟨by rw [HB.out]; rfl, rfl⟩
    · obtain rfl : k = n := by omega
      have hb : shortB l = (decide (k ≤ 40) && decide (sumL l ≤ 4096)) := by unfold shortB; rw [hl]
      rw [List.take_of_length_le (by omega)]
      have HB := Lib.hid hb
      generalize sumL l = S at *
      clear hb h hl
      by_cases h40 : k ≤ 40
      · by_cases hs : S ≤ 4096
        · have HB2 := Lib.hid (HB.out.trans (show _ = true by simp [h40, hs]))
          have hsi : (S : Int) ≤ 4096 := by omega
          have hki : (k : Int) ≤ 40 := by omega
          go_wp2
          all_goals go_ret
          all_goals exact ⟨by rw [HB2.out]; rfl, rfl⟩
        · have HB2 := Lib.hid (HB.out.trans (show _ = false by simp [hs]))
          have hsi : ¬ (S : Int) ≤ 4096 := by omega
          have hki : (k : Int) ≤ 40 := by omega
          go_wp2
          all_goals go_ret
          all_goals exact ⟨by rw [HB2.out]; rfl, rfl⟩
      · have HB2 := Lib.hid (HB.out.trans (show _ = false by simp [h40]))
        have hki : ¬ (k : Int) ≤ 40 := by omega
        go_wp2
        all_goals go_ret
        all_goals exact ⟨by rw [HB2.out]; rfl, rfl⟩
theorem eqs (A B : Option Addr) (n m c d : Nat) (l k : List ByteArray) (hn : n ≤ 9223372036854775807) (hm : m ≤ 9223372036854775807) (w : World) (h : TxtRow w A n l) (h2 : TxtRow w B m k) :
    Calls Tryd.prog 17 #[.slice A n c, .slice B m d] w fun e w' => e = .returned (.bool (decide (l = k))) ∧ ∃ q, w' = w.drewN q := by
  have hl := h.1
  have hk := h2.1
  by_cases hnm : n = m
  · subst hnm
    by_cases h0 : n = 0
    · subst h0
      have e1 : l = [] := List.length_eq_zero_iff.1 hl
      have e2 : k = [] := List.length_eq_zero_iff.1 hk
      subst e1
      subst e2
      exact (Tryd.slices_Equal_string_empty A B c 0 d w hn).mono fun e w' ⟨he, hw⟩ => ⟨he, 0, hw⟩
    · obtain ⟨b, off, rfl, _, hx⟩ := h.2 (by omega)
      obtain ⟨b2, off2, rfl, _, hx2⟩ := h2.2 (by omega)
      refine (Tryd.slices_Equal_string b off n c b2 off2 n d l k w (by omega) (by omega) hn hn (fun j hj => ?_) (fun j hj => ?_)).mono ?_
      · rw [hx j hj]; simp [List.getD, List.getElem?_eq_getElem hj]
      · rw [hx2 j hj]; simp [List.getD, List.getElem?_eq_getElem hj]
      · rintro e w' ⟨he, hq⟩
        rw [List.take_of_length_le (by omega), List.take_of_length_le (by omega)] at he
        exact ⟨he, hq⟩
  · have hne : ¬ l = k := by rintro rfl; omega
    rw [decide_eq_false hne]
    exact (Tryd.slices_Equal_string_lens A B n c m d w hnm).mono fun e w' ⟨he, hw⟩ => ⟨he, 0, hw⟩
/-- Do texts begin with others? -/
def withinB (l top : List ByteArray) : Bool := decide (top.length ≤ l.length) && decide (l.take top.length = top)
theorem txt_take {w : World} {A : Option Addr} {n : Nat} {l : List ByteArray} (h : TxtRow w A n l) (m : Nat) (hm : m ≤ n) : TxtRow w A m (l.take m) :=
  ⟨by have := h.1; rw [List.length_take]; omega, fun h0 => by
    obtain ⟨b, off, e, hb, hx⟩ := h.2 (by omega)
    exact ⟨b, off, e, hb, fun i hi => by rw [hx i (by rw [List.length_take] at hi; omega)]; simp⟩⟩
theorem within_any (A B : Option Addr) (n m c d : Nat) (l k : List ByteArray) (hc : n ≤ c) (hm : m ≤ 9223372036854775807) (w : World) (h : TxtRow w A n l) (h2 : TxtRow w B m k) :
    Calls Tryd.prog 22 #[.slice A n c, .slice B m d] w fun e w' => e = .returned (.bool (withinB l k)) ∧ ∃ q, w' = w.drewN q := by
  have hl := h.1
  have hk := h2.1
  by_cases hmn : m ≤ n
  · have hW := Lib.hid (show withinB l k = decide (l.take m = k) by unfold withinB; rw [hk, hl, decide_eq_true hmn]; simp)
    have HE := Lib.hid (eqs A B m m c d (l.take m) k hm hm w (txt_take h m hmn) h2)
    have hmi : (m : Int) ≤ n := by omega
    go_enter Tryd.func22, Tryd.ntmps22
    go_wp2_with fail
    refine HE.out.mono ?_
    rintro e w' ⟨rfl, hq⟩
    go_wp2
    go_ret
    exact ⟨by rw [hW.out]; rfl, hq⟩
  · have hW := Lib.hid (show withinB l k = false by unfold withinB; rw [hk, hl, decide_eq_false hmn]; simp)
    have hmi : ¬ (m : Int) ≤ n := by omega
    go_enter Tryd.func22, Tryd.ntmps22
    go_wp2
    go_ret
    exact ⟨by rw [hW.out]; rfl, 0, rfl⟩
end Go.Proofs.YtlmgikgpmcdakaaDoor.Nm
