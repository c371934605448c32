/- The least free block, and how high a block is: contracts. -/
import Derived.Test.YtidkckapjelbmaaStH
namespace Go.Proofs.Ytidkckapjelbmaa.Sto
open Go.RowKit
open Oct (Has Chg)
open Rws
open Mem (IMap)

theorem size_dev (p bk bd : Nat) (d : Dv.St) (w : World) (h : Dv.DevIs w p bk bd d) :
    Calls Try.prog 26 #[.pointer (some ⟨p, 0, none⟩)] w fun e w' => e = .returned (.int .i64 d.size) ∧ w = w' := by
  have c2 := Mem.Has.at_ h.obj 2
  simp at c2
  have HM := Lib.hid (Dv.made_any p bk bd d w h)
  clear h
  go_enter Try.func26, Try.ntmps26
  go_wp2_with fail
  refine HM.out.mono ?_
  rintro e w' ⟨rfl, rfl⟩
  go_wp2
  go_ret
  exact ⟨rfl, rfl⟩
theorem int_eq {a b : Int} (h : a = b) : Value.int .i64 a = .int .i64 b := by rw [h]
def leastFrom (s : SV) : Nat → Nat → Option Nat
  | 0, _ => none
  | n + 1, i => if freeB s i = true then some i else leastFrom s n (i + 1)
/-- The first block that is free. -/
def least (s : SV) : Option Nat := leastFrom s (s.dev.size - 2) 2
def LOut (o : Option Nat) (e : Ending) : Prop :=
  match o with
  | some i => e = .returned (.tuple #[.int .i64 (i : Nat), .bool true])
  | none => e = .returned (.tuple #[.int .i64 0, .bool false])
set_option maxHeartbeats 400000 in
theorem least_sto (p : Nat) (F : Fr) (s : SV) (w : World) (h : StoIs w p F s) (o : Option Nat) (ho : least s = o) :
    Calls Try.prog 36 #[.pointer (some ⟨p, 0, none⟩)] w fun e w' => LOut o e ∧ Below w.heap.size w w' := by
  have HH := Lib.hid h
  have HO := Lib.hid (show leastFrom s (s.dev.size - 2) 2 = o from ho)
  have h8 := h.dev.lo
  have h9 := h.dev.hi
  clear h ho
  go_enter Try.func36, Try.ntmps36
  go_wp2_with fail
  go_loopw [4] (fun i wr => ∃ j : Nat, 2 ≤ j ∧ j ≤ s.dev.size ∧ i = .int .i64 j ∧ Hid (leastFrom s (s.dev.size - j) j = o) ∧ Hid (Below w.heap.size w wr)) (fun i _ => s.dev.size - (intOf i).toNat)
  case atStart => exact ⟨2, Nat.le_refl _, by omega, rfl, HO, Lib.hid (Below.refl _ _)⟩
  case round =>
    obtain ⟨j, hj2, hj, rfl, HJ, HB⟩ := hrel
    clear HO
    have HR := Lib.hid (HH.out.below HB.out)
    have c3 := Has.at_ HR.out.obj 3
    simp at c3
    have HS := Lib.hid (size_dev _ _ _ _ wr HR.out.dev)
    have HF := Lib.hid (free_sto p F s j wr HR.out)
    go_wp2_with fail
    refine HS.out.mono ?_
    rintro e w' ⟨rfl, rfl⟩
    by_cases hlt : j < s.dev.size
    · obtain ⟨k, hk⟩ : ∃ k, s.dev.size - j = k + 1 := ⟨s.dev.size - j - 1, by omega⟩
      have HK := Lib.hid (show s.dev.size - (j + 1) = k by omega)
      have HJ2 := Lib.hid (show (if freeB s j = true then some j else leastFrom s k (j + 1)) = o by have := HJ.out; rw [hk] at this; exact this)
      clear hk HJ HS c3
      go_wp2_with fail
      refine HF.out.mono ?_
      rintro e w2 ⟨rfl, hb⟩
      have HB2 := Lib.hid (HB.out.trans (hb.mono HB.out.size))
      clear hb HF
      cases hf : freeB s j with
      | true =>
        have hge : o = some j := by have := HJ2.out; rw [hf] at this; exact this.symm
        subst hge
        clear hf
        go_wp2
        go_ret2
        exact ⟨rfl, HB2.out⟩
      | false =>
        have HJ3 := Lib.hid (show leastFrom s k (j + 1) = o by have := HJ2.out; rw [hf] at this; exact this)
        clear hf HJ2
        go_wp2
        go_roundw
        case rel => exact ⟨j + 1, by omega, by omega, by go_num, Lib.hid (by rw [HK.out]; exact HJ3.out), HB2⟩
        case measure => simp [intOf]; omega
    · have hge : o = none := by have := HJ.out; rw [show s.dev.size - j = 0 by omega] at this; exact this.symm
      subst hge
      clear c3 HS HF
      go_wp2
      go_ret2
      exact ⟨rfl, HB.out⟩
/-- How high a block is that names others. -/
def highs (f : Int → Option NodeV) : List Int → Int → Int
  | [], m => m
  | k :: l, m => highs f l (max m ((f k).map (·.high) |>.getD 0))
def aboveV (f : Int → Option NodeV) (kids : List Int) : Int := highs f kids 0 + 1
theorem highs_snoc (f : Int → Option NodeV) : ∀ (l : List Int) (k m : Int), highs f (l ++ [k]) m = max (highs f l m) ((f k).map (·.high) |>.getD 0)
  | [], k, m => rfl
  | x :: l, k, m => by
    show highs f (l ++ [k]) _ = _
    rw [highs_snoc f l k]
    rfl
/-- Heights are few. -/
def Low (s : SV) : Prop := ∀ z n, s.nodes z = some n → 1 ≤ n.high ∧ n.high ≤ 64
theorem highs_low {s : SV} (h : Low s) : ∀ (l : List Int) (m : Int), 0 ≤ m → m ≤ 64 → 0 ≤ highs s.nodes l m ∧ highs s.nodes l m ≤ 64
  | [], m, h0, h1 => ⟨h0, h1⟩
  | k :: l, m, h0, h1 => by
    unfold highs
    have hk : 0 ≤ ((s.nodes k).map (·.high) |>.getD 0) ∧ ((s.nodes k).map (·.high) |>.getD 0) ≤ 64 := by
      cases hn : s.nodes k with
      | none => exact ⟨by simp, by simp⟩
      | some n => have := h k n hn; simp; omega
    exact highs_low h l _ (by omega) (by omega)
set_option maxHeartbeats 400000 in
theorem above_sto (p : Nat) (F : Fr) (s : SV) (hlow : Low s) (A : Option Addr) (n c : Nat) (kids : List Int) (hn : n ≤ 1000000) (hk : ∀ k ∈ kids, (s.nodes k).isSome = true) (w : World) (h : StoIs w p F s) (hr : NumRow w A n kids) :
    Calls Try.prog 52 #[.pointer (some ⟨p, 0, none⟩), .slice A n c] w fun e w' => e = .returned (.int .i64 (aboveV s.nodes kids)) ∧ w = w' := by
  have HH := Lib.hid h
  have HR := Lib.hid hr
  have HL := Lib.hid hlow
  have HK := Lib.hid hk
  have c4 := Has.at_ h.obj 4
  simp at c4
  clear h hr hlow hk
  go_enter Try.func52, Try.ntmps52
  go_wp2
  go_loop [5, 10] (fun m i => ∃ j : Nat, j ≤ n ∧ i = .int .i64 j ∧ m = .int .i64 (highs s.nodes (kids.take j) 0)) (fun _ i => n - (intOf i).toNat)
  case atStart => exact ⟨0, Nat.zero_le _, rfl, rfl⟩
  case round =>
    obtain ⟨j, hj, rfl, rfl⟩ := hrel
    obtain ⟨m1, m2⟩ := highs_low HL.out (kids.take j) 0 (by decide) (by decide)
    by_cases hlt : j < n
    · obtain ⟨b, off, rfl, hbl, hcl⟩ := HR.out.2 (by omega)
      have hjl : j < kids.length := by rw [HR.out.1]; exact hlt
      have k1 := hcl j hjl
      have hs : highs s.nodes (kids.take (j + 1)) 0 = max (highs s.nodes (kids.take j) 0) ((s.nodes kids[j]).map (·.high) |>.getD 0) := by
        rw [List.take_succ_eq_append_getElem hjl, highs_snoc]
      have hmem := HK.out kids[j] (List.getElem_mem hjl)
      have hl := (HH.out.there.lookup mapN Dv.intT (.pointer none) zero_node kids[j]).1
      obtain ⟨nd, hnd⟩ := Option.isSome_iff_exists.1 hmem
      obtain ⟨A2, c2, q1, q2⟩ := HH.out.node kids[j] nd hnd
      have hhi := HL.out kids[j] nd hnd
      have e1 : (thereM F s.nodes kids[j]).getD (.pointer none) = .pointer (some ⟨F.g kids[j], 0, none⟩) := by unfold thereM; rw [hnd]; rfl
      rw [e1] at hl
      rw [hnd] at hs
      simp only [Option.map_some, Option.getD_some] at hs
      have k2 := Has.at_ q1 1
      simp [nodeC] at k2
      have HS := Lib.hid hs
      clear hcl hmem hnd q1 q2 e1 hs hbl
      generalize highs s.nodes (kids.take j) 0 = M at *
      generalize F.g kids[j] = G at *
      generalize kids[j] = kid at *
      generalize nd.high = H at *
      rcases Int.lt_trichotomy M H with hmx | hmx | hmx
      · have emx : max M H = H := by omega
        rw [emx] at HS
        clear emx
        go_wp2
        all_goals
          go_round
          case rel => exact ⟨j + 1, by omega, by go_num, by rw [HS.out]⟩
          case measure => simp [intOf]; omega
      · subst hmx
        rw [Int.max_self] at HS
        go_wp2
        all_goals
          go_round
          case rel => exact ⟨j + 1, by omega, by go_num, by rw [HS.out]⟩
          case measure => simp [intOf]; omega
      · have emx : max M H = M := by omega
        rw [emx] at HS
        clear emx
        go_wp2
        all_goals
          go_round
          case rel => exact ⟨j + 1, by omega, by go_num, by rw [HS.out]⟩
          case measure => simp [intOf]; omega
    · obtain rfl : j = n := by omega
      have hfull : kids.take j = kids := List.take_of_length_le (by rw [HR.out.1]; exact Nat.le_refl _)
      rw [hfull] at m1 m2 ⊢
      have HA := Lib.hid (show aboveV s.nodes kids = highs s.nodes kids 0 + 1 from rfl)
      generalize highs s.nodes kids 0 = M at *
      go_wp2
      go_ret
      exact ⟨by rw [HA.out]; rfl, rfl⟩
end Go.Proofs.Ytidkckapjelbmaa.Sto
