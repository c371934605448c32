/- Whether there can be a block; a store whose device has changed: contracts. -/
import Derived.Test.YtidkckapjelbmaaStJ
namespace Go.Proofs.Ytidkckapjelbmaa.Sto
open Go.RowKit
open Oct (Has Chg)
open Rws
open Mem (IMap)

def allB (f : Int → Option NodeV) (l : List Int) : Bool := l.all fun k => (f k).isSome
/-- Whether there can be such a block. -/
def canB (s : SV) (kids : List Int) (data : ByteArray) : Bool := decide (kids.length ≤ 16) && (decide (data.size ≤ 3900) && (allB s.nodes kids && decide (aboveV s.nodes kids ≤ 64)))
set_option maxHeartbeats 1000000 in
theorem can_sto (p : Nat) (F : Fr) (s : SV) (hlow : Low s) (A : Option Addr) (n c : Nat) (kids : List Int) (data : ByteArray) (w : World) (h : StoIs w p F s) (hr : NumRow w A n kids) :
    Calls Try.prog 35 #[.pointer (some ⟨p, 0, none⟩), .slice A n c, .string data] w fun e w' => e = .returned (.bool (canB s kids data)) ∧ w = w' := by
  have HH := Lib.hid h
  have HR := Lib.hid hr
  have HL := Lib.hid hlow
  have HN := Lib.hid hr.1
  clear h hr hlow
  by_cases h1 : n ≤ 16
  · by_cases h2 : data.size ≤ 3900
    · have t1 : ¬ 16 < (n : Int) := by omega
      have t2 : ¬ 3900 < (data.size : Int) := by omega
      have HC := Lib.hid (show canB s kids data = (allB s.nodes kids && decide (aboveV s.nodes kids ≤ 64)) by unfold canB; rw [decide_eq_true (by rw [HN.out]; exact h1), decide_eq_true h2]; rfl)
      clear h2
      go_enter Try.func35, Try.ntmps35
      go_wp2
      go_loop [19] (fun i => ∃ j : Nat, j ≤ n ∧ i = .int .i64 j ∧ Hid (∀ k ∈ kids.take j, (s.nodes k).isSome = true)) (fun i => n - (intOf i).toNat)
      case atStart => exact ⟨0, Nat.zero_le _, rfl, Lib.hid (by simp)⟩
      case round =>
        obtain ⟨j, hj, rfl, HJ⟩ := hrel
        by_cases hlt : j < n
        · obtain ⟨b, off, rfl, hbl, hcl⟩ := HR.out.2 (by omega)
          have hjl : j < kids.length := by rw [HN.out]; exact hlt
          have k1 := hcl j hjl
          have HT := Lib.hid (show kids.take (j + 1) = kids.take j ++ [kids[j]] from List.take_succ_eq_append_getElem hjl)
          have HM := Lib.hid (List.getElem_mem hjl)
          have HS := Lib.hid (has_sto p F s kids[j] w HH.out)
          clear hcl hbl
          generalize kids[j] = kid at *
          clear hjl
          go_wp2_with fail
          refine HS.out.mono ?_
          rintro e w' ⟨rfl, rfl⟩
          cases hs : (s.nodes kid).isSome with
          | false =>
            have hge : canB s kids data = false := by
              rw [HC.out]
              have : allB s.nodes kids = false := by
                unfold allB
                rw [List.all_eq_false]
                exact ⟨kid, HM.out, by rw [hs]; decide⟩
              rw [this]
              rfl
            have HG := Lib.hid hge
            clear hge hs
            go_wp2
            go_ret
            exact ⟨by rw [HG.out]; rfl, rfl⟩
          | true =>
            have HS2 := Lib.hid hs
            clear hs
            go_wp2
            go_round
            case rel => exact ⟨j + 1, by omega, by go_num, Lib.hid (by
              rw [HT.out]
              intro k hk
              rcases List.mem_append.1 hk with e | e
              · exact HJ.out k e
              · rw [List.mem_singleton.1 e]; exact HS2.out)⟩
            case measure => simp [intOf]; omega
        · obtain rfl : j = n := by omega
          have hfull : kids.take j = kids := List.take_of_length_le (by rw [HN.out]; exact Nat.le_refl _)
          have hall := HJ.out
          rw [hfull] at hall
          have HA := Lib.hid (above_sto p F s HL.out A j c kids (by omega) hall w HH.out HR.out)
          have hge : canB s kids data = decide (aboveV s.nodes kids ≤ 64) := by
            rw [HC.out]
            have : allB s.nodes kids = true := List.all_eq_true.2 hall
            rw [this]
            rfl
          have HG := Lib.hid hge
          clear hge hall hfull HJ
          go_wp2_with fail
          refine HA.out.mono ?_
          rintro e w' ⟨rfl, rfl⟩
          go_wp2
          go_ret
          exact ⟨by rw [HG.out]; rfl, rfl⟩
    · have t1 : ¬ 16 < (n : Int) := by omega
      have t2 : 3900 < (data.size : Int) := by omega
      have HC := Lib.hid (show canB s kids data = false by unfold canB; rw [decide_eq_false h2]; simp)
      clear h2
      go_enter Try.func35, Try.ntmps35
      go_wp2
      go_ret
      exact ⟨by rw [HC.out]; rfl, rfl⟩
  · have t1 : 16 < (n : Int) := by omega
    have HC := Lib.hid (show canB s kids data = false by unfold canB; rw [decide_eq_false (by rw [HN.out]; exact h1)]; rfl)
    clear h1
    go_enter Try.func35, Try.ntmps35
    go_wp2
    go_ret
    exact ⟨by rw [HC.out]; rfl, rfl⟩
/-- A row of numbers stays where only a device has changed. -/
theorem own_dev {w w' : World} {b n d dk dd : Nat} {v : Value} {xs : List Value} {D : Dv.St} (h : w.ownsRow b 3 1 v n xs) (hd : Dv.DevIs w d dk dd D) (hc : Chg (Dv.Own d dk dd) w w') : w'.ownsRow b 3 1 v n xs := by
  refine ⟨h.1, ?_⟩
  rcases h.2 with k | ⟨q, cap, cur, e1, hb, hh, k⟩
  · exact .inl k
  · have hq : Has w q 3 _ := hh
    refine .inr ⟨q, cap, cur, e1, hb, ?_, k⟩
    rw [hc.block q hq.bound (fun e => ?_)]
    · exact hh
    · rcases e with e | e | e
      · exact has_ne hq (show Has w d _ _ from hd.obj) (by decide) e
      · exact map_ne hd.kept hq e.symm
      · exact map_ne hd.dirt hq e.symm
theorem StoIs.devs {w w' : World} {p : Nat} {F : Fr} {s : SV} (h : StoIs w p F s) {D : Dv.St} (hd : Dv.DevIs w' F.d F.dk F.dd D) (hc : Chg (Dv.Own F.d F.dk F.dd) w w') : StoIs w' p F { s with dev := D } := by
  have hdo : Has w F.d _ _ := h.dev.obj
  have ne : ∀ {g : Nat} {t : TypeId} {cs : Array Value}, Has w g t cs → t ≠ 71 → ¬ Dv.Own F.d F.dk F.dd g := fun k hne e => by
    rcases e with e | e | e
    · exact has_ne k hdo hne e
    · exact map_ne h.dev.kept k e.symm
    · exact map_ne h.dev.dirt k e.symm
  have nm : ∀ {g : Nat} {m : Int → Option Value}, IMap w g m → g ≠ F.dk → g ≠ F.dd → ¬ Dv.Own F.d F.dk F.dd g := fun k e1 e2 e => by
    rcases e with e | e | e
    · exact map_ne k hdo e
    · exact e1 e
    · exact e2 e
  refine ⟨h.obj.over hc (ne h.obj (by decide)), hd, h.there.over hc.to (nm h.there h.tdk h.tdd), h.kept.over hc.to (nm h.kept h.kdk h.kdd), fun z n hz => ?_, h.inj, h.tk, h.tdk, h.tdd, h.kdk, h.kdd⟩
  obtain ⟨A, c, k1, k2⟩ := h.node z n hz
  exact ⟨A, c, k1.over hc (ne k1 (by decide)), own_dev k2 h.dev hc⟩
end Go.Proofs.Ytidkckapjelbmaa.Sto
