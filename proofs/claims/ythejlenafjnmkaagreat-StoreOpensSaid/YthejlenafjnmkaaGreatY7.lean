/- Both stores tell the same: contract of tells. -/
import Derived.Test.YthejlenafjnmkaaGreatY4
import Derived.Test.YthejlenafjnmkaaGreatSxA
import Derived.Test.YthejlenafjnmkaaGreatY6

namespace Go.Proofs.YthejlenafjnmkaaGreat.Sto
open Go.RowKit
open Oct (Has Chg)
open Rws
open Dv (RefIs ROwn)
set_option linter.unusedVariables false

theorem txt_self (x : ByteArray) : (x.toList == x.toList) = true := by simp
theorem cntN_succ (q : Int → Bool) (N : Nat) : cntN (N + 1) q = cntN N q + if q N = true then 1 else 0 := by
  unfold cntN
  simp only [List.range_succ, List.map_append, List.sum_append, List.map_cons, List.map_nil, List.sum_cons, List.sum_nil, Nat.add_zero]
theorem free_sum {N a : Nat} {V : SV} {cs : Nat → RC} {kp : Nat → Bool} (hI : Inv N a V) (hS : SameR N V cs kp) : ∀ M, M ≤ N → cntN M (isQ V) + cntN M (keptQ V) + cntR (freeQ cs kp) M + min M 2 = M
  | 0, _ => rfl
  | M + 1, h => by
    have ih := free_sum hI hS M (by omega)
    rw [cntN_succ, cntN_succ, cntR_succ]
    have e1 : isQ V M = (cs M).is := (hS.is_ M (by omega)).symm
    have e2 : keptQ V M = (kp M && !(cs M).is) := by
      unfold keptQ
      rw [hS.kept M (by omega), hS.is_ M (by omega)]
    have e3 : freeQ cs kp M = (decide (1 < M) && (!(cs M).is && !(kp M))) := rfl
    have h1 : (cs M).is = true → 2 ≤ M := fun h => by
      rw [hS.is_ M (by omega)] at h
      obtain ⟨i, e, h2, _⟩ := hI.acc.ids M h
      omega
    have h2 : kp M = true → 2 ≤ M := fun h => by
      rw [← hS.kept M (by omega)] at h
      obtain ⟨i, e, h2, _⟩ := hI.kept M h
      omega
    rw [e1, e2, e3]
    cases q1 : (cs M).is with
    | true =>
      have := h1 q1
      simp
      omega
    | false =>
      cases q2 : kp M with
      | true =>
        have := h2 q2
        simp
        omega
      | false =>
        by_cases q3 : 1 < M
        · simp [q3]
          omega
        · simp [q3]
          omega
theorem free_same {N a : Nat} {V : SV} {cs : Nat → RC} {kp : Nat → Bool} (hI : Inv N a V) (hS : SameR N V cs kp) : freeZ N V = (cntR (freeQ cs kp) N : Nat) := by
  have := free_sum hI hS N (Nat.le_refl _)
  have := hI.two
  unfold freeZ
  omega
theorem named_same {N a : Nat} {V : SV} {cs : Nat → RC} {kp : Nat → Bool} (hI : Inv N a V) (hS : SameR N V cs kp) {i : Int} {n : NodeV} (hn : V.nodes i = some n) : n.named = (namedR cs i N : Nat) := by
  have h := hI.acc.cnt i n hn
  rw [h]
  have e : tot N V.nodes i = namedR cs i N := sum_same _ _ N fun j hj => by
    unfold nmR
    rw [hS.is_ j hj]
    cases hj2 : V.nodes j with
    | none => rfl
    | some m =>
      rw [(hS.kids j hj m hj2).1.symm]
      rfl
  rw [e]
  rfl
theorem liveL_mem (cs : Nat → RC) : ∀ (N : Nat) (z : Int), z ∈ liveL cs N ↔ ∃ i : Nat, z = i ∧ i < N ∧ (cs i).is = true
  | 0, z => ⟨(fun h => by cases h), fun ⟨i, _, h, _⟩ => by omega⟩
  | N + 1, z => by
    have ih := liveL_mem cs N z
    unfold liveL
    split
    · rename_i h
      rw [List.mem_append, List.mem_singleton, ih]
      constructor
      · rintro (⟨i, e, hi, h2⟩ | e)
        · exact ⟨i, e, by omega, h2⟩
        · exact ⟨N, e, by omega, h⟩
      · rintro ⟨i, e, hi, h2⟩
        by_cases e2 : i = N
        · rw [e2] at e
          exact .inr e
        · exact .inl ⟨i, e, by omega, h2⟩
    · rename_i h
      rw [ih]
      constructor
      · rintro ⟨i, e, hi, h2⟩
        exact ⟨i, e, by omega, h2⟩
      · rintro ⟨i, e, hi, h2⟩
        by_cases e2 : i = N
        · rw [e2] at h2
          exact absurd h2 h
        · exact ⟨i, e, by omega, h2⟩
theorem liveL_up (cs : Nat → RC) : ∀ N, (liveL cs N).Pairwise (· < ·)
  | 0 => List.Pairwise.nil
  | N + 1 => by
    unfold liveL
    split
    · rw [List.pairwise_append]
      refine ⟨liveL_up cs N, by simp, fun x hx y hy => ?_⟩
      rw [List.mem_singleton] at hy
      obtain ⟨i, e, hi, _⟩ := (liveL_mem cs N x).1 hx
      omega
    · exact liveL_up cs N
theorem live_same {N a : Nat} {V : SV} {cs : Nat → RC} {kp : Nat → Bool} (hI : Inv N a V) (hS : SameR N V cs kp) {l : List Int} (h1 : l.Pairwise (· < ·)) (h2 : ∀ z, z ∈ l ↔ (V.nodes z).isSome = true) : l = liveL cs N :=
  Dv.rising_one h1 (liveL_up cs N) fun z => by
    rw [h2, liveL_mem]
    constructor
    · intro h
      obtain ⟨i, e, _, hi⟩ := hI.acc.ids z h
      exact ⟨i, e, hi, by rw [hS.is_ i hi, ← e]; exact h⟩
    · rintro ⟨i, e, hi, h⟩
      rw [hS.is_ i hi] at h
      rw [e]
      exact h
set_option maxRecDepth 100000 in
theorem rtells_nil (w : World) : Calls Tryz.prog 12 #[.pointer none, .pointer none] w fun e w' => e = .returned (.bool true) ∧ w = w' := by
  go_enter Tryz.func12, Tryz.ntmps12
  go_wp2
  go_ret
  exact ⟨rfl, rfl⟩
theorem refs_gone (p : Nat) (F : Fr) (s : SV) (id : Int) (hn : s.nodes id = none) (w : World) (h : StoIs w p F s) :
    Calls Tryz.prog 43 #[.pointer (some ⟨p, 0, none⟩), .int .i64 id] w fun e w' => e = .returned (.tuple #[.int .i64 0, .int .i64 0, .bool false]) ∧ w = w' := by
  have HM := Lib.hid (made_sto p F s w h)
  have HS := Lib.hid (has_sto p F s id w h)
  rw [show (s.nodes id).isSome = false by rw [hn]; rfl] at HS
  clear h hn
  go_enter Tryz.func43, Tryz.ntmps43
  go_wp2_with fail
  refine HM.out.mono ?_
  rintro e w' ⟨rfl, rfl⟩
  go_wp2_with fail
  refine HS.out.mono ?_
  rintro e w' ⟨rfl, rfl⟩
  go_wp2
  go_ret3
  exact ⟨rfl, rfl⟩
set_option maxRecDepth 100000 in
set_option maxHeartbeats 4000000 in
theorem rtells {N a : Nat} {V : SV} {cs : Nat → RC} {kp : Nat → Bool} (hI : Inv N a V) (hS : SameR N V cs kp) {w : World} {p : Nat} {F : Fr} (h : StoIs w p F V) {q cb kb pd ra rb rc : Nat} {B : BgV} {D : Dv.St} (hr : RefS w q cb kb pd ra rb rc N B D cs kp) (hg : V.gen = B.1) (hro : V.root = B.2.1) (hno : V.note = B.2.2) :
    Calls Tryz.prog 12 #[.pointer (some ⟨p, 0, none⟩), .pointer (some ⟨q, 0, none⟩)] w fun e w' => e = .returned (.bool true) ∧ Below w.heap.size w w' := by
  obtain ⟨g, ro, nt⟩ := B
  have hN := hI.two
  have HH := Lib.hid h
  have HR := Lib.hid hr
  have HI := Lib.hid hI
  have HS := Lib.hid hS
  have HRO := Lib.hid (root_sto p F V w h)
  rw [hg, hro, hno] at HRO
  have c0 := Has.at_ hr.obj 0
  have c1 := Has.at_ hr.obj 1
  have c2 := Has.at_ hr.obj 2
  simp at c0 c1 c2
  clear h hr hI hS hg hro hno
  have t1 := txt_self nt
  go_enter Tryz.func12, Tryz.ntmps12
  go_wp2_with fail
  refine HRO.out.mono ?_
  rintro e w1 ⟨rfl, hb1⟩
  have hr1 := HR.out.below hb1
  have c0 := Has.at_ hr1.obj 0
  have c1 := Has.at_ hr1.obj 1
  have c2 := Has.at_ hr1.obj 2
  simp at c0 c1 c2
  have HB1 := Lib.hid hb1
  have HF := Lib.hid (free_any p F V w1 (HH.out.below hb1))
  clear hb1 hr1 HRO
  go_wp2_with fail
  refine HF.out.mono ?_
  rintro e w2 ⟨hfr, hb2⟩
  obtain rfl := free_is HI.out hfr
  rw [free_same HI.out HS.out]
  have hbw2 := HB1.out.trans (hb2.mono HB1.out.size)
  have HB2 := Lib.hid hbw2
  have HRF := Lib.hid (rfree (HR.out.below hbw2))
  clear hb2 hbw2 hfr HF c0 c1 c2
  go_wp2_with fail
  refine HRF.out.mono ?_
  rintro e w3 ⟨rfl, rfl⟩
  have HLV := Lib.hid (Dv.live_any p F V N (by omega) (fun z hz => by
    obtain ⟨i, e, _, hi⟩ := HI.out.acc.ids z hz
    omega) w2 (HH.out.below HB2.out))
  clear HRF
  go_wp2_with fail
  refine HLV.out.mono ?_
  rintro e w4 ⟨v4, l4, rfl, ⟨hl1, hl2⟩, ho4, hb4⟩
  have hle := live_same HI.out HS.out hl1 hl2
  subst hle
  have hbw4 := HB2.out.trans (hb4.mono HB2.out.size)
  have HB4 := Lib.hid hbw4
  have HRL := Lib.hid (rlive (HR.out.below hbw4))
  have HO4 := Lib.hid ho4
  have HLN := Lib.hid (liveL_len cs N)
  clear hb4 hbw4 hl1 hl2 ho4 HLV HB2 HB1
  go_wp2_with fail
  refine HRL.out.mono ?_
  rintro e w5 ⟨v5, rfl, ho5, hb5⟩
  have ho45 : OwnI w5 w2.heap.size v4 (liveL cs N) := own_below HO4.out hb5
  obtain ⟨A4, k4, rfl⟩ := own_sl ho45
  obtain ⟨A5, k5, rfl⟩ := own_sl ho5
  have HEQ := Lib.hid (eqi_same A4 A5 _ _ k4 k5 (liveL cs N) (by have := HLN.out; omega) w5 (row_of_own ho45 rfl) (row_of_own ho5 rfl))
  have HB5 := Lib.hid (HB4.out.trans (hb5.mono HB4.out.size))
  clear ho45 ho5 hb5 HRL HO4 HB4
  go_wp2_with fail
  refine HEQ.out.mono ?_
  rintro e w6 ⟨rfl, hb6⟩
  have hbw6 := HB5.out.trans (hb6.mono HB5.out.size)
  have hr6 := HR.out.below hbw6
  have c4 := Has.at_ hr6.obj 4
  simp at c4
  have HB6 := Lib.hid hbw6
  clear hb6 hbw6 hr6 HEQ HB5 HLN
  go_wp2_with fail
  go_loopw [75] (fun i wr => ∃ j : Nat, j ≤ N ∧ i = .int .i64 j ∧ Hid (Below w.heap.size w wr)) (fun i _ => N - (intOf i).toNat)
  case atStart => exact ⟨0, Nat.zero_le _, rfl, HB6⟩
  case round =>
    obtain ⟨j, hj, rfl, HBJ⟩ := hrel
    clear HB6
    by_cases hlt : j < N
    · have HLT := Lib.hid hlt
      cases hn : V.nodes j with
      | none =>
        have HRE := Lib.hid (refs_gone p F V j hn wr (HH.out.below HBJ.out))
        have HIS := Lib.hid (show hasR N cs j = false by
          unfold hasR
          rw [if_pos ⟨by omega, by omega⟩, Int.toNat_natCast, HS.out.is_ j hlt, hn]
          rfl)
        have HRH := Lib.hid (rhas (HR.out.below HBJ.out) j)
        rw [HIS.out] at HRH
        clear hn
        go_wp2_with fail
        refine HRE.out.mono ?_
        rintro e w' ⟨rfl, rfl⟩
        go_wp2_with fail
        refine HRH.out.mono ?_
        rintro e w' ⟨rfl, rfl⟩
        go_wp2
        go_roundw
        case rel => exact ⟨j + 1, by omega, by go_num, HBJ⟩
        case measure => simp [intOf]; omega
      | some nd =>
        have HRE := Lib.hid (refs_sto p F V j nd hn wr (HH.out.below HBJ.out))
        rw [named_same HI.out HS.out hn] at HRE
        have hhe := (HS.out.kids j hlt nd hn).2
        rw [hhe] at HRE
        have HIS := Lib.hid (show hasR N cs j = true by
          unfold hasR
          rw [if_pos ⟨by omega, by omega⟩, Int.toNat_natCast, HS.out.is_ j hlt, hn]
          rfl)
        clear hn hhe
        go_wp2_with fail
        refine HRE.out.mono ?_
        rintro e w7 ⟨rfl, hb7⟩
        have hbw7 := HBJ.out.trans (hb7.mono HBJ.out.size)
        have HB7 := Lib.hid hbw7
        have HRH := Lib.hid (rhas (HR.out.below hbw7) j)
        rw [HIS.out] at HRH
        have HRN := Lib.hid (rnamed (HR.out.below hbw7) HS.out.few j)
        clear hb7 hbw7 HRE
        go_wp2_with fail
        refine HRH.out.mono ?_
        rintro e w' ⟨rfl, rfl⟩
        go_wp2_with fail
        refine HRN.out.mono ?_
        rintro e w8 ⟨rfl, hb8⟩
        have hbw8 := HB7.out.trans (hb8.mono HB7.out.size)
        have hr8 := HR.out.below hbw8
        have c4 := Has.at_ hr8.obj 4
        simp at c4
        obtain ⟨_, _, g2⟩ := hr8.cells.get hlt
        have HB8 := Lib.hid hbw8
        clear hb8 hbw8 hr8 HRN HRH HB7
        go_wp2
        go_roundw
        case rel => exact ⟨j + 1, by omega, by go_num, HB8⟩
        case measure => simp [intOf]; omega
    · obtain rfl : j = N := by omega
      go_wp2
      go_ret
      exact ⟨rfl, HBJ.out⟩
end Go.Proofs.YthejlenafjnmkaaGreat.Sto
/- StoreOpens: its arguments, and its walk whole. -/
namespace Go.Proofs.YthejlenafjnmkaaGreat.Sto
open Go.ChangeShapes Go.WideShapes Go.ChangeAt Go.RowKit
open Rws
open Dv (DoV)

set_option maxRecDepth 100000 in
set_option maxHeartbeats 2000000 in
theorem cells_do_raw : Tryz.prog.cellsOf 59 = 4 := by kernel_rfl
set_option maxRecDepth 100000 in
set_option maxHeartbeats 2000000 in
theorem do_cells_raw {H : Type} {enc : TypeId × Value → H} {w : World} {base : Nat} {spare : Nat → Bool} {held : Bool} {fuel : Nat} {cs : List Value} {x : DataW H × List MemPlace}
    (h : DataW.trod enc Tryz.prog w base spare held fuel 59 cs = some x) (hlt : ∀ q ∈ x.2, q.block < w.heap.size) :
    ∃ y : DoC, cs = [.int .i64 y.v.op, .int .i64 y.v.i, .slice y.A y.n y.c, .string y.v.s] ∧ Fits w y := by
  obtain ⟨xs, n, _, rfl, hlen, hxs, hf⟩ := DataW.trod_struct Tryz.underlying59 h
  rw [cells_do_raw] at hlen
  have hx4 : xs.length = 4 := hxs
  match cs, hlen with
  | [v0, v1, v2, v3], _ =>
    match xs, hx4 with
    | [x0, x1, x2, x3], _ =>
      have t0 : DataW.trod enc Tryz.prog w base spare held n 3 (([v0, v1, v2, v3].drop 0).take (Tryz.prog.cellsOf 3)) = some x0 := hf 0 _ rfl
      have t1 : DataW.trod enc Tryz.prog w base spare held n 3 (([v0, v1, v2, v3].drop 1).take (Tryz.prog.cellsOf 3)) = some x1 := hf 1 _ rfl
      have t2 : DataW.trod enc Tryz.prog w base spare held n 9 (([v0, v1, v2, v3].drop 3).take (Tryz.prog.cellsOf 9)) = some x3 := hf 3 _ rfl
      have t3 : DataW.trod enc Tryz.prog w base spare held n 40 (([v0, v1, v2, v3].drop 2).take (Tryz.prog.cellsOf 40)) = some x2 := hf 2 _ rfl
      rw [cells_i] at t0 t1
      rw [cells_s] at t2
      rw [cells_is] at t3
      have hl3 : ∀ q ∈ x2.2, q.block < w.heap.size := fun q hq => hlt q (by simp [hq])
      obtain ⟨z0, e0, _, w0⟩ := DataW.trod_int Tryz.underlying3 t0
      obtain ⟨z1, e1, _, w1⟩ := DataW.trod_int Tryz.underlying3 t1
      obtain ⟨z2, e2, _, w2⟩ := DataW.trod_string Tryz.underlying9 t2
      simp at e0 e1 e2
      subst e0 e1 e2
      rcases open_ints Tryz.underlying40 Tryz.underlying3 cells_i t3 with ⟨hcs, _⟩ | ⟨a, len, cap, zs, hcs, _, hl, hm, hz, hx, hcell, hwz⟩
      · simp at hcs
        subst hcs
        exact ⟨⟨⟨z0, z1, z2, []⟩, none, 0, 0⟩, rfl, ⟨rfl, fun h => absurd (show 0 < 0 from h) (by omega)⟩, Nat.le_refl _, Nat.zero_le _, w2, wf_i64 w0, wf_i64 w1⟩
      · simp at hcs
        subst hcs
        have hle : len ≤ zs.length := by rw [hz]; split <;> omega
        refine ⟨⟨⟨z0, z1, z2, zs.take len⟩, some a, len, cap⟩, rfl, ⟨by show (zs.take len).length = len; rw [List.length_take]; omega, fun h0 => ?_⟩, hl, hm, w2, wf_i64 w0, wf_i64 w1⟩
        have h0 : 0 < len := h0
        obtain ⟨b, off, spot⟩ := a
        have hspot : spot = none := by simpa [Addr.add] using World.cell?_spot (hcell 0 (by omega))
        subst hspot
        have hbW : b < w.heap.size := hl3 (.cell b off) (by rw [hx]; exact MemPlace.mem_row.2 ⟨0, by omega, by simp⟩)
        refine ⟨b, off, rfl, hbW, fun i hi => ?_⟩
        have hi' : i < len := by simp at hi; omega
        have hc := hcell i (by omega)
        rw [add_plain] at hc
        rw [hc, List.getElem_take]
        simp [List.getD, List.getElem?_eq_getElem (show i < zs.length by omega)]
set_option maxRecDepth 100000 in
set_option maxHeartbeats 2000000 in
theorem open_do_raw {H : Type} {enc : TypeId × Value → H} {w : World} {base b0 : Nat} {r : Reach} {spare : Nat → Bool} {held : Bool} {v : Value} {d : DataW H} {ps : List MemPlace}
    (hv : Value.okWide Tryz.prog w r b0 59 v) (h : DataW.Trod enc Tryz.prog w base spare held 59 v d ps) (hlt : ∀ x ∈ ps, x.block < w.heap.size) :
    ∃ y : DoC, v = .agg #[.int .i64 y.v.op, .int .i64 y.v.i, .slice y.A y.n y.c, .string y.v.s] ∧ Fits w y := by
  obtain ⟨xs, rfl⟩ := okWide_agg Tryz.underlying59 hv
  obtain ⟨fuel, hf⟩ := h
  obtain ⟨y, hy, hfit⟩ := do_cells_raw hf hlt
  refine ⟨y, ?_, hfit⟩
  have h2 : xs.toList = _ := hy
  congr 1
  apply Array.ext'
  rw [h2]
set_option maxRecDepth 100000 in
set_option maxHeartbeats 2000000 in
theorem open_dos_raw {H : Type} {enc : TypeId × Value → H} {w : World} {base b0 : Nat} {r : Reach} {spare : Nat → Bool} {held : Bool} {v : Value} {d : DataW H} {ps : List MemPlace}
    (hv : Value.okWide Tryz.prog w r b0 57 v) (h : DataW.Trod enc Tryz.prog w base spare held 57 v d ps) (hlt : ∀ x ∈ ps, x.block < w.heap.size) :
    ∃ A n cap xs, v = .slice A n cap ∧ DoRow w A n xs ∧ n ≤ cap ∧ cap ≤ maxLen := by
  obtain ⟨a0, len, cap, rfl⟩ := okWide_slice Tryz.underlying57 hv
  obtain ⟨fuel, hf⟩ := h
  rcases Deep.open_slice Tryz.underlying57 hf with ⟨hcs, hx⟩ | ⟨a, len', cap', m, n, D, Pl, hcs, _, hl, hm, hmm, hx, hcell⟩
  · simp [Value.cells] at hcs
    obtain ⟨rfl, rfl, rfl⟩ := hcs
    exact ⟨none, 0, 0, [], rfl, ⟨rfl, fun h => absurd h (by omega), fun x hx => by cases hx⟩, Nat.le_refl _, Nat.zero_le _⟩
  · simp [Value.cells] at hcs
    obtain ⟨rfl, rfl, rfl⟩ := hcs
    simp only [Prod.mk.injEq] at hx
    obtain ⟨rfl, rfl⟩ := hx
    rw [cells_do_raw] at hcell hlt
    have hle : len ≤ m := by rw [hmm]; split <;> omega
    have hpl : ∀ i, i < m → ∀ q ∈ Pl i, q.block < w.heap.size := fun i hi q hq => hlt q (List.mem_append_right _ (List.mem_flatMap.2 ⟨i, List.mem_range.2 hi, hq⟩))
    have each : ∀ i, i < m → ∃ y : DoC, w.cells? base (a.add (i * 4)) 4 = some [.int .i64 y.v.op, .int .i64 y.v.i, .slice y.A y.n y.c, .string y.v.s] ∧ Fits w y := by
      intro i hi
      obtain ⟨cs', hc, ht⟩ := hcell i hi
      obtain ⟨y, rfl, hfit⟩ := do_cells_raw ht (hpl i hi)
      exact ⟨y, hc, hfit⟩
    have hex : ∃ f : Nat → DoC, ∀ i, i < m → w.cells? base (a.add (i * 4)) 4 = some [.int .i64 (f i).v.op, .int .i64 (f i).v.i, .slice (f i).A (f i).n (f i).c, .string (f i).v.s] ∧ Fits w (f i) := by
      refine ⟨fun i => if h : i < m then (each i h).choose else ⟨⟨0, 0, ⟨#[]⟩, []⟩, none, 0, 0⟩, fun i hi => ?_⟩
      simp only [dif_pos hi]
      exact (each i hi).choose_spec
    obtain ⟨f, hf⟩ := hex
    refine ⟨some a, len, cap, (List.range len).map f, rfl, ⟨by simp, fun h0 => ?_, fun x hx => ?_⟩, hl, hm⟩
    · have c4 : ∀ i, i < m → w.cell? ((a.add (i * 4)).add 0) = some (.int .i64 (f i).v.op) ∧ w.cell? ((a.add (i * 4)).add 1) = some (.int .i64 (f i).v.i) ∧ w.cell? ((a.add (i * 4)).add 2) = some (.slice (f i).A (f i).n (f i).c) ∧ w.cell? ((a.add (i * 4)).add 3) = some (.string (f i).v.s) := by
        intro i hi
        have h1 := (hf i hi).1
        unfold World.cells? at h1
        split at h1
        · rw [show List.range 4 = [0, 1, 2, 3] from rfl] at h1
          simp [Option.bind_eq_some_iff] at h1
          exact h1
        · cases h1
      obtain ⟨b, off, spot⟩ := a
      have hspot : spot = none := by
        have := World.cell?_spot (c4 0 (by omega)).1
        simpa [Addr.add] using this
      subst hspot
      have hbW : b < w.heap.size := hlt (.cell b off) (List.mem_append_left _ (MemPlace.mem_row.2 ⟨0, by omega, by simp⟩))
      refine ⟨b, off, rfl, hbW, fun i hi => ?_⟩
      have hi' : i < len := by simpa using hi
      obtain ⟨c0, c1, c2, c3⟩ := c4 i (by omega)
      simp only [add_plain, List.getElem_map, List.getElem_range] at c0 c1 c2 c3 ⊢
      exact ⟨c0, c1, c2, c3⟩
    · obtain ⟨i, hi, rfl⟩ := List.mem_map.1 hx
      exact (hf i (by have := List.mem_range.1 hi; omega)).2

theorem opens_walk (w : World) (a0 : Int) (A1 : Option Addr) (n1 c1 : Nat) (a1 : List DoC) (_ : (Lit.int .i64 a0).wf = true) (w1 : DoRow w A1 n1 a1) (b1 : n1 ≤ c1) (m1 : c1 ≤ maxLen) :
    Calls Tryz.prog 4 #[.int .i64 a0, .slice A1 n1 c1] w fun e w' => e = .returned (.bool true) ∧ Below w.heap.size w w' := by
  have hm : n1 ≤ 9223372036854775807 := Nat.le_trans b1 (Nat.le_trans m1 (by unfold maxLen; decide))
  refine opens_walk0 ?_ ?_ a0 A1 n1 c1 a1 hm w w1
  · intro N a V cs kp hI hS w p F h q cb kb pd ra rb rc B D hr hg hro hno
    exact rtells hI hS h hr hg hro hno
  · exact rtells_nil
end Go.Proofs.YthejlenafjnmkaaGreat.Sto
