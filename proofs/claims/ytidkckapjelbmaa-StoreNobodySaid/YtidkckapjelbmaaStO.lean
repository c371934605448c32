/- Blocks are kept; a commit: contracts. -/
import Derived.Test.YtidkckapjelbmaaStN
namespace Go.Proofs.Ytidkckapjelbmaa.Sto
open Go.RowKit
open Oct (Has Chg)
open Rws
open Mem (IMap)

/-- What is kept when a block is kept, and all below it (at most so many levels). -/
def keepV (f : Int → Option NodeV) : Nat → (Int → Bool) → Int → (Int → Bool)
  | 0, K, _ => K
  | n + 1, K, id => if K id = true then K else match f id with
    | none => K
    | some nd => nd.kids.foldl (keepV f n) (fun z => z == id || K z)
/-- Blocks stand below those that name them. -/
def Down (f : Int → Option NodeV) : Prop := ∀ z n, f z = some n → 1 ≤ n.high ∧ n.kids.length ≤ 1000 ∧ ∀ k ∈ n.kids, ∃ m, f k = some m ∧ m.high < n.high
theorem StoIs.keepOne {w w6 : World} {p : Nat} {F : Fr} {s : SV} (h : StoIs w p F s) {id : Int}
    (hm : IMap w6 F.k (Mem.upd (keptM s.kept) id (.agg #[]))) (hc : Chg (· = F.k) w w6) : StoIs w6 p F { s with kept := fun z => z == id || s.kept z } := by
  have pk : p ≠ F.k := fun e => map_ne h.kept h.obj e.symm
  have dk : F.d ≠ F.k := fun e => map_ne h.kept (show Oct.Has w F.d _ _ from h.dev.obj) e.symm
  refine ⟨h.obj.over hc pk, h.dev.over hc.to dk h.kdk.symm h.kdd.symm, h.there.over hc.to h.tk, ?_, fun z m hz => ?_, h.inj, h.tk, h.tdk, h.tdd, h.kdk, h.kdd⟩
  · have e : keptM (fun z => z == id || s.kept z) = Mem.upd (keptM s.kept) id (.agg #[]) := by
      funext z
      unfold keptM Mem.upd
      by_cases e : z = id
      · simp [e]
      · have : (z == id) = false := beq_eq_false_iff_ne.2 e
        simp [e]
    show IMap w6 F.k (keptM (fun z => z == id || s.kept z))
    rw [e]
    exact hm
  · obtain ⟨A, c, k1, k2⟩ := h.node z m hz
    exact ⟨A, c, k1.over hc (fun e => map_ne h.kept k1 e.symm), own_map k2 h.kept hc⟩
theorem map_cell {w : World} {b g off : Nat} {m : Int → Option Value} {v : Value} (h : IMap w g m) (hb : b = g) (hc : w.cell? ⟨b, off, none⟩ = some v) : False := by
  subst hb
  rw [h.no_cell] at hc
  cases hc
theorem row_of_own {w : World} {b n : Nat} {A : Option Addr} {c : Nat} {l : List Int} (h : w.ownsRow b 3 1 (.slice A n c) n (l.map (Value.int .i64))) (hl : l.length = n) : NumRow w A n l := by
  refine ⟨hl, fun hn => ?_⟩
  rcases h.2 with ⟨e, e0⟩ | ⟨g, cap, cur, e, hb, hh, k⟩
  · omega
  · injection e with e1 e2 e3
    subst e1
    refine ⟨g, 0, rfl, (Array.getElem?_eq_some_iff.1 hh).1, fun i hi => ?_⟩
    have hs : w.ownsRow b 3 1 (.slice (some ⟨g, 0, none⟩) n c) n (l.map (Value.int .i64)) := h
    have := World.ownsRow.cells hs (g := g) rfl i (.int .i64 l[i]) (by rw [List.getElem?_map, List.getElem?_eq_getElem hi]; rfl)
    have ha : (⟨g, 0, none⟩ : Addr).add i = ⟨g, 0 + i, none⟩ := by
      unfold Addr.add
      split
      · next h => rw [h]
      · simp
    rw [ha] at this
    exact this
set_option maxRecDepth 100000 in
set_option maxHeartbeats 2000000 in
theorem keep_sto (p : Nat) (F : Fr) (n : Nat) : ∀ (s : SV) (_ : Down s.nodes) (id : Int) (nd : NodeV) (_ : s.nodes id = some nd) (_ : nd.high ≤ n) (w : World) (_ : StoIs w p F s),
    Calls Try.prog 45 #[.pointer (some ⟨p, 0, none⟩), .int .i64 id] w fun e w' => e = .returned (.tuple #[]) ∧ StoIs w' p F { s with kept := keepV s.nodes n s.kept id } ∧ Chg (· = F.k) w w' := by
  induction n with
  | zero =>
    intro s hdn id nd hnd hh w h
    have := (hdn id nd hnd).1
    omega
  | succ n ih =>
    intro s hdn id nd hnd hh w h
    have HIH := Lib.hid ih
    have hl := (h.kept.lookup mapK Dv.intT (.agg #[]) zero_unit id).2
    have e1 : (keptM s.kept id).isSome = s.kept id := by unfold keptM; cases s.kept id <;> rfl
    have e2 : (keptM s.kept id).getD (.agg #[]) = .agg #[] := by unfold keptM; cases s.kept id <;> rfl
    rw [e1, e2] at hl
    have c5 := Has.at_ h.obj 5
    simp at c5
    have hB0 := (Below.refl w.heap.size w).alloc (Nat.le_refl _) (.cells #[] 109)
    have HB0 := Lib.hid hB0
    have H0 := Lib.hid (h.below hB0)
    have HDN := Lib.hid hdn
    have HND := Lib.hid hnd
    have HHI := Lib.hid hh
    clear e1 e2 ih hdn hnd hh h hB0
    cases hk : s.kept id with
    | true =>
      have HE := Lib.hid (show keepV s.nodes (n + 1) s.kept id = s.kept from if_pos hk)
      rw [hk] at hl
      go_enter Try.func45, Try.ntmps45
      go_wp2
      exact bodyPost_ret (v := .tuple #[]) (by simp [results, Try.results45, go_sem]) rfl ⟨rfl, by rw [HE.out]; exact H0.out, Chg.of_below HB0.out _⟩
    | false =>
      have HE := Lib.hid (show keepV s.nodes (n + 1) s.kept id = nd.kids.foldl (keepV s.nodes n) (fun z => z == id || s.kept z) by
        show (if s.kept id = true then s.kept else match s.nodes id with | none => s.kept | some nd => nd.kids.foldl (keepV s.nodes n) (fun z => z == id || s.kept z)) = _
        rw [if_neg (by rw [hk]; decide), HND.out])
      rw [hk] at hl
      have d5 := Has.at_ H0.out.obj 5
      simp at d5
      obtain ⟨w6, hu, m6, g6, z6⟩ := H0.out.kept.update mapK Dv.intT id (.agg #[])
      have h6 := H0.out.keepOne m6 (Oct.Chg.of g6)
      have c4 := Has.at_ h6.obj 4
      simp at c4
      have hl2 := (h6.there.lookup mapN Dv.intT (.pointer none) zero_node id).1
      have e3 : (thereM F s.nodes id).getD (.pointer none) = .pointer (some ⟨F.g id, 0, none⟩) := by unfold thereM; rw [HND.out]; rfl
      replace hl2 : (Instr.lookup 52 (.map (some F.t)) (.int .i64 id) false).run Try.prog w6 = .ok (.pointer (some ⟨F.g id, 0, none⟩)) w6 := by rw [← e3]; exact hl2
      obtain ⟨A2, c2, q1, q2⟩ := h6.node id nd HND.out
      have k0 := Has.at_ q1 0
      simp [nodeC] at k0
      have HROW := Lib.hid (row_of_own q2 rfl)
      have HQ1 := Lib.hid q1
      have HQ2 := Lib.hid q2
      have HKM := Lib.hid h6.kept
      have H6 := Lib.hid (show StoIs w6 p F { s with kept := (nd.kids.take 0).foldl (keepV s.nodes n) (fun z => z == id || s.kept z) } from h6)
      have HC6 := Lib.hid ((Chg.of_below HB0.out (· = F.k)).trans (Oct.Chg.of g6))
      have HLN := Lib.hid ((HDN.out id nd HND.out).2.1)
      clear m6 g6 z6 h6 e3 q1 q2 H0 HB0 hk
      go_enter Try.func45, Try.ntmps45
      go_wp2
      clear hl c5 d5 hu c4 hl2 k0
      go_loopw [34] (fun i wr => ∃ j : Nat, j ≤ nd.kids.length ∧ i = .int .i64 j ∧ Hid (StoIs wr p F { s with kept := (nd.kids.take j).foldl (keepV s.nodes n) (fun z => z == id || s.kept z) }) ∧ Hid (Chg (· = F.k) w wr) ∧ Hid (Chg (· = F.k) w6 wr)) (fun i _ => nd.kids.length - (intOf i).toNat)
      case atStart => exact ⟨0, Nat.zero_le _, rfl, H6, HC6, Lib.hid (Chg.refl _ _)⟩
      case round =>
        obtain ⟨j, hj, rfl, HJ, HC, HCW⟩ := hrel
        clear H6 HC6
        have hl9 := HLN.out
        have hrow := row_chg HROW.out HCW.out (fun h0 b off e hb => by
          obtain ⟨b', off', e', hlt', hx'⟩ := HROW.out.2 h0
          rw [e] at e'
          injection e' with e'
          injection e' with e1 e2 e3
          have hq := hx' 0 (by omega)
          rw [← e1] at hq
          exact map_cell HKM.out hb hq)
        by_cases hlt : j < nd.kids.length
        · obtain ⟨b, off, rfl, hbl, hcl⟩ := hrow.2 (by omega)
          have k1 := hcl j hlt
          obtain ⟨mk, hm1, hm2⟩ := (HDN.out id nd HND.out).2.2 nd.kids[j] (List.getElem_mem hlt)
          have HR := Lib.hid (HIH.out { s with kept := (nd.kids.take j).foldl (keepV s.nodes n) (fun z => z == id || s.kept z) } HDN.out nd.kids[j] mk hm1 (by have := HHI.out; omega) wr HJ.out)
          have HT := Lib.hid (show (nd.kids.take (j + 1)).foldl (keepV s.nodes n) (fun z => z == id || s.kept z) = keepV s.nodes n ((nd.kids.take j).foldl (keepV s.nodes n) (fun z => z == id || s.kept z)) nd.kids[j] by
            rw [List.take_succ_eq_append_getElem hlt, List.foldl_append]
            rfl)
          clear hrow hcl hbl hm1 hm2
          generalize nd.kids[j] = kid at *
          go_wp2_with fail
          refine HR.out.mono ?_
          rintro e w7 ⟨rfl, h7, c7⟩
          have HS := Lib.hid (show StoIs w7 p F { s with kept := (nd.kids.take (j + 1)).foldl (keepV s.nodes n) (fun z => z == id || s.kept z) } by rw [HT.out]; exact h7)
          have HC7 := Lib.hid (HC.out.trans c7)
          have HCW7 := Lib.hid (HCW.out.trans c7)
          clear h7 c7 HR
          go_wp2
          go_roundw
          case rel => exact ⟨j + 1, by omega, by go_num, HS, HC7, HCW7⟩
          case measure => simp [intOf]; omega
        · have hje : j = nd.kids.length := by omega
          have hfull : nd.kids.take j = nd.kids := List.take_of_length_le (by omega)
          rw [hfull] at HJ
          subst hje
          go_wp2
          go_end0
          exact ⟨rfl, by rw [HE.out]; exact HJ.out, HC.out⟩
end Go.Proofs.Ytidkckapjelbmaa.Sto
