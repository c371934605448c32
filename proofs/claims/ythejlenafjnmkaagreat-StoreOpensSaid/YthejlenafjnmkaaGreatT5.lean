import Derived.Test.YthejlenafjnmkaaGreatT4
import Derived.Test.YthejlenafjnmkaaGreatReg
import Derived.Deep.RegionHeld3
import Derived.Lib.SliceRun
import Derived.Lib.AppendStr

/- The least free block, and how high a block is: contracts. -/
namespace Go.Proofs.YthejlenafjnmkaaGreat.Sto
open Go.RowKit
open Oct (Has Chg)
open Rws
open Mem (IMap)

theorem size_dev (p bk bd : Nat) (d : Dv.St) (w : World) (h : Dv.DevIs w p bk bd d) :
    Calls Tryz.prog 33 #[.pointer (some ⟨p, 0, none⟩)] w fun e w' => e = .returned (.int .i64 d.size) ∧ w = w' := by
  have c2 := Mem.Has.at_ h.obj 2
  simp at c2
  have HM := Lib.hid (Dv.made_any p bk bd d w h)
  clear h
  go_enter Tryz.func33, Tryz.ntmps33
  go_wp2_with fail
  refine HM.out.mono ?_
  rintro e w' ⟨rfl, rfl⟩
  go_wp2
  go_ret
  exact ⟨rfl, rfl⟩
theorem int_eq {a b : Int} (h : a = b) : Value.int .i64 a = .int .i64 b := by rw [h]
def leastFrom (s : SV) : Nat → Nat → Option Nat
  | 0, _ => none
  | n + 1, i => if freeB s i = true then some i else leastFrom s n (i + 1)
/-- The first block that is free. -/
def least (s : SV) : Option Nat := leastFrom s (s.dev.size - 2) 2
def LOut (o : Option Nat) (e : Ending) : Prop :=
  match o with
  | some i => e = .returned (.tuple #[.int .i64 (i : Nat), .bool true])
  | none => e = .returned (.tuple #[.int .i64 0, .bool false])
set_option maxHeartbeats 400000 in
theorem least_sto (p : Nat) (F : Fr) (s : SV) (w : World) (h : StoIs w p F s) (o : Option Nat) (ho : least s = o) :
    Calls Tryz.prog 72 #[.pointer (some ⟨p, 0, none⟩)] w fun e w' => LOut o e ∧ Below w.heap.size w w' := by
  have HH := Lib.hid h
  have HO := Lib.hid (show leastFrom s (s.dev.size - 2) 2 = o from ho)
  have h8 := h.dev.lo
  have h9 := h.dev.hi
  clear h ho
  go_enter Tryz.func72, Tryz.ntmps72
  go_wp2_with fail
  go_loopw [4] (fun i wr => ∃ j : Nat, 2 ≤ j ∧ j ≤ s.dev.size ∧ i = .int .i64 j ∧ Hid (leastFrom s (s.dev.size - j) j = o) ∧ Hid (Below w.heap.size w wr)) (fun i _ => s.dev.size - (intOf i).toNat)
  case atStart => exact ⟨2, Nat.le_refl _, by omega, rfl, HO, Lib.hid (Below.refl _ _)⟩
  case round =>
    obtain ⟨j, hj2, hj, rfl, HJ, HB⟩ := hrel
    clear HO
    have HR := Lib.hid (HH.out.below HB.out)
    have c3 := Has.at_ HR.out.obj 3
    simp at c3
    have HS := Lib.hid (size_dev _ _ _ _ wr HR.out.dev)
    have HF := Lib.hid (free_sto p F s j wr HR.out)
    go_wp2_with fail
    refine HS.out.mono ?_
    rintro e w' ⟨rfl, rfl⟩
    by_cases hlt : j < s.dev.size
    · obtain ⟨k, hk⟩ : ∃ k, s.dev.size - j = k + 1 := ⟨s.dev.size - j - 1, by omega⟩
      have HK := Lib.hid (show s.dev.size - (j + 1) = k by omega)
      have HJ2 := Lib.hid (show (if freeB s j = true then some j else leastFrom s k (j + 1)) = o by have := HJ.out; rw [hk] at this; exact this)
      clear hk HJ HS c3
      go_wp2_with fail
      refine HF.out.mono ?_
      rintro e w2 ⟨rfl, hb⟩
      have HB2 := Lib.hid (HB.out.trans (hb.mono HB.out.size))
      clear hb HF
      cases hf : freeB s j with
      | true =>
        have hge : o = some j := by have := HJ2.out; rw [hf] at this; exact this.symm
        subst hge
        clear hf
        go_wp2
        go_ret2
        exact ⟨rfl, HB2.out⟩
      | false =>
        have HJ3 := Lib.hid (show leastFrom s k (j + 1) = o by have := HJ2.out; rw [hf] at this; exact this)
        clear hf HJ2
        go_wp2
        go_roundw
        case rel => exact ⟨j + 1, by omega, by omega, by go_num, Lib.hid (by rw [HK.out]; exact HJ3.out), HB2⟩
        case measure => simp [intOf]; omega
    · have hge : o = none := by have := HJ.out; rw [show s.dev.size - j = 0 by omega] at this; exact this.symm
      subst hge
      clear c3 HS HF
      go_wp2
      go_ret2
      exact ⟨rfl, HB.out⟩
/-- How high a block is that names others. -/
def highs (f : Int → Option NodeV) : List Int → Int → Int
  | [], m => m
  | k :: l, m => highs f l (max m ((f k).map (·.high) |>.getD 0))
def aboveV (f : Int → Option NodeV) (kids : List Int) : Int := highs f kids 0 + 1
theorem highs_snoc (f : Int → Option NodeV) : ∀ (l : List Int) (k m : Int), highs f (l ++ [k]) m = max (highs f l m) ((f k).map (·.high) |>.getD 0)
  | [], k, m => rfl
  | x :: l, k, m => by
    show highs f (l ++ [k]) _ = _
    rw [highs_snoc f l k]
    rfl
/-- Heights are few. -/
def Low (s : SV) : Prop := ∀ z n, s.nodes z = some n → 1 ≤ n.high ∧ n.high ≤ 64
theorem highs_low {s : SV} (h : Low s) : ∀ (l : List Int) (m : Int), 0 ≤ m → m ≤ 64 → 0 ≤ highs s.nodes l m ∧ highs s.nodes l m ≤ 64
  | [], m, h0, h1 => ⟨h0, h1⟩
  | k :: l, m, h0, h1 => by
    unfold highs
    have hk : 0 ≤ ((s.nodes k).map (·.high) |>.getD 0) ∧ ((s.nodes k).map (·.high) |>.getD 0) ≤ 64 := by
      cases hn : s.nodes k with
      | none => exact ⟨by simp, by simp⟩
      | some n => have := h k n hn; simp; omega
    exact highs_low h l _ (by omega) (by omega)
set_option maxHeartbeats 400000 in
theorem above_sto (p : Nat) (F : Fr) (s : SV) (hlow : Low s) (A : Option Addr) (n c : Nat) (kids : List Int) (hn : n ≤ 1000000) (hk : ∀ k ∈ kids, (s.nodes k).isSome = true) (w : World) (h : StoIs w p F s) (hr : NumRow w A n kids) :
    Calls Tryz.prog 85 #[.pointer (some ⟨p, 0, none⟩), .slice A n c] w fun e w' => e = .returned (.int .i64 (aboveV s.nodes kids)) ∧ w = w' := by
  have HH := Lib.hid h
  have HR := Lib.hid hr
  have HL := Lib.hid hlow
  have HK := Lib.hid hk
  have c4 := Has.at_ h.obj 4
  simp at c4
  clear h hr hlow hk
  go_enter Tryz.func85, Tryz.ntmps85
  go_wp2
  go_loop [5, 10] (fun m i => ∃ j : Nat, j ≤ n ∧ i = .int .i64 j ∧ m = .int .i64 (highs s.nodes (kids.take j) 0)) (fun _ i => n - (intOf i).toNat)
  case atStart => exact ⟨0, Nat.zero_le _, rfl, rfl⟩
  case round =>
    obtain ⟨j, hj, rfl, rfl⟩ := hrel
    obtain ⟨m1, m2⟩ := highs_low HL.out (kids.take j) 0 (by decide) (by decide)
    by_cases hlt : j < n
    · obtain ⟨b, off, rfl, hbl, hcl⟩ := HR.out.2 (by omega)
      have hjl : j < kids.length := by rw [HR.out.1]; exact hlt
      have k1 := hcl j hjl
      have hs : highs s.nodes (kids.take (j + 1)) 0 = max (highs s.nodes (kids.take j) 0) ((s.nodes kids[j]).map (·.high) |>.getD 0) := by
        rw [List.take_succ_eq_append_getElem hjl, highs_snoc]
      have hmem := HK.out kids[j] (List.getElem_mem hjl)
      have hl := (HH.out.there.lookup mapN Dv.intT (.pointer none) zero_node kids[j]).1
      obtain ⟨nd, hnd⟩ := Option.isSome_iff_exists.1 hmem
      obtain ⟨A2, c2, q1, q2⟩ := HH.out.node kids[j] nd hnd
      have hhi := HL.out kids[j] nd hnd
      have e1 : (thereM F s.nodes kids[j]).getD (.pointer none) = .pointer (some ⟨F.g kids[j], 0, none⟩) := by unfold thereM; rw [hnd]; rfl
      rw [e1] at hl
      rw [hnd] at hs
      simp only [Option.map_some, Option.getD_some] at hs
      have k2 := Has.at_ q1 1
      simp [nodeC] at k2
      have HS := Lib.hid hs
      clear hcl hmem hnd q1 q2 e1 hs hbl
      generalize highs s.nodes (kids.take j) 0 = M at *
      generalize F.g kids[j] = G at *
      generalize kids[j] = kid at *
      generalize nd.high = H at *
      rcases Int.lt_trichotomy M H with hmx | hmx | hmx
      · have emx : max M H = H := by omega
        rw [emx] at HS
        clear emx
        go_wp2
        all_goals
          go_round
          case rel => exact ⟨j + 1, by omega, by go_num, by rw [HS.out]⟩
          case measure => simp [intOf]; omega
      · subst hmx
        rw [Int.max_self] at HS
        go_wp2
        all_goals
          go_round
          case rel => exact ⟨j + 1, by omega, by go_num, by rw [HS.out]⟩
          case measure => simp [intOf]; omega
      · have emx : max M H = M := by omega
        rw [emx] at HS
        clear emx
        go_wp2
        all_goals
          go_round
          case rel => exact ⟨j + 1, by omega, by go_num, by rw [HS.out]⟩
          case measure => simp [intOf]; omega
    · obtain rfl : j = n := by omega
      have hfull : kids.take j = kids := List.take_of_length_le (by rw [HR.out.1]; exact Nat.le_refl _)
      rw [hfull] at m1 m2 ⊢
      have HA := Lib.hid (show aboveV s.nodes kids = highs s.nodes kids 0 + 1 from rfl)
      generalize highs s.nodes kids 0 = M at *
      go_wp2
      go_ret
      exact ⟨by rw [HA.out]; rfl, rfl⟩
end Go.Proofs.YthejlenafjnmkaaGreat.Sto
/- A block is added to a store: contract. -/
namespace Go.Proofs.YthejlenafjnmkaaGreat.Sto
open Go.RowKit
open Oct (Has Chg)
open Rws
open Mem (IMap)
open Vc (wpAnyH_read wpAnyH_skip)

theorem num_news {w : World} {ad : Addr} {n : Nat} {l : List Int} (h : NumRow w (some ad) n l) : ∀ j u, (l.map (Value.int .i64))[j]? = some u → w.cell? (ad.add j) = some u := by
  intro j u hu
  have hj : j < l.length := by
    have := (List.getElem?_eq_some_iff.1 hu).1
    simpa using this
  obtain ⟨b, off, e, _, hx⟩ := h.2 (by have := h.1; omega)
  injection e with e
  subst e
  rw [List.getElem?_map, List.getElem?_eq_getElem hj] at hu
  have ha : (⟨b, off, none⟩ : Addr).add j = ⟨b, off + j, none⟩ := by
    unfold Addr.add
    split
    · next h => rw [h]; rfl
    · rfl
  rw [ha, hx j hj]
  exact hu
theorem nums_one (l : List Int) : ∀ u ∈ l.map (Value.int .i64), u.oneCell' = true := by
  intro u hu
  obtain ⟨b, _, rfl⟩ := List.mem_map.1 hu
  rfl
set_option maxRecDepth 100000 in
theorem cloni_some (ad : Addr) (n c : Nat) (l : List Int) (hn : n ≤ 1048576) (w : World) (h : NumRow w (some ad) n l) :
    Calls Tryz.prog 20 #[.slice (some ad) n c] w fun e w' => ∃ v, e = .returned v ∧ OwnI w' w.heap.size v l ∧ Below w.heap.size w w' := by
  obtain ⟨i0, hi, hz0, hz1, hz2⟩ := info_parts info_i
  have HI := Lib.hid (And.intro hi (And.intro hz0 (And.intro hz1 hz2)))
  clear hi hz0 hz1 hz2
  have HB := Lib.hid ((Below.refl w.heap.size w).alloc (Nat.le_refl _) (.cells #[] 3))
  have HR := Lib.hid (num_news (h.below HB.out))
  have HL := Lib.hid h.1
  have q22 : ∀ (w : World) (a : Option Addr) (n c n' c' : Nat), (binOp .eql 40 (.slice a n c) (.slice none n' c')).run Tryz.prog w = .ok (.bool a.isNone) w := fun w a n c n' c' => Lib.run_eql_slice_nil w _ _ a n c n' c' Tryz.underlying40
  clear h
  go_enter Tryz.func20, Tryz.ntmps20
  go_wp2_with (at_builtin; refine wpList_append_own (w.alloc (.cells #[] 3)) rfl _ _ _ rfl w.heap.size 3 i0 (.int .i64 0) 1 8 Tryz.underlying40 HI.out.1 HI.out.2.1 HI.out.2.2.1 HI.out.2.2.2 rfl (by decide) _ 0 [] rfl (World.ownsRow_made w #[] 0 (Nat.le_refl _) (Nat.zero_le _) (by simp)) ad n c (l.map (Value.int .i64)) rfl ?c1 HR.out (nums_one l) ?c2 ?c3 ?c4 ?_)
  case c1 => rw [List.length_map, HL.out, Nat.mul_one]
  case c2 => unfold maxLen; omega
  case c3 => omega
  case c4 => simp
  intro v w1 h1 h2 _
  go_wp2
  go_ret
  refine ⟨_, rfl, ?_, HB.out.grown h2 (by simp) (fun k hk => ?_)⟩
  · unfold OwnI
    rw [HL.out]
    simpa using h1
  · simp [Value.ownBlock] at hk
    omega
theorem cloni_nil (c : Nat) (w : World) :
    Calls Tryz.prog 20 #[.slice none 0 c] w fun e w' => ∃ v, e = .returned v ∧ OwnI w' w.heap.size v [] ∧ Below w.heap.size w w' := by
  have q22 : ∀ (w : World) (a : Option Addr) (n c n' c' : Nat), (binOp .eql 40 (.slice a n c) (.slice none n' c')).run Tryz.prog w = .ok (.bool a.isNone) w := fun w a n c n' c' => Lib.run_eql_slice_nil w _ _ a n c n' c' Tryz.underlying40
  go_enter Tryz.func20, Tryz.ntmps20
  go_wp2
  go_ret
  exact ⟨_, rfl, World.ownsRow_nil _ _ _ _, Below.refl _ _⟩
theorem cloni_any (A : Option Addr) (n c : Nat) (l : List Int) (hn : n ≤ 1048576) (w : World) (h : NumRow w A n l) :
    Calls Tryz.prog 20 #[.slice A n c] w fun e w' => ∃ v, e = .returned v ∧ OwnI w' w.heap.size v l ∧ Below w.heap.size w w' := by
  cases A with
  | none =>
    obtain rfl : n = 0 := by
      rcases Nat.eq_zero_or_pos n with k | k
      · exact k
      · obtain ⟨b, off, e, _⟩ := h.2 k
        cases e
    obtain rfl : l = [] := List.eq_nil_of_length_eq_zero h.1
    exact cloni_nil c w
  | some ad => exact cloni_some ad n c l hn w h

theorem has_ne {w : World} {a b : Nat} {t u : TypeId} {xs ys : Array Value} (h : Has w a t xs) (k : Has w b u ys) (hne : t ≠ u) : a ≠ b := by
  rintro rfl
  unfold Oct.Has at h k
  rw [h] at k
  injection k with k
  injection k with _ k2
  exact hne k2
theorem map_ne {w : World} {a b : Nat} {m : Int → Option Value} {t : TypeId} {xs : Array Value} (h : IMap w a m) (k : Has w b t xs) : a ≠ b := by
  rintro rfl
  obtain ⟨es, c, h1, _⟩ := h
  unfold Oct.Has at k
  rw [h1] at k
  injection k with k
  cases k
/-- A row stays where only a map has changed. -/
theorem own_map {w w' : World} {b g n : Nat} {e : TypeId} {v : Value} {xs : List Value} {m : Int → Option Value} (h : w.ownsRow b e 1 v n xs) (hg : IMap w g m) (hc : Chg (· = g) w w') : w'.ownsRow b e 1 v n xs := by
  refine ⟨h.1, ?_⟩
  rcases h.2 with k | ⟨q, cap, cur, e1, hb, hh, k⟩
  · exact .inl k
  · refine .inr ⟨q, cap, cur, e1, hb, ?_, k⟩
    rw [hc.block q (Array.getElem?_eq_some_iff.1 hh).1 (fun hq => ?_)]
    · exact hh
    · subst hq
      obtain ⟨es, c, h1, _⟩ := hg
      rw [h1] at hh
      injection hh with hh
      cases hh
def bump1 (f : Int → Option NodeV) (k : Int) : Int → Option NodeV := fun z => if z = k then (f z).map fun n => { n with named := wrap64 (n.named + 1) } else f z
def bumps (f : Int → Option NodeV) (l : List Int) : Int → Option NodeV := l.foldl bump1 f
theorem bumps_snoc (f : Int → Option NodeV) (l : List Int) (k : Int) : bumps f (l ++ [k]) = bump1 (bumps f l) k := by
  unfold bumps
  rw [List.foldl_append]
  rfl
theorem bump1_some (f : Int → Option NodeV) (k z : Int) : (bump1 f k z).isSome = (f z).isSome := by
  unfold bump1
  split
  · cases f z <;> rfl
  · rfl
theorem bumps_some (z : Int) : ∀ (l : List Int) (f : Int → Option NodeV), (bumps f l z).isSome = (f z).isSome
  | [], f => rfl
  | k :: l, f => by
    show (bumps (bump1 f k) l z).isSome = _
    rw [bumps_some z l, bump1_some]
theorem StoIs.apart {w : World} {p : Nat} {F : Fr} {s : SV} (h : StoIs w p F s) {z : Int} {n : NodeV} (hz : s.nodes z = some n) : p ≠ F.g z ∧ F.t ≠ F.g z ∧ F.k ≠ F.g z ∧ F.d ≠ F.g z ∧ F.dk ≠ F.g z ∧ F.dd ≠ F.g z := by
  obtain ⟨A, c, h1, _⟩ := h.node z n hz
  exact ⟨has_ne h.obj h1 (by decide), map_ne h.there h1, map_ne h.kept h1, has_ne (show Oct.Has w F.d _ _ from h.dev.obj) h1 (by decide), map_ne h.dev.kept h1, map_ne h.dev.dirt h1⟩
/-- One is named once more. -/
theorem StoIs.bump {w : World} {p : Nat} {F : Fr} {s : SV} (h : StoIs w p F s) {k : Int} {nd : NodeV} (hk : s.nodes k = some nd) : StoIs (w.setCell ⟨F.g k, 2, none⟩ (.int .i64 (wrap64 (nd.named + 1)))) p F { s with nodes := bump1 s.nodes k } := by
  obtain ⟨a1, a2, a3, a4, a5, a6⟩ := h.apart hk
  have hc : Chg (· = F.g k) w (w.setCell ⟨F.g k, 2, none⟩ (.int .i64 (wrap64 (nd.named + 1)))) := (Chg.refl (· = F.g k) w).setCell (p := ⟨F.g k, 2, none⟩) (.inl rfl) _
  have hm : thereM F (bump1 s.nodes k) = thereM F s.nodes := by
    funext z
    unfold thereM
    have := bump1_some s.nodes k z
    cases h1 : bump1 s.nodes k z <;> cases h2 : s.nodes z <;> rw [h1, h2] at this <;> first | rfl | (simp at this)
  refine ⟨h.obj.over hc a1, h.dev.over hc.to a4 a5 a6, ?_, h.kept.over hc.to a3, fun z n hz => ?_, fun z y hz hy => h.inj z y (by rw [← bump1_some s.nodes k z]; exact hz) (by rw [← bump1_some s.nodes k y]; exact hy), h.tk, h.tdk, h.tdd, h.kdk, h.kdd⟩
  · show IMap _ F.t (thereM F (bump1 s.nodes k))
    rw [hm]
    exact h.there.over hc.to a2
  · have hz' : bump1 s.nodes k z = some n := hz
    obtain ⟨Ak, ck, k1, k2⟩ := h.node k nd hk
    unfold bump1 at hz'
    by_cases e : z = k
    · subst e
      rw [if_pos rfl, hk] at hz'
      simp at hz'
      subst hz'
      exact ⟨Ak, ck, Oct.Has.put k1 2 _, own_apart k2 k1 hc (by decide)⟩
    · rw [if_neg e] at hz'
      obtain ⟨A, c, h1, h2⟩ := h.node z n hz'
      exact ⟨A, c, h1.over hc (fun q => e (h.inj z k (by rw [hz']; rfl) (by rw [hk]; rfl) q)), own_apart h2 k1 hc (by decide)⟩
def insN (f : Int → Option NodeV) (id : Int) (n : NodeV) : Int → Option NodeV := fun z => if z = id then some n else f z
def Fr.ins (F : Fr) (id : Int) (G : Nat) : Fr := { F with g := fun z => if z = id then G else F.g z }
theorem StoIs.insert {w w6 : World} {p : Nat} {F : Fr} {s : SV} (h : StoIs w p F s) {id : Int} {G : Nat} {n : NodeV} (hn : NodeIs w G n) (hG : ∀ z, (s.nodes z).isSome = true → F.g z ≠ G)
    (hm : IMap w6 F.t (Mem.upd (thereM F s.nodes) id (.pointer (some ⟨G, 0, none⟩)))) (hc : Chg (· = F.t) w w6) : StoIs w6 p (F.ins id G) { s with nodes := insN s.nodes id n } := by
  have pt : p ≠ F.t := fun e => map_ne h.there h.obj e.symm
  have dt : F.d ≠ F.t := fun e => map_ne h.there (show Oct.Has w F.d _ _ from h.dev.obj) e.symm
  have keepN : ∀ g m, NodeIs w g m → NodeIs w6 g m := fun g m k => by
    obtain ⟨A, c, k1, k2⟩ := k
    exact ⟨A, c, k1.over hc (fun e => map_ne h.there k1 e.symm), own_map k2 h.there hc⟩
  refine ⟨h.obj.over hc pt, h.dev.over hc.to dt h.tdk.symm h.tdd.symm, ?_, h.kept.over hc.to h.tk.symm, fun z m hz => ?_, fun z y hz hy e => ?_, h.tk, h.tdk, h.tdd, h.kdk, h.kdd⟩
  · have e : thereM (F.ins id G) (insN s.nodes id n) = Mem.upd (thereM F s.nodes) id (.pointer (some ⟨G, 0, none⟩)) := by
      funext z
      unfold thereM insN Mem.upd Fr.ins
      by_cases e : z = id
      · simp [e]
      · simp [e]
    show IMap w6 F.t (thereM (F.ins id G) (insN s.nodes id n))
    rw [e]
    exact hm
  · have hz' : insN s.nodes id n z = some m := hz
    unfold insN at hz'
    by_cases e : z = id
    · rw [if_pos e] at hz'
      injection hz' with hz'
      subst hz'
      have : (F.ins id G).g z = G := if_pos e
      rw [this]
      exact keepN _ _ hn
    · rw [if_neg e] at hz'
      have : (F.ins id G).g z = F.g z := if_neg e
      rw [this]
      exact keepN _ _ (h.node z m hz')
  · have hz' : (insN s.nodes id n z).isSome = true := hz
    have hy' : (insN s.nodes id n y).isSome = true := hy
    have e' : (if z = id then G else F.g z) = (if y = id then G else F.g y) := e
    unfold insN at hz' hy'
    by_cases e1 : z = id
    · by_cases e2 : y = id
      · rw [e1, e2]
      · rw [if_pos e1, if_neg e2] at e'
        rw [if_neg e2] at hy'
        exact (hG y hy' e'.symm).elim
    · by_cases e2 : y = id
      · rw [if_neg e1, if_pos e2] at e'
        rw [if_neg e1] at hz'
        exact (hG z hz' e').elim
      · rw [if_neg e1, if_neg e2] at e'
        rw [if_neg e1] at hz'
        rw [if_neg e2] at hy'
        exact h.inj z y hz' hy' e'
theorem node_lt {w : World} {p : Nat} {F : Fr} {s : SV} (h : StoIs w p F s) {z : Int} (hz : (s.nodes z).isSome = true) : F.g z < w.heap.size := by
  obtain ⟨n, hn⟩ := Option.isSome_iff_exists.1 hz
  obtain ⟨A, c, h1, _⟩ := h.node z n hn
  exact h1.bound
/-- What adding changes of what was there. -/
def AddS (F : Fr) (s : SV) (k : Nat) : Prop := k = F.t ∨ ∃ z, (s.nodes z).isSome = true ∧ k = F.g z
def newNode (s : SV) (kids : List Int) : NodeV := ⟨kids, aboveV s.nodes kids, 0, 0⟩
/-- A store with a block more. -/
def addV (s : SV) (id : Int) (kids : List Int) : SV := { s with nodes := bumps (insN s.nodes id (newNode s kids)) kids }
theorem row_chg {w w' : World} {A : Option Addr} {n : Nat} {l : List Int} {S : Nat → Prop} (h : NumRow w A n l) (hc : Chg S w w') (hs : 0 < n → ∀ b off, A = some ⟨b, off, none⟩ → ¬ S b) : NumRow w' A n l :=
  ⟨h.1, fun hn => by
    obtain ⟨b, off, e, hl, hx⟩ := h.2 hn
    exact ⟨b, off, e, Nat.lt_of_lt_of_le hl hc.size, fun i hi => (World.cell?_of_block (w := w) (hc.block b hl (hs hn b off e))).trans (hx i hi)⟩⟩
set_option maxRecDepth 100000 in
set_option maxHeartbeats 4000000 in
theorem add_sto (p : Nat) (F : Fr) (s : SV) (hlow : Low s) (id : Int) (A : Option Addr) (n c : Nat) (kids : List Int) (hn : n ≤ 1000) (hk : ∀ k ∈ kids, (s.nodes k).isSome = true) (w : World) (h : StoIs w p F s) (hr : NumRow w A n kids)
    (hA : 0 < n → ∀ b off, A = some ⟨b, off, none⟩ → ¬ AddS F s b) :
    Calls Tryz.prog 74 #[.pointer (some ⟨p, 0, none⟩), .int .i64 id, .slice A n c] w fun e w' => e = .returned (.tuple #[]) ∧ (∃ G, w.heap.size ≤ G ∧ StoIs w' p (F.ins id G) (addV s id kids)) ∧ Chg (AddS F s) w w' := by
  have HH := Lib.hid h
  have HR := Lib.hid hr
  have HL := Lib.hid hlow
  have HK := Lib.hid hk
  have HA := Lib.hid hA
  have c4 := Has.at_ h.obj 4
  simp at c4
  have HCL := Lib.hid (cloni_any A n c kids (by omega) w.drew ⟨hr.1, hr.2⟩)
  clear h hr hlow hk hA
  go_enter Tryz.func74, Tryz.ntmps74
  go_wp2_with fail
  refine wp_region_held_drew (S := (fun w' => w'.cell? ⟨p, 4, none⟩ = some (.map (some F.t)))) (by kernel_rfl) (c4) (fun hHeld => ?_)
  refine wpAnyH_read (i := 0) (d := some 8) (v := ?v1) (by rfl) (by rfl) (by kernel_rfl) (by kernel_rfl) (by kernel_rfl) (fun _ _ _ h => h) (by rfl) ?hy1 (by assumption) ?rest1
  case hy1 =>
    intro w hSw
    try dsimp only at hSw
    go_simp
    try with_reducible rfl
  try simp only [Act.put, List.setIfInBounds_toArray, List.set_cons_zero, List.set_cons_succ]
  refine wpAnyH_read (i := 1) (d := some 9) (v := ?v2) (by rfl) (by rfl) (by kernel_rfl) (by kernel_rfl) (by kernel_rfl) (fun _ _ _ h => h) (by rfl) ?hy2 (by assumption) ?rest2
  case hy2 =>
    intro w hSw
    try dsimp only at hSw
    go_simp
    try with_reducible rfl
  try simp only [Act.put, List.setIfInBounds_toArray, List.set_cons_zero, List.set_cons_succ]
  refine wpAnyH_read (i := 2) (d := some 10) (v := ?v3) (by rfl) (by rfl) (by kernel_rfl) (by kernel_rfl) (by kernel_rfl) (fun _ _ _ h => h) (by rfl) ?hy3 (by assumption) ?rest3
  case hy3 =>
    intro w hSw
    try dsimp only at hSw
    go_simp
    try with_reducible rfl
  try simp only [Act.put, List.setIfInBounds_toArray, List.set_cons_zero, List.set_cons_succ]
  refine wpAnyH_read (i := 3) (d := some 11) (v := ?v4) (by rfl) (by rfl) (by kernel_rfl) (by kernel_rfl) (by kernel_rfl) (fun _ _ _ h => h) (by rfl) ?hy4 (by assumption) ?rest4
  case hy4 =>
    intro w hSw
    try dsimp only at hSw
    go_simp
    try with_reducible rfl
  try simp only [Act.put, List.setIfInBounds_toArray, List.set_cons_zero, List.set_cons_succ]
  refine wpAnyH_read (i := 4) (d := some 12) (v := ?v5) (by rfl) (by rfl) (by kernel_rfl) (by kernel_rfl) (by kernel_rfl) (fun _ _ _ h => h) (by rfl) ?hy5 (by assumption) ?rest5
  case hy5 =>
    intro w hSw
    try dsimp only at hSw
    go_simp
    try with_reducible rfl
  try simp only [Act.put, List.setIfInBounds_toArray, List.set_cons_zero, List.set_cons_succ]
  refine wpAnyH_read (i := 5) (d := some 13) (v := ?v6) (by rfl) (by rfl) (by kernel_rfl) (by kernel_rfl) (by kernel_rfl) (fun _ _ _ h => h) (by rfl) ?hy6 (by assumption) ?rest6
  case hy6 =>
    intro w hSw
    try dsimp only at hSw
    go_simp
    try with_reducible rfl
  try simp only [Act.put, List.setIfInBounds_toArray, List.set_cons_zero, List.set_cons_succ]
  refine wpAnyH_read (i := 7) (d := some 15) (v := ?v7) (by rfl) (by rfl) (by kernel_rfl) (by kernel_rfl) (by kernel_rfl) (fun _ _ _ h => h) (by rfl) ?hy7 (by assumption) ?rest7
  case hy7 =>
    intro w hSw
    try dsimp only at hSw
    go_simp
    try with_reducible rfl
  try simp only [Act.put, List.setIfInBounds_toArray, List.set_cons_zero, List.set_cons_succ]
  refine wpAnyH_read (i := 8) (d := some 16) (v := ?v8) (by rfl) (by rfl) (by kernel_rfl) (by kernel_rfl) (by kernel_rfl) (fun _ _ _ h => h) (by rfl) ?hy8 (by assumption) ?rest8
  case hy8 =>
    intro w hSw
    try dsimp only at hSw
    go_simp
    try with_reducible rfl
  try simp only [Act.put, List.setIfInBounds_toArray, List.set_cons_zero, List.set_cons_succ]
  refine wpAnyH_ready (rs := [6]) (by kernel_rfl) (by simp) ?_
  refine AllReadyH.cons rfl (fun K hK => ?_) AllReadyH.nil
  go_simp
  refine HCL.out.mono ?_
  rintro e w1 ⟨v, rfl, ho, hb⟩
  obtain ⟨A1, c1, rfl⟩ := own_sl ho
  have hb0 : Below w.heap.size w w1 := ((Below.refl _ w).drew).trans hb
  have HB1 := Lib.hid hb0
  have H1 := Lib.hid (HH.out.below hb0)
  have HO1 := Lib.hid ho
  have b4 := Has.at_ H1.out.obj 4
  simp at b4
  have HAB := Lib.hid (above_sto p F s HL.out A n c kids (by omega) HK.out w1 H1.out (HR.out.below hb0))
  clear ho hb hb0 HCL
  refine hK.out _ _ (b4) (fun hHeld => ?_)
  clear hK K
  try simp only [Act.put, List.setIfInBounds_toArray, List.set_cons_zero, List.set_cons_succ]
  refine wpAnyH_ready (rs := [9]) (by kernel_rfl) (by simp) ?_
  refine AllReadyH.cons rfl (fun K hK => ?_) AllReadyH.nil
  go_simp
  refine HAB.out.mono ?_
  rintro e w' ⟨rfl, rfl⟩
  refine hK.out _ _ (b4) (fun hHeld => ?_)
  clear hK K
  try simp only [Act.put, List.setIfInBounds_toArray, List.set_cons_zero, List.set_cons_succ]
  refine wpAnyH_read (i := 10) (d := some 18) (v := ?v9) (by rfl) (by rfl) (by kernel_rfl) (by kernel_rfl) (by kernel_rfl) (fun _ _ _ h => h) (by rfl) ?hy9 (by assumption) ?rest9
  case hy9 =>
    intro w hSw
    try dsimp only at hSw
    go_simp
    try with_reducible rfl
  try simp only [Act.put, List.setIfInBounds_toArray, List.set_cons_zero, List.set_cons_succ]
  refine wpAnyH_ready (rs := [11]) (by kernel_rfl) (by simp) ?_
  refine AllReadyH.cons rfl (fun K hK => ?_) AllReadyH.nil
  go_simp
  have hn2 : NodeIs (w1.alloc (.cells #[.slice A1 kids.length c1, .int .i64 (aboveV s.nodes kids), .int .i64 0, .int .i64 0] 109)) w1.heap.size (newNode s kids) := ⟨A1, c1, Has.fresh w1 _ _, own_low (World.ownsRow.alloc HO1.out _) (Nat.zero_le _)⟩
  have h2 := H1.out.below ((Below.refl w1.heap.size w1).alloc (Nat.le_refl _) (.cells #[.slice A1 kids.length c1, .int .i64 (aboveV s.nodes kids), .int .i64 0, .int .i64 0] 109))
  have b5 := Has.at_ h2.obj 4
  simp at b5
  obtain ⟨w6, hu, m6, g6, z6⟩ := h2.there.update mapN Dv.intT id (.pointer (some ⟨w1.heap.size, 0, none⟩))
  have h6 := h2.insert hn2 (fun z hz => by have := node_lt HH.out hz; have := HB1.out.size; omega) m6 (Oct.Chg.of g6)
  have b6 := Has.at_ h6.obj 4
  simp at b6
  have HBB := Lib.hid (Chg.of_below (HB1.out.trans ((Below.refl w.heap.size w1).alloc HB1.out.size (.cells #[.slice A1 kids.length c1, .int .i64 (aboveV s.nodes kids), .int .i64 0, .int .i64 0] 109))) (AddS F s))
  have H6 := Lib.hid (show StoIs w6 p (F.ins id w1.heap.size) { s with nodes := bumps (insN s.nodes id (newNode s kids)) (kids.take 0) } from h6)
  have HC6 := Lib.hid (HBB.out.trans ((Oct.Chg.of g6).mono fun k hk => (.inl hk : AddS F s k)))
  clear hn2 h2 m6 g6 z6 h6 HBB
  refine hK.out _ _ (b5) (fun hHeld => ?_)
  clear hK K
  try simp only [Act.put, List.setIfInBounds_toArray, List.set_cons_zero, List.set_cons_succ]
  refine wpAnyH_ready (rs := [12]) (by kernel_rfl) (by simp) ?_
  refine AllReadyH.cons rfl (fun K hK => ?_) AllReadyH.nil
  go_simp
  refine hK.out _ _ (b6) (fun hHeld => ?_)
  clear hK K
  try simp only [Act.put, List.setIfInBounds_toArray, List.set_cons_zero, List.set_cons_succ]
  refine wpAnyH_done (by kernel_rfl) ?_ _
  have HG := Lib.hid (show w.heap.size ≤ w1.heap.size from HB1.out.size)
  obtain ⟨G, hG⟩ : ∃ G, w1.heap.size = G := ⟨_, rfl⟩
  rw [hG] at H6 HG
  clear hHeld b4 b5 b6 hu c4 H1 HO1 HAB HB1 hG
  go_wp2
  go_loopw [22] (fun i wr => ∃ j : Nat, j ≤ n ∧ i = .int .i64 j ∧ Hid (StoIs wr p (F.ins id G) { s with nodes := bumps (insN s.nodes id (newNode s kids)) (kids.take j) }) ∧ Hid (Chg (AddS F s) w wr)) (fun i _ => n - (intOf i).toNat)
  case atStart => exact ⟨0, Nat.zero_le _, rfl, H6, HC6⟩
  case round =>
    obtain ⟨j, hj, rfl, HJ, HC⟩ := hrel
    clear H6 HC6
    by_cases hlt : j < n
    · have hrow := row_chg HR.out HC.out HA.out
      obtain ⟨b, off, rfl, hbl, hcl⟩ := hrow.2 (by omega)
      have hjl : j < kids.length := by rw [hrow.1]; exact hlt
      have k1 := hcl j hjl
      have hmem := HK.out kids[j] (List.getElem_mem hjl)
      have hsm : (bumps (insN s.nodes id (newNode s kids)) (kids.take j) kids[j]).isSome = true := by
        rw [bumps_some]
        unfold insN
        split
        · rfl
        · exact hmem
      obtain ⟨nd, hnd⟩ := Option.isSome_iff_exists.1 hsm
      have hl := (HJ.out.there.lookup mapN Dv.intT (.pointer none) zero_node kids[j]).1
      have e1 : (thereM (F.ins id G) (bumps (insN s.nodes id (newNode s kids)) (kids.take j)) kids[j]).getD (.pointer none) = .pointer (some ⟨(F.ins id G).g kids[j], 0, none⟩) := by
        unfold thereM
        rw [hnd]
        rfl
      rw [e1] at hl
      have c4 := Has.at_ HJ.out.obj 4
      simp at c4
      obtain ⟨A2, c2, q1, q2⟩ := HJ.out.node kids[j] nd hnd
      have k2 := Has.at_ q1 2
      have k3 := Has.free q1 2
      simp [nodeC] at k2
      have hb := HJ.out.bump hnd
      have HS := Lib.hid (show StoIs (wr.setCell ⟨(F.ins id G).g kids[j], 2, none⟩ (.int .i64 (wrap64 (nd.named + 1)))) p (F.ins id G) { s with nodes := bumps (insN s.nodes id (newNode s kids)) (kids.take (j + 1)) } by
        rw [List.take_succ_eq_append_getElem hjl, bumps_snoc]
        exact hb)
      have HCN := Lib.hid (HC.out.setCell (p := ⟨(F.ins id G).g kids[j], 2, none⟩) (by
        show AddS F s (if kids[j] = id then G else F.g kids[j]) ∨ w.heap.size ≤ (if kids[j] = id then G else F.g kids[j])
        split
        · exact .inr HG.out
        · exact .inl (.inr ⟨kids[j], hmem, rfl⟩)) (.int .i64 (wrap64 (nd.named + 1))))
      clear hrow hcl hmem hsm hnd e1 q1 q2 hb hbl HJ HC
      generalize (F.ins id G).g kids[j] = Gk at *
      generalize nd.named = N at *
      generalize kids[j] = kid at *
      go_wp2
      go_roundw
      case rel => exact ⟨j + 1, by omega, by go_num, HS, HCN⟩
      case measure => simp [intOf]; omega
    · obtain rfl : j = n := by omega
      have hfull : kids.take j = kids := List.take_of_length_le (by rw [HR.out.1]; exact Nat.le_refl _)
      rw [hfull] at HJ
      go_wp2
      go_end0
      exact ⟨rfl, ⟨G, HG.out, HJ.out⟩, HC.out⟩
end Go.Proofs.YthejlenafjnmkaaGreat.Sto
/- Whether there can be a block; a store whose device has changed: contracts. -/
namespace Go.Proofs.YthejlenafjnmkaaGreat.Sto
open Go.RowKit
open Oct (Has Chg)
open Rws
open Mem (IMap)

def allB (f : Int → Option NodeV) (l : List Int) : Bool := l.all fun k => (f k).isSome
/-- Whether there can be such a block. -/
def canB (s : SV) (kids : List Int) (data : ByteArray) : Bool := decide (kids.length ≤ 16) && (decide (data.size ≤ 3900) && (allB s.nodes kids && decide (aboveV s.nodes kids ≤ 64)))
set_option maxHeartbeats 1000000 in
theorem can_sto (p : Nat) (F : Fr) (s : SV) (hlow : Low s) (A : Option Addr) (n c : Nat) (kids : List Int) (data : ByteArray) (w : World) (h : StoIs w p F s) (hr : NumRow w A n kids) :
    Calls Tryz.prog 71 #[.pointer (some ⟨p, 0, none⟩), .slice A n c, .string data] w fun e w' => e = .returned (.bool (canB s kids data)) ∧ w = w' := by
  have HH := Lib.hid h
  have HR := Lib.hid hr
  have HL := Lib.hid hlow
  have HN := Lib.hid hr.1
  clear h hr hlow
  by_cases h1 : n ≤ 16
  · by_cases h2 : data.size ≤ 3900
    · have t1 : ¬ 16 < (n : Int) := by omega
      have t2 : ¬ 3900 < (data.size : Int) := by omega
      have HC := Lib.hid (show canB s kids data = (allB s.nodes kids && decide (aboveV s.nodes kids ≤ 64)) by unfold canB; rw [decide_eq_true (by rw [HN.out]; exact h1), decide_eq_true h2]; rfl)
      clear h2
      go_enter Tryz.func71, Tryz.ntmps71
      go_wp2
      go_loop [19] (fun i => ∃ j : Nat, j ≤ n ∧ i = .int .i64 j ∧ Hid (∀ k ∈ kids.take j, (s.nodes k).isSome = true)) (fun i => n - (intOf i).toNat)
      case atStart => exact ⟨0, Nat.zero_le _, rfl, Lib.hid (by simp)⟩
      case round =>
        obtain ⟨j, hj, rfl, HJ⟩ := hrel
        by_cases hlt : j < n
        · obtain ⟨b, off, rfl, hbl, hcl⟩ := HR.out.2 (by omega)
          have hjl : j < kids.length := by rw [HN.out]; exact hlt
          have k1 := hcl j hjl
          have HT := Lib.hid (show kids.take (j + 1) = kids.take j ++ [kids[j]] from List.take_succ_eq_append_getElem hjl)
          have HM := Lib.hid (List.getElem_mem hjl)
          have HS := Lib.hid (has_sto p F s kids[j] w HH.out)
          clear hcl hbl
          generalize kids[j] = kid at *
          clear hjl
          go_wp2_with fail
          refine HS.out.mono ?_
          rintro e w' ⟨rfl, rfl⟩
          cases hs : (s.nodes kid).isSome with
          | false =>
            have hge : canB s kids data = false := by
              rw [HC.out]
              have : allB s.nodes kids = false := by
                unfold allB
                rw [List.all_eq_false]
                exact ⟨kid, HM.out, by rw [hs]; decide⟩
              rw [this]
              rfl
            have HG := Lib.hid hge
            clear hge hs
            go_wp2
            go_ret
            exact ⟨by rw [HG.out]; rfl, rfl⟩
          | true =>
            have HS2 := Lib.hid hs
            clear hs
            go_wp2
            go_round
            case rel => exact ⟨j + 1, by omega, by go_num, Lib.hid (by
              rw [HT.out]
              intro k hk
              rcases List.mem_append.1 hk with e | e
              · exact HJ.out k e
              · rw [List.mem_singleton.1 e]; exact HS2.out)⟩
            case measure => simp [intOf]; omega
        · obtain rfl : j = n := by omega
          have hfull : kids.take j = kids := List.take_of_length_le (by rw [HN.out]; exact Nat.le_refl _)
          have hall := HJ.out
          rw [hfull] at hall
          have HA := Lib.hid (above_sto p F s HL.out A j c kids (by omega) hall w HH.out HR.out)
          have hge : canB s kids data = decide (aboveV s.nodes kids ≤ 64) := by
            rw [HC.out]
            have : allB s.nodes kids = true := List.all_eq_true.2 hall
            rw [this]
            rfl
          have HG := Lib.hid hge
          clear hge hall hfull HJ
          go_wp2_with fail
          refine HA.out.mono ?_
          rintro e w' ⟨rfl, rfl⟩
          go_wp2
          go_ret
          exact ⟨by rw [HG.out]; rfl, rfl⟩
    · have t1 : ¬ 16 < (n : Int) := by omega
      have t2 : 3900 < (data.size : Int) := by omega
      have HC := Lib.hid (show canB s kids data = false by unfold canB; rw [decide_eq_false h2]; simp)
      clear h2
      go_enter Tryz.func71, Tryz.ntmps71
      go_wp2
      go_ret
      exact ⟨by rw [HC.out]; rfl, rfl⟩
  · have t1 : 16 < (n : Int) := by omega
    have HC := Lib.hid (show canB s kids data = false by unfold canB; rw [decide_eq_false (by rw [HN.out]; exact h1)]; rfl)
    clear h1
    go_enter Tryz.func71, Tryz.ntmps71
    go_wp2
    go_ret
    exact ⟨by rw [HC.out]; rfl, rfl⟩
/-- A row of numbers stays where only a device has changed. -/
theorem own_dev {w w' : World} {b n d dk dd : Nat} {v : Value} {xs : List Value} {D : Dv.St} (h : w.ownsRow b 3 1 v n xs) (hd : Dv.DevIs w d dk dd D) (hc : Chg (Dv.Own d dk dd) w w') : w'.ownsRow b 3 1 v n xs := by
  refine ⟨h.1, ?_⟩
  rcases h.2 with k | ⟨q, cap, cur, e1, hb, hh, k⟩
  · exact .inl k
  · have hq : Has w q 3 _ := hh
    refine .inr ⟨q, cap, cur, e1, hb, ?_, k⟩
    rw [hc.block q hq.bound (fun e => ?_)]
    · exact hh
    · rcases e with e | e | e
      · exact has_ne hq (show Has w d _ _ from hd.obj) (by decide) e
      · exact map_ne hd.kept hq e.symm
      · exact map_ne hd.dirt hq e.symm
theorem StoIs.devs {w w' : World} {p : Nat} {F : Fr} {s : SV} (h : StoIs w p F s) {D : Dv.St} (hd : Dv.DevIs w' F.d F.dk F.dd D) (hc : Chg (Dv.Own F.d F.dk F.dd) w w') : StoIs w' p F { s with dev := D } := by
  have hdo : Has w F.d _ _ := h.dev.obj
  have ne : ∀ {g : Nat} {t : TypeId} {cs : Array Value}, Has w g t cs → t ≠ 76 → ¬ Dv.Own F.d F.dk F.dd g := fun k hne e => by
    rcases e with e | e | e
    · exact has_ne k hdo hne e
    · exact map_ne h.dev.kept k e.symm
    · exact map_ne h.dev.dirt k e.symm
  have nm : ∀ {g : Nat} {m : Int → Option Value}, IMap w g m → g ≠ F.dk → g ≠ F.dd → ¬ Dv.Own F.d F.dk F.dd g := fun k e1 e2 e => by
    rcases e with e | e | e
    · exact map_ne k hdo e
    · exact e1 e
    · exact e2 e
  refine ⟨h.obj.over hc (ne h.obj (by decide)), hd, h.there.over hc.to (nm h.there h.tdk h.tdd), h.kept.over hc.to (nm h.kept h.kdk h.kdd), fun z n hz => ?_, h.inj, h.tk, h.tdk, h.tdd, h.kdk, h.kdd⟩
  obtain ⟨A, c, k1, k2⟩ := h.node z n hz
  exact ⟨A, c, k1.over hc (ne k1 (by decide)), own_dev k2 h.dev hc⟩
end Go.Proofs.YthejlenafjnmkaaGreat.Sto
