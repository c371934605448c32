/- What hangs on a block, as the law gathers it: contract. -/
import Derived.Test.YtkbpjegegjgbkaaGreatSwE
namespace Go.Proofs.YtkbpjegegjgbkaaGreat.Sto
open Go.RowKit
open Oct (Has Chg)
open Rws
open Dv (DoV)
open Mem (IMap)
set_option linter.unusedVariables false

theorem info_blk : (Tryz.prog.info? 38).map (fun i => (i.zero, i.size, i.bytes)) = some (some (.agg #[.slice none 0 0, .string ⟨#[]⟩]), 2, 40) := by kernel_rfl
/-- A block that was gathered, and where its numbers stand. -/
structure BE where
  A : Option Addr
  c : Nat
  ks : List Int
  t : ByteArray
def BE.v (e : BE) : Value := .slice e.A e.ks.length e.c
def BE.val (e : BE) : List Int × ByteArray := (e.ks, e.t)
def cellsOf (es : List BE) : List Value := es.flatMap fun e => [e.v, .string e.t]
structure OutRow (w : World) (B : Nat) (v : Value) (es : List BE) : Prop where
  row : w.ownsRow B 38 2 v es.length (cellsOf es)
  each : ∀ e ∈ es, OwnI w B e.v e.ks
theorem cells_snoc (es : List BE) (e : BE) : cellsOf (es ++ [e]) = cellsOf es ++ [e.v, .string e.t] := by
  unfold cellsOf
  rw [List.flatMap_append]
  rfl
theorem own_kinds {w : World} {B : Nat} {v u : Value} {n m k j : Nat} {xs ys : List Value} {a b : TypeId} (h : w.ownsRow B a k v n xs) (h2 : w.ownsRow B b j u m ys) (hne : a ≠ b) : v.ownBlock = none ∨ v.ownBlock ≠ u.ownBlock := by
  rcases h.2 with ⟨rfl, _⟩ | ⟨g, cap, cur, rfl, _, hh, _⟩
  · exact .inl rfl
  · rcases h2.2 with ⟨rfl, _⟩ | ⟨g', cap', cur', rfl, _, hh', _⟩
    · exact .inr (by simp [Value.ownBlock])
    · refine .inr fun e => ?_
      simp [Value.ownBlock] at e
      subst e
      rw [hh] at hh'
      injection hh' with hh'
      injection hh' with _ e
      exact hne e
theorem WinI.kept {w w' : World} {B : Nat} {v : Value} {l : List Int} {row : Option Nat} (h : WinI w B v l) (hg : w.grownBy w' row) (hne : v.ownBlock ≠ row) : WinI w' B v l := by
  obtain ⟨g, off, cap, rfl, h1, h2, h3, h4, h5, h6⟩ := h
  have hblk := hg.block g h2 hne
  exact ⟨g, off, cap, rfl, h1, Nat.lt_of_lt_of_le h2 hg.size, h3, fun i hi => (World.cell?_of_block (a := ⟨g, off + i, none⟩) hblk).trans (h4 i hi), fun j hj => by rw [World.cell?_of_block (a := ⟨g, off + j, none⟩) hblk]; exact h5 j hj, by obtain ⟨cs, h6⟩ := h6; exact ⟨cs, hblk.trans h6⟩⟩
theorem grown_of_chg {w w' : World} {g : Nat} (h : Chg (· = g) w w') : w.grownBy w' (some g) := ⟨h.os, h.tape, h.output, h.size, fun i hi hn => h.block i hi fun e => hn (by rw [e])⟩
/-- A block more is gathered. -/
theorem out_append {w : World} {B : Nat} {v : Value} {es : List BE} (h : OutRow w B v es) (hB : B ≤ w.heap.size) {e : BE} {q c : Nat} (he : OwnI w B e.v e.ks) (hq : Has w q 38 #[e.v, .string e.t]) (hl : es.length ≤ 1000) :
    ∃ v' w', (∀ ty, (Builtin.append_ #[44, 44] ty #[v, .slice (some ⟨q, 0, none⟩) 1 c]).run Tryz.prog w = .ok v' w') ∧ OutRow w' B v' (es ++ [e]) ∧ w.grownBy w' v.ownBlock := by
  obtain ⟨i0, hi, hz0, hz1, hz2⟩ := info_parts info_blk
  have hone : ∀ u ∈ [e.v, Value.string e.t], u.oneCell' = true := by
    intro u hu
    rcases List.mem_cons.1 hu with e' | hu
    · rw [e']; rfl
    · rw [List.mem_singleton.1 hu]; rfl
  have hnews : ∀ j u, [e.v, Value.string e.t][j]? = some u → w.cell? ((⟨q, 0, none⟩ : Addr).add j) = some u := by
    intro j u hu
    have ha : (⟨q, 0, none⟩ : Addr).add j = ⟨q, j, none⟩ := by
      unfold Addr.add
      split
      · next h => rw [h]
      · simp
    rw [ha]
    match j, hu with
    | 0, hu => exact (Has.at_ hq 0).trans hu
    | 1, hu => exact (Has.at_ hq 1).trans hu
    | j + 2, hu => simp at hu
  obtain ⟨v', w', hr, ho, hg, _⟩ := run_append_own (P := Tryz.prog) w B 44 0 38 i0 (.agg #[.slice none 0 0, .string ⟨#[]⟩]) 2 40 Tryz.underlying44 hi hz0 hz1 hz2 rfl (by decide) v es.length (cellsOf es) h.row ⟨q, 0, none⟩ 1 c [e.v, .string e.t] rfl hnews hone (by unfold maxLen; omega) (by omega) hB
  refine ⟨v', w', fun ty => hr, ⟨?_, fun x hx => ?_⟩, hg⟩
  · rw [cells_snoc, List.length_append]
    exact ho
  · have hk : OwnI w B x.v x.ks := by
      rcases List.mem_append.1 hx with hx | hx
      · exact h.each x hx
      · rw [List.mem_singleton.1 hx]
        exact he
    exact World.ownsRow.kept hk hg (own_kinds hk h.row (by decide))
/-- What comes of a Get. -/
theorem get_shape {s : SV} {z E : Int} {o : Option (List Int × ByteArray)} (h : getV s z = (o, E)) : (o = none ∧ E ≠ 0) ∨ ∃ b, o = some b ∧ E = 0 ∧ b.1.length ≤ 16 := by
  unfold getV at h
  split at h
  · cases o with
    | none => exact .inl ⟨rfl, read_err h⟩
    | some b =>
      refine .inr ⟨b, rfl, ?_, read_len h⟩
      unfold readV at h
      split at h
      · cases hp : parseB s.dev.size (Dv.rdS s.dev z) with
        | none => rw [hp] at h; cases h
        | some x =>
          rw [hp] at h
          injection h with _ h
          exact h.symm
      · cases h
  · injection h with h1 h2
    exact .inl ⟨h1.symm, by omega⟩
def sliceLen : Value → Nat
  | .slice _ n _ => n
  | _ => 0
def BelowIs (s : SV) (id : Int) (B : Nat) (e : Ending) (w' : World) : Prop := ∃ v es, e = .returned v ∧ OutRow w' B v es ∧ es.map BE.val = hangs (getV s) id
theorem below_end {g : Int → Option (List Int × ByteArray) × Int} {f : Nat} {l : List Int} {out R : List (List Int × ByteArray)} (h : belowV g f l out = R) (he : l = [] ∨ ¬ out.length < 200) : out = R := by
  rw [← h]
  cases f with
  | zero => rfl
  | succ f =>
    cases l with
    | nil => rfl
    | cons z l =>
      rcases he with he | he
      · cases he
      · unfold belowV
        rw [if_neg he]
theorem below_none {g : Int → Option (List Int × ByteArray) × Int} {f : Nat} {z : Int} {l : List Int} {out R : List (List Int × ByteArray)} (h : belowV g f (z :: l) out = R) (hf : fuelV (z :: l) out ≤ f) (hl : out.length < 200) (hg : (g z).1 = none) : ∃ f', belowV g f' l out = R ∧ fuelV l out ≤ f' ∧ f' ≤ f := by
  unfold fuelV at hf
  rw [List.length_cons] at hf
  cases f with
  | zero => omega
  | succ f =>
    unfold belowV at h
    rw [if_pos hl, hg] at h
    exact ⟨f, h, by unfold fuelV; omega, by omega⟩
theorem below_some {g : Int → Option (List Int × ByteArray) × Int} {f : Nat} {z : Int} {l : List Int} {out R : List (List Int × ByteArray)} {b : List Int × ByteArray} (h : belowV g f (z :: l) out = R) (hf : fuelV (z :: l) out ≤ f) (hl : out.length < 200) (hg : (g z).1 = some b) (hb : b.1.length ≤ 16) : ∃ f', belowV g f' (l ++ b.1) (out ++ [b]) = R ∧ fuelV (l ++ b.1) (out ++ [b]) ≤ f' ∧ f' ≤ f := by
  unfold fuelV at hf
  rw [List.length_cons] at hf
  cases f with
  | zero => omega
  | succ f =>
    unfold belowV at h
    rw [if_pos hl, hg] at h
    exact ⟨f, h, by unfold fuelV; rw [List.length_append, List.length_append, List.length_singleton]; omega, by omega⟩
theorem own_sl2 {w : World} {b n k : Nat} {e : TypeId} {u : Value} {l : List Value} (h : w.ownsRow b e k u n l) : ∃ A c, u = .slice A n c := by
  rcases h.2 with ⟨e1, e0⟩ | ⟨g, cap, cur, e, _, _, _⟩
  · exact ⟨none, 0, by rw [e1, e0]⟩
  · exact ⟨_, cap, e⟩
theorem win_head {w : World} {B g off cap n : Nat} {z : Int} {l : List Int} (h : WinI w B (.slice (some ⟨g, off, none⟩) n cap) (z :: l)) : w.cell? ⟨g, off, none⟩ = some (.int .i64 z) ∧ n = l.length + 1 ∧ l.length + 1 ≤ cap := by
  obtain ⟨g', off', cap', e, h1, h2, h3, h4, h5, h6⟩ := h
  injection e with e1 e4 e2
  injection e1 with e1
  injection e1 with e1 e3 _
  subst e1 e2 e3
  rw [List.length_cons] at h3 e4
  exact ⟨h4 0 (by simp), e4, h3⟩
theorem OutRow.below {w w' : World} {B : Nat} {v : Value} {es : List BE} (h : OutRow w B v es) (hb : Below w.heap.size w w') : OutRow w' B v es :=
  ⟨World.ownsRow.kept h.row (row := none) ⟨hb.os, hb.tape, hb.output, hb.size, fun k hk _ => hb.block k hk⟩ (by cases v.ownBlock <;> simp), fun e he => own_below (h.each e he) hb⟩
theorem own_grown {w w' : World} {B : Nat} {v : Value} {l : List Int} {row : Option Nat} (h : OwnI w B v l) (hg : w.grownBy w' row) (hne : v.ownBlock = none ∨ v.ownBlock ≠ row) : OwnI w' B v l := World.ownsRow.kept h hg hne
theorem OutRow.grown {w w' : World} {B g : Nat} {v : Value} {es : List BE} (h : OutRow w B v es) (hg : w.grownBy w' (some g)) (h1 : v.ownBlock ≠ some g) (h2 : ∀ e ∈ es, e.v.ownBlock ≠ some g) : OutRow w' B v es :=
  ⟨World.ownsRow.kept h.row hg (.inr h1), fun e he => own_grown (h.each e he) hg (.inr (h2 e he))⟩
theorem out_apart {w : World} {B n : Nat} {v u : Value} {l : List Int} {xs : List Value} (h : w.ownsRow B 38 2 u n xs) (hw : WinI w B v l) : u.ownBlock ≠ v.ownBlock := by
  obtain ⟨g, off, cap, rfl, _, _, _, _, _, cs, h6⟩ := hw
  rcases h.2 with ⟨rfl, _⟩ | ⟨q, cap', cur, rfl, _, hh, _⟩
  · simp [Value.ownBlock]
  · intro e
    simp [Value.ownBlock] at e
    subst e
    unfold Oct.Has at h6
    rw [hh] at h6
    injection h6 with h6
    injection h6 with _ e
    exact absurd e (by decide)
theorem own_blk (A : Option Addr) (n c : Nat) : (Value.slice A n c).ownBlock = A.map (·.block) := by cases A <;> rfl
structure BelI (w : World) (g : Int → Option (List Int × ByteArray) × Int) (R : List (List Int × ByteArray)) (wr : World) (o t : Value) (es : List BE) (l : List Int) (f : Nat) : Prop where
  out : OutRow wr w.heap.size o es
  win : WinI wr w.heap.size t l
  kids : ∀ e ∈ es, e.v.ownBlock ≠ t.ownBlock
  ends : belowV g f l (es.map BE.val) = R
  fuel : fuelV l (es.map BE.val) ≤ f ∧ f ≤ 4001
  bel : Below w.heap.size w wr
set_option maxRecDepth 100000 in
set_option maxHeartbeats 8000000 in
theorem below_any (p : Nat) (F : Fr) (s : SV) (id : Int) (hsm : ∀ i, (Dv.rdS s.dev i).size ≤ 4104) (w : World) (h : StoIs w p F s) :
    Calls Tryz.prog 20 #[.pointer (some ⟨p, 0, none⟩), .int .i64 id] w fun e w' => BelowIs s id w.heap.size e w' ∧ Below w.heap.size w w' := by
  have HS := Lib.hid h
  have HSM := Lib.hid hsm
  have hf := Has.fresh w 3 #[.int .i64 id]
  have HST := Lib.hid (show BelI w (getV s) (hangs (getV s) id) (w.alloc (.cells #[.int .i64 id] 3)) (.slice none 0 0) (.slice (some ⟨w.heap.size, 0, none⟩) 1 1) [] [id] 4001 from
    ⟨⟨World.ownsRow_nil _ _ _ _, (fun e he => by cases he)⟩, ⟨w.heap.size, 0, 1, rfl, Nat.le_refl _, hf.bound, Nat.le_refl _, fun i hi => by
      obtain rfl : i = 0 := by simpa using hi
      exact Has.at_ hf 0, fun j hj => by
      obtain rfl : j = 0 := by omega
      rw [show (⟨w.heap.size, 0 + 0, none⟩ : Addr) = ⟨w.heap.size, 0, none⟩ from rfl, Has.at_ hf 0]
      rfl, ⟨_, hf⟩⟩, (fun e he => by cases he), rfl, ⟨by unfold fuelV; simp, Nat.le_refl _⟩, (Below.refl _ _).alloc (Nat.le_refl _) _⟩)
  clear h hsm hf
  go_enter Tryz.func20, Tryz.ntmps20
  go_wp2
  go_loopw [5, 6] (fun o t wr => ∃ (es : List BE) (l : List Int) (f : Nat) (A9 : Option Addr) (c9 g off cap : Nat), o = .slice A9 es.length c9 ∧ t = .slice (some ⟨g, off, none⟩) l.length cap ∧ Hid (BelI w (getV s) (hangs (getV s) id) wr (.slice A9 es.length c9) (.slice (some ⟨g, off, none⟩) l.length cap) es l f)) (fun o t _ => (200 - sliceLen o) * 20 + sliceLen t)
  case atStart => exact ⟨[], [id], 4001, none, 0, w.heap.size, 0, 1, rfl, rfl, HST⟩
  case round =>
    obtain ⟨es, l, f, A9, c9, g, off, cap, rfl, rfl, HI⟩ := hrel
    clear HST
    obtain ⟨N9, hN9⟩ : ∃ N, es.length = N := ⟨_, rfl⟩
    obtain ⟨M0, hM0⟩ : ∃ M, l.length = M := ⟨_, rfl⟩
    rw [hN9, hM0] at HI ⊢
    have HN := Lib.hid (And.intro hN9 hM0)
    clear hN9 hM0
    by_cases hlen : N9 < 200
    · cases l with
      | nil =>
        have hM0 : M0 = 0 := HN.out.2.symm
        have HE := Lib.hid (below_end HI.out.ends (.inl rfl))
        clear HN
        subst hM0
        go_wp2
        go_ret
        exact ⟨⟨_, es, rfl, HI.out.out, HE.out⟩, HI.out.bel⟩
      | cons z l =>
        obtain ⟨k0, hM0, hcap⟩ := win_head HI.out.win
        obtain ⟨x, hx⟩ : ∃ x, getV s z = x := ⟨_, rfl⟩
        obtain ⟨o, E⟩ := x
        have HGT := Lib.hid (get_sto p F s z wr (HS.out.below HI.out.bel) (HSM.out _) o E hx)
        have HX := Lib.hid hx
        have hM1 : (0 : Int) < (M0 : Int) := by omega
        have HCAP := Lib.hid (And.intro hM0 hcap)
        have HL2 := Lib.hid (show (es.map BE.val).length < 200 by rw [List.length_map, HN.out.1]; exact hlen)
        clear hx hcap hM0
        go_wp2_with fail
        refine HGT.out.mono ?_
        rintro e w2 ⟨hq, b2⟩
        rcases get_shape HX.out with ⟨ho, hE⟩ | ⟨b, ho, hE, hb16⟩
        · subst ho
          have hq : e = .returned (.tuple #[.agg #[.slice none 0 0, .string ⟨#[]⟩], .int .i64 E]) := hq
          subst hq
          have hne : (E != 0) = true := by simpa using hE
          have hb3 : Below wr.heap.size wr (w2.alloc (.cells #[.slice none 0 0, .string ⟨#[]⟩] 38)) := b2.alloc b2.size _
          have HB3 := Lib.hid hb3
          obtain ⟨f', hf1, hf2, hf3⟩ := below_none HI.out.ends HI.out.fuel.1 HL2.out (by rw [HX.out])
          have HF := Lib.hid (And.intro hf1 (And.intro hf2 (Nat.le_trans hf3 HI.out.fuel.2)))
          clear b2 hb3 hE HGT hf1 hf2 hf3 k0
          by_cases hc : cap = 1
          · subst hc
            have hl0 : l = [] := List.eq_nil_of_length_eq_zero (by have := HCAP.out.2; omega)
            subst hl0
            have hm : M0 = 1 := by have := HCAP.out.1; simpa using this
            subst hm
            go_wp2
            go_roundw
            case rel =>
              refine ⟨es, [], f', A9, c9, g, off, 0, by rw [HN.out.1], rfl, Lib.hid ⟨?_, ?_, HI.out.kids, HF.out.1, HF.out.2, HI.out.bel.trans (HB3.out.mono HI.out.bel.size)⟩⟩
              · rw [HN.out.1]
                exact HI.out.out.below HB3.out
              · exact (win_last (z := z) (l := []) HI.out.win).2.below HB3.out
            case measure => simp [sliceLen]
          · have hm1 : (1 : Int) ≤ (M0 : Int) := by omega
            go_wp2
            go_roundw
            case rel =>
              have hm := HCAP.out.1
              refine ⟨es, l, f', A9, c9, g, off + 1, cap - 1, by rw [HN.out.1], by rw [hm]; rfl, Lib.hid ⟨?_, ?_, HI.out.kids, HF.out.1, HF.out.2, HI.out.bel.trans (HB3.out.mono HI.out.bel.size)⟩⟩
              · rw [HN.out.1]
                exact HI.out.out.below HB3.out
              · have hw := HI.out.win
                rw [hm] at hw
                exact (win_tail hw hc).below HB3.out
            case measure => have hm := HCAP.out.1; simp [sliceLen]; omega
        · subst ho hE
          obtain ⟨ks, tx⟩ := b
          obtain ⟨v8, rfl, hov⟩ : ∃ v, e = .returned (.tuple #[.agg #[v, .string tx], .int .i64 0]) ∧ OwnI w2 wr.heap.size v ks := hq
          obtain ⟨A8, c8, rfl⟩ := own_sl hov
          have hb3 : Below wr.heap.size wr (w2.alloc (.cells #[.slice A8 ks.length c8, .string tx] 38)) := b2.alloc b2.size _
          have hq3 := Has.fresh w2 38 #[.slice A8 ks.length c8, .string tx]
          have j0 := Has.at_ hq3 0
          have j1 := Has.at_ hq3 1
          simp at j0 j1
          have hq4 := Has.fresh (w2.alloc (.cells #[.slice A8 ks.length c8, .string tx] 38)) 38 #[.slice A8 ks.length c8, .string tx]
          rw [World.size_alloc] at hq4
          have hb4 : Below wr.heap.size wr ((w2.alloc (.cells #[.slice A8 ks.length c8, .string tx] 38)).alloc (.cells #[.slice A8 ks.length c8, .string tx] 38)) := hb3.alloc hb3.size _
          obtain ⟨w4, hw4⟩ : ∃ w4, (w2.alloc (.cells #[.slice A8 ks.length c8, .string tx] 38)).alloc (.cells #[.slice A8 ks.length c8, .string tx] 38) = w4 := ⟨_, rfl⟩
          have hov4 : OwnI w4 w.heap.size (BE.v ⟨A8, c8, ks, tx⟩) ks := by
            rw [← hw4]
            exact own_low (World.ownsRow.alloc (World.ownsRow.alloc hov _) _) HI.out.bel.size
          rw [hw4] at hq4 hb4
          have hB4 := HI.out.bel.trans (hb4.mono HI.out.bel.size)
          have hout := HI.out.out.below hb4
          have hwin := HI.out.win.below hb4
          have hnew : Value.ownBlock (BE.v ⟨A8, c8, ks, tx⟩) ≠ some g := by
            intro hg
            have hge : wr.heap.size ≤ g := (World.ownsRow.lt hov g hg).1
            obtain ⟨g', off', cap', e, _, hlt, _⟩ := HI.out.win
            injection e with e1 _ _
            injection e1 with e1
            injection e1 with e1 _ _
            omega
          obtain ⟨v5, w5, hr5, ho5, hg5⟩ := out_append (e := ⟨A8, c8, ks, tx⟩) (c := 1) (v := .slice A9 N9 c9) (es := es) (by have h := hout; rw [← HN.out.1] at h ⊢; exact h) hB4.size hov4 hq4 (by rw [HN.out.1]; omega)
          obtain ⟨A5, c5, rfl⟩ := own_sl2 ho5.row
          have hwin5 := hwin.kept hg5 (fun e => out_apart hout.row hwin e.symm)
          have hb5 : Below w.heap.size w4 w5 := ⟨hg5.os, hg5.tape, hg5.output, hg5.size, fun i hi => hg5.block i (Nat.lt_of_lt_of_le hi hB4.size) (fun e => by have := (World.ownsRow.lt hout.row i e.symm).1; omega)⟩
          have hB5 := hB4.trans hb5
          have hz2 : w2.heap.size < w4.heap.size := by rw [← hw4]; simp; omega
          have hq5 : Has w5 w2.heap.size 38 #[.slice A8 ks.length c8, .string tx] := by
            unfold Oct.Has
            rw [hg5.block _ hz2 (fun e => by
              have h1 := (World.ownsRow.lt HI.out.out.row w2.heap.size (by rw [own_blk] at e ⊢; exact e.symm)).2
              have h2 := b2.size
              omega)]
            rw [← hw4]
            exact hq3.past _
          have m0 := Has.at_ hq5 0
          simp at m0
          have hkid5 : NumRow w5 A8 ks.length ks := row_of_own (ho5.each ⟨A8, c8, ks, tx⟩ (by simp)) rfl
          have hfu := HI.out.fuel
          obtain ⟨v6, w6, g5, g6, hr6, hw6, hb6, eg5, eg6, hgg, hc6⟩ := win_append hwin5 hB5.size (c := c8) hkid5 (by have : ks.length ≤ 16 := hb16; omega) (by have := hfu.1; unfold fuelV at this; omega)
          have hB6 := hB5.trans hb6
          have eg : g5 = g := by
            have : some g = some g5 := eg5
            injection this with this
            exact this.symm
          subst eg
          have hk5 : ∀ e ∈ es ++ [⟨A8, c8, ks, tx⟩], e.v.ownBlock ≠ some g5 := fun e he => by
            rcases List.mem_append.1 he with he | he
            · exact HI.out.kids e he
            · rw [List.mem_singleton.1 he]
              exact hnew
          have ho6 := ho5.grown (grown_of_chg hc6) (out_apart ho5.row hwin5) hk5
          have hk6 : ∀ e ∈ es ++ [⟨A8, c8, ks, tx⟩], e.v.ownBlock ≠ v6.ownBlock := fun e he => by
            rw [eg6]
            rcases hgg with q | q
            · rw [q]; exact hk5 e he
            · rw [q]
              intro hq
              have := (World.ownsRow.lt (ho5.each e he) _ hq).2
              omega
          obtain ⟨f', hf1, hf2, hf3⟩ := below_some HI.out.ends HI.out.fuel.1 HL2.out (by rw [HX.out]) hb16
          have hf1 : belowV (getV s) f' (l ++ ks) ((es ++ [(⟨A8, c8, ks, tx⟩ : BE)]).map BE.val) = hangs (getV s) id := by rw [List.map_append]; exact hf1
          have hf2 : fuelV (l ++ ks) ((es ++ [(⟨A8, c8, ks, tx⟩ : BE)]).map BE.val) ≤ f' := by rw [List.map_append]; exact hf2
          have HF := Lib.hid (And.intro hf1 (And.intro hf2 (Nat.le_trans hf3 HI.out.fuel.2)))
          have hw7 := hw6
          obtain ⟨g2, off2, cap2, rfl, _⟩ := hw7
          rw [List.cons_append] at hr6 hw6 hk6
          subst hw4
          have HO6 := Lib.hid ho6
          have HW6 := Lib.hid hw6
          have HK6 := Lib.hid hk6
          have HB6 := Lib.hid hB6
          obtain ⟨N5, hN5⟩ : ∃ N, (es ++ [(⟨A8, c8, ks, tx⟩ : BE)]).length = N := ⟨_, rfl⟩
          obtain ⟨M2, hM2⟩ : ∃ M, (z :: (l ++ ks)).length = M := ⟨_, rfl⟩
          rw [hN5] at hr5 HO6
          rw [hM2] at hr6 HW6 HK6
          obtain ⟨_, hm2, hcap2⟩ := win_head HW6.out
          have HN5 := Lib.hid (And.intro hN5 (And.intro hm2 (show N5 = N9 + 1 by rw [← hN5, List.length_append, HN.out.1]; rfl)))
          have HKL := Lib.hid (show (l ++ ks).length = l.length + ks.length from List.length_append)
          clear hov hov4 hout hwin hnew ho5 hwin5 hb5 hB5 hB4 hkid5 hb6 hB6 eg5 eg6 hgg hc6 hk5 ho6 hk6 hf1 hf2 hf3 hw6 hN5 hM2 b2 hb3 hb4 hq3 hq4 hg5 hfu HGT k0 hq5 hz2
          have HR5 := Lib.hid hr5
          have HR6 := Lib.hid hr6
          clear hr5 hr6
          have HK16 := Lib.hid (show ks.length ≤ 16 from hb16)
          clear hb16
          by_cases hc : cap2 = 1
          · subst hc
            have hl0 : l ++ ks = [] := List.eq_nil_of_length_eq_zero (by omega)
            have hm2' : M2 = 1 := by rw [hm2, hl0]; rfl
            subst hm2'
            clear hm2 hcap2
            have HL0 := Lib.hid hl0
            clear hl0
            go_wp2_with (at_builtin; first | refine wpList_run_append rfl (.tmp 31) (.tmp 33) _ rfl rfl rfl (HR5.out _) ?_ | refine wpList_run_append rfl (.tmp 35) (.tmp 37) _ rfl rfl rfl (HR6.out _) ?_)
            go_roundw
            case rel =>
              refine ⟨es ++ [(⟨A8, c8, ks, tx⟩ : BE)], l ++ ks, f', A5, c5, g2, off2, 0, by rw [HN5.out.1], by rw [HL0.out]; rfl, Lib.hid ⟨?_, ?_, HK6.out, HF.out.1, HF.out.2, HB6.out⟩⟩
              · rw [HN5.out.1]
                exact HO6.out
              · have hw := HW6.out
                rw [HL0.out] at hw ⊢
                exact (win_last (z := z) (l := []) hw).2
            case measure => have h1 := HN5.out.2.2; have h2 := HCAP.out.1; simp [sliceLen]; omega
          · have hm1 : (1 : Int) ≤ (M2 : Int) := by omega
            clear hm2 hcap2
            go_wp2_with (at_builtin; first | refine wpList_run_append rfl (.tmp 31) (.tmp 33) _ rfl rfl rfl (HR5.out _) ?_ | refine wpList_run_append rfl (.tmp 35) (.tmp 37) _ rfl rfl rfl (HR6.out _) ?_)
            go_roundw
            case rel =>
              have hm := HN5.out.2.1
              refine ⟨es ++ [(⟨A8, c8, ks, tx⟩ : BE)], l ++ ks, f', A5, c5, g2, off2 + 1, cap2 - 1, by rw [HN5.out.1], by rw [hm]; rfl, Lib.hid ⟨?_, ?_, HK6.out, HF.out.1, HF.out.2, HB6.out⟩⟩
              · rw [HN5.out.1]
                exact HO6.out
              · have hw := HW6.out
                rw [hm] at hw
                exact win_tail hw hc
            case measure => have h1 := HN5.out.2.2; have h2 := HCAP.out.1; have h3 := HN5.out.2.1; have h4 := HKL.out; have h5 := HK16.out; simp [sliceLen]; omega
    · have HE := Lib.hid (below_end HI.out.ends (.inr (by rw [List.length_map, HN.out.1]; exact hlen)))
      have hb : ¬ (N9 : Int) < 200 := by omega
      by_cases hl0 : M0 = 0
      · subst hl0
        go_wp2
        go_ret
        exact ⟨⟨_, es, rfl, HI.out.out, HE.out⟩, HI.out.bel⟩
      · have hp : (0 : Int) < (M0 : Int) := by omega
        go_wp2
        go_ret
        exact ⟨⟨_, es, rfl, HI.out.out, HE.out⟩, HI.out.bel⟩
end Go.Proofs.YtkbpjegegjgbkaaGreat.Sto
