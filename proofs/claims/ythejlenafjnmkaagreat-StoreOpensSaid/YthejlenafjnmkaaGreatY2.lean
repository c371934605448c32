/- The document's device: contracts. -/
import Derived.Test.YthejlenafjnmkaaGreatY1
import Derived.Laws.MakeOwn

namespace Go.Proofs.YthejlenafjnmkaaGreat.Dv
open Go.RowKit
open Mem
open Rws

def mk (n : Nat) (f : Nat → Value) : Array Value := ((List.range n).map f).toArray
theorem mk_get (n : Nat) (f : Nat → Value) (i : Nat) (h : i < n) : (mk n f)[i]? = some (f i) := by
  simp [mk, h]
theorem mk_size (n : Nat) (f : Nat → Value) : (mk n f).size = n := by simp [mk]
theorem mk_ext (n : Nat) (f g : Nat → Value) (h : ∀ i, i < n → f i = g i) : mk n f = mk n g := by
  unfold mk
  congr 1
  exact List.map_congr_left fun i hi => h i (List.mem_range.1 hi)
theorem mk_set (n : Nat) (f : Nat → Value) (i : Nat) (u : Value) : (mk n f).setIfInBounds i u = mk n fun y => if y = i then u else f y := by
  apply Array.ext
  · simp [mk]
  · intro j h1 h2
    have h3 : j < n := by simpa [mk] using h2
    rw [Array.getElem_setIfInBounds (by simpa [mk] using h3)]
    simp only [mk, List.getElem_toArray, List.getElem_map, List.getElem_range]
    by_cases hij : i = j
    · subst hij; simp
    · rw [if_neg hij, if_neg (fun e => hij e.symm)]
/-- The reference's device d at block p; its rows at a, b, c. -/
structure RefIs (w : World) (p a b c : Nat) (d : St) : Prop where
  obj : Has w p 80 #[.slice (some ⟨a, 0, none⟩) d.size d.size, .slice (some ⟨b, 0, none⟩) d.size d.size, .slice (some ⟨c, 0, none⟩) d.size d.size, .bool (!d.on), .int .i64 d.fuse]
  kept : Has w a 9 (mk d.size fun i => .string ((d.kept i).getD ⟨#[]⟩))
  dirt : ∃ df : Nat → ByteArray, Has w b 9 (mk d.size fun i => .string (df i)) ∧ ∀ i, i < d.size → ∀ s, d.dirty (i : Int) = some s → df i = s
  is_ : Has w c 4 (mk d.size fun i => .bool (d.dirty i).isSome)
  apart : (p ≠ a ∧ p ≠ b ∧ p ≠ c) ∧ a ≠ b ∧ a ≠ c ∧ b ≠ c
  lo : 8 ≤ d.size
  hi : d.size ≤ 4096
  least : -1 ≤ d.fuse
  most : d.fuse ≤ 9223372036854775807
/-- The blocks that it is. -/
def ROwn (p a b c : Nat) : Nat → Prop := fun k => k = p ∨ k = a ∨ k = b ∨ k = c
theorem RefIs.over {S : Nat → Prop} {w w' : World} {p a b c : Nat} {d : St} (h : RefIs w p a b c d) (hc : Chg S w w') (hs : ∀ k, ROwn p a b c k → ¬ S k) : RefIs w' p a b c d := by
  obtain ⟨df, h1, h2⟩ := h.dirt
  exact ⟨h.obj.over hc (hs _ (.inl rfl)), h.kept.over hc (hs _ (.inr (.inl rfl))), ⟨df, h1.over hc (hs _ (.inr (.inr (.inl rfl)))), h2⟩, h.is_.over hc (hs _ (.inr (.inr (.inr rfl)))), h.apart, h.lo, h.hi, h.least, h.most⟩
theorem RefIs.below {w w' : World} {p a b c : Nat} {d : St} (h : RefIs w p a b c d) (hb : Below w.heap.size w w') : RefIs w' p a b c d :=
  h.over (Chg.of_below hb (fun _ => False)) (fun _ _ k => k)
theorem RefIs.bound {w : World} {p a b c : Nat} {d : St} (h : RefIs w p a b c d) : ∀ k, ROwn p a b c k → k < w.heap.size := by
  obtain ⟨df, h1, _⟩ := h.dirt
  rintro k (rfl | rfl | rfl | rfl)
  · exact h.obj.bound
  · exact h.kept.bound
  · exact h1.bound
  · exact h.is_.bound
/-- Only what lies inside counts. -/
theorem RefIs.congr {w : World} {p a b c : Nat} {d e : St} (h : RefIs w p a b c d) (h1 : e.on = d.on) (h2 : e.fuse = d.fuse) (h3 : e.size = d.size) (h4 : ∀ i : Nat, i < d.size → e.kept i = d.kept i ∧ e.dirty i = d.dirty i) : RefIs w p a b c e := by
  obtain ⟨df, g1, g2⟩ := h.dirt
  refine ⟨by rw [h1, h2, h3]; exact h.obj, ?_, ⟨df, by rw [h3]; exact g1, fun i hi s hs => g2 i (by omega) s (by rw [← (h4 i (by omega)).2]; exact hs)⟩, ?_, h.apart, by rw [h3]; exact h.lo, by rw [h3]; exact h.hi, by rw [h2]; exact h.least, by rw [h2]; exact h.most⟩
  · rw [h3, mk_ext _ _ (fun i => .string ((d.kept i).getD ⟨#[]⟩)) (fun i hi => by rw [(h4 i hi).1])]
    exact h.kept
  · rw [h3, mk_ext _ _ (fun i => .bool (d.dirty i).isSome) (fun i hi => by rw [(h4 i hi).2])]
    exact h.is_
theorem RefIs.put_kept {w : World} {p a b c : Nat} {d : St} (h : RefIs w p a b c d) (i : Nat) (s : ByteArray) :
    RefIs (w.setCell ⟨a, i, none⟩ (.string s)) p a b c { d with kept := fun z => if z = i then some s else d.kept z } := by
  obtain ⟨df, g1, g2⟩ := h.dirt
  have ap := h.apart
  refine ⟨Has.keep h.obj ap.1.1 _, ?_, ⟨df, Has.keep g1 (fun e => ap.2.1 e.symm) _, g2⟩, Has.keep h.is_ (fun e => ap.2.2.1 e.symm) _, ap, h.lo, h.hi, h.least, h.most⟩
  have hp := Has.put h.kept i (.string s)
  rw [mk_set] at hp
  refine (congrArg (fun x => Has _ _ _ x) (mk_ext _ _ _ fun y _ => ?_)).mp hp
  show _ = Value.string ((if (y : Int) = i then some s else d.kept y).getD ⟨#[]⟩)
  by_cases hy : y = i
  · subst hy; simp
  · rw [if_neg hy, if_neg (by omega)]
theorem RefIs.put_is {w : World} {p a b c : Nat} {d : St} (h : RefIs w p a b c d) (i : Nat) :
    RefIs (w.setCell ⟨c, i, none⟩ (.bool false)) p a b c { d with dirty := fun z => if z = i then none else d.dirty z } := by
  obtain ⟨df, g1, g2⟩ := h.dirt
  have ap := h.apart
  refine ⟨Has.keep h.obj ap.1.2.2 _, Has.keep h.kept ap.2.2.1 _, ⟨df, Has.keep g1 ap.2.2.2 _, fun y hy t ht => g2 y hy t (by
    have ht : (if (y : Int) = i then none else d.dirty y) = some t := ht
    split at ht
    · cases ht
    · exact ht)⟩, ?_, ap, h.lo, h.hi, h.least, h.most⟩
  have hp := Has.put h.is_ i (.bool false)
  rw [mk_set] at hp
  refine (congrArg (fun x => Has _ _ _ x) (mk_ext _ _ _ fun y _ => ?_)).mp hp
  show _ = Value.bool (if (y : Int) = i then none else d.dirty y).isSome
  by_cases hy : y = i
  · subst hy; simp
  · rw [if_neg hy, if_neg (by omega)]
theorem RefIs.put_dirt {w : World} {p a b c : Nat} {d : St} (h : RefIs w p a b c d) (i : Nat) (s : ByteArray) :
    RefIs ((w.setCell ⟨b, i, none⟩ (.string s)).setCell ⟨c, i, none⟩ (.bool true)) p a b c (putD d i s) := by
  obtain ⟨df, g1, g2⟩ := h.dirt
  have ap := h.apart
  refine ⟨Has.keep (Has.keep h.obj ap.1.2.1 _) ap.1.2.2 _, Has.keep (Has.keep h.kept ap.2.1 _) ap.2.2.1 _, ⟨fun y => if y = i then s else df y, ?_, fun y hy t ht => ?_⟩, ?_, ap, h.lo, h.hi, h.least, h.most⟩
  · have hp := Has.put g1 i (.string s)
    rw [mk_set] at hp
    refine Has.keep ((congrArg (fun x => Has _ _ _ x) (mk_ext _ _ _ fun y _ => ?_)).mp hp) ap.2.2.2 _
    by_cases hy : y = i
    · subst hy; simp
    · simp [hy]
  · have ht : (if (y : Int) = i then some s else d.dirty y) = some t := ht
    by_cases hyi : y = i
    · subst hyi
      rw [if_pos rfl] at ht
      injection ht with ht
      simp [ht]
    · rw [if_neg (by omega)] at ht
      simp only [if_neg hyi]
      exact g2 y hy t ht
  · have hp := Has.put (Has.keep h.is_ (fun e => ap.2.2.2 e.symm) (.string s) (p := ⟨b, i, none⟩)) i (.bool true)
    rw [mk_set] at hp
    refine (congrArg (fun x => Has _ _ _ x) (mk_ext _ _ _ fun y _ => ?_)).mp hp
    show _ = Value.bool (if (y : Int) = i then some s else d.dirty y).isSome
    by_cases hy : y = i
    · subst hy; simp
    · rw [if_neg hy, if_neg (by omega)]
theorem RefIs.put_power {w : World} {p a b c : Nat} {d : St} (h : RefIs w p a b c d) (o : Bool) :
    RefIs (w.setCell ⟨p, 3, none⟩ (.bool (!o))) p a b c { d with on := o } := by
  obtain ⟨df, g1, g2⟩ := h.dirt
  have ap := h.apart
  exact ⟨Has.put h.obj 3 _, Has.keep h.kept (fun e => ap.1.1 e.symm) _, ⟨df, Has.keep g1 (fun e => ap.1.2.1 e.symm) _, g2⟩, Has.keep h.is_ (fun e => ap.1.2.2 e.symm) _, ap, h.lo, h.hi, h.least, h.most⟩
theorem RefIs.put_fuse {w : World} {p a b c : Nat} {d : St} (h : RefIs w p a b c d) (n : Int) (h1 : -1 ≤ n) (h2 : n ≤ 9223372036854775807) :
    RefIs (w.setCell ⟨p, 4, none⟩ (.int .i64 n)) p a b c { d with fuse := n } := by
  obtain ⟨df, g1, g2⟩ := h.dirt
  have ap := h.apart
  exact ⟨Has.put h.obj 4 _, Has.keep h.kept (fun e => ap.1.1 e.symm) _, ⟨df, Has.keep g1 (fun e => ap.1.2.1 e.symm) _, g2⟩, Has.keep h.is_ (fun e => ap.1.2.2 e.symm) _, ap, h.lo, h.hi, h1, h2⟩
theorem chg_set {w : World} {S : Nat → Prop} {g i : Nat} (h : S g) (u : Value) : Chg S w (w.setCell ⟨g, i, none⟩ u) := (Chg.refl S w).setCell (p := ⟨g, i, none⟩) (.inl h) u
theorem ract_any (p a b c : Nat) (d : St) (w : World) (h : RefIs w p a b c d) :
    Calls Tryz.prog 68 #[.pointer (some ⟨p, 0, none⟩)] w fun e w' => e = .returned (.bool (decide (d.fuse ≠ 0))) ∧ RefIs w' p a b c (act d) ∧ Chg (ROwn p a b c) w w' ∧ w'.heap.size = w.heap.size := by
  have c3 := Has.at_ h.obj 3
  have c4 := Has.at_ h.obj 4
  have f3 := Has.free h.obj 3
  have f4 := Has.free h.obj 4
  have hl := h.least
  have hm := h.most
  simp at c3 c4
  by_cases h0 : d.fuse = 0
  · have e1 : act d = { d with on := false } := if_pos h0
    have e2 : decide (d.fuse ≠ 0) = false := decide_eq_false (fun k => k h0)
    rw [e1, e2]
    rw [h0] at c4
    have HH := Lib.hid h
    clear e1 e2 hl hm h
    go_enter Tryz.func68, Tryz.ntmps68
    go_wp2
    go_ret
    exact ⟨rfl, HH.out.put_power false, chg_set (.inl rfl) _, by simp [World.setCell]⟩
  · have e2 : decide (d.fuse ≠ 0) = true := decide_eq_true h0
    have t1 : (d.fuse == 0) = false := beq_eq_false_iff_ne.2 h0
    rw [e2]
    by_cases h1 : 0 < d.fuse
    · have e1 : act d = { d with fuse := d.fuse - 1 } := by unfold act; rw [if_neg h0, if_pos h1]
      rw [e1]
      have HH := Lib.hid h
      have HF := Lib.hid (h.put_fuse (d.fuse - 1) (by omega) (by omega))
      clear e1 e2 h0 h
      go_enter Tryz.func68, Tryz.ntmps68
      go_wp2
      go_ret
      exact ⟨rfl, HF.out, chg_set (.inl rfl) _, by simp [World.setCell]⟩
    · have e1 : act d = d := by unfold act; rw [if_neg h0, if_neg h1]
      rw [e1]
      have HH := Lib.hid h
      clear e1 e2 h0 h
      go_enter Tryz.func68, Tryz.ntmps68
      go_wp2
      go_ret
      exact ⟨rfl, HH.out, Chg.refl _ _, rfl⟩
end Go.Proofs.YthejlenafjnmkaaGreat.Dv
namespace Go.Proofs.YthejlenafjnmkaaGreat.Dv
open Go.RowKit
open Mem
open Rws

theorem inside_iff (d : St) (i : Int) : inside d i = true ↔ 0 ≤ i ∧ i < d.size := by
  unfold inside
  rw [Bool.and_eq_true, decide_eq_true_iff, decide_eq_true_iff]

theorem act_size (d : St) : (act d).size = d.size := by
  unfold act
  split
  · rfl
  · split <;> rfl
theorem chg_cell {S : Nat → Prop} {w w' : World} (h : Chg S w w') {b i : Nat} (hb : b < w.heap.size) (hs : ¬ S b) : w'.cell? ⟨b, i, none⟩ = w.cell? ⟨b, i, none⟩ := by
  simp only [World.cell?]
  rw [h.block b hb hs]

set_option maxRecDepth 100000 in
set_option maxHeartbeats 1000000 in
theorem rwrite_all (p a b c : Nat) (d : St) (i : Int) (s : ByteArray) (w : World) (h : RefIs w p a b c d) :
    Calls Tryz.prog 26 #[.pointer (some ⟨p, 0, none⟩), .int .i64 i, .string s] w fun e w' => e = .returned (.int .i64 (wrE d i s)) ∧ RefIs w' p a b c (wrD d i s) ∧ Chg (ROwn p a b c) w w' := by
  have c0 := Has.at_ h.obj 0
  have c3 := Has.at_ h.obj 3
  have HH := Lib.hid h
  have hsz := h.hi
  simp at c0 c3
  cases ho : d.on with
  | false =>
    have e1 : wrD d i s = d := if_neg (fun k => by rw [ho] at k; cases k.1)
    have e2 : wrE d i s = 5 := if_pos ho
    rw [e1, e2]
    rw [ho] at c3
    clear e1 e2 h
    go_enter Tryz.func26, Tryz.ntmps26
    go_wp2
    go_ret
    exact ⟨rfl, HH.out, Chg.refl _ _⟩
  | true =>
    rw [ho] at c3
    by_cases hb : inside d i = false ∨ 4096 < s.size
    · have e1 : wrD d i s = d := if_neg (fun k => by
        rcases hb with hb | hb
        · rw [hb] at k; cases k.2.1
        · omega)
      have e2 : wrE d i s = 22 := by unfold wrE; rw [if_neg (by rw [ho]; decide), if_pos hb]
      rw [e1, e2]
      have hin := inside_iff d i
      clear e1 e2 h
      by_cases j1 : i < 0
      · clear hb hin
        go_enter Tryz.func26, Tryz.ntmps26
        go_wp2
        go_ret
        exact ⟨rfl, HH.out, Chg.refl _ _⟩
      · by_cases j2 : (d.size : Int) ≤ i
        · clear hb hin
          go_enter Tryz.func26, Tryz.ntmps26
          go_wp2
          go_ret
          exact ⟨rfl, HH.out, Chg.refl _ _⟩
        · have j3 : 4096 < (s.size : Int) := by
            rcases hb with hb | hb
            · have := hin.2 ⟨by omega, by omega⟩
              rw [this] at hb
              cases hb
            · omega
          clear hb hin
          go_enter Tryz.func26, Tryz.ntmps26
          go_wp2
          go_ret
          exact ⟨rfl, HH.out, Chg.refl _ _⟩
    · have hi : inside d i = true := by
        cases hq : inside d i with
        | true => rfl
        | false => exact absurd (.inl hq) hb
      have hs : s.size ≤ 4096 := by
        rcases Nat.lt_or_ge 4096 s.size with k | k
        · exact absurd (.inr k) hb
        · exact k
      have hin := (inside_iff d i).1 hi
      have e1 : wrD d i s = writeD d i s := if_pos ⟨ho, hi, hs⟩
      have e2 : wrE d i s = actE d := by unfold wrE; rw [if_neg (by rw [ho]; decide), if_neg hb]
      rw [e1, e2]
      have HA := Lib.hid (ract_any p a b c d w h)
      obtain ⟨I, rfl⟩ := Int.eq_ofNat_of_zero_le hin.1
      have hI : I < d.size := by omega
      have j3 : ¬ 4096 < (s.size : Int) := by omega
      clear e1 e2 h hb hi
      by_cases h0 : d.fuse = 0
      · have e1 : writeD d I s = act d := if_pos h0
        have e2 : actE d = 5 := if_pos h0
        rw [e1, e2]
        have ef : decide (d.fuse ≠ 0) = false := decide_eq_false (fun k => k h0)
        rw [ef] at HA
        clear e1 e2 ef h0
        go_enter Tryz.func26, Tryz.ntmps26
        go_wp2_with fail
        refine HA.out.mono ?_
        rintro e w1 ⟨rfl, h1, g1, _⟩
        go_wp2
        go_ret
        exact ⟨rfl, h1, g1⟩
      · have e1 : writeD d I s = putD (act d) I s := if_neg h0
        have e2 : actE d = 0 := if_neg h0
        rw [e1, e2]
        have ef : decide (d.fuse ≠ 0) = true := decide_eq_true h0
        rw [ef] at HA
        clear e1 e2 ef h0
        go_enter Tryz.func26, Tryz.ntmps26
        go_wp2_with fail
        refine HA.out.mono ?_
        rintro e w1 ⟨rfl, h1, g1, _⟩
        have c0 := Has.at_ h1.obj 1
        have c1 := Has.at_ h1.obj 2
        simp at c0 c1
        obtain ⟨df, q1, _⟩ := h1.dirt
        have es := act_size d
        rw [es] at c0 c1 q1
        have cb := (Has.at_ q1 I).trans (mk_get _ _ I hI)
        have fb := Has.free q1 I
        have q2 := h1.is_
        rw [es] at q2
        have q2 := Has.keep q2 (p := ⟨b, I, none⟩) (fun e => h1.apart.2.2.2 e.symm) (.string s)
        have cc := (Has.at_ q2 I).trans (mk_get _ _ I hI)
        have fc := Has.free q2 I
        have cp := (Has.at_ (Has.keep h1.obj (p := ⟨b, I, none⟩) h1.apart.1.2.1 (.string s)) 2)
        simp at cp
        rw [es] at cp
        have H1 := Lib.hid (And.intro h1 g1)
        clear h1 g1 es q1 q2
        go_wp2
        go_ret
        exact ⟨rfl, H1.out.1.put_dirt I s, H1.out.2.trans ((chg_set (.inr (.inr (.inl rfl))) _).trans (chg_set (.inr (.inr (.inr rfl))) _))⟩
set_option maxRecDepth 100000 in
set_option maxHeartbeats 1000000 in
theorem rread_all (p a b c : Nat) (d : St) (i : Int) (w : World) (h : RefIs w p a b c d) :
    Calls Tryz.prog 50 #[.pointer (some ⟨p, 0, none⟩), .int .i64 i] w fun e w' => e = .returned (.tuple #[.string (rdS d i), .int .i64 (rdE d i)]) ∧ Below w.heap.size w w' := by
  have c0 := Has.at_ h.obj 0
  have c1 := Has.at_ h.obj 1
  have c2 := Has.at_ h.obj 2
  have c3 := Has.at_ h.obj 3
  have hsz := h.hi
  simp at c0 c1 c2 c3
  cases ho : d.on with
  | false =>
    have e1 : rdS d i = ⟨#[]⟩ := if_neg (fun k => by rw [ho] at k; cases k.1)
    have e2 : rdE d i = 5 := if_pos ho
    rw [e1, e2]
    rw [ho] at c3
    clear e1 e2 h
    go_enter Tryz.func50, Tryz.ntmps50
    go_wp2
    go_ret2
    exact ⟨rfl, Below.refl _ _⟩
  | true =>
    rw [ho] at c3
    cases hi : inside d i with
    | false =>
      have e1 : rdS d i = ⟨#[]⟩ := if_neg (fun k => by rw [hi] at k; cases k.2)
      have e2 : rdE d i = 22 := by unfold rdE; rw [if_neg (by rw [ho]; decide), if_pos hi]
      rw [e1, e2]
      have hin := inside_iff d i
      rw [hi] at hin
      clear e1 e2 h
      by_cases j1 : i < 0
      · clear hin
        go_enter Tryz.func50, Tryz.ntmps50
        go_wp2
        go_ret2
        exact ⟨rfl, Below.refl _ _⟩
      · have j2 : (d.size : Int) ≤ i := by
          rcases Int.lt_or_le i d.size with k | k
          · have := hin.2 ⟨by omega, k⟩
            cases this
          · exact k
        clear hin
        go_enter Tryz.func50, Tryz.ntmps50
        go_wp2
        go_ret2
        exact ⟨rfl, Below.refl _ _⟩
    | true =>
      have hin := (inside_iff d i).1 hi
      have e1 : rdS d i = readS d i := if_pos ⟨ho, hi⟩
      have e2 : rdE d i = 0 := by unfold rdE; rw [if_neg (by rw [ho]; decide), if_neg (by rw [hi]; decide)]
      rw [e1, e2]
      obtain ⟨I, rfl⟩ := Int.eq_ofNat_of_zero_le hin.1
      have hI : I < d.size := by omega
      obtain ⟨df, q1, q2⟩ := h.dirt
      have cb := (Has.at_ q1 I).trans (mk_get _ _ I hI)
      have cc := (Has.at_ h.is_ I).trans (mk_get _ _ I hI)
      have ca := (Has.at_ h.kept I).trans (mk_get _ _ I hI)
      cases hq : d.dirty (I : Int) with
      | some s =>
        have e3 : readS d I = s := by unfold readS; rw [hq]; rfl
        rw [hq] at cc
        have hd := q2 I hI s hq
        rw [hd] at cb
        rw [e3]
        simp only [Option.isSome_some] at cc
        clear e1 e2 e3 h hin hi hq hd q1 q2 ca
        go_enter Tryz.func50, Tryz.ntmps50
        go_wp2
        go_ret2
        exact ⟨rfl, Below.refl _ _⟩
      | none =>
        have e3 : readS d I = (d.kept I).getD ⟨#[]⟩ := by unfold readS; rw [hq]; rfl
        rw [hq] at cc
        rw [e3]
        simp only [Option.isSome_none] at cc
        generalize (d.kept (I : Int)).getD ⟨#[]⟩ = t at *
        clear e1 e2 e3 h hin hi hq q1 q2 cb
        go_enter Tryz.func50, Tryz.ntmps50
        go_wp2
        go_ret2
        exact ⟨rfl, Below.refl _ _⟩
set_option maxRecDepth 100000 in
theorem rfuse_all (p a b c : Nat) (d : St) (n : Int) (hn : n ≤ 9223372036854775807) (w : World) (h : RefIs w p a b c d) :
    Calls Tryz.prog 62 #[.pointer (some ⟨p, 0, none⟩), .int .i64 n] w fun e w' => e = .returned (.int .i64 (fuE d)) ∧ RefIs w' p a b c (fuD d n) ∧ Chg (ROwn p a b c) w w' := by
  have c3 := Has.at_ h.obj 3
  have c4 := Has.at_ h.obj 4
  have f4 := Has.free h.obj 4
  have HH := Lib.hid h
  simp at c3 c4
  cases ho : d.on with
  | false =>
    have e1 : fuD d n = d := if_neg (by rw [ho]; decide)
    have e2 : fuE d = 5 := if_neg (by rw [ho]; decide)
    rw [e1, e2]
    rw [ho] at c3
    clear e1 e2 h
    go_enter Tryz.func62, Tryz.ntmps62
    go_wp2
    go_ret
    exact ⟨rfl, HH.out, Chg.refl _ _⟩
  | true =>
    have e1 : fuD d n = fuseSt d n := if_pos ho
    have e2 : fuE d = 0 := if_pos ho
    rw [e1, e2]
    rw [ho] at c3
    have HF := Lib.hid (h.put_fuse (max n (-1)) (by omega) (by omega))
    clear e1 e2 h ho
    rcases Int.lt_trichotomy n (-1) with k | k | k
    · have k2 : ¬ -1 < n := by omega
      go_enter Tryz.func62, Tryz.ntmps62
      go_wp2
      go_ret
      have hx := HF.out
      rw [show (Value.int .i64 (max n (-1))) = .int .i64 (-1) by rw [show max n (-1) = -1 by omega]] at hx
      exact ⟨rfl, hx, chg_set (.inl rfl) _⟩
    · subst k
      have k1 : ¬ (-1 : Int) < -1 := by omega
      go_enter Tryz.func62, Tryz.ntmps62
      go_wp2
      go_ret
      exact ⟨rfl, HF.out, chg_set (.inl rfl) _⟩
    · have k2 : ¬ n < -1 := by omega
      go_enter Tryz.func62, Tryz.ntmps62
      go_wp2
      go_ret
      have hx := HF.out
      rw [show (Value.int .i64 (max n (-1))) = .int .i64 (n) by rw [show max n (-1) = n by omega]] at hx
      exact ⟨rfl, hx, chg_set (.inl rfl) _⟩
end Go.Proofs.YthejlenafjnmkaaGreat.Dv
namespace Go.Proofs.YthejlenafjnmkaaGreat.Dv
open Go.RowKit
open Mem
open Rws

/-- The blocks below j are as f says, and nothing was written to them since. -/
def midG (d : St) (f : Int → Option ByteArray) (j : Nat) : St := { d with kept := fun z => if z < j then f z else d.kept z, dirty := fun z => if z < j then none else d.dirty z }
theorem midG_zero {w : World} {p a b c : Nat} {d : St} (f : Int → Option ByteArray) (h : RefIs w p a b c d) : RefIs w p a b c (midG d f 0) := by
  refine h.congr rfl rfl rfl fun i _ => ?_
  have hn : ¬ (i : Int) < ((0 : Nat) : Int) := by omega
  constructor
  · show (if (i : Int) < ((0 : Nat) : Int) then f i else d.kept i) = _
    rw [if_neg hn]
  · show (if (i : Int) < ((0 : Nat) : Int) then none else d.dirty i) = _
    rw [if_neg hn]
theorem midG_next {w : World} {p a b c : Nat} {d e : St} (f : Int → Option ByteArray) (j : Nat) (h : RefIs w p a b c e) (h1 : e.on = d.on) (h2 : e.fuse = d.fuse) (h3 : e.size = d.size)
    (hk : ∀ z : Int, e.kept z = if z = j then f j else (midG d f j).kept z) (hd : ∀ z : Int, e.dirty z = if z = j then none else (midG d f j).dirty z) : RefIs w p a b c (midG d f (j + 1)) := by
  refine h.congr h1.symm h2.symm h3.symm fun i _ => ?_
  rw [hk, hd]
  constructor
  · show (if (i : Int) < ((j + 1 : Nat) : Int) then f i else d.kept i) = if (i : Int) = j then f j else if (i : Int) < j then f i else d.kept i
    rcases Nat.lt_trichotomy i j with k | k | k
    · rw [if_pos (by omega), if_neg (by omega), if_pos (by omega)]
    · subst k; rw [if_pos (by omega), if_pos rfl]
    · rw [if_neg (by omega), if_neg (by omega), if_neg (by omega)]
  · show (if (i : Int) < ((j + 1 : Nat) : Int) then none else d.dirty i) = if (i : Int) = j then none else if (i : Int) < j then none else d.dirty i
    rcases Nat.lt_trichotomy i j with k | k | k
    · rw [if_pos (by omega), if_neg (by omega), if_pos (by omega)]
    · subst k; rw [if_pos (by omega), if_pos rfl]
    · rw [if_neg (by omega), if_neg (by omega), if_neg (by omega)]
theorem midG_done {w : World} {p a b c : Nat} {d : St} {f : Int → Option ByteArray} (h : RefIs w p a b c (midG d f d.size)) : RefIs w p a b c { d with kept := f, dirty := fun _ => none } := by
  refine h.congr rfl rfl rfl fun i hi => ?_
  have hi : i < d.size := hi
  constructor
  · show _ = if (i : Int) < (d.size : Int) then f i else d.kept i
    rw [if_pos (by omega)]
  · show _ = if (i : Int) < (d.size : Int) then none else d.dirty i
    rw [if_pos (by omega)]
theorem RefIs.drew {w : World} {p a b c : Nat} {d : St} (h : RefIs w p a b c d) : RefIs w.drew p a b c d := h.over ((Chg.refl (fun _ => False) w).drew) (fun _ _ k => k)
theorem act_rest (d : St) : (act d).dirty = d.dirty ∧ (act d).kept = d.kept := by
  unfold act
  split
  · exact ⟨rfl, rfl⟩
  · split
    · exact ⟨rfl, rfl⟩
    · exact ⟨rfl, rfl⟩
def flF (d : St) : Int → Option ByteArray := fun z => (d.dirty z).or (d.kept z)
theorem flush_is (d : St) (h0 : d.fuse ≠ 0) : flushD d = { act d with kept := flF (act d), dirty := fun _ => none } := by
  unfold flushD flF
  rw [if_neg h0, (act_rest d).1, (act_rest d).2]
set_option maxRecDepth 100000 in
set_option maxHeartbeats 1000000 in
theorem rflush_all (p a b c : Nat) (d : St) (w : World) (h : RefIs w p a b c d) :
    Calls Tryz.prog 37 #[.pointer (some ⟨p, 0, none⟩)] w fun e w' => e = .returned (.int .i64 (flE d)) ∧ RefIs w' p a b c (flD d) ∧ Chg (ROwn p a b c) w w' := by
  have c3 := Has.at_ h.obj 3
  have HH := Lib.hid h
  simp at c3
  cases ho : d.on with
  | false =>
    have e1 : flD d = d := if_neg (by rw [ho]; decide)
    have e2 : flE d = 5 := if_neg (by rw [ho]; decide)
    rw [e1, e2]
    rw [ho] at c3
    clear e1 e2 h
    go_enter Tryz.func37, Tryz.ntmps37
    go_wp2
    go_ret
    exact ⟨rfl, HH.out, Chg.refl _ _⟩
  | true =>
    have e1 : flD d = flushD d := if_pos ho
    have e2 : flE d = actE d := if_pos ho
    rw [e1, e2]
    rw [ho] at c3
    have HA := Lib.hid (ract_any p a b c d w h)
    by_cases h0 : d.fuse = 0
    · have e1 : flushD d = act d := if_pos h0
      have e2 : actE d = 5 := if_pos h0
      rw [e1, e2]
      have ef : decide (d.fuse ≠ 0) = false := decide_eq_false (fun k => k h0)
      rw [ef] at HA
      clear e1 e2 ef h0 h
      go_enter Tryz.func37, Tryz.ntmps37
      go_wp2_with fail
      refine HA.out.mono ?_
      rintro e w1 ⟨rfl, h1, g1, _⟩
      go_wp2
      go_ret
      exact ⟨rfl, h1, g1⟩
    · have e2 : actE d = 0 := if_neg h0
      rw [e2]
      have ef : decide (d.fuse ≠ 0) = true := decide_eq_true h0
      rw [ef] at HA
      have HN := Lib.hid h0
      clear e1 e2 ef h0 h
      go_enter Tryz.func37, Tryz.ntmps37
      go_wp2_with fail
      refine HA.out.mono ?_
      rintro e w1 ⟨rfl, h1, g1, _⟩
      have c0 := Has.at_ h1.obj 0
      simp at c0
      have H1 := Lib.hid h1
      have G1 := Lib.hid g1
      have hn := h1.hi
      clear h1 g1
      go_wp2
      go_loopw [18] (fun z wr => ∃ j : Nat, j ≤ (act d).size ∧ z = .int .i64 j ∧ RefIs wr p a b c (midG (act d) (flF (act d)) j) ∧ Chg (ROwn p a b c) w1 wr) (fun z _ => (act d).size - (intOf z).toNat)
      case atStart => exact ⟨0, Nat.zero_le _, rfl, midG_zero _ H1.out, Chg.refl _ _⟩
      case round =>
        obtain ⟨j, hj, rfl, hr, hC⟩ := hrel
        have HFL := Lib.hid (flush_is d HN.out)
        generalize act d = e at *
        have HC := Lib.hid hC
        have HR := Lib.hid hr
        have hez : (midG e (flF e) j).size = e.size := rfl
        have c0 := Has.at_ hr.obj 0
        have c1 := Has.at_ hr.obj 1
        have c2 := Has.at_ hr.obj 2
        simp at c0 c1 c2
        rw [hez] at c0 c1 c2
        clear hC hr hez
        by_cases hlt : j < e.size
        · obtain ⟨df, q1, q2⟩ := HR.out.dirt
          have cc := (Has.at_ HR.out.is_ j).trans (mk_get _ _ j hlt)
          have ca := (Has.at_ HR.out.kept j).trans (mk_get _ _ j hlt)
          have cb := (Has.at_ q1 j).trans (mk_get _ _ j hlt)
          have fa := Has.free HR.out.kept j
          have ed : (midG e (flF e) j).dirty (j : Int) = e.dirty j := if_neg (by omega)
          rw [ed] at cc
          cases hq : e.dirty (j : Int) with
          | none =>
            rw [hq] at cc
            simp only [Option.isSome_none] at cc
            have hnx := Lib.hid (midG_next (d := e) (flF e) j HR.out rfl rfl rfl (fun z => by
              by_cases hz : z = j
              · subst hz
                rw [if_pos rfl]
                show (if (j : Int) < j then _ else e.kept j) = flF e j
                rw [if_neg (by omega)]
                unfold flF
                rw [hq]
                rfl
              · rw [if_neg hz]) (fun z => by
              by_cases hz : z = j
              · subst hz
                rw [if_pos rfl, ed, hq]
              · rw [if_neg hz]))
            clear c1 ca cb fa ed q1 q2
            go_wp2
            go_roundw
            case rel => exact ⟨j + 1, by omega, by go_num, hnx.out, HC.out⟩
            case measure => simp [intOf]; omega
          | some s =>
            rw [hq] at cc
            simp only [Option.isSome_some] at cc
            have e2 := q2 j hlt s (by rw [ed]; exact hq)
            rw [e2] at cb
            clear q1 q2 e2 ed
            go_wp2
            go_region
            have hk := Lib.hid ((HR.out.put_kept j s).drew)
            have hck := Lib.hid ((chg_set (S := ROwn p a b c) (w := wr) (g := a) (i := j) (.inr (.inl rfl)) (.string s)).drew)
            generalize (wr.setCell ⟨a, j, none⟩ (.string s)).drew = W5 at *
            have d2 := Has.at_ hk.out.obj 2
            simp at d2
            have dc := (Has.at_ hk.out.is_ j).trans (mk_get _ _ j hlt)
            have fc := Has.free hk.out.is_ j
            have hnx := Lib.hid (midG_next (d := e) (flF e) j (hk.out.put_is j) rfl rfl rfl (fun z => by
              show (if z = (j : Int) then some s else _) = _
              by_cases hz : z = j
              · subst hz
                rw [if_pos rfl, if_pos rfl]
                unfold flF
                rw [hq]
                rfl
              · rw [if_neg hz, if_neg hz]) (fun z => rfl))
            clear c0 c1 c2 ca cb cc fa
            go_wp2
            go_roundw
            case rel => exact ⟨j + 1, by omega, by go_num, hnx.out, HC.out.trans (hck.out.trans (chg_set (.inr (.inr (.inr rfl))) _))⟩
            case measure => simp [intOf]; omega
        · obtain rfl : j = e.size := by omega
          have hf := Lib.hid (midG_done HR.out)
          clear HR c1 c2 hlt hj
          go_wp2
          go_ret
          exact ⟨rfl, by rw [HFL.out]; exact hf.out, G1.out.trans HC.out⟩
end Go.Proofs.YthejlenafjnmkaaGreat.Dv
namespace Go.Proofs.YthejlenafjnmkaaGreat.Dv
open Go.RowKit
open Mem
open Rws

theorem numrow_chg {S : Nat → Prop} {w w' : World} {A : Option Addr} {n : Nat} {l : List Int} (h : NumRow w A n l) (hc : Chg S w w') (hs : 0 < n → ∀ a, A = some a → ¬ S a.block) : NumRow w' A n l :=
  ⟨h.1, fun hn => by
    obtain ⟨b, off, e, hl, hx⟩ := h.2 hn
    exact ⟨b, off, e, Nat.lt_of_lt_of_le hl hc.size, fun i hi => (chg_cell hc hl (hs hn _ e)).trans (hx i hi)⟩⟩
/-- Block j, of which the first m numbers were asked. -/
def midC (d : St) (ks : List Int) (j m : Nat) : St := { midG d (keepD d ks) j with kept := fun z => if z = (j : Int) then keepD d (ks.take m) j else (midG d (keepD d ks) j).kept z }
theorem keep_next (d : St) (ks : List Int) (m : Nat) (hm : m < ks.length) (z : Int) : keepD d (ks.take (m + 1)) z = if z = ks[m] then (d.dirty z).or (d.kept z) else keepD d (ks.take m) z := by
  rw [List.take_succ_eq_append_getElem hm, keep_snoc]
  by_cases h : z = ks[m]
  · subst h; simp
  · simp only [if_neg h]
theorem keep_none (d : St) (ks : List Int) (z : Int) (h : d.dirty z = none) : keepD d ks z = d.kept z := by
  unfold keepD
  rw [h]
  split <;> rfl
set_option maxRecDepth 100000 in
set_option maxHeartbeats 2000000 in
theorem rcrash_any (p a b c : Nat) (d : St) (A : Option Addr) (n q : Nat) (ks : List Int) (w : World) (hn : n ≤ 9223372036854775807) (hr : NumRow w A n ks) (h : RefIs w p a b c d) (hA : 0 < n → ∀ ad, A = some ad → ¬ ROwn p a b c ad.block) :
    Calls Tryz.prog 15 #[.pointer (some ⟨p, 0, none⟩), .slice A n q] w fun e w' => e = .returned (.int .i64 0) ∧ RefIs w' p a b c (crashD d ks) ∧ Chg (ROwn p a b c) w w' := by
  have c2 := Has.at_ h.obj 2
  simp at c2
  have HH := Lib.hid h
  have hsz := h.hi
  have HK := Lib.hid (And.intro hr hA)
  clear h hr hA
  go_enter Tryz.func15, Tryz.ntmps15
  go_wp2
  go_loopw [13] (fun z wr => ∃ j : Nat, j ≤ d.size ∧ z = .int .i64 j ∧ RefIs wr p a b c (midG d (keepD d ks) j) ∧ Chg (ROwn p a b c) w wr) (fun z _ => d.size - (intOf z).toNat)
  case atStart => exact ⟨0, Nat.zero_le _, rfl, midG_zero _ HH.out, Chg.refl _ _⟩
  case round =>
    obtain ⟨j, hj, rfl, hR, hC⟩ := hrel
    have HC := Lib.hid hC
    have HR := Lib.hid hR
    clear hC hR
    by_cases hlt : j < d.size
    · have H0 := Lib.hid (show RefIs wr p a b c (midC d ks j 0) from HR.out.congr rfl rfl rfl (fun i _ => ⟨by
        show (if (i : Int) = j then keepD d (ks.take 0) j else (midG d (keepD d ks) j).kept i) = _
        by_cases hi : (i : Int) = j
        · rw [if_pos hi, hi]
          show (if (j : Int) ∈ [] then _ else d.kept j) = if (j : Int) < j then _ else d.kept j
          rw [if_neg (by simp), if_neg (by omega)]
        · rw [if_neg hi], rfl⟩))
      clear HR
      obtain ⟨wo, hwo⟩ : ∃ wo : World, wo = wr := ⟨_, rfl⟩
      subst hwo
      go_wp2
      go_loopw [18] (fun z wq => ∃ m : Nat, m ≤ n ∧ z = .int .i64 m ∧ RefIs wq p a b c (midC d ks j m) ∧ Chg (ROwn p a b c) w wq) (fun z _ => n - (intOf z).toNat)
      case atStart => exact ⟨0, Nat.zero_le _, rfl, H0.out, HC.out⟩
      case round =>
        obtain ⟨m, hm, rfl, hR, hC2⟩ := hrel
        have HC2 := Lib.hid hC2
        have HR := Lib.hid hR
        have hez : (midC d ks j m).size = d.size := rfl
        have c0 := Has.at_ hR.obj 0
        have c1 := Has.at_ hR.obj 1
        have c2 := Has.at_ hR.obj 2
        simp at c0 c1 c2
        rw [hez] at c0 c1 c2
        clear hC2 hR hez
        have cc := (Has.at_ HR.out.is_ j).trans (mk_get _ _ j hlt)
        have ed : (midC d ks j m).dirty (j : Int) = d.dirty j := if_neg (by omega)
        by_cases hml : m < n
        · obtain ⟨kb, ko, rfl, hkb, hkc⟩ := (numrow_chg HK.out.1 HC2.out HK.out.2).2 (by omega)
          have mk1 : m < ks.length := by rw [HK.out.1.1]; exact hml
          have ck := hkc m mk1
          have HN := Lib.hid (keep_next d ks m mk1 j)
          clear hkb hkc
          generalize ks[m] = k at *
          clear mk1
          by_cases hkj : k = (j : Int)
          · have t1 : (k == (j : Int)) = true := by rw [hkj]; simp
            obtain ⟨df, q1, q2⟩ := HR.out.dirt
            have cb := (Has.at_ q1 j).trans (mk_get _ _ j hlt)
            cases hq : d.dirty (j : Int) with
            | none =>
              rw [ed, hq] at cc
              simp only [Option.isSome_none] at cc
              have hnx := Lib.hid (show RefIs wr p a b c (midC d ks j (m + 1)) from HR.out.congr rfl rfl rfl (fun i _ => ⟨by
                show (if (i : Int) = j then keepD d (ks.take (m + 1)) j else _) = if (i : Int) = j then keepD d (ks.take m) j else _
                rw [keep_none d _ _ hq, keep_none d _ _ hq], rfl⟩))
              clear c0 c1 cb q1 q2 ed hkj
              go_wp2
              go_roundw
              case rel => exact ⟨m + 1, by omega, by go_num, hnx.out, HC2.out⟩
              case measure => simp [intOf]; omega
            | some s =>
              rw [ed, hq] at cc
              simp only [Option.isSome_some] at cc
              have e2 := q2 j hlt s (by rw [ed]; exact hq)
              rw [e2] at cb
              have ca := (Has.at_ HR.out.kept j).trans (mk_get _ _ j hlt)
              have fa := Has.free HR.out.kept j
              have hv := Lib.hid (show keepD d (ks.take (m + 1)) (j : Int) = some s by rw [HN.out, if_pos hkj.symm, hq]; rfl)
              clear q1 q2 e2 ed hkj HN
              go_wp2
              go_region
              have hk := Lib.hid ((HR.out.put_kept j s).drew)
              have hck := Lib.hid ((chg_set (S := ROwn p a b c) (w := wr) (g := a) (i := j) (.inr (.inl rfl)) (.string s)).drew)
              have hnx := Lib.hid (show RefIs (wr.setCell ⟨a, j, none⟩ (.string s)).drew p a b c (midC d ks j (m + 1)) from hk.out.congr rfl rfl rfl (fun i _ => ⟨by
                show (if (i : Int) = j then keepD d (ks.take (m + 1)) j else _) = if (i : Int) = j then some s else if (i : Int) = j then _ else _
                rw [hv.out]
                by_cases hi : (i : Int) = j
                · rw [if_pos hi, if_pos hi]
                · rw [if_neg hi, if_neg hi, if_neg hi], rfl⟩))
              clear hk
              go_wp2
              go_roundw
              case rel => exact ⟨m + 1, by omega, by go_num, hnx.out, HC2.out.trans hck.out⟩
              case measure => simp [intOf]; omega
          · have t1 : (k == (j : Int)) = false := beq_eq_false_iff_ne.2 hkj
            have hnx := Lib.hid (show RefIs wr p a b c (midC d ks j (m + 1)) from HR.out.congr rfl rfl rfl (fun i _ => ⟨by
              show (if (i : Int) = j then keepD d (ks.take (m + 1)) j else _) = if (i : Int) = j then keepD d (ks.take m) j else _
              rw [show keepD d (ks.take (m + 1)) (j : Int) = keepD d (ks.take m) j from HN.out.trans (if_neg (fun e => hkj e.symm))], rfl⟩))
            clear c0 c1 cc ed hkj
            go_wp2
            go_roundw
            case rel => exact ⟨m + 1, by omega, by go_num, hnx.out, HC2.out⟩
            case measure => simp [intOf]; omega
        · obtain rfl : m = n := by omega
          have fc := Has.free HR.out.is_ j
          have hnx := Lib.hid (midG_next (d := d) (keepD d ks) j (HR.out.put_is j) rfl rfl rfl (fun z => by
            show (if z = (j : Int) then keepD d (ks.take m) j else _) = _
            rw [List.take_of_length_le (by rw [HK.out.1.1]; exact Nat.le_refl _)]) (fun z => rfl))
          clear c0 c1 hml hm
          go_wp2
          go_roundw
          case rel => exact ⟨j + 1, by omega, by go_num, hnx.out, HC2.out.trans (chg_set (.inr (.inr (.inr rfl))) _)⟩
          case measure => simp [intOf]; omega
    · obtain rfl : j = d.size := by omega
      have hR := midG_done HR.out
      have c3 := Has.at_ hR.obj 3
      have f3 := Has.free hR.obj 3
      have h4 := hR.put_power false
      have c4 := Has.at_ h4.obj 4
      have f4 := Has.free h4.obj 4
      have hf := Lib.hid (h4.put_fuse (-1) (by decide) (by decide))
      simp at c3 c4
      simp only [Bool.not_false] at f4
      clear HR hR hlt hj h4
      go_wp2
      go_ret
      exact ⟨rfl, hf.out, HC.out.trans ((chg_set (.inl rfl) _).trans (chg_set (.inl rfl) _))⟩
end Go.Proofs.YthejlenafjnmkaaGreat.Dv
namespace Go.Proofs.YthejlenafjnmkaaGreat.Dv
open Go.RowKit
open Mem
open Rws

set_option maxRecDepth 100000 in
theorem rstart_any (p a b c : Nat) (d : St) (w : World) (h : RefIs w p a b c d) :
    Calls Tryz.prog 17 #[.pointer (some ⟨p, 0, none⟩)] w fun e w' => e = .returned (.int .i64 0) ∧ RefIs w' p a b c (startD d) ∧ Chg (ROwn p a b c) w w' := by
  have c3 := Has.at_ h.obj 3
  have HH := Lib.hid h
  simp at c3
  cases ho : d.on with
  | true =>
    have e1 : startD d = d := if_pos ho
    rw [e1]
    rw [ho] at c3
    clear e1 h
    go_enter Tryz.func17, Tryz.ntmps17
    go_wp2
    go_ret
    exact ⟨rfl, HH.out, Chg.refl _ _⟩
  | false =>
    have e1 : startD d = { d with on := true, fuse := -1, dirty := fun _ => none } := if_neg (by rw [ho]; decide)
    rw [e1]
    rw [ho] at c3
    have HC := Lib.hid (rcrash_any p a b c d none 0 0 [] w (by decide) ⟨rfl, fun hn => by omega⟩ h (fun _ _ e => by cases e))
    clear e1 h
    go_enter Tryz.func17, Tryz.ntmps17
    go_wp2_with fail
    refine HC.out.mono ?_
    rintro e w1 ⟨rfl, h1, g1⟩
    have d3 := Has.at_ h1.obj 3
    have f3 := Has.free h1.obj 3
    simp at d3
    have hf := Lib.hid ((h1.put_power true).congr (e := { d with on := true, fuse := -1, dirty := fun _ => none }) rfl rfl rfl (fun i _ => ⟨(if_neg (by simp) : keepD d [] (i : Int) = d.kept i).symm, rfl⟩))
    have hg := Lib.hid g1
    clear h1 g1
    go_wp2
    go_ret
    exact ⟨rfl, hf.out, hg.out.trans (chg_set (.inl rfl) _)⟩
theorem rnew_bad (n : Int) (h : n < 8 ∨ 4096 < n) (w : World) :
    Calls Tryz.prog 9 #[.int .i64 n] w fun e w' => e = .returned (.tuple #[.pointer none, .int .i64 22]) ∧ w = w' := by
  by_cases h1 : n < 8
  · clear h
    go_enter Tryz.func9, Tryz.ntmps9
    go_wp2
    go_ret2
    exact ⟨rfl, rfl⟩
  · have h2 : 4096 < n := by omega
    clear h
    go_enter Tryz.func9, Tryz.ntmps9
    go_wp2
    go_ret2
    exact ⟨rfl, rfl⟩
theorem made_mk (z : Value) (n : Nat) : madeCells #[z] n = mk n fun _ => z := by
  apply Array.ext
  · rw [size_madeCells, mk_size]
  · intro j h1 h2
    have h3 : j < n := by rw [mk_size] at h2; exact h2
    simp [madeCells, mk, Nat.mod_one]
theorem info_str : (Tryz.prog.info? 9).map (fun i => (i.zero, i.size, i.bytes)) = some (some (.string ⟨#[]⟩), 1, 16) := by kernel_rfl
theorem info_b : (Tryz.prog.info? 4).map (fun i => (i.zero, i.size, i.bytes)) = some (some (.bool false), 1, 1) := by kernel_rfl
theorem make_s (n : Nat) (hn : n ≤ 4096) (w : World) : (Instr.makeSlice 77 (.int .i64 n) (.int .i64 n)).run Tryz.prog w = .ok (.slice (some ⟨w.heap.size, 0, none⟩) n n) (w.alloc (.cells (mk n fun _ => .string ⟨#[]⟩) 9)) := by
  obtain ⟨i0, hi, hz0, hz1, hz2⟩ := info_parts info_str
  have h := run_makeSlice (P := Tryz.prog) w 77 9 i0 (.string ⟨#[]⟩) Tryz.underlying77 hi hz0 .i64 .i64 n n (by omega) (Int.le_refl _) (by rw [hz1]; omega) (by rw [hz2]; omega) (by omega)
  rw [hz1, Nat.mul_one, Int.toNat_natCast] at h
  rw [h]
  exact congrArg (fun x => Result.ok _ (w.alloc (.cells x _))) (made_mk _ _)
theorem make_b (n : Nat) (hn : n ≤ 4096) (w : World) : (Instr.makeSlice 78 (.int .i64 n) (.int .i64 n)).run Tryz.prog w = .ok (.slice (some ⟨w.heap.size, 0, none⟩) n n) (w.alloc (.cells (mk n fun _ => .bool false) 4)) := by
  obtain ⟨i0, hi, hz0, hz1, hz2⟩ := info_parts info_b
  have h := run_makeSlice (P := Tryz.prog) w 78 4 i0 (.bool false) Tryz.underlying78 hi hz0 .i64 .i64 n n (by omega) (Int.le_refl _) (by rw [hz1]; omega) (by rw [hz2]; omega) (by omega)
  rw [hz1, Nat.mul_one, Int.toNat_natCast] at h
  rw [h]
  exact congrArg (fun x => Result.ok _ (w.alloc (.cells x _))) (made_mk _ _)
theorem at0 {w : World} {x : Array Value} {t : TypeId} {o2 o3 o4 : Obj} : Has ((((w.alloc (.cells x t)).alloc o2).alloc o3).alloc o4).drew w.heap.size t x := ((((Has.fresh w t x).past _).past _).past _).drew
theorem at1 {w : World} {x : Array Value} {t : TypeId} {o1 o3 o4 : Obj} : Has ((((w.alloc o1).alloc (.cells x t)).alloc o3).alloc o4).drew (w.heap.size + 1) t x := by
  have h := Has.fresh (w.alloc o1) t x
  rw [World.size_alloc] at h
  exact ((h.past _).past _).drew
theorem at2 {w : World} {x : Array Value} {t : TypeId} {o1 o2 o4 : Obj} : Has ((((w.alloc o1).alloc o2).alloc (.cells x t)).alloc o4).drew (w.heap.size + 1 + 1) t x := by
  have h := Has.fresh ((w.alloc o1).alloc o2) t x
  rw [World.size_alloc, World.size_alloc] at h
  exact (h.past _).drew
theorem at3 {w : World} {x : Array Value} {t : TypeId} {o1 o2 o3 : Obj} : Has ((((w.alloc o1).alloc o2).alloc o3).alloc (.cells x t)).drew (w.heap.size + 1 + 1 + 1) t x := by
  have h := Has.fresh (((w.alloc o1).alloc o2).alloc o3) t x
  rw [World.size_alloc, World.size_alloc, World.size_alloc] at h
  exact h.drew
theorem rnew_is {W : World} {n p a b c : Nat} (h1 : 8 ≤ n) (h2 : n ≤ 4096) (hp : Has W p 80 #[.slice (some ⟨a, 0, none⟩) n n, .slice (some ⟨b, 0, none⟩) n n, .slice (some ⟨c, 0, none⟩) n n, .bool false, .int .i64 (-1)])
    (ha : Has W a 9 (mk n fun _ => .string ⟨#[]⟩)) (hb : Has W b 9 (mk n fun _ => .string ⟨#[]⟩)) (hc : Has W c 4 (mk n fun _ => .bool false)) (ap : (p ≠ a ∧ p ≠ b ∧ p ≠ c) ∧ a ≠ b ∧ a ≠ c ∧ b ≠ c) : RefIs W p a b c (newSt n) :=
  ⟨hp, ha, ⟨fun _ => ⟨#[]⟩, hb, fun i _ s hs => by cases hs⟩, hc, ap, h1, h2, by show (-1 : Int) ≤ -1; decide, by show (-1 : Int) ≤ _; decide⟩
theorem rnew_good (n : Nat) (h1 : 8 ≤ n) (h2 : n ≤ 4096) (w : World) :
    Calls Tryz.prog 9 #[.int .i64 n] w fun e w' => ∃ p a b c, e = .returned (.tuple #[.pointer (some ⟨p, 0, none⟩), .int .i64 0]) ∧ RefIs w' p a b c (newSt n) ∧ (∀ k, ROwn p a b c k → w.heap.size ≤ k) ∧ Below w.heap.size w w' := by
  have t1 : ¬ (n : Int) < 8 := by omega
  have t2 : ¬ 4096 < (n : Int) := by omega
  have hN := Lib.hid (And.intro h1 h2)
  go_enter Tryz.func9, Tryz.ntmps9
  have mS := make_s n h2
  have mB := make_b n h2
  go_wp2
  go_region
  all_goals
    go_wp2
    go_ret2
    refine ⟨_, _, _, _, rfl, rnew_is hN.out.1 hN.out.2 at3 (by first | exact at0 | exact at1 | exact at2) (by first | exact at0 | exact at1 | exact at2) (by first | exact at0 | exact at1 | exact at2) (by omega), ?_, ?_⟩
    · rintro k (hk | hk | hk | hk) <;> omega
    · exact Below.drew (((((Below.refl _ w).alloc (Nat.le_refl _) _).alloc (by simp) _).alloc (by simp; omega) _).alloc (by simp; omega) _)
end Go.Proofs.YthejlenafjnmkaaGreat.Dv
/- The document's store in memory, and what is asked of it: Has, Free, Live, Named. -/
namespace Go.Proofs.YthejlenafjnmkaaGreat.Sto
open Go.RowKit
open Oct (Has Chg)
open Rws
open Dv (mk mk_get mk_size mk_ext mk_set RefIs)
set_option linter.unusedVariables false

/-- A block as the document's store has it: whether it is there, what it names (and where that lies), how often it is held. -/
structure RC where
  is : Bool
  A : Option Addr
  cap : Nat
  kids : List Int
  held : Int
def RC.v (r : RC) : Value := .slice r.A r.kids.length r.cap
def noRC : RC := ⟨false, none, 0, [], 0⟩
def cellR (c : Nat → RC) (j : Nat) : Value := if j % 3 = 0 then .bool (c (j / 3)).is else if j % 3 = 1 then (c (j / 3)).v else .int .i64 (c (j / 3)).held
structure CellsIs (w : World) (cb N : Nat) (c : Nat → RC) : Prop where
  at_ : Has w cb 101 (mk (3 * N) (cellR c))
  row : ∀ i, i < N → OwnI w 0 (c i).v (c i).kids
theorem cellR_get (c : Nat → RC) (i : Nat) : cellR c (i * 3) = .bool (c i).is ∧ cellR c (i * 3 + 1) = (c i).v ∧ cellR c (i * 3 + 2) = .int .i64 (c i).held := by
  unfold cellR
  rw [show i * 3 % 3 = 0 by omega, show (i * 3 + 1) % 3 = 1 by omega, show (i * 3 + 2) % 3 = 2 by omega, show i * 3 / 3 = i by omega, show (i * 3 + 1) / 3 = i by omega, show (i * 3 + 2) / 3 = i by omega]
  exact ⟨rfl, rfl, rfl⟩
theorem CellsIs.get {w : World} {cb N : Nat} {c : Nat → RC} (h : CellsIs w cb N c) {i : Nat} (hi : i < N) : w.cell? ⟨cb, i * 3, none⟩ = some (.bool (c i).is) ∧ w.cell? ⟨cb, i * 3 + 1, none⟩ = some (c i).v ∧ w.cell? ⟨cb, i * 3 + 2, none⟩ = some (.int .i64 (c i).held) := by
  obtain ⟨e0, e1, e2⟩ := cellR_get c i
  have g0 := Has.at_ h.at_ (i * 3)
  have g1 := Has.at_ h.at_ (i * 3 + 1)
  have g2 := Has.at_ h.at_ (i * 3 + 2)
  rw [mk_get _ _ _ (by omega), e0] at g0
  rw [mk_get _ _ _ (by omega), e1] at g1
  rw [mk_get _ _ _ (by omega), e2] at g2
  exact ⟨g0, g1, g2⟩
theorem CellsIs.below {w w' : World} {cb N : Nat} {c : Nat → RC} (h : CellsIs w cb N c) (hb : Below w.heap.size w w') : CellsIs w' cb N c :=
  ⟨has_blw h.at_ hb, fun i hi => own_below (h.row i hi) hb⟩
theorem cells_put {N i : Nat} (hi : i < N) (c : Nat → RC) (r : RC) : (((mk (3 * N) (cellR c)).setIfInBounds (i * 3) (.bool r.is)).setIfInBounds (i * 3 + 1) r.v).setIfInBounds (i * 3 + 2) (.int .i64 r.held) = mk (3 * N) (cellR fun j => if j = i then r else c j) := by
  rw [mk_set, mk_set, mk_set]
  refine mk_ext _ _ _ fun j hj => ?_
  unfold cellR
  by_cases e : j / 3 = i
  · simp only [e, if_true]
    have hd : j = i * 3 ∨ j = i * 3 + 1 ∨ j = i * 3 + 2 := by omega
    rcases hd with e2 | e2 | e2
    · rw [if_neg (by omega), if_neg (by omega), if_pos e2, if_pos (by omega)]
    · rw [if_neg (by omega), if_pos e2, if_neg (by omega), if_pos (by omega)]
    · rw [if_pos e2, if_neg (by omega), if_neg (by omega)]
  · rw [if_neg (by omega), if_neg (by omega), if_neg (by omega)]
    simp only [e, if_false]
theorem CellsIs.put {w : World} {cb N : Nat} {c : Nat → RC} (h : CellsIs w cb N c) {i : Nat} (hi : i < N) (r : RC) (hr : OwnI w 0 r.v r.kids) :
    CellsIs (((w.setCell ⟨cb, i * 3, none⟩ (.bool r.is)).setCell ⟨cb, i * 3 + 1, none⟩ r.v).setCell ⟨cb, i * 3 + 2, none⟩ (.int .i64 r.held)) cb N (fun j => if j = i then r else c j) := by
  have hc : Chg (· = cb) w (((w.setCell ⟨cb, i * 3, none⟩ (.bool r.is)).setCell ⟨cb, i * 3 + 1, none⟩ r.v).setCell ⟨cb, i * 3 + 2, none⟩ (.int .i64 r.held)) :=
    (((Chg.refl (· = cb) w).setCell (p := ⟨cb, i * 3, none⟩) (.inl rfl) _).setCell (p := ⟨cb, i * 3 + 1, none⟩) (.inl rfl) _).setCell (p := ⟨cb, i * 3 + 2, none⟩) (.inl rfl) _
  refine ⟨?_, fun j hj => ?_⟩
  · rw [← cells_put hi c r]
    exact Has.put (Has.put (Has.put h.at_ _ _) _ _) _ _
  · by_cases e : j = i
    · simp only [if_pos e]
      exact own_apart hr h.at_ hc (by decide)
    · simp only [if_neg e]
      exact own_apart (h.row j hj) h.at_ hc (by decide)
/-- The document's store at p. -/
structure RefS (w : World) (p cb kb pd a b c N : Nat) (B : BgV) (D : Dv.St) (cs : Nat → RC) (kp : Nat → Bool) : Prop where
  obj : Has w p 95 #[.int .i64 B.1, .int .i64 B.2.1, .string B.2.2, .pointer (some ⟨pd, 0, none⟩), .slice (some ⟨cb, 0, none⟩) N N, .slice (some ⟨kb, 0, none⟩) N N]
  cells : CellsIs w cb N cs
  kept : Has w kb 4 (mk N fun i => .bool (kp i))
  dev : RefIs w pd a b c D
  size : D.size = N
theorem RefS.below {w w' : World} {p cb kb pd a b c N : Nat} {B : BgV} {D : Dv.St} {cs : Nat → RC} {kp : Nat → Bool} (h : RefS w p cb kb pd a b c N B D cs kp) (hb : Below w.heap.size w w') : RefS w' p cb kb pd a b c N B D cs kp :=
  ⟨has_blw h.obj hb, h.cells.below hb, has_blw h.kept hb, h.dev.below hb, h.size⟩
theorem RefS.few {w : World} {p cb kb pd a b c N : Nat} {B : BgV} {D : Dv.St} {cs : Nat → RC} {kp : Nat → Bool} (h : RefS w p cb kb pd a b c N B D cs kp) : 8 ≤ N ∧ N ≤ 4096 := by
  have h1 := h.dev.lo
  have h2 := h.dev.hi
  rw [h.size] at h1 h2
  exact ⟨h1, h2⟩
theorem RefS.keptAt {w : World} {p cb kb pd a b c N : Nat} {B : BgV} {D : Dv.St} {cs : Nat → RC} {kp : Nat → Bool} (h : RefS w p cb kb pd a b c N B D cs kp) {i : Nat} (hi : i < N) : w.cell? ⟨kb, i, none⟩ = some (.bool (kp i)) := by
  have g := Has.at_ h.kept i
  rw [mk_get _ _ _ hi] at g
  exact g
def hasR (N : Nat) (cs : Nat → RC) (id : Int) : Bool := if 0 ≤ id ∧ id < N then (cs id.toNat).is else false
set_option maxRecDepth 100000 in
set_option maxHeartbeats 1000000 in
theorem rhas {w : World} {p cb kb pd a b c N : Nat} {B : BgV} {D : Dv.St} {cs : Nat → RC} {kp : Nat → Bool} (h : RefS w p cb kb pd a b c N B D cs kp) (id : Int) :
    Calls Tryz.prog 44 #[.pointer (some ⟨p, 0, none⟩), .int .i64 id] w fun e w' => e = .returned (.bool (hasR N cs id)) ∧ w = w' := by
  obtain ⟨n1, n2⟩ := h.few
  have c4 := Has.at_ h.obj 4
  simp at c4
  by_cases h0 : 0 ≤ id
  · have d1 : decide (0 ≤ id) = true := decide_eq_true h0
    by_cases h1 : id < N
    · obtain ⟨i, rfl⟩ := Int.eq_ofNat_of_zero_le h0
      have hi : i < N := by omega
      obtain ⟨g0, _, _⟩ := h.cells.get hi
      have e : hasR N cs i = (cs i).is := if_pos ⟨h0, h1⟩
      rw [e]
      clear e h
      go_enter Tryz.func44, Tryz.ntmps44
      go_wp2
      go_ret
      exact ⟨rfl, rfl⟩
    · have d2 : decide (id < (N : Int)) = false := decide_eq_false h1
      have e : hasR N cs id = false := if_neg (fun h => h1 h.2)
      rw [e]
      clear e h
      go_enter Tryz.func44, Tryz.ntmps44
      go_wp2
      go_ret
      exact ⟨rfl, rfl⟩
  · have d1 : decide (0 ≤ id) = false := decide_eq_false h0
    have e : hasR N cs id = false := if_neg (fun h => h0 h.1)
    rw [e]
    clear e h
    go_enter Tryz.func44, Tryz.ntmps44
    go_wp2
    go_ret
    exact ⟨rfl, rfl⟩
def freeQ (cs : Nat → RC) (kp : Nat → Bool) (i : Nat) : Bool := decide (1 < i) && (!(cs i).is && !(kp i))
/-- How many of the first so many. -/
def cntR (q : Nat → Bool) (N : Nat) : Nat := ((List.range N).map fun i => if q i = true then 1 else 0).sum
theorem cntR_succ (q : Nat → Bool) (N : Nat) : cntR q (N + 1) = cntR q N + if q N = true then 1 else 0 := by
  unfold cntR
  simp only [List.range_succ, List.map_append, List.sum_append, List.map_cons, List.map_nil, List.sum_cons, List.sum_nil, Nat.add_zero]
theorem cntR_le (q : Nat → Bool) : ∀ N, cntR q N ≤ N
  | 0 => Nat.le_refl _
  | N + 1 => by
    rw [cntR_succ]
    have := cntR_le q N
    split <;> omega
set_option maxRecDepth 100000 in
set_option maxHeartbeats 1000000 in
theorem rfree {w : World} {p cb kb pd a b c N : Nat} {B : BgV} {D : Dv.St} {cs : Nat → RC} {kp : Nat → Bool} (h : RefS w p cb kb pd a b c N B D cs kp) :
    Calls Tryz.prog 40 #[.pointer (some ⟨p, 0, none⟩)] w fun e w' => e = .returned (.int .i64 (cntR (freeQ cs kp) N : Nat)) ∧ w = w' := by
  obtain ⟨n1, n2⟩ := h.few
  have c4 := Has.at_ h.obj 4
  have c5 := Has.at_ h.obj 5
  simp at c4 c5
  have HH := Lib.hid h
  clear h
  go_enter Tryz.func40, Tryz.ntmps40
  go_wp2
  go_loopw [3, 10] (fun n i wr => ∃ j : Nat, j ≤ N ∧ i = .int .i64 j ∧ n = .int .i64 (cntR (freeQ cs kp) j : Nat) ∧ wr = w) (fun _ i _ => N - (intOf i).toNat)
  case atStart => exact ⟨0, Nat.zero_le _, rfl, rfl, rfl⟩
  case round =>
    obtain ⟨j, hj, rfl, rfl, rfl⟩ := hrel
    have hle := cntR_le (freeQ cs kp) j
    by_cases hlt : j < N
    · obtain ⟨g0, _, _⟩ := HH.out.cells.get hlt
      have g1 := HH.out.keptAt hlt
      have HS := Lib.hid (cntR_succ (freeQ cs kp) j)
      have HQ := Lib.hid (show freeQ cs kp j = (decide (1 < j) && (!(cs j).is && !(kp j))) from rfl)
      generalize cntR (freeQ cs kp) j = m at *
      by_cases k1 : 1 < j
      · have d1 : decide (1 < (j : Int)) = true := decide_eq_true (by omega)
        cases k2 : (cs j).is with
        | true =>
          rw [k2] at g0
          have HM := Lib.hid (show cntR (freeQ cs kp) (j + 1) = m by rw [HS.out, HQ.out, k2]; simp)
          clear k2
          go_wp2
          go_roundw
          case rel => exact ⟨j + 1, by omega, by go_num, by rw [HM.out], trivial⟩
          case measure => simp [intOf]; omega
        | false =>
          rw [k2] at g0
          cases k3 : kp j with
          | true =>
            rw [k3] at g1
            have HM := Lib.hid (show cntR (freeQ cs kp) (j + 1) = m by rw [HS.out, HQ.out, k3]; simp)
            clear k2 k3
            go_wp2
            go_roundw
            case rel => exact ⟨j + 1, by omega, by go_num, by rw [HM.out], trivial⟩
            case measure => simp [intOf]; omega
          | false =>
            rw [k3] at g1
            have HM := Lib.hid (show cntR (freeQ cs kp) (j + 1) = m + 1 by rw [HS.out, HQ.out, k2, k3, decide_eq_true k1]; rfl)
            clear k2 k3
            go_wp2
            go_roundw
            case rel => exact ⟨j + 1, by omega, by go_num, by rw [HM.out]; go_num, trivial⟩
            case measure => simp [intOf]; omega
      · have d1 : decide (1 < (j : Int)) = false := decide_eq_false (by omega)
        have HM := Lib.hid (show cntR (freeQ cs kp) (j + 1) = m by rw [HS.out, HQ.out, decide_eq_false k1]; rfl)
        go_wp2
        go_roundw
        case rel => exact ⟨j + 1, by omega, by go_num, by rw [HM.out], trivial⟩
        case measure => simp [intOf]; omega
    · obtain rfl : j = N := by omega
      go_wp2
      go_ret
      exact ⟨rfl, rfl⟩
/-- Those that are there, of the first so many. -/
def liveL (cs : Nat → RC) : Nat → List Int
  | 0 => []
  | j + 1 => if (cs j).is = true then liveL cs j ++ [(j : Int)] else liveL cs j
theorem liveL_len (cs : Nat → RC) : ∀ j, (liveL cs j).length ≤ j
  | 0 => Nat.le_refl _
  | j + 1 => by
    unfold liveL
    have := liveL_len cs j
    split
    · rw [List.length_append, List.length_singleton]; omega
    · omega
set_option maxRecDepth 100000 in
set_option maxHeartbeats 1000000 in
theorem rlive {w : World} {p cb kb pd a b c N : Nat} {B : BgV} {D : Dv.St} {cs : Nat → RC} {kp : Nat → Bool} (h : RefS w p cb kb pd a b c N B D cs kp) :
    Calls Tryz.prog 42 #[.pointer (some ⟨p, 0, none⟩)] w fun e w' => ∃ v, e = .returned v ∧ OwnI w' w.heap.size v (liveL cs N) ∧ Below w.heap.size w w' := by
  obtain ⟨i0, hi, hz0, hz1, hz2⟩ := info_parts info_i
  have HI := Lib.hid (And.intro hi (And.intro hz0 (And.intro hz1 hz2)))
  clear hi hz0 hz1 hz2
  obtain ⟨n1, n2⟩ := h.few
  have c4 := Has.at_ h.obj 4
  simp at c4
  have HH := Lib.hid h
  clear h
  go_enter Tryz.func42, Tryz.ntmps42
  go_wp2
  go_loopw [3, 10] (fun l i wr => ∃ j : Nat, j ≤ N ∧ i = .int .i64 j ∧ Hid (OwnI wr w.heap.size l (liveL cs j)) ∧ Hid (Below w.heap.size w wr)) (fun _ i _ => N - (intOf i).toNat)
  case atStart => exact ⟨0, Nat.zero_le _, rfl, Lib.hid (World.ownsRow_nil _ _ _ _), Lib.hid (Below.refl _ _)⟩
  case round =>
    obtain ⟨j, hj, rfl, HL, HB⟩ := hrel
    clear c4
    have hRS := HH.out.below HB.out
    have c4 := Has.at_ hRS.obj 4
    simp at c4
    by_cases hlt : j < N
    · obtain ⟨g0, _, _⟩ := hRS.cells.get hlt
      have HLN := Lib.hid (liveL_len cs j)
      have HU := Lib.hid (show liveL cs (j + 1) = if (cs j).is = true then liveL cs j ++ [(j : Int)] else liveL cs j from rfl)
      generalize liveL cs j = L at *
      clear hRS
      cases k2 : (cs j).is with
      | true =>
        rw [k2] at g0
        have HM := Lib.hid (show liveL cs (j + 1) = L ++ [(j : Int)] by rw [HU.out, k2]; rfl)
        have H1 := Lib.hid (show ∀ u ∈ [(.int .i64 j : Value)], u.oneCell' = true by intro u hu; rw [List.mem_singleton.1 hu]; rfl)
        have H2 := Lib.hid (show L.length + 1 ≤ maxLen by have := HLN.out; unfold maxLen; omega)
        have H3 := Lib.hid (show (L.length + 1) * 8 ≤ 140737488355328 by have := HLN.out; omega)
        have H4 := Lib.hid (show w.heap.size ≤ (wr.alloc (.cells #[.int .i64 j] 3)).heap.size by have := HB.out.size; simp; omega)
        clear k2
        go_wp2_with (at_builtin; (refine wpList_append_own (wr.alloc (.cells #[.int .i64 j] 3)) rfl (.tmp 21) (.tmp 23) _ rfl w.heap.size 3 i0 (.int .i64 0) 1 8 Tryz.underlying40 HI.out.1 HI.out.2.1 HI.out.2.2.1 HI.out.2.2.2 rfl (by decide) _ L.length (L.map (Value.int .i64)) rfl (World.ownsRow.alloc HL.out _) ⟨wr.heap.size, 0, none⟩ 1 1 [.int .i64 j] rfl rfl (cell_one_new wr _ _) H1.out H2.out H3.out H4.out ?_))
        intro v2 w3 o2 b2 _
        have HO3 := Lib.hid (show OwnI w3 w.heap.size v2 (L ++ [(j : Int)]) by unfold OwnI; rw [List.length_append, List.map_append]; exact o2)
        have HB3 := Lib.hid ((HB.out.alloc HB.out.size (.cells #[.int .i64 j] 3)).grown b2 H4.out (fun q hq => (World.ownsRow.lt HL.out q hq).1))
        clear o2 b2
        go_wp2
        go_roundw
        case rel => exact ⟨j + 1, by omega, by go_num, by rw [HM.out]; exact HO3, HB3⟩
        case measure => simp [intOf]; omega
      | false =>
        rw [k2] at g0
        have HM := Lib.hid (show liveL cs (j + 1) = L by rw [HU.out, k2]; rfl)
        clear k2
        go_wp2
        go_roundw
        case rel => exact ⟨j + 1, by omega, by go_num, by rw [HM.out]; exact HL, HB⟩
        case measure => simp [intOf]; omega
    · obtain rfl : j = N := by omega
      go_wp2
      go_ret
      exact ⟨_, rfl, HL.out, HB.out⟩
def nmR (cs : Nat → RC) (id : Int) (i : Nat) : Nat := if (cs i).is = true then (cs i).kids.count id else 0
def namedR (cs : Nat → RC) (id : Int) (N : Nat) : Nat := ((List.range N).map (nmR cs id)).sum
theorem namedR_succ (cs : Nat → RC) (id : Int) (N : Nat) : namedR cs id (N + 1) = namedR cs id N + nmR cs id N := by
  unfold namedR
  simp only [List.range_succ, List.map_append, List.sum_append, List.map_cons, List.map_nil, List.sum_cons, List.sum_nil, Nat.add_zero]
theorem namedR_le (cs : Nat → RC) (id : Int) (hc : ∀ i, (cs i).kids.length ≤ 16) : ∀ N, namedR cs id N ≤ N * 16
  | 0 => Nat.le_refl _
  | N + 1 => by
    rw [namedR_succ]
    have := namedR_le cs id hc N
    have h2 : nmR cs id N ≤ 16 := by
      unfold nmR
      split
      · exact Nat.le_trans List.count_le_length (hc N)
      · omega
    omega
set_option maxRecDepth 100000 in
set_option maxHeartbeats 2000000 in
theorem rnamed {w : World} {p cb kb pd a b c N : Nat} {B : BgV} {D : Dv.St} {cs : Nat → RC} {kp : Nat → Bool} (h : RefS w p cb kb pd a b c N B D cs kp) (hk : ∀ i, (cs i).kids.length ≤ 16) (id : Int) :
    Calls Tryz.prog 45 #[.pointer (some ⟨p, 0, none⟩), .int .i64 id] w fun e w' => e = .returned (.int .i64 (namedR cs id N : Nat)) ∧ Below w.heap.size w w' := by
  obtain ⟨n1, n2⟩ := h.few
  have c4 := Has.at_ h.obj 4
  simp at c4
  have HH := Lib.hid h
  have HK := Lib.hid hk
  clear h hk
  go_enter Tryz.func45, Tryz.ntmps45
  go_wp2
  go_loopw [5, 15] (fun n i wr => ∃ j : Nat, j ≤ N ∧ i = .int .i64 j ∧ n = .int .i64 (namedR cs id j : Nat) ∧ Hid (Below w.heap.size w wr)) (fun _ i _ => N - (intOf i).toNat)
  case atStart => exact ⟨0, Nat.zero_le _, rfl, rfl, Lib.hid (Below.refl _ _)⟩
  case round =>
    obtain ⟨j, hj, rfl, rfl, HB⟩ := hrel
    clear c4
    by_cases hlt : j < N
    · have hRS := HH.out.below HB.out
      obtain ⟨g0, g1, g2⟩ := hRS.cells.get hlt
      have hle := namedR_le cs id HK.out j
      have hkj := HK.out j
      have HS := Lib.hid (show namedR cs id (j + 1) = namedR cs id j + if (cs j).is = true then (cs j).kids.count id else 0 from namedR_succ cs id j)
      have hrow := row_of_own (hRS.cells.row j hlt) rfl
      generalize namedR cs id j = m at *
      generalize cs j = r at *
      obtain ⟨is, A, cap, ks, held⟩ := r
      simp only [RC.v] at g0 g1 g2 hrow hkj HS
      obtain ⟨wd, hwd⟩ : ∃ wd : World, wd = wr := ⟨_, rfl⟩
      subst hwd
      have hc := Has.fresh wd 101 #[.bool is, .slice A ks.length cap, .int .i64 held]
      have HC := Lib.hid hc
      have HR := Lib.hid (hrow.below ((Below.refl wd.heap.size wd).alloc (Nat.le_refl _) (.cells #[.bool is, .slice A ks.length cap, .int .i64 held] 101)))
      have HB2 := Lib.hid (HB.out.alloc HB.out.size (.cells #[.bool is, .slice A ks.length cap, .int .i64 held] 101))
      obtain ⟨W, hW⟩ : ∃ W : World, W = wd.alloc (.cells #[.bool is, .slice A ks.length cap, .int .i64 held] 101) := ⟨_, rfl⟩
      clear hRS hc hrow
      go_wp2
      rw [← hW] at HR HB2 HC ⊢
      have k0 := Has.at_ HC.out 0
      have k1 := Has.at_ HC.out 1
      simp at k0 k1
      clear hW g0 g1 g2
      go_loopw [5, 22] (fun n i wr => ∃ q : Nat, q ≤ ks.length ∧ i = .int .i64 q ∧ n = .int .i64 (m + (if is = true then (ks.take q).count id else 0) : Nat) ∧ wr = W) (fun _ i _ => ks.length - (intOf i).toNat)
      case atStart => exact ⟨0, Nat.zero_le _, rfl, by simp, rfl⟩
      case round =>
        obtain ⟨q, hq, rfl, rfl, rfl⟩ := hrel
        by_cases hlq : q < ks.length
        · obtain ⟨gb, off, rfl, hbl, hcl⟩ := HR.out.2 (by omega)
          have c1 := hcl q hlq
          have HNX := Lib.hid (List.take_succ_eq_append_getElem hlq)
          have HCL := Lib.hid (show (ks.take q).count id ≤ q from Nat.le_trans List.count_le_length (by rw [List.length_take]; omega))
          clear hcl hbl
          obtain ⟨z, hz⟩ : ∃ z, ks[q] = z := ⟨_, rfl⟩
          rw [hz] at c1 HNX
          clear hz
          cases is with
          | false =>
            go_wp2
            go_roundw
            case rel => exact ⟨q + 1, by omega, by go_num, by simp, trivial⟩
            case measure => simp [intOf]; omega
          | true =>
            have hcl2 := HCL.out
            have HC2 := Lib.hid (show (ks.take (q + 1)).count id = (ks.take q).count id + if z = id then 1 else 0 by
              rw [HNX.out, List.count_append, List.count_singleton]
              by_cases e : z = id
              · simp [e]
              · simp [e])
            simp only [if_true] at *
            generalize (ks.take q).count id = y at *
            by_cases e : z = id
            · have e1 : (z == id) = true := by rw [e]; simp
              have HC3 := Lib.hid (show (ks.take (q + 1)).count id = y + 1 by rw [HC2.out, if_pos e])
              clear e
              go_wp2
              go_roundw
              case rel => exact ⟨q + 1, by omega, by go_num, by rw [HC3.out]; go_num, trivial⟩
              case measure => simp [intOf]; omega
            · have e1 : (z == id) = false := beq_eq_false_iff_ne.2 e
              have HC3 := Lib.hid (show (ks.take (q + 1)).count id = y by rw [HC2.out, if_neg e]; rfl)
              clear e
              go_wp2
              go_roundw
              case rel => exact ⟨q + 1, by omega, by go_num, by rw [HC3.out], trivial⟩
              case measure => simp [intOf]; omega
        · obtain rfl : q = ks.length := by omega
          rw [List.take_of_length_le (Nat.le_refl _)]
          have HS2 := Lib.hid HS.out.symm
          clear HS
          generalize (if is = true then List.count id ks else 0) = y at *
          go_wp2
          go_roundw
          case rel => exact ⟨j + 1, by omega, by go_num, by rw [← HS2.out], HB2⟩
          case measure => simp [intOf]; omega
    · obtain rfl : j = N := by omega
      go_wp2
      go_ret
      exact ⟨rfl, HB.out⟩
end Go.Proofs.YthejlenafjnmkaaGreat.Sto
