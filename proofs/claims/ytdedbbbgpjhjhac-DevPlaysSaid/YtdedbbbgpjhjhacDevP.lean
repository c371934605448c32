/- The document's own device in memory, and what its parts answer: power, fuse, reading. -/
import Derived.Test.YtdedbbbgpjhjhacDevN
namespace Go.Proofs.Ytdedbbbgpjhjhac.Dv
open Go.RowKit
open Mem
open Rws

def mk (n : Nat) (f : Nat → Value) : Array Value := ((List.range n).map f).toArray
theorem mk_get (n : Nat) (f : Nat → Value) (i : Nat) (h : i < n) : (mk n f)[i]? = some (f i) := by
  simp [mk, h]
theorem mk_size (n : Nat) (f : Nat → Value) : (mk n f).size = n := by simp [mk]
theorem mk_ext (n : Nat) (f g : Nat → Value) (h : ∀ i, i < n → f i = g i) : mk n f = mk n g := by
  unfold mk
  congr 1
  exact List.map_congr_left fun i hi => h i (List.mem_range.1 hi)
theorem mk_set (n : Nat) (f : Nat → Value) (i : Nat) (u : Value) : (mk n f).setIfInBounds i u = mk n fun y => if y = i then u else f y := by
  apply Array.ext
  · simp [mk]
  · intro j h1 h2
    have h3 : j < n := by simpa [mk] using h2
    rw [Array.getElem_setIfInBounds (by simpa [mk] using h3)]
    simp only [mk, List.getElem_toArray, List.getElem_map, List.getElem_range]
    by_cases hij : i = j
    · subst hij; simp
    · rw [if_neg hij, if_neg (fun e => hij e.symm)]
/-- The reference's device d at block p; its rows at a, b, c. -/
structure RefIs (w : World) (p a b c : Nat) (d : St) : Prop where
  obj : Has w p 45 #[.slice (some ⟨a, 0, none⟩) d.size d.size, .slice (some ⟨b, 0, none⟩) d.size d.size, .slice (some ⟨c, 0, none⟩) d.size d.size, .bool (!d.on), .int .i64 d.fuse]
  kept : Has w a 9 (mk d.size fun i => .string ((d.kept i).getD ⟨#[]⟩))
  dirt : ∃ df : Nat → ByteArray, Has w b 9 (mk d.size fun i => .string (df i)) ∧ ∀ i, i < d.size → ∀ s, d.dirty (i : Int) = some s → df i = s
  is_ : Has w c 4 (mk d.size fun i => .bool (d.dirty i).isSome)
  apart : (p ≠ a ∧ p ≠ b ∧ p ≠ c) ∧ a ≠ b ∧ a ≠ c ∧ b ≠ c
  lo : 8 ≤ d.size
  hi : d.size ≤ 4096
  least : -1 ≤ d.fuse
  most : d.fuse ≤ 9223372036854775807
/-- The blocks that it is. -/
def ROwn (p a b c : Nat) : Nat → Prop := fun k => k = p ∨ k = a ∨ k = b ∨ k = c
theorem RefIs.over {S : Nat → Prop} {w w' : World} {p a b c : Nat} {d : St} (h : RefIs w p a b c d) (hc : Chg S w w') (hs : ∀ k, ROwn p a b c k → ¬ S k) : RefIs w' p a b c d := by
  obtain ⟨df, h1, h2⟩ := h.dirt
  exact ⟨h.obj.over hc (hs _ (.inl rfl)), h.kept.over hc (hs _ (.inr (.inl rfl))), ⟨df, h1.over hc (hs _ (.inr (.inr (.inl rfl)))), h2⟩, h.is_.over hc (hs _ (.inr (.inr (.inr rfl)))), h.apart, h.lo, h.hi, h.least, h.most⟩
theorem RefIs.below {w w' : World} {p a b c : Nat} {d : St} (h : RefIs w p a b c d) (hb : Below w.heap.size w w') : RefIs w' p a b c d :=
  h.over (Chg.of_below hb (fun _ => False)) (fun _ _ k => k)
theorem RefIs.bound {w : World} {p a b c : Nat} {d : St} (h : RefIs w p a b c d) : ∀ k, ROwn p a b c k → k < w.heap.size := by
  obtain ⟨df, h1, _⟩ := h.dirt
  rintro k (rfl | rfl | rfl | rfl)
  · exact h.obj.bound
  · exact h.kept.bound
  · exact h1.bound
  · exact h.is_.bound
/-- Only what lies inside counts. -/
theorem RefIs.congr {w : World} {p a b c : Nat} {d e : St} (h : RefIs w p a b c d) (h1 : e.on = d.on) (h2 : e.fuse = d.fuse) (h3 : e.size = d.size) (h4 : ∀ i : Nat, i < d.size → e.kept i = d.kept i ∧ e.dirty i = d.dirty i) : RefIs w p a b c e := by
  obtain ⟨df, g1, g2⟩ := h.dirt
  refine ⟨by rw [h1, h2, h3]; exact h.obj, ?_, ⟨df, by rw [h3]; exact g1, fun i hi s hs => g2 i (by omega) s (by rw [← (h4 i (by omega)).2]; exact hs)⟩, ?_, h.apart, by rw [h3]; exact h.lo, by rw [h3]; exact h.hi, by rw [h2]; exact h.least, by rw [h2]; exact h.most⟩
  · rw [h3, mk_ext _ _ (fun i => .string ((d.kept i).getD ⟨#[]⟩)) (fun i hi => by rw [(h4 i hi).1])]
    exact h.kept
  · rw [h3, mk_ext _ _ (fun i => .bool (d.dirty i).isSome) (fun i hi => by rw [(h4 i hi).2])]
    exact h.is_
theorem RefIs.put_kept {w : World} {p a b c : Nat} {d : St} (h : RefIs w p a b c d) (i : Nat) (s : ByteArray) :
    RefIs (w.setCell ⟨a, i, none⟩ (.string s)) p a b c { d with kept := fun z => if z = i then some s else d.kept z } := by
  obtain ⟨df, g1, g2⟩ := h.dirt
  have ap := h.apart
  refine ⟨Has.keep h.obj ap.1.1 _, ?_, ⟨df, Has.keep g1 (fun e => ap.2.1 e.symm) _, g2⟩, Has.keep h.is_ (fun e => ap.2.2.1 e.symm) _, ap, h.lo, h.hi, h.least, h.most⟩
  have hp := Has.put h.kept i (.string s)
  rw [mk_set] at hp
  refine (congrArg (fun x => Has _ _ _ x) (mk_ext _ _ _ fun y _ => ?_)).mp hp
  show _ = Value.string ((if (y : Int) = i then some s else d.kept y).getD ⟨#[]⟩)
  by_cases hy : y = i
  · subst hy; simp
  · rw [if_neg hy, if_neg (by omega)]
theorem RefIs.put_is {w : World} {p a b c : Nat} {d : St} (h : RefIs w p a b c d) (i : Nat) :
    RefIs (w.setCell ⟨c, i, none⟩ (.bool false)) p a b c { d with dirty := fun z => if z = i then none else d.dirty z } := by
  obtain ⟨df, g1, g2⟩ := h.dirt
  have ap := h.apart
  refine ⟨Has.keep h.obj ap.1.2.2 _, Has.keep h.kept ap.2.2.1 _, ⟨df, Has.keep g1 ap.2.2.2 _, fun y hy t ht => g2 y hy t (by
    have ht : (if (y : Int) = i then none else d.dirty y) = some t := ht
    split at ht
    · cases ht
    · exact ht)⟩, ?_, ap, h.lo, h.hi, h.least, h.most⟩
  have hp := Has.put h.is_ i (.bool false)
  rw [mk_set] at hp
  refine (congrArg (fun x => Has _ _ _ x) (mk_ext _ _ _ fun y _ => ?_)).mp hp
  show _ = Value.bool (if (y : Int) = i then none else d.dirty y).isSome
  by_cases hy : y = i
  · subst hy; simp
  · rw [if_neg hy, if_neg (by omega)]
theorem RefIs.put_dirt {w : World} {p a b c : Nat} {d : St} (h : RefIs w p a b c d) (i : Nat) (s : ByteArray) :
    RefIs ((w.setCell ⟨b, i, none⟩ (.string s)).setCell ⟨c, i, none⟩ (.bool true)) p a b c (putD d i s) := by
  obtain ⟨df, g1, g2⟩ := h.dirt
  have ap := h.apart
  refine ⟨Has.keep (Has.keep h.obj ap.1.2.1 _) ap.1.2.2 _, Has.keep (Has.keep h.kept ap.2.1 _) ap.2.2.1 _, ⟨fun y => if y = i then s else df y, ?_, fun y hy t ht => ?_⟩, ?_, ap, h.lo, h.hi, h.least, h.most⟩
  · have hp := Has.put g1 i (.string s)
    rw [mk_set] at hp
    refine Has.keep ((congrArg (fun x => Has _ _ _ x) (mk_ext _ _ _ fun y _ => ?_)).mp hp) ap.2.2.2 _
    by_cases hy : y = i
    · subst hy; simp
    · simp [hy]
  · have ht : (if (y : Int) = i then some s else d.dirty y) = some t := ht
    by_cases hyi : y = i
    · subst hyi
      rw [if_pos rfl] at ht
      injection ht with ht
      simp [ht]
    · rw [if_neg (by omega)] at ht
      simp only [if_neg hyi]
      exact g2 y hy t ht
  · have hp := Has.put (Has.keep h.is_ (fun e => ap.2.2.2 e.symm) (.string s) (p := ⟨b, i, none⟩)) i (.bool true)
    rw [mk_set] at hp
    refine (congrArg (fun x => Has _ _ _ x) (mk_ext _ _ _ fun y _ => ?_)).mp hp
    show _ = Value.bool (if (y : Int) = i then some s else d.dirty y).isSome
    by_cases hy : y = i
    · subst hy; simp
    · rw [if_neg hy, if_neg (by omega)]
theorem RefIs.put_power {w : World} {p a b c : Nat} {d : St} (h : RefIs w p a b c d) (o : Bool) :
    RefIs (w.setCell ⟨p, 3, none⟩ (.bool (!o))) p a b c { d with on := o } := by
  obtain ⟨df, g1, g2⟩ := h.dirt
  have ap := h.apart
  exact ⟨Has.put h.obj 3 _, Has.keep h.kept (fun e => ap.1.1 e.symm) _, ⟨df, Has.keep g1 (fun e => ap.1.2.1 e.symm) _, g2⟩, Has.keep h.is_ (fun e => ap.1.2.2 e.symm) _, ap, h.lo, h.hi, h.least, h.most⟩
theorem RefIs.put_fuse {w : World} {p a b c : Nat} {d : St} (h : RefIs w p a b c d) (n : Int) (h1 : -1 ≤ n) (h2 : n ≤ 9223372036854775807) :
    RefIs (w.setCell ⟨p, 4, none⟩ (.int .i64 n)) p a b c { d with fuse := n } := by
  obtain ⟨df, g1, g2⟩ := h.dirt
  have ap := h.apart
  exact ⟨Has.put h.obj 4 _, Has.keep h.kept (fun e => ap.1.1 e.symm) _, ⟨df, Has.keep g1 (fun e => ap.1.2.1 e.symm) _, g2⟩, Has.keep h.is_ (fun e => ap.1.2.2 e.symm) _, ap, h.lo, h.hi, h1, h2⟩
theorem chg_set {w : World} {S : Nat → Prop} {g i : Nat} (h : S g) (u : Value) : Chg S w (w.setCell ⟨g, i, none⟩ u) := (Chg.refl S w).setCell (p := ⟨g, i, none⟩) (.inl h) u
theorem ract_any (p a b c : Nat) (d : St) (w : World) (h : RefIs w p a b c d) :
    Calls Try.prog 48 #[.pointer (some ⟨p, 0, none⟩)] w fun e w' => e = .returned (.bool (decide (d.fuse ≠ 0))) ∧ RefIs w' p a b c (act d) ∧ Chg (ROwn p a b c) w w' ∧ w'.heap.size = w.heap.size := by
  have c3 := Has.at_ h.obj 3
  have c4 := Has.at_ h.obj 4
  have f3 := Has.free h.obj 3
  have f4 := Has.free h.obj 4
  have hl := h.least
  have hm := h.most
  simp at c3 c4
  by_cases h0 : d.fuse = 0
  · have e1 : act d = { d with on := false } := if_pos h0
    have e2 : decide (d.fuse ≠ 0) = false := decide_eq_false (fun k => k h0)
    rw [e1, e2]
    rw [h0] at c4
    have HH := Lib.hid h
    clear e1 e2 hl hm h
    go_enter Try.func48, Try.ntmps48
    go_wp2
    go_ret
    exact ⟨rfl, HH.out.put_power false, chg_set (.inl rfl) _, by simp [World.setCell]⟩
  · have e2 : decide (d.fuse ≠ 0) = true := decide_eq_true h0
    have t1 : (d.fuse == 0) = false := beq_eq_false_iff_ne.2 h0
    rw [e2]
    by_cases h1 : 0 < d.fuse
    · have e1 : act d = { d with fuse := d.fuse - 1 } := by unfold act; rw [if_neg h0, if_pos h1]
      rw [e1]
      have HH := Lib.hid h
      have HF := Lib.hid (h.put_fuse (d.fuse - 1) (by omega) (by omega))
      clear e1 e2 h0 h
      go_enter Try.func48, Try.ntmps48
      go_wp2
      go_ret
      exact ⟨rfl, HF.out, chg_set (.inl rfl) _, by simp [World.setCell]⟩
    · have e1 : act d = d := by unfold act; rw [if_neg h0, if_neg h1]
      rw [e1]
      have HH := Lib.hid h
      clear e1 e2 h0 h
      go_enter Try.func48, Try.ntmps48
      go_wp2
      go_ret
      exact ⟨rfl, HH.out, Chg.refl _ _, rfl⟩
end Go.Proofs.Ytdedbbbgpjhjhac.Dv
