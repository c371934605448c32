/- A device in memory, and what its parts answer. -/
import Derived.Test.YthejlenafjnmkaaGreatIMap
namespace Go.Proofs.YthejlenafjnmkaaGreat.Dv
open Go.RowKit
open Mem

/-- A device: power, fuse, size; of each block what is kept, and what was written since. -/
structure St where
  on : Bool
  fuse : Int
  size : Nat
  kept : Int → Option ByteArray
  dirty : Int → Option ByteArray
def vals (f : Int → Option ByteArray) : Int → Option Value := fun z => (f z).map fun s => .agg #[.string s]
/-- The device d stands at block p; its maps at bk and bd. -/
structure DevIs (w : World) (p bk bd : Nat) (d : St) : Prop where
  obj : Has w p 76 #[.bool d.on, .int .i64 d.fuse, .int .i64 d.size, .map (some bk), .map (some bd)]
  kept : IMap w bk (vals d.kept)
  dirt : IMap w bd (vals d.dirty)
  apart : bk ≠ bd
  pk : p ≠ bk
  pd : p ≠ bd
  lo : 8 ≤ d.size
  hi : d.size ≤ 4096
  least : -1 ≤ d.fuse
  most : d.fuse ≤ 9223372036854775807
/-- The blocks that a device is. -/
def Own (p bk bd : Nat) : Nat → Prop := fun k => k = p ∨ k = bk ∨ k = bd
theorem DevIs.over {S : Nat → Prop} {w w' : World} {p bk bd : Nat} {d : St} (h : DevIs w p bk bd d) (hc : Chg S w w') (h1 : ¬ S p) (h2 : ¬ S bk) (h3 : ¬ S bd) : DevIs w' p bk bd d :=
  ⟨h.obj.over hc h1, h.kept.over hc h2, h.dirt.over hc h3, h.apart, h.pk, h.pd, h.lo, h.hi, h.least, h.most⟩
theorem DevIs.below {w w' : World} {p bk bd : Nat} {d : St} (h : DevIs w p bk bd d) (hb : Below w.heap.size w w') : DevIs w' p bk bd d :=
  h.over (Chg.of_below hb (fun _ => False)) (fun k => k) (fun k => k) (fun k => k)

theorem made_any (p bk bd : Nat) (d : St) (w : World) (h : DevIs w p bk bd d) :
    Calls Tryz.prog 46 #[.pointer (some ⟨p, 0, none⟩)] w fun e w' => e = .returned (.bool true) ∧ w = w' := by
  have c2 := Has.at_ h.obj 2
  have t1 : decide (0 < d.size) = true := decide_eq_true (by have := h.lo; omega)
  simp at c2
  clear h
  go_enter Tryz.func46, Tryz.ntmps46
  go_wp2
  go_ret
  exact ⟨rfl, rfl⟩
theorem ready_on (p bk bd : Nat) (d : St) (w : World) (h : DevIs w p bk bd d) (ho : d.on = true) :
    Calls Tryz.prog 64 #[.pointer (some ⟨p, 0, none⟩)] w fun e w' => e = .returned (.int .i64 0) ∧ w = w' := by
  have c0 := Has.at_ h.obj 0
  rw [ho] at c0
  simp at c0
  go_enter Tryz.func64, Tryz.ntmps64
  go_wp2_with fail
  refine (made_any p bk bd d w h).mono ?_
  rintro e w' ⟨rfl, rfl⟩
  go_wp2
  go_ret
  exact ⟨rfl, rfl⟩
theorem ready_off (p bk bd : Nat) (d : St) (w : World) (h : DevIs w p bk bd d) (ho : d.on = false) :
    Calls Tryz.prog 64 #[.pointer (some ⟨p, 0, none⟩)] w fun e w' => e = .returned (.int .i64 5) ∧ w = w' := by
  have c0 := Has.at_ h.obj 0
  rw [ho] at c0
  simp at c0
  go_enter Tryz.func64, Tryz.ntmps64
  go_wp2_with fail
  refine (made_any p bk bd d w h).mono ?_
  rintro e w' ⟨rfl, rfl⟩
  go_wp2
  go_ret
  exact ⟨rfl, rfl⟩
/-- Is there such a block? -/
def inside (d : St) (i : Int) : Bool := decide (0 ≤ i) && decide (i < d.size)
theorem has_any (p bk bd : Nat) (d : St) (i : Int) (w : World) (h : DevIs w p bk bd d) :
    Calls Tryz.prog 65 #[.pointer (some ⟨p, 0, none⟩), .int .i64 i] w fun e w' => e = .returned (.bool (inside d i)) ∧ w = w' := by
  have c2 := Has.at_ h.obj 2
  simp at c2
  clear h
  by_cases h1 : 0 ≤ i
  · have e : inside d i = decide (i < d.size) := by unfold inside; rw [decide_eq_true h1]; rfl
    rw [e]
    clear e
    go_enter Tryz.func65, Tryz.ntmps65
    go_wp2
    go_ret
    exact ⟨rfl, rfl⟩
  · have e : inside d i = false := by unfold inside; rw [decide_eq_false h1]; rfl
    rw [e]
    clear e
    go_enter Tryz.func65, Tryz.ntmps65
    go_wp2
    go_ret
    exact ⟨rfl, rfl⟩
def act (d : St) : St := if d.fuse = 0 then { d with on := false } else if 0 < d.fuse then { d with fuse := d.fuse - 1 } else d
def actE (d : St) : Int := if d.fuse = 0 then 5 else 0
theorem act_any (p bk bd : Nat) (d : St) (w : World) (h : DevIs w p bk bd d) :
    Calls Tryz.prog 66 #[.pointer (some ⟨p, 0, none⟩)] w fun e w' => e = .returned (.int .i64 (actE d)) ∧ DevIs w' p bk bd (act d) ∧ Chg (· = p) w w' ∧ w'.heap.size = w.heap.size := by
  have c0 := Has.at_ h.obj 0
  have c1 := Has.at_ h.obj 1
  have f0 := Has.free h.obj 0
  have f1 := Has.free h.obj 1
  have hl := h.least
  have hm := h.most
  simp at c0 c1
  by_cases h0 : d.fuse = 0
  · have e1 : act d = { d with on := false } := if_pos h0
    have e2 : actE d = 5 := if_pos h0
    rw [e1, e2]
    rw [h0] at c1
    have HH := Lib.hid h
    clear e1 e2 hl hm h
    go_enter Tryz.func66, Tryz.ntmps66
    go_wp2
    go_ret
    have hc : Chg (· = p) w (w.setCell ⟨p, 0, none⟩ (.bool false)) := (Chg.refl (· = p) w).setCell (p := ⟨p, 0, none⟩) (.inl rfl) _
    have h := HH.out
    exact ⟨rfl, ⟨Has.put h.obj 0 _, h.kept.over hc (fun k => h.pk k.symm), h.dirt.over hc (fun k => h.pd k.symm), h.apart, h.pk, h.pd, h.lo, h.hi, h.least, h.most⟩, hc, by simp [World.setCell]⟩
  · by_cases h1 : 0 < d.fuse
    · have e1 : act d = { d with fuse := d.fuse - 1 } := by unfold act; rw [if_neg h0, if_pos h1]
      have e2 : actE d = 0 := if_neg h0
      rw [e1, e2]
      have t1 : (d.fuse == 0) = false := beq_eq_false_iff_ne.2 h0
      have HH := Lib.hid h
      clear e1 e2 h0 h
      go_enter Tryz.func66, Tryz.ntmps66
      go_wp2
      go_ret
      have hc : Chg (· = p) w (w.setCell ⟨p, 1, none⟩ (.int .i64 (d.fuse - 1))) := (Chg.refl (· = p) w).setCell (p := ⟨p, 1, none⟩) (.inl rfl) _
      have h := HH.out
      exact ⟨rfl, ⟨Has.put h.obj 1 _, h.kept.over hc (fun k => h.pk k.symm), h.dirt.over hc (fun k => h.pd k.symm), h.apart, h.pk, h.pd, h.lo, h.hi, by show -1 ≤ d.fuse - 1; omega, by show d.fuse - 1 ≤ _; omega⟩, hc, by simp [World.setCell]⟩
    · have e1 : act d = d := by unfold act; rw [if_neg h0, if_neg h1]
      have e2 : actE d = 0 := if_neg h0
      rw [e1, e2]
      have t1 : (d.fuse == 0) = false := beq_eq_false_iff_ne.2 h0
      have HH := Lib.hid h
      clear e1 e2 h0 h
      go_enter Tryz.func66, Tryz.ntmps66
      go_wp2
      go_ret
      exact ⟨rfl, HH.out, Chg.refl _ _, rfl⟩
end Go.Proofs.YthejlenafjnmkaaGreat.Dv
