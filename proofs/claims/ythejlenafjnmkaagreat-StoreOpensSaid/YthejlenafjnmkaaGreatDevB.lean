/- A device is made, gets a fuse, gets power; a block is written: contracts. -/
import Derived.Test.YthejlenafjnmkaaGreatDevA
namespace Go.Proofs.YthejlenafjnmkaaGreat.Dv
open Go.RowKit
open Mem

theorem mapT : Tryz.prog.underlying 74 = some (.map 3 103) := Tryz.underlying74
theorem intT : Tryz.prog.underlying 3 = some (.int .i64) := Tryz.underlying3
def newSt (n : Nat) : St := { on := true, fuse := -1, size := n, kept := fun _ => none, dirty := fun _ => none }
theorem new_bad (n : Int) (h : n < 8 ∨ 4096 < n) (w : World) :
    Calls Tryz.prog 7 #[.int .i64 n] w fun e w' => e = .returned (.tuple #[.pointer none, .int .i64 22]) ∧ w = w' := by
  by_cases h1 : n < 8
  · clear h
    go_enter Tryz.func7, Tryz.ntmps7
    go_wp2
    go_ret2
    exact ⟨rfl, rfl⟩
  · have h2 : 4096 < n := by omega
    clear h
    go_enter Tryz.func7, Tryz.ntmps7
    go_wp2
    go_ret2
    exact ⟨rfl, rfl⟩
theorem new_good (n : Nat) (h1 : 8 ≤ n) (h2 : n ≤ 4096) (w : World) :
    Calls Tryz.prog 7 #[.int .i64 n] w fun e w' => e = .returned (.tuple #[.pointer (some ⟨w.heap.size + 2, 0, none⟩), .int .i64 0]) ∧ DevIs w' (w.heap.size + 2) w.heap.size (w.heap.size + 1) (newSt n) ∧ Below w.heap.size w w' ∧ w'.heap.size = w.heap.size + 3 := by
  have hmm := @run_makeMap Tryz.prog
  have t1 : ¬ (n : Int) < 8 := by omega
  have t2 : ¬ 4096 < (n : Int) := by omega
  have hN := Lib.hid (And.intro h1 h2)
  clear h1 h2
  go_enter Tryz.func7, Tryz.ntmps7
  go_wp2
  go_ret2
  refine ⟨rfl, ⟨?_, ?_, ?_, by omega, by omega, by omega, hN.out.1, hN.out.2, by show (-1 : Int) ≤ -1; decide, by show (-1 : Int) ≤ _; decide⟩, ?_, by simp⟩
  · have h := Has.fresh ((w.alloc (.map #[] 0)).alloc (.map #[] 0)) 76 #[.bool true, .int .i64 (-1), .int .i64 n, .map (some w.heap.size), .map (some (w.heap.size + 1))]
    rw [World.size_alloc, World.size_alloc] at h
    exact h
  · have h := IMap.made w
    exact (h.below ((Below.refl _ _).alloc (Nat.le_refl _) (.map #[] 0))).below ((Below.refl _ _).alloc (Nat.le_refl _) _)
  · have h := IMap.made (w.alloc (.map #[] 0))
    rw [World.size_alloc] at h
    exact h.below ((Below.refl _ _).alloc (Nat.le_refl _) _)
  · exact (((Below.refl _ w).alloc (Nat.le_refl _) _).alloc (by simp) _).alloc (by simp; omega) _
def fuseSt (d : St) (n : Int) : St := { d with fuse := max n (-1) }
theorem fuse_on (p bk bd : Nat) (d : St) (n : Int) (hn : n ≤ 9223372036854775807) (w : World) (h : DevIs w p bk bd d) (ho : d.on = true) :
    Calls Tryz.prog 56 #[.pointer (some ⟨p, 0, none⟩), .int .i64 n] w fun e w' => e = .returned (.int .i64 0) ∧ DevIs w' p bk bd (fuseSt d n) ∧ Chg (· = p) w w' ∧ w'.heap.size = w.heap.size := by
  have c1 := Has.at_ h.obj 1
  have f1 := Has.free h.obj 1
  have HR := Lib.hid (ready_on p bk bd d w h ho)
  have HH := Lib.hid h
  simp at c1
  clear h
  rcases Int.lt_trichotomy n (-1) with k | k | k
  · have k1 : n < -1 := k
    have k2 : ¬ -1 < n := by omega
    have hm : max n (-1) = -1 := by omega
    go_enter Tryz.func56, Tryz.ntmps56
    go_wp2_with fail
    refine HR.out.mono ?_
    rintro e w' ⟨rfl, rfl⟩
    go_wp2
    go_ret
    have h := HH.out
    have hc : Chg (· = p) w (w.setCell ⟨p, 1, none⟩ (.int .i64 (-1))) := (Chg.refl (· = p) w).setCell (p := ⟨p, 1, none⟩) (.inl rfl) _
    refine ⟨rfl, ⟨?_, h.kept.over hc (fun k => h.pk k.symm), h.dirt.over hc (fun k => h.pd k.symm), h.apart, h.pk, h.pd, h.lo, h.hi, by show -1 ≤ max n (-1); omega, by show max n (-1) ≤ _; omega⟩, hc, by simp [World.setCell]⟩
    have hp := Has.put h.obj 1 (.int .i64 (-1))
    unfold fuseSt
    simp only [hm]
    exact hp
  · subst k
    have k1 : ¬ (-1 : Int) < -1 := by omega
    go_enter Tryz.func56, Tryz.ntmps56
    go_wp2_with fail
    refine HR.out.mono ?_
    rintro e w' ⟨rfl, rfl⟩
    go_wp2
    go_ret
    have h := HH.out
    have hc : Chg (· = p) w (w.setCell ⟨p, 1, none⟩ (.int .i64 (-1))) := (Chg.refl (· = p) w).setCell (p := ⟨p, 1, none⟩) (.inl rfl) _
    exact ⟨rfl, ⟨Has.put h.obj 1 _, h.kept.over hc (fun k => h.pk k.symm), h.dirt.over hc (fun k => h.pd k.symm), h.apart, h.pk, h.pd, h.lo, h.hi, by show (-1 : Int) ≤ max (-1) (-1); decide, by show max (-1 : Int) (-1) ≤ _; decide⟩, hc, by simp [World.setCell]⟩
  · have k1 : ¬ n < -1 := by omega
    have k2 : -1 < n := k
    have hm : max n (-1) = n := by omega
    go_enter Tryz.func56, Tryz.ntmps56
    go_wp2_with fail
    refine HR.out.mono ?_
    rintro e w' ⟨rfl, rfl⟩
    go_wp2
    go_ret
    have h := HH.out
    have hc : Chg (· = p) w (w.setCell ⟨p, 1, none⟩ (.int .i64 n)) := (Chg.refl (· = p) w).setCell (p := ⟨p, 1, none⟩) (.inl rfl) _
    refine ⟨rfl, ⟨?_, h.kept.over hc (fun k => h.pk k.symm), h.dirt.over hc (fun k => h.pd k.symm), h.apart, h.pk, h.pd, h.lo, h.hi, by show -1 ≤ max n (-1); omega, by show max n (-1) ≤ _; omega⟩, hc, by simp [World.setCell]⟩
    have hp := Has.put h.obj 1 (.int .i64 n)
    unfold fuseSt
    simp only [hm]
    exact hp
theorem fuse_off (p bk bd : Nat) (d : St) (n : Int) (w : World) (h : DevIs w p bk bd d) (ho : d.on = false) :
    Calls Tryz.prog 56 #[.pointer (some ⟨p, 0, none⟩), .int .i64 n] w fun e w' => e = .returned (.int .i64 5) ∧ w = w' := by
  have HR := Lib.hid (ready_off p bk bd d w h ho)
  clear h
  go_enter Tryz.func56, Tryz.ntmps56
  go_wp2_with fail
  refine HR.out.mono ?_
  rintro e w' ⟨rfl, rfl⟩
  go_wp2
  go_ret
  exact ⟨rfl, rfl⟩
/-- Writing: what becomes of the device, and the answer. -/
def putD (d : St) (i : Int) (s : ByteArray) : St := { d with dirty := fun y => if y = i then some s else d.dirty y }
theorem vals_put (d : St) (i : Int) (s : ByteArray) : upd (vals d.dirty) i (.agg #[.string s]) = vals (putD d i s).dirty := by
  funext y
  unfold upd vals putD
  simp only
  by_cases h : y = i
  · rw [if_pos h, if_pos h]; rfl
  · rw [if_neg h, if_neg h]
theorem write_off (p bk bd : Nat) (d : St) (i : Int) (s : ByteArray) (w : World) (h : DevIs w p bk bd d) (ho : d.on = false) :
    Calls Tryz.prog 24 #[.pointer (some ⟨p, 0, none⟩), .int .i64 i, .string s] w fun e w' => e = .returned (.int .i64 5) ∧ w = w' := by
  have HR := Lib.hid (ready_off p bk bd d w h ho)
  clear h
  go_enter Tryz.func24, Tryz.ntmps24
  go_wp2_with fail
  refine HR.out.mono ?_
  rintro e w' ⟨rfl, rfl⟩
  go_wp2
  go_ret
  exact ⟨rfl, rfl⟩
theorem write_bad (p bk bd : Nat) (d : St) (i : Int) (s : ByteArray) (w : World) (h : DevIs w p bk bd d) (ho : d.on = true) (hb : inside d i = false ∨ 4096 < s.size) :
    Calls Tryz.prog 24 #[.pointer (some ⟨p, 0, none⟩), .int .i64 i, .string s] w fun e w' => e = .returned (.int .i64 22) ∧ w = w' := by
  have HR := Lib.hid (ready_on p bk bd d w h ho)
  have HI := Lib.hid (has_any p bk bd d i w h)
  clear h
  cases hi : inside d i with
  | false =>
    rw [hi] at HI
    go_enter Tryz.func24, Tryz.ntmps24
    go_wp2_with fail
    refine HR.out.mono ?_
    rintro e w' ⟨rfl, rfl⟩
    go_wp2_with fail
    refine HI.out.mono ?_
    rintro e w' ⟨rfl, rfl⟩
    go_wp2
    go_ret
    exact ⟨rfl, rfl⟩
  | true =>
    rw [hi] at HI
    have hs : 4096 < (s.size : Int) := by
      rcases hb with hb | hb
      · rw [hi] at hb; cases hb
      · omega
    clear hb
    go_enter Tryz.func24, Tryz.ntmps24
    go_wp2_with fail
    refine HR.out.mono ?_
    rintro e w' ⟨rfl, rfl⟩
    go_wp2_with fail
    refine HI.out.mono ?_
    rintro e w' ⟨rfl, rfl⟩
    go_wp2
    go_ret
    exact ⟨rfl, rfl⟩
def writeD (d : St) (i : Int) (s : ByteArray) : St := if d.fuse = 0 then act d else putD (act d) i s
theorem write_good (p bk bd : Nat) (d : St) (i : Int) (s : ByteArray) (w : World) (h : DevIs w p bk bd d) (ho : d.on = true) (hi : inside d i = true) (hs : s.size ≤ 4096) :
    Calls Tryz.prog 24 #[.pointer (some ⟨p, 0, none⟩), .int .i64 i, .string s] w fun e w' => e = .returned (.int .i64 (actE d)) ∧ DevIs w' p bk bd (writeD d i s) ∧ Chg (Own p bk bd) w w' ∧ w'.heap.size = w.heap.size := by
  have HR := Lib.hid (ready_on p bk bd d w h ho)
  have HI := Lib.hid (has_any p bk bd d i w h)
  have HA := Lib.hid (act_any p bk bd d w h)
  rw [hi] at HI
  have t1 : ¬ 4096 < (s.size : Int) := by omega
  clear hs
  by_cases h0 : d.fuse = 0
  · have e1 : writeD d i s = act d := if_pos h0
    have e2 : actE d = 5 := if_pos h0
    rw [e1]
    rw [e2] at HA ⊢
    clear e1 e2
    go_enter Tryz.func24, Tryz.ntmps24
    go_wp2_with fail
    refine HR.out.mono ?_
    rintro e w' ⟨rfl, rfl⟩
    go_wp2_with fail
    refine HI.out.mono ?_
    rintro e w' ⟨rfl, rfl⟩
    go_wp2_with fail
    refine HA.out.mono ?_
    rintro e w1 ⟨rfl, h1, g1, z1⟩
    go_wp2
    go_ret
    exact ⟨rfl, h1, g1.mono (fun k hk => .inl hk), z1⟩
  · have e1 : writeD d i s = putD (act d) i s := if_neg h0
    have e2 : actE d = 0 := if_neg h0
    rw [e1]
    rw [e2] at HA ⊢
    clear e1 e2
    go_enter Tryz.func24, Tryz.ntmps24
    go_wp2_with fail
    refine HR.out.mono ?_
    rintro e w' ⟨rfl, rfl⟩
    go_wp2_with fail
    refine HI.out.mono ?_
    rintro e w' ⟨rfl, rfl⟩
    go_wp2_with fail
    refine HA.out.mono ?_
    rintro e w1 ⟨rfl, h1, g1, z1⟩
    have c4 := Has.at_ h1.obj 4
    simp at c4
    obtain ⟨w2, hu, m2, g2, z2⟩ := h1.dirt.update mapT intT i (.agg #[.string s])
    have HH := Lib.hid h1
    have HM := Lib.hid m2
    have HG := Lib.hid (And.intro g1 (And.intro g2 (And.intro z1 z2)))
    clear h1 m2 g1 g2 z1 z2 h HR HI HA
    go_wp2
    go_ret
    have h := HH.out
    obtain ⟨g1, g2, z1, z2⟩ := HG.out
    refine ⟨rfl, ⟨h.obj.over g2 h.pd, h.kept.over g2 h.apart, ?_, h.apart, h.pk, h.pd, h.lo, h.hi, h.least, h.most⟩, (g1.mono (fun k hk => .inl hk)).trans (g2.mono (fun k hk => .inr (.inr hk))), z2.trans z1⟩
    rw [← vals_put]
    exact HM.out
end Go.Proofs.YthejlenafjnmkaaGreat.Dv
