/- What was written is kept: contract of Flush. -/
import Derived.Test.YthejlenafjnmkaaGreatDevB
import Derived.RegionTactic
import Derived.ChangeAlike
namespace Go.Proofs.YthejlenafjnmkaaGreat.Dv
open Go.RowKit
open Mem

def flushD (d : St) : St := if d.fuse = 0 then act d else { act d with kept := fun z => (d.dirty z).or (d.kept z), dirty := fun _ => none }
theorem flush_off (p bk bd : Nat) (d : St) (w : World) (h : DevIs w p bk bd d) (ho : d.on = false) :
    Calls Tryz.prog 36 #[.pointer (some ⟨p, 0, none⟩)] w fun e w' => e = .returned (.int .i64 5) ∧ w = w' := by
  have HR := Lib.hid (ready_off p bk bd d w h ho)
  clear h
  go_enter Tryz.func36, Tryz.ntmps36
  go_wp2_with fail
  refine HR.out.mono ?_
  rintro e w' ⟨rfl, rfl⟩
  go_wp2
  go_ret
  exact ⟨rfl, rfl⟩
theorem vals_some {f : Int → Option ByteArray} {z : Int} {v : Value} (h : vals f z = some v) : ∃ s, f z = some s ∧ v = .agg #[.string s] := by
  unfold vals at h
  cases hf : f z with
  | none => rw [hf] at h; cases h
  | some s => rw [hf] at h; injection h with h; exact ⟨s, rfl, h.symm⟩
theorem upd_vals (f : Int → Option ByteArray) (i : Int) (s : ByteArray) : upd (vals f) i (.agg #[.string s]) = vals (fun y => if y = i then some s else f y) := by
  funext y
  unfold upd vals
  by_cases h : y = i
  · simp [h]
  · simp [h]
set_option maxRecDepth 100000 in
set_option maxHeartbeats 1000000 in
theorem flush_on (p bk bd : Nat) (d : St) (w : World) (h : DevIs w p bk bd d) (ho : d.on = true) :
    Calls Tryz.prog 36 #[.pointer (some ⟨p, 0, none⟩)] w fun e w' => e = .returned (.int .i64 (actE d)) ∧ DevIs w' p bk bd (flushD d) ∧ Chg (Own p bk bd) w w' := by
  have HR := Lib.hid (ready_on p bk bd d w h ho)
  have HA := Lib.hid (act_any p bk bd d w h)
  have HZ := Lib.hid h.obj.bound
  have HZ2 := Lib.hid (And.intro h.kept.bound h.dirt.bound)
  clear h
  by_cases h0 : d.fuse = 0
  · have e1 : flushD d = act d := if_pos h0
    have e2 : actE d = 5 := if_pos h0
    rw [e1]
    rw [e2] at HA ⊢
    clear e1 e2 h0
    go_enter Tryz.func36, Tryz.ntmps36
    go_wp2_with fail
    refine HR.out.mono ?_
    rintro e w' ⟨rfl, rfl⟩
    go_wp2_with fail
    refine HA.out.mono ?_
    rintro e w1 ⟨rfl, h1, g1, z1⟩
    go_wp2
    go_ret
    exact ⟨rfl, h1, g1.mono (fun k hk => .inl hk)⟩
  · have e1 : flushD d = { act d with kept := fun z => (d.dirty z).or (d.kept z), dirty := fun _ => none } := if_neg h0
    have e2 : actE d = 0 := if_neg h0
    have e3 : (act d).dirty = d.dirty ∧ (act d).kept = d.kept := by unfold act; split; exact ⟨rfl, rfl⟩; split; exact ⟨rfl, rfl⟩; exact ⟨rfl, rfl⟩
    have E1 := Lib.hid e1
    have E3 := Lib.hid e3
    rw [e2] at HA ⊢
    clear e1 e2 e3 h0
    go_enter Tryz.func36, Tryz.ntmps36
    go_wp2_with fail
    refine HR.out.mono ?_
    rintro e w' ⟨rfl, rfl⟩
    go_wp2_with fail
    refine HA.out.mono ?_
    rintro e w1 ⟨rfl, h1, g1, z1⟩
    have c4 := Has.at_ h1.obj 4
    simp at c4
    have hd := h1.dirt
    rw [E3.out.1] at hd
    obtain ⟨w2, hr, hR, hB, hz⟩ := hd.range mapT
    have HH := Lib.hid (h1.below hB)
    have HRg := Lib.hid hR
    have HB := Lib.hid hB
    have HG := Lib.hid (And.intro g1 (And.intro z1 hz))
    clear h1 hd hR hB hz g1 z1 HR HA
    go_wp2
    clear c4 hr
    obtain ⟨W2, hW2⟩ : ∃ W2 : World, W2 = w2 := ⟨_, rfl⟩
    subst hW2
    go_loopw [24] (fun _ wr => ∃ (left : Int → Prop) (f : Int → Option ByteArray), Rng wr bd w1.heap.size (vals d.dirty) left ∧ IMap wr bk (vals f) ∧
      (∀ z, (left z → f z = d.kept z) ∧ (¬ left z → f z = (d.dirty z).or (d.kept z))) ∧ Chg (fun k => k = bk ∨ k = w1.heap.size) W2 wr) (fun _ wr => cntLeft wr bd w1.heap.size)
    case atStart =>
      refine ⟨_, d.kept, HRg.out, by have := HH.out.kept; rw [E3.out.2] at this; exact this, fun z => ⟨fun _ => rfl, fun hn => ?_⟩, Chg.refl _ _⟩
      have hnn : (d.dirty z) = none := by
        cases hq : d.dirty z with
        | none => rfl
        | some s => exact absurd (by unfold vals; rw [hq]; rfl) hn
      rw [hnn]
      rfl
    case round =>
      obtain ⟨left, f, hRg, hK, hf, hC⟩ := hrel
      have hne1 : p ≠ bk := HH.out.pk
      have hlim : p < w1.heap.size ∧ bk < w1.heap.size ∧ bd < w1.heap.size := by have := HG.out.2.1; have := HZ.out; have := HZ2.out; omega
      have ho := HH.out.obj.over hC (fun k => by rcases k with k | k; exact hne1 k; omega)
      rcases hRg.next (P := Tryz.prog) with ⟨hno, hnx⟩ | ⟨z, v, w3, hm, hl, hnx, hen, hR3, g3, z3, hlt⟩
      · have c4 := Has.at_ ho 4
        simp at c4
        have hdd := hRg.map
        obtain ⟨w4, hcl, hE, g4, z4⟩ := hdd.clear mapT
        have HO := Lib.hid (ho.over g4 HH.out.pd)
        have HK := Lib.hid (hK.over g4 HH.out.apart)
        have HE := Lib.hid hE
        have HC := Lib.hid (And.intro hC g4)
        have HF := Lib.hid (And.intro hno hf)
        have HLIM := Lib.hid hlim
        clear hlim hRg hK hf hC ho hno hdd hE g4 z4
        go_wp2
        go_ret
        have hlim := HLIM.out
        have h := HH.out
        obtain ⟨q1, q2, q3⟩ := HG.out
        refine ⟨rfl, ?_, ?_⟩
        · rw [E1.out]
          refine ⟨HO.out, ?_, HE.out, h.apart, h.pk, h.pd, h.lo, h.hi, h.least, h.most⟩
          have ef : f = fun z => (d.dirty z).or (d.kept z) := by
            funext z
            exact (HF.out.2 z).2 (HF.out.1 z)
          show IMap w4 bk (vals fun z => (d.dirty z).or (d.kept z))
          rw [← ef]
          exact HK.out
        · refine Chg.step (T := fun k => k = bk ∨ k = bd ∨ k = w1.heap.size) (q1.mono (fun k hk => .inl hk)) ?_ (fun k hk hh => ?_)
          · exact Chg.trans (Chg.of_below HB.out _) ((HC.out.1.mono (fun k hk => hk.elim .inl (fun h => .inr (.inr h)))).trans (HC.out.2.mono (fun k hk => .inr (.inl hk))))
          · rcases hh with hh | hh | hh
            · exact .inr (.inl hh)
            · exact .inr (.inr hh)
            · omega
      · obtain ⟨s, hs, rfl⟩ := vals_some hm
        have HLIM := Lib.hid hlim
        have ho3 := ho.over g3 (by omega)
        have hK3 := hK.over g3 (by omega)
        have b4 : Below w3.heap.size w3 (w3.alloc (.cells #[.string s] 103)).drew := ((Below.refl _ _).alloc (Nat.le_refl _) _).drew
        have hK4 := hK3.below b4
        have ho4 := ho3.below b4
        obtain ⟨w5, hu, hK5, g5, z5⟩ := hK4.update mapT intT z (.agg #[.string s])
        have c3 := Has.at_ ho4 3
        simp at c3
        have HK5 := Lib.hid hK5
        have HR3 := Lib.hid hR3
        have H9 := Lib.hid (And.intro hf (And.intro hC (And.intro g3 (And.intro b4 (And.intro g5 (And.intro hlt hl))))))
        clear hlim hK5 hR3 hf hC g3 b4 g5 hlt hl hm hRg hK hK3 hK4 ho ho3 ho4
        go_wp2
        go_region
        go_wp2
        go_roundw
        case rel =>
          obtain ⟨hf, hC, g3, b4, g5, hlt, hl⟩ := H9.out
          have hlim := HLIM.out
          have cb4 := Chg.of_below b4 (fun _ => False)
          refine ⟨fun y => left y ∧ y ≠ z, fun y => if y = z then some s else f y, (HR3.out.over cb4 (fun k => k) (fun k => k)).over g5 (fun k => HH.out.apart k.symm) (by omega), by rw [← upd_vals]; exact HK5.out, fun y => ?_, ?_⟩
          · by_cases hy : y = z
            · subst hy
              refine ⟨fun k => absurd rfl k.2, fun _ => ?_⟩
              show (if y = y then some s else f y) = _
              rw [if_pos rfl, hs]
              rfl
            · show (_ → (if y = z then some s else f y) = _) ∧ (_ → (if y = z then some s else f y) = _)
              rw [if_neg hy]
              exact ⟨fun k => (hf y).1 k.1, fun k => (hf y).2 fun hy2 => k ⟨hy2, hy⟩⟩
          · exact ((hC.trans (g3.mono fun k hk => .inr hk)).trans (Chg.of_below b4 _)).trans (g5.mono fun k hk => .inl hk)
        case measure =>
          obtain ⟨hf, hC, g3, b4, g5, hlt, hl⟩ := H9.out
          have hlim := HLIM.out
          have cb4 := Chg.of_below b4 (fun _ => False)
          have r4 := HR3.out.over cb4 (fun k => k) (fun k => k)
          rw [cntLeft_over r4 g5 (fun k => HH.out.apart k.symm) (by omega), cntLeft_over HR3.out cb4 (fun k => k) (fun k => k)]
          exact hlt
end Go.Proofs.YthejlenafjnmkaaGreat.Dv
