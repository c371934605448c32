/- The document's own device: keeping, crashing, starting. -/
import Derived.Test.YtdedbbbgpjhjhacDevQ
namespace Go.Proofs.Ytdedbbbgpjhjhac.Dv
open Go.RowKit
open Mem
open Rws

/-- The blocks below j are as f says, and nothing was written to them since. -/
def midG (d : St) (f : Int → Option ByteArray) (j : Nat) : St := { d with kept := fun z => if z < j then f z else d.kept z, dirty := fun z => if z < j then none else d.dirty z }
theorem midG_zero {w : World} {p a b c : Nat} {d : St} (f : Int → Option ByteArray) (h : RefIs w p a b c d) : RefIs w p a b c (midG d f 0) := by
  refine h.congr rfl rfl rfl fun i _ => ?_
  have hn : ¬ (i : Int) < ((0 : Nat) : Int) := by omega
  constructor
  · show (if (i : Int) < ((0 : Nat) : Int) then f i else d.kept i) = _
    rw [if_neg hn]
  · show (if (i : Int) < ((0 : Nat) : Int) then none else d.dirty i) = _
    rw [if_neg hn]
theorem midG_next {w : World} {p a b c : Nat} {d e : St} (f : Int → Option ByteArray) (j : Nat) (h : RefIs w p a b c e) (h1 : e.on = d.on) (h2 : e.fuse = d.fuse) (h3 : e.size = d.size)
    (hk : ∀ z : Int, e.kept z = if z = j then f j else (midG d f j).kept z) (hd : ∀ z : Int, e.dirty z = if z = j then none else (midG d f j).dirty z) : RefIs w p a b c (midG d f (j + 1)) := by
  refine h.congr h1.symm h2.symm h3.symm fun i _ => ?_
  rw [hk, hd]
  constructor
  · show (if (i : Int) < ((j + 1 : Nat) : Int) then f i else d.kept i) = if (i : Int) = j then f j else if (i : Int) < j then f i else d.kept i
    rcases Nat.lt_trichotomy i j with k | k | k
    · rw [if_pos (by omega), if_neg (by omega), if_pos (by omega)]
    · subst k; rw [if_pos (by omega), if_pos rfl]
    · rw [if_neg (by omega), if_neg (by omega), if_neg (by omega)]
  · show (if (i : Int) < ((j + 1 : Nat) : Int) then none else d.dirty i) = if (i : Int) = j then none else if (i : Int) < j then none else d.dirty i
    rcases Nat.lt_trichotomy i j with k | k | k
    · rw [if_pos (by omega), if_neg (by omega), if_pos (by omega)]
    · subst k; rw [if_pos (by omega), if_pos rfl]
    · rw [if_neg (by omega), if_neg (by omega), if_neg (by omega)]
theorem midG_done {w : World} {p a b c : Nat} {d : St} {f : Int → Option ByteArray} (h : RefIs w p a b c (midG d f d.size)) : RefIs w p a b c { d with kept := f, dirty := fun _ => none } := by
  refine h.congr rfl rfl rfl fun i hi => ?_
  have hi : i < d.size := hi
  constructor
  · show _ = if (i : Int) < (d.size : Int) then f i else d.kept i
    rw [if_pos (by omega)]
  · show _ = if (i : Int) < (d.size : Int) then none else d.dirty i
    rw [if_pos (by omega)]
theorem RefIs.drew {w : World} {p a b c : Nat} {d : St} (h : RefIs w p a b c d) : RefIs w.drew p a b c d := h.over ((Chg.refl (fun _ => False) w).drew) (fun _ _ k => k)
theorem act_rest (d : St) : (act d).dirty = d.dirty ∧ (act d).kept = d.kept := by
  unfold act
  split
  · exact ⟨rfl, rfl⟩
  · split
    · exact ⟨rfl, rfl⟩
    · exact ⟨rfl, rfl⟩
def flF (d : St) : Int → Option ByteArray := fun z => (d.dirty z).or (d.kept z)
theorem flush_is (d : St) (h0 : d.fuse ≠ 0) : flushD d = { act d with kept := flF (act d), dirty := fun _ => none } := by
  unfold flushD flF
  rw [if_neg h0, (act_rest d).1, (act_rest d).2]
set_option maxRecDepth 100000 in
set_option maxHeartbeats 1000000 in
theorem rflush_all (p a b c : Nat) (d : St) (w : World) (h : RefIs w p a b c d) :
    Calls Try.prog 36 #[.pointer (some ⟨p, 0, none⟩)] w fun e w' => e = .returned (.int .i64 (flE d)) ∧ RefIs w' p a b c (flD d) ∧ Chg (ROwn p a b c) w w' := by
  have c3 := Has.at_ h.obj 3
  have HH := Lib.hid h
  simp at c3
  cases ho : d.on with
  | false =>
    have e1 : flD d = d := if_neg (by rw [ho]; decide)
    have e2 : flE d = 5 := if_neg (by rw [ho]; decide)
    rw [e1, e2]
    rw [ho] at c3
    clear e1 e2 h
    go_enter Try.func36, Try.ntmps36
    go_wp2
    go_ret
    exact ⟨rfl, HH.out, Chg.refl _ _⟩
  | true =>
    have e1 : flD d = flushD d := if_pos ho
    have e2 : flE d = actE d := if_pos ho
    rw [e1, e2]
    rw [ho] at c3
    have HA := Lib.hid (ract_any p a b c d w h)
    by_cases h0 : d.fuse = 0
    · have e1 : flushD d = act d := if_pos h0
      have e2 : actE d = 5 := if_pos h0
      rw [e1, e2]
      have ef : decide (d.fuse ≠ 0) = false := decide_eq_false (fun k => k h0)
      rw [ef] at HA
      clear e1 e2 ef h0 h
      go_enter Try.func36, Try.ntmps36
      go_wp2_with fail
      refine HA.out.mono ?_
      rintro e w1 ⟨rfl, h1, g1, _⟩
      go_wp2
      go_ret
      exact ⟨rfl, h1, g1⟩
    · have e2 : actE d = 0 := if_neg h0
      rw [e2]
      have ef : decide (d.fuse ≠ 0) = true := decide_eq_true h0
      rw [ef] at HA
      have HN := Lib.hid h0
      clear e1 e2 ef h0 h
      go_enter Try.func36, Try.ntmps36
      go_wp2_with fail
      refine HA.out.mono ?_
      rintro e w1 ⟨rfl, h1, g1, _⟩
      have c0 := Has.at_ h1.obj 0
      simp at c0
      have H1 := Lib.hid h1
      have G1 := Lib.hid g1
      have hn := h1.hi
      clear h1 g1
      go_wp2
      go_loopw [18] (fun z wr => ∃ j : Nat, j ≤ (act d).size ∧ z = .int .i64 j ∧ RefIs wr p a b c (midG (act d) (flF (act d)) j) ∧ Chg (ROwn p a b c) w1 wr) (fun z _ => (act d).size - (intOf z).toNat)
      case atStart => exact ⟨0, Nat.zero_le _, rfl, midG_zero _ H1.out, Chg.refl _ _⟩
      case round =>
        obtain ⟨j, hj, rfl, hr, hC⟩ := hrel
        have HFL := Lib.hid (flush_is d HN.out)
        generalize act d = e at *
        have HC := Lib.hid hC
        have HR := Lib.hid hr
        have hez : (midG e (flF e) j).size = e.size := rfl
        have c0 := Has.at_ hr.obj 0
        have c1 := Has.at_ hr.obj 1
        have c2 := Has.at_ hr.obj 2
        simp at c0 c1 c2
        rw [hez] at c0 c1 c2
        clear hC hr hez
        by_cases hlt : j < e.size
        · obtain ⟨df, q1, q2⟩ := HR.out.dirt
          have cc := (Has.at_ HR.out.is_ j).trans (mk_get _ _ j hlt)
          have ca := (Has.at_ HR.out.kept j).trans (mk_get _ _ j hlt)
          have cb := (Has.at_ q1 j).trans (mk_get _ _ j hlt)
          have fa := Has.free HR.out.kept j
          have ed : (midG e (flF e) j).dirty (j : Int) = e.dirty j := if_neg (by omega)
          rw [ed] at cc
          cases hq : e.dirty (j : Int) with
          | none =>
            rw [hq] at cc
            simp only [Option.isSome_none] at cc
            have hnx := Lib.hid (midG_next (d := e) (flF e) j HR.out rfl rfl rfl (fun z => by
              by_cases hz : z = j
              · subst hz
                rw [if_pos rfl]
                show (if (j : Int) < j then _ else e.kept j) = flF e j
                rw [if_neg (by omega)]
                unfold flF
                rw [hq]
                rfl
              · rw [if_neg hz]) (fun z => by
              by_cases hz : z = j
              · subst hz
                rw [if_pos rfl, ed, hq]
              · rw [if_neg hz]))
            clear c1 ca cb fa ed q1 q2
            go_wp2
            go_roundw
            case rel => exact ⟨j + 1, by omega, by go_num, hnx.out, HC.out⟩
            case measure => simp [intOf]; omega
          | some s =>
            rw [hq] at cc
            simp only [Option.isSome_some] at cc
            have e2 := q2 j hlt s (by rw [ed]; exact hq)
            rw [e2] at cb
            clear q1 q2 e2 ed
            go_wp2
            go_region
            have hk := Lib.hid ((HR.out.put_kept j s).drew)
            have hck := Lib.hid ((chg_set (S := ROwn p a b c) (w := wr) (g := a) (i := j) (.inr (.inl rfl)) (.string s)).drew)
            generalize (wr.setCell ⟨a, j, none⟩ (.string s)).drew = W5 at *
            have d2 := Has.at_ hk.out.obj 2
            simp at d2
            have dc := (Has.at_ hk.out.is_ j).trans (mk_get _ _ j hlt)
            have fc := Has.free hk.out.is_ j
            have hnx := Lib.hid (midG_next (d := e) (flF e) j (hk.out.put_is j) rfl rfl rfl (fun z => by
              show (if z = (j : Int) then some s else _) = _
              by_cases hz : z = j
              · subst hz
                rw [if_pos rfl, if_pos rfl]
                unfold flF
                rw [hq]
                rfl
              · rw [if_neg hz, if_neg hz]) (fun z => rfl))
            clear c0 c1 c2 ca cb cc fa
            go_wp2
            go_roundw
            case rel => exact ⟨j + 1, by omega, by go_num, hnx.out, HC.out.trans (hck.out.trans (chg_set (.inr (.inr (.inr rfl))) _))⟩
            case measure => simp [intOf]; omega
        · obtain rfl : j = e.size := by omega
          have hf := Lib.hid (midG_done HR.out)
          clear HR c1 c2 hlt hj
          go_wp2
          go_ret
          exact ⟨rfl, by rw [HFL.out]; exact hf.out, G1.out.trans HC.out⟩
end Go.Proofs.Ytdedbbbgpjhjhac.Dv
