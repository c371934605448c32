/- A block is read; the power goes, and comes: contracts. -/
import Derived.Test.YthejlenafjnmkaaGreatDevC
import Derived.Test.YthejlenafjnmkaaGreatOpenNS
namespace Go.Proofs.YthejlenafjnmkaaGreat.Dv
open Go.RowKit
open Mem
open Rws

theorem zero_block (w : World) : (zeroValue 103).run Tryz.prog w = .ok (.agg #[.string ⟨#[]⟩]) w := by kernel_rfl
theorem field_block (s : ByteArray) (w : World) : (Instr.field 103 (.agg #[.string s]) 0).run Tryz.prog w = .ok (.string s) w := by kernel_rfl
def readS (d : St) (i : Int) : ByteArray := ((d.dirty i).or (d.kept i)).getD ⟨#[]⟩
theorem read_off (p bk bd : Nat) (d : St) (i : Int) (w : World) (h : DevIs w p bk bd d) (ho : d.on = false) :
    Calls Tryz.prog 83 #[.pointer (some ⟨p, 0, none⟩), .int .i64 i] w fun e w' => e = .returned (.tuple #[.string ⟨#[]⟩, .int .i64 5]) ∧ w = w' := by
  have HR := Lib.hid (ready_off p bk bd d w h ho)
  clear h
  go_enter Tryz.func83, Tryz.ntmps83
  go_wp2_with fail
  refine HR.out.mono ?_
  rintro e w' ⟨rfl, rfl⟩
  go_wp2
  go_ret2
  exact ⟨rfl, rfl⟩
theorem read_bad (p bk bd : Nat) (d : St) (i : Int) (w : World) (h : DevIs w p bk bd d) (ho : d.on = true) (hi : inside d i = false) :
    Calls Tryz.prog 83 #[.pointer (some ⟨p, 0, none⟩), .int .i64 i] w fun e w' => e = .returned (.tuple #[.string ⟨#[]⟩, .int .i64 22]) ∧ w = w' := by
  have HR := Lib.hid (ready_on p bk bd d w h ho)
  have HI := Lib.hid (has_any p bk bd d i w h)
  rw [hi] at HI
  clear h
  go_enter Tryz.func83, Tryz.ntmps83
  go_wp2_with fail
  refine HR.out.mono ?_
  rintro e w' ⟨rfl, rfl⟩
  go_wp2_with fail
  refine HI.out.mono ?_
  rintro e w' ⟨rfl, rfl⟩
  go_wp2
  go_ret2
  exact ⟨rfl, rfl⟩
set_option maxRecDepth 100000 in
theorem read_good (p bk bd : Nat) (d : St) (i : Int) (w : World) (h : DevIs w p bk bd d) (ho : d.on = true) (hi : inside d i = true) :
    Calls Tryz.prog 83 #[.pointer (some ⟨p, 0, none⟩), .int .i64 i] w fun e w' => e = .returned (.tuple #[.string (readS d i), .int .i64 0]) ∧ Below w.heap.size w w' := by
  have HR := Lib.hid (ready_on p bk bd d w h ho)
  have HI := Lib.hid (has_any p bk bd d i w h)
  rw [hi] at HI
  have c4 := Has.at_ h.obj 4
  simp at c4
  have hl := (h.dirt.lookup mapT intT (.agg #[.string ⟨#[]⟩]) zero_block i).2
  cases hq : d.dirty i with
  | some s =>
    have e : readS d i = s := by unfold readS; rw [hq]; rfl
    have ev : vals d.dirty i = some (.agg #[.string s]) := by unfold vals; rw [hq]; rfl
    rw [ev] at hl
    simp at hl
    rw [e]
    clear h e ev
    go_enter Tryz.func83, Tryz.ntmps83
    go_wp2_with fail
    refine HR.out.mono ?_
    rintro e w' ⟨rfl, rfl⟩
    go_wp2_with fail
    refine HI.out.mono ?_
    rintro e w' ⟨rfl, rfl⟩
    go_wp2
    go_ret2
    exact ⟨rfl, (Below.refl _ _).alloc (Nat.le_refl _) _⟩
  | none =>
    have e : readS d i = (d.kept i).getD ⟨#[]⟩ := by unfold readS; rw [hq]; rfl
    have ev : vals d.dirty i = none := by unfold vals; rw [hq]; rfl
    rw [ev] at hl
    simp at hl
    have b1 : Below w.heap.size w (w.alloc (.cells #[.string ⟨#[]⟩] 103)) := (Below.refl _ _).alloc (Nat.le_refl _) _
    have h1 := h.below b1
    have c3 := Has.at_ h1.obj 3
    simp at c3
    have hl2 := (h1.kept.lookup mapT intT (.agg #[.string ⟨#[]⟩]) zero_block i).1
    have ek : (vals d.kept i).getD (.agg #[.string ⟨#[]⟩]) = .agg #[.string ((d.kept i).getD ⟨#[]⟩)] := by unfold vals; cases d.kept i <;> rfl
    rw [ek] at hl2
    rw [e]
    have hfb := field_block
    clear h e ev ek h1
    go_enter Tryz.func83, Tryz.ntmps83
    go_wp2_with fail
    refine HR.out.mono ?_
    rintro e w' ⟨rfl, rfl⟩
    go_wp2_with fail
    refine HI.out.mono ?_
    rintro e w' ⟨rfl, rfl⟩
    go_wp2
    go_ret2
    exact ⟨rfl, b1⟩
def startD (d : St) : St := if d.on = true then d else { d with on := true, fuse := -1, dirty := fun _ => none }
theorem start_any (p bk bd : Nat) (d : St) (w : World) (h : DevIs w p bk bd d) :
    Calls Tryz.prog 16 #[.pointer (some ⟨p, 0, none⟩)] w fun e w' => e = .returned (.int .i64 0) ∧ DevIs w' p bk bd (startD d) ∧ Chg (Own p bk bd) w w' ∧ w'.heap.size = w.heap.size := by
  have HM := Lib.hid (made_any p bk bd d w h)
  have c0 := Has.at_ h.obj 0
  have c4 := Has.at_ h.obj 4
  cases ho : d.on with
  | true =>
    have e : startD d = d := if_pos ho
    rw [ho] at c0
    rw [e]
    have HH := Lib.hid h
    simp at c0 c4
    clear h e
    go_enter Tryz.func16, Tryz.ntmps16
    go_wp2_with fail
    refine HM.out.mono ?_
    rintro e w' ⟨rfl, rfl⟩
    go_wp2
    go_ret
    exact ⟨rfl, HH.out, Chg.refl _ _, rfl⟩
  | false =>
    have e : startD d = { d with on := true, fuse := -1, dirty := fun _ => none } := if_neg (by rw [ho]; decide)
    rw [ho] at c0
    rw [e]
    obtain ⟨w1, hc, hE, g1, z1⟩ := h.dirt.clear mapT
    have ho1 := h.obj.over g1 h.pd
    have f0 := Has.free ho1 0
    have f1 := Has.free ho1 1
    have d0 := Has.at_ ho1 0
    have d1 := Has.at_ ho1 1
    have HO := Lib.hid ho1
    have HH := Lib.hid h
    have HE := Lib.hid hE
    have HG := Lib.hid (And.intro g1 z1)
    simp at c0 c4 d0 d1
    clear h e ho1 hE g1 z1
    go_enter Tryz.func16, Tryz.ntmps16
    go_wp2_with fail
    refine HM.out.mono ?_
    rintro e w' ⟨rfl, rfl⟩
    go_wp2
    go_ret
    obtain ⟨g1, z1⟩ := HG.out
    have h := HH.out
    have hc : Chg (· = p) w1 ((w1.setCell ⟨p, 0, none⟩ (.bool true)).setCell ⟨p, 1, none⟩ (.int .i64 (-1))) := ((Chg.refl (· = p) w1).setCell (p := ⟨p, 0, none⟩) (.inl rfl) _).setCell (p := ⟨p, 1, none⟩) (.inl rfl) _
    refine ⟨rfl, ⟨Has.put (Has.put HO.out 0 _) 1 _, (h.kept.over g1 h.apart).over hc (fun k => h.pk k.symm), HE.out.over hc (fun k => h.pd k.symm), h.apart, h.pk, h.pd, h.lo, h.hi, by show (-1 : Int) ≤ -1; decide, by show (-1 : Int) ≤ _; decide⟩, (g1.mono (fun k hk => .inr (.inr hk))).trans (hc.mono (fun k hk => .inl hk)), by simp [World.setCell, z1]⟩
/-- Of the blocks in a row those that were written are kept. -/
def keepD (d : St) (ks : List Int) : Int → Option ByteArray := fun z => if z ∈ ks then (d.dirty z).or (d.kept z) else d.kept z
def crashD (d : St) (ks : List Int) : St := { d with on := false, fuse := -1, kept := keepD d ks, dirty := fun _ => none }
theorem keep_snoc (d : St) (ks : List Int) (k : Int) : keepD d (ks ++ [k]) = fun z => if z = k then (d.dirty k).or (d.kept k) else keepD d ks z := by
  funext z
  unfold keepD
  by_cases h : z = k
  · subst h; simp
  · simp [h]
set_option maxRecDepth 100000 in
set_option maxHeartbeats 1000000 in
theorem crash_any (p bk bd : Nat) (d : St) (A : Option Addr) (n c : Nat) (ks : List Int) (w : World) (hn : n ≤ maxLen) (hr : NumRow w A n ks) (h : DevIs w p bk bd d) :
    Calls Tryz.prog 14 #[.pointer (some ⟨p, 0, none⟩), .slice A n c] w fun e w' => e = .returned (.int .i64 0) ∧ DevIs w' p bk bd (crashD d ks) ∧ Chg (Own p bk bd) w w' := by
  unfold maxLen at hn
  have HM := Lib.hid (made_any p bk bd d w h)
  have HH := Lib.hid h
  have HRW := Lib.hid hr
  have HK0 := Lib.hid (fun q => h.kept.no_cell q)
  clear h hr
  go_enter Tryz.func14, Tryz.ntmps14
  go_wp2_with fail
  refine HM.out.mono ?_
  rintro e w' ⟨rfl, rfl⟩
  clear HM
  go_wp2
  go_loopw [14] (fun i wr => ∃ j : Nat, j ≤ n ∧ i = .int .i64 j ∧ IMap wr bk (vals (keepD d (ks.take j))) ∧ Chg (· = bk) w wr) (fun i _ => n - (intOf i).toNat)
  case atStart =>
    refine ⟨0, Nat.zero_le _, rfl, ?_, Chg.refl _ _⟩
    have e : keepD d (ks.take 0) = d.kept := by funext z; unfold keepD; simp
    rw [e]
    exact HH.out.kept
  case round =>
    obtain ⟨j, hj, rfl, hK, hC⟩ := hrel
    have ho := HH.out.obj.over hC HH.out.pk
    have hd := HH.out.dirt.over hC (fun k => HH.out.apart k.symm)
    have c4 := Has.at_ ho 4
    simp at c4
    by_cases hlt : j < n
    · obtain ⟨b, off, rfl, hbl, hcl⟩ := HRW.out.2 (by omega)
      have hjx : j < ks.length := by rw [HRW.out.1]; exact hlt
      have hbk : b ≠ bk := fun e => by
        have h1 := hcl j hjx
        rw [e, HK0.out] at h1
        cases h1
      have cx := (show wr.cell? ⟨b, off + j, none⟩ = w.cell? ⟨b, off + j, none⟩ from World.cell?_of_block (hC.block b hbl hbk)).trans (hcl j hjx)
      have hnx := keep_snoc d (ks.take j) ks[j]
      rw [← List.take_succ_eq_append_getElem hjx] at hnx
      have HN := Lib.hid hnx
      clear hcl hnx hbk
      generalize ks[j] = k at *
      have hl := (hd.lookup mapT intT (.agg #[.string ⟨#[]⟩]) zero_block k).2
      cases hq : d.dirty k with
      | none =>
        have ev : vals d.dirty k = none := by unfold vals; rw [hq]; rfl
        rw [ev] at hl
        simp at hl
        have hkk : keepD d (ks.take (j + 1)) = keepD d (ks.take j) := by
          rw [HN.out]
          funext z
          by_cases hz : z = k
          · rw [if_pos hz, hz, hq]
            unfold keepD
            rw [hq]
            split <;> rfl
          · rw [if_neg hz]
        have H9 := Lib.hid (And.intro hkk (And.intro hK hC))
        clear hkk hK hC ev ho hd HN
        go_wp2
        go_roundw
        case rel =>
          obtain ⟨hkk, hK, hC⟩ := H9.out
          exact ⟨j + 1, by omega, by go_num, by rw [hkk]; exact hK.below ((Below.refl _ _).alloc (Nat.le_refl _) _), hC.alloc _⟩
        case measure => simp [intOf]; omega
      | some s =>
        have ev : vals d.dirty k = some (.agg #[.string s]) := by unfold vals; rw [hq]; rfl
        rw [ev] at hl
        simp at hl
        have b4 : Below wr.heap.size wr (wr.alloc (.cells #[.string s] 103)).drew := ((Below.refl _ _).alloc (Nat.le_refl _) _).drew
        have hK4 := hK.below b4
        have ho4 := ho.below b4
        obtain ⟨w5, hu, hK5, g5, z5⟩ := hK4.update mapT intT k (.agg #[.string s])
        have c3 := Has.at_ ho4 3
        simp at c3
        have hkk : upd (vals (keepD d (ks.take j))) k (.agg #[.string s]) = vals (keepD d (ks.take (j + 1))) := by
          rw [HN.out, upd_vals, hq]
          rfl
        rw [hkk] at hK5
        have H9 := Lib.hid (And.intro hK5 (And.intro hC (And.intro b4 g5)))
        clear hkk hK hC ev ho hd HN hK4 ho4 hK5 b4 g5
        go_wp2
        go_region
        go_wp2
        go_roundw
        case rel =>
          obtain ⟨hK5, hC, b4, g5⟩ := H9.out
          exact ⟨j + 1, by omega, by go_num, hK5, (hC.trans (Chg.of_below b4 _)).trans g5⟩
        case measure => simp [intOf]; omega
    · obtain rfl : j = n := by omega
      have htt : ks.take j = ks := List.take_of_length_le (by rw [HRW.out.1]; exact Nat.le_refl _)
      rw [htt] at hK
      obtain ⟨w1, hc, hE, g1, z1⟩ := hd.clear mapT
      have ho1 := ho.over g1 HH.out.pd
      have f0 := Has.free ho1 0
      have f1 := Has.free ho1 1
      have d0 := Has.at_ ho1 0
      have d1 := Has.at_ ho1 1
      have HO := Lib.hid ho1
      have HE := Lib.hid hE
      have HK := Lib.hid (hK.over g1 HH.out.apart)
      have HG := Lib.hid (And.intro hC g1)
      simp at d0 d1
      clear ho hd hE ho1 g1 z1 hK hC htt
      go_wp2
      go_ret
      have h := HH.out
      have hc2 : Chg (· = p) w1 ((w1.setCell ⟨p, 0, none⟩ (.bool false)).setCell ⟨p, 1, none⟩ (.int .i64 (-1))) := ((Chg.refl (· = p) w1).setCell (p := ⟨p, 0, none⟩) (.inl rfl) _).setCell (p := ⟨p, 1, none⟩) (.inl rfl) _
      refine ⟨rfl, ⟨Has.put (Has.put HO.out 0 _) 1 _, HK.out.over hc2 (fun k => h.pk k.symm), HE.out.over hc2 (fun k => h.pd k.symm), h.apart, h.pk, h.pd, h.lo, h.hi, by show (-1 : Int) ≤ -1; decide, by show (-1 : Int) ≤ _; decide⟩, ?_⟩
      exact ((HG.out.1.mono (fun k hk => .inr (.inl hk))).trans (HG.out.2.mono (fun k hk => .inr (.inr hk)))).trans (hc2.mono (fun k hk => .inl hk))
end Go.Proofs.YthejlenafjnmkaaGreat.Dv
