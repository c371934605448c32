/- The document's own device: what was written. -/
import Derived.Test.YtdedbbbgpjhjhacDevT
namespace Go.Proofs.Ytdedbbbgpjhjhac.Dv
open Go.RowKit
open Mem
open Rws

theorem info_i : (Try.prog.info? 3).map (fun i => (i.zero, i.size, i.bytes)) = some (some (.int .i64 0), 1, 8) := by kernel_rfl
/-- Those below j. -/
def DirtyTo (d : St) (j : Nat) (l : List Int) : Prop := l.Pairwise (· < ·) ∧ ∀ z, z ∈ l ↔ (0 ≤ z ∧ z < (j : Int) ∧ (d.dirty z).isSome = true)
theorem dirtyTo_len {d : St} {j : Nat} {l : List Int} (h : DirtyTo d j l) : l.length ≤ j :=
  nodup_len j l (h.1.imp fun hab e => by omega) fun z hz => ⟨((h.2 z).1 hz).1, ((h.2 z).1 hz).2.1⟩
theorem dirtyTo_in {d : St} {j : Nat} {l : List Int} (h : DirtyTo d j l) (hj : (d.dirty (j : Int)).isSome = true) : DirtyTo d (j + 1) (l ++ [(j : Int)]) := by
  refine ⟨List.pairwise_append.2 ⟨h.1, by simp, fun a ha b hb => ?_⟩, fun z => ?_⟩
  · rw [List.mem_singleton.1 hb]
    exact ((h.2 a).1 ha).2.1
  · rw [List.mem_append, List.mem_singleton, h.2]
    constructor
    · rintro (k | rfl)
      · exact ⟨k.1, by have := k.2.1; omega, k.2.2⟩
      · exact ⟨by omega, by omega, hj⟩
    · rintro ⟨k1, k2, k3⟩
      by_cases hz : z = (j : Int)
      · exact .inr hz
      · exact .inl ⟨k1, by omega, k3⟩
theorem dirtyTo_out {d : St} {j : Nat} {l : List Int} (h : DirtyTo d j l) (hj : d.dirty (j : Int) = none) : DirtyTo d (j + 1) l := by
  refine ⟨h.1, fun z => ?_⟩
  rw [h.2]
  constructor
  · exact fun k => ⟨k.1, by have := k.2.1; omega, k.2.2⟩
  · rintro ⟨k1, k2, k3⟩
    refine ⟨k1, ?_, k3⟩
    by_cases hz : z = (j : Int)
    · rw [hz, hj] at k3; cases k3
    · omega
theorem dirtyTo_all {d : St} {l : List Int} (h : DirtyTo d d.size l) (hi : InD d) : DirtyL d l :=
  ⟨h.1, fun z => ⟨fun k => ((h.2 z).1 k).2.2, fun k => (h.2 z).2 ⟨(hi z k).1, (hi z k).2, k⟩⟩⟩
set_option maxRecDepth 100000 in
set_option maxHeartbeats 2000000 in
theorem rdirty_any (p a b c : Nat) (d : St) (w : World) (h : RefIs w p a b c d) (hin : InD d) :
    Calls Try.prog 19 #[.pointer (some ⟨p, 0, none⟩)] w fun e w' => ∃ v l, e = .returned v ∧ DirtyL d l ∧ Ints w' w.heap.size v l ∧ Below w.heap.size w w' := by
  obtain ⟨i0, hi, hz0, hz1, hz2⟩ := info_parts info_i
  have HI := Lib.hid (And.intro hi (And.intro hz0 (And.intro hz1 hz2)))
  clear hi hz0 hz1 hz2
  have c2 := Has.at_ h.obj 2
  simp at c2
  have HH := Lib.hid h
  have HN := Lib.hid hin
  have hsz := h.hi
  clear h hin
  go_enter Try.func19, Try.ntmps19
  go_wp2
  go_loopw [3, 10] (fun v i wr => ∃ (j : Nat) (l : List Int), j ≤ d.size ∧ i = .int .i64 j ∧ DirtyTo d j l ∧ Ints wr w.heap.size v l ∧ Below w.heap.size w wr) (fun _ i _ => d.size - (intOf i).toNat)
  case atStart => exact ⟨0, [], Nat.zero_le _, rfl, ⟨List.Pairwise.nil, fun z => ⟨(fun k => by cases k), (fun k => by omega)⟩⟩, World.ownsRow_nil _ _ _ _, Below.refl _ _⟩
  case round =>
    obtain ⟨j, l, hj, rfl, hl, ho, hb⟩ := hrel
    have HB := Lib.hid hb
    have HR := Lib.hid (HH.out.below hb)
    have HL := Lib.hid hl
    have HO := Lib.hid ho
    have HLn := Lib.hid (show l.length ≤ 4096 from Nat.le_trans (dirtyTo_len hl) (by omega))
    have c2 := Has.at_ HR.out.obj 2
    simp at c2
    clear hl ho hb
    by_cases hlt : j < d.size
    · have cc := (Has.at_ HR.out.is_ j).trans (mk_get _ _ j hlt)
      cases hq : d.dirty (j : Int) with
      | none =>
        rw [hq] at cc
        simp only [Option.isSome_none] at cc
        have HD := Lib.hid (dirtyTo_out HL.out hq)
        clear hq
        go_wp2
        go_roundw
        case rel => exact ⟨j + 1, l, by omega, by go_num, HD.out, HO.out, HB.out⟩
        case measure => simp [intOf]; omega
      | some s =>
        rw [hq] at cc
        simp only [Option.isSome_some] at cc
        have HD := Lib.hid (dirtyTo_in HL.out (by rw [hq]; rfl))
        have hk4 := Lib.hid (fun (x : Value) => show w.heap.size ≤ (wr.alloc (.cells #[x] 3)).heap.size by have h1 := HB.out.size; simp; omega)
        have hk2 := Lib.hid (show l.length + 1 ≤ maxLen by have := HLn.out; unfold maxLen; omega)
        have hk3 := Lib.hid (show (l.length + 1) * 8 ≤ 140737488355328 by have := HLn.out; omega)
        have hk1 := Lib.hid (show ∀ u ∈ [Value.int .i64 (j : Int)], u.oneCell' = true by intro u hu; rw [List.mem_singleton.1 hu]; rfl)
        clear hq
        go_wp2_with (at_builtin; (refine wpList_append_own (wr.alloc (.cells #[.int .i64 (j : Int)] 3)) rfl (.tmp 20) (.tmp 22) _ rfl w.heap.size 3 i0 (.int .i64 0) 1 8 Try.underlying32 HI.out.1 HI.out.2.1 HI.out.2.2.1 HI.out.2.2.2 rfl (by decide) _ l.length (l.map (Value.int .i64)) rfl (World.ownsRow.alloc HO.out _) ⟨wr.heap.size, 0, none⟩ 1 1 [.int .i64 (j : Int)] rfl rfl (cell_one_new _ _ _) hk1.out hk2.out hk3.out (hk4.out _) ?_))
        intro v2 w4 o4 b4 _
        go_wp2
        go_roundw
        case rel =>
          refine ⟨j + 1, l ++ [(j : Int)], by omega, by go_num, HD.out, ?_, ?_⟩
          · unfold Ints
            rw [List.length_append, List.map_append]
            exact o4
          · exact (HB.out.alloc HB.out.size _).grown b4 (hk4.out _) (fun q hq => (World.ownsRow.lt HO.out q hq).1)
        case measure => simp [intOf]; omega
    · obtain rfl : j = d.size := by omega
      clear hlt hj
      go_wp2
      go_ret
      exact ⟨_, l, rfl, dirtyTo_all HL.out HN.out, HO.out, HB.out⟩
end Go.Proofs.Ytdedbbbgpjhjhac.Dv
