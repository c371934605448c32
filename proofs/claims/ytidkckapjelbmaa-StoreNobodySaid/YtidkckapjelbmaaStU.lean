/- How many blocks are free: contract of Free. -/
import Derived.Test.YtidkckapjelbmaaStT
namespace Go.Proofs.Ytidkckapjelbmaa.Sto
open Go.RowKit
open Oct (Has Chg)
open Rws
open Mem (IMap Rng cntLeft)

def keyZ : Value → Int
  | .int _ z => z
  | _ => 0
/-- What lies in a map, as a row of numbers. -/
theorem map_keys {w : World} {b : Nat} {m : Int → Option Value} (h : IMap w b m) : ∃ es c, w.heap[b]? = some (.map es c) ∧ ∃ ks : List Int, es.size = ks.length ∧ ks.Nodup ∧ ∀ z, z ∈ ks ↔ (m z).isSome = true := by
  obtain ⟨es, c, h1, h2, h3⟩ := h
  have e : es.toList.map (·.key) = (es.toList.map fun x => keyZ x.key).map (Value.int .i64) := by
    rw [List.map_map]
    refine List.map_congr_left fun x hx => ?_
    obtain ⟨z, hz⟩ := h2.keys x hx
    simp [hz, keyZ]
  refine ⟨es, c, h1, es.toList.map fun x => keyZ x.key, by simp, ?_, fun z => ?_⟩
  · have hn := h2.once
    rw [e] at hn
    exact List.Pairwise.imp (fun h k => h (by rw [k])) (List.pairwise_map.1 hn)
  · rw [← h3 z]
    constructor
    · intro hz
      obtain ⟨x, hx, hk⟩ := List.mem_map.1 hz
      obtain ⟨y, hy⟩ := h2.keys x hx
      rw [hy] at hk
      have hk : y = z := hk
      subst hk
      rw [Mem.mget_mem h2.once hx hy]
      rfl
    · intro hz
      rcases Mem.find_at h2 z with ⟨_, f2, _⟩ | ⟨j, x, _, f4, f5, _⟩
      · rw [f2] at hz; cases hz
      · exact List.mem_map.2 ⟨x, List.mem_of_getElem? f4, by rw [f5]; rfl⟩
theorem keptM_some (f : Int → Bool) (z : Int) : (keptM f z).isSome = f z := by
  unfold keptM
  split
  · rename_i h
    rw [h]
    rfl
  · rename_i h
    simp at h
    rw [h]
    rfl
theorem thereM_some (F : Fr) (f : Int → Option NodeV) (z : Int) : (thereM F f z).isSome = (f z).isSome := by
  unfold thereM
  cases f z <;> rfl
/-- What Free answers. -/
def FreeIs (s : SV) (e : Ending) : Prop := ∃ ks ls : List Int, ks.Nodup ∧ (∀ z, z ∈ ks ↔ (s.nodes z).isSome = true) ∧ ls.Nodup ∧ (∀ z, z ∈ ls ↔ s.kept z = true ∧ (s.nodes z).isSome = false) ∧
  e = .returned (.int .i64 (wrap64 ((s.dev.size : Int) - 2 - ks.length - ls.length)))
set_option maxRecDepth 100000 in
set_option maxHeartbeats 4000000 in
theorem free_any (p : Nat) (F : Fr) (s : SV) (w : World) (h : StoIs w p F s) :
    Calls Try.prog 12 #[.pointer (some ⟨p, 0, none⟩)] w fun e w' => FreeIs s e ∧ Below w.heap.size w w' := by
  have HM := Lib.hid (made_sto p F s w h)
  have HH := Lib.hid h
  obtain ⟨es, c, hmap, ks, hsz, hnd, hks⟩ := map_keys h.there
  have HKS := Lib.hid (show ks.Nodup ∧ ∀ z, z ∈ ks ↔ (s.nodes z).isSome = true from ⟨hnd, fun z => by rw [hks z, thereM_some]⟩)
  have c3 := Has.at_ h.obj 3
  have c4 := Has.at_ h.obj 4
  simp at c3 c4
  have hlen : ∀ ty, (Builtin.len_ #[52] ty #[.map (some F.t)]).run Try.prog w.drew = .ok (goInt ks.length) w.drew := fun ty => by
    rw [← hsz]
    exact run_len_map w.drew _ ty F.t es c (by have := mapN; simp [Program.mapKeyOf, Program.mapElemOf, this]) hmap
  have HSZ := Lib.hid (fun W (hW : StoIs W p F s) => size_dev F.d F.dk F.dd s.dev W hW.dev)
  have c5 := Has.at_ h.obj 5
  simp at c5
  obtain ⟨w2, hr, hR, hB, hz⟩ := (h.kept.drew).range mapK
  have hr : (Instr.range 53 (.map (some F.k))).run Try.prog w.drew = .ok (.pointer (some ⟨w.heap.size, 0, none⟩)) w2 := hr
  have HR := Lib.hid (show Rng w2 F.k w.heap.size (keptM s.kept) _ from hR)
  have HB := Lib.hid (show Below w.heap.size w w2 from ⟨hB.os, hB.tape, hB.output, hB.size, hB.block⟩)
  have HZ := Lib.hid (show w2.heap.size = w.heap.size + 1 from hz)
  clear h hnd hks hmap hsz hR hB hz
  go_enter Try.func12, Try.ntmps12
  go_wp2_with fail
  refine HM.out.mono ?_
  rintro e w' ⟨rfl, rfl⟩
  go_wp2_with fail
  go_region_with (refine (HSZ.out _ (HH.out.below ((Below.refl _ _).drew))).mono ?_; rintro e w' ⟨rfl, rfl⟩)
  all_goals go_wp2_with fail
  all_goals
    go_loopw [3] (fun v wr => ∃ (left : Int → Prop) (ls : List Int), v = .int .i64 (wrap64 ((s.dev.size : Int) - 2 - ks.length - ls.length)) ∧ Hid (Rng wr F.k w.heap.size (keptM s.kept) left) ∧ Hid (ls.Nodup ∧ ∀ z, z ∈ ls ↔ s.kept z = true ∧ (s.nodes z).isSome = false ∧ ¬ left z) ∧ Hid (Below w.heap.size w wr)) (fun _ wr => cntLeft wr F.k w.heap.size)
    case atStart => exact ⟨_, [], congrArg (Value.int .i64) (by rw [List.length_nil]; unfold wrap64; omega), HR, Lib.hid ⟨List.nodup_nil, fun z => ⟨(fun h => by cases h), fun ⟨a, _, c⟩ => absurd (by rw [keptM_some]; exact a) c⟩⟩, HB⟩
    case round =>
      obtain ⟨left, ls, rfl, HRg, HLS, HBW⟩ := hrel
      rcases HRg.out.next (P := Try.prog) with ⟨hno, hnx⟩ | ⟨z, v, w3, hm, hl, hnx, hen, hR3, g3, z3, hlt⟩
      · have HNO := Lib.hid hno
        clear hno
        go_wp2
        go_ret
        exact ⟨⟨ks, ls, HKS.out.1, HKS.out.2, HLS.out.1, fun z => ⟨fun h => ⟨((HLS.out.2 z).1 h).1, ((HLS.out.2 z).1 h).2.1⟩, fun h => (HLS.out.2 z).2 ⟨h.1, h.2, HNO.out z⟩⟩, rfl⟩, HBW.out⟩
      · have HB3 := Lib.hid (below_chg HBW.out (HBW.out.size) (Oct.Chg.of g3) (fun k hk => by rw [hk]; exact Nat.le_refl _))
        have HS := Lib.hid (has_sto p F s z w3 (HH.out.below HB3.out))
        have HR3 := Lib.hid hR3
        have HLT := Lib.hid hlt
        have HL := Lib.hid hl
        have HKZ := Lib.hid (show s.kept z = true by have h := keptM_some s.kept z; rw [hm] at h; exact h.symm)
        clear hR3 g3 z3 hlt hl hm HRg HBW
        cases hq : (s.nodes z).isSome with
        | true =>
          rw [hq] at HS
          have HLS3 := Lib.hid (show ls.Nodup ∧ ∀ y, y ∈ ls ↔ s.kept y = true ∧ (s.nodes y).isSome = false ∧ ¬ (left y ∧ y ≠ z) from ⟨HLS.out.1, fun y => by
            rw [HLS.out.2 y]
            constructor
            · rintro ⟨a, b, c⟩
              exact ⟨a, b, fun k => c k.1⟩
            · rintro ⟨a, b, c⟩
              refine ⟨a, b, fun k => c ⟨k, ?_⟩⟩
              rintro rfl
              rw [hq] at b
              cases b⟩)
          clear hq HLS
          go_wp2_with fail
          refine HS.out.mono ?_
          rintro e w' ⟨rfl, rfl⟩
          go_wp2
          go_roundw
          case rel => exact ⟨_, ls, rfl, HR3, HLS3, HB3⟩
          case measure => exact HLT.out
        | false =>
          rw [hq] at HS
          have HLS3 := Lib.hid (show (z :: ls).Nodup ∧ ∀ y, y ∈ z :: ls ↔ s.kept y = true ∧ (s.nodes y).isSome = false ∧ ¬ (left y ∧ y ≠ z) from ⟨List.nodup_cons.2 ⟨fun k => ((HLS.out.2 z).1 k).2.2 HL.out, HLS.out.1⟩, fun y => by
            rw [List.mem_cons, HLS.out.2 y]
            constructor
            · rintro (e | ⟨a, b, c⟩)
              · rw [e]
                exact ⟨HKZ.out, hq, fun k => k.2 rfl⟩
              · exact ⟨a, b, fun k => c k.1⟩
            · rintro ⟨a, b, c⟩
              by_cases e : y = z
              · exact .inl e
              · exact .inr ⟨a, b, fun k => c ⟨k, e⟩⟩⟩)
          clear hq HLS
          go_wp2_with fail
          refine HS.out.mono ?_
          rintro e w' ⟨rfl, rfl⟩
          go_wp2
          go_roundw
          case rel => exact ⟨_, z :: ls, congrArg (Value.int .i64) (by rw [List.length_cons]; unfold wrap64; omega), HR3, HLS3, HB3⟩
          case measure => exact HLT.out
end Go.Proofs.Ytidkckapjelbmaa.Sto
