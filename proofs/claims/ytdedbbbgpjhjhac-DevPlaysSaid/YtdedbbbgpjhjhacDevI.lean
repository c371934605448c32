/- A device once more: contracts of maps.Clone and Clone. -/
import Derived.Test.YtdedbbbgpjhjhacDevWFuse
import Derived.Shelf.SlMaps.Clone
import Derived.Deep.RegionHeld3
import Derived.Laws.AppendOwn
import Derived.Maps.AppendAt
namespace Go.Proofs.Ytdedbbbgpjhjhac.Dv
open Go.RowKit
open Mem
open Rws

theorem clone_fn : Try.prog.funcs[52]? = some Try.f52 := by kernel_rfl
set_option maxRecDepth 100000 in
theorem clone_map (b : Nat) (m : Int → Option Value) (w : World) (h : IMap w b m) :
    Calls Try.prog 45 #[.map (some b)] w fun e w' => e = .returned (.map (some w.heap.size)) ∧ IMap w' w.heap.size m ∧ Below w.heap.size w w' ∧ w'.heap.size = w.heap.size + 1 := by
  obtain ⟨es, c, h1, h2, h3⟩ := h
  have hq := fun w => run_eql_map_nil_sl (P := Try.prog) w 67 _ _ (some b) mapT
  have H23 := Lib.hid (And.intro h2 h3)
  clear h2 h3
  go_enter Try.func45, Try.ntmps45
  go_wp2
  rw [run_callFunc_extern clone_fn (by kernel_rfl) (by kernel_rfl) (by kernel_rfl) (e := Extern.MapsClone.clone) (by kernel_rfl), run_maps_clone_sl w 67 h1]
  simp only [Result.andThen]
  rw [Oper.upon_value]
  go_wp2
  rw [run_typeAssert_map_sl _ 67 _ _ _ _ mapT]
  simp only [Result.andThen]
  rw [Oper.upon_value]
  go_wp2
  go_ret
  exact ⟨rfl, ⟨es, c, Array.getElem?_push_size, H23.out.1, H23.out.2⟩, (Below.refl _ _).alloc (Nat.le_refl _) _, by simp⟩
theorem size_all (p bk bd : Nat) (d : St) (w : World) (h : DevIs w p bk bd d) :
    Calls Try.prog 20 #[.pointer (some ⟨p, 0, none⟩)] w fun e w' => e = .returned (.int .i64 d.size) ∧ w = w' := by
  have HM := Lib.hid (made_any p bk bd d w h)
  have c2 := Has.at_ h.obj 2
  simp at c2
  clear h
  go_enter Try.func20, Try.ntmps20
  go_wp2_with fail
  refine HM.out.mono ?_
  rintro e w' ⟨rfl, rfl⟩
  go_wp2
  go_ret
  exact ⟨rfl, rfl⟩
set_option maxRecDepth 100000 in
set_option maxHeartbeats 2000000 in
theorem clone_all (p bk bd : Nat) (d : St) (w : World) (h : DevIs w p bk bd d) :
    Calls Try.prog 25 #[.pointer (some ⟨p, 0, none⟩)] w fun e w' => e = .returned (.pointer (some ⟨w.heap.size, 0, none⟩)) ∧ DevIs w' w.heap.size (w.heap.size + 1) (w.heap.size + 2) d ∧ Below w.heap.size w w' := by
  have HM := Lib.hid (made_any p bk bd d w h)
  have c0 := Has.at_ h.obj 0
  have c1 := Has.at_ h.obj 1
  have c2 := Has.at_ h.obj 2
  have c3 := Has.at_ h.obj 3
  have c4 := Has.at_ h.obj 4
  simp at c0 c1 c2 c3 c4
  have HH := Lib.hid h
  clear h
  go_enter Try.func25, Try.ntmps25
  go_wp2_with fail
  refine HM.out.mono ?_
  rintro e w' ⟨rfl, rfl⟩
  obtain ⟨W1, hW1⟩ : ∃ W1 : World, W1 = w.alloc (.cells #[.bool d.on, .int .i64 d.fuse, .int .i64 d.size, .map (some bk), .map (some bd)] 69) := ⟨_, rfl⟩
  have b1 : Below w.heap.size w W1 := by rw [hW1]; exact (Below.refl _ w).alloc (Nat.le_refl _) _
  have hq : Has W1 w.heap.size 69 #[.bool d.on, .int .i64 d.fuse, .int .i64 d.size, .map (some bk), .map (some bd)] := by rw [hW1]; exact Has.fresh w _ _
  have z1 : W1.heap.size = w.heap.size + 1 := by rw [hW1]; simp
  have ho := HH.out.obj.below b1
  have hk := HH.out.kept.below b1
  have hdd := HH.out.dirt.below b1
  go_wp2
  rw [← hW1]
  clear hW1 c0 c1 c2 c3 c4
  have ho := Has.drew ho
  have hq := Has.drew hq
  have HK := Lib.hid hk.drew
  have HD := Lib.hid hdd.drew
  have g : Below W1.heap.size W1.drew W1.drew := Below.refl _ _
  have hpq : p ≠ w.heap.size := Nat.ne_of_lt HH.out.obj.bound
  clear hk hdd
  go_region_held3 (fun w' => w'.cell? ⟨p, 3, none⟩ = some (.map (some bk)) ∧ w'.cell? ⟨p, 4, none⟩ = some (.map (some bd))) (first | exact ⟨Has.at_ ho 3, Has.at_ ho 4⟩ | exact ⟨Has.at_ (Has.keep ho hpq _) 3, Has.at_ (Has.keep ho hpq _) 4⟩ | exact ⟨Has.at_ (Has.keep (Has.keep ho hpq _) hpq _) 3, Has.at_ (Has.keep (Has.keep ho hpq _) hpq _) 4⟩) (first | (go_at_call 45; first | (have hm2 := hm1; refine (clone_map bd _ _ (HD.out.below g)).mono ?_; rintro e w' ⟨rfl, hm3, hb, zz2⟩; replace hm1 := hm2.below hb; clear hm2; replace ho := ho.below hb; replace hq := hq.below hb; replace g := g.trans (hb.mono g.size); clear hb; have fq3 := Has.free hq 3; have fq4 := Has.free hq 4; have cq3 := Has.at_ hq 3; have cq4 := Has.at_ hq 4; simp at cq3 cq4) | (refine (clone_map bk _ _ (HK.out.below g)).mono ?_; rintro e w' ⟨rfl, hm1, hb, zz1⟩; replace ho := ho.below hb; replace hq := hq.below hb; replace g := g.trans (hb.mono g.size); clear hb)))
  go_wp2
  go_ret
  have h := HH.out
  have hc : Chg (· = w.heap.size) w' ((w'.setCell ⟨w.heap.size, 3, none⟩ (.map (some (w.heap.size + 1)))).setCell ⟨w.heap.size, 4, none⟩ (.map (some (w.heap.size + 1 + 1)))) := ((Chg.refl (· = w.heap.size) w').setCell (p := ⟨w.heap.size, 3, none⟩) (.inl rfl) _).setCell (p := ⟨w.heap.size, 4, none⟩) (.inl rfl) _
  refine ⟨rfl, ⟨Has.put (Has.put hq 3 _) 4 _, ?_, ?_, by omega, by omega, by omega, h.lo, h.hi, h.least, h.most⟩, ?_⟩
  · have e : W1.drew.heap.size = w.heap.size + 1 := z1
    rw [e] at hm1
    exact hm1.over hc (by omega)
  · have e : W1.drew.heap.size = w.heap.size + 1 := z1
    rw [zz1, e] at hm3
    exact hm3.over hc (by omega)
  · have g1 : Below w.heap.size w w' := (Below.drew b1).trans (g.mono (Nat.le_trans b1.size (Nat.le_refl _)))
    exact g1.trans (hc.below g1.size (fun k hk hh => by omega))
/-- What a device has, with power. -/
def bl (d : St) : List ByteArray := (List.range d.size).map fun i => readS (startD d) (i : Nat)
theorem bl_len (d : St) : (bl d).length = d.size := by simp [bl]
theorem info_s : (Try.prog.info? 9).map (fun i => (i.zero, i.size, i.bytes)) = some (some (.string ⟨#[]⟩), 1, 16) := by kernel_rfl
def Strs (w : World) (B : Nat) (v : Value) (l : List ByteArray) : Prop := w.ownsRow B 9 1 v l.length (l.map Value.string)
theorem start_on (d : St) : (startD d).on = true := by
  unfold startD
  split
  · next h => exact h
  · rfl
theorem start_size (d : St) : (startD d).size = d.size := by
  unfold startD
  split <;> rfl
theorem rd_start (d : St) (i : Nat) (h : i < d.size) : rdS (startD d) i = readS (startD d) i := by
  have h1 : inside (startD d) i = true := by
    unfold inside
    rw [start_size, decide_eq_true (by omega), decide_eq_true (by omega)]
    decide
  exact if_pos ⟨start_on d, h1⟩
theorem own_mono {w : World} {B C : Nat} {e : TypeId} {v : Value} {n : Nat} {xs : List Value} (h : w.ownsRow C e 1 v n xs) (hb : B ≤ C) : w.ownsRow B e 1 v n xs := by
  obtain ⟨hl, h⟩ := h
  refine ⟨hl, ?_⟩
  rcases h with h | ⟨g, c, cur, e, hB, hr⟩
  · exact .inl h
  · exact .inr ⟨g, c, cur, e, Nat.le_trans hb hB, hr⟩
set_option maxRecDepth 100000 in
set_option maxHeartbeats 2000000 in
theorem blocks_any (p bk bd : Nat) (d : St) (w : World) (h : DevIs w p bk bd d) :
    Calls Try.prog 27 #[.pointer (some ⟨p, 0, none⟩)] w fun e w' => ∃ v, e = .returned v ∧ Strs w' w.heap.size v (bl d) ∧ Below w.heap.size w w' := by
  obtain ⟨i0, hi, hz0, hz1, hz2⟩ := info_parts info_s
  have HI := Lib.hid (And.intro hi (And.intro hz0 (And.intro hz1 hz2)))
  clear hi hz0 hz1 hz2
  have HH := Lib.hid h
  clear h
  go_enter Try.func27, Try.ntmps27
  go_wp2_with fail
  refine (clone_all p bk bd d _ HH.out).mono ?_
  rintro e w1 ⟨rfl, h1, b1⟩
  have H1 := Lib.hid h1
  have B1 := Lib.hid b1
  clear h1 b1
  go_wp2_with fail
  refine (start_any _ _ _ d _ H1.out).mono ?_
  rintro e w2 ⟨rfl, h2, g2, z2⟩
  have H2 := Lib.hid h2
  have B2 := Lib.hid (B1.out.trans (g2.below B1.out.size (fun k hk hh => by rcases hh with hh | hh | hh <;> omega)))
  clear h2 g2 z2
  go_wp2_with fail
  refine (size_all p bk bd d _ (HH.out.below B2.out)).mono ?_
  rintro e w' ⟨rfl, rfl⟩
  have hhi := HH.out.hi
  go_wp2
  go_loopw [4, 14] (fun v i wr => ∃ j : Nat, j ≤ d.size ∧ i = .int .i64 j ∧ Strs wr w2.heap.size v ((bl d).take j) ∧ Below w2.heap.size w2 wr) (fun _ i _ => d.size - (intOf i).toNat)
  case atStart => exact ⟨0, Nat.zero_le _, rfl, World.ownsRow_nil _ _ _ _, Below.refl _ _⟩
  case round =>
    obtain ⟨j, hj, rfl, ho, hb⟩ := hrel
    have HB := Lib.hid hb
    by_cases hlt : j < d.size
    · have hr := read_all w.heap.size (w.heap.size + 1) (w.heap.size + 2) (startD d) (j : Int) _ (H2.out.below hb)
      rw [rd_start d j hlt] at hr
      have hnx : (bl d).take (j + 1) = (bl d).take j ++ [readS (startD d) (j : Nat)] := by
        rw [List.take_succ_eq_append_getElem (by rw [bl_len]; exact hlt)]
        simp [bl]
      have hlen : ((bl d).take j).length = j := by rw [List.length_take, bl_len]; omega
      have HR := Lib.hid hr
      have HN := Lib.hid hnx
      have HO := Lib.hid ho
      have HL := Lib.hid (show ((bl d).take j).length ≤ 4096 by omega)
      clear hr hnx ho hlen hb
      generalize (bl d).take j = L at *
      generalize readS (startD d) (j : Nat) = t at *
      go_wp2_with fail
      refine HR.out.mono ?_
      rintro e w3 ⟨rfl, b3⟩
      have HO3 := Lib.hid (show w3.ownsRow w2.heap.size 9 1 _ L.length (L.map Value.string) from World.ownsRow.kept HO.out (row := none) ⟨b3.os, b3.tape, b3.output, b3.size, fun k hk _ => b3.block k hk⟩ (by cases (Value.ownBlock _) <;> simp))
      have HB3 := Lib.hid (HB.out.trans (b3.mono HB.out.size))
      have hk4 := Lib.hid (fun (x : Value) => show w2.heap.size ≤ (w3.alloc (.cells #[x] 9)).heap.size by have h1 := HB3.out.size; simp; omega)
      have hk2 := Lib.hid (show L.length + 1 ≤ maxLen by have := HL.out; unfold maxLen; omega)
      have hk3 := Lib.hid (show (L.length + 1) * 16 ≤ 140737488355328 by have := HL.out; omega)
      have hk1 := Lib.hid (show ∀ u ∈ [Value.string t], u.oneCell' = true by intro u hu; rw [List.mem_singleton.1 hu]; rfl)
      clear HR b3 HO
      go_wp2_with (at_builtin; (refine wpList_append_own (w3.alloc (.cells #[.string t] 9)) rfl (.tmp 23) (.tmp 25) _ rfl w2.heap.size 9 i0 (.string ⟨#[]⟩) 1 16 Try.underlying42 HI.out.1 HI.out.2.1 HI.out.2.2.1 HI.out.2.2.2 rfl (by decide) _ L.length (L.map Value.string) rfl (World.ownsRow.alloc HO3.out _) ⟨w3.heap.size, 0, none⟩ 1 1 [.string t] rfl rfl (cell_one_new _ _ _) hk1.out hk2.out hk3.out (hk4.out _) ?_))
      intro v2 w4 o4 b4 _
      go_wp2
      go_roundw
      case rel =>
        refine ⟨j + 1, by omega, by go_num, ?_, ?_⟩
        · rw [HN.out]
          unfold Strs
          rw [List.length_append, List.map_append]
          exact o4
        · exact (HB3.out.alloc HB3.out.size _).grown b4 (hk4.out _) (fun q hq => (World.ownsRow.lt HO3.out q hq).1)
      case measure => simp [intOf]; omega
    · obtain rfl : j = d.size := by omega
      have htt : (bl d).take d.size = bl d := List.take_of_length_le (by rw [bl_len]; exact Nat.le_refl _)
      rw [htt] at ho
      have HO := Lib.hid ho
      clear ho htt hb
      go_wp2
      go_ret
      exact ⟨_, rfl, own_mono HO.out B2.out.size, B2.out.trans (HB.out.mono B2.out.size)⟩
end Go.Proofs.Ytdedbbbgpjhjhac.Dv
