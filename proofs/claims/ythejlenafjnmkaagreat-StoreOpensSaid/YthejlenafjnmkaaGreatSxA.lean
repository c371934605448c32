/- Clones of devices; what was written since; what is there: contracts. -/
import Derived.Test.YthejlenafjnmkaaGreatT13
import Derived.Shelf.SlMaps.Clone
import Derived.Deep.RegionHeld3
import Derived.Laws.AppendOwn
import Derived.Maps.AppendAt
import Derived.Shelf.SlIterI.Nil
import Derived.Shelf.SortM.Plain
import Derived.Shelf.SortM.SortNone
namespace Go.Proofs.YthejlenafjnmkaaGreat.Dv
open Go.RowKit
open Mem
open Rws
set_option linter.unusedVariables false

theorem own_mono {w : World} {B C : Nat} {e : TypeId} {v : Value} {n : Nat} {xs : List Value} (h : w.ownsRow C e 1 v n xs) (hb : B ≤ C) : w.ownsRow B e 1 v n xs := by
  obtain ⟨hl, h⟩ := h
  refine ⟨hl, ?_⟩
  rcases h with h | ⟨g, c, cur, e, hB, hr⟩
  · exact .inl h
  · exact .inr ⟨g, c, cur, e, Nat.le_trans hb hB, hr⟩
end Go.Proofs.YthejlenafjnmkaaGreat.Dv
namespace Go.Proofs.YthejlenafjnmkaaGreat.Dv
open Go.RowKit Go.Maps Go.Sort Go.Shelf
open Go.WideElems (Fit rd rg rd_mk rg_of)
open Mem
open Rws
set_option linter.unusedVariables false

def keysB_ren : Go.Shelf.Ren := ⟨fun | 7 => 82 | 10 => 103 | n => n, fun | 23 => 85 | 26 => 3 | 3 => 110 | 28 => 130 | 0 => 0 | 27 => 129 | 33 => 99 | 4 => 4 | n => n, fun | n => n⟩
theorem keysB : Go.Proofs.SlLaysZI.n7 Tryz.prog keysB_ren where
  mixed := by kernel_rfl
  f7 := ⟨ "maps.Keys[map[int]*crannog/store.node,int,*crannog/store.node]", by decide, Tryz.func82.trans (congrArg some (by kernel_rfl))⟩
  f10 := ⟨ "maps.Keys[map[int]*crannog/store.node,int,*crannog/store.node]$1", by decide, Tryz.func103.trans (congrArg some (by kernel_rfl))⟩
  t0 := Tryz.underlying0
  a0 := Tryz.isAgg0
  z0 := Tryz.sizeOf0
  v0 := Tryz.zeroValue0
  t4 := Tryz.underlying4
  a4 := Tryz.isAgg4
  z4 := Tryz.sizeOf4
  v4 := Tryz.zeroValue4
  t23 := Tryz.underlying85
  a23 := Tryz.isAgg85
  z23 := Tryz.sizeOf85
  v23 := Tryz.zeroValue85
  t26 := Tryz.underlying3
  a26 := Tryz.isAgg3
  z26 := Tryz.sizeOf3
  v26 := Tryz.zeroValue3
  t27 := Tryz.underlying129
  a27 := Tryz.isAgg129
  z27 := Tryz.sizeOf129
  v27 := Tryz.zeroValue129
  t28 := Tryz.underlying130
  a28 := Tryz.isAgg130
  z28 := Tryz.sizeOf130
  v28 := Tryz.zeroValue130
  t33 := Tryz.underlying99
  a33 := Tryz.isAgg99
  z33 := Tryz.sizeOf99
  v33 := Tryz.zeroValue99
def sortedA_ren : Go.Shelf.Ren := ⟨fun | 6 => 81 | 8 => 101 | 9 => 102 | 11 => 118 | 13 => 120 | 12 => 119 | 23 => 135 | 24 => 136 | 14 => 126 | 15 => 127 | 16 => 128 | 17 => 129 | 18 => 130 | 19 => 131 | 20 => 132 | 21 => 133 | 22 => 134 | 25 => 140 | 26 => 141 | 27 => 142 | 28 => 143 | 29 => 144 | 30 => 145 | 31 => 146 | n => n, fun | 26 => 3 | 28 => 130 | 24 => 40 | 0 => 0 | 3 => 3 | 37 => 60 | 48 => 173 | 50 => 144 | 4 => 4 | 40 => 167 | 39 => 166 | 45 => 121 | 5 => 5 | 9 => 9 | 51 => 178 | 55 => 182 | 57 => 184 | 58 => 185 | 33 => 99 | n => n, fun | n => n⟩
theorem sortedA : Go.Proofs.SlLaysZI.n6 Tryz.prog sortedA_ren where
  mixed := by kernel_rfl
  f6 := ⟨ "slices.Sorted[int]", by decide, Tryz.func81.trans (congrArg some (by kernel_rfl))⟩
  f8 := ⟨ "slices.Collect[int]", by decide, Tryz.func101.trans (congrArg some (by kernel_rfl))⟩
  f11 := ⟨ "slices.AppendSeq[[]int,int]", by decide, Tryz.func118.trans (congrArg some (by kernel_rfl))⟩
  t0 := Tryz.underlying0
  a0 := Tryz.isAgg0
  z0 := Tryz.sizeOf0
  v0 := Tryz.zeroValue0
  t24 := Tryz.underlying40
  a24 := Tryz.isAgg40
  z24 := Tryz.sizeOf40
  v24 := Tryz.zeroValue40
  t26 := Tryz.underlying3
  a26 := Tryz.isAgg3
  z26 := Tryz.sizeOf3
  v26 := Tryz.zeroValue3
  t28 := Tryz.underlying130
  a28 := Tryz.isAgg130
  z28 := Tryz.sizeOf130
  v28 := Tryz.zeroValue130
  i26 := by kernel_rfl
def sortA_ren : Go.Shelf.Ren := ⟨fun | 5 => 102 | 8 => 120 | 7 => 119 | 19 => 135 | 20 => 136 | 10 => 126 | 11 => 127 | 12 => 128 | 13 => 129 | 14 => 130 | 15 => 131 | 16 => 132 | 17 => 133 | 18 => 134 | 30 => 140 | 31 => 141 | 32 => 142 | 33 => 143 | 34 => 144 | 35 => 145 | 40 => 146 | n => n, fun | 23 => 40 | 25 => 3 | 3 => 3 | 32 => 60 | 22 => 40 | 0 => 0 | 44 => 173 | 46 => 144 | 4 => 4 | 36 => 167 | 35 => 166 | 41 => 121 | 5 => 5 | 9 => 9 | 53 => 178 | 57 => 182 | 63 => 184 | 64 => 185 | n => n, fun | n => n⟩
theorem sortA : Go.Proofs.SlLaysM.n5 Tryz.prog sortA_ren where
  mixed := by kernel_rfl
  f5 := ⟨ "slices.Sort[[]int,int]", by decide, Tryz.func102.trans (congrArg some (by kernel_rfl))⟩
  f7 := ⟨ "slices.pdqsortOrdered[int]", by decide, Tryz.func119.trans (congrArg some (by kernel_rfl))⟩
  f8 := Tryz.func120.trans (congrArg some (by kernel_rfl))
  f10 := ⟨ "slices.insertionSortOrdered[int]", by decide, Tryz.func126.trans (congrArg some (by kernel_rfl))⟩
  f11 := ⟨ "slices.heapSortOrdered[int]", by decide, Tryz.func127.trans (congrArg some (by kernel_rfl))⟩
  f12 := ⟨ "slices.breakPatternsOrdered[int]", by decide, Tryz.func128.trans (congrArg some (by kernel_rfl))⟩
  f13 := ⟨ "slices.choosePivotOrdered[int]", by decide, Tryz.func129.trans (congrArg some (by kernel_rfl))⟩
  f14 := ⟨ "slices.reverseRangeOrdered[int]", by decide, Tryz.func130.trans (congrArg some (by kernel_rfl))⟩
  f15 := ⟨ "slices.partialInsertionSortOrdered[int]", by decide, Tryz.func131.trans (congrArg some (by kernel_rfl))⟩
  f16 := ⟨ "cmp.Less[int]", by decide, Tryz.func132.trans (congrArg some (by kernel_rfl))⟩
  f17 := ⟨ "slices.partitionEqualOrdered[int]", by decide, Tryz.func133.trans (congrArg some (by kernel_rfl))⟩
  f18 := ⟨ "slices.partitionOrdered[int]", by decide, Tryz.func134.trans (congrArg some (by kernel_rfl))⟩
  f19 := Tryz.func135.trans (congrArg some (by kernel_rfl))
  f20 := Tryz.func136.trans (congrArg some (by kernel_rfl))
  f30 := ⟨ "slices.siftDownOrdered[int]", by decide, Tryz.func140.trans (congrArg some (by kernel_rfl))⟩
  f31 := Tryz.func141.trans (congrArg some (by kernel_rfl))
  f32 := Tryz.func142.trans (congrArg some (by kernel_rfl))
  f33 := ⟨ "slices.medianAdjacentOrdered[int]", by decide, Tryz.func143.trans (congrArg some (by kernel_rfl))⟩
  f34 := ⟨ "slices.medianOrdered[int]", by decide, Tryz.func144.trans (congrArg some (by kernel_rfl))⟩
  f35 := ⟨ "cmp.isNaN[int]", by decide, Tryz.func145.trans (congrArg some (by kernel_rfl))⟩
  f40 := ⟨ "slices.order2Ordered[int]", by decide, Tryz.func146.trans (congrArg some (by kernel_rfl))⟩
  t0 := Tryz.underlying0
  a0 := Tryz.isAgg0
  z0 := Tryz.sizeOf0
  v0 := Tryz.zeroValue0
  t3 := Tryz.underlying3
  a3 := Tryz.isAgg3
  z3 := Tryz.sizeOf3
  v3 := Tryz.zeroValue3
  t4 := Tryz.underlying4
  a4 := Tryz.isAgg4
  z4 := Tryz.sizeOf4
  v4 := Tryz.zeroValue4
  t5 := Tryz.underlying5
  a5 := Tryz.isAgg5
  z5 := Tryz.sizeOf5
  v5 := Tryz.zeroValue5
  t9 := Tryz.underlying9
  a9 := Tryz.isAgg9
  z9 := Tryz.sizeOf9
  v9 := Tryz.zeroValue9
  t22 := Tryz.underlying40
  a22 := Tryz.isAgg40
  z22 := Tryz.sizeOf40
  v22 := Tryz.zeroValue40
  t23 := Tryz.underlying40
  a23 := Tryz.isAgg40
  z23 := Tryz.sizeOf40
  v23 := Tryz.zeroValue40
  t25 := Tryz.underlying3
  a25 := Tryz.isAgg3
  z25 := Tryz.sizeOf3
  v25 := Tryz.zeroValue3
  t32 := Tryz.underlying60
  a32 := Tryz.isAgg60
  z32 := Tryz.sizeOf60
  v32 := Tryz.zeroValue60
  t35 := Tryz.underlying166
  a35 := Tryz.isAgg166
  z35 := Tryz.sizeOf166
  v35 := Tryz.zeroValue166
  t36 := Tryz.underlying167
  a36 := Tryz.isAgg167
  z36 := Tryz.sizeOf167
  v36 := Tryz.zeroValue167
  t41 := Tryz.underlying121
  a41 := Tryz.isAgg121
  z41 := Tryz.sizeOf121
  v41 := Tryz.zeroValue121
  t44 := Tryz.underlying173
  a44 := Tryz.isAgg173
  z44 := Tryz.sizeOf173
  v44 := Tryz.zeroValue173
  t46 := Tryz.underlying144
  a46 := Tryz.isAgg144
  z46 := Tryz.sizeOf144
  v46 := Tryz.zeroValue144
  t53 := Tryz.underlying178
  a53 := Tryz.isAgg178
  z53 := Tryz.sizeOf178
  v53 := Tryz.zeroValue178
  t57 := Tryz.underlying182
  a57 := Tryz.isAgg182
  z57 := Tryz.sizeOf182
  v57 := Tryz.zeroValue182
  t63 := Tryz.underlying184
  a63 := Tryz.isAgg184
  z63 := Tryz.sizeOf184
  v63 := Tryz.zeroValue184
  t64 := Tryz.underlying185
  a64 := Tryz.isAgg185
  z64 := Tryz.sizeOf185
  v64 := Tryz.zeroValue185
theorem sortsA (m : Nat) : AnyZI.SortsIn Tryz.prog sortedA_ren Fence.wide m :=
  ⟨fun blk off cap ss W hH hblk hsz => callsIn_wide.2 (AnyM.slices_Sort_int sortA blk off cap ss W hH hblk hsz), fun p cap W => callsIn_wide.2 (AnyM.slices_Sort_int_none sortA p cap W)⟩
theorem nodup_len : ∀ (K : Nat) (l : List Int), l.Nodup → (∀ z ∈ l, 0 ≤ z ∧ z < (K : Int)) → l.length ≤ K
  | 0, l, _, h => by
    cases l with
    | nil => exact Nat.le_refl _
    | cons a l => have := h a List.mem_cons_self; omega
  | K + 1, l, hn, h => by
    have h1 := nodup_len K (l.erase (K : Int)) (hn.erase _) (fun z hz => by
      have h2 := (hn.mem_erase_iff).1 hz
      have h3 := h z h2.2
      have h4 := h2.1
      omega)
    have h5 := List.length_erase (a := (K : Int)) (l := l)
    split at h5 <;> omega
def anyR : Value → Option (DataW Unit × List MemPlace) := fun _ => some (.nil, [])
def keyI : Value → Int
  | .int _ a => a
  | _ => 0
theorem own_of {w : World} {b : Nat} {m : Int → Option Value} (h : IMap w b m) (K : Nat) (hK : K ≤ 4096) (hk : ∀ z, (m z).isSome = true → 0 ≤ z ∧ z < (K : Int)) :
    ∃ D : DataW Unit, w.ownsMap Tryz.prog 3 anyR b K D ∧ (intKeys D).Nodup ∧ ∀ z, z ∈ intKeys D ↔ (m z).isSome = true := by
  obtain ⟨es, c, h1, h2, h3⟩ := h
  have hes : ∀ x ∈ es.toList, ∃ z : Int, x.key = .int .i64 z ∧ (m z).isSome = true := fun x hx => by
    obtain ⟨z, hz⟩ := h2.keys x hx
    refine ⟨z, hz, ?_⟩
    rw [← h3 z, mget_mem h2.once hx hz]
    rfl
  have hrd : ∀ x ∈ es.toList, ∃ z : Int, x.key = .int .i64 z ∧ (m z).isSome = true ∧ rd Tryz.prog 3 anyR x = some (.int .i64 z, .nil) := fun x hx => by
    obtain ⟨z, hz, hm⟩ := hes x hx
    refine ⟨z, hz, hm, ?_⟩
    obtain ⟨key, val, born⟩ := x
    simp only at hz
    subst hz
    have hb := hk z hm
    have hw : (Lit.int .i64 z).wf = true := by
      simp [Lit.wf, IntKind.min, IntKind.max, IntKind.signed, IntKind.bits]
      omega
    exact rd_mk (yv := (.nil, [])) (by simp [keyOf, Tryz.underlying3, mapKey, hw]) rfl
  have hkm : (es.toList.map (rg Tryz.prog 3 anyR)).map (fun p => Go.intOf p.1) = es.toList.map fun x => keyI x.key := by
    rw [List.map_map]
    refine List.map_congr_left fun x hx => ?_
    obtain ⟨z, hz, _, hr⟩ := hrd x hx
    rw [Function.comp_apply, rg_of hr, hz]
    rfl
  have hperm : (intKeys (.map ((es.toList.map (rg Tryz.prog 3 anyR)).foldr DataW.insert []))).Perm (es.toList.map fun x => keyI x.key) := by
    rw [← hkm]
    exact (WideShapes.sorted_perm _).map _
  have hnd : (es.toList.map fun x => keyI x.key).Nodup := by
    have ho := h2.once
    rw [List.Nodup, List.pairwise_map] at ho ⊢
    refine ho.imp_of_mem fun {x y} hx hy hne e => hne ?_
    obtain ⟨z, hz, _⟩ := hes x hx
    obtain ⟨u, hu, _⟩ := hes y hy
    rw [hz, hu] at e ⊢
    have e : z = u := e
    rw [e]
  have hmem : ∀ z, z ∈ (es.toList.map fun x => keyI x.key) ↔ (m z).isSome = true := fun z => by
    rw [List.mem_map]
    constructor
    · rintro ⟨x, hx, rfl⟩
      obtain ⟨u, hu, hm⟩ := hes x hx
      rw [hu]
      exact hm
    · intro hm
      rcases find_at h2 z with ⟨_, f2, _⟩ | ⟨j, x, _, hj, hx, _⟩
      · rw [h3 z] at f2
        rw [f2] at hm
        cases hm
      · exact ⟨x, List.mem_of_getElem? hj, by rw [hx]; rfl⟩
  have hlen : es.size ≤ K := by
    have := nodup_len K _ hnd fun z hz => hk z ((hmem z).1 hz)
    simpa using this
  refine ⟨_, ⟨es, c, h1, ⟨by unfold maxLen; omega, ⟨h2.born, h2.apart, h2.once⟩, fun x hx => ?_⟩, hlen, rfl⟩, hperm.nodup_iff.2 hnd, fun z => ?_⟩
  · obtain ⟨z, _, _, hr⟩ := hrd x hx
    exact ⟨_, hr⟩
  · rw [hperm.mem_iff, hmem]
/-- The blocks that were written since, rising. -/
def DirtyL (d : St) (l : List Int) : Prop := l.Pairwise (· < ·) ∧ ∀ z, z ∈ l ↔ (d.dirty z).isSome = true
theorem rising_one {l k : List Int} (h : l.Pairwise (· < ·)) (h2 : k.Pairwise (· < ·)) (hm : ∀ z, z ∈ l ↔ z ∈ k) : l = k := by
  have n1 : l.Nodup := h.imp fun hab e => by omega
  have n2 : k.Nodup := h2.imp fun hab e => by omega
  exact List.Perm.eq_of_pairwise (le := fun a b : Int => a < b) (fun a b _ _ h1 h2 => by omega) h h2 ((List.perm_ext_iff_of_nodup n1 n2).2 hm)
theorem dirty_one {d : St} {l k : List Int} (h : DirtyL d l) (h2 : DirtyL d k) : l = k :=
  rising_one h.1 h2.1 fun z => (h.2 z).trans (h2.2 z).symm
/-- What was written lies inside. -/
def InD (d : St) : Prop := ∀ z, (d.dirty z).isSome = true → 0 ≤ z ∧ z < (d.size : Int)
def Ints (w : World) (B : Nat) (v : Value) (l : List Int) : Prop := w.ownsRow B 3 1 v l.length (l.map (Value.int .i64))
theorem sorted_rising {ss : List Int} (h : ss.Nodup) : (ss.mergeSort fun x y => decide (x ≤ y)).Pairwise (· < ·) := by
  have tr : ∀ a b c : Int, decide (a ≤ b) = true → decide (b ≤ c) = true → decide (a ≤ c) = true := fun a b c h1 h2 => by simp only [decide_eq_true_eq] at *; omega
  have to : ∀ a b : Int, (decide (a ≤ b) || decide (b ≤ a)) = true := fun a b => by simp only [Bool.or_eq_true, decide_eq_true_eq]; omega
  have h1 := List.pairwise_mergeSort tr to ss
  have h2 : (ss.mergeSort fun x y => decide (x ≤ y)).Nodup := (List.mergeSort_perm ss _).nodup_iff.2 h
  refine (h1.and h2).imp fun {a b} hab => ?_
  have k1 := of_decide_eq_true hab.1
  have k2 := hab.2
  omega
set_option maxRecDepth 100000 in
set_option maxHeartbeats 1000000 in
theorem live_any (p : Nat) (F : Sto.Fr) (s : Sto.SV) (K : Nat) (hK : K ≤ 4096) (hi : ∀ z, (s.nodes z).isSome = true → 0 ≤ z ∧ z < (K : Int)) (w : World) (h : Sto.StoIs w p F s) :
    Calls Tryz.prog 41 #[.pointer (some ⟨p, 0, none⟩)] w fun e w' => ∃ v l, e = .returned v ∧ (l.Pairwise (· < ·) ∧ ∀ z, z ∈ l ↔ (s.nodes z).isSome = true) ∧ Ints w' w.heap.size v l ∧ Below w.heap.size w w' := by
  have HM := Lib.hid (Sto.made_sto p F s w h)
  have c4 := Has.at_ h.obj 4
  simp at c4
  obtain ⟨D0, hown, hnd, hmem⟩ := own_of h.there K hK (fun z hz => hi z (by rw [Sto.thereM_some] at hz; exact hz))
  have hsz := hown.size_le
  have hhi := hK
  have hbl := hown.lt
  have hseq : SeqGives Fence.wide 2 Tryz.prog 103 #[.pointer (some ⟨w.heap.size, 0, none⟩)] encZ (fun ss => ss.Perm (intKeys D0)) (Maps.size D0) (w.alloc (.cells #[.map (some F.t)] 85)) :=
    AnyZI.keys_gives (ρ := keysB_ren) { keysB with } Fence.wide _ trivial rfl (by omega) w.heap.size F.t K D0 _ (by simp) (by simp) (by
      obtain ⟨es, clock, hb, Ft, hs, hD⟩ := hown
      exact ⟨es, clock, (Below.heap_alloc _ _ F.t hbl).trans hb, Ft, hs, hD⟩)
  have cK : ∀ mb W, Calls Tryz.prog 82 #[.map mb] W fun e w' => e = .returned (.func (.func 103) #[] #[.pointer (some ⟨W.heap.size, 0, none⟩)]) ∧ w' = W.alloc (.cells #[.map mb] 85) := fun mb W => (callsIn_wide (n := 5)).1 (AnyZI.keys_in keysB Fence.wide 5 trivial rfl mb W)
  have cS := (callsIn_wide (n := 5)).1 (AnyZI.sorted_in sortedA Fence.wide 5 trivial trivial trivial trivial rfl (by omega) (sortsA _) (enters_of Tryz.func102 (by kernel_rfl) rfl) 103 #[.pointer (some ⟨w.heap.size, 0, none⟩)] trivial (enters_of Tryz.func103 (by kernel_rfl) rfl) _ _ (by unfold maxLen; omega) (by omega) _ hseq)
  change Calls Tryz.prog 81 _ _ _ at cS
  have CS := Lib.hid cS
  have HE := Lib.hid (And.intro hnd hmem)
  clear h hi hown hsz hhi hseq cS hnd hmem hbl
  go_enter Tryz.func41, Tryz.ntmps41
  go_wp2_with fail
  refine HM.out.mono ?_
  rintro e w' ⟨rfl, rfl⟩
  go_wp2_with fail
  refine (cK _ _).mono ?_
  rintro e w' ⟨rfl, rfl⟩
  go_wp2_with fail
  refine CS.out.mono ?_
  rintro e w' ⟨v, ss, rfl, hS, hrow, _, hb⟩
  go_wp2
  go_ret
  have hS : ss.Perm (intKeys D0) := hS
  have hlen : (ss.mergeSort fun x y => decide (x ≤ y)).length = ss.length := (List.mergeSort_perm ss _).length_eq
  refine ⟨v, ss.mergeSort fun x y => decide (x ≤ y), rfl, ⟨sorted_rising (hS.nodup_iff.2 HE.out.1), fun z => ?_⟩, ?_, ((Below.refl _ w).alloc (Nat.le_refl _) _).trans (hb.mono (by simp))⟩
  · rw [(List.mergeSort_perm ss _).mem_iff, hS.mem_iff, HE.out.2]
    rw [Sto.thereM_some]
  · unfold Ints
    rw [hlen]
    exact own_mono hrow (by simp)
end Go.Proofs.YthejlenafjnmkaaGreat.Dv
