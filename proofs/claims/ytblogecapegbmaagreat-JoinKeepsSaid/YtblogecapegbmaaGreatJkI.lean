/- Join: the law JoinKeeps walked. -/
import Derived.Test.YtblogecapegbmaaGreatJkH
import Derived.Test.YtblogecapegbmaaGreatJkU
import Derived.Test.YtblogecapegbmaaGreatJnU
import Derived.Test.YtblogecapegbmaaGreatJnT
namespace Go.Proofs.YtblogecapegbmaaGreat.Fc
open Go.RowKit Go.Proofs.YtblogecapegbmaaGreat.Mem
set_option maxRecDepth 100000 in
theorem open_vecE {H : Type} {enc : TypeId × Value → H} {w : World} {base b0 : Nat} {r : Reach} {spare : Nat → Bool} {held : Bool} {v : Value} {d : DataW H} {ps : List MemPlace}
    (hv : Value.okWide Tryz.prog w r b0 23 v) (h : DataW.Trod enc Tryz.prog w base spare held 23 v d ps) : ∃ k : Nat → Int, v = .agg (Go.Proofs.YtblogecapegbmaaGreat.Vc.vecC k) := by
  obtain ⟨xs, rfl⟩ : ∃ xs : Array Value, v = .agg xs := by
    have ht := Tryz.underlying23
    simp only [Value.okWide, ht] at hv
    cases v <;> simp_all
  obtain ⟨fuel, hf⟩ := h
  obtain ⟨y, hy, _⟩ := vec_cells hf
  refine ⟨y, ?_⟩
  have h2 : xs.toList = _ := hy
  congr 1
  exact Array.toList_inj.1 h2
end Go.Proofs.YtblogecapegbmaaGreat.Fc
namespace Go.Proofs.YtblogecapegbmaaGreat.Jn
open Go.RowKit Go.Proofs.YtblogecapegbmaaGreat.Mem
open Go.Proofs.YtblogecapegbmaaGreat.Vc (joinV meetV vecC stC)
open Go.Proofs.YtblogecapegbmaaGreat.Fc (sameL)
set_option linter.unusedVariables false set_option linter.unusedSimpArgs false

set_option maxRecDepth 100000 in
theorem eqin_link (x y : Fc.LinkP) (w : World) : (Op.equalIn 10000 51 (.agg (Fc.linkC x)) (.agg (Fc.linkC y))).run Tryz.prog w = .ok (sameL x y) w := by
  have h := Fc.neq_link x y w
  rw [run_neq_struct] at h
  cases hq : (Op.equalIn 10000 51 (.agg (Fc.linkC x)) (.agg (Fc.linkC y))).run Tryz.prog w with
  | ok b w' =>
    rw [hq] at h
    simp only [Result.andThen_ok] at h
    injection h with h1 h2
    injection h1 with h1
    subst h2
    rw [show b = sameL x y by cases b <;> cases hs : sameL x y <;> simp_all]
  | _ => rw [hq] at h; cases h
theorem eql_link (x y : Fc.LinkP) (w : World) : (binOp .eql 51 (.agg (Fc.linkC x)) (.agg (Fc.linkC y))).run Tryz.prog w = .ok (.bool (sameL x y)) w := by
  rw [run_eql_struct, eqin_link]
  rfl
theorem sameL_self (x : Fc.LinkP) : sameL x x = true := by
  unfold Fc.sameL
  simp [Vc.eq8_self]
theorem sum_filter {α : Type} (f : α → Nat) (q : α → Bool) : ∀ l : List α, ((l.filter q).map f).sum ≤ (l.map f).sum
  | [] => Nat.le_refl _
  | x :: r => by
    have ih := sum_filter f q r
    rw [List.filter_cons]
    split
    · simp only [List.map_cons, List.sum_cons]; omega
    · simp only [List.map_cons, List.sum_cons]; omega
theorem limP_prune {K : Nat} {p : Fc.StateP} {v : Nat → Int} (h : LimP K p) : LimP K (pruneP p v) := ⟨Nat.le_trans (List.length_filter_le _ _) h.n1, Nat.le_trans (List.length_filter_le _ _) h.n2, Nat.le_trans (sum_filter _ _ _) h.ps, Nat.le_trans (sum_filter _ _ _) h.xs⟩
theorem kdSt : KdOk Tryz.prog 27 34 10 112 Fc.stateC (fun e => .agg (Fc.stateC e)) (.agg zeroS) := by
  refine ⟨Tryz.underlying34, ?_, rfl, fun _ => rfl, by decide, by decide, fun x => state_one x, fun e => by kernel_rfl⟩
  have h : (Tryz.prog.info? 27).map (fun i => (i.zero, i.size, i.bytes)) = some (some (.agg zeroS), 10, 112) := by kernel_rfl
  cases hh : Tryz.prog.info? 27 with
  | none => rw [hh] at h; cases h
  | some i => rw [hh] at h; simp at h; exact ⟨i, rfl, h⟩
theorem srow1 {w : World} {g : Nat} {t : TypeId} {s : Fc.StateC} (h : Has w g t (Fc.stateC s)) : Fc.SRow w 10 Fc.stateC (some ⟨g, 0, none⟩) 1 [s] := by
  refine ⟨rfl, fun _ => ⟨g, 0, rfl, h.bound, fun i hi j v hv => ?_⟩⟩
  obtain rfl : i = 0 := by simp at hi; omega
  rw [show 0 + 0 * 10 + j = j by omega, h.at_, ← hv]
  rfl
/-- What the walk keeps. -/
structure KwI (w wr : World) (g2 g3 g5 ub : Nat) (s t : Fc.StateC) (v : Nat → Int) (us : List Bool) : Prop where
  below : Below w.heap.size w wr
  h2 : Has wr g2 27 (Fc.stateC s)
  h3 : Has wr g3 23 (vecC v)
  h5 : Has wr g5 27 (Fc.stateC t)
  tin : StateIn wr t
  hu : Has wr ub 4 (boolsA us)
theorem KwI.low {w wr w2 : World} {g2 g3 g5 ub : Nat} {s t : Fc.StateC} {v : Nat → Int} {us : List Bool} (h : KwI w wr g2 g3 g5 ub s t v us) (hb : Below wr.heap.size wr w2) : KwI w w2 g2 g3 g5 ub s t v us := ⟨h.below.trans (hb.mono h.below.size), h.h2.below hb, h.h3.below hb, h.h5.below hb, h.tin.below hb, h.hu.below hb⟩
structure RowIn (w : World) (b o : Nat) (C : Array Value) : Prop where
  row : w.rangeAt b o C.toList
  lt : b < w.heap.size
set_option maxRecDepth 100000 in
set_option maxHeartbeats 16000000 in
theorem keeps_walk (w : World) (s : Fc.StateC) (v : Nat → Int) (hs : Fc.StateFit w s) (ns : Fc.NilS s) : Calls Tryz.prog 7 #[.agg (Fc.stateC s), .agg (vecC v)] w fun e w' => e = .returned (.bool true) ∧ Below w.heap.size w w' := by
  have HB0 := Lib.hid (((Below.refl w.heap.size w).alloc (Nat.le_refl _) (.cells (Fc.stateC s) 27)).alloc (by simp) (.cells (vecC v) 23))
  have h3 := (Has.fresh w 27 (Fc.stateC s)).past (.cells (vecC v) 23)
  have h4 := Has.fresh (w.alloc (.cells (Fc.stateC s) 27)) 23 (vecC v)
  rw [World.size_alloc] at h4
  have HIA := Lib.hid (fun V (h : Below w.heap.size w V) => in_fit (hs.below h) ns)
  have HFT := Lib.hid (fun V (h : Below w.heap.size w V) => (show ∀ x ∈ [s], Fc.StateFit V x from fun x hx => by rw [List.mem_singleton.1 hx]; exact hs.below h))
  have HX0 := Lib.hid h3
  have HY0 := Lib.hid h4
  have HT := Lib.hid (Has.fresh ((w.alloc (.cells (Fc.stateC s) 27)).alloc (.cells (vecC v) 23)) 27 (Fc.stateC s))
  have HBT := Lib.hid (HB0.out.alloc (by simp; omega) (.cells (Fc.stateC s) 27))
  have HS := Lib.hid (smalls_any (w.heap.size + 1 + 1) 1 1 [s] (((w.alloc (.cells (Fc.stateC s) 27)).alloc (.cells (vecC v) 23)).alloc (.cells (Fc.stateC s) 27)) (by have q := srow1 HT.out; simp only [World.size_alloc] at q; exact q) (by decide) (HFT.out _ HBT.out))
  have HX1 := Lib.hid (HX0.out.past (.cells (Fc.stateC s) 27))
  have HY1 := Lib.hid (HY0.out.past (.cells (Fc.stateC s) 27))
  clear hs ns h3 h4 HT HFT
  go_enter Tryz.func7, Tryz.ntmps7
  go_wp2_with (first | ((with_reducible refine Who.wpList_loadC 27 (.tmp 2) rfl (w.heap.size) 0 (Fc.stateC s) ?_); refine And.intro ⟨by rfl, by rfl, ⟨_, Tryz.underlying27, rfl⟩, info_state⟩ (And.intro (Who.has_range HX0.out) ?_); (try simp only [Act.put, List.setIfInBounds_toArray, List.set_cons_zero, List.set_cons_succ])) | ((with_reducible refine wpl_build1 kdSt (.tmp 10) rfl s ?_); refine And.intro ⟨rfl, by rfl⟩ ?_; (try simp only [Act.put, List.setIfInBounds_toArray, List.set_cons_zero, List.set_cons_succ]); (try simp only [World.size_alloc])) | fail)
  refine HS.out.mono ?_
  rintro e w2 ⟨⟨bo, rfl, hsm⟩, hb⟩
  have HI_0 := Lib.hid (HBT.out.trans (hb.mono HBT.out.size))
  have X_0 := Lib.hid (HX1.out.below hb)
  have Y_0 := Lib.hid (HY1.out.below hb)
  have HSS := Lib.hid hsm
  clear hsm hb HS HB0 HBT HX0 HY0 HX1 HY1
  obtain ⟨g2, hg2⟩ : ∃ g, g = w.heap.size := ⟨_, rfl⟩
  obtain ⟨g3, hg3⟩ : ∃ g, g = w.heap.size + 1 := ⟨_, rfl⟩
  rw [← hg3] at Y_0
  rw [← hg2] at X_0
  rw [← hg3, ← hg2]
  clear hg2 hg3
  cases bo with
  | false =>
    go_wp2_with fail
    refine (awake_any _).mono ?_
    rintro e w3 ⟨rfl, hb⟩
    have HI := Lib.hid (HI_0.out.trans (hb.mono HI_0.out.size))
    clear hb
    go_wp2
    go_ret
    exact ⟨rfl, HI.out⟩
  | true =>
    have HLA := Lib.hid (HSS.out rfl s (by simp))
    have HLN := Lib.hid (show s.links.length = s.n2 from (HIA.out _ HI_0.out).links.row.len)
    clear HSS
    go_wp2_with (first | ((with_reducible refine Who.wpList_loadC 27 (.tmp 2) rfl (g2) 0 (Fc.stateC s) ?_); refine And.intro ⟨by rfl, by rfl, ⟨_, Tryz.underlying27, rfl⟩, info_state⟩ (And.intro (Who.has_range X_0.out) ?_); (try simp only [Act.put, List.setIfInBounds_toArray, List.set_cons_zero, List.set_cons_succ])) | ((with_reducible refine Who.wpList_loadC 23 (.tmp 3) rfl (g3) 0 (vecC v) ?_); refine And.intro ⟨by rfl, by rfl, ⟨_, Tryz.underlying23, rfl⟩, info_vec⟩ (And.intro (Who.has_range Y_0.out) ?_); (try simp only [Act.put, List.setIfInBounds_toArray, List.set_cons_zero, List.set_cons_succ])) | fail)
    refine (pruneA s v _ (HIA.out _ HI_0.out) HLA.out).mono ?_
    rintro e w3 ⟨t, rfl, hp, ho, hb⟩
    have hbn := hb.trans ((Below.refl w3.heap.size w3).alloc (Nat.le_refl _) (.cells (Fc.stateC t) 27) |>.mono hb.size)
    have HI_1 := Lib.hid (HI_0.out.trans (hbn.mono HI_0.out.size))
    have X_1 := Lib.hid (X_0.out.below hbn)
    have Y_1 := Lib.hid (Y_0.out.below hbn)
    have V_1 := Lib.hid (Has.fresh w3 27 (Fc.stateC t))
    have N_1 := Lib.hid (ho.in_.below ((Below.refl w3.heap.size w3).alloc (Nat.le_refl _) (.cells (Fc.stateC t) 27)))
    have HP1 := Lib.hid hp
    have c9 : (w3.alloc (.cells (Fc.stateC t) 27)).cell? ⟨g2, 9, none⟩ = some (.slice s.A2 s.n2 s.c2) := X_1.out.at_ 9
    clear hp ho hb hbn X_0 Y_0
    go_wp2_with (first | ((with_reducible refine Who.wpList_newC 27 5 (.tmp 17) rfl rfl rfl (zeroS) (Fc.stateC t) ?_); refine And.intro ⟨rfl, rfl, rfl, allocS, by rfl, by rfl, info_state, rfl, state_one _⟩ ?_; (try simp only [Act.put, List.setIfInBounds_toArray, List.set_cons_zero, List.set_cons_succ]); (try simp only [World.size_alloc])) | fail)
    refine (up_any s.A2 s.n2 s.c2 s.links _ (HIA.out _ HI_1.out).links.row (Nat.le_trans HLA.out.n2 (by decide))).mono ?_
    rintro e w4 ⟨ub, us, rfl, hU⟩
    obtain ⟨g5, hg5⟩ : ∃ g, g = w3.heap.size := ⟨_, rfl⟩
    rw [← hg5] at V_1
    rw [← hg5]
    have HK0 := Lib.hid (show KwI w w4 g2 g3 g5 ub s t v us from ⟨HI_1.out.trans (hU.below.mono HI_1.out.size), X_1.out.below hU.below, Y_1.out.below hU.below, V_1.out.below hU.below, N_1.out.below hU.below, hU.hb⟩)
    have HUP := Lib.hid hU.ok
    have c9 : w4.cell? ⟨g2, 9, none⟩ = some (.slice s.A2 s.n2 s.c2) := HK0.out.h2.at_ 9
    clear hU X_1 Y_1 V_1 N_1 HI_1 HI_0 hg5
    obtain ⟨kb, hkb⟩ : ∃ kb, kb = keepB (rootB (meetV s.seen v) (s.links.any (movedB (meetV s.seen v)))) s.links := ⟨_, rfl⟩
    have HKB := Lib.hid hkb
    have HTL := Lib.hid (show t.links = s.links.filter kb from by have q := congrArg Fc.StateP.links HP1.out; rw [hkb]; exact q)
    have HTS := Lib.hid (show t.seen = s.seen from congrArg Fc.StateP.seen HP1.out)
    have HTN := Lib.hid (show t.links.length = t.n2 from HK0.out.tin.links.row.len)
    have HTB := Lib.hid (show t.n2 ≤ 4800 from by
      have h1 : (s.links.filter kb).length ≤ s.links.length := List.length_filter_le _ _
      have := HLA.out.n2
      rw [← HTN.out, HTL.out]
      rw [HLN.out] at h1
      omega)
    clear hkb
    go_wp2
    clear c9
    go_loopw [7, 24] (fun kv iv wr => ∃ j k : Nat, iv = .int .i64 j ∧ j ≤ s.n2 ∧ kv = .int .i64 k ∧ Hid (k = ((s.links.take j).filter kb).length) ∧ Hid (KwI w wr g2 g3 g5 ub s t v us)) (fun _ iv _ => s.n2 - (intOf iv).toNat)
    case atStart => exact ⟨0, 0, rfl, Nat.zero_le _, rfl, Lib.hid rfl, HK0⟩
    case round =>
      clear HK0
      obtain ⟨j, k, rfl, hj, rfl, HKK, HK⟩ := hrel
      have hkb : k ≤ 4800 := by
        have h1 : ((s.links.take j).filter kb).length ≤ (s.links.take j).length := List.length_filter_le _ _
        have h2 := HKK.out
        rw [List.length_take] at h1
        have := HLA.out.n2
        omega
      by_cases hlt : j < s.n2
      · obtain ⟨bk, off, hA, hbl, hxj, mr⟩ := ((HIA.out _ HK.out.below).links.row).range (i := j) hlt
        have hxj : j < s.links.length := hxj
        obtain ⟨y, hy⟩ : ∃ y, s.links[j] = y := ⟨_, rfl⟩
        have hA : s.A2 = _ := hA
        have mr : wr.rangeAt bk (off + j * 25) (Fc.linkC (s.links[j])).toList := mr
        rw [hy] at mr
        have MR := Lib.hid mr
        have HJL := Lib.hid (show j < s.links.length from hxj)
        have HYJ := Lib.hid (show s.links[j]'hxj = y from hy)
        have hjb : j ≤ 4800 := Nat.le_trans hj HLA.out.n2
        have HN := Lib.hid (Has.fresh wr 51 zeroL)
        have HBA := Lib.hid ((Below.refl wr.heap.size wr).alloc (Nat.le_refl _) (.cells zeroL 51))
        have HFN := Lib.hid (show ((s.links.take (j + 1)).filter kb).length = ((s.links.take j).filter kb).length + if kb y = true then 1 else 0 from by rw [filter_next kb hxj, hy])
        have HFA := Lib.hid (show kb y = true → t.links[k]? = some y from fun h => by rw [HTL.out, HKK.out, filter_at kb s.links j hxj (by rw [hy]; exact h), hy])
        rw [hA]
        clear mr hy hA hbl
        go_wp2_with (first | ((with_reducible refine Who.wpList_loadC 51 (.tmp 27) rfl (bk) (off + j * 25) (Fc.linkC y) ?_); refine And.intro ⟨by rfl, by rfl, ⟨_, Tryz.underlying51, rfl⟩, info_link⟩ (And.intro (MR.out) ?_); (try simp only [Act.put, List.setIfInBounds_toArray, List.set_cons_zero, List.set_cons_succ])) | ((with_reducible refine Who.wpList_alloc 51 9 rfl rfl rfl (zeroL) allocL ?_); (try simp only [Act.put, List.setIfInBounds_toArray, List.set_cons_zero, List.set_cons_succ]); (try simp only [World.size_alloc])) | ((with_reducible refine wpList_storeG 51 (.tmp 9) (.tmp 28) rfl (wr.heap.size) (zeroL) (Fc.linkC y) ?_); refine And.intro ⟨rfl, by rfl, by rfl, info_link, own1 y, rfl, HN.out⟩ ?_; intro W6 HX6 HC6; (try simp only [Act.put, List.setIfInBounds_toArray, List.set_cons_zero, List.set_cons_succ])) | fail)
        obtain ⟨gy, hgy⟩ : ∃ gy, gy = wr.heap.size := ⟨_, rfl⟩
        have HK1 := Lib.hid ((HK.out.low (below_step HBA.out HC6.out (Nat.le_refl _))).low (Below.refl _ _).drew)
        have HY1 := Lib.hid (show Has W6.drew gy 51 (Fc.linkC y) from by rw [hgy]; exact HX6.out.drew)
        rw [← hgy]
        clear HX6 HC6 HBA HN HK MR hgy
        by_cases hkt : k < t.n2
        · obtain ⟨bt, ot, hB, hbl, hxk, mr⟩ := HK1.out.tin.links.row.range (i := k) hkt
          have hxk : k < t.links.length := hxk
          obtain ⟨x, hx⟩ : ∃ x, t.links[k] = x := ⟨_, rfl⟩
          have hB : t.A2 = _ := hB
          have mr : W6.drew.rangeAt bt (ot + k * 25) (Fc.linkC (t.links[k])).toList := mr
          rw [hx] at mr
          have HXR := Lib.hid (RowIn.mk mr hbl)
          have HXM := Lib.hid (show x ∈ s.links.filter kb from by rw [← HTL.out, ← hx]; exact List.getElem_mem hxk)
          have HXK := Lib.hid (show t.links[k]? = some x from by rw [List.getElem?_eq_getElem hxk, hx])
          have HBT := Lib.hid hB
          clear mr hbl hx hB
          cases hb : kb y with
          | true =>
            obtain rfl : x = y := by have h := HFA.out hb; rw [HXK.out] at h; exact Option.some.inj h
            have HEQ := Lib.hid (sameL_self x)
            have HK2 := Lib.hid (show k + 1 = ((s.links.take (j + 1)).filter kb).length from by rw [HFN.out, ← HKK.out, hb]; rfl)
            clear hb HFA HFN HKK
            refine wp_region_held_drew (S := fun V => Has V g5 27 (Fc.stateC t) ∧ Has V gy 51 (Fc.linkC x) ∧ RowIn V bt (ot + k * 25) (Fc.linkC x)) (by kernel_rfl) ⟨HK1.out.h5, HY1.out, HXR.out⟩ (fun hHeld => ?_)
            refine Vc.wpAnyH_read (i := 0) (d := some 29) (v := ?v1001) (by rfl) (by rfl) (by kernel_rfl) (by kernel_rfl) (by kernel_rfl) (fun _ _ _ h => h) (by rfl) ?hy1001 (by assumption) ?rest1001
            case hy1001 =>
              intro w hSw
              try dsimp only at hSw
              go_simp
              try with_reducible rfl
            try simp only [Act.put, List.setIfInBounds_toArray, List.set_cons_zero, List.set_cons_succ]
            refine Vc.wpAnyH_read (i := 1) (d := some 30) (v := ?v1002) (by rfl) (by rfl) (by kernel_rfl) (by kernel_rfl) (by kernel_rfl) (fun _ _ _ h => h) (by rfl) ?hy1002 (by assumption) ?rest1002
            case hy1002 =>
              intro w hSw
              try dsimp only at hSw
              go_simp
              try with_reducible rfl
            try simp only [Act.put, List.setIfInBounds_toArray, List.set_cons_zero, List.set_cons_succ]
            refine Vc.wpAnyH_read (i := 2) (d := some 31) (v := .slice t.A2 t.n2 t.c2) (by rfl) (by rfl) (by kernel_rfl) (by kernel_rfl) (by kernel_rfl) (fun _ _ _ h => h) (by rfl) ?hy1003 (by assumption) ?rest1003
            case hy1003 =>
              intro w hSw
              have c := hSw.1.at_ 9; replace c : w.cell? ⟨g5, 9, none⟩ = some (.slice t.A2 t.n2 t.c2) := c; go_simp
            try simp only [Act.put, List.setIfInBounds_toArray, List.set_cons_zero, List.set_cons_succ]
            refine Vc.wpAnyH_read (i := 3) (d := some 32) (v := ?v1004) (by rfl) (by rfl) (by kernel_rfl) (by kernel_rfl) (by kernel_rfl) (fun _ _ _ h => h) (by rfl) ?hy1004 (by assumption) ?rest1004
            case hy1004 =>
              intro w hSw
              try dsimp only at hSw
              go_simp
              try with_reducible rfl
            try simp only [Act.put, List.setIfInBounds_toArray, List.set_cons_zero, List.set_cons_succ]
            refine Vc.wpAnyH_read (i := 4) (d := some 33) (v := .bool true) (by rfl) (by rfl) (by kernel_rfl) (by kernel_rfl) (by kernel_rfl) (fun _ _ _ h => h) (by rfl) ?hy1005 (by assumption) ?rest1005
            case hy1005 =>
              intro w hSw
              have hq : decide ((k : Int) < (t.n2 : Int)) = true := decide_eq_true (by omega); go_simp
            try simp only [Act.put, List.setIfInBounds_toArray, List.set_cons_zero, List.set_cons_succ]
            refine Vc.wpAnyH_read (i := 5) (d := some 34) (v := ?v1006) (by rfl) (by rfl) (by kernel_rfl) (by kernel_rfl) (by kernel_rfl) (fun _ _ _ h => h) (by rfl) ?hy1006 (by assumption) ?rest1006
            case hy1006 =>
              intro w hSw
              try dsimp only at hSw
              go_simp
              try with_reducible rfl
            try simp only [Act.put, List.setIfInBounds_toArray, List.set_cons_zero, List.set_cons_succ]
            refine Vc.wpAnyH_read (i := 6) (d := some 35) (v := ?v1007) (by rfl) (by rfl) (by kernel_rfl) (by kernel_rfl) (by kernel_rfl) (fun _ _ _ h => h) (by rfl) ?hy1007 (by assumption) ?rest1007
            case hy1007 =>
              intro w hSw
              try dsimp only at hSw
              go_simp
              try with_reducible rfl
            try simp only [Act.put, List.setIfInBounds_toArray, List.set_cons_zero, List.set_cons_succ]
            refine Vc.wpAnyH_read (i := 7) (d := some 36) (v := .slice t.A2 t.n2 t.c2) (by rfl) (by rfl) (by kernel_rfl) (by kernel_rfl) (by kernel_rfl) (fun _ _ _ h => h) (by rfl) ?hy1008 (by assumption) ?rest1008
            case hy1008 =>
              intro w hSw
              have c := hSw.1.at_ 9; replace c : w.cell? ⟨g5, 9, none⟩ = some (.slice t.A2 t.n2 t.c2) := c; go_simp
            try simp only [Act.put, List.setIfInBounds_toArray, List.set_cons_zero, List.set_cons_succ]
            refine Vc.wpAnyH_read (i := 8) (d := some 37) (v := ?v1009) (by rfl) (by rfl) (by kernel_rfl) (by kernel_rfl) (by kernel_rfl) (fun _ _ _ h => h) (by rfl) ?hy1009 (by assumption) ?rest1009
            case hy1009 =>
              intro w hSw
              try dsimp only at hSw
              go_simp
              try with_reducible rfl
            try simp only [Act.put, List.setIfInBounds_toArray, List.set_cons_zero, List.set_cons_succ]
            refine Vc.wpAnyH_read (i := 9) (d := some 38) (v := .pointer (some ⟨bt, ot + k * 25, none⟩)) (by rfl) (by rfl) (by kernel_rfl) (by kernel_rfl) (by kernel_rfl) (fun _ _ _ h => h) (by rfl) ?hy1010 (by assumption) ?rest1010
            case hy1010 =>
              intro w hSw
              have hB := HBT.out; rw [hB]; go_simp
            try simp only [Act.put, List.setIfInBounds_toArray, List.set_cons_zero, List.set_cons_succ]
            refine Vc.wpAnyH_read (i := 10) (d := some 39) (v := .agg (Fc.linkC x)) (by rfl) (by rfl) (by kernel_rfl) (by kernel_rfl) (by kernel_rfl) (fun _ _ _ h => h) (by rfl) ?hy1011 (by assumption) ?rest1011
            case hy1011 =>
              intro w hSw
              exact Who.exec_loadA _ rfl rfl hSw.2.2.row Tryz.underlying51 rfl info_link
            try simp only [Act.put, List.setIfInBounds_toArray, List.set_cons_zero, List.set_cons_succ]
            refine Vc.wpAnyH_read (i := 11) (d := some 40) (v := .agg (Fc.linkC x)) (by rfl) (by rfl) (by kernel_rfl) (by kernel_rfl) (by kernel_rfl) (fun _ _ _ h => h) (by rfl) ?hy1012 (by assumption) ?rest1012
            case hy1012 =>
              intro w hSw
              exact Who.exec_loadA _ rfl rfl (Who.has_range hSw.2.1) Tryz.underlying51 rfl info_link
            try simp only [Act.put, List.setIfInBounds_toArray, List.set_cons_zero, List.set_cons_succ]
            refine Vc.wpAnyH_read (i := 12) (d := some 41) (v := .bool true) (by rfl) (by rfl) (by kernel_rfl) (by kernel_rfl) (by kernel_rfl) (fun _ _ _ h => h) (by rfl) ?hy1013 (by assumption) ?rest1013
            case hy1013 =>
              intro w hSw
              have hb := eql_link x x w; rw [HEQ.out] at hb; have hg := run_eqGuard_agg (P := Tryz.prog) (w := w) .eql 51 (.tmp 39) (.tmp 40) (Fc.linkC x) (Fc.linkC x) (by kernel_rfl); simp [execOp, hg, hb, Result.andThen, Act.eval]
            try simp only [Act.put, List.setIfInBounds_toArray, List.set_cons_zero, List.set_cons_succ]
            refine Vc.wpAnyH_read (i := 13) (d := some 42) (v := ?v1014) (by rfl) (by rfl) (by kernel_rfl) (by kernel_rfl) (by kernel_rfl) (fun _ _ _ h => h) (by rfl) ?hy1014 (by assumption) ?rest1014
            case hy1014 =>
              intro w hSw
              try dsimp only at hSw
              go_simp
              try with_reducible rfl
            try simp only [Act.put, List.setIfInBounds_toArray, List.set_cons_zero, List.set_cons_succ]
            refine wpAnyH_done (by kernel_rfl) ?_ _
            go_wp2
            go_roundw
            case rel => exact ⟨j + 1, k + 1, by go_num, by omega, by go_num, HK2, HK1⟩
            case measure => simp [intOf]; omega
          | false =>
            have HNO := Lib.hid hb
            have HEQ := Lib.hid (show sameL x y = false from by
              cases hs : sameL x y with
              | false => rfl
              | true =>
                have e := keep_alike (known := meetV s.seen v) (all := s.links.any (movedB (meetV s.seen v))) (ls := s.links) (Fc.sameL_yes hs)
                have h1 := (List.mem_filter.1 HXM.out).2
                rw [HKB.out] at h1 hb
                rw [h1, hb] at e
                cases e)
            have HK2 := Lib.hid (show k = ((s.links.take (j + 1)).filter kb).length from by rw [HFN.out, ← HKK.out, hb]; rfl)
            clear hb HFA HFN HKK
            refine wp_region_held_drew (S := fun V => Has V g5 27 (Fc.stateC t) ∧ Has V gy 51 (Fc.linkC y) ∧ RowIn V bt (ot + k * 25) (Fc.linkC x)) (by kernel_rfl) ⟨HK1.out.h5, HY1.out, HXR.out⟩ (fun hHeld => ?_)
            refine Vc.wpAnyH_read (i := 0) (d := some 29) (v := ?v2001) (by rfl) (by rfl) (by kernel_rfl) (by kernel_rfl) (by kernel_rfl) (fun _ _ _ h => h) (by rfl) ?hy2001 (by assumption) ?rest2001
            case hy2001 =>
              intro w hSw
              try dsimp only at hSw
              go_simp
              try with_reducible rfl
            try simp only [Act.put, List.setIfInBounds_toArray, List.set_cons_zero, List.set_cons_succ]
            refine Vc.wpAnyH_read (i := 1) (d := some 30) (v := ?v2002) (by rfl) (by rfl) (by kernel_rfl) (by kernel_rfl) (by kernel_rfl) (fun _ _ _ h => h) (by rfl) ?hy2002 (by assumption) ?rest2002
            case hy2002 =>
              intro w hSw
              try dsimp only at hSw
              go_simp
              try with_reducible rfl
            try simp only [Act.put, List.setIfInBounds_toArray, List.set_cons_zero, List.set_cons_succ]
            refine Vc.wpAnyH_read (i := 2) (d := some 31) (v := .slice t.A2 t.n2 t.c2) (by rfl) (by rfl) (by kernel_rfl) (by kernel_rfl) (by kernel_rfl) (fun _ _ _ h => h) (by rfl) ?hy2003 (by assumption) ?rest2003
            case hy2003 =>
              intro w hSw
              have c := hSw.1.at_ 9; replace c : w.cell? ⟨g5, 9, none⟩ = some (.slice t.A2 t.n2 t.c2) := c; go_simp
            try simp only [Act.put, List.setIfInBounds_toArray, List.set_cons_zero, List.set_cons_succ]
            refine Vc.wpAnyH_read (i := 3) (d := some 32) (v := ?v2004) (by rfl) (by rfl) (by kernel_rfl) (by kernel_rfl) (by kernel_rfl) (fun _ _ _ h => h) (by rfl) ?hy2004 (by assumption) ?rest2004
            case hy2004 =>
              intro w hSw
              try dsimp only at hSw
              go_simp
              try with_reducible rfl
            try simp only [Act.put, List.setIfInBounds_toArray, List.set_cons_zero, List.set_cons_succ]
            refine Vc.wpAnyH_read (i := 4) (d := some 33) (v := .bool true) (by rfl) (by rfl) (by kernel_rfl) (by kernel_rfl) (by kernel_rfl) (fun _ _ _ h => h) (by rfl) ?hy2005 (by assumption) ?rest2005
            case hy2005 =>
              intro w hSw
              have hq : decide ((k : Int) < (t.n2 : Int)) = true := decide_eq_true (by omega); go_simp
            try simp only [Act.put, List.setIfInBounds_toArray, List.set_cons_zero, List.set_cons_succ]
            refine Vc.wpAnyH_read (i := 5) (d := some 34) (v := ?v2006) (by rfl) (by rfl) (by kernel_rfl) (by kernel_rfl) (by kernel_rfl) (fun _ _ _ h => h) (by rfl) ?hy2006 (by assumption) ?rest2006
            case hy2006 =>
              intro w hSw
              try dsimp only at hSw
              go_simp
              try with_reducible rfl
            try simp only [Act.put, List.setIfInBounds_toArray, List.set_cons_zero, List.set_cons_succ]
            refine Vc.wpAnyH_read (i := 6) (d := some 35) (v := ?v2007) (by rfl) (by rfl) (by kernel_rfl) (by kernel_rfl) (by kernel_rfl) (fun _ _ _ h => h) (by rfl) ?hy2007 (by assumption) ?rest2007
            case hy2007 =>
              intro w hSw
              try dsimp only at hSw
              go_simp
              try with_reducible rfl
            try simp only [Act.put, List.setIfInBounds_toArray, List.set_cons_zero, List.set_cons_succ]
            refine Vc.wpAnyH_read (i := 7) (d := some 36) (v := .slice t.A2 t.n2 t.c2) (by rfl) (by rfl) (by kernel_rfl) (by kernel_rfl) (by kernel_rfl) (fun _ _ _ h => h) (by rfl) ?hy2008 (by assumption) ?rest2008
            case hy2008 =>
              intro w hSw
              have c := hSw.1.at_ 9; replace c : w.cell? ⟨g5, 9, none⟩ = some (.slice t.A2 t.n2 t.c2) := c; go_simp
            try simp only [Act.put, List.setIfInBounds_toArray, List.set_cons_zero, List.set_cons_succ]
            refine Vc.wpAnyH_read (i := 8) (d := some 37) (v := ?v2009) (by rfl) (by rfl) (by kernel_rfl) (by kernel_rfl) (by kernel_rfl) (fun _ _ _ h => h) (by rfl) ?hy2009 (by assumption) ?rest2009
            case hy2009 =>
              intro w hSw
              try dsimp only at hSw
              go_simp
              try with_reducible rfl
            try simp only [Act.put, List.setIfInBounds_toArray, List.set_cons_zero, List.set_cons_succ]
            refine Vc.wpAnyH_read (i := 9) (d := some 38) (v := .pointer (some ⟨bt, ot + k * 25, none⟩)) (by rfl) (by rfl) (by kernel_rfl) (by kernel_rfl) (by kernel_rfl) (fun _ _ _ h => h) (by rfl) ?hy2010 (by assumption) ?rest2010
            case hy2010 =>
              intro w hSw
              have hB := HBT.out; rw [hB]; go_simp
            try simp only [Act.put, List.setIfInBounds_toArray, List.set_cons_zero, List.set_cons_succ]
            refine Vc.wpAnyH_read (i := 10) (d := some 39) (v := .agg (Fc.linkC x)) (by rfl) (by rfl) (by kernel_rfl) (by kernel_rfl) (by kernel_rfl) (fun _ _ _ h => h) (by rfl) ?hy2011 (by assumption) ?rest2011
            case hy2011 =>
              intro w hSw
              exact Who.exec_loadA _ rfl rfl hSw.2.2.row Tryz.underlying51 rfl info_link
            try simp only [Act.put, List.setIfInBounds_toArray, List.set_cons_zero, List.set_cons_succ]
            refine Vc.wpAnyH_read (i := 11) (d := some 40) (v := .agg (Fc.linkC y)) (by rfl) (by rfl) (by kernel_rfl) (by kernel_rfl) (by kernel_rfl) (fun _ _ _ h => h) (by rfl) ?hy2012 (by assumption) ?rest2012
            case hy2012 =>
              intro w hSw
              exact Who.exec_loadA _ rfl rfl (Who.has_range hSw.2.1) Tryz.underlying51 rfl info_link
            try simp only [Act.put, List.setIfInBounds_toArray, List.set_cons_zero, List.set_cons_succ]
            refine Vc.wpAnyH_read (i := 12) (d := some 41) (v := .bool false) (by rfl) (by rfl) (by kernel_rfl) (by kernel_rfl) (by kernel_rfl) (fun _ _ _ h => h) (by rfl) ?hy2013 (by assumption) ?rest2013
            case hy2013 =>
              intro w hSw
              have hb := eql_link x y w; rw [HEQ.out] at hb; have hg := run_eqGuard_agg (P := Tryz.prog) (w := w) .eql 51 (.tmp 39) (.tmp 40) (Fc.linkC x) (Fc.linkC y) (by kernel_rfl); simp [execOp, hg, hb, Result.andThen, Act.eval]
            try simp only [Act.put, List.setIfInBounds_toArray, List.set_cons_zero, List.set_cons_succ]
            refine Vc.wpAnyH_read (i := 13) (d := some 42) (v := ?v2014) (by rfl) (by rfl) (by kernel_rfl) (by kernel_rfl) (by kernel_rfl) (fun _ _ _ h => h) (by rfl) ?hy2014 (by assumption) ?rest2014
            case hy2014 =>
              intro w hSw
              try dsimp only at hSw
              go_simp
              try with_reducible rfl
            try simp only [Act.put, List.setIfInBounds_toArray, List.set_cons_zero, List.set_cons_succ]
            refine wpAnyH_done (by kernel_rfl) ?_ _
            obtain ⟨bu, hbu⟩ : ∃ b, us[j]? = some b := by
              have : j < us.length := by rw [HUP.out.len]; exact HJL.out
              exact ⟨_, List.getElem?_eq_getElem this⟩
            obtain rfl : bu = false := by
              cases bu with
              | false => rfl
              | true =>
                have hju : j < us.length := by rw [HUP.out.len]; exact HJL.out
                have h := up_keeps (known := meetV s.seen v) HUP.out HJL.out hju (by rw [List.getElem?_eq_getElem hju] at hbu; exact Option.some.inj hbu)
                rw [← HKB.out, HYJ.out, HNO.out] at h
                cases h
            have HG := Lib.hid (gone_is (show keepB (rootB (meetV s.seen v) (s.links.any (movedB (meetV s.seen v)))) s.links y = false from by rw [← HKB.out]; exact HNO.out))
            have HWD := Lib.hid (fun V => (show Calls Tryz.prog 20 #[.agg (vecC y.de), .agg (vecC v)] V fun e W' => e = .returned (.bool true) ∧ Below V.heap.size V W' from by rw [← (within_meet HG.out.2).2]; exact Vc.rwithin_any y.de v V))
            have HWA := Lib.hid (fun V => (show Calls Tryz.prog 20 #[.agg (vecC y.al), .agg (vecC s.seen)] V fun e W' => e = .returned (.bool true) ∧ Below V.heap.size V W' from by rw [← (within_meet HG.out.1).1]; exact Vc.rwithin_any y.al s.seen V))
            have cu : W6.drew.cell? ⟨ub, j, none⟩ = some (.bool false) := by rw [HK1.out.hu.at_ j]; exact boolsA_at hbu
            clear hbu HG
            go_wp2_with (first | ((with_reducible refine Who.wpList_loadC 23 (.tmp 50) rfl (gy) 17 (vecC y.de) ?_); refine And.intro ⟨by rfl, by rfl, ⟨_, Tryz.underlying23, rfl⟩, info_vec⟩ (And.intro (link_de HY1.out) ?_); (try simp only [Act.put, List.setIfInBounds_toArray, List.set_cons_zero, List.set_cons_succ])) | ((with_reducible refine Who.wpList_loadC 23 (.tmp 3) rfl (g3) 0 (vecC v) ?_); refine And.intro ⟨by rfl, by rfl, ⟨_, Tryz.underlying23, rfl⟩, info_vec⟩ (And.intro (Who.has_range HK1.out.h3) ?_); (try simp only [Act.put, List.setIfInBounds_toArray, List.set_cons_zero, List.set_cons_succ])) | fail)
            refine (HWD.out _).mono ?_
            rintro e w7 ⟨rfl, hb7⟩
            have HK7 := Lib.hid (HK1.out.low hb7)
            have HY7 := Lib.hid (HY1.out.below hb7)
            clear hb7 HK1 HY1 cu HWD
            go_wp2_with (first | ((with_reducible refine Who.wpList_loadC 23 (.tmp 57) rfl (gy) 9 (vecC y.al) ?_); refine And.intro ⟨by rfl, by rfl, ⟨_, Tryz.underlying23, rfl⟩, info_vec⟩ (And.intro (link_al HY7.out) ?_); (try simp only [Act.put, List.setIfInBounds_toArray, List.set_cons_zero, List.set_cons_succ])) | ((with_reducible refine Who.wpList_loadC 23 (.tmp 59) rfl (g2) 0 (vecC s.seen) ?_); refine And.intro ⟨by rfl, by rfl, ⟨_, Tryz.underlying23, rfl⟩, info_vec⟩ (And.intro (st_seen HK7.out.h2) ?_); (try simp only [Act.put, List.setIfInBounds_toArray, List.set_cons_zero, List.set_cons_succ])) | fail)
            refine (HWA.out _).mono ?_
            rintro e w8 ⟨rfl, hb8⟩
            have HK8 := Lib.hid (HK7.out.low hb8)
            clear hb8 HK7 HY7 HWA
            go_wp2
            go_roundw
            case rel => exact ⟨j + 1, k, by go_num, by omega, by go_num, HK2, HK8⟩
            case measure => simp [intOf]; omega
        · have HNO := Lib.hid (show kb y = false from by
            cases hb : kb y with
            | false => rfl
            | true =>
              have h := HFA.out hb
              have := (List.getElem?_eq_some_iff.1 h).1
              rw [HTN.out] at this
              exact absurd this hkt)
          have HK2 := Lib.hid (show k = ((s.links.take (j + 1)).filter kb).length from by rw [HFN.out, ← HKK.out, HNO.out]; rfl)
          clear HFA HFN HKK
          refine wp_region_held_drew (S := fun V => Has V g5 27 (Fc.stateC t) ∧ Has V gy 51 (Fc.linkC y)) (by kernel_rfl) ⟨HK1.out.h5, HY1.out⟩ (fun hHeld => ?_)
          refine Vc.wpAnyH_read (i := 0) (d := some 29) (v := ?v3001) (by rfl) (by rfl) (by kernel_rfl) (by kernel_rfl) (by kernel_rfl) (fun _ _ _ h => h) (by rfl) ?hy3001 (by assumption) ?rest3001
          case hy3001 =>
            intro w hSw
            try dsimp only at hSw
            go_simp
            try with_reducible rfl
          try simp only [Act.put, List.setIfInBounds_toArray, List.set_cons_zero, List.set_cons_succ]
          refine Vc.wpAnyH_read (i := 1) (d := some 30) (v := ?v3002) (by rfl) (by rfl) (by kernel_rfl) (by kernel_rfl) (by kernel_rfl) (fun _ _ _ h => h) (by rfl) ?hy3002 (by assumption) ?rest3002
          case hy3002 =>
            intro w hSw
            try dsimp only at hSw
            go_simp
            try with_reducible rfl
          try simp only [Act.put, List.setIfInBounds_toArray, List.set_cons_zero, List.set_cons_succ]
          refine Vc.wpAnyH_read (i := 2) (d := some 31) (v := .slice t.A2 t.n2 t.c2) (by rfl) (by rfl) (by kernel_rfl) (by kernel_rfl) (by kernel_rfl) (fun _ _ _ h => h) (by rfl) ?hy3003 (by assumption) ?rest3003
          case hy3003 =>
            intro w hSw
            have c := hSw.1.at_ 9; replace c : w.cell? ⟨g5, 9, none⟩ = some (.slice t.A2 t.n2 t.c2) := c; go_simp
          try simp only [Act.put, List.setIfInBounds_toArray, List.set_cons_zero, List.set_cons_succ]
          refine Vc.wpAnyH_read (i := 3) (d := some 32) (v := ?v3004) (by rfl) (by rfl) (by kernel_rfl) (by kernel_rfl) (by kernel_rfl) (fun _ _ _ h => h) (by rfl) ?hy3004 (by assumption) ?rest3004
          case hy3004 =>
            intro w hSw
            try dsimp only at hSw
            go_simp
            try with_reducible rfl
          try simp only [Act.put, List.setIfInBounds_toArray, List.set_cons_zero, List.set_cons_succ]
          refine Vc.wpAnyH_read (i := 4) (d := some 33) (v := .bool false) (by rfl) (by rfl) (by kernel_rfl) (by kernel_rfl) (by kernel_rfl) (fun _ _ _ h => h) (by rfl) ?hy3005 (by assumption) ?rest3005
          case hy3005 =>
            intro w hSw
            have hq : decide ((k : Int) < (t.n2 : Int)) = false := decide_eq_false (by omega); go_simp
          try simp only [Act.put, List.setIfInBounds_toArray, List.set_cons_zero, List.set_cons_succ]
          refine Vc.wpAnyH_read (i := 5) (d := some 34) (v := ?v3006) (by rfl) (by rfl) (by kernel_rfl) (by kernel_rfl) (by kernel_rfl) (fun _ _ _ h => h) (by rfl) ?hy3006 (by assumption) ?rest3006
          case hy3006 =>
            intro w hSw
            try dsimp only at hSw
            go_simp
            try with_reducible rfl
          try simp only [Act.put, List.setIfInBounds_toArray, List.set_cons_zero, List.set_cons_succ]
          refine Vc.wpAnyH_skip (i := 6) (d := some 35) (by rfl) (by rfl) (by kernel_rfl) (by kernel_rfl) (by kernel_rfl) (fun _ _ _ h => h) (by rfl) (by assumption) ?_
          try simp only [Act.put, List.setIfInBounds_toArray, List.set_cons_zero, List.set_cons_succ]
          refine Vc.wpAnyH_skip (i := 7) (d := some 36) (by rfl) (by rfl) (by kernel_rfl) (by kernel_rfl) (by kernel_rfl) (fun _ _ _ h => h) (by rfl) (by assumption) ?_
          try simp only [Act.put, List.setIfInBounds_toArray, List.set_cons_zero, List.set_cons_succ]
          refine Vc.wpAnyH_skip (i := 8) (d := some 37) (by rfl) (by rfl) (by kernel_rfl) (by kernel_rfl) (by kernel_rfl) (fun _ _ _ h => h) (by rfl) (by assumption) ?_
          try simp only [Act.put, List.setIfInBounds_toArray, List.set_cons_zero, List.set_cons_succ]
          refine Vc.wpAnyH_skip (i := 9) (d := some 38) (by rfl) (by rfl) (by kernel_rfl) (by kernel_rfl) (by kernel_rfl) (fun _ _ _ h => h) (by rfl) (by assumption) ?_
          try simp only [Act.put, List.setIfInBounds_toArray, List.set_cons_zero, List.set_cons_succ]
          refine Vc.wpAnyH_skip (i := 10) (d := some 39) (by rfl) (by rfl) (by kernel_rfl) (by kernel_rfl) (by kernel_rfl) (fun _ _ _ h => h) (by rfl) (by assumption) ?_
          try simp only [Act.put, List.setIfInBounds_toArray, List.set_cons_zero, List.set_cons_succ]
          refine Vc.wpAnyH_skip (i := 11) (d := some 40) (by rfl) (by rfl) (by kernel_rfl) (by kernel_rfl) (by kernel_rfl) (fun _ _ _ h => h) (by rfl) (by assumption) ?_
          try simp only [Act.put, List.setIfInBounds_toArray, List.set_cons_zero, List.set_cons_succ]
          refine Vc.wpAnyH_skip (i := 12) (d := some 41) (by rfl) (by rfl) (by kernel_rfl) (by kernel_rfl) (by kernel_rfl) (fun _ _ _ h => h) (by rfl) (by assumption) ?_
          try simp only [Act.put, List.setIfInBounds_toArray, List.set_cons_zero, List.set_cons_succ]
          refine Vc.wpAnyH_read (i := 13) (d := some 42) (v := ?v3014) (by rfl) (by rfl) (by kernel_rfl) (by kernel_rfl) (by kernel_rfl) (fun _ _ _ h => h) (by rfl) ?hy3014 (by assumption) ?rest3014
          case hy3014 =>
            intro w hSw
            try dsimp only at hSw
            go_simp
            try with_reducible rfl
          try simp only [Act.put, List.setIfInBounds_toArray, List.set_cons_zero, List.set_cons_succ]
          refine wpAnyH_done (by kernel_rfl) ?_ _
          obtain ⟨bu, hbu⟩ : ∃ b, us[j]? = some b := by
            have : j < us.length := by rw [HUP.out.len]; exact HJL.out
            exact ⟨_, List.getElem?_eq_getElem this⟩
          obtain rfl : bu = false := by
            cases bu with
            | false => rfl
            | true =>
              have hju : j < us.length := by rw [HUP.out.len]; exact HJL.out
              have h := up_keeps (known := meetV s.seen v) HUP.out HJL.out hju (by rw [List.getElem?_eq_getElem hju] at hbu; exact Option.some.inj hbu)
              rw [← HKB.out, HYJ.out, HNO.out] at h
              cases h
          have HG := Lib.hid (gone_is (show keepB (rootB (meetV s.seen v) (s.links.any (movedB (meetV s.seen v)))) s.links y = false from by rw [← HKB.out]; exact HNO.out))
          have HWD := Lib.hid (fun V => (show Calls Tryz.prog 20 #[.agg (vecC y.de), .agg (vecC v)] V fun e W' => e = .returned (.bool true) ∧ Below V.heap.size V W' from by rw [← (within_meet HG.out.2).2]; exact Vc.rwithin_any y.de v V))
          have HWA := Lib.hid (fun V => (show Calls Tryz.prog 20 #[.agg (vecC y.al), .agg (vecC s.seen)] V fun e W' => e = .returned (.bool true) ∧ Below V.heap.size V W' from by rw [← (within_meet HG.out.1).1]; exact Vc.rwithin_any y.al s.seen V))
          have cu : W6.drew.cell? ⟨ub, j, none⟩ = some (.bool false) := by rw [HK1.out.hu.at_ j]; exact boolsA_at hbu
          clear hbu HG
          go_wp2_with (first | ((with_reducible refine Who.wpList_loadC 23 (.tmp 50) rfl (gy) 17 (vecC y.de) ?_); refine And.intro ⟨by rfl, by rfl, ⟨_, Tryz.underlying23, rfl⟩, info_vec⟩ (And.intro (link_de HY1.out) ?_); (try simp only [Act.put, List.setIfInBounds_toArray, List.set_cons_zero, List.set_cons_succ])) | ((with_reducible refine Who.wpList_loadC 23 (.tmp 3) rfl (g3) 0 (vecC v) ?_); refine And.intro ⟨by rfl, by rfl, ⟨_, Tryz.underlying23, rfl⟩, info_vec⟩ (And.intro (Who.has_range HK1.out.h3) ?_); (try simp only [Act.put, List.setIfInBounds_toArray, List.set_cons_zero, List.set_cons_succ])) | fail)
          refine (HWD.out _).mono ?_
          rintro e w7 ⟨rfl, hb7⟩
          have HK7 := Lib.hid (HK1.out.low hb7)
          have HY7 := Lib.hid (HY1.out.below hb7)
          clear hb7 HK1 HY1 cu HWD
          go_wp2_with (first | ((with_reducible refine Who.wpList_loadC 23 (.tmp 57) rfl (gy) 9 (vecC y.al) ?_); refine And.intro ⟨by rfl, by rfl, ⟨_, Tryz.underlying23, rfl⟩, info_vec⟩ (And.intro (link_al HY7.out) ?_); (try simp only [Act.put, List.setIfInBounds_toArray, List.set_cons_zero, List.set_cons_succ])) | ((with_reducible refine Who.wpList_loadC 23 (.tmp 59) rfl (g2) 0 (vecC s.seen) ?_); refine And.intro ⟨by rfl, by rfl, ⟨_, Tryz.underlying23, rfl⟩, info_vec⟩ (And.intro (st_seen HK7.out.h2) ?_); (try simp only [Act.put, List.setIfInBounds_toArray, List.set_cons_zero, List.set_cons_succ])) | fail)
          refine (HWA.out _).mono ?_
          rintro e w8 ⟨rfl, hb8⟩
          have HK8 := Lib.hid (HK7.out.low hb8)
          clear hb8 HK7 HY7 HWA
          go_wp2
          go_roundw
          case rel => exact ⟨j + 1, k, by go_num, by omega, by go_num, HK2, HK8⟩
          case measure => simp [intOf]; omega
      · obtain rfl : s.n2 = j := by omega
        obtain rfl : t.n2 = k := by have h := HKK.out; rw [← HLN.out, List.take_length, ← HTL.out, HTN.out] at h; exact h.symm
        have HK1 := Lib.hid (HK.out.low (Below.refl _ _).drew)
        have HLT := Lib.hid (limS_of HK.out.tin (by rw [HP1.out]; exact limP_prune (limP_of (HIA.out _ HK.out.below) HLA.out)))
        clear HK HKK
        go_wp2_with fail
        refine wp_region_held_drew (S := fun V => Has V g2 27 (Fc.stateC s) ∧ Has V g3 23 (vecC v) ∧ Has V g5 27 (Fc.stateC t)) (by kernel_rfl) ⟨HK1.out.h2, HK1.out.h3, HK1.out.h5⟩ (fun hHeld => ?_)
        refine Vc.wpAnyH_read (i := 0) (d := some 65) (v := ?v5001) (by rfl) (by rfl) (by kernel_rfl) (by kernel_rfl) (by kernel_rfl) (fun _ _ _ h => h) (by rfl) ?hy5001 (by assumption) ?rest5001
        case hy5001 =>
          intro w hSw
          try dsimp only at hSw
          go_simp
          try with_reducible rfl
        try simp only [Act.put, List.setIfInBounds_toArray, List.set_cons_zero, List.set_cons_succ]
        refine Vc.wpAnyH_read (i := 1) (d := some 66) (v := ?v5002) (by rfl) (by rfl) (by kernel_rfl) (by kernel_rfl) (by kernel_rfl) (fun _ _ _ h => h) (by rfl) ?hy5002 (by assumption) ?rest5002
        case hy5002 =>
          intro w hSw
          try dsimp only at hSw
          go_simp
          try with_reducible rfl
        try simp only [Act.put, List.setIfInBounds_toArray, List.set_cons_zero, List.set_cons_succ]
        refine Vc.wpAnyH_read (i := 2) (d := some 67) (v := .slice t.A2 t.n2 t.c2) (by rfl) (by rfl) (by kernel_rfl) (by kernel_rfl) (by kernel_rfl) (fun _ _ _ h => h) (by rfl) ?hy5003 (by assumption) ?rest5003
        case hy5003 =>
          intro w hSw
          have c := hSw.2.2.at_ 9; replace c : w.cell? ⟨g5, 9, none⟩ = some (.slice t.A2 t.n2 t.c2) := c; go_simp
        try simp only [Act.put, List.setIfInBounds_toArray, List.set_cons_zero, List.set_cons_succ]
        refine Vc.wpAnyH_read (i := 3) (d := some 68) (v := ?v5004) (by rfl) (by rfl) (by kernel_rfl) (by kernel_rfl) (by kernel_rfl) (fun _ _ _ h => h) (by rfl) ?hy5004 (by assumption) ?rest5004
        case hy5004 =>
          intro w hSw
          try dsimp only at hSw
          go_simp
          try with_reducible rfl
        try simp only [Act.put, List.setIfInBounds_toArray, List.set_cons_zero, List.set_cons_succ]
        refine Vc.wpAnyH_read (i := 4) (d := some 69) (v := .bool true) (by rfl) (by rfl) (by kernel_rfl) (by kernel_rfl) (by kernel_rfl) (fun _ _ _ h => h) (by rfl) ?hy5005 (by assumption) ?rest5005
        case hy5005 =>
          intro w hSw
          go_simp
        try simp only [Act.put, List.setIfInBounds_toArray, List.set_cons_zero, List.set_cons_succ]
        refine Vc.wpAnyH_read (i := 5) (d := some 70) (v := ?v5006) (by rfl) (by rfl) (by kernel_rfl) (by kernel_rfl) (by kernel_rfl) (fun _ _ _ h => h) (by rfl) ?hy5006 (by assumption) ?rest5006
        case hy5006 =>
          intro w hSw
          try dsimp only at hSw
          go_simp
          try with_reducible rfl
        try simp only [Act.put, List.setIfInBounds_toArray, List.set_cons_zero, List.set_cons_succ]
        refine Vc.wpAnyH_read (i := 6) (d := some 71) (v := ?v5007) (by rfl) (by rfl) (by kernel_rfl) (by kernel_rfl) (by kernel_rfl) (fun _ _ _ h => h) (by rfl) ?hy5007 (by assumption) ?rest5007
        case hy5007 =>
          intro w hSw
          try dsimp only at hSw
          go_simp
          try with_reducible rfl
        try simp only [Act.put, List.setIfInBounds_toArray, List.set_cons_zero, List.set_cons_succ]
        refine Vc.wpAnyH_read (i := 7) (d := some 72) (v := .agg (vecC t.seen)) (by rfl) (by rfl) (by kernel_rfl) (by kernel_rfl) (by kernel_rfl) (fun _ _ _ h => h) (by rfl) ?hy5008 (by assumption) ?rest5008
        case hy5008 =>
          intro w hSw
          exact Who.exec_loadA _ rfl rfl (st_seen hSw.2.2) Tryz.underlying23 rfl info_vec
        try simp only [Act.put, List.setIfInBounds_toArray, List.set_cons_zero, List.set_cons_succ]
        refine Vc.wpAnyH_read (i := 8) (d := some 73) (v := ?v5009) (by rfl) (by rfl) (by kernel_rfl) (by kernel_rfl) (by kernel_rfl) (fun _ _ _ h => h) (by rfl) ?hy5009 (by assumption) ?rest5009
        case hy5009 =>
          intro w hSw
          try dsimp only at hSw
          go_simp
          try with_reducible rfl
        try simp only [Act.put, List.setIfInBounds_toArray, List.set_cons_zero, List.set_cons_succ]
        refine Vc.wpAnyH_read (i := 9) (d := some 74) (v := .agg (vecC s.seen)) (by rfl) (by rfl) (by kernel_rfl) (by kernel_rfl) (by kernel_rfl) (fun _ _ _ h => h) (by rfl) ?hy5010 (by assumption) ?rest5010
        case hy5010 =>
          intro w hSw
          exact Who.exec_loadA _ rfl rfl (st_seen hSw.1) Tryz.underlying23 rfl info_vec
        try simp only [Act.put, List.setIfInBounds_toArray, List.set_cons_zero, List.set_cons_succ]
        refine Vc.wpAnyH_read (i := 10) (d := some 75) (v := .bool true) (by rfl) (by rfl) (by kernel_rfl) (by kernel_rfl) (by kernel_rfl) (fun _ _ _ h => h) (by rfl) ?hy5011 (by assumption) ?rest5011
        case hy5011 =>
          intro w hSw
          have hq := Vc.eqv t.seen s.seen w; rw [show Vc.eq8 t.seen s.seen = true from by rw [HTS.out]; exact Vc.eq8_self _] at hq; go_simp
        try simp only [Act.put, List.setIfInBounds_toArray, List.set_cons_zero, List.set_cons_succ]
        refine Vc.wpAnyH_read (i := 11) (d := some 76) (v := ?v5012) (by rfl) (by rfl) (by kernel_rfl) (by kernel_rfl) (by kernel_rfl) (fun _ _ _ h => h) (by rfl) ?hy5012 (by assumption) ?rest5012
        case hy5012 =>
          intro w hSw
          try dsimp only at hSw
          go_simp
          try with_reducible rfl
        try simp only [Act.put, List.setIfInBounds_toArray, List.set_cons_zero, List.set_cons_succ]
        refine Vc.wpAnyH_read (i := 12) (d := some 77) (v := ?v5013) (by rfl) (by rfl) (by kernel_rfl) (by kernel_rfl) (by kernel_rfl) (fun _ _ _ h => h) (by rfl) ?hy5013 (by assumption) ?rest5013
        case hy5013 =>
          intro w hSw
          try dsimp only at hSw
          go_simp
          try with_reducible rfl
        try simp only [Act.put, List.setIfInBounds_toArray, List.set_cons_zero, List.set_cons_succ]
        refine Vc.wpAnyH_read (i := 13) (d := some 78) (v := .agg (Fc.stateC t)) (by rfl) (by rfl) (by kernel_rfl) (by kernel_rfl) (by kernel_rfl) (fun _ _ _ h => h) (by rfl) ?hy5014 (by assumption) ?rest5014
        case hy5014 =>
          intro w hSw
          exact Who.exec_loadA _ rfl rfl (Who.has_range hSw.2.2) Tryz.underlying27 rfl info_state
        try simp only [Act.put, List.setIfInBounds_toArray, List.set_cons_zero, List.set_cons_succ]
        refine Vc.wpAnyH_read (i := 14) (d := some 79) (v := .agg (vecC v)) (by rfl) (by rfl) (by kernel_rfl) (by kernel_rfl) (by kernel_rfl) (fun _ _ _ h => h) (by rfl) ?hy5015 (by assumption) ?rest5015
        case hy5015 =>
          intro w hSw
          exact Who.exec_loadA _ rfl rfl (Who.has_range hSw.2.1) Tryz.underlying23 rfl info_vec
        try simp only [Act.put, List.setIfInBounds_toArray, List.set_cons_zero, List.set_cons_succ]
        refine Vc.wpAnyH_read (i := 16) (d := some 81) (v := .agg (Fc.stateC t)) (by rfl) (by rfl) (by kernel_rfl) (by kernel_rfl) (by kernel_rfl) (fun _ _ _ h => h) (by rfl) ?hy5016 (by assumption) ?rest5016
        case hy5016 =>
          intro w hSw
          exact Who.exec_loadA _ rfl rfl (Who.has_range hSw.2.2) Tryz.underlying27 rfl info_state
        try simp only [Act.put, List.setIfInBounds_toArray, List.set_cons_zero, List.set_cons_succ]
        refine wpAnyH_ready (rs := [15]) (by kernel_rfl) (by simp) ?_
        refine AllReadyH.cons rfl (fun K hK => ?_) AllReadyH.nil
        go_simp
        go_at_call 23
        refine (pruneA t v _ HK1.out.tin HLT.out).mono ?_
        rintro e w12 ⟨t2, rfl, hp2, ho2, hb⟩
        have HK2 := Lib.hid (HK1.out.low hb)
        have HP2 := Lib.hid (show t2.p = t.p from by rw [hp2, HP1.out, prune_twice])
        have HN2 := Lib.hid ho2.in_
        have HL2 := Lib.hid (limS_of ho2.in_ (by rw [hp2]; exact limP_prune (limP_of HK1.out.tin HLT.out)))
        clear hp2 ho2 hb HK1
        refine hK.out _ _ ⟨HK2.out.h2, HK2.out.h3, HK2.out.h5⟩ (fun hHeld => ?_)
        clear hK K
        try simp only [Act.put, List.setIfInBounds_toArray, List.set_cons_zero, List.set_cons_succ]
        refine wpAnyH_ready (rs := [17]) (by kernel_rfl) (by simp) ?_
        refine AllReadyH.cons rfl (fun K hK => ?_) AllReadyH.nil
        go_simp
        go_at_call 19
        refine (Fc.same_any t2 t _ (row_in HN2.out HL2.out (by decide)) (row_in HK2.out.tin HLT.out (by decide))).mono ?_
        rintro e w13 ⟨⟨bb, rfl, hbb⟩, hb⟩
        obtain rfl : bb = true := hbb.2 (same_yes HP2.out)
        have HK3 := Lib.hid (HK2.out.low hb)
        clear hbb hb HK2 HN2
        refine hK.out _ _ ⟨HK3.out.h2, HK3.out.h3, HK3.out.h5⟩ (fun hHeld => ?_)
        clear hK K
        try simp only [Act.put, List.setIfInBounds_toArray, List.set_cons_zero, List.set_cons_succ]
        refine Vc.wpAnyH_read (i := 18) (d := some 83) (v := ?v5017) (by rfl) (by rfl) (by kernel_rfl) (by kernel_rfl) (by kernel_rfl) (fun _ _ _ h => h) (by rfl) ?hy5017 (by assumption) ?rest5017
        case hy5017 =>
          intro w hSw
          try dsimp only at hSw
          go_simp
          try with_reducible rfl
        try simp only [Act.put, List.setIfInBounds_toArray, List.set_cons_zero, List.set_cons_succ]
        refine Vc.wpAnyH_read (i := 19) (d := some 84) (v := ?v5018) (by rfl) (by rfl) (by kernel_rfl) (by kernel_rfl) (by kernel_rfl) (fun _ _ _ h => h) (by rfl) ?hy5018 (by assumption) ?rest5018
        case hy5018 =>
          intro w hSw
          try dsimp only at hSw
          go_simp
          try with_reducible rfl
        try simp only [Act.put, List.setIfInBounds_toArray, List.set_cons_zero, List.set_cons_succ]
        refine wpAnyH_ready (rs := [20]) (by kernel_rfl) (by simp) ?_
        refine AllReadyH.cons rfl (fun K hK => ?_) AllReadyH.nil
        go_simp
        go_at_call 12
        refine (awake_any _).mono ?_
        rintro e w14 ⟨rfl, hb⟩
        have HK4 := Lib.hid (HK3.out.low hb)
        clear hb HK3
        refine hK.out _ _ ⟨HK4.out.h2, HK4.out.h3, HK4.out.h5⟩ (fun hHeld => ?_)
        clear hK K
        try simp only [Act.put, List.setIfInBounds_toArray, List.set_cons_zero, List.set_cons_succ]
        refine Vc.wpAnyH_read (i := 21) (d := some 86) (v := ?v5019) (by rfl) (by rfl) (by kernel_rfl) (by kernel_rfl) (by kernel_rfl) (fun _ _ _ h => h) (by rfl) ?hy5019 (by assumption) ?rest5019
        case hy5019 =>
          intro w hSw
          try dsimp only at hSw
          go_simp
          try with_reducible rfl
        try simp only [Act.put, List.setIfInBounds_toArray, List.set_cons_zero, List.set_cons_succ]
        refine Vc.wpAnyH_read (i := 22) (d := some 4) (v := ?v5020) (by rfl) (by rfl) (by kernel_rfl) (by kernel_rfl) (by kernel_rfl) (fun _ _ _ h => h) (by rfl) ?hy5020 (by assumption) ?rest5020
        case hy5020 =>
          intro w hSw
          try dsimp only at hSw
          go_simp
          try with_reducible rfl
        try simp only [Act.put, List.setIfInBounds_toArray, List.set_cons_zero, List.set_cons_succ]
        refine wpAnyH_done (by kernel_rfl) ?_ _
        go_wp2
        go_ret
        exact ⟨rfl, HK4.out.below⟩
end Go.Proofs.YtblogecapegbmaaGreat.Jn
