/- May a state be gone through: what Small answers, and what it tells. -/
import Derived.Test.YtblogecapegbmaaGreatJnM
import Derived.Lib.MinMax
namespace Go.Proofs.YtblogecapegbmaaGreat.Jn
open Go.RowKit Go.Proofs.YtblogecapegbmaaGreat.Mem
open Go.Proofs.YtblogecapegbmaaGreat.Fc (NodeP LinkP NodeC PieceP XattrP nodeC linkC pieceC xattrC)
set_option linter.unusedVariables false set_option linter.unusedSimpArgs false

def SmallIs (d : Fc.StateC) (e : Ending) : Prop := ∃ b, e = .returned (.bool b) ∧ (b = true → (d.n1 ≤ 120 ∧ d.n2 ≤ 120) ∧ ∀ x ∈ d.nodes, x.n1 ≤ 120 ∧ x.n2 ≤ 120)
def Few (d : Fc.StateC) (j : Nat) : Prop := ∀ x ∈ d.nodes.take j, x.n1 ≤ 120 ∧ x.n2 ≤ 120
theorem few_next {d : Fc.StateC} {j : Nat} {x : NodeC} (h : Few d j) (hj : j < d.nodes.length) (hx : x = d.nodes[j]) (h1 : x.n1 ≤ 120) (h2 : x.n2 ≤ 120) : Few d (j + 1) := fun y hy => by
 rw [List.take_succ_eq_append_getElem hj] at hy
 rcases List.mem_append.1 hy with hy | hy
 ·exact h y hy
 ·rw [List.mem_singleton.1 hy, ← hx]
  exact ⟨h1, h2⟩
theorem few_all {d : Fc.StateC} {j : Nat} (h : Few d j) (hl : d.nodes.length = j) : ∀ x ∈ d.nodes, x.n1 ≤ 120 ∧ x.n2 ≤ 120 := fun x hx => h x (by rw [List.take_of_length_le (by omega)]; exact hx)
structure BxI (t : TypeId) (cs : Array Value) (w wr : World) : Prop where
 below : Below w.heap.size w wr
 has : Has wr w.heap.size t cs
theorem BxI.start (w : World) (t : TypeId) (cs : Array Value) : BxI t cs w (w.alloc (.cells cs t)) := ⟨(Below.refl w.heap.size w).alloc (Nat.le_refl _) _, Has.fresh w _ _⟩
theorem BxI.low {t : TypeId} {cs : Array Value} {w wr w2 : World} (h : BxI t cs w wr) (hb : Below wr.heap.size wr w2) : BxI t cs w w2 := ⟨h.below.trans (hb.mono h.below.size), h.has.below hb⟩
set_option maxRecDepth 100000 in
set_option maxHeartbeats 4000000 in
theorem Small_any (d : Fc.StateC) (w : World) (hd : Fc.StateFit w d) : Calls Tryz.prog 32 #[.agg (Fc.stateC d)] w fun e w' => SmallIs d e ∧ Below w.heap.size w w' := by
 have H0 := Lib.hid (BxI.start w 27 (Fc.stateC d))
 have HFX := Lib.hid (show ∀ V, Below w.heap.size w V → Fc.StateFit V d from fun V h => hd.below h)
 have c8 : (w.alloc (.cells (Fc.stateC d) 27)).cell? ⟨w.heap.size, 8, none⟩ = some (.slice d.A1 d.n1 d.c1) := H0.out.has.at_ 8
 have c9 : (w.alloc (.cells (Fc.stateC d) 27)).cell? ⟨w.heap.size, 9, none⟩ = some (.slice d.A2 d.n2 d.c2) := H0.out.has.at_ 9
 go_enter Tryz.func32, Tryz.ntmps32
 by_cases h1 : (120 : Int) < d.n1
 ·go_wp2
  go_ret
  exact ⟨⟨false, rfl, fun h => by cases h⟩, H0.out.below⟩
 by_cases h2 : (120 : Int) < d.n2
 ·go_wp2
  go_ret
  exact ⟨⟨false, rfl, fun h => by cases h⟩, H0.out.below⟩
 have HN1 := Lib.hid (show d.n1 ≤ 120 ∧ d.n2 ≤ 120 by omega)
 have HLD := Lib.hid (hd.nodes.len)
 clear hd
 go_wp2
 go_loopw [3, 25] (fun a i wr => ∃ j N : Nat, j ≤ d.n1 ∧ N ≤ 16384 ∧ i = .int .i64 j ∧ a = .int .i64 N ∧ Hid (Few d j) ∧ Hid (BxI 27 (Fc.stateC d) w wr)) (fun _ i _ => d.n1 - (intOf i).toNat)
 case atStart => exact ⟨0, 0, by omega, by omega, rfl, rfl, Lib.hid (fun x hx => by simp at hx), H0⟩
 case round =>
  clear c8 c9 H0
  obtain ⟨j, N, hj, hN, rfl, rfl, HFE, HI⟩ := hrel
  obtain ⟨wd, hwd⟩ : ∃ wd : World, wd = wr := ⟨_, rfl⟩
  subst hwd
  by_cases hlt : j < d.n1
  ·have hlti : (j : Int) < d.n1 := by omega
   have HJ := Lib.hid hlt
   obtain ⟨b, off, hA, hbl, hx1, mr⟩ := (HFX.out _ HI.out.below).nodes.range hlt
   have HF1 := Lib.hid ((HFX.out _ HI.out.below).each _ (List.getElem_mem hx1))
   obtain ⟨x, hp⟩ : ∃ x, x = d.nodes[j] := ⟨_, rfl⟩
   rw [← hp] at mr HF1
   have HEN := Lib.hid (few_next HFE.out hx1 hp)
   have MR := Lib.hid mr
   have HW := Lib.hid (HI.out.low ((Below.refl _ _).alloc (Nat.le_refl _) (.cells (nodeC x) 46)))
   have HN := Lib.hid (Has.fresh wd 46 (nodeC x))
   have HFW := Lib.hid (show ∀ V, Below wd.heap.size wd V → Fc.NodeFit V x from fun V h => HF1.out.below h)
   have hts := HF1.out.text
   have mx1 := HF1.out.m1
   have mx2 := HF1.out.m2
   unfold maxLen at hts
   obtain ⟨m1, hm1⟩ : ∃ m1 : Nat, m1 = min (x.p.text.size) 16384 := ⟨_, rfl⟩
   have hk1 : min ((x.p.text.size : Nat) : Int) 16384 = m1 := by omega
   have hb1 : m1 ≤ 16384 := by omega
   have w1 : IntKind.i64.wrap ((N : Int) + (m1 : Int)) = (N : Int) + (m1 : Int) := by rw [IntKind.wrap_i64]; omega
   have c3 : (wd.alloc (.cells (nodeC x) 46)).cell? ⟨wd.heap.size, 3, none⟩ = some (.string x.p.text) := HN.out.at_ 3
   have c11 : (wd.alloc (.cells (nodeC x) 46)).cell? ⟨wd.heap.size, 11, none⟩ = some (.slice x.A1 x.n1 x.c1) := HN.out.at_ 11
   have c12 : (wd.alloc (.cells (nodeC x) 46)).cell? ⟨wd.heap.size, 12, none⟩ = some (.slice x.A2 x.n2 x.c2) := HN.out.at_ 12
   clear hj hlt hbl hx1 mr hp hm1 hts
   rw [hA]
   by_cases p1 : (120 : Int) < x.n1
   ·go_wp2_with (first | ((with_reducible refine Who.wpList_loadC 46 (.tmp 27) rfl b (off + j * 13) (nodeC x) ?_); refine And.intro ⟨by rfl, by rfl, ⟨_, Tryz.underlying46, rfl⟩, infoN⟩ (And.intro (MR.out) ?_); (try simp only [Act.put, List.setIfInBounds_toArray, List.set_cons_zero, List.set_cons_succ])) | ((with_reducible refine Who.wpList_newC 46 5 (.tmp 28) rfl rfl rfl (zeroN) (nodeC x) ?_); refine And.intro ⟨rfl, rfl, rfl, allocN, by rfl, by rfl, infoN, rfl, oneN _⟩ ?_; (try simp only [Act.put, List.setIfInBounds_toArray, List.set_cons_zero, List.set_cons_succ]); (try simp only [World.size_alloc])) | fail)
    go_ret
    exact ⟨⟨false, rfl, fun h => by cases h⟩, HW.out.below⟩
   by_cases p2 : (120 : Int) < x.n2
   ·go_wp2_with (first | ((with_reducible refine Who.wpList_loadC 46 (.tmp 27) rfl b (off + j * 13) (nodeC x) ?_); refine And.intro ⟨by rfl, by rfl, ⟨_, Tryz.underlying46, rfl⟩, infoN⟩ (And.intro (MR.out) ?_); (try simp only [Act.put, List.setIfInBounds_toArray, List.set_cons_zero, List.set_cons_succ])) | ((with_reducible refine Who.wpList_newC 46 5 (.tmp 28) rfl rfl rfl (zeroN) (nodeC x) ?_); refine And.intro ⟨rfl, rfl, rfl, allocN, by rfl, by rfl, infoN, rfl, oneN _⟩ ?_; (try simp only [Act.put, List.setIfInBounds_toArray, List.set_cons_zero, List.set_cons_succ]); (try simp only [World.size_alloc])) | fail)
    go_ret
    exact ⟨⟨false, rfl, fun h => by cases h⟩, HW.out.below⟩
   have HE2 := Lib.hid (HEN.out (by omega) (by omega))
   go_wp2_with (first | ((with_reducible refine Who.wpList_loadC 46 (.tmp 27) rfl b (off + j * 13) (nodeC x) ?_); refine And.intro ⟨by rfl, by rfl, ⟨_, Tryz.underlying46, rfl⟩, infoN⟩ (And.intro (MR.out) ?_); (try simp only [Act.put, List.setIfInBounds_toArray, List.set_cons_zero, List.set_cons_succ])) | ((with_reducible refine Who.wpList_newC 46 5 (.tmp 28) rfl rfl rfl (zeroN) (nodeC x) ?_); refine And.intro ⟨rfl, rfl, rfl, allocN, by rfl, by rfl, infoN, rfl, oneN _⟩ ?_; (try simp only [Act.put, List.setIfInBounds_toArray, List.set_cons_zero, List.set_cons_succ]); (try simp only [World.size_alloc])) | fail)
   go_loopw [3, 48] (fun a i wr => ∃ k M : Nat, k ≤ x.n1 ∧ M ≤ 40000 + k * 16385 ∧ i = .int .i64 k ∧ a = .int .i64 M ∧ Hid (BxI 27 (Fc.stateC d) w wr) ∧ Hid (Below (wd.alloc (.cells (nodeC x) 46)).heap.size (wd.alloc (.cells (nodeC x) 46)) wr)) (fun _ i _ => x.n1 - (intOf i).toNat)
   case atStart => exact ⟨0, N + m1, by omega, by omega, rfl, by go_num, HW, Lib.hid (Below.refl _ _)⟩
   case round =>
    clear c3 c11 c12 w1 hk1
    obtain ⟨k, M, hk, hM, rfl, rfl, HP, HB⟩ := hrel
    obtain ⟨we, hwe⟩ : ∃ we : World, we = wr := ⟨_, rfl⟩
    subst hwe
    by_cases hlt : k < x.n1
    ·have hlti2 : (k : Int) < x.n1 := by omega
     have HK := Lib.hid hlt
     have HM := Lib.hid hM
     have HFY := Lib.hid (HFW.out _ (((Below.refl _ _).alloc (Nat.le_refl _) (.cells (nodeC x) 46)).trans (HB.out.mono (by simp))))
     obtain ⟨b2, off2, hA2, hbl2, hx2, mr2⟩ := HFY.out.ps.range hlt
     have hsz := HFY.out.pdata _ (List.getElem_mem hx2)
     obtain ⟨p, hp2⟩ : ∃ p, p = x.p.ps[k] := ⟨_, rfl⟩
     rw [← hp2] at mr2 hsz
     have MR2 := Lib.hid mr2
     unfold maxLen at hsz
     obtain ⟨m2, hm2⟩ : ∃ m2 : Nat, m2 = min (p.data.size) 16384 := ⟨_, rfl⟩
     have hk2 : min ((p.data.size : Nat) : Int) 16384 = m2 := by omega
     have hb2 : m2 ≤ 16384 := by omega
     have w2 : IntKind.i64.wrap (1 + (m2 : Int)) = 1 + (m2 : Int) := by rw [IntKind.wrap_i64]; omega
     have w3 : IntKind.i64.wrap ((M : Int) + (1 + (m2 : Int))) = (M : Int) + (1 + (m2 : Int)) := by rw [IntKind.wrap_i64]; omega
     have HMM := Lib.hid (show M + (1 + m2) ≤ 40000 + (k + 1) * 16385 by omega)
     have HP2 := Lib.hid (HP.out.low ((Below.refl _ _).alloc (Nat.le_refl _) (.cells (pieceC p) 74)))
     have HB2 := Lib.hid (HB.out.alloc HB.out.size (.cells (pieceC p) 74))
     have d3 : (we.alloc (.cells (pieceC p) 74)).cell? ⟨we.heap.size, 3, none⟩ = some (.string p.data) := (Has.fresh we 74 (pieceC p)).at_ 3
     clear hk hM hlt hbl2 hx2 mr2 hp2 hm2 hsz
     rw [hA2]
     go_wp2_with (first | ((with_reducible refine Who.wpList_loadC 74 (.tmp 50) rfl b2 (off2 + k * 4) (pieceC p) ?_); refine And.intro ⟨by rfl, by rfl, ⟨_, Tryz.underlying74, rfl⟩, infoP⟩ (And.intro (MR2.out) ?_); (try simp only [Act.put, List.setIfInBounds_toArray, List.set_cons_zero, List.set_cons_succ])) | ((with_reducible refine Who.wpList_newC 74 7 (.tmp 51) rfl rfl rfl (zeroP) (pieceC p) ?_); refine And.intro ⟨rfl, rfl, rfl, allocP, by rfl, by rfl, infoP, rfl, oneP _⟩ ?_; (try simp only [Act.put, List.setIfInBounds_toArray, List.set_cons_zero, List.set_cons_succ]); (try simp only [World.size_alloc])) | fail)
     go_roundw
     case rel => exact ⟨k + 1, M + (1 + m2), HK.out, HMM.out, by go_num, by go_num, HP2, HB2⟩
     case measure => have := HK.out; simp [intOf]; omega
    ·obtain rfl : k = x.n1 := by omega
     have hM2 : M ≤ 2100000 := by omega
     have HN2 := Lib.hid (HN.out.below HB.out)
     have c12 : we.cell? ⟨wd.heap.size, 12, none⟩ = some (.slice x.A2 x.n2 x.c2) := HN2.out.at_ 12
     clear hM hk hlt
     go_wp2
     go_loopw [3, 63] (fun a i wr => ∃ k R : Nat, k ≤ x.n2 ∧ R ≤ 2100000 + k * 32769 ∧ i = .int .i64 k ∧ a = .int .i64 R ∧ Hid (BxI 27 (Fc.stateC d) w wr) ∧ Hid (Below (wd.alloc (.cells (nodeC x) 46)).heap.size (wd.alloc (.cells (nodeC x) 46)) wr)) (fun _ i _ => x.n2 - (intOf i).toNat)
     case atStart => exact ⟨0, M, by omega, by omega, rfl, rfl, HP, HB⟩
     case round =>
      clear c12 HP HB hM2
      obtain ⟨k, R, hk, hR, rfl, rfl, HP, HB⟩ := hrel
      obtain ⟨wf, hwf⟩ : ∃ wf : World, wf = wr := ⟨_, rfl⟩
      subst hwf
      by_cases hlt : k < x.n2
      ·have hlti3 : (k : Int) < x.n2 := by omega
       have HK := Lib.hid hlt
       have HFY := Lib.hid (HFW.out _ (((Below.refl _ _).alloc (Nat.le_refl _) (.cells (nodeC x) 46)).trans (HB.out.mono (by simp))))
       obtain ⟨b3, off3, hA3, hbl3, hx3, mr3⟩ := HFY.out.xs.range hlt
       have hsz := HFY.out.xdata _ (List.getElem_mem hx3)
       obtain ⟨p, hp3⟩ : ∃ p, p = x.p.xs[k] := ⟨_, rfl⟩
       rw [← hp3] at mr3 hsz
       have MR3 := Lib.hid mr3
       unfold maxLen at hsz
       obtain ⟨m3, hm3⟩ : ∃ m3 : Nat, m3 = min (p.name.size) 16384 := ⟨_, rfl⟩
       have hk3 : min ((p.name.size : Nat) : Int) 16384 = m3 := by omega
       have hb3 : m3 ≤ 16384 := by omega
       obtain ⟨m4, hm4⟩ : ∃ m4 : Nat, m4 = min (p.val.size) 16384 := ⟨_, rfl⟩
       have hk4 : min ((p.val.size : Nat) : Int) 16384 = m4 := by omega
       have hb4 : m4 ≤ 16384 := by omega
       have w2 : IntKind.i64.wrap (1 + (m3 : Int)) = 1 + (m3 : Int) := by rw [IntKind.wrap_i64]; omega
       have w4 : IntKind.i64.wrap (1 + (m3 : Int) + (m4 : Int)) = 1 + (m3 : Int) + (m4 : Int) := by rw [IntKind.wrap_i64]; omega
       have w3 : IntKind.i64.wrap ((R : Int) + (1 + (m3 : Int) + (m4 : Int))) = (R : Int) + (1 + (m3 : Int) + (m4 : Int)) := by rw [IntKind.wrap_i64]; omega
       have HMM := Lib.hid (show R + (1 + m3 + m4) ≤ 2100000 + (k + 1) * 32769 by omega)
       have HP2 := Lib.hid (HP.out.low ((Below.refl _ _).alloc (Nat.le_refl _) (.cells (xattrC p) 77)))
       have HB2 := Lib.hid (HB.out.alloc HB.out.size (.cells (xattrC p) 77))
       have d0 : (wf.alloc (.cells (xattrC p) 77)).cell? ⟨wf.heap.size, 0, none⟩ = some (.string p.name) := (Has.fresh wf 77 (xattrC p)).at_ 0
       have d3 : (wf.alloc (.cells (xattrC p) 77)).cell? ⟨wf.heap.size, 3, none⟩ = some (.string p.val) := (Has.fresh wf 77 (xattrC p)).at_ 3
       clear hk hR hlt hbl3 hx3 mr3 hp3 hm3 hm4 hsz
       rw [hA3]
       go_wp2_with (first | ((with_reducible refine Who.wpList_loadC 77 (.tmp 65) rfl b3 (off3 + k * 5) (xattrC p) ?_); refine And.intro ⟨by rfl, by rfl, ⟨_, Tryz.underlying77, rfl⟩, infoX⟩ (And.intro (MR3.out) ?_); (try simp only [Act.put, List.setIfInBounds_toArray, List.set_cons_zero, List.set_cons_succ])) | ((with_reducible refine Who.wpList_newC 77 9 (.tmp 66) rfl rfl rfl (zeroX) (xattrC p) ?_); refine And.intro ⟨rfl, rfl, rfl, allocX, by rfl, by rfl, infoX, rfl, oneX _⟩ ?_; (try simp only [Act.put, List.setIfInBounds_toArray, List.set_cons_zero, List.set_cons_succ]); (try simp only [World.size_alloc])) | fail)
       go_roundw
       case rel => exact ⟨k + 1, R + (1 + m3 + m4), HK.out, HMM.out, by go_num, by go_num, HP2, HB2⟩
       case measure => have := HK.out; simp [intOf]; omega
      ·obtain rfl : k = x.n2 := by omega
       clear hR hk hlt
       by_cases hb : (16384 : Int) < R
       ·go_wp2
        go_ret
        exact ⟨⟨false, rfl, fun h => by cases h⟩, HP.out.below⟩
       ·have hRN : R ≤ 16384 := by omega
        go_wp2
        go_roundw
        case rel => exact ⟨j + 1, R, HJ.out, hRN, by go_num, rfl, HE2, HP⟩
        case measure => have := HJ.out; simp [intOf]; omega
  ·obtain rfl : j = d.n1 := by omega
   have HALL := Lib.hid (few_all HFE.out HLD.out)
   have c9 : wd.cell? ⟨w.heap.size, 9, none⟩ = some (.slice d.A2 d.n2 d.c2) := HI.out.has.at_ 9
   clear hj hlt
   go_wp2
   go_loopw [3, 86] (fun a i wr => ∃ k R : Nat, k ≤ d.n2 ∧ R ≤ 16384 ∧ i = .int .i64 k ∧ a = .int .i64 R ∧ Hid (BxI 27 (Fc.stateC d) w wr)) (fun _ i _ => d.n2 - (intOf i).toNat)
   case atStart => exact ⟨0, N, by omega, by omega, rfl, rfl, HI⟩
   case round =>
    clear c9 HI hN
    obtain ⟨k, R, hk, hR, rfl, rfl, HI⟩ := hrel
    by_cases hlt : k < d.n2
    ·have hlti3 : (k : Int) < d.n2 := by omega
     have HK := Lib.hid hlt
     obtain ⟨b3, off3, hA3, hbl3, hx3, mr3⟩ := (HFX.out _ HI.out.below).links.range hlt
     have hsz := (HFX.out _ HI.out.below).names _ (List.getElem_mem hx3)
     obtain ⟨p, hp3⟩ : ∃ p, p = d.links[k] := ⟨_, rfl⟩
     rw [← hp3] at mr3 hsz
     have MR3 := Lib.hid mr3
     unfold maxLen at hsz
     obtain ⟨m3, hm3⟩ : ∃ m3 : Nat, m3 = min (p.name.size) 16384 := ⟨_, rfl⟩
     have hk3 : min ((p.name.size : Nat) : Int) 16384 = m3 := by omega
     have hb3 : m3 ≤ 16384 := by omega
     have w3 : IntKind.i64.wrap ((R : Int) + (m3 : Int)) = (R : Int) + (m3 : Int) := by rw [IntKind.wrap_i64]; omega
     have HP2 := Lib.hid (HI.out.low ((Below.refl _ _).alloc (Nat.le_refl _) (.cells (linkC p) 51)))
     have d8 : (wr.alloc (.cells (linkC p) 51)).cell? ⟨wr.heap.size, 8, none⟩ = some (.string p.name) := (Has.fresh wr 51 (linkC p)).at_ 8
     clear hk hlt hbl3 hx3 mr3 hp3 hm3 hsz
     rw [hA3]
     by_cases hb : (16384 : Int) < (R : Int) + (m3 : Int)
     ·go_wp2_with (first | ((with_reducible refine Who.wpList_loadC 51 (.tmp 88) rfl b3 (off3 + k * 25) (linkC p) ?_); refine And.intro ⟨by rfl, by rfl, ⟨_, Tryz.underlying51, rfl⟩, infoL⟩ (And.intro (MR3.out) ?_); (try simp only [Act.put, List.setIfInBounds_toArray, List.set_cons_zero, List.set_cons_succ])) | ((with_reducible refine Who.wpList_newC 51 11 (.tmp 89) rfl rfl rfl (zeroL) (linkC p) ?_); refine And.intro ⟨rfl, rfl, rfl, allocL, by rfl, by rfl, infoL, rfl, oneL _⟩ ?_; (try simp only [Act.put, List.setIfInBounds_toArray, List.set_cons_zero, List.set_cons_succ]); (try simp only [World.size_alloc])) | fail)
      go_ret
      exact ⟨⟨false, rfl, fun h => by cases h⟩, HP2.out.below⟩
     ·have HRN := Lib.hid (show R + m3 ≤ 16384 by omega)
      go_wp2_with (first | ((with_reducible refine Who.wpList_loadC 51 (.tmp 88) rfl b3 (off3 + k * 25) (linkC p) ?_); refine And.intro ⟨by rfl, by rfl, ⟨_, Tryz.underlying51, rfl⟩, infoL⟩ (And.intro (MR3.out) ?_); (try simp only [Act.put, List.setIfInBounds_toArray, List.set_cons_zero, List.set_cons_succ])) | ((with_reducible refine Who.wpList_newC 51 11 (.tmp 89) rfl rfl rfl (zeroL) (linkC p) ?_); refine And.intro ⟨rfl, rfl, rfl, allocL, by rfl, by rfl, infoL, rfl, oneL _⟩ ?_; (try simp only [Act.put, List.setIfInBounds_toArray, List.set_cons_zero, List.set_cons_succ]); (try simp only [World.size_alloc])) | fail)
      go_roundw
      case rel => exact ⟨k + 1, R + m3, HK.out, HRN.out, by go_num, by go_num, HP2⟩
      case measure => have := HK.out; simp [intOf]; omega
    ·obtain rfl : k = d.n2 := by omega
     clear hk hlt
     go_wp2
     go_ret
     exact ⟨⟨true, rfl, fun _ => ⟨HN1.out, HALL.out⟩⟩, HI.out.below⟩
end Go.Proofs.YtblogecapegbmaaGreat.Jn
