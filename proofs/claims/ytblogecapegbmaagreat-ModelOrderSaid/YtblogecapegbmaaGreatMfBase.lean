/- Model: the base of events: the texts of other layers, joined. -/
import Derived.Test.YtblogecapegbmaaGreatTxA
import Derived.Laws.NewBlocks
import Derived.Laws.BytesArg
import Derived.Laws.BytesString
import Derived.Deep.LoopGhost
import Derived.Test.YtblogecapegbmaaGreatOpenE
import Derived.Test.YtblogecapegbmaaGreatReg
import Derived.Test.YtblogecapegbmaaGreatWho
import Derived.Lib.MinMax
import Derived.Great.BuildSlice
import Derived.Lib.SliceRun
import Derived.Test.YtblogecapegbmaaGreatVcE
import Derived.Test.YtblogecapegbmaaGreatFcQ

/- Numbers in decimal digits: the document's. -/
namespace Go.Proofs.YtblogecapegbmaaGreat.Tx
open Go.RowKit Go.Proofs.YtblogecapegbmaaGreat.Mem
set_option linter.unusedVariables false set_option linter.unusedSimpArgs false

end Go.Proofs.YtblogecapegbmaaGreat.Tx

/- Words of stamps, a row that grows by a text, lines. -/
namespace Go.Proofs.YtblogecapegbmaaGreat.Sr
open Go.RowKit Go.Proofs.YtblogecapegbmaaGreat.Mem Go.Proofs.YtblogecapegbmaaGreat.Tx
open Go.Proofs.YtblogecapegbmaaGreat.Fc (fitS NodeP LinkP NodeC nodeC linkC)
open Go.Proofs.YtblogecapegbmaaGreat.Vc (vecC stC eq8 eqv neq_st)
set_option linter.unusedVariables false set_option linter.unusedSimpArgs false

theorem neq_vec (x y : Nat → Int) (w : World) : (binOp .neq 23 (.agg (vecC x)) (.agg (vecC y))).run Tryz.prog w = .ok (.bool (!eq8 x y)) w := by
  simp only [binOp]
  simp [Op.equal, Op.maxDepth, eqv]
theorem stC_eq (a b : Int) : stC a b = #[.int .i64 a, .int .i64 b] := rfl
def zeroS (s : Int × Int) : Bool := s.1 == 0 && s.2 == 0
def zero8 (x : Nat → Int) : Bool := eq8 x (fun _ => 0)

end Go.Proofs.YtblogecapegbmaaGreat.Sr

/- What an event wrote of a link: the program's parts, the document's line. -/
namespace Go.Proofs.YtblogecapegbmaaGreat.Sr
open Go.RowKit Go.Proofs.YtblogecapegbmaaGreat.Mem Go.Proofs.YtblogecapegbmaaGreat.Tx
open Go.Proofs.YtblogecapegbmaaGreat.Fc (fitS NodeP LinkP NodeC nodeC linkC)
open Go.Proofs.YtblogecapegbmaaGreat.Vc (vecC stC eq8 eqv neq_st)
set_option linter.unusedVariables false set_option linter.unusedSimpArgs false

theorem info_st : (Tryz.prog.info? 37).map (·.size) = some 2 := by kernel_rfl
theorem info_vec : (Tryz.prog.info? 23).map (·.size) = some 8 := by kernel_rfl
theorem info_link : (Tryz.prog.info? 51).map (·.size) = some 25 := by kernel_rfl
theorem id_range {w : World} {g : Nat} {t : TypeId} {k : LinkP} (h : Has w g t (linkC k)) : w.rangeAt g 0 (#[.int .i64 k.id.1, .int .i64 k.id.2]).toList := fun j v hv => by
  match j, hv with
  | 0, hv => exact (h.at_ 0).trans hv
  | 1, hv => exact (h.at_ 1).trans hv
  | j + 2, hv => simp [vecC] at hv
theorem at_range {w : World} {g : Nat} {t : TypeId} {k : LinkP} (h : Has w g t (linkC k)) : w.rangeAt g 4 (#[.int .i64 k.at_.1, .int .i64 k.at_.2]).toList := fun j v hv => by
  match j, hv with
  | 0, hv => exact (h.at_ 4).trans hv
  | 1, hv => exact (h.at_ 5).trans hv
  | j + 2, hv => simp [vecC] at hv
theorem par_range {w : World} {g : Nat} {t : TypeId} {k : LinkP} (h : Has w g t (linkC k)) : w.rangeAt g 6 (#[.int .i64 k.par.1, .int .i64 k.par.2]).toList := fun j v hv => by
  match j, hv with
  | 0, hv => exact (h.at_ 6).trans hv
  | 1, hv => exact (h.at_ 7).trans hv
  | j + 2, hv => simp [vecC] at hv
theorem al_range {w : World} {g : Nat} {t : TypeId} {k : LinkP} (h : Has w g t (linkC k)) : w.rangeAt g 9 (vecC k.al).toList := fun j v hv => by
  match j, hv with
  | 0, hv => exact (h.at_ 9).trans hv
  | 1, hv => exact (h.at_ 10).trans hv
  | 2, hv => exact (h.at_ 11).trans hv
  | 3, hv => exact (h.at_ 12).trans hv
  | 4, hv => exact (h.at_ 13).trans hv
  | 5, hv => exact (h.at_ 14).trans hv
  | 6, hv => exact (h.at_ 15).trans hv
  | 7, hv => exact (h.at_ 16).trans hv
  | j + 8, hv => simp [vecC] at hv
theorem de_range {w : World} {g : Nat} {t : TypeId} {k : LinkP} (h : Has w g t (linkC k)) : w.rangeAt g 17 (vecC k.de).toList := fun j v hv => by
  match j, hv with
  | 0, hv => exact (h.at_ 17).trans hv
  | 1, hv => exact (h.at_ 18).trans hv
  | 2, hv => exact (h.at_ 19).trans hv
  | 3, hv => exact (h.at_ 20).trans hv
  | 4, hv => exact (h.at_ 21).trans hv
  | 5, hv => exact (h.at_ 22).trans hv
  | 6, hv => exact (h.at_ 23).trans hv
  | 7, hv => exact (h.at_ 24).trans hv
  | j + 8, hv => simp [vecC] at hv
end Go.Proofs.YtblogecapegbmaaGreat.Sr

/- What an event wrote of an inode: the program's parts, the document's line. -/
namespace Go.Proofs.YtblogecapegbmaaGreat.Sr
open Go.RowKit Go.Proofs.YtblogecapegbmaaGreat.Mem Go.Proofs.YtblogecapegbmaaGreat.Tx
open Go.Proofs.YtblogecapegbmaaGreat.Fc (fitS NodeP LinkP NodeC PieceP XattrP nodeC linkC pieceC xattrC)
open Go.Proofs.YtblogecapegbmaaGreat.Vc (vecC stC eq8 eqv neq_st)
set_option linter.unusedVariables false set_option linter.unusedSimpArgs false

theorem info_piece : (Tryz.prog.info? 74).map (·.size) = some 4 := by kernel_rfl
theorem info_xattr : (Tryz.prog.info? 77).map (·.size) = some 5 := by kernel_rfl
def zeroP : PieceP := ⟨0, (0, 0), ⟨#[]⟩⟩
def zeroX : XattrP := ⟨⟨#[]⟩, (0, 0), ⟨#[]⟩, false⟩
theorem alloc_piece (w : World) : (Instr.alloc 74 true (.tuple #[])).run Tryz.prog w = .ok (.pointer (some ⟨w.heap.size, 0, none⟩)) (w.alloc (.cells (pieceC zeroP) 74)) := by
  have hz := Tryz.zeroValue74
  go_simp
  rfl
theorem alloc_xattr (w : World) : (Instr.alloc 77 true (.tuple #[])).run Tryz.prog w = .ok (.pointer (some ⟨w.heap.size, 0, none⟩)) (w.alloc (.cells (xattrC zeroX) 77)) := by
  have hz := Tryz.zeroValue77
  go_simp
  rfl
theorem piece_one (p : PieceP) : (pieceC p).all (·.oneCell') = true := by simp [pieceC, Value.oneCell']
theorem xattr_one (p : XattrP) : (xattrC p).all (·.oneCell') = true := by simp [xattrC, Value.oneCell']
theorem nid_range {w : World} {g : Nat} {t : TypeId} {x : NodeC} (h : Has w g t (nodeC x)) : w.rangeAt g 0 (#[.int .i64 x.p.id.1, .int .i64 x.p.id.2]).toList := fun j v hv => by
  match j, hv with
  | 0, hv => exact (h.at_ 0).trans hv
  | 1, hv => exact (h.at_ 1).trans hv
  | j + 2, hv => simp at hv
theorem aat_range {w : World} {g : Nat} {t : TypeId} {x : NodeC} (h : Has w g t (nodeC x)) : w.rangeAt g 4 (#[.int .i64 x.p.aat.1, .int .i64 x.p.aat.2]).toList := fun j v hv => by
  match j, hv with
  | 0, hv => exact (h.at_ 4).trans hv
  | 1, hv => exact (h.at_ 5).trans hv
  | j + 2, hv => simp at hv
theorem sat_range {w : World} {g : Nat} {t : TypeId} {x : NodeC} (h : Has w g t (nodeC x)) : w.rangeAt g 8 (#[.int .i64 x.p.sat.1, .int .i64 x.p.sat.2]).toList := fun j v hv => by
  match j, hv with
  | 0, hv => exact (h.at_ 8).trans hv
  | 1, hv => exact (h.at_ 9).trans hv
  | j + 2, hv => simp at hv
end Go.Proofs.YtblogecapegbmaaGreat.Sr

/- An event as lines: the program's, the document's. -/
namespace Go.Proofs.YtblogecapegbmaaGreat.Sr
open Go.RowKit Go.Proofs.YtblogecapegbmaaGreat.Mem Go.Proofs.YtblogecapegbmaaGreat.Tx
open Go.Proofs.YtblogecapegbmaaGreat.Fc (fitS NodeP LinkP NodeC PieceP XattrP nodeC linkC pieceC xattrC)
open Go.Proofs.YtblogecapegbmaaGreat.Vc (vecC stC eq8 eqv neq_st)
set_option linter.unusedVariables false set_option linter.unusedSimpArgs false

theorem info_inode : (Tryz.prog.info? 46).map (·.size) = some 13 := by kernel_rfl
def zeroN : NodeC := ⟨⟨(0, 0), 0, ⟨#[]⟩, (0, 0), 0, 0, (0, 0), 0, [], []⟩, none, 0, 0, none, 0, 0⟩
def zeroL : LinkP := ⟨(0, 0), (0, 0), (0, 0), (0, 0), ⟨#[]⟩, fun _ => 0, fun _ => 0⟩
theorem alloc_inode (w : World) : (Instr.alloc 46 true (.tuple #[])).run Tryz.prog w = .ok (.pointer (some ⟨w.heap.size, 0, none⟩)) (w.alloc (.cells (nodeC zeroN) 46)) := by
  have hz := Tryz.zeroValue46
  go_simp
  rfl
theorem alloc_link (w : World) : (Instr.alloc 51 true (.tuple #[])).run Tryz.prog w = .ok (.pointer (some ⟨w.heap.size, 0, none⟩)) (w.alloc (.cells (linkC zeroL) 51)) := by
  have hz := Tryz.zeroValue51
  go_simp
  rfl
theorem inode_one (x : NodeC) : (nodeC x).all (·.oneCell') = true := by simp [nodeC, Value.oneCell']
theorem link_one (k : LinkP) : (linkC k).all (·.oneCell') = true := by simp [linkC, Value.oneCell']
theorem eat_range {w : World} {g : Nat} {t : TypeId} {e : Fc.EventC} (h : Has w g t (Fc.eventC e)) : w.rangeAt g 0 (#[.int .i64 e.at_.1, .int .i64 e.at_.2]).toList := fun j v hv => by
  match j, hv with
  | 0, hv => exact (h.at_ 0).trans hv
  | 1, hv => exact (h.at_ 1).trans hv
  | j + 2, hv => simp at hv
end Go.Proofs.YtblogecapegbmaaGreat.Sr

/- May events be gone through: Small and small answer. -/
namespace Go.Proofs.YtblogecapegbmaaGreat.Sr
open Go.RowKit Go.Proofs.YtblogecapegbmaaGreat.Mem Go.Proofs.YtblogecapegbmaaGreat.Tx
open Go.Proofs.YtblogecapegbmaaGreat.Fc (fitS NodeP LinkP NodeC PieceP XattrP nodeC linkC pieceC xattrC)
open Go.Proofs.YtblogecapegbmaaGreat.Vc (vecC stC eq8 eqv neq_st)
set_option linter.unusedVariables false set_option linter.unusedSimpArgs false

/-- A truth value is answered. -/
def BoolIs (e : Ending) : Prop := ∃ b, e = .returned (.bool b)
theorem info_event : (Tryz.prog.info? 58).map (·.size) = some 21 := by kernel_rfl
theorem info_state : (Tryz.prog.info? 27).map (·.size) = some 10 := by kernel_rfl
def zeroE : Fc.EventC := ⟨(0, 0), 0, fun _ => 0, ⟨fun _ => 0, none, 0, 0, none, 0, 0, [], []⟩⟩
theorem alloc_event (w : World) : (Instr.alloc 58 true (.tuple #[])).run Tryz.prog w = .ok (.pointer (some ⟨w.heap.size, 0, none⟩)) (w.alloc (.cells (Fc.eventC zeroE) 58)) := by
  have hz := Tryz.zeroValue58
  go_simp
  rfl
theorem event_one (e : Fc.EventC) : (Fc.eventC e).all (·.oneCell') = true := by simp [Fc.eventC, Fc.stateC, Value.oneCell']
theorem state_range {w : World} {g : Nat} {t : TypeId} {e : Fc.EventC} (h : Has w g t (Fc.eventC e)) : w.rangeAt g 11 (Fc.stateC e.d).toList := fun j v hv => by
  match j, hv with
  | 0, hv => exact (h.at_ 11).trans hv
  | 1, hv => exact (h.at_ 12).trans hv
  | 2, hv => exact (h.at_ 13).trans hv
  | 3, hv => exact (h.at_ 14).trans hv
  | 4, hv => exact (h.at_ 15).trans hv
  | 5, hv => exact (h.at_ 16).trans hv
  | 6, hv => exact (h.at_ 17).trans hv
  | 7, hv => exact (h.at_ 18).trans hv
  | 8, hv => exact (h.at_ 19).trans hv
  | 9, hv => exact (h.at_ 20).trans hv
  | j + 10, hv => simp [Fc.stateC] at hv
structure BxI (t : TypeId) (cs : Array Value) (w wr : World) : Prop where
  below : Below w.heap.size w wr
  has : Has wr w.heap.size t cs
theorem BxI.start (w : World) (t : TypeId) (cs : Array Value) : BxI t cs w (w.alloc (.cells cs t)) := ⟨(Below.refl w.heap.size w).alloc (Nat.le_refl _) _, Has.fresh w _ _⟩
theorem BxI.low {t : TypeId} {cs : Array Value} {w wr w2 : World} (h : BxI t cs w wr) (hb : Below wr.heap.size wr w2) : BxI t cs w w2 := ⟨h.below.trans (hb.mono h.below.size), h.has.below hb⟩
set_option maxRecDepth 100000 in
set_option maxHeartbeats 4000000 in
theorem Small_any (d : Fc.StateC) (w : World) (hd : Fc.StateFit w d) : Calls Tryz.prog 32 #[.agg (Fc.stateC d)] w fun e w' => BoolIs e ∧ Below w.heap.size w w' := by
  have H0 := Lib.hid (BxI.start w 27 (Fc.stateC d))
  have HFX := Lib.hid (show ∀ V, Below w.heap.size w V → Fc.StateFit V d from fun V h => hd.below h)
  have c8 : (w.alloc (.cells (Fc.stateC d) 27)).cell? ⟨w.heap.size, 8, none⟩ = some (.slice d.A1 d.n1 d.c1) := H0.out.has.at_ 8
  have c9 : (w.alloc (.cells (Fc.stateC d) 27)).cell? ⟨w.heap.size, 9, none⟩ = some (.slice d.A2 d.n2 d.c2) := H0.out.has.at_ 9
  clear hd
  go_enter Tryz.func32, Tryz.ntmps32
  by_cases h1 : (120 : Int) < d.n1
  · go_wp2
    go_ret
    exact ⟨⟨false, rfl⟩, H0.out.below⟩
  by_cases h2 : (120 : Int) < d.n2
  · go_wp2
    go_ret
    exact ⟨⟨false, rfl⟩, H0.out.below⟩
  go_wp2
  go_loopw [3, 25] (fun a i wr => ∃ j N : Nat, j ≤ d.n1 ∧ N ≤ 16384 ∧ i = .int .i64 j ∧ a = .int .i64 N ∧ Hid (BxI 27 (Fc.stateC d) w wr)) (fun _ i _ => d.n1 - (intOf i).toNat)
  case atStart => exact ⟨0, 0, by omega, by omega, rfl, rfl, H0⟩
  case round =>
    clear c8 c9 H0
    obtain ⟨j, N, hj, hN, rfl, rfl, HI⟩ := hrel
    obtain ⟨wd, hwd⟩ : ∃ wd : World, wd = wr := ⟨_, rfl⟩
    subst hwd
    by_cases hlt : j < d.n1
    · have hlti : (j : Int) < d.n1 := by omega
      have HJ := Lib.hid hlt
      obtain ⟨b, off, hA, hbl, hx1, mr⟩ := (HFX.out _ HI.out.below).nodes.range hlt
      have HF1 := Lib.hid ((HFX.out _ HI.out.below).each _ (List.getElem_mem hx1))
      obtain ⟨x, hp⟩ : ∃ x, x = d.nodes[j] := ⟨_, rfl⟩
      rw [← hp] at mr HF1
      have MR := Lib.hid mr
      have HW := Lib.hid (HI.out.low ((Below.refl _ _).alloc (Nat.le_refl _) (.cells (nodeC x) 46)))
      have HN := Lib.hid (Has.fresh wd 46 (nodeC x))
      have HFW := Lib.hid (show ∀ V, Below wd.heap.size wd V → Fc.NodeFit V x from fun V h => HF1.out.below h)
      have hts := HF1.out.text
      have mx1 := HF1.out.m1
      have mx2 := HF1.out.m2
      unfold maxLen at hts
      obtain ⟨m1, hm1⟩ : ∃ m1 : Nat, m1 = min (x.p.text.size) 16384 := ⟨_, rfl⟩
      have hk1 : min ((x.p.text.size : Nat) : Int) 16384 = m1 := by omega
      have hb1 : m1 ≤ 16384 := by omega
      have w1 : IntKind.i64.wrap ((N : Int) + (m1 : Int)) = (N : Int) + (m1 : Int) := by rw [IntKind.wrap_i64]; omega
      have c3 : (wd.alloc (.cells (nodeC x) 46)).cell? ⟨wd.heap.size, 3, none⟩ = some (.string x.p.text) := HN.out.at_ 3
      have c11 : (wd.alloc (.cells (nodeC x) 46)).cell? ⟨wd.heap.size, 11, none⟩ = some (.slice x.A1 x.n1 x.c1) := HN.out.at_ 11
      have c12 : (wd.alloc (.cells (nodeC x) 46)).cell? ⟨wd.heap.size, 12, none⟩ = some (.slice x.A2 x.n2 x.c2) := HN.out.at_ 12
      clear hj hlt hbl hx1 mr hp hm1 hts
      rw [hA]
      by_cases p1 : (120 : Int) < x.n1
      · go_wp2_with (first | ((with_reducible refine Who.wpList_loadC 46 (.tmp 27) rfl b (off + j * 13) (nodeC x) ?_); refine And.intro ⟨by rfl, by rfl, ⟨_, Tryz.underlying46, rfl⟩, info_inode⟩ (And.intro (MR.out) ?_); (try simp only [Act.put, List.setIfInBounds_toArray, List.set_cons_zero, List.set_cons_succ])) | ((with_reducible refine Who.wpList_newC 46 5 (.tmp 28) rfl rfl rfl (nodeC zeroN) (nodeC x) ?_); refine And.intro ⟨rfl, rfl, rfl, alloc_inode, by rfl, by rfl, info_inode, rfl, inode_one _⟩ ?_; (try simp only [Act.put, List.setIfInBounds_toArray, List.set_cons_zero, List.set_cons_succ]); (try simp only [World.size_alloc])) | fail)
        go_ret
        exact ⟨⟨false, rfl⟩, HW.out.below⟩
      by_cases p2 : (120 : Int) < x.n2
      · go_wp2_with (first | ((with_reducible refine Who.wpList_loadC 46 (.tmp 27) rfl b (off + j * 13) (nodeC x) ?_); refine And.intro ⟨by rfl, by rfl, ⟨_, Tryz.underlying46, rfl⟩, info_inode⟩ (And.intro (MR.out) ?_); (try simp only [Act.put, List.setIfInBounds_toArray, List.set_cons_zero, List.set_cons_succ])) | ((with_reducible refine Who.wpList_newC 46 5 (.tmp 28) rfl rfl rfl (nodeC zeroN) (nodeC x) ?_); refine And.intro ⟨rfl, rfl, rfl, alloc_inode, by rfl, by rfl, info_inode, rfl, inode_one _⟩ ?_; (try simp only [Act.put, List.setIfInBounds_toArray, List.set_cons_zero, List.set_cons_succ]); (try simp only [World.size_alloc])) | fail)
        go_ret
        exact ⟨⟨false, rfl⟩, HW.out.below⟩
      go_wp2_with (first | ((with_reducible refine Who.wpList_loadC 46 (.tmp 27) rfl b (off + j * 13) (nodeC x) ?_); refine And.intro ⟨by rfl, by rfl, ⟨_, Tryz.underlying46, rfl⟩, info_inode⟩ (And.intro (MR.out) ?_); (try simp only [Act.put, List.setIfInBounds_toArray, List.set_cons_zero, List.set_cons_succ])) | ((with_reducible refine Who.wpList_newC 46 5 (.tmp 28) rfl rfl rfl (nodeC zeroN) (nodeC x) ?_); refine And.intro ⟨rfl, rfl, rfl, alloc_inode, by rfl, by rfl, info_inode, rfl, inode_one _⟩ ?_; (try simp only [Act.put, List.setIfInBounds_toArray, List.set_cons_zero, List.set_cons_succ]); (try simp only [World.size_alloc])) | fail)
      go_loopw [3, 48] (fun a i wr => ∃ k M : Nat, k ≤ x.n1 ∧ M ≤ 40000 + k * 16385 ∧ i = .int .i64 k ∧ a = .int .i64 M ∧ Hid (BxI 27 (Fc.stateC d) w wr) ∧ Hid (Below (wd.alloc (.cells (nodeC x) 46)).heap.size (wd.alloc (.cells (nodeC x) 46)) wr)) (fun _ i _ => x.n1 - (intOf i).toNat)
      case atStart => exact ⟨0, N + m1, by omega, by omega, rfl, by go_num, HW, Lib.hid (Below.refl _ _)⟩
      case round =>
        clear c3 c11 c12 w1 hk1
        obtain ⟨k, M, hk, hM, rfl, rfl, HP, HB⟩ := hrel
        obtain ⟨we, hwe⟩ : ∃ we : World, we = wr := ⟨_, rfl⟩
        subst hwe
        by_cases hlt : k < x.n1
        · have hlti2 : (k : Int) < x.n1 := by omega
          have HK := Lib.hid hlt
          have HM := Lib.hid hM
          have HFY := Lib.hid (HFW.out _ (((Below.refl _ _).alloc (Nat.le_refl _) (.cells (nodeC x) 46)).trans (HB.out.mono (by simp))))
          obtain ⟨b2, off2, hA2, hbl2, hx2, mr2⟩ := HFY.out.ps.range hlt
          have hsz := HFY.out.pdata _ (List.getElem_mem hx2)
          obtain ⟨p, hp2⟩ : ∃ p, p = x.p.ps[k] := ⟨_, rfl⟩
          rw [← hp2] at mr2 hsz
          have MR2 := Lib.hid mr2
          unfold maxLen at hsz
          obtain ⟨m2, hm2⟩ : ∃ m2 : Nat, m2 = min (p.data.size) 16384 := ⟨_, rfl⟩
          have hk2 : min ((p.data.size : Nat) : Int) 16384 = m2 := by omega
          have hb2 : m2 ≤ 16384 := by omega
          have w2 : IntKind.i64.wrap (1 + (m2 : Int)) = 1 + (m2 : Int) := by rw [IntKind.wrap_i64]; omega
          have w3 : IntKind.i64.wrap ((M : Int) + (1 + (m2 : Int))) = (M : Int) + (1 + (m2 : Int)) := by rw [IntKind.wrap_i64]; omega
          have HMM := Lib.hid (show M + (1 + m2) ≤ 40000 + (k + 1) * 16385 by omega)
          have HP2 := Lib.hid (HP.out.low ((Below.refl _ _).alloc (Nat.le_refl _) (.cells (pieceC p) 74)))
          have HB2 := Lib.hid (HB.out.alloc HB.out.size (.cells (pieceC p) 74))
          have d3 : (we.alloc (.cells (pieceC p) 74)).cell? ⟨we.heap.size, 3, none⟩ = some (.string p.data) := (Has.fresh we 74 (pieceC p)).at_ 3
          clear hk hM hlt hbl2 hx2 mr2 hp2 hm2 hsz
          rw [hA2]
          go_wp2_with (first | ((with_reducible refine Who.wpList_loadC 74 (.tmp 50) rfl b2 (off2 + k * 4) (pieceC p) ?_); refine And.intro ⟨by rfl, by rfl, ⟨_, Tryz.underlying74, rfl⟩, info_piece⟩ (And.intro (MR2.out) ?_); (try simp only [Act.put, List.setIfInBounds_toArray, List.set_cons_zero, List.set_cons_succ])) | ((with_reducible refine Who.wpList_newC 74 7 (.tmp 51) rfl rfl rfl (pieceC zeroP) (pieceC p) ?_); refine And.intro ⟨rfl, rfl, rfl, alloc_piece, by rfl, by rfl, info_piece, rfl, piece_one _⟩ ?_; (try simp only [Act.put, List.setIfInBounds_toArray, List.set_cons_zero, List.set_cons_succ]); (try simp only [World.size_alloc])) | fail)
          go_roundw
          case rel => exact ⟨k + 1, M + (1 + m2), HK.out, HMM.out, by go_num, by go_num, HP2, HB2⟩
          case measure => have := HK.out; simp [intOf]; omega
        · obtain rfl : k = x.n1 := by omega
          have hM2 : M ≤ 2100000 := by omega
          have HN2 := Lib.hid (HN.out.below HB.out)
          have c12 : we.cell? ⟨wd.heap.size, 12, none⟩ = some (.slice x.A2 x.n2 x.c2) := HN2.out.at_ 12
          clear hM hk hlt
          go_wp2
          go_loopw [3, 63] (fun a i wr => ∃ k R : Nat, k ≤ x.n2 ∧ R ≤ 2100000 + k * 32769 ∧ i = .int .i64 k ∧ a = .int .i64 R ∧ Hid (BxI 27 (Fc.stateC d) w wr) ∧ Hid (Below (wd.alloc (.cells (nodeC x) 46)).heap.size (wd.alloc (.cells (nodeC x) 46)) wr)) (fun _ i _ => x.n2 - (intOf i).toNat)
          case atStart => exact ⟨0, M, by omega, by omega, rfl, rfl, HP, HB⟩
          case round =>
            clear c12 HP HB hM2
            obtain ⟨k, R, hk, hR, rfl, rfl, HP, HB⟩ := hrel
            obtain ⟨wf, hwf⟩ : ∃ wf : World, wf = wr := ⟨_, rfl⟩
            subst hwf
            by_cases hlt : k < x.n2
            · have hlti3 : (k : Int) < x.n2 := by omega
              have HK := Lib.hid hlt
              have HFY := Lib.hid (HFW.out _ (((Below.refl _ _).alloc (Nat.le_refl _) (.cells (nodeC x) 46)).trans (HB.out.mono (by simp))))
              obtain ⟨b3, off3, hA3, hbl3, hx3, mr3⟩ := HFY.out.xs.range hlt
              have hsz := HFY.out.xdata _ (List.getElem_mem hx3)
              obtain ⟨p, hp3⟩ : ∃ p, p = x.p.xs[k] := ⟨_, rfl⟩
              rw [← hp3] at mr3 hsz
              have MR3 := Lib.hid mr3
              unfold maxLen at hsz
              obtain ⟨m3, hm3⟩ : ∃ m3 : Nat, m3 = min (p.name.size) 16384 := ⟨_, rfl⟩
              have hk3 : min ((p.name.size : Nat) : Int) 16384 = m3 := by omega
              have hb3 : m3 ≤ 16384 := by omega
              obtain ⟨m4, hm4⟩ : ∃ m4 : Nat, m4 = min (p.val.size) 16384 := ⟨_, rfl⟩
              have hk4 : min ((p.val.size : Nat) : Int) 16384 = m4 := by omega
              have hb4 : m4 ≤ 16384 := by omega
              have w2 : IntKind.i64.wrap (1 + (m3 : Int)) = 1 + (m3 : Int) := by rw [IntKind.wrap_i64]; omega
              have w4 : IntKind.i64.wrap (1 + (m3 : Int) + (m4 : Int)) = 1 + (m3 : Int) + (m4 : Int) := by rw [IntKind.wrap_i64]; omega
              have w3 : IntKind.i64.wrap ((R : Int) + (1 + (m3 : Int) + (m4 : Int))) = (R : Int) + (1 + (m3 : Int) + (m4 : Int)) := by rw [IntKind.wrap_i64]; omega
              have HMM := Lib.hid (show R + (1 + m3 + m4) ≤ 2100000 + (k + 1) * 32769 by omega)
              have HP2 := Lib.hid (HP.out.low ((Below.refl _ _).alloc (Nat.le_refl _) (.cells (xattrC p) 77)))
              have HB2 := Lib.hid (HB.out.alloc HB.out.size (.cells (xattrC p) 77))
              have d0 : (wf.alloc (.cells (xattrC p) 77)).cell? ⟨wf.heap.size, 0, none⟩ = some (.string p.name) := (Has.fresh wf 77 (xattrC p)).at_ 0
              have d3 : (wf.alloc (.cells (xattrC p) 77)).cell? ⟨wf.heap.size, 3, none⟩ = some (.string p.val) := (Has.fresh wf 77 (xattrC p)).at_ 3
              clear hk hR hlt hbl3 hx3 mr3 hp3 hm3 hm4 hsz
              rw [hA3]
              go_wp2_with (first | ((with_reducible refine Who.wpList_loadC 77 (.tmp 65) rfl b3 (off3 + k * 5) (xattrC p) ?_); refine And.intro ⟨by rfl, by rfl, ⟨_, Tryz.underlying77, rfl⟩, info_xattr⟩ (And.intro (MR3.out) ?_); (try simp only [Act.put, List.setIfInBounds_toArray, List.set_cons_zero, List.set_cons_succ])) | ((with_reducible refine Who.wpList_newC 77 9 (.tmp 66) rfl rfl rfl (xattrC zeroX) (xattrC p) ?_); refine And.intro ⟨rfl, rfl, rfl, alloc_xattr, by rfl, by rfl, info_xattr, rfl, xattr_one _⟩ ?_; (try simp only [Act.put, List.setIfInBounds_toArray, List.set_cons_zero, List.set_cons_succ]); (try simp only [World.size_alloc])) | fail)
              go_roundw
              case rel => exact ⟨k + 1, R + (1 + m3 + m4), HK.out, HMM.out, by go_num, by go_num, HP2, HB2⟩
              case measure => have := HK.out; simp [intOf]; omega
            · obtain rfl : k = x.n2 := by omega
              clear hR hk hlt
              by_cases hb : (16384 : Int) < R
              · go_wp2
                go_ret
                exact ⟨⟨false, rfl⟩, HP.out.below⟩
              · have hRN : R ≤ 16384 := by omega
                go_wp2
                go_roundw
                case rel => exact ⟨j + 1, R, HJ.out, hRN, by go_num, rfl, HP⟩
                case measure => have := HJ.out; simp [intOf]; omega
    · obtain rfl : j = d.n1 := by omega
      have c9 : wd.cell? ⟨w.heap.size, 9, none⟩ = some (.slice d.A2 d.n2 d.c2) := HI.out.has.at_ 9
      clear hj hlt
      go_wp2
      go_loopw [3, 86] (fun a i wr => ∃ k R : Nat, k ≤ d.n2 ∧ R ≤ 16384 ∧ i = .int .i64 k ∧ a = .int .i64 R ∧ Hid (BxI 27 (Fc.stateC d) w wr)) (fun _ i _ => d.n2 - (intOf i).toNat)
      case atStart => exact ⟨0, N, by omega, by omega, rfl, rfl, HI⟩
      case round =>
        clear c9 HI hN
        obtain ⟨k, R, hk, hR, rfl, rfl, HI⟩ := hrel
        by_cases hlt : k < d.n2
        · have hlti3 : (k : Int) < d.n2 := by omega
          have HK := Lib.hid hlt
          obtain ⟨b3, off3, hA3, hbl3, hx3, mr3⟩ := (HFX.out _ HI.out.below).links.range hlt
          have hsz := (HFX.out _ HI.out.below).names _ (List.getElem_mem hx3)
          obtain ⟨p, hp3⟩ : ∃ p, p = d.links[k] := ⟨_, rfl⟩
          rw [← hp3] at mr3 hsz
          have MR3 := Lib.hid mr3
          unfold maxLen at hsz
          obtain ⟨m3, hm3⟩ : ∃ m3 : Nat, m3 = min (p.name.size) 16384 := ⟨_, rfl⟩
          have hk3 : min ((p.name.size : Nat) : Int) 16384 = m3 := by omega
          have hb3 : m3 ≤ 16384 := by omega
          have w3 : IntKind.i64.wrap ((R : Int) + (m3 : Int)) = (R : Int) + (m3 : Int) := by rw [IntKind.wrap_i64]; omega
          have HP2 := Lib.hid (HI.out.low ((Below.refl _ _).alloc (Nat.le_refl _) (.cells (linkC p) 51)))
          have d8 : (wr.alloc (.cells (linkC p) 51)).cell? ⟨wr.heap.size, 8, none⟩ = some (.string p.name) := (Has.fresh wr 51 (linkC p)).at_ 8
          clear hk hlt hbl3 hx3 mr3 hp3 hm3 hsz
          rw [hA3]
          by_cases hb : (16384 : Int) < (R : Int) + (m3 : Int)
          · go_wp2_with (first | ((with_reducible refine Who.wpList_loadC 51 (.tmp 88) rfl b3 (off3 + k * 25) (linkC p) ?_); refine And.intro ⟨by rfl, by rfl, ⟨_, Tryz.underlying51, rfl⟩, info_link⟩ (And.intro (MR3.out) ?_); (try simp only [Act.put, List.setIfInBounds_toArray, List.set_cons_zero, List.set_cons_succ])) | ((with_reducible refine Who.wpList_newC 51 11 (.tmp 89) rfl rfl rfl (linkC zeroL) (linkC p) ?_); refine And.intro ⟨rfl, rfl, rfl, alloc_link, by rfl, by rfl, info_link, rfl, link_one _⟩ ?_; (try simp only [Act.put, List.setIfInBounds_toArray, List.set_cons_zero, List.set_cons_succ]); (try simp only [World.size_alloc])) | fail)
            go_ret
            exact ⟨⟨false, rfl⟩, HP2.out.below⟩
          · have HRN := Lib.hid (show R + m3 ≤ 16384 by omega)
            go_wp2_with (first | ((with_reducible refine Who.wpList_loadC 51 (.tmp 88) rfl b3 (off3 + k * 25) (linkC p) ?_); refine And.intro ⟨by rfl, by rfl, ⟨_, Tryz.underlying51, rfl⟩, info_link⟩ (And.intro (MR3.out) ?_); (try simp only [Act.put, List.setIfInBounds_toArray, List.set_cons_zero, List.set_cons_succ])) | ((with_reducible refine Who.wpList_newC 51 11 (.tmp 89) rfl rfl rfl (linkC zeroL) (linkC p) ?_); refine And.intro ⟨rfl, rfl, rfl, alloc_link, by rfl, by rfl, info_link, rfl, link_one _⟩ ?_; (try simp only [Act.put, List.setIfInBounds_toArray, List.set_cons_zero, List.set_cons_succ]); (try simp only [World.size_alloc])) | fail)
            go_roundw
            case rel => exact ⟨k + 1, R + m3, HK.out, HRN.out, by go_num, by go_num, HP2⟩
            case measure => have := HK.out; simp [intOf]; omega
        · obtain rfl : k = d.n2 := by omega
          clear hk hlt
          go_wp2
          go_ret
          exact ⟨⟨true, rfl⟩, HI.out.below⟩
end Go.Proofs.YtblogecapegbmaaGreat.Sr

/- Structs that are compared with themselves. -/
namespace Go.Proofs.YtblogecapegbmaaGreat.Smr
open Go.RowKit Go.Proofs.YtblogecapegbmaaGreat.Mem
open Go.Proofs.YtblogecapegbmaaGreat.Fc (PieceP XattrP LinkP NodeC pieceC xattrC linkC nodeC stateC)
open Go.Proofs.YtblogecapegbmaaGreat.Vc (vecC stC eq8 eq8_iff eqv neq_st eql_st)
set_option linter.unusedVariables false set_option linter.unusedSimpArgs false

theorem eq8_self (x : Nat → Int) : eq8 x x = true := eq8_iff.2 (fun i _ => rfl)
theorem eqv_self (k : Nat) (x : Nat → Int) (w : World) : (Op.equalIn (k + 2) 23 (.agg #[.int .i64 (x 0), .int .i64 (x 1), .int .i64 (x 2), .int .i64 (x 3), .int .i64 (x 4), .int .i64 (x 5), .int .i64 (x 6), .int .i64 (x 7)]) (.agg #[.int .i64 (x 0), .int .i64 (x 1), .int .i64 (x 2), .int .i64 (x 3), .int .i64 (x 4), .int .i64 (x 5), .int .i64 (x 6), .int .i64 (x 7)])).run Tryz.prog w = .ok true w := by
  have u3 := Tryz.underlying3
  have a3 := Tryz.isAgg3
  have z3 := Tryz.sizeOf3
  rw [show k + 2 = (k + 1) + 1 from rfl, Op.equalIn]
  simp only [Sem.run_bind, run_underlying Tryz.underlying23, Result.andThen_ok]
  simp only [Std.Legacy.Range.forIn_eq_forIn_range', Std.Legacy.Range.size, Nat.sub_zero, Nat.add_sub_cancel, Nat.div_one, List.range'_succ, List.range'_zero, List.forIn_cons, List.forIn_nil]
  go_simp
theorem nref_st (a b : Int) (w : World) : (binOp .neq 37 (.agg #[.int .i64 a, .int .i64 b]) (.agg #[.int .i64 a, .int .i64 b])).run Tryz.prog w = .ok (.bool false) w := by
  have h := neq_st a b a b w
  unfold stC at h
  rw [h]
  simp
theorem eref_st (a b : Int) (w : World) : (binOp .eql 37 (.agg #[.int .i64 a, .int .i64 b]) (.agg #[.int .i64 a, .int .i64 b])).run Tryz.prog w = .ok (.bool true) w := by
  have h := eql_st a b a b w
  unfold stC at h
  rw [h]
  simp
theorem nref_vec (x : Nat → Int) (w : World) : (binOp .neq 23 (.agg (vecC x)) (.agg (vecC x))).run Tryz.prog w = .ok (.bool false) w := by
  rw [run_neq_struct, eqv, eq8_self]
  rfl
theorem eref_vec (x : Nat → Int) (w : World) : (binOp .eql 23 (.agg (vecC x)) (.agg (vecC x))).run Tryz.prog w = .ok (.bool true) w := by
  rw [run_eql_struct, eqv, eq8_self]
  rfl
set_option maxRecDepth 100000 in
set_option maxHeartbeats 4000000 in
theorem nref_attr (a b m : Int) (t : Nat) (w : World) : (binOp .neq 40 (.agg (#[.int .i64 a, .int .i64 b, .int .i64 m, .int .u64 t])) (.agg (#[.int .i64 a, .int .i64 b, .int .i64 m, .int .u64 t]))).run Tryz.prog w = .ok (.bool false) w := by
  have uqi := Tryz.underlying3
  have aqi := Tryz.isAgg3
  have zqi := Tryz.sizeOf3
  have uqs := Tryz.underlying9
  have aqs := Tryz.isAgg9
  have zqs := Tryz.sizeOf9
  have uqb := Tryz.underlying4
  have aqb := Tryz.isAgg4
  have zqb := Tryz.sizeOf4
  have uqu := Tryz.underlying38
  have aqu := Tryz.isAgg38
  have zqu := Tryz.sizeOf38
  have uqv := Tryz.underlying23
  have aqv := Tryz.isAgg23
  have zqv := Tryz.sizeOf23
  have uqt := Tryz.underlying37
  have aqt := Tryz.isAgg37
  have zqt := Tryz.sizeOf37
  have hS : Tryz.prog.underlying 40 = some (.struct (Tryz.prog.fieldsOf 40)) := by kernel_rfl
  have hp : Tryz.prog.stoodInHeld 40 = false := by kernel_rfl
  have hS2 : Tryz.prog.underlying 37 = some (.struct (Tryz.prog.fieldsOf 37)) := by kernel_rfl
  have hp2 : Tryz.prog.stoodInHeld 37 = false := by kernel_rfl
  rw [run_neq_struct]
  rw [show (10000 : Nat) = 9999 + 1 from rfl]
  rw [run_equalIn_agg w 9999 40 _ _ hS hp]
  simp only [Program.fieldsOf, Tryz.underlying40]
  go_simp
set_option maxRecDepth 100000 in
set_option maxHeartbeats 4000000 in
theorem nref_size (a b m : Int) (w : World) : (binOp .neq 42 (.agg (#[.int .i64 a, .int .i64 b, .int .i64 m])) (.agg (#[.int .i64 a, .int .i64 b, .int .i64 m]))).run Tryz.prog w = .ok (.bool false) w := by
  have uqi := Tryz.underlying3
  have aqi := Tryz.isAgg3
  have zqi := Tryz.sizeOf3
  have uqs := Tryz.underlying9
  have aqs := Tryz.isAgg9
  have zqs := Tryz.sizeOf9
  have uqb := Tryz.underlying4
  have aqb := Tryz.isAgg4
  have zqb := Tryz.sizeOf4
  have uqu := Tryz.underlying38
  have aqu := Tryz.isAgg38
  have zqu := Tryz.sizeOf38
  have uqv := Tryz.underlying23
  have aqv := Tryz.isAgg23
  have zqv := Tryz.sizeOf23
  have uqt := Tryz.underlying37
  have aqt := Tryz.isAgg37
  have zqt := Tryz.sizeOf37
  have hS : Tryz.prog.underlying 42 = some (.struct (Tryz.prog.fieldsOf 42)) := by kernel_rfl
  have hp : Tryz.prog.stoodInHeld 42 = false := by kernel_rfl
  have hS2 : Tryz.prog.underlying 37 = some (.struct (Tryz.prog.fieldsOf 37)) := by kernel_rfl
  have hp2 : Tryz.prog.stoodInHeld 37 = false := by kernel_rfl
  rw [run_neq_struct]
  rw [show (10000 : Nat) = 9999 + 1 from rfl]
  rw [run_equalIn_agg w 9999 42 _ _ hS hp]
  simp only [Program.fieldsOf, Tryz.underlying42]
  go_simp
set_option maxRecDepth 100000 in
set_option maxHeartbeats 4000000 in
theorem nref_piece (x : PieceP) (w : World) : (binOp .neq 74 (.agg (pieceC x)) (.agg (pieceC x))).run Tryz.prog w = .ok (.bool false) w := by
  have uqi := Tryz.underlying3
  have aqi := Tryz.isAgg3
  have zqi := Tryz.sizeOf3
  have uqs := Tryz.underlying9
  have aqs := Tryz.isAgg9
  have zqs := Tryz.sizeOf9
  have uqb := Tryz.underlying4
  have aqb := Tryz.isAgg4
  have zqb := Tryz.sizeOf4
  have uqu := Tryz.underlying38
  have aqu := Tryz.isAgg38
  have zqu := Tryz.sizeOf38
  have uqv := Tryz.underlying23
  have aqv := Tryz.isAgg23
  have zqv := Tryz.sizeOf23
  have uqt := Tryz.underlying37
  have aqt := Tryz.isAgg37
  have zqt := Tryz.sizeOf37
  have hS : Tryz.prog.underlying 74 = some (.struct (Tryz.prog.fieldsOf 74)) := by kernel_rfl
  have hp : Tryz.prog.stoodInHeld 74 = false := by kernel_rfl
  have hS2 : Tryz.prog.underlying 37 = some (.struct (Tryz.prog.fieldsOf 37)) := by kernel_rfl
  have hp2 : Tryz.prog.stoodInHeld 37 = false := by kernel_rfl
  rw [run_neq_struct]
  rw [show (10000 : Nat) = 9999 + 1 from rfl]
  rw [run_equalIn_agg w 9999 74 _ _ hS hp]
  simp only [Program.fieldsOf, Tryz.underlying74]
  unfold pieceC
  go_simp
set_option maxRecDepth 100000 in
set_option maxHeartbeats 4000000 in
theorem nref_xattr (x : XattrP) (w : World) : (binOp .neq 77 (.agg (xattrC x)) (.agg (xattrC x))).run Tryz.prog w = .ok (.bool false) w := by
  have uqi := Tryz.underlying3
  have aqi := Tryz.isAgg3
  have zqi := Tryz.sizeOf3
  have uqs := Tryz.underlying9
  have aqs := Tryz.isAgg9
  have zqs := Tryz.sizeOf9
  have uqb := Tryz.underlying4
  have aqb := Tryz.isAgg4
  have zqb := Tryz.sizeOf4
  have uqu := Tryz.underlying38
  have aqu := Tryz.isAgg38
  have zqu := Tryz.sizeOf38
  have uqv := Tryz.underlying23
  have aqv := Tryz.isAgg23
  have zqv := Tryz.sizeOf23
  have uqt := Tryz.underlying37
  have aqt := Tryz.isAgg37
  have zqt := Tryz.sizeOf37
  have hS : Tryz.prog.underlying 77 = some (.struct (Tryz.prog.fieldsOf 77)) := by kernel_rfl
  have hp : Tryz.prog.stoodInHeld 77 = false := by kernel_rfl
  have hS2 : Tryz.prog.underlying 37 = some (.struct (Tryz.prog.fieldsOf 37)) := by kernel_rfl
  have hp2 : Tryz.prog.stoodInHeld 37 = false := by kernel_rfl
  rw [run_neq_struct]
  rw [show (10000 : Nat) = 9999 + 1 from rfl]
  rw [run_equalIn_agg w 9999 77 _ _ hS hp]
  simp only [Program.fieldsOf, Tryz.underlying77]
  unfold xattrC
  go_simp
set_option maxRecDepth 100000 in
set_option maxHeartbeats 4000000 in
theorem nref_link (x : LinkP) (w : World) : (binOp .neq 51 (.agg (linkC x)) (.agg (linkC x))).run Tryz.prog w = .ok (.bool false) w := by
  have uqi := Tryz.underlying3
  have aqi := Tryz.isAgg3
  have zqi := Tryz.sizeOf3
  have uqs := Tryz.underlying9
  have aqs := Tryz.isAgg9
  have zqs := Tryz.sizeOf9
  have uqb := Tryz.underlying4
  have aqb := Tryz.isAgg4
  have zqb := Tryz.sizeOf4
  have uqu := Tryz.underlying38
  have aqu := Tryz.isAgg38
  have zqu := Tryz.sizeOf38
  have uqv := Tryz.underlying23
  have aqv := Tryz.isAgg23
  have zqv := Tryz.sizeOf23
  have uqt := Tryz.underlying37
  have aqt := Tryz.isAgg37
  have zqt := Tryz.sizeOf37
  have hS : Tryz.prog.underlying 51 = some (.struct (Tryz.prog.fieldsOf 51)) := by kernel_rfl
  have hp : Tryz.prog.stoodInHeld 51 = false := by kernel_rfl
  have hS2 : Tryz.prog.underlying 37 = some (.struct (Tryz.prog.fieldsOf 37)) := by kernel_rfl
  have hp2 : Tryz.prog.stoodInHeld 37 = false := by kernel_rfl
  have hv := eqv_self 9997 x.al
  have hv2 := eqv_self 9997 x.de
  simp only [Nat.reduceAdd] at hv hv2
  rw [run_neq_struct]
  rw [show (10000 : Nat) = 9999 + 1 from rfl]
  rw [run_equalIn_agg w 9999 51 _ _ hS hp]
  simp only [Program.fieldsOf, Tryz.underlying51]
  unfold linkC
  go_simp
end Go.Proofs.YtblogecapegbmaaGreat.Smr

/- Rows of texts compared; About of one event; the example. -/
namespace Go.Proofs.YtblogecapegbmaaGreat.Sr
open Go.RowKit Go.Proofs.YtblogecapegbmaaGreat.Mem Go.Proofs.YtblogecapegbmaaGreat.Tx
open Go.Proofs.YtblogecapegbmaaGreat.Fc (fitS NodeP LinkP NodeC PieceP XattrP nodeC linkC pieceC xattrC)
open Go.Proofs.YtblogecapegbmaaGreat.Vc (vecC stC eq8 eqv neq_st eql_st)
set_option linter.unusedVariables false set_option linter.unusedSimpArgs false

theorem srow_one {α : Type} {w : World} {k g : Nat} {f : α → Array Value} {t : TypeId} {x : α} (h : Has w g t (f x)) : Fc.SRow w k f (some ⟨g, 0, none⟩) 1 [x] :=
  ⟨rfl, fun _ => ⟨g, 0, rfl, h.bound, fun i hi j v hv => by
    have hi0 : i = 0 := by simp at hi; omega
    subst hi0
    have := h.at_ j
    rw [Nat.zero_mul, Nat.add_zero, Nat.zero_add, this]
    exact hv⟩⟩
theorem info_ev : (Tryz.prog.info? 58).map (fun i => (i.zero, i.size, i.bytes)) = some (some (.agg (Fc.eventC zeroE)), 21, 200) := by kernel_rfl
theorem info_parts_ev : ∃ i, Tryz.prog.info? 58 = some i ∧ i.zero = some (.agg (Fc.eventC zeroE)) ∧ i.size = 21 ∧ i.bytes = 200 := by
  cases hh : Tryz.prog.info? 58 with
  | none => have := info_ev; rw [hh] at this; cases this
  | some i => have := info_ev; rw [hh] at this; simp at this; exact ⟨i, rfl, this⟩
theorem fill_ev (e : Fc.EventC) : Instr.fill (fun i => some (i * 21, 21)) ((Array.range (1 * 21)).map ((Value.agg (Fc.eventC zeroE)).cells[· % (Value.agg (Fc.eventC zeroE)).cells.size]!)) [(0, Value.agg (Fc.eventC e))] = some (Fc.eventC e) := by kernel_rfl
theorem wpList_build_ev {ops : Array Oper} {rest : List Oper} {o : Oper} {a : Act} {w : World} {Q : Exit → Act → World → Prop} (x : Operand) (ho : o.op = .buildSlice 56 1 #[(0, x)]) (e : Fc.EventC)
    (h : (o.guard = none ∧ a.eval x = .agg (Fc.eventC e)) ∧ wpList Tryz.prog ops Q rest (a.put o.dst (.slice (some ⟨w.heap.size, 0, none⟩) 1 1)) (w.alloc (.cells (Fc.eventC e) 58))) : wpList Tryz.prog ops Q (o :: rest) a w := by
  obtain ⟨⟨h1, h2⟩, h3⟩ := h
  obtain ⟨i, q0, q1, q2, q3⟩ := info_parts_ev
  refine wpList_buildSlice h1 56 58 1 _ ho (Fc.eventC e) i _ Tryz.underlying56 q0 q1 (by omega) (by omega) ?_ h3
  have e1 : (#[(0, x)] : Array (Nat × Operand)).map (fun (i, x) => (i, a.eval x)) = #[(0, .agg (Fc.eventC e))] := by simp [h2]
  rw [e1, q2]
  exact fill_ev e
def eL (e : Fc.EventC) : List Value := (Fc.eventC e).toList
def EOwn (w : World) (B : Nat) (v : Value) (es : List Fc.EventC) : Prop := w.ownsRow B 58 21 v es.length (es.flatMap eL)
structure GrewE (B : Nat) (w w' : World) (u u' : Value) (es : List Fc.EventC) (e : Fc.EventC) : Prop where
  row : EOwn w' B u' (es ++ [e])
  below : Below B w w'
  chg : Chg (fun k => u.ownBlock = some k) w w'
  sl : ∃ A c, u' = .slice A (es.length + 1) c
theorem wpl_event {ops : Array Oper} {rest : List Oper} {o : Oper} {a : Act} {Q : Exit → Act → World → Prop} (s x : Operand) (hgd : o.guard = none)
    (ho : o.op = .call { callee := .builtin .append, args := #[s, x], argTypes := #[56, 56] }) {B : Nat} {u : Value} {es : List Fc.EventC} {wc : World} {e : Fc.EventC}
    (h : ((a.eval s = u ∧ (∃ g : Nat, a.eval x = .slice (some ⟨g, 0, none⟩) 1 1 ∧ g = wc.heap.size)) ∧ EOwn wc B u es ∧ B ≤ wc.heap.size ∧ es.length ≤ 4000000) ∧
      ∀ u' w', GrewE B wc w' u u' es e → wpList Tryz.prog ops Q rest (a.put o.dst u') w') :
    wpList Tryz.prog ops Q (o :: rest) a (wc.alloc (.cells (Fc.eventC e) 58)) := by
  obtain ⟨⟨⟨h1, g0, h2, rfl⟩, h3, h4, h5⟩, hk⟩ := h
  obtain ⟨i0, hi, hz0, hz1, hz2⟩ := info_parts_ev
  refine wpList_append_lies _ hgd s x 56 ho B 58 i0 (.agg (Fc.eventC zeroE)) 21 200 Tryz.underlying56 hi hz0 hz1 hz2 rfl (by decide) u es.length (es.flatMap eL) h1 (World.ownsRow.alloc h3 _) ⟨wc.heap.size, 0, none⟩ 1 1 (eL e) h2 rfl ?_ ?_ (by decide) (by unfold maxLen; omega) (by omega) (by simp; omega) _ rfl ?_
  · exact World.news_of_block (Has.fresh wc 58 (Fc.eventC e))
  · exact fun u hu => (Array.all_eq_true_iff_forall_mem.1 (event_one e)) u (by simpa [eL] using hu)
  · intro g cap w' hg hgr hor hlt
    refine hk _ _ ⟨?_, ?_, ?_, ⟨_, _, rfl⟩⟩
    · unfold EOwn
      rw [List.length_append, List.flatMap_append]
      simpa using hg
    · exact ((Below.refl B wc).alloc h4 _).grown hgr (by simp; omega) (fun q hq => ((World.ownsRow.lt h3) q hq).1)
    · have c : Chg (fun k => u.ownBlock = some k) (wc.alloc (.cells (Fc.eventC e) 58)) w' := ⟨hgr.os, hgr.tape, hgr.output, hgr.size, fun k hk hn => hgr.block k hk (fun e => hn e.symm)⟩
      exact ((Chg.refl _ wc).alloc _).trans c
end Go.Proofs.YtblogecapegbmaaGreat.Sr

/- SameNode, of an inode and itself. -/
namespace Go.Proofs.YtblogecapegbmaaGreat.Smr
open Go.RowKit Go.Proofs.YtblogecapegbmaaGreat.Mem
open Go.Proofs.YtblogecapegbmaaGreat.Fc (PieceP XattrP LinkP NodeC pieceC xattrC linkC nodeC stateC)
open Go.Proofs.YtblogecapegbmaaGreat.Vc (vecC stC)
set_option linter.unusedVariables false set_option linter.unusedSimpArgs false

structure Bx2 (t : TypeId) (cs : Array Value) (w wr : World) : Prop where
  below : Below w.heap.size w wr
  h1 : Has wr w.heap.size t cs
  h2 : Has wr (w.heap.size + 1) t cs
theorem Bx2.start (w : World) (t : TypeId) (cs : Array Value) : Bx2 t cs w ((w.alloc (.cells cs t)).alloc (.cells cs t)) := by
  refine ⟨((Below.refl w.heap.size w).alloc (Nat.le_refl _) _).alloc (by simp) _, (Has.fresh w t cs).past _, ?_⟩
  have q := Has.fresh (w.alloc (.cells cs t)) t cs
  rw [World.size_alloc] at q
  exact q
theorem Bx2.low {t : TypeId} {cs : Array Value} {w wr w2 : World} (h : Bx2 t cs w wr) (hb : Below wr.heap.size wr w2) : Bx2 t cs w w2 := ⟨h.below.trans (hb.mono h.below.size), h.h1.below hb, h.h2.below hb⟩
theorem Bx2.drew {t : TypeId} {cs : Array Value} {w wr : World} (h : Bx2 t cs w wr) : Bx2 t cs w wr.drew := ⟨h.below.drew, h.h1, h.h2⟩
theorem self_row {j n : Nat} (h : j < n) : (0 ≤ (j : Int) ∧ (j : Int) < (n : Int)) ∧ (j : Int).toNat = j := ⟨⟨by omega, by omega⟩, by omega⟩
theorem rangeOf {w : World} {g : Nat} {t : TypeId} {cs : Array Value} (h : Has w g t cs) (o : Nat) (C : Array Value) (hC : ∀ j v, C.toList[j]? = some v → cs[o + j]? = some v) : w.rangeAt g o C.toList := fun j v hv => (h.at_ (o + j)).trans (hC j v hv)
theorem rid {x : NodeC} : ∀ j v, (#[.int .i64 x.p.id.1, .int .i64 x.p.id.2] : Array Value).toList[j]? = some v → (nodeC x)[0 + j]? = some v := fun j v hv => by
  match j, hv with
  | 0, hv => exact hv
  | 1, hv => exact hv
  | j + 2, hv => simp at hv
theorem rat {x : NodeC} : ∀ j v, (#[.int .i64 x.p.aat.1, .int .i64 x.p.aat.2, .int .i64 x.p.mode, .int .u64 x.p.time] : Array Value).toList[j]? = some v → (nodeC x)[4 + j]? = some v := fun j v hv => by
  match j, hv with
  | 0, hv => exact hv
  | 1, hv => exact hv
  | 2, hv => exact hv
  | 3, hv => exact hv
  | j + 4, hv => simp at hv
theorem rsz {x : NodeC} : ∀ j v, (#[.int .i64 x.p.sat.1, .int .i64 x.p.sat.2, .int .i64 x.p.n] : Array Value).toList[j]? = some v → (nodeC x)[8 + j]? = some v := fun j v hv => by
  match j, hv with
  | 0, hv => exact hv
  | 1, hv => exact hv
  | 2, hv => exact hv
  | j + 3, hv => simp at hv
theorem info_attr : (Tryz.prog.info? 40).map (·.size) = some 4 := by kernel_rfl
theorem info_size : (Tryz.prog.info? 42).map (·.size) = some 3 := by kernel_rfl
theorem info_piece : (Tryz.prog.info? 74).map (·.size) = some 4 := by kernel_rfl
theorem info_xattr : (Tryz.prog.info? 77).map (·.size) = some 5 := by kernel_rfl
set_option maxRecDepth 100000 in
set_option maxHeartbeats 4000000 in
theorem samenode_self (x : NodeC) (w : World) (h : Fc.NodeFit w x) : Calls Tryz.prog 45 #[.agg (nodeC x), .agg (nodeC x)] w fun e w' => e = .returned (.bool true) ∧ Below w.heap.size w w' := by
  have HB := Lib.hid (Bx2.start w 46 (nodeC x))
  have HPS := Lib.hid h.ps
  have HXS := Lib.hid h.xs
  have m1 := h.m1
  have m2 := h.m2
  have HA := Lib.hid HB.out.h1
  have HA2 := Lib.hid HB.out.h2
  have k2 : ((w.alloc (.cells (nodeC x) 46)).alloc (.cells (nodeC x) 46)).cell? ⟨w.heap.size, 2, none⟩ = some (.int .i64 x.p.kind) := HA.out.at_ 2
  have l2 : ((w.alloc (.cells (nodeC x) 46)).alloc (.cells (nodeC x) 46)).cell? ⟨w.heap.size + 1, 2, none⟩ = some (.int .i64 x.p.kind) := HA2.out.at_ 2
  have k3 : ((w.alloc (.cells (nodeC x) 46)).alloc (.cells (nodeC x) 46)).cell? ⟨w.heap.size, 3, none⟩ = some (.string x.p.text) := HA.out.at_ 3
  have l3 : ((w.alloc (.cells (nodeC x) 46)).alloc (.cells (nodeC x) 46)).cell? ⟨w.heap.size + 1, 3, none⟩ = some (.string x.p.text) := HA2.out.at_ 3
  have k11 : ((w.alloc (.cells (nodeC x) 46)).alloc (.cells (nodeC x) 46)).cell? ⟨w.heap.size, 11, none⟩ = some (.slice x.A1 x.n1 x.c1) := HA.out.at_ 11
  have l11 : ((w.alloc (.cells (nodeC x) 46)).alloc (.cells (nodeC x) 46)).cell? ⟨w.heap.size + 1, 11, none⟩ = some (.slice x.A1 x.n1 x.c1) := HA2.out.at_ 11
  have k12 : ((w.alloc (.cells (nodeC x) 46)).alloc (.cells (nodeC x) 46)).cell? ⟨w.heap.size, 12, none⟩ = some (.slice x.A2 x.n2 x.c2) := HA.out.at_ 12
  have l12 : ((w.alloc (.cells (nodeC x) 46)).alloc (.cells (nodeC x) 46)).cell? ⟨w.heap.size + 1, 12, none⟩ = some (.slice x.A2 x.n2 x.c2) := HA2.out.at_ 12
  have e1 := fun W => nref_st x.p.id.1 x.p.id.2 W
  have e4 := fun W => nref_attr x.p.aat.1 x.p.aat.2 x.p.mode x.p.time W
  have e5 := fun W => nref_size x.p.sat.1 x.p.sat.2 x.p.n W
  clear h
  go_enter Tryz.func45, Tryz.ntmps45
  go_wp2_with (first | ((with_reducible refine Who.wpList_loadC 37 (.tmp 7) rfl (w.heap.size) 0 (#[.int .i64 x.p.id.1, .int .i64 x.p.id.2]) ?_); refine And.intro ⟨by rfl, by rfl, ⟨_, Tryz.underlying37, rfl⟩, Sr.info_st⟩ (And.intro (rangeOf HA.out 0 _ rid) ?_); (try simp only [Act.put, List.setIfInBounds_toArray, List.set_cons_zero, List.set_cons_succ])) | ((with_reducible refine Who.wpList_loadC 37 (.tmp 9) rfl (w.heap.size + 1) 0 (#[.int .i64 x.p.id.1, .int .i64 x.p.id.2]) ?_); refine And.intro ⟨by rfl, by rfl, ⟨_, Tryz.underlying37, rfl⟩, Sr.info_st⟩ (And.intro (rangeOf HA2.out 0 _ rid) ?_); (try simp only [Act.put, List.setIfInBounds_toArray, List.set_cons_zero, List.set_cons_succ])) | ((with_reducible refine Who.wpList_loadC 40 (.tmp 27) rfl (w.heap.size) 4 (#[.int .i64 x.p.aat.1, .int .i64 x.p.aat.2, .int .i64 x.p.mode, .int .u64 x.p.time]) ?_); refine And.intro ⟨by rfl, by rfl, ⟨_, Tryz.underlying40, rfl⟩, info_attr⟩ (And.intro (rangeOf HA.out 4 _ rat) ?_); (try simp only [Act.put, List.setIfInBounds_toArray, List.set_cons_zero, List.set_cons_succ])) | ((with_reducible refine Who.wpList_loadC 40 (.tmp 29) rfl (w.heap.size + 1) 4 (#[.int .i64 x.p.aat.1, .int .i64 x.p.aat.2, .int .i64 x.p.mode, .int .u64 x.p.time]) ?_); refine And.intro ⟨by rfl, by rfl, ⟨_, Tryz.underlying40, rfl⟩, info_attr⟩ (And.intro (rangeOf HA2.out 4 _ rat) ?_); (try simp only [Act.put, List.setIfInBounds_toArray, List.set_cons_zero, List.set_cons_succ])) | ((with_reducible refine Who.wpList_loadC 42 (.tmp 34) rfl (w.heap.size) 8 (#[.int .i64 x.p.sat.1, .int .i64 x.p.sat.2, .int .i64 x.p.n]) ?_); refine And.intro ⟨by rfl, by rfl, ⟨_, Tryz.underlying42, rfl⟩, info_size⟩ (And.intro (rangeOf HA.out 8 _ rsz) ?_); (try simp only [Act.put, List.setIfInBounds_toArray, List.set_cons_zero, List.set_cons_succ])) | ((with_reducible refine Who.wpList_loadC 42 (.tmp 36) rfl (w.heap.size + 1) 8 (#[.int .i64 x.p.sat.1, .int .i64 x.p.sat.2, .int .i64 x.p.n]) ?_); refine And.intro ⟨by rfl, by rfl, ⟨_, Tryz.underlying42, rfl⟩, info_size⟩ (And.intro (rangeOf HA2.out 8 _ rsz) ?_); (try simp only [Act.put, List.setIfInBounds_toArray, List.set_cons_zero, List.set_cons_succ])) | fail)
  clear k2 k3 k11 k12 l2 l3 l11 l12 e1 e4 e5
  go_loopw [61] (fun i wr => ∃ j : Nat, i = .int .i64 j ∧ j ≤ x.n1 ∧ Hid (Bx2 46 (nodeC x) w wr)) (fun i _ => x.n1 - (intOf i).toNat)
  case atStart => exact ⟨0, rfl, Nat.zero_le _, HB⟩
  case round =>
    clear HB
    obtain ⟨j, rfl, hj, HB⟩ := hrel
    by_cases hlt : j < x.n1
    · obtain ⟨b, off, hA, hbl, hx, mr⟩ := HPS.out.range (i := j) hlt
      have HSS := Lib.hid (fun (V : World) (hV : Bx2 46 (nodeC x) w V) => show (V.cell? ⟨w.heap.size, 11, none⟩ = some (.slice (some ⟨b, off, none⟩) x.n1 x.c1) ∧ V.cell? ⟨w.heap.size + 1, 11, none⟩ = some (.slice (some ⟨b, off, none⟩) x.n1 x.c1)) ∧ V.rangeAt b (off + j * 4) (pieceC x.p.ps[j]).toList from by
      refine ⟨⟨(hV.h1.at_ 11).trans ?_, (hV.h2.at_ 11).trans ?_⟩, Fc.row_range_below mr hV.below hbl⟩
      · show some (Value.slice x.A1 x.n1 x.c1) = _
        rw [hA]
      · show some (Value.slice x.A1 x.n1 x.c1) = _
        rw [hA])
      generalize x.p.ps[j] = y at *
      have HXJ := Lib.hid (Smr.self_row (j := j) (n := x.n1) hlt)
      have HNR := Lib.hid (fun W => nref_piece y W)
      clear hA mr hx
      go_wp2_with fail
      refine wp_region_held_drew (S := fun V => (V.cell? ⟨w.heap.size, 11, none⟩ = some (.slice (some ⟨b, off, none⟩) x.n1 x.c1) ∧ V.cell? ⟨w.heap.size + 1, 11, none⟩ = some (.slice (some ⟨b, off, none⟩) x.n1 x.c1)) ∧ V.rangeAt b (off + j * 4) (pieceC y).toList) (by kernel_rfl) (HSS.out _ HB.out.drew) (fun hHeld => ?_)
      refine Vc.wpAnyH_read (i := 0) (d := some 64) (v := ?v1) (by rfl) (by rfl) (by kernel_rfl) (by kernel_rfl) (by kernel_rfl) (fun _ _ _ h => h) (by rfl) ?hy1 (by assumption) ?rest1
      case hy1 =>
        intro w hSw
        obtain ⟨⟨s0, s1⟩, s2⟩ := hSw
        go_simp
        try with_reducible rfl
      (try simp only [Act.put, List.setIfInBounds_toArray, List.set_cons_zero, List.set_cons_succ])
      refine Vc.wpAnyH_read (i := 1) (d := some 65) (v := .slice (some ⟨b, off, none⟩) x.n1 x.c1) (by rfl) (by rfl) (by kernel_rfl) (by kernel_rfl) (by kernel_rfl) (fun _ _ _ h => h) (by rfl) ?hy2 (by assumption) ?rest2
      case hy2 =>
        intro w hSw
        obtain ⟨⟨s0, s1⟩, s2⟩ := hSw
        go_simp
        try with_reducible rfl
      (try simp only [Act.put, List.setIfInBounds_toArray, List.set_cons_zero, List.set_cons_succ])
      refine Vc.wpAnyH_read (i := 2) (d := some 66) (v := ?v3) (by rfl) (by rfl) (by kernel_rfl) (by kernel_rfl) (by kernel_rfl) (fun _ _ _ h => h) (by rfl) ?hy3 (by assumption) ?rest3
      case hy3 =>
        intro w hSw
        go_simp
        try with_reducible rfl
      (try simp only [Act.put, List.setIfInBounds_toArray, List.set_cons_zero, List.set_cons_succ])
      refine Vc.wpAnyH_read (i := 3) (d := some 67) (v := .pointer (some ⟨b, off + j * 4, none⟩)) (by rfl) (by rfl) (by kernel_rfl) (by kernel_rfl) (by kernel_rfl) (fun _ _ _ h => h) (by rfl) ?hy4 (by assumption) ?rest4
      case hy4 =>
        intro w hSw
        go_simp
        all_goals first | (rw [if_pos HXJ.out.1, HXJ.out.2]) | (intro hh; exfalso; omega) | (intro hh; exfalso; have hh2 := hh (by omega); omega)
      (try simp only [Act.put, List.setIfInBounds_toArray, List.set_cons_zero, List.set_cons_succ])
      refine Vc.wpAnyH_read (i := 4) (d := some 68) (v := .agg (pieceC y)) (by rfl) (by rfl) (by kernel_rfl) (by kernel_rfl) (by kernel_rfl) (fun _ _ _ h => h) (by rfl) ?hy5 (by assumption) ?rest5
      case hy5 =>
        intro w hSw
        exact Who.exec_loadA _ rfl rfl hSw.2 Tryz.underlying74 rfl info_piece
      (try simp only [Act.put, List.setIfInBounds_toArray, List.set_cons_zero, List.set_cons_succ])
      refine Vc.wpAnyH_read (i := 5) (d := some 69) (v := ?v6) (by rfl) (by rfl) (by kernel_rfl) (by kernel_rfl) (by kernel_rfl) (fun _ _ _ h => h) (by rfl) ?hy6 (by assumption) ?rest6
      case hy6 =>
        intro w hSw
        obtain ⟨⟨s0, s1⟩, s2⟩ := hSw
        go_simp
        try with_reducible rfl
      (try simp only [Act.put, List.setIfInBounds_toArray, List.set_cons_zero, List.set_cons_succ])
      refine Vc.wpAnyH_read (i := 6) (d := some 70) (v := .slice (some ⟨b, off, none⟩) x.n1 x.c1) (by rfl) (by rfl) (by kernel_rfl) (by kernel_rfl) (by kernel_rfl) (fun _ _ _ h => h) (by rfl) ?hy7 (by assumption) ?rest7
      case hy7 =>
        intro w hSw
        obtain ⟨⟨s0, s1⟩, s2⟩ := hSw
        go_simp
        try with_reducible rfl
      (try simp only [Act.put, List.setIfInBounds_toArray, List.set_cons_zero, List.set_cons_succ])
      refine Vc.wpAnyH_read (i := 7) (d := some 71) (v := ?v8) (by rfl) (by rfl) (by kernel_rfl) (by kernel_rfl) (by kernel_rfl) (fun _ _ _ h => h) (by rfl) ?hy8 (by assumption) ?rest8
      case hy8 =>
        intro w hSw
        go_simp
        try with_reducible rfl
      (try simp only [Act.put, List.setIfInBounds_toArray, List.set_cons_zero, List.set_cons_succ])
      refine Vc.wpAnyH_read (i := 8) (d := some 72) (v := .pointer (some ⟨b, off + j * 4, none⟩)) (by rfl) (by rfl) (by kernel_rfl) (by kernel_rfl) (by kernel_rfl) (fun _ _ _ h => h) (by rfl) ?hy9 (by assumption) ?rest9
      case hy9 =>
        intro w hSw
        go_simp
        all_goals first | (rw [if_pos HXJ.out.1, HXJ.out.2]) | (intro hh; exfalso; omega) | (intro hh; exfalso; have hh2 := hh (by omega); omega)
      (try simp only [Act.put, List.setIfInBounds_toArray, List.set_cons_zero, List.set_cons_succ])
      refine Vc.wpAnyH_read (i := 9) (d := some 73) (v := .agg (pieceC y)) (by rfl) (by rfl) (by kernel_rfl) (by kernel_rfl) (by kernel_rfl) (fun _ _ _ h => h) (by rfl) ?hy10 (by assumption) ?rest10
      case hy10 =>
        intro w hSw
        exact Who.exec_loadA _ rfl rfl hSw.2 Tryz.underlying74 rfl info_piece
      (try simp only [Act.put, List.setIfInBounds_toArray, List.set_cons_zero, List.set_cons_succ])
      refine Vc.wpAnyH_read (i := 10) (d := some 74) (v := .bool false) (by rfl) (by rfl) (by kernel_rfl) (by kernel_rfl) (by kernel_rfl) (fun _ _ _ h => h) (by rfl) ?hy11 (by assumption) ?rest11
      case hy11 =>
        intro w hSw
        have hnr := HNR.out
        go_simp
        try with_reducible rfl
      (try simp only [Act.put, List.setIfInBounds_toArray, List.set_cons_zero, List.set_cons_succ])
      refine wpAnyH_done (by kernel_rfl) ?_ _
      go_wp2
      go_roundw
      case rel => exact ⟨j + 1, by go_num, by omega, Lib.hid HB.out.drew⟩
      case measure => simp [intOf]; omega
    · have c11 := HB.out.h1.at_ 12
      have HQ := Lib.hid c11
      have q12 : (_ : World).cell? ⟨w.heap.size, 12, none⟩ = some (.slice x.A2 x.n2 x.c2) := HQ.out
      clear c11
      go_wp2
      go_loopw [79] (fun i wr => ∃ j : Nat, i = .int .i64 j ∧ j ≤ x.n2 ∧ Hid (Bx2 46 (nodeC x) w wr)) (fun i _ => x.n2 - (intOf i).toNat)
      case atStart => exact ⟨0, rfl, Nat.zero_le _, HB⟩
      case round =>
        clear HB
        obtain ⟨j, rfl, hj, HB⟩ := hrel
        by_cases hlt : j < x.n2
        · obtain ⟨b, off, hA, hbl, hx, mr⟩ := HXS.out.range (i := j) hlt
          have HSS := Lib.hid (fun (V : World) (hV : Bx2 46 (nodeC x) w V) => show (V.cell? ⟨w.heap.size, 12, none⟩ = some (.slice (some ⟨b, off, none⟩) x.n2 x.c2) ∧ V.cell? ⟨w.heap.size + 1, 12, none⟩ = some (.slice (some ⟨b, off, none⟩) x.n2 x.c2)) ∧ V.rangeAt b (off + j * 5) (xattrC x.p.xs[j]).toList from by
          refine ⟨⟨(hV.h1.at_ 12).trans ?_, (hV.h2.at_ 12).trans ?_⟩, Fc.row_range_below mr hV.below hbl⟩
          · show some (Value.slice x.A2 x.n2 x.c2) = _
            rw [hA]
          · show some (Value.slice x.A2 x.n2 x.c2) = _
            rw [hA])
          generalize x.p.xs[j] = y at *
          have HXJ := Lib.hid (Smr.self_row (j := j) (n := x.n2) hlt)
          have HNR := Lib.hid (fun W => nref_xattr y W)
          clear hA mr hx
          go_wp2_with fail
          refine wp_region_held_drew (S := fun V => (V.cell? ⟨w.heap.size, 12, none⟩ = some (.slice (some ⟨b, off, none⟩) x.n2 x.c2) ∧ V.cell? ⟨w.heap.size + 1, 12, none⟩ = some (.slice (some ⟨b, off, none⟩) x.n2 x.c2)) ∧ V.rangeAt b (off + j * 5) (xattrC y).toList) (by kernel_rfl) (HSS.out _ HB.out.drew) (fun hHeld => ?_)
          refine Vc.wpAnyH_read (i := 0) (d := some 82) (v := ?v12) (by rfl) (by rfl) (by kernel_rfl) (by kernel_rfl) (by kernel_rfl) (fun _ _ _ h => h) (by rfl) ?hy12 (by assumption) ?rest12
          case hy12 =>
            intro w hSw
            obtain ⟨⟨s0, s1⟩, s2⟩ := hSw
            go_simp
            try with_reducible rfl
          (try simp only [Act.put, List.setIfInBounds_toArray, List.set_cons_zero, List.set_cons_succ])
          refine Vc.wpAnyH_read (i := 1) (d := some 83) (v := .slice (some ⟨b, off, none⟩) x.n2 x.c2) (by rfl) (by rfl) (by kernel_rfl) (by kernel_rfl) (by kernel_rfl) (fun _ _ _ h => h) (by rfl) ?hy13 (by assumption) ?rest13
          case hy13 =>
            intro w hSw
            obtain ⟨⟨s0, s1⟩, s2⟩ := hSw
            go_simp
            try with_reducible rfl
          (try simp only [Act.put, List.setIfInBounds_toArray, List.set_cons_zero, List.set_cons_succ])
          refine Vc.wpAnyH_read (i := 2) (d := some 84) (v := ?v14) (by rfl) (by rfl) (by kernel_rfl) (by kernel_rfl) (by kernel_rfl) (fun _ _ _ h => h) (by rfl) ?hy14 (by assumption) ?rest14
          case hy14 =>
            intro w hSw
            go_simp
            try with_reducible rfl
          (try simp only [Act.put, List.setIfInBounds_toArray, List.set_cons_zero, List.set_cons_succ])
          refine Vc.wpAnyH_read (i := 3) (d := some 85) (v := .pointer (some ⟨b, off + j * 5, none⟩)) (by rfl) (by rfl) (by kernel_rfl) (by kernel_rfl) (by kernel_rfl) (fun _ _ _ h => h) (by rfl) ?hy15 (by assumption) ?rest15
          case hy15 =>
            intro w hSw
            go_simp
            all_goals first | (rw [if_pos HXJ.out.1, HXJ.out.2]) | (intro hh; exfalso; omega) | (intro hh; exfalso; have hh2 := hh (by omega); omega)
          (try simp only [Act.put, List.setIfInBounds_toArray, List.set_cons_zero, List.set_cons_succ])
          refine Vc.wpAnyH_read (i := 4) (d := some 86) (v := .agg (xattrC y)) (by rfl) (by rfl) (by kernel_rfl) (by kernel_rfl) (by kernel_rfl) (fun _ _ _ h => h) (by rfl) ?hy16 (by assumption) ?rest16
          case hy16 =>
            intro w hSw
            exact Who.exec_loadA _ rfl rfl hSw.2 Tryz.underlying77 rfl info_xattr
          (try simp only [Act.put, List.setIfInBounds_toArray, List.set_cons_zero, List.set_cons_succ])
          refine Vc.wpAnyH_read (i := 5) (d := some 87) (v := ?v17) (by rfl) (by rfl) (by kernel_rfl) (by kernel_rfl) (by kernel_rfl) (fun _ _ _ h => h) (by rfl) ?hy17 (by assumption) ?rest17
          case hy17 =>
            intro w hSw
            obtain ⟨⟨s0, s1⟩, s2⟩ := hSw
            go_simp
            try with_reducible rfl
          (try simp only [Act.put, List.setIfInBounds_toArray, List.set_cons_zero, List.set_cons_succ])
          refine Vc.wpAnyH_read (i := 6) (d := some 88) (v := .slice (some ⟨b, off, none⟩) x.n2 x.c2) (by rfl) (by rfl) (by kernel_rfl) (by kernel_rfl) (by kernel_rfl) (fun _ _ _ h => h) (by rfl) ?hy18 (by assumption) ?rest18
          case hy18 =>
            intro w hSw
            obtain ⟨⟨s0, s1⟩, s2⟩ := hSw
            go_simp
            try with_reducible rfl
          (try simp only [Act.put, List.setIfInBounds_toArray, List.set_cons_zero, List.set_cons_succ])
          refine Vc.wpAnyH_read (i := 7) (d := some 89) (v := ?v19) (by rfl) (by rfl) (by kernel_rfl) (by kernel_rfl) (by kernel_rfl) (fun _ _ _ h => h) (by rfl) ?hy19 (by assumption) ?rest19
          case hy19 =>
            intro w hSw
            go_simp
            try with_reducible rfl
          (try simp only [Act.put, List.setIfInBounds_toArray, List.set_cons_zero, List.set_cons_succ])
          refine Vc.wpAnyH_read (i := 8) (d := some 90) (v := .pointer (some ⟨b, off + j * 5, none⟩)) (by rfl) (by rfl) (by kernel_rfl) (by kernel_rfl) (by kernel_rfl) (fun _ _ _ h => h) (by rfl) ?hy20 (by assumption) ?rest20
          case hy20 =>
            intro w hSw
            go_simp
            all_goals first | (rw [if_pos HXJ.out.1, HXJ.out.2]) | (intro hh; exfalso; omega) | (intro hh; exfalso; have hh2 := hh (by omega); omega)
          (try simp only [Act.put, List.setIfInBounds_toArray, List.set_cons_zero, List.set_cons_succ])
          refine Vc.wpAnyH_read (i := 9) (d := some 91) (v := .agg (xattrC y)) (by rfl) (by rfl) (by kernel_rfl) (by kernel_rfl) (by kernel_rfl) (fun _ _ _ h => h) (by rfl) ?hy21 (by assumption) ?rest21
          case hy21 =>
            intro w hSw
            exact Who.exec_loadA _ rfl rfl hSw.2 Tryz.underlying77 rfl info_xattr
          (try simp only [Act.put, List.setIfInBounds_toArray, List.set_cons_zero, List.set_cons_succ])
          refine Vc.wpAnyH_read (i := 10) (d := some 92) (v := .bool false) (by rfl) (by rfl) (by kernel_rfl) (by kernel_rfl) (by kernel_rfl) (fun _ _ _ h => h) (by rfl) ?hy22 (by assumption) ?rest22
          case hy22 =>
            intro w hSw
            have hnr := HNR.out
            go_simp
            try with_reducible rfl
          (try simp only [Act.put, List.setIfInBounds_toArray, List.set_cons_zero, List.set_cons_succ])
          refine wpAnyH_done (by kernel_rfl) ?_ _
          go_wp2
          go_roundw
          case rel => exact ⟨j + 1, by go_num, by omega, Lib.hid HB.out.drew⟩
          case measure => simp [intOf]; omega
        · go_wp2
          go_ret
          exact ⟨rfl, HB.out.below⟩
end Go.Proofs.YtblogecapegbmaaGreat.Smr

/- A stable sort in pure terms: what swaps, rotations, insertions and symmetric merges make of a row, as rearrangements of its places. No program. -/
namespace Go.Proofs.YtblogecapegbmaaGreat.Stab
set_option linter.unusedVariables false set_option linter.unusedSimpArgs false

/-- sorted from a up to b, by a relation that is asked of each two -/
def Srt {β : Type} (lt : β → β → Prop) (x : Nat → β) (a b : Nat) : Prop := ∀ i j, a ≤ i → i < j → j < b → lt (x i) (x j)
/-- a rearrangement of the places from a up to b -/
structure Re (a b : Nat) (p : Nat → Nat) : Prop where
  ins : ∀ k, a ≤ k → k < b → a ≤ p k ∧ p k < b
  out : ∀ k, ¬ (a ≤ k ∧ k < b) → p k = k
  back : ∃ q : Nat → Nat, (∀ k, p (q k) = k) ∧ (∀ k, q (p k) = k)
theorem Re.refl (a b : Nat) : Re a b (fun k => k) := ⟨fun k h1 h2 => ⟨h1, h2⟩, fun k h => rfl, fun k => k, fun k => rfl, fun k => rfl⟩
theorem Re.comp {a b : Nat} {p r : Nat → Nat} (h : Re a b p) (g : Re a b r) : Re a b (fun k => p (r k)) := by
  obtain ⟨q, h1, h2⟩ := h.back
  obtain ⟨s, g1, g2⟩ := g.back
  refine ⟨fun k k1 k2 => ?_, fun k hk => ?_, fun k => s (q k), fun k => ?_, fun k => ?_⟩
  · exact h.ins _ (g.ins k k1 k2).1 (g.ins k k1 k2).2
  · show p (r k) = k
    rw [g.out k hk, h.out k hk]
  · show p (r (s (q k))) = k
    rw [g1, h1]
  · show s (q (p (r k))) = k
    rw [h2, g2]
theorem Re.wide {a b c d : Nat} {p : Nat → Nat} (h : Re a b p) (h1 : c ≤ a) (h2 : b ≤ d) : Re c d p := by
  refine ⟨fun k k1 k2 => ?_, fun k hk => h.out k (by omega), h.back⟩
  by_cases hk : a ≤ k ∧ k < b
  · have := h.ins k hk.1 hk.2
    omega
  · rw [h.out k hk]
    exact ⟨k1, k2⟩
theorem Re.inj {a b : Nat} {p : Nat → Nat} (h : Re a b p) {i j : Nat} (hi : p i = p j) : i = j := by
  obtain ⟨q, h1, h2⟩ := h.back
  rw [← h2 i, hi, h2]

/-- two places exchanged -/
def swapP (i j k : Nat) : Nat := if k = i then j else if k = j then i else k
theorem swapP_self (i j k : Nat) : swapP i j (swapP i j k) = k := by
  unfold swapP
  repeat' split
  all_goals omega
theorem Re.swap {a b i j : Nat} (hi : a ≤ i) (hi' : i < b) (hj : a ≤ j) (hj' : j < b) : Re a b (swapP i j) := by
  refine ⟨fun k k1 k2 => ?_, fun k hk => ?_, swapP i j, swapP_self i j, swapP_self i j⟩
  · unfold swapP
    repeat' split
    all_goals omega
  · unfold swapP
    repeat' split
    all_goals omega
/-- n places from a exchanged with n from b -/
def swapR (a b n k : Nat) : Nat := if a ≤ k ∧ k < a + n then k - a + b else if b ≤ k ∧ k < b + n then k - b + a else k
theorem swapR_zero (a b k : Nat) : swapR a b 0 k = k := by
  unfold swapR
  repeat' split
  all_goals omega
theorem swapR_step (a b n k : Nat) (h : a + (n + 1) ≤ b) : swapR a b n (swapP (a + n) (b + n) k) = swapR a b (n + 1) k := by
  unfold swapR swapP
  repeat' split
  all_goals omega
theorem swapR_self (a b n k : Nat) (h : a + n ≤ b) : swapR a b n (swapR a b n k) = k := by
  unfold swapR
  repeat' split
  all_goals omega
theorem Re.swaps {a b n c d : Nat} (h : a + n ≤ b) (h1 : c ≤ a) (h2 : b + n ≤ d) : Re c d (swapR a b n) := by
  refine ⟨fun k k1 k2 => ?_, fun k hk => ?_, swapR a b n, fun k => swapR_self a b n k h, fun k => swapR_self a b n k h⟩
  · unfold swapR
    repeat' split
    all_goals omega
  · unfold swapR
    repeat' split
    all_goals omega
/-- what stands from a up to m, and from m up to b, in turn -/
def rotP (a m b k : Nat) : Nat := if a ≤ k ∧ k < a + (b - m) then k - a + m else if a + (b - m) ≤ k ∧ k < b then k - (b - m) else k
theorem rotP_back (a m b k : Nat) (h1 : a ≤ m) (h2 : m ≤ b) : rotP a m b (rotP a (a + (b - m)) b k) = k := by
  unfold rotP
  repeat' split
  all_goals omega
theorem Re.rot {a m b : Nat} (h1 : a ≤ m) (h2 : m ≤ b) : Re a b (rotP a m b) := by
  refine ⟨fun k k1 k2 => ?_, fun k hk => ?_, rotP a (a + (b - m)) b, fun k => rotP_back a m b k h1 h2, fun k => ?_⟩
  · unfold rotP
    repeat' split
    all_goals omega
  · unfold rotP
    repeat' split
    all_goals omega
  · have h := rotP_back a (a + (b - m)) b k (by omega) (by omega)
    rw [show a + (b - (a + (b - m))) = m by omega] at h
    exact h
/-- rotate: the longer left part, the longer right part, two of one length -/
theorem rot_left (m i j k : Nat) (hi : i ≤ m) (hj : 0 < j) (h : j < i) : swapR (m - i) m j (rotP (m - i + j) m (m + j) k) = rotP (m - i) m (m + j) k := by
  unfold swapR rotP
  repeat' split
  all_goals omega
theorem rot_right (m i j k : Nat) (hi : i ≤ m) (h0 : 0 < i) (h : i < j) : swapR (m - i) (m + j - i) i (rotP (m - i) m (m + j - i) k) = rotP (m - i) m (m + j) k := by
  unfold swapR rotP
  repeat' split
  all_goals omega
theorem rot_same (m i k : Nat) (hi : i ≤ m) : swapR (m - i) m i k = rotP (m - i) m (m + i) k := by
  unfold swapR rotP
  repeat' split
  all_goals omega
/-- one place carried up, one step further; one place carried down, one step further -/
theorem rot_up (a k c : Nat) (h : a ≤ k) : rotP a (a + 1) (k + 1) (swapP k (k + 1) c) = rotP a (a + 1) (k + 2) c := by
  unfold rotP swapP
  repeat' split
  all_goals omega
theorem rot_up0 (a c : Nat) : rotP a (a + 1) (a + 1) c = c := by
  unfold rotP
  repeat' split
  all_goals omega
theorem rot_down (k m c : Nat) (hk : 0 < k) (h : k ≤ m) : rotP k m (m + 1) (swapP k (k - 1) c) = rotP (k - 1) m (m + 1) c := by
  unfold rotP swapP
  repeat' split
  all_goals omega
theorem rot_down0 (m c : Nat) : rotP m m (m + 1) c = c := by
  unfold rotP
  repeat' split
  all_goals omega

section
variable {β : Type} {lt : β → β → Prop}
theorem Srt.sub {x : Nat → β} {a b c d : Nat} (h : Srt lt x a b) (h1 : a ≤ c) (h2 : d ≤ b) : Srt lt x c d := fun i j hi hij hj => h i j (by omega) hij (by omega)
theorem Srt.short (x : Nat → β) {a b : Nat} (h : b ≤ a + 1) : Srt lt x a b := fun i j hi hij hj => by omega
theorem Srt.congr {x y : Nat → β} {a b : Nat} (h : Srt lt x a b) (e : ∀ k, a ≤ k → k < b → y k = x k) : Srt lt y a b := fun i j hi hij hj => by
  rw [e i hi (by omega), e j (by omega) hj]
  exact h i j hi hij hj
/-- the first carried up to where it belongs -/
theorem ins_up (x : Nat → β) {a i b : Nat} (hi : a + 1 ≤ i) (hib : i ≤ b) (hs : Srt lt x (a + 1) b) (h1 : ∀ k, a + 1 ≤ k → k < i → lt (x k) (x a)) (h2 : ∀ k, i ≤ k → k < b → lt (x a) (x k)) : Srt lt (fun k => x (rotP a (a + 1) i k)) a b := by
  have e : ∀ k, rotP a (a + 1) i k = if a ≤ k ∧ k + 1 < i then k + 1 else if k + 1 = i then a else k := by
    intro k
    unfold rotP
    repeat' split
    all_goals omega
  intro c d hc hcd hd
  show lt (x _) (x _)
  rw [e c, e d]
  repeat' split
  · exact hs _ _ (by omega) (by omega) (by omega)
  · exact h1 _ (by omega) (by omega)
  · exact hs _ _ (by omega) (by omega) (by omega)
  · omega
  · omega
  · exact h2 _ (by omega) (by omega)
  · omega
  · omega
  · exact hs _ _ (by omega) (by omega) (by omega)
/-- the last carried down to where it belongs -/
theorem ins_down (x : Nat → β) {a i m : Nat} (hi : a ≤ i) (him : i ≤ m) (hs : Srt lt x a m) (h1 : ∀ k, a ≤ k → k < i → lt (x k) (x m)) (h2 : ∀ k, i ≤ k → k < m → lt (x m) (x k)) : Srt lt (fun k => x (rotP i m (m + 1) k)) a (m + 1) := by
  have e : ∀ k, k < m + 1 → rotP i m (m + 1) k = if k < i then k else if k = i then m else k - 1 := by
    intro k hk
    unfold rotP
    repeat' split
    all_goals omega
  intro c d hc hcd hd
  show lt (x _) (x _)
  rw [e c (by omega), e d (by omega)]
  repeat' split
  · exact hs _ _ (by omega) (by omega) (by omega)
  · exact h1 _ (by omega) (by omega)
  · exact hs _ _ (by omega) (by omega) (by omega)
  · omega
  · omega
  · exact h2 _ (by omega) (by omega)
  · omega
  · omega
  · exact hs _ _ (by omega) (by omega) (by omega)
/-- the symmetric search's step: what is less below is less further below; and above -/
theorem sym_low (tr : ∀ {u v w}, lt u v → lt v w → lt u w) {x : Nat → β} {a m b p s c : Nat} (hL : Srt lt x a m) (hR : Srt lt x m b) (hs : a ≤ s) (hc : c < m) (hp : m ≤ p - c) (hb : p - s < b) (hcp : c ≤ p) (h : lt (x c) (x (p - c))) : ∀ k, s ≤ k → k ≤ c → lt (x k) (x (p - k)) := by
  intro k h1 h2
  by_cases e : k = c
  · subst e
    exact h
  · exact tr (hL k c (by omega) (by omega) hc) (tr h (hR (p - c) (p - k) hp (by omega) (by omega)))
theorem sym_high (tr : ∀ {u v w}, lt u v → lt v w → lt u w) {x : Nat → β} {a m b p r c : Nat} (hL : Srt lt x a m) (hR : Srt lt x m b) (hc : a ≤ c) (hr : r ≤ m) (hp : ∀ k, k < r → m ≤ p - k) (hb : p - c < b) (hcp : r ≤ p + 1) (h : lt (x (p - c)) (x c)) : ∀ k, c ≤ k → k < r → lt (x (p - k)) (x k) := by
  intro k h1 h2
  by_cases e : k = c
  · subst e
    exact h
  · exact tr (hR (p - k) (p - c) (hp k h2) (by omega) (by omega)) (tr h (hL c k (by omega) (by omega) (by omega)))
/-- what one rearranges of a row whose parts stand apart stays apart -/
theorem merge_step (tr : ∀ {u v w}, lt u v → lt v w → lt u w) {x y z : Nat → β} {a m b s mid en : Nat} {p q : Nat → Nat} (hmid : a ≤ mid) (hmb : mid ≤ b) (hs : a ≤ s) (hsm : s ≤ m) (hme : m ≤ en) (heb : en ≤ b) (hen : en + s = mid + m)
    (hL : Srt lt x a m) (hR : Srt lt x m b) (h1 : ∀ i j, a ≤ i → i < s → en ≤ j → j < b → lt (x i) (x j)) (h2 : ∀ i j, m ≤ i → i < en → s ≤ j → j < m → lt (x i) (x j))
    (hy : Re a mid p) (ey : ∀ k, y k = x (rotP s m en (p k))) (sy : Srt lt y a mid) (hz : Re mid b q) (ez : ∀ k, z k = y (q k)) (sz : Srt lt z mid b) : Srt lt z a b := by
  have low : ∀ k, a ≤ k → k < mid → (a ≤ rotP s m en k ∧ rotP s m en k < s) ∨ (m ≤ rotP s m en k ∧ rotP s m en k < en) := by
    intro k k1 k2
    unfold rotP
    repeat' split
    all_goals omega
  have high : ∀ k, mid ≤ k → k < b → (s ≤ rotP s m en k ∧ rotP s m en k < m) ∨ (en ≤ rotP s m en k ∧ rotP s m en k < b) := by
    intro k k1 k2
    unfold rotP
    repeat' split
    all_goals omega
  have apart : ∀ i j, a ≤ i → i < mid → mid ≤ j → j < b → lt (x (rotP s m en i)) (x (rotP s m en j)) := by
    intro i j i1 i2 j1 j2
    rcases low i i1 i2 with h | h <;> rcases high j j1 j2 with g | g
    · exact hL _ _ h.1 (by omega) g.2
    · exact h1 _ _ h.1 h.2 g.1 g.2
    · exact h2 _ _ h.1 h.2 g.1 g.2
    · exact hR _ _ h.1 (by omega) g.2
  have zlow : ∀ k, k < mid → z k = y k := by
    intro k hk
    rw [ez, hz.out k (by omega)]
  intro i j hi hij hj
  by_cases c1 : j < mid
  · rw [zlow i (by omega), zlow j c1]
    exact sy i j hi hij c1
  · by_cases c2 : mid ≤ i
    · exact sz i j c2 hij hj
    · rw [zlow i (by omega), ey, ez, ey]
      have g := hz.ins j (by omega) hj
      rw [hy.out (q j) (by omega)]
      have f := hy.ins i hi (by omega)
      exact apart _ _ f.1 f.2 g.1 g.2
end
end Go.Proofs.YtblogecapegbmaaGreat.Stab

/- A row of structs of k cells in a block, told by a function of its places; one of them overwritten. -/
namespace Go.Proofs.YtblogecapegbmaaGreat.Stab
open Go.RowKit Go.Proofs.YtblogecapegbmaaGreat.Mem
set_option linter.unusedVariables false set_option linter.unusedSimpArgs false

/-- n structs of k cells from the block's start, and what stands behind them -/
def Rw {α : Type} (w : World) (g : Nat) (t : TypeId) (C : α → Array Value) (k n : Nat) (x : Nat → α) (z : List Value) : Prop :=
  ∃ cs : Array Value, Has w g t cs ∧ n * k + z.length = cs.size ∧ (∀ i j, i < n → j < k → cs[i * k + j]? = (C (x i))[j]?) ∧ (∀ j, j < z.length → cs[n * k + j]? = z[j]?)
section
variable {α : Type} {w : World} {g k n : Nat} {t : TypeId} {C : α → Array Value} {x : Nat → α} {z : List Value}
theorem mul_in {i n k : Nat} (h : i < n) : i * k + k ≤ n * k := by
  have := Nat.mul_le_mul_right k (show i + 1 ≤ n from h)
  rwa [Nat.add_mul, Nat.one_mul] at this
theorem mul_apart {i j k a b : Nat} (h : i ≠ j) (ha : a < k) (hb : b < k) : i * k + a ≠ j * k + b := by
  intro e
  rcases Nat.lt_or_gt_of_ne h with c | c
  · have := mul_in (k := k) c
    omega
  · have := mul_in (k := k) c
    omega
theorem Rw.bound (h : Rw w g t C k n x z) : g < w.heap.size := by
  obtain ⟨cs, h1, _⟩ := h
  exact h1.bound
theorem Rw.range (h : Rw w g t C k n x z) (hk : ∀ y, (C y).size = k) {i : Nat} (hi : i < n) : w.rangeAt g (i * k) (C (x i)).toList := by
  obtain ⟨cs, h1, h2, h3, h4⟩ := h
  intro j v hv
  have hj : j < k := by
    have := (List.getElem?_eq_some_iff.1 hv).1
    rw [Array.length_toList, hk] at this
    exact this
  rw [h1.at_, h3 i j hi hj]
  simpa using hv
theorem Rw.there (h : Rw w g t C k n x z) {i : Nat} (hi : i < n) : w.there g (i * k) k := by
  obtain ⟨cs, h1, h2, h3, h4⟩ := h
  intro j hj
  have := mul_in (k := k) hi
  rw [h1.at_ (i * k + j)]
  exact ⟨by simp; omega, h1.free (i * k + j)⟩
theorem lay_len : ∀ (vs : List Value) (d : Array Value) (i : Nat), (Lib.lay d i vs).size = d.size
  | [], _, _ => rfl
  | v :: r, d, i => by
    unfold Lib.lay
    rw [lay_len r]
    simp
/-- one of them overwritten -/
theorem Rw.set (h : Rw w g t C k n x z) (hk : ∀ y, (C y).size = k) {i : Nat} (hi : i < n) (y : α) : Rw (w.setCells g (i * k) (C y).toList) g t C k n (fun j => if j = i then y else x j) z := by
  obtain ⟨cs, h1, h2, h3, h4⟩ := h
  have hm := mul_in (k := k) hi
  have hl : i * k + (C y).toList.length ≤ cs.size := by rw [Array.length_toList, hk]; omega
  have hs : (Lib.lay cs (i * k) (C y).toList).size = cs.size := lay_len _ _ _
  refine ⟨Lib.lay cs (i * k) (C y).toList, Who.has_setCells _ _ _ _ h1, by rw [hs]; exact h2, fun a j ha hj => ?_, fun j hj => ?_⟩
  · show _ = (C (if a = i then y else x a))[j]?
    rw [Lib.lay_get? _ _ _ _ hl, Array.length_toList, hk]
    by_cases e : a = i
    · subst e
      rw [if_pos (c := a = a) rfl, if_pos ⟨by omega, by omega⟩, show a * k + j - a * k = j by omega]
      simp
    · rw [if_neg (c := a = i) e, if_neg, h3 a j ha hj]
      rintro ⟨c1, c2⟩
      exact mul_apart e hj (show a * k + j - i * k < k by omega) (by omega)
  · rw [Lib.lay_get? _ _ _ _ hl, Array.length_toList, hk, if_neg (by omega), h4 j hj]
theorem Rw.over {w' : World} {S : Nat → Prop} (h : Rw w g t C k n x z) (hb : Chg S w w') (hs : ¬ S g) : Rw w' g t C k n x z := by
  obtain ⟨cs, h1, h2⟩ := h
  exact ⟨cs, h1.over hb hs, h2⟩
theorem Rw.below {w' : World} (h : Rw w g t C k n x z) (hb : Below w.heap.size w w') : Rw w' g t C k n x z := by
  obtain ⟨cs, h1, h2⟩ := h
  exact ⟨cs, h1.below hb, h2⟩
theorem Rw.drew (h : Rw w g t C k n x z) : Rw w.drew g t C k n x z := h
theorem Rw.congr {y : Nat → α} (h : Rw w g t C k n x z) (e : ∀ i, i < n → y i = x i) : Rw w g t C k n y z := by
  obtain ⟨cs, h1, h2, h3, h4⟩ := h
  exact ⟨cs, h1, h2, fun i j hi hj => by rw [e i hi]; exact h3 i j hi hj, h4⟩
/-- two of them exchanged: j's cells laid at i, then i's at j -/
theorem Rw.swap (h : Rw w g t C k n x z) (hk : ∀ y, (C y).size = k) {i j : Nat} (hi : i < n) (hj : j < n) : Rw ((w.setCells g (i * k) (C (x j)).toList).setCells g (j * k) (C (x i)).toList) g t C k n (fun c => x (swapP i j c)) z := by
  refine ((h.set hk hi (x j)).set hk hj (x i)).congr fun c hc => ?_
  show x (swapP i j c) = if c = j then x i else if c = i then x j else x c
  unfold swapP
  by_cases e2 : c = i
  · subst e2
    by_cases e1 : c = j
    · subst e1
      simp
    · simp [e1]
  · by_cases e1 : c = j
    · subst e1
      simp [e2]
    · simp [e1, e2]
theorem chg_swap (w : World) (g o1 o2 : Nat) (u v : List Value) : Chg (· = g) w ((w.setCells g o1 u).setCells g o2 v) := (Who.chg_setCells g u o1 w).trans (Who.chg_setCells g v o2 _)
end
end Go.Proofs.YtblogecapegbmaaGreat.Stab

/- Events in order, each that is alike once: Clone, and story's Order. -/
namespace Go.Proofs.YtblogecapegbmaaGreat.Stab
open Go.RowKit Go.Proofs.YtblogecapegbmaaGreat.Mem
open Go.Proofs.YtblogecapegbmaaGreat.Sr (EOwn eL info_parts_ev event_one zeroE)
set_option linter.unusedVariables false set_option linter.unusedSimpArgs false

theorem chg_low {w W W' : World} {B g : Nat} (h : Below B w W) (hc : Chg (· = g) W W') (hg : B ≤ g) (hB : B ≤ w.heap.size) : Below B w W' := h.trans (hc.below (B := B) (Nat.le_trans hB h.size) (fun k hk e => by omega))
theorem flat_at {α : Type} {f : α → List Value} {k : Nat} (hk : ∀ x, (f x).length = k) : ∀ (l : List α) (i j : Nat) (x : α), l[i]? = some x → j < k → (l.flatMap f)[i * k + j]? = (f x)[j]?
  | [], i, j, x, h, _ => by simp at h
  | y :: r, 0, j, x, h, hj => by
    simp at h
    subst h
    rw [List.flatMap_cons, Nat.zero_mul, Nat.zero_add, List.getElem?_append_left (by rw [hk]; exact hj)]
  | y :: r, i + 1, j, x, h, hj => by
    have h2 : r[i]? = some x := by simpa using h
    rw [List.flatMap_cons, List.getElem?_append_right (by rw [hk, Nat.succ_mul]; omega), hk]
    have e : (i + 1) * k + j - k = i * k + j := by rw [Nat.succ_mul]; omega
    rw [e]
    exact flat_at hk r i j x h2 hj
theorem flat_len {α : Type} {f : α → List Value} {k : Nat} (hk : ∀ x, (f x).length = k) (l : List α) : (l.flatMap f).length = l.length * k := by
  induction l with
  | nil => simp
  | cons x r ih => simp [ih, hk, Nat.succ_mul]; omega
theorem eL_len (e : Fc.EventC) : (eL e).length = 21 := rfl
/-- the cells of a row that is only read -/
theorem srow_news {w : World} {b off n : Nat} {es : List Fc.EventC} (h : Fc.SRow w 21 Fc.eventC (some ⟨b, off, none⟩) n es) : ∀ j u, (es.flatMap eL)[j]? = some u → w.cell? ((⟨b, off, none⟩ : Addr).add j) = some u := by
  intro j u hu
  have hj : j < es.length * 21 := by rw [← flat_len eL_len]; exact (List.getElem?_eq_some_iff.1 hu).1
  have hi : j / 21 < es.length := by omega
  obtain ⟨b', off', e, hl, hx⟩ := h.cells (by rw [← h.len]; omega)
  cases e
  have ej : j = j / 21 * 21 + j % 21 := by omega
  rw [Fc.add_plain]
  have hf := flat_at eL_len es (j / 21) (j % 21) es[j / 21] (List.getElem?_eq_getElem hi) (by omega)
  rw [← ej, hu] at hf
  have := hx (j / 21) hi (j % 21) u (by simpa [eL] using hf.symm)
  rwa [Nat.add_assoc, ← ej] at this
theorem flat_one (es : List Fc.EventC) : ∀ v ∈ es.flatMap eL, v.oneCell' = true := by
  intro v hv
  obtain ⟨x, _, hx⟩ := List.mem_flatMap.1 hv
  exact (Array.all_eq_true_iff_forall_mem.1 (event_one x)) v (by simpa [eL] using hx)
/-- a row of one's own as a row that one may exchange -/
theorem own_rw {w : World} {B g cap n : Nat} {es : List Fc.EventC} (h : EOwn w B (.slice (some ⟨g, 0, none⟩) n cap) es) : es.length = n ∧ n ≤ cap ∧ B ≤ g ∧ ∃ z, Rw w g 58 Fc.eventC 21 n (fun i => (es[i]?).getD zeroE) z := by
  unfold EOwn at h
  rcases h.2 with ⟨e, _⟩ | ⟨g', cap', cur, e, hB, hw, hn, hm, hs, ht⟩
  · cases e
  · cases e
    refine ⟨rfl, hn, hB, cur.toList.drop (es.length * 21), cur, hw, by simp; omega, fun i j hi hj => ?_, fun j hj => ?_⟩
    · show cur[i * 21 + j]? = (Fc.eventC ((es[i]?).getD zeroE))[j]?
      have hf := flat_at eL_len es i j es[i] (List.getElem?_eq_getElem hi) hj
      rw [← ht, List.getElem?_take] at hf
      have m := mul_in (k := 21) hi
      rw [if_pos (by omega)] at hf
      rw [show (es[i]?).getD zeroE = es[i] by rw [List.getElem?_eq_getElem hi]; rfl]
      simpa [eL] using hf
    · rw [List.getElem?_drop]
      simp
/-- what a copy comes to -/
def EOut (es : List Fc.EventC) (w : World) (e : Ending) (w' : World) : Prop := ∃ v, e = .returned v ∧ EOwn w' w.heap.size v es ∧ Below w.heap.size w w'
theorem eown_nil (w : World) (B : Nat) : EOwn w B (.slice none 0 0) [] := ⟨rfl, .inl ⟨rfl, rfl⟩⟩
theorem eown_sl {w : World} {B : Nat} {v : Value} {es : List Fc.EventC} (h : EOwn w B v es) : ∃ A c, v = .slice A es.length c ∧ (A = none → v = .slice none 0 0 ∧ es = []) ∧ ∀ a, A = some a → ∃ g, a = ⟨g, 0, none⟩ := by
  unfold EOwn at h
  rcases h.2 with ⟨rfl, e⟩ | ⟨g', cap', cur, rfl, hB, hw, hn, hm, hs, ht⟩
  · exact ⟨none, 0, by rw [e], fun _ => ⟨rfl, List.length_eq_zero_iff.1 e⟩, fun a h => by cases h⟩
  · exact ⟨_, cap', rfl, (fun h => by cases h), fun a h => ⟨g', (Option.some.inj h).symm⟩⟩
end Go.Proofs.YtblogecapegbmaaGreat.Stab


/- Whether an event wrote something of an inode or of a link. -/
namespace Go.Proofs.YtblogecapegbmaaGreat.Stl
open Go.RowKit Go.Proofs.YtblogecapegbmaaGreat.Mem
open Go.Proofs.YtblogecapegbmaaGreat.Fc (PieceP XattrP LinkP NodeC pieceC xattrC linkC nodeC stateC)
open Go.Proofs.YtblogecapegbmaaGreat.Vc (vecC stC eql_st)
open Go.Proofs.YtblogecapegbmaaGreat.Sr (zeroS)
set_option linter.unusedVariables false set_option linter.unusedSimpArgs false

def isId (a b : Int × Int) : Bool := a.1 == b.1 && a.2 == b.2
/-- a place, or none: at least 0 just if there is one -/
def IdxIs (b : Bool) (e : Ending) : Prop := ∃ i : Int, e = .returned (.int .i64 i) ∧ decide (0 ≤ i) = b
theorem any_take {α : Type} {xs : List α} (P : α → Bool) {j : Nat} (h : j < xs.length) (hf : (xs.take j).any P = false) : P xs[j] = false → (xs.take (j + 1)).any P = false := by
  intro hp
  rw [List.take_succ_eq_append_getElem h, List.any_append, hf]
  simp [hp]
theorem any_hit {α : Type} {xs : List α} (P : α → Bool) {j : Nat} (h : j < xs.length) : P xs[j] = true → xs.any P = true := fun hp => List.any_eq_true.2 ⟨_, List.getElem_mem h, hp⟩
theorem node_range {w : World} {g : Nat} {t : TypeId} {k : LinkP} (h : Has w g t (linkC k)) : w.rangeAt g 2 (#[.int .i64 k.node.1, .int .i64 k.node.2] : Array Value).toList := fun j v hv => by
  match j, hv with
  | 0, hv => exact (h.at_ 2).trans hv
  | 1, hv => exact (h.at_ 3).trans hv
  | j + 2, hv => simp at hv
end Go.Proofs.YtblogecapegbmaaGreat.Stl
/- story's About: the events that wrote something of an inode or of a link. -/
namespace Go.Proofs.YtblogecapegbmaaGreat.Stl
open Go.RowKit Go.Proofs.YtblogecapegbmaaGreat.Mem
open Go.Proofs.YtblogecapegbmaaGreat.Fc (PieceP XattrP LinkP NodeC pieceC xattrC linkC nodeC stateC)
open Go.Proofs.YtblogecapegbmaaGreat.Sr (EOwn GrewE)
open Go.Proofs.YtblogecapegbmaaGreat.Stab (EOut eown_nil eown_sl)
set_option linter.unusedVariables false set_option linter.unusedSimpArgs false

theorem has_low {w w2 : World} {B g : Nat} {t : TypeId} {cs : Array Value} (h : Has w g t cs) (hb : Below B w w2) (hg : g < B) : Has w2 g t cs := (hb.block g hg).trans h
theorem eown_below {w w2 : World} {B : Nat} {v : Value} {l : List Fc.EventC} (h : EOwn w B v l) (hb : Below w.heap.size w w2) : EOwn w2 B v l := by
  unfold EOwn at *
  refine ⟨h.1, ?_⟩
  rcases h.2 with hn | ⟨g, cap, cur, e, hB, hw, rest⟩
  · exact .inl hn
  · exact .inr ⟨g, cap, cur, e, hB, (hb.block g (Array.getElem?_eq_some_iff.1 hw).1).trans hw, rest⟩
theorem eown_mono {w : World} {B B2 : Nat} {v : Value} {l : List Fc.EventC} (h : EOwn w B v l) (hb : B2 ≤ B) : EOwn w B2 v l := by
  unfold EOwn at *
  refine ⟨h.1, ?_⟩
  rcases h.2 with hn | ⟨g, cap, cur, e, hB, rest⟩
  · exact .inl hn
  · exact .inr ⟨g, cap, cur, e, Nat.le_trans hb hB, rest⟩
theorem filter_yes {α : Type} {xs : List α} (P : α → Bool) {j : Nat} (h : j < xs.length) : P xs[j] = true → (xs.take (j + 1)).filter P = (xs.take j).filter P ++ [xs[j]] := by
  intro hp
  rw [List.take_succ_eq_append_getElem h, List.filter_append]
  simp [hp]
theorem filter_no {α : Type} {xs : List α} (P : α → Bool) {j : Nat} (h : j < xs.length) : P xs[j] = false → (xs.take (j + 1)).filter P = (xs.take j).filter P := by
  intro hp
  rw [List.take_succ_eq_append_getElem h, List.filter_append]
  simp [hp]
theorem filter_len {α : Type} {xs : List α} (P : α → Bool) (j : Nat) : ((xs.take j).filter P).length ≤ xs.length := Nat.le_trans (List.length_filter_le _ _) (by rw [List.length_take]; exact Nat.min_le_right _ _)
end Go.Proofs.YtblogecapegbmaaGreat.Stl
/- The document's About: the events that wrote something of an inode or of a link. -/
namespace Go.Proofs.YtblogecapegbmaaGreat.Stl
open Go.RowKit Go.Proofs.YtblogecapegbmaaGreat.Mem
open Go.Proofs.YtblogecapegbmaaGreat.Fc (PieceP XattrP LinkP NodeC pieceC xattrC linkC nodeC stateC)
open Go.Proofs.YtblogecapegbmaaGreat.Sr (EOwn GrewE zeroS)
open Go.Proofs.YtblogecapegbmaaGreat.Stab (EOut eown_nil eown_sl)
open Go.Proofs.YtblogecapegbmaaGreat.Vc (vecC stC eql_st neq_st)
set_option linter.unusedVariables false set_option linter.unusedSimpArgs false

def zeroN : NodeC := ⟨⟨(0, 0), 0, ⟨#[]⟩, (0, 0), 0, 0, (0, 0), 0, [], []⟩, none, 0, 0, none, 0, 0⟩
def zeroK : LinkP := ⟨(0, 0), (0, 0), (0, 0), (0, 0), ⟨#[]⟩, fun _ => 0, fun _ => 0⟩
theorem alloc_node (w : World) : (Instr.alloc 46 true (.tuple #[])).run Tryz.prog w = .ok (.pointer (some ⟨w.heap.size, 0, none⟩)) (w.alloc (.cells (nodeC zeroN) 46)) := by
  have hz := Tryz.zeroValue46
  go_simp
  rfl
theorem alloc_link (w : World) : (Instr.alloc 51 true (.tuple #[])).run Tryz.prog w = .ok (.pointer (some ⟨w.heap.size, 0, none⟩)) (w.alloc (.cells (linkC zeroK) 51)) := by
  have hz := Tryz.zeroValue51
  go_simp
  rfl
theorem node_one (x : NodeC) : (nodeC x).all (·.oneCell') = true := by simp [nodeC, Value.oneCell']
theorem link_one (x : LinkP) : (linkC x).all (·.oneCell') = true := by simp [linkC, Value.oneCell']
theorem nid_range {w : World} {g : Nat} {t : TypeId} {y : NodeC} (h : Has w g t (nodeC y)) : w.rangeAt g 0 (#[.int .i64 y.p.id.1, .int .i64 y.p.id.2] : Array Value).toList := fun j v hv => by
  match j, hv with
  | 0, hv => exact (h.at_ 0).trans hv
  | 1, hv => exact (h.at_ 1).trans hv
  | j + 2, hv => simp at hv
theorem any_step {α : Type} {xs : List α} (P : α → Bool) {j : Nat} (h : j < xs.length) : (xs.take (j + 1)).any P = ((xs.take j).any P || P xs[j]) := by
  rw [List.take_succ_eq_append_getElem h, List.any_append]
  simp
end Go.Proofs.YtblogecapegbmaaGreat.Stl

/- Same of a state, and of an event, and itself; lists of events that are the same. -/
namespace Go.Proofs.YtblogecapegbmaaGreat.Smr
open Go.RowKit Go.Proofs.YtblogecapegbmaaGreat.Mem
open Go.Proofs.YtblogecapegbmaaGreat.Fc (PieceP XattrP LinkP NodeC pieceC xattrC linkC nodeC stateC StateC EventC)
open Go.Proofs.YtblogecapegbmaaGreat.Vc (vecC stC)
set_option linter.unusedVariables false set_option linter.unusedSimpArgs false

theorem rseen {s : StateC} : ∀ j v, (vecC s.seen : Array Value).toList[j]? = some v → (stateC s)[0 + j]? = some v := fun j v hv => by
  match j, hv with
  | 0, hv => exact hv
  | 1, hv => exact hv
  | 2, hv => exact hv
  | 3, hv => exact hv
  | 4, hv => exact hv
  | 5, hv => exact hv
  | 6, hv => exact hv
  | 7, hv => exact hv
  | j + 8, hv => simp [vecC] at hv
theorem rat2 {ev : EventC} : ∀ j v, (#[.int .i64 ev.at_.1, .int .i64 ev.at_.2] : Array Value).toList[j]? = some v → (Fc.eventC ev)[0 + j]? = some v := fun j v hv => by
  match j, hv with
  | 0, hv => exact hv
  | 1, hv => exact hv
  | j + 2, hv => simp [vecC] at hv
theorem rknew {ev : EventC} : ∀ j v, (vecC ev.knew : Array Value).toList[j]? = some v → (Fc.eventC ev)[3 + j]? = some v := fun j v hv => by
  match j, hv with
  | 0, hv => exact hv
  | 1, hv => exact hv
  | 2, hv => exact hv
  | 3, hv => exact hv
  | 4, hv => exact hv
  | 5, hv => exact hv
  | 6, hv => exact hv
  | 7, hv => exact hv
  | j + 8, hv => simp [vecC] at hv
end Go.Proofs.YtblogecapegbmaaGreat.Smr

/- Model: the events of which something holds; whether something holds of one: by any closure. -/
namespace Go.Proofs.YtblogecapegbmaaGreat.Md
open Go.RowKit Go.Proofs.YtblogecapegbmaaGreat.Mem
open Go.Proofs.YtblogecapegbmaaGreat.Fc (PieceP XattrP LinkP NodeC pieceC xattrC linkC nodeC stateC)
open Go.Proofs.YtblogecapegbmaaGreat.Sr (EOwn GrewE zeroS)
open Go.Proofs.YtblogecapegbmaaGreat.Stab (EOut eown_nil eown_sl)
open Go.Proofs.YtblogecapegbmaaGreat.Stl (IdxIs any_take any_hit isId filter_yes filter_no filter_len eown_below eown_mono)
open Go.Proofs.YtblogecapegbmaaGreat.Vc (vecC stC eql_st)
set_option linter.unusedVariables false set_option linter.unusedSimpArgs false

set_option maxRecDepth 100000 in
set_option maxHeartbeats 2000000 in
theorem index_event (A : Option Addr) (n c : Nat) (xs : List Fc.EventC) (fid : FuncId) (caps : Array Value) (hcf : ∀ args V, (callFunc fid args).run Tryz.prog V = .ok (.enter fid args) V) (P : Fc.EventC → Bool) (hn : n ≤ 9223372036854775807) (w : World) (hr : Fc.SRow w 21 Fc.eventC A n xs) (h : ∀ V, Below w.heap.size w V → ∀ x ∈ xs, Calls Tryz.prog fid (#[.agg (Fc.eventC x)] ++ caps) V fun e V' => e = .returned (.bool (P x)) ∧ Below V.heap.size V V') : Calls Tryz.prog 135 #[.slice A n c, .func (.func fid) #[] caps] w fun e w' => IdxIs (xs.any P) e ∧ Below w.heap.size w w' := by
  have HR := Lib.hid hr
  have HG := Lib.hid h
  have HLN := Lib.hid hr.len
  clear hr h
  go_enter Tryz.func135, Tryz.ntmps135
  go_wp2
  go_loopw [8] (fun i wr => ∃ j : Nat, i = .int .i64 j ∧ j ≤ n ∧ Hid ((xs.take j).any P = false) ∧ Hid (Below w.heap.size w wr)) (fun i _ => n - (intOf i).toNat)
  case atStart => exact ⟨0, rfl, Nat.zero_le _, Lib.hid rfl, Lib.hid (Below.refl _ _)⟩
  case round =>
    obtain ⟨j, rfl, hj, HF, HB⟩ := hrel
    by_cases hlt : j < n
    · obtain ⟨b, off, rfl, hbl, hx, mr⟩ := (HR.out.below HB.out).range (i := j) hlt
      have HTK := Lib.hid (any_take P hx HF.out)
      have HAN := Lib.hid (any_hit P hx)
      have HZ := Lib.hid (HG.out _ HB.out _ (List.getElem_mem hx))
      generalize xs[j] = y at *
      have MR := Lib.hid mr
      clear mr hx hbl HF
      go_wp2_with (first | ((with_reducible refine Who.wpList_loadC 58 (.tmp 14) rfl (b) (off + j * 21) (Fc.eventC y) ?_); refine And.intro ⟨by rfl, by rfl, ⟨_, Tryz.underlying58, rfl⟩, Sr.info_event⟩ (And.intro (MR.out) ?_); (try simp only [Act.put, List.setIfInBounds_toArray, List.set_cons_zero, List.set_cons_succ])) | fail)
      refine HZ.out.mono ?_
      rintro e w2 ⟨rfl, hb⟩
      have HB2 := Lib.hid (HB.out.trans (hb.mono HB.out.size))
      clear hb HZ
      cases hq : P y with
      | true =>
        have HQ := Lib.hid (HAN.out hq)
        clear hq
        go_wp2
        go_ret
        exact ⟨⟨j, rfl, by rw [HQ.out]; simp⟩, HB2.out⟩
      | false =>
        have HQ := Lib.hid (HTK.out hq)
        clear hq
        go_wp2
        go_roundw
        case rel => exact ⟨j + 1, by go_num, by omega, HQ, HB2⟩
        case measure => simp [intOf]; omega
    · have HQ := Lib.hid (show xs.any P = false by have := HF.out; rwa [List.take_of_length_le (by rw [HLN.out]; omega)] at this)
      go_wp2
      go_ret
      exact ⟨⟨-1, rfl, by rw [HQ.out]; rfl⟩, HB.out⟩
set_option maxRecDepth 100000 in
theorem contains_event (A : Option Addr) (n c : Nat) (xs : List Fc.EventC) (fid : FuncId) (caps : Array Value) (hcf : ∀ args V, (callFunc fid args).run Tryz.prog V = .ok (.enter fid args) V) (P : Fc.EventC → Bool) (hn : n ≤ 9223372036854775807) (w : World) (hr : Fc.SRow w 21 Fc.eventC A n xs) (h : ∀ V, Below w.heap.size w V → ∀ x ∈ xs, Calls Tryz.prog fid (#[.agg (Fc.eventC x)] ++ caps) V fun e V' => e = .returned (.bool (P x)) ∧ Below V.heap.size V V') : Calls Tryz.prog 104 #[.slice A n c, .func (.func fid) #[] caps] w fun e w' => e = .returned (.bool (xs.any P)) ∧ Below w.heap.size w w' := by
  have HI := Lib.hid (index_event A n c xs fid caps hcf P hn w hr h)
  clear hr h
  go_enter Tryz.func104, Tryz.ntmps104
  go_wp2_with fail
  refine HI.out.mono ?_
  rintro e w2 ⟨⟨i, rfl, hi⟩, hb⟩
  have HB := Lib.hid hb
  have HQ := Lib.hid hi
  clear hb hi
  go_wp2
  go_ret
  exact ⟨by rw [← HQ.out]; rfl, HB.out⟩
end Go.Proofs.YtblogecapegbmaaGreat.Md

/- Model: who knew whom; the events that a vector has. -/
namespace Go.Proofs.YtblogecapegbmaaGreat.Md
open Go.RowKit Go.Proofs.YtblogecapegbmaaGreat.Mem
open Go.Proofs.YtblogecapegbmaaGreat.Fc (PieceP XattrP LinkP NodeC pieceC xattrC linkC nodeC stateC)
open Go.Proofs.YtblogecapegbmaaGreat.Sr (EOwn GrewE zeroS)
open Go.Proofs.YtblogecapegbmaaGreat.Stab (EOut eown_nil eown_sl)
open Go.Proofs.YtblogecapegbmaaGreat.Stl (IdxIs any_take any_hit isId filter_yes filter_no filter_len eown_below eown_mono)
open Go.Proofs.YtblogecapegbmaaGreat.Vc (vecC stC eql_st neq_st)
set_option linter.unusedVariables false set_option linter.unusedSimpArgs false

theorem enters {P : Program} {f : FuncId} {fn : Func} {c : Code} (hf : P.funcs[f]? = some fn) (hname : (fn.name == "runtime.NumGoroutine") = false) (hb : fn.body = some c) (args : Array Value) (V : World) : (callFunc f args).run P V = .ok (.enter f args) V := by
  have h2 : ¬ fn.name = "runtime.NumGoroutine" := by simpa using hname
  simp [callFunc, go_sem, hf, h2, hb]
def befB (a b : Fc.EventC) : Bool := Vc.hasB b.knew a.at_.1 a.at_.2
def knownB (vol : Int) (seen : Nat → Int) (e : Fc.EventC) : Bool := decide (e.vol = vol) && Vc.hasB seen e.at_.1 e.at_.2
theorem before_any (a b : Fc.EventC) (w : World) : Calls Tryz.prog 29 #[.agg (Fc.eventC a), .agg (Fc.eventC b)] w fun e w' => e = .returned (.bool (befB a b)) ∧ Below w.heap.size w w' := by
  have HB0 := Lib.hid (((Below.refl w.heap.size w).alloc (Nat.le_refl _) (.cells (Fc.eventC a) 58)).alloc (by simp) (.cells (Fc.eventC b) 58))
  have HX := Lib.hid ((Has.fresh w 58 (Fc.eventC a)).past (.cells (Fc.eventC b) 58))
  have n1 : Has ((w.alloc (.cells (Fc.eventC a) 58)).alloc (.cells (Fc.eventC b) 58)) (w.heap.size + 1) 58 (Fc.eventC b) := by have q := Has.fresh (w.alloc (.cells (Fc.eventC a) 58)) 58 (Fc.eventC b); rw [World.size_alloc] at q; exact q
  have HY := Lib.hid n1
  have HC := Lib.hid (fun V => by have q := Vc.has_any b.knew a.at_.1 a.at_.2 V; unfold stC at q; exact q)
  have HD := Lib.hid (show befB a b = Vc.hasB b.knew a.at_.1 a.at_.2 from rfl)
  clear n1
  go_enter Tryz.func29, Tryz.ntmps29
  go_wp2_with (first | ((with_reducible refine Who.wpList_loadC 23 (.tmp 5) rfl ((w.heap.size + 1)) 3 (vecC b.knew) ?_); refine And.intro ⟨by rfl, by rfl, ⟨_, Tryz.underlying23, rfl⟩, Sr.info_vec⟩ (And.intro (Smr.rangeOf HY.out 3 _ Smr.rknew) ?_); (try simp only [Act.put, List.setIfInBounds_toArray, List.set_cons_zero, List.set_cons_succ])) | ((with_reducible refine Who.wpList_loadC 37 (.tmp 7) rfl (w.heap.size) 0 (#[.int .i64 a.at_.1, .int .i64 a.at_.2]) ?_); refine And.intro ⟨by rfl, by rfl, ⟨_, Tryz.underlying37, rfl⟩, Sr.info_st⟩ (And.intro (Smr.rangeOf HX.out 0 _ Smr.rat2) ?_); (try simp only [Act.put, List.setIfInBounds_toArray, List.set_cons_zero, List.set_cons_succ])) | fail)
  refine (HC.out _).mono ?_
  rintro q w2 ⟨rfl, hb⟩
  have HB2 := Lib.hid (HB0.out.trans (hb.mono HB0.out.size))
  clear hb
  go_wp2
  go_ret
  exact ⟨by rw [HD.out]; rfl, HB2.out⟩
theorem rbefore_any (a b : Fc.EventC) (w : World) : Calls Tryz.prog 30 #[.agg (Fc.eventC a), .agg (Fc.eventC b)] w fun e w' => e = .returned (.bool (befB a b)) ∧ Below w.heap.size w w' := by
  have HB0 := Lib.hid (((Below.refl w.heap.size w).alloc (Nat.le_refl _) (.cells (Fc.eventC a) 58)).alloc (by simp) (.cells (Fc.eventC b) 58))
  have HX := Lib.hid ((Has.fresh w 58 (Fc.eventC a)).past (.cells (Fc.eventC b) 58))
  have n1 : Has ((w.alloc (.cells (Fc.eventC a) 58)).alloc (.cells (Fc.eventC b) 58)) (w.heap.size + 1) 58 (Fc.eventC b) := by have q := Has.fresh (w.alloc (.cells (Fc.eventC a) 58)) 58 (Fc.eventC b); rw [World.size_alloc] at q; exact q
  have HY := Lib.hid n1
  have HC := Lib.hid (fun V => by have q := Vc.rhas_any b.knew a.at_.1 a.at_.2 V; unfold stC at q; exact q)
  have HD := Lib.hid (show befB a b = Vc.hasB b.knew a.at_.1 a.at_.2 from rfl)
  clear n1
  go_enter Tryz.func30, Tryz.ntmps30
  go_wp2_with (first | ((with_reducible refine Who.wpList_loadC 23 (.tmp 5) rfl ((w.heap.size + 1)) 3 (vecC b.knew) ?_); refine And.intro ⟨by rfl, by rfl, ⟨_, Tryz.underlying23, rfl⟩, Sr.info_vec⟩ (And.intro (Smr.rangeOf HY.out 3 _ Smr.rknew) ?_); (try simp only [Act.put, List.setIfInBounds_toArray, List.set_cons_zero, List.set_cons_succ])) | ((with_reducible refine Who.wpList_loadC 37 (.tmp 7) rfl (w.heap.size) 0 (#[.int .i64 a.at_.1, .int .i64 a.at_.2]) ?_); refine And.intro ⟨by rfl, by rfl, ⟨_, Tryz.underlying37, rfl⟩, Sr.info_st⟩ (And.intro (Smr.rangeOf HX.out 0 _ Smr.rat2) ?_); (try simp only [Act.put, List.setIfInBounds_toArray, List.set_cons_zero, List.set_cons_succ])) | fail)
  refine (HC.out _).mono ?_
  rintro q w2 ⟨rfl, hb⟩
  have HB2 := Lib.hid (HB0.out.trans (hb.mono HB0.out.size))
  clear hb
  go_wp2
  go_ret
  exact ⟨by rw [HD.out]; rfl, HB2.out⟩
end Go.Proofs.YtblogecapegbmaaGreat.Md

/- Model: the event that knew all others. -/
namespace Go.Proofs.YtblogecapegbmaaGreat.Md
open Go.RowKit Go.Proofs.YtblogecapegbmaaGreat.Mem
open Go.Proofs.YtblogecapegbmaaGreat.Fc (PieceP XattrP LinkP NodeC pieceC xattrC linkC nodeC stateC)
open Go.Proofs.YtblogecapegbmaaGreat.Sr (EOwn GrewE zeroS)
open Go.Proofs.YtblogecapegbmaaGreat.Stab (EOut eown_nil eown_sl)
open Go.Proofs.YtblogecapegbmaaGreat.Stl (IdxIs any_take any_hit isId filter_yes filter_no filter_len eown_below eown_mono)
open Go.Proofs.YtblogecapegbmaaGreat.Vc (vecC stC eql_st neq_st)
set_option linter.unusedVariables false set_option linter.unusedSimpArgs false

theorem freshAt {w : World} {s : Nat} (t : TypeId) (C : Array Value) (h : w.heap.size = s) : Has (w.alloc (.cells C t)) s t C := by
  subst h
  exact Has.fresh w t C
def knB (u a : Fc.EventC) : Bool := isId a.at_ u.at_ || befB a u
def unkB (u a : Fc.EventC) : Bool := !knB u a
def lastP (es : List Fc.EventC) (u : Fc.EventC) : Bool := es.all (knB u)
def lastE (es : List Fc.EventC) : Option Fc.EventC := es.find? (lastP es)
theorem lastP_any (es : List Fc.EventC) (u : Fc.EventC) : (!es.any (unkB u)) = lastP es u := by
  unfold lastP
  rw [List.all_eq_not_any_not]
  rfl
theorem find_hit {α : Type} {P : α → Bool} : ∀ {xs : List α} {j : Nat} (h : j < xs.length), (xs.take j).any P = false → P xs[j] = true → xs.find? P = some xs[j]
  | [], j, h, _, _ => absurd h (Nat.not_lt_zero _)
  | y :: ys, 0, h, _, h2 => by
    have h3 : P y = true := h2
    simp [List.find?, h3]
  | y :: ys, j + 1, h, h1, h2 => by
    rw [List.take_succ_cons, List.any_cons, Bool.or_eq_false_iff] at h1
    rw [List.find?, h1.1]
    exact find_hit (xs := ys) (j := j) (by simpa using h) h1.2 h2
theorem find_none {α : Type} {P : α → Bool} {xs : List α} (h : xs.any P = false) : xs.find? P = none := by
  rw [List.find?_eq_none]
  intro y hy hp
  rw [List.any_eq_false] at h
  exact h y hy hp
/-- what Last tells -/
def LastIs (es : List Fc.EventC) (w : World) (e : Ending) (w' : World) : Prop := e = .returned (.tuple #[.agg (Fc.eventC ((lastE es).getD Sr.zeroE)), .bool (lastE es).isSome]) ∧ Below w.heap.size w w'
set_option maxRecDepth 100000 in
set_option maxHeartbeats 1000000 in
theorem last1_any (a b : Fc.EventC) (g : Nat) (w : World) (hg : Has w g 58 (Fc.eventC b)) : Calls Tryz.prog 103 #[.agg (Fc.eventC a), .pointer (some ⟨g, 0, none⟩)] w fun e w' => e = .returned (.bool (unkB b a)) ∧ Below w.heap.size w w' := by
  have HB0 := Lib.hid ((Below.refl w.heap.size w).alloc (Nat.le_refl _) (.cells (Fc.eventC a) 58))
  have HX := Lib.hid (Has.fresh w 58 (Fc.eventC a))
  have HG := Lib.hid (hg.past (.cells (Fc.eventC a) 58))
  have q1 := fun W => neq_st a.at_.1 a.at_.2 b.at_.1 b.at_.2 W
  unfold stC at q1
  have HC := Lib.hid (fun V => before_any a b V)
  have HD := Lib.hid (show unkB b a = !((a.at_.1 == b.at_.1 && a.at_.2 == b.at_.2) || befB a b) from rfl)
  obtain ⟨z, hz⟩ : ∃ z, z = (a.at_.1 == b.at_.1 && a.at_.2 == b.at_.2) := ⟨_, rfl⟩
  rw [← hz] at q1 HD
  clear hg hz
  go_enter Tryz.func103, Tryz.ntmps103
  cases z with
  | true =>
    go_wp2_with (first | ((with_reducible refine Who.wpList_loadC 37 (.tmp 4) rfl (w.heap.size) 0 (#[.int .i64 a.at_.1, .int .i64 a.at_.2]) ?_); refine And.intro ⟨by rfl, by rfl, ⟨_, Tryz.underlying37, rfl⟩, Sr.info_st⟩ (And.intro (Smr.rangeOf HX.out 0 _ Smr.rat2) ?_); (try simp only [Act.put, List.setIfInBounds_toArray, List.set_cons_zero, List.set_cons_succ])) | ((with_reducible refine Who.wpList_loadC 37 (.tmp 6) rfl (g) 0 (#[.int .i64 b.at_.1, .int .i64 b.at_.2]) ?_); refine And.intro ⟨by rfl, by rfl, ⟨_, Tryz.underlying37, rfl⟩, Sr.info_st⟩ (And.intro (Smr.rangeOf HG.out 0 _ Smr.rat2) ?_); (try simp only [Act.put, List.setIfInBounds_toArray, List.set_cons_zero, List.set_cons_succ])) | fail)
    go_ret
    exact ⟨by rw [HD.out]; rfl, HB0.out⟩
  | false =>
    go_wp2_with (first | ((with_reducible refine Who.wpList_loadC 37 (.tmp 4) rfl (w.heap.size) 0 (#[.int .i64 a.at_.1, .int .i64 a.at_.2]) ?_); refine And.intro ⟨by rfl, by rfl, ⟨_, Tryz.underlying37, rfl⟩, Sr.info_st⟩ (And.intro (Smr.rangeOf HX.out 0 _ Smr.rat2) ?_); (try simp only [Act.put, List.setIfInBounds_toArray, List.set_cons_zero, List.set_cons_succ])) | ((with_reducible refine Who.wpList_loadC 37 (.tmp 6) rfl (g) 0 (#[.int .i64 b.at_.1, .int .i64 b.at_.2]) ?_); refine And.intro ⟨by rfl, by rfl, ⟨_, Tryz.underlying37, rfl⟩, Sr.info_st⟩ (And.intro (Smr.rangeOf HG.out 0 _ Smr.rat2) ?_); (try simp only [Act.put, List.setIfInBounds_toArray, List.set_cons_zero, List.set_cons_succ])) | ((with_reducible refine Who.wpList_loadC 58 (.tmp 2) rfl (w.heap.size) 0 (Fc.eventC a) ?_); refine And.intro ⟨by rfl, by rfl, ⟨_, Tryz.underlying58, rfl⟩, Sr.info_event⟩ (And.intro (Who.has_range HX.out) ?_); (try simp only [Act.put, List.setIfInBounds_toArray, List.set_cons_zero, List.set_cons_succ])) | ((with_reducible refine Who.wpList_loadC 58 (.tmp 1) rfl (g) 0 (Fc.eventC b) ?_); refine And.intro ⟨by rfl, by rfl, ⟨_, Tryz.underlying58, rfl⟩, Sr.info_event⟩ (And.intro (Who.has_range HG.out) ?_); (try simp only [Act.put, List.setIfInBounds_toArray, List.set_cons_zero, List.set_cons_succ])) | fail)
    refine (HC.out _).mono ?_
    rintro q w2 ⟨rfl, hb⟩
    have HB2 := Lib.hid (HB0.out.trans (hb.mono HB0.out.size))
    clear hb
    go_wp2
    go_ret
    exact ⟨by rw [HD.out]; rfl, HB2.out⟩
set_option maxRecDepth 100000 in
set_option maxHeartbeats 4000000 in
theorem last_any (A : Option Addr) (n c : Nat) (es : List Fc.EventC) (hn : n ≤ 4000000) (w : World) (hr : Fc.SRow w 21 Fc.eventC A n es) : Calls Tryz.prog 66 #[.slice A n c] w (LastIs es w) := by
  have HR := Lib.hid hr
  have HLN := Lib.hid hr.len
  have halv := Sr.alloc_event
  have HB0 := Lib.hid ((Below.refl w.heap.size w).alloc (Nat.le_refl _) (.cells (Fc.eventC Sr.zeroE) 58))
  have HZ0 := Lib.hid (Has.fresh w 58 (Fc.eventC Sr.zeroE))
  clear hr
  go_enter Tryz.func66, Tryz.ntmps66
  go_wp2_with (first | ((with_reducible refine Who.wpList_alloc 58 2 rfl rfl rfl (Fc.eventC Sr.zeroE) halv ?_); (try simp only [Act.put, List.setIfInBounds_toArray, List.set_cons_zero, List.set_cons_succ]); (try simp only [World.size_alloc])) | fail)
  go_loopw [9] (fun i wr => ∃ j : Nat, i = .int .i64 j ∧ j ≤ n ∧ Hid ((es.take j).any (lastP es) = false) ∧ Hid (Below w.heap.size w wr) ∧ Hid (Has wr w.heap.size 58 (Fc.eventC Sr.zeroE))) (fun i _ => n - (intOf i).toNat)
  case atStart => exact ⟨0, rfl, Nat.zero_le _, Lib.hid rfl, HB0, HZ0⟩
  case round =>
    clear HB0 HZ0
    obtain ⟨j, rfl, hj, HF, HB, HZ⟩ := hrel
    by_cases hlt : j < n
    · obtain ⟨b, off, rfl, hbl, hx, mr⟩ := (HR.out.below HB.out).range (i := j) hlt
      have HTK := Lib.hid (any_take (lastP es) hx HF.out)
      have HHT := Lib.hid (find_hit hx HF.out)
      obtain ⟨e, he⟩ : ∃ e, e = es[j] := ⟨_, rfl⟩
      rw [← he] at mr HTK HHT
      have MR := Lib.hid mr
      have hb1 := (Below.refl wr.heap.size wr).alloc (Nat.le_refl _) (.cells (Fc.eventC e) 58)
      have hx1 := Has.fresh wr 58 (Fc.eventC e)
      have HB1 := Lib.hid (HB.out.trans (hb1.mono HB.out.size))
      have HZ1 := Lib.hid (HZ.out.below hb1)
      have HX1 := Lib.hid hx1
      have HC1 := Lib.hid (contains_event (some ⟨b, off, none⟩) n c es 103 #[.pointer (some ⟨wr.heap.size, 0, none⟩)] (fun args V => enters Tryz.func103 (by kernel_rfl) rfl args V) (unkB e) (by omega) _ (HR.out.below HB1.out) (fun V hV x _ => last1_any x e _ V (hx1.below hV)))
      have HLP := Lib.hid (lastP_any es e)
      clear he mr hx hbl hb1 hx1 HF HB HZ
      go_wp2_with (first | ((with_reducible refine Who.wpList_loadC 58 (.tmp 11) rfl (b) (off + j * 21) (Fc.eventC e) ?_); refine And.intro ⟨by rfl, by rfl, ⟨_, Tryz.underlying58, rfl⟩, Sr.info_event⟩ (And.intro (MR.out) ?_); (try simp only [Act.put, List.setIfInBounds_toArray, List.set_cons_zero, List.set_cons_succ])) | ((with_reducible refine Who.wpList_newC 58 5 (.tmp 12) rfl rfl rfl (Fc.eventC Sr.zeroE) (Fc.eventC e) ?_); refine And.intro ⟨rfl, rfl, rfl, halv, by rfl, by rfl, Sr.info_event, rfl, Sr.event_one _⟩ ?_; (try simp only [Act.put, List.setIfInBounds_toArray, List.set_cons_zero, List.set_cons_succ]); (try simp only [World.size_alloc])) | fail)
      refine HC1.out.mono ?_
      rintro q w2 ⟨rfl, hb⟩
      have HB := Lib.hid (HB1.out.trans (hb.mono HB1.out.size))
      have HZ := Lib.hid (HZ1.out.below hb)
      have HX2 := Lib.hid (HX1.out.below hb)
      clear hb HB1 HZ1 HX1 HC1
      cases hq1 : es.any (unkB e) with
      | true =>
        have HQ := Lib.hid (HTK.out (by rw [← HLP.out, hq1]; rfl))
        clear hq1
        go_wp2
        go_roundw
        case rel => exact ⟨j + 1, by go_num, by omega, HQ, HB, HZ⟩
        case measure => simp [intOf]; omega
      | false =>
        have HQ := Lib.hid (show lastE es = some e from HHT.out (by rw [← HLP.out, hq1]; rfl))
        clear hq1
        have HTH := Lib.hid (Who.has_there HZ.out (n := 21) rfl)
        have HZF := Lib.hid (Who.has_over HZ.out (C := Fc.eventC e) rfl)
        have HBF := Lib.hid (Who.below_setCells HB.out (Nat.le_refl w.heap.size) 0 (Fc.eventC e).toList)
        go_wp2_with (first | ((with_reducible refine Who.wpList_loadC 58 (.tmp 5) rfl (wr.heap.size) 0 (Fc.eventC e) ?_); refine And.intro ⟨by rfl, by rfl, ⟨_, Tryz.underlying58, rfl⟩, Sr.info_event⟩ (And.intro (Who.has_range HX2.out) ?_); (try simp only [Act.put, List.setIfInBounds_toArray, List.set_cons_zero, List.set_cons_succ])) | ((with_reducible refine Who.wpList_storeC 58 (.tmp 2) (.tmp 18) rfl (w.heap.size) 0 (Fc.eventC e) ?_); refine And.intro ⟨rfl, by rfl, by rfl, Sr.info_event, Sr.event_one _⟩ (And.intro HTH.out ?_); (try simp only [Act.put, List.setIfInBounds_toArray, List.set_cons_zero, List.set_cons_succ])) | fail)
        refine bodyPost_ret (v := .tuple #[.agg (Fc.eventC e), .bool true]) (Who.results_cell_tmp (p := 2) (u := 3) (t := 58) rfl _ _ w.heap.size 0 (Fc.eventC e) _ (by rfl) (Who.has_range HZF.out) Tryz.underlying58 rfl Sr.info_event) rfl ⟨by rw [HQ.out]; rfl, HBF.out⟩
    · have HQ := Lib.hid (show lastE es = none from find_none (by have := HF.out; rwa [List.take_of_length_le (by rw [HLN.out]; omega)] at this))
      have HTH := Lib.hid (Who.has_there HZ.out (n := 21) rfl)
      have HZF := Lib.hid (Who.has_over HZ.out (C := Fc.eventC Sr.zeroE) rfl)
      have HBF := Lib.hid (Who.below_setCells HB.out (Nat.le_refl w.heap.size) 0 (Fc.eventC Sr.zeroE).toList)
      go_wp2_with (first | ((with_reducible refine Who.wpList_storeC 58 (.tmp 2) (.tmp 20) rfl (w.heap.size) 0 (Fc.eventC Sr.zeroE) ?_); refine And.intro ⟨rfl, by rfl, by rfl, Sr.info_event, Sr.event_one _⟩ (And.intro HTH.out ?_); (try simp only [Act.put, List.setIfInBounds_toArray, List.set_cons_zero, List.set_cons_succ])) | fail)
      refine bodyPost_ret (v := .tuple #[.agg (Fc.eventC Sr.zeroE), .bool false]) (Who.results_cell_tmp (p := 2) (u := 3) (t := 58) rfl _ _ w.heap.size 0 (Fc.eventC Sr.zeroE) _ (by rfl) (Who.has_range HZF.out) Tryz.underlying58 rfl Sr.info_event) rfl ⟨by rw [HQ.out]; rfl, HBF.out⟩
theorem all_next {os : List Fc.EventC} (P : Fc.EventC → Bool) {i : Nat} (h : i < os.length) : (os.take (i + 1)).all P = ((os.take i).all P && P os[i]) := by
  rw [List.take_succ_eq_append_getElem h, List.all_append]
  simp
end Go.Proofs.YtblogecapegbmaaGreat.Md

/- Model: the empty state with itself; what nothing makes. -/
namespace Go.Proofs.YtblogecapegbmaaGreat.Md
open Go.RowKit Go.Proofs.YtblogecapegbmaaGreat.Mem
open Go.Proofs.YtblogecapegbmaaGreat.Fc (PieceP XattrP LinkP NodeC pieceC xattrC linkC nodeC stateC)
open Go.Proofs.YtblogecapegbmaaGreat.Sr (EOwn GrewE zeroS)
open Go.Proofs.YtblogecapegbmaaGreat.Stab (EOut eown_nil eown_sl)
open Go.Proofs.YtblogecapegbmaaGreat.Stl (IdxIs any_take any_hit isId filter_yes filter_no filter_len eown_below eown_mono)
open Go.Proofs.YtblogecapegbmaaGreat.Vc (vecC stC eql_st neq_st)
set_option linter.unusedVariables false set_option linter.unusedSimpArgs false

set_option maxRecDepth 100000 in
set_option maxHeartbeats 4000000 in
theorem eqin_attr (w : World) : (Op.equalIn 10000 40 (.agg #[.int .i64 0, .int .i64 0, .int .i64 493, .int .u64 9223372036854775808]) (.agg #[.int .i64 0, .int .i64 0, .int .i64 493, .int .u64 9223372036854775808])).run Tryz.prog w = .ok true w := by
  have uqi := Tryz.underlying3
  have aqi := Tryz.isAgg3
  have zqi := Tryz.sizeOf3
  have uqu := Tryz.underlying38
  have aqu := Tryz.isAgg38
  have zqu := Tryz.sizeOf38
  have uqt := Tryz.underlying37
  have aqt := Tryz.isAgg37
  have zqt := Tryz.sizeOf37
  have hS : Tryz.prog.underlying 40 = some (.struct (Tryz.prog.fieldsOf 40)) := by kernel_rfl
  have hp : Tryz.prog.stoodInHeld 40 = false := by kernel_rfl
  have hS2 : Tryz.prog.underlying 37 = some (.struct (Tryz.prog.fieldsOf 37)) := by kernel_rfl
  have hp2 : Tryz.prog.stoodInHeld 37 = false := by kernel_rfl
  rw [show (10000 : Nat) = 9999 + 1 from rfl]
  rw [run_equalIn_agg w 9999 40 _ _ hS hp]
  simp only [Program.fieldsOf, Tryz.underlying40]
  go_simp
set_option maxRecDepth 100000 in
set_option maxHeartbeats 4000000 in
theorem eqin_size (w : World) : (Op.equalIn 10000 42 (.agg #[.int .i64 0, .int .i64 0, .int .i64 0]) (.agg #[.int .i64 0, .int .i64 0, .int .i64 0])).run Tryz.prog w = .ok true w := by
  have uqi := Tryz.underlying3
  have aqi := Tryz.isAgg3
  have zqi := Tryz.sizeOf3
  have uqu := Tryz.underlying38
  have aqu := Tryz.isAgg38
  have zqu := Tryz.sizeOf38
  have uqt := Tryz.underlying37
  have aqt := Tryz.isAgg37
  have zqt := Tryz.sizeOf37
  have hS : Tryz.prog.underlying 42 = some (.struct (Tryz.prog.fieldsOf 42)) := by kernel_rfl
  have hp : Tryz.prog.stoodInHeld 42 = false := by kernel_rfl
  have hS2 : Tryz.prog.underlying 37 = some (.struct (Tryz.prog.fieldsOf 37)) := by kernel_rfl
  have hp2 : Tryz.prog.stoodInHeld 37 = false := by kernel_rfl
  rw [show (10000 : Nat) = 9999 + 1 from rfl]
  rw [run_equalIn_agg w 9999 42 _ _ hS hp]
  simp only [Program.fieldsOf, Tryz.underlying42]
  go_simp
theorem eqp_nil (w : World) : Calls Tryz.prog 100 #[.slice none 0 0, .slice none 0 0] w fun e w' => e = .returned (.bool true) ∧ Below w.heap.size w w' := by
  go_enter Tryz.func100, Tryz.ntmps100
  go_wp2
  go_loopw [13] (fun i wr => i = .int .i64 0 ∧ Hid (Below w.heap.size w wr)) (fun _ _ => 0)
  case atStart => exact ⟨rfl, Lib.hid (Below.refl _ _)⟩
  case round =>
    obtain ⟨rfl, HB⟩ := hrel
    go_wp2
    go_ret
    exact ⟨rfl, HB.out⟩
theorem eqx_nil (w : World) : Calls Tryz.prog 101 #[.slice none 0 0, .slice none 0 0] w fun e w' => e = .returned (.bool true) ∧ Below w.heap.size w w' := by
  go_enter Tryz.func101, Tryz.ntmps101
  go_wp2
  go_loopw [13] (fun i wr => i = .int .i64 0 ∧ Hid (Below w.heap.size w wr)) (fun _ _ => 0)
  case atStart => exact ⟨rfl, Lib.hid (Below.refl _ _)⟩
  case round =>
    obtain ⟨rfl, HB⟩ := hrel
    go_wp2
    go_ret
    exact ⟨rfl, HB.out⟩
theorem eql_nil (w : World) : Calls Tryz.prog 57 #[.slice none 0 0, .slice none 0 0] w fun e w' => e = .returned (.bool true) ∧ Below w.heap.size w w' := by
  go_enter Tryz.func57, Tryz.ntmps57
  go_wp2
  go_loopw [13] (fun i wr => i = .int .i64 0 ∧ Hid (Below w.heap.size w wr)) (fun _ _ => 0)
  case atStart => exact ⟨rfl, Lib.hid (Below.refl _ _)⟩
  case round =>
    obtain ⟨rfl, HB⟩ := hrel
    go_wp2
    go_ret
    exact ⟨rfl, HB.out⟩
theorem root_at : ∀ j v, (#[.int .i64 0, .int .i64 0, .int .i64 493, .int .u64 9223372036854775808] : Array Value).toList[j]? = some v → (nodeC Fc.rootN)[4 + j]? = some v := fun j v hv => by
  match j, hv with
  | 0, hv => exact hv
  | 1, hv => exact hv
  | 2, hv => exact hv
  | 3, hv => exact hv
  | j + 4, hv => simp at hv
theorem root_sz : ∀ j v, (#[.int .i64 0, .int .i64 0, .int .i64 0] : Array Value).toList[j]? = some v → (nodeC Fc.rootN)[8 + j]? = some v := fun j v hv => by
  match j, hv with
  | 0, hv => exact hv
  | 1, hv => exact hv
  | 2, hv => exact hv
  | j + 3, hv => simp at hv
theorem seen0 (g : Nat) : ∀ j v, (vecC (fun _ => 0) : Array Value).toList[j]? = some v → (stateC (Fc.emptyS g))[0 + j]? = some v := Smr.rseen (s := Fc.emptyS g)
set_option maxRecDepth 100000 in
set_option maxHeartbeats 4000000 in
theorem sameroot_any (w : World) : Calls Tryz.prog 56 #[.agg (nodeC Fc.rootN), .agg (nodeC Fc.rootN)] w fun e w' => e = .returned (.bool true) ∧ Below w.heap.size w w' := by
  have HB0 := Lib.hid (((Below.refl w.heap.size w).alloc (Nat.le_refl _) (.cells (nodeC Fc.rootN) 46)).alloc (by simp) (.cells (nodeC Fc.rootN) 46))
  have HX := Lib.hid ((Has.fresh w 46 (nodeC Fc.rootN)).past (.cells (nodeC Fc.rootN) 46))
  have HY := Lib.hid (show Has ((w.alloc (.cells (nodeC Fc.rootN) 46)).alloc (.cells (nodeC Fc.rootN) 46)) (w.heap.size + 1) 46 (nodeC Fc.rootN) from freshAt 46 (nodeC Fc.rootN) (by simp))
  have cx2 : ((w.alloc (.cells (nodeC Fc.rootN) 46)).alloc (.cells (nodeC Fc.rootN) 46)).cell? ⟨w.heap.size, 2, none⟩ = some (.int .i64 2) := HX.out.at_ 2
  have cy2 : ((w.alloc (.cells (nodeC Fc.rootN) 46)).alloc (.cells (nodeC Fc.rootN) 46)).cell? ⟨w.heap.size + 1, 2, none⟩ = some (.int .i64 2) := HY.out.at_ 2
  have cx3 : ((w.alloc (.cells (nodeC Fc.rootN) 46)).alloc (.cells (nodeC Fc.rootN) 46)).cell? ⟨w.heap.size, 3, none⟩ = some (.string ByteArray.empty) := HX.out.at_ 3
  have cy3 : ((w.alloc (.cells (nodeC Fc.rootN) 46)).alloc (.cells (nodeC Fc.rootN) 46)).cell? ⟨w.heap.size + 1, 3, none⟩ = some (.string ByteArray.empty) := HY.out.at_ 3
  have cx11 : ((w.alloc (.cells (nodeC Fc.rootN) 46)).alloc (.cells (nodeC Fc.rootN) 46)).cell? ⟨w.heap.size, 11, none⟩ = some (.slice none 0 0) := HX.out.at_ 11
  have cy11 : ((w.alloc (.cells (nodeC Fc.rootN) 46)).alloc (.cells (nodeC Fc.rootN) 46)).cell? ⟨w.heap.size + 1, 11, none⟩ = some (.slice none 0 0) := HY.out.at_ 11
  have q0 := fun W => Smr.eref_st 0 0 W
  have q1 := fun W => eqin_attr W
  have q2 := fun W => eqin_size W
  go_enter Tryz.func56, Tryz.ntmps56
  go_wp2_with (first | ((with_reducible refine Who.wpList_loadC 37 (.tmp 5) rfl (w.heap.size) 0 (#[.int .i64 0, .int .i64 0]) ?_); refine And.intro ⟨by rfl, by rfl, ⟨_, Tryz.underlying37, rfl⟩, Sr.info_st⟩ (And.intro (Sr.nid_range HX.out) ?_); (try simp only [Act.put, List.setIfInBounds_toArray, List.set_cons_zero, List.set_cons_succ])) | ((with_reducible refine Who.wpList_loadC 37 (.tmp 7) rfl ((w.heap.size + 1)) 0 (#[.int .i64 0, .int .i64 0]) ?_); refine And.intro ⟨by rfl, by rfl, ⟨_, Tryz.underlying37, rfl⟩, Sr.info_st⟩ (And.intro (Sr.nid_range HY.out) ?_); (try simp only [Act.put, List.setIfInBounds_toArray, List.set_cons_zero, List.set_cons_succ])) | ((with_reducible refine Who.wpList_loadC 40 (.tmp 25) rfl (w.heap.size) 4 (#[.int .i64 0, .int .i64 0, .int .i64 493, .int .u64 9223372036854775808]) ?_); refine And.intro ⟨by rfl, by rfl, ⟨_, Tryz.underlying40, rfl⟩, Smr.info_attr⟩ (And.intro (Smr.rangeOf HX.out 4 #[.int .i64 0, .int .i64 0, .int .i64 493, .int .u64 9223372036854775808] root_at) ?_); (try simp only [Act.put, List.setIfInBounds_toArray, List.set_cons_zero, List.set_cons_succ])) | ((with_reducible refine Who.wpList_loadC 40 (.tmp 27) rfl ((w.heap.size + 1)) 4 (#[.int .i64 0, .int .i64 0, .int .i64 493, .int .u64 9223372036854775808]) ?_); refine And.intro ⟨by rfl, by rfl, ⟨_, Tryz.underlying40, rfl⟩, Smr.info_attr⟩ (And.intro (Smr.rangeOf HY.out 4 #[.int .i64 0, .int .i64 0, .int .i64 493, .int .u64 9223372036854775808] root_at) ?_); (try simp only [Act.put, List.setIfInBounds_toArray, List.set_cons_zero, List.set_cons_succ])) | ((with_reducible refine Who.wpList_loadC 42 (.tmp 32) rfl (w.heap.size) 8 (#[.int .i64 0, .int .i64 0, .int .i64 0]) ?_); refine And.intro ⟨by rfl, by rfl, ⟨_, Tryz.underlying42, rfl⟩, Smr.info_size⟩ (And.intro (Smr.rangeOf HX.out 8 #[.int .i64 0, .int .i64 0, .int .i64 0] root_sz) ?_); (try simp only [Act.put, List.setIfInBounds_toArray, List.set_cons_zero, List.set_cons_succ])) | ((with_reducible refine Who.wpList_loadC 42 (.tmp 34) rfl ((w.heap.size + 1)) 8 (#[.int .i64 0, .int .i64 0, .int .i64 0]) ?_); refine And.intro ⟨by rfl, by rfl, ⟨_, Tryz.underlying42, rfl⟩, Smr.info_size⟩ (And.intro (Smr.rangeOf HY.out 8 #[.int .i64 0, .int .i64 0, .int .i64 0] root_sz) ?_); (try simp only [Act.put, List.setIfInBounds_toArray, List.set_cons_zero, List.set_cons_succ])) | fail)
  refine (eqp_nil _).mono ?_
  rintro q w2 ⟨rfl, hb⟩
  have HB2 := Lib.hid (HB0.out.trans (hb.mono HB0.out.size))
  have d1 : w2.cell? ⟨w.heap.size, 12, none⟩ = some (.slice none 0 0) := (HX.out.below hb).at_ 12
  have d2 : w2.cell? ⟨w.heap.size + 1, 12, none⟩ = some (.slice none 0 0) := (HY.out.below hb).at_ 12
  clear hb
  go_wp2_with fail
  refine (eqx_nil _).mono ?_
  rintro q w3 ⟨rfl, hb⟩
  have HB3 := Lib.hid (HB2.out.trans (hb.mono HB2.out.size))
  clear hb
  go_wp2
  go_ret
  exact ⟨rfl, HB3.out⟩
theorem empty_keep {w : World} {g h : Nat} {o : Nat} {vs : List Value} (hs : Fc.StateFit w (Fc.emptyS g)) (hg : h < g) : Fc.StateFit (w.setCells h o vs) (Fc.emptyS g) where
  nodes := ⟨rfl, fun _ => by
    obtain ⟨b, off, e, hl, hx⟩ := hs.nodes.cells (show 0 < 1 by decide)
    have e1 : (some ⟨g, 0, none⟩ : Option Addr) = some ⟨b, off, none⟩ := e
    cases e1
    have hc := (Who.chg_setCells h vs o w)
    refine ⟨g, 0, rfl, by rw [← Who.size_setCells h vs o w] at hl; exact hl, fun i hi j v hv => ?_⟩
    have eb := hc.block g hl (by omega)
    have ec : (w.setCells h o vs).cell? ⟨g, 0 + i * 13 + j, none⟩ = w.cell? ⟨g, 0 + i * 13 + j, none⟩ := by simp only [World.cell?, eb]
    exact ec.trans (hx i hi j v hv)⟩
  links := Fc.SRow.nil _ _ _
  m1 := hs.m1
  m2 := hs.m2
  each := fun x hx => by
    rw [show (Fc.emptyS g).nodes = [Fc.rootN] from rfl, List.mem_singleton] at hx
    subst hx
    exact Fc.root_fit _
  names := fun x hx => by cases hx
theorem root_range {w : World} {g : Nat} (h : Fc.StateFit w (Fc.emptyS g)) : w.rangeAt g 0 (nodeC Fc.rootN).toList ∧ g < w.heap.size := by
  obtain ⟨b, off, hA, hl, hx, mr⟩ := h.nodes.range (i := 0) (show 0 < 1 by decide)
  have e1 : (some ⟨g, 0, none⟩ : Option Addr) = some ⟨b, off, none⟩ := hA
  cases e1
  exact ⟨mr, hl⟩
theorem wpList_storeNew {P : Program} {ops : Array Oper} {rest : List Oper} {op : Oper} {a : Act} {w0 : World} {Q : Exit → Act → World → Prop} (ty : TypeId) (x y : Operand) (z C : Array Value) (ho : op.op = .store ty x y)
    (h : (op.guard = none ∧ op.dst = none ∧ a.eval x = .pointer (some ⟨w0.heap.size, 0, none⟩) ∧ a.eval y = .agg C ∧ (P.info? ty).map (·.size) = some C.size ∧ z.size = C.size ∧ C.all (·.oneCell') = true) ∧ wpList P ops Q rest a (w0.alloc (.cells C ty))) : wpList P ops Q (op :: rest) a (w0.alloc (.cells z ty)) := by
  obtain ⟨⟨hg, hd, hx, hy, hi, hzC, hone⟩, h⟩ := h
  refine wpList_plain hg fun K2 hK2 => ?_
  have e3 : (execOp a.eval op).run P (w0.alloc (.cells z ty)) = .ok .skip (w0.alloc (.cells C ty)) := by
    unfold execOp
    simp only [ho, hx, hy, Instr.storeAt, Instr.sureAddr, Sem.run_bind, Sem.run_pure, Result.andThen_ok, run_storeVar_new w0 ty z C hi hzC hone]
  unfold Oper.wp
  rw [e3]
  refine hK2 _ _ ?_
  rw [hd]
  exact h
set_option maxRecDepth 100000 in
set_option maxHeartbeats 2000000 in
theorem eqn_root (g1 g2 : Nat) (w : World) (r1 : w.rangeAt g1 0 (nodeC Fc.rootN).toList) (l1 : g1 < w.heap.size) (r2 : w.rangeAt g2 0 (nodeC Fc.rootN).toList) (l2 : g2 < w.heap.size) : Calls Tryz.prog 55 #[.slice (some ⟨g1, 0, none⟩) 1 1, .slice (some ⟨g2, 0, none⟩) 1 1, .func (.func 56) #[] #[]] w fun e w' => e = .returned (.bool true) ∧ Below w.heap.size w w' := by
  have R1 := Lib.hid (fun V (h : Below w.heap.size w V) => Fc.row_range_below r1 h l1)
  have R2 := Lib.hid (fun V (h : Below w.heap.size w V) => Fc.row_range_below r2 h l2)
  have haln := Stl.alloc_node
  clear r1 r2 l1 l2
  go_enter Tryz.func55, Tryz.ntmps55
  go_wp2
  go_loopw [17] (fun i wr => ∃ j : Nat, j ≤ 1 ∧ i = .int .i64 j ∧ Hid (Below w.heap.size w wr)) (fun i _ => 1 - (intOf i).toNat)
  case atStart => exact ⟨0, by omega, rfl, Lib.hid (Below.refl _ _)⟩
  case round =>
    obtain ⟨j, hj, rfl, HI⟩ := hrel
    by_cases hlt : j < 1
    · obtain rfl : j = 0 := by omega
      have hb1 := HI.out.alloc HI.out.size (.cells (nodeC Fc.rootN) 46)
      have HB2 := Lib.hid (hb1.alloc hb1.size (.cells (nodeC Fc.rootN) 46))
      have HA := Lib.hid (R1.out _ HI.out)
      have HB := Lib.hid (R2.out _ hb1)
      have HX := Lib.hid ((Has.fresh wr 46 (nodeC Fc.rootN)).past (.cells (nodeC Fc.rootN) 46))
      have HY := Lib.hid (show Has ((wr.alloc (.cells (nodeC Fc.rootN) 46)).alloc (.cells (nodeC Fc.rootN) 46)) (wr.heap.size + 1) 46 (nodeC Fc.rootN) from freshAt 46 (nodeC Fc.rootN) (by simp))
      clear hb1
      go_wp2_with (first | ((with_reducible refine Who.wpList_loadC 46 (.tmp 20) rfl (g1) 0 (nodeC Fc.rootN) ?_); refine And.intro ⟨by rfl, by rfl, ⟨_, Tryz.underlying46, rfl⟩, Sr.info_inode⟩ (And.intro (HA.out) ?_); (try simp only [Act.put, List.setIfInBounds_toArray, List.set_cons_zero, List.set_cons_succ])) | ((with_reducible refine Who.wpList_alloc 46 8 rfl rfl rfl (nodeC Stl.zeroN) haln ?_); (try simp only [Act.put, List.setIfInBounds_toArray, List.set_cons_zero, List.set_cons_succ]); (try simp only [World.size_alloc])) | ((with_reducible refine wpList_storeNew 46 (.tmp 8) (.tmp 21) (nodeC Stl.zeroN) (nodeC Fc.rootN) rfl ?_); refine And.intro ⟨rfl, rfl, by rfl, by rfl, Sr.info_inode, rfl, Stl.node_one _⟩ ?_; (try simp only [Act.put, List.setIfInBounds_toArray, List.set_cons_zero, List.set_cons_succ])) | ((with_reducible refine Who.wpList_loadC 46 (.tmp 24) rfl (g2) 0 (nodeC Fc.rootN) ?_); refine And.intro ⟨by rfl, by rfl, ⟨_, Tryz.underlying46, rfl⟩, Sr.info_inode⟩ (And.intro (HB.out) ?_); (try simp only [Act.put, List.setIfInBounds_toArray, List.set_cons_zero, List.set_cons_succ])) | ((with_reducible refine Who.wpList_newC 46 9 (.tmp 25) rfl rfl rfl (nodeC Stl.zeroN) (nodeC Fc.rootN) ?_); refine And.intro ⟨rfl, rfl, rfl, haln, by rfl, by rfl, Sr.info_inode, rfl, Stl.node_one _⟩ ?_; (try simp only [Act.put, List.setIfInBounds_toArray, List.set_cons_zero, List.set_cons_succ]); (try simp only [World.size_alloc])) | ((with_reducible refine Who.wpList_loadC 46 (.tmp 8) rfl (wr.heap.size) 0 (nodeC Fc.rootN) ?_); refine And.intro ⟨by rfl, by rfl, ⟨_, Tryz.underlying46, rfl⟩, Sr.info_inode⟩ (And.intro (Who.has_range HX.out) ?_); (try simp only [Act.put, List.setIfInBounds_toArray, List.set_cons_zero, List.set_cons_succ])) | ((with_reducible refine Who.wpList_loadC 46 (.tmp 9) rfl ((wr.heap.size + 1)) 0 (nodeC Fc.rootN) ?_); refine And.intro ⟨by rfl, by rfl, ⟨_, Tryz.underlying46, rfl⟩, Sr.info_inode⟩ (And.intro (Who.has_range HY.out) ?_); (try simp only [Act.put, List.setIfInBounds_toArray, List.set_cons_zero, List.set_cons_succ])) | fail)
      refine (sameroot_any _).mono ?_
      rintro q w2 ⟨rfl, hb⟩
      have HB3 := Lib.hid (HB2.out.trans (hb.mono HB2.out.size))
      clear hb
      go_wp2
      go_roundw
      case rel => exact ⟨1, by omega, by go_num, HB3⟩
      case measure => simp [intOf]
    · obtain rfl : j = 1 := by omega
      go_wp2
      go_ret
      exact ⟨rfl, HI.out⟩
set_option maxRecDepth 100000 in
set_option maxHeartbeats 2000000 in
theorem fsame_any (g1 g2 : Nat) (w : World) (h1 : Fc.StateFit w (Fc.emptyS g1)) (h2 : Fc.StateFit w (Fc.emptyS g2)) : Calls Tryz.prog 19 #[.agg (stateC (Fc.emptyS g1)), .agg (stateC (Fc.emptyS g2))] w fun e w' => e = .returned (.bool true) ∧ Below w.heap.size w w' := by
  have HB0 := Lib.hid (((Below.refl w.heap.size w).alloc (Nat.le_refl _) (.cells (stateC (Fc.emptyS g1)) 27)).alloc (by simp) (.cells (stateC (Fc.emptyS g2)) 27))
  have HX := Lib.hid ((Has.fresh w 27 (stateC (Fc.emptyS g1))).past (.cells (stateC (Fc.emptyS g2)) 27))
  have HY := Lib.hid (show Has ((w.alloc (.cells (stateC (Fc.emptyS g1)) 27)).alloc (.cells (stateC (Fc.emptyS g2)) 27)) (w.heap.size + 1) 27 (stateC (Fc.emptyS g2)) from freshAt 27 (stateC (Fc.emptyS g2)) (by simp))
  have HE := Lib.hid (show ∀ V, Below w.heap.size w V → Calls Tryz.prog 55 #[.slice (some ⟨g1, 0, none⟩) 1 1, .slice (some ⟨g2, 0, none⟩) 1 1, .func (.func 56) #[] #[]] V fun e w' => e = .returned (.bool true) ∧ Below V.heap.size V w' from fun V h => eqn_root g1 g2 V (root_range (h1.below h)).1 (root_range (h1.below h)).2 (root_range (h2.below h)).1 (root_range (h2.below h)).2)
  have cx8 : ((w.alloc (.cells (stateC (Fc.emptyS g1)) 27)).alloc (.cells (stateC (Fc.emptyS g2)) 27)).cell? ⟨w.heap.size, 8, none⟩ = some (.slice (some ⟨g1, 0, none⟩) 1 1) := HX.out.at_ 8
  have cy8 : ((w.alloc (.cells (stateC (Fc.emptyS g1)) 27)).alloc (.cells (stateC (Fc.emptyS g2)) 27)).cell? ⟨w.heap.size + 1, 8, none⟩ = some (.slice (some ⟨g2, 0, none⟩) 1 1) := HY.out.at_ 8
  have q0 : ∀ W, (Op.equalIn 10000 23 (.agg (vecC fun _ => 0)) (.agg (vecC fun _ => 0))).run Tryz.prog W = .ok true W := fun W => by
    have q : (Op.equalIn 10000 23 (.agg (vecC fun _ => 0)) (.agg (vecC fun _ => 0))).run Tryz.prog W = .ok (Vc.eq8 (fun _ => 0) (fun _ => 0)) W := Vc.eqv (fun _ => 0) (fun _ => 0) W
    rwa [Smr.eq8_self] at q
  clear h1 h2
  go_enter Tryz.func19, Tryz.ntmps19
  go_wp2_with (first | ((with_reducible refine Who.wpList_loadC 23 (.tmp 5) rfl (w.heap.size) 0 (vecC (fun _ => 0)) ?_); refine And.intro ⟨by rfl, by rfl, ⟨_, Tryz.underlying23, rfl⟩, Sr.info_vec⟩ (And.intro (Smr.rangeOf HX.out 0 _ (seen0 _)) ?_); (try simp only [Act.put, List.setIfInBounds_toArray, List.set_cons_zero, List.set_cons_succ])) | ((with_reducible refine Who.wpList_loadC 23 (.tmp 7) rfl ((w.heap.size + 1)) 0 (vecC (fun _ => 0)) ?_); refine And.intro ⟨by rfl, by rfl, ⟨_, Tryz.underlying23, rfl⟩, Sr.info_vec⟩ (And.intro (Smr.rangeOf HY.out 0 _ (seen0 _)) ?_); (try simp only [Act.put, List.setIfInBounds_toArray, List.set_cons_zero, List.set_cons_succ])) | fail)
  refine (HE.out _ HB0.out).mono ?_
  rintro q w2 ⟨rfl, hb⟩
  have HB2 := Lib.hid (HB0.out.trans (hb.mono HB0.out.size))
  have d1 : w2.cell? ⟨w.heap.size, 9, none⟩ = some (.slice none 0 0) := (HX.out.below hb).at_ 9
  have d2 : w2.cell? ⟨w.heap.size + 1, 9, none⟩ = some (.slice none 0 0) := (HY.out.below hb).at_ 9
  clear hb
  go_wp2_with fail
  refine (eql_nil _).mono ?_
  rintro q w3 ⟨rfl, hb⟩
  have HB3 := Lib.hid (HB2.out.trans (hb.mono HB2.out.size))
  clear hb
  go_wp2
  go_ret
  exact ⟨rfl, HB3.out⟩
def zeroSt : Fc.StateC := ⟨fun _ => 0, none, 0, 0, none, 0, 0, [], []⟩
theorem alloc_st (w : World) : (Instr.alloc 27 true (.tuple #[])).run Tryz.prog w = .ok (.pointer (some ⟨w.heap.size, 0, none⟩)) (w.alloc (.cells (stateC zeroSt) 27)) := by
  have hz := Tryz.zeroValue27
  go_simp
  rfl
theorem state_one (s : Fc.StateC) : (stateC s).all (·.oneCell') = true := by simp [stateC, Value.oneCell']
set_option maxRecDepth 100000 in
set_option maxHeartbeats 2000000 in
theorem fold_nil (w : World) : Calls Tryz.prog 27 #[.slice none 0 0] w fun e w' => ∃ g, e = .returned (.agg (stateC (Fc.emptyS g))) ∧ Fc.StateFit w' (Fc.emptyS g) ∧ w.heap.size ≤ g ∧ Below w.heap.size w w' := by
  have hals := alloc_st
  have hb0 := (Below.refl w.heap.size w).alloc (Nat.le_refl _) (.cells (stateC zeroSt) 27)
  have HB0 := Lib.hid hb0
  have HZ0 := Lib.hid (Has.fresh w 27 (stateC zeroSt))
  have HEM := Lib.hid (fun V => Fc.empty_any V)
  clear hb0
  go_enter Tryz.func27, Tryz.ntmps27
  go_wp2_with (first | ((with_reducible refine Who.wpList_alloc 27 2 rfl rfl rfl (stateC zeroSt) hals ?_); (try simp only [Act.put, List.setIfInBounds_toArray, List.set_cons_zero, List.set_cons_succ]); (try simp only [World.size_alloc])) | fail)
  refine (HEM.out _).mono ?_
  rintro q w1 ⟨g, rfl, hs, hg, hb⟩
  have hb1 := HB0.out.trans (hb.mono HB0.out.size)
  have hk1 : Below w1.heap.size w1 (w1.alloc (.cells (stateC (Fc.emptyS g)) 27)) := (Below.refl w1.heap.size w1).alloc (Nat.le_refl _) _
  have HB1 := Lib.hid (hb1.alloc hb1.size (.cells (stateC (Fc.emptyS g)) 27))
  have HZ1 := Lib.hid ((HZ0.out.below hb).past (.cells (stateC (Fc.emptyS g)) 27))
  have HY1 := Lib.hid (Has.fresh w1 27 (stateC (Fc.emptyS g)))
  have HS1 := Lib.hid (hs.below hk1)
  have HG := Lib.hid (show w.heap.size < g by rw [World.size_alloc] at hg; omega)
  obtain ⟨Y, hY⟩ : ∃ Y, Y = w1.heap.size := ⟨_, rfl⟩
  clear hs hg hb hb1 hk1 HB0 HZ0
  go_wp2_with (first | ((with_reducible refine Who.wpList_newC 27 3 (.tmp 6) rfl rfl rfl (stateC zeroSt) (stateC (Fc.emptyS g)) ?_); refine And.intro ⟨rfl, rfl, rfl, hals, by rfl, by rfl, Sr.info_state, rfl, state_one _⟩ ?_; (try simp only [Act.put, List.setIfInBounds_toArray, List.set_cons_zero, List.set_cons_succ]); (try simp only [World.size_alloc])) | fail)
  go_loopw [9] (fun i wr => i = .int .i64 0 ∧ Hid (Below w.heap.size w wr) ∧ Hid (Has wr w.heap.size 27 (stateC zeroSt)) ∧ Hid (Has wr w1.heap.size 27 (stateC (Fc.emptyS g))) ∧ Hid (Fc.StateFit wr (Fc.emptyS g))) (fun _ _ => 0)
  case atStart => exact ⟨rfl, HB1, HZ1, HY1, HS1⟩
  case round =>
    clear HB1 HZ1 HY1 HS1
    obtain ⟨rfl, HB, HZ, HY, HS⟩ := hrel
    have HTH := Lib.hid (Who.has_there HZ.out (n := 10) rfl)
    have HZF := Lib.hid (Who.has_over HZ.out (C := stateC (Fc.emptyS g)) rfl)
    have HBF := Lib.hid (Who.below_setCells HB.out (Nat.le_refl w.heap.size) 0 (stateC (Fc.emptyS g)).toList)
    have HSF := Lib.hid (empty_keep (o := 0) (vs := (stateC (Fc.emptyS g)).toList) HS.out HG.out)
    go_wp2_with (first | ((with_reducible refine Who.wpList_loadC 27 (.tmp 3) rfl (w1.heap.size) 0 (stateC (Fc.emptyS g)) ?_); refine And.intro ⟨by rfl, by rfl, ⟨_, Tryz.underlying27, rfl⟩, Sr.info_state⟩ (And.intro (Who.has_range HY.out) ?_); (try simp only [Act.put, List.setIfInBounds_toArray, List.set_cons_zero, List.set_cons_succ])) | ((with_reducible refine Who.wpList_storeC 27 (.tmp 2) (.tmp 18) rfl (w.heap.size) 0 (stateC (Fc.emptyS g)) ?_); refine And.intro ⟨rfl, by rfl, by rfl, Sr.info_state, state_one _⟩ (And.intro HTH.out ?_); (try simp only [Act.put, List.setIfInBounds_toArray, List.set_cons_zero, List.set_cons_succ])) | fail)
    refine bodyPost_ret (v := .agg (stateC (Fc.emptyS g))) (Who.results_cell (p := 2) (t := 27) rfl _ _ w.heap.size 0 (stateC (Fc.emptyS g)) _ (by rfl) (Who.has_range HZF.out) Tryz.underlying27 rfl Sr.info_state) rfl ⟨g, rfl, HSF.out, Nat.le_of_lt HG.out, HBF.out⟩
end Go.Proofs.YtblogecapegbmaaGreat.Md

/- Model: the example. -/
namespace Go.Proofs.YtblogecapegbmaaGreat.Md
open Go.RowKit Go.Proofs.YtblogecapegbmaaGreat.Mem
open Go.Proofs.YtblogecapegbmaaGreat.Fc (PieceP XattrP LinkP NodeC pieceC xattrC linkC nodeC stateC)
open Go.Proofs.YtblogecapegbmaaGreat.Sr (EOwn GrewE zeroS)
open Go.Proofs.YtblogecapegbmaaGreat.Stab (EOut eown_nil eown_sl)
open Go.Proofs.YtblogecapegbmaaGreat.Stl (IdxIs any_take any_hit isId filter_yes filter_no filter_len eown_below eown_mono)
open Go.Proofs.YtblogecapegbmaaGreat.Vc (vecC stC eql_st neq_st)
set_option linter.unusedVariables false set_option linter.unusedSimpArgs false

def evA : Fc.EventC := ⟨(1, 0), 0, fun _ => 0, ⟨fun _ => 0, none, 0, 0, none, 0, 0, [], []⟩⟩
def evB : Fc.EventC := ⟨(2, 1), 0, fun i => if i = 0 then 1 else 0, ⟨fun _ => 0, none, 0, 0, none, 0, 0, [], []⟩⟩
theorem last_ex : lastE [evA, evB] = some evB := by kernel_rfl
theorem bef_ab : befB evA evB = true := by kernel_rfl
theorem bef_ba : befB evB evA = false := by kernel_rfl
theorem srow_two {w : World} {g : Nat} {t : TypeId} {a b : Fc.EventC} (h : Has w g t (Fc.eventC a ++ Fc.eventC b)) : Fc.SRow w 21 Fc.eventC (some ⟨g, 0, none⟩) 2 [a, b] := by
  refine ⟨rfl, fun _ => ⟨g, 0, rfl, h.bound, fun i hi j v hv => ?_⟩⟩
  have hj : j < 21 := by
    obtain ⟨q, _⟩ := Array.getElem?_eq_some_iff.1 hv
    exact q
  rw [show 0 + i * 21 + j = i * 21 + j by omega, h.at_]
  match i, hi with
  | 0, _ =>
    rw [Array.getElem?_append_left (by show 0 * 21 + j < 21; omega), show 0 * 21 + j = j by omega]
    simpa using hv
  | 1, _ =>
    rw [Array.getElem?_append_right (by show 21 ≤ 1 * 21 + j; omega), show 1 * 21 + j - (Fc.eventC a).size = j by show 1 * 21 + j - 21 = j; omega]
    simpa using hv
  | i + 2, hi => simp at hi; omega
theorem fill_two : Instr.fill (fun i => some (i * 21, 21)) ((Array.range (2 * 21)).map ((Value.agg (Fc.eventC Sr.zeroE)).cells[· % (Value.agg (Fc.eventC Sr.zeroE)).cells.size]!)) [(0, Value.agg (Fc.eventC evA)), (1, Value.agg (Fc.eventC evB))] = some (Fc.eventC evA ++ Fc.eventC evB) := by kernel_rfl
theorem wpList_build_two {ops : Array Oper} {rest : List Oper} {o : Oper} {a : Act} {w : World} {Q : Exit → Act → World → Prop} (x y : Operand) (ho : o.op = .buildSlice 56 2 #[(0, x), (1, y)])
    (h : (Region.wanted o (yielded ops a.tmps) = true ∧ a.eval x = .agg (Fc.eventC evA) ∧ a.eval y = .agg (Fc.eventC evB)) ∧ wpList Tryz.prog ops Q rest (a.put o.dst (.slice (some ⟨w.heap.size, 0, none⟩) 2 2)) (w.alloc (.cells (Fc.eventC evA ++ Fc.eventC evB) 58))) : wpList Tryz.prog ops Q (o :: rest) a w := by
  obtain ⟨⟨h1, h2, h2'⟩, h3⟩ := h
  obtain ⟨i, q0, q1, q2, q3⟩ := Sr.info_parts_ev
  refine wpList_step fun K hK => ?_
  rw [if_pos h1]
  refine wp_buildSlice 56 58 2 _ ho (Fc.eventC evA ++ Fc.eventC evB) i _ Tryz.underlying56 q0 q1 (by omega) (by omega) ?_ (hK _ _ h3)
  have e1 : (#[(0, x), (1, y)] : Array (Nat × Operand)).map (fun (i, x) => (i, a.eval x)) = #[(0, .agg (Fc.eventC evA)), (1, .agg (Fc.eventC evB))] := by simp [h2, h2']
  rw [e1, q2]
  exact fill_two
set_option maxRecDepth 100000 in
set_option maxHeartbeats 4000000 in
theorem awake_any (w : World) : Calls Tryz.prog 26 #[] w fun e w' => e = .returned (.bool true) ∧ Below w.heap.size w w' := by
  have halv := Sr.alloc_event
  have hb3 : Below w.heap.size w (((w.alloc (.cells (Fc.eventC evA) 58)).alloc (.cells (Fc.eventC evB) 58)).alloc (.cells (Fc.eventC evA ++ Fc.eventC evB) 58)) := (((Below.refl w.heap.size w).alloc (Nat.le_refl _) _).alloc (by simp) _).alloc (by simp; omega) _
  have HB3 := Lib.hid hb3
  have HA1 := Lib.hid (show Has ((w.alloc (.cells (Fc.eventC evA) 58)).alloc (.cells (Fc.eventC evB) 58)) w.heap.size 58 (Fc.eventC evA) from (Has.fresh w 58 (Fc.eventC evA)).past _)
  have HA2 := Lib.hid (show Has ((w.alloc (.cells (Fc.eventC evA) 58)).alloc (.cells (Fc.eventC evB) 58)) (w.heap.size + 1) 58 (Fc.eventC evB) from freshAt 58 _ (by simp))
  have HA := Lib.hid (HA1.out.past (.cells (Fc.eventC evA ++ Fc.eventC evB) 58))
  have HB := Lib.hid (HA2.out.past (.cells (Fc.eventC evA ++ Fc.eventC evB) 58))
  have HR := Lib.hid (srow_two (show Has (((w.alloc (.cells (Fc.eventC evA) 58)).alloc (.cells (Fc.eventC evB) 58)).alloc (.cells (Fc.eventC evA ++ Fc.eventC evB) 58)) (w.heap.size + 1 + 1) 58 (Fc.eventC evA ++ Fc.eventC evB) from freshAt 58 _ (by simp)))
  have HL := Lib.hid (last_any (some ⟨w.heap.size + 1 + 1, 0, none⟩) 2 2 [evA, evB] (by decide) (((w.alloc (.cells (Fc.eventC evA) 58)).alloc (.cells (Fc.eventC evB) 58)).alloc (.cells (Fc.eventC evA ++ Fc.eventC evB) 58)) HR.out)
  clear hb3
  go_enter Tryz.func26, Tryz.ntmps26
  go_wp2_with (first | ((with_reducible refine Who.wpList_newC 58 1 (.tmp 6) rfl rfl rfl (Fc.eventC Sr.zeroE) (Fc.eventC evA) ?_); refine And.intro ⟨rfl, rfl, rfl, halv, by rfl, by rfl, Sr.info_event, rfl, Sr.event_one _⟩ ?_; (try simp only [Act.put, List.setIfInBounds_toArray, List.set_cons_zero, List.set_cons_succ]); (try simp only [World.size_alloc])) | ((with_reducible refine Who.wpList_newC 58 2 (.tmp 9) rfl rfl rfl (Fc.eventC Sr.zeroE) (Fc.eventC evB) ?_); refine And.intro ⟨rfl, rfl, rfl, halv, by rfl, by rfl, Sr.info_event, rfl, Sr.event_one _⟩ ?_; (try simp only [Act.put, List.setIfInBounds_toArray, List.set_cons_zero, List.set_cons_succ]); (try simp only [World.size_alloc])) | ((with_reducible refine Who.wpList_loadC 58 (.tmp 1) rfl (w.heap.size) 0 (Fc.eventC evA) ?_); refine And.intro ⟨by rfl, by rfl, ⟨_, Tryz.underlying58, rfl⟩, Sr.info_event⟩ (And.intro (Who.has_range HA1.out) ?_); (try simp only [Act.put, List.setIfInBounds_toArray, List.set_cons_zero, List.set_cons_succ])) | ((with_reducible refine Who.wpList_loadC 58 (.tmp 2) rfl ((w.heap.size + 1)) 0 (Fc.eventC evB) ?_); refine And.intro ⟨by rfl, by rfl, ⟨_, Tryz.underlying58, rfl⟩, Sr.info_event⟩ (And.intro (Who.has_range HA2.out) ?_); (try simp only [Act.put, List.setIfInBounds_toArray, List.set_cons_zero, List.set_cons_succ])) | ((with_reducible refine wpList_build_two (.tmp 11) (.tmp 12) rfl ?_); refine And.intro ⟨by rfl, by rfl, by rfl⟩ ?_; (try simp only [Act.put, List.setIfInBounds_toArray, List.set_cons_zero, List.set_cons_succ]); (try simp only [World.size_alloc])) | fail)
  refine HL.out.mono ?_
  rintro q w4 ⟨rfl, hb⟩
  rw [last_ex]
  have hb4 := HB3.out.trans (hb.mono HB3.out.size)
  have HB5 := Lib.hid (hb4.alloc hb4.size (.cells (Fc.eventC evB) 58))
  have HA5 := Lib.hid ((HA.out.below hb).past (.cells (Fc.eventC evB) 58))
  have HC5 := Lib.hid ((HB.out.below hb).past (.cells (Fc.eventC evB) 58))
  have HD5 := Lib.hid (Has.fresh w4 58 (Fc.eventC evB))
  have HFN := Lib.hid (fun V => fold_nil V)
  have HEM := Lib.hid (fun V => Fc.empty_any V)
  have HSM := Lib.hid (fun g1 g2 V h1 h2 => fsame_any g1 g2 V h1 h2)
  have HP1 := Lib.hid (fun V => before_any evA evB V)
  have HP2 := Lib.hid (fun V => before_any evB evA V)
  have q1 := fun W => Smr.eref_st 2 1 W
  clear hb hb4 HB3 HA1 HA2 HA HB HR HL
  simp only [Option.getD_some, Option.isSome_some]
  go_wp2_with (first | ((with_reducible refine Who.wpList_newC 58 3 (.tmp 15) rfl rfl rfl (Fc.eventC Sr.zeroE) (Fc.eventC evB) ?_); refine And.intro ⟨rfl, rfl, rfl, halv, by rfl, by rfl, Sr.info_event, rfl, Sr.event_one _⟩ ?_; (try simp only [Act.put, List.setIfInBounds_toArray, List.set_cons_zero, List.set_cons_succ]); (try simp only [World.size_alloc])) | ((with_reducible refine Who.wpList_alloc 58 3 rfl rfl rfl (Fc.eventC Sr.zeroE) halv ?_); (try simp only [Act.put, List.setIfInBounds_toArray, List.set_cons_zero, List.set_cons_succ]); (try simp only [World.size_alloc])) | fail)
  refine (HFN.out _).mono ?_
  rintro q w6 ⟨g1, rfl, hs, hg, hb⟩
  have HB6 := Lib.hid (HB5.out.trans (hb.mono HB5.out.size))
  have HA6 := Lib.hid (HA5.out.below hb)
  have HC6 := Lib.hid (HC5.out.below hb)
  have HD6 := Lib.hid (HD5.out.below hb)
  have HS6 := Lib.hid hs
  clear hb hs hg HB5 HA5 HC5 HD5
  go_wp2_with fail
  refine (HEM.out _).mono ?_
  rintro q w7 ⟨g2, rfl, hs, hg, hb⟩
  have HB7 := Lib.hid (HB6.out.trans (hb.mono HB6.out.size))
  have HA7 := Lib.hid (HA6.out.below hb)
  have HC7 := Lib.hid (HC6.out.below hb)
  have HD7 := Lib.hid (HD6.out.below hb)
  have HS7 := Lib.hid (HS6.out.below hb)
  have HT7 := Lib.hid hs
  clear hb hs hg HB6 HA6 HC6 HD6 HS6
  go_wp2_with fail
  refine (HSM.out _ _ _ HS7.out HT7.out).mono ?_
  rintro q w8 ⟨rfl, hb⟩
  have HB8 := Lib.hid (HB7.out.trans (hb.mono HB7.out.size))
  have HA8 := Lib.hid (HA7.out.below hb)
  have HC8 := Lib.hid (HC7.out.below hb)
  have HD8 := Lib.hid (HD7.out.below hb)
  clear hb HB7 HA7 HC7 HD7 HS7 HT7
  go_wp2_with (first | ((with_reducible refine Who.wpList_loadC 58 (.tmp 1) rfl (w.heap.size) 0 (Fc.eventC evA) ?_); refine And.intro ⟨by rfl, by rfl, ⟨_, Tryz.underlying58, rfl⟩, Sr.info_event⟩ (And.intro (Who.has_range HA8.out) ?_); (try simp only [Act.put, List.setIfInBounds_toArray, List.set_cons_zero, List.set_cons_succ])) | ((with_reducible refine Who.wpList_loadC 58 (.tmp 2) rfl ((w.heap.size + 1)) 0 (Fc.eventC evB) ?_); refine And.intro ⟨by rfl, by rfl, ⟨_, Tryz.underlying58, rfl⟩, Sr.info_event⟩ (And.intro (Who.has_range HC8.out) ?_); (try simp only [Act.put, List.setIfInBounds_toArray, List.set_cons_zero, List.set_cons_succ])) | fail)
  refine (HP1.out _).mono ?_
  rintro q w9 ⟨rfl, hb⟩
  rw [bef_ab]
  have HB9 := Lib.hid (HB8.out.trans (hb.mono HB8.out.size))
  have HA9 := Lib.hid (HA8.out.below hb)
  have HC9 := Lib.hid (HC8.out.below hb)
  have HD9 := Lib.hid (HD8.out.below hb)
  clear hb HB8 HA8 HC8 HD8
  go_wp2_with (first | ((with_reducible refine Who.wpList_loadC 58 (.tmp 1) rfl (w.heap.size) 0 (Fc.eventC evA) ?_); refine And.intro ⟨by rfl, by rfl, ⟨_, Tryz.underlying58, rfl⟩, Sr.info_event⟩ (And.intro (Who.has_range HA9.out) ?_); (try simp only [Act.put, List.setIfInBounds_toArray, List.set_cons_zero, List.set_cons_succ])) | ((with_reducible refine Who.wpList_loadC 58 (.tmp 2) rfl ((w.heap.size + 1)) 0 (Fc.eventC evB) ?_); refine And.intro ⟨by rfl, by rfl, ⟨_, Tryz.underlying58, rfl⟩, Sr.info_event⟩ (And.intro (Who.has_range HC9.out) ?_); (try simp only [Act.put, List.setIfInBounds_toArray, List.set_cons_zero, List.set_cons_succ])) | fail)
  refine (HP2.out _).mono ?_
  rintro q w10 ⟨rfl, hb⟩
  rw [bef_ba]
  have HB10 := Lib.hid (HB9.out.trans (hb.mono HB9.out.size))
  have HC10 := Lib.hid (HC9.out.below hb)
  have HD10 := Lib.hid (HD9.out.below hb)
  clear hb HB9 HA9 HC9 HD9
  go_wp2_with (first | ((with_reducible refine Who.wpList_loadC 37 (.tmp 35) rfl (w4.heap.size) 0 (#[.int .i64 2, .int .i64 1]) ?_); refine And.intro ⟨by rfl, by rfl, ⟨_, Tryz.underlying37, rfl⟩, Sr.info_st⟩ (And.intro (Smr.rangeOf HD10.out 0 _ (Smr.rat2 (ev := evB))) ?_); (try simp only [Act.put, List.setIfInBounds_toArray, List.set_cons_zero, List.set_cons_succ])) | ((with_reducible refine Who.wpList_loadC 37 (.tmp 37) rfl ((w.heap.size + 1)) 0 (#[.int .i64 2, .int .i64 1]) ?_); refine And.intro ⟨by rfl, by rfl, ⟨_, Tryz.underlying37, rfl⟩, Sr.info_st⟩ (And.intro (Smr.rangeOf HC10.out 0 _ (Smr.rat2 (ev := evB))) ?_); (try simp only [Act.put, List.setIfInBounds_toArray, List.set_cons_zero, List.set_cons_succ])) | fail)
  go_ret
  exact ⟨rfl, HB10.out⟩
end Go.Proofs.YtblogecapegbmaaGreat.Md

