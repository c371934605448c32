/- The document's messages on their way: what they are in memory; Peek. -/
import Derived.Test.YtjbbifmjhagfiaaNtP
import Derived.Test.YtjbbifmjhagfiaaNtG
namespace Go.Proofs.Ytjbbifmjhagfiaa.Nt
open Go.RowKit Go.Proofs.Ytjbbifmjhagfiaa.Mem Go.Proofs.Ytjbbifmjhagfiaa.Vc
set_option linter.unusedVariables false

def rnetC (v : Value) (s l : Int) : Array Value := #[v, .int .i64 s, .int .i64 l]
structure RNetIs (w : World) (B g : Nat) (v : Value) (V : NetV) : Prop where
  head : Has w g 30 (rnetC v V.sent V.lost)
  lo : B ≤ g
  row : MOwn w B v V.way
  few : V.way.length ≤ 160
theorem RNetIs.below {w w' : World} {B g : Nat} {v : Value} {V : NetV} (h : RNetIs w B g v V) (hb : Below w.heap.size w w') : RNetIs w' B g v V := ⟨h.head.below hb, h.lo, h.row.below hb, h.few⟩
theorem RNetIs.drew {w : World} {B g : Nat} {v : Value} {V : NetV} (h : RNetIs w B g v V) : RNetIs w.drew B g v V := ⟨h.head, h.lo, h.row, h.few⟩
theorem RNetIs.chg {S : Nat → Prop} {w w' : World} {B g : Nat} {v : Value} {V : NetV} (h : RNetIs w B g v V) (hc : Chg S w w') (hg : ¬ S g) (hS : ∀ k, v.ownBlock = some k → ¬ S k) : RNetIs w' B g v V := ⟨h.head.over hc hg, h.lo, h.row.chg hc hS, h.few⟩
theorem RNetIs.lt {w : World} {B g : Nat} {v : Value} {V : NetV} (h : RNetIs w B g v V) : ∀ k, v.ownBlock = some k → B ≤ k ∧ k < w.heap.size := fun k hk => World.ownsRow.lt h.row k hk
set_option maxRecDepth 100000 in
set_option maxHeartbeats 2000000 in
theorem rpeek_any (B g : Nat) (v : Value) (V : NetV) (k : Int) (w : World) (h : RNetIs w B g v V) : Calls Try.prog 48 #[.pointer (some ⟨g, 0, none⟩), .int .i64 k] w (PeekIs V k w) := by
  obtain ⟨A, c, hv, hsl⟩ := h.row.sl
  have hgb := h.head.bound
  have HH := Lib.hid h.head
  have hal := alloc_msg
  have HN := Lib.hid (Has.fresh w 36 (msgC msg0))
  have HB := Lib.hid ((Below.refl w.heap.size w).alloc (Nat.le_refl _) (.cells (msgC msg0) 36))
  have c1 : w.cell? ⟨g, 0, none⟩ = some v := HH.out.at_ 0
  rw [hv] at c1
  have HS := Lib.hid hsl
  clear h hv hsl
  by_cases q0 : k < 0
  · skip
    have HP := Lib.hid (peek_low (V := V) q0)
    go_enter Try.func48, Try.ntmps48
    go_wp2_with (first | ((with_reducible refine Who.wpList_alloc 36 4 rfl rfl rfl (msgC msg0) hal ?_); (try simp only [Act.put, List.setIfInBounds_toArray, List.set_cons_zero, List.set_cons_succ])) | ((with_reducible refine Who.wpList_storeC 36 (.tmp 4) (.tmp 17) rfl w.heap.size 0 (msgC msg0) ?_); refine And.intro ⟨rfl, by rfl, by rfl, info_size _, msgC_one _⟩ (And.intro (Who.has_there HN.out rfl) ?_); (try simp only [Act.put, List.setIfInBounds_toArray, List.set_cons_zero, List.set_cons_succ])))
    refine bodyPost_ret (v := .tuple #[.agg (msgC msg0), .int .i64 2]) (Who.results_cell_tmp Try.results48 _ _ w.heap.size 0 (msgC msg0) _ (by rfl) (Who.has_range (Who.has_over HN.out rfl)) Try.underlying36 rfl (info_size _)) rfl ⟨by rw [HP.out], Who.below_setCells HB.out (Nat.le_refl _) 0 _⟩
  · by_cases q1 : (V.way.length : Int) ≤ k
    · skip
      have HP := Lib.hid (peek_high (V := V) q1)
      go_enter Try.func48, Try.ntmps48
      go_wp2_with (first | ((with_reducible refine Who.wpList_alloc 36 4 rfl rfl rfl (msgC msg0) hal ?_); (try simp only [Act.put, List.setIfInBounds_toArray, List.set_cons_zero, List.set_cons_succ])) | ((with_reducible refine Who.wpList_storeC 36 (.tmp 4) (.tmp 17) rfl w.heap.size 0 (msgC msg0) ?_); refine And.intro ⟨rfl, by rfl, by rfl, info_size _, msgC_one _⟩ (And.intro (Who.has_there HN.out rfl) ?_); (try simp only [Act.put, List.setIfInBounds_toArray, List.set_cons_zero, List.set_cons_succ])))
      refine bodyPost_ret (v := .tuple #[.agg (msgC msg0), .int .i64 2]) (Who.results_cell_tmp Try.results48 _ _ w.heap.size 0 (msgC msg0) _ (by rfl) (Who.has_range (Who.has_over HN.out rfl)) Try.underlying36 rfl (info_size _)) rfl ⟨by rw [HP.out], Who.below_setCells HB.out (Nat.le_refl _) 0 _⟩
    · obtain ⟨j, rfl⟩ : ∃ j : Nat, k = j := ⟨k.toNat, by omega⟩
      have hj : j < V.way.length := by omega
      obtain ⟨b, rfl, hb, _, _, hr⟩ := HS.out j V.way[j] (List.getElem?_eq_getElem hj)
      have HP := Lib.hid (peek_in (V := V) (k := (j : Int)) rfl (List.getElem?_eq_getElem hj))
      generalize V.way[j] = m at *
      have HR := Lib.hid (show (w.alloc (.cells (msgC msg0) 36)).rangeAt b (j * 19) (msgC m).toList from World.rangeAt_alloc hr _)
      have hj1 : (j : Int) < V.way.length := by omega
      clear q0 q1 hr HS
      go_enter Try.func48, Try.ntmps48
      go_wp2_with (first | ((with_reducible refine Who.wpList_alloc 36 4 rfl rfl rfl (msgC msg0) hal ?_); (try simp only [Act.put, List.setIfInBounds_toArray, List.set_cons_zero, List.set_cons_succ])) | ((with_reducible refine Who.wpList_loadC 36 (.tmp 23) rfl b (j * 19) (msgC m) ?_); refine And.intro ⟨by rfl, by rfl, ⟨_, Try.underlying36, rfl⟩, info_size _⟩ (And.intro HR.out ?_); (try simp only [Act.put, List.setIfInBounds_toArray, List.set_cons_zero, List.set_cons_succ])) | ((with_reducible refine Who.wpList_storeC 36 (.tmp 4) (.tmp 24) rfl w.heap.size 0 (msgC m) ?_); refine And.intro ⟨rfl, by rfl, by rfl, info_size _, msgC_one _⟩ (And.intro (Who.has_there HN.out rfl) ?_); (try simp only [Act.put, List.setIfInBounds_toArray, List.set_cons_zero, List.set_cons_succ])))
      refine bodyPost_ret (v := .tuple #[.agg (msgC m), .int .i64 0]) (Who.results_cell_tmp Try.results48 _ _ w.heap.size 0 (msgC m) _ (by rfl) (Who.has_range (Who.has_over HN.out rfl)) Try.underlying36 rfl (info_size _)) rfl ⟨by rw [HP.out], Who.below_setCells HB.out (Nat.le_refl _) 0 _⟩
end Go.Proofs.Ytjbbifmjhagfiaa.Nt
