/- Join: the document's Node. -/
import Derived.Test.YtblogecapegbmaaGreatJoIb
import Derived.Lib.MinMax
namespace Go.Proofs.YtblogecapegbmaaGreat.Jn
open Go.RowKit Go.Proofs.YtblogecapegbmaaGreat.Mem
set_option linter.unusedVariables false set_option linter.unusedSimpArgs false set_option linter.unusedSectionVars false

section
variable {α κ : Type} [DecidableEq κ] {lt : κ → κ → Bool} {key : α → κ} {op : α → α → α} {nrm : α → α}
theorem mrg_step (hK : KLt lt) (hJ : Joins key op nrm) {l r : List α} {j : Nat} {y : α} (hj : j < r.length) (hy : r[j] = y) : docIns lt key op nrm (mrg lt key op nrm (l ++ r.take j)) y = mrg lt key op nrm (l ++ r.take (j + 1)) := by
 rw [doc_ins hK _ _ (mrg_ris hK hJ _), List.take_succ_eq_append_getElem hj, ← List.append_assoc, hy]
 unfold mrg
 rw [List.foldl_append (l := l ++ r.take j)]
 rfl
theorem insQ_mem {P : α → Prop} (hop : ∀ a b, P a → P b → P (op a b)) (hn : ∀ a, P a → P (nrm a)) : ∀ (l : List α) (x : α), (∀ y ∈ l, P y) → P x → ∀ y ∈ ins lt key op nrm l x, P y
 | [], x, _, hx, y, hy => by
  simp [ins] at hy
  rw [hy]
  exact hn x hx
 | z :: r, x, hl, hx, y, hy => by
  unfold ins at hy
  split at hy
  ·rcases List.mem_cons.1 hy with rfl | hy
   ·exact hop _ _ (hl _ List.mem_cons_self) hx
   ·exact hl y (List.mem_cons_of_mem _ hy)
  ·split at hy
   ·rcases List.mem_cons.1 hy with rfl | hy
    ·exact hn x hx
    ·exact hl y hy
   ·rcases List.mem_cons.1 hy with rfl | hy
    ·exact hl _ List.mem_cons_self
    ·exact insQ_mem hop hn r x (fun q hq => hl q (List.mem_cons_of_mem _ hq)) hx y hy
theorem foldQ_mem {P : α → Prop} (hop : ∀ a b, P a → P b → P (op a b)) (hn : ∀ a, P a → P (nrm a)) : ∀ (l acc : List α), (∀ y ∈ acc, P y) → (∀ y ∈ l, P y) → ∀ y ∈ l.foldl (ins lt key op nrm) acc, P y
 | [], acc, h, _ => h
 | x :: r, acc, h, hl => foldQ_mem hop hn r _ (insQ_mem hop hn acc x h (hl x List.mem_cons_self)) fun y hy => hl y (List.mem_cons_of_mem _ hy)
theorem mrgQ_mem {P : α → Prop} (hop : ∀ a b, P a → P b → P (op a b)) (hn : ∀ a, P a → P (nrm a)) (l : List α) (hl : ∀ y ∈ l, P y) : ∀ y ∈ mrg lt key op nrm l, P y := foldQ_mem hop hn l [] (fun y hy => by cases hy) hl
end
/-- All texts of an inode may be had. -/
structure TxtN (n : Fc.NodeP) : Prop where
 text : n.text.size ≤ maxLen
 ps : ∀ y ∈ n.ps, y.data.size ≤ maxLen
 xs : ∀ y ∈ n.xs, y.name.size ≤ maxLen ∧ y.val.size ≤ maxLen
theorem txt_opP {a b : Fc.PieceP} (ha : a.data.size ≤ maxLen) (hb : b.data.size ≤ maxLen) : (opP a b).data.size ≤ maxLen := by unfold opP; split <;> assumption
theorem txt_opX {a b : Fc.XattrP} (ha : a.name.size ≤ maxLen ∧ a.val.size ≤ maxLen) (hb : b.name.size ≤ maxLen ∧ b.val.size ≤ maxLen) : (opX a b).name.size ≤ maxLen ∧ (opX a b).val.size ≤ maxLen := by unfold opX; split <;> assumption
theorem txt_mrgP {l : List Fc.PieceP} (h : ∀ y ∈ l, y.data.size ≤ maxLen) : ∀ y ∈ mrgP l, y.data.size ≤ maxLen := mrgQ_mem (P := fun y : Fc.PieceP => y.data.size ≤ maxLen) (fun a b ha hb => txt_opP ha hb) (fun a h => h) l h
theorem txt_mrgX {l : List Fc.XattrP} (h : ∀ y ∈ l, y.name.size ≤ maxLen ∧ y.val.size ≤ maxLen) : ∀ y ∈ mrgX l, y.name.size ≤ maxLen ∧ y.val.size ≤ maxLen := mrgQ_mem (P := fun y : Fc.XattrP => y.name.size ≤ maxLen ∧ y.val.size ≤ maxLen) (fun a b ha hb => txt_opX ha hb) (fun a h => h) l h
theorem TxtN.op {a b : Fc.NodeP} (ha : TxtN a) (hb : TxtN b) : TxtN (opN a b) := ⟨by
  show (top strLt a.text b.text).size ≤ maxLen
  unfold top
  split
  ·exact hb.text
  ·exact ha.text, txt_mrgP fun y hy => (List.mem_append.1 hy).elim (ha.ps y) (hb.ps y), txt_mrgX fun y hy => (List.mem_append.1 hy).elim (ha.xs y) (hb.xs y)⟩
theorem TxtN.nrm {a : Fc.NodeP} (ha : TxtN a) : TxtN (nrmN a) := ⟨ha.text, txt_mrgP ha.ps, txt_mrgX ha.xs⟩
theorem node_attr {w : World} {g : Nat} {t : TypeId} {x : Fc.NodeC} (h : Has w g t (Fc.nodeC x)) : w.rangeAt g 4 (attrC (atN x.p)).toList := range_of h fun j hj => by
 match j, (show j < 4 from hj) with
 | 0, _ | 1, _ | 2, _ | 3, _ => rfl
theorem node_size {w : World} {g : Nat} {t : TypeId} {x : Fc.NodeC} (h : Has w g t (Fc.nodeC x)) : w.rangeAt g 8 (sizeC (szN x.p)).toList := range_of h fun j hj => by
 match j, (show j < 3 from hj) with
 | 0, _ | 1, _ | 2, _ => rfl
theorem max_top (a b : Int) : max a b = top intLt a b := by
 unfold top intLt
 rw [Int.max_def]
 split <;> (simp only [decide_eq_true_eq]; split <;> omega)
/-- An inode as it is being made. -/
def nd (i : St) (k : Int) (t : ByteArray) (at_ : St × (Int × Nat)) (z : St × Int) (r : RowP Fc.PieceP) (q : RowP Fc.XattrP) : Fc.NodeC := ⟨⟨i, k, t, at_.1, at_.2.1, at_.2.2, z.1, z.2, r.l, q.l⟩, r.A, r.n, r.c, q.A, q.n, q.c⟩
abbrev r0 {α : Type} : RowP α := ⟨none, 0, 0, []⟩
abbrev at0 : St × (Int × Nat) := ((0, 0), 0, 0)
abbrev sz0 : St × Int := ((0, 0), 0)
theorem build_nd (i : St) (k : Int) (t : ByteArray) (w : World) : (Instr.build 46 #[(0, .agg #[.int .i64 i.1, .int .i64 i.2]), (1, .int .i64 k), (2, .string t)]).run Tryz.prog w = .ok (.agg (Fc.nodeC (nd i k t at0 sz0 r0 r0))) w := run_build w _ _ _ (by kernel_rfl)
/-- What the walk keeps. -/
structure NoI (w wr : World) (a b c : Fc.NodeC) : Prop where
 below : Below w.heap.size w wr
 ha : Has wr (w.heap.size) 46 (Fc.nodeC a)
 hb : Has wr (w.heap.size + 1) 46 (Fc.nodeC b)
 hz : Has wr (w.heap.size + 1 + 1) 46 zeroN
 hc : Has wr (w.heap.size + 1 + 1 + 1) 46 (Fc.nodeC c)
 own : NodeOwn w.heap.size wr c
theorem NoI.low {w wr w2 : World} {a b c : Fc.NodeC} (h : NoI w wr a b c) (hb : Below wr.heap.size wr w2) : NoI w w2 a b c := ⟨h.below.trans (hb.mono h.below.size), h.ha.below hb, h.hb.below hb, h.hz.below hb, h.hc.below hb, h.own.below hb⟩
theorem NodeOwn.over {B : Nat} {w w2 : World} {z : Fc.NodeC} {g : Nat} {cs : Array Value} (h : NodeOwn B w z) (hx : Has w g 46 cs) (hc : Chg (· = g) w w2) : NodeOwn B w2 z := ⟨own_has h.ps hx hc (by decide), own_has h.xs hx hc (by decide)⟩
theorem NoI.put {w wr w2 : World} {a b c d : Fc.NodeC} (h : NoI w wr a b c) (hx : Has w2 (w.heap.size + 1 + 1 + 1) 46 (Fc.nodeC d)) (hc : Chg (· = (w.heap.size + 1 + 1 + 1)) wr w2) (ho : NodeOwn w.heap.size wr d) : NoI w w2 a b d := ⟨below_step h.below hc (by omega), h.ha.over hc (by omega), h.hb.over hc (by omega), h.hz.over hc (by omega), hx, ho.over h.hc hc⟩
theorem OwnK.srow2 {α : Type} {w : World} {B : Nat} {E : TypeId} {k n c : Nat} {A : Option Addr} {C : α → Array Value} {xs : List α} (h : OwnK w B E k C (.slice A n c) xs) (hk : ∀ x, (C x).size = k) (hn : n = xs.length) : Fc.SRow w k C A n xs := by
 rw [hn]
 exact OwnK.srow hk h
theorem own_len {α : Type} {w : World} {B : Nat} {E : TypeId} {k n c : Nat} {A : Option Addr} {C : α → Array Value} {xs : List α} (h : OwnK w B E k C (.slice A n c) xs) : n = xs.length := by
 rcases h.sl with ⟨e, rfl⟩ | ⟨g, cap, e, _⟩
 ·cases e; rfl
 ·cases e; rfl
theorem own_nil {α : Type} {w : World} {B : Nat} {E : TypeId} {k n c : Nat} {A : Option Addr} {C : α → Array Value} {xs : List α} (h : OwnK w B E k C (.slice A n c) xs) : A = none → n = 0 ∧ c = 0 := fun e => by
 subst e
 rcases h.sl with ⟨e, rfl⟩ | ⟨g, cap, e, _⟩
 ·cases e; exact ⟨rfl, rfl⟩
 ·cases e
theorem NoI.start (w : World) (a b c0 : Fc.NodeC) (h : ∀ V, NodeOwn w.heap.size V c0) : NoI w ((((w.alloc (.cells (Fc.nodeC a) 46)).alloc (.cells (Fc.nodeC b) 46)).alloc (.cells zeroN 46)).alloc (.cells (Fc.nodeC c0) 46)) a b c0 := by
 have h3 := Has.fresh (w.alloc (.cells (Fc.nodeC a) 46)) 46 (Fc.nodeC b)
 have h4 := Has.fresh ((w.alloc (.cells (Fc.nodeC a) 46)).alloc (.cells (Fc.nodeC b) 46)) 46 zeroN
 have h5 := Has.fresh (((w.alloc (.cells (Fc.nodeC a) 46)).alloc (.cells (Fc.nodeC b) 46)).alloc (.cells zeroN 46)) 46 (Fc.nodeC c0)
 rw [World.size_alloc] at h3
 rw [World.size_alloc, World.size_alloc] at h4
 rw [World.size_alloc, World.size_alloc, World.size_alloc] at h5
 exact ⟨((((Below.refl w.heap.size w).alloc (Nat.le_refl _) _).alloc (by simp) _).alloc (by simp; omega) _).alloc (by simp; omega) _, (((Has.fresh w 46 (Fc.nodeC a)).past _).past _).past _, (h3.past _).past _, h4.past _, h5, h _⟩
theorem own_r0 {w : World} {B : Nat} {i : St} {k : Int} {t : ByteArray} {u : St × (Int × Nat)} {z : St × Int} : NodeOwn B w (nd i k t u z r0 r0) := ⟨OwnK.nil _ _ _ _ _, OwnK.nil _ _ _ _ _⟩
set_option maxRecDepth 100000 in
set_option maxHeartbeats 16000000 in
theorem rtwo_any (a b : Fc.NodeC) (w : World) (ha : NodeIn w a) (hb : NodeIn w b) (ta : TxtN a.p) (tb : TxtN b.p) (hp : a.n1 + b.n1 ≤ 1000000) (hq : a.n2 + b.n2 ≤ 1000000) :
  Calls Tryz.prog 94 #[.agg (Fc.nodeC a), .agg (Fc.nodeC b)] w fun e w' => ∃ c, e = .returned (.agg (Fc.nodeC c)) ∧ c.p = opN a.p b.p ∧ NodeOwn w.heap.size w' c ∧ Below w.heap.size w w' := by
 have HTA := Lib.hid ta
 have HTB := Lib.hid tb
 have HIA := Lib.hid ha
 have HIB := Lib.hid hb
 have HLA := Lib.hid (show a.n1 = a.p.ps.length ∧ a.n2 = a.p.xs.length from ⟨ha.ps.row.len.symm, ha.xs.row.len.symm⟩)
 have HLB := Lib.hid (show b.n1 = b.p.ps.length ∧ b.n2 = b.p.xs.length from ⟨hb.ps.row.len.symm, hb.xs.row.len.symm⟩)
 have HM := Lib.hid (And.intro hp hq)
 have hma : a.n1 ≤ 1000000 := by omega
 have hmb : b.n1 ≤ 1000000 := by omega
 have hna : a.n2 ≤ 1000000 := by omega
 have hnb : b.n2 ≤ 1000000 := by omega
 have HS := Lib.hid (fun V => rsless_any a.p.text b.p.text ta.text tb.text V)
 have H0 := Lib.hid (show NoI w ((((w.alloc (.cells (Fc.nodeC a) 46)).alloc (.cells (Fc.nodeC b) 46)).alloc (.cells zeroN 46)).alloc (.cells (#[.int .i64 a.p.id.1, .int .i64 a.p.id.2, .int .i64 (max a.p.kind b.p.kind), .string a.p.text, .int .i64 0, .int .i64 0, .int .i64 0, .int .u64 0, .int .i64 0, .int .i64 0, .int .i64 0, .slice none 0 0, .slice none 0 0]) 46)) a b (nd a.p.id (max a.p.kind b.p.kind) a.p.text at0 sz0 r0 r0) from NoI.start w a b (nd a.p.id (max a.p.kind b.p.kind) a.p.text at0 sz0 r0 r0) (fun V => own_r0))
 have h3 := Has.fresh (w.alloc (.cells (Fc.nodeC a) 46)) 46 (Fc.nodeC b)
 rw [World.size_alloc] at h3
 have HA1 := Lib.hid (((Has.fresh w 46 (Fc.nodeC a)).past (.cells (Fc.nodeC b) 46)).past (.cells zeroN 46))
 have c1 : (((w.alloc (.cells (Fc.nodeC a) 46)).alloc (.cells (Fc.nodeC b) 46)).alloc (.cells zeroN 46)).cell? ⟨w.heap.size, 2, none⟩ = some (.int .i64 a.p.kind) := HA1.out.at_ 2
 have c2 : (((w.alloc (.cells (Fc.nodeC a) 46)).alloc (.cells (Fc.nodeC b) 46)).alloc (.cells zeroN 46)).cell? ⟨w.heap.size, 3, none⟩ = some (.string a.p.text) := HA1.out.at_ 3
 have c3 : (((w.alloc (.cells (Fc.nodeC a) 46)).alloc (.cells (Fc.nodeC b) 46)).alloc (.cells zeroN 46)).cell? ⟨w.heap.size + 1, 2, none⟩ = some (.int .i64 b.p.kind) := (h3.past _).at_ 2
 have c4 : ((((w.alloc (.cells (Fc.nodeC a) 46)).alloc (.cells (Fc.nodeC b) 46)).alloc (.cells zeroN 46)).alloc (.cells (#[.int .i64 a.p.id.1, .int .i64 a.p.id.2, .int .i64 (max a.p.kind b.p.kind), .string a.p.text, .int .i64 0, .int .i64 0, .int .i64 0, .int .u64 0, .int .i64 0, .int .i64 0, .int .i64 0, .slice none 0 0, .slice none 0 0]) 46)).cell? ⟨w.heap.size, 3, none⟩ = some (.string a.p.text) := H0.out.ha.at_ 3
 have c5 : ((((w.alloc (.cells (Fc.nodeC a) 46)).alloc (.cells (Fc.nodeC b) 46)).alloc (.cells zeroN 46)).alloc (.cells (#[.int .i64 a.p.id.1, .int .i64 a.p.id.2, .int .i64 (max a.p.kind b.p.kind), .string a.p.text, .int .i64 0, .int .i64 0, .int .i64 0, .int .u64 0, .int .i64 0, .int .i64 0, .int .i64 0, .slice none 0 0, .slice none 0 0]) 46)).cell? ⟨w.heap.size + 1, 3, none⟩ = some (.string b.p.text) := H0.out.hb.at_ 3
 clear ha hb ta tb hp hq h3
 go_enter Tryz.func94, Tryz.ntmps94
 go_wp2_with (first | ((with_reducible refine Who.wpList_alloc 46 4 rfl rfl rfl (zeroN) allocN ?_); (try simp only [World.size_alloc])) | ((with_reducible refine Who.wpList_loadC 37 (.tmp 14) rfl (w.heap.size) 0 (#[.int .i64 a.p.id.1, .int .i64 a.p.id.2]) ?_); refine And.intro ⟨by rfl, by rfl, ⟨_, Tryz.underlying37, rfl⟩, info_st⟩ (And.intro (nodeIds_rng HA1.out) ?_)) | ((with_reducible refine Who.wpList_newC 46 5 (.tmp 23) rfl rfl rfl (zeroN) (#[.int .i64 a.p.id.1, .int .i64 a.p.id.2, .int .i64 (max a.p.kind b.p.kind), .string a.p.text, .int .i64 0, .int .i64 0, .int .i64 0, .int .u64 0, .int .i64 0, .int .i64 0, .int .i64 0, .slice none 0 0, .slice none 0 0]) ?_); refine And.intro ⟨rfl, rfl, rfl, allocN, by rfl, by rfl, infoN, rfl, (by rfl)⟩ ?_; (try simp only [World.size_alloc])) | fail)
 refine (HS.out _).mono ?_
 rintro e w1 ⟨rfl, hb⟩
 have H1 := Lib.hid (H0.out.low hb)
 clear hb H0 HA1 c1 c2 c3 c4 c5
 cases hL : Op.bytesLess a.p.text.toList b.p.text.toList with
 | true =>
  have HOT := Lib.hid (show b.p.text = top strLt a.p.text b.p.text from by unfold top strLt; rw [hL]; simp)
  clear hL
  have H1' := Lib.hid (show NoI w w1 a b (nd a.p.id (max a.p.kind b.p.kind) a.p.text at0 sz0 r0 r0) from H1.out)
  clear H1
  have cb : w1.cell? ⟨w.heap.size + 1, 3, none⟩ = some (.string b.p.text) := H1'.out.hb.at_ 3
  go_wp2_with (first | ((with_reducible refine wpList_cell (T := 46) 9 (.tmp 31) (.tmp 30) rfl (w.heap.size + 1 + 1 + 1) 3 (Fc.nodeC (nd a.p.id (max a.p.kind b.p.kind) a.p.text at0 sz0 r0 r0)) (Fc.nodeC (nd a.p.id (max a.p.kind b.p.kind) b.p.text at0 sz0 r0 r0)) ((.string b.p.text)) ?_); refine And.intro ⟨rfl, rfl, by rfl, by rfl, info_str, rfl, of_decide_eq_true rfl, by kernel_rfl, H1'.out.hc⟩ ?_; intro W21 HX21 HC21; have HT1 := Lib.hid (H1'.out.put HX21.out HC21.out own_r0)) | ((with_reducible refine Who.wpList_loadC 40 (.tmp 32) rfl (w.heap.size) 4 (attrC (atN a.p)) ?_); refine And.intro ⟨by rfl, by rfl, ⟨_, Tryz.underlying40, rfl⟩, infoA⟩ (And.intro (node_attr HT1.out.ha) ?_)) | ((with_reducible refine Who.wpList_loadC 40 (.tmp 34) rfl (w.heap.size + 1) 4 (attrC (atN b.p)) ?_); refine And.intro ⟨by rfl, by rfl, ⟨_, Tryz.underlying40, rfl⟩, infoA⟩ (And.intro (node_attr HT1.out.hb) ?_)) | fail)
  clear cb H1' HX21 HC21
  obtain ⟨t, ht⟩ : ∃ t, t = b.p.text := ⟨_, rfl⟩
  replace HOT := Lib.hid (ht.trans HOT.out)
  rw [← ht] at HT1
  clear ht
  refine (rattr_one (atN a.p) (atN b.p) _).mono ?_
  rintro e w2 ⟨rfl, hb⟩
  have H2 := Lib.hid (HT1.out.low hb)
  clear hb HT1
  obtain ⟨u, hu⟩ : ∃ u, u = top ltA (atN a.p) (atN b.p) := ⟨_, rfl⟩
  have HU := Lib.hid hu
  rw [show (if ltA (atN a.p) (atN b.p) = true then atN b.p else atN a.p) = u from hu.symm]
  clear hu
  go_wp2_with (first | ((with_reducible refine wpList_storeH (T := 46) 40 (.tmp 37) (.tmp 36) rfl (w.heap.size + 1 + 1 + 1) 4 (Fc.nodeC (nd a.p.id (max a.p.kind b.p.kind) t at0 sz0 r0 r0)) (attrC u) (Fc.nodeC (nd a.p.id (max a.p.kind b.p.kind) t u sz0 r0 r0)) ?_); refine And.intro ⟨rfl, by rfl, by rfl, infoA, oneA _, of_decide_eq_true rfl, by kernel_rfl, H2.out.hc⟩ ?_; intro W22 HX22 HC22; have H3 := Lib.hid (H2.out.put HX22.out HC22.out own_r0)) | ((with_reducible refine Who.wpList_loadC 42 (.tmp 38) rfl (w.heap.size) 8 (sizeC (szN a.p)) ?_); refine And.intro ⟨by rfl, by rfl, ⟨_, Tryz.underlying42, rfl⟩, infoZ⟩ (And.intro (node_size H3.out.ha) ?_)) | ((with_reducible refine Who.wpList_loadC 42 (.tmp 40) rfl (w.heap.size + 1) 8 (sizeC (szN b.p)) ?_); refine And.intro ⟨by rfl, by rfl, ⟨_, Tryz.underlying42, rfl⟩, infoZ⟩ (And.intro (node_size H3.out.hb) ?_)) | fail)
  refine (rsize_one (szN a.p) (szN b.p) _).mono ?_
  rintro e w3 ⟨rfl, hb⟩
  have H4 := Lib.hid (H3.out.low hb)
  clear hb H2 H3 HX22 HC22
  obtain ⟨z, hz⟩ : ∃ z, z = top ltZ (szN a.p) (szN b.p) := ⟨_, rfl⟩
  have HZ := Lib.hid hz
  rw [show (if ltZ (szN a.p) (szN b.p) = true then szN b.p else szN a.p) = z from hz.symm]
  clear hz
  go_wp2_with (first | ((with_reducible refine wpList_storeH (T := 46) 42 (.tmp 43) (.tmp 42) rfl (w.heap.size + 1 + 1 + 1) 8 (Fc.nodeC (nd a.p.id (max a.p.kind b.p.kind) t u sz0 r0 r0)) (sizeC z) (Fc.nodeC (nd a.p.id (max a.p.kind b.p.kind) t u z r0 r0)) ?_); refine And.intro ⟨rfl, by rfl, by rfl, infoZ, oneZ _, of_decide_eq_true rfl, by kernel_rfl, H4.out.hc⟩ ?_; intro W23 HX23 HC23; have H5 := Lib.hid (H4.out.put HX23.out HC23.out own_r0); have d1 : W23.cell? ⟨w.heap.size, 11, none⟩ = some (.slice a.A1 a.n1 a.c1) := H5.out.ha.at_ 11) | fail)
  clear d1
  clear H4 HX23 HC23 HS
  go_loopw [47] (fun i wr => ∃ j : Nat, i = .int .i64 j ∧ j ≤ a.n1 ∧ ∃ r : RowP Fc.PieceP, Hid (r.l = mrgP ([] ++ a.p.ps.take j)) ∧ Hid (NoI w wr a b (nd a.p.id (max a.p.kind b.p.kind) t u z r r0))) (fun i _ => a.n1 - (intOf i).toNat)
  case atStart => exact ⟨0, rfl, Nat.zero_le _, r0, Lib.hid rfl, H5⟩
  case round =>
   clear H5
   obtain ⟨j, rfl, hj, r, HR, HN⟩ := hrel
   by_cases hlt : j < a.n1
   ·obtain ⟨bk, off, hA, hbl, hxj, mr⟩ := (HIA.out.ps.row.below HN.out.below).range (i := j) hlt
    replace hxj : j < a.p.ps.length := hxj
    obtain ⟨y, hy⟩ : ∃ y, a.p.ps[j] = y := ⟨_, rfl⟩
    have HST := Lib.hid (show docIns intLt Fc.PieceP.i opP id r.l y = mrgP ([] ++ a.p.ps.take (j + 1)) from by rw [HR.out]; exact mrg_step klt_int joins_P hxj hy)
    have HTY := Lib.hid (show y.data.size ≤ maxLen from HTA.out.ps y (hy ▸ List.getElem_mem hxj))
    have HTR := Lib.hid (show ∀ y ∈ r.l, y.data.size ≤ maxLen from by rw [HR.out]; exact txt_mrgP fun y hy => (List.mem_append.1 hy).elim (fun h => by cases h) (fun h => HTA.out.ps y (List.mem_of_mem_take h)))
    replace mr : wr.rangeAt bk (off + j * 4) (Fc.pieceC y).toList := by rw [← hy]; exact mr
    have MR := Lib.hid mr
    have HN1 := Lib.hid (HN.out.low ((Below.refl wr.heap.size wr).alloc (Nat.le_refl _) (.cells (Fc.pieceC y) 74)))
    have HY1 := Lib.hid (Has.fresh wr 74 (Fc.pieceC y))
    have HRL := Lib.hid (show r.n = r.l.length from by have := HN.out.own.ps.1; exact (own_len HN.out.own.ps))
    have HRM := Lib.hid (show r.n ≤ 1000000 from by rw [HRL.out, HR.out]; refine Nat.le_trans (mrg_len _) ?_; simp only [List.length_append, List.length_take, List.length_nil]; have := HM.out; have := HLA.out; have := HLB.out; omega)
    have cc : (wr.alloc (.cells (Fc.pieceC y) 74)).cell? ⟨(w.heap.size + 1 + 1 + 1), 11, none⟩ = some (.slice r.A r.n r.c) := HN1.out.hc.at_ 11
    replace hA : a.A1 = some ⟨bk, off, none⟩ := hA
    rw [hA]
    clear mr hA hbl hxj hy HN HR
    go_wp2_with (first | ((with_reducible refine Who.wpList_loadC 74 (.tmp 49) rfl (bk) (off + j * 4) (Fc.pieceC y) ?_); refine And.intro ⟨by rfl, by rfl, ⟨_, Tryz.underlying74, rfl⟩, infoP⟩ (And.intro (MR.out) ?_)) | ((with_reducible refine Who.wpList_newC 74 7 (.tmp 50) rfl rfl rfl (zeroP) (Fc.pieceC y) ?_); refine And.intro ⟨rfl, rfl, rfl, allocP, by rfl, by rfl, infoP, rfl, oneP y⟩ ?_; (try simp only [World.size_alloc])) | ((with_reducible refine Who.wpList_loadC 74 (.tmp 7) rfl (wr.heap.size) 0 (Fc.pieceC y) ?_); refine And.intro ⟨by rfl, by rfl, ⟨_, Tryz.underlying74, rfl⟩, infoP⟩ (And.intro (Who.has_range HY1.out) ?_)) | fail)
    refine (rput_ins r.A r.n r.c r.l y _ ⟨HN1.out.own.ps.srow2 (fun _ => rfl) HRL.out, own_nil HN1.out.own.ps⟩ HRM.out HTR.out HTY.out).mono ?_
    rintro e w2 ⟨v, rfl, ho, hb⟩
    have HN2 := Lib.hid (HN1.out.low hb)
    have HO := Lib.hid (show OwnK w2 w.heap.size 74 4 Fc.pieceC v (mrgP ([] ++ a.p.ps.take (j + 1))) from by rw [← HST.out]; exact ho.mono HN1.out.below.size)
    clear ho hb HN1 HY1 HST HTY HTR HRM cc
    obtain ⟨A6, c6, hv, _⟩ := HO.out.any
    subst hv
    obtain ⟨l6, hl6⟩ : ∃ l6, l6 = mrgP ([] ++ a.p.ps.take (j + 1)) := ⟨_, rfl⟩
    rw [← hl6] at HO
    have HL6 := Lib.hid hl6
    rw [← hl6]
    clear hl6
    go_wp2_with (first | ((with_reducible refine wpList_cell (T := 46) 43 (.tmp 55) (.tmp 54) rfl (w.heap.size + 1 + 1 + 1) 11 (Fc.nodeC (nd a.p.id (max a.p.kind b.p.kind) t u z r r0)) (Fc.nodeC (nd a.p.id (max a.p.kind b.p.kind) t u z ⟨A6, l6.length, c6, l6⟩ r0)) ((.slice A6 l6.length c6)) ?_); refine And.intro ⟨rfl, rfl, by rfl, by rfl, info_sp, rfl, of_decide_eq_true rfl, by kernel_rfl, HN2.out.hc⟩ ?_; intro W24 HX24 HC24) | fail)
    have HN3 := Lib.hid (HN2.out.put HX24.out HC24.out ⟨HO.out, HN2.out.own.xs⟩)
    go_wp2
    go_roundw
    case rel => exact ⟨j + 1, by go_num, by omega, ⟨A6, l6.length, c6, l6⟩, HL6, HN3⟩
    case measure => simp [intOf]; omega
   ·have hjn : j = a.n1 := by omega
    have HE := Lib.hid (show r.l = mrgP ([] ++ a.p.ps) from by rw [HR.out, hjn, HLA.out.1, List.take_length])
    clear HR hjn
    obtain ⟨v1, hwo⟩ : ∃ wo : World, wo = wr := ⟨_, rfl⟩
    subst hwo
    obtain ⟨rA, hro⟩ : ∃ ro : RowP Fc.PieceP, ro = r := ⟨_, rfl⟩
    subst hro
    have N1 := HN
    have E1 := HE
    clear HN HE
    have d2 : v1.cell? ⟨w.heap.size + 1, 11, none⟩ = some (.slice b.A1 b.n1 b.c1) := N1.out.hb.at_ 11
    go_wp2
    clear d2
    go_loopw [60] (fun i wr => ∃ j : Nat, i = .int .i64 j ∧ j ≤ b.n1 ∧ ∃ r : RowP Fc.PieceP, Hid (r.l = mrgP (a.p.ps ++ b.p.ps.take j)) ∧ Hid (NoI w wr a b (nd a.p.id (max a.p.kind b.p.kind) t u z r r0))) (fun i _ => b.n1 - (intOf i).toNat)
    case atStart => exact ⟨0, rfl, Nat.zero_le _, rA, Lib.hid (by rw [E1.out]; simp), N1⟩
    case round =>
     clear N1
     obtain ⟨j, rfl, hj, r, HR, HN⟩ := hrel
     by_cases hlt : j < b.n1
     ·obtain ⟨bk, off, hA, hbl, hxj, mr⟩ := (HIB.out.ps.row.below HN.out.below).range (i := j) hlt
      replace hxj : j < b.p.ps.length := hxj
      obtain ⟨y, hy⟩ : ∃ y, b.p.ps[j] = y := ⟨_, rfl⟩
      have HST := Lib.hid (show docIns intLt Fc.PieceP.i opP id r.l y = mrgP (a.p.ps ++ b.p.ps.take (j + 1)) from by rw [HR.out]; exact mrg_step klt_int joins_P hxj hy)
      have HTY := Lib.hid (show y.data.size ≤ maxLen from HTB.out.ps y (hy ▸ List.getElem_mem hxj))
      have HTR := Lib.hid (show ∀ y ∈ r.l, y.data.size ≤ maxLen from by rw [HR.out]; exact txt_mrgP fun y hy => (List.mem_append.1 hy).elim (HTA.out.ps y) (fun h => HTB.out.ps y (List.mem_of_mem_take h)))
      replace mr : wr.rangeAt bk (off + j * 4) (Fc.pieceC y).toList := by rw [← hy]; exact mr
      have MR := Lib.hid mr
      have HN1 := Lib.hid (HN.out.low ((Below.refl wr.heap.size wr).alloc (Nat.le_refl _) (.cells (Fc.pieceC y) 74)))
      have HY1 := Lib.hid (Has.fresh wr 74 (Fc.pieceC y))
      have HRL := Lib.hid (show r.n = r.l.length from by have := HN.out.own.ps.1; exact (own_len HN.out.own.ps))
      have HRM := Lib.hid (show r.n ≤ 1000000 from by rw [HRL.out, HR.out]; refine Nat.le_trans (mrg_len _) ?_; simp only [List.length_append, List.length_take, List.length_nil]; have := HM.out; have := HLA.out; have := HLB.out; omega)
      have cc : (wr.alloc (.cells (Fc.pieceC y) 74)).cell? ⟨(w.heap.size + 1 + 1 + 1), 11, none⟩ = some (.slice r.A r.n r.c) := HN1.out.hc.at_ 11
      replace hA : b.A1 = some ⟨bk, off, none⟩ := hA
      rw [hA]
      clear mr hA hbl hxj hy HN HR
      go_wp2_with (first | ((with_reducible refine Who.wpList_loadC 74 (.tmp 62) rfl (bk) (off + j * 4) (Fc.pieceC y) ?_); refine And.intro ⟨by rfl, by rfl, ⟨_, Tryz.underlying74, rfl⟩, infoP⟩ (And.intro (MR.out) ?_)) | ((with_reducible refine Who.wpList_newC 74 9 (.tmp 63) rfl rfl rfl (zeroP) (Fc.pieceC y) ?_); refine And.intro ⟨rfl, rfl, rfl, allocP, by rfl, by rfl, infoP, rfl, oneP y⟩ ?_; (try simp only [World.size_alloc])) | ((with_reducible refine Who.wpList_loadC 74 (.tmp 9) rfl (wr.heap.size) 0 (Fc.pieceC y) ?_); refine And.intro ⟨by rfl, by rfl, ⟨_, Tryz.underlying74, rfl⟩, infoP⟩ (And.intro (Who.has_range HY1.out) ?_)) | fail)
      refine (rput_ins r.A r.n r.c r.l y _ ⟨HN1.out.own.ps.srow2 (fun _ => rfl) HRL.out, own_nil HN1.out.own.ps⟩ HRM.out HTR.out HTY.out).mono ?_
      rintro e w2 ⟨v, rfl, ho, hb⟩
      have HN2 := Lib.hid (HN1.out.low hb)
      have HO := Lib.hid (show OwnK w2 w.heap.size 74 4 Fc.pieceC v (mrgP (a.p.ps ++ b.p.ps.take (j + 1))) from by rw [← HST.out]; exact ho.mono HN1.out.below.size)
      clear ho hb HN1 HY1 HST HTY HTR HRM cc
      obtain ⟨A6, c6, hv, _⟩ := HO.out.any
      subst hv
      obtain ⟨l6, hl6⟩ : ∃ l6, l6 = mrgP (a.p.ps ++ b.p.ps.take (j + 1)) := ⟨_, rfl⟩
      rw [← hl6] at HO
      have HL6 := Lib.hid hl6
      rw [← hl6]
      clear hl6
      go_wp2_with (first | ((with_reducible refine wpList_cell (T := 46) 43 (.tmp 68) (.tmp 67) rfl (w.heap.size + 1 + 1 + 1) 11 (Fc.nodeC (nd a.p.id (max a.p.kind b.p.kind) t u z r r0)) (Fc.nodeC (nd a.p.id (max a.p.kind b.p.kind) t u z ⟨A6, l6.length, c6, l6⟩ r0)) ((.slice A6 l6.length c6)) ?_); refine And.intro ⟨rfl, rfl, by rfl, by rfl, info_sp, rfl, of_decide_eq_true rfl, by kernel_rfl, HN2.out.hc⟩ ?_; intro W25 HX25 HC25) | fail)
      have HN3 := Lib.hid (HN2.out.put HX25.out HC25.out ⟨HO.out, HN2.out.own.xs⟩)
      go_wp2
      go_roundw
      case rel => exact ⟨j + 1, by go_num, by omega, ⟨A6, l6.length, c6, l6⟩, HL6, HN3⟩
      case measure => simp [intOf]; omega
     ·have hjn : j = b.n1 := by omega
      have HE := Lib.hid (show r.l = mrgP (a.p.ps ++ b.p.ps) from by rw [HR.out, hjn, HLB.out.1, List.take_length])
      clear HR hjn
      obtain ⟨v2, hwo⟩ : ∃ wo : World, wo = wr := ⟨_, rfl⟩
      subst hwo
      obtain ⟨rp, hro⟩ : ∃ ro : RowP Fc.PieceP, ro = r := ⟨_, rfl⟩
      subst hro
      have N2 := HN
      have E2 := HE
      clear HN HE
      have d3 : v2.cell? ⟨w.heap.size, 12, none⟩ = some (.slice a.A2 a.n2 a.c2) := N2.out.ha.at_ 12
      go_wp2
      clear d3
      go_loopw [73] (fun i wr => ∃ j : Nat, i = .int .i64 j ∧ j ≤ a.n2 ∧ ∃ r : RowP Fc.XattrP, Hid (r.l = mrgX ([] ++ a.p.xs.take j)) ∧ Hid (NoI w wr a b (nd a.p.id (max a.p.kind b.p.kind) t u z rp r))) (fun i _ => a.n2 - (intOf i).toNat)
      case atStart => exact ⟨0, rfl, Nat.zero_le _, r0, Lib.hid rfl, N2⟩
      case round =>
       clear N2
       obtain ⟨j, rfl, hj, r, HR, HN⟩ := hrel
       by_cases hlt : j < a.n2
       ·obtain ⟨bk, off, hA, hbl, hxj, mr⟩ := (HIA.out.xs.row.below HN.out.below).range (i := j) hlt
        replace hxj : j < a.p.xs.length := hxj
        obtain ⟨y, hy⟩ : ∃ y, a.p.xs[j] = y := ⟨_, rfl⟩
        have HST := Lib.hid (show docIns strLt Fc.XattrP.name opX id r.l y = mrgX ([] ++ a.p.xs.take (j + 1)) from by rw [HR.out]; exact mrg_step klt_str joins_X hxj hy)
        have HTY := Lib.hid (show y.name.size ≤ maxLen ∧ y.val.size ≤ maxLen from HTA.out.xs y (hy ▸ List.getElem_mem hxj))
        have HTR := Lib.hid (show ∀ y ∈ r.l, y.name.size ≤ maxLen ∧ y.val.size ≤ maxLen from by rw [HR.out]; exact txt_mrgX fun y hy => (List.mem_append.1 hy).elim (fun h => by cases h) (fun h => HTA.out.xs y (List.mem_of_mem_take h)))
        replace mr : wr.rangeAt bk (off + j * 5) (Fc.xattrC y).toList := by rw [← hy]; exact mr
        have MR := Lib.hid mr
        have HN1 := Lib.hid (HN.out.low ((Below.refl wr.heap.size wr).alloc (Nat.le_refl _) (.cells (Fc.xattrC y) 77)))
        have HY1 := Lib.hid (Has.fresh wr 77 (Fc.xattrC y))
        have HRL := Lib.hid (show r.n = r.l.length from by have := HN.out.own.xs.1; exact (own_len HN.out.own.xs))
        have HRM := Lib.hid (show r.n ≤ 1000000 from by rw [HRL.out, HR.out]; refine Nat.le_trans (mrg_len _) ?_; simp only [List.length_append, List.length_take, List.length_nil]; have := HM.out; have := HLA.out; have := HLB.out; omega)
        have cc : (wr.alloc (.cells (Fc.xattrC y) 77)).cell? ⟨(w.heap.size + 1 + 1 + 1), 12, none⟩ = some (.slice r.A r.n r.c) := HN1.out.hc.at_ 12
        replace hA : a.A2 = some ⟨bk, off, none⟩ := hA
        rw [hA]
        clear mr hA hbl hxj hy HN HR
        go_wp2_with (first | ((with_reducible refine Who.wpList_loadC 77 (.tmp 75) rfl (bk) (off + j * 5) (Fc.xattrC y) ?_); refine And.intro ⟨by rfl, by rfl, ⟨_, Tryz.underlying77, rfl⟩, infoX⟩ (And.intro (MR.out) ?_)) | ((with_reducible refine Who.wpList_newC 77 11 (.tmp 76) rfl rfl rfl (zeroX) (Fc.xattrC y) ?_); refine And.intro ⟨rfl, rfl, rfl, allocX, by rfl, by rfl, infoX, rfl, oneX y⟩ ?_; (try simp only [World.size_alloc])) | ((with_reducible refine Who.wpList_loadC 77 (.tmp 11) rfl (wr.heap.size) 0 (Fc.xattrC y) ?_); refine And.intro ⟨by rfl, by rfl, ⟨_, Tryz.underlying77, rfl⟩, infoX⟩ (And.intro (Who.has_range HY1.out) ?_)) | fail)
        refine (rname_ins r.A r.n r.c r.l y _ ⟨HN1.out.own.xs.srow2 (fun _ => rfl) HRL.out, own_nil HN1.out.own.xs⟩ HRM.out HTR.out HTY.out).mono ?_
        rintro e w2 ⟨v, rfl, ho, hb⟩
        have HN2 := Lib.hid (HN1.out.low hb)
        have HO := Lib.hid (show OwnK w2 w.heap.size 77 5 Fc.xattrC v (mrgX ([] ++ a.p.xs.take (j + 1))) from by rw [← HST.out]; exact ho.mono HN1.out.below.size)
        clear ho hb HN1 HY1 HST HTY HTR HRM cc
        obtain ⟨A6, c6, hv, _⟩ := HO.out.any
        subst hv
        obtain ⟨l6, hl6⟩ : ∃ l6, l6 = mrgX ([] ++ a.p.xs.take (j + 1)) := ⟨_, rfl⟩
        rw [← hl6] at HO
        have HL6 := Lib.hid hl6
        rw [← hl6]
        clear hl6
        go_wp2_with (first | ((with_reducible refine wpList_cell (T := 46) 44 (.tmp 81) (.tmp 80) rfl (w.heap.size + 1 + 1 + 1) 12 (Fc.nodeC (nd a.p.id (max a.p.kind b.p.kind) t u z rp r)) (Fc.nodeC (nd a.p.id (max a.p.kind b.p.kind) t u z rp ⟨A6, l6.length, c6, l6⟩)) ((.slice A6 l6.length c6)) ?_); refine And.intro ⟨rfl, rfl, by rfl, by rfl, info_sx, rfl, of_decide_eq_true rfl, by kernel_rfl, HN2.out.hc⟩ ?_; intro W26 HX26 HC26) | fail)
        have HN3 := Lib.hid (HN2.out.put HX26.out HC26.out ⟨HN2.out.own.ps, HO.out⟩)
        go_wp2
        go_roundw
        case rel => exact ⟨j + 1, by go_num, by omega, ⟨A6, l6.length, c6, l6⟩, HL6, HN3⟩
        case measure => simp [intOf]; omega
       ·have hjn : j = a.n2 := by omega
        have HE := Lib.hid (show r.l = mrgX ([] ++ a.p.xs) from by rw [HR.out, hjn, HLA.out.2, List.take_length])
        clear HR hjn
        obtain ⟨v3, hwo⟩ : ∃ wo : World, wo = wr := ⟨_, rfl⟩
        subst hwo
        obtain ⟨rB, hro⟩ : ∃ ro : RowP Fc.XattrP, ro = r := ⟨_, rfl⟩
        subst hro
        have N3 := HN
        have E3 := HE
        clear HN HE
        have d4 : v3.cell? ⟨w.heap.size + 1, 12, none⟩ = some (.slice b.A2 b.n2 b.c2) := N3.out.hb.at_ 12
        go_wp2
        clear d4
        go_loopw [86] (fun i wr => ∃ j : Nat, i = .int .i64 j ∧ j ≤ b.n2 ∧ ∃ r : RowP Fc.XattrP, Hid (r.l = mrgX (a.p.xs ++ b.p.xs.take j)) ∧ Hid (NoI w wr a b (nd a.p.id (max a.p.kind b.p.kind) t u z rp r))) (fun i _ => b.n2 - (intOf i).toNat)
        case atStart => exact ⟨0, rfl, Nat.zero_le _, rB, Lib.hid (by rw [E3.out]; simp), N3⟩
        case round =>
         clear N3
         obtain ⟨j, rfl, hj, r, HR, HN⟩ := hrel
         by_cases hlt : j < b.n2
         ·obtain ⟨bk, off, hA, hbl, hxj, mr⟩ := (HIB.out.xs.row.below HN.out.below).range (i := j) hlt
          replace hxj : j < b.p.xs.length := hxj
          obtain ⟨y, hy⟩ : ∃ y, b.p.xs[j] = y := ⟨_, rfl⟩
          have HST := Lib.hid (show docIns strLt Fc.XattrP.name opX id r.l y = mrgX (a.p.xs ++ b.p.xs.take (j + 1)) from by rw [HR.out]; exact mrg_step klt_str joins_X hxj hy)
          have HTY := Lib.hid (show y.name.size ≤ maxLen ∧ y.val.size ≤ maxLen from HTB.out.xs y (hy ▸ List.getElem_mem hxj))
          have HTR := Lib.hid (show ∀ y ∈ r.l, y.name.size ≤ maxLen ∧ y.val.size ≤ maxLen from by rw [HR.out]; exact txt_mrgX fun y hy => (List.mem_append.1 hy).elim (HTA.out.xs y) (fun h => HTB.out.xs y (List.mem_of_mem_take h)))
          replace mr : wr.rangeAt bk (off + j * 5) (Fc.xattrC y).toList := by rw [← hy]; exact mr
          have MR := Lib.hid mr
          have HN1 := Lib.hid (HN.out.low ((Below.refl wr.heap.size wr).alloc (Nat.le_refl _) (.cells (Fc.xattrC y) 77)))
          have HY1 := Lib.hid (Has.fresh wr 77 (Fc.xattrC y))
          have HRL := Lib.hid (show r.n = r.l.length from by have := HN.out.own.xs.1; exact (own_len HN.out.own.xs))
          have HRM := Lib.hid (show r.n ≤ 1000000 from by rw [HRL.out, HR.out]; refine Nat.le_trans (mrg_len _) ?_; simp only [List.length_append, List.length_take, List.length_nil]; have := HM.out; have := HLA.out; have := HLB.out; omega)
          have cc : (wr.alloc (.cells (Fc.xattrC y) 77)).cell? ⟨(w.heap.size + 1 + 1 + 1), 12, none⟩ = some (.slice r.A r.n r.c) := HN1.out.hc.at_ 12
          replace hA : b.A2 = some ⟨bk, off, none⟩ := hA
          rw [hA]
          clear mr hA hbl hxj hy HN HR
          go_wp2_with (first | ((with_reducible refine Who.wpList_loadC 77 (.tmp 88) rfl (bk) (off + j * 5) (Fc.xattrC y) ?_); refine And.intro ⟨by rfl, by rfl, ⟨_, Tryz.underlying77, rfl⟩, infoX⟩ (And.intro (MR.out) ?_)) | ((with_reducible refine Who.wpList_newC 77 13 (.tmp 89) rfl rfl rfl (zeroX) (Fc.xattrC y) ?_); refine And.intro ⟨rfl, rfl, rfl, allocX, by rfl, by rfl, infoX, rfl, oneX y⟩ ?_; (try simp only [World.size_alloc])) | ((with_reducible refine Who.wpList_loadC 77 (.tmp 13) rfl (wr.heap.size) 0 (Fc.xattrC y) ?_); refine And.intro ⟨by rfl, by rfl, ⟨_, Tryz.underlying77, rfl⟩, infoX⟩ (And.intro (Who.has_range HY1.out) ?_)) | fail)
          refine (rname_ins r.A r.n r.c r.l y _ ⟨HN1.out.own.xs.srow2 (fun _ => rfl) HRL.out, own_nil HN1.out.own.xs⟩ HRM.out HTR.out HTY.out).mono ?_
          rintro e w2 ⟨v, rfl, ho, hb⟩
          have HN2 := Lib.hid (HN1.out.low hb)
          have HO := Lib.hid (show OwnK w2 w.heap.size 77 5 Fc.xattrC v (mrgX (a.p.xs ++ b.p.xs.take (j + 1))) from by rw [← HST.out]; exact ho.mono HN1.out.below.size)
          clear ho hb HN1 HY1 HST HTY HTR HRM cc
          obtain ⟨A6, c6, hv, _⟩ := HO.out.any
          subst hv
          obtain ⟨l6, hl6⟩ : ∃ l6, l6 = mrgX (a.p.xs ++ b.p.xs.take (j + 1)) := ⟨_, rfl⟩
          rw [← hl6] at HO
          have HL6 := Lib.hid hl6
          rw [← hl6]
          clear hl6
          go_wp2_with (first | ((with_reducible refine wpList_cell (T := 46) 44 (.tmp 94) (.tmp 93) rfl (w.heap.size + 1 + 1 + 1) 12 (Fc.nodeC (nd a.p.id (max a.p.kind b.p.kind) t u z rp r)) (Fc.nodeC (nd a.p.id (max a.p.kind b.p.kind) t u z rp ⟨A6, l6.length, c6, l6⟩)) ((.slice A6 l6.length c6)) ?_); refine And.intro ⟨rfl, rfl, by rfl, by rfl, info_sx, rfl, of_decide_eq_true rfl, by kernel_rfl, HN2.out.hc⟩ ?_; intro W27 HX27 HC27) | fail)
          have HN3 := Lib.hid (HN2.out.put HX27.out HC27.out ⟨HN2.out.own.ps, HO.out⟩)
          go_wp2
          go_roundw
          case rel => exact ⟨j + 1, by go_num, by omega, ⟨A6, l6.length, c6, l6⟩, HL6, HN3⟩
          case measure => simp [intOf]; omega
         ·have hjn : j = b.n2 := by omega
          have HE := Lib.hid (show r.l = mrgX (a.p.xs ++ b.p.xs) from by rw [HR.out, hjn, HLB.out.2, List.take_length])
          clear HR hjn
          obtain ⟨v4, hwo⟩ : ∃ wo : World, wo = wr := ⟨_, rfl⟩
          subst hwo
          obtain ⟨rx, hro⟩ : ∃ ro : RowP Fc.XattrP, ro = r := ⟨_, rfl⟩
          subst hro
          have N4 := HN
          have E4 := HE
          clear HN HE
          go_wp2_with (first | ((with_reducible refine Who.wpList_loadC 46 (.tmp 5) rfl ((w.heap.size + 1 + 1 + 1)) 0 (Fc.nodeC (nd a.p.id (max a.p.kind b.p.kind) t u z rp rx)) ?_); refine And.intro ⟨by rfl, by rfl, ⟨_, Tryz.underlying46, rfl⟩, infoN⟩ (And.intro (Who.has_range N4.out.hc) ?_)) | ((with_reducible refine wpList_storeG 46 (.tmp 4) (.tmp 96) rfl (w.heap.size + 1 + 1) (zeroN) (Fc.nodeC (nd a.p.id (max a.p.kind b.p.kind) t u z rp rx)) ?_); refine And.intro ⟨rfl, by rfl, by rfl, infoN, oneN _, rfl, N4.out.hz⟩ ?_; intro W28 HX28 HC28) | fail)
          have HBF := Lib.hid (below_step N4.out.below HC28.out (by omega))
          have HOF := Lib.hid (N4.out.own.over N4.out.hz HC28.out)
          refine bodyPost_ret (v := .agg (Fc.nodeC (nd a.p.id (max a.p.kind b.p.kind) t u z rp rx))) (Who.results_cell (p := 4) (t := 46) rfl _ _ (w.heap.size + 1 + 1) 0 (Fc.nodeC (nd a.p.id (max a.p.kind b.p.kind) t u z rp rx)) _ (by rfl) (Who.has_range HX28.out) Tryz.underlying46 rfl infoN) rfl ?_
          refine ⟨nd a.p.id (max a.p.kind b.p.kind) t u z rp rx, rfl, ?_, HOF.out, HBF.out⟩
          unfold nd opN
          simp only [max_top, HOT.out, HU.out, HZ.out, E2.out, E4.out]
 | false =>
  have HOT := Lib.hid (show a.p.text = top strLt a.p.text b.p.text from by unfold top strLt; rw [hL]; simp)
  clear hL
  have H1' := Lib.hid (show NoI w w1 a b (nd a.p.id (max a.p.kind b.p.kind) a.p.text at0 sz0 r0 r0) from H1.out)
  clear H1
  have HT1 := H1'
  clear H1'
  go_wp2_with (first | ((with_reducible refine Who.wpList_loadC 40 (.tmp 32) rfl (w.heap.size) 4 (attrC (atN a.p)) ?_); refine And.intro ⟨by rfl, by rfl, ⟨_, Tryz.underlying40, rfl⟩, infoA⟩ (And.intro (node_attr HT1.out.ha) ?_)) | ((with_reducible refine Who.wpList_loadC 40 (.tmp 34) rfl (w.heap.size + 1) 4 (attrC (atN b.p)) ?_); refine And.intro ⟨by rfl, by rfl, ⟨_, Tryz.underlying40, rfl⟩, infoA⟩ (And.intro (node_attr HT1.out.hb) ?_)) | fail)
  obtain ⟨t, ht⟩ : ∃ t, t = a.p.text := ⟨_, rfl⟩
  replace HOT := Lib.hid (ht.trans HOT.out)
  rw [← ht] at HT1
  clear ht
  refine (rattr_one (atN a.p) (atN b.p) _).mono ?_
  rintro e w2 ⟨rfl, hb⟩
  have H2 := Lib.hid (HT1.out.low hb)
  clear hb HT1
  obtain ⟨u, hu⟩ : ∃ u, u = top ltA (atN a.p) (atN b.p) := ⟨_, rfl⟩
  have HU := Lib.hid hu
  rw [show (if ltA (atN a.p) (atN b.p) = true then atN b.p else atN a.p) = u from hu.symm]
  clear hu
  go_wp2_with (first | ((with_reducible refine wpList_storeH (T := 46) 40 (.tmp 37) (.tmp 36) rfl (w.heap.size + 1 + 1 + 1) 4 (Fc.nodeC (nd a.p.id (max a.p.kind b.p.kind) t at0 sz0 r0 r0)) (attrC u) (Fc.nodeC (nd a.p.id (max a.p.kind b.p.kind) t u sz0 r0 r0)) ?_); refine And.intro ⟨rfl, by rfl, by rfl, infoA, oneA _, of_decide_eq_true rfl, by kernel_rfl, H2.out.hc⟩ ?_; intro W29 HX29 HC29; have H3 := Lib.hid (H2.out.put HX29.out HC29.out own_r0)) | ((with_reducible refine Who.wpList_loadC 42 (.tmp 38) rfl (w.heap.size) 8 (sizeC (szN a.p)) ?_); refine And.intro ⟨by rfl, by rfl, ⟨_, Tryz.underlying42, rfl⟩, infoZ⟩ (And.intro (node_size H3.out.ha) ?_)) | ((with_reducible refine Who.wpList_loadC 42 (.tmp 40) rfl (w.heap.size + 1) 8 (sizeC (szN b.p)) ?_); refine And.intro ⟨by rfl, by rfl, ⟨_, Tryz.underlying42, rfl⟩, infoZ⟩ (And.intro (node_size H3.out.hb) ?_)) | fail)
  refine (rsize_one (szN a.p) (szN b.p) _).mono ?_
  rintro e w3 ⟨rfl, hb⟩
  have H4 := Lib.hid (H3.out.low hb)
  clear hb H2 H3 HX29 HC29
  obtain ⟨z, hz⟩ : ∃ z, z = top ltZ (szN a.p) (szN b.p) := ⟨_, rfl⟩
  have HZ := Lib.hid hz
  rw [show (if ltZ (szN a.p) (szN b.p) = true then szN b.p else szN a.p) = z from hz.symm]
  clear hz
  go_wp2_with (first | ((with_reducible refine wpList_storeH (T := 46) 42 (.tmp 43) (.tmp 42) rfl (w.heap.size + 1 + 1 + 1) 8 (Fc.nodeC (nd a.p.id (max a.p.kind b.p.kind) t u sz0 r0 r0)) (sizeC z) (Fc.nodeC (nd a.p.id (max a.p.kind b.p.kind) t u z r0 r0)) ?_); refine And.intro ⟨rfl, by rfl, by rfl, infoZ, oneZ _, of_decide_eq_true rfl, by kernel_rfl, H4.out.hc⟩ ?_; intro W30 HX30 HC30; have H5 := Lib.hid (H4.out.put HX30.out HC30.out own_r0); have d1 : W30.cell? ⟨w.heap.size, 11, none⟩ = some (.slice a.A1 a.n1 a.c1) := H5.out.ha.at_ 11) | fail)
  clear d1
  clear H4 HX30 HC30 HS
  go_loopw [47] (fun i wr => ∃ j : Nat, i = .int .i64 j ∧ j ≤ a.n1 ∧ ∃ r : RowP Fc.PieceP, Hid (r.l = mrgP ([] ++ a.p.ps.take j)) ∧ Hid (NoI w wr a b (nd a.p.id (max a.p.kind b.p.kind) t u z r r0))) (fun i _ => a.n1 - (intOf i).toNat)
  case atStart => exact ⟨0, rfl, Nat.zero_le _, r0, Lib.hid rfl, H5⟩
  case round =>
   clear H5
   obtain ⟨j, rfl, hj, r, HR, HN⟩ := hrel
   by_cases hlt : j < a.n1
   ·obtain ⟨bk, off, hA, hbl, hxj, mr⟩ := (HIA.out.ps.row.below HN.out.below).range (i := j) hlt
    replace hxj : j < a.p.ps.length := hxj
    obtain ⟨y, hy⟩ : ∃ y, a.p.ps[j] = y := ⟨_, rfl⟩
    have HST := Lib.hid (show docIns intLt Fc.PieceP.i opP id r.l y = mrgP ([] ++ a.p.ps.take (j + 1)) from by rw [HR.out]; exact mrg_step klt_int joins_P hxj hy)
    have HTY := Lib.hid (show y.data.size ≤ maxLen from HTA.out.ps y (hy ▸ List.getElem_mem hxj))
    have HTR := Lib.hid (show ∀ y ∈ r.l, y.data.size ≤ maxLen from by rw [HR.out]; exact txt_mrgP fun y hy => (List.mem_append.1 hy).elim (fun h => by cases h) (fun h => HTA.out.ps y (List.mem_of_mem_take h)))
    replace mr : wr.rangeAt bk (off + j * 4) (Fc.pieceC y).toList := by rw [← hy]; exact mr
    have MR := Lib.hid mr
    have HN1 := Lib.hid (HN.out.low ((Below.refl wr.heap.size wr).alloc (Nat.le_refl _) (.cells (Fc.pieceC y) 74)))
    have HY1 := Lib.hid (Has.fresh wr 74 (Fc.pieceC y))
    have HRL := Lib.hid (show r.n = r.l.length from by have := HN.out.own.ps.1; exact (own_len HN.out.own.ps))
    have HRM := Lib.hid (show r.n ≤ 1000000 from by rw [HRL.out, HR.out]; refine Nat.le_trans (mrg_len _) ?_; simp only [List.length_append, List.length_take, List.length_nil]; have := HM.out; have := HLA.out; have := HLB.out; omega)
    have cc : (wr.alloc (.cells (Fc.pieceC y) 74)).cell? ⟨(w.heap.size + 1 + 1 + 1), 11, none⟩ = some (.slice r.A r.n r.c) := HN1.out.hc.at_ 11
    replace hA : a.A1 = some ⟨bk, off, none⟩ := hA
    rw [hA]
    clear mr hA hbl hxj hy HN HR
    go_wp2_with (first | ((with_reducible refine Who.wpList_loadC 74 (.tmp 49) rfl (bk) (off + j * 4) (Fc.pieceC y) ?_); refine And.intro ⟨by rfl, by rfl, ⟨_, Tryz.underlying74, rfl⟩, infoP⟩ (And.intro (MR.out) ?_)) | ((with_reducible refine Who.wpList_newC 74 7 (.tmp 50) rfl rfl rfl (zeroP) (Fc.pieceC y) ?_); refine And.intro ⟨rfl, rfl, rfl, allocP, by rfl, by rfl, infoP, rfl, oneP y⟩ ?_; (try simp only [World.size_alloc])) | ((with_reducible refine Who.wpList_loadC 74 (.tmp 7) rfl (wr.heap.size) 0 (Fc.pieceC y) ?_); refine And.intro ⟨by rfl, by rfl, ⟨_, Tryz.underlying74, rfl⟩, infoP⟩ (And.intro (Who.has_range HY1.out) ?_)) | fail)
    refine (rput_ins r.A r.n r.c r.l y _ ⟨HN1.out.own.ps.srow2 (fun _ => rfl) HRL.out, own_nil HN1.out.own.ps⟩ HRM.out HTR.out HTY.out).mono ?_
    rintro e w2 ⟨v, rfl, ho, hb⟩
    have HN2 := Lib.hid (HN1.out.low hb)
    have HO := Lib.hid (show OwnK w2 w.heap.size 74 4 Fc.pieceC v (mrgP ([] ++ a.p.ps.take (j + 1))) from by rw [← HST.out]; exact ho.mono HN1.out.below.size)
    clear ho hb HN1 HY1 HST HTY HTR HRM cc
    obtain ⟨A6, c6, hv, _⟩ := HO.out.any
    subst hv
    obtain ⟨l6, hl6⟩ : ∃ l6, l6 = mrgP ([] ++ a.p.ps.take (j + 1)) := ⟨_, rfl⟩
    rw [← hl6] at HO
    have HL6 := Lib.hid hl6
    rw [← hl6]
    clear hl6
    go_wp2_with (first | ((with_reducible refine wpList_cell (T := 46) 43 (.tmp 55) (.tmp 54) rfl (w.heap.size + 1 + 1 + 1) 11 (Fc.nodeC (nd a.p.id (max a.p.kind b.p.kind) t u z r r0)) (Fc.nodeC (nd a.p.id (max a.p.kind b.p.kind) t u z ⟨A6, l6.length, c6, l6⟩ r0)) ((.slice A6 l6.length c6)) ?_); refine And.intro ⟨rfl, rfl, by rfl, by rfl, info_sp, rfl, of_decide_eq_true rfl, by kernel_rfl, HN2.out.hc⟩ ?_; intro W31 HX31 HC31) | fail)
    have HN3 := Lib.hid (HN2.out.put HX31.out HC31.out ⟨HO.out, HN2.out.own.xs⟩)
    go_wp2
    go_roundw
    case rel => exact ⟨j + 1, by go_num, by omega, ⟨A6, l6.length, c6, l6⟩, HL6, HN3⟩
    case measure => simp [intOf]; omega
   ·have hjn : j = a.n1 := by omega
    have HE := Lib.hid (show r.l = mrgP ([] ++ a.p.ps) from by rw [HR.out, hjn, HLA.out.1, List.take_length])
    clear HR hjn
    obtain ⟨v1, hwo⟩ : ∃ wo : World, wo = wr := ⟨_, rfl⟩
    subst hwo
    obtain ⟨rA, hro⟩ : ∃ ro : RowP Fc.PieceP, ro = r := ⟨_, rfl⟩
    subst hro
    have N1 := HN
    have E1 := HE
    clear HN HE
    have d2 : v1.cell? ⟨w.heap.size + 1, 11, none⟩ = some (.slice b.A1 b.n1 b.c1) := N1.out.hb.at_ 11
    go_wp2
    clear d2
    go_loopw [60] (fun i wr => ∃ j : Nat, i = .int .i64 j ∧ j ≤ b.n1 ∧ ∃ r : RowP Fc.PieceP, Hid (r.l = mrgP (a.p.ps ++ b.p.ps.take j)) ∧ Hid (NoI w wr a b (nd a.p.id (max a.p.kind b.p.kind) t u z r r0))) (fun i _ => b.n1 - (intOf i).toNat)
    case atStart => exact ⟨0, rfl, Nat.zero_le _, rA, Lib.hid (by rw [E1.out]; simp), N1⟩
    case round =>
     clear N1
     obtain ⟨j, rfl, hj, r, HR, HN⟩ := hrel
     by_cases hlt : j < b.n1
     ·obtain ⟨bk, off, hA, hbl, hxj, mr⟩ := (HIB.out.ps.row.below HN.out.below).range (i := j) hlt
      replace hxj : j < b.p.ps.length := hxj
      obtain ⟨y, hy⟩ : ∃ y, b.p.ps[j] = y := ⟨_, rfl⟩
      have HST := Lib.hid (show docIns intLt Fc.PieceP.i opP id r.l y = mrgP (a.p.ps ++ b.p.ps.take (j + 1)) from by rw [HR.out]; exact mrg_step klt_int joins_P hxj hy)
      have HTY := Lib.hid (show y.data.size ≤ maxLen from HTB.out.ps y (hy ▸ List.getElem_mem hxj))
      have HTR := Lib.hid (show ∀ y ∈ r.l, y.data.size ≤ maxLen from by rw [HR.out]; exact txt_mrgP fun y hy => (List.mem_append.1 hy).elim (HTA.out.ps y) (fun h => HTB.out.ps y (List.mem_of_mem_take h)))
      replace mr : wr.rangeAt bk (off + j * 4) (Fc.pieceC y).toList := by rw [← hy]; exact mr
      have MR := Lib.hid mr
      have HN1 := Lib.hid (HN.out.low ((Below.refl wr.heap.size wr).alloc (Nat.le_refl _) (.cells (Fc.pieceC y) 74)))
      have HY1 := Lib.hid (Has.fresh wr 74 (Fc.pieceC y))
      have HRL := Lib.hid (show r.n = r.l.length from by have := HN.out.own.ps.1; exact (own_len HN.out.own.ps))
      have HRM := Lib.hid (show r.n ≤ 1000000 from by rw [HRL.out, HR.out]; refine Nat.le_trans (mrg_len _) ?_; simp only [List.length_append, List.length_take, List.length_nil]; have := HM.out; have := HLA.out; have := HLB.out; omega)
      have cc : (wr.alloc (.cells (Fc.pieceC y) 74)).cell? ⟨(w.heap.size + 1 + 1 + 1), 11, none⟩ = some (.slice r.A r.n r.c) := HN1.out.hc.at_ 11
      replace hA : b.A1 = some ⟨bk, off, none⟩ := hA
      rw [hA]
      clear mr hA hbl hxj hy HN HR
      go_wp2_with (first | ((with_reducible refine Who.wpList_loadC 74 (.tmp 62) rfl (bk) (off + j * 4) (Fc.pieceC y) ?_); refine And.intro ⟨by rfl, by rfl, ⟨_, Tryz.underlying74, rfl⟩, infoP⟩ (And.intro (MR.out) ?_)) | ((with_reducible refine Who.wpList_newC 74 9 (.tmp 63) rfl rfl rfl (zeroP) (Fc.pieceC y) ?_); refine And.intro ⟨rfl, rfl, rfl, allocP, by rfl, by rfl, infoP, rfl, oneP y⟩ ?_; (try simp only [World.size_alloc])) | ((with_reducible refine Who.wpList_loadC 74 (.tmp 9) rfl (wr.heap.size) 0 (Fc.pieceC y) ?_); refine And.intro ⟨by rfl, by rfl, ⟨_, Tryz.underlying74, rfl⟩, infoP⟩ (And.intro (Who.has_range HY1.out) ?_)) | fail)
      refine (rput_ins r.A r.n r.c r.l y _ ⟨HN1.out.own.ps.srow2 (fun _ => rfl) HRL.out, own_nil HN1.out.own.ps⟩ HRM.out HTR.out HTY.out).mono ?_
      rintro e w2 ⟨v, rfl, ho, hb⟩
      have HN2 := Lib.hid (HN1.out.low hb)
      have HO := Lib.hid (show OwnK w2 w.heap.size 74 4 Fc.pieceC v (mrgP (a.p.ps ++ b.p.ps.take (j + 1))) from by rw [← HST.out]; exact ho.mono HN1.out.below.size)
      clear ho hb HN1 HY1 HST HTY HTR HRM cc
      obtain ⟨A6, c6, hv, _⟩ := HO.out.any
      subst hv
      obtain ⟨l6, hl6⟩ : ∃ l6, l6 = mrgP (a.p.ps ++ b.p.ps.take (j + 1)) := ⟨_, rfl⟩
      rw [← hl6] at HO
      have HL6 := Lib.hid hl6
      rw [← hl6]
      clear hl6
      go_wp2_with (first | ((with_reducible refine wpList_cell (T := 46) 43 (.tmp 68) (.tmp 67) rfl (w.heap.size + 1 + 1 + 1) 11 (Fc.nodeC (nd a.p.id (max a.p.kind b.p.kind) t u z r r0)) (Fc.nodeC (nd a.p.id (max a.p.kind b.p.kind) t u z ⟨A6, l6.length, c6, l6⟩ r0)) ((.slice A6 l6.length c6)) ?_); refine And.intro ⟨rfl, rfl, by rfl, by rfl, info_sp, rfl, of_decide_eq_true rfl, by kernel_rfl, HN2.out.hc⟩ ?_; intro W32 HX32 HC32) | fail)
      have HN3 := Lib.hid (HN2.out.put HX32.out HC32.out ⟨HO.out, HN2.out.own.xs⟩)
      go_wp2
      go_roundw
      case rel => exact ⟨j + 1, by go_num, by omega, ⟨A6, l6.length, c6, l6⟩, HL6, HN3⟩
      case measure => simp [intOf]; omega
     ·have hjn : j = b.n1 := by omega
      have HE := Lib.hid (show r.l = mrgP (a.p.ps ++ b.p.ps) from by rw [HR.out, hjn, HLB.out.1, List.take_length])
      clear HR hjn
      obtain ⟨v2, hwo⟩ : ∃ wo : World, wo = wr := ⟨_, rfl⟩
      subst hwo
      obtain ⟨rp, hro⟩ : ∃ ro : RowP Fc.PieceP, ro = r := ⟨_, rfl⟩
      subst hro
      have N2 := HN
      have E2 := HE
      clear HN HE
      have d3 : v2.cell? ⟨w.heap.size, 12, none⟩ = some (.slice a.A2 a.n2 a.c2) := N2.out.ha.at_ 12
      go_wp2
      clear d3
      go_loopw [73] (fun i wr => ∃ j : Nat, i = .int .i64 j ∧ j ≤ a.n2 ∧ ∃ r : RowP Fc.XattrP, Hid (r.l = mrgX ([] ++ a.p.xs.take j)) ∧ Hid (NoI w wr a b (nd a.p.id (max a.p.kind b.p.kind) t u z rp r))) (fun i _ => a.n2 - (intOf i).toNat)
      case atStart => exact ⟨0, rfl, Nat.zero_le _, r0, Lib.hid rfl, N2⟩
      case round =>
       clear N2
       obtain ⟨j, rfl, hj, r, HR, HN⟩ := hrel
       by_cases hlt : j < a.n2
       ·obtain ⟨bk, off, hA, hbl, hxj, mr⟩ := (HIA.out.xs.row.below HN.out.below).range (i := j) hlt
        replace hxj : j < a.p.xs.length := hxj
        obtain ⟨y, hy⟩ : ∃ y, a.p.xs[j] = y := ⟨_, rfl⟩
        have HST := Lib.hid (show docIns strLt Fc.XattrP.name opX id r.l y = mrgX ([] ++ a.p.xs.take (j + 1)) from by rw [HR.out]; exact mrg_step klt_str joins_X hxj hy)
        have HTY := Lib.hid (show y.name.size ≤ maxLen ∧ y.val.size ≤ maxLen from HTA.out.xs y (hy ▸ List.getElem_mem hxj))
        have HTR := Lib.hid (show ∀ y ∈ r.l, y.name.size ≤ maxLen ∧ y.val.size ≤ maxLen from by rw [HR.out]; exact txt_mrgX fun y hy => (List.mem_append.1 hy).elim (fun h => by cases h) (fun h => HTA.out.xs y (List.mem_of_mem_take h)))
        replace mr : wr.rangeAt bk (off + j * 5) (Fc.xattrC y).toList := by rw [← hy]; exact mr
        have MR := Lib.hid mr
        have HN1 := Lib.hid (HN.out.low ((Below.refl wr.heap.size wr).alloc (Nat.le_refl _) (.cells (Fc.xattrC y) 77)))
        have HY1 := Lib.hid (Has.fresh wr 77 (Fc.xattrC y))
        have HRL := Lib.hid (show r.n = r.l.length from by have := HN.out.own.xs.1; exact (own_len HN.out.own.xs))
        have HRM := Lib.hid (show r.n ≤ 1000000 from by rw [HRL.out, HR.out]; refine Nat.le_trans (mrg_len _) ?_; simp only [List.length_append, List.length_take, List.length_nil]; have := HM.out; have := HLA.out; have := HLB.out; omega)
        have cc : (wr.alloc (.cells (Fc.xattrC y) 77)).cell? ⟨(w.heap.size + 1 + 1 + 1), 12, none⟩ = some (.slice r.A r.n r.c) := HN1.out.hc.at_ 12
        replace hA : a.A2 = some ⟨bk, off, none⟩ := hA
        rw [hA]
        clear mr hA hbl hxj hy HN HR
        go_wp2_with (first | ((with_reducible refine Who.wpList_loadC 77 (.tmp 75) rfl (bk) (off + j * 5) (Fc.xattrC y) ?_); refine And.intro ⟨by rfl, by rfl, ⟨_, Tryz.underlying77, rfl⟩, infoX⟩ (And.intro (MR.out) ?_)) | ((with_reducible refine Who.wpList_newC 77 11 (.tmp 76) rfl rfl rfl (zeroX) (Fc.xattrC y) ?_); refine And.intro ⟨rfl, rfl, rfl, allocX, by rfl, by rfl, infoX, rfl, oneX y⟩ ?_; (try simp only [World.size_alloc])) | ((with_reducible refine Who.wpList_loadC 77 (.tmp 11) rfl (wr.heap.size) 0 (Fc.xattrC y) ?_); refine And.intro ⟨by rfl, by rfl, ⟨_, Tryz.underlying77, rfl⟩, infoX⟩ (And.intro (Who.has_range HY1.out) ?_)) | fail)
        refine (rname_ins r.A r.n r.c r.l y _ ⟨HN1.out.own.xs.srow2 (fun _ => rfl) HRL.out, own_nil HN1.out.own.xs⟩ HRM.out HTR.out HTY.out).mono ?_
        rintro e w2 ⟨v, rfl, ho, hb⟩
        have HN2 := Lib.hid (HN1.out.low hb)
        have HO := Lib.hid (show OwnK w2 w.heap.size 77 5 Fc.xattrC v (mrgX ([] ++ a.p.xs.take (j + 1))) from by rw [← HST.out]; exact ho.mono HN1.out.below.size)
        clear ho hb HN1 HY1 HST HTY HTR HRM cc
        obtain ⟨A6, c6, hv, _⟩ := HO.out.any
        subst hv
        obtain ⟨l6, hl6⟩ : ∃ l6, l6 = mrgX ([] ++ a.p.xs.take (j + 1)) := ⟨_, rfl⟩
        rw [← hl6] at HO
        have HL6 := Lib.hid hl6
        rw [← hl6]
        clear hl6
        go_wp2_with (first | ((with_reducible refine wpList_cell (T := 46) 44 (.tmp 81) (.tmp 80) rfl (w.heap.size + 1 + 1 + 1) 12 (Fc.nodeC (nd a.p.id (max a.p.kind b.p.kind) t u z rp r)) (Fc.nodeC (nd a.p.id (max a.p.kind b.p.kind) t u z rp ⟨A6, l6.length, c6, l6⟩)) ((.slice A6 l6.length c6)) ?_); refine And.intro ⟨rfl, rfl, by rfl, by rfl, info_sx, rfl, of_decide_eq_true rfl, by kernel_rfl, HN2.out.hc⟩ ?_; intro W33 HX33 HC33) | fail)
        have HN3 := Lib.hid (HN2.out.put HX33.out HC33.out ⟨HN2.out.own.ps, HO.out⟩)
        go_wp2
        go_roundw
        case rel => exact ⟨j + 1, by go_num, by omega, ⟨A6, l6.length, c6, l6⟩, HL6, HN3⟩
        case measure => simp [intOf]; omega
       ·have hjn : j = a.n2 := by omega
        have HE := Lib.hid (show r.l = mrgX ([] ++ a.p.xs) from by rw [HR.out, hjn, HLA.out.2, List.take_length])
        clear HR hjn
        obtain ⟨v3, hwo⟩ : ∃ wo : World, wo = wr := ⟨_, rfl⟩
        subst hwo
        obtain ⟨rB, hro⟩ : ∃ ro : RowP Fc.XattrP, ro = r := ⟨_, rfl⟩
        subst hro
        have N3 := HN
        have E3 := HE
        clear HN HE
        have d4 : v3.cell? ⟨w.heap.size + 1, 12, none⟩ = some (.slice b.A2 b.n2 b.c2) := N3.out.hb.at_ 12
        go_wp2
        clear d4
        go_loopw [86] (fun i wr => ∃ j : Nat, i = .int .i64 j ∧ j ≤ b.n2 ∧ ∃ r : RowP Fc.XattrP, Hid (r.l = mrgX (a.p.xs ++ b.p.xs.take j)) ∧ Hid (NoI w wr a b (nd a.p.id (max a.p.kind b.p.kind) t u z rp r))) (fun i _ => b.n2 - (intOf i).toNat)
        case atStart => exact ⟨0, rfl, Nat.zero_le _, rB, Lib.hid (by rw [E3.out]; simp), N3⟩
        case round =>
         clear N3
         obtain ⟨j, rfl, hj, r, HR, HN⟩ := hrel
         by_cases hlt : j < b.n2
         ·obtain ⟨bk, off, hA, hbl, hxj, mr⟩ := (HIB.out.xs.row.below HN.out.below).range (i := j) hlt
          replace hxj : j < b.p.xs.length := hxj
          obtain ⟨y, hy⟩ : ∃ y, b.p.xs[j] = y := ⟨_, rfl⟩
          have HST := Lib.hid (show docIns strLt Fc.XattrP.name opX id r.l y = mrgX (a.p.xs ++ b.p.xs.take (j + 1)) from by rw [HR.out]; exact mrg_step klt_str joins_X hxj hy)
          have HTY := Lib.hid (show y.name.size ≤ maxLen ∧ y.val.size ≤ maxLen from HTB.out.xs y (hy ▸ List.getElem_mem hxj))
          have HTR := Lib.hid (show ∀ y ∈ r.l, y.name.size ≤ maxLen ∧ y.val.size ≤ maxLen from by rw [HR.out]; exact txt_mrgX fun y hy => (List.mem_append.1 hy).elim (HTA.out.xs y) (fun h => HTB.out.xs y (List.mem_of_mem_take h)))
          replace mr : wr.rangeAt bk (off + j * 5) (Fc.xattrC y).toList := by rw [← hy]; exact mr
          have MR := Lib.hid mr
          have HN1 := Lib.hid (HN.out.low ((Below.refl wr.heap.size wr).alloc (Nat.le_refl _) (.cells (Fc.xattrC y) 77)))
          have HY1 := Lib.hid (Has.fresh wr 77 (Fc.xattrC y))
          have HRL := Lib.hid (show r.n = r.l.length from by have := HN.out.own.xs.1; exact (own_len HN.out.own.xs))
          have HRM := Lib.hid (show r.n ≤ 1000000 from by rw [HRL.out, HR.out]; refine Nat.le_trans (mrg_len _) ?_; simp only [List.length_append, List.length_take, List.length_nil]; have := HM.out; have := HLA.out; have := HLB.out; omega)
          have cc : (wr.alloc (.cells (Fc.xattrC y) 77)).cell? ⟨(w.heap.size + 1 + 1 + 1), 12, none⟩ = some (.slice r.A r.n r.c) := HN1.out.hc.at_ 12
          replace hA : b.A2 = some ⟨bk, off, none⟩ := hA
          rw [hA]
          clear mr hA hbl hxj hy HN HR
          go_wp2_with (first | ((with_reducible refine Who.wpList_loadC 77 (.tmp 88) rfl (bk) (off + j * 5) (Fc.xattrC y) ?_); refine And.intro ⟨by rfl, by rfl, ⟨_, Tryz.underlying77, rfl⟩, infoX⟩ (And.intro (MR.out) ?_)) | ((with_reducible refine Who.wpList_newC 77 13 (.tmp 89) rfl rfl rfl (zeroX) (Fc.xattrC y) ?_); refine And.intro ⟨rfl, rfl, rfl, allocX, by rfl, by rfl, infoX, rfl, oneX y⟩ ?_; (try simp only [World.size_alloc])) | ((with_reducible refine Who.wpList_loadC 77 (.tmp 13) rfl (wr.heap.size) 0 (Fc.xattrC y) ?_); refine And.intro ⟨by rfl, by rfl, ⟨_, Tryz.underlying77, rfl⟩, infoX⟩ (And.intro (Who.has_range HY1.out) ?_)) | fail)
          refine (rname_ins r.A r.n r.c r.l y _ ⟨HN1.out.own.xs.srow2 (fun _ => rfl) HRL.out, own_nil HN1.out.own.xs⟩ HRM.out HTR.out HTY.out).mono ?_
          rintro e w2 ⟨v, rfl, ho, hb⟩
          have HN2 := Lib.hid (HN1.out.low hb)
          have HO := Lib.hid (show OwnK w2 w.heap.size 77 5 Fc.xattrC v (mrgX (a.p.xs ++ b.p.xs.take (j + 1))) from by rw [← HST.out]; exact ho.mono HN1.out.below.size)
          clear ho hb HN1 HY1 HST HTY HTR HRM cc
          obtain ⟨A6, c6, hv, _⟩ := HO.out.any
          subst hv
          obtain ⟨l6, hl6⟩ : ∃ l6, l6 = mrgX (a.p.xs ++ b.p.xs.take (j + 1)) := ⟨_, rfl⟩
          rw [← hl6] at HO
          have HL6 := Lib.hid hl6
          rw [← hl6]
          clear hl6
          go_wp2_with (first | ((with_reducible refine wpList_cell (T := 46) 44 (.tmp 94) (.tmp 93) rfl (w.heap.size + 1 + 1 + 1) 12 (Fc.nodeC (nd a.p.id (max a.p.kind b.p.kind) t u z rp r)) (Fc.nodeC (nd a.p.id (max a.p.kind b.p.kind) t u z rp ⟨A6, l6.length, c6, l6⟩)) ((.slice A6 l6.length c6)) ?_); refine And.intro ⟨rfl, rfl, by rfl, by rfl, info_sx, rfl, of_decide_eq_true rfl, by kernel_rfl, HN2.out.hc⟩ ?_; intro W34 HX34 HC34) | fail)
          have HN3 := Lib.hid (HN2.out.put HX34.out HC34.out ⟨HN2.out.own.ps, HO.out⟩)
          go_wp2
          go_roundw
          case rel => exact ⟨j + 1, by go_num, by omega, ⟨A6, l6.length, c6, l6⟩, HL6, HN3⟩
          case measure => simp [intOf]; omega
         ·have hjn : j = b.n2 := by omega
          have HE := Lib.hid (show r.l = mrgX (a.p.xs ++ b.p.xs) from by rw [HR.out, hjn, HLB.out.2, List.take_length])
          clear HR hjn
          obtain ⟨v4, hwo⟩ : ∃ wo : World, wo = wr := ⟨_, rfl⟩
          subst hwo
          obtain ⟨rx, hro⟩ : ∃ ro : RowP Fc.XattrP, ro = r := ⟨_, rfl⟩
          subst hro
          have N4 := HN
          have E4 := HE
          clear HN HE
          go_wp2_with (first | ((with_reducible refine Who.wpList_loadC 46 (.tmp 5) rfl ((w.heap.size + 1 + 1 + 1)) 0 (Fc.nodeC (nd a.p.id (max a.p.kind b.p.kind) t u z rp rx)) ?_); refine And.intro ⟨by rfl, by rfl, ⟨_, Tryz.underlying46, rfl⟩, infoN⟩ (And.intro (Who.has_range N4.out.hc) ?_)) | ((with_reducible refine wpList_storeG 46 (.tmp 4) (.tmp 96) rfl (w.heap.size + 1 + 1) (zeroN) (Fc.nodeC (nd a.p.id (max a.p.kind b.p.kind) t u z rp rx)) ?_); refine And.intro ⟨rfl, by rfl, by rfl, infoN, oneN _, rfl, N4.out.hz⟩ ?_; intro W35 HX35 HC35) | fail)
          have HBF := Lib.hid (below_step N4.out.below HC35.out (by omega))
          have HOF := Lib.hid (N4.out.own.over N4.out.hz HC35.out)
          refine bodyPost_ret (v := .agg (Fc.nodeC (nd a.p.id (max a.p.kind b.p.kind) t u z rp rx))) (Who.results_cell (p := 4) (t := 46) rfl _ _ (w.heap.size + 1 + 1) 0 (Fc.nodeC (nd a.p.id (max a.p.kind b.p.kind) t u z rp rx)) _ (by rfl) (Who.has_range HX35.out) Tryz.underlying46 rfl infoN) rfl ?_
          refine ⟨nd a.p.id (max a.p.kind b.p.kind) t u z rp rx, rfl, ?_, HOF.out, HBF.out⟩
          unfold nd opN
          simp only [max_top, HOT.out, HU.out, HZ.out, E2.out, E4.out]
end Go.Proofs.YtblogecapegbmaaGreat.Jn
