/- An event as lines: the program's, the document's. -/
import Derived.Test.YtdbmnnmcelaehaaDoorSrC
namespace Go.Proofs.YtdbmnnmcelaehaaDoor.Sr
open Go.RowKit Go.Proofs.YtdbmnnmcelaehaaDoor.Mem Go.Proofs.YtdbmnnmcelaehaaDoor.Tx
open Go.Proofs.YtdbmnnmcelaehaaDoor.Fc (fitS NodeP LinkP NodeC PieceP XattrP nodeC linkC pieceC xattrC)
open Go.Proofs.YtdbmnnmcelaehaaDoor.Vc (vecC stC eq8 eqv neq_st)
set_option linter.unusedVariables false set_option linter.unusedSimpArgs false

theorem info_inode : (Tryd.prog.info? 62).map (·.size) = some 13 := by kernel_rfl
def zeroN : NodeC := ⟨⟨(0, 0), 0, ⟨#[]⟩, (0, 0), 0, 0, (0, 0), 0, [], []⟩, none, 0, 0, none, 0, 0⟩
def zeroL : LinkP := ⟨(0, 0), (0, 0), (0, 0), (0, 0), ⟨#[]⟩, fun _ => 0, fun _ => 0⟩
theorem alloc_inode (w : World) : (Instr.alloc 62 true (.tuple #[])).run Tryd.prog w = .ok (.pointer (some ⟨w.heap.size, 0, none⟩)) (w.alloc (.cells (nodeC zeroN) 62)) := by
  have hz := Tryd.zeroValue62
  go_simp
  rfl
theorem alloc_link (w : World) : (Instr.alloc 66 true (.tuple #[])).run Tryd.prog w = .ok (.pointer (some ⟨w.heap.size, 0, none⟩)) (w.alloc (.cells (linkC zeroL) 66)) := by
  have hz := Tryd.zeroValue66
  go_simp
  rfl
theorem inode_one (x : NodeC) : (nodeC x).all (·.oneCell') = true := by simp [nodeC, Value.oneCell']
theorem link_one (k : LinkP) : (linkC k).all (·.oneCell') = true := by simp [linkC, Value.oneCell']
theorem eat_range {w : World} {g : Nat} {t : TypeId} {e : Fc.EventC} (h : Has w g t (Fc.eventC e)) : w.rangeAt g 0 (#[.int .i64 e.at_.1, .int .i64 e.at_.2]).toList := fun j v hv => by
  match j, hv with
  | 0, hv => exact (h.at_ 0).trans hv
  | 1, hv => exact (h.at_ 1).trans hv
  | j + 2, hv => simp at hv
/-- The row's first text. -/
theorem HasI.first {t : TypeId} {cs : Array Value} {w wr : World} {b : ByteArray} (h : HasI t cs w wr (.slice none 0 0) []) : HasI t cs w (wr.alloc (.cells #[.string b] 9)) (.slice (some ⟨wr.heap.size, 0, none⟩) 1 1) [b] :=
  ⟨h.below.alloc h.below.size _, h.has.past _, ⟨rfl, .inr ⟨wr.heap.size, 1, #[.string b], rfl, h.big, Has.fresh wr _ _, Nat.le_refl _, by decide, rfl, rfl⟩⟩⟩
def headB (e : Fc.EventC) : ByteArray := ⟨#[101, 118, 101, 110, 116, 32]⟩ ++ stampB e.at_ ++ ⟨#[32, 118]⟩ ++ itoaB e.vol
def nodeLines (e : Fc.EventC) : List ByteArray := e.d.nodes.map fun x => lineB ⟨#[105, 110, 111, 100, 101]⟩ x.p.id (partsN x.p)
def linkLines (e : Fc.EventC) : List ByteArray := e.d.links.map fun k => lineB ⟨#[108, 105, 110, 107]⟩ k.id (partsL k)
def textE (e : Fc.EventC) : List ByteArray := [headB e] ++ nodeLines e ++ linkLines e
theorem nodes_next (e : Fc.EventC) (j : Nat) (h : j < e.d.nodes.length) : [headB e] ++ (nodeLines e).take (j + 1) = [headB e] ++ (nodeLines e).take j ++ [lineB ⟨#[105, 110, 111, 100, 101]⟩ e.d.nodes[j].p.id (partsN e.d.nodes[j].p)] := by
  unfold nodeLines
  rw [List.append_assoc, List.take_succ_eq_append_getElem (by rw [List.length_map]; exact h), List.getElem_map]
theorem links_next (e : Fc.EventC) (j : Nat) (h : j < e.d.links.length) : [headB e] ++ nodeLines e ++ (linkLines e).take (j + 1) = [headB e] ++ nodeLines e ++ (linkLines e).take j ++ [lineB ⟨#[108, 105, 110, 107]⟩ e.d.links[j].id (partsL e.d.links[j])] := by
  unfold linkLines
  rw [List.append_assoc ([headB e] ++ nodeLines e), List.take_succ_eq_append_getElem (by rw [List.length_map]; exact h), List.getElem_map]
theorem nodes_all (e : Fc.EventC) (h : e.d.n1 = e.d.nodes.length) : [headB e] ++ (nodeLines e).take e.d.n1 = [headB e] ++ nodeLines e := by
  rw [List.take_of_length_le (by unfold nodeLines; rw [List.length_map, h]; exact Nat.le_refl _)]
theorem links_all (e : Fc.EventC) (h : e.d.n2 = e.d.links.length) : [headB e] ++ nodeLines e ++ (linkLines e).take e.d.n2 = textE e := by
  rw [List.take_of_length_le (by unfold linkLines; rw [List.length_map, h]; exact Nat.le_refl _)]
  rfl
theorem lines_len1 {e : Fc.EventC} (h : Fc.BndS 1048576 e.d) (h1 : e.d.n1 = e.d.nodes.length) (h2 : e.d.n2 = e.d.links.length) (j : Nat) : ([headB e] ++ (nodeLines e).take j).length ≤ 4000000 := by
  refine take_len ?_ j
  have := h.1.1
  have h5 : (nodeLines e).length = e.d.nodes.length := by unfold nodeLines; rw [List.length_map]
  rw [h5, List.length_singleton]
  omega
theorem lines_len2 {e : Fc.EventC} (h : Fc.BndS 1048576 e.d) (h1 : e.d.n1 = e.d.nodes.length) (h2 : e.d.n2 = e.d.links.length) (j : Nat) : ([headB e] ++ nodeLines e ++ (linkLines e).take j).length ≤ 4000000 := by
  refine take_len ?_ j
  have := h.1.1
  have := h.1.2
  have h5 : (nodeLines e).length = e.d.nodes.length := by unfold nodeLines; rw [List.length_map]
  have h6 : (linkLines e).length = e.d.links.length := by unfold linkLines; rw [List.length_map]
  rw [List.length_append, h5, h6, List.length_singleton]
  omega
set_option maxRecDepth 100000 in
set_option maxHeartbeats 4000000 in
theorem text_any (e : Fc.EventC) (w : World) (he : Fc.EventFit w e) (hb : Fc.BndS 1048576 e.d) (hT : Tabs w) : Calls Tryd.prog 8 #[.agg (Fc.eventC e)] w fun q w' => ∃ u, q = .returned u ∧ OwnS w' (w.heap.size + 1) u (textE e) ∧ Below w.heap.size w w' := by
  have H0 := Lib.hid (HasI.start w 31 (Fc.eventC e))
  have HFX := Lib.hid (show ∀ V, Below w.heap.size w V → Fc.StateFit V e.d from fun V h => he.1.below h)
  have HNU := Lib.hid he.2.1
  have HBD := Lib.hid hb
  have HTT := Lib.hid (show ∀ V, Below w.heap.size w V → Tabs V from fun V h => hT.self h)
  have HSA := Lib.hid (fun V (h : Tabs V) => stamp_any e.at_ he.2.2.1 V h)
  have HVO := Lib.hid (fun V (h : Tabs V) => itoa_any e.vol he.2.2.2.1 V h)
  clear hT
  have s1 := stampB_size he.2.2.1
  have s2 := itoaB_size he.2.2.2.1
  have z1 : (⟨#[101, 118, 101, 110, 116, 32]⟩ : ByteArray).size = 6 := rfl
  have z2 : (⟨#[32, 118]⟩ : ByteArray).size = 2 := rfl
  obtain ⟨g1, eg1⟩ : ∃ g1 : ByteArray, g1 = (⟨#[101, 118, 101, 110, 116, 32]⟩ : ByteArray) ++ (stampB e.at_) := ⟨_, rfl⟩
  have fg1 := congrArg ByteArray.size eg1
  rw [ByteArray.size_append] at fg1
  have ag1 := fun W => run_string_add_sum (P := Tryd.prog) W (⟨#[101, 118, 101, 110, 116, 32]⟩ : ByteArray) (stampB e.at_) (by omega)
  rw [← eg1] at ag1
  obtain ⟨g2, eg2⟩ : ∃ g2 : ByteArray, g2 = g1 ++ (⟨#[32, 118]⟩ : ByteArray) := ⟨_, rfl⟩
  have fg2 := congrArg ByteArray.size eg2
  rw [ByteArray.size_append] at fg2
  have ag2 := fun W => run_string_add_sum (P := Tryd.prog) W g1 (⟨#[32, 118]⟩ : ByteArray) (by omega)
  rw [← eg2] at ag2
  obtain ⟨g3, eg3⟩ : ∃ g3 : ByteArray, g3 = g2 ++ (itoaB e.vol) := ⟨_, rfl⟩
  have fg3 := congrArg ByteArray.size eg3
  rw [ByteArray.size_append] at fg3
  have ag3 := fun W => run_string_add_sum (P := Tryd.prog) W g2 (itoaB e.vol) (by omega)
  rw [← eg3] at ag3
  have HG3 := Lib.hid (show g3 = headB e by unfold headB; rw [eg3, eg2, eg1])
  have HL1 := Lib.hid (show e.d.n1 = e.d.nodes.length from he.1.nodes.len.symm)
  have HL2 := Lib.hid (show e.d.n2 = e.d.links.length from he.1.links.len.symm)
  have m1 := he.1.m1
  have m2 := he.1.m2
  clear he hb s1 s2 z1 z2 fg1 fg2 fg3 eg1 eg2 eg3
  have HSK := Lib.hid (show ∀ V, Has V w.heap.size 31 (Fc.eventC e) → (V.rangeAt w.heap.size 0 #[.int .i64 e.at_.1, .int .i64 e.at_.2].toList ∧ V.cell? ⟨w.heap.size, 2, none⟩ = some (.int .i64 e.vol)) from fun V h => ⟨eat_range h, h.at_ 2⟩)
  go_enter Tryd.func8, Tryd.ntmps8
  go_wp2
  have HR0 := Lib.hid (H0.out.low ((Below.refl _ _).drew))
  refine wp_region_held_drew (S := fun V => V.rangeAt w.heap.size 0 #[.int .i64 e.at_.1, .int .i64 e.at_.2].toList ∧ V.cell? ⟨w.heap.size, 2, none⟩ = some (.int .i64 e.vol)) (by kernel_rfl) (HSK.out _ HR0.out.has) (fun hHeld => ?_)
  refine Vc.wpAnyH_read (i := 0) (d := some 8) (v := ?vy1) (by rfl) (by rfl) (by kernel_rfl) (by kernel_rfl) (by kernel_rfl) (fun _ _ _ h => h) (by rfl) ?hyy1 (by assumption) ?resty1
  case hyy1 =>
    intro w hSw
    obtain ⟨s0, s1⟩ := hSw
    go_simp
    try with_reducible rfl
  (try simp only [Act.put, List.setIfInBounds_toArray, List.set_cons_zero, List.set_cons_succ])
  refine Vc.wpAnyH_read (i := 1) (d := some 9) (v := .agg #[.int .i64 e.at_.1, .int .i64 e.at_.2]) (by rfl) (by rfl) (by kernel_rfl) (by kernel_rfl) (by kernel_rfl) (fun _ _ _ h => h) (by rfl) ?hyy2 (by assumption) ?resty2
  case hyy2 =>
    intro w hSw
    obtain ⟨s0, s1⟩ := hSw
    exact Who.exec_loadA _ rfl rfl s0 Tryd.underlying23 rfl info_st
  (try simp only [Act.put, List.setIfInBounds_toArray, List.set_cons_zero, List.set_cons_succ])
  refine Vc.wpAnyH_read (i := 5) (d := some 13) (v := ?vy3) (by rfl) (by rfl) (by kernel_rfl) (by kernel_rfl) (by kernel_rfl) (fun _ _ _ h => h) (by rfl) ?hyy3 (by assumption) ?resty3
  case hyy3 =>
    intro w hSw
    obtain ⟨s0, s1⟩ := hSw
    go_simp
    try with_reducible rfl
  (try simp only [Act.put, List.setIfInBounds_toArray, List.set_cons_zero, List.set_cons_succ])
  refine Vc.wpAnyH_read (i := 6) (d := some 14) (v := ?vy4) (by rfl) (by rfl) (by kernel_rfl) (by kernel_rfl) (by kernel_rfl) (fun _ _ _ h => h) (by rfl) ?hyy4 (by assumption) ?resty4
  case hyy4 =>
    intro w hSw
    obtain ⟨s0, s1⟩ := hSw
    go_simp
    try with_reducible rfl
  (try simp only [Act.put, List.setIfInBounds_toArray, List.set_cons_zero, List.set_cons_succ])
  refine wpAnyH_ready (rs := [2]) (by kernel_rfl) (by simp) ?_
  refine AllReadyH.cons rfl (fun K hK => ?_) AllReadyH.nil
  go_simp
  go_at_call 23
  refine (HSA.out _ (HTT.out _ HR0.out.below)).mono ?_
  rintro q w1 ⟨rfl, hb⟩
  have HR1 := Lib.hid (HR0.out.low hb)
  clear hb
  refine hK.out _ _ (HSK.out _ HR1.out.has) (fun hHeld => ?_)
  clear hK K
  (try simp only [Act.put, List.setIfInBounds_toArray, List.set_cons_zero, List.set_cons_succ])
  refine Vc.wpAnyH_read (i := 3) (d := some 11) (v := ?vy5) (by rfl) (by rfl) (by kernel_rfl) (by kernel_rfl) (by kernel_rfl) (fun _ _ _ h => h) (by rfl) ?hyy5 (by assumption) ?resty5
  case hyy5 =>
    intro w hSw
    obtain ⟨s0, s1⟩ := hSw
    go_simp
    try with_reducible rfl
  (try simp only [Act.put, List.setIfInBounds_toArray, List.set_cons_zero, List.set_cons_succ])
  refine Vc.wpAnyH_read (i := 4) (d := some 12) (v := ?vy6) (by rfl) (by rfl) (by kernel_rfl) (by kernel_rfl) (by kernel_rfl) (fun _ _ _ h => h) (by rfl) ?hyy6 (by assumption) ?resty6
  case hyy6 =>
    intro w hSw
    obtain ⟨s0, s1⟩ := hSw
    go_simp
    try with_reducible rfl
  (try simp only [Act.put, List.setIfInBounds_toArray, List.set_cons_zero, List.set_cons_succ])
  refine wpAnyH_ready (rs := [7]) (by kernel_rfl) (by simp) ?_
  refine AllReadyH.cons rfl (fun K hK => ?_) AllReadyH.nil
  go_simp
  go_at_call 24
  refine (HVO.out _ (HTT.out _ HR1.out.below)).mono ?_
  rintro q w2 ⟨rfl, hb⟩
  have HR2 := Lib.hid (HR1.out.low hb)
  clear hb
  refine hK.out _ _ (HSK.out _ HR2.out.has) (fun hHeld => ?_)
  clear hK K
  (try simp only [Act.put, List.setIfInBounds_toArray, List.set_cons_zero, List.set_cons_succ])
  refine Vc.wpAnyH_read (i := 8) (d := some 16) (v := ?vy7) (by rfl) (by rfl) (by kernel_rfl) (by kernel_rfl) (by kernel_rfl) (fun _ _ _ h => h) (by rfl) ?hyy7 (by assumption) ?resty7
  case hyy7 =>
    intro w hSw
    obtain ⟨s0, s1⟩ := hSw
    go_simp
    try with_reducible rfl
  (try simp only [Act.put, List.setIfInBounds_toArray, List.set_cons_zero, List.set_cons_succ])
  refine wpAnyH_ready (rs := [9]) (by kernel_rfl) (by simp) ?_
  refine AllReadyH.cons rfl (fun K hK => ?_) AllReadyH.nil
  have HR3 := Lib.hid (HR2.out.first (b := g3))
  go_simp
  refine hK.out _ _ (HSK.out _ HR3.out.has) (fun hHeld => ?_)
  clear hK K
  (try simp only [Act.put, List.setIfInBounds_toArray, List.set_cons_zero, List.set_cons_succ])
  refine Vc.wpAnyH_read (i := 10) (d := some 3) (v := ?vy8) (by rfl) (by rfl) (by kernel_rfl) (by kernel_rfl) (by kernel_rfl) (fun _ _ _ h => h) (by rfl) ?hyy8 (by assumption) ?resty8
  case hyy8 =>
    intro w hSw
    obtain ⟨s0, s1⟩ := hSw
    go_simp
    try with_reducible rfl
  (try simp only [Act.put, List.setIfInBounds_toArray, List.set_cons_zero, List.set_cons_succ])
  refine wpAnyH_done (by kernel_rfl) ?_ _
  clear HR0 HR1 HSA HVO
  have c5 : (w2.alloc (.cells #[.string g3] 9)).cell? ⟨w.heap.size, 19, none⟩ = some (.slice e.d.A1 e.d.n1 e.d.c1) := HR3.out.has.at_ 19
  have HGZ := Lib.hid (show [g3] = [headB e] by rw [HG3.out])
  clear HR2 ag1 ag2 ag3
  go_wp2
  go_loopw [3, 22] (fun a i wr => ∃ j : Nat, ∃ u : Value, j ≤ e.d.n1 ∧ i = .int .i64 j ∧ a = u ∧ Hid (HasI 31 (Fc.eventC e) w wr u ([headB e] ++ (nodeLines e).take j))) (fun _ i _ => e.d.n1 - (intOf i).toNat)
  case atStart => exact ⟨0, _, by omega, rfl, rfl, Lib.hid (by rw [List.take_zero, List.append_nil, ← HGZ.out]; exact HR3.out)⟩
  case round =>
    clear c5 HR3
    obtain ⟨j, u, hj, rfl, rfl, HI⟩ := hrel
    obtain ⟨A, n, c, rfl⟩ := HI.out.sl
    by_cases hlt : j < e.d.n1
    · have hlti : (j : Int) < e.d.n1 := by omega
      have HJ := Lib.hid hlt
      obtain ⟨b, off, hA, hbl, hx1, mr⟩ := (HFX.out _ HI.out.below).nodes.range hlt
      have HST := Lib.hid (nodes_next e j hx1)
      have HLE := Lib.hid (show ([headB e] ++ (nodeLines e).take j).length ≤ 4000000 from lines_len1 HBD.out HL1.out HL2.out j)
      have HF1 := Lib.hid ((HFX.out _ HI.out.below).each _ (List.getElem_mem hx1))
      have HF2 := Lib.hid (HNU.out.2.1 _ (List.getElem_mem hx1))
      have HF3 := Lib.hid (HBD.out.2.1 _ (List.getElem_mem hx1))
      obtain ⟨x, hp⟩ : ∃ x, x = e.d.nodes[j] := ⟨_, rfl⟩
      rw [← hp] at mr HST HF1 HF2 HF3
      obtain ⟨gl, hgl⟩ : ∃ gl, gl = lineB ⟨#[105, 110, 111, 100, 101]⟩ x.p.id (partsN x.p) := ⟨_, rfl⟩
      have HGL := Lib.hid hgl
      have HF4 := Lib.hid (show ∀ V, Below wr.heap.size wr V → Fc.NodeFit V x from fun V h => HF1.out.below h)
      have qln := fun (V : World) (B : Nat) (v : Value) (h1 : Tabs V) (h2 : OwnS V B v (partsN x.p)) => line_any ⟨#[105, 110, 111, 100, 101]⟩ (by decide) x.p.id HF2.out.1 B v (partsN x.p) (partsN_small HF2.out HF3.out) V h1 h2
      rw [← hgl] at qln
      have HLN := Lib.hid qln
      clear qln hgl
      have MR := Lib.hid mr
      obtain ⟨lq, hlq⟩ : ∃ lq, lq = [headB e] ++ (nodeLines e).take j := ⟨_, rfl⟩
      rw [← hlq] at HI HST HLE
      have HW := Lib.hid (HI.out.low ((Below.refl _ _).alloc (Nat.le_refl _) (.cells (nodeC x) 62)))
      have HN := Lib.hid (Has.fresh wr 62 (nodeC x))
      clear hj hlt hbl hx1 mr hp hlq
      rw [hA]
      have HSN := Lib.hid (show ∀ V, Has V wr.heap.size 62 (nodeC x) → (V.rangeAt wr.heap.size 0 #[.int .i64 x.p.id.1, .int .i64 x.p.id.2].toList ∧ V.rangeAt wr.heap.size 0 (nodeC x).toList) from fun V h => ⟨nid_range h, Who.has_range h⟩)
      go_wp2_with (first | ((with_reducible refine Who.wpList_loadC 62 (.tmp 24) rfl b (off + j * 13) (nodeC x) ?_); refine And.intro ⟨by rfl, by rfl, ⟨_, Tryd.underlying62, rfl⟩, info_inode⟩ (And.intro (MR.out) ?_); (try simp only [Act.put, List.setIfInBounds_toArray, List.set_cons_zero, List.set_cons_succ])) | ((with_reducible refine Who.wpList_newC 62 5 (.tmp 25) rfl rfl rfl (nodeC zeroN) (nodeC x) ?_); refine And.intro ⟨rfl, rfl, rfl, alloc_inode, by rfl, by rfl, info_inode, rfl, inode_one _⟩ ?_; (try simp only [Act.put, List.setIfInBounds_toArray, List.set_cons_zero, List.set_cons_succ]); (try simp only [World.size_alloc])) | fail)
      have HQ0 := Lib.hid (HW.out.low ((Below.refl _ _).drew))
      have HM0 := Lib.hid (HN.out.below ((Below.refl _ _).drew))
      refine wp_region_held_drew (S := fun V => V.rangeAt wr.heap.size 0 #[.int .i64 x.p.id.1, .int .i64 x.p.id.2].toList ∧ V.rangeAt wr.heap.size 0 (nodeC x).toList) (by kernel_rfl) (HSN.out _ HM0.out) (fun hHeld => ?_)
      refine Vc.wpAnyH_read (i := 0) (d := some 26) (v := ?vy9) (by rfl) (by rfl) (by kernel_rfl) (by kernel_rfl) (by kernel_rfl) (fun _ _ _ h => h) (by rfl) ?hyy9 (by assumption) ?resty9
      case hyy9 =>
        intro w hSw
        obtain ⟨s0, s1⟩ := hSw
        go_simp
        try with_reducible rfl
      (try simp only [Act.put, List.setIfInBounds_toArray, List.set_cons_zero, List.set_cons_succ])
      refine Vc.wpAnyH_read (i := 1) (d := some 27) (v := ?vy10) (by rfl) (by rfl) (by kernel_rfl) (by kernel_rfl) (by kernel_rfl) (fun _ _ _ h => h) (by rfl) ?hyy10 (by assumption) ?resty10
      case hyy10 =>
        intro w hSw
        obtain ⟨s0, s1⟩ := hSw
        go_simp
        try with_reducible rfl
      (try simp only [Act.put, List.setIfInBounds_toArray, List.set_cons_zero, List.set_cons_succ])
      refine Vc.wpAnyH_read (i := 2) (d := some 28) (v := .agg #[.int .i64 x.p.id.1, .int .i64 x.p.id.2]) (by rfl) (by rfl) (by kernel_rfl) (by kernel_rfl) (by kernel_rfl) (fun _ _ _ h => h) (by rfl) ?hyy11 (by assumption) ?resty11
      case hyy11 =>
        intro w hSw
        obtain ⟨s0, s1⟩ := hSw
        exact Who.exec_loadA _ rfl rfl s0 Tryd.underlying23 rfl info_st
      (try simp only [Act.put, List.setIfInBounds_toArray, List.set_cons_zero, List.set_cons_succ])
      refine Vc.wpAnyH_read (i := 3) (d := some 29) (v := .agg (nodeC x)) (by rfl) (by rfl) (by kernel_rfl) (by kernel_rfl) (by kernel_rfl) (fun _ _ _ h => h) (by rfl) ?hyy12 (by assumption) ?resty12
      case hyy12 =>
        intro w hSw
        obtain ⟨s0, s1⟩ := hSw
        exact Who.exec_loadA _ rfl rfl s1 Tryd.underlying62 rfl info_inode
      (try simp only [Act.put, List.setIfInBounds_toArray, List.set_cons_zero, List.set_cons_succ])
      refine wpAnyH_ready (rs := [4]) (by kernel_rfl) (by simp) ?_
      refine AllReadyH.cons rfl (fun K hK => ?_) AllReadyH.nil
      go_simp
      go_at_call 26
      refine (nodeParts_any x HF2.out HF3.out _ (HF4.out _ (Below.drew ((Below.refl _ _).alloc (Nat.le_refl _) (.cells (nodeC x) 62)))) (HTT.out _ HQ0.out.below)).mono ?_
      rintro q w3 ⟨v, rfl, hv, hb⟩
      have HQ1 := Lib.hid (HQ0.out.low hb)
      have HM1 := Lib.hid (HM0.out.below hb)
      have HV := Lib.hid hv
      clear hb hv
      refine hK.out _ _ (HSN.out _ HM1.out) (fun hHeld => ?_)
      clear hK K
      (try simp only [Act.put, List.setIfInBounds_toArray, List.set_cons_zero, List.set_cons_succ])
      refine wpAnyH_ready (rs := [5]) (by kernel_rfl) (by simp) ?_
      refine AllReadyH.cons rfl (fun K hK => ?_) AllReadyH.nil
      go_simp
      go_at_call 25
      refine (HLN.out _ _ _ (HTT.out _ HQ1.out.below) HV.out).mono ?_
      rintro q w4 ⟨rfl, hb⟩
      have HQ2 := Lib.hid (HQ1.out.low hb)
      have HM2 := Lib.hid (HM1.out.below hb)
      clear hb
      refine hK.out _ _ (HSN.out _ HM2.out) (fun hHeld => ?_)
      clear hK K
      (try simp only [Act.put, List.setIfInBounds_toArray, List.set_cons_zero, List.set_cons_succ])
      refine wpAnyH_ready (rs := [6]) (by kernel_rfl) (by simp) ?_
      refine AllReadyH.cons rfl (fun K hK => ?_) AllReadyH.nil
      have HM3 := Lib.hid (HM2.out.past (.cells #[.string gl] 9))
      go_simp
      refine hK.out _ _ (HSN.out _ HM3.out) (fun hHeld => ?_)
      clear hK K
      (try simp only [Act.put, List.setIfInBounds_toArray, List.set_cons_zero, List.set_cons_succ])
      refine wpAnyH_ready (rs := [7]) (by kernel_rfl) (by simp) ?_
      refine AllReadyH.cons rfl (fun K hK => ?_) AllReadyH.nil
      refine step_text (B := w.heap.size + 1) (u := .slice A n c) (l := lq) (.tmp 26) (.tmp 32) (by rfl) (by rfl) ⟨⟨⟨by rfl, ⟨_, by rfl, by simp⟩⟩, HQ2.out.row, HQ2.out.big, HLE.out⟩, fun u1 wz hg => ?_⟩
      have HQ3 := Lib.hid (HQ2.out.grew hg)
      have HM4 := Lib.hid (HM2.out.over hg.chg (fun e => by have h1 := (World.ownsRow.lt HI.out.row _ e).1; have h2 := (World.ownsRow.lt HI.out.row _ e).2; omega))
      clear hg
      refine hK.out _ _ (HSN.out _ HM4.out) (fun hHeld => ?_)
      clear hK K
      (try simp only [Act.put, List.setIfInBounds_toArray, List.set_cons_zero, List.set_cons_succ])
      refine Vc.wpAnyH_read (i := 8) (d := some 3) (v := ?vy13) (by rfl) (by rfl) (by kernel_rfl) (by kernel_rfl) (by kernel_rfl) (fun _ _ _ h => h) (by rfl) ?hyy13 (by assumption) ?resty13
      case hyy13 =>
        intro w hSw
        obtain ⟨s0, s1⟩ := hSw
        go_simp
        try with_reducible rfl
      (try simp only [Act.put, List.setIfInBounds_toArray, List.set_cons_zero, List.set_cons_succ])
      refine wpAnyH_done (by kernel_rfl) ?_ _
      have HQ4 := Lib.hid (show HasI 31 (Fc.eventC e) w wz u1 ([headB e] ++ (nodeLines e).take (j + 1)) by rw [HST.out, ← HGL.out]; exact HQ3.out)
      go_wp2
      go_roundw
      case rel => exact ⟨j + 1, _, HJ.out, by go_num, rfl, HQ4⟩
      case measure => have := HJ.out; simp [intOf]; omega
    · obtain rfl : j = e.d.n1 := by omega
      have HE := Lib.hid (show HasI 31 (Fc.eventC e) w wr (.slice A n c) ([headB e] ++ nodeLines e) by have q := HI.out; rw [nodes_all e HL1.out] at q; exact q)
      have c6 : wr.cell? ⟨w.heap.size, 20, none⟩ = some (.slice e.d.A2 e.d.n2 e.d.c2) := HE.out.has.at_ 20
      clear HI hj hlt
      go_wp2
      go_loopw [3, 39] (fun a i wr => ∃ j : Nat, ∃ u : Value, j ≤ e.d.n2 ∧ i = .int .i64 j ∧ a = u ∧ Hid (HasI 31 (Fc.eventC e) w wr u ([headB e] ++ nodeLines e ++ (linkLines e).take j))) (fun _ i _ => e.d.n2 - (intOf i).toNat)
      case atStart => exact ⟨0, _, by omega, rfl, rfl, Lib.hid (by rw [List.take_zero, List.append_nil]; exact HE.out)⟩
      case round =>
        clear c6 HE
        obtain ⟨j, u, hj, rfl, rfl, HI⟩ := hrel
        obtain ⟨A, n, c, rfl⟩ := HI.out.sl
        by_cases hlt : j < e.d.n2
        · have hlti : (j : Int) < e.d.n2 := by omega
          have HJ := Lib.hid hlt
          obtain ⟨b, off, hA, hbl, hx1, mr⟩ := (HFX.out _ HI.out.below).links.range hlt
          have HST := Lib.hid (links_next e j hx1)
          have HLE := Lib.hid (show ([headB e] ++ nodeLines e ++ (linkLines e).take j).length ≤ 4000000 from lines_len2 HBD.out HL1.out HL2.out j)
          have HF2 := Lib.hid (HNU.out.2.2 _ (List.getElem_mem hx1))
          have HF3 := Lib.hid (HBD.out.2.2 _ (List.getElem_mem hx1))
          obtain ⟨x, hp⟩ : ∃ x, x = e.d.links[j] := ⟨_, rfl⟩
          rw [← hp] at mr HST HF2 HF3
          obtain ⟨gl, hgl⟩ : ∃ gl, gl = lineB ⟨#[108, 105, 110, 107]⟩ x.id (partsL x) := ⟨_, rfl⟩
          have HGL := Lib.hid hgl
          have qln := fun (V : World) (B : Nat) (v : Value) (h1 : Tabs V) (h2 : OwnS V B v (partsL x)) => line_any ⟨#[108, 105, 110, 107]⟩ (by decide) x.id HF2.out.1 B v (partsL x) (partsL_small HF2.out HF3.out) V h1 h2
          rw [← hgl] at qln
          have HLN := Lib.hid qln
          clear qln hgl
          have MR := Lib.hid mr
          obtain ⟨lq, hlq⟩ : ∃ lq, lq = [headB e] ++ nodeLines e ++ (linkLines e).take j := ⟨_, rfl⟩
          rw [← hlq] at HI HST HLE
          have HW := Lib.hid (HI.out.low ((Below.refl _ _).alloc (Nat.le_refl _) (.cells (linkC x) 66)))
          have HN := Lib.hid (Has.fresh wr 66 (linkC x))
          clear hj hlt hbl hx1 mr hp hlq
          rw [hA]
          have HSN := Lib.hid (show ∀ V, Has V wr.heap.size 66 (linkC x) → (V.rangeAt wr.heap.size 0 #[.int .i64 x.id.1, .int .i64 x.id.2].toList ∧ V.rangeAt wr.heap.size 0 (linkC x).toList) from fun V h => ⟨id_range h, Who.has_range h⟩)
          go_wp2_with (first | ((with_reducible refine Who.wpList_loadC 66 (.tmp 41) rfl b (off + j * 25) (linkC x) ?_); refine And.intro ⟨by rfl, by rfl, ⟨_, Tryd.underlying66, rfl⟩, info_link⟩ (And.intro (MR.out) ?_); (try simp only [Act.put, List.setIfInBounds_toArray, List.set_cons_zero, List.set_cons_succ])) | ((with_reducible refine Who.wpList_newC 66 7 (.tmp 42) rfl rfl rfl (linkC zeroL) (linkC x) ?_); refine And.intro ⟨rfl, rfl, rfl, alloc_link, by rfl, by rfl, info_link, rfl, link_one _⟩ ?_; (try simp only [Act.put, List.setIfInBounds_toArray, List.set_cons_zero, List.set_cons_succ]); (try simp only [World.size_alloc])) | fail)
          have HQ0 := Lib.hid (HW.out.low ((Below.refl _ _).drew))
          have HM0 := Lib.hid (HN.out.below ((Below.refl _ _).drew))
          refine wp_region_held_drew (S := fun V => V.rangeAt wr.heap.size 0 #[.int .i64 x.id.1, .int .i64 x.id.2].toList ∧ V.rangeAt wr.heap.size 0 (linkC x).toList) (by kernel_rfl) (HSN.out _ HM0.out) (fun hHeld => ?_)
          refine Vc.wpAnyH_read (i := 0) (d := some 43) (v := ?vy14) (by rfl) (by rfl) (by kernel_rfl) (by kernel_rfl) (by kernel_rfl) (fun _ _ _ h => h) (by rfl) ?hyy14 (by assumption) ?resty14
          case hyy14 =>
            intro w hSw
            obtain ⟨s0, s1⟩ := hSw
            go_simp
            try with_reducible rfl
          (try simp only [Act.put, List.setIfInBounds_toArray, List.set_cons_zero, List.set_cons_succ])
          refine Vc.wpAnyH_read (i := 1) (d := some 44) (v := ?vy15) (by rfl) (by rfl) (by kernel_rfl) (by kernel_rfl) (by kernel_rfl) (fun _ _ _ h => h) (by rfl) ?hyy15 (by assumption) ?resty15
          case hyy15 =>
            intro w hSw
            obtain ⟨s0, s1⟩ := hSw
            go_simp
            try with_reducible rfl
          (try simp only [Act.put, List.setIfInBounds_toArray, List.set_cons_zero, List.set_cons_succ])
          refine Vc.wpAnyH_read (i := 2) (d := some 45) (v := .agg #[.int .i64 x.id.1, .int .i64 x.id.2]) (by rfl) (by rfl) (by kernel_rfl) (by kernel_rfl) (by kernel_rfl) (fun _ _ _ h => h) (by rfl) ?hyy16 (by assumption) ?resty16
          case hyy16 =>
            intro w hSw
            obtain ⟨s0, s1⟩ := hSw
            exact Who.exec_loadA _ rfl rfl s0 Tryd.underlying23 rfl info_st
          (try simp only [Act.put, List.setIfInBounds_toArray, List.set_cons_zero, List.set_cons_succ])
          refine Vc.wpAnyH_read (i := 3) (d := some 46) (v := .agg (linkC x)) (by rfl) (by rfl) (by kernel_rfl) (by kernel_rfl) (by kernel_rfl) (fun _ _ _ h => h) (by rfl) ?hyy17 (by assumption) ?resty17
          case hyy17 =>
            intro w hSw
            obtain ⟨s0, s1⟩ := hSw
            exact Who.exec_loadA _ rfl rfl s1 Tryd.underlying66 rfl info_link
          (try simp only [Act.put, List.setIfInBounds_toArray, List.set_cons_zero, List.set_cons_succ])
          refine wpAnyH_ready (rs := [4]) (by kernel_rfl) (by simp) ?_
          refine AllReadyH.cons rfl (fun K hK => ?_) AllReadyH.nil
          go_simp
          go_at_call 27
          refine (linkParts_any x HF2.out HF3.out _ (HTT.out _ HQ0.out.below)).mono ?_
          rintro q w3 ⟨v, rfl, hv, hb⟩
          have HQ1 := Lib.hid (HQ0.out.low hb)
          have HM1 := Lib.hid (HM0.out.below hb)
          have HV := Lib.hid hv
          clear hb hv
          refine hK.out _ _ (HSN.out _ HM1.out) (fun hHeld => ?_)
          clear hK K
          (try simp only [Act.put, List.setIfInBounds_toArray, List.set_cons_zero, List.set_cons_succ])
          refine wpAnyH_ready (rs := [5]) (by kernel_rfl) (by simp) ?_
          refine AllReadyH.cons rfl (fun K hK => ?_) AllReadyH.nil
          go_simp
          go_at_call 25
          refine (HLN.out _ _ _ (HTT.out _ HQ1.out.below) HV.out).mono ?_
          rintro q w4 ⟨rfl, hb⟩
          have HQ2 := Lib.hid (HQ1.out.low hb)
          have HM2 := Lib.hid (HM1.out.below hb)
          clear hb
          refine hK.out _ _ (HSN.out _ HM2.out) (fun hHeld => ?_)
          clear hK K
          (try simp only [Act.put, List.setIfInBounds_toArray, List.set_cons_zero, List.set_cons_succ])
          refine wpAnyH_ready (rs := [6]) (by kernel_rfl) (by simp) ?_
          refine AllReadyH.cons rfl (fun K hK => ?_) AllReadyH.nil
          have HM3 := Lib.hid (HM2.out.past (.cells #[.string gl] 9))
          go_simp
          refine hK.out _ _ (HSN.out _ HM3.out) (fun hHeld => ?_)
          clear hK K
          (try simp only [Act.put, List.setIfInBounds_toArray, List.set_cons_zero, List.set_cons_succ])
          refine wpAnyH_ready (rs := [7]) (by kernel_rfl) (by simp) ?_
          refine AllReadyH.cons rfl (fun K hK => ?_) AllReadyH.nil
          refine step_text (B := w.heap.size + 1) (u := .slice A n c) (l := lq) (.tmp 43) (.tmp 49) (by rfl) (by rfl) ⟨⟨⟨by rfl, ⟨_, by rfl, by simp⟩⟩, HQ2.out.row, HQ2.out.big, HLE.out⟩, fun u1 wz hg => ?_⟩
          have HQ3 := Lib.hid (HQ2.out.grew hg)
          have HM4 := Lib.hid (HM2.out.over hg.chg (fun e => by have h1 := (World.ownsRow.lt HI.out.row _ e).1; have h2 := (World.ownsRow.lt HI.out.row _ e).2; omega))
          clear hg
          refine hK.out _ _ (HSN.out _ HM4.out) (fun hHeld => ?_)
          clear hK K
          (try simp only [Act.put, List.setIfInBounds_toArray, List.set_cons_zero, List.set_cons_succ])
          refine Vc.wpAnyH_read (i := 8) (d := some 3) (v := ?vy18) (by rfl) (by rfl) (by kernel_rfl) (by kernel_rfl) (by kernel_rfl) (fun _ _ _ h => h) (by rfl) ?hyy18 (by assumption) ?resty18
          case hyy18 =>
            intro w hSw
            obtain ⟨s0, s1⟩ := hSw
            go_simp
            try with_reducible rfl
          (try simp only [Act.put, List.setIfInBounds_toArray, List.set_cons_zero, List.set_cons_succ])
          refine wpAnyH_done (by kernel_rfl) ?_ _
          have HQ4 := Lib.hid (show HasI 31 (Fc.eventC e) w wz u1 ([headB e] ++ nodeLines e ++ (linkLines e).take (j + 1)) by rw [HST.out, ← HGL.out]; exact HQ3.out)
          go_wp2
          go_roundw
          case rel => exact ⟨j + 1, _, HJ.out, by go_num, rfl, HQ4⟩
          case measure => have := HJ.out; simp [intOf]; omega
        · obtain rfl : j = e.d.n2 := by omega
          have HE := Lib.hid (show HasI 31 (Fc.eventC e) w wr (.slice A n c) (textE e) by have q := HI.out; rw [links_all e HL2.out] at q; exact q)
          clear HI hj hlt
          go_wp2
          refine bodyPost_ret (v := .slice A n c) (by simp [results, Tryd.results8, go_sem]) rfl ⟨_, rfl, HE.out.row, HE.out.below⟩
set_option maxRecDepth 100000 in
set_option maxHeartbeats 4000000 in
theorem rtext_any (e : Fc.EventC) (w : World) (he : Fc.EventFit w e) (hb : Fc.BndS 1048576 e.d) : Calls Tryd.prog 9 #[.agg (Fc.eventC e)] w fun q w' => ∃ u, q = .returned u ∧ OwnS w' (w.heap.size + 1) u (textE e) ∧ Below w.heap.size w w' := by
  have H0 := Lib.hid (HasI.start w 31 (Fc.eventC e))
  have HFX := Lib.hid (show ∀ V, Below w.heap.size w V → Fc.StateFit V e.d from fun V h => he.1.below h)
  have HNU := Lib.hid he.2.1
  have HBD := Lib.hid hb
  have HSA := Lib.hid (fun V => rstamp_any e.at_ he.2.2.1 V)
  have HVO := Lib.hid (fun V => digits_any e.vol he.2.2.2.1 V)
  have s1 := stampB_size he.2.2.1
  have s2 := itoaB_size he.2.2.2.1
  have z1 : (⟨#[101, 118, 101, 110, 116, 32]⟩ : ByteArray).size = 6 := rfl
  have z2 : (⟨#[32, 118]⟩ : ByteArray).size = 2 := rfl
  obtain ⟨g1, eg1⟩ : ∃ g1 : ByteArray, g1 = (⟨#[101, 118, 101, 110, 116, 32]⟩ : ByteArray) ++ (stampB e.at_) := ⟨_, rfl⟩
  have fg1 := congrArg ByteArray.size eg1
  rw [ByteArray.size_append] at fg1
  have ag1 := fun W => run_string_add_sum (P := Tryd.prog) W (⟨#[101, 118, 101, 110, 116, 32]⟩ : ByteArray) (stampB e.at_) (by omega)
  rw [← eg1] at ag1
  obtain ⟨g2, eg2⟩ : ∃ g2 : ByteArray, g2 = g1 ++ (⟨#[32, 118]⟩ : ByteArray) := ⟨_, rfl⟩
  have fg2 := congrArg ByteArray.size eg2
  rw [ByteArray.size_append] at fg2
  have ag2 := fun W => run_string_add_sum (P := Tryd.prog) W g1 (⟨#[32, 118]⟩ : ByteArray) (by omega)
  rw [← eg2] at ag2
  obtain ⟨g3, eg3⟩ : ∃ g3 : ByteArray, g3 = g2 ++ (itoaB e.vol) := ⟨_, rfl⟩
  have fg3 := congrArg ByteArray.size eg3
  rw [ByteArray.size_append] at fg3
  have ag3 := fun W => run_string_add_sum (P := Tryd.prog) W g2 (itoaB e.vol) (by omega)
  rw [← eg3] at ag3
  have HG3 := Lib.hid (show g3 = headB e by unfold headB; rw [eg3, eg2, eg1])
  have HL1 := Lib.hid (show e.d.n1 = e.d.nodes.length from he.1.nodes.len.symm)
  have HL2 := Lib.hid (show e.d.n2 = e.d.links.length from he.1.links.len.symm)
  have m1 := he.1.m1
  have m2 := he.1.m2
  clear he hb s1 s2 z1 z2 fg1 fg2 fg3 eg1 eg2 eg3
  have HSK := Lib.hid (show ∀ V, Has V w.heap.size 31 (Fc.eventC e) → (V.rangeAt w.heap.size 0 #[.int .i64 e.at_.1, .int .i64 e.at_.2].toList ∧ V.cell? ⟨w.heap.size, 2, none⟩ = some (.int .i64 e.vol)) from fun V h => ⟨eat_range h, h.at_ 2⟩)
  go_enter Tryd.func9, Tryd.ntmps9
  go_wp2
  have HR0 := Lib.hid (H0.out.low ((Below.refl _ _).drew))
  refine wp_region_held_drew (S := fun V => V.rangeAt w.heap.size 0 #[.int .i64 e.at_.1, .int .i64 e.at_.2].toList ∧ V.cell? ⟨w.heap.size, 2, none⟩ = some (.int .i64 e.vol)) (by kernel_rfl) (HSK.out _ HR0.out.has) (fun hHeld => ?_)
  refine Vc.wpAnyH_read (i := 0) (d := some 8) (v := ?vy19) (by rfl) (by rfl) (by kernel_rfl) (by kernel_rfl) (by kernel_rfl) (fun _ _ _ h => h) (by rfl) ?hyy19 (by assumption) ?resty19
  case hyy19 =>
    intro w hSw
    obtain ⟨s0, s1⟩ := hSw
    go_simp
    try with_reducible rfl
  (try simp only [Act.put, List.setIfInBounds_toArray, List.set_cons_zero, List.set_cons_succ])
  refine Vc.wpAnyH_read (i := 1) (d := some 9) (v := .agg #[.int .i64 e.at_.1, .int .i64 e.at_.2]) (by rfl) (by rfl) (by kernel_rfl) (by kernel_rfl) (by kernel_rfl) (fun _ _ _ h => h) (by rfl) ?hyy20 (by assumption) ?resty20
  case hyy20 =>
    intro w hSw
    obtain ⟨s0, s1⟩ := hSw
    exact Who.exec_loadA _ rfl rfl s0 Tryd.underlying23 rfl info_st
  (try simp only [Act.put, List.setIfInBounds_toArray, List.set_cons_zero, List.set_cons_succ])
  refine Vc.wpAnyH_read (i := 5) (d := some 13) (v := ?vy21) (by rfl) (by rfl) (by kernel_rfl) (by kernel_rfl) (by kernel_rfl) (fun _ _ _ h => h) (by rfl) ?hyy21 (by assumption) ?resty21
  case hyy21 =>
    intro w hSw
    obtain ⟨s0, s1⟩ := hSw
    go_simp
    try with_reducible rfl
  (try simp only [Act.put, List.setIfInBounds_toArray, List.set_cons_zero, List.set_cons_succ])
  refine Vc.wpAnyH_read (i := 6) (d := some 14) (v := ?vy22) (by rfl) (by rfl) (by kernel_rfl) (by kernel_rfl) (by kernel_rfl) (fun _ _ _ h => h) (by rfl) ?hyy22 (by assumption) ?resty22
  case hyy22 =>
    intro w hSw
    obtain ⟨s0, s1⟩ := hSw
    go_simp
    try with_reducible rfl
  (try simp only [Act.put, List.setIfInBounds_toArray, List.set_cons_zero, List.set_cons_succ])
  refine wpAnyH_ready (rs := [2]) (by kernel_rfl) (by simp) ?_
  refine AllReadyH.cons rfl (fun K hK => ?_) AllReadyH.nil
  go_simp
  go_at_call 28
  refine (HSA.out _).mono ?_
  rintro q w1 ⟨rfl, hb⟩
  have HR1 := Lib.hid (HR0.out.low hb)
  clear hb
  refine hK.out _ _ (HSK.out _ HR1.out.has) (fun hHeld => ?_)
  clear hK K
  (try simp only [Act.put, List.setIfInBounds_toArray, List.set_cons_zero, List.set_cons_succ])
  refine Vc.wpAnyH_read (i := 3) (d := some 11) (v := ?vy23) (by rfl) (by rfl) (by kernel_rfl) (by kernel_rfl) (by kernel_rfl) (fun _ _ _ h => h) (by rfl) ?hyy23 (by assumption) ?resty23
  case hyy23 =>
    intro w hSw
    obtain ⟨s0, s1⟩ := hSw
    go_simp
    try with_reducible rfl
  (try simp only [Act.put, List.setIfInBounds_toArray, List.set_cons_zero, List.set_cons_succ])
  refine Vc.wpAnyH_read (i := 4) (d := some 12) (v := ?vy24) (by rfl) (by rfl) (by kernel_rfl) (by kernel_rfl) (by kernel_rfl) (fun _ _ _ h => h) (by rfl) ?hyy24 (by assumption) ?resty24
  case hyy24 =>
    intro w hSw
    obtain ⟨s0, s1⟩ := hSw
    go_simp
    try with_reducible rfl
  (try simp only [Act.put, List.setIfInBounds_toArray, List.set_cons_zero, List.set_cons_succ])
  refine wpAnyH_ready (rs := [7]) (by kernel_rfl) (by simp) ?_
  refine AllReadyH.cons rfl (fun K hK => ?_) AllReadyH.nil
  go_simp
  go_at_call 29
  refine (HVO.out _).mono ?_
  rintro q w2 ⟨rfl, hb⟩
  have HR2 := Lib.hid (HR1.out.low hb)
  clear hb
  refine hK.out _ _ (HSK.out _ HR2.out.has) (fun hHeld => ?_)
  clear hK K
  (try simp only [Act.put, List.setIfInBounds_toArray, List.set_cons_zero, List.set_cons_succ])
  refine Vc.wpAnyH_read (i := 8) (d := some 16) (v := ?vy25) (by rfl) (by rfl) (by kernel_rfl) (by kernel_rfl) (by kernel_rfl) (fun _ _ _ h => h) (by rfl) ?hyy25 (by assumption) ?resty25
  case hyy25 =>
    intro w hSw
    obtain ⟨s0, s1⟩ := hSw
    go_simp
    try with_reducible rfl
  (try simp only [Act.put, List.setIfInBounds_toArray, List.set_cons_zero, List.set_cons_succ])
  refine wpAnyH_ready (rs := [9]) (by kernel_rfl) (by simp) ?_
  refine AllReadyH.cons rfl (fun K hK => ?_) AllReadyH.nil
  have HR3 := Lib.hid (HR2.out.first (b := g3))
  go_simp
  refine hK.out _ _ (HSK.out _ HR3.out.has) (fun hHeld => ?_)
  clear hK K
  (try simp only [Act.put, List.setIfInBounds_toArray, List.set_cons_zero, List.set_cons_succ])
  refine Vc.wpAnyH_read (i := 10) (d := some 3) (v := ?vy26) (by rfl) (by rfl) (by kernel_rfl) (by kernel_rfl) (by kernel_rfl) (fun _ _ _ h => h) (by rfl) ?hyy26 (by assumption) ?resty26
  case hyy26 =>
    intro w hSw
    obtain ⟨s0, s1⟩ := hSw
    go_simp
    try with_reducible rfl
  (try simp only [Act.put, List.setIfInBounds_toArray, List.set_cons_zero, List.set_cons_succ])
  refine wpAnyH_done (by kernel_rfl) ?_ _
  clear HR0 HR1 HSA HVO
  have c5 : (w2.alloc (.cells #[.string g3] 9)).cell? ⟨w.heap.size, 19, none⟩ = some (.slice e.d.A1 e.d.n1 e.d.c1) := HR3.out.has.at_ 19
  have HGZ := Lib.hid (show [g3] = [headB e] by rw [HG3.out])
  clear HR2 ag1 ag2 ag3
  go_wp2
  go_loopw [3, 22] (fun a i wr => ∃ j : Nat, ∃ u : Value, j ≤ e.d.n1 ∧ i = .int .i64 j ∧ a = u ∧ Hid (HasI 31 (Fc.eventC e) w wr u ([headB e] ++ (nodeLines e).take j))) (fun _ i _ => e.d.n1 - (intOf i).toNat)
  case atStart => exact ⟨0, _, by omega, rfl, rfl, Lib.hid (by rw [List.take_zero, List.append_nil, ← HGZ.out]; exact HR3.out)⟩
  case round =>
    clear c5 HR3
    obtain ⟨j, u, hj, rfl, rfl, HI⟩ := hrel
    obtain ⟨A, n, c, rfl⟩ := HI.out.sl
    by_cases hlt : j < e.d.n1
    · have hlti : (j : Int) < e.d.n1 := by omega
      have HJ := Lib.hid hlt
      obtain ⟨b, off, hA, hbl, hx1, mr⟩ := (HFX.out _ HI.out.below).nodes.range hlt
      have HST := Lib.hid (nodes_next e j hx1)
      have HLE := Lib.hid (show ([headB e] ++ (nodeLines e).take j).length ≤ 4000000 from lines_len1 HBD.out HL1.out HL2.out j)
      have HF1 := Lib.hid ((HFX.out _ HI.out.below).each _ (List.getElem_mem hx1))
      have HF2 := Lib.hid (HNU.out.2.1 _ (List.getElem_mem hx1))
      have HF3 := Lib.hid (HBD.out.2.1 _ (List.getElem_mem hx1))
      obtain ⟨x, hp⟩ : ∃ x, x = e.d.nodes[j] := ⟨_, rfl⟩
      rw [← hp] at mr HST HF1 HF2 HF3
      obtain ⟨gl, hgl⟩ : ∃ gl, gl = lineB ⟨#[105, 110, 111, 100, 101]⟩ x.p.id (partsN x.p) := ⟨_, rfl⟩
      have HGL := Lib.hid hgl
      have HF4 := Lib.hid (show ∀ V, Below wr.heap.size wr V → Fc.NodeFit V x from fun V h => HF1.out.below h)
      have qln := fun (V : World) (h : Fc.NodeFit V x) => rinode_any x HF2.out HF3.out V h
      rw [← hgl] at qln
      have HLN := Lib.hid qln
      clear qln hgl
      have MR := Lib.hid mr
      obtain ⟨lq, hlq⟩ : ∃ lq, lq = [headB e] ++ (nodeLines e).take j := ⟨_, rfl⟩
      rw [← hlq] at HI HST HLE
      have HW := Lib.hid (HI.out.low ((Below.refl _ _).alloc (Nat.le_refl _) (.cells (nodeC x) 62)))
      have HN := Lib.hid (Has.fresh wr 62 (nodeC x))
      clear hj hlt hbl hx1 mr hp hlq
      rw [hA]
      go_wp2_with (first | ((with_reducible refine Who.wpList_loadC 62 (.tmp 24) rfl b (off + j * 13) (nodeC x) ?_); refine And.intro ⟨by rfl, by rfl, ⟨_, Tryd.underlying62, rfl⟩, info_inode⟩ (And.intro (MR.out) ?_); (try simp only [Act.put, List.setIfInBounds_toArray, List.set_cons_zero, List.set_cons_succ])) | ((with_reducible refine Who.wpList_newC 62 5 (.tmp 25) rfl rfl rfl (nodeC zeroN) (nodeC x) ?_); refine And.intro ⟨rfl, rfl, rfl, alloc_inode, by rfl, by rfl, info_inode, rfl, inode_one _⟩ ?_; (try simp only [Act.put, List.setIfInBounds_toArray, List.set_cons_zero, List.set_cons_succ]); (try simp only [World.size_alloc])) | ((with_reducible refine Who.wpList_loadC 62 (.tmp 5) rfl wr.heap.size 0 (nodeC x) ?_); refine And.intro ⟨by rfl, by rfl, ⟨_, Tryd.underlying62, rfl⟩, info_inode⟩ (And.intro (Who.has_range HN.out) ?_); (try simp only [Act.put, List.setIfInBounds_toArray, List.set_cons_zero, List.set_cons_succ])) | fail)
      refine (HLN.out _ (HF4.out _ ((Below.refl _ _).alloc (Nat.le_refl _) (.cells (nodeC x) 62)))).mono ?_
      rintro q w3 ⟨rfl, hb⟩
      have HQ2 := Lib.hid (HW.out.low hb)
      clear hb
      go_wp2_with (at_builtin; (with_reducible refine wpl_text (B := w.heap.size + 1) (u := .slice A n c) (l := lq) (.tmp 26) (.tmp 29) rfl rfl ?_); refine And.intro ⟨⟨by rfl, ⟨_, by rfl, by simp⟩⟩, HQ2.out.row, HQ2.out.big, HLE.out⟩ ?_)
      intro u1 wz hg
      have HQ3 := Lib.hid (HQ2.out.grew hg)
      clear hg
      have HQ4 := Lib.hid (show HasI 31 (Fc.eventC e) w wz u1 ([headB e] ++ (nodeLines e).take (j + 1)) by rw [HST.out, ← HGL.out]; exact HQ3.out)
      go_wp2
      go_roundw
      case rel => exact ⟨j + 1, _, HJ.out, by go_num, rfl, HQ4⟩
      case measure => have := HJ.out; simp [intOf]; omega
    · obtain rfl : j = e.d.n1 := by omega
      have HE := Lib.hid (show HasI 31 (Fc.eventC e) w wr (.slice A n c) ([headB e] ++ nodeLines e) by have q := HI.out; rw [nodes_all e HL1.out] at q; exact q)
      have c6 : wr.cell? ⟨w.heap.size, 20, none⟩ = some (.slice e.d.A2 e.d.n2 e.d.c2) := HE.out.has.at_ 20
      clear HI hj hlt
      go_wp2
      go_loopw [3, 36] (fun a i wr => ∃ j : Nat, ∃ u : Value, j ≤ e.d.n2 ∧ i = .int .i64 j ∧ a = u ∧ Hid (HasI 31 (Fc.eventC e) w wr u ([headB e] ++ nodeLines e ++ (linkLines e).take j))) (fun _ i _ => e.d.n2 - (intOf i).toNat)
      case atStart => exact ⟨0, _, by omega, rfl, rfl, Lib.hid (by rw [List.take_zero, List.append_nil]; exact HE.out)⟩
      case round =>
        clear c6 HE
        obtain ⟨j, u, hj, rfl, rfl, HI⟩ := hrel
        obtain ⟨A, n, c, rfl⟩ := HI.out.sl
        by_cases hlt : j < e.d.n2
        · have hlti : (j : Int) < e.d.n2 := by omega
          have HJ := Lib.hid hlt
          obtain ⟨b, off, hA, hbl, hx1, mr⟩ := (HFX.out _ HI.out.below).links.range hlt
          have HST := Lib.hid (links_next e j hx1)
          have HLE := Lib.hid (show ([headB e] ++ nodeLines e ++ (linkLines e).take j).length ≤ 4000000 from lines_len2 HBD.out HL1.out HL2.out j)
          have HF2 := Lib.hid (HNU.out.2.2 _ (List.getElem_mem hx1))
          have HF3 := Lib.hid (HBD.out.2.2 _ (List.getElem_mem hx1))
          obtain ⟨x, hp⟩ : ∃ x, x = e.d.links[j] := ⟨_, rfl⟩
          rw [← hp] at mr HST HF2 HF3
          obtain ⟨gl, hgl⟩ : ∃ gl, gl = lineB ⟨#[108, 105, 110, 107]⟩ x.id (partsL x) := ⟨_, rfl⟩
          have HGL := Lib.hid hgl
          have qln := fun (V : World) => rlink_any x HF2.out HF3.out V
          rw [← hgl] at qln
          have HLN := Lib.hid qln
          clear qln hgl
          have MR := Lib.hid mr
          obtain ⟨lq, hlq⟩ : ∃ lq, lq = [headB e] ++ nodeLines e ++ (linkLines e).take j := ⟨_, rfl⟩
          rw [← hlq] at HI HST HLE
          have HW := Lib.hid (HI.out.low ((Below.refl _ _).alloc (Nat.le_refl _) (.cells (linkC x) 66)))
          have HN := Lib.hid (Has.fresh wr 66 (linkC x))
          clear hj hlt hbl hx1 mr hp hlq
          rw [hA]
          go_wp2_with (first | ((with_reducible refine Who.wpList_loadC 66 (.tmp 38) rfl b (off + j * 25) (linkC x) ?_); refine And.intro ⟨by rfl, by rfl, ⟨_, Tryd.underlying66, rfl⟩, info_link⟩ (And.intro (MR.out) ?_); (try simp only [Act.put, List.setIfInBounds_toArray, List.set_cons_zero, List.set_cons_succ])) | ((with_reducible refine Who.wpList_newC 66 7 (.tmp 39) rfl rfl rfl (linkC zeroL) (linkC x) ?_); refine And.intro ⟨rfl, rfl, rfl, alloc_link, by rfl, by rfl, info_link, rfl, link_one _⟩ ?_; (try simp only [Act.put, List.setIfInBounds_toArray, List.set_cons_zero, List.set_cons_succ]); (try simp only [World.size_alloc])) | ((with_reducible refine Who.wpList_loadC 66 (.tmp 7) rfl wr.heap.size 0 (linkC x) ?_); refine And.intro ⟨by rfl, by rfl, ⟨_, Tryd.underlying66, rfl⟩, info_link⟩ (And.intro (Who.has_range HN.out) ?_); (try simp only [Act.put, List.setIfInBounds_toArray, List.set_cons_zero, List.set_cons_succ])) | fail)
          refine (HLN.out _).mono ?_
          rintro q w3 ⟨rfl, hb⟩
          have HQ2 := Lib.hid (HW.out.low hb)
          clear hb
          go_wp2_with (at_builtin; (with_reducible refine wpl_text (B := w.heap.size + 1) (u := .slice A n c) (l := lq) (.tmp 40) (.tmp 43) rfl rfl ?_); refine And.intro ⟨⟨by rfl, ⟨_, by rfl, by simp⟩⟩, HQ2.out.row, HQ2.out.big, HLE.out⟩ ?_)
          intro u1 wz hg
          have HQ3 := Lib.hid (HQ2.out.grew hg)
          clear hg
          have HQ4 := Lib.hid (show HasI 31 (Fc.eventC e) w wz u1 ([headB e] ++ nodeLines e ++ (linkLines e).take (j + 1)) by rw [HST.out, ← HGL.out]; exact HQ3.out)
          go_wp2
          go_roundw
          case rel => exact ⟨j + 1, _, HJ.out, by go_num, rfl, HQ4⟩
          case measure => have := HJ.out; simp [intOf]; omega
        · obtain rfl : j = e.d.n2 := by omega
          have HE := Lib.hid (show HasI 31 (Fc.eventC e) w wr (.slice A n c) (textE e) by have q := HI.out; rw [links_all e HL2.out] at q; exact q)
          clear HI hj hlt
          go_wp2
          refine bodyPost_ret (v := .slice A n c) (by simp [results, Tryd.results9, go_sem]) rfl ⟨_, rfl, HE.out.row, HE.out.below⟩
end Go.Proofs.YtdbmnnmcelaehaaDoor.Sr
