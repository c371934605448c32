/- Join: what is kept of a state that is pruned; laid. -/
import Derived.Test.YtblogecapegbmaaGreatJkB
import Derived.Test.YtblogecapegbmaaGreatJkC
import Derived.Test.YtblogecapegbmaaGreatJkS
import Derived.Test.YtblogecapegbmaaGreatJnQ
namespace Go.Proofs.YtblogecapegbmaaGreat.Jn
open Go.RowKit Go.Proofs.YtblogecapegbmaaGreat.Mem
open Go.Proofs.YtblogecapegbmaaGreat.Vc (joinV meetV vecC stC)
set_option linter.unusedVariables false set_option linter.unusedSimpArgs false

def intsA (bs : List Nat) : Array Value := (bs.map fun (b : Nat) => Value.int .i64 (b : Int)).toArray
def boolsA (ss : List Bool) : Array Value := (ss.map Value.bool).toArray
theorem intsA_size (bs : List Nat) : (intsA bs).size = bs.length := by simp [intsA]
theorem boolsA_size (ss : List Bool) : (boolsA ss).size = ss.length := by simp [boolsA]
theorem intsA_set (bs : List Nat) (i v : Nat) : (intsA bs).setIfInBounds i (.int .i64 (v : Int)) = intsA (bs.set i v) := by simp [intsA, List.map_set]
theorem boolsA_set (ss : List Bool) (i : Nat) (v : Bool) : (boolsA ss).setIfInBounds i (.bool v) = boolsA (ss.set i v) := by simp [boolsA, List.map_set]
theorem intsA_at {bs : List Nat} {i v : Nat} (h : bs[i]? = some v) : (intsA bs)[i]? = some (.int .i64 (v : Int)) := by simp [intsA, h]
theorem boolsA_at {ss : List Bool} {i : Nat} {v : Bool} (h : ss[i]? = some v) : (boolsA ss)[i]? = some (.bool v) := by simp [boolsA, h]
theorem made_one (v : Value) (n : Nat) : madeCells #[v] (n * 1) = (List.replicate n v).toArray := by
  apply Array.ext
  · simp [madeCells]
  · intro i h1 h2
    simp [madeCells, Nat.mod_one]
theorem make_ints (n : Nat) (hn : n ≤ 1000000) (w : World) : (Instr.makeSlice 63 (.int .i64 n) (.int .i64 n)).run Tryz.prog w = .ok (.slice (some ⟨w.heap.size, 0, none⟩) n n) (w.alloc (.cells (intsA (List.replicate n 0)) 3)) := by
  obtain ⟨i0, hi, hz0, hz1, hz2⟩ : ∃ i, Tryz.prog.info? 3 = some i ∧ i.zero = some (.int .i64 0) ∧ i.size = 1 ∧ i.bytes = 8 := by
    have h : (Tryz.prog.info? 3).map (fun i => (i.zero, i.size, i.bytes)) = some (some (.int .i64 0), 1, 8) := by kernel_rfl
    cases hh : Tryz.prog.info? 3 with
    | none => rw [hh] at h; cases h
    | some i => rw [hh] at h; simp at h; exact ⟨i, rfl, h⟩
  have h := run_makeSlice (P := Tryz.prog) w 63 3 i0 (.int .i64 0) Tryz.underlying63 hi hz0 .i64 .i64 n n (by omega) (Int.le_refl _) (by rw [hz1]; omega) (by rw [hz2]; omega) (by omega)
  rw [hz1, Int.toNat_natCast] at h
  rw [h]
  exact congrArg (fun x => Result.ok _ (w.alloc (.cells x _))) ((made_one (.int .i64 0) n).trans (by simp [intsA]))
theorem make_bools (n : Nat) (hn : n ≤ 1000000) (w : World) : (Instr.makeSlice 53 (.int .i64 n) (.int .i64 n)).run Tryz.prog w = .ok (.slice (some ⟨w.heap.size, 0, none⟩) n n) (w.alloc (.cells (boolsA (List.replicate n false)) 4)) := by
  obtain ⟨i0, hi, hz0, hz1, hz2⟩ : ∃ i, Tryz.prog.info? 4 = some i ∧ i.zero = some (.bool false) ∧ i.size = 1 ∧ i.bytes = 1 := by
    have h : (Tryz.prog.info? 4).map (fun i => (i.zero, i.size, i.bytes)) = some (some (.bool false), 1, 1) := by kernel_rfl
    cases hh : Tryz.prog.info? 4 with
    | none => rw [hh] at h; cases h
    | some i => rw [hh] at h; simp at h; exact ⟨i, rfl, h⟩
  have h := run_makeSlice (P := Tryz.prog) w 53 4 i0 (.bool false) Tryz.underlying53 hi hz0 .i64 .i64 n n (by omega) (Int.le_refl _) (by rw [hz1]; omega) (by rw [hz2]; omega) (by omega)
  rw [hz1, Int.toNat_natCast] at h
  rw [h]
  exact congrArg (fun x => Result.ok _ (w.alloc (.cells x _))) ((made_one (.bool false) n).trans (by simp [boolsA]))
theorem info_bool : (Tryz.prog.info? 4).map (·.size) = some 1 := by kernel_rfl
/-- The links of one inode ahead of each link. -/
def bef (ls : List Fc.LinkP) (i : Nat) : Nat := match ls[i]? with
  | some l => lastP ls l.node i
  | none => 0
def befJ (ls : List Fc.LinkP) (j : Nat) : List Nat := (List.range ls.length).map fun i => if i < j then bef ls i else 0
theorem befJ_len (ls : List Fc.LinkP) (j : Nat) : (befJ ls j).length = ls.length := by simp [befJ]
theorem befJ_zero (ls : List Fc.LinkP) : befJ ls 0 = List.replicate ls.length 0 := by
  apply List.ext_getElem
  · simp [befJ]
  · intro i h1 h2
    simp [befJ]
theorem befJ_next (ls : List Fc.LinkP) (j : Nat) : (befJ ls j).set j (bef ls j) = befJ ls (j + 1) := by
  apply List.ext_getElem
  · simp [befJ]
  · intro i h1 h2
    rw [List.getElem_set]
    simp only [befJ, List.getElem_map, List.getElem_range]
    by_cases h : j = i
    · subst h; simp
    · rw [if_neg h]
      by_cases q : i < j
      · rw [if_pos q, if_pos (by omega)]
      · rw [if_neg q, if_neg (by omega)]
theorem befJ_all {ls : List Fc.LinkP} {i : Nat} (hi : i < ls.length) : (befJ ls ls.length)[i]? = some (lastP ls ls[i].node i) := by
  simp [befJ, hi, bef]
theorem lastI_next {ls : List Fc.LinkP} {j : Nat} {m : Int × Int → Option Value} (h : LastI ls j m) (hj : j < ls.length) : LastI ls (j + 1) (updK m ls[j].node (.int .i64 ((j : Int) + 1))) := fun z => by
  rw [lastP_next hj]
  by_cases k : z = ls[j].node
  · subst k
    rw [updK_same, if_pos rfl, if_neg (by omega)]
    simp
  · rw [updK_other _ _ k, h z, show (if ls[j].node = z then j + 1 else lastP ls z j) = lastP ls z j from if_neg (fun e => k e.symm)]
/-- A state that is pruned, as it lies in memory. -/
def prA (s : Fc.StateC) (known : Nat → Int) (mb bb sb : Nat) : Array Value := #[.int .i64 (s.seen 0), .int .i64 (s.seen 1), .int .i64 (s.seen 2), .int .i64 (s.seen 3), .int .i64 (s.seen 4), .int .i64 (s.seen 5), .int .i64 (s.seen 6), .int .i64 (s.seen 7), .slice s.A1 s.n1 s.c1, .slice s.A2 s.n2 s.c2, .int .i64 (known 0), .int .i64 (known 1), .int .i64 (known 2), .int .i64 (known 3), .int .i64 (known 4), .int .i64 (known 5), .int .i64 (known 6), .int .i64 (known 7), .map (some mb), .slice (some ⟨bb, 0, none⟩) s.n2 s.n2, .slice (some ⟨sb, 0, none⟩) s.n2 s.n2]
structure PrI (w wr : World) (s : Fc.StateC) (known : Nat → Int) (g mb bb sb : Nat) (bs : List Nat) (ss : List Bool) (m : Int × Int → Option Value) : Prop where
  below : Below w.heap.size w wr
  hp : Has wr g 100 (prA s known mb bb sb)
  hb : Has wr bb 3 (intsA bs)
  hs : Has wr sb 4 (boolsA ss)
  hm : KMap stK wr mb m
  si : StateIn w s
  ag : w.heap.size ≤ g
  am : w.heap.size ≤ mb
  ab : w.heap.size ≤ bb
  as_ : w.heap.size ≤ sb
section
variable {w wr w2 : World} {s : Fc.StateC} {known : Nat → Int} {g mb bb sb : Nat} {bs bs' : List Nat} {ss ss' : List Bool} {m m' : Int × Int → Option Value}
theorem PrI.low (h : PrI w wr s known g mb bb sb bs ss m) (hb : Below wr.heap.size wr w2) : PrI w w2 s known g mb bb sb bs ss m :=
  ⟨h.below.trans (hb.mono h.below.size), h.hp.below hb, h.hb.below hb, h.hs.below hb, h.hm.below hb, h.si, h.ag, h.am, h.ab, h.as_⟩
theorem PrI.setb (h : PrI w wr s known g mb bb sb bs ss m) (hx : Has w2 bb 3 (intsA bs')) (hc : Chg (· = bb) wr w2) : PrI w w2 s known g mb bb sb bs' ss m :=
  ⟨below_step h.below hc h.ab, h.hp.over hc (has_ne h.hp h.hb (by decide)), hx, h.hs.over hc (has_ne h.hs h.hb (by decide)), h.hm.over hc (fun e => map_ne h.hb h.hm e.symm), h.si, h.ag, h.am, h.ab, h.as_⟩
theorem PrI.sets (h : PrI w wr s known g mb bb sb bs ss m) (hx : Has w2 sb 4 (boolsA ss')) (hc : Chg (· = sb) wr w2) : PrI w w2 s known g mb bb sb bs ss' m :=
  ⟨below_step h.below hc h.as_, h.hp.over hc (has_ne h.hp h.hs (by decide)), h.hb.over hc (has_ne h.hb h.hs (by decide)), hx, h.hm.over hc (fun e => map_ne h.hs h.hm e.symm), h.si, h.ag, h.am, h.ab, h.as_⟩
theorem PrI.upd (h : PrI w wr s known g mb bb sb bs ss m) (hx : KMap stK w2 mb m') (hc : Chg (· = mb) wr w2) : PrI w w2 s known g mb bb sb bs ss m' :=
  ⟨below_step h.below hc h.am, h.hp.over hc (map_ne h.hp h.hm), h.hb.over hc (map_ne h.hb h.hm), h.hs.over hc (map_ne h.hs h.hm), hx, h.si, h.ag, h.am, h.ab, h.as_⟩
end
theorem l_node {w : World} {g : Nat} {t : TypeId} {l : Fc.LinkP} (h : Has w g t (Fc.linkC l)) : w.rangeAt g 2 (#[.int .i64 l.node.1, .int .i64 l.node.2] : Array Value).toList := range_of h fun j hj => by
  match j, (show j < 2 from hj) with
  | 0, _ | 1, _ => rfl
theorem box_prA (s : Fc.StateC) (known : Nat → Int) (mb bb sb : Nat) (w : World) : (Instr.box 100 (.agg (prA s known mb bb sb))).run Tryz.prog w = .ok (.pointer (some ⟨w.heap.size, 0, none⟩)) (w.alloc (.cells (prA s known mb bb sb) 100)) := by
  have hu := Tryz.underlying100
  go_simp
theorem build_prA (w : World) (s : Fc.StateC) (known : Nat → Int) (mb bb sb : Nat) : (Instr.build 100 #[(0, .agg (Fc.stateC s)), (1, .agg (vecC known)), (2, .map (some mb)), (3, .slice (some ⟨bb, 0, none⟩) s.n2 s.n2), (4, .slice (some ⟨sb, 0, none⟩) s.n2 s.n2)]).run Tryz.prog w = .ok (.agg (prA s known mb bb sb)) w := run_build w _ _ _ (by kernel_rfl)
theorem step_makeN {P : Program} {ops : Array Oper} {o : Oper} {a : Act} {w : World} {K : Act → World → Prop} {Q : Exit → Act → World → Prop} {EE : Prop} (T E : TypeId) (n : Nat) (C : Array Value) (p : Tmp) (x y : Operand) (ho : o.op = .makeSlice T x y) (hp : o.dst = some p) (hm : ∀ w : World, (Instr.makeSlice T (.int .i64 n) (.int .i64 n)).run P w = .ok (.slice (some ⟨w.heap.size, 0, none⟩) n n) (w.alloc (.cells C E)))
    (h : (Region.wanted o (yielded ops a.tmps) = true ∧ a.eval x = .int .i64 n ∧ a.eval y = .int .i64 n) ∧ ∀ g W', Hid (Has W' g E C) → Hid (Below w.heap.size w W') → Hid (w.heap.size ≤ g) → K (a.put (some p) (.slice (some ⟨g, 0, none⟩) n n)) W') : if Region.wanted o (yielded ops a.tmps) = true then Oper.wp P o a w K Q else EE := by
  obtain ⟨⟨h1, e1, e2⟩, h2⟩ := h
  rw [if_pos h1]
  unfold Oper.wp execOp
  simp only [ho, e1, e2, hm w, Sem.run_bind, Sem.run_pure, Result.andThen_ok]
  show K (a.put o.dst _) _
  rw [hp]
  exact h2 _ _ (Lib.hid (Has.fresh w E C)) (Lib.hid ((Below.refl w.heap.size w).alloc (Nat.le_refl _) _)) (Lib.hid (Nat.le_refl _))
set_option maxRecDepth 100000 in
set_option maxHeartbeats 8000000 in
theorem laid_any (s : Fc.StateC) (known : Nat → Int) (w : World) (hs : StateIn w s) (hn : s.n2 ≤ 1000000) : Calls Tryz.prog 58 #[.agg (Fc.stateC s), .agg (vecC known)] w fun e w' => ∃ g mb bb sb m, e = .returned (.pointer (some ⟨g, 0, none⟩)) ∧ PrI w w' s known g mb bb sb (befJ s.links s.n2) (List.replicate s.n2 false) m ∧ LastI s.links s.n2 m := by
  have HSI := Lib.hid hs
  have HN := Lib.hid hn
  have HLN := Lib.hid (show s.links.length = s.n2 from hs.links.row.len)
  obtain ⟨g1, hg1⟩ : ∃ g1, g1 = w.heap.size := ⟨_, rfl⟩
  obtain ⟨g2, hg2⟩ : ∃ g2, g2 = w.heap.size + 1 := ⟨_, rfl⟩
  have HB0 := Lib.hid (((Below.refl w.heap.size w).alloc (Nat.le_refl _) (.cells (Fc.stateC s) 27)).alloc (by simp) (.cells (vecC known) 23))
  have HX0 := Lib.hid (show Has ((w.alloc (.cells (Fc.stateC s) 27)).alloc (.cells (vecC known) 23)) g1 27 (Fc.stateC s) by rw [hg1]; exact (Has.fresh w 27 (Fc.stateC s)).past _)
  have HY0 := Lib.hid (show Has ((w.alloc (.cells (Fc.stateC s) 27)).alloc (.cells (vecC known) 23)) g2 23 (vecC known) by rw [hg2]; have q := Has.fresh (w.alloc (.cells (Fc.stateC s) 27)) 23 (vecC known); rw [World.size_alloc] at q; exact q)
  have c9 : ((w.alloc (.cells (Fc.stateC s) 27)).alloc (.cells (vecC known) 23)).cell? ⟨w.heap.size, 9, none⟩ = some (.slice s.A2 s.n2 s.c2) := by rw [← hg1]; exact HX0.out.at_ 9
  have HG1 := Lib.hid hg1
  have HG2 := Lib.hid hg2
  clear hg1 hg2 hs hn
  go_enter Tryz.func58, Tryz.ntmps58
  go_wp2_with fail
  rw [← HG2.out, ← HG1.out]
  clear c9
  have HI_0 := Lib.hid HB0.out.drew
  have HX_0 := Lib.hid HX0.out.drew
  have HY_0 := Lib.hid HY0.out.drew
  refine mergeR (fun act W => ∃ g mb bb sb, act = { tmps := #[.agg (Fc.stateC s), .agg (vecC known), .pointer (some ⟨g1, 0, none⟩), .pointer (some ⟨g2, 0, none⟩), .pointer none, .int .i64 s.n2, .pointer (some ⟨g, 0, none⟩), undef, undef, .pointer (some ⟨g1, 9, none⟩), .slice s.A2 s.n2 s.c2, .int .i64 s.n2, .agg (Fc.stateC s), .agg (vecC known), .map (some mb), .int .i64 s.n2, .slice (some ⟨bb, 0, none⟩) s.n2 s.n2, .int .i64 s.n2, .slice (some ⟨sb, 0, none⟩) s.n2 s.n2, .agg (prA s known mb bb sb), .pointer (some ⟨g, 0, none⟩), undef, undef, undef, undef, undef, undef, undef, undef, undef, undef, undef, undef, undef, undef, undef, undef, undef, undef, undef, undef, undef, undef, undef, undef, undef, undef, undef, undef, undef, undef, undef], defers := [] } ∧ PrI w W s known g mb bb sb (befJ s.links 0) (List.replicate s.n2 false) (fun _ => none) ∧ Has W g1 27 (Fc.stateC s)) ?_ ?_
  · refine wp_region_held_drew (S := fun V => Has V g1 27 (Fc.stateC s) ∧ Has V g2 23 (vecC known)) (by kernel_rfl) ⟨HX0.out.drew, HY0.out.drew⟩ (fun hHeld => ?_)
    refine Vc.wpAnyH_read (i := 0) (d := some 12) (v := .agg (Fc.stateC s)) (by rfl) (by rfl) (by kernel_rfl) (by kernel_rfl) (by kernel_rfl) (fun _ _ _ h => h) (by rfl) ?hy1 (by assumption) ?rest1
    case hy1 =>
      intro w hSw
      exact Who.exec_loadA _ rfl rfl (Who.has_range hSw.1) Tryz.underlying27 rfl info_state
    try simp only [Act.put, List.setIfInBounds_toArray, List.set_cons_zero, List.set_cons_succ]
    refine Vc.wpAnyH_read (i := 1) (d := some 13) (v := .agg (vecC known)) (by rfl) (by rfl) (by kernel_rfl) (by kernel_rfl) (by kernel_rfl) (fun _ _ _ h => h) (by rfl) ?hy2 (by assumption) ?rest2
    case hy2 =>
      intro w hSw
      exact Who.exec_loadA _ rfl rfl (Who.has_range hSw.2) Tryz.underlying23 rfl info_vec
    try simp only [Act.put, List.setIfInBounds_toArray, List.set_cons_zero, List.set_cons_succ]
    refine Vc.wpAnyH_read (i := 3) (d := some 15) (v := ?v3) (by rfl) (by rfl) (by kernel_rfl) (by kernel_rfl) (by kernel_rfl) (fun _ _ _ h => h) (by rfl) ?hy3 (by assumption) ?rest3
    case hy3 =>
      intro w hSw
      try dsimp only at hSw
      go_simp
      try with_reducible rfl
    try simp only [Act.put, List.setIfInBounds_toArray, List.set_cons_zero, List.set_cons_succ]
    refine Vc.wpAnyH_read (i := 5) (d := some 17) (v := ?v4) (by rfl) (by rfl) (by kernel_rfl) (by kernel_rfl) (by kernel_rfl) (fun _ _ _ h => h) (by rfl) ?hy4 (by assumption) ?rest4
    case hy4 =>
      intro w hSw
      try dsimp only at hSw
      go_simp
      try with_reducible rfl
    try simp only [Act.put, List.setIfInBounds_toArray, List.set_cons_zero, List.set_cons_succ]
    refine wpAnyH_ready (rs := [2, 4, 6]) (by kernel_rfl) (by simp) ?_
    refine AllReadyH.cons rfl (fun K hK => ?_) (AllReadyH.cons rfl (fun K hK => ?_) (AllReadyH.cons rfl (fun K hK => ?_) AllReadyH.nil))
    · refine step_map 98 (by rfl) ?_
      refine And.intro (by rfl) ?_
      intro mb W1 HM_1 hb HLM0
      have HLM := Lib.hid (Nat.le_trans HI_0.out.size HLM0.out)
      have HI_1 := Lib.hid (HI_0.out.trans (hb.out.mono HI_0.out.size))
      have HX_1 := Lib.hid (HX_0.out.below hb.out)
      have HY_1 := Lib.hid (HY_0.out.below hb.out)
      clear hb
      refine hK.out _ _ ⟨HX_1.out, HY_1.out⟩ (fun hHeld => ?_)
      clear hK K
      try simp only [Act.put, List.setIfInBounds_toArray, List.set_cons_zero, List.set_cons_succ]
      refine wpAnyH_ready (rs := [4, 6]) (by kernel_rfl) (by simp) ?_
      refine AllReadyH.cons rfl (fun K hK => ?_) (AllReadyH.cons rfl (fun K hK => ?_) AllReadyH.nil)
      · refine step_makeN 63 3 s.n2 (intsA (List.replicate s.n2 0)) 16 (.tmp 15) (.tmp 15) (by rfl) (by rfl) (make_ints s.n2 HN.out) ?_
        refine And.intro ⟨by rfl, by rfl, by rfl⟩ ?_
        intro bb W2 HB_2 hb HLB0
        have HLB := Lib.hid (Nat.le_trans HI_1.out.size HLB0.out)
        have HI_2 := Lib.hid (HI_1.out.trans (hb.out.mono HI_1.out.size))
        have HX_2 := Lib.hid (HX_1.out.below hb.out)
        have HY_2 := Lib.hid (HY_1.out.below hb.out)
        have HM_2 := Lib.hid (HM_1.out.below hb.out)
        clear hb
        refine hK.out _ _ ⟨HX_2.out, HY_2.out⟩ (fun hHeld => ?_)
        clear hK K
        try simp only [Act.put, List.setIfInBounds_toArray, List.set_cons_zero, List.set_cons_succ]
        refine wpAnyH_ready (rs := [6]) (by kernel_rfl) (by simp) ?_
        refine AllReadyH.cons rfl (fun K hK => ?_) AllReadyH.nil
        refine step_makeN 53 4 s.n2 (boolsA (List.replicate s.n2 false)) 18 (.tmp 17) (.tmp 17) (by rfl) (by rfl) (make_bools s.n2 HN.out) ?_
        refine And.intro ⟨by rfl, by rfl, by rfl⟩ ?_
        intro sb W3 HS_3 hb HLS0
        have HLS := Lib.hid (Nat.le_trans HI_2.out.size HLS0.out)
        have HI_3 := Lib.hid (HI_2.out.trans (hb.out.mono HI_2.out.size))
        have HX_3 := Lib.hid (HX_2.out.below hb.out)
        have HY_3 := Lib.hid (HY_2.out.below hb.out)
        have HM_3 := Lib.hid (HM_2.out.below hb.out)
        have HB_3 := Lib.hid (HB_2.out.below hb.out)
        clear hb
        refine hK.out _ _ ⟨HX_3.out, HY_3.out⟩ (fun hHeld => ?_)
        clear hK K
        try simp only [Act.put, List.setIfInBounds_toArray, List.set_cons_zero, List.set_cons_succ]
        refine Vc.wpAnyH_read (i := 7) (d := some 19) (v := .agg (prA s known mb bb sb)) (by rfl) (by rfl) (by kernel_rfl) (by kernel_rfl) (by kernel_rfl) (fun _ _ _ h => h) (by rfl) ?hy5 (by assumption) ?rest5
        case hy5 =>
          intro w hSw
          have hb := build_prA w s known mb bb sb
          simp [execOp, hb, Result.andThen, Act.eval]
        try simp only [Act.put, List.setIfInBounds_toArray, List.set_cons_zero, List.set_cons_succ]
        refine wpAnyH_ready (rs := [8]) (by kernel_rfl) (by simp) ?_
        refine AllReadyH.cons rfl (fun K hK => ?_) AllReadyH.nil
        refine step_box 100 (prA s known mb bb sb) (.tmp 19) (by rfl) (box_prA s known mb bb sb) ?_
        refine And.intro ⟨by rfl, by rfl⟩ ?_
        intro g W4 hx hb hl
        have HI_4 := Lib.hid (HI_3.out.trans (hb.out.mono HI_3.out.size))
        have HL := Lib.hid (show PrI w W4 s known g mb bb sb (befJ s.links 0) (List.replicate s.n2 false) (fun _ => none) from ⟨HI_4.out, hx.out, by rw [befJ_zero, HLN.out]; exact HB_3.out.below hb.out, HS_3.out.below hb.out, HM_3.out.below hb.out, HSI.out, Nat.le_trans HI_3.out.size hl.out, HLM.out, HLB.out, HLS.out⟩)
        refine hK.out _ _ ⟨HX_3.out.below hb.out, HY_3.out.below hb.out⟩ (fun hHeld => ?_)
        clear hK K
        try simp only [Act.put, List.setIfInBounds_toArray, List.set_cons_zero, List.set_cons_succ]
        refine Vc.wpAnyH_read (i := 9) (d := some 6) (v := ?v6) (by rfl) (by rfl) (by kernel_rfl) (by kernel_rfl) (by kernel_rfl) (fun _ _ _ h => h) (by rfl) ?hy6 (by assumption) ?rest6
        case hy6 =>
          intro w hSw
          try dsimp only at hSw
          go_simp
          try with_reducible rfl
        try simp only [Act.put, List.setIfInBounds_toArray, List.set_cons_zero, List.set_cons_succ]
        refine wpAnyH_done (by kernel_rfl) ?_ _
        exact mq_in ⟨g, mb, bb, sb, rfl, HL.out, HX_3.out.below hb.out⟩
      · refine step_makeN 53 4 s.n2 (boolsA (List.replicate s.n2 false)) 18 (.tmp 17) (.tmp 17) (by rfl) (by rfl) (make_bools s.n2 HN.out) ?_
        refine And.intro ⟨by rfl, by rfl, by rfl⟩ ?_
        intro sb W5 HS_5 hb HLS0
        have HLS := Lib.hid (Nat.le_trans HI_1.out.size HLS0.out)
        have HI_5 := Lib.hid (HI_1.out.trans (hb.out.mono HI_1.out.size))
        have HX_5 := Lib.hid (HX_1.out.below hb.out)
        have HY_5 := Lib.hid (HY_1.out.below hb.out)
        have HM_5 := Lib.hid (HM_1.out.below hb.out)
        clear hb
        refine hK.out _ _ ⟨HX_5.out, HY_5.out⟩ (fun hHeld => ?_)
        clear hK K
        try simp only [Act.put, List.setIfInBounds_toArray, List.set_cons_zero, List.set_cons_succ]
        refine wpAnyH_ready (rs := [4]) (by kernel_rfl) (by simp) ?_
        refine AllReadyH.cons rfl (fun K hK => ?_) AllReadyH.nil
        refine step_makeN 63 3 s.n2 (intsA (List.replicate s.n2 0)) 16 (.tmp 15) (.tmp 15) (by rfl) (by rfl) (make_ints s.n2 HN.out) ?_
        refine And.intro ⟨by rfl, by rfl, by rfl⟩ ?_
        intro bb W6 HB_6 hb HLB0
        have HLB := Lib.hid (Nat.le_trans HI_5.out.size HLB0.out)
        have HI_6 := Lib.hid (HI_5.out.trans (hb.out.mono HI_5.out.size))
        have HX_6 := Lib.hid (HX_5.out.below hb.out)
        have HY_6 := Lib.hid (HY_5.out.below hb.out)
        have HM_6 := Lib.hid (HM_5.out.below hb.out)
        have HS_6 := Lib.hid (HS_5.out.below hb.out)
        clear hb
        refine hK.out _ _ ⟨HX_6.out, HY_6.out⟩ (fun hHeld => ?_)
        clear hK K
        try simp only [Act.put, List.setIfInBounds_toArray, List.set_cons_zero, List.set_cons_succ]
        refine Vc.wpAnyH_read (i := 7) (d := some 19) (v := .agg (prA s known mb bb sb)) (by rfl) (by rfl) (by kernel_rfl) (by kernel_rfl) (by kernel_rfl) (fun _ _ _ h => h) (by rfl) ?hy7 (by assumption) ?rest7
        case hy7 =>
          intro w hSw
          have hb := build_prA w s known mb bb sb
          simp [execOp, hb, Result.andThen, Act.eval]
        try simp only [Act.put, List.setIfInBounds_toArray, List.set_cons_zero, List.set_cons_succ]
        refine wpAnyH_ready (rs := [8]) (by kernel_rfl) (by simp) ?_
        refine AllReadyH.cons rfl (fun K hK => ?_) AllReadyH.nil
        refine step_box 100 (prA s known mb bb sb) (.tmp 19) (by rfl) (box_prA s known mb bb sb) ?_
        refine And.intro ⟨by rfl, by rfl⟩ ?_
        intro g W7 hx hb hl
        have HI_7 := Lib.hid (HI_6.out.trans (hb.out.mono HI_6.out.size))
        have HL := Lib.hid (show PrI w W7 s known g mb bb sb (befJ s.links 0) (List.replicate s.n2 false) (fun _ => none) from ⟨HI_7.out, hx.out, by rw [befJ_zero, HLN.out]; exact HB_6.out.below hb.out, HS_6.out.below hb.out, HM_6.out.below hb.out, HSI.out, Nat.le_trans HI_6.out.size hl.out, HLM.out, HLB.out, HLS.out⟩)
        refine hK.out _ _ ⟨HX_6.out.below hb.out, HY_6.out.below hb.out⟩ (fun hHeld => ?_)
        clear hK K
        try simp only [Act.put, List.setIfInBounds_toArray, List.set_cons_zero, List.set_cons_succ]
        refine Vc.wpAnyH_read (i := 9) (d := some 6) (v := ?v8) (by rfl) (by rfl) (by kernel_rfl) (by kernel_rfl) (by kernel_rfl) (fun _ _ _ h => h) (by rfl) ?hy8 (by assumption) ?rest8
        case hy8 =>
          intro w hSw
          try dsimp only at hSw
          go_simp
          try with_reducible rfl
        try simp only [Act.put, List.setIfInBounds_toArray, List.set_cons_zero, List.set_cons_succ]
        refine wpAnyH_done (by kernel_rfl) ?_ _
        exact mq_in ⟨g, mb, bb, sb, rfl, HL.out, HX_6.out.below hb.out⟩
    · refine step_makeN 63 3 s.n2 (intsA (List.replicate s.n2 0)) 16 (.tmp 15) (.tmp 15) (by rfl) (by rfl) (make_ints s.n2 HN.out) ?_
      refine And.intro ⟨by rfl, by rfl, by rfl⟩ ?_
      intro bb W8 HB_8 hb HLB0
      have HLB := Lib.hid (Nat.le_trans HI_0.out.size HLB0.out)
      have HI_8 := Lib.hid (HI_0.out.trans (hb.out.mono HI_0.out.size))
      have HX_8 := Lib.hid (HX_0.out.below hb.out)
      have HY_8 := Lib.hid (HY_0.out.below hb.out)
      clear hb
      refine hK.out _ _ ⟨HX_8.out, HY_8.out⟩ (fun hHeld => ?_)
      clear hK K
      try simp only [Act.put, List.setIfInBounds_toArray, List.set_cons_zero, List.set_cons_succ]
      refine wpAnyH_ready (rs := [2, 6]) (by kernel_rfl) (by simp) ?_
      refine AllReadyH.cons rfl (fun K hK => ?_) (AllReadyH.cons rfl (fun K hK => ?_) AllReadyH.nil)
      · refine step_map 98 (by rfl) ?_
        refine And.intro (by rfl) ?_
        intro mb W9 HM_9 hb HLM0
        have HLM := Lib.hid (Nat.le_trans HI_8.out.size HLM0.out)
        have HI_9 := Lib.hid (HI_8.out.trans (hb.out.mono HI_8.out.size))
        have HX_9 := Lib.hid (HX_8.out.below hb.out)
        have HY_9 := Lib.hid (HY_8.out.below hb.out)
        have HB_9 := Lib.hid (HB_8.out.below hb.out)
        clear hb
        refine hK.out _ _ ⟨HX_9.out, HY_9.out⟩ (fun hHeld => ?_)
        clear hK K
        try simp only [Act.put, List.setIfInBounds_toArray, List.set_cons_zero, List.set_cons_succ]
        refine wpAnyH_ready (rs := [6]) (by kernel_rfl) (by simp) ?_
        refine AllReadyH.cons rfl (fun K hK => ?_) AllReadyH.nil
        refine step_makeN 53 4 s.n2 (boolsA (List.replicate s.n2 false)) 18 (.tmp 17) (.tmp 17) (by rfl) (by rfl) (make_bools s.n2 HN.out) ?_
        refine And.intro ⟨by rfl, by rfl, by rfl⟩ ?_
        intro sb W10 HS_10 hb HLS0
        have HLS := Lib.hid (Nat.le_trans HI_9.out.size HLS0.out)
        have HI_10 := Lib.hid (HI_9.out.trans (hb.out.mono HI_9.out.size))
        have HX_10 := Lib.hid (HX_9.out.below hb.out)
        have HY_10 := Lib.hid (HY_9.out.below hb.out)
        have HB_10 := Lib.hid (HB_9.out.below hb.out)
        have HM_10 := Lib.hid (HM_9.out.below hb.out)
        clear hb
        refine hK.out _ _ ⟨HX_10.out, HY_10.out⟩ (fun hHeld => ?_)
        clear hK K
        try simp only [Act.put, List.setIfInBounds_toArray, List.set_cons_zero, List.set_cons_succ]
        refine Vc.wpAnyH_read (i := 7) (d := some 19) (v := .agg (prA s known mb bb sb)) (by rfl) (by rfl) (by kernel_rfl) (by kernel_rfl) (by kernel_rfl) (fun _ _ _ h => h) (by rfl) ?hy9 (by assumption) ?rest9
        case hy9 =>
          intro w hSw
          have hb := build_prA w s known mb bb sb
          simp [execOp, hb, Result.andThen, Act.eval]
        try simp only [Act.put, List.setIfInBounds_toArray, List.set_cons_zero, List.set_cons_succ]
        refine wpAnyH_ready (rs := [8]) (by kernel_rfl) (by simp) ?_
        refine AllReadyH.cons rfl (fun K hK => ?_) AllReadyH.nil
        refine step_box 100 (prA s known mb bb sb) (.tmp 19) (by rfl) (box_prA s known mb bb sb) ?_
        refine And.intro ⟨by rfl, by rfl⟩ ?_
        intro g W11 hx hb hl
        have HI_11 := Lib.hid (HI_10.out.trans (hb.out.mono HI_10.out.size))
        have HL := Lib.hid (show PrI w W11 s known g mb bb sb (befJ s.links 0) (List.replicate s.n2 false) (fun _ => none) from ⟨HI_11.out, hx.out, by rw [befJ_zero, HLN.out]; exact HB_10.out.below hb.out, HS_10.out.below hb.out, HM_10.out.below hb.out, HSI.out, Nat.le_trans HI_10.out.size hl.out, HLM.out, HLB.out, HLS.out⟩)
        refine hK.out _ _ ⟨HX_10.out.below hb.out, HY_10.out.below hb.out⟩ (fun hHeld => ?_)
        clear hK K
        try simp only [Act.put, List.setIfInBounds_toArray, List.set_cons_zero, List.set_cons_succ]
        refine Vc.wpAnyH_read (i := 9) (d := some 6) (v := ?v10) (by rfl) (by rfl) (by kernel_rfl) (by kernel_rfl) (by kernel_rfl) (fun _ _ _ h => h) (by rfl) ?hy10 (by assumption) ?rest10
        case hy10 =>
          intro w hSw
          try dsimp only at hSw
          go_simp
          try with_reducible rfl
        try simp only [Act.put, List.setIfInBounds_toArray, List.set_cons_zero, List.set_cons_succ]
        refine wpAnyH_done (by kernel_rfl) ?_ _
        exact mq_in ⟨g, mb, bb, sb, rfl, HL.out, HX_10.out.below hb.out⟩
      · refine step_makeN 53 4 s.n2 (boolsA (List.replicate s.n2 false)) 18 (.tmp 17) (.tmp 17) (by rfl) (by rfl) (make_bools s.n2 HN.out) ?_
        refine And.intro ⟨by rfl, by rfl, by rfl⟩ ?_
        intro sb W12 HS_12 hb HLS0
        have HLS := Lib.hid (Nat.le_trans HI_8.out.size HLS0.out)
        have HI_12 := Lib.hid (HI_8.out.trans (hb.out.mono HI_8.out.size))
        have HX_12 := Lib.hid (HX_8.out.below hb.out)
        have HY_12 := Lib.hid (HY_8.out.below hb.out)
        have HB_12 := Lib.hid (HB_8.out.below hb.out)
        clear hb
        refine hK.out _ _ ⟨HX_12.out, HY_12.out⟩ (fun hHeld => ?_)
        clear hK K
        try simp only [Act.put, List.setIfInBounds_toArray, List.set_cons_zero, List.set_cons_succ]
        refine wpAnyH_ready (rs := [2]) (by kernel_rfl) (by simp) ?_
        refine AllReadyH.cons rfl (fun K hK => ?_) AllReadyH.nil
        refine step_map 98 (by rfl) ?_
        refine And.intro (by rfl) ?_
        intro mb W13 HM_13 hb HLM0
        have HLM := Lib.hid (Nat.le_trans HI_12.out.size HLM0.out)
        have HI_13 := Lib.hid (HI_12.out.trans (hb.out.mono HI_12.out.size))
        have HX_13 := Lib.hid (HX_12.out.below hb.out)
        have HY_13 := Lib.hid (HY_12.out.below hb.out)
        have HB_13 := Lib.hid (HB_12.out.below hb.out)
        have HS_13 := Lib.hid (HS_12.out.below hb.out)
        clear hb
        refine hK.out _ _ ⟨HX_13.out, HY_13.out⟩ (fun hHeld => ?_)
        clear hK K
        try simp only [Act.put, List.setIfInBounds_toArray, List.set_cons_zero, List.set_cons_succ]
        refine Vc.wpAnyH_read (i := 7) (d := some 19) (v := .agg (prA s known mb bb sb)) (by rfl) (by rfl) (by kernel_rfl) (by kernel_rfl) (by kernel_rfl) (fun _ _ _ h => h) (by rfl) ?hy11 (by assumption) ?rest11
        case hy11 =>
          intro w hSw
          have hb := build_prA w s known mb bb sb
          simp [execOp, hb, Result.andThen, Act.eval]
        try simp only [Act.put, List.setIfInBounds_toArray, List.set_cons_zero, List.set_cons_succ]
        refine wpAnyH_ready (rs := [8]) (by kernel_rfl) (by simp) ?_
        refine AllReadyH.cons rfl (fun K hK => ?_) AllReadyH.nil
        refine step_box 100 (prA s known mb bb sb) (.tmp 19) (by rfl) (box_prA s known mb bb sb) ?_
        refine And.intro ⟨by rfl, by rfl⟩ ?_
        intro g W14 hx hb hl
        have HI_14 := Lib.hid (HI_13.out.trans (hb.out.mono HI_13.out.size))
        have HL := Lib.hid (show PrI w W14 s known g mb bb sb (befJ s.links 0) (List.replicate s.n2 false) (fun _ => none) from ⟨HI_14.out, hx.out, by rw [befJ_zero, HLN.out]; exact HB_13.out.below hb.out, HS_13.out.below hb.out, HM_13.out.below hb.out, HSI.out, Nat.le_trans HI_13.out.size hl.out, HLM.out, HLB.out, HLS.out⟩)
        refine hK.out _ _ ⟨HX_13.out.below hb.out, HY_13.out.below hb.out⟩ (fun hHeld => ?_)
        clear hK K
        try simp only [Act.put, List.setIfInBounds_toArray, List.set_cons_zero, List.set_cons_succ]
        refine Vc.wpAnyH_read (i := 9) (d := some 6) (v := ?v12) (by rfl) (by rfl) (by kernel_rfl) (by kernel_rfl) (by kernel_rfl) (fun _ _ _ h => h) (by rfl) ?hy12 (by assumption) ?rest12
        case hy12 =>
          intro w hSw
          try dsimp only at hSw
          go_simp
          try with_reducible rfl
        try simp only [Act.put, List.setIfInBounds_toArray, List.set_cons_zero, List.set_cons_succ]
        refine wpAnyH_done (by kernel_rfl) ?_ _
        exact mq_in ⟨g, mb, bb, sb, rfl, HL.out, HX_13.out.below hb.out⟩
    · refine step_makeN 53 4 s.n2 (boolsA (List.replicate s.n2 false)) 18 (.tmp 17) (.tmp 17) (by rfl) (by rfl) (make_bools s.n2 HN.out) ?_
      refine And.intro ⟨by rfl, by rfl, by rfl⟩ ?_
      intro sb W15 HS_15 hb HLS0
      have HLS := Lib.hid (Nat.le_trans HI_0.out.size HLS0.out)
      have HI_15 := Lib.hid (HI_0.out.trans (hb.out.mono HI_0.out.size))
      have HX_15 := Lib.hid (HX_0.out.below hb.out)
      have HY_15 := Lib.hid (HY_0.out.below hb.out)
      clear hb
      refine hK.out _ _ ⟨HX_15.out, HY_15.out⟩ (fun hHeld => ?_)
      clear hK K
      try simp only [Act.put, List.setIfInBounds_toArray, List.set_cons_zero, List.set_cons_succ]
      refine wpAnyH_ready (rs := [2, 4]) (by kernel_rfl) (by simp) ?_
      refine AllReadyH.cons rfl (fun K hK => ?_) (AllReadyH.cons rfl (fun K hK => ?_) AllReadyH.nil)
      · refine step_map 98 (by rfl) ?_
        refine And.intro (by rfl) ?_
        intro mb W16 HM_16 hb HLM0
        have HLM := Lib.hid (Nat.le_trans HI_15.out.size HLM0.out)
        have HI_16 := Lib.hid (HI_15.out.trans (hb.out.mono HI_15.out.size))
        have HX_16 := Lib.hid (HX_15.out.below hb.out)
        have HY_16 := Lib.hid (HY_15.out.below hb.out)
        have HS_16 := Lib.hid (HS_15.out.below hb.out)
        clear hb
        refine hK.out _ _ ⟨HX_16.out, HY_16.out⟩ (fun hHeld => ?_)
        clear hK K
        try simp only [Act.put, List.setIfInBounds_toArray, List.set_cons_zero, List.set_cons_succ]
        refine wpAnyH_ready (rs := [4]) (by kernel_rfl) (by simp) ?_
        refine AllReadyH.cons rfl (fun K hK => ?_) AllReadyH.nil
        refine step_makeN 63 3 s.n2 (intsA (List.replicate s.n2 0)) 16 (.tmp 15) (.tmp 15) (by rfl) (by rfl) (make_ints s.n2 HN.out) ?_
        refine And.intro ⟨by rfl, by rfl, by rfl⟩ ?_
        intro bb W17 HB_17 hb HLB0
        have HLB := Lib.hid (Nat.le_trans HI_16.out.size HLB0.out)
        have HI_17 := Lib.hid (HI_16.out.trans (hb.out.mono HI_16.out.size))
        have HX_17 := Lib.hid (HX_16.out.below hb.out)
        have HY_17 := Lib.hid (HY_16.out.below hb.out)
        have HS_17 := Lib.hid (HS_16.out.below hb.out)
        have HM_17 := Lib.hid (HM_16.out.below hb.out)
        clear hb
        refine hK.out _ _ ⟨HX_17.out, HY_17.out⟩ (fun hHeld => ?_)
        clear hK K
        try simp only [Act.put, List.setIfInBounds_toArray, List.set_cons_zero, List.set_cons_succ]
        refine Vc.wpAnyH_read (i := 7) (d := some 19) (v := .agg (prA s known mb bb sb)) (by rfl) (by rfl) (by kernel_rfl) (by kernel_rfl) (by kernel_rfl) (fun _ _ _ h => h) (by rfl) ?hy13 (by assumption) ?rest13
        case hy13 =>
          intro w hSw
          have hb := build_prA w s known mb bb sb
          simp [execOp, hb, Result.andThen, Act.eval]
        try simp only [Act.put, List.setIfInBounds_toArray, List.set_cons_zero, List.set_cons_succ]
        refine wpAnyH_ready (rs := [8]) (by kernel_rfl) (by simp) ?_
        refine AllReadyH.cons rfl (fun K hK => ?_) AllReadyH.nil
        refine step_box 100 (prA s known mb bb sb) (.tmp 19) (by rfl) (box_prA s known mb bb sb) ?_
        refine And.intro ⟨by rfl, by rfl⟩ ?_
        intro g W18 hx hb hl
        have HI_18 := Lib.hid (HI_17.out.trans (hb.out.mono HI_17.out.size))
        have HL := Lib.hid (show PrI w W18 s known g mb bb sb (befJ s.links 0) (List.replicate s.n2 false) (fun _ => none) from ⟨HI_18.out, hx.out, by rw [befJ_zero, HLN.out]; exact HB_17.out.below hb.out, HS_17.out.below hb.out, HM_17.out.below hb.out, HSI.out, Nat.le_trans HI_17.out.size hl.out, HLM.out, HLB.out, HLS.out⟩)
        refine hK.out _ _ ⟨HX_17.out.below hb.out, HY_17.out.below hb.out⟩ (fun hHeld => ?_)
        clear hK K
        try simp only [Act.put, List.setIfInBounds_toArray, List.set_cons_zero, List.set_cons_succ]
        refine Vc.wpAnyH_read (i := 9) (d := some 6) (v := ?v14) (by rfl) (by rfl) (by kernel_rfl) (by kernel_rfl) (by kernel_rfl) (fun _ _ _ h => h) (by rfl) ?hy14 (by assumption) ?rest14
        case hy14 =>
          intro w hSw
          try dsimp only at hSw
          go_simp
          try with_reducible rfl
        try simp only [Act.put, List.setIfInBounds_toArray, List.set_cons_zero, List.set_cons_succ]
        refine wpAnyH_done (by kernel_rfl) ?_ _
        exact mq_in ⟨g, mb, bb, sb, rfl, HL.out, HX_17.out.below hb.out⟩
      · refine step_makeN 63 3 s.n2 (intsA (List.replicate s.n2 0)) 16 (.tmp 15) (.tmp 15) (by rfl) (by rfl) (make_ints s.n2 HN.out) ?_
        refine And.intro ⟨by rfl, by rfl, by rfl⟩ ?_
        intro bb W19 HB_19 hb HLB0
        have HLB := Lib.hid (Nat.le_trans HI_15.out.size HLB0.out)
        have HI_19 := Lib.hid (HI_15.out.trans (hb.out.mono HI_15.out.size))
        have HX_19 := Lib.hid (HX_15.out.below hb.out)
        have HY_19 := Lib.hid (HY_15.out.below hb.out)
        have HS_19 := Lib.hid (HS_15.out.below hb.out)
        clear hb
        refine hK.out _ _ ⟨HX_19.out, HY_19.out⟩ (fun hHeld => ?_)
        clear hK K
        try simp only [Act.put, List.setIfInBounds_toArray, List.set_cons_zero, List.set_cons_succ]
        refine wpAnyH_ready (rs := [2]) (by kernel_rfl) (by simp) ?_
        refine AllReadyH.cons rfl (fun K hK => ?_) AllReadyH.nil
        refine step_map 98 (by rfl) ?_
        refine And.intro (by rfl) ?_
        intro mb W20 HM_20 hb HLM0
        have HLM := Lib.hid (Nat.le_trans HI_19.out.size HLM0.out)
        have HI_20 := Lib.hid (HI_19.out.trans (hb.out.mono HI_19.out.size))
        have HX_20 := Lib.hid (HX_19.out.below hb.out)
        have HY_20 := Lib.hid (HY_19.out.below hb.out)
        have HS_20 := Lib.hid (HS_19.out.below hb.out)
        have HB_20 := Lib.hid (HB_19.out.below hb.out)
        clear hb
        refine hK.out _ _ ⟨HX_20.out, HY_20.out⟩ (fun hHeld => ?_)
        clear hK K
        try simp only [Act.put, List.setIfInBounds_toArray, List.set_cons_zero, List.set_cons_succ]
        refine Vc.wpAnyH_read (i := 7) (d := some 19) (v := .agg (prA s known mb bb sb)) (by rfl) (by rfl) (by kernel_rfl) (by kernel_rfl) (by kernel_rfl) (fun _ _ _ h => h) (by rfl) ?hy15 (by assumption) ?rest15
        case hy15 =>
          intro w hSw
          have hb := build_prA w s known mb bb sb
          simp [execOp, hb, Result.andThen, Act.eval]
        try simp only [Act.put, List.setIfInBounds_toArray, List.set_cons_zero, List.set_cons_succ]
        refine wpAnyH_ready (rs := [8]) (by kernel_rfl) (by simp) ?_
        refine AllReadyH.cons rfl (fun K hK => ?_) AllReadyH.nil
        refine step_box 100 (prA s known mb bb sb) (.tmp 19) (by rfl) (box_prA s known mb bb sb) ?_
        refine And.intro ⟨by rfl, by rfl⟩ ?_
        intro g W21 hx hb hl
        have HI_21 := Lib.hid (HI_20.out.trans (hb.out.mono HI_20.out.size))
        have HL := Lib.hid (show PrI w W21 s known g mb bb sb (befJ s.links 0) (List.replicate s.n2 false) (fun _ => none) from ⟨HI_21.out, hx.out, by rw [befJ_zero, HLN.out]; exact HB_20.out.below hb.out, HS_20.out.below hb.out, HM_20.out.below hb.out, HSI.out, Nat.le_trans HI_20.out.size hl.out, HLM.out, HLB.out, HLS.out⟩)
        refine hK.out _ _ ⟨HX_20.out.below hb.out, HY_20.out.below hb.out⟩ (fun hHeld => ?_)
        clear hK K
        try simp only [Act.put, List.setIfInBounds_toArray, List.set_cons_zero, List.set_cons_succ]
        refine Vc.wpAnyH_read (i := 9) (d := some 6) (v := ?v16) (by rfl) (by rfl) (by kernel_rfl) (by kernel_rfl) (by kernel_rfl) (fun _ _ _ h => h) (by rfl) ?hy16 (by assumption) ?rest16
        case hy16 =>
          intro w hSw
          try dsimp only at hSw
          go_simp
          try with_reducible rfl
        try simp only [Act.put, List.setIfInBounds_toArray, List.set_cons_zero, List.set_cons_succ]
        refine wpAnyH_done (by kernel_rfl) ?_ _
        exact mq_in ⟨g, mb, bb, sb, rfl, HL.out, HX_20.out.below hb.out⟩
  rintro act W ⟨g, mb, bb, sb, rfl, hL, hX⟩
  have HL := Lib.hid hL
  have c9 : W.cell? ⟨g1, 9, none⟩ = some (.slice s.A2 s.n2 s.c2) := hX.at_ 9
  clear hL hX HX_0 HY_0 HI_0 HX0 HY0 HB0
  go_wp2
  clear c9
  go_loopw [24] (fun i wr => ∃ j : Nat, i = .int .i64 j ∧ j ≤ s.n2 ∧ Hid (∃ m, PrI w wr s known g mb bb sb (befJ s.links j) (List.replicate s.n2 false) m ∧ LastI s.links j m)) (fun i _ => s.n2 - (intOf i).toNat)
  case atStart => exact ⟨0, rfl, Nat.zero_le _, Lib.hid ⟨_, HL.out, lastI_nil _⟩⟩
  case round =>
    clear HL
    obtain ⟨j, rfl, hj, HK⟩ := hrel
    by_cases hlt : j < s.n2
    · obtain ⟨m, hL, hm⟩ := HK.out
      have HI := Lib.hid hL
      have HM := Lib.hid hm
      obtain ⟨bk, off, hA, hbl, hxj, mr⟩ := (hL.si.links.row.below hL.below).range (i := j) hlt
      have hxj : j < s.links.length := hxj
      obtain ⟨y, hy⟩ : ∃ y, s.links[j] = y := ⟨_, rfl⟩
      have hA : s.A2 = _ := hA
      have mr : wr.rangeAt bk (off + j * 25) (Fc.linkC (s.links[j])).toList := mr
      rw [hy] at mr
      have MR := Lib.hid mr
      obtain ⟨pl, hpl⟩ : ∃ pl : Nat, pl = lastP s.links y.node j := ⟨_, rfl⟩
      have HPL := Lib.hid (show bef s.links j = pl from by rw [hpl]; unfold bef; rw [List.getElem?_eq_getElem hxj]; exact congrArg (fun q : Fc.LinkP => lastP s.links q.node j) hy)
      have HMZ := Lib.hid (show (m y.node).getD (.int .i64 0) = .int .i64 (pl : Int) from by rw [lastI_get hm, hpl])
      have HNX := Lib.hid (show LastI s.links (j + 1) (updK m y.node (.int .i64 ((j : Int) + 1))) from by rw [← hy]; exact lastI_next hm hxj)
      have hjb : j ≤ 1000000 := Nat.le_trans hj HN.out
      have HZ := Lib.hid (Has.fresh wr 51 zeroL)
      have HBA := Lib.hid ((Below.refl wr.heap.size wr).alloc (Nat.le_refl _) (.cells zeroL 51))
      rw [hA]
      clear mr hy hA hbl hL hm HK hpl hxj
      go_wp2_with (first | ((with_reducible refine Who.wpList_loadC 51 (.tmp 27) rfl (bk) (off + j * 25) (Fc.linkC y) ?_); refine And.intro ⟨by rfl, by rfl, ⟨_, Tryz.underlying51, rfl⟩, info_link⟩ (And.intro (MR.out) ?_); (try simp only [Act.put, List.setIfInBounds_toArray, List.set_cons_zero, List.set_cons_succ])) | ((with_reducible refine Who.wpList_alloc 51 8 rfl rfl rfl (zeroL) allocL ?_); (try simp only [Act.put, List.setIfInBounds_toArray, List.set_cons_zero, List.set_cons_succ]); (try simp only [World.size_alloc])) | ((with_reducible refine wpList_storeG 51 (.tmp 8) (.tmp 28) rfl (wr.heap.size) zeroL (Fc.linkC y) ?_); refine And.intro ⟨rfl, by rfl, by rfl, info_link, own1 y, rfl, HZ.out⟩ ?_; intro W5 HX5 HC5; (try simp only [Act.put, List.setIfInBounds_toArray, List.set_cons_zero, List.set_cons_succ])) | fail)
      have HBW := Lib.hid (below_step HBA.out HC5.out (Nat.le_refl _))
      have HI5 := Lib.hid ((HI.out.low HBW.out).low (Below.refl _ _).drew)
      obtain ⟨g8, hg8⟩ : ∃ g8, g8 = wr.heap.size := ⟨_, rfl⟩
      rw [← hg8] at HX5
      rw [← hg8]
      have HL8 := Lib.hid (show w.heap.size ≤ g8 by rw [hg8]; exact HI.out.below.size)
      clear HI HZ HBA HC5 HBW hg8 MR
      refine wp_region_held_drew (S := fun V => Has V g 100 (prA s known mb bb sb) ∧ Has V g8 51 (Fc.linkC y) ∧ KMap stK V mb m) (by kernel_rfl) ⟨HI5.out.hp, HX5.out.drew, HI5.out.hm⟩ (fun hHeld => ?_)
      refine Vc.wpAnyH_read (i := 0) (d := some 29) (v := ?v17) (by rfl) (by rfl) (by kernel_rfl) (by kernel_rfl) (by kernel_rfl) (fun _ _ _ h => h) (by rfl) ?hy17 (by assumption) ?rest17
      case hy17 =>
        intro w hSw
        try dsimp only at hSw
        go_simp
        try with_reducible rfl
      try simp only [Act.put, List.setIfInBounds_toArray, List.set_cons_zero, List.set_cons_succ]
      refine Vc.wpAnyH_read (i := 1) (d := some 30) (v := ?v18) (by rfl) (by rfl) (by kernel_rfl) (by kernel_rfl) (by kernel_rfl) (fun _ _ _ h => h) (by rfl) ?hy18 (by assumption) ?rest18
      case hy18 =>
        intro w hSw
        try dsimp only at hSw
        go_simp
        try with_reducible rfl
      try simp only [Act.put, List.setIfInBounds_toArray, List.set_cons_zero, List.set_cons_succ]
      refine Vc.wpAnyH_read (i := 2) (d := some 31) (v := ?v19) (by rfl) (by rfl) (by kernel_rfl) (by kernel_rfl) (by kernel_rfl) (fun _ _ _ h => h) (by rfl) ?hy19 (by assumption) ?rest19
      case hy19 =>
        intro w hSw
        try dsimp only at hSw
        go_simp
        try with_reducible rfl
      try simp only [Act.put, List.setIfInBounds_toArray, List.set_cons_zero, List.set_cons_succ]
      refine Vc.wpAnyH_read (i := 3) (d := some 32) (v := .slice (some ⟨bb, 0, none⟩) s.n2 s.n2) (by rfl) (by rfl) (by kernel_rfl) (by kernel_rfl) (by kernel_rfl) (fun _ _ _ h => h) (by rfl) ?hy20 (by assumption) ?rest20
      case hy20 =>
        intro w hSw
        have c := hSw.1.at_ 19
        replace c : w.cell? ⟨g, 19, none⟩ = some (.slice (some ⟨bb, 0, none⟩) s.n2 s.n2) := c
        go_simp
        try with_reducible rfl
      try simp only [Act.put, List.setIfInBounds_toArray, List.set_cons_zero, List.set_cons_succ]
      refine Vc.wpAnyH_read (i := 4) (d := some 33) (v := ?v21) (by rfl) (by rfl) (by kernel_rfl) (by kernel_rfl) (by kernel_rfl) (fun _ _ _ h => h) (by rfl) ?hy21 (by assumption) ?rest21
      case hy21 =>
        intro w hSw
        try dsimp only at hSw
        go_simp
        try with_reducible rfl
      try simp only [Act.put, List.setIfInBounds_toArray, List.set_cons_zero, List.set_cons_succ]
      refine Vc.wpAnyH_read (i := 5) (d := some 34) (v := ?v22) (by rfl) (by rfl) (by kernel_rfl) (by kernel_rfl) (by kernel_rfl) (fun _ _ _ h => h) (by rfl) ?hy22 (by assumption) ?rest22
      case hy22 =>
        intro w hSw
        try dsimp only at hSw
        go_simp
        try with_reducible rfl
      try simp only [Act.put, List.setIfInBounds_toArray, List.set_cons_zero, List.set_cons_succ]
      refine Vc.wpAnyH_read (i := 6) (d := some 35) (v := ?v23) (by rfl) (by rfl) (by kernel_rfl) (by kernel_rfl) (by kernel_rfl) (fun _ _ _ h => h) (by rfl) ?hy23 (by assumption) ?rest23
      case hy23 =>
        intro w hSw
        try dsimp only at hSw
        go_simp
        try with_reducible rfl
      try simp only [Act.put, List.setIfInBounds_toArray, List.set_cons_zero, List.set_cons_succ]
      refine Vc.wpAnyH_read (i := 7) (d := some 36) (v := ?v24) (by rfl) (by rfl) (by kernel_rfl) (by kernel_rfl) (by kernel_rfl) (fun _ _ _ h => h) (by rfl) ?hy24 (by assumption) ?rest24
      case hy24 =>
        intro w hSw
        try dsimp only at hSw
        go_simp
        try with_reducible rfl
      try simp only [Act.put, List.setIfInBounds_toArray, List.set_cons_zero, List.set_cons_succ]
      refine Vc.wpAnyH_read (i := 8) (d := some 37) (v := .map (some mb)) (by rfl) (by rfl) (by kernel_rfl) (by kernel_rfl) (by kernel_rfl) (fun _ _ _ h => h) (by rfl) ?hy25 (by assumption) ?rest25
      case hy25 =>
        intro w hSw
        have c := hSw.1.at_ 18
        replace c : w.cell? ⟨g, 18, none⟩ = some (.map (some mb)) := c
        go_simp
        try with_reducible rfl
      try simp only [Act.put, List.setIfInBounds_toArray, List.set_cons_zero, List.set_cons_succ]
      refine Vc.wpAnyH_read (i := 9) (d := some 38) (v := ?v26) (by rfl) (by rfl) (by kernel_rfl) (by kernel_rfl) (by kernel_rfl) (fun _ _ _ h => h) (by rfl) ?hy26 (by assumption) ?rest26
      case hy26 =>
        intro w hSw
        try dsimp only at hSw
        go_simp
        try with_reducible rfl
      try simp only [Act.put, List.setIfInBounds_toArray, List.set_cons_zero, List.set_cons_succ]
      refine Vc.wpAnyH_read (i := 10) (d := some 39) (v := .agg #[.int .i64 y.node.1, .int .i64 y.node.2]) (by rfl) (by rfl) (by kernel_rfl) (by kernel_rfl) (by kernel_rfl) (fun _ _ _ h => h) (by rfl) ?hy27 (by assumption) ?rest27
      case hy27 =>
        intro w hSw
        exact Who.exec_loadA _ rfl rfl (l_node hSw.2.1) Tryz.underlying37 rfl info_st
      try simp only [Act.put, List.setIfInBounds_toArray, List.set_cons_zero, List.set_cons_succ]
      refine Vc.wpAnyH_read (i := 11) (d := some 40) (v := .int .i64 pl) (by rfl) (by rfl) (by kernel_rfl) (by kernel_rfl) (by kernel_rfl) (fun _ _ _ h => h) (by rfl) ?hy28 (by assumption) ?rest28
      case hy28 =>
        intro w hSw
        have h : (Instr.lookup 98 (.map (some mb)) (.agg #[.int .i64 y.node.1, .int .i64 y.node.2]) false).run Tryz.prog w = .ok (.int .i64 pl) w := by have q := (KMap.lookup Tryz.underlying98 stKeys hSw.2.2 (.int .i64 0) Tryz.zeroValue3 y.node).1; rw [HMZ.out] at q; exact q
        go_simp
        try with_reducible rfl
      try simp only [Act.put, List.setIfInBounds_toArray, List.set_cons_zero, List.set_cons_succ]
      refine Vc.wpAnyH_read (i := 12) (d := some 41) (v := .pointer (some ⟨bb, j, none⟩)) (by rfl) (by rfl) (by kernel_rfl) (by kernel_rfl) (by kernel_rfl) (fun _ _ _ h => h) (by rfl) ?hy29 (by assumption) ?rest29
      case hy29 =>
        intro w hSw
        try dsimp only at hSw
        go_simp
        try with_reducible rfl
      try simp only [Act.put, List.setIfInBounds_toArray, List.set_cons_zero, List.set_cons_succ]
      refine wpAnyH_ready (rs := [13]) (by kernel_rfl) (by simp) ?_
      refine AllReadyH.cons rfl (fun K hK => ?_) AllReadyH.nil
      refine stepG_cell (T := 3) 3 (.tmp 41) (.tmp 40) (by rfl) bb j (intsA (befJ s.links j)) (intsA (befJ s.links (j + 1))) (.int .i64 pl) ?_
      refine And.intro ⟨by rfl, by rfl, by rfl, by rfl, info_int, rfl, by rw [intsA_size, befJ_len, HLN.out]; exact hlt, by rw [intsA_set, ← HPL.out, befJ_next], HI5.out.hb⟩ ?_
      intro W6 HX6 HC6
      have HI6 := Lib.hid (HI5.out.setb HX6.out HC6.out)
      have HX8 := Lib.hid (HX5.out.drew.over HC6.out (has_ne HX5.out HI5.out.hb (by decide)))
      refine hK.out _ _ ⟨HI6.out.hp, HX8.out, HI6.out.hm⟩ (fun hHeld => ?_)
      clear hK K
      try simp only [Act.put, List.setIfInBounds_toArray, List.set_cons_zero, List.set_cons_succ]
      refine wpAnyH_done (by kernel_rfl) ?_ _
      clear HI5 HX5 HX6 HC6
      go_wp2_with fail
      refine wp_region_held_drew (S := fun V => Has V g 100 (prA s known mb bb sb) ∧ Has V g8 51 (Fc.linkC y)) (by kernel_rfl) ⟨HI6.out.hp.drew, HX8.out.drew⟩ (fun hHeld => ?_)
      refine Vc.wpAnyH_read (i := 0) (d := some 42) (v := ?v30) (by rfl) (by rfl) (by kernel_rfl) (by kernel_rfl) (by kernel_rfl) (fun _ _ _ h => h) (by rfl) ?hy30 (by assumption) ?rest30
      case hy30 =>
        intro w hSw
        try dsimp only at hSw
        go_simp
        try with_reducible rfl
      try simp only [Act.put, List.setIfInBounds_toArray, List.set_cons_zero, List.set_cons_succ]
      refine Vc.wpAnyH_read (i := 1) (d := some 43) (v := ?v31) (by rfl) (by rfl) (by kernel_rfl) (by kernel_rfl) (by kernel_rfl) (fun _ _ _ h => h) (by rfl) ?hy31 (by assumption) ?rest31
      case hy31 =>
        intro w hSw
        try dsimp only at hSw
        go_simp
        try with_reducible rfl
      try simp only [Act.put, List.setIfInBounds_toArray, List.set_cons_zero, List.set_cons_succ]
      refine Vc.wpAnyH_read (i := 2) (d := some 44) (v := ?v32) (by rfl) (by rfl) (by kernel_rfl) (by kernel_rfl) (by kernel_rfl) (fun _ _ _ h => h) (by rfl) ?hy32 (by assumption) ?rest32
      case hy32 =>
        intro w hSw
        try dsimp only at hSw
        go_simp
        try with_reducible rfl
      try simp only [Act.put, List.setIfInBounds_toArray, List.set_cons_zero, List.set_cons_succ]
      refine Vc.wpAnyH_read (i := 3) (d := some 45) (v := .map (some mb)) (by rfl) (by rfl) (by kernel_rfl) (by kernel_rfl) (by kernel_rfl) (fun _ _ _ h => h) (by rfl) ?hy33 (by assumption) ?rest33
      case hy33 =>
        intro w hSw
        have c := hSw.1.at_ 18
        replace c : w.cell? ⟨g, 18, none⟩ = some (.map (some mb)) := c
        go_simp
        try with_reducible rfl
      try simp only [Act.put, List.setIfInBounds_toArray, List.set_cons_zero, List.set_cons_succ]
      refine Vc.wpAnyH_read (i := 4) (d := some 46) (v := ?v34) (by rfl) (by rfl) (by kernel_rfl) (by kernel_rfl) (by kernel_rfl) (fun _ _ _ h => h) (by rfl) ?hy34 (by assumption) ?rest34
      case hy34 =>
        intro w hSw
        try dsimp only at hSw
        go_simp
        try with_reducible rfl
      try simp only [Act.put, List.setIfInBounds_toArray, List.set_cons_zero, List.set_cons_succ]
      refine Vc.wpAnyH_read (i := 5) (d := some 47) (v := .agg #[.int .i64 y.node.1, .int .i64 y.node.2]) (by rfl) (by rfl) (by kernel_rfl) (by kernel_rfl) (by kernel_rfl) (fun _ _ _ h => h) (by rfl) ?hy35 (by assumption) ?rest35
      case hy35 =>
        intro w hSw
        exact Who.exec_loadA _ rfl rfl (l_node hSw.2) Tryz.underlying37 rfl info_st
      try simp only [Act.put, List.setIfInBounds_toArray, List.set_cons_zero, List.set_cons_succ]
      refine Vc.wpAnyH_read (i := 6) (d := some 48) (v := ?v36) (by rfl) (by rfl) (by kernel_rfl) (by kernel_rfl) (by kernel_rfl) (fun _ _ _ h => h) (by rfl) ?hy36 (by assumption) ?rest36
      case hy36 =>
        intro w hSw
        try dsimp only at hSw
        go_simp
        try with_reducible rfl
      try simp only [Act.put, List.setIfInBounds_toArray, List.set_cons_zero, List.set_cons_succ]
      refine Vc.wpAnyH_read (i := 7) (d := some 49) (v := .int .i64 ((j : Int) + 1)) (by rfl) (by rfl) (by kernel_rfl) (by kernel_rfl) (by kernel_rfl) (fun _ _ _ h => h) (by rfl) ?hy37 (by assumption) ?rest37
      case hy37 =>
        intro w hSw
        have hwr : IntKind.i64.wrap ((j : Int) + 1) = (j : Int) + 1 := by rw [IntKind.wrap_i64] <;> omega
        go_simp
        try with_reducible rfl
      try simp only [Act.put, List.setIfInBounds_toArray, List.set_cons_zero, List.set_cons_succ]
      refine wpAnyH_ready (rs := [8]) (by kernel_rfl) (by simp) ?_
      refine AllReadyH.cons rfl (fun K hK => ?_) AllReadyH.nil
      refine step_upd mb m y.node (.int .i64 ((j : Int) + 1)) (.tmp 45) (.tmp 47) (.tmp 49) (by rfl) ?_
      refine And.intro ⟨by rfl, by rfl, by rfl, by rfl, by rfl, HI6.out.hm.drew⟩ ?_
      intro W7 HM7 HC7
      have HI7 := Lib.hid ((HI6.out.low (Below.refl _ _).drew).upd HM7.out HC7.out)
      have HX9 := Lib.hid (HX8.out.drew.over HC7.out (map_ne HX8.out.drew HI6.out.hm.drew))
      refine hK.out _ _ ⟨HI7.out.hp, HX9.out⟩ (fun hHeld => ?_)
      clear hK K
      try simp only [Act.put, List.setIfInBounds_toArray, List.set_cons_zero, List.set_cons_succ]
      refine wpAnyH_done (by kernel_rfl) ?_ _
      clear HI6 HX8 HM7 HC7
      go_wp2
      go_roundw
      case rel => exact ⟨j + 1, by go_num, by omega, Lib.hid ⟨_, HI7.out, HNX.out⟩⟩
      case measure => simp [intOf]; omega
    · obtain rfl : s.n2 = j := by omega
      go_wp2
      go_ret
      obtain ⟨m, h1, h2⟩ := HK.out
      exact ⟨g, mb, bb, sb, m, rfl, h1, h2⟩
end Go.Proofs.YtblogecapegbmaaGreat.Jn
