/- The same states: by rows alone. -/
import Derived.Test.YtblogecapegbmaaGreatJnRow
namespace Go.Proofs.YtblogecapegbmaaGreat.Fc
open Go.RowKit Go.Proofs.YtblogecapegbmaaGreat.Mem Go.Proofs.YtblogecapegbmaaGreat.Vc
set_option linter.unusedVariables false

theorem toList_eq {a b : ByteArray} (h : a.toList = b.toList) : a = b := Go.Proofs.YtblogecapegbmaaGreat.Jn.toList_inj h
theorem take_snoc_eq {α : Type} {l k : List α} {j : Nat} (h1 : j < l.length) (h2 : j < k.length) (h : l.take j = k.take j) (he : l[j] = k[j]) : l.take (j + 1) = k.take (j + 1) := by
  rw [List.take_succ_eq_append_getElem h1, List.take_succ_eq_append_getElem h2, h, he]
set_option maxRecDepth 100000 in
set_option maxHeartbeats 4000000 in
theorem eqp_any (A B : Option Addr) (n m c d : Nat) (l k : List PieceP) (hn : n ≤ 9223372036854775807) (hm : m ≤ 9223372036854775807) (w : World) (h : SRow w 4 pieceC A n l) (h2 : SRow w 4 pieceC B m k) :
    Calls Tryz.prog 100 #[.slice A n c, .slice B m d] w fun e w' => Told (l = k) e ∧ Below w.heap.size w w' := by
  have HR := Lib.hid h
  have HR2 := Lib.hid h2
  clear h h2
  go_enter Tryz.func100, Tryz.ntmps100
  by_cases hnm : n = m
  · subst hnm
    go_wp2
    go_loopw [13] (fun z wr => ∃ j : Nat, j ≤ n ∧ z = .int .i64 j ∧ l.take j = k.take j ∧ Below w.heap.size w wr) (fun z _ => n - (intOf z).toNat)
    case atStart => exact ⟨0, Nat.zero_le _, rfl, rfl, Below.refl _ _⟩
    case round =>
      obtain ⟨j, hj, rfl, ht, hb⟩ := hrel
      have HB := Lib.hid hb
      have HT := Lib.hid ht
      clear hb ht
      by_cases hlt : j < n
      · obtain ⟨b, off, rfl, hbl, j1, x1, x2, x3, x4⟩ := piece_cells (HR.out.below HB.out) hlt
        obtain ⟨b2, off2, rfl, hbl2, j2, y1, y2, y3, y4⟩ := piece_cells (HR2.out.below HB.out) hlt
        have HN := Lib.hid (take_snoc_eq j1 j2 HT.out)
        have HE := Lib.hid (show l[j] ≠ k[j] → l ≠ k from fun he e => he (by subst e; rfl))
        clear hbl hbl2
        generalize l[j] = x at *
        generalize k[j] = y at *
        clear j1 j2
        obtain ⟨i1, ⟨a1, a2⟩, t1⟩ := x
        obtain ⟨i2, ⟨b1, b2⟩, t2⟩ := y
        dsimp only at *
        by_cases hxy : i1 = i2 ∧ a1 = b1 ∧ a2 = b2 ∧ t1 = t2
        · obtain ⟨rfl, rfl, rfl, rfl⟩ := hxy
          replace HN := Lib.hid (HN.out (by trivial))
          clear HE
          go_wp2_with fail
          go_quiet (fail)
          go_wp2
          go_roundw
          case rel => exact ⟨j + 1, by omega, by go_num, HN.out, below_drewN HB.out _⟩
          case measure => simp [intOf]; omega
        · have HF := Lib.hid (HE.out (fun e => hxy (by cases e; simp)))
          have HX := Lib.hid hxy
          clear HE HN
          go_wp2_with fail
          refine wp_region_quiet_lit (by kernel_rfl) (by kernel_rfl) ?_
          repeat (quiet_step (fail))
          refine wpQuiet_step (fun K hK => ?_)
          go_simp
          refine ⟨.bool true, fun a => ?_, hK _ ?_⟩
          · have HX := HX.out
            rcases Classical.em (i1 = i2) with h1 | h1
            case' inr => simp [h1]
            rcases Classical.em (a1 = b1) with h2 | h2
            case' inr => simp [h1, h2]
            rcases Classical.em (a2 = b2) with h3 | h3
            case' inr => simp [h1, h2, h3]
            rcases Classical.em (t1.toList = t2.toList) with h4 | h4
            case' inr => simp [h1, h2, h3, h4]
            exact absurd ⟨h1, h2, h3, toList_eq h4⟩ HX
          clear hK K
          refine wpQuiet_nil ?_
          intro _ hw'
          obtain ⟨nq, hw''⟩ := hw'
          subst hw''
          go_wp2
          go_ret
          exact ⟨⟨false, rfl, by simpa using HF.out⟩, below_drewN HB.out _⟩
      · obtain rfl : j = n := by omega
        have he : l = k := by
          have := HT.out
          rw [List.take_of_length_le (by rw [HR.out.len]; exact Nat.le_refl _), List.take_of_length_le (by rw [HR2.out.len]; exact Nat.le_refl _)] at this
          exact this
        have HF := Lib.hid he
        clear he
        go_wp2
        go_ret
        exact ⟨⟨true, rfl, by simpa using HF.out⟩, HB.out⟩
  · have t1 : ((n : Int) == (m : Int)) = false := beq_eq_false_iff_ne.2 (by omega)
    have he : l ≠ k := fun e => hnm (by rw [← HR.out.len, ← HR2.out.len, e])
    have HF := Lib.hid he
    clear he hnm
    go_wp2
    go_ret
    exact ⟨⟨false, rfl, by simpa using HF.out⟩, Below.refl _ _⟩
set_option maxRecDepth 100000 in
set_option maxHeartbeats 4000000 in
theorem eqx_any (A B : Option Addr) (n m c d : Nat) (l k : List XattrP) (hn : n ≤ 9223372036854775807) (hm : m ≤ 9223372036854775807) (w : World) (h : SRow w 5 xattrC A n l) (h2 : SRow w 5 xattrC B m k) :
    Calls Tryz.prog 101 #[.slice A n c, .slice B m d] w fun e w' => Told (l = k) e ∧ Below w.heap.size w w' := by
  have HR := Lib.hid h
  have HR2 := Lib.hid h2
  clear h h2
  go_enter Tryz.func101, Tryz.ntmps101
  by_cases hnm : n = m
  · subst hnm
    go_wp2
    go_loopw [13] (fun z wr => ∃ j : Nat, j ≤ n ∧ z = .int .i64 j ∧ l.take j = k.take j ∧ Below w.heap.size w wr) (fun z _ => n - (intOf z).toNat)
    case atStart => exact ⟨0, Nat.zero_le _, rfl, rfl, Below.refl _ _⟩
    case round =>
      obtain ⟨j, hj, rfl, ht, hb⟩ := hrel
      have HB := Lib.hid hb
      have HT := Lib.hid ht
      clear hb ht
      by_cases hlt : j < n
      · obtain ⟨b, off, rfl, hbl, j1, x1, x2, x3, x4, x5⟩ := xattr_cells (HR.out.below HB.out) hlt
        obtain ⟨b2, off2, rfl, hbl2, j2, y1, y2, y3, y4, y5⟩ := xattr_cells (HR2.out.below HB.out) hlt
        have HN := Lib.hid (take_snoc_eq j1 j2 HT.out)
        have HE := Lib.hid (show l[j] ≠ k[j] → l ≠ k from fun he e => he (by subst e; rfl))
        clear hbl hbl2
        generalize l[j] = x at *
        generalize k[j] = y at *
        clear j1 j2
        obtain ⟨s1, ⟨a1, a2⟩, t1, g1⟩ := x
        obtain ⟨s2, ⟨b1, b2⟩, t2, g2⟩ := y
        dsimp only at *
        by_cases hxy : s1 = s2 ∧ a1 = b1 ∧ a2 = b2 ∧ t1 = t2 ∧ g1 = g2
        · obtain ⟨rfl, rfl, rfl, rfl, rfl⟩ := hxy
          replace HN := Lib.hid (HN.out (by trivial))
          clear HE
          go_wp2_with fail
          go_quiet (fail)
          go_wp2
          go_roundw
          case rel => exact ⟨j + 1, by omega, by go_num, HN.out, below_drewN HB.out _⟩
          case measure => simp [intOf]; omega
        · have HF := Lib.hid (HE.out (fun e => hxy (by cases e; simp)))
          have HX := Lib.hid hxy
          clear HE HN
          go_wp2_with fail
          refine wp_region_quiet_lit (by kernel_rfl) (by kernel_rfl) ?_
          repeat (quiet_step (fail))
          refine wpQuiet_step (fun K hK => ?_)
          go_simp
          refine ⟨.bool true, fun a => ?_, hK _ ?_⟩
          · have HX := HX.out
            rcases Classical.em (s1.toList = s2.toList) with h1 | h1
            case' inr => simp [h1]
            rcases Classical.em (a1 = b1) with h2 | h2
            case' inr => simp [h1, h2]
            rcases Classical.em (a2 = b2) with h3 | h3
            case' inr => simp [h1, h2, h3]
            rcases Classical.em (t1.toList = t2.toList) with h4 | h4
            case' inr => simp [h1, h2, h3, h4]
            rcases Classical.em (g1 = g2) with h5 | h5
            case' inr => simp [h1, h2, h3, h4, h5]
            exact absurd ⟨toList_eq h1, h2, h3, toList_eq h4, h5⟩ HX
          clear hK K
          refine wpQuiet_nil ?_
          intro _ hw'
          obtain ⟨nq, hw''⟩ := hw'
          subst hw''
          go_wp2
          go_ret
          exact ⟨⟨false, rfl, by simpa using HF.out⟩, below_drewN HB.out _⟩
      · obtain rfl : j = n := by omega
        have he : l = k := by
          have := HT.out
          rw [List.take_of_length_le (by rw [HR.out.len]; exact Nat.le_refl _), List.take_of_length_le (by rw [HR2.out.len]; exact Nat.le_refl _)] at this
          exact this
        have HF := Lib.hid he
        clear he
        go_wp2
        go_ret
        exact ⟨⟨true, rfl, by simpa using HF.out⟩, HB.out⟩
  · have t1 : ((n : Int) == (m : Int)) = false := beq_eq_false_iff_ne.2 (by omega)
    have he : l ≠ k := fun e => hnm (by rw [← HR.out.len, ← HR2.out.len, e])
    have HF := Lib.hid he
    clear he hnm
    go_wp2
    go_ret
    exact ⟨⟨false, rfl, by simpa using HF.out⟩, Below.refl _ _⟩

theorem eql_size (a b c d e f : Int) (w : World) : (binOp .eql 42 (.agg #[.int .i64 a, .int .i64 b, .int .i64 c]) (.agg #[.int .i64 d, .int .i64 e, .int .i64 f])).run Tryz.prog w = .ok (.bool ((a == d && b == e) && c == f)) w := by
  have u3 := Tryz.underlying3
  have a3 := Tryz.isAgg3
  have z3 := Tryz.sizeOf3
  have u29 := Tryz.underlying37
  have a29 := Tryz.isAgg37
  have z29 := Tryz.sizeOf37
  have hS : Tryz.prog.underlying 42 = some (.struct (Tryz.prog.fieldsOf 42)) := by kernel_rfl
  have hp : Tryz.prog.stoodInHeld 42 = false := by kernel_rfl
  have hS2 : Tryz.prog.underlying 37 = some (.struct (Tryz.prog.fieldsOf 37)) := by kernel_rfl
  have hp2 : Tryz.prog.stoodInHeld 37 = false := by kernel_rfl
  rw [run_eql_struct]
  rw [show (10000 : Nat) = 9999 + 1 from rfl]
  rw [run_equalIn_agg w 9999 42 _ _ hS hp]
  simp only [Program.fieldsOf, Tryz.underlying42]
  go_simp
  by_cases h1 : a = d <;> by_cases h2 : b = e <;> by_cases h3 : c = f <;> simp [h1, h2, h3]
theorem told_not {P : Prop} (h : false = true ↔ P) : ¬ P := fun k => by have := h.2 k; cases this
theorem size_link (l : LinkP) : (Tryz.prog.info? 51).map (·.size) = some (linkC l).size := by
  show _ = some 25
  kernel_rfl
theorem eql_attr (a b c d a' b' c' d' : Int) (w : World) : (binOp .eql 40 (.agg #[.int .i64 a, .int .i64 b, .int .i64 c, .int .u64 d]) (.agg #[.int .i64 a', .int .i64 b', .int .i64 c', .int .u64 d'])).run Tryz.prog w = .ok (.bool (((a == a' && b == b') && c == c') && d == d')) w := by
  have u3 := Tryz.underlying3
  have a3 := Tryz.isAgg3
  have z3 := Tryz.sizeOf3
  have u4 := Tryz.underlying38
  have a4 := Tryz.isAgg38
  have z4 := Tryz.sizeOf38
  have u29 := Tryz.underlying37
  have a29 := Tryz.isAgg37
  have z29 := Tryz.sizeOf37
  have hS : Tryz.prog.underlying 40 = some (.struct (Tryz.prog.fieldsOf 40)) := by kernel_rfl
  have hp : Tryz.prog.stoodInHeld 40 = false := by kernel_rfl
  have hS2 : Tryz.prog.underlying 37 = some (.struct (Tryz.prog.fieldsOf 37)) := by kernel_rfl
  have hp2 : Tryz.prog.stoodInHeld 37 = false := by kernel_rfl
  rw [run_eql_struct]
  rw [show (10000 : Nat) = 9999 + 1 from rfl]
  rw [run_equalIn_agg w 9999 40 _ _ hS hp]
  simp only [Program.fieldsOf, Tryz.underlying40]
  go_simp
  by_cases h1 : a = a' <;> by_cases h2 : b = b' <;> by_cases h3 : c = c' <;> by_cases h4 : d = d' <;> simp [h1, h2, h3, h4]
set_option maxRecDepth 100000 in
set_option maxHeartbeats 8000000 in
theorem samenode_any (x y : NodeC) (w : World) (hx : NodeRow w x) (hy : NodeRow w y) :
    Calls Tryz.prog 56 #[.agg (nodeC x), .agg (nodeC y)] w fun e w' => Told (x.p = y.p) e ∧ Below w.heap.size w w' := by
  have HB := Lib.hid (((Below.refl w.heap.size w).alloc (Nat.le_refl _) (.cells (nodeC x) 46)).alloc (by simp) (.cells (nodeC y) 46))
  have HP := Lib.hid (fun W (hb : Below w.heap.size w W) => eqp_any x.A1 y.A1 x.n1 y.n1 x.c1 y.c1 x.p.ps y.p.ps hx.m1 hy.m1 W (hx.ps.below hb) (hy.ps.below hb))
  have HX := Lib.hid (fun W (hb : Below w.heap.size w W) => eqx_any x.A2 y.A2 x.n2 y.n2 x.c2 y.c2 x.p.xs y.p.xs hx.m2 hy.m2 W (hx.xs.below hb) (hy.xs.below hb))
  have HA0 := Lib.hid ((Has.fresh w 46 (nodeC x)).past (.cells (nodeC y) 46))
  have HA1 := Lib.hid (Has.fresh (w.alloc (.cells (nodeC x) 46)) 46 (nodeC y))
  simp only [World.size_alloc] at HA1
  clear hx hy
  unfold nodeC
  have hq := eql_size
  have hr := eql_attr
  obtain ⟨⟨⟨i1, i2⟩, kd, tx, ⟨a1, a2⟩, md, tm, ⟨s1, s2⟩, nn, ps, xs⟩, A1, n1, c1, A2, n2, c2⟩ := x
  obtain ⟨⟨⟨j1, j2⟩, ke, ty, ⟨b1, b2⟩, me, te, ⟨r1, r2⟩, mm, qs, ys⟩, B1, m1, d1, B2, m2, d2⟩ := y
  unfold nodeC at HB HA0 HA1
  dsimp only at *
  go_enter Tryz.func56, Tryz.ntmps56
  rcases Classical.em (i1 = j1) with q0 | q0
  case' inr =>
    have HN := Lib.hid (show i1 ≠ j1 from q0)
    go_wp2
    go_ret
    exact ⟨told_no (fun e => HN.out (by cases e; rfl)), HB.out⟩
  subst q0
  rcases Classical.em (i2 = j2) with q1 | q1
  case' inr =>
    have HN := Lib.hid (show i2 ≠ j2 from q1)
    go_wp2
    go_ret
    exact ⟨told_no (fun e => HN.out (by cases e; rfl)), HB.out⟩
  subst q1
  rcases Classical.em (kd = ke) with q2 | q2
  case' inr =>
    have HN := Lib.hid (show kd ≠ ke from q2)
    go_wp2
    go_ret
    exact ⟨told_no (fun e => HN.out (by cases e; rfl)), HB.out⟩
  subst q2
  rcases Classical.em (tx.toList = ty.toList) with q3 | q3
  case' inr =>
    have HN := Lib.hid (show tx ≠ ty from fun e => q3 (by rw [e]))
    go_wp2
    go_ret
    exact ⟨told_no (fun e => HN.out (by cases e; rfl)), HB.out⟩
  have e3 := toList_eq q3
  clear q3
  subst e3
  rcases Classical.em (a1 = b1) with q4 | q4
  case' inr =>
    have HN := Lib.hid (show a1 ≠ b1 from q4)
    go_wp2
    go_ret
    exact ⟨told_no (fun e => HN.out (by cases e; rfl)), HB.out⟩
  subst q4
  rcases Classical.em (a2 = b2) with q5 | q5
  case' inr =>
    have HN := Lib.hid (show a2 ≠ b2 from q5)
    go_wp2
    go_ret
    exact ⟨told_no (fun e => HN.out (by cases e; rfl)), HB.out⟩
  subst q5
  rcases Classical.em (md = me) with q6 | q6
  case' inr =>
    have HN := Lib.hid (show md ≠ me from q6)
    go_wp2
    go_ret
    exact ⟨told_no (fun e => HN.out (by cases e; rfl)), HB.out⟩
  subst q6
  rcases Classical.em (tm = te) with q7 | q7
  case' inr =>
    have HN := Lib.hid (show tm ≠ te from q7)
    have q7b : ¬ ((tm : Int) = te) := by omega
    go_wp2
    go_ret
    exact ⟨told_no (fun e => HN.out (by cases e; rfl)), HB.out⟩
  subst q7
  rcases Classical.em (s1 = r1) with q8 | q8
  case' inr =>
    have HN := Lib.hid (show s1 ≠ r1 from q8)
    go_wp2
    go_ret
    exact ⟨told_no (fun e => HN.out (by cases e; rfl)), HB.out⟩
  subst q8
  rcases Classical.em (s2 = r2) with q9 | q9
  case' inr =>
    have HN := Lib.hid (show s2 ≠ r2 from q9)
    go_wp2
    go_ret
    exact ⟨told_no (fun e => HN.out (by cases e; rfl)), HB.out⟩
  subst q9
  rcases Classical.em (nn = mm) with q10 | q10
  case' inr =>
    have HN := Lib.hid (show nn ≠ mm from q10)
    go_wp2
    go_ret
    exact ⟨told_no (fun e => HN.out (by cases e; rfl)), HB.out⟩
  subst q10
  go_wp2_with fail
  refine (HP.out _ HB.out).mono ?_
  rintro e w1 ⟨⟨b1, rfl, p1⟩, hb⟩
  replace HB := Lib.hid (HB.out.trans (hb.mono HB.out.size))
  replace HA0 := Lib.hid (HA0.out.below hb)
  replace HA1 := Lib.hid (HA1.out.below hb)
  have hr0 := fun j => HA0.out.at_ j
  have hr1 := fun j => HA1.out.at_ j
  clear hb
  cases b1 with
  | false =>
    have HN := Lib.hid (told_not p1)
    clear p1
    go_wp2
    go_ret
    exact ⟨told_no (fun e => HN.out (by cases e; rfl)), HB.out⟩
  | true =>
    have e1 := p1.1 rfl
    clear p1
    subst e1
    go_wp2_with fail
    refine (HX.out _ HB.out).mono ?_
    rintro e w2 ⟨⟨b2, rfl, p2⟩, hb⟩
    replace HB := Lib.hid (HB.out.trans (hb.mono HB.out.size))
    clear hb hr0 hr1
    cases b2 with
    | false =>
      have HN := Lib.hid (told_not p2)
      clear p2
      go_wp2
      go_ret
      exact ⟨told_no (fun e => HN.out (by cases e; rfl)), HB.out⟩
    | true =>
      have e2 := p2.1 rfl
      clear p2
      subst e2
      go_wp2
      go_ret
      exact ⟨told_yes (by trivial), HB.out⟩

set_option maxRecDepth 100000 in
set_option maxHeartbeats 8000000 in
theorem eqnodes_any (A B : Option Addr) (n m c d : Nat) (l k : List NodeC) (hn : n ≤ 9223372036854775807) (hm : m ≤ 9223372036854775807) (w : World) (h : SRow w 13 nodeC A n l) (h2 : SRow w 13 nodeC B m k) (hf : ∀ x ∈ l, NodeRow w x) (hg : ∀ x ∈ k, NodeRow w x) :
    Calls Tryz.prog 55 #[.slice A n c, .slice B m d, .func (.func 56) #[] #[]] w fun e w' => Told (l.map NodeC.p = k.map NodeC.p) e ∧ Below w.heap.size w w' := by
  have HR := Lib.hid h
  have HR2 := Lib.hid h2
  have HF := Lib.hid hf
  have HG := Lib.hid hg
  clear h h2 hf hg
  go_enter Tryz.func55, Tryz.ntmps55
  by_cases hnm : n = m
  · subst hnm
    go_wp2
    go_loopw [17] (fun z wr => ∃ j : Nat, j ≤ n ∧ z = .int .i64 j ∧ (l.map NodeC.p).take j = (k.map NodeC.p).take j ∧ Below w.heap.size w wr) (fun z _ => n - (intOf z).toNat)
    case atStart => exact ⟨0, Nat.zero_le _, rfl, rfl, Below.refl _ _⟩
    case round =>
      obtain ⟨j, hj, rfl, ht, hb⟩ := hrel
      have HB := Lib.hid hb
      have HT := Lib.hid ht
      clear hb ht
      by_cases hlt : j < n
      · obtain ⟨b, off, hA1, hbl, j1, hr⟩ := node_cells (HR.out.below HB.out) hlt
        obtain ⟨b2, off2, hA2, hbl2, j2, hr2⟩ := node_cells (HR2.out.below HB.out) hlt
        have HX := Lib.hid ((HF.out l[j] (List.getElem_mem j1)).below HB.out)
        have HY := Lib.hid ((HG.out k[j] (List.getElem_mem j2)).below HB.out)
        have HN := Lib.hid (take_snoc_eq (l := l.map NodeC.p) (k := k.map NodeC.p) (j := j) (by simpa using j1) (by simpa using j2) HT.out)
        have HE := Lib.hid (show (l[j]).p ≠ (k[j]).p → l.map NodeC.p ≠ k.map NodeC.p from fun he e => he (by
          have := congrArg (fun z => z[j]?) e
          simpa [List.getElem?_map, List.getElem?_eq_getElem j1, List.getElem?_eq_getElem j2] using this))
        simp only [List.getElem_map] at HN
        generalize l[j] = x at *
        generalize k[j] = y at *
        have HS := Lib.hid (fun W (hb : Below wr.heap.size wr W) => samenode_any x y W (HX.out.below hb) (HY.out.below hb))
        obtain ⟨⟨x0, x1, x2, x3⟩, ⟨x4, x5, x6, x7⟩, ⟨x8, x9, x10⟩, x11, x12⟩ := hr
        obtain ⟨⟨y0, y1, y2, y3⟩, ⟨y4, y5, y6, y7⟩, ⟨y8, y9, y10⟩, y11, y12⟩ := hr2
        rw [hA1, hA2]
        clear j1 j2
        go_wp2_with fail
        refine (HS.out _ (((Below.refl _ _).alloc (Nat.le_refl _) _).alloc (by simp) _)).mono ?_
        rintro e w1 ⟨⟨b1, rfl, p1⟩, hb⟩
        replace HB := Lib.hid (HB.out.trans ((((Below.refl wr.heap.size wr).alloc (Nat.le_refl _) _).alloc (by simp) _ |>.trans (hb.mono (by simp; omega))).mono HB.out.size))
        clear hb
        cases b1 with
        | true =>
          replace HN := Lib.hid (HN.out (p1.1 rfl))
          clear p1 HE
          go_wp2
          go_roundw
          case rel => exact ⟨j + 1, by omega, by go_num, HN.out, HB.out⟩
          case measure => simp [intOf]; omega
        | false =>
          have HZ := Lib.hid (HE.out (told_not p1))
          clear p1 HE HN
          go_wp2
          go_ret
          exact ⟨told_no HZ.out, HB.out⟩
      · obtain rfl : j = n := by omega
        have he : l.map NodeC.p = k.map NodeC.p := by
          have := HT.out
          rw [List.take_of_length_le (by rw [List.length_map, HR.out.len]; exact Nat.le_refl _), List.take_of_length_le (by rw [List.length_map, HR2.out.len]; exact Nat.le_refl _)] at this
          exact this
        have HF := Lib.hid he
        clear he
        go_wp2
        go_ret
        exact ⟨told_yes HF.out, HB.out⟩
  · have t1 : ((n : Int) == (m : Int)) = false := beq_eq_false_iff_ne.2 (by omega)
    have he : l.map NodeC.p ≠ k.map NodeC.p := fun e => hnm (by rw [← HR.out.len, ← HR2.out.len, ← List.length_map (f := NodeC.p), e, List.length_map])
    have HF := Lib.hid he
    clear he hnm
    go_wp2
    go_ret
    exact ⟨⟨false, rfl, by simpa using HF.out⟩, Below.refl _ _⟩

/-- In a region that draws its order and only reads: a whole struct loaded. -/
theorem quiet_loadA {P : Program} {C : World → Prop} {o : Oper} {a : Act} {K : Act → Prop} (ty : TypeId) (x : Operand) (ho : o.op = .load ty x)
    (b q : Nat) (cs : Array Value) (d : TypeDesc) (hc : ∀ w, C w → w.rangeAt b q cs.toList) (hx : a.eval x = .pointer (some ⟨b, q, none⟩)) (hu : P.underlying ty = some d) (hd : d.isRow = true) (hi : (P.info? ty).map (·.size) = some cs.size)
    (h : K (a.put o.dst (.agg cs))) : o.quiet P a C K :=
  ⟨.agg cs, fun w hw => by
    unfold Oper.quietAt execOp
    simp only [ho, hx, Instr.loadAt, Instr.sureAddr, Sem.run_bind, Sem.run_pure, Result.andThen_ok, run_loadVar_mid w b q ty cs.toList d (hc w hw) hu hd (by simpa using hi)]
    exact ⟨rfl, rfl⟩, h⟩
theorem eqvf (k : Nat) (x y : Nat → Int) (w : World) : (Op.equalIn (k + 2) 23 (.agg #[.int .i64 (x 0), .int .i64 (x 1), .int .i64 (x 2), .int .i64 (x 3), .int .i64 (x 4), .int .i64 (x 5), .int .i64 (x 6), .int .i64 (x 7)]) (.agg #[.int .i64 (y 0), .int .i64 (y 1), .int .i64 (y 2), .int .i64 (y 3), .int .i64 (y 4), .int .i64 (y 5), .int .i64 (y 6), .int .i64 (y 7)])).run Tryz.prog w = .ok (eq8 x y) w := by
  have u3 := Tryz.underlying3
  have a3 := Tryz.isAgg3
  have z3 := Tryz.sizeOf3
  rw [← eq8_and, show k + 2 = (k + 1) + 1 from rfl, Op.equalIn]
  simp only [Sem.run_bind, run_underlying Tryz.underlying23, Result.andThen_ok]
  simp only [Std.Legacy.Range.forIn_eq_forIn_range', Std.Legacy.Range.size, Nat.sub_zero, Nat.add_sub_cancel, Nat.div_one, List.range'_succ, List.range'_zero, List.forIn_cons, List.forIn_nil]
  go_simp
  by_cases h0 : x 0 = y 0 <;> simp [h0]
  by_cases h1 : x 1 = y 1 <;> simp [h1]
  by_cases h2 : x 2 = y 2 <;> simp [h2]
  by_cases h3 : x 3 = y 3 <;> simp [h3]
  by_cases h4 : x 4 = y 4 <;> simp [h4]
  by_cases h5 : x 5 = y 5 <;> simp [h5]
  by_cases h6 : x 6 = y 6 <;> simp [h6]
  by_cases h7 : x 7 = y 7 <;> simp [h7]
def sameL (x y : LinkP) : Bool := (x.id.1 == y.id.1 && x.id.2 == y.id.2) && (x.node.1 == y.node.1 && x.node.2 == y.node.2) && (x.at_.1 == y.at_.1 && x.at_.2 == y.at_.2) && (x.par.1 == y.par.1 && x.par.2 == y.par.2) && (x.name.toList == y.name.toList) && eq8 x.al y.al && eq8 x.de y.de
set_option maxRecDepth 100000 in
set_option maxHeartbeats 8000000 in
theorem neq_link (x y : LinkP) (w : World) : (binOp .neq 51 (.agg (linkC x)) (.agg (linkC y))).run Tryz.prog w = .ok (.bool (!sameL x y)) w := by
  have u3 := Tryz.underlying3
  have a3 := Tryz.isAgg3
  have z3 := Tryz.sizeOf3
  have u9 := Tryz.underlying9
  have a9 := Tryz.isAgg9
  have z9 := Tryz.sizeOf9
  have u23 := Tryz.underlying23
  have a23 := Tryz.isAgg23
  have z23 := Tryz.sizeOf23
  have u29 := Tryz.underlying37
  have a29 := Tryz.isAgg37
  have z29 := Tryz.sizeOf37
  have hS : Tryz.prog.underlying 51 = some (.struct (Tryz.prog.fieldsOf 51)) := by kernel_rfl
  have hp : Tryz.prog.stoodInHeld 51 = false := by kernel_rfl
  have hS2 : Tryz.prog.underlying 37 = some (.struct (Tryz.prog.fieldsOf 37)) := by kernel_rfl
  have hp2 : Tryz.prog.stoodInHeld 37 = false := by kernel_rfl
  have hv := eqvf 9997 x.al y.al
  have hv2 := eqvf 9997 x.de y.de
  simp only [Nat.reduceAdd] at hv hv2
  rw [run_neq_struct]
  rw [show (10000 : Nat) = 9999 + 1 from rfl]
  rw [run_equalIn_agg w 9999 51 _ _ hS hp]
  simp only [Program.fieldsOf, Tryz.underlying51]
  unfold linkC sameL
  go_simp
  rcases Classical.em (x.id.1 = y.id.1) with h0 | h0
  case' inr => simp [h0]
  rcases Classical.em (x.id.2 = y.id.2) with h1 | h1
  case' inr => simp [h0, h1]
  rcases Classical.em (x.node.1 = y.node.1) with h2 | h2
  case' inr => simp [h0, h1, h2]
  rcases Classical.em (x.node.2 = y.node.2) with h3 | h3
  case' inr => simp [h0, h1, h2, h3]
  rcases Classical.em (x.at_.1 = y.at_.1) with h4 | h4
  case' inr => simp [h0, h1, h2, h3, h4]
  rcases Classical.em (x.at_.2 = y.at_.2) with h5 | h5
  case' inr => simp [h0, h1, h2, h3, h4, h5]
  rcases Classical.em (x.par.1 = y.par.1) with h6 | h6
  case' inr => simp [h0, h1, h2, h3, h4, h5, h6]
  rcases Classical.em (x.par.2 = y.par.2) with h7 | h7
  case' inr => simp [h0, h1, h2, h3, h4, h5, h6, h7]
  rcases Classical.em (x.name.toList = y.name.toList) with h8 | h8
  case' inr => simp [h0, h1, h2, h3, h4, h5, h6, h7, h8]
  simp only [h0, h1, h2, h3, h4, h5, h6, h7, h8]
  cases eq8 x.al y.al <;> cases eq8 x.de y.de <;> simp
theorem sameL_yes {x y : LinkP} (h : sameL x y = true) : linkC x = linkC y := by
  unfold sameL at h
  simp only [Bool.and_eq_true, beq_iff_eq] at h
  obtain ⟨⟨⟨⟨⟨⟨⟨h0, h1⟩, h2, h3⟩, h4, h5⟩, h6, h7⟩, h8⟩, h9⟩, h10⟩ := h
  have e := eq8_iff.1 h9
  have f := eq8_iff.1 h10
  unfold linkC
  rw [h0, h1, h2, h3, h4, h5, h6, h7, toList_eq h8, e 0 (by decide), e 1 (by decide), e 2 (by decide), e 3 (by decide), e 4 (by decide), e 5 (by decide), e 6 (by decide), e 7 (by decide), f 0 (by decide), f 1 (by decide), f 2 (by decide), f 3 (by decide), f 4 (by decide), f 5 (by decide), f 6 (by decide), f 7 (by decide)]
theorem sameL_no {x y : LinkP} (h : sameL x y = false) : linkC x ≠ linkC y := by
  intro e
  have g : ∀ j : Nat, (linkC x)[j]? = (linkC y)[j]? := fun j => by rw [e]
  unfold sameL at h
  have k0 := g 0; have k1 := g 1; have k2 := g 2; have k3 := g 3; have k4 := g 4; have k5 := g 5; have k6 := g 6; have k7 := g 7; have k8 := g 8
  have k9 := g 9; have k10 := g 10; have k11 := g 11; have k12 := g 12; have k13 := g 13; have k14 := g 14; have k15 := g 15; have k16 := g 16
  have k17 := g 17; have k18 := g 18; have k19 := g 19; have k20 := g 20; have k21 := g 21; have k22 := g 22; have k23 := g 23; have k24 := g 24
  simp [linkC] at k0 k1 k2 k3 k4 k5 k6 k7 k8 k9 k10 k11 k12 k13 k14 k15 k16 k17 k18 k19 k20 k21 k22 k23 k24
  have e1 : eq8 x.al y.al = true := eq8_iff.2 fun i hi => by
    match i, hi with
    | 0, _ => exact k9
    | 1, _ => exact k10
    | 2, _ => exact k11
    | 3, _ => exact k12
    | 4, _ => exact k13
    | 5, _ => exact k14
    | 6, _ => exact k15
    | 7, _ => exact k16
    | i + 8, hi => omega
  have e2 : eq8 x.de y.de = true := eq8_iff.2 fun i hi => by
    match i, hi with
    | 0, _ => exact k17
    | 1, _ => exact k18
    | 2, _ => exact k19
    | 3, _ => exact k20
    | 4, _ => exact k21
    | 5, _ => exact k22
    | 6, _ => exact k23
    | 7, _ => exact k24
    | i + 8, hi => omega
  rw [e1, e2, k0, k1, k2, k3, k4, k5, k6, k7, k8] at h
  simp at h

set_option maxRecDepth 100000 in
set_option maxHeartbeats 4000000 in
theorem eql_any (A B : Option Addr) (n m c d : Nat) (l k : List LinkP) (hn : n ≤ 9223372036854775807) (hm : m ≤ 9223372036854775807) (w : World) (h : SRow w 25 linkC A n l) (h2 : SRow w 25 linkC B m k) :
    Calls Tryz.prog 57 #[.slice A n c, .slice B m d] w fun e w' => Told (l.map linkC = k.map linkC) e ∧ Below w.heap.size w w' := by
  have HR := Lib.hid h
  have HR2 := Lib.hid h2
  clear h h2
  go_enter Tryz.func57, Tryz.ntmps57
  by_cases hnm : n = m
  · subst hnm
    go_wp2
    go_loopw [13] (fun z wr => ∃ j : Nat, j ≤ n ∧ z = .int .i64 j ∧ (l.map linkC).take j = (k.map linkC).take j ∧ Below w.heap.size w wr) (fun z _ => n - (intOf z).toNat)
    case atStart => exact ⟨0, Nat.zero_le _, rfl, rfl, Below.refl _ _⟩
    case round =>
      obtain ⟨j, hj, rfl, ht, hb⟩ := hrel
      have HB := Lib.hid hb
      have HT := Lib.hid ht
      clear hb ht
      by_cases hlt : j < n
      · obtain ⟨b, off, hA1, hbl, j1, hr⟩ := (HR.out.below HB.out).range hlt
        obtain ⟨b2, off2, hA2, hbl2, j2, hr2⟩ := (HR2.out.below HB.out).range hlt
        have HN := Lib.hid (take_snoc_eq (l := l.map linkC) (k := k.map linkC) (j := j) (by simpa using j1) (by simpa using j2) HT.out)
        have HE := Lib.hid (show linkC l[j] ≠ linkC k[j] → l.map linkC ≠ k.map linkC from fun he e => he (by
          have := congrArg (fun z => z[j]?) e
          simpa [List.getElem?_map, List.getElem?_eq_getElem j1, List.getElem?_eq_getElem j2] using this))
        simp only [List.getElem_map] at HN
        generalize l[j] = x at *
        generalize k[j] = y at *
        have hr := Lib.hid hr
        have hr2 := Lib.hid hr2
        rw [hA1, hA2]
        have hbl := Lib.hid hbl
        have hbl2 := Lib.hid hbl2
        clear j1 j2
        have HQ := Lib.hid (fun W => neq_link x y W)
        have HY := Lib.hid (fun h => sameL_yes (x := x) (y := y) h)
        have HZ := Lib.hid (fun h => sameL_no (x := x) (y := y) h)
        go_wp2_with fail
        refine wp_region_quiet_lit (by kernel_rfl) (by kernel_rfl) ?_
        iterate 3 quiet_step (fail)
        refine wpQuiet_step (fun K hK => ?_)
        rw [if_pos (by rfl)]
        refine quiet_loadA 51 (.tmp 18) rfl b (off + j * 25) (linkC x) _ (by rintro _ ⟨q, rfl⟩; exact row_range_below hr.out (below_drewN (Below.refl wr.heap.size wr) q) hbl.out) rfl Tryz.underlying51 rfl (size_link x) ?_
        refine hK _ ?_
        clear hK K
        simp only [Act.put, List.setIfInBounds_toArray, List.set_cons_zero, List.set_cons_succ]
        iterate 3 quiet_step (fail)
        refine wpQuiet_step (fun K hK => ?_)
        rw [if_pos (by rfl)]
        refine quiet_loadA 51 (.tmp 22) rfl b2 (off2 + j * 25) (linkC y) _ (by rintro _ ⟨q, rfl⟩; exact row_range_below hr2.out (below_drewN (Below.refl wr.heap.size wr) q) hbl2.out) rfl Tryz.underlying51 rfl (size_link y) ?_
        refine hK _ ?_
        clear hK K
        simp only [Act.put, List.setIfInBounds_toArray, List.set_cons_zero, List.set_cons_succ]
        have hq := fun W => HQ.out W
        iterate 1 quiet_step (fail)
        refine wpQuiet_nil ?_
        intro _ hw'
        obtain ⟨nq, hw''⟩ := hw'
        subst hw''
        cases hs : sameL x y with
        | true =>
          replace HN := Lib.hid (HN.out (HY.out hs))
          clear hq hs
          go_wp2
          go_roundw
          case rel => exact ⟨j + 1, by omega, by go_num, HN.out, below_drewN HB.out _⟩
          case measure => simp [intOf]; omega
        | false =>
          have HF := Lib.hid (HE.out (HZ.out hs))
          clear hq hs
          go_wp2
          go_ret
          exact ⟨told_no HF.out, below_drewN HB.out _⟩
      · obtain rfl : j = n := by omega
        have he : l.map linkC = k.map linkC := by
          have := HT.out
          rw [List.take_of_length_le (by rw [List.length_map, HR.out.len]; exact Nat.le_refl _), List.take_of_length_le (by rw [List.length_map, HR2.out.len]; exact Nat.le_refl _)] at this
          exact this
        have HF := Lib.hid he
        clear he
        go_wp2
        go_ret
        exact ⟨told_yes HF.out, HB.out⟩
  · have t1 : ((n : Int) == (m : Int)) = false := beq_eq_false_iff_ne.2 (by omega)
    have he : l.map linkC ≠ k.map linkC := fun e => hnm (by rw [← HR.out.len, ← HR2.out.len, ← List.length_map (f := linkC), e, List.length_map])
    have HF := Lib.hid he
    clear he hnm
    go_wp2
    go_ret
    exact ⟨told_no HF.out, Below.refl _ _⟩
set_option maxRecDepth 100000 in
set_option maxHeartbeats 4000000 in
theorem same_any (a b : StateC) (w : World) (ha : StateRow w a) (hb : StateRow w b) :
    Calls Tryz.prog 19 #[.agg (stateC a), .agg (stateC b)] w fun e w' => Told (SameP a b) e ∧ Below w.heap.size w w' := by
  have HB := Lib.hid (((Below.refl w.heap.size w).alloc (Nat.le_refl _) (.cells (stateC a) 27)).alloc (by simp) (.cells (stateC b) 27))
  have HA0 := Lib.hid ((Has.fresh w 27 (stateC a)).past (.cells (stateC b) 27))
  have HA1 := Lib.hid (Has.fresh (w.alloc (.cells (stateC a) 27)) 27 (stateC b))
  simp only [World.size_alloc] at HA1
  have H1 := Lib.hid (fun W (h : Below w.heap.size w W) => eqnodes_any a.A1 b.A1 a.n1 b.n1 a.c1 b.c1 a.nodes b.nodes ha.m1 hb.m1 W (ha.nodes.below h) (hb.nodes.below h) (fun x hx => (ha.each x hx).below h) (fun x hx => (hb.each x hx).below h))
  have H2 := Lib.hid (fun W (h : Below w.heap.size w W) => eql_any a.A2 b.A2 a.n2 b.n2 a.c2 b.c2 a.links b.links ha.m2 hb.m2 W (ha.links.below h) (hb.links.below h))
  clear ha hb
  have hq : ∀ W, (binOp .eql 23 (.agg #[.int .i64 (a.seen 0), .int .i64 (a.seen 1), .int .i64 (a.seen 2), .int .i64 (a.seen 3), .int .i64 (a.seen 4), .int .i64 (a.seen 5), .int .i64 (a.seen 6), .int .i64 (a.seen 7)]) (.agg #[.int .i64 (b.seen 0), .int .i64 (b.seen 1), .int .i64 (b.seen 2), .int .i64 (b.seen 3), .int .i64 (b.seen 4), .int .i64 (b.seen 5), .int .i64 (b.seen 6), .int .i64 (b.seen 7)])).run Tryz.prog W = .ok (.bool (eq8 a.seen b.seen)) W := eql_vec a.seen b.seen
  have HV := Lib.hid (eq8_iff (x := a.seen) (y := b.seen))
  unfold stateC at HA0 HA1 HB
  unfold stateC
  generalize eq8 a.seen b.seen = v at *
  go_enter Tryz.func19, Tryz.ntmps19
  cases v with
  | false =>
    go_wp2
    go_ret
    exact ⟨told_no (fun h => by have := HV.out.2 h.1; cases this), HB.out⟩
  | true =>
    go_wp2_with fail
    refine (H1.out _ HB.out).mono ?_
    rintro e w1 ⟨⟨b1, rfl, p1⟩, hb⟩
    replace HB := Lib.hid (HB.out.trans (hb.mono HB.out.size))
    replace HA0 := Lib.hid (HA0.out.below hb)
    replace HA1 := Lib.hid (HA1.out.below hb)
    have hr0 := fun j => HA0.out.at_ j
    have hr1 := fun j => HA1.out.at_ j
    clear hb
    cases b1 with
    | false =>
      have HN := Lib.hid (told_not p1)
      clear p1
      go_wp2
      go_ret
      exact ⟨told_no (fun h => HN.out h.2.1), HB.out⟩
    | true =>
      have HN := Lib.hid (p1.1 rfl)
      clear p1
      go_wp2_with fail
      refine (H2.out _ HB.out).mono ?_
      rintro e w2 ⟨⟨b2, rfl, p2⟩, hb⟩
      replace HB := Lib.hid (HB.out.trans (hb.mono HB.out.size))
      clear hb hr0 hr1
      cases b2 with
      | false =>
        have HZ := Lib.hid (told_not p2)
        clear p2
        go_wp2
        go_ret
        exact ⟨told_no (fun h => HZ.out h.2.2), HB.out⟩
      | true =>
        have HZ := Lib.hid (p2.1 rfl)
        clear p2
        go_wp2
        go_ret
        exact ⟨told_yes ⟨HV.out.1 (by trivial), HN.out, HZ.out⟩, HB.out⟩
end Go.Proofs.YtblogecapegbmaaGreat.Fc
