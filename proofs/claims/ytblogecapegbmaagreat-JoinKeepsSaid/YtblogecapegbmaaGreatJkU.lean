/- Join: the document's Up: what is up lies within what stays. -/
import Derived.Test.YtblogecapegbmaaGreatJkD
import Derived.Test.YtblogecapegbmaaGreatVcE
namespace Go.Proofs.YtblogecapegbmaaGreat.Jn
open Go.RowKit Go.Proofs.YtblogecapegbmaaGreat.Mem
open Go.Proofs.YtblogecapegbmaaGreat.Vc (joinV meetV vecC stC)
set_option linter.unusedVariables false set_option linter.unusedSimpArgs false

theorem wpList_makeB {P : Program} {ops : Array Oper} {rest : List Oper} {o : Oper} {a : Act} {w : World} {Q : Exit → Act → World → Prop} (T E : TypeId) (n : Nat) (C : Array Value) (x y : Operand) (ho : o.op = .makeSlice T x y)
    (h : (o.guard = none ∧ a.eval x = .int .i64 n ∧ a.eval y = .int .i64 n ∧ (Instr.makeSlice T (.int .i64 n) (.int .i64 n)).run P w = .ok (.slice (some ⟨w.heap.size, 0, none⟩) n n) (w.alloc (.cells C E))) ∧ wpList P ops Q rest (a.put o.dst (.slice (some ⟨w.heap.size, 0, none⟩) n n)) (w.alloc (.cells C E))) : wpList P ops Q (o :: rest) a w := by
  obtain ⟨⟨h1, e1, e2, hm⟩, h2⟩ := h
  refine wpList_plain h1 fun K hK => ?_
  unfold Oper.wp execOp
  simp only [ho, e1, e2, hm, Sem.run_bind, Sem.run_pure, Result.andThen_ok]
  exact hK _ _ h2
set_option maxRecDepth 100000 in
theorem ralive_any (x : Fc.LinkP) (W : World) : Calls Tryz.prog 65 #[.agg (Fc.linkC x)] W fun e W' => e = .returned (.bool (!Vc.withinB x.al x.de)) ∧ Below W.heap.size W W' := by
  have HS := Lib.hid (fun V => Vc.rwithin_any x.al x.de V)
  have HB0 := Lib.hid ((Below.refl W.heap.size W).alloc (Nat.le_refl _) (.cells (Fc.linkC x) 51))
  have HX0 := Lib.hid (Has.fresh W 51 (Fc.linkC x))
  go_enter Tryz.func65, Tryz.ntmps65
  go_wp2_with (first | ((with_reducible refine Who.wpList_loadC 23 (.tmp 3) rfl (W.heap.size) 9 (vecC x.al) ?_); refine And.intro ⟨by rfl, by rfl, ⟨_, Tryz.underlying23, rfl⟩, info_vec⟩ (And.intro (link_al HX0.out) ?_); (try simp only [Act.put, List.setIfInBounds_toArray, List.set_cons_zero, List.set_cons_succ])) | ((with_reducible refine Who.wpList_loadC 23 (.tmp 5) rfl (W.heap.size) 17 (vecC x.de) ?_); refine And.intro ⟨by rfl, by rfl, ⟨_, Tryz.underlying23, rfl⟩, info_vec⟩ (And.intro (link_de HX0.out) ?_); (try simp only [Act.put, List.setIfInBounds_toArray, List.set_cons_zero, List.set_cons_succ])) | fail)
  refine (HS.out _).mono ?_
  rintro e w2 ⟨rfl, hb⟩
  have HB := Lib.hid (HB0.out.trans (hb.mono HB0.out.size))
  clear hb
  go_wp2
  go_ret
  exact ⟨rfl, HB.out⟩
theorem link_parK {w : World} {g : Nat} {t : TypeId} {x : Fc.LinkP} (h : Has w g t (Fc.linkC x)) : w.rangeAt g 6 (#[.int .i64 x.par.1, .int .i64 x.par.2] : Array Value).toList := range_of h fun j hj => by
  match j, (show j < 2 from hj) with
  | 0, _ | 1, _ => rfl
theorem UpOk.start (ls : List Fc.LinkP) (n : Nat) (h : ls.length = n) : UpOk ls (List.replicate n false) := ⟨by simp [h], fun G _ _ i _ h2 e => by rw [List.getElem_replicate] at e; cases e⟩
theorem UpOk.alive {ls : List Fc.LinkP} {us : List Bool} (h : UpOk ls us) {j : Nat} (hj : j < ls.length) : UpOk ls (us.set j (!Vc.withinB (ls[j]).al (ls[j]).de)) := ⟨by rw [List.length_set]; exact h.len, fun G g1 g2 i hi h2 e => by
  rw [List.getElem_set] at e
  split at e
  · next q =>
    subst q
    exact g1 _ (List.getElem_mem hj) (by simpa using e)
  · exact h.up G g1 g2 i hi (by rw [List.length_set] at h2; exact h2) e⟩
theorem UpOk.home {ls : List Fc.LinkP} {us : List Bool} (h : UpOk ls us) {i k : Nat} (hi : i < ls.length) (hk : k < ls.length) (hu : us[i]? = some true) (hn : (ls[i]).par = (ls[k]).node) : UpOk ls (us.set k true) := ⟨by rw [List.length_set]; exact h.len, fun G g1 g2 q hq h2 e => by
  have hil : i < us.length := by rw [h.len]; exact hi
  have hgi : G ls[i] := h.up G g1 g2 i hi hil (by rw [List.getElem?_eq_getElem hil] at hu; exact Option.some.inj hu)
  rw [List.getElem_set] at e
  split at e
  · next z =>
    subst z
    exact g2 _ (List.getElem_mem hi) _ (List.getElem_mem hk) hgi hn
  · exact h.up G g1 g2 q hq (by rw [List.length_set] at h2; exact h2) e⟩
structure UpI (w wr : World) (ub : Nat) (ls : List Fc.LinkP) (us : List Bool) : Prop where
  below : Below w.heap.size w wr
  hb : Has wr ub 4 (boolsA us)
  ok : UpOk ls us
  lo : w.heap.size ≤ ub
theorem UpI.low {w wr w2 : World} {ub : Nat} {ls : List Fc.LinkP} {us : List Bool} (h : UpI w wr ub ls us) (hb : Below wr.heap.size wr w2) : UpI w w2 ub ls us := ⟨h.below.trans (hb.mono h.below.size), h.hb.below hb, h.ok, h.lo⟩
theorem UpI.put {w wr w2 : World} {ub : Nat} {ls : List Fc.LinkP} {us us' : List Bool} (h : UpI w wr ub ls us) (hx : Has w2 ub 4 (boolsA us')) (hc : Chg (· = ub) wr w2) (ho : UpOk ls us') : UpI w w2 ub ls us' := ⟨below_step h.below hc h.lo, hx, ho, h.lo⟩
/-- Where the last link of an inode was found so far. -/
def HomeIs (ls : List Fc.LinkP) (z : Int × Int) (h : Int) : Prop := h = -1 ∨ ∃ k : Nat, h = k ∧ ∃ q : k < ls.length, z = (ls[k]).node
set_option maxRecDepth 100000 in
set_option maxHeartbeats 16000000 in
theorem up_any (A : Option Addr) (n c : Nat) (ls : List Fc.LinkP) (w : World) (hr : Fc.SRow w 25 Fc.linkC A n ls) (hn : n ≤ 1000000) : Calls Tryz.prog 24 #[.slice A n c] w fun e w' => ∃ ub us, e = .returned (.slice (some ⟨ub, 0, none⟩) n n) ∧ UpI w w' ub ls us := by
  have HSR := Lib.hid hr
  have HN := Lib.hid hn
  have HLN := Lib.hid (show ls.length = n from hr.len)
  have H0 := Lib.hid (show UpI w (w.alloc (.cells (boolsA (List.replicate n false)) 4)) w.heap.size ls (List.replicate n false) from ⟨(Below.refl _ w).alloc (Nat.le_refl _) _, Has.fresh _ _ _, UpOk.start ls n hr.len, Nat.le_refl _⟩)
  clear hr
  go_enter Tryz.func24, Tryz.ntmps24
  go_wp2_with (first | ((with_reducible refine wpList_makeB 53 4 n (boolsA (List.replicate n false)) (.tmp 12) (.tmp 12) rfl ?_); refine And.intro ⟨rfl, by rfl, by rfl, make_bools n HN.out _⟩ ?_; (try simp only [Act.put, List.setIfInBounds_toArray, List.set_cons_zero, List.set_cons_succ])) | fail)
  obtain ⟨ub, hub⟩ : ∃ ub, ub = w.heap.size := ⟨_, rfl⟩
  have HUB := Lib.hid hub
  rw [← hub]
  clear hub
  go_loopw [16] (fun i wr => ∃ j : Nat, i = .int .i64 j ∧ j ≤ n ∧ Hid (∃ us, UpI w wr ub ls us)) (fun i _ => n - (intOf i).toNat)
  case atStart => exact ⟨0, rfl, Nat.zero_le _, Lib.hid ⟨_, by rw [HUB.out]; exact H0.out⟩⟩
  case round =>
    clear H0
    obtain ⟨j, rfl, hj, HK⟩ := hrel
    by_cases hlt : j < n
    · obtain ⟨us, hI⟩ := HK.out
      have HI := Lib.hid hI
      clear HK hI
      obtain ⟨bk, off, hA, hbl, hxj, mr⟩ := (HSR.out.below HI.out.below).range (i := j) hlt
      obtain ⟨y, hy⟩ : ∃ y, ls[j] = y := ⟨_, rfl⟩
      rw [hy] at mr
      have MRy := Lib.hid mr
      have HXy := Lib.hid (show ∃ h : j < ls.length, ls[j] = y from ⟨hxj, hy⟩)
      have HZy := Lib.hid (Has.fresh wr 51 zeroL)
      have HBAy := Lib.hid ((Below.refl wr.heap.size wr).alloc (Nat.le_refl _) (.cells zeroL 51))
      subst hA
      clear mr hy hbl hxj
      go_wp2_with (first | ((with_reducible refine Who.wpList_loadC 51 (.tmp 19) rfl (bk) (off + j * 25) (Fc.linkC y) ?_); refine And.intro ⟨by rfl, by rfl, ⟨_, Tryz.underlying51, rfl⟩, info_link⟩ (And.intro (MRy.out) ?_); (try simp only [Act.put, List.setIfInBounds_toArray, List.set_cons_zero, List.set_cons_succ])) | ((with_reducible refine Who.wpList_alloc 51 5 rfl rfl rfl (zeroL) allocL ?_); (try simp only [Act.put, List.setIfInBounds_toArray, List.set_cons_zero, List.set_cons_succ]); (try simp only [World.size_alloc])) | ((with_reducible refine wpList_storeG 51 (.tmp 5) (.tmp 20) rfl (wr.heap.size) (zeroL) (Fc.linkC y) ?_); refine And.intro ⟨rfl, by rfl, by rfl, info_link, own1 y, rfl, HZy.out⟩ ?_; intro W5 HX5 HC5; (try simp only [Act.put, List.setIfInBounds_toArray, List.set_cons_zero, List.set_cons_succ])) | ((with_reducible refine Who.wpList_loadC 51 (.tmp 5) rfl (wr.heap.size) 0 (Fc.linkC y) ?_); refine And.intro ⟨by rfl, by rfl, ⟨_, Tryz.underlying51, rfl⟩, info_link⟩ (And.intro (Who.has_range HX5.out) ?_); (try simp only [Act.put, List.setIfInBounds_toArray, List.set_cons_zero, List.set_cons_succ])) | fail)
      have HI5 := Lib.hid (HI.out.low (below_step HBAy.out HC5.out (Nat.le_refl _)))
      clear HI HZy HBAy HX5 HC5 MRy
      refine (ralive_any y _).mono ?_
      rintro e w2 ⟨rfl, hb⟩
      have HI2 := Lib.hid (HI5.out.low hb)
      have HO2 := Lib.hid (show UpOk ls (us.set j (!Vc.withinB y.al y.de)) from by obtain ⟨h, e⟩ := HXy.out; rw [← e]; exact HI2.out.ok.alive h)
      have hju : j < us.length := by rw [HI2.out.ok.len, HLN.out]; exact hlt
      clear hb HI5 HXy
      go_wp2_with (first | ((with_reducible refine wpList_cell (T := 4) 4 (.tmp 25) (.tmp 24) rfl ub j (boolsA us) (boolsA (us.set j (!Vc.withinB y.al y.de))) (.bool (!Vc.withinB y.al y.de)) ?_); refine And.intro ⟨rfl, rfl, by rfl, by rfl, info_bool, rfl, by rw [boolsA_size]; exact hju, boolsA_set _ _ _, HI2.out.hb⟩ ?_; intro W6 HX6 HC6; (try simp only [Act.put, List.setIfInBounds_toArray, List.set_cons_zero, List.set_cons_succ])) | fail)
      have HI6 := Lib.hid (HI2.out.put HX6.out HC6.out HO2.out)
      clear HX6 HC6 HI2 HO2 hju
      go_roundw
      case rel => exact ⟨j + 1, by go_num, by omega, Lib.hid ⟨_, HI6.out⟩⟩
      case measure => simp [intOf]; omega
    · obtain rfl : n = j := by omega
      go_wp2
      clear hlt hj
      go_loopw [29] (fun i wr => ∃ j : Nat, i = .int .i64 j ∧ j ≤ n ∧ Hid (∃ us, UpI w wr ub ls us)) (fun i _ => n - (intOf i).toNat)
      case atStart => exact ⟨0, rfl, Nat.zero_le _, HK⟩
      case round =>
        clear HK
        obtain ⟨j1, rfl, hj1, HK⟩ := hrel
        by_cases hlt1 : j1 < n
        · go_wp2
          go_loopw [33] (fun i wr => ∃ j : Nat, i = .int .i64 j ∧ j ≤ n ∧ Hid (∃ us, UpI w wr ub ls us)) (fun i _ => n - (intOf i).toNat)
          case atStart => exact ⟨0, rfl, Nat.zero_le _, HK⟩
          case round =>
            rename_i wz
            clear HK
            obtain ⟨j, rfl, hj, HK⟩ := hrel
            by_cases hlt : j < n
            · obtain ⟨us, hI⟩ := HK.out
              have HI := Lib.hid hI
              clear HK hI
              obtain ⟨bk, off, hA, hbl, hxj, mr⟩ := (HSR.out.below HI.out.below).range (i := j) hlt
              obtain ⟨y, hy⟩ : ∃ y, ls[j] = y := ⟨_, rfl⟩
              rw [hy] at mr
              have MRy := Lib.hid mr
              have HXy := Lib.hid (show ∃ h : j < ls.length, ls[j] = y from ⟨hxj, hy⟩)
              have HZy := Lib.hid (Has.fresh wr 51 zeroL)
              have HBAy := Lib.hid ((Below.refl wr.heap.size wr).alloc (Nat.le_refl _) (.cells zeroL 51))
              subst hA
              clear mr hy hbl hxj
              go_wp2_with (first | ((with_reducible refine Who.wpList_loadC 51 (.tmp 36) rfl (bk) (off + j * 25) (Fc.linkC y) ?_); refine And.intro ⟨by rfl, by rfl, ⟨_, Tryz.underlying51, rfl⟩, info_link⟩ (And.intro (MRy.out) ?_); (try simp only [Act.put, List.setIfInBounds_toArray, List.set_cons_zero, List.set_cons_succ])) | ((with_reducible refine Who.wpList_alloc 51 7 rfl rfl rfl (zeroL) allocL ?_); (try simp only [Act.put, List.setIfInBounds_toArray, List.set_cons_zero, List.set_cons_succ]); (try simp only [World.size_alloc])) | ((with_reducible refine wpList_storeG 51 (.tmp 7) (.tmp 37) rfl (wr.heap.size) (zeroL) (Fc.linkC y) ?_); refine And.intro ⟨rfl, by rfl, by rfl, info_link, own1 y, rfl, HZy.out⟩ ?_; intro W5 HX5 HC5; (try simp only [Act.put, List.setIfInBounds_toArray, List.set_cons_zero, List.set_cons_succ])) | fail)
              have HI5 := Lib.hid (HI.out.low (below_step HBAy.out HC5.out (Nat.le_refl _)))
              obtain ⟨g7, hg7⟩ : ∃ g7, g7 = wr.heap.size := ⟨_, rfl⟩
              rw [← hg7] at HX5
              rw [← hg7]
              clear HI HZy HBAy HC5 MRy hg7
              have HY5 := Lib.hid (And.intro HX5.out HI5.out)
              clear HX5 HI5
              go_loopw [8, 40] (fun hm k wk => ∃ (q : Nat) (h : Int), k = .int .i64 q ∧ q ≤ n ∧ hm = .int .i64 h ∧ Hid (HomeIs ls y.par h) ∧ Hid (Has wk g7 51 (Fc.linkC y) ∧ UpI w wk ub ls us)) (fun _ k _ => n - (intOf k).toNat)
              case atStart => exact ⟨0, -1, rfl, Nat.zero_le _, rfl, Lib.hid (.inl rfl), HY5⟩
              case round =>
                clear HY5
                obtain ⟨q, h, rfl, hq, rfl, HM, HY⟩ := hrel
                obtain ⟨wq, hwq⟩ : ∃ wq, wq = wr := ⟨_, rfl⟩
                by_cases hlt2 : q < n
                · obtain ⟨bk2, off2, hA2, hbl2, hxj2, mr2⟩ := (HSR.out.below HY.out.2.below).range (i := q) hlt2
                  cases hA2
                  obtain ⟨z, hz⟩ : ∃ y, ls[q] = y := ⟨_, rfl⟩
                  rw [hz] at mr2
                  have MRz := Lib.hid mr2
                  have HXz := Lib.hid (show ∃ h : q < ls.length, ls[q] = z from ⟨hxj2, hz⟩)
                  have HZz := Lib.hid (Has.fresh wr 51 zeroL)
                  have HBAz := Lib.hid ((Below.refl wr.heap.size wr).alloc (Nat.le_refl _) (.cells zeroL 51))
                  clear mr2 hz hbl2 hxj2
                  by_cases hzy : z.node = y.par
                  · have heq : ∀ w : World, (Op.equalIn 10000 37 (.agg #[.int .i64 z.node.1, .int .i64 z.node.2]) (.agg #[.int .i64 y.par.1, .int .i64 y.par.2])).run Tryz.prog w = .ok true w := fun w => by have h := Vc.eqs z.node.1 z.node.2 y.par.1 y.par.2 w; rw [show (z.node.1 == y.par.1 && z.node.2 == y.par.2) = true by simp [hzy]] at h; exact h
                    have HM2 := Lib.hid (show HomeIs ls y.par (q : Int) from .inr ⟨q, rfl, by obtain ⟨h, e⟩ := HXz.out; exact ⟨h, by rw [e]; exact hzy.symm⟩⟩)
                    clear hzy HXz
                    go_wp2_with (first | ((with_reducible refine Who.wpList_loadC 51 (.tmp 43) rfl (bk) (off + q * 25) (Fc.linkC z) ?_); refine And.intro ⟨by rfl, by rfl, ⟨_, Tryz.underlying51, rfl⟩, info_link⟩ (And.intro (MRz.out) ?_); (try simp only [Act.put, List.setIfInBounds_toArray, List.set_cons_zero, List.set_cons_succ])) | ((with_reducible refine Who.wpList_alloc 51 10 rfl rfl rfl (zeroL) allocL ?_); (try simp only [Act.put, List.setIfInBounds_toArray, List.set_cons_zero, List.set_cons_succ]); (try simp only [World.size_alloc])) | ((with_reducible refine wpList_storeG 51 (.tmp 10) (.tmp 44) rfl (wr.heap.size) (zeroL) (Fc.linkC z) ?_); refine And.intro ⟨rfl, by rfl, by rfl, info_link, own1 z, rfl, HZz.out⟩ ?_; intro W9 HX9 HC9; (try simp only [Act.put, List.setIfInBounds_toArray, List.set_cons_zero, List.set_cons_succ]); have HYY := Lib.hid (HY.out.1.below (below_step HBAz.out HC9.out (Nat.le_refl _))); (try simp only [Act.put, List.setIfInBounds_toArray, List.set_cons_zero, List.set_cons_succ])) | ((with_reducible refine Who.wpList_loadC 37 (.tmp 45) rfl (wr.heap.size) 2 (#[.int .i64 z.node.1, .int .i64 z.node.2]) ?_); refine And.intro ⟨by rfl, by rfl, ⟨_, Tryz.underlying37, rfl⟩, info_st⟩ (And.intro (link_node HX9.out) ?_); (try simp only [Act.put, List.setIfInBounds_toArray, List.set_cons_zero, List.set_cons_succ])) | ((with_reducible refine Who.wpList_loadC 37 (.tmp 47) rfl (g7) 6 (#[.int .i64 y.par.1, .int .i64 y.par.2]) ?_); refine And.intro ⟨by rfl, by rfl, ⟨_, Tryz.underlying37, rfl⟩, info_st⟩ (And.intro (link_parK HYY.out) ?_); (try simp only [Act.put, List.setIfInBounds_toArray, List.set_cons_zero, List.set_cons_succ])) | fail)
                    have HY9 := Lib.hid (And.intro HYY.out (HY.out.2.low (below_step HBAz.out HC9.out (Nat.le_refl _))))
                    clear HY HZz HBAz HX9 HC9 MRz HYY heq
                    go_roundw
                    case rel => exact ⟨q + 1, q, by go_num, by omega, rfl, HM2, HY9⟩
                    case measure => simp [intOf]; omega
                  · have heq : ∀ w : World, (Op.equalIn 10000 37 (.agg #[.int .i64 z.node.1, .int .i64 z.node.2]) (.agg #[.int .i64 y.par.1, .int .i64 y.par.2])).run Tryz.prog w = .ok false w := fun w => by have h := Vc.eqs z.node.1 z.node.2 y.par.1 y.par.2 w; rw [show (z.node.1 == y.par.1 && z.node.2 == y.par.2) = false by rw [Bool.eq_false_iff]; intro k; simp at k; exact hzy (Prod.ext k.1 k.2)] at h; exact h
                    clear hzy HXz
                    go_wp2_with (first | ((with_reducible refine Who.wpList_loadC 51 (.tmp 43) rfl (bk) (off + q * 25) (Fc.linkC z) ?_); refine And.intro ⟨by rfl, by rfl, ⟨_, Tryz.underlying51, rfl⟩, info_link⟩ (And.intro (MRz.out) ?_); (try simp only [Act.put, List.setIfInBounds_toArray, List.set_cons_zero, List.set_cons_succ])) | ((with_reducible refine Who.wpList_alloc 51 10 rfl rfl rfl (zeroL) allocL ?_); (try simp only [Act.put, List.setIfInBounds_toArray, List.set_cons_zero, List.set_cons_succ]); (try simp only [World.size_alloc])) | ((with_reducible refine wpList_storeG 51 (.tmp 10) (.tmp 44) rfl (wr.heap.size) (zeroL) (Fc.linkC z) ?_); refine And.intro ⟨rfl, by rfl, by rfl, info_link, own1 z, rfl, HZz.out⟩ ?_; intro W9 HX9 HC9; (try simp only [Act.put, List.setIfInBounds_toArray, List.set_cons_zero, List.set_cons_succ]); have HYY := Lib.hid (HY.out.1.below (below_step HBAz.out HC9.out (Nat.le_refl _))); (try simp only [Act.put, List.setIfInBounds_toArray, List.set_cons_zero, List.set_cons_succ])) | ((with_reducible refine Who.wpList_loadC 37 (.tmp 45) rfl (wr.heap.size) 2 (#[.int .i64 z.node.1, .int .i64 z.node.2]) ?_); refine And.intro ⟨by rfl, by rfl, ⟨_, Tryz.underlying37, rfl⟩, info_st⟩ (And.intro (link_node HX9.out) ?_); (try simp only [Act.put, List.setIfInBounds_toArray, List.set_cons_zero, List.set_cons_succ])) | ((with_reducible refine Who.wpList_loadC 37 (.tmp 47) rfl (g7) 6 (#[.int .i64 y.par.1, .int .i64 y.par.2]) ?_); refine And.intro ⟨by rfl, by rfl, ⟨_, Tryz.underlying37, rfl⟩, info_st⟩ (And.intro (link_parK HYY.out) ?_); (try simp only [Act.put, List.setIfInBounds_toArray, List.set_cons_zero, List.set_cons_succ])) | fail)
                    have HY9 := Lib.hid (And.intro HYY.out (HY.out.2.low (below_step HBAz.out HC9.out (Nat.le_refl _))))
                    clear HY HZz HBAz HX9 HC9 MRz HYY heq
                    go_roundw
                    case rel => exact ⟨q + 1, h, by go_num, by omega, rfl, HM, HY9⟩
                    case measure => simp [intOf]; omega
                · obtain rfl : n = q := by omega
                  obtain ⟨bu, hbu⟩ : ∃ b, us[j]? = some b := by
                    have : j < us.length := by rw [HY.out.2.ok.len, HLN.out]; exact hlt
                    exact ⟨_, List.getElem?_eq_getElem this⟩
                  have HBU := Lib.hid hbu
                  have cu : wr.cell? ⟨ub, j, none⟩ = some (.bool bu) := by rw [HY.out.2.hb.at_ j]; exact boolsA_at hbu
                  clear hbu
                  cases bu with
                  | false =>
                    have HY9 := Lib.hid HY.out.2
                    clear HY
                    go_wp2
                    clear cu
                    go_roundw
                    case rel => exact ⟨j + 1, by go_num, by omega, Lib.hid ⟨_, HY9.out⟩⟩
                    case measure => simp [intOf]; omega
                  | true =>
                    rcases HM.out with rfl | ⟨k, rfl, hkl, hk⟩
                    · have HY9 := Lib.hid HY.out.2
                      clear HY
                      go_wp2
                      clear cu
                      go_roundw
                      case rel => exact ⟨j + 1, by go_num, by omega, Lib.hid ⟨_, HY9.out⟩⟩
                      case measure => simp [intOf]; omega
                    · have HY9 := Lib.hid HY.out.2
                      have HKU := Lib.hid (show k < us.length from by rw [HY.out.2.ok.len]; exact hkl)
                      have HUP := Lib.hid (show UpOk ls (us.set k true) from by obtain ⟨h, e⟩ := HXy.out; exact HY.out.2.ok.home h hkl HBU.out (by rw [e]; exact hk))
                      have hkn : k < n := by rw [← HLN.out]; exact hkl
                      clear HY hk hkl HM
                      go_wp2_with (first | ((with_reducible refine wpList_cell (T := 4) 4 (.tmp 62) (.const (.bool true)) rfl ub k (boolsA us) (boolsA (us.set k true)) (.bool true) ?_); refine And.intro ⟨rfl, rfl, by rfl, by rfl, info_bool, rfl, by rw [boolsA_size]; exact HKU.out, boolsA_set _ _ _, HY9.out.hb⟩ ?_; intro W6 HX6 HC6; (try simp only [Act.put, List.setIfInBounds_toArray, List.set_cons_zero, List.set_cons_succ])) | fail)
                      have HI6 := Lib.hid (HY9.out.put HX6.out HC6.out HUP.out)
                      clear HX6 HC6 HY9 cu
                      go_roundw
                      case rel => exact ⟨j + 1, by go_num, by omega, Lib.hid ⟨_, HI6.out⟩⟩
                      case measure => simp [intOf]; omega
            · obtain rfl : n = j := by omega
              go_wp2
              go_roundw
              case rel => exact ⟨j1 + 1, by go_num, by omega, HK⟩
              case measure => simp [intOf]; omega
        · obtain rfl : n = j1 := by omega
          go_wp2
          go_ret
          obtain ⟨us, hI⟩ := HK.out
          exact ⟨ub, us, rfl, hI⟩
end Go.Proofs.YtblogecapegbmaaGreat.Jn
