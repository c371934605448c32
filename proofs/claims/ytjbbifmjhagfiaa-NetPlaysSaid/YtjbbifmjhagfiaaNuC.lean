/- The document's messages on their way: Take, Lose. -/
import Derived.Test.YtjbbifmjhagfiaaNuB
namespace Go.Proofs.Ytjbbifmjhagfiaa.Nt
open Go.RowKit Go.Proofs.Ytjbbifmjhagfiaa.Mem Go.Proofs.Ytjbbifmjhagfiaa.Vc
set_option linter.unusedVariables false

theorem MOwn.lower {w : World} {B B' : Nat} {v : Value} {ms : List MsgP} (h : MOwn w B' v ms) (hB : B ≤ B') : MOwn w B v ms := by
  refine ⟨h.1, ?_⟩
  rcases h.2 with e | ⟨q, cap, cur, e, hq, hr⟩
  · exact .inl e
  · exact .inr ⟨q, cap, cur, e, Nat.le_trans hB hq, hr⟩
theorem wpList_build_msg {ops : Array Oper} {rest : List Oper} {o : Oper} {a : Act} {w : World} {Q : Exit → Act → World → Prop} (x : Operand) (ho : o.op = .buildSlice 28 1 #[(0, x)]) (m : MsgP)
    (h : (o.guard = none ∧ a.eval x = .agg (msgC m)) ∧ wpList Try.prog ops Q rest (a.put o.dst (.slice (some ⟨w.heap.size, 0, none⟩) 1 1)) (w.alloc (.cells (msgC m) 36))) : wpList Try.prog ops Q (o :: rest) a w := by
  obtain ⟨⟨h1, h2⟩, h3⟩ := h
  obtain ⟨i, q0, q1, q2, q3⟩ := info_parts info_msg
  refine wpList_buildSlice h1 28 36 1 _ ho (msgC m) i _ Try.underlying28 q0 q1 (by omega) (by omega) ?_ h3
  have e : (#[(0, x)] : Array (Nat × Operand)).map (fun (i, x) => (i, a.eval x)) = #[(0, .agg (msgC m))] := by simp [h2]
  rw [e, q2]
  exact fill_msg m
/-- What is left of a row gone through up to j, without the k-th. -/
theorem left_is {l : List MsgP} {j k : Nat} (h : j = k) (hj : j < l.length) : (l.take (j + 1)).eraseIdx k = (l.take j).eraseIdx k := by
  subst h
  rw [List.eraseIdx_of_length_le (l := l.take j) (by simp; omega), List.take_succ_eq_append_getElem hj, List.eraseIdx_append_of_length_le (by simp; omega)]
  have e : j - (l.take j).length = 0 := by simp; omega
  rw [e]
  simp
theorem left_not {l : List MsgP} {j k : Nat} {x : MsgP} (h : ¬ j = k) (hx : l[j]? = some x) : (l.take (j + 1)).eraseIdx k = (l.take j).eraseIdx k ++ [x] := by
  obtain ⟨hj, e⟩ := List.getElem?_eq_some_iff.1 hx
  rw [List.take_succ_eq_append_getElem hj, e]
  by_cases hk : k < j
  · rw [List.eraseIdx_append_of_lt_length (by simp; omega)]
  · rw [List.eraseIdx_of_length_le (l := l.take j) (by simp; omega), List.eraseIdx_append_of_length_le (by simp; omega), List.eraseIdx_of_length_le (by simp; omega)]
theorem wpList_storeN {P : Program} {ops : Array Oper} {rest : List Oper} {op : Oper} {a : Act} {w : World} {Q : Exit → Act → World → Prop} (ty : TypeId) (x y : Operand) (ho : op.op = .store ty x y) (b : Nat) (C0 C : Array Value) (w0 : World)
    (h : (op.guard = none ∧ a.eval x = .pointer (some ⟨b, 0, none⟩) ∧ a.eval y = .agg C ∧ (P.info? ty).map (·.size) = some C.size ∧ C.all (·.oneCell') = true ∧ C0.size = C.size ∧ Has w b ty C0 ∧ Below w0.heap.size w0 w ∧ w0.heap.size ≤ b) ∧ ∀ W', Hid (Has W' b ty C) → Hid (Below w0.heap.size w0 W') → wpList P ops Q rest (a.put op.dst undef) W') : wpList P ops Q (op :: rest) a w := by
  obtain ⟨⟨h1, h2, h3, h4, h5, h6, h7, h8, h9⟩, h10⟩ := h
  exact Who.wpList_storeC ty x y ho b 0 C ⟨⟨h1, h2, h3, h4, h5⟩, Who.has_there h7 h6.symm, h10 _ (Lib.hid (Who.has_over h7 h6)) (Lib.hid (Who.below_setCells h8 h9 0 _))⟩
structure TakeI (W2 wr : World) (u : Value) (l : List MsgP) (k j : Nat) (ms : List MsgP) : Prop where
  below : Below W2.heap.size W2 wr
  row : MOwn wr W2.heap.size u ms
  is : ms = (l.take j).eraseIdx k
theorem TakeI.few {W2 wr : World} {u : Value} {l : List MsgP} {k j : Nat} {ms : List MsgP} (h : TakeI W2 wr u l k j ms) (hl : l.length ≤ 160) : ms.length ≤ 160 := by
  have e := h.is
  rw [e]
  have := List.length_eraseIdx_le (l.take j) k
  have : (l.take j).length ≤ l.length := by simp; omega
  omega
theorem TakeI.step {W2 wr w5 w' : World} {u : Value} {l : List MsgP} {k j g' cap : Nat} {ms : List MsgP} {x : MsgP} (h : TakeI W2 wr u l k j ms) (hb : Below wr.heap.size wr w5) (hjk : ¬ j = k) (hx : l[j]? = some x)
    (ho : w'.ownsRow W2.heap.size 36 19 (.slice (some ⟨g', 0, none⟩) (ms.length + 1) cap) (ms.length + 1) (ms.flatMap mL ++ mL x)) (hg2 : w5.grownBy w' u.ownBlock) : TakeI W2 w' (.slice (some ⟨g', 0, none⟩) (ms.length + 1) cap) l k (j + 1) (ms ++ [x]) := by
  have hb5 := h.below.trans (hb.mono h.below.size)
  refine ⟨hb5.grown hg2 hb5.size (fun q hq => (World.ownsRow.lt h.row q hq).1), ?_, ?_⟩
  · unfold MOwn
    rw [List.length_append, List.flatMap_append]
    simpa using ho
  · have e := h.is
    rw [left_not hjk hx, ← e]
def RTakeIs (w : World) (B g : Nat) (v : Value) (V : NetV) (k : Int) (e : Ending) (w' : World) : Prop := e = .returned (.tuple #[.agg (msgC (peekM V k).1), .int .i64 (peekM V k).2]) ∧ ∃ v', RNetIs w' B g v' (takeV V k) ∧ NStep w w' g v v'
set_option maxRecDepth 100000 in
set_option maxHeartbeats 8000000 in
theorem rtake_any (B g : Nat) (v : Value) (V : NetV) (k : Int) (w : World) (hB : B ≤ w.heap.size) (h : RNetIs w B g v V) : Calls Try.prog 49 #[.pointer (some ⟨g, 0, none⟩), .int .i64 k] w (RTakeIs w B g v V k) := by
  have hal := alloc_msg
  obtain ⟨i0, hi, hz0, hz1, hz2⟩ := info_parts info_msg
  have HIX := Lib.hid (And.intro hi (And.intro hz0 (And.intro hz1 hz2)))
  have HB := Lib.hid ((Below.refl w.heap.size w).alloc (Nat.le_refl _) (.cells (msgC msg0) 36))
  have HR := Lib.hid (Has.fresh w 36 (msgC msg0))
  have HI := Lib.hid (h.below HB.out)
  have HC := Lib.hid (rpeek_any B g v V k _ HI.out)
  have HBB := Lib.hid hB
  have HGB := Lib.hid h.head.bound
  have HLT := Lib.hid (fun k (hk : v.ownBlock = some k) => (World.ownsRow.lt h.row k hk).2)
  clear h hB hi hz0 hz1 hz2
  go_enter Try.func49, Try.ntmps49
  go_wp2_with ((with_reducible refine Who.wpList_alloc 36 4 rfl rfl rfl (msgC msg0) hal ?_); (try simp only [Act.put, List.setIfInBounds_toArray, List.set_cons_zero, List.set_cons_succ]); (try simp only [World.size_alloc]))
  with_reducible refine HC.out.mono ?_
  rintro e w1 ⟨rfl, hb⟩
  have HI1 := Lib.hid (HI.out.below hb)
  have HR1 := Lib.hid (HR.out.below hb)
  have HB1 := Lib.hid (HB.out.trans (hb.mono HB.out.size))
  obtain ⟨⟨m, r⟩, hr⟩ : ∃ x, x = peekM V k := ⟨_, rfl⟩
  rw [← hr]
  have HP := Lib.hid hr
  clear hb hr
  dsimp only
  -- the message in a block of its own
  have HM2 := Lib.hid (Has.fresh w1 36 (msgC m))
  have HI2 := Lib.hid (HI1.out.below ((Below.refl w1.heap.size w1).alloc (Nat.le_refl _) (.cells (msgC m) 36)))
  have HR2 := Lib.hid (HR1.out.past (.cells (msgC m) 36))
  have HB2 := Lib.hid (HB1.out.alloc (HB1.out.size) (.cells (msgC m) 36))
  have hs0 := HR1.out.bound
  by_cases q : r = 0
  · subst q
    have HT := Lib.hid (take_yes (V := V) (k := k) (by rw [← HP.out]))
    obtain ⟨k0, hj1, hj2⟩ := peek_ok (V := V) (k := k) (by rw [← HP.out])
    subst hj1
    have hjl : k0 < V.way.length := (List.getElem?_eq_some_iff.1 hj2).1
    have HJ := Lib.hid hjl
    obtain ⟨A, c, hv, hsl⟩ := HI2.out.row.sl
    have HSL := Lib.hid hsl
    have HV := Lib.hid hv
    have c1 : (w1.alloc (.cells (msgC m) 36)).cell? ⟨g, 0, none⟩ = some v := HI2.out.head.at_ 0
    rw [hv] at c1
    have hgb := HI1.out.head.bound
    obtain ⟨n, hn⟩ : ∃ n, n = V.way.length := ⟨_, rfl⟩
    have HN := Lib.hid hn
    rw [← hn] at c1
    have hn9 : n ≤ 160 := by have := HI2.out.few; omega
    obtain ⟨S2, hS2⟩ : ∃ S2, S2 = (w1.alloc (.cells (msgC m) 36)).heap.size := ⟨_, rfl⟩
    have HS2 := Lib.hid hS2
    have HT0 := Lib.hid (show TakeI (w1.alloc (.cells (msgC m) 36)) (w1.alloc (.cells (msgC m) 36)) (.slice none 0 0) V.way k0 0 [] from ⟨Below.refl _ _, MOwn.nil _ _, by simp⟩)
    clear hv hj2 hjl hsl hn hS2
    go_wp2_with ((with_reducible refine Who.wpList_newC 36 6 (.tmp 15) rfl rfl rfl (msgC msg0) (msgC m) ?_); refine And.intro ⟨rfl, rfl, rfl, hal, by rfl, by rfl, info_size _, rfl, msgC_one _⟩ ?_; (try simp only [Act.put, List.setIfInBounds_toArray, List.set_cons_zero, List.set_cons_succ]))
    go_loopw [8, 26] (fun s i wr => ∃ j : Nat, ∃ u : Value, ∃ ms : List MsgP, j ≤ n ∧ i = .int .i64 j ∧ s = u ∧ Hid (TakeI (w1.alloc (.cells (msgC m) 36)) wr u V.way k0 j ms)) (fun _ i _ => n - (intOf i).toNat)
    case atStart => exact ⟨0, _, _, by omega, rfl, rfl, HT0⟩
    case round =>
      obtain ⟨j, u, ms, hj, rfl, rfl, HT1⟩ := hrel
      obtain ⟨Au, cu, rfl, _⟩ := HT1.out.row.sl
      by_cases hlt : j < n
      · have HLT1 := Lib.hid (show j + 1 ≤ n from hlt)
        obtain ⟨x, hx⟩ : ∃ x, V.way[j]? = some x := ⟨_, List.getElem?_eq_getElem (by rw [← HN.out]; exact hlt)⟩
        obtain ⟨b, rfl, hbl, _, _, hrg⟩ := HSL.out j x hx
        have HRG := Lib.hid (show wr.rangeAt b (j * 19) (msgC x).toList from fun t u hu => (Below.cell HT1.out.below (p := ⟨b, j * 19 + t, none⟩) hbl).trans (hrg t u hu))
        have HXX := Lib.hid hx
        have HNN := Lib.hid (Has.fresh wr 36 (msgC msg0))
        have HBN := Lib.hid ((Below.refl wr.heap.size wr).alloc (Nat.le_refl _) (.cells (msgC msg0) 36))
        have HF := Lib.hid (HT1.out.few (by rw [← HN.out]; exact hn9))
        have hlti : (j : Int) < n := by omega
        by_cases hk : j = k0
        · have HK := Lib.hid hk
          have hki : ((j : Int) == (k0 : Int)) = true := beq_iff_eq.2 (by omega)
          have hRel := Lib.hid (show ∀ W5, Below wr.heap.size wr W5 → TakeI (w1.alloc (.cells (msgC m) 36)) W5 (.slice Au ms.length cu) V.way k0 (j + 1) ms from fun W5 hB5 => ⟨HT1.out.below.trans (hB5.mono HT1.out.below.size), HT1.out.row.below hB5, by rw [left_is HK.out (by rw [← HN.out]; exact HLT1.out)]; exact HT1.out.is⟩)
          clear hrg hx hk
          go_wp2_with (first | ((with_reducible refine Who.wpList_loadC 36 (.tmp 29) rfl b (j * 19) (msgC x) ?_); refine And.intro ⟨by rfl, by rfl, ⟨_, Try.underlying36, rfl⟩, info_size _⟩ (And.intro HRG.out ?_); (try simp only [Act.put, List.setIfInBounds_toArray, List.set_cons_zero, List.set_cons_succ])) | ((with_reducible refine Who.wpList_alloc 36 10 rfl rfl rfl (msgC msg0) hal ?_); (try simp only [Act.put, List.setIfInBounds_toArray, List.set_cons_zero, List.set_cons_succ]); (try simp only [World.size_alloc])) | ((with_reducible refine wpList_storeN 36 (.tmp 10) (.tmp 30) rfl wr.heap.size (msgC msg0) (msgC x) wr ?_); refine And.intro ⟨rfl, by rfl, by rfl, info_size _, msgC_one _, rfl, HNN.out, HBN.out, Nat.le_refl _⟩ ?_; intro W5 HX HB5; (try simp only [Act.put, List.setIfInBounds_toArray, List.set_cons_zero, List.set_cons_succ])))
          go_roundw
          case rel => exact ⟨j + 1, _, ms, HLT1.out, by go_num, rfl, Lib.hid (hRel.out _ HB5.out)⟩
          case measure => have := HLT1.out; simp [intOf]; omega
        · have HK := Lib.hid hk
          have hki : ((j : Int) == (k0 : Int)) = false := beq_eq_false_iff_ne.2 (by omega)
          have HRW := Lib.hid (show ∀ W5, Below wr.heap.size wr W5 → MOwn W5 S2 (.slice Au ms.length cu) ms from fun W5 hB5 => by rw [HS2.out]; exact HT1.out.row.below hB5)
          have HRS := Lib.hid (show ∀ W5, Below wr.heap.size wr W5 → S2 ≤ (W5.alloc (.cells (msgC x) 36)).heap.size from fun W5 hB5 => by rw [HS2.out]; exact Nat.le_trans HT1.out.below.size ((hB5.alloc hB5.size (.cells (msgC x) 36)).size))
          clear hrg hx hk
          go_wp2_with (first | ((with_reducible refine Who.wpList_loadC 36 (.tmp 29) rfl b (j * 19) (msgC x) ?_); refine And.intro ⟨by rfl, by rfl, ⟨_, Try.underlying36, rfl⟩, info_size _⟩ (And.intro HRG.out ?_); (try simp only [Act.put, List.setIfInBounds_toArray, List.set_cons_zero, List.set_cons_succ])) | ((with_reducible refine Who.wpList_alloc 36 10 rfl rfl rfl (msgC msg0) hal ?_); (try simp only [Act.put, List.setIfInBounds_toArray, List.set_cons_zero, List.set_cons_succ]); (try simp only [World.size_alloc])) | ((with_reducible refine wpList_storeN 36 (.tmp 10) (.tmp 30) rfl wr.heap.size (msgC msg0) (msgC x) wr ?_); refine And.intro ⟨rfl, by rfl, by rfl, info_size _, msgC_one _, rfl, HNN.out, HBN.out, Nat.le_refl _⟩ ?_; intro W5 HX HB5; (try simp only [Act.put, List.setIfInBounds_toArray, List.set_cons_zero, List.set_cons_succ])) | ((with_reducible refine Who.wpList_loadC 36 (.tmp 10) rfl wr.heap.size 0 (msgC x) ?_); refine And.intro ⟨by rfl, by rfl, ⟨_, Try.underlying36, rfl⟩, info_size _⟩ (And.intro (Who.has_range HX.out) ?_); (try simp only [Act.put, List.setIfInBounds_toArray, List.set_cons_zero, List.set_cons_succ])) | ((with_reducible refine wpList_build_msg (.tmp 35) rfl x ?_); refine And.intro ⟨rfl, by rfl⟩ ?_; (try simp only [Act.put, List.setIfInBounds_toArray, List.set_cons_zero, List.set_cons_succ])) | (at_builtin; refine wpList_append_lies _ rfl (.tmp 34) (.tmp 36) 28 rfl S2 36 i0 (.agg (msgC msg0)) 19 160 Try.underlying28 HIX.out.1 HIX.out.2.1 HIX.out.2.2.1 HIX.out.2.2.2 rfl (by decide) (.slice Au ms.length cu) ms.length (ms.flatMap mL) rfl (World.ownsRow.alloc (HRW.out W5 HB5.out) _) ⟨W5.heap.size, 0, none⟩ 1 1 (mL x) rfl rfl ?c1 ?c2 (by decide) (by unfold maxLen; have := HF.out; omega) (by have := HF.out; omega) (HRS.out W5 HB5.out) _ rfl ?_))
          case c1 => exact World.news_of_block (Has.fresh W5 36 (msgC x))
          case c2 => exact fun u hu => (Array.all_eq_true_iff_forall_mem.1 (msgC_one x)) u (by simpa [mL] using hu)
          intro g' cap w7 ho hg2 hor hlt2
          rw [HS2.out] at ho
          have hRel := Lib.hid (TakeI.step HT1.out (HB5.out.alloc HB5.out.size (.cells (msgC x) 36)) HK.out HXX.out ho hg2)
          clear ho hg2 hor hlt2
          go_wp2
          go_roundw
          case rel => exact ⟨j + 1, _, _, HLT1.out, by go_num, rfl, hRel⟩
          case measure => have := HLT1.out; simp [intOf]; omega
      · have hlti : ¬ (j : Int) < n := by omega
        obtain rfl : j = n := by omega
        have hms : ms = V.way.eraseIdx k0 := by have h := HT1.out.is; rw [HN.out, List.take_length] at h; exact h
        have HR3 := Lib.hid (HR2.out.below HT1.out.below)
        have HM3 := Lib.hid (HM2.out.below HT1.out.below)
        have hI3 := HI2.out.below HT1.out.below
        have hG3 := hI3.head
        have f0 := hG3.free 0
        have d0 : wr.cell? ⟨g, 0, none⟩ = some v := hG3.at_ 0
        rw [HV.out] at d0
        have hrow := HT1.out.row.lower (B := B) (Nat.le_trans HBB.out HB2.out.size)
        have hap := hrow.apart hG3 (by decide)
        have cg : Chg (· = g) wr (wr.setCell ⟨g, 0, none⟩ (.slice Au ms.length cu)) := (Chg.refl (· = g) wr).setCell (p := ⟨g, 0, none⟩) (.inl rfl) _
        have HM4 := Lib.hid (HM3.out.keep (p := ⟨g, 0, none⟩) (fun e => by have := HGB.out; have e2 : w1.heap.size = g := e; omega) (.slice Au ms.length cu))
        have HR4 := Lib.hid (HR3.out.keep (p := ⟨g, 0, none⟩) (fun e => by have := HGB.out; have e2 : w.heap.size = g := e; omega) (.slice Au ms.length cu))
        have hN4 : RNetIs (wr.setCell ⟨g, 0, none⟩ (.slice Au ms.length cu)) B g (.slice Au ms.length cu) { V with way := V.way.eraseIdx k0 } := ⟨hG3.put 0 _, hI3.lo, by rw [← hms]; exact hrow.chg cg (fun q hq e => hap (by rw [hq, e])), by rw [← hms]; exact HT1.out.few hI3.few⟩
        have cz := Who.chg_setCells w.heap.size (msgC m).toList 0 (wr.setCell ⟨g, 0, none⟩ (.slice Au ms.length cu))
        have hlu : ∀ q, Value.ownBlock (.slice Au ms.length cu) = some q → (w1.alloc (.cells (msgC m) 36)).heap.size ≤ q := fun q hq => (World.ownsRow.lt HT1.out.row q hq).1
        have hsz : w.heap.size < (w1.alloc (.cells (msgC m) 36)).heap.size := HR2.out.bound
        have HN5 := Lib.hid (hN4.chg cz (fun e => by have := HGB.out; omega) (fun q hq e => by have := hlu q hq; omega))
        have HST := Lib.hid (show NStep w ((wr.setCell ⟨g, 0, none⟩ (.slice Au ms.length cu)).setCells w.heap.size 0 (msgC m).toList) g v (.slice Au ms.length cu) from
          ⟨(((Chg.of_below (HB2.out.trans (HT1.out.below.mono HB2.out.size)) _)).trans (cg.mono (fun q e => .inl e))).step cz (fun i hi e => by omega), fun q hq => .inr (by have := hlu q hq; omega)⟩)
        clear hI3 hG3 hrow hap cg hN4 cz hlu hsz hms
        go_wp2_with (first | ((with_reducible refine Who.wpList_loadC 36 (.tmp 6) rfl w1.heap.size 0 (msgC m) ?_); refine And.intro ⟨by rfl, by rfl, ⟨_, Try.underlying36, rfl⟩, info_size _⟩ (And.intro (Who.has_range HM4.out) ?_); (try simp only [Act.put, List.setIfInBounds_toArray, List.set_cons_zero, List.set_cons_succ])) | ((with_reducible refine Who.wpList_storeC 36 (.tmp 4) (.tmp 43) rfl w.heap.size 0 (msgC m) ?_); refine And.intro ⟨rfl, by rfl, by rfl, info_size _, msgC_one _⟩ (And.intro (Who.has_there HR4.out rfl) ?_); (try simp only [Act.put, List.setIfInBounds_toArray, List.set_cons_zero, List.set_cons_succ])))
        refine bodyPost_ret (v := .tuple #[.agg (msgC m), .int .i64 0]) (Who.results_cell_tmp Try.results49 _ _ w.heap.size 0 (msgC m) _ (by rfl) (Who.has_range (Who.has_over HR4.out rfl)) Try.underlying36 rfl (info_size _)) rfl ⟨by rw [← HP.out], _, by rw [HT.out]; exact HN5.out, HST.out⟩
  · have HT := Lib.hid (take_no (V := V) (k := k) (by rw [← HP.out]; exact q))
    have e1 : (r == 0) = false := beq_eq_false_iff_ne.2 q
    have cz := Who.chg_setCells w.heap.size (msgC m).toList 0 (w1.alloc (.cells (msgC m) 36))
    have HN5 := Lib.hid (HI2.out.chg cz (fun e => by have := HGB.out; omega) (fun k hk e => by have := HLT.out _ hk; omega))
    have HST := Lib.hid (show NStep w ((w1.alloc (.cells (msgC m) 36)).setCells w.heap.size 0 (msgC m).toList) g v v from ⟨(Chg.of_below HB2.out _).step cz (fun i hi e => by omega), fun k hk => .inl hk⟩)
    clear q cz
    go_wp2_with (first | ((with_reducible refine Who.wpList_newC 36 6 (.tmp 15) rfl rfl rfl (msgC msg0) (msgC m) ?_); refine And.intro ⟨rfl, rfl, rfl, hal, by rfl, by rfl, info_size _, rfl, msgC_one _⟩ ?_; (try simp only [Act.put, List.setIfInBounds_toArray, List.set_cons_zero, List.set_cons_succ])) | ((with_reducible refine Who.wpList_loadC 36 (.tmp 6) rfl w1.heap.size 0 (msgC m) ?_); refine And.intro ⟨by rfl, by rfl, ⟨_, Try.underlying36, rfl⟩, info_size _⟩ (And.intro (Who.has_range HM2.out) ?_); (try simp only [Act.put, List.setIfInBounds_toArray, List.set_cons_zero, List.set_cons_succ])) | ((with_reducible refine Who.wpList_storeC 36 (.tmp 4) (.tmp 19) rfl w.heap.size 0 (msgC m) ?_); refine And.intro ⟨rfl, by rfl, by rfl, info_size _, msgC_one _⟩ (And.intro (Who.has_there HR2.out rfl) ?_); (try simp only [Act.put, List.setIfInBounds_toArray, List.set_cons_zero, List.set_cons_succ])))
    refine bodyPost_ret (v := .tuple #[.agg (msgC m), .int .i64 r]) (Who.results_cell_tmp Try.results49 _ _ w.heap.size 0 (msgC m) _ (by rfl) (Who.has_range (Who.has_over HR2.out rfl)) Try.underlying36 rfl (info_size _)) rfl ⟨by rw [← HP.out], _, by rw [HT.out]; exact HN5.out, HST.out⟩
set_option maxRecDepth 100000 in
set_option maxHeartbeats 4000000 in
theorem rlose_any (B g : Nat) (v : Value) (V : NetV) (k : Int) (w : World) (hB : B ≤ w.heap.size) (hf : V.Few) (h : RNetIs w B g v V) : Calls Try.prog 50 #[.pointer (some ⟨g, 0, none⟩), .int .i64 k] w (ROut w B g v (loseV V k)) := by
  have hal := alloc_msg
  obtain ⟨s0, s1, l0, l1⟩ := hf
  have HC := Lib.hid (rtake_any B g v V k w hB h)
  have HGB := Lib.hid h.head.bound
  clear h hB
  go_enter Try.func50, Try.ntmps50
  go_wp2_with fail
  with_reducible refine HC.out.mono ?_
  rintro e w1 ⟨rfl, v1, hn, hst⟩
  obtain ⟨⟨m, r⟩, hr⟩ : ∃ x, x = peekM V k := ⟨_, rfl⟩
  rw [← hr]
  have HP := Lib.hid hr
  clear hr
  dsimp only
  have hba := (Below.refl w1.heap.size w1).alloc (Nat.le_refl _) (.cells (msgC m) 36)
  have HN := Lib.hid (hn.below hba)
  have HST := Lib.hid (show NStep w (w1.alloc (.cells (msgC m) 36)) g v v1 from ⟨hst.1.trans (Chg.of_below hba _), hst.2⟩)
  clear hn hst hba
  by_cases q : r = 0
  · subst q
    have HD := Lib.hid (lose_yes (V := V) (k := k) (by rw [← HP.out]))
    have d3 : (w1.alloc (.cells (msgC m) 36)).cell? ⟨g, 2, none⟩ = some (.int .i64 V.lost) := by have h := HN.out.head.at_ 2; rw [take_lost] at h; exact h
    have f3 := HN.out.head.free 2
    have HN2 := Lib.hid (rnet_lost HN.out (V.lost + 1))
    have HS2 := Lib.hid (HST.out.post ((Chg.refl (· = g) _).setCell (p := ⟨g, 2, none⟩) (.inl rfl) (.int .i64 (V.lost + 1))))
    generalize hW : w1.alloc (.cells (msgC m) 36) = w2 at *
    go_wp2_with (((with_reducible refine Who.wpList_newC 36 5 (.tmp 11) rfl rfl rfl (msgC msg0) (msgC m) ?_); refine And.intro ⟨rfl, rfl, rfl, hal, by rfl, by rfl, info_size _, rfl, msgC_one _⟩ ?_; rw [hW]; (try simp only [Act.put, List.setIfInBounds_toArray, List.set_cons_zero, List.set_cons_succ])))
    go_ret
    exact ⟨by rw [HD.out]; rfl, v1, by rw [HD.out]; exact HN2.out, HS2.out⟩
  · have HD := Lib.hid (lose_no (V := V) (k := k) (by rw [← HP.out]; exact q))
    have HT := Lib.hid (take_no (V := V) (k := k) (by rw [← HP.out]; exact q))
    have e1 : (r == 0) = false := beq_eq_false_iff_ne.2 q
    clear q
    go_wp2_with (((with_reducible refine Who.wpList_newC 36 5 (.tmp 11) rfl rfl rfl (msgC msg0) (msgC m) ?_); refine And.intro ⟨rfl, rfl, rfl, hal, by rfl, by rfl, info_size _, rfl, msgC_one _⟩ ?_; (try simp only [Act.put, List.setIfInBounds_toArray, List.set_cons_zero, List.set_cons_succ])))
    go_ret
    exact ⟨by rw [HD.out, ← HP.out]; rfl, v1, by rw [HD.out]; have h := HN.out; rw [HT.out] at h; exact h, HST.out⟩
end Go.Proofs.Ytjbbifmjhagfiaa.Nt
