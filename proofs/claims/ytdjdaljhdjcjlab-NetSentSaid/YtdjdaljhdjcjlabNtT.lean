/- The law NetSent walked. -/
import Derived.Test.YtdjdaljhdjcjlabNtQ
import Derived.Test.YtdjdaljhdjcjlabNtS
import Derived.Test.YtdjdaljhdjcjlabNtG
namespace Go.Proofs.Ytdjdaljhdjcjlab.Nt
open Go.RowKit Go.Proofs.Ytdjdaljhdjcjlab.Mem Go.Proofs.Ytdjdaljhdjcjlab.Vc
set_option linter.unusedVariables false

theorem mem_peek {V : NetV} {k : Int} (h : (peekM V k).2 = 0) : (peekM V k).1 ∈ V.way := by
  obtain ⟨j, _, hj⟩ := peek_ok h
  exact List.mem_of_getElem? hj
theorem mem_take {V : NetV} {k : Int} {x : MsgP} (h : x ∈ (takeV V k).way) : x ∈ V.way := by
  by_cases q : (peekM V k).2 = 0
  · rw [take_yes q] at h
    exact List.mem_of_mem_eraseIdx h
  · rw [take_no q] at h
    exact h
theorem way_does (V : NetV) (d : DoP) : ∀ x ∈ (doesV V d).1.way, x ∈ V.way ∨ (x = d.m ∧ OkM d.m ∧ opA d < 4) := by
  intro x hx
  by_cases h4 : opA d = 4
  · rw [does_4 h4] at hx
    exact .inl hx
  by_cases h5 : opA d = 5
  · rw [does_5 h5] at hx
    exact .inl (mem_take hx)
  by_cases h6 : opA d = 6
  · rw [does_6 h6] at hx
    by_cases q : (peekM V d.k).2 = 0
    · rw [lose_yes q] at hx
      exact .inl (mem_take hx)
    · rw [lose_no q] at hx
      exact .inl hx
  by_cases h7 : opA d = 7
  · rw [does_7 h7] at hx
    by_cases q : (peekM V d.k).2 = 0
    · rw [double_yes q] at hx
      by_cases q2 : 160 ≤ V.way.length
      · rw [put_full q2] at hx
        exact .inl hx
      · rw [put_room q2] at hx
        rcases List.mem_append.1 hx with h | h
        · exact .inl h
        · rw [List.mem_singleton.1 h]
          exact .inl (mem_peek q)
    · rw [double_no q] at hx
      exact .inl hx
  · rw [does_0 h4 h5 h6 h7] at hx
    have ha := bits_and7 d.op
    have hlt : opA d < 4 := by unfold opA at *; omega
    by_cases q : OkM d.m
    · by_cases q2 : 160 ≤ V.way.length
      · rw [send_full q q2] at hx
        exact .inl hx
      · rw [send_room q q2] at hx
        rcases List.mem_append.1 hx with h | h
        · exact .inl h
        · exact .inr ⟨List.mem_singleton.1 h, q, hlt⟩
    · rw [send_bad q] at hx
      exact .inl hx
theorem got_does {V : NetV} {d : DoP} (h : opA d = 4 ∨ opA d = 5) (h2 : (doesV V d).2.2 = 0) : (doesV V d).2.1 ∈ V.way := by
  rcases h with h | h
  · rw [does_4 h] at h2 ⊢
    exact mem_peek h2
  · rw [does_5 h] at h2 ⊢
    exact mem_peek h2
/-- What is so ahead of each thing. -/
structure SentI (W wr : World) (g : Nat) (v : Value) (V : NetV) (u : Value) (ss : List MsgP) (j : Nat) : Prop where
  below : Below W.heap.size W wr
  net : NetIs wr W.heap.size g v V
  row : MOwn wr W.heap.size u ss
  apart : ∀ k, u.ownBlock = some k → v.ownBlock ≠ some k
  few : ss.length ≤ j
  way : ∀ x ∈ V.way, OkM x ∧ ∃ y ∈ ss, sameM x y = true
  nums : 0 ≤ V.sent ∧ V.sent ≤ j ∧ 0 ≤ V.lost ∧ V.lost ≤ j
theorem SentI.fewN {W wr : World} {g : Nat} {v u : Value} {V : NetV} {ss : List MsgP} {j : Nat} (h : SentI W wr g v V u ss j) (hj : j ≤ 300) : V.Few := by
  obtain ⟨a, b, c, d⟩ := h.nums
  exact ⟨a, by omega, c, by omega⟩
theorem SentI.chg {W wr w' : World} {g : Nat} {v u : Value} {V : NetV} {ss : List MsgP} {j : Nat} (h : SentI W wr g v V u ss j) (hb : Below wr.heap.size wr w') : SentI W w' g v V u ss j :=
  ⟨h.below.trans (hb.mono h.below.size), h.net.below hb, h.row.below hb, h.apart, h.few, h.way, h.nums⟩
/-- A thing is done, behind which what was sent may have grown ahead of it. -/
theorem SentI.does {W w1 w2 : World} {g : Nat} {v u v2 : Value} {V : NetV} {ss : List MsgP} {j : Nat} {d : DoP} (hb : Below W.heap.size W w1) (hn1 : NetIs w1 W.heap.size g v V) (hr : MOwn w1 W.heap.size u ss) (hap : ∀ k, u.ownBlock = some k → v.ownBlock ≠ some k) (hf : ss.length ≤ j + 1)
    (hw : ∀ x ∈ V.way, OkM x ∧ ∃ y ∈ ss, sameM x y = true) (hd : opA d < 4 → d.m ∈ ss) (hnum : 0 ≤ V.sent ∧ V.sent ≤ j ∧ 0 ≤ V.lost ∧ V.lost ≤ j) (hF : V.Few) (hn : NetIs w2 W.heap.size g v2 (doesV V d).1) (hst : NStep w1 w2 g v v2) : SentI W w2 g v2 (doesV V d).1 u ss (j + 1) := by
  have hac := acct_does V d hF
  have hug : u.ownBlock ≠ some g := hr.apart hn1.head (by decide)
  refine ⟨NStep.below hb hn1 hst, hn, hr.chg hst.1 (fun k hk e => ?_), fun k hk e => ?_, hf, fun x hx => ?_, by omega⟩
  · rcases e with e | e
    · exact hug (by rw [hk, e])
    · exact hap k hk e
  · rcases hst.2 k e with e2 | e2
    · exact hap k hk e2
    · have := (World.ownsRow.lt hr k hk).2
      omega
  · rcases way_does V d x hx with h | ⟨rfl, h, h2⟩
    · exact hw x h
    · exact ⟨h, _, hd h2, sameM_of rfl⟩
theorem sent_post {w w1 w' : World} {B g g' cap : Nat} {v u : Value} {V : NetV} {ss : List MsgP} {m : MsgP} (hn : NetIs w1 B g v V) (hr : MOwn w1 B u ss) (hap : ∀ k, u.ownBlock = some k → v.ownBlock ≠ some k)
    (ho : w'.ownsRow B 33 19 (.slice (some ⟨g', 0, none⟩) (ss.length + 1) cap) (ss.length + 1) (ss.flatMap mL ++ mL m)) (hg2 : w1.grownBy w' u.ownBlock) (hor : u.ownBlock = some g' ∨ g' = w1.heap.size) :
    NetIs w' B g v V ∧ MOwn w' B (.slice (some ⟨g', 0, none⟩) (ss.length + 1) cap) (ss ++ [m]) ∧ ∀ k, Value.ownBlock (.slice (some ⟨g', 0, none⟩) (ss.length + 1) cap) = some k → v.ownBlock ≠ some k := by
  have hug : u.ownBlock ≠ some g := hr.apart hn.head (by decide)
  refine ⟨hn.chg (Chg.grown hg2) hug (fun k hk e => hap k e hk), ?_, fun k hk e => ?_⟩
  · unfold MOwn
    rw [List.length_append, List.flatMap_append]
    simpa using ho
  · have e2 : g' = k := by simpa [Value.ownBlock] using hk
    subst e2
    rcases hor with h | h
    · exact hap _ h e
    · have := (hn.lt _ e).2
      omega
theorem wpList_build_msg {ops : Array Oper} {rest : List Oper} {o : Oper} {a : Act} {w : World} {Q : Exit → Act → World → Prop} (x : Operand) (ho : o.op = .buildSlice 27 1 #[(0, x)]) (m : MsgP)
    (h : (o.guard = none ∧ a.eval x = .agg (msgC m)) ∧ wpList Try.prog ops Q rest (a.put o.dst (.slice (some ⟨w.heap.size, 0, none⟩) 1 1)) (w.alloc (.cells (msgC m) 33))) : wpList Try.prog ops Q (o :: rest) a w := by
  obtain ⟨⟨h1, h2⟩, h3⟩ := h
  obtain ⟨i, q0, q1, q2, q3⟩ := info_parts info_msg
  refine wpList_buildSlice h1 27 33 1 _ ho (msgC m) i _ Try.underlying27 q0 q1 (by omega) (by omega) ?_ h3
  have e : (#[(0, x)] : Array (Nat × Operand)).map (fun (i, x) => (i, a.eval x)) = #[(0, .agg (msgC m))] := by simp [h2]
  rw [e, q2]
  exact fill_msg m
set_option maxRecDepth 100000 in
set_option maxHeartbeats 8000000 in
theorem sent_walk (W : World) (A : Option Addr) (n c : Nat) (ds : List DoP) (hr : DRow W A n ds) (hn : n ≤ maxLen) : Calls Try.prog 3 #[.slice A n c] W fun e w' => e = .returned (.bool true) ∧ Below W.heap.size W w' := by
  have hal := alloc_msg
  have hald := alloc_do
  obtain ⟨i0, hi, hz0, hz1, hz2⟩ := info_parts info_msg
  have HIX := Lib.hid (And.intro hi (And.intro hz0 (And.intro hz1 hz2)))
  have HR := Lib.hid hr
  have HSH := Lib.hid (short_any A n c ds W hr hn)
  have HAW := Lib.hid (fun w => awake_any w)
  have HNEW := Lib.hid (fun w => new_any w)
  have HLN := Lib.hid hr.len
  clear hr hn hi hz0 hz1 hz2
  go_enter Try.func3, Try.ntmps3
  go_wp2_with fail
  with_reducible refine HSH.out.mono ?_
  rintro e w0 ⟨b, rfl, hb3, rfl⟩
  cases b with
  | false =>
    clear hb3
    go_wp2_with fail
    with_reducible refine (HAW.out _).mono ?_
    rintro e w1 ⟨rfl, hb⟩
    have HB := Lib.hid hb
    clear hb
    go_wp2
    go_ret
    exact ⟨rfl, HB.out⟩
  | true =>
    have H300 := Lib.hid (hb3 rfl)
    clear hb3
    go_wp2_with fail
    with_reducible refine (HNEW.out _).mono ?_
    rintro e w1 ⟨rfl, hnn, hb, hs⟩
    obtain ⟨g, hg⟩ : ∃ g, g = W.heap.size := ⟨_, rfl⟩
    have HI0 := Lib.hid (show SentI W w1 g (.slice none 0 0) ⟨[], 0, 0⟩ (.slice none 0 0) [] 0 from ⟨hb, hg ▸ hnn, MOwn.nil _ _, fun k hk => by simp [Value.ownBlock] at hk, Nat.le_refl _, fun x hx => by simp at hx, by decide⟩)
    rw [← hg]
    clear hnn hb hs hg
    go_wp2
    go_loopw [4, 16] (fun s i wr => ∃ j : Nat, ∃ v : Value, ∃ V : NetV, ∃ u : Value, ∃ ss : List MsgP, j ≤ n ∧ i = .int .i64 j ∧ s = u ∧ Hid (SentI W wr g v V u ss j)) (fun _ i _ => n - (intOf i).toNat)
    case atStart => exact ⟨0, _, _, _, _, by omega, rfl, rfl, HI0⟩
    case round =>
      obtain ⟨j, v, V, u, ss, hj, rfl, rfl, HI⟩ := hrel
      have hn3 : n ≤ 300 := by have := H300.out; rw [HLN.out] at this; exact this
      by_cases hlt : j < n
      · have HLT := Lib.hid (show j + 1 ≤ n from hlt)
        obtain ⟨d, hd⟩ : ∃ d, ds[j]? = some d := ⟨_, List.getElem?_eq_getElem (by rw [HLN.out]; exact hlt)⟩
        obtain ⟨b, off, rfl, hb, hrg, hsz⟩ := (HR.out.below HI.out.below).cells j d hd
        have HRG := Lib.hid hrg
        have HNU := Lib.hid HI.out.nums
        have HFEW := Lib.hid (HI.out.fewN (by omega))
        have hba := (Below.refl wr.heap.size wr).alloc (Nat.le_refl _) (.cells (doC d) 35)
        have HI1 := Lib.hid (HI.out.chg hba)
        have HX := Lib.hid (Has.fresh wr 35 (doC d))
        have HGB := Lib.hid HI.out.net.head.bound
        have HL := Lib.hid HI.out.net.lt
        have HWY := Lib.hid HI.out.way
        have hlti : (j : Int) < n := by omega
        have hn3i : (n : Int) ≤ 300 := by omega
        have b0 : (doC d)[0]? = some (.int .i64 d.op) := rfl
        obtain ⟨a, ha⟩ : ∃ a, a = opA d := ⟨_, rfl⟩
        have HA := Lib.hid ha
        have ha2 : bits .and .i64 d.op 7 = a := ha.symm
        have hjj : j ≤ 300 := by omega
        obtain ⟨A2, cu, rfl, _⟩ := HI.out.row.sl
        clear hrg hd hsz hba ha
        by_cases q4 : a < 4
        · have HQ4 := Lib.hid q4
          have q5 : ¬ 4 ≤ a := by omega
          go_wp2_with (first | ((with_reducible refine Who.wpList_loadC 35 (.tmp 18) rfl b (off + j * 21) (doC d) ?_); refine And.intro ⟨by rfl, by rfl, ⟨_, Try.underlying35, rfl⟩, info_do⟩ (And.intro HRG.out ?_); (try simp only [Act.put, List.setIfInBounds_toArray, List.set_cons_zero, List.set_cons_succ])) | ((with_reducible refine Who.wpList_newC 35 6 (.tmp 19) rfl rfl rfl (doC do0) (doC d) ?_); refine And.intro ⟨rfl, rfl, rfl, hald, by rfl, by rfl, info_do, rfl, doC_one _⟩ ?_; (try simp only [Act.put, List.setIfInBounds_toArray, List.set_cons_zero, List.set_cons_succ])) | ((with_reducible refine Who.wpList_loadC 33 (.tmp 25) rfl wr.heap.size 2 (msgC d.m) ?_); refine And.intro ⟨by rfl, by rfl, ⟨_, Try.underlying33, rfl⟩, info_size _⟩ (And.intro (do_range HX.out) ?_); (try simp only [Act.put, List.setIfInBounds_toArray, List.set_cons_zero, List.set_cons_succ])) | ((with_reducible refine wpList_build_msg (.tmp 26) rfl d.m ?_); refine And.intro ⟨rfl, by rfl⟩ ?_; (try simp only [Act.put, List.setIfInBounds_toArray, List.set_cons_zero, List.set_cons_succ]); (try simp only [World.size_alloc])) | (at_builtin; refine wpList_append_lies _ rfl (.tmp 24) (.tmp 27) 27 rfl W.heap.size 33 i0 (.agg (msgC msg0)) 19 160 Try.underlying27 HIX.out.1 HIX.out.2.1 HIX.out.2.2.1 HIX.out.2.2.2 rfl (by decide) (.slice A2 ss.length cu) ss.length (ss.flatMap mL) rfl (World.ownsRow.alloc HI1.out.row _) ⟨wr.heap.size + 1, 0, none⟩ 1 1 (mL d.m) rfl rfl ?c1 ?c2 (by decide) (by unfold maxLen; have := HI.out.few; omega) (by have := HI.out.few; omega) (by have := HI.out.below.size; simp; omega) _ rfl ?_))
          case c1 => exact fun j u h => by simpa [mL] using h
          case c2 => exact fun u hu => (Array.all_eq_true_iff_forall_mem.1 (msgC_one d.m)) u (by simpa [mL] using hu)
          intro g' cap w1 ho hg2 hor hlt2
          have hb2 := (Below.refl (wr.alloc (.cells (doC d) 35)).heap.size (wr.alloc (.cells (doC d) 35))).alloc (Nat.le_refl _) (.cells (msgC d.m) 33)
          have hI2 := HI1.out.chg hb2
          have hsp := sent_post (w := wr) (m := d.m) hI2.net hI2.row hI2.apart ho hg2 (hor.imp id (fun h => by rw [h]; simp))
          have HN1 := Lib.hid hsp.1
          have HU1 := Lib.hid hsp.2.1
          have HAP1 := Lib.hid hsp.2.2
          have HX1 := Lib.hid (Has.grown (HX.out.past (.cells (msgC d.m) 33)) hg2 (hI2.row.apart (HX.out.past (.cells (msgC d.m) 33)) (by decide)))
          have HB1 := Lib.hid (hI2.below.grown hg2 hI2.below.size (fun k hk => (World.ownsRow.lt hI2.row k hk).1))
          have HF1 := Lib.hid (show (ss ++ [d.m]).length ≤ j + 1 by have := HI.out.few; simp; omega)
          have HWY1 := Lib.hid (show ∀ x ∈ V.way, OkM x ∧ ∃ y ∈ ss ++ [d.m], sameM x y = true from fun x hx => by
            obtain ⟨h1, y, hy, hs⟩ := HWY.out x hx
            exact ⟨h1, y, List.mem_append_left _ hy, hs⟩)
          have HD1 := Lib.hid (show opA d < 4 → d.m ∈ ss ++ [d.m] from fun _ => by simp)
          clear ho hg2 hor hlt2 hb2 hI2 hsp
          go_wp2_with ((with_reducible refine Who.wpList_loadC 35 (.tmp 6) rfl wr.heap.size 0 (doC d) ?_); refine And.intro ⟨by rfl, by rfl, ⟨_, Try.underlying35, rfl⟩, info_do⟩ (And.intro (Who.has_range HX1.out) ?_); (try simp only [Act.put, List.setIfInBounds_toArray, List.set_cons_zero, List.set_cons_succ]))
          refine (does_any W.heap.size g v V d _ HB1.out.size HFEW.out HN1.out).mono ?_
          rintro e w2 ⟨rfl, v2, hnn, hst⟩
          have HX2 := Lib.hid (HX1.out.over hst.1 (fun e => by rcases e with e | e; have := HGB.out; omega; have := (HL.out _ e).2; omega))
          have HS2 := Lib.hid (SentI.does HB1.out HN1.out HU1.out HAP1.out HF1.out HWY1.out HD1.out HNU.out HFEW.out hnn hst)
          obtain ⟨E, hE⟩ : ∃ E, E = (doesV V d).2.2 := ⟨_, rfl⟩
          obtain ⟨m, hm⟩ : ∃ m, m = (doesV V d).2.1 := ⟨_, rfl⟩
          rw [← hE, ← hm]
          have HE := Lib.hid hE
          have HMM := Lib.hid hm
          have hba := (Below.refl w2.heap.size w2).alloc (Nat.le_refl _) (.cells (msgC m) 33)
          have HS3 := Lib.hid (HS2.out.chg hba)
          have HM := Lib.hid (Has.fresh w2 33 (msgC m))
          have c0 : (w2.alloc (.cells (msgC m) 33)).cell? ⟨wr.heap.size, 0, none⟩ = some (.int .i64 d.op) := (HX2.out.past _).at_ 0
          have hnew := HX2.out.bound
          clear hE hm hnn hst hba
          have q4b : a < 4 := HQ4.out
          go_wp2_with (((with_reducible refine Who.wpList_newC 33 7 (.tmp 33) rfl rfl rfl (msgC msg0) (msgC m) ?_); refine And.intro ⟨rfl, rfl, rfl, hal, by rfl, by rfl, info_size _, rfl, msgC_one _⟩ ?_; (try simp only [Act.put, List.setIfInBounds_toArray, List.set_cons_zero, List.set_cons_succ])))
          go_roundw
          case rel => exact ⟨j + 1, v2, (doesV V d).1, _, _, HLT.out, by go_num, rfl, HS3⟩
          case measure => have := HLT.out; simp [intOf]; omega
        · have q5 : 4 ≤ a := by omega
          have HN1 := Lib.hid HI1.out.net
          have HU1 := Lib.hid HI1.out.row
          have HAP1 := Lib.hid HI1.out.apart
          have HX1 := HX
          have HB1 := Lib.hid HI1.out.below
          have HF1 := Lib.hid (show ss.length ≤ j + 1 by have := HI.out.few; omega)
          have HWY1 := HWY
          have HD1 := Lib.hid (show opA d < 4 → d.m ∈ ss from fun h => by have := HA.out; omega)
          go_wp2_with (first | ((with_reducible refine Who.wpList_loadC 35 (.tmp 18) rfl b (off + j * 21) (doC d) ?_); refine And.intro ⟨by rfl, by rfl, ⟨_, Try.underlying35, rfl⟩, info_do⟩ (And.intro HRG.out ?_); (try simp only [Act.put, List.setIfInBounds_toArray, List.set_cons_zero, List.set_cons_succ])) | ((with_reducible refine Who.wpList_newC 35 6 (.tmp 19) rfl rfl rfl (doC do0) (doC d) ?_); refine And.intro ⟨rfl, rfl, rfl, hald, by rfl, by rfl, info_do, rfl, doC_one _⟩ ?_; (try simp only [Act.put, List.setIfInBounds_toArray, List.set_cons_zero, List.set_cons_succ])) | ((with_reducible refine Who.wpList_loadC 35 (.tmp 6) rfl wr.heap.size 0 (doC d) ?_); refine And.intro ⟨by rfl, by rfl, ⟨_, Try.underlying35, rfl⟩, info_do⟩ (And.intro (Who.has_range HX1.out) ?_); (try simp only [Act.put, List.setIfInBounds_toArray, List.set_cons_zero, List.set_cons_succ])))
          refine (does_any W.heap.size g v V d _ HB1.out.size HFEW.out HN1.out).mono ?_
          rintro e w2 ⟨rfl, v2, hnn, hst⟩
          have HX2 := Lib.hid (HX1.out.over hst.1 (fun e => by rcases e with e | e; have := HGB.out; omega; have := (HL.out _ e).2; omega))
          have HS2 := Lib.hid (SentI.does HB1.out HN1.out HU1.out HAP1.out HF1.out HWY1.out HD1.out HNU.out HFEW.out hnn hst)
          obtain ⟨E, hE⟩ : ∃ E, E = (doesV V d).2.2 := ⟨_, rfl⟩
          obtain ⟨m, hm⟩ : ∃ m, m = (doesV V d).2.1 := ⟨_, rfl⟩
          rw [← hE, ← hm]
          have HE := Lib.hid hE
          have HMM := Lib.hid hm
          have hba := (Below.refl w2.heap.size w2).alloc (Nat.le_refl _) (.cells (msgC m) 33)
          have HS3 := Lib.hid (HS2.out.chg hba)
          have HM := Lib.hid (Has.fresh w2 33 (msgC m))
          have c0 : (w2.alloc (.cells (msgC m) 33)).cell? ⟨wr.heap.size, 0, none⟩ = some (.int .i64 d.op) := (HX2.out.past _).at_ 0
          have hnew := HX2.out.bound
          clear hE hm hnn hst hba
          by_cases a5 : a ≤ 5
          · by_cases q : E = 0
            · have q2 : (E == 0) = true := beq_iff_eq.2 q
              have HW := Lib.hid (got_does (V := V) (d := d) (by have := HA.out; omega) (HE.out.symm.trans q))
              have HOK := Lib.hid (HWY1.out m (by rw [HMM.out]; exact HW.out))
              have HCN := Lib.hid (contains_any W.heap.size _ _ m _ HS3.out.row (by have := HS3.out.few; omega))
              clear q
              go_wp2_with (first | ((with_reducible refine Who.wpList_newC 33 7 (.tmp 33) rfl rfl rfl (msgC msg0) (msgC m) ?_); refine And.intro ⟨rfl, rfl, rfl, hal, by rfl, by rfl, info_size _, rfl, msgC_one _⟩ ?_; (try simp only [Act.put, List.setIfInBounds_toArray, List.set_cons_zero, List.set_cons_succ])) | ((with_reducible refine Who.wpList_loadC 33 (.tmp 7) rfl w2.heap.size 0 (msgC m) ?_); refine And.intro ⟨by rfl, by rfl, ⟨_, Try.underlying33, rfl⟩, info_size _⟩ (And.intro (Who.has_range HM.out) ?_); (try simp only [Act.put, List.setIfInBounds_toArray, List.set_cons_zero, List.set_cons_succ])))
              with_reducible refine HCN.out.mono ?_
              rintro e w4 ⟨⟨b4, rfl, hb4⟩, hb⟩
              obtain rfl : b4 = true := hb4.2 (by obtain ⟨_, y, hy, hs⟩ := HOK.out; exact ⟨y, hy, hs⟩)
              have HM4 := Lib.hid (HM.out.below hb)
              have HS4 := Lib.hid (HS3.out.chg hb)
              have HCK := Lib.hid (fun w => rcheck_any m w)
              clear hb hb4
              go_wp2_with (((with_reducible refine Who.wpList_loadC 33 (.tmp 7) rfl w2.heap.size 0 (msgC m) ?_); refine And.intro ⟨by rfl, by rfl, ⟨_, Try.underlying33, rfl⟩, info_size _⟩ (And.intro (Who.has_range HM4.out) ?_); (try simp only [Act.put, List.setIfInBounds_toArray, List.set_cons_zero, List.set_cons_succ])))
              with_reducible refine (HCK.out _).mono ?_
              rintro e w5 ⟨rfl, hb⟩
              rw [err_yes HOK.out.1]
              have HS5 := Lib.hid (HS4.out.chg hb)
              clear hb
              go_wp2
              go_roundw
              case rel => exact ⟨j + 1, v2, (doesV V d).1, _, _, HLT.out, by go_num, rfl, HS5⟩
              case measure => have := HLT.out; simp [intOf]; omega
            · have q2 : (E == 0) = false := beq_eq_false_iff_ne.2 q
              clear q
              go_wp2_with (((with_reducible refine Who.wpList_newC 33 7 (.tmp 33) rfl rfl rfl (msgC msg0) (msgC m) ?_); refine And.intro ⟨rfl, rfl, rfl, hal, by rfl, by rfl, info_size _, rfl, msgC_one _⟩ ?_; (try simp only [Act.put, List.setIfInBounds_toArray, List.set_cons_zero, List.set_cons_succ])))
              go_roundw
              case rel => exact ⟨j + 1, v2, (doesV V d).1, _, _, HLT.out, by go_num, rfl, HS3⟩
              case measure => have := HLT.out; simp [intOf]; omega
          · go_wp2_with (((with_reducible refine Who.wpList_newC 33 7 (.tmp 33) rfl rfl rfl (msgC msg0) (msgC m) ?_); refine And.intro ⟨rfl, rfl, rfl, hal, by rfl, by rfl, info_size _, rfl, msgC_one _⟩ ?_; (try simp only [Act.put, List.setIfInBounds_toArray, List.set_cons_zero, List.set_cons_succ])))
            go_roundw
            case rel => exact ⟨j + 1, v2, (doesV V d).1, _, _, HLT.out, by go_num, rfl, HS3⟩
            case measure => have := HLT.out; simp [intOf]; omega
      · have hlti : ¬ (j : Int) < n := by omega
        go_wp2_with fail
        with_reducible refine (HAW.out _).mono ?_
        rintro e w3 ⟨rfl, hb⟩
        have HB3 := Lib.hid (HI.out.below.trans (hb.mono HI.out.below.size))
        clear hb
        go_wp2
        go_ret
        exact ⟨rfl, HB3.out⟩
end Go.Proofs.Ytdjdaljhdjcjlab.Nt
