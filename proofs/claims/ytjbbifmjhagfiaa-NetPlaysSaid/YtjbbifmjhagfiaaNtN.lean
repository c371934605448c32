/- Messages on their way: what a thing of the law does. -/
import Derived.Test.YtjbbifmjhagfiaaNtM
namespace Go.Proofs.Ytjbbifmjhagfiaa.Nt
open Go.RowKit Go.Proofs.Ytjbbifmjhagfiaa.Mem Go.Proofs.Ytjbbifmjhagfiaa.Vc
set_option linter.unusedVariables false

structure DoP where
  op : Int
  k : Int
  m : MsgP
def doC (d : DoP) : Array Value := #[.int .i64 d.op, .int .i64 d.k, .int .i64 d.m.kind, .int .i64 d.m.fr, .int .i64 d.m.to, .int .i64 d.m.vol, .int .i64 d.m.base.1, .int .i64 d.m.base.2, .int .i64 d.m.mark.1, .int .i64 d.m.mark.2, .int .i64 d.m.ix, .int .i64 d.m.tot,
  .int .i64 (d.m.seen 0), .int .i64 (d.m.seen 1), .int .i64 (d.m.seen 2), .int .i64 (d.m.seen 3), .int .i64 (d.m.seen 4), .int .i64 (d.m.seen 5), .int .i64 (d.m.seen 6), .int .i64 (d.m.seen 7), .string d.m.data]
theorem doC_one (d : DoP) : (doC d).all (·.oneCell') = true := by simp [doC, Value.oneCell']
theorem info_do : (Try.prog.info? 38).map (·.size) = some 21 := by kernel_rfl
theorem do_range {w : World} {g : Nat} {t : TypeId} {d : DoP} (h : Has w g t (doC d)) : w.rangeAt g 2 (msgC d.m).toList := fun j v hv => by
  rw [h.at_]
  have e : (doC d)[2 + j]? = (msgC d.m)[j]? := by
    have e2 : (doC d).toList = [.int .i64 d.op, .int .i64 d.k] ++ (msgC d.m).toList := rfl
    rw [← Array.getElem?_toList, ← Array.getElem?_toList, e2, List.getElem?_append_right (by simp)]
    congr 1
    simp
  rw [e]
  simpa using hv
theorem bits_and7 (n : Int) : 0 ≤ bits .and .i64 n 7 ∧ bits .and .i64 n 7 ≤ 7 := by
  have h : bits .and .i64 n 7 = n % 8 := by
    have h7 : (BitVec.ofInt 64 7).toNat = 2 ^ 3 - 1 := by decide
    have key : (BitVec.ofInt 64 n &&& BitVec.ofInt 64 7).toNat = (n % ((2 ^ 64 : Nat) : Int)).toNat % 2 ^ 3 := by
      rw [BitVec.toNat_and, BitVec.toNat_ofInt, h7, Nat.and_two_pow_sub_one_eq_mod]
    show IntKind.i64.wrap ((BitVec.ofInt 64 n &&& BitVec.ofInt 64 7).toNat : Nat) = n % 8
    rw [key, IntKind.wrap_i64]
    omega
  rw [h]
  omega
/-- Which of eight things it is. -/
def opA (d : DoP) : Int := bits .and .i64 d.op 7
noncomputable def doesV (V : NetV) (d : DoP) : NetV × MsgP × Int :=
  if opA d = 4 then (V, peekM V d.k) else if opA d = 5 then (takeV V d.k, peekM V d.k) else if opA d = 6 then ((loseV V d.k).1, msg0, (loseV V d.k).2) else if opA d = 7 then ((doubleV V d.k).1, msg0, (doubleV V d.k).2) else ((sendV V d.m).1, msg0, (sendV V d.m).2)
theorem does_4 {V : NetV} {d : DoP} (h : opA d = 4) : doesV V d = (V, peekM V d.k) := by unfold doesV; rw [if_pos h]
theorem does_5 {V : NetV} {d : DoP} (h : opA d = 5) : doesV V d = (takeV V d.k, peekM V d.k) := by unfold doesV; rw [if_neg (by omega), if_pos h]
theorem does_6 {V : NetV} {d : DoP} (h : opA d = 6) : doesV V d = ((loseV V d.k).1, msg0, (loseV V d.k).2) := by unfold doesV; rw [if_neg (by omega), if_neg (by omega), if_pos h]
theorem does_7 {V : NetV} {d : DoP} (h : opA d = 7) : doesV V d = ((doubleV V d.k).1, msg0, (doubleV V d.k).2) := by unfold doesV; rw [if_neg (by omega), if_neg (by omega), if_neg (by omega), if_pos h]
theorem does_0 {V : NetV} {d : DoP} (h4 : ¬ opA d = 4) (h5 : ¬ opA d = 5) (h6 : ¬ opA d = 6) (h7 : ¬ opA d = 7) : doesV V d = ((sendV V d.m).1, msg0, (sendV V d.m).2) := by unfold doesV; rw [if_neg h4, if_neg h5, if_neg h6, if_neg h7]
def DoesIs (w : World) (B g : Nat) (v : Value) (r : NetV × MsgP × Int) (e : Ending) (w' : World) : Prop := e = .returned (.tuple #[.agg (msgC r.2.1), .int .i64 r.2.2]) ∧ ∃ v', NetIs w' B g v' r.1 ∧ NStep w w' g v v'
theorem does_fin {w W1 w2 : World} {B g q : Nat} {v v' : Value} {V' : NetV} (C : List Value) (hb : Below w.heap.size w W1) (hg : g < w.heap.size) (hv : ∀ k, v.ownBlock = some k → k < w.heap.size) (hq : w.heap.size ≤ q) (hq2 : q < W1.heap.size) (hst : NStep W1 w2 g v v') (hn : NetIs w2 B g v' V') :
    NetIs (w2.setCells q 0 C) B g v' V' ∧ NStep w (w2.setCells q 0 C) g v v' := by
  have cz := Who.chg_setCells q C 0 w2
  refine ⟨hn.chg cz (fun e => by omega) (fun k hk e => ?_), (((Chg.of_below hb _).trans hst.1).step cz (fun i hi e => by omega)), fun k hk => (hst.2 k hk).imp id (Nat.le_trans hb.size)⟩
  rcases hst.2 k hk with h | h
  · have := hv k h; omega
  · omega
set_option maxRecDepth 100000 in
set_option maxHeartbeats 4000000 in
theorem does_any (B g : Nat) (v : Value) (V : NetV) (d : DoP) (w : World) (hB : B ≤ w.heap.size) (hf : V.Few) (h : NetIs w B g v V) : Calls Try.prog 15 #[.pointer (some ⟨g, 0, none⟩), .agg (doC d)] w (DoesIs w B g v (doesV V d)) := by
  have hal := alloc_msg
  have HB := Lib.hid (((Below.refl w.heap.size w).alloc (Nat.le_refl _) (.cells (doC d) 38)).alloc (by simp) (.cells (msgC msg0) 36))
  have HD := Lib.hid (show Has ((w.alloc (.cells (doC d) 38)).alloc (.cells (msgC msg0) 36)) w.heap.size 38 (doC d) from (Has.fresh w 38 (doC d)).past _)
  have HR := Lib.hid (show Has ((w.alloc (.cells (doC d) 38)).alloc (.cells (msgC msg0) 36)) (w.heap.size + 1) 36 (msgC msg0) from by have h := Has.fresh (w.alloc (.cells (doC d) 38)) 36 (msgC msg0); rw [World.size_alloc] at h; exact h)
  have HI := Lib.hid (h.below HB.out)
  have HBB := Lib.hid (Nat.le_trans hB HB.out.size)
  have HF := Lib.hid hf
  have HGB := Lib.hid h.head.bound
  have HLT := Lib.hid (fun k (hk : v.ownBlock = some k) => (World.ownsRow.lt h.row k hk).2)
  have HSZ := Lib.hid (show w.heap.size + 1 < ((w.alloc (.cells (doC d) 38)).alloc (.cells (msgC msg0) 36)).heap.size by simp)
  have b0 : (doC d)[0]? = some (.int .i64 d.op) := rfl
  have b1 : (doC d)[1]? = some (.int .i64 d.k) := rfl
  obtain ⟨a, ha⟩ : ∃ a, a = opA d := ⟨_, rfl⟩
  have HA := Lib.hid ha
  have ha2 : bits .and .i64 d.op 7 = a := ha.symm
  clear h hB hf ha
  go_enter Try.func15, Try.ntmps15
  by_cases q4 : a = 4
  · have Q4 := Lib.hid q4
    have e4 : (a == 4) = true := beq_iff_eq.2 q4
    clear q4
    go_wp2_with ((with_reducible refine Who.wpList_alloc 36 4 rfl rfl rfl (msgC msg0) hal ?_); (try simp only [Act.put, List.setIfInBounds_toArray, List.set_cons_zero, List.set_cons_succ]); (try simp only [World.size_alloc]))
    with_reducible refine (peek_any B g v V d.k _ HI.out).mono ?_
    rintro e w2 ⟨rfl, hb⟩
    have hn := HI.out.below hb
    have hst : NStep _ w2 g v v := NStep.same hb
    clear hb
    have HR2 := Lib.hid (show Has w2 (w.heap.size + 1) 36 (msgC msg0) from HR.out.over hst.1 (fun e => by rcases e with e | e; have := HGB.out; omega; have := HLT.out _ e; omega))
    have HQ := Lib.hid (does_fin (q := w.heap.size + 1) (msgC (peekM V d.k).1).toList HB.out HGB.out HLT.out (by omega) HSZ.out hst hn)
    clear hn hst
    go_wp2_with ((with_reducible refine Who.wpList_storeC 36 (.tmp 4) (.tmp 15) rfl (w.heap.size + 1) 0 (msgC (peekM V d.k).1) ?_); refine And.intro ⟨rfl, by rfl, by rfl, info_size _, msgC_one _⟩ (And.intro (Who.has_there HR2.out rfl) ?_); (try simp only [Act.put, List.setIfInBounds_toArray, List.set_cons_zero, List.set_cons_succ]))
    refine bodyPost_ret (v := .tuple #[.agg (msgC (peekM V d.k).1), .int .i64 (peekM V d.k).2]) (Who.results_cell_tmp Try.results15 _ _ (w.heap.size + 1) 0 (msgC (peekM V d.k).1) _ (by rfl) (Who.has_range (Who.has_over HR2.out rfl)) Try.underlying36 rfl (info_size _)) rfl ⟨by rw [does_4 (HA.out.symm.trans Q4.out)], _, by rw [does_4 (HA.out.symm.trans Q4.out)]; exact HQ.out.1, HQ.out.2⟩
  have Q4 := Lib.hid q4
  have e4 : (a == 4) = false := beq_eq_false_iff_ne.2 q4
  clear q4
  by_cases q5 : a = 5
  · have Q5 := Lib.hid q5
    have e5 : (a == 5) = true := beq_iff_eq.2 q5
    clear q5
    go_wp2_with ((with_reducible refine Who.wpList_alloc 36 4 rfl rfl rfl (msgC msg0) hal ?_); (try simp only [Act.put, List.setIfInBounds_toArray, List.set_cons_zero, List.set_cons_succ]); (try simp only [World.size_alloc]))
    with_reducible refine (take_any B g v V d.k _ HBB.out HI.out).mono ?_
    rintro e w2 ⟨rfl, v2, hn, hst⟩
    have HR2 := Lib.hid (show Has w2 (w.heap.size + 1) 36 (msgC msg0) from HR.out.over hst.1 (fun e => by rcases e with e | e; have := HGB.out; omega; have := HLT.out _ e; omega))
    have HQ := Lib.hid (does_fin (q := w.heap.size + 1) (msgC (peekM V d.k).1).toList HB.out HGB.out HLT.out (by omega) HSZ.out hst hn)
    clear hn hst
    go_wp2_with ((with_reducible refine Who.wpList_storeC 36 (.tmp 4) (.tmp 23) rfl (w.heap.size + 1) 0 (msgC (peekM V d.k).1) ?_); refine And.intro ⟨rfl, by rfl, by rfl, info_size _, msgC_one _⟩ (And.intro (Who.has_there HR2.out rfl) ?_); (try simp only [Act.put, List.setIfInBounds_toArray, List.set_cons_zero, List.set_cons_succ]))
    refine bodyPost_ret (v := .tuple #[.agg (msgC (peekM V d.k).1), .int .i64 (peekM V d.k).2]) (Who.results_cell_tmp Try.results15 _ _ (w.heap.size + 1) 0 (msgC (peekM V d.k).1) _ (by rfl) (Who.has_range (Who.has_over HR2.out rfl)) Try.underlying36 rfl (info_size _)) rfl ⟨by rw [does_5 (HA.out.symm.trans Q5.out)], _, by rw [does_5 (HA.out.symm.trans Q5.out)]; exact HQ.out.1, HQ.out.2⟩
  have Q5 := Lib.hid q5
  have e5 : (a == 5) = false := beq_eq_false_iff_ne.2 q5
  clear q5
  by_cases q6 : a = 6
  · have Q6 := Lib.hid q6
    have e6 : (a == 6) = true := beq_iff_eq.2 q6
    clear q6
    go_wp2_with ((with_reducible refine Who.wpList_alloc 36 4 rfl rfl rfl (msgC msg0) hal ?_); (try simp only [Act.put, List.setIfInBounds_toArray, List.set_cons_zero, List.set_cons_succ]); (try simp only [World.size_alloc]))
    with_reducible refine (lose_any B g v V d.k _ HBB.out HF.out HI.out).mono ?_
    rintro e w2 ⟨rfl, v2, hn, hst⟩
    have HR2 := Lib.hid (show Has w2 (w.heap.size + 1) 36 (msgC msg0) from HR.out.over hst.1 (fun e => by rcases e with e | e; have := HGB.out; omega; have := HLT.out _ e; omega))
    have HQ := Lib.hid (does_fin (q := w.heap.size + 1) (msgC msg0).toList HB.out HGB.out HLT.out (by omega) HSZ.out hst hn)
    clear hn hst
    go_wp2_with ((with_reducible refine Who.wpList_storeC 36 (.tmp 4) (.tmp 27) rfl (w.heap.size + 1) 0 (msgC msg0) ?_); refine And.intro ⟨rfl, by rfl, by rfl, info_size _, msgC_one _⟩ (And.intro (Who.has_there HR2.out rfl) ?_); (try simp only [Act.put, List.setIfInBounds_toArray, List.set_cons_zero, List.set_cons_succ]))
    refine bodyPost_ret (v := .tuple #[.agg (msgC msg0), .int .i64 (loseV V d.k).2]) (Who.results_cell_tmp Try.results15 _ _ (w.heap.size + 1) 0 (msgC msg0) _ (by rfl) (Who.has_range (Who.has_over HR2.out rfl)) Try.underlying36 rfl (info_size _)) rfl ⟨by rw [does_6 (HA.out.symm.trans Q6.out)], _, by rw [does_6 (HA.out.symm.trans Q6.out)]; exact HQ.out.1, HQ.out.2⟩
  have Q6 := Lib.hid q6
  have e6 : (a == 6) = false := beq_eq_false_iff_ne.2 q6
  clear q6
  by_cases q7 : a = 7
  · have Q7 := Lib.hid q7
    have e7 : (a == 7) = true := beq_iff_eq.2 q7
    clear q7
    go_wp2_with ((with_reducible refine Who.wpList_alloc 36 4 rfl rfl rfl (msgC msg0) hal ?_); (try simp only [Act.put, List.setIfInBounds_toArray, List.set_cons_zero, List.set_cons_succ]); (try simp only [World.size_alloc]))
    with_reducible refine (double_any B g v V d.k _ HBB.out HI.out).mono ?_
    rintro e w2 ⟨rfl, v2, hn, hst⟩
    have HR2 := Lib.hid (show Has w2 (w.heap.size + 1) 36 (msgC msg0) from HR.out.over hst.1 (fun e => by rcases e with e | e; have := HGB.out; omega; have := HLT.out _ e; omega))
    have HQ := Lib.hid (does_fin (q := w.heap.size + 1) (msgC msg0).toList HB.out HGB.out HLT.out (by omega) HSZ.out hst hn)
    clear hn hst
    go_wp2_with ((with_reducible refine Who.wpList_storeC 36 (.tmp 4) (.tmp 34) rfl (w.heap.size + 1) 0 (msgC msg0) ?_); refine And.intro ⟨rfl, by rfl, by rfl, info_size _, msgC_one _⟩ (And.intro (Who.has_there HR2.out rfl) ?_); (try simp only [Act.put, List.setIfInBounds_toArray, List.set_cons_zero, List.set_cons_succ]))
    refine bodyPost_ret (v := .tuple #[.agg (msgC msg0), .int .i64 (doubleV V d.k).2]) (Who.results_cell_tmp Try.results15 _ _ (w.heap.size + 1) 0 (msgC msg0) _ (by rfl) (Who.has_range (Who.has_over HR2.out rfl)) Try.underlying36 rfl (info_size _)) rfl ⟨by rw [does_7 (HA.out.symm.trans Q7.out)], _, by rw [does_7 (HA.out.symm.trans Q7.out)]; exact HQ.out.1, HQ.out.2⟩
  have Q7 := Lib.hid q7
  have e7 : (a == 7) = false := beq_eq_false_iff_ne.2 q7
  clear q7
  go_wp2_with (first | ((with_reducible refine Who.wpList_alloc 36 4 rfl rfl rfl (msgC msg0) hal ?_); (try simp only [Act.put, List.setIfInBounds_toArray, List.set_cons_zero, List.set_cons_succ]); (try simp only [World.size_alloc])) | ((with_reducible refine Who.wpList_loadC 36 (.tmp 41) rfl w.heap.size 2 (msgC d.m) ?_); refine And.intro ⟨by rfl, by rfl, ⟨_, Try.underlying36, rfl⟩, info_size _⟩ (And.intro (do_range HD.out) ?_); (try simp only [Act.put, List.setIfInBounds_toArray, List.set_cons_zero, List.set_cons_succ])))
  with_reducible refine (send_any B g v V d.m _ HBB.out HF.out HI.out).mono ?_
  rintro e w2 ⟨rfl, v2, hn, hst⟩
  have HR2 := Lib.hid (show Has w2 (w.heap.size + 1) 36 (msgC msg0) from HR.out.over hst.1 (fun e => by rcases e with e | e; have := HGB.out; omega; have := HLT.out _ e; omega))
  have HQ := Lib.hid (does_fin (q := w.heap.size + 1) (msgC msg0).toList HB.out HGB.out HLT.out (by omega) HSZ.out hst hn)
  clear hn hst
  go_wp2_with ((with_reducible refine Who.wpList_storeC 36 (.tmp 4) (.tmp 39) rfl (w.heap.size + 1) 0 (msgC msg0) ?_); refine And.intro ⟨rfl, by rfl, by rfl, info_size _, msgC_one _⟩ (And.intro (Who.has_there HR2.out rfl) ?_); (try simp only [Act.put, List.setIfInBounds_toArray, List.set_cons_zero, List.set_cons_succ]))
  refine bodyPost_ret (v := .tuple #[.agg (msgC msg0), .int .i64 (sendV V d.m).2]) (Who.results_cell_tmp Try.results15 _ _ (w.heap.size + 1) 0 (msgC msg0) _ (by rfl) (Who.has_range (Who.has_over HR2.out rfl)) Try.underlying36 rfl (info_size _)) rfl ⟨by rw [does_0 (fun e => Q4.out (HA.out.trans e)) (fun e => Q5.out (HA.out.trans e)) (fun e => Q6.out (HA.out.trans e)) (fun e => Q7.out (HA.out.trans e))], _, by rw [does_0 (fun e => Q4.out (HA.out.trans e)) (fun e => Q5.out (HA.out.trans e)) (fun e => Q6.out (HA.out.trans e)) (fun e => Q7.out (HA.out.trans e))]; exact HQ.out.1, HQ.out.2⟩
end Go.Proofs.Ytjbbifmjhagfiaa.Nt
