/- The law NetAll walked. -/
import Derived.Test.YtdjdaljhdjcjlabNtP
namespace Go.Proofs.Ytdjdaljhdjcjlab.Nt
open Go.RowKit Go.Proofs.Ytdjdaljhdjcjlab.Mem Go.Proofs.Ytdjdaljhdjcjlab.Vc
set_option linter.unusedVariables false

def do0 : DoP := ⟨0, 0, msg0⟩
theorem alloc_do (w : World) : (Instr.alloc 35 true (.tuple #[])).run Try.prog w = .ok (.pointer (some ⟨w.heap.size, 0, none⟩)) (w.alloc (.cells (doC do0) 35)) := by
  have hz := Try.zeroValue35
  go_simp
  rfl
def acct (V : NetV) : Int := (V.way.length : Int) - V.sent + V.lost
theorem acct_take {V : NetV} {k : Int} (h : (peekM V k).2 = 0) : acct (takeV V k) = acct V - 1 ∧ (takeV V k).sent = V.sent ∧ (takeV V k).lost = V.lost := by
  obtain ⟨j, rfl, hj⟩ := peek_ok h
  have hl : j < V.way.length := (List.getElem?_eq_some_iff.1 hj).1
  rw [take_yes h]
  refine ⟨?_, rfl, rfl⟩
  unfold acct
  simp only [Int.toNat_natCast]
  rw [List.length_eraseIdx, if_pos hl]
  omega
/-- What a thing does to the counts. -/
theorem acct_does (V : NetV) (d : DoP) (h : V.Few) : acct (doesV V d).1 = acct V + (if opA d = 7 ∧ (doesV V d).2.2 = 0 then 1 else 0) - (if opA d = 5 ∧ (doesV V d).2.2 = 0 then 1 else 0)
    ∧ V.sent ≤ (doesV V d).1.sent ∧ (doesV V d).1.sent ≤ V.sent + 1 ∧ V.lost ≤ (doesV V d).1.lost ∧ (doesV V d).1.lost ≤ V.lost + 1 := by
  by_cases h4 : opA d = 4
  · rw [does_4 h4, if_neg (by omega), if_neg (by omega)]
    simp
    omega
  by_cases h5 : opA d = 5
  · rw [does_5 h5]
    by_cases q : (peekM V d.k).2 = 0
    · obtain ⟨a, b, c⟩ := acct_take q
      dsimp only
      rw [if_neg (by omega), if_pos ⟨h5, q⟩, a, b, c]
      omega
    · dsimp only
      rw [if_neg (by omega), if_neg (fun x => q x.2), take_no q]
      omega
  by_cases h6 : opA d = 6
  · rw [does_6 h6]
    dsimp only
    rw [if_neg (by omega), if_neg (by omega)]
    by_cases q : (peekM V d.k).2 = 0
    · obtain ⟨a, b, c⟩ := acct_take q
      rw [lose_yes q]
      unfold acct at a ⊢
      dsimp only at a ⊢
      omega
    · rw [lose_no q]
      dsimp only
      omega
  by_cases h7 : opA d = 7
  · rw [does_7 h7]
    dsimp only
    rw [if_neg (c := opA d = 5 ∧ _) (by omega)]
    by_cases q : (peekM V d.k).2 = 0
    · rw [double_yes q]
      by_cases q2 : 160 ≤ V.way.length
      · rw [put_full q2, if_neg (by simp)]
        dsimp only
        omega
      · rw [put_room q2, if_pos ⟨h7, rfl⟩]
        unfold acct
        simp
        omega
    · rw [double_no q]
      dsimp only
      rw [if_neg (fun x => q x.2)]
      omega
  · rw [does_0 h4 h5 h6 h7]
    dsimp only
    rw [if_neg (fun x => h7 x.1), if_neg (fun x => h5 x.1)]
    by_cases q : OkM d.m
    · by_cases q2 : 160 ≤ V.way.length
      · rw [send_full q q2]
        unfold acct
        dsimp only
        omega
      · rw [send_room q q2]
        unfold acct
        simp
        omega
    · rw [send_bad q]
      dsimp only
      omega
/-- What is so ahead of each thing. -/
structure AllI (W wr : World) (g : Nat) (v : Value) (V : NetV) (j : Nat) (ta tw : Int) : Prop where
  below : Below W.heap.size W wr
  net : NetIs wr W.heap.size g v V
  sum : acct V = tw - ta
  nums : 0 ≤ ta ∧ ta ≤ j ∧ 0 ≤ tw ∧ tw ≤ j ∧ 0 ≤ V.sent ∧ V.sent ≤ j ∧ 0 ≤ V.lost ∧ V.lost ≤ j
theorem AllI.few {W wr : World} {g : Nat} {v : Value} {V : NetV} {j : Nat} {ta tw : Int} (h : AllI W wr g v V j ta tw) (hj : j ≤ 300) : V.Few := by
  obtain ⟨_, _, _, _, a, b, c, d⟩ := h.nums
  exact ⟨a, by omega, c, by omega⟩
set_option maxRecDepth 100000 in
set_option maxHeartbeats 8000000 in
theorem all_walk (W : World) (A : Option Addr) (n c : Nat) (ds : List DoP) (hr : DRow W A n ds) (hn : n ≤ maxLen) : Calls Try.prog 4 #[.slice A n c] W fun e w' => e = .returned (.bool true) ∧ Below W.heap.size W w' := by
  have hal := alloc_msg
  have hald := alloc_do
  have HR := Lib.hid hr
  have HSH := Lib.hid (short_any A n c ds W hr hn)
  have HAW := Lib.hid (fun w => awake_any w)
  have HNEW := Lib.hid (fun w => new_any w)
  have HLN := Lib.hid hr.len
  have HML := Lib.hid hn
  clear hr hn
  go_enter Try.func4, Try.ntmps4
  go_wp2_with fail
  with_reducible refine HSH.out.mono ?_
  rintro e w0 ⟨b, rfl, hb3, rfl⟩
  cases b with
  | false =>
    clear hb3
    go_wp2_with fail
    with_reducible refine (HAW.out _).mono ?_
    rintro e w1 ⟨rfl, hb⟩
    have HB := Lib.hid hb
    clear hb
    go_wp2
    go_ret
    exact ⟨rfl, HB.out⟩
  | true =>
    have H300 := Lib.hid (hb3 rfl)
    clear hb3
    go_wp2_with fail
    with_reducible refine (HNEW.out _).mono ?_
    rintro e w1 ⟨rfl, hnn, hb, hs⟩
    obtain ⟨g, hg⟩ : ∃ g, g = W.heap.size := ⟨_, rfl⟩
    have HI0 := Lib.hid (show AllI W w1 g (.slice none 0 0) ⟨[], 0, 0⟩ 0 0 0 from ⟨hb, hg ▸ hnn, rfl, by decide⟩)
    rw [← hg]
    clear hnn hb hs hg
    go_wp2
    go_loopw [4, 5, 20] (fun a b i wr => ∃ j : Nat, ∃ ta tw : Int, ∃ v : Value, ∃ V : NetV, j ≤ n ∧ i = .int .i64 j ∧ a = .int .i64 ta ∧ b = .int .i64 tw ∧ Hid (AllI W wr g v V j ta tw)) (fun _ _ i _ => n - (intOf i).toNat)
    case atStart => exact ⟨0, 0, 0, _, _, by omega, rfl, rfl, rfl, HI0⟩
    case round =>
      obtain ⟨j, ta, tw, v, V, hj, rfl, rfl, rfl, HI⟩ := hrel
      have hn3 : n ≤ 300 := by have := H300.out; rw [HLN.out] at this; exact this
      by_cases hlt : j < n
      · have HLT := Lib.hid (show j + 1 ≤ n from hlt)
        obtain ⟨d, hd⟩ : ∃ d, ds[j]? = some d := ⟨_, List.getElem?_eq_getElem (by rw [HLN.out]; exact hlt)⟩
        obtain ⟨b, off, rfl, hb, hrg, hsz⟩ := (HR.out.below HI.out.below).cells j d hd
        have HRG := Lib.hid hrg
        have HNU := Lib.hid HI.out.nums
        have HS := Lib.hid HI.out.sum
        have HFEW := Lib.hid (HI.out.few (by omega))
        have HAC := Lib.hid (acct_does V d HFEW.out)
        have hba := (Below.refl wr.heap.size wr).alloc (Nat.le_refl _) (.cells (doC d) 35)
        have HN1 := Lib.hid (HI.out.net.below hba)
        have HB1 := Lib.hid (HI.out.below.trans (hba.mono HI.out.below.size))
        have HX := Lib.hid (Has.fresh wr 35 (doC d))
        have HGB := Lib.hid HI.out.net.head.bound
        have HL := Lib.hid HI.out.net.lt
        obtain ⟨t1, t2, t3, t4, _⟩ := HNU.out
        have hlti : (j : Int) < n := by omega
        have hn3i : (n : Int) ≤ 300 := by omega
        clear hrg hd hsz hba
        go_wp2_with (first | ((with_reducible refine Who.wpList_loadC 35 (.tmp 22) rfl b (off + j * 21) (doC d) ?_); refine And.intro ⟨by rfl, by rfl, ⟨_, Try.underlying35, rfl⟩, info_do⟩ (And.intro HRG.out ?_); (try simp only [Act.put, List.setIfInBounds_toArray, List.set_cons_zero, List.set_cons_succ])) | ((with_reducible refine Who.wpList_newC 35 7 (.tmp 23) rfl rfl rfl (doC do0) (doC d) ?_); refine And.intro ⟨rfl, rfl, rfl, hald, by rfl, by rfl, info_do, rfl, doC_one _⟩ ?_; (try simp only [Act.put, List.setIfInBounds_toArray, List.set_cons_zero, List.set_cons_succ])) | ((with_reducible refine Who.wpList_loadC 35 (.tmp 7) rfl wr.heap.size 0 (doC d) ?_); refine And.intro ⟨by rfl, by rfl, ⟨_, Try.underlying35, rfl⟩, info_do⟩ (And.intro (Who.has_range HX.out) ?_); (try simp only [Act.put, List.setIfInBounds_toArray, List.set_cons_zero, List.set_cons_succ])))
        refine (does_any W.heap.size g v V d _ HB1.out.size HFEW.out HN1.out).mono ?_
        rintro e w2 ⟨rfl, v2, hnn, hst⟩
        have HX2 := Lib.hid (HX.out.over hst.1 (fun e => by
          rcases e with e | e
          · have := HGB.out; omega
          · have := (HL.out _ e).2; omega))
        have HB2 := Lib.hid (NStep.below HB1.out HN1.out hst)
        obtain ⟨E, hE⟩ : ∃ E, E = (doesV V d).2.2 := ⟨_, rfl⟩
        obtain ⟨m, hm⟩ : ∃ m, m = (doesV V d).2.1 := ⟨_, rfl⟩
        rw [← hE, ← hm]
        have HE := Lib.hid hE
        have hba := (Below.refl w2.heap.size w2).alloc (Nat.le_refl _) (.cells (msgC m) 33)
        have HNX := Lib.hid (hnn.below hba)
        have HBX := Lib.hid (HB2.out.trans (hba.mono HB2.out.size))
        have c0 : (w2.alloc (.cells (msgC m) 33)).cell? ⟨wr.heap.size, 0, none⟩ = some (.int .i64 d.op) := (HX2.out.past _).at_ 0
        obtain ⟨a, ha⟩ : ∃ a, a = opA d := ⟨_, rfl⟩
        have HA := Lib.hid ha
        have ha2 : bits .and .i64 d.op 7 = a := ha.symm
        have hnew := HX2.out.bound
        clear hE hm hnn hst hba ha
        by_cases a5 : a = 5
        · have A5 := Lib.hid (HA.out.symm.trans a5)
          have e5 : (a == 5) = true := beq_iff_eq.2 a5
          have e7 : (a == 7) = false := beq_eq_false_iff_ne.2 (by omega)
          clear a5
          by_cases q : E = 0
          · have Q := Lib.hid (HE.out.symm.trans q)
            have q2 : (E == 0) = true := beq_iff_eq.2 q
            clear q
            go_wp2_with (((with_reducible refine Who.wpList_newC 33 8 (.tmp 28) rfl rfl rfl (msgC msg0) (msgC m) ?_); refine And.intro ⟨rfl, rfl, rfl, hal, by rfl, by rfl, info_size _, rfl, msgC_one _⟩ ?_; (try simp only [Act.put, List.setIfInBounds_toArray, List.set_cons_zero, List.set_cons_succ])))
            go_roundw
            case rel => exact ⟨j + 1, ta + 1, tw, v2, (doesV V d).1, HLT.out, by go_num, rfl, rfl, Lib.hid ⟨HBX.out, HNX.out, by have h := HAC.out.1; rw [if_neg (by have := A5.out; omega), if_pos ⟨A5.out, Q.out⟩] at h; have h2 := HS.out; omega, by have h := HAC.out; have h2 := HNU.out; omega⟩⟩
            case measure => have := HLT.out; simp [intOf]; omega
          · have Q := Lib.hid (fun e => q (HE.out.trans e))
            have q2 : (E == 0) = false := beq_eq_false_iff_ne.2 q
            clear q
            go_wp2_with (((with_reducible refine Who.wpList_newC 33 8 (.tmp 28) rfl rfl rfl (msgC msg0) (msgC m) ?_); refine And.intro ⟨rfl, rfl, rfl, hal, by rfl, by rfl, info_size _, rfl, msgC_one _⟩ ?_; (try simp only [Act.put, List.setIfInBounds_toArray, List.set_cons_zero, List.set_cons_succ])))
            go_roundw
            case rel => exact ⟨j + 1, ta, tw, v2, (doesV V d).1, HLT.out, by go_num, rfl, rfl, Lib.hid ⟨HBX.out, HNX.out, by have h := HAC.out.1; rw [if_neg (by have := A5.out; omega), if_neg (fun x => Q.out x.2)] at h; have h2 := HS.out; omega, by have h := HAC.out; have h2 := HNU.out; omega⟩⟩
            case measure => have := HLT.out; simp [intOf]; omega
        · have A5 := Lib.hid (fun e => a5 (HA.out.trans e))
          have e5 : (a == 5) = false := beq_eq_false_iff_ne.2 a5
          clear a5
          by_cases a7 : a = 7
          · have A7 := Lib.hid (HA.out.symm.trans a7)
            have e7 : (a == 7) = true := beq_iff_eq.2 a7
            clear a7
            by_cases q : E = 0
            · have Q := Lib.hid (HE.out.symm.trans q)
              have q2 : (E == 0) = true := beq_iff_eq.2 q
              clear q
              go_wp2_with (((with_reducible refine Who.wpList_newC 33 8 (.tmp 28) rfl rfl rfl (msgC msg0) (msgC m) ?_); refine And.intro ⟨rfl, rfl, rfl, hal, by rfl, by rfl, info_size _, rfl, msgC_one _⟩ ?_; (try simp only [Act.put, List.setIfInBounds_toArray, List.set_cons_zero, List.set_cons_succ])))
              go_roundw
              case rel => exact ⟨j + 1, ta, tw + 1, v2, (doesV V d).1, HLT.out, by go_num, rfl, rfl, Lib.hid ⟨HBX.out, HNX.out, by have h := HAC.out.1; rw [if_pos ⟨A7.out, Q.out⟩, if_neg (fun x => A5.out x.1)] at h; have h2 := HS.out; omega, by have h := HAC.out; have h2 := HNU.out; omega⟩⟩
              case measure => have := HLT.out; simp [intOf]; omega
            · have Q := Lib.hid (fun e => q (HE.out.trans e))
              have q2 : (E == 0) = false := beq_eq_false_iff_ne.2 q
              clear q
              go_wp2_with (((with_reducible refine Who.wpList_newC 33 8 (.tmp 28) rfl rfl rfl (msgC msg0) (msgC m) ?_); refine And.intro ⟨rfl, rfl, rfl, hal, by rfl, by rfl, info_size _, rfl, msgC_one _⟩ ?_; (try simp only [Act.put, List.setIfInBounds_toArray, List.set_cons_zero, List.set_cons_succ])))
              go_roundw
              case rel => exact ⟨j + 1, ta, tw, v2, (doesV V d).1, HLT.out, by go_num, rfl, rfl, Lib.hid ⟨HBX.out, HNX.out, by have h := HAC.out.1; rw [if_neg (fun x => Q.out x.2), if_neg (fun x => A5.out x.1)] at h; have h2 := HS.out; omega, by have h := HAC.out; have h2 := HNU.out; omega⟩⟩
              case measure => have := HLT.out; simp [intOf]; omega
          · have A7 := Lib.hid (fun e => a7 (HA.out.trans e))
            have e7 : (a == 7) = false := beq_eq_false_iff_ne.2 a7
            clear a7
            go_wp2_with (((with_reducible refine Who.wpList_newC 33 8 (.tmp 28) rfl rfl rfl (msgC msg0) (msgC m) ?_); refine And.intro ⟨rfl, rfl, rfl, hal, by rfl, by rfl, info_size _, rfl, msgC_one _⟩ ?_; (try simp only [Act.put, List.setIfInBounds_toArray, List.set_cons_zero, List.set_cons_succ])))
            go_roundw
            case rel => exact ⟨j + 1, ta, tw, v2, (doesV V d).1, HLT.out, by go_num, rfl, rfl, Lib.hid ⟨HBX.out, HNX.out, by have h := HAC.out.1; rw [if_neg (fun x => A7.out x.1), if_neg (fun x => A5.out x.1)] at h; have h2 := HS.out; omega, by have h := HAC.out; have h2 := HNU.out; omega⟩⟩
            case measure => have := HLT.out; simp [intOf]; omega
      · have hlti : ¬ (j : Int) < n := by omega
        have HC := Lib.hid (count_any W.heap.size g v V wr HI.out.net)
        have HSM := Lib.hid HI.out.sum
        obtain ⟨t1, t2, t3, t4, t5, t6, t7, t8⟩ := HI.out.nums
        have hn3i : (j : Int) ≤ 300 := by omega
        have hfew : (V.way.length : Int) ≤ 160 := by have := HI.out.net.few; omega
        have e1 : ((V.way.length : Int) == V.sent + tw - ta - V.lost) = true := beq_iff_eq.2 (by have := HSM.out; unfold acct at this; omega)
        go_wp2_with fail
        with_reducible refine HC.out.mono ?_
        rintro e w2 ⟨rfl, nd, rfl⟩
        have HB2 : Hid (Below W.heap.size W (wr.drewN nd)) := ⟨HI.out.below.os, HI.out.below.tape, HI.out.below.output, HI.out.below.size, HI.out.below.block⟩
        go_wp2_with fail
        with_reducible refine (HAW.out _).mono ?_
        rintro e w3 ⟨rfl, hb⟩
        have HB3 := Lib.hid (HB2.out.trans (hb.mono HB2.out.size))
        clear hb
        go_wp2
        go_ret
        exact ⟨rfl, HB3.out⟩
end Go.Proofs.Ytdjdaljhdjcjlab.Nt
