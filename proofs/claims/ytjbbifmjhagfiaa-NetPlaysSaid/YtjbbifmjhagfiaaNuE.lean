/- The law NetPlays walked. -/
import Derived.Test.YtjbbifmjhagfiaaNuD
namespace Go.Proofs.Ytjbbifmjhagfiaa.Nt
open Go.RowKit Go.Proofs.Ytjbbifmjhagfiaa.Mem Go.Proofs.Ytjbbifmjhagfiaa.Vc
set_option linter.unusedVariables false

def do0 : DoP := ⟨0, 0, msg0⟩
theorem alloc_do (w : World) : (Instr.alloc 38 true (.tuple #[])).run Try.prog w = .ok (.pointer (some ⟨w.heap.size, 0, none⟩)) (w.alloc (.cells (doC do0) 38)) := by
  have hz := Try.zeroValue38
  go_simp
  rfl
def acct (V : NetV) : Int := (V.way.length : Int) - V.sent + V.lost
theorem acct_take {V : NetV} {k : Int} (h : (peekM V k).2 = 0) : acct (takeV V k) = acct V - 1 ∧ (takeV V k).sent = V.sent ∧ (takeV V k).lost = V.lost := by
  obtain ⟨j, rfl, hj⟩ := peek_ok h
  have hl : j < V.way.length := (List.getElem?_eq_some_iff.1 hj).1
  rw [take_yes h]
  refine ⟨?_, rfl, rfl⟩
  unfold acct
  simp only [Int.toNat_natCast]
  rw [List.length_eraseIdx, if_pos hl]
  omega
/-- What a thing does to the counts. -/
theorem acct_does (V : NetV) (d : DoP) (h : V.Few) : acct (doesV V d).1 = acct V + (if opA d = 7 ∧ (doesV V d).2.2 = 0 then 1 else 0) - (if opA d = 5 ∧ (doesV V d).2.2 = 0 then 1 else 0)
    ∧ V.sent ≤ (doesV V d).1.sent ∧ (doesV V d).1.sent ≤ V.sent + 1 ∧ V.lost ≤ (doesV V d).1.lost ∧ (doesV V d).1.lost ≤ V.lost + 1 := by
  by_cases h4 : opA d = 4
  · rw [does_4 h4, if_neg (by omega), if_neg (by omega)]
    simp
    omega
  by_cases h5 : opA d = 5
  · rw [does_5 h5]
    by_cases q : (peekM V d.k).2 = 0
    · obtain ⟨a, b, c⟩ := acct_take q
      dsimp only
      rw [if_neg (by omega), if_pos ⟨h5, q⟩, a, b, c]
      omega
    · dsimp only
      rw [if_neg (by omega), if_neg (fun x => q x.2), take_no q]
      omega
  by_cases h6 : opA d = 6
  · rw [does_6 h6]
    dsimp only
    rw [if_neg (by omega), if_neg (by omega)]
    by_cases q : (peekM V d.k).2 = 0
    · obtain ⟨a, b, c⟩ := acct_take q
      rw [lose_yes q]
      unfold acct at a ⊢
      dsimp only at a ⊢
      omega
    · rw [lose_no q]
      dsimp only
      omega
  by_cases h7 : opA d = 7
  · rw [does_7 h7]
    dsimp only
    rw [if_neg (c := opA d = 5 ∧ _) (by omega)]
    by_cases q : (peekM V d.k).2 = 0
    · rw [double_yes q]
      by_cases q2 : 160 ≤ V.way.length
      · rw [put_full q2, if_neg (by simp)]
        dsimp only
        omega
      · rw [put_room q2, if_pos ⟨h7, rfl⟩]
        unfold acct
        simp
        omega
    · rw [double_no q]
      dsimp only
      rw [if_neg (fun x => q x.2)]
      omega
  · rw [does_0 h4 h5 h6 h7]
    dsimp only
    rw [if_neg (fun x => h7 x.1), if_neg (fun x => h5 x.1)]
    by_cases q : OkM d.m
    · by_cases q2 : 160 ≤ V.way.length
      · rw [send_full q q2]
        unfold acct
        dsimp only
        omega
      · rw [send_room q q2]
        unfold acct
        simp
        omega
    · rw [send_bad q]
      dsimp only
      omega

theorem Has_ne {w : World} {a b : Nat} {t u : TypeId} {xs ys : Array Value} (h : Has w a t xs) (k : Has w b u ys) (hne : t ≠ u) : a ≠ b := by
  rintro rfl
  unfold Has at h k
  rw [h] at k
  injection k with k
  injection k with _ k2
  exact hne k2
theorem count_bel (B g : Nat) (v : Value) (V : NetV) (w : World) (h : NetIs w B g v V) : Calls Try.prog 14 #[.pointer (some ⟨g, 0, none⟩)] w fun e w' => e = .returned (.tuple #[.int .i64 (V.way.length : Int), .int .i64 V.sent, .int .i64 V.lost]) ∧ Below w.heap.size w w' := by
  refine (count_any B g v V w h).mono ?_
  rintro e w' ⟨rfl, n, rfl⟩
  exact ⟨rfl, rfl, rfl, rfl, Nat.le_refl _, fun _ _ => rfl⟩
/-- What is so ahead of each thing. -/
structure PlayI (W wr : World) (g : Nat) (v : Value) (gx : Nat) (u : Value) (V : NetV) (j : Nat) : Prop where
  below : Below W.heap.size W wr
  net : NetIs wr W.heap.size g v V
  ref : RNetIs wr W.heap.size gx u V
  apart : ∀ k, u.ownBlock = some k → v.ownBlock ≠ some k
  nums : 0 ≤ V.sent ∧ V.sent ≤ j ∧ 0 ≤ V.lost ∧ V.lost ≤ j
theorem PlayI.few {W wr : World} {g gx : Nat} {v u : Value} {V : NetV} {j : Nat} (h : PlayI W wr g v gx u V j) (hj : j ≤ 300) : V.Few := by
  obtain ⟨a, b, c, d⟩ := h.nums
  exact ⟨a, by omega, c, by omega⟩
theorem PlayI.chg {W wr w' : World} {g gx : Nat} {v u : Value} {V : NetV} {j : Nat} (h : PlayI W wr g v gx u V j) (hb : Below wr.heap.size wr w') : PlayI W w' g v gx u V j :=
  ⟨h.below.trans (hb.mono h.below.size), h.net.below hb, h.ref.below hb, h.apart, h.nums⟩
theorem own_low {w : World} {B : Nat} {v : Value} {ms : List MsgP} (h : MOwn w B v ms) : ∀ k, v.ownBlock = some k → B ≤ k ∧ k < w.heap.size := fun k hk => World.ownsRow.lt h k hk
/-- The program's net has done a thing. -/
theorem PlayI.does {W w w2 : World} {g gx : Nat} {v v2 u : Value} {V V2 : NetV} {j : Nat} (h : PlayI W w g v gx u V j) (hn : NetIs w2 W.heap.size g v2 V2) (hst : NStep w w2 g v v2) :
    Below W.heap.size W w2 ∧ RNetIs w2 W.heap.size gx u V ∧ ∀ k, u.ownBlock = some k → v2.ownBlock ≠ some k := by
  have hgx : gx ≠ g := Has_ne h.ref.head h.net.head (by decide)
  have hug : u.ownBlock ≠ some g := h.ref.row.apart h.net.head (by decide)
  have hvx : v.ownBlock ≠ some gx := h.net.row.apart h.ref.head (by decide)
  refine ⟨NStep.below h.below h.net hst, h.ref.chg hst.1 (fun e => ?_) (fun k hk e => ?_), fun k hk e => ?_⟩
  · rcases e with e | e
    · exact hgx e
    · exact hvx e
  · rcases e with e | e
    · exact hug (by rw [hk, e])
    · exact h.apart k hk e
  · rcases hst.2 k e with e2 | e2
    · exact h.apart k hk e2
    · have := (own_low h.ref.row k hk).2
      omega
/-- The document's net has done it, too. -/
theorem PlayI.also {W w w2 : World} {g gx : Nat} {v u u2 : Value} {V V2 : NetV} {j : Nat} (hb : Below W.heap.size W w) (hn : NetIs w W.heap.size g v V2) (hr : RNetIs w W.heap.size gx u V) (hap : ∀ k, u.ownBlock = some k → v.ownBlock ≠ some k)
    (hr2 : RNetIs w2 W.heap.size gx u2 V2) (hst : NStep w w2 gx u u2) (hnum : 0 ≤ V2.sent ∧ V2.sent ≤ j ∧ 0 ≤ V2.lost ∧ V2.lost ≤ j) : PlayI W w2 g v gx u2 V2 j := by
  have hgx : g ≠ gx := Has_ne hn.head hr.head (by decide)
  have hug : v.ownBlock ≠ some gx := hn.row.apart hr.head (by decide)
  have hvx : u.ownBlock ≠ some g := hr.row.apart hn.head (by decide)
  refine ⟨hb.trans (hst.1.below hb.size (fun k hk hs => ?_)), hn.chg hst.1 (fun e => ?_) (fun k hk e => ?_), hr2, fun k hk e => ?_, hnum⟩
  · rcases hs with e | e
    · have := hr.lo; omega
    · have := (own_low hr.row k e).1; omega
  · rcases e with e | e
    · exact hgx e
    · exact hvx e
  · rcases e with e | e
    · exact hug (by rw [hk, e])
    · exact hap k e hk
  · rcases hst.2 k hk with e2 | e2
    · exact hap k e2 e
    · have := (own_low hn.row k e).2
      omega
/-- A clone is as it was behind a step of what it was made of. -/
theorem clone_stay {w w3 : World} {g q Bc : Nat} {v v2 vc : Value} {V : NetV} (h : NetIs w Bc q vc V) (hg : g < Bc) (hv : ∀ k, v.ownBlock = some k → k < Bc) (hst : NStep w w3 g v v2) : NetIs w3 Bc q vc V := by
  refine h.chg hst.1 (fun e => ?_) (fun k hk e => ?_)
  · rcases e with e | e
    · have := h.lo; omega
    · have := hv _ e; have := h.lo; omega
  · have hl := (own_low h.row k hk).1
    rcases e with e | e
    · omega
    · have := hv _ e; omega
theorem step_over {w w2 : World} {g q : Nat} {v v2 : Value} {t : TypeId} {cs : Array Value} (h : Has w q t cs) (hg : g < q) (hv : ∀ k, v.ownBlock = some k → k < q) (hst : NStep w w2 g v v2) : Has w2 q t cs := h.over hst.1 (fun e => by
  rcases e with e | e
  · omega
  · have := hv _ e; omega)
set_option maxRecDepth 100000 in
set_option maxHeartbeats 8000000 in
theorem plays_walk (W : World) (A : Option Addr) (n c : Nat) (ds : List DoP) (hr : DRow W A n ds) (hn : n ≤ maxLen) : Calls Try.prog 3 #[.slice A n c] W fun e w' => e = .returned (.bool true) ∧ Below W.heap.size W w' := by
  have hal := alloc_msg
  have hald := alloc_do
  have HR := Lib.hid hr
  have HSH := Lib.hid (short_any A n c ds W hr hn)
  have HAW := Lib.hid (fun w => awake_any w)
  have HNEW := Lib.hid (fun w => new_any w)
  have HLN := Lib.hid hr.len
  have HML := Lib.hid hn
  clear hr hn
  go_enter Try.func3, Try.ntmps3
  go_wp2_with fail
  with_reducible refine HSH.out.mono ?_
  rintro e w0 ⟨b, rfl, hb3, rfl⟩
  cases b with
  | false =>
    clear hb3
    go_wp2_with fail
    with_reducible refine (HAW.out _).mono ?_
    rintro e w1 ⟨rfl, hb⟩
    have HB := Lib.hid hb
    clear hb
    go_wp2
    go_ret
    exact ⟨rfl, HB.out⟩
  | true =>
    have H300 := Lib.hid (hb3 rfl)
    clear hb3
    go_wp2_with fail
    with_reducible refine (HNEW.out _).mono ?_
    rintro e w1 ⟨rfl, hnn, hb, hs⟩
    obtain ⟨g, hg⟩ : ∃ g, g = W.heap.size := ⟨_, rfl⟩
    obtain ⟨gx, hgx⟩ : ∃ gx, gx = w1.heap.size := ⟨_, rfl⟩
    have hba := (Below.refl w1.heap.size w1).alloc (Nat.le_refl _) (.cells #[.slice none 0 0, .int .i64 0, .int .i64 0] 30)
    have HI0 := Lib.hid (show PlayI W (w1.alloc (.cells #[.slice none 0 0, .int .i64 0, .int .i64 0] 30)) g (.slice none 0 0) gx (.slice none 0 0) ⟨[], 0, 0⟩ 0 from
      ⟨hb.trans (hba.mono hb.size), by rw [hg]; exact hnn.below hba, ⟨hgx ▸ Has.fresh w1 30 _, by rw [hgx]; exact hb.size, MOwn.nil _ _, by simp⟩, fun k hk => by simp [Value.ownBlock] at hk, by decide⟩)
    rw [← hg]
    clear hnn hb hs hg hba
    go_wp2
    try rw [← hgx]
    clear hgx
    go_loopw [33] (fun i wr => ∃ j : Nat, ∃ v : Value, ∃ u : Value, ∃ V : NetV, j ≤ n ∧ i = .int .i64 j ∧ Hid (PlayI W wr g v gx u V j)) (fun i _ => n - (intOf i).toNat)
    case atStart => exact ⟨0, _, _, _, by omega, rfl, HI0⟩
    case round =>
      obtain ⟨j, v, u, V, hj, rfl, HI⟩ := hrel
      have hn3 : n ≤ 300 := by have := H300.out; rw [HLN.out] at this; exact this
      by_cases hlt : j < n
      · have HLT := Lib.hid (show j + 1 ≤ n from hlt)
        obtain ⟨d, hd⟩ : ∃ d, ds[j]? = some d := ⟨_, List.getElem?_eq_getElem (by rw [HLN.out]; exact hlt)⟩
        obtain ⟨b, off, rfl, hb, hrg, hsz⟩ := (HR.out.below HI.out.below).cells j d hd
        have HRG := Lib.hid hrg
        have HFEW := Lib.hid (HI.out.few (by omega))
        have HAC := Lib.hid (acct_does V d HFEW.out)
        have HNN := Lib.hid (Has.fresh wr 38 (doC do0))
        have HBN := Lib.hid ((Below.refl wr.heap.size wr).alloc (Nat.le_refl _) (.cells (doC do0) 38))
        have HCL := Lib.hid (fun W1 (hb : Below wr.heap.size wr W1) => clone_any W.heap.size g v V W1 (HI.out.net.below hb))
        have hlti : (j : Int) < n := by omega
        have hn3i : (n : Int) ≤ 300 := by omega
        clear hrg hd hsz
        go_wp2_with (first | ((with_reducible refine Who.wpList_loadC 38 (.tmp 36) rfl b (off + j * 21) (doC d) ?_); refine And.intro ⟨by rfl, by rfl, ⟨_, Try.underlying38, rfl⟩, info_do⟩ (And.intro HRG.out ?_); (try simp only [Act.put, List.setIfInBounds_toArray, List.set_cons_zero, List.set_cons_succ])) | ((with_reducible refine Who.wpList_alloc 38 6 rfl rfl rfl (doC do0) hald ?_); (try simp only [Act.put, List.setIfInBounds_toArray, List.set_cons_zero, List.set_cons_succ]); (try simp only [World.size_alloc])) | ((with_reducible refine wpList_storeN 38 (.tmp 6) (.tmp 37) rfl wr.heap.size (doC do0) (doC d) wr ?_); refine And.intro ⟨rfl, by rfl, by rfl, info_do, doC_one _, rfl, HNN.out, HBN.out, Nat.le_refl _⟩ ?_; intro W1 HX HB1; (try simp only [Act.put, List.setIfInBounds_toArray, List.set_cons_zero, List.set_cons_succ])))
        with_reducible refine (HCL.out _ HB1.out).mono ?_
        rintro e w2 ⟨vc, rfl, hcl, hbc⟩
        obtain ⟨cg, hcg⟩ : ∃ cg, cg = W1.heap.size := ⟨_, rfl⟩
        rw [← hcg] at hcl ⊢
        have HI2 := Lib.hid ((HI.out.chg HB1.out).chg hbc)
        have HX2 := Lib.hid (HX.out.below hbc)
        have HC2 := Lib.hid hcl
        have HCB := Lib.hid (fun k (hk : v.ownBlock = some k) => (own_low (HI.out.chg HB1.out).net.row k hk).2)
        have HGB := Lib.hid (HI.out.chg HB1.out).net.head.bound
        have HXB := Lib.hid HX.out.bound
        have HCG := Lib.hid hcg
        clear hcl hbc hcg
        go_wp2_with fail
        with_reducible refine (count_bel _ cg vc V _ HC2.out).mono ?_
        rintro e w3 ⟨rfl, hb⟩
        have HI3 := Lib.hid (HI2.out.chg hb)
        have HX3 := Lib.hid (HX2.out.below hb)
        have HC3 := Lib.hid (HC2.out.below hb)
        clear hb
        go_wp2_with ((with_reducible refine Who.wpList_loadC 38 (.tmp 6) rfl wr.heap.size 0 (doC d) ?_); refine And.intro ⟨by rfl, by rfl, ⟨_, Try.underlying38, rfl⟩, info_do⟩ (And.intro (Who.has_range HX3.out) ?_); (try simp only [Act.put, List.setIfInBounds_toArray, List.set_cons_zero, List.set_cons_succ]))
        refine (does_any W.heap.size g v V d _ HI3.out.below.size HFEW.out HI3.out.net).mono ?_
        rintro e w4 ⟨rfl, v2, hnn, hst⟩
        obtain ⟨⟨V2, m, E⟩, hE⟩ : ∃ r, r = doesV V d := ⟨_, rfl⟩
        have HNU := Lib.hid (show 0 ≤ V2.sent ∧ V2.sent ≤ (j + 1 : Nat) ∧ 0 ≤ V2.lost ∧ V2.lost ≤ (j + 1 : Nat) from by
          have h1 := HAC.out
          have h2 := HI.out.nums
          rw [← hE] at h1
          dsimp only at h1
          omega)
        rw [← hE] at hnn ⊢
        dsimp only at hnn ⊢
        have HE := Lib.hid hE
        have hpd := HI3.out.does hnn hst
        have hcg2 : wr.heap.size < cg := by have := HXB.out; have := HCG.out; omega
        have hgw : g < wr.heap.size := HI.out.net.head.bound
        have hxw : gx < wr.heap.size := HI.out.ref.head.bound
        have hvw : ∀ k, v.ownBlock = some k → k < wr.heap.size := fun k hk => (own_low HI.out.net.row k hk).2
        have huw : ∀ k, u.ownBlock = some k → k < wr.heap.size := fun k hk => (own_low HI.out.ref.row k hk).2
        have hw4 : cg < w4.heap.size := Nat.lt_of_lt_of_le HC3.out.head.bound hst.1.size
        have hba := (Below.refl w4.heap.size w4).alloc (Nat.le_refl _) (.cells (msgC m) 36)
        have HC5 := Lib.hid ((clone_stay HC3.out (by omega) (fun k hk => by have := hvw k hk; omega) hst).below hba)
        have HX5 := Lib.hid ((step_over HX3.out hgw hvw hst).below hba)
        have HN5 := Lib.hid (hnn.below hba)
        have HR5 := Lib.hid (hpd.2.1.below hba)
        have HAP := Lib.hid hpd.2.2
        have HB5 := Lib.hid (hpd.1.trans (hba.mono hpd.1.size))
        have HM5 := Lib.hid (Has.fresh w4 36 (msgC m))
        have HW4 := Lib.hid (And.intro hw4 (And.intro hcg2 (And.intro hgw (And.intro hxw (And.intro hvw huw)))))
        clear hE hnn hst hpd hba hcg2 hgw hxw hvw huw hw4
        go_wp2_with (first | ((with_reducible refine Who.wpList_newC 36 11 (.tmp 50) rfl rfl rfl (msgC msg0) (msgC m) ?_); refine And.intro ⟨rfl, rfl, rfl, hal, by rfl, by rfl, info_size _, rfl, msgC_one _⟩ ?_; (try simp only [Act.put, List.setIfInBounds_toArray, List.set_cons_zero, List.set_cons_succ])) | ((with_reducible refine Who.wpList_loadC 38 (.tmp 6) rfl wr.heap.size 0 (doC d) ?_); refine And.intro ⟨by rfl, by rfl, ⟨_, Try.underlying38, rfl⟩, info_do⟩ (And.intro (Who.has_range HX5.out) ?_); (try simp only [Act.put, List.setIfInBounds_toArray, List.set_cons_zero, List.set_cons_succ])))
        refine (also_any W.heap.size gx u V d _ HB5.out.size HFEW.out HR5.out).mono ?_
        rintro e w6 ⟨rfl, u2, hr2, hst2⟩
        rw [← HE.out] at hr2 ⊢
        dsimp only at hr2 ⊢
        obtain ⟨hw4, hcg2, hgw, hxw, hvw, huw⟩ := HW4.out
        have hp6 := PlayI.also HB5.out HN5.out HR5.out HAP.out hr2 hst2 HNU.out
        have hba := (Below.refl w6.heap.size w6).alloc (Nat.le_refl _) (.cells (msgC m) 36)
        have HP7 := Lib.hid (hp6.chg hba)
        have HC7 := Lib.hid ((clone_stay HC5.out (by omega) (fun k hk => by have := huw k hk; omega) hst2).below hba)
        have HM7 := Lib.hid ((step_over HM5.out (by omega) (fun k hk => by have := huw k hk; omega) hst2).below hba)
        have HO7 := Lib.hid (Has.fresh w6 36 (msgC m))
        clear hr2 hst2 hp6 hba hw4 hcg2 hgw hxw hvw huw
        go_wp2_with ((with_reducible refine Who.wpList_newC 36 13 (.tmp 56) rfl rfl rfl (msgC msg0) (msgC m) ?_); refine And.intro ⟨rfl, rfl, rfl, hal, by rfl, by rfl, info_size _, rfl, msgC_one _⟩ ?_; (try simp only [Act.put, List.setIfInBounds_toArray, List.set_cons_zero, List.set_cons_succ]))
        with_reducible refine (count_bel W.heap.size g v2 V2 _ HP7.out.net).mono ?_
        rintro e w8 ⟨rfl, hb⟩
        have HP8 := Lib.hid (HP7.out.chg hb)
        have HC8 := Lib.hid (HC7.out.below hb)
        have HM8 := Lib.hid (HM7.out.below hb)
        have HO8 := Lib.hid (HO7.out.below hb)
        clear hb
        go_wp2_with fail
        with_reducible refine (count_bel _ cg vc V _ HC8.out).mono ?_
        rintro e w9 ⟨rfl, hb⟩
        have HP9 := Lib.hid (HP8.out.chg hb)
        have HM9 := Lib.hid (HM8.out.below hb)
        have HO9 := Lib.hid (HO8.out.below hb)
        clear hb
        have hneq : ∀ w, (binOp .neq 36 (.agg (msgC m)) (.agg (msgC m))).run Try.prog w = .ok (.bool false) w := fun w => by rw [neq_msg, sameM_of rfl]; rfl
        obtain ⟨Au, cu, hu2, hsl⟩ := HP9.out.ref.row.sl
        have HU := Lib.hid hu2
        have HSL := Lib.hid hsl
        obtain ⟨nn, hnn⟩ : ∃ nn, nn = V2.way.length := ⟨_, rfl⟩
        have HNN2 := Lib.hid hnn
        have hnn9 : nn ≤ 160 := by have := HP9.out.ref.few; omega
        have x0 : w9.cell? ⟨gx, 0, none⟩ = some u2 := HP9.out.ref.head.at_ 0
        have x1 : w9.cell? ⟨gx, 1, none⟩ = some (.int .i64 V2.sent) := HP9.out.ref.head.at_ 1
        have x2 : w9.cell? ⟨gx, 2, none⟩ = some (.int .i64 V2.lost) := HP9.out.ref.head.at_ 2
        rw [hu2, ← hnn] at x0
        rw [← hnn]
        clear hu2 hsl hnn
        go_wp2_with (first | ((with_reducible refine Who.wpList_loadC 36 (.tmp 11) rfl w4.heap.size 0 (msgC m) ?_); refine And.intro ⟨by rfl, by rfl, ⟨_, Try.underlying36, rfl⟩, info_size _⟩ (And.intro (Who.has_range HM9.out) ?_); (try simp only [Act.put, List.setIfInBounds_toArray, List.set_cons_zero, List.set_cons_succ])) | ((with_reducible refine Who.wpList_loadC 36 (.tmp 13) rfl w6.heap.size 0 (msgC m) ?_); refine And.intro ⟨by rfl, by rfl, ⟨_, Try.underlying36, rfl⟩, info_size _⟩ (And.intro (Who.has_range HO9.out) ?_); (try simp only [Act.put, List.setIfInBounds_toArray, List.set_cons_zero, List.set_cons_succ])))
        obtain ⟨wd, hwd⟩ : ∃ wd : World, wd = wr := ⟨_, rfl⟩
        subst hwd
        go_loopw [113] (fun i wr => ∃ q : Nat, q ≤ nn ∧ i = .int .i64 q ∧ Hid (Below w9.heap.size w9 wr)) (fun i _ => nn - (intOf i).toNat)
        case atStart => exact ⟨0, by omega, rfl, Lib.hid (Below.refl _ _)⟩
        case round =>
          obtain ⟨q, hq, rfl, HBQ⟩ := hrel
          by_cases hltq : q < nn
          · have HLQ := Lib.hid (show q + 1 ≤ nn from hltq)
            obtain ⟨x, hx⟩ : ∃ x, V2.way[q]? = some x := ⟨_, List.getElem?_eq_getElem (by rw [← HNN2.out]; exact hltq)⟩
            obtain ⟨b2, rfl, hbl, _, _, hrg2⟩ := HSL.out q x hx
            have HPQ := Lib.hid (HP9.out.chg HBQ.out)
            have HPK := Lib.hid (peek_any W.heap.size g v2 V2 q wr HPQ.out.net)
            have HPE := Lib.hid (peek_in (V := V2) (k := (q : Int)) rfl hx)
            have HR2 := Lib.hid (show wr.rangeAt b2 (q * 19) (msgC x).toList from fun t y hy => (Below.cell HBQ.out (p := ⟨b2, q * 19 + t, none⟩) hbl).trans (hrg2 t y hy))
            have HBL := Lib.hid (show b2 < wr.heap.size from Nat.lt_of_lt_of_le hbl HBQ.out.size)
            have hltqi : (q : Int) < nn := by omega
            clear hrg2 hx
            go_wp2_with fail
            with_reducible refine HPK.out.mono ?_
            rintro e w10 ⟨rfl, hb⟩
            rw [HPE.out]
            dsimp only
            have hba := hb.alloc hb.size (.cells (msgC x) 36)
            have HB10 := Lib.hid (HBQ.out.trans (hba.mono HBQ.out.size)).drew
            have HR3 := Lib.hid (show (w10.alloc (.cells (msgC x) 36)).rangeAt b2 (q * 19) (msgC x).toList from fun t y hy => (Below.cell hba (p := ⟨b2, q * 19 + t, none⟩) HBL.out).trans (HR2.out t y hy))
            have HM10 := Lib.hid (Has.fresh w10 36 (msgC x))
            have y0 : (w10.alloc (.cells (msgC x) 36)).drew.cell? ⟨gx, 0, none⟩ = some (.slice (some ⟨b2, 0, none⟩) nn cu) := by
              have h := (HPQ.out.ref.head.below hba).drew.at_ 0
              rw [HU.out, ← HNN2.out] at h
              exact h
            clear hb hba
            have hnex : ∀ w, (binOp .neq 36 (.agg (msgC x)) (.agg (msgC x))).run Try.prog w = .ok (.bool false) w := fun w => by rw [neq_msg, sameM_of rfl]; rfl
            by_cases hm : (j : Int).tmod 16 = 0
            · go_wp2_with ((with_reducible refine Who.wpList_newC 36 22 (.tmp 120) rfl rfl rfl (msgC msg0) (msgC x) ?_); refine And.intro ⟨rfl, rfl, rfl, hal, by rfl, by rfl, info_size _, rfl, msgC_one _⟩ ?_; (try simp only [Act.put, List.setIfInBounds_toArray, List.set_cons_zero, List.set_cons_succ]))
              refine wp_region_held_drew (S := fun w' => w'.rangeAt w10.heap.size 0 (msgC x).toList ∧ w'.cell? ⟨gx, 0, none⟩ = some (.slice (some ⟨b2, 0, none⟩) nn cu) ∧ w'.rangeAt b2 (q * 19) (msgC x).toList) (by kernel_rfl) ⟨Who.has_range HM10.out.drew, y0, HR3.out⟩ (fun hHeld => ?_)
              refine Vc.wpAnyH_read (i := 0) (d := some 122) (v := ?vy0) (by rfl) (by rfl) (by kernel_rfl) (by kernel_rfl) (by kernel_rfl) (fun _ _ _ h => h) (by rfl) ?hyy0 (by assumption) ?resty0
              case hyy0 =>
                intro w hSw
                obtain ⟨hS1, hS2, hS3⟩ := hSw
                go_simp
                try with_reducible rfl
              (try simp only [Act.put, List.setIfInBounds_toArray, List.set_cons_zero, List.set_cons_succ])
              refine Vc.wpAnyH_read (i := 1) (d := some 123) (v := ?vy1) (by rfl) (by rfl) (by kernel_rfl) (by kernel_rfl) (by kernel_rfl) (fun _ _ _ h => h) (by rfl) ?hyy1 (by assumption) ?resty1
              case hyy1 =>
                intro w hSw
                obtain ⟨hS1, hS2, hS3⟩ := hSw
                go_simp
                try with_reducible rfl
              (try simp only [Act.put, List.setIfInBounds_toArray, List.set_cons_zero, List.set_cons_succ])
              refine Vc.wpAnyH_read (i := 2) (d := some 124) (v := (.bool true)) (by rfl) (by rfl) (by kernel_rfl) (by kernel_rfl) (by kernel_rfl) (fun _ _ _ h => h) (by rfl) ?hyy2 (by assumption) ?resty2
              case hyy2 =>
                intro w hSw
                obtain ⟨hS1, hS2, hS3⟩ := hSw
                go_simp
                try with_reducible rfl
              (try simp only [Act.put, List.setIfInBounds_toArray, List.set_cons_zero, List.set_cons_succ])
              refine Vc.wpAnyH_read (i := 3) (d := some 125) (v := ?vy3) (by rfl) (by rfl) (by kernel_rfl) (by kernel_rfl) (by kernel_rfl) (fun _ _ _ h => h) (by rfl) ?hyy3 (by assumption) ?resty3
              case hyy3 =>
                intro w hSw
                obtain ⟨hS1, hS2, hS3⟩ := hSw
                go_simp
                try with_reducible rfl
              (try simp only [Act.put, List.setIfInBounds_toArray, List.set_cons_zero, List.set_cons_succ])
              refine Vc.wpAnyH_read (i := 4) (d := some 126) (v := ?vy4) (by rfl) (by rfl) (by kernel_rfl) (by kernel_rfl) (by kernel_rfl) (fun _ _ _ h => h) (by rfl) ?hyy4 (by assumption) ?resty4
              case hyy4 =>
                intro w hSw
                obtain ⟨hS1, hS2, hS3⟩ := hSw
                go_simp
                try with_reducible rfl
              (try simp only [Act.put, List.setIfInBounds_toArray, List.set_cons_zero, List.set_cons_succ])
              refine Vc.wpAnyH_read (i := 5) (d := some 127) (v := ?vy5) (by rfl) (by rfl) (by kernel_rfl) (by kernel_rfl) (by kernel_rfl) (fun _ _ _ h => h) (by rfl) ?hyy5 (by assumption) ?resty5
              case hyy5 =>
                intro w hSw
                obtain ⟨hS1, hS2, hS3⟩ := hSw
                go_simp
                try with_reducible rfl
              (try simp only [Act.put, List.setIfInBounds_toArray, List.set_cons_zero, List.set_cons_succ])
              refine Vc.wpAnyH_read (i := 6) (d := some 128) (v := ?vy6) (by rfl) (by rfl) (by kernel_rfl) (by kernel_rfl) (by kernel_rfl) (fun _ _ _ h => h) (by rfl) ?hyy6 (by assumption) ?resty6
              case hyy6 =>
                intro w hSw
                obtain ⟨hS1, hS2, hS3⟩ := hSw
                go_simp
                try with_reducible rfl
              (try simp only [Act.put, List.setIfInBounds_toArray, List.set_cons_zero, List.set_cons_succ])
              refine Vc.wpAnyH_read (i := 7) (d := some 129) (v := (.agg (msgC x))) (by rfl) (by rfl) (by kernel_rfl) (by kernel_rfl) (by kernel_rfl) (fun _ _ _ h => h) (by rfl) ?hyy7 (by assumption) ?resty7
              case hyy7 =>
                intro w hSw
                exact Who.exec_loadA _ rfl (by rfl) hSw.1 Try.underlying36 rfl (info_size _)
              (try simp only [Act.put, List.setIfInBounds_toArray, List.set_cons_zero, List.set_cons_succ])
              refine Vc.wpAnyH_read (i := 8) (d := some 130) (v := ?vy8) (by rfl) (by rfl) (by kernel_rfl) (by kernel_rfl) (by kernel_rfl) (fun _ _ _ h => h) (by rfl) ?hyy8 (by assumption) ?resty8
              case hyy8 =>
                intro w hSw
                obtain ⟨hS1, hS2, hS3⟩ := hSw
                go_simp
                try with_reducible rfl
              (try simp only [Act.put, List.setIfInBounds_toArray, List.set_cons_zero, List.set_cons_succ])
              refine Vc.wpAnyH_read (i := 9) (d := some 131) (v := ?vy9) (by rfl) (by rfl) (by kernel_rfl) (by kernel_rfl) (by kernel_rfl) (fun _ _ _ h => h) (by rfl) ?hyy9 (by assumption) ?resty9
              case hyy9 =>
                intro w hSw
                obtain ⟨hS1, hS2, hS3⟩ := hSw
                go_simp
                try with_reducible rfl
              (try simp only [Act.put, List.setIfInBounds_toArray, List.set_cons_zero, List.set_cons_succ])
              refine Vc.wpAnyH_read (i := 10) (d := some 132) (v := ?vy10) (by rfl) (by rfl) (by kernel_rfl) (by kernel_rfl) (by kernel_rfl) (fun _ _ _ h => h) (by rfl) ?hyy10 (by assumption) ?resty10
              case hyy10 =>
                intro w hSw
                obtain ⟨hS1, hS2, hS3⟩ := hSw
                go_simp
                try with_reducible rfl
              (try simp only [Act.put, List.setIfInBounds_toArray, List.set_cons_zero, List.set_cons_succ])
              refine Vc.wpAnyH_read (i := 11) (d := some 133) (v := ?vy11) (by rfl) (by rfl) (by kernel_rfl) (by kernel_rfl) (by kernel_rfl) (fun _ _ _ h => h) (by rfl) ?hyy11 (by assumption) ?resty11
              case hyy11 =>
                intro w hSw
                obtain ⟨hS1, hS2, hS3⟩ := hSw
                go_simp
                try with_reducible rfl
              (try simp only [Act.put, List.setIfInBounds_toArray, List.set_cons_zero, List.set_cons_succ])
              refine Vc.wpAnyH_read (i := 12) (d := some 134) (v := ?vy12) (by rfl) (by rfl) (by kernel_rfl) (by kernel_rfl) (by kernel_rfl) (fun _ _ _ h => h) (by rfl) ?hyy12 (by assumption) ?resty12
              case hyy12 =>
                intro w hSw
                obtain ⟨hS1, hS2, hS3⟩ := hSw
                go_simp
                try with_reducible rfl
              (try simp only [Act.put, List.setIfInBounds_toArray, List.set_cons_zero, List.set_cons_succ])
              refine Vc.wpAnyH_read (i := 13) (d := some 135) (v := ?vy13) (by rfl) (by rfl) (by kernel_rfl) (by kernel_rfl) (by kernel_rfl) (fun _ _ _ h => h) (by rfl) ?hyy13 (by assumption) ?resty13
              case hyy13 =>
                intro w hSw
                obtain ⟨hS1, hS2, hS3⟩ := hSw
                go_simp
                try with_reducible rfl
              (try simp only [Act.put, List.setIfInBounds_toArray, List.set_cons_zero, List.set_cons_succ])
              refine Vc.wpAnyH_read (i := 14) (d := some 136) (v := (.agg (msgC x))) (by rfl) (by rfl) (by kernel_rfl) (by kernel_rfl) (by kernel_rfl) (fun _ _ _ h => h) (by rfl) ?hyy14 (by assumption) ?resty14
              case hyy14 =>
                intro w hSw
                exact Who.exec_loadA _ rfl (by rfl) hSw.2.2 Try.underlying36 rfl (info_size _)
              (try simp only [Act.put, List.setIfInBounds_toArray, List.set_cons_zero, List.set_cons_succ])
              refine Vc.wpAnyH_read (i := 15) (d := some 137) (v := ?vy15) (by rfl) (by rfl) (by kernel_rfl) (by kernel_rfl) (by kernel_rfl) (fun _ _ _ h => h) (by rfl) ?hyy15 (by assumption) ?resty15
              case hyy15 =>
                intro w hSw
                obtain ⟨hS1, hS2, hS3⟩ := hSw
                go_simp
                try with_reducible rfl
              (try simp only [Act.put, List.setIfInBounds_toArray, List.set_cons_zero, List.set_cons_succ])
              refine Vc.wpAnyH_read (i := 16) (d := some 138) (v := ?vy16) (by rfl) (by rfl) (by kernel_rfl) (by kernel_rfl) (by kernel_rfl) (fun _ _ _ h => h) (by rfl) ?hyy16 (by assumption) ?resty16
              case hyy16 =>
                intro w hSw
                obtain ⟨hS1, hS2, hS3⟩ := hSw
                go_simp
                try with_reducible rfl
              (try simp only [Act.put, List.setIfInBounds_toArray, List.set_cons_zero, List.set_cons_succ])
              refine Vc.wpAnyH_read (i := 17) (d := some 139) (v := ?vy17) (by rfl) (by rfl) (by kernel_rfl) (by kernel_rfl) (by kernel_rfl) (fun _ _ _ h => h) (by rfl) ?hyy17 (by assumption) ?resty17
              case hyy17 =>
                intro w hSw
                obtain ⟨hS1, hS2, hS3⟩ := hSw
                go_simp
                try with_reducible rfl
              (try simp only [Act.put, List.setIfInBounds_toArray, List.set_cons_zero, List.set_cons_succ])
              refine wpAnyH_done (by kernel_rfl) ?_ _
              go_wp2
              go_roundw
              case rel => exact ⟨q + 1, HLQ.out, by go_num, HB10⟩
              case measure => have := HLQ.out; simp [intOf]; omega
            · go_wp2_with ((with_reducible refine Who.wpList_newC 36 22 (.tmp 120) rfl rfl rfl (msgC msg0) (msgC x) ?_); refine And.intro ⟨rfl, rfl, rfl, hal, by rfl, by rfl, info_size _, rfl, msgC_one _⟩ ?_; (try simp only [Act.put, List.setIfInBounds_toArray, List.set_cons_zero, List.set_cons_succ]))
              refine wp_region_held_drew (S := fun w' => w'.rangeAt w10.heap.size 0 (msgC x).toList ∧ w'.cell? ⟨gx, 0, none⟩ = some (.slice (some ⟨b2, 0, none⟩) nn cu) ∧ w'.rangeAt b2 (q * 19) (msgC x).toList) (by kernel_rfl) ⟨Who.has_range HM10.out.drew, y0, HR3.out⟩ (fun hHeld => ?_)
              refine Vc.wpAnyH_read (i := 0) (d := some 122) (v := ?vn0) (by rfl) (by rfl) (by kernel_rfl) (by kernel_rfl) (by kernel_rfl) (fun _ _ _ h => h) (by rfl) ?hyn0 (by assumption) ?restn0
              case hyn0 =>
                intro w hSw
                obtain ⟨hS1, hS2, hS3⟩ := hSw
                go_simp
                try with_reducible rfl
              (try simp only [Act.put, List.setIfInBounds_toArray, List.set_cons_zero, List.set_cons_succ])
              refine Vc.wpAnyH_read (i := 1) (d := some 123) (v := ?vn1) (by rfl) (by rfl) (by kernel_rfl) (by kernel_rfl) (by kernel_rfl) (fun _ _ _ h => h) (by rfl) ?hyn1 (by assumption) ?restn1
              case hyn1 =>
                intro w hSw
                obtain ⟨hS1, hS2, hS3⟩ := hSw
                go_simp
                try with_reducible rfl
              (try simp only [Act.put, List.setIfInBounds_toArray, List.set_cons_zero, List.set_cons_succ])
              refine Vc.wpAnyH_read (i := 2) (d := some 124) (v := (.bool false)) (by rfl) (by rfl) (by kernel_rfl) (by kernel_rfl) (by kernel_rfl) (fun _ _ _ h => h) (by rfl) ?hyn2 (by assumption) ?restn2
              case hyn2 =>
                intro w hSw
                obtain ⟨hS1, hS2, hS3⟩ := hSw
                go_simp
                try with_reducible rfl
              (try simp only [Act.put, List.setIfInBounds_toArray, List.set_cons_zero, List.set_cons_succ])
              refine Vc.wpAnyH_read (i := 3) (d := some 125) (v := ?vn3) (by rfl) (by rfl) (by kernel_rfl) (by kernel_rfl) (by kernel_rfl) (fun _ _ _ h => h) (by rfl) ?hyn3 (by assumption) ?restn3
              case hyn3 =>
                intro w hSw
                obtain ⟨hS1, hS2, hS3⟩ := hSw
                go_simp
                try with_reducible rfl
              (try simp only [Act.put, List.setIfInBounds_toArray, List.set_cons_zero, List.set_cons_succ])
              refine Vc.wpAnyH_skip (i := 4) (d := some 126) (by rfl) (by rfl) (by kernel_rfl) (by kernel_rfl) (by kernel_rfl) (fun _ _ _ h => h) (by rfl) (by assumption) ?_
              (try simp only [Act.put, List.setIfInBounds_toArray, List.set_cons_zero, List.set_cons_succ])
              refine Vc.wpAnyH_skip (i := 5) (d := some 127) (by rfl) (by rfl) (by kernel_rfl) (by kernel_rfl) (by kernel_rfl) (fun _ _ _ h => h) (by rfl) (by assumption) ?_
              (try simp only [Act.put, List.setIfInBounds_toArray, List.set_cons_zero, List.set_cons_succ])
              refine Vc.wpAnyH_skip (i := 6) (d := some 128) (by rfl) (by rfl) (by kernel_rfl) (by kernel_rfl) (by kernel_rfl) (fun _ _ _ h => h) (by rfl) (by assumption) ?_
              (try simp only [Act.put, List.setIfInBounds_toArray, List.set_cons_zero, List.set_cons_succ])
              refine Vc.wpAnyH_skip (i := 7) (d := some 129) (by rfl) (by rfl) (by kernel_rfl) (by kernel_rfl) (by kernel_rfl) (fun _ _ _ h => h) (by rfl) (by assumption) ?_
              (try simp only [Act.put, List.setIfInBounds_toArray, List.set_cons_zero, List.set_cons_succ])
              refine Vc.wpAnyH_skip (i := 8) (d := some 130) (by rfl) (by rfl) (by kernel_rfl) (by kernel_rfl) (by kernel_rfl) (fun _ _ _ h => h) (by rfl) (by assumption) ?_
              (try simp only [Act.put, List.setIfInBounds_toArray, List.set_cons_zero, List.set_cons_succ])
              refine Vc.wpAnyH_skip (i := 9) (d := some 131) (by rfl) (by rfl) (by kernel_rfl) (by kernel_rfl) (by kernel_rfl) (fun _ _ _ h => h) (by rfl) (by assumption) ?_
              (try simp only [Act.put, List.setIfInBounds_toArray, List.set_cons_zero, List.set_cons_succ])
              refine Vc.wpAnyH_skip (i := 10) (d := some 132) (by rfl) (by rfl) (by kernel_rfl) (by kernel_rfl) (by kernel_rfl) (fun _ _ _ h => h) (by rfl) (by assumption) ?_
              (try simp only [Act.put, List.setIfInBounds_toArray, List.set_cons_zero, List.set_cons_succ])
              refine Vc.wpAnyH_skip (i := 11) (d := some 133) (by rfl) (by rfl) (by kernel_rfl) (by kernel_rfl) (by kernel_rfl) (fun _ _ _ h => h) (by rfl) (by assumption) ?_
              (try simp only [Act.put, List.setIfInBounds_toArray, List.set_cons_zero, List.set_cons_succ])
              refine Vc.wpAnyH_skip (i := 12) (d := some 134) (by rfl) (by rfl) (by kernel_rfl) (by kernel_rfl) (by kernel_rfl) (fun _ _ _ h => h) (by rfl) (by assumption) ?_
              (try simp only [Act.put, List.setIfInBounds_toArray, List.set_cons_zero, List.set_cons_succ])
              refine Vc.wpAnyH_skip (i := 13) (d := some 135) (by rfl) (by rfl) (by kernel_rfl) (by kernel_rfl) (by kernel_rfl) (fun _ _ _ h => h) (by rfl) (by assumption) ?_
              (try simp only [Act.put, List.setIfInBounds_toArray, List.set_cons_zero, List.set_cons_succ])
              refine Vc.wpAnyH_skip (i := 14) (d := some 136) (by rfl) (by rfl) (by kernel_rfl) (by kernel_rfl) (by kernel_rfl) (fun _ _ _ h => h) (by rfl) (by assumption) ?_
              (try simp only [Act.put, List.setIfInBounds_toArray, List.set_cons_zero, List.set_cons_succ])
              refine Vc.wpAnyH_skip (i := 15) (d := some 137) (by rfl) (by rfl) (by kernel_rfl) (by kernel_rfl) (by kernel_rfl) (fun _ _ _ h => h) (by rfl) (by assumption) ?_
              (try simp only [Act.put, List.setIfInBounds_toArray, List.set_cons_zero, List.set_cons_succ])
              refine Vc.wpAnyH_skip (i := 16) (d := some 138) (by rfl) (by rfl) (by kernel_rfl) (by kernel_rfl) (by kernel_rfl) (fun _ _ _ h => h) (by rfl) (by assumption) ?_
              (try simp only [Act.put, List.setIfInBounds_toArray, List.set_cons_zero, List.set_cons_succ])
              refine Vc.wpAnyH_read (i := 17) (d := some 139) (v := ?vn17) (by rfl) (by rfl) (by kernel_rfl) (by kernel_rfl) (by kernel_rfl) (fun _ _ _ h => h) (by rfl) ?hyn17 (by assumption) ?restn17
              case hyn17 =>
                intro w hSw
                obtain ⟨hS1, hS2, hS3⟩ := hSw
                go_simp
                try with_reducible rfl
              (try simp only [Act.put, List.setIfInBounds_toArray, List.set_cons_zero, List.set_cons_succ])
              refine wpAnyH_done (by kernel_rfl) ?_ _
              go_wp2
              go_roundw
              case rel => exact ⟨q + 1, HLQ.out, by go_num, HB10⟩
              case measure => have := HLQ.out; simp [intOf]; omega
          · have hltqi : ¬ (q : Int) < nn := by omega
            have HPQ := Lib.hid (HP9.out.chg HBQ.out)
            go_wp2
            go_roundw
            case rel => exact ⟨j + 1, v2, _, V2, HLT.out, by go_num, HPQ⟩
            case measure => have := HLT.out; simp [intOf]; omega
      · have hlti : ¬ (j : Int) < n := by omega
        go_wp2_with fail
        with_reducible refine (HAW.out _).mono ?_
        rintro e w3 ⟨rfl, hb⟩
        have HB3 := Lib.hid (HI.out.below.trans (hb.mono HI.out.below.size))
        clear hb
        go_wp2
        go_ret
        exact ⟨rfl, HB3.out⟩
end Go.Proofs.Ytjbbifmjhagfiaa.Nt
