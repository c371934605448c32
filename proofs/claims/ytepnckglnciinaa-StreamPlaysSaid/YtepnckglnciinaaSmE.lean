/- Changes of bytes: the look of the program's Get. -/
import Derived.Test.YtepnckglnciinaaSmD
import Derived.Test.YtepnckglnciinaaOctGot
import Derived.Deep.RegionLaw
import Derived.Deep.AppendLies
import Derived.Great.BuildSlice
namespace Go.Proofs.Ytepnckglnciinaa.Sm
open Go.RowKit Go.Proofs.Ytepnckglnciinaa.Oct
set_option linter.unusedVariables false

theorem chg_grown {a w w' : World} {S : Nat → Prop} {row : Option Nat} (h : Chg S a w) (hg : w.grownBy w' row) (hr : ∀ k, row = some k → a.heap.size ≤ k) : Chg S a w' :=
  ⟨hg.os.trans h.os, hg.tape.trans h.tape, hg.output.trans h.output, Nat.le_trans h.size hg.size, fun i hi hn => (hg.block i (Nat.lt_of_lt_of_le hi h.size) (fun e => by have := hr i e.symm; omega)).trans (h.block i hi hn)⟩
theorem has_grown {w w' : World} {g : Nat} {t : TypeId} {cs : Array Value} {row : Option Nat} (h : Oct.Has w g t cs) (hg : w.grownBy w' row) (hr : some g = row → False) : Oct.Has w' g t cs := by
  unfold Oct.Has at *
  rw [hg.block g (Array.getElem?_eq_some_iff.1 h).1 hr]
  exact h
theorem looks_past {w : World} {q s : Nat} {r : ByteArray} (h : Looks w q s r) (o : Obj) : Looks (w.alloc o) q s r := ⟨h.eye.past o, Oct.Has.past h.sight o⟩
theorem looks_grown {w w' : World} {q s : Nat} {r : ByteArray} {row : Option Nat} (h : Looks w q s r) (hg : w.grownBy w' row) (h1 : some q = row → False) (h2 : some s = row → False) : Looks w' q s r :=
  ⟨has_grown h.eye hg h1, has_grown h.sight hg h2⟩
theorem gotNum_txt {r : ByteArray} {k : Int} {t q : ByteArray} (h : gotNum r k = .txt t q) : False := by
  unfold gotNum at h
  repeat' split at h
  all_goals simp at h
theorem gotText_num {r : ByteArray} {n v : Int} {q : ByteArray} (h : gotText r n = .num v q) : False := by
  unfold gotText at h
  repeat' split at h
  all_goals simp at h
theorem gotNum_nat {r : ByteArray} {k v : Int} {q : ByteArray} (h : gotNum r k = .num v q) : ∃ m : Nat, v = m ∧ m < 9223372036854775808 := by
  unfold gotNum at h
  repeat' split at h
  all_goals simp at h
  rename_i h3
  exact ⟨_, h.1.symm, h3⟩
def chL (c : ChgP) : List Value := (chC c).toList
theorem chL_len (c : ChgP) : (chL c).length = 3 := rfl
def COwn (w : World) (B : Nat) (v : Value) (cs : List ChgP) : Prop := w.ownsRow B 53 3 v cs.length (cs.flatMap chL)
theorem COwn.nil (w : World) (B : Nat) : COwn w B (.slice none 0 0) [] := ⟨rfl, .inl ⟨rfl, rfl⟩⟩
theorem COwn.drew {w : World} {B : Nat} {v : Value} {cs : List ChgP} (h : COwn w B v cs) : COwn w.drew B v cs := h
theorem COwn.chg {S : Nat → Prop} {w w' : World} {B : Nat} {v : Value} {cs : List ChgP} (h : COwn w B v cs) (hc : Chg S w w') (hS : ∀ k, v.ownBlock = some k → ¬ S k) : COwn w' B v cs := by
  refine ⟨h.1, ?_⟩
  rcases h.2 with e | ⟨g, cap, cur, e, hg, hh, hr⟩
  · exact .inl e
  · refine .inr ⟨g, cap, cur, e, hg, ?_, hr⟩
    rw [hc.block g (Array.getElem?_eq_some_iff.1 hh).1 (hS g (by rw [e]; rfl))]
    exact hh
theorem COwn.sl {w : World} {B : Nat} {v : Value} {cs : List ChgP} (h : COwn w B v cs) : ∃ A c, v = .slice A cs.length c := by
  rcases h.2 with ⟨e, e0⟩ | ⟨g, cap, cur, e, _⟩
  · exact ⟨none, 0, by rw [e, e0]⟩
  · exact ⟨_, cap, e⟩
theorem info_ch3 : (Try.prog.info? 53).map (fun i => (i.zero, i.size, i.bytes)) = some (some (.agg (chC ch0)), 3, 40) := by kernel_rfl
theorem fill_ch (c : ChgP) : Instr.fill (fun i => some (i * 3, 3)) ((Array.range (1 * 3)).map ((Value.agg (chC ch0)).cells[· % (Value.agg (chC ch0)).cells.size]!)) [(0, Value.agg (chC c))] = some (chC c) := by kernel_rfl
theorem step_build_ch {ops : Array Oper} {o : Oper} {a : Act} {w : World} {K : Act → World → Prop} {Q : Exit → Act → World → Prop} {E : Prop} (x : Operand) (ho : o.op = .buildSlice 22 1 #[(0, x)]) (c : ChgP)
    (h : (Region.wanted o (yielded ops a.tmps) = true ∧ a.eval x = .agg (chC c)) ∧ K (a.put o.dst (.slice (some ⟨w.heap.size, 0, none⟩) 1 1)) (w.alloc (.cells (chC c) 53))) :
    if Region.wanted o (yielded ops a.tmps) = true then Oper.wp Try.prog o a w K Q else E := by
  obtain ⟨⟨h1, h2⟩, h3⟩ := h
  rw [if_pos h1]
  obtain ⟨i, hi, q1, q2, q3⟩ := info_parts info_ch3
  refine wp_buildSlice 22 53 1 _ ho (chC c) i _ Try.underlying22 hi q1 (by omega) (by omega) ?_ h3
  have e : (#[(0, x)] : Array (Nat × Operand)).map (fun (i, x) => (i, a.eval x)) = #[(0, .agg (chC c))] := by simp [h2]
  rw [e, q2]
  exact fill_ch c
/-- What a look comes to. -/
abbrev ParC := Except (ByteArray × Int) (List ChgP × ByteArray)
def loopP : Nat → ByteArray → List ChgP → ParC
  | 0, r, acc => .ok (acc, r)
  | k + 1, r, acc =>
    match gotNum r 1 with
    | .num g r1 =>
      if 1 < g then .error (r1, 201) else
      match gotText r1 64 with
      | .txt key r2 =>
        match gotText r2 300 with
        | .txt val r3 => loopP k r3 (acc ++ [⟨key, val, g == 1⟩])
        | .num _ r3 => .error (r3, 201)
        | .bad r3 y => .error (r3, y)
      | .num _ r2 => .error (r2, 201)
      | .bad r2 y => .error (r2, y)
    | .txt _ r1 => .error (r1, 201)
    | .bad r1 y => .error (r1, y)
def getP (r : ByteArray) : ParC :=
  match gotNum r 4 with
  | .num n r1 => loopP n.toNat r1 []
  | .txt _ r1 => .error (r1, 201)
  | .bad r1 y => .error (r1, y)
def textP3 (k : Nat) (g : Int) (acc : List ChgP) (key r2 : ByteArray) : ParC :=
  match gotText r2 300 with
  | .txt val r3 => loopP k r3 (acc ++ [⟨key, val, g == 1⟩])
  | .num _ r3 => .error (r3, 201)
  | .bad r3 y => .error (r3, y)
def textP2 (k : Nat) (g : Int) (acc : List ChgP) (r1 : ByteArray) : ParC :=
  match gotText r1 64 with
  | .txt key r2 => textP3 k g acc key r2
  | .num _ r2 => .error (r2, 201)
  | .bad r2 y => .error (r2, y)
theorem got_less (r : ByteArray) (k v : Int) (q : ByteArray) (h : gotNum r k = .num v q) : q.size + k.toNat ≤ r.size := by
  unfold gotNum at h
  split at h
  · split at h
    · split at h
      · injection h with h1 h2
        subst h2
        rw [ByteArray.size_extract]
        omega
      · cases h
    · cases h
  · cases h
theorem got_less4 {r q : ByteArray} {v : Int} (h : gotNum r 4 = .num v q) : q.size + 4 ≤ r.size := got_less r 4 v q h
theorem got_less1 {r q : ByteArray} {v : Int} (h : gotNum r 1 = .num v q) : q.size + 1 ≤ r.size := got_less r 1 v q h
theorem got_lessT {r q t : ByteArray} {k : Int} (h : gotText r k = .txt t q) : q.size ≤ r.size := by
  unfold gotText at h
  split at h
  · split at h
    · split at h
      · injection h with h1 h2
        subst h2
        rw [ByteArray.size_extract, ByteArray.size_extract]
        omega
      · cases h
    · cases h
  · cases h
def LS (s bc : Nat) (k : Nat) : Prop := k = s ∨ k = bc
def GEnd (X : ParC) (q s bc : Nat) (w : World) (e : Ending) (w' : World) : Prop :=
  match X with
  | .ok (cs, r) => e = .returned (.tuple #[]) ∧ Looks w' q s r ∧ (∃ v, Has w' bc 22 #[v] ∧ COwn w' w.heap.size v cs) ∧ Chg (LS s bc) w w'
  | .error (r, y) => e = .panicked (own s) ∧ Sight w' s r true y ∧ Chg (LS s bc) w w'
structure GMid (w : World) (q s bc : Nat) (r : ByteArray) (acc : List ChgP) (w' : World) : Prop where
  looks : Looks w' q s r
  blk : ∃ A c, Has w' bc 22 #[.slice A acc.length c] ∧ COwn w' w.heap.size (.slice A acc.length c) acc
  chg : Chg (LS s bc) w w'
theorem look_post {w w5 w7 : World} {q s bc g' cap c1 : Nat} {A1 : Option Addr} {r : ByteArray} {acc : List ChgP} {ch : ChgP} (hq : q < w.heap.size ∧ s < w.heap.size ∧ bc < w.heap.size) (hd : q ≠ s ∧ bc ≠ s ∧ bc ≠ q)
    (hl : Looks w5 q s r) (hb : Has w5 bc 22 #[.slice A1 acc.length c1]) (hown : COwn w5 w.heap.size (.slice A1 acc.length c1) acc) (hc : Chg (LS s bc) w w5)
    (ho : w7.ownsRow w.heap.size 53 3 (.slice (some ⟨g', 0, none⟩) (acc.length + 1) cap) (acc.length + 1) (acc.flatMap chL ++ chL ch)) (hg2 : (w5.alloc (.cells (chC ch) 53)).grownBy w7 (Value.slice A1 acc.length c1).ownBlock) :
    Has w7 bc 22 #[.slice A1 acc.length c1] ∧ GMid w q s bc r (acc ++ [ch]) (w7.setCell ⟨bc, 0, none⟩ (.slice (some ⟨g', 0, none⟩) (acc.length + 1) cap)) := by
  have hlo := fun q hq => (World.ownsRow.lt hown q hq).1
  have far : ∀ k, k < w.heap.size → some k = (Value.slice A1 acc.length c1).ownBlock → False := fun k hk e => by have := hlo k e.symm; omega
  have hb7 := has_grown (hb.past (.cells (chC ch) 53)) hg2 (far _ hq.2.2)
  have hl7 := looks_grown (looks_past hl (.cells (chC ch) 53)) hg2 (far _ hq.1) (far _ hq.2.1)
  have hc7 := chg_grown (hc.alloc (.cells (chC ch) 53)) hg2 hlo
  have ho7 : COwn w7 w.heap.size (.slice (some ⟨g', 0, none⟩) (acc ++ [ch]).length cap) (acc ++ [ch]) := by
    unfold COwn
    rw [List.length_append, List.flatMap_append]
    simpa using ho
  refine ⟨hb7, ⟨hl7.eye.keep (p := ⟨bc, 0, none⟩) hd.2.2.symm _, Has.keep hl7.sight (p := ⟨bc, 0, none⟩) hd.2.1.symm _⟩, ⟨some ⟨g', 0, none⟩, cap, by rw [List.length_append]; exact hb7.put 0 _, ho7.chg ((Chg.refl (· = bc) w7).setCell (p := ⟨bc, 0, none⟩) (.inl rfl) _) (fun k hk e => ?_)⟩, hc7.setCell (p := ⟨bc, 0, none⟩) (.inl (.inr rfl)) _⟩
  have := (World.ownsRow.lt ho7 k hk).1
  omega
set_option maxRecDepth 100000 in
set_option maxHeartbeats 8000000 in
theorem get_look (q s bc : Nat) (r : ByteArray) (d1 : q ≠ s) (d2 : bc ≠ s) (d3 : bc ≠ q) (hr : r.size ≤ 1000000) (w : World) (hl : Looks w q s r) (hb : Has w bc 22 #[.slice none 0 0]) (X : ParC) (hX : getP r = X) :
    Calls Try.prog 52 #[.pointer (some ⟨q, 0, none⟩), .pointer (some ⟨bc, 0, none⟩)] w (GEnd X q s bc w) := by
  have HX := Lib.hid hX
  clear hX
  obtain ⟨i0, hi, hz0, hz1, hz2⟩ := info_parts info_ch3
  have HI := Lib.hid (And.intro hi (And.intro hz0 (And.intro hz1 hz2)))
  clear hi hz0 hz1 hz2
  have HQ := Lib.hid (And.intro hl.eye.bound (And.intro (Has.bound hl.sight) hb.bound))
  have HD := Lib.hid (And.intro d1 (And.intro d2 d3))
  have HB0 := Lib.hid hb
  have HN := Lib.hid (num_got q s 4 r d1 w hl)
  have HRS := Lib.hid hr
  clear hl hb d1 d2 d3 hr
  go_enter Try.func52, Try.ntmps52
  cases hg : gotNum r 4 with
  | txt t r1 => exact (gotNum_txt hg).elim
  | bad r1 y =>
    have hge : X = .error (r1, y) := HX.out.symm.trans (by unfold getP; rw [hg])
    subst hge
    rw [hg] at HN
    clear hg
    go_wp2_with fail
    refine HN.out.mono ?_
    rintro e w1 hd
    obtain ⟨rfl, h1, h2⟩ := hd
    have HE := Lib.hid (show GEnd (.error (r1, y)) q s bc w (.panicked (own s)) w1 from ⟨rfl, h1, h2.mono fun k hk => Or.inl hk⟩)
    clear h1 h2
    go_wp2
    show _ ∧ _
    exact ⟨rfl, HE.out⟩
  | num n r1 =>
    obtain ⟨m, rfl, hm9⟩ := gotNum_nat hg
    have HX2 := Lib.hid (show X = loopP (m - 0) r1 [] from HX.out.symm.trans (by unfold getP; rw [hg]; rfl))
    have HR1 := Lib.hid (got_less4 hg)
    rw [hg] at HN
    clear hg HX
    go_wp2_with fail
    refine HN.out.mono ?_
    rintro e w1 hd
    obtain ⟨rfl, h1, h2⟩ := hd
    have HM1 := Lib.hid (show GMid w q s bc r1 [] w1 from ⟨h1, ⟨none, 0, HB0.out.over h2 HD.out.2.1, COwn.nil _ _⟩, h2.mono fun k hk => Or.inl hk⟩)
    clear h1 h2 HN
    go_wp2
    go_loopw [7] (fun i wr => ∃ (j : Nat) (acc : List ChgP) (rj : ByteArray), j ≤ m ∧ i = .int .i64 j ∧ Hid (acc.length = j ∧ j + rj.size ≤ r.size) ∧ Hid (X = loopP (m - j) rj acc) ∧ Hid (GMid w q s bc rj acc wr)) (fun i _ => m - (intOf i).toNat)
    case atStart => exact ⟨0, [], r1, Nat.zero_le _, rfl, Lib.hid ⟨rfl, by have := HR1.out; omega⟩, HX2, HM1⟩
    case round =>
      obtain ⟨j, acc, rj, hj, rfl, HA0, HXJ, HMJ⟩ := hrel
      clear HX2 HM1
      by_cases hlt : j < m
      · obtain ⟨k, hk⟩ : ∃ k, m - j = k + 1 := ⟨m - j - 1, by omega⟩
        have HK := Lib.hid (show m - (j + 1) = k by omega)
        rw [hk] at HXJ
        clear hk
        have HLT := Lib.hid hlt
        have HN4 := Lib.hid (num_got q s 1 rj HD.out.1 wr HMJ.out.looks)
        cases hg : gotNum rj 1 with
        | txt t r2 => exact (gotNum_txt hg).elim
        | bad r2 y =>
          have hge : X = .error (r2, y) := HXJ.out.trans (by unfold loopP; rw [hg])
          subst hge
          rw [hg] at HN4
          clear hg
          go_wp2_with fail
          refine HN4.out.mono ?_
          rintro e w2 hd
          obtain ⟨rfl, h1, h2⟩ := hd
          have HE := Lib.hid (show GEnd (.error (r2, y)) q s bc w (.panicked (own s)) w2 from ⟨rfl, h1, HMJ.out.chg.trans (h2.mono fun k hk => Or.inl hk)⟩)
          clear h1 h2
          go_wp2
          show _ ∧ _
          exact ⟨rfl, HE.out⟩
        | num v r2 =>
          have HXV : Hid (X = if 1 < v then .error (r2, 201) else textP2 k v acc r2) := Lib.hid (HXJ.out.trans (by (conv => lhs; unfold loopP; rw [hg]); unfold textP2 textP3; rfl))
          have HR2 := Lib.hid (got_less1 hg)
          rw [hg] at HN4
          clear hg HXJ
          go_wp2_with fail
          refine HN4.out.mono ?_
          rintro e w2 hd
          obtain ⟨rfl, h1, h2⟩ := hd
          have HL2 := Lib.hid h1
          have HC2 := Lib.hid (HMJ.out.chg.trans (h2.mono fun k hk => (Or.inl hk : LS s bc k)))
          obtain ⟨A1, c1, n1, n2⟩ := HMJ.out.blk
          have HB2 := Lib.hid (n1.over h2 HD.out.2.1)
          have HO2 := Lib.hid (show COwn w2 w.heap.size (.slice A1 acc.length c1) acc from n2.chg h2 (fun k hk e => by have := HQ.out.2.1; have := (World.ownsRow.lt n2 k hk).1; omega))
          clear h1 h2 n1 n2 HN4 HMJ
          by_cases hv : 1 < v
          · have hge : X = .error (r2, 201) := HXV.out.trans (if_pos hv)
            subst hge
            have HF := Lib.hid (fail_ok q s 201 r2 w2 HL2.out)
            go_wp2_with fail
            refine HF.out.mono ?_
            rintro e w3 ⟨rfl, h1, h2⟩
            have HE := Lib.hid (show GEnd (.error (r2, 201)) q s bc w (.panicked (own s)) w3 from ⟨rfl, h1, HC2.out.trans (h2.mono fun k hk => Or.inl hk)⟩)
            clear h1 h2
            go_wp2
            show _ ∧ _
            exact ⟨rfl, HE.out⟩
          · have HXT := Lib.hid (HXV.out.trans (if_neg hv))
            have HT1 := Lib.hid (text_got q s 64 r2 HD.out.1 w2 HL2.out)
            have HV := Lib.hid hv
            clear HXV
            cases hg : gotText r2 64 with
            | num t r3 => exact (gotText_num hg).elim
            | bad r3 y =>
              have hge : X = .error (r3, y) := HXT.out.trans (by unfold textP2; rw [hg])
              subst hge
              rw [hg] at HT1
              clear hg
              go_wp2_with fail
              refine HT1.out.mono ?_
              rintro e w3 hd
              obtain ⟨rfl, h1, h2⟩ := hd
              have HE := Lib.hid (show GEnd (.error (r3, y)) q s bc w (.panicked (own s)) w3 from ⟨rfl, h1, HC2.out.trans (h2.mono fun k hk => Or.inl hk)⟩)
              clear h1 h2
              go_wp2
              show _ ∧ _
              exact ⟨rfl, HE.out⟩
            | txt key r3 =>
              have HXU := Lib.hid (show X = textP3 k v acc key r3 from HXT.out.trans (by unfold textP2; rw [hg]))
              have HR3 := Lib.hid (got_lessT hg)
              rw [hg] at HT1
              clear hg HXT
              go_wp2_with fail
              refine HT1.out.mono ?_
              rintro e w4 hd
              obtain ⟨rfl, h1, h2⟩ := hd
              have HL4 := Lib.hid h1
              have HC4 := Lib.hid (HC2.out.trans (h2.mono fun k hk => (Or.inl hk : LS s bc k)))
              have HB4 := Lib.hid (HB2.out.over h2 HD.out.2.1)
              have HO4 := Lib.hid (show COwn w4 w.heap.size (.slice A1 acc.length c1) acc from HO2.out.chg h2 (fun k hk e => by have := HQ.out.2.1; have := (World.ownsRow.lt HO2.out k hk).1; omega))
              have HT2 := Lib.hid (text_got q s 300 r3 HD.out.1 w4.drew ⟨HL4.out.eye, HL4.out.sight⟩)
              have b4 : w4.cell? ⟨bc, 0, none⟩ = some (.slice A1 acc.length c1) := HB4.out.at_ 0
              have HA := Lib.hid (show acc.length ≤ 1000000 by have := HA0.out; have := HRS.out; omega)
              clear h1 h2 HT1 HO2 HB2 HL2
              cases hg : gotText r3 300 with
              | num t r4 => exact (gotText_num hg).elim
              | bad r4 y =>
                have hge : X = .error (r4, y) := HXU.out.trans (by unfold textP3; rw [hg])
                subst hge
                rw [hg] at HT2
                clear hg
                go_wp2_with fail
                refine wp_region_held_drew (S := fun _ => True) (by kernel_rfl) trivial (fun hHeld => ?_)
                refine Vc.wpAnyH_read (i := 1) (d := some 18) (v := ?vb1) (by rfl) (by rfl) (by kernel_rfl) (by kernel_rfl) (by kernel_rfl) (fun _ _ _ h => h) (by rfl) ?hyb1 (by assumption) ?restb1
                case hyb1 =>
                  intro w hSw
                  try dsimp only at hSw
                  go_simp
                  try with_reducible rfl
                (try simp only [Act.put, List.setIfInBounds_toArray, List.set_cons_zero, List.set_cons_succ])
                refine Vc.wpAnyH_read (i := 2) (d := some 19) (v := ?vb2) (by rfl) (by rfl) (by kernel_rfl) (by kernel_rfl) (by kernel_rfl) (fun _ _ _ h => h) (by rfl) ?hyb2 (by assumption) ?restb2
                case hyb2 =>
                  intro w hSw
                  try dsimp only at hSw
                  go_simp
                  try with_reducible rfl
                (try simp only [Act.put, List.setIfInBounds_toArray, List.set_cons_zero, List.set_cons_succ])
                refine Vc.wpAnyH_read (i := 4) (d := some 21) (v := ?vb4) (by rfl) (by rfl) (by kernel_rfl) (by kernel_rfl) (by kernel_rfl) (fun _ _ _ h => h) (by rfl) ?hyb4 (by assumption) ?restb4
                case hyb4 =>
                  intro w hSw
                  try dsimp only at hSw
                  go_simp
                  try with_reducible rfl
                (try simp only [Act.put, List.setIfInBounds_toArray, List.set_cons_zero, List.set_cons_succ])
                refine Vc.wpAnyH_read (i := 5) (d := some 22) (v := ?vb5) (by rfl) (by rfl) (by kernel_rfl) (by kernel_rfl) (by kernel_rfl) (fun _ _ _ h => h) (by rfl) ?hyb5 (by assumption) ?restb5
                case hyb5 =>
                  intro w hSw
                  try dsimp only at hSw
                  go_simp
                  try with_reducible rfl
                (try simp only [Act.put, List.setIfInBounds_toArray, List.set_cons_zero, List.set_cons_succ])
                refine wpAnyH_ready (rs := [0, 3]) (by kernel_rfl) (by simp) ?_
                refine AllReadyH.cons rfl (fun K hK => ?_) (AllReadyH.cons rfl (fun K hK => ?_) AllReadyH.nil)
                · go_simp
                  refine hK.out _ _ trivial (fun hHeld => ?_)
                  clear hK K
                  (try simp only [Act.put, List.setIfInBounds_toArray, List.set_cons_zero, List.set_cons_succ])
                  refine wpAnyH_ready (rs := [3]) (by kernel_rfl) (by simp) ?_
                  refine AllReadyH.cons rfl (fun K hK => ?_) AllReadyH.nil
                  go_simp
                  go_at_call 55
                  refine (HT2.out).mono ?_
                  rintro e w5 hd
                  obtain ⟨rfl, h1, h2⟩ := hd
                  have HE := Lib.hid (show GEnd (.error (r4, y)) q s bc w (.panicked (own s)) w5 from ⟨rfl, h1, HC4.out.drew.trans (h2.mono fun k hk => Or.inl hk)⟩)
                  clear h1 h2
                  go_wp2
                  show _ ∧ _
                  exact ⟨rfl, HE.out⟩
                · go_simp
                  go_at_call 55
                  refine (HT2.out).mono ?_
                  rintro e w5 hd
                  obtain ⟨rfl, h1, h2⟩ := hd
                  have HE := Lib.hid (show GEnd (.error (r4, y)) q s bc w (.panicked (own s)) w5 from ⟨rfl, h1, HC4.out.drew.trans (h2.mono fun k hk => Or.inl hk)⟩)
                  clear h1 h2
                  go_wp2
                  show _ ∧ _
                  exact ⟨rfl, HE.out⟩
              | txt val r4 =>
                have HXN := Lib.hid (show X = loopP k r4 (acc ++ [⟨key, val, v == 1⟩]) from HXU.out.trans (by unfold textP3; rw [hg]))
                have HR4 := Lib.hid (got_lessT hg)
                rw [hg] at HT2
                clear hg HXU
                obtain ⟨ch, hch⟩ : ∃ ch : ChgP, ch = ⟨key, val, v == 1⟩ := ⟨_, rfl⟩
                have HCH := Lib.hid (show (Value.agg #[.string key, .string val, .bool (v == 1)]) = .agg (chC ch) by rw [hch]; rfl)
                rw [← hch] at HXN
                clear hch
                go_wp2_with fail
                refine wp_region_held_drew (S := fun _ => True) (by kernel_rfl) trivial (fun hHeld => ?_)
                refine Vc.wpAnyH_read (i := 1) (d := some 18) (v := ?vg1) (by rfl) (by rfl) (by kernel_rfl) (by kernel_rfl) (by kernel_rfl) (fun _ _ _ h => h) (by rfl) ?hyg1 (by assumption) ?restg1
                case hyg1 =>
                  intro w hSw
                  try dsimp only at hSw
                  go_simp
                  try with_reducible rfl
                (try simp only [Act.put, List.setIfInBounds_toArray, List.set_cons_zero, List.set_cons_succ])
                refine Vc.wpAnyH_read (i := 2) (d := some 19) (v := ?vg2) (by rfl) (by rfl) (by kernel_rfl) (by kernel_rfl) (by kernel_rfl) (fun _ _ _ h => h) (by rfl) ?hyg2 (by assumption) ?restg2
                case hyg2 =>
                  intro w hSw
                  try dsimp only at hSw
                  go_simp
                  try with_reducible rfl
                (try simp only [Act.put, List.setIfInBounds_toArray, List.set_cons_zero, List.set_cons_succ])
                refine Vc.wpAnyH_read (i := 4) (d := some 21) (v := ?vg4) (by rfl) (by rfl) (by kernel_rfl) (by kernel_rfl) (by kernel_rfl) (fun _ _ _ h => h) (by rfl) ?hyg4 (by assumption) ?restg4
                case hyg4 =>
                  intro w hSw
                  try dsimp only at hSw
                  go_simp
                  try with_reducible rfl
                (try simp only [Act.put, List.setIfInBounds_toArray, List.set_cons_zero, List.set_cons_succ])
                refine Vc.wpAnyH_read (i := 5) (d := some 22) (v := ?vg5) (by rfl) (by rfl) (by kernel_rfl) (by kernel_rfl) (by kernel_rfl) (fun _ _ _ h => h) (by rfl) ?hyg5 (by assumption) ?restg5
                case hyg5 =>
                  intro w hSw
                  try dsimp only at hSw
                  go_simp
                  try with_reducible rfl
                (try simp only [Act.put, List.setIfInBounds_toArray, List.set_cons_zero, List.set_cons_succ])
                refine wpAnyH_ready (rs := [0, 3]) (by kernel_rfl) (by simp) ?_
                refine AllReadyH.cons rfl (fun K hK => ?_) (AllReadyH.cons rfl (fun K hK => ?_) AllReadyH.nil)
                · go_simp
                  refine hK.out _ _ trivial (fun hHeld => ?_)
                  clear hK K
                  (try simp only [Act.put, List.setIfInBounds_toArray, List.set_cons_zero, List.set_cons_succ])
                  refine wpAnyH_ready (rs := [3]) (by kernel_rfl) (by simp) ?_
                  refine AllReadyH.cons rfl (fun K hK => ?_) AllReadyH.nil
                  go_simp
                  go_at_call 55
                  refine (HT2.out).mono ?_
                  rintro e w5 hd
                  obtain ⟨rfl, h1, h2⟩ := hd
                  have HL5 := Lib.hid h1
                  have HB5 := Lib.hid (HB4.out.drew.over h2 HD.out.2.1)
                  have HC5 := Lib.hid (HC4.out.drew.trans (h2.mono fun k hk => (Or.inl hk : LS s bc k)))
                  have HO5 := Lib.hid (show COwn w5 w.heap.size (.slice A1 acc.length c1) acc from COwn.chg HO4.out.drew h2 (fun k hk e => by have := HQ.out.2.1; have := (World.ownsRow.lt HO4.out k hk).1; omega))
                  have b5 : w5.cell? ⟨bc, 0, none⟩ = some (.slice A1 acc.length c1) := HB5.out.at_ 0
                  have hb5 := HB5.out.bound
                  clear h1 h2
                  refine hK.out _ _ trivial (fun hHeld => ?_)
                  clear hK K
                  (try simp only [Act.put, List.setIfInBounds_toArray, List.set_cons_zero, List.set_cons_succ])
                  refine Vc.wpAnyH_read (i := 6) (d := some 23) (v := (.agg (chC ch))) (by rfl) (by rfl) (by kernel_rfl) (by kernel_rfl) (by kernel_rfl) (fun _ _ _ h => h) (by rfl) ?hyx6 (by assumption) ?restx6
                  case hyx6 =>
                    intro w hSw
                    rw [← HCH.out]; go_simp; try with_reducible rfl
                  (try simp only [Act.put, List.setIfInBounds_toArray, List.set_cons_zero, List.set_cons_succ])
                  refine wpAnyH_ready (rs := [7]) (by kernel_rfl) (by simp) ?_
                  refine AllReadyH.cons rfl (fun K hK => ?_) AllReadyH.nil
                  refine step_build_ch (.tmp 23) (by rfl) ch ?_
                  refine And.intro ⟨by rfl, by rfl⟩ ?_
                  go_simp
                  refine hK.out _ _ trivial (fun hHeld => ?_)
                  clear hK K
                  (try simp only [Act.put, List.setIfInBounds_toArray, List.set_cons_zero, List.set_cons_succ])
                  refine wpAnyH_ready (rs := [8]) (by kernel_rfl) (by simp) ?_
                  refine AllReadyH.cons rfl (fun K hK => ?_) AllReadyH.nil
                  refine step_append_lies _ (by rfl) (.tmp 17) (.tmp 24) 22 (by rfl) w.heap.size 53 i0 (.agg (chC ch0)) 3 40 Try.underlying22 HI.out.1 HI.out.2.1 HI.out.2.2.1 HI.out.2.2.2 rfl (by decide) (.slice A1 acc.length c1) acc.length (acc.flatMap chL) (by rfl) (World.ownsRow.alloc HO5.out _) ⟨w5.heap.size, 0, none⟩ 1 1 (chL ch) (by rfl) rfl ?c1x ?c2x (by decide) (by unfold maxLen; have := HA.out; omega) (by have := HA.out; omega) (by have := HC5.out.size; simp; omega) _ rfl ?_
                  case c1x => exact World.news_of_block (Has.fresh w5 53 (chC ch))
                  case c2x => exact fun u hu => (Array.all_eq_true_iff_forall_mem.1 (chC_one ch)) u (by simpa [chL] using hu)
                  intro g' cap w7 ho hg2 hor hlt7
                  go_simp
                  have HQ7 := Lib.hid (look_post (HQ.out) HD.out HL5.out HB5.out HO5.out HC5.out ho hg2)
                  clear ho hg2 hor hlt7
                  have d0 : w7.cell? ⟨bc, 0, none⟩ = some (.slice A1 acc.length c1) := HQ7.out.1.at_ 0
                  have e0 := HQ7.out.1.free 0
                  refine hK.out _ _ trivial (fun hHeld => ?_)
                  clear hK K
                  (try simp only [Act.put, List.setIfInBounds_toArray, List.set_cons_zero, List.set_cons_succ])
                  refine wpAnyH_ready (rs := [9]) (by kernel_rfl) (by simp) ?_
                  refine AllReadyH.cons rfl (fun K hK => ?_) AllReadyH.nil
                  go_simp
                  refine hK.out _ _ trivial (fun hHeld => ?_)
                  clear hK K
                  (try simp only [Act.put, List.setIfInBounds_toArray, List.set_cons_zero, List.set_cons_succ])
                  refine wpAnyH_done (by kernel_rfl) ?_ _
                  go_wp2
                  go_roundw
                  case rel => exact ⟨j + 1, acc ++ [ch], r4, by have := HLT.out; omega, by go_num, Lib.hid ⟨by rw [List.length_append, HA0.out.1]; rfl, by have := HA0.out.2; have := HR2.out; have := HR3.out; have := HR4.out; omega⟩, Lib.hid (by rw [HK.out]; exact HXN.out), Lib.hid HQ7.out.2⟩
                  case measure => have := HLT.out; simp [intOf]; omega
                · go_simp
                  go_at_call 55
                  refine (HT2.out).mono ?_
                  rintro e w5 hd
                  obtain ⟨rfl, h1, h2⟩ := hd
                  have HL5 := Lib.hid h1
                  have HB5 := Lib.hid (HB4.out.drew.over h2 HD.out.2.1)
                  have HC5 := Lib.hid (HC4.out.drew.trans (h2.mono fun k hk => (Or.inl hk : LS s bc k)))
                  have HO5 := Lib.hid (show COwn w5 w.heap.size (.slice A1 acc.length c1) acc from COwn.chg HO4.out.drew h2 (fun k hk e => by have := HQ.out.2.1; have := (World.ownsRow.lt HO4.out k hk).1; omega))
                  have b5 : w5.cell? ⟨bc, 0, none⟩ = some (.slice A1 acc.length c1) := HB5.out.at_ 0
                  have hb5 := HB5.out.bound
                  clear h1 h2
                  refine hK.out _ _ trivial (fun hHeld => ?_)
                  clear hK K
                  (try simp only [Act.put, List.setIfInBounds_toArray, List.set_cons_zero, List.set_cons_succ])
                  refine Vc.wpAnyH_read (i := 6) (d := some 23) (v := (.agg (chC ch))) (by rfl) (by rfl) (by kernel_rfl) (by kernel_rfl) (by kernel_rfl) (fun _ _ _ h => h) (by rfl) ?hyy6 (by assumption) ?resty6
                  case hyy6 =>
                    intro w hSw
                    rw [← HCH.out]; go_simp; try with_reducible rfl
                  (try simp only [Act.put, List.setIfInBounds_toArray, List.set_cons_zero, List.set_cons_succ])
                  refine wpAnyH_ready (rs := [0, 7]) (by kernel_rfl) (by simp) ?_
                  refine AllReadyH.cons rfl (fun K hK => ?_) (AllReadyH.cons rfl (fun K hK => ?_) AllReadyH.nil)
                  · go_simp
                    refine hK.out _ _ trivial (fun hHeld => ?_)
                    clear hK K
                    (try simp only [Act.put, List.setIfInBounds_toArray, List.set_cons_zero, List.set_cons_succ])
                    refine wpAnyH_ready (rs := [7]) (by kernel_rfl) (by simp) ?_
                    refine AllReadyH.cons rfl (fun K hK => ?_) AllReadyH.nil
                    refine step_build_ch (.tmp 23) (by rfl) ch ?_
                    refine And.intro ⟨by rfl, by rfl⟩ ?_
                    go_simp
                    refine hK.out _ _ trivial (fun hHeld => ?_)
                    clear hK K
                    (try simp only [Act.put, List.setIfInBounds_toArray, List.set_cons_zero, List.set_cons_succ])
                    refine wpAnyH_ready (rs := [8]) (by kernel_rfl) (by simp) ?_
                    refine AllReadyH.cons rfl (fun K hK => ?_) AllReadyH.nil
                    refine step_append_lies _ (by rfl) (.tmp 17) (.tmp 24) 22 (by rfl) w.heap.size 53 i0 (.agg (chC ch0)) 3 40 Try.underlying22 HI.out.1 HI.out.2.1 HI.out.2.2.1 HI.out.2.2.2 rfl (by decide) (.slice A1 acc.length c1) acc.length (acc.flatMap chL) (by rfl) (World.ownsRow.alloc HO5.out _) ⟨w5.heap.size, 0, none⟩ 1 1 (chL ch) (by rfl) rfl ?c1y ?c2y (by decide) (by unfold maxLen; have := HA.out; omega) (by have := HA.out; omega) (by have := HC5.out.size; simp; omega) _ rfl ?_
                    case c1y => exact World.news_of_block (Has.fresh w5 53 (chC ch))
                    case c2y => exact fun u hu => (Array.all_eq_true_iff_forall_mem.1 (chC_one ch)) u (by simpa [chL] using hu)
                    intro g' cap w7 ho hg2 hor hlt7
                    go_simp
                    have HQ7 := Lib.hid (look_post (HQ.out) HD.out HL5.out HB5.out HO5.out HC5.out ho hg2)
                    clear ho hg2 hor hlt7
                    have d0 : w7.cell? ⟨bc, 0, none⟩ = some (.slice A1 acc.length c1) := HQ7.out.1.at_ 0
                    have e0 := HQ7.out.1.free 0
                    refine hK.out _ _ trivial (fun hHeld => ?_)
                    clear hK K
                    (try simp only [Act.put, List.setIfInBounds_toArray, List.set_cons_zero, List.set_cons_succ])
                    refine wpAnyH_ready (rs := [9]) (by kernel_rfl) (by simp) ?_
                    refine AllReadyH.cons rfl (fun K hK => ?_) AllReadyH.nil
                    go_simp
                    refine hK.out _ _ trivial (fun hHeld => ?_)
                    clear hK K
                    (try simp only [Act.put, List.setIfInBounds_toArray, List.set_cons_zero, List.set_cons_succ])
                    refine wpAnyH_done (by kernel_rfl) ?_ _
                    go_wp2
                    go_roundw
                    case rel => exact ⟨j + 1, acc ++ [ch], r4, by have := HLT.out; omega, by go_num, Lib.hid ⟨by rw [List.length_append, HA0.out.1]; rfl, by have := HA0.out.2; have := HR2.out; have := HR3.out; have := HR4.out; omega⟩, Lib.hid (by rw [HK.out]; exact HXN.out), Lib.hid HQ7.out.2⟩
                    case measure => have := HLT.out; simp [intOf]; omega
                  · refine step_build_ch (.tmp 23) (by rfl) ch ?_
                    refine And.intro ⟨by rfl, by rfl⟩ ?_
                    go_simp
                    refine hK.out _ _ trivial (fun hHeld => ?_)
                    clear hK K
                    (try simp only [Act.put, List.setIfInBounds_toArray, List.set_cons_zero, List.set_cons_succ])
                    refine wpAnyH_ready (rs := [0]) (by kernel_rfl) (by simp) ?_
                    refine AllReadyH.cons rfl (fun K hK => ?_) AllReadyH.nil
                    go_simp
                    refine hK.out _ _ trivial (fun hHeld => ?_)
                    clear hK K
                    (try simp only [Act.put, List.setIfInBounds_toArray, List.set_cons_zero, List.set_cons_succ])
                    refine wpAnyH_ready (rs := [8]) (by kernel_rfl) (by simp) ?_
                    refine AllReadyH.cons rfl (fun K hK => ?_) AllReadyH.nil
                    refine step_append_lies _ (by rfl) (.tmp 17) (.tmp 24) 22 (by rfl) w.heap.size 53 i0 (.agg (chC ch0)) 3 40 Try.underlying22 HI.out.1 HI.out.2.1 HI.out.2.2.1 HI.out.2.2.2 rfl (by decide) (.slice A1 acc.length c1) acc.length (acc.flatMap chL) (by rfl) (World.ownsRow.alloc HO5.out _) ⟨w5.heap.size, 0, none⟩ 1 1 (chL ch) (by rfl) rfl ?c1z ?c2z (by decide) (by unfold maxLen; have := HA.out; omega) (by have := HA.out; omega) (by have := HC5.out.size; simp; omega) _ rfl ?_
                    case c1z => exact World.news_of_block (Has.fresh w5 53 (chC ch))
                    case c2z => exact fun u hu => (Array.all_eq_true_iff_forall_mem.1 (chC_one ch)) u (by simpa [chL] using hu)
                    intro g' cap w7 ho hg2 hor hlt7
                    go_simp
                    have HQ7 := Lib.hid (look_post (HQ.out) HD.out HL5.out HB5.out HO5.out HC5.out ho hg2)
                    clear ho hg2 hor hlt7
                    have d0 : w7.cell? ⟨bc, 0, none⟩ = some (.slice A1 acc.length c1) := HQ7.out.1.at_ 0
                    have e0 := HQ7.out.1.free 0
                    refine hK.out _ _ trivial (fun hHeld => ?_)
                    clear hK K
                    (try simp only [Act.put, List.setIfInBounds_toArray, List.set_cons_zero, List.set_cons_succ])
                    refine wpAnyH_ready (rs := [9]) (by kernel_rfl) (by simp) ?_
                    refine AllReadyH.cons rfl (fun K hK => ?_) AllReadyH.nil
                    go_simp
                    refine hK.out _ _ trivial (fun hHeld => ?_)
                    clear hK K
                    (try simp only [Act.put, List.setIfInBounds_toArray, List.set_cons_zero, List.set_cons_succ])
                    refine wpAnyH_done (by kernel_rfl) ?_ _
                    go_wp2
                    go_roundw
                    case rel => exact ⟨j + 1, acc ++ [ch], r4, by have := HLT.out; omega, by go_num, Lib.hid ⟨by rw [List.length_append, HA0.out.1]; rfl, by have := HA0.out.2; have := HR2.out; have := HR3.out; have := HR4.out; omega⟩, Lib.hid (by rw [HK.out]; exact HXN.out), Lib.hid HQ7.out.2⟩
                    case measure => have := HLT.out; simp [intOf]; omega
      · obtain rfl : j = m := by omega
        rw [Nat.sub_self] at HXJ
        have HE := Lib.hid (show GEnd X q s bc w (.returned (.tuple #[])) wr from by
          have e : X = .ok (acc, rj) := HXJ.out
          subst e
          obtain ⟨A1, c1, n1, n2⟩ := HMJ.out.blk
          exact ⟨rfl, HMJ.out.looks, ⟨_, n1, n2⟩, HMJ.out.chg⟩)
        go_wp2
        go_end0
        exact HE.out
end Go.Proofs.Ytepnckglnciinaa.Sm
