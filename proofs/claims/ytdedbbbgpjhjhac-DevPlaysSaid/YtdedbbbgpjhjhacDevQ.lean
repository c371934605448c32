/- The document's own device: writing, reading, fuse. -/
import Derived.Test.YtdedbbbgpjhjhacDevP
namespace Go.Proofs.Ytdedbbbgpjhjhac.Dv
open Go.RowKit
open Mem
open Rws

set_option maxRecDepth 100000 in
set_option maxHeartbeats 1000000 in
theorem rwrite_all (p a b c : Nat) (d : St) (i : Int) (s : ByteArray) (w : World) (h : RefIs w p a b c d) :
    Calls Try.prog 35 #[.pointer (some ⟨p, 0, none⟩), .int .i64 i, .string s] w fun e w' => e = .returned (.int .i64 (wrE d i s)) ∧ RefIs w' p a b c (wrD d i s) ∧ Chg (ROwn p a b c) w w' := by
  have c0 := Has.at_ h.obj 0
  have c3 := Has.at_ h.obj 3
  have HH := Lib.hid h
  have hsz := h.hi
  simp at c0 c3
  cases ho : d.on with
  | false =>
    have e1 : wrD d i s = d := if_neg (fun k => by rw [ho] at k; cases k.1)
    have e2 : wrE d i s = 5 := if_pos ho
    rw [e1, e2]
    rw [ho] at c3
    clear e1 e2 h
    go_enter Try.func35, Try.ntmps35
    go_wp2
    go_ret
    exact ⟨rfl, HH.out, Chg.refl _ _⟩
  | true =>
    rw [ho] at c3
    by_cases hb : inside d i = false ∨ 4096 < s.size
    · have e1 : wrD d i s = d := if_neg (fun k => by
        rcases hb with hb | hb
        · rw [hb] at k; cases k.2.1
        · omega)
      have e2 : wrE d i s = 22 := by unfold wrE; rw [if_neg (by rw [ho]; decide), if_pos hb]
      rw [e1, e2]
      have hin := inside_iff d i
      clear e1 e2 h
      by_cases j1 : i < 0
      · clear hb hin
        go_enter Try.func35, Try.ntmps35
        go_wp2
        go_ret
        exact ⟨rfl, HH.out, Chg.refl _ _⟩
      · by_cases j2 : (d.size : Int) ≤ i
        · clear hb hin
          go_enter Try.func35, Try.ntmps35
          go_wp2
          go_ret
          exact ⟨rfl, HH.out, Chg.refl _ _⟩
        · have j3 : 4096 < (s.size : Int) := by
            rcases hb with hb | hb
            · have := hin.2 ⟨by omega, by omega⟩
              rw [this] at hb
              cases hb
            · omega
          clear hb hin
          go_enter Try.func35, Try.ntmps35
          go_wp2
          go_ret
          exact ⟨rfl, HH.out, Chg.refl _ _⟩
    · have hi : inside d i = true := by
        cases hq : inside d i with
        | true => rfl
        | false => exact absurd (.inl hq) hb
      have hs : s.size ≤ 4096 := by
        rcases Nat.lt_or_ge 4096 s.size with k | k
        · exact absurd (.inr k) hb
        · exact k
      have hin := (inside_iff d i).1 hi
      have e1 : wrD d i s = writeD d i s := if_pos ⟨ho, hi, hs⟩
      have e2 : wrE d i s = actE d := by unfold wrE; rw [if_neg (by rw [ho]; decide), if_neg hb]
      rw [e1, e2]
      have HA := Lib.hid (ract_any p a b c d w h)
      obtain ⟨I, rfl⟩ := Int.eq_ofNat_of_zero_le hin.1
      have hI : I < d.size := by omega
      have j3 : ¬ 4096 < (s.size : Int) := by omega
      clear e1 e2 h hb hi
      by_cases h0 : d.fuse = 0
      · have e1 : writeD d I s = act d := if_pos h0
        have e2 : actE d = 5 := if_pos h0
        rw [e1, e2]
        have ef : decide (d.fuse ≠ 0) = false := decide_eq_false (fun k => k h0)
        rw [ef] at HA
        clear e1 e2 ef h0
        go_enter Try.func35, Try.ntmps35
        go_wp2_with fail
        refine HA.out.mono ?_
        rintro e w1 ⟨rfl, h1, g1, _⟩
        go_wp2
        go_ret
        exact ⟨rfl, h1, g1⟩
      · have e1 : writeD d I s = putD (act d) I s := if_neg h0
        have e2 : actE d = 0 := if_neg h0
        rw [e1, e2]
        have ef : decide (d.fuse ≠ 0) = true := decide_eq_true h0
        rw [ef] at HA
        clear e1 e2 ef h0
        go_enter Try.func35, Try.ntmps35
        go_wp2_with fail
        refine HA.out.mono ?_
        rintro e w1 ⟨rfl, h1, g1, _⟩
        have c0 := Has.at_ h1.obj 1
        have c1 := Has.at_ h1.obj 2
        simp at c0 c1
        obtain ⟨df, q1, _⟩ := h1.dirt
        have es := act_size d
        rw [es] at c0 c1 q1
        have cb := (Has.at_ q1 I).trans (mk_get _ _ I hI)
        have fb := Has.free q1 I
        have q2 := h1.is_
        rw [es] at q2
        have q2 := Has.keep q2 (p := ⟨b, I, none⟩) (fun e => h1.apart.2.2.2 e.symm) (.string s)
        have cc := (Has.at_ q2 I).trans (mk_get _ _ I hI)
        have fc := Has.free q2 I
        have cp := (Has.at_ (Has.keep h1.obj (p := ⟨b, I, none⟩) h1.apart.1.2.1 (.string s)) 2)
        simp at cp
        rw [es] at cp
        have H1 := Lib.hid (And.intro h1 g1)
        clear h1 g1 es q1 q2
        go_wp2
        go_ret
        exact ⟨rfl, H1.out.1.put_dirt I s, H1.out.2.trans ((chg_set (.inr (.inr (.inl rfl))) _).trans (chg_set (.inr (.inr (.inr rfl))) _))⟩
set_option maxRecDepth 100000 in
set_option maxHeartbeats 1000000 in
theorem rread_all (p a b c : Nat) (d : St) (i : Int) (w : World) (h : RefIs w p a b c d) :
    Calls Try.prog 22 #[.pointer (some ⟨p, 0, none⟩), .int .i64 i] w fun e w' => e = .returned (.tuple #[.string (rdS d i), .int .i64 (rdE d i)]) ∧ Below w.heap.size w w' := by
  have c0 := Has.at_ h.obj 0
  have c1 := Has.at_ h.obj 1
  have c2 := Has.at_ h.obj 2
  have c3 := Has.at_ h.obj 3
  have hsz := h.hi
  simp at c0 c1 c2 c3
  cases ho : d.on with
  | false =>
    have e1 : rdS d i = ⟨#[]⟩ := if_neg (fun k => by rw [ho] at k; cases k.1)
    have e2 : rdE d i = 5 := if_pos ho
    rw [e1, e2]
    rw [ho] at c3
    clear e1 e2 h
    go_enter Try.func22, Try.ntmps22
    go_wp2
    go_ret2
    exact ⟨rfl, Below.refl _ _⟩
  | true =>
    rw [ho] at c3
    cases hi : inside d i with
    | false =>
      have e1 : rdS d i = ⟨#[]⟩ := if_neg (fun k => by rw [hi] at k; cases k.2)
      have e2 : rdE d i = 22 := by unfold rdE; rw [if_neg (by rw [ho]; decide), if_pos hi]
      rw [e1, e2]
      have hin := inside_iff d i
      rw [hi] at hin
      clear e1 e2 h
      by_cases j1 : i < 0
      · clear hin
        go_enter Try.func22, Try.ntmps22
        go_wp2
        go_ret2
        exact ⟨rfl, Below.refl _ _⟩
      · have j2 : (d.size : Int) ≤ i := by
          rcases Int.lt_or_le i d.size with k | k
          · have := hin.2 ⟨by omega, k⟩
            cases this
          · exact k
        clear hin
        go_enter Try.func22, Try.ntmps22
        go_wp2
        go_ret2
        exact ⟨rfl, Below.refl _ _⟩
    | true =>
      have hin := (inside_iff d i).1 hi
      have e1 : rdS d i = readS d i := if_pos ⟨ho, hi⟩
      have e2 : rdE d i = 0 := by unfold rdE; rw [if_neg (by rw [ho]; decide), if_neg (by rw [hi]; decide)]
      rw [e1, e2]
      obtain ⟨I, rfl⟩ := Int.eq_ofNat_of_zero_le hin.1
      have hI : I < d.size := by omega
      obtain ⟨df, q1, q2⟩ := h.dirt
      have cb := (Has.at_ q1 I).trans (mk_get _ _ I hI)
      have cc := (Has.at_ h.is_ I).trans (mk_get _ _ I hI)
      have ca := (Has.at_ h.kept I).trans (mk_get _ _ I hI)
      cases hq : d.dirty (I : Int) with
      | some s =>
        have e3 : readS d I = s := by unfold readS; rw [hq]; rfl
        rw [hq] at cc
        have hd := q2 I hI s hq
        rw [hd] at cb
        rw [e3]
        simp only [Option.isSome_some] at cc
        clear e1 e2 e3 h hin hi hq hd q1 q2 ca
        go_enter Try.func22, Try.ntmps22
        go_wp2
        go_ret2
        exact ⟨rfl, Below.refl _ _⟩
      | none =>
        have e3 : readS d I = (d.kept I).getD ⟨#[]⟩ := by unfold readS; rw [hq]; rfl
        rw [hq] at cc
        rw [e3]
        simp only [Option.isSome_none] at cc
        generalize (d.kept (I : Int)).getD ⟨#[]⟩ = t at *
        clear e1 e2 e3 h hin hi hq q1 q2 cb
        go_enter Try.func22, Try.ntmps22
        go_wp2
        go_ret2
        exact ⟨rfl, Below.refl _ _⟩
set_option maxRecDepth 100000 in
theorem rfuse_all (p a b c : Nat) (d : St) (n : Int) (hn : n ≤ 9223372036854775807) (w : World) (h : RefIs w p a b c d) :
    Calls Try.prog 37 #[.pointer (some ⟨p, 0, none⟩), .int .i64 n] w fun e w' => e = .returned (.int .i64 (fuE d)) ∧ RefIs w' p a b c (fuD d n) ∧ Chg (ROwn p a b c) w w' := by
  have c3 := Has.at_ h.obj 3
  have c4 := Has.at_ h.obj 4
  have f4 := Has.free h.obj 4
  have HH := Lib.hid h
  simp at c3 c4
  cases ho : d.on with
  | false =>
    have e1 : fuD d n = d := if_neg (by rw [ho]; decide)
    have e2 : fuE d = 5 := if_neg (by rw [ho]; decide)
    rw [e1, e2]
    rw [ho] at c3
    clear e1 e2 h
    go_enter Try.func37, Try.ntmps37
    go_wp2
    go_ret
    exact ⟨rfl, HH.out, Chg.refl _ _⟩
  | true =>
    have e1 : fuD d n = fuseSt d n := if_pos ho
    have e2 : fuE d = 0 := if_pos ho
    rw [e1, e2]
    rw [ho] at c3
    have HF := Lib.hid (h.put_fuse (max n (-1)) (by omega) (by omega))
    clear e1 e2 h ho
    rcases Int.lt_trichotomy n (-1) with k | k | k
    · have k2 : ¬ -1 < n := by omega
      go_enter Try.func37, Try.ntmps37
      go_wp2
      go_ret
      exact ⟨rfl, HF.out, chg_set (.inl rfl) _⟩
    · subst k
      have k1 : ¬ (-1 : Int) < -1 := by omega
      go_enter Try.func37, Try.ntmps37
      go_wp2
      go_ret
      exact ⟨rfl, HF.out, chg_set (.inl rfl) _⟩
    · have k2 : ¬ n < -1 := by omega
      go_enter Try.func37, Try.ntmps37
      go_wp2
      go_ret
      exact ⟨rfl, HF.out, chg_set (.inl rfl) _⟩
end Go.Proofs.Ytdedbbbgpjhjhac.Dv
