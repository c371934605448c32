/- The document's own device: crashing, starting. -/
import Derived.Test.YtdedbbbgpjhjhacDevR
namespace Go.Proofs.Ytdedbbbgpjhjhac.Dv
open Go.RowKit
open Mem
open Rws

theorem numrow_chg {S : Nat → Prop} {w w' : World} {A : Option Addr} {n : Nat} {l : List Int} (h : NumRow w A n l) (hc : Chg S w w') (hs : 0 < n → ∀ a, A = some a → ¬ S a.block) : NumRow w' A n l :=
  ⟨h.1, fun hn => by
    obtain ⟨b, off, e, hl, hx⟩ := h.2 hn
    exact ⟨b, off, e, Nat.lt_of_lt_of_le hl hc.size, fun i hi => (chg_cell hc hl (hs hn _ e)).trans (hx i hi)⟩⟩
/-- Block j, of which the first m numbers were asked. -/
def midC (d : St) (ks : List Int) (j m : Nat) : St := { midG d (keepD d ks) j with kept := fun z => if z = (j : Int) then keepD d (ks.take m) j else (midG d (keepD d ks) j).kept z }
theorem keep_next (d : St) (ks : List Int) (m : Nat) (hm : m < ks.length) (z : Int) : keepD d (ks.take (m + 1)) z = if z = ks[m] then (d.dirty z).or (d.kept z) else keepD d (ks.take m) z := by
  rw [List.take_succ_eq_append_getElem hm, keep_snoc]
  by_cases h : z = ks[m]
  · subst h; simp
  · simp only [if_neg h]
theorem keep_none (d : St) (ks : List Int) (z : Int) (h : d.dirty z = none) : keepD d ks z = d.kept z := by
  unfold keepD
  rw [h]
  split <;> rfl
set_option maxRecDepth 100000 in
set_option maxHeartbeats 2000000 in
theorem rcrash_any (p a b c : Nat) (d : St) (A : Option Addr) (n q : Nat) (ks : List Int) (w : World) (hn : n ≤ 9223372036854775807) (hr : NumRow w A n ks) (h : RefIs w p a b c d) (hA : 0 < n → ∀ ad, A = some ad → ¬ ROwn p a b c ad.block) :
    Calls Try.prog 38 #[.pointer (some ⟨p, 0, none⟩), .slice A n q] w fun e w' => e = .returned (.int .i64 0) ∧ RefIs w' p a b c (crashD d ks) ∧ Chg (ROwn p a b c) w w' := by
  have c2 := Has.at_ h.obj 2
  simp at c2
  have HH := Lib.hid h
  have hsz := h.hi
  have HK := Lib.hid (And.intro hr hA)
  clear h hr hA
  go_enter Try.func38, Try.ntmps38
  go_wp2
  go_loopw [13] (fun z wr => ∃ j : Nat, j ≤ d.size ∧ z = .int .i64 j ∧ RefIs wr p a b c (midG d (keepD d ks) j) ∧ Chg (ROwn p a b c) w wr) (fun z _ => d.size - (intOf z).toNat)
  case atStart => exact ⟨0, Nat.zero_le _, rfl, midG_zero _ HH.out, Chg.refl _ _⟩
  case round =>
    obtain ⟨j, hj, rfl, hR, hC⟩ := hrel
    have HC := Lib.hid hC
    have HR := Lib.hid hR
    clear hC hR
    by_cases hlt : j < d.size
    · have H0 := Lib.hid (show RefIs wr p a b c (midC d ks j 0) from HR.out.congr rfl rfl rfl (fun i _ => ⟨by
        show (if (i : Int) = j then keepD d (ks.take 0) j else (midG d (keepD d ks) j).kept i) = _
        by_cases hi : (i : Int) = j
        · rw [if_pos hi, hi]
          show (if (j : Int) ∈ [] then _ else d.kept j) = if (j : Int) < j then _ else d.kept j
          rw [if_neg (by simp), if_neg (by omega)]
        · rw [if_neg hi], rfl⟩))
      clear HR
      obtain ⟨wo, hwo⟩ : ∃ wo : World, wo = wr := ⟨_, rfl⟩
      subst hwo
      go_wp2
      go_loopw [18] (fun z wq => ∃ m : Nat, m ≤ n ∧ z = .int .i64 m ∧ RefIs wq p a b c (midC d ks j m) ∧ Chg (ROwn p a b c) w wq) (fun z _ => n - (intOf z).toNat)
      case atStart => exact ⟨0, Nat.zero_le _, rfl, H0.out, HC.out⟩
      case round =>
        obtain ⟨m, hm, rfl, hR, hC2⟩ := hrel
        have HC2 := Lib.hid hC2
        have HR := Lib.hid hR
        have hez : (midC d ks j m).size = d.size := rfl
        have c0 := Has.at_ hR.obj 0
        have c1 := Has.at_ hR.obj 1
        have c2 := Has.at_ hR.obj 2
        simp at c0 c1 c2
        rw [hez] at c0 c1 c2
        clear hC2 hR hez
        have cc := (Has.at_ HR.out.is_ j).trans (mk_get _ _ j hlt)
        have ed : (midC d ks j m).dirty (j : Int) = d.dirty j := if_neg (by omega)
        by_cases hml : m < n
        · obtain ⟨kb, ko, rfl, hkb, hkc⟩ := (numrow_chg HK.out.1 HC2.out HK.out.2).2 (by omega)
          have mk1 : m < ks.length := by rw [HK.out.1.1]; exact hml
          have ck := hkc m mk1
          have HN := Lib.hid (keep_next d ks m mk1 j)
          clear hkb hkc
          generalize ks[m] = k at *
          clear mk1
          by_cases hkj : k = (j : Int)
          · have t1 : (k == (j : Int)) = true := by rw [hkj]; simp
            obtain ⟨df, q1, q2⟩ := HR.out.dirt
            have cb := (Has.at_ q1 j).trans (mk_get _ _ j hlt)
            cases hq : d.dirty (j : Int) with
            | none =>
              rw [ed, hq] at cc
              simp only [Option.isSome_none] at cc
              have hnx := Lib.hid (show RefIs wr p a b c (midC d ks j (m + 1)) from HR.out.congr rfl rfl rfl (fun i _ => ⟨by
                show (if (i : Int) = j then keepD d (ks.take (m + 1)) j else _) = if (i : Int) = j then keepD d (ks.take m) j else _
                rw [keep_none d _ _ hq, keep_none d _ _ hq], rfl⟩))
              clear c0 c1 cb q1 q2 ed hkj
              go_wp2
              go_roundw
              case rel => exact ⟨m + 1, by omega, by go_num, hnx.out, HC2.out⟩
              case measure => simp [intOf]; omega
            | some s =>
              rw [ed, hq] at cc
              simp only [Option.isSome_some] at cc
              have e2 := q2 j hlt s (by rw [ed]; exact hq)
              rw [e2] at cb
              have ca := (Has.at_ HR.out.kept j).trans (mk_get _ _ j hlt)
              have fa := Has.free HR.out.kept j
              have hv := Lib.hid (show keepD d (ks.take (m + 1)) (j : Int) = some s by rw [HN.out, if_pos hkj.symm, hq]; rfl)
              clear q1 q2 e2 ed hkj HN
              go_wp2
              go_region
              have hk := Lib.hid ((HR.out.put_kept j s).drew)
              have hck := Lib.hid ((chg_set (S := ROwn p a b c) (w := wr) (g := a) (i := j) (.inr (.inl rfl)) (.string s)).drew)
              have hnx := Lib.hid (show RefIs (wr.setCell ⟨a, j, none⟩ (.string s)).drew p a b c (midC d ks j (m + 1)) from hk.out.congr rfl rfl rfl (fun i _ => ⟨by
                show (if (i : Int) = j then keepD d (ks.take (m + 1)) j else _) = if (i : Int) = j then some s else if (i : Int) = j then _ else _
                rw [hv.out]
                by_cases hi : (i : Int) = j
                · rw [if_pos hi, if_pos hi]
                · rw [if_neg hi, if_neg hi, if_neg hi], rfl⟩))
              clear hk
              go_wp2
              go_roundw
              case rel => exact ⟨m + 1, by omega, by go_num, hnx.out, HC2.out.trans hck.out⟩
              case measure => simp [intOf]; omega
          · have t1 : (k == (j : Int)) = false := beq_eq_false_iff_ne.2 hkj
            have hnx := Lib.hid (show RefIs wr p a b c (midC d ks j (m + 1)) from HR.out.congr rfl rfl rfl (fun i _ => ⟨by
              show (if (i : Int) = j then keepD d (ks.take (m + 1)) j else _) = if (i : Int) = j then keepD d (ks.take m) j else _
              rw [show keepD d (ks.take (m + 1)) (j : Int) = keepD d (ks.take m) j from HN.out.trans (if_neg (fun e => hkj e.symm))], rfl⟩))
            clear c0 c1 cc ed hkj
            go_wp2
            go_roundw
            case rel => exact ⟨m + 1, by omega, by go_num, hnx.out, HC2.out⟩
            case measure => simp [intOf]; omega
        · obtain rfl : m = n := by omega
          have fc := Has.free HR.out.is_ j
          have hnx := Lib.hid (midG_next (d := d) (keepD d ks) j (HR.out.put_is j) rfl rfl rfl (fun z => by
            show (if z = (j : Int) then keepD d (ks.take m) j else _) = _
            rw [List.take_of_length_le (by rw [HK.out.1.1]; exact Nat.le_refl _)]) (fun z => rfl))
          clear c0 c1 hml hm
          go_wp2
          go_roundw
          case rel => exact ⟨j + 1, by omega, by go_num, hnx.out, HC2.out.trans (chg_set (.inr (.inr (.inr rfl))) _)⟩
          case measure => simp [intOf]; omega
    · obtain rfl : j = d.size := by omega
      have hR := midG_done HR.out
      have c3 := Has.at_ hR.obj 3
      have f3 := Has.free hR.obj 3
      have h4 := hR.put_power false
      have c4 := Has.at_ h4.obj 4
      have f4 := Has.free h4.obj 4
      have hf := Lib.hid (h4.put_fuse (-1) (by decide) (by decide))
      simp at c3 c4
      simp only [Bool.not_false] at f4
      clear HR hR hlt hj h4
      go_wp2
      go_ret
      exact ⟨rfl, hf.out, HC.out.trans ((chg_set (.inl rfl) _).trans (chg_set (.inl rfl) _))⟩
end Go.Proofs.Ytdedbbbgpjhjhac.Dv
