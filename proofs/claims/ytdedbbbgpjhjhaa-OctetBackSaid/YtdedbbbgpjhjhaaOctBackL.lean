/- The look of the law OctetBack: what was put is seen, number by number and text by text. -/
import Derived.Test.YtdedbbbgpjhjhaaOctText
import Derived.Test.YtdedbbbgpjhjhaaOctIdle
import Derived.Test.YtdedbbbgpjhjhaaOpenNS
namespace Go.Proofs.Ytdedbbbgpjhjhaa.Oct
open Go.RowKit
open Rws

theorem Looks.below {w w' : World} {q s : Nat} {r : ByteArray} (h : Looks w q s r) (hb : Below w.heap.size w w') : Looks w' q s r :=
  ⟨h.eye.below hb, Has.below h.sight hb⟩
theorem Owns.lens {w : World} {B : Nat} {v : Value} {l : List UInt8} (h : Owns w B v l) : ∃ A cap, v = .slice A l.length cap ∧ RowB w A l.length l ∧ (A = none → l.length = 0 ∧ cap = 0) := by
  obtain ⟨A, cap, rfl, h0⟩ := h.slice
  exact ⟨A, cap, rfl, h.row rfl, h0⟩
def nB (K : Nat) (x : Int) : List UInt8 := putL (IntKind.u64.wrap x).toNat K
def tB (t : ByteArray) : List UInt8 := [UInt8.ofNat (t.data.toList.length / 256), UInt8.ofNat (t.data.toList.length % 256)] ++ t.data.toList
theorem nB_len (K : Nat) (x : Int) : (nB K x).length = K := putL_len _ _
/-- What the look stands on. -/
structure Bk (w0 w : World) (q s bN bW bO bT K : Nat) (A D : Option Addr) (n c m d : Nat) (xs : List Int) (ts : List ByteArray) : Prop where
  old : Below w0.heap.size w0 w
  nums : NumRow w0 A n xs
  txts : TxtRow w0 D m ts
  hn : Has w bN 34 #[.slice A n c]
  hw : Has w bW 3 #[.int .i64 K]
  ht : Has w bT 35 #[.slice D m d]
theorem Bk.chg {S : Nat → Prop} {w0 w w' : World} {q s bN bW bO bT K : Nat} {A D : Option Addr} {n c m d : Nat} {xs : List Int} {ts : List ByteArray} (h : Bk w0 w q s bN bW bO bT K A D n c m d xs ts)
    (hc : Chg S w w') (h0 : ∀ k, k < w0.heap.size → ¬ S k) (h1 : ¬ S bN) (h2 : ¬ S bW) (h3 : ¬ S bT) : Bk w0 w' q s bN bW bO bT K A D n c m d xs ts :=
  ⟨h.old.trans (hc.below h.old.size h0), h.nums, h.txts, h.hn.over hc h1, h.hw.over hc h2, h.ht.over hc h3⟩
/-- The two blocks that the look changes. -/
def Two (s bO : Nat) : Nat → Prop := fun k => k = s ∨ k = bO
set_option maxRecDepth 100000 in
set_option maxHeartbeats 2000000 in
theorem back_look (w0 : World) (q s bN bW bO bT K : Nat) (A D : Option Addr) (n c m d : Nat) (xs : List Int) (ts : List ByteArray) (k1 : 1 ≤ K) (k8 : K ≤ 8) (hn : n ≤ 100) (hm : m ≤ 100) (hts : ∀ t ∈ ts, t.size ≤ 8192)
    (hqs : q ≠ s) (hqO : q ≠ bO) (hsO : s ≠ bO) (hs0 : w0.heap.size ≤ s) (hO0 : w0.heap.size ≤ bO) (n1 : bN ≠ s) (n2 : bN ≠ bO) (n3 : bW ≠ s) (n4 : bW ≠ bO) (n5 : bT ≠ s) (n6 : bT ≠ bO)
    (w : World) (h : Bk w0 w q s bN bW bO bT K A D n c m d xs ts) (hl : Looks w q s ⟨(xs.flatMap (nB K) ++ ts.flatMap tB).toArray⟩) (ho : Has w bO 4 #[.bool true]) :
    Calls Try.prog 28 #[.pointer (some ⟨q, 0, none⟩), .pointer (some ⟨bN, 0, none⟩), .pointer (some ⟨bW, 0, none⟩), .pointer (some ⟨bO, 0, none⟩), .pointer (some ⟨bT, 0, none⟩)] w fun e w' =>
      e = .returned (.tuple #[]) ∧ Looks w' q s ⟨#[]⟩ ∧ Has w' bO 4 #[.bool true] ∧ Chg (Two s bO) w w' := by
  have hS0 : ∀ k, k < w0.heap.size → ¬ Two s bO k := fun k hk hh => by rcases hh with hh | hh <;> omega
  have hSN : ¬ Two s bO bN := fun hh => by rcases hh with hh | hh; exact n1 hh; exact n2 hh
  have hSW : ¬ Two s bO bW := fun hh => by rcases hh with hh | hh; exact n3 hh; exact n4 hh
  have hST : ¬ Two s bO bT := fun hh => by rcases hh with hh | hh; exact n5 hh; exact n6 hh
  have HS := Lib.hid (And.intro hS0 (And.intro hSN (And.intro hSW hST)))
  have HB := Lib.hid h
  have HT := Lib.hid hts
  have cN := Has.at_ h.hn 0
  simp at cN
  clear h hS0 hSN hSW hST hts
  go_enter Try.func28, Try.ntmps28
  go_wp2
  clear cN
  go_loopw [13] (fun i wr => ∃ j : Nat, j ≤ n ∧ i = .int .i64 j ∧ Looks wr q s ⟨((xs.drop j).flatMap (nB K) ++ ts.flatMap tB).toArray⟩ ∧ Has wr bO 4 #[.bool true] ∧ Chg (Two s bO) w wr) (fun i _ => n - (intOf i).toNat)
  case atStart => exact ⟨0, Nat.zero_le _, rfl, hl, ho, Chg.refl _ _⟩
  case round =>
    obtain ⟨j, hj, rfl, hlr, hor, hcr⟩ := hrel
    have hb1 := HB.out.chg hcr HS.out.1 HS.out.2.1 HS.out.2.2.1 HS.out.2.2.2
    by_cases hlt : j < n
    · have hjx : j < xs.length := by rw [HB.out.nums.1]; exact hlt
      obtain ⟨b, off, rfl, hbl, hcl⟩ := HB.out.nums.2 (by omega)
      have cx := (hb1.old.cell (p := ⟨b, off + j, none⟩) hbl).trans (hcl j hjx)
      have cw := Has.at_ hb1.hw 0
      have e1 : xs.drop j = xs[j] :: xs.drop (j + 1) := List.drop_eq_getElem_cons hjx
      rw [e1, List.flatMap_cons, List.append_assoc] at hlr
      simp at cw
      have HLR := Lib.hid hlr
      have HOR := Lib.hid hor
      have HCR := Lib.hid hcr
      have HB1 := Lib.hid hb1
      clear hcl e1 hlr hor hcr hb1
      generalize xs[j] = x at *
      have h1 := rawL_ok q s (nB K x) ((xs.drop (j + 1)).flatMap (nB K) ++ ts.flatMap tB) hqs wr HLR.out
      rw [nB_len] at h1
      have HR := Lib.hid h1
      clear h1
      go_wp2_with fail
      refine HR.out.mono ?_
      rintro e w1 ⟨rfl, hl1, g1⟩
      have ho1 := HOR.out.over g1 (fun k => hsO k.symm)
      have hb2 := HB1.out.chg g1 (fun k hk hh => by omega) n1 n3 n5
      have cO := Has.at_ ho1 0
      have cw := Has.at_ hb2.hw 0
      simp at cO cw
      have HL1 := Lib.hid hl1
      have HO1 := Lib.hid ho1
      have G1 := Lib.hid g1
      clear HR hl1 ho1 g1 hb2 HLR HOR
      go_wp2_with fail
      refine (put_in none 0 0 K x [] (by decide) k1 k8 _ ⟨rfl, fun h => absurd h (by decide)⟩ (fun _ => ⟨rfl, rfl⟩)).mono ?_
      rintro e w2 ⟨v, rfl, hv, b2⟩
      rw [List.nil_append] at hv
      change Owns w2 _ v (nB K x) at hv
      obtain ⟨V, vc, rfl, rv, _⟩ := hv.lens
      have kc := conv_RowB w2 V _ vc (nB K x) rv
      have t1 : (nB K x == nB K x) = true := by simp
      have ho2 := HO1.out.below b2
      have cO := Has.at_ ho2 0
      have fO := Has.free ho2 0
      simp at cO
      have HO2 := Lib.hid ho2
      have HL2 := Lib.hid (HL1.out.below b2)
      have B2 := Lib.hid b2
      clear hv rv ho2 b2 HL1
      go_wp2
      go_roundw
      case rel =>
        refine ⟨j + 1, by omega, by go_num, ⟨Has.keep HL2.out.eye (p := ⟨bO, 0, none⟩) hqO _, Has.keep HL2.out.sight (p := ⟨bO, 0, none⟩) hsO _⟩, Has.put HO2.out 0 _, ?_⟩
        have g1 : Chg (Two s bO) wr w1 := G1.out.mono fun k hk => Or.inl hk
        have g2 : Chg (Two s bO) w1 w2 := Chg.of_below B2.out _
        exact ((HCR.out.trans g1).trans g2).setCell (p := ⟨bO, 0, none⟩) (.inl (Or.inr rfl)) _
      case measure => simp [intOf]; omega
    · obtain rfl : j = n := by omega
      rw [List.drop_eq_nil_of_le (by rw [HB.out.nums.1]; exact Nat.le_refl _), List.flatMap_nil, List.nil_append] at hlr
      have cT := Has.at_ hb1.ht 0
      simp at cT
      have HLR := Lib.hid hlr
      have HOR := Lib.hid hor
      have HCR := Lib.hid hcr
      have HB1 := Lib.hid hb1
      clear hlr hor hcr hb1 hl ho
      go_wp2
      clear cT
      obtain ⟨W1, hW1⟩ : ∃ W1 : World, W1 = wr := ⟨_, rfl⟩
      subst hW1
      go_loopw [32] (fun i wr => ∃ j : Nat, j ≤ m ∧ i = .int .i64 j ∧ Looks wr q s ⟨((ts.drop j).flatMap tB).toArray⟩ ∧ Has wr bO 4 #[.bool true] ∧ Chg (Two s bO) W1 wr) (fun i _ => m - (intOf i).toNat)
      case atStart => exact ⟨0, Nat.zero_le _, rfl, HLR.out, HOR.out, Chg.refl _ _⟩
      case round =>
        obtain ⟨i, hi, rfl, hlr, hor, hcr⟩ := hrel
        have hb1 := HB1.out.chg hcr HS.out.1 HS.out.2.1 HS.out.2.2.1 HS.out.2.2.2
        by_cases hlt : i < m
        · have hix : i < ts.length := by rw [HB.out.txts.1]; exact hlt
          obtain ⟨b, off, rfl, hbl, hcl⟩ := HB.out.txts.2 (by omega)
          have cx := (hb1.old.cell (p := ⟨b, off + i, none⟩) hbl).trans (hcl i hix)
          have hsz : ts[i].size ≤ 8192 := HT.out _ (List.getElem_mem _)
          have cO := Has.at_ hor 0
          have fO := Has.free hor 0
          have e1 : ts.drop i = ts[i] :: ts.drop (i + 1) := List.drop_eq_getElem_cons hix
          rw [e1, List.flatMap_cons] at hlr
          simp at cO
          have HOR := Lib.hid hor
          have HCR := Lib.hid hcr
          clear hcl e1 hor hb1 HLR
          generalize ts[i] = t at *
          have hlen : t.data.toList.length = t.size := by rw [Array.length_toList]; rfl
          have h1 := text_ok q s 8192 t.data.toList ((ts.drop (i + 1)).flatMap tB) (by omega) (by omega) hqs wr (by unfold tB at hlr; rw [List.append_assoc] at hlr; exact hlr)
          have et : (⟨t.data.toList.toArray⟩ : ByteArray) = t := by simp
          rw [et] at h1
          have HR := Lib.hid h1
          clear h1 hlr hlen et hsz
          go_wp2_with fail
          refine HR.out.mono ?_
          rintro e w1 ⟨rfl, hl1, g1⟩
          have ho1 := HOR.out.over g1 (fun k => hsO k.symm)
          have cO := Has.at_ ho1 0
          have fO := Has.free ho1 0
          simp at cO
          have HL1 := Lib.hid hl1
          have HO1 := Lib.hid ho1
          have G1 := Lib.hid g1
          clear HR hl1 ho1 g1
          go_wp2
          go_roundw
          case rel =>
            refine ⟨i + 1, by omega, by go_num, ⟨Has.keep HL1.out.eye (p := ⟨bO, 0, none⟩) hqO _, Has.keep HL1.out.sight (p := ⟨bO, 0, none⟩) hsO _⟩, Has.put HO1.out 0 _, ?_⟩
            have g1 : Chg (Two s bO) wr w1 := G1.out.mono fun k hk => Or.inl hk
            exact (HCR.out.trans g1).setCell (p := ⟨bO, 0, none⟩) (.inl (Or.inr rfl)) _
          case measure => simp [intOf]; omega
        · obtain rfl : i = m := by omega
          rw [List.drop_eq_nil_of_le (by rw [HB.out.txts.1]; exact Nat.le_refl _), List.flatMap_nil] at hlr
          have cO := Has.at_ hor 0
          have fO := Has.free hor 0
          simp at cO
          have HL := Lib.hid hlr
          have HO := Lib.hid hor
          clear hlr hor
          go_wp2_with fail
          refine (left_ok q s _ _ HL.out).mono ?_
          rintro e w1 ⟨rfl, rfl⟩
          have z0 : (((⟨#[]⟩ : ByteArray).size : Int) == 0) = true := rfl
          go_wp2
          go_end0
          exact ⟨rfl, ⟨Has.keep HL.out.eye (p := ⟨bO, 0, none⟩) hqO _, Has.keep HL.out.sight (p := ⟨bO, 0, none⟩) hsO _⟩, Has.put HO.out 0 _, (HCR.out.trans hcr).setCell (p := ⟨bO, 0, none⟩) (.inl (Or.inr rfl)) _⟩
end Go.Proofs.Ytdedbbbgpjhjhaa.Oct
