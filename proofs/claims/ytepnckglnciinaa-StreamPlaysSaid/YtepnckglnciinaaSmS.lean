/- Changes as bytes: the document's Put. -/
import Derived.Test.YtepnckglnciinaaSmD
import Derived.Test.YtepnckglnciinaaStRTxt
import Derived.Deep.AppendLies
namespace Go.Proofs.Ytepnckglnciinaa.Sm
open Go.RowKit Go.Proofs.Ytepnckglnciinaa.Oct
set_option linter.unusedVariables false

theorem has_grownS {w w' : World} {g : Nat} {t : TypeId} {cs : Array Value} {row : Option Nat} (h : Has w g t cs) (hg : w.grownBy w' row) (hne : row ≠ some g) : Has w' g t cs := by
  unfold Has
  rw [hg.block g h.bound (fun e => hne e.symm)]
  exact h
theorem own_lowS {w : World} {B C : Nat} {v : Value} {l : List UInt8} (h : Owns w C v l) (hb : B ≤ C) : Owns w B v l := by
  refine ⟨h.1, ?_⟩
  rcases h.2 with e | ⟨g, c, cur, e, hB, hr⟩
  · exact .inl e
  · exact .inr ⟨g, c, cur, e, Nat.le_trans hb hB, hr⟩
theorem pushedS {w' : World} {B g' cap : Nat} {l : List UInt8} (b : UInt8) (ho : w'.ownsRow B 5 1 (.slice (some ⟨g', 0, none⟩) (l.length + 1) cap) (l.length + 1) (l.map bv ++ [bv b])) : Owns w' B (.slice (some ⟨g', 0, none⟩) (l.length + 1) cap) (l ++ [b]) ∧ RowB w' (some ⟨g', 0, none⟩) (l.length + 1) (l ++ [b]) := by
  have h : Owns w' B (.slice (some ⟨g', 0, none⟩) (l.length + 1) cap) (l ++ [b]) := by
    unfold Owns
    rw [List.length_append, List.map_append]
    exact ho
  exact ⟨h, Owns.row h (by simp)⟩
set_option maxRecDepth 100000 in
set_option maxHeartbeats 4000000 in
theorem rdput_any (A : Option Addr) (n cap : Nat) (cs : List ChgP) (w : World) (h : CRow w A n cs) (hn : n ≤ 800000) (hl : (putD cs).length ≤ 800000) : Calls Try.prog 34 #[.slice A n cap] w fun e w' => e = .returned (.string ⟨(putD cs).toArray⟩) ∧ Below w.heap.size w w' := by
  obtain ⟨i0, hi, hz0, hz1, hz2⟩ := info_parts info_u8
  have HII := Lib.hid (And.intro hi (And.intro hz0 (And.intro hz1 hz2)))
  have HR := Lib.hid h
  have HPL := Lib.hid hl
  have HLNN := Lib.hid h.len
  have halc := alloc_ch
  clear hi hz0 hz1 hz2 h hl
  go_enter Try.func34, Try.ntmps34
  go_wp2_with fail
  refine (rput_any none 0 0 (n : Int) 4 [] (by omega) w (row_nil w) (fun _ => ⟨rfl, rfl⟩)).mono ?_
  rintro e w1 ⟨v0, rfl, ho, hb⟩
  rw [if_neg (by omega)] at ho
  have HI0 := Lib.hid (show PutI w w1 cs v0 ([] ++ putL (IntKind.u64.wrap (n : Int)).toNat 4) 0 from ⟨hb, ho, by unfold putTo numB; rw [HLNN.out]; simp, HPL.out⟩)
  generalize ([] ++ putL (IntKind.u64.wrap (n : Int)).toNat 4 : List UInt8) = l0 at *
  clear ho hb
  go_wp2
  go_loopw [3, 11] (fun s i wr => ∃ j : Nat, ∃ u : Value, ∃ l : List UInt8, j ≤ n ∧ i = .int .i64 j ∧ s = u ∧ Hid (PutI w wr cs u l j)) (fun _ i _ => n - (intOf i).toNat)
  case atStart => exact ⟨0, _, _, by omega, rfl, rfl, HI0⟩
  case round =>
    obtain ⟨j, u, l, hj, rfl, rfl, HI⟩ := hrel
    obtain ⟨Au, cu, rfl, hru, _⟩ := owns_lens HI.out.row
    have HRU := Lib.hid hru
    clear hru
    by_cases hlt : j < n
    · have HLT := Lib.hid (show j + 1 ≤ n from hlt)
      obtain ⟨c, hc⟩ : ∃ c, cs[j]? = some c := ⟨_, List.getElem?_eq_getElem (by rw [HLNN.out]; exact hlt)⟩
      obtain ⟨b, off, rfl, hbl, hrg⟩ := (HR.out.below HI.out.below).cells j c hc
      have HRG := Lib.hid hrg
      have HC := Lib.hid hc
      have HX := Lib.hid (Has.fresh wr 53 (chC c))
      have x2 : (wr.alloc (.cells (chC c) 53)).cell? ⟨wr.heap.size, 2, none⟩ = some (.bool c.gone) := HX.out.at_ 2
      have HSN := putTo_snoc hc
      have HLE := putTo_le cs (j + 1)
      have HQ := Lib.hid (show l.length + 1 + (headT (cutT c.key).length ++ cutT c.key).length + (headT (cutT c.val).length ++ cutT c.val).length ≤ 800000 from by
        rw [HSN, ← HI.out.is] at HLE
        have h := Nat.le_trans HLE HPL.out
        unfold putC at h
        simp only [List.length_append, numB_len] at h ⊢
        omega)
      have HO := Lib.hid (show wr.ownsRow w.heap.size 5 1 (.slice Au l.length cu) l.length (l.map bv) from HI.out.row)
      have HO := Lib.hid (World.ownsRow.alloc HO.out (.cells (chC c) 53))
      have hlti : (j : Int) < n := by omega
      have hn2 : (n : Int) ≤ 800000 := by omega
      have HS := Lib.hid (show ∀ o : Obj, w.heap.size ≤ ((wr.alloc (.cells (chC c) 53)).alloc o).heap.size from fun o => Nat.le_trans HI.out.below.size (by simp; omega))
      clear hrg hc HSN HLE
      cases hg : c.gone with
      | true =>
        rw [hg] at x2
        have HG := Lib.hid hg
        clear hg
        go_wp2_with (first | ((with_reducible refine Who.wpList_loadC 53 (.tmp 13) rfl b (off + j * 3) (chC c) ?_); refine And.intro ⟨by rfl, by rfl, ⟨_, Try.underlying53, rfl⟩, info_ch⟩ (And.intro HRG.out ?_); (try simp only [Act.put, List.setIfInBounds_toArray, List.set_cons_zero, List.set_cons_succ])) | ((with_reducible refine Who.wpList_newC 53 5 (.tmp 14) rfl rfl rfl (chC ch0) (chC c) ?_); refine And.intro ⟨rfl, rfl, rfl, halc, by rfl, by rfl, info_ch, rfl, chC_one _⟩ ?_; (try simp only [Act.put, List.setIfInBounds_toArray, List.set_cons_zero, List.set_cons_succ])) | (at_builtin; go_loud (refine wpList_append_lies _ rfl (.tmp 17) (.tmp 18) 69 rfl w.heap.size 5 i0 (.int .u8 0) 1 1 Try.underlying69 HII.out.1 HII.out.2.1 HII.out.2.2.1 HII.out.2.2.2 rfl (by decide) (.slice Au l.length cu) l.length (l.map bv) rfl (World.ownsRow.alloc HO.out _) ⟨wr.heap.size + 1, 0, none⟩ 1 1 [.int .u8 1] rfl rfl ?c1 ?c2 (by decide) (by unfold maxLen; have := HQ.out; omega) (by have := HQ.out; omega) (HS.out _) _ rfl ?_)))
        case c1 =>
          have h := World.news_of_block (Has.fresh (wr.alloc (.cells (chC c) 53)) 5 #[.int .u8 1])
          rw [World.size_alloc] at h
          exact h
        case c2 => exact fun u hu => by simp at hu; subst hu; rfl
        intro g' cap5 w5 ho hg2 hor hlt2
        have hP := pushedS 1 ho
        have HP5 := Lib.hid hP.1
        have HR5 := Lib.hid hP.2
        have HB5 := Lib.hid (show Below w.heap.size w w5 from ((HI.out.below.alloc HI.out.below.size (.cells (chC c) 53)).alloc (Nat.le_trans HI.out.below.size (by simp only [World.size_alloc]; omega)) (.cells #[.int .u8 1] 5)).grown hg2 (Nat.le_trans HI.out.below.size (by simp only [World.size_alloc]; omega)) (fun q hq => (World.ownsRow.lt HI.out.row q hq).1))
        have HX5 := Lib.hid (has_grownS (HX.out.over (S := fun _ => False) ((Chg.refl _ _).alloc (.cells #[.int .u8 1] 5)) (fun k => k)) hg2 (fun e => by have := (World.ownsRow.lt HI.out.row _ e).2; omega))
        have c0 : w5.cell? ⟨wr.heap.size, 0, none⟩ = some (.string c.key) := HX5.out.at_ 0
        have HRT := Lib.hid (rptext_any (some ⟨g', 0, none⟩) (l.length + 1) cap5 (l ++ [1]) c.key (by have := HQ.out; omega) w5 hP.2 (fun h => by cases h))
        clear ho hg2 hor hlt2 hP
        go_wp2_with fail
        refine HRT.out.mono ?_
        rintro e w6 ⟨v, rfl, ho, hb⟩
        obtain ⟨L6, hL6⟩ : ∃ L6, L6 = l ++ [1] ++ headT (cutT c.key).length ++ cutT c.key := ⟨_, rfl⟩
        rw [← hL6] at ho
        have HL6 := Lib.hid hL6
        obtain ⟨A6, c6, rfl, hr6, h06⟩ := owns_lens ho
        have HB6 := Lib.hid (HB5.out.trans (hb.mono HB5.out.size))
        have HX6 := Lib.hid (hbelow HX5.out hb)
        have c1 : w6.cell? ⟨wr.heap.size, 1, none⟩ = some (.string c.val) := HX6.out.at_ 1
        have HRT6 := Lib.hid (rptext_any A6 L6.length c6 L6 c.val (by rw [hL6]; have := HQ.out; simp only [List.length_append, List.length_singleton] at this ⊢; omega) w6 hr6 h06)
        clear ho hb hr6 h06 hL6 c0
        go_wp2_with fail
        refine HRT6.out.mono ?_
        rintro e w7 ⟨v, rfl, ho, hb⟩
        have HB7 := Lib.hid (HB6.out.trans (hb.mono HB6.out.size))
        obtain ⟨L7, hL7⟩ : ∃ L7, L7 = L6 ++ headT (cutT c.val).length ++ cutT c.val := ⟨_, rfl⟩
        rw [← hL7] at ho
        have HREL := Lib.hid (show PutI w w7 cs v L7 (j + 1) from ⟨HB7.out, own_lowS ho HB6.out.size, by
          rw [hL7, putTo_snoc HC.out, ← HI.out.is, HL6.out]
          unfold putC
          rw [HG.out, show numB (gi true) 1 = [1] from by kernel_rfl]
          simp only [List.append_assoc], HPL.out⟩)
        obtain ⟨A7, c7, rfl, _⟩ := owns_lens ho
        clear ho hb c1 hL7
        go_wp2
        go_roundw
        case rel => exact ⟨j + 1, _, _, HLT.out, by go_num, rfl, HREL⟩
        case measure => have := HLT.out; simp [intOf]; omega
      | false =>
        rw [hg] at x2
        have HG := Lib.hid hg
        clear hg
        go_wp2_with (first | ((with_reducible refine Who.wpList_loadC 53 (.tmp 13) rfl b (off + j * 3) (chC c) ?_); refine And.intro ⟨by rfl, by rfl, ⟨_, Try.underlying53, rfl⟩, info_ch⟩ (And.intro HRG.out ?_); (try simp only [Act.put, List.setIfInBounds_toArray, List.set_cons_zero, List.set_cons_succ])) | ((with_reducible refine Who.wpList_newC 53 5 (.tmp 14) rfl rfl rfl (chC ch0) (chC c) ?_); refine And.intro ⟨rfl, rfl, rfl, halc, by rfl, by rfl, info_ch, rfl, chC_one _⟩ ?_; (try simp only [Act.put, List.setIfInBounds_toArray, List.set_cons_zero, List.set_cons_succ])) | (at_builtin; go_loud (refine wpList_append_lies _ rfl (.tmp 20) (.tmp 21) 69 rfl w.heap.size 5 i0 (.int .u8 0) 1 1 Try.underlying69 HII.out.1 HII.out.2.1 HII.out.2.2.1 HII.out.2.2.2 rfl (by decide) (.slice Au l.length cu) l.length (l.map bv) rfl (World.ownsRow.alloc HO.out _) ⟨wr.heap.size + 1, 0, none⟩ 1 1 [.int .u8 0] rfl rfl ?c1 ?c2 (by decide) (by unfold maxLen; have := HQ.out; omega) (by have := HQ.out; omega) (HS.out _) _ rfl ?_)))
        case c1 =>
          have h := World.news_of_block (Has.fresh (wr.alloc (.cells (chC c) 53)) 5 #[.int .u8 0])
          rw [World.size_alloc] at h
          exact h
        case c2 => exact fun u hu => by simp at hu; subst hu; rfl
        intro g' cap5 w5 ho hg2 hor hlt2
        have hP := pushedS 0 ho
        have HP5 := Lib.hid hP.1
        have HR5 := Lib.hid hP.2
        have HB5 := Lib.hid (show Below w.heap.size w w5 from ((HI.out.below.alloc HI.out.below.size (.cells (chC c) 53)).alloc (Nat.le_trans HI.out.below.size (by simp only [World.size_alloc]; omega)) (.cells #[.int .u8 0] 5)).grown hg2 (Nat.le_trans HI.out.below.size (by simp only [World.size_alloc]; omega)) (fun q hq => (World.ownsRow.lt HI.out.row q hq).1))
        have HX5 := Lib.hid (has_grownS (HX.out.over (S := fun _ => False) ((Chg.refl _ _).alloc (.cells #[.int .u8 0] 5)) (fun k => k)) hg2 (fun e => by have := (World.ownsRow.lt HI.out.row _ e).2; omega))
        have c0 : w5.cell? ⟨wr.heap.size, 0, none⟩ = some (.string c.key) := HX5.out.at_ 0
        have HRT := Lib.hid (rptext_any (some ⟨g', 0, none⟩) (l.length + 1) cap5 (l ++ [0]) c.key (by have := HQ.out; omega) w5 hP.2 (fun h => by cases h))
        clear ho hg2 hor hlt2 hP
        go_wp2_with fail
        refine HRT.out.mono ?_
        rintro e w6 ⟨v, rfl, ho, hb⟩
        obtain ⟨L6, hL6⟩ : ∃ L6, L6 = l ++ [0] ++ headT (cutT c.key).length ++ cutT c.key := ⟨_, rfl⟩
        rw [← hL6] at ho
        have HL6 := Lib.hid hL6
        obtain ⟨A6, c6, rfl, hr6, h06⟩ := owns_lens ho
        have HB6 := Lib.hid (HB5.out.trans (hb.mono HB5.out.size))
        have HX6 := Lib.hid (hbelow HX5.out hb)
        have c1 : w6.cell? ⟨wr.heap.size, 1, none⟩ = some (.string c.val) := HX6.out.at_ 1
        have HRT6 := Lib.hid (rptext_any A6 L6.length c6 L6 c.val (by rw [hL6]; have := HQ.out; simp only [List.length_append, List.length_singleton] at this ⊢; omega) w6 hr6 h06)
        clear ho hb hr6 h06 hL6 c0
        go_wp2_with fail
        refine HRT6.out.mono ?_
        rintro e w7 ⟨v, rfl, ho, hb⟩
        have HB7 := Lib.hid (HB6.out.trans (hb.mono HB6.out.size))
        obtain ⟨L7, hL7⟩ : ∃ L7, L7 = L6 ++ headT (cutT c.val).length ++ cutT c.val := ⟨_, rfl⟩
        rw [← hL7] at ho
        have HREL := Lib.hid (show PutI w w7 cs v L7 (j + 1) from ⟨HB7.out, own_lowS ho HB6.out.size, by
          rw [hL7, putTo_snoc HC.out, ← HI.out.is, HL6.out]
          unfold putC
          rw [HG.out, show numB (gi false) 1 = [0] from by kernel_rfl]
          simp only [List.append_assoc], HPL.out⟩)
        obtain ⟨A7, c7, rfl, _⟩ := owns_lens ho
        clear ho hb c1 hL7
        go_wp2
        go_roundw
        case rel => exact ⟨j + 1, _, _, HLT.out, by go_num, rfl, HREL⟩
        case measure => have := HLT.out; simp [intOf]; omega
    · have hlti : ¬ (j : Int) < n := by omega
      obtain rfl : j = n := by omega
      have HE := Lib.hid (show l = putD cs by rw [HI.out.is, ← HLNN.out]; exact putTo_all cs)
      have kc := conv_RowB wr Au l.length cu l HRU.out
      go_wp2
      go_ret
      exact ⟨by rw [HE.out]; rfl, HI.out.below⟩
end Go.Proofs.Ytepnckglnciinaa.Sm
