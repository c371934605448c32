/- Model: may events be gone through. -/
import Derived.Test.YtigkdoicmcdbhaaGreatMdA
namespace Go.Proofs.YtigkdoicmcdbhaaGreat.Md
open Go.RowKit Go.Proofs.YtigkdoicmcdbhaaGreat.Mem
open Go.Proofs.YtigkdoicmcdbhaaGreat.Fc (PieceP XattrP LinkP NodeC pieceC xattrC linkC nodeC stateC)
open Go.Proofs.YtigkdoicmcdbhaaGreat.Sr (EOwn GrewE zeroS)
open Go.Proofs.YtigkdoicmcdbhaaGreat.Stab (EOut eown_nil eown_sl)
open Go.Proofs.YtigkdoicmcdbhaaGreat.Stl (IdxIs any_take any_hit isId filter_yes filter_no filter_len eown_below eown_mono)
open Go.Proofs.YtigkdoicmcdbhaaGreat.Vc (vecC stC eql_st neq_st)
set_option linter.unusedVariables false set_option linter.unusedSimpArgs false

def BoolLe (n : Nat) (e : Ending) : Prop := ∃ b, e = .returned (.bool b) ∧ (b = true → n ≤ 60)
set_option maxRecDepth 100000 in
set_option maxHeartbeats 4000000 in
theorem small_any (A : Option Addr) (n c : Nat) (es : List Fc.EventC) (g : Nat) (t : TypeId) (hn : n ≤ 9223372036854775807) (w : World) (hg : Has w g t #[.slice A n c]) (h : Fc.SRow w 21 Fc.eventC A n es) (hf : ∀ e ∈ es, Fc.StateFit w e.d) : Calls Tryz.prog 4 #[.slice (some ⟨g, 0, none⟩) 1 1] w fun e w' => BoolLe n e ∧ Below w.heap.size w w' := by
  have HR := Lib.hid h
  have HG := Lib.hid hg
  have HFX := Lib.hid (show ∀ V, Below w.heap.size w V → ∀ e ∈ es, Fc.StateFit V e.d from fun V hb e he => (hf e he).below hb)
  clear h hf hg
  go_enter Tryz.func4, Tryz.ntmps4
  go_wp2
  go_loopw [3, 10] (fun a i wr => ∃ (k m : Nat), k ≤ 1 ∧ i = .int .i64 k ∧ a = .int .i64 m ∧ (k = 0 → m = 0) ∧ (k = 1 → n ≤ 60) ∧ Hid (Below w.heap.size w wr)) (fun _ i _ => 1 - (intOf i).toNat)
  case atStart => exact ⟨0, 0, by omega, rfl, rfl, fun _ => rfl, fun h => absurd h (by omega), Lib.hid (Below.refl _ _)⟩
  case round =>
    obtain ⟨k, m, hk, rfl, rfl, hm0, hk1, HI⟩ := hrel
    by_cases hlk : k < 1
    · obtain rfl : k = 0 := by omega
      obtain rfl : m = 0 := hm0 rfl
      have c0 : wr.cell? ⟨g, 0, none⟩ = some (.slice A n c) := (HG.out.below HI.out).at_ 0
      clear hm0 hk1
      by_cases h1 : (60 : Int) < n
      · have hm : min (n : Int) 61 = 61 := by omega
        go_wp2
        go_ret
        exact ⟨⟨false, rfl, (fun h => by cases h)⟩, HI.out⟩
      have hm : min (n : Int) 61 = n := by omega
      have hn60 : n ≤ 60 := by omega
      go_wp2
      go_loopw [23] (fun i wr => ∃ j : Nat, j ≤ n ∧ i = .int .i64 j ∧ Hid (Below w.heap.size w wr)) (fun i _ => n - (intOf i).toNat)
      case atStart => exact ⟨0, by omega, rfl, HI⟩
      case round =>
        clear HI c0 hm
        obtain ⟨j, hj, rfl, HI⟩ := hrel
        by_cases hlt : j < n
        · have hlti : (j : Int) < n := by omega
          have HJ := Lib.hid hlt
          obtain ⟨b, off, hA, hbl, hx1, mr⟩ := (HR.out.below HI.out).range hlt
          have HF1 := Lib.hid (HFX.out _ HI.out _ (List.getElem_mem hx1))
          obtain ⟨e, hp⟩ : ∃ e, e = es[j] := ⟨_, rfl⟩
          rw [← hp] at mr HF1
          have MR := Lib.hid mr
          have HB1 := Lib.hid (HI.out.alloc HI.out.size (.cells (Fc.eventC e) 34))
          have HN := Lib.hid (Has.fresh wr 34 (Fc.eventC e))
          have HF2 := Lib.hid (HF1.out.below ((Below.refl _ _).alloc (Nat.le_refl _) (.cells (Fc.eventC e) 34)))
          clear hj hlt hbl hx1 mr hp
          rw [hA]
          go_wp2_with (first | ((with_reducible refine Who.wpList_loadC 34 (.tmp 25) rfl (b) (off + j * 21) (Fc.eventC e) ?_); refine And.intro ⟨by rfl, by rfl, ⟨_, Tryz.underlying34, rfl⟩, Sr.info_event⟩ (And.intro (MR.out) ?_); (try simp only [Act.put, List.setIfInBounds_toArray, List.set_cons_zero, List.set_cons_succ])) | ((with_reducible refine Who.wpList_newC 34 7 (.tmp 26) rfl rfl rfl (Fc.eventC Sr.zeroE) (Fc.eventC e) ?_); refine And.intro ⟨rfl, rfl, rfl, Sr.alloc_event, by rfl, by rfl, Sr.info_event, rfl, Sr.event_one _⟩ ?_; (try simp only [Act.put, List.setIfInBounds_toArray, List.set_cons_zero, List.set_cons_succ]); (try simp only [World.size_alloc])) | ((with_reducible refine Who.wpList_loadC 32 (.tmp 27) rfl (wr.heap.size) 11 (Fc.stateC e.d) ?_); refine And.intro ⟨by rfl, by rfl, ⟨_, Tryz.underlying32, rfl⟩, Sr.info_state⟩ (And.intro (Sr.state_range HN.out) ?_); (try simp only [Act.put, List.setIfInBounds_toArray, List.set_cons_zero, List.set_cons_succ])) | fail)
          refine (Sr.Small_any e.d _ HF2.out).mono ?_
          rintro q w2 ⟨⟨z, rfl⟩, hb⟩
          have HB2 := Lib.hid (HB1.out.trans (hb.mono HB1.out.size))
          have HN2 := Lib.hid (HN.out.below hb)
          clear hb
          have c19 : w2.cell? ⟨wr.heap.size, 19, none⟩ = some (.slice e.d.A1 e.d.n1 e.d.c1) := HN2.out.at_ 19
          have c20 : w2.cell? ⟨wr.heap.size, 20, none⟩ = some (.slice e.d.A2 e.d.n2 e.d.c2) := HN2.out.at_ 20
          cases z with
          | false =>
            go_wp2
            go_ret
            exact ⟨⟨false, rfl, (fun h => by cases h)⟩, HB2.out⟩
          | true =>
            by_cases q1 : (10 : Int) < e.d.n1
            · go_wp2
              go_ret
              exact ⟨⟨false, rfl, (fun h => by cases h)⟩, HB2.out⟩
            by_cases q2 : (20 : Int) < e.d.n2
            · go_wp2
              go_ret
              exact ⟨⟨false, rfl, (fun h => by cases h)⟩, HB2.out⟩
            go_wp2
            go_roundw
            case rel => exact ⟨j + 1, HJ.out, by go_num, HB2⟩
            case measure => have := HJ.out; simp [intOf]; omega
        · obtain rfl : n = j := by omega
          go_wp2
          go_roundw
          case rel => exact ⟨1, n, by omega, by go_num, by go_num, fun h => absurd h (by omega), fun _ => hn60, HI⟩
          case measure => simp [intOf]
    · obtain rfl : k = 1 := by omega
      have hn60 := hk1 rfl
      go_wp2
      go_ret
      exact ⟨⟨true, rfl, (fun _ => hn60)⟩, HI.out⟩
end Go.Proofs.YtigkdoicmcdbhaaGreat.Md
