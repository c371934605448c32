/- The document's own reading of an event's name. -/
import Derived.Test.YtlmgikgpmcdakaaDoorNmV
namespace Go.Proofs.YtlmgikgpmcdakaaDoor.Nm
open Go.RowKit Go.Proofs.YtlmgikgpmcdakaaDoor.Mem

def noAns : Value := .tuple #[.agg #[.int .i64 0, .int .i64 0], .bool false]
def yesAns (t d : Nat) : Value := .tuple #[.agg #[.int .i64 (t : Int), .int .i64 (d : Int)], .bool true]
theorem of_no {P : ByteArray} (h : ∀ t d, Form P.data.toList t d → False) : ofAns P = noAns := of_none P h
theorem of_yes {P : ByteArray} {t d : Nat} (h : Form P.data.toList t d) : ofAns P = yesAns t d := of_form P t d h
theorem byte_ne {x : UInt8} {n : Nat} (hn : n < 256) (h : ¬ x = n.toUInt8) : ((x.toNat : Int) == (n : Int)) = false :=
  beq_eq_false_iff_ne.2 (fun e => h (UInt8.toNat_inj.1 (by have e2 : x.toNat = n := by omega
                                                           rw [e2]; simp; omega)))
theorem form_done (P : ByteArray) (ds : List Nat) (h4 : 4 ≤ P.size) (h15 : P.size ≤ 15) (hk : ds.length + 3 = P.size) (h16 : ∀ d ∈ ds, d < 16) (hb : (P.data.toList.drop 1).take ds.length = ds.map dig)
    (hz : 4 < P.size → ds = [] ∨ ∃ d r, ds = d :: r ∧ d ≠ 0) (h0 : P[0] = 99) (h1 : P[P.size - 2] = 45) (hL : dg (P[P.size - 1]).toNat ≠ 99) : Form P.data.toList (val ds) (dg (P[P.size - 1]).toNat) := by
  obtain ⟨hd, hx⟩ := dg_back _ hL
  have hv := val_lt ds h16
  have hp : (16 : Nat) ^ ds.length ≤ 16 ^ 12 := Nat.pow_le_pow_right (by omega) (by omega)
  have hne : ds ≠ [] := by rintro rfl; simp at hk; omega
  have hh := hexU_val ds h16 hne (by
    by_cases hs : 4 < P.size
    · rcases hz hs with h | h
      · exact absurd h hne
      · exact .inr h
    · exact .inl (by omega))
  have hl : P.data.toList.length = P.size := by simp
  refine ⟨by omega, hd, ?_⟩
  rw [hh, ← hb]
  apply List.ext_getElem?
  intro i
  have hbl : ((P.data.toList.drop 1).take ds.length).length = ds.length := by rw [hb]; simp
  match i with
  | 0 =>
    rw [Lib.data_getElem? P 0 (by omega), h0]
    rfl
  | i + 1 =>
    rw [List.getElem?_cons_succ]
    by_cases hi : i < ds.length
    · rw [List.getElem?_append_left (by omega), List.getElem?_take_of_lt hi, List.getElem?_drop, Nat.add_comm 1 i]
    · rw [List.getElem?_append_right (by omega), hbl]
      by_cases e1 : i = ds.length
      · subst e1
        rw [Nat.sub_self, Lib.data_getElem? P _ (by omega), at_eq P (ds.length + 1) (P.size - 2) (by omega) (by omega) (by omega), h1]
        rfl
      · by_cases e2 : i = ds.length + 1
        · subst e2
          rw [show ds.length + 1 - ds.length = 1 by omega, Lib.data_getElem? P _ (by omega), at_eq P (ds.length + 1 + 1) (P.size - 1) (by omega) (by omega) (by omega), hx, dg_dig _ hd]
          rfl
        · rw [List.getElem?_eq_none (by omega), List.getElem?_eq_none (by simp; omega)]
theorem take_next (P : ByteArray) (ds : List Nat) (hk : ds.length + 1 < P.size) (hb : (P.data.toList.drop 1).take ds.length = ds.map dig) (hL : dg (P[ds.length + 1]).toNat ≠ 99) :
    (P.data.toList.drop 1).take (ds ++ [dg (P[ds.length + 1]).toNat]).length = (ds ++ [dg (P[ds.length + 1]).toNat]).map dig := by
  have hg : (P.data.toList.drop 1)[ds.length]? = some P[ds.length + 1] := by rw [List.getElem?_drop, Nat.add_comm 1]; exact Lib.data_getElem? P _ hk
  rw [List.length_append, List.length_singleton, List.take_add_one, hb, hg, List.map_append]
  simp
  exact (dg_back _ hL).2

set_option maxHeartbeats 4000000 in
set_option maxRecDepth 100000 in
theorem rof_any (P : ByteArray) (W : World) :
    Calls Tryd.prog 24 #[.string P] W fun e w' => e = .returned (ofAns P) ∧ Below W.heap.size W w' := by
  have DG := Lib.hid (fun x w => digit_any x w)
  have HB := Lib.hid ((Below.refl W.heap.size W).alloc (Nat.le_refl _) (.cells #[.int .i64 0, .int .i64 0] 38))
  have HH := Lib.hid (Has.fresh W 38 #[.int .i64 0, .int .i64 0])
  by_cases h4 : 4 ≤ P.size
  · by_cases h15 : P.size ≤ 15
    · have i4 : ¬ ((P.size : Int) < 4) := by omega
      have i15 : ¬ ((15 : Int) < P.size) := by omega
      by_cases h0 : P[0] = 99
      · have b0 : (((P[0]).toNat : Int) == 99) = true := by rw [h0]; rfl
        by_cases h1 : P[P.size - 2] = 45
        · have b1 : (((P[P.size - 2]).toNat : Int) == 45) = true := by rw [h1]; rfl
          by_cases hL : dg (P[P.size - 1]).toNat = 99
          · have HN := Lib.hid (of_no (fun t d h => (form_facts h).2.2.2.2.1 (by omega) hL))
            have DGL := Lib.hid (fun w => digit_any P[P.size - 1] w)
            rw [hL] at DGL
            go_enter Tryd.func24, Tryd.ntmps24
            go_wp2_with (go_at_call 35; refine (DGL.out _).mono ?_; rintro e w1 ⟨rfl, rfl⟩)
            all_goals simp [bodyPost, results, Tryd.results24, go_sem]
            all_goals refine ⟨by rw [HN.out]; rfl, HB.out⟩
          · have bL : ((dg (P[P.size - 1]).toNat : Int) == 99) = false := beq_eq_false_iff_ne.2 (by omega)
            have hF := Lib.hid (fun ds h1 h2 h3 h4' => form_done P ds h4 h15 h1 h2 h3 h4' h0 ‹_› hL)
            go_enter Tryd.func24, Tryd.ntmps24
            go_wp2_with (go_at_call 35; refine (DG.out _ _).mono ?_; rintro e w1 ⟨rfl, rfl⟩)
            generalize hW : W.alloc _ = W0 at *
            clear hW
            have c0 := Has.at_ HH.out 0
            have c1 := Has.at_ HH.out 1
            have f0 := Has.free HH.out 0
            have f1 := Has.free HH.out 1
            simp at c0 c1
            go_loopw [4, 5] (fun x i wr => ∃ (ds : List Nat) (k v : Nat), x = .int .i64 (v : Int) ∧ i = .int .i64 (k : Int) ∧ k = ds.length + 1 ∧ v = val ds ∧ k + 2 ≤ P.size ∧ (∀ d ∈ ds, d < 16) ∧ (P.data.toList.drop 1).take ds.length = ds.map dig ∧ (4 < P.size → ds = [] ∨ ∃ d r, ds = d :: r ∧ d ≠ 0) ∧ wr = W0) (fun _ i _ => 16 - (intOf i).toNat)
            case atStart => exact ⟨[], 1, 0, rfl, rfl, rfl, rfl, by omega, by simp, rfl, fun _ => .inl rfl, rfl⟩
            case round =>
              obtain ⟨ds, k, v, rfl, rfl, hkd, hv, hk, h16, hb, hz, hwr⟩ := hrel
              cases hwr
              by_cases hlt : k + 2 < P.size
              · have HX := Lib.hid (take_next P ds (by omega) hb)
                have hfb := Lib.hid (fun t d (h : Form P.data.toList t d) => (form_facts h).2.2.2.2.2)
                have hk2 : k < P.size := by omega
                have hK : P[ds.length + 1]'(by omega) = P[k] := at_eq P _ _ _ _ (by omega)
                rw [hK] at HX
                have DX := Lib.hid (fun w => digit_any P[k] w)
                have hxb := Lib.hid (fun (h : dg (P[k]).toNat ≠ 99) => (dg_back P[k] h).1)
                have hx1 := Lib.hid (fun t d (h : Form P.data.toList t d) (hk1 : 1 ≤ k) => (hfb.out t d h).1 k hk2 hk1 (by omega))
                have hx2 := Lib.hid (fun t d (h : Form P.data.toList t d) (h4 : 4 < P.size) (hk1 : k = 1) => show dg (P[k]).toNat ≠ 0 by have := (hfb.out t d h).2 h4 (by omega); rwa [at_eq P 1 k (by omega) hk2 hk1.symm] at this)
                have ilt : (k : Int) < (P.size : Int) - 2 := by omega
                have hvl := val_lt ds h16
                have hp : (16 : Nat) ^ ds.length ≤ 16 ^ 11 := Nat.pow_le_pow_right (by omega) (by omega)
                have hvb := Lib.hid (show (v : Int) < 17592186044416 by omega)
                have hsn := Lib.hid (val_snoc ds)
                clear hvl hp hfb hK
                generalize dg (P[k]).toNat = x at *
                by_cases hx9 : x = 99
                · have HN := Lib.hid (of_no (fun t d h => hx1.out t d h (by omega) hx9))
                  have bx : ((x : Int) == 99) = true := by rw [hx9]; rfl
                  clear hv hkd hb h16 hz hF hx9 HX hx1 hx2 hxb hsn hvb
                  go_wp2_with (go_at_call 35; refine (DX.out _).mono ?_; rintro e w2 ⟨rfl, rfl⟩)
                  have HP := Lib.hid (Has.put (Has.put HH.out 0 (.int .i64 0)) 1 (.int .i64 0))
                  have d0 := Has.at_ HP.out 0
                  have d1 := Has.at_ HP.out 1
                  simp at d0 d1
                  simp [bodyPost, results, Tryd.results24, go_sem, d0, d1]
                  refine ⟨by rw [HN.out]; rfl, (HB.out.setCell (Nat.le_refl _) _).setCell (Nat.le_refl _) _⟩
                · have bx : ((x : Int) == 99) = false := beq_eq_false_iff_ne.2 (by omega)
                  have hx16 := Lib.hid (hxb.out hx9)
                  by_cases hrj : k = 1 ∧ x = 0 ∧ 4 < P.size
                  · have HN := Lib.hid (of_no (fun t d h => hx2.out t d h hrj.2.2 hrj.1 hrj.2.1))
                    have i5 : (4 : Int) < P.size := by omega
                    have bk : ((k : Int) == 1) = true := by rw [hrj.1]; rfl
                    have bz : ((x : Int) == 0) = true := by rw [hrj.2.1]; rfl
                    clear hv hkd hb h16 hz hF hx9 HX hx1 hx2 hxb hsn hvb hrj hx16
                    go_wp2_with (go_at_call 35; refine (DX.out _).mono ?_; rintro e w2 ⟨rfl, rfl⟩)
                    have HP := Lib.hid (Has.put (Has.put HH.out 0 (.int .i64 0)) 1 (.int .i64 0))
                    have d0 := Has.at_ HP.out 0
                    have d1 := Has.at_ HP.out 1
                    simp at d0 d1
                    simp [bodyPost, results, Tryd.results24, go_sem, d0, d1]
                    refine ⟨by rw [HN.out]; rfl, (HB.out.setCell (Nat.le_refl _) _).setCell (Nat.le_refl _) _⟩
                  · have hxi := Lib.hid (show (x : Int) < 16 by have := hx16.out; omega)
                    have wv2 : wrap64 ((v : Int) * 16 + (x : Int)) = (v : Int) * 16 + (x : Int) := by have := hvb.out; have := hxi.out; unfold wrap64; omega
                    have HR := Lib.hid (show ∀ ww : World, ∃ (ds' : List Nat) (k' v' : Nat), Value.int .i64 (wrap64 ((v : Int) * 16 + (x : Int))) = .int .i64 (v' : Int) ∧ Value.int .i64 ((k : Int) + 1) = .int .i64 (k' : Int) ∧ k' = ds'.length + 1 ∧ v' = val ds' ∧ k' + 2 ≤ P.size ∧ (∀ d ∈ ds', d < 16) ∧ (P.data.toList.drop 1).take ds'.length = ds'.map dig ∧ (4 < P.size → ds' = [] ∨ ∃ d r, ds' = d :: r ∧ d ≠ 0) ∧ ww = ww from fun ww => by
                        rw [wv2]
                        refine ⟨ds ++ [x], k + 1, v * 16 + x, rfl, rfl, by simp; omega, by rw [hsn.out, hv], by omega, ?_, HX.out hx9, ?_, rfl⟩
                        · intro d hd
                          rcases List.mem_append.1 hd with h | h
                          · exact h16 d h
                          · rw [List.mem_singleton.1 h]; exact hx16.out
                        · intro h5
                          right
                          rcases hz h5 with rfl | ⟨d, r, rfl, hd⟩
                          · exact ⟨x, [], rfl, fun e => hrj ⟨hkd, e, h5⟩⟩
                          · exact ⟨d, r ++ [x], rfl, hd⟩)
                    have wv1 : wrap64 ((v : Int) * 16) = (v : Int) * 16 := by have := hvb.out; unfold wrap64; omega
                    clear HX hx1 hx2 hxb hsn h16 hb hz hkd hv wv2
                    by_cases hk1 : k = 1
                    · have bk : ((k : Int) == 1) = true := by rw [hk1]; rfl
                      by_cases hx0 : x = 0
                      · have i5 : ¬ (4 : Int) < (P.size : Int) := fun h => hrj ⟨hk1, hx0, by omega⟩
                        subst hx0
                        have WV := Lib.hid wv1
                        clear hk1 hrj hx9 hF b0 h0 b1 h1 bL hL i4 i15 h4 h15 bx wv1 hvb hxi hx16
                        have DX := Lib.hid (show ∀ w, Calls Tryd.prog 35 #[.int .u8 (P[k].toNat : Int)] w fun e w' => e = .returned (.int .i64 0) ∧ w' = w from DX.out)
                        go_wp2_with (go_at_call 35; refine (DX.out _).mono ?_; rintro e w2 ⟨rfl, rfl⟩)
                        go_round
                        case rel =>
                          obtain ⟨ds', k', v', e1, rest⟩ := HR.out W
                          have WV2 := WV.out
                          refine ⟨ds', k', v', ?_, rest⟩
                          rw [WV2, WV2]
                          simp [WV2] at e1
                          rw [e1]
                        case measure =>
                          show 16 - ((k : Int) + 1).toNat < 16 - ((k : Int)).toNat
                          omega
                      · have bz : ((x : Int) == 0) = false := beq_eq_false_iff_ne.2 (by omega)
                        clear hk1 hx0 hrj hx9
                        go_wp2_with (go_at_call 35; refine (DX.out _).mono ?_; rintro e w2 ⟨rfl, rfl⟩)
                        go_round
                        case rel => exact HR.out W
                        case measure =>
  show 16 - ((k : Int) + 1).toNat < 16 - ((k : Int)).toNat
  omega
                    · have bk : ((k : Int) == 1) = false := beq_eq_false_iff_ne.2 (by omega)
                      clear hk1 hrj hx9
                      go_wp2_with (go_at_call 35; refine (DX.out _).mono ?_; rintro e w2 ⟨rfl, rfl⟩)
                      go_round
                      case rel => exact HR.out W
                      case measure =>
  show 16 - ((k : Int) + 1).toNat < 16 - ((k : Int)).toNat
  omega
              · have hpL : P.size - 1 < P.size := by omega
                have HF := Lib.hid (show ofAns P = yesAns v (dg (P[P.size - 1]'hpL).toNat) from by rw [hv]; exact of_yes (hF.out ds (by omega) h16 hb hz))
                clear hv hkd hb h16 hz hF
                have ilt : ¬ ((k : Int) < (P.size : Int) - 2) := by omega
                go_wp2_with (go_at_call 35; refine (DG.out _ _).mono ?_; rintro e w1 ⟨rfl, rfl⟩)
                have HP := Lib.hid (Has.put (Has.put HH.out 0 (.int .i64 (v : Int))) 1 (.int .i64 (dg (P[P.size - 1]).toNat : Int)))
                have d0 := Has.at_ HP.out 0
                have d1 := Has.at_ HP.out 1
                simp at d0 d1
                simp [bodyPost, results, Tryd.results24, go_sem, d0, d1]
                refine ⟨by rw [HF.out]; rfl, (HB.out.setCell (Nat.le_refl _) _).setCell (Nat.le_refl _) _⟩
        · have HN := Lib.hid (of_no (fun t d h => h1 ((form_facts h).2.2.2.1 (by omega))))
          have b1 : (((P[P.size - 2]).toNat : Int) == 45) = false := byte_ne (n := 45) (by omega) h1
          go_enter Tryd.func24, Tryd.ntmps24
          go_wp2_with (go_at_call 35; refine (DG.out _ _).mono ?_; rintro e w1 ⟨rfl, rfl⟩)
          all_goals simp [bodyPost, results, Tryd.results24, go_sem]
          all_goals refine ⟨by rw [HN.out]; rfl, HB.out⟩
      · have HN := Lib.hid (of_no (fun t d h => h0 ((form_facts h).2.2.1 (by omega))))
        have b0 : (((P[0]).toNat : Int) == 99) = false := byte_ne (n := 99) (by omega) h0
        go_enter Tryd.func24, Tryd.ntmps24
        go_wp2_with (go_at_call 35; refine (DG.out _ _).mono ?_; rintro e w1 ⟨rfl, rfl⟩)
        all_goals simp [bodyPost, results, Tryd.results24, go_sem]
        all_goals refine ⟨by rw [HN.out]; rfl, HB.out⟩
    · have HN := Lib.hid (of_no (fun t d h => h15 (form_facts h).2.1))
      have i4 : ¬ ((P.size : Int) < 4) := by omega
      have i15 : (15 : Int) < P.size := by omega
      clear h15
      go_enter Tryd.func24, Tryd.ntmps24
      go_wp2_with (go_at_call 35; refine (DG.out _ _).mono ?_; rintro e w1 ⟨rfl, rfl⟩)
      all_goals simp [bodyPost, results, Tryd.results24, go_sem]
      all_goals refine ⟨by rw [HN.out]; rfl, HB.out⟩
  · have HN := Lib.hid (of_no (fun t d h => h4 (form_facts h).1))
    have i4 : (P.size : Int) < 4 := by omega
    clear h4
    go_enter Tryd.func24, Tryd.ntmps24
    go_wp2_with (go_at_call 35; refine (DG.out _ _).mono ?_; rintro e w1 ⟨rfl, rfl⟩)
    all_goals simp [bodyPost, results, Tryd.results24, go_sem]
    all_goals refine ⟨by rw [HN.out]; rfl, HB.out⟩
end Go.Proofs.YtlmgikgpmcdakaaDoor.Nm
