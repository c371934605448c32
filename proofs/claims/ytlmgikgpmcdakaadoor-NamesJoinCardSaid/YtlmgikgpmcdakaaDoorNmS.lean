/- The document's own Split and Parent. -/
import Derived.Test.YtlmgikgpmcdakaaDoorNmR
import Derived.Deep.QuietTactic
namespace Go.Proofs.YtlmgikgpmcdakaaDoor.Nm
open Go.RowKit Go.Proofs.YtlmgikgpmcdakaaDoor.Mem Go.Proofs.YtlmgikgpmcdakaaDoor.Rws

/-- A value that is these texts. -/
def Txts (l : List ByteArray) (v : Value) (w : World) : Prop := ∃ A c, v = .slice A l.length c ∧ l.length ≤ c ∧ TxtRow w A l.length l
def RefEnds (p : ByteArray) (e : Ending) (w : World) : Prop := ∃ v, e = .returned (.tuple #[v, .int .i64 (splitErr p)]) ∧ Txts (splitL p) v w
theorem txts_nil (w : World) : Txts [] (.slice none 0 0) w := ⟨none, 0, rfl, Nat.le_refl _, rfl, fun h => absurd h (by simp)⟩
theorem ref_nil (p : ByteArray) (w : World) (n : Int) (h : splitErr p = n) (hn : n ≠ 0 ∨ (behind p).size = 0) (v : Value) (hv : v = .tuple #[.slice none 0 0, .int .i64 n]) : RefEnds p (.returned v) w := by
  refine ⟨_, by rw [h, hv], ?_⟩
  have : splitL p = [] := by
    unfold splitL
    rw [if_neg]
    rintro ⟨a, b⟩
    rcases hn with hn | hn
    · exact hn (h.symm.trans a)
    · exact b hn
  rw [this]
  exact txts_nil w
theorem head_slash (p : ByteArray) (h : Lib.hasPrefix p.data.toList [47] = true) : ∃ hp : 0 < p.size, p[0] = 47 := by
  have e := prefix_cons _ h
  have hl : p.data.toList.length = p.size := by simp
  have hp : 0 < p.size := by rw [← hl, e]; simp
  refine ⟨hp, ?_⟩
  have h2 := Lib.data_getElem? p 0 hp
  rw [e] at h2
  injection h2 with h2
  exact h2.symm
theorem row_of2 {w : World} {B : Nat} {v : Value} {n : Nat} {l : List ByteArray} (h : w.ownsRow B 9 1 v n (l.map Value.string)) : ∃ A c, v = .slice A n c ∧ n ≤ c ∧ TxtRow w A n l := by
  obtain ⟨A, c, hv, hr⟩ := row_of h
  refine ⟨A, c, hv, ?_, hr⟩
  rcases h.2 with ⟨hw, h0⟩ | ⟨g, cap, cur, hw, _, _, hc, _⟩
  · omega
  · rw [hv] at hw
    injection hw with _ _ hw
    omega
theorem row_new {w : World} {B : Nat} {v : Value} {n : Nat} {xs : List Value} (h : w.ownsRow B 9 1 v n xs) (x : ByteArray) (hB : B ≤ w.heap.size) (hn : n ≤ 100000) :
    (w.alloc (.cells #[.string x] 9)).ownsRow B 9 1 v n xs ∧
    (∀ j u, [Value.string x][j]? = some u → (w.alloc (.cells #[.string x] 9)).cell? ((⟨w.heap.size, 0, none⟩ : Addr).add j) = some u) ∧
    (∀ u ∈ [Value.string x], u.oneCell' = true) ∧ n + 1 ≤ maxLen ∧ (n + 1) * 16 ≤ 140737488355328 ∧ B ≤ (w.alloc (.cells #[.string x] 9)).heap.size := by
  refine ⟨h.alloc _, fun j u hu => ?_, fun u hu => by rw [List.mem_singleton.1 hu]; rfl, by unfold maxLen; omega, by omega, Nat.le_trans hB (by simp)⟩
  rcases j with _ | j
  · injection hu with hu
    subst hu
    exact Has.at_ (Has.fresh w 9 #[.string x]) 0
  · cases hu
set_option maxHeartbeats 4000000 in
set_option maxRecDepth 100000 in
theorem rsplit_any (p : ByteArray) (hp : p.size ≤ 4294967280) (w : World) :
    Calls Tryd.prog 12 #[.string p] w fun e w' => RefEnds p e w' ∧ Below w.heap.size w w' := by
  by_cases h120 : 120 < p.size
  · have hE : splitErr p = 36 := by unfold splitErr; rw [if_pos h120]
    have hi : 120 < (p.size : Int) := by omega
    go_enter Tryd.func12, Tryd.ntmps12
    go_wp2
    go_ret2
    exact ⟨ref_nil p _ 36 hE (.inl (by omega)) _ rfl, Below.refl _ _⟩
  · have hi : ¬ 120 < (p.size : Int) := by omega
    cases hpre : Lib.hasPrefix p.data.toList [47] with
    | false =>
      have hE : splitErr p = 22 := by unfold splitErr; rw [if_neg h120, if_pos hpre]
      by_cases h0 : p = ⟨#[]⟩
      · subst h0
        go_enter Tryd.func12, Tryd.ntmps12
        go_wp2
        go_ret2
        exact ⟨ref_nil _ _ 22 hE (.inl (by omega)) _ rfl, Below.refl _ _⟩
      · have hemp : p.toList.isEmpty = false := by
          rw [← decide_eq_emptyBytes]
          exact decide_eq_false h0
        have hsz : 0 < p.size := by
          apply Nat.pos_of_ne_zero
          intro e
          apply h0
          cases p with
          | mk d => congr 1; exact Array.size_eq_zero_iff.1 e
        have hne : ((p[0]'hsz).toNat : Int) ≠ 47 := by
          intro e
          have e2 : p[0]'hsz = 47 := UInt8.toNat_inj.1 (by show _ = 47; omega)
          have h2 := Lib.data_getElem? p 0 hsz
          cases hd : p.data.toList with
          | nil => rw [hd] at h2; cases h2
          | cons b t =>
            rw [hd] at h2
            injection h2 with h2
            rw [hd, h2, e2] at hpre
            cases hpre
        have hb : (((p[0]'hsz).toNat : Int) == 47) = false := beq_eq_false_iff_ne.2 hne
        have hszi : (0 : Int) < p.size := by omega
        go_enter Tryd.func12, Tryd.ntmps12
        go_wp2
        go_ret2
        exact ⟨ref_nil p _ 22 hE (.inl (by omega)) _ rfl, Below.refl _ _⟩
    | true =>
      obtain ⟨hsz, hhead⟩ := head_slash p hpre
      have hemp : p.toList.isEmpty = false := by
        rw [← decide_eq_emptyBytes]
        exact decide_eq_false (fun h => by rw [h] at hsz; exact absurd hsz (by decide))
      by_cases h0 : (behind p).size = 0
      · have hE : splitErr p = 0 := by unfold splitErr; rw [if_neg h120, hpre, if_neg (by simp), if_pos h0]
        have hp1 : p = ⟨#[47]⟩ := by
          apply bytes_ext
          rw [prefix_cons _ hpre]
          have hb : (Lib.trimPrefix p.data.toList [47]).toArray.size = 0 := h0
          have hb2 : (Lib.trimPrefix p.data.toList [47]).length = 0 := by simpa using hb
          rw [List.length_eq_zero_iff.1 hb2]
        have HE := Lib.hid hE
        have H0 := Lib.hid h0
        clear hE h0 hhead hemp hpre hsz h120 hi
        subst hp1
        go_enter Tryd.func12, Tryd.ntmps12
        go_wp2
        go_ret2
        exact ⟨ref_nil _ _ 0 HE.out (.inr H0.out) _ rfl, Below.refl _ _⟩
      · have hne : ¬ p.toList = [47] := by
          rw [ByteArray.toList_eq]
          intro e
          apply h0
          show (Lib.trimPrefix p.data.toList [47]).toArray.size = 0
          rw [e]
          rfl
        have hnb : (p.toList == [47]) = false := beq_eq_false_iff_ne.2 hne
        have hb : (((p[0]'hsz).toNat : Int) == 47) = true := by rw [hhead]; rfl
        have hszi : (0 : Int) < p.size := by omega
        have HB := Lib.hid hhead
        clear hhead
        go_enter Tryd.func12, Tryd.ntmps12
        go_wp2_with fail
        obtain ⟨i0, hi0, hz0, hz1, hz2⟩ := info_parts info_str
        have HI := Lib.hid (And.intro hi0 (And.intro hz0 (And.intro hz1 hz2)))
        clear hi0 hz0 hz1 hz2
        go_loopw [4, 5, 25] (fun u f i wr => ∃ (k fr : Nat) (done : List ByteArray), i = .int .i64 k ∧ k ≤ p.size + 1 ∧ f = .int .i64 fr ∧ Inv p k fr done ∧ wr.ownsRow w.heap.size 9 1 u done.length (done.map Value.string) ∧ Below w.heap.size w wr) (fun _ _ i _ => p.size + 1 - (intOf i).toNat)
        case atStart => exact ⟨0, 1, [], rfl, by omega, rfl, Inv.start p, World.ownsRow_nil _ _ _ _, Below.refl _ _⟩
        case round =>
          obtain ⟨k, fr, done, rfl, hk, rfl, hv, ho, hbw⟩ := hrel
          have HV := Lib.hid hv
          have HO := Lib.hid ho
          have HW := Lib.hid hbw
          clear hv ho hbw
          by_cases hlt : k < p.size + 1
          · have hlti : (k : Int) < p.size + 1 := by omega
            by_cases hkz : k = 0
            · subst hkz
              have HV2 := Lib.hid (HV.out.pass hsz (.inl rfl))
              go_wp2_with fail
              go_roundw
              case rel => exact ⟨1, fr, done, by go_num, by omega, rfl, HV2.out, HO.out, HW.out⟩
              case measure => simp [intOf]
            · have hk0 : (0 : Int) < k := by omega
              by_cases hks : k < p.size
              · have hkne : ((k : Int) == p.size) = false := beq_eq_false_iff_ne.2 (by omega)
                have hksi : (k : Int) < p.size := by omega
                by_cases hx : p[k] = 47
                · have hxb : (((p[k]'hks).toNat : Int) == 47) = true := by rw [hx]; rfl
                  obtain ⟨hfk, hv2⟩ := HV.out.hit (by omega) hks hx
                  have HV2 := Lib.hid hv2
                  have hfi : (fr : Int) ≤ k := by omega
                  have hks2 : (k : Int) ≤ p.size := by omega
                  have hd := HV.out.2.2.1
                  clear hv2 hx
                  have HA := Lib.hid (row_new HO.out (p.extract fr k) HW.out.size (by omega))
                  go_wp2_with (at_builtin; go_loud (refine wpList_append_own (wr.alloc (.cells #[.string (p.extract fr k)] 9)) rfl (.tmp 42) (.tmp 47) _ rfl w.heap.size 9 i0 (.string ⟨#[]⟩) 1 16 Tryd.underlying23 HI.out.1 HI.out.2.1 HI.out.2.2.1 HI.out.2.2.2 rfl (by decide) _ done.length (done.map Value.string) rfl HA.out.1 ⟨wr.heap.size, 0, none⟩ 1 1 [.string (p.extract fr k)] rfl rfl HA.out.2.1 HA.out.2.2.1 HA.out.2.2.2.1 HA.out.2.2.2.2.1 HA.out.2.2.2.2.2 ?_))
                  intro v2 w5 o2 gr _
                  have hbx := (HW.out.alloc HW.out.size (.cells #[.string (p.extract fr k)] 9)).grown gr HA.out.2.2.2.2.2 (fun q hq => (World.ownsRow.lt HA.out.1 q hq).1)
                  have HO2 := Lib.hid (show w5.ownsRow w.heap.size 9 1 v2 (done ++ [p.extract fr k]).length ((done ++ [p.extract fr k]).map Value.string) by rw [List.length_append, List.map_append]; exact o2)
                  have HB2 := Lib.hid hbx
                  clear o2 gr hbx HA HO HW
                  go_wp2_with fail
                  go_roundw
                  case rel => exact ⟨k + 1, k + 1, done ++ [p.extract fr k], by go_num, by omega, by go_num, HV2.out, HO2.out, HB2.out⟩
                  case measure => simp [intOf] <;> omega
                · have hxb : (((p[k]'hks).toNat : Int) == 47) = false := beq_eq_false_iff_ne.2 (fun e => hx (UInt8.toNat_inj.1 (by show _ = 47; omega)))
                  have HV2 := Lib.hid (HV.out.pass hks (.inr hx))
                  clear hx
                  go_wp2_with fail
                  go_roundw
                  case rel => exact ⟨k + 1, fr, done, by go_num, by omega, rfl, HV2.out, HO.out, HW.out⟩
                  case measure => simp [intOf] <;> omega
              · obtain rfl : k = p.size := by omega
                · obtain ⟨hfk, hv2⟩ := HV.out.last hsz
                  have HV2 := Lib.hid hv2
                  have hfi : (fr : Int) ≤ p.size := by omega
                  have hd := HV.out.2.2.1
                  clear hv2
                  have HA := Lib.hid (row_new HO.out (p.extract fr p.size) HW.out.size (by omega))
                  go_wp2_with (at_builtin; go_loud (refine wpList_append_own (wr.alloc (.cells #[.string (p.extract fr p.size)] 9)) rfl (.tmp 42) (.tmp 47) _ rfl w.heap.size 9 i0 (.string ⟨#[]⟩) 1 16 Tryd.underlying23 HI.out.1 HI.out.2.1 HI.out.2.2.1 HI.out.2.2.2 rfl (by decide) _ done.length (done.map Value.string) rfl HA.out.1 ⟨wr.heap.size, 0, none⟩ 1 1 [.string (p.extract fr p.size)] rfl rfl HA.out.2.1 HA.out.2.2.1 HA.out.2.2.2.1 HA.out.2.2.2.2.1 HA.out.2.2.2.2.2 ?_))
                  intro v2 w5 o2 gr _
                  have hbx := (HW.out.alloc HW.out.size (.cells #[.string (p.extract fr p.size)] 9)).grown gr HA.out.2.2.2.2.2 (fun q hq => (World.ownsRow.lt HA.out.1 q hq).1)
                  have HO2 := Lib.hid (show w5.ownsRow w.heap.size 9 1 v2 (done ++ [p.extract fr p.size]).length ((done ++ [p.extract fr p.size]).map Value.string) by rw [List.length_append, List.map_append]; exact o2)
                  have HB2 := Lib.hid hbx
                  clear o2 gr hbx HA HO HW
                  go_wp2_with fail
                  go_roundw
                  case rel => exact ⟨p.size + 1, p.size + 1, done ++ [p.extract fr p.size], by go_num, by omega, by go_num, HV2.out, HO2.out, HB2.out⟩
                  case measure => simp [intOf] <;> omega
          · obtain rfl : k = p.size + 1 := by omega
            have hall := HV.out.all hpre
            obtain ⟨A, c, rfl, hcap, hr⟩ := row_of2 HO.out
            subst hall
            generalize hL : pieces (behind p) = l at *
            have HL := Lib.hid hL
            clear hL HV HO
            by_cases h8 : 8 < l.length
            · have hE : splitErr p = 36 := by unfold splitErr; rw [if_neg h120, hpre, if_neg (by simp), if_neg h0, HL.out, if_pos h8]
              have h8i : 8 < (l.length : Int) := by omega
              go_wp2_with fail
              go_ret2
              exact ⟨ref_nil p _ 36 hE (.inl (by omega)) _ rfl, HW.out⟩
            · have h8i : ¬ 8 < (l.length : Int) := by omega
              have hE : splitErr p = firstBad l := by unfold splitErr; rw [if_neg h120, hpre, if_neg (by simp), if_neg h0, HL.out, if_neg h8]
              have HE := Lib.hid hE
              have HS := Lib.hid (show firstBad l = 0 → splitL p = l from fun hx => by unfold splitL; rw [if_pos ⟨hE.trans hx, h0⟩]; exact HL.out)
              have HC := Lib.hid hcap
              have HSZ := Lib.hid (show ∀ x ∈ l, x.size ≤ 4294967280 from fun x hx => by
                rw [← HL.out] at hx
                have h1 := piece_le _ _ _ x hx
                have h2 := trim_le p.data.toList [47]
                have h3 : (behind p).size = (Lib.trimPrefix p.data.toList [47]).length := by show (Lib.trimPrefix p.data.toList [47]).toArray.size = _; simp
                have h4 : p.data.toList.length = p.size := by simp
                omega)
              clear hE
              obtain ⟨wd, hwd⟩ : ∃ wd : World, wd = wr := ⟨_, rfl⟩
              subst hwd
              go_wp2_with fail
              go_loopw [57] (fun i wr2 => ∃ k : Nat, i = .int .i64 k ∧ k ≤ l.length ∧ (∀ j (hj : j < l.length), j < k → goodM (l[j]).data.toList = 0) ∧ wr2 = wd) (fun i _ => l.length - (intOf i).toNat)
              case atStart => exact ⟨0, rfl, by omega, fun _ _ h => absurd h (Nat.not_lt_zero _), rfl⟩
              case round =>
                obtain ⟨k, rfl, hk2, hg, rfl⟩ := hrel
                by_cases hlt2 : k < l.length
                · obtain ⟨b, off, rfl, hc⟩ := short_cell hr k hlt2
                  have HG := Lib.hid (rgood_any l[k] (HSZ.out _ (List.getElem_mem hlt2)) wr)
                  have HGG := Lib.hid hg
                  have HF := Lib.hid (firstBad_step l k hlt2 hg)
                  clear hg
                  go_wp2_with fail
                  refine HG.out.mono ?_
                  rintro e w3 ⟨rfl, hw3⟩
                  rw [hw3]
                  clear hw3 HG
                  by_cases hz : goodM (l[k]).data.toList = 0
                  · rw [hz]
                    go_wp2
                    go_roundw
                    case rel => exact ⟨k + 1, by go_num, by omega, fun j hj h => by
                        by_cases hjk : j < k
                        · exact HGG.out j hj hjk
                        · obtain rfl : j = k := by omega
                          exact hz, trivial⟩
                    case measure => simp [intOf] <;> omega
                  · have hf := HF.out hz
                    generalize goodM (l[k]).data.toList = n at *
                    go_wp2
                    go_ret2
                    exact ⟨ref_nil p _ n (HE.out.trans hf) (.inl hz) _ rfl, HW.out⟩
                · obtain rfl : k = l.length := by omega
                  have hF := firstBad_none l (fun j hj => hg j hj hj)
                  have HEE := Lib.hid (HE.out.trans hF)
                  have HLL := Lib.hid (HS.out hF)
                  clear hg hF
                  go_wp2
                  go_ret2
                  exact ⟨⟨_, by rw [HEE.out]; rfl, by rw [HLL.out]; exact ⟨_, _, rfl, HC.out, hr⟩⟩, HW.out⟩
def RParEnds (p : ByteArray) (e : Ending) (w : World) : Prop :=
  (parErr p ≠ 0 ∧ e = .returned (.tuple #[.slice none 0 0, .string ⟨#[]⟩, .int .i64 (parErr p)])) ∨
  (parErr p = 0 ∧ ∃ A c L x, splitL p = L ++ [x] ∧ e = .returned (.tuple #[.slice A L.length c, .string x, .int .i64 0]) ∧ TxtRow w A L.length L)
set_option maxRecDepth 100000 in
theorem rparent_any (p : ByteArray) (hp : p.size ≤ 4294967280) (w : World) :
    Calls Tryd.prog 14 #[.string p] w fun e w' => RParEnds p e w' ∧ Below w.heap.size w w' := by
  have S := Lib.hid (rsplit_any p hp w)
  by_cases hz : splitErr p = 0
  · by_cases hn : splitL p = []
    · have hE : parErr p = 16 := by unfold parErr; rw [if_neg (by simp [hz]), if_pos hn]
      go_enter Tryd.func14, Tryd.ntmps14
      go_wp2_with fail
      refine S.out.mono ?_
      rintro e w1 ⟨⟨v, rfl, hs⟩, hb⟩
      rw [hn] at hs
      obtain ⟨A, c, rfl, _, _⟩ := hs
      rw [hz]
      go_wp2
      go_ret3
      exact ⟨.inl ⟨by rw [hE]; decide, by rw [hE]; rfl⟩, hb⟩
    · have hE : parErr p = 0 := by unfold parErr; rw [if_neg (by simp [hz]), if_neg hn]
      obtain ⟨L, x, hL⟩ : ∃ L x, splitL p = L ++ [x] := ⟨_, _, (List.dropLast_concat_getLast hn).symm⟩
      have h8 := splitL_le p
      go_enter Tryd.func14, Tryd.ntmps14
      go_wp2_with fail
      refine S.out.mono ?_
      rintro e w1 ⟨⟨v, rfl, hs⟩, hb⟩
      rw [hL] at hs h8
      obtain ⟨A, c, rfl, hcap, hr⟩ := hs
      have hlen : (L ++ [x]).length = L.length + 1 := by simp
      obtain ⟨b, off, rfl, hc⟩ := short_cell hr L.length (by omega)
      rw [show (L ++ [x])[L.length]'(by omega) = x by simp] at hc
      have HR := Lib.hid (txt_take hr L.length (by omega))
      rw [hz]
      have HL := Lib.hid hL
      rw [hlen] at hcap h8 ⊢
      have hwr : wrap64 (L.length : Int) = L.length := by unfold wrap64; omega
      have hci : (L.length : Int) ≤ c := by omega
      clear hL hn hr hlen
      go_wp2_with fail
      go_quiet (fail)
      go_wp2_with fail
      go_ret3
      refine ⟨.inr ⟨hE, _, _, L, x, HL.out, rfl, ?_⟩, below_drewN hb _⟩
      have := HR.out
      rw [List.take_left'] at this
      · exact this.below (below_drewN (Below.refl _ _) _)
      · rfl
  · have hE : parErr p = splitErr p := by unfold parErr; rw [if_pos hz]
    go_enter Tryd.func14, Tryd.ntmps14
    go_wp2_with fail
    refine S.out.mono ?_
    rintro e w1 ⟨⟨v, rfl, hs⟩, hb⟩
    have HE := Lib.hid hE
    generalize splitErr p = n at *
    clear hE
    go_wp2
    go_ret3
    exact ⟨.inl ⟨by rw [HE.out]; exact hz, by rw [HE.out]; rfl⟩, hb⟩
end Go.Proofs.YtlmgikgpmcdakaaDoor.Nm
