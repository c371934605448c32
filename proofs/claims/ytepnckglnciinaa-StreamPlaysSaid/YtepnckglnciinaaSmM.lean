/- The example of the stream's laws. -/
import Derived.Test.YtepnckglnciinaaSmL
namespace Go.Proofs.Ytepnckglnciinaa.Sm
open Go.RowKit Go.Proofs.Ytepnckglnciinaa.Mem
set_option linter.unusedVariables false

def cA : ChgP := ⟨⟨#[97]⟩, ⟨#[49]⟩, false⟩
def bA : ByteArray := ⟨#[0, 0, 0, 1, 0, 0, 1, 97, 0, 1, 49]⟩
theorem put_cA : putD [cA] = [0, 0, 0, 1, 0, 0, 1, 97, 0, 1, 49] := by decide +kernel
theorem put_bA : (⟨(putD [cA]).toArray⟩ : ByteArray) = bA := by rw [put_cA]; rfl
theorem cut_bA : cutL bA = [bA] := by
  have e : bA.size = 11 := rfl
  rw [cutL_cons (by rw [e]; decide), e, cutL_nil (by rw [ByteArray.size_extract, e]; decide)]
  congr 1
theorem may_bA : mayB 1 0 bA = true := by decide +kernel
def mA : Int → Option ByteArray := updM (fun _ => none) 0 bA
theorem add_bA : addV 1 (fun _ => none) 0 bA = (true, 0, mA) := add_new may_bA rfl
theorem cnt_bA : cntM 1 mA = 1 := by decide +kernel
theorem all_bA : (⟨(allB mA 1).toArray⟩ : ByteArray) = bA := by
  have e : allB mA 1 = bA.data.toList := by simp [allB, partB, mA, updM]
  rw [e]
theorem small_bA : ∀ z s, mA z = some s → s.size ≤ 512 := by
  intro z s h
  unfold mA updM at h
  by_cases hz : z = 0
  · rw [if_pos hz] at h
    injection h with h
    subst h
    decide
  · rw [if_neg hz] at h
    cases h
theorem get_bA : getP bA = .ok ([cA], ⟨#[]⟩) := by kernel_rfl
theorem sort_cA : SortP ⟨#[]⟩ [cA] := ⟨⟨by decide +kernel, by decide +kernel, by decide, by decide, fun h => by cases h⟩, trivial⟩
theorem some_bA {o : Option (List ChgP)} (h : GetsTo bA o) : o = some [cA] := by
  cases o with
  | none => exact absurd sort_cA (h _ _ get_bA (by decide +kernel))
  | some cs =>
    obtain ⟨r, h1, _⟩ := h
    rw [get_bA] at h1
    injection h1 with h1
    injection h1 with h1 _
    rw [h1]
theorem win_a : winL 0 9 = [0, 1, 2, 3] := by decide +kernel
theorem win_b : winL 5 9 = [5, 6, 7] := by decide +kernel
theorem lit_row {w : World} {b : Nat} {cs : Array Value} {l : List Int} (h : Has w b 3 cs) (hl : cs.toList = l.map (Value.int .i64)) : NumRow w (some ⟨b, 0, none⟩) l.length l := ⟨rfl, fun _ => ⟨b, 0, rfl, h.bound, fun i hi => by
  rw [h.at_, Nat.zero_add, ← Array.getElem?_toList, hl]
  simp⟩⟩
theorem txt_row {w : World} {B : Nat} {u : Value} {x : ByteArray} (h : OwnS w B u [x]) : ∃ b c, u = .slice (some ⟨b, 0, none⟩) 1 c ∧ b < w.heap.size ∧ w.cell? ⟨b, 0, none⟩ = some (.string x) := by
  rcases h.2 with ⟨e, e0⟩ | ⟨g, cap, cur, e, hg, hh, hn, hm, hs, ht⟩
  · simp at e0
  · refine ⟨g, cap, e, (Array.getElem?_eq_some_iff.1 hh).1, ?_⟩
    have hcell := World.ownsRow.cells h (g := g) (by rw [e]; rfl) 0 (.string x) (by simp)
    have ha : (⟨g, 0, none⟩ : Addr).add 0 = ⟨g, 0, none⟩ := by unfold Addr.add; split <;> simp_all
    rw [ha] at hcell
    exact hcell
set_option maxRecDepth 100000 in
set_option maxHeartbeats 4000000 in
theorem awake_any (W : World) : Calls Try.prog 13 #[] W fun e w' => e = .returned (.bool true) ∧ Below W.heap.size W w' := by
  have HNEW := Lib.hid (new_good 1 (by decide) (by decide) W)
  go_enter Try.func13, Try.ntmps13
  go_wp2_with fail
  refine HNEW.out.mono ?_
  rintro e w1 ⟨rfl, hst, hb, hsz⟩
  obtain ⟨g, hg⟩ : ∃ g, g = W.heap.size + 1 := ⟨_, rfl⟩
  obtain ⟨q, hq⟩ : ∃ q, q = W.heap.size := ⟨_, rfl⟩
  rw [← hg] at hst ⊢
  rw [← hq] at hst
  have hGL := Lib.hid (show W.heap.size ≤ g ∧ W.heap.size ≤ q by omega)
  have HS1 := Lib.hid hst
  have HB1 := Lib.hid hb
  have HX := Lib.hid (Has.fresh w1 53 (chC cA))
  have hba := (Below.refl w1.heap.size w1).alloc (Nat.le_refl _) (.cells (chC cA) 53)
  have HS2 := Lib.hid (hst.below hba)
  have HB2 := Lib.hid (hb.trans (hba.mono hb.size))
  have HCUT := Lib.hid (cut_any (some ⟨w1.heap.size, 0, none⟩) 1 1 [cA] (w1.alloc (.cells (chC cA) 53)) ⟨rfl, fun i c hc => ⟨w1.heap.size, 0, rfl, by simp, fun j v hv => by
    have hi : i = 0 := by have := (List.getElem?_eq_some_iff.1 hc).1; simp at this; exact this
    subst hi
    simp at hc
    subst hc
    rw [HX.out.at_]
    simpa using hv⟩⟩ (by omega) (by rw [put_cA]; decide))
  rw [put_bA, cut_bA] at HCUT
  unfold chC cA at HCUT HS2 HB2
  clear hst hb hba hg hq hsz
  go_wp2_with fail
  refine HCUT.out.mono ?_
  rintro e w3 ⟨u, rfl, hu, hb⟩
  obtain ⟨b3, c3, rfl, hbl, hcell⟩ := txt_row hu
  have HS3 := Lib.hid (HS2.out.below hb)
  have HB3 := Lib.hid (HB2.out.trans (hb.mono HB2.out.size))
  have HMISS := Lib.hid (missing_live g q 1 (fun _ => none) w3 (HS2.out.below hb))
  have HCELL := Lib.hid (And.intro hbl hcell)
  clear hu hb hbl hcell
  go_wp2_with fail
  refine HMISS.out.mono ?_
  rintro e w4 ⟨j, rfl, hj, hj2, hb⟩
  obtain rfl : j = 0 := by
    cases j with
    | zero => rfl
    | succ j => have := hj 0 (by omega); cases this
  have HS4 := Lib.hid (HS3.out.below hb)
  have HB4 := Lib.hid (HB3.out.trans (hb.mono HB3.out.size))
  have x4 : w4.cell? ⟨b3, 0, none⟩ = some (.string bA) := (Below.cell hb (p := ⟨b3, 0, none⟩) HCELL.out.1).trans HCELL.out.2
  have HADD := Lib.hid (add_live g q 1 (fun _ => none) 0 bA w4 (HS3.out.below hb))
  clear hj hj2 hb
  rw [add_bA] at HADD
  go_wp2_with fail
  refine HADD.out.mono ?_
  rintro e w5 ⟨rfl, hst, hc⟩
  have HB5 := Lib.hid (HB4.out.trans (hc.below (B := W.heap.size) HB4.out.size (fun k hk e => by have := hGL.out.2; omega)))
  have HCH := Lib.hid (changes_live g q 1 mA small_bA (by decide) w5 hst (by rw [cnt_bA]; decide))
  rw [all_bA] at HCH
  dsimp only
  clear hst hc x4
  go_wp2_with fail
  refine HCH.out.mono ?_
  rintro e w6 ⟨⟨o, ho, hout⟩, hb⟩
  obtain rfl := some_bA ho
  obtain ⟨v, rfl, hv⟩ := hout
  obtain ⟨Av, cv, rfl⟩ := hv.sl
  have HB6 := Lib.hid (HB5.out.trans (hb.mono HB5.out.size))
  have HW1 := Lib.hid (window_any 0 9 (by decide) (by decide) w6)
  rw [win_a] at HW1
  clear ho hv hb
  go_wp2_with fail
  refine HW1.out.mono ?_
  rintro e w7 ⟨u7, rfl, hu7, hb⟩
  have HB7 := Lib.hid (HB6.out.trans (hb.mono HB6.out.size))
  obtain ⟨A7, c7, rfl, hr7⟩ := hu7.row
  have hba := (Below.refl w7.heap.size w7).alloc (Nat.le_refl _) (.cells #[.int .i64 0, .int .i64 1, .int .i64 2, .int .i64 3] 3)
  have HB8 := Lib.hid (HB7.out.trans (hba.mono HB7.out.size))
  have HE1 := Lib.hid (eqi_any A7 (some ⟨w7.heap.size, 0, none⟩) 4 4 c7 4 [0, 1, 2, 3] [0, 1, 2, 3] (by decide) _ (hr7.below hba) (lit_row (Has.fresh w7 3 #[.int .i64 0, .int .i64 1, .int .i64 2, .int .i64 3]) rfl))
  clear hu7 hb hr7 hba
  go_wp2_with fail
  refine HE1.out.mono ?_
  rintro e w9 ⟨rfl, hb⟩
  have HB9 := Lib.hid (HB8.out.trans (hb.mono HB8.out.size))
  have HW2 := Lib.hid (window_any 5 9 (by decide) (by decide) w9)
  rw [win_b] at HW2
  clear hb
  go_wp2_with fail
  refine HW2.out.mono ?_
  rintro e w10 ⟨u10, rfl, hu10, hb⟩
  have HB10 := Lib.hid (HB9.out.trans (hb.mono HB9.out.size))
  obtain ⟨A10, c10, rfl, hr10⟩ := hu10.row
  have hba := (Below.refl w10.heap.size w10).alloc (Nat.le_refl _) (.cells #[.int .i64 5, .int .i64 6, .int .i64 7] 3)
  have HB11 := Lib.hid (HB10.out.trans (hba.mono HB10.out.size))
  have HE2 := Lib.hid (eqi_any A10 (some ⟨w10.heap.size, 0, none⟩) 3 3 c10 3 [5, 6, 7] [5, 6, 7] (by decide) _ (hr10.below hba) (lit_row (Has.fresh w10 3 #[.int .i64 5, .int .i64 6, .int .i64 7]) rfl))
  clear hu10 hb hr10 hba
  go_wp2_with fail
  refine HE2.out.mono ?_
  rintro e w12 ⟨rfl, hb⟩
  have HB12 := Lib.hid (HB11.out.trans (hb.mono HB11.out.size))
  clear hb
  go_wp2
  go_ret
  exact ⟨rfl, HB12.out⟩
end Go.Proofs.Ytepnckglnciinaa.Sm
