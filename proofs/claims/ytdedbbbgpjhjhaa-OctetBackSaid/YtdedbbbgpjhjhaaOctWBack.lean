/- The walk of the law OctetBack. -/
import Derived.Test.YtdedbbbgpjhjhaaOctBackL
import Derived.Test.YtdedbbbgpjhjhaaOctPutT
namespace Go.Proofs.Ytdedbbbgpjhjhaa.Oct
open Go.RowKit
open Rws

def tot (ts : List ByteArray) : Nat := (ts.map fun t => min t.size 8193).sum
theorem tot_snoc (ts : List ByteArray) (t : ByteArray) : tot (ts ++ [t]) = tot ts + min t.size 8193 := by simp [tot]
theorem tot_mem {ts : List ByteArray} (h : tot ts ≤ 8192) : ∀ t ∈ ts, t.size ≤ 8192 := by
  induction ts with
  | nil => intro t ht; cases ht
  | cons a ts ih =>
    have e : tot (a :: ts) = min a.size 8193 + tot ts := by simp [tot]
    intro t ht
    rcases List.mem_cons.1 ht with rfl | ht
    · omega
    · exact ih (by omega) t ht
theorem enter_back (args : Array Value) (W : World) : (callFunc 28 args).run Try.prog W = .ok (.enter 28 args) W := by kernel_rfl
theorem width_of (c : Int) : ∃ k : Nat, 1 ≤ k ∧ k ≤ 8 ∧ wrap64 (1 + wrap64 ((IntKind.u64.wrap c).tmod 8)) = (k : Int) := by
  have h0 := wrap_u64_nonneg c
  generalize IntKind.u64.wrap c = U at *
  rw [Int.tmod_eq_emod_of_nonneg h0]
  have h1 := Int.emod_nonneg U (show (8 : Int) ≠ 0 by decide)
  have h2 := Int.emod_lt_of_pos U (show (0 : Int) < 8 by decide)
  generalize U % 8 = m at *
  refine ⟨(1 + m).toNat, by omega, by omega, ?_⟩
  unfold wrap64
  omega
theorem Owns.mono' {w : World} {B C : Nat} {v : Value} {l : List UInt8} (h : Owns w C v l) (hb : B ≤ C) : Owns w B v l := by
  obtain ⟨hl, h⟩ := h
  refine ⟨hl, ?_⟩
  rcases h with h | ⟨g, c, cur, e, hB, hr⟩
  · exact .inl h
  · exact .inr ⟨g, c, cur, e, Nat.le_trans hb hB, hr⟩
theorem flat_len (K : Nat) (hK : K ≤ 8) (xs : List Int) : (xs.flatMap (nB K)).length ≤ 8 * xs.length := by
  induction xs with
  | nil => exact Nat.zero_le _
  | cons x xs ih =>
    rw [List.flatMap_cons, List.length_append, nB_len, List.length_cons]
    omega
theorem flat_len2 (ts : List ByteArray) (h : ∀ t ∈ ts, t.size ≤ 8192) : (ts.flatMap tB).length ≤ 8194 * ts.length := by
  induction ts with
  | nil => exact Nat.zero_le _
  | cons t ts ih =>
    have h1 := ih (fun t ht => h t (List.mem_cons_of_mem _ ht))
    have h2 := h t List.mem_cons_self
    have h3 : (tB t).length = 2 + t.size := by unfold tB; rw [List.length_append, Array.length_toList]; rfl
    rw [List.flatMap_cons, List.length_append, List.length_cons]
    omega
/-- The world behind the boxes. -/
def boxW (w : World) (A D : Option Addr) (n c m d : Nat) : World := (w.alloc (.cells #[.slice A n c] 34)).alloc (.cells #[.slice D m d] 35)
set_option maxRecDepth 100000 in
set_option maxHeartbeats 2000000 in
theorem back_all (A D : Option Addr) (n c m d : Nat) (x : Int) (xs : List Int) (ts : List ByteArray) (hm : m ≤ maxLen) (w : World) (h : NumRow w A n xs) (h2 : TxtRow w D m ts) :
    Calls Try.prog 5 #[.slice A n c, .slice D m d, .int .i64 x] w fun e w' => e = .returned (.bool true) ∧ Below w.heap.size w w' := by
  obtain ⟨W0, hW0⟩ : ∃ W0 : World, W0 = boxW w A D n c m d := ⟨_, rfl⟩
  have h3 : Has W0 w.heap.size 34 #[.slice A n c] := by rw [hW0]; exact (Has.fresh w _ _).past _
  have h4 : Has W0 (w.heap.size + 1) 35 #[.slice D m d] := by
    have h := Has.fresh (w.alloc (.cells #[.slice A n c] 34)) 35 #[.slice D m d]
    rw [World.size_alloc] at h
    rw [hW0]
    exact h
  have h5 : Below w.heap.size w W0 := by rw [hW0]; exact ((Below.refl _ w).alloc (Nat.le_refl _) _).alloc (by simp) _
  have h6 : W0.heap.size = w.heap.size + 2 := by rw [hW0]; simp [boxW]
  have HN := Lib.hid h3
  have HD := Lib.hid h4
  have HB := Lib.hid h5
  have HX := Lib.hid h
  have HT := Lib.hid h2
  have H6 := Lib.hid h6
  have cT := Has.at_ h4 0
  have cN := Has.at_ h3 0
  simp at cT cN
  clear h h2 h3 h4 h5 h6
  unfold boxW at hW0
  go_enter Try.func5, Try.ntmps5
  go_wp2
  rw [← hW0]
  clear hW0
  go_loop [7, 8] (fun s i => ∃ j : Nat, j ≤ m ∧ j ≤ 101 ∧ i = .int .i64 j ∧ s = .int .i64 (tot (ts.take j) : Nat) ∧ tot (ts.take j) ≤ 16385) (fun _ i => m - (intOf i).toNat)
  case atStart => exact ⟨0, Nat.zero_le _, by omega, rfl, rfl, by simp [tot]⟩
  case round =>
    obtain ⟨j, hj, hj1, rfl, rfl, hs⟩ := hrel
    by_cases g1 : (j : Int) < (m : Int)
    · by_cases g2 : (j : Int) ≤ 100
      · by_cases g3 : ((tot (ts.take j) : Nat) : Int) ≤ 8192
        · obtain ⟨b, off, rfl, hbl, hcl⟩ := HT.out.2 (by omega)
          have hjx : j < ts.length := by rw [HT.out.1]; omega
          have cx := (HB.out.cell (p := ⟨b, off + j, none⟩) hbl).trans (hcl j hjx)
          have hnx : tot (ts.take (j + 1)) = tot (ts.take j) + min ts[j].size 8193 := by rw [List.take_succ_eq_append_getElem hjx, tot_snoc]
          have HNX := Lib.hid hnx
          clear hcl hnx
          generalize ts[j] = t at *
          generalize tot (ts.take j) = S at *
          rcases Nat.lt_trichotomy t.size 8193 with k | k | k
          · have k1 : (t.size : Int) < 8193 := by omega
            have k2 : ¬ 8193 < (t.size : Int) := by omega
            have HE := Lib.hid (show min t.size 8193 = t.size by omega)
            clear k
            go_wp2
            refine ⟨⟨j + 1, by omega, by omega, by go_num, by rw [HNX.out, HE.out, Int.natCast_add], by have := HNX.out; have := HE.out; omega⟩, by simp [intOf]; omega⟩
          · have k1 : ¬ (t.size : Int) < 8193 := by omega
            have k2 : ¬ 8193 < (t.size : Int) := by omega
            have HE := Lib.hid (show min t.size 8193 = t.size by omega)
            clear k
            go_wp2
            refine ⟨⟨j + 1, by omega, by omega, by go_num, by rw [HNX.out, HE.out, Int.natCast_add], by have := HNX.out; have := HE.out; omega⟩, by simp [intOf]; omega⟩
          · have k1 : ¬ (t.size : Int) < 8193 := by omega
            have k2 : 8193 < (t.size : Int) := by omega
            have HE := Lib.hid (show min t.size 8193 = 8193 by omega)
            clear k
            go_wp2
            refine ⟨⟨j + 1, by omega, by omega, by go_num, by rw [HNX.out, HE.out, Int.natCast_add]; rfl, by have := HNX.out; have := HE.out; omega⟩, by simp [intOf]; omega⟩
        · by_cases f1 : 100 < (n : Int)
          · go_wp2_with fail
            refine (awake_any _).mono ?_
            rintro e w' ⟨rfl, hb9⟩
            go_wp2
            go_ret
            exact ⟨rfl, HB.out.trans (hb9.mono HB.out.size)⟩
          · by_cases f2 : 100 < (m : Int)
            · go_wp2_with fail
              refine (awake_any _).mono ?_
              rintro e w' ⟨rfl, hb9⟩
              go_wp2
              go_ret
              exact ⟨rfl, HB.out.trans (hb9.mono HB.out.size)⟩
            · have f3 : 8192 < ((tot (ts.take j) : Nat) : Int) := by omega
              go_wp2_with fail
              refine (awake_any _).mono ?_
              rintro e w' ⟨rfl, hb9⟩
              go_wp2
              go_ret
              exact ⟨rfl, HB.out.trans (hb9.mono HB.out.size)⟩
      · by_cases f1 : 100 < (n : Int)
        · go_wp2_with fail
          refine (awake_any _).mono ?_
          rintro e w' ⟨rfl, hb9⟩
          go_wp2
          go_ret
          exact ⟨rfl, HB.out.trans (hb9.mono HB.out.size)⟩
        · by_cases f2 : 100 < (m : Int)
          · go_wp2_with fail
            refine (awake_any _).mono ?_
            rintro e w' ⟨rfl, hb9⟩
            go_wp2
            go_ret
            exact ⟨rfl, HB.out.trans (hb9.mono HB.out.size)⟩
          · exact absurd f2 (by omega)
    · by_cases f1 : 100 < (n : Int)
      · go_wp2_with fail
        refine (awake_any _).mono ?_
        rintro e w' ⟨rfl, hb9⟩
        go_wp2
        go_ret
        exact ⟨rfl, HB.out.trans (hb9.mono HB.out.size)⟩
      · by_cases f2 : 100 < (m : Int)
        · go_wp2_with fail
          refine (awake_any _).mono ?_
          rintro e w' ⟨rfl, hb9⟩
          go_wp2
          go_ret
          exact ⟨rfl, HB.out.trans (hb9.mono HB.out.size)⟩
        · by_cases f3 : 8192 < ((tot (ts.take j) : Nat) : Int)
          · go_wp2_with fail
            refine (awake_any _).mono ?_
            rintro e w' ⟨rfl, hb9⟩
            go_wp2
            go_ret
            exact ⟨rfl, HB.out.trans (hb9.mono HB.out.size)⟩
          · obtain rfl : j = m := by omega
            obtain ⟨K, k1, k8, hk⟩ := width_of x
            have hj1' : ts.take j = ts := List.take_of_length_le (by rw [HT.out.1]; exact Nat.le_refl _)
            have htot : ∀ t ∈ ts, t.size ≤ 8192 := tot_mem (by rw [← hj1']; omega)
            have HSZ := Lib.hid htot
            have hN1 := HN.out.past (.cells #[.int .i64 K] 3)
            have hD1 := HD.out.past (.cells #[.int .i64 K] 3)
            have hw1 := Has.fresh W0 3 #[.int .i64 K]
            have hB1 := HB.out.alloc HB.out.size (.cells #[.int .i64 K] 3)
            have hs1 : (W0.alloc (.cells #[.int .i64 K] 3)).heap.size = w.heap.size + 3 := by rw [World.size_alloc, H6.out]
            have cN1 := Has.at_ hN1 0
            have cT1 := Has.at_ hD1 0
            simp at cN1 cT1
            have HN1 := Lib.hid hN1
            have HD1 := Lib.hid hD1
            have HW1 := Lib.hid hw1
            have HB1 := Lib.hid hB1
            have HS1 := Lib.hid hs1
            clear htot hj1' hN1 hD1 hw1 hB1 hs1
            go_wp2
            clear cN cT cN1 hk
            generalize W0.alloc (.cells #[.int .i64 K] 3) = W1 at *
            have hbW : W0.heap.size = w.heap.size + 2 := H6.out
            rw [hbW] at HW1 ⊢
            clear hbW H6
            have hs8 : K ≤ 8 := k8
            go_loopw [10, 59] (fun v i wr => ∃ k : Nat, k ≤ n ∧ i = .int .i64 k ∧ Owns wr W1.heap.size v ((xs.take k).flatMap (nB K)) ∧ Below W1.heap.size W1 wr) (fun _ i _ => n - (intOf i).toNat)
            case atStart => exact ⟨0, Nat.zero_le _, rfl, World.ownsRow_nil _ _ _ _, Below.refl _ _⟩
            case round =>
              obtain ⟨k, hk, rfl, ho, hb⟩ := hrel
              by_cases hlt : k < n
              · obtain ⟨b, off, rfl, hbl, hcl⟩ := HX.out.2 (by omega)
                have hkx : k < xs.length := by rw [HX.out.1]; exact hlt
                have hbw := HB1.out.trans (hb.mono HB1.out.size)
                have cx := (hbw.cell (p := ⟨b, off + k, none⟩) hbl).trans (hcl k hkx)
                have cw := Has.at_ (HW1.out.below hb) 0
                have hfx : (xs.take (k + 1)).flatMap (nB K) = (xs.take k).flatMap (nB K) ++ nB K xs[k] := by rw [List.take_succ_eq_append_getElem hkx, List.flatMap_append]; simp
                have hfl := flat_len K hs8 (xs.take k)
                rw [List.length_take] at hfl
                have HFX := Lib.hid hfx
                simp at cw
                clear hcl hfx
                generalize (xs.take k).flatMap (nB K) = L at *
                generalize xs[k] = y at *
                obtain ⟨V, vc, rfl, rv, r0⟩ := ho.lens
                have HP := Lib.hid (put_in V L.length vc K y L (by omega) k1 hs8 _ rv r0)
                clear ho rv r0 hfl
                go_wp2_with fail
                refine HP.out.mono ?_
                rintro e w2 ⟨v2, rfl, o2, b2⟩
                have HO2 := Lib.hid (o2.mono' hb.size)
                have HB2 := Lib.hid (hb.trans (b2.mono hb.size))
                clear HP o2 b2 cx cw
                go_wp2
                go_roundw
                case rel => exact ⟨k + 1, by omega, by go_num, by rw [HFX.out]; exact HO2.out, HB2.out⟩
                case measure => simp [intOf]; omega
              · obtain rfl : k = n := by omega
                have hxt : xs.take k = xs := List.take_of_length_le (by rw [HX.out.1]; exact Nat.le_refl _)
                rw [hxt] at ho
                have cT2 := Has.at_ (HD1.out.below hb) 0
                simp at cT2
                have HO := Lib.hid ho
                have HB2 := Lib.hid hb
                clear ho hb hxt cT1
                go_wp2
                clear cT2
                obtain ⟨W2, hW2⟩ : ∃ W2 : World, W2 = wr := ⟨_, rfl⟩
                subst hW2
                have hxl := flat_len K hs8 xs
                rw [HX.out.1] at hxl
                obtain ⟨LX, hLX⟩ : ∃ LX, LX = xs.flatMap (nB K) := ⟨_, rfl⟩
                rw [← hLX] at HO hxl
                have HLX := Lib.hid hLX
                clear hLX
                go_loopw [10, 70] (fun v i wr => ∃ q : Nat, q ≤ j ∧ i = .int .i64 q ∧ Owns wr W1.heap.size v (LX ++ (ts.take q).flatMap tB) ∧ Below W1.heap.size W1 wr) (fun _ i _ => j - (intOf i).toNat)
                case atStart => exact ⟨0, Nat.zero_le _, rfl, by rw [List.take_zero, List.flatMap_nil, List.append_nil]; exact HO.out, HB2.out⟩
                case round =>
                  obtain ⟨q, hq, rfl, ho, hb⟩ := hrel
                  by_cases hlt2 : q < j
                  · obtain ⟨b, off, rfl, hbl, hcl⟩ := HT.out.2 (by omega)
                    have hqx : q < ts.length := by rw [HT.out.1]; exact hlt2
                    have hbw := HB1.out.trans (hb.mono HB1.out.size)
                    have cx := (hbw.cell (p := ⟨b, off + q, none⟩) hbl).trans (hcl q hqx)
                    have hfx : (ts.take (q + 1)).flatMap tB = (ts.take q).flatMap tB ++ tB ts[q] := by rw [List.take_succ_eq_append_getElem hqx, List.flatMap_append]; simp
                    have hfl := flat_len2 (ts.take q) (fun t ht => HSZ.out t (List.mem_of_mem_take ht))
                    have hsz := HSZ.out _ (List.getElem_mem hqx)
                    rw [List.length_take] at hfl
                    have hln : (LX ++ (ts.take q).flatMap tB).length ≤ 900000 := by rw [List.length_append]; omega
                    have hfy : LX ++ (ts.take (q + 1)).flatMap tB = LX ++ (ts.take q).flatMap tB ++ tB ts[q] := by rw [hfx, List.append_assoc]
                    have HFX := Lib.hid hfy
                    clear hcl hfx hfl hfy
                    generalize LX ++ (ts.take q).flatMap tB = L at *
                    generalize ts[q] = t at *
                    have hct : L ++ headT (cutT t).length ++ cutT t = L ++ tB t := by
                      have e : cutT t = t.data.toList := by unfold cutT; exact List.take_of_length_le (by rw [Array.length_toList]; show t.size ≤ 65535; omega)
                      rw [e, List.append_assoc]
                      rfl
                    obtain ⟨V, vc, rfl, rv, r0⟩ := ho.lens
                    have hp := ptext_any V L.length vc L t hln _ rv r0
                    rw [hct] at hp
                    have HP := Lib.hid hp
                    clear ho rv r0 hp hct hln hsz
                    go_wp2_with fail
                    refine HP.out.mono ?_
                    rintro e w2 ⟨v2, rfl, o2, b2⟩
                    have HO2 := Lib.hid (o2.mono' hb.size)
                    have HB3 := Lib.hid (hb.trans (b2.mono hb.size))
                    clear HP o2 b2 cx
                    go_wp2
                    go_roundw
                    case rel => exact ⟨q + 1, by omega, by go_num, by rw [HFX.out]; exact HO2.out, HB3.out⟩
                    case measure => simp [intOf]; omega
                  · obtain rfl : q = j := by omega
                    have htt : ts.take q = ts := List.take_of_length_le (by rw [HT.out.1]; exact Nat.le_refl _)
                    rw [htt] at ho
                    obtain ⟨LL, hLL⟩ : ∃ LL, LL = LX ++ ts.flatMap tB := ⟨_, rfl⟩
                    rw [← hLL] at ho
                    have HLL := Lib.hid hLL
                    clear hLL
                    obtain ⟨V, vc, rfl, rv, r0⟩ := ho.lens
                    have HR := Lib.hid rv
                    have HB3 := Lib.hid hb
                    clear ho rv r0 hb htt
                    obtain ⟨W3, hW3⟩ : ∃ W3 : World, W3 = wr := ⟨_, rfl⟩
                    subst hW3
                    obtain ⟨W4, hW4⟩ : ∃ W4 : World, W4 = W3.alloc (.cells #[.bool true] 4) := ⟨_, rfl⟩
                    have b34 : Below W3.heap.size W3 W4 := by rw [hW4]; exact (Below.refl _ _).alloc (Nat.le_refl _) _
                    have hO4 : Has W4 W3.heap.size 4 #[.bool true] := by rw [hW4]; exact Has.fresh _ _ _
                    have s4 : W4.heap.size = W3.heap.size + 1 := by rw [hW4]; simp
                    have b14 : Below W1.heap.size W1 W4 := HB3.out.trans (b34.mono HB3.out.size)
                    have b04 : Below w.heap.size w W4 := HB1.out.trans (b14.mono HB1.out.size)
                    have r4 := HR.out.below b34
                    have hs13 := HB3.out.size
                    have hs1 := HS1.out
                    have bl := lookW_below W4 (LL)
                    have bk : Bk w (lookW W4 (LL)) (W4.heap.size + 3) (W4.heap.size + 1) w.heap.size (w.heap.size + 2) W3.heap.size (w.heap.size + 1) K A D k c q d xs ts :=
                      ⟨b04.trans (bl.mono b04.size), HX.out, HT.out, (HN1.out.below b14).below bl, (HW1.out.below b14).below bl, (HD1.out.below b14).below bl⟩
                    have lk : Looks (lookW W4 (LL)) (W4.heap.size + 3) (W4.heap.size + 1) ⟨(xs.flatMap (nB K) ++ ts.flatMap tB).toArray⟩ := by rw [← HLX.out, ← HLL.out]; exact ⟨lookW_eye _ _, lookW_sight _ _⟩
                    have HRD := Lib.hid (read_look V LL.length vc (LL) 28 #[.pointer (some ⟨w.heap.size, 0, none⟩), .pointer (some ⟨w.heap.size + 2, 0, none⟩), .pointer (some ⟨W3.heap.size, 0, none⟩), .pointer (some ⟨w.heap.size + 1, 0, none⟩)] W4 r4 enter_back (fun z => z = W3.heap.size) (by omega) (by omega)
                      (fun r b y w1 => r = ⟨#[]⟩ ∧ b = false ∧ y = 0 ∧ Has w1 W3.heap.size 4 #[.bool true])
                      ((back_look w (W4.heap.size + 3) (W4.heap.size + 1) w.heap.size (w.heap.size + 2) W3.heap.size (w.heap.size + 1) K A D k c q d xs ts k1 hs8 (by omega) (by omega) HSZ.out (by omega) (by omega) (by omega) (by omega) (by omega) (by omega) (by omega) (by omega) (by omega) (by omega) (by omega) _ bk lk (hO4.below bl)).mono
                        fun e w1 h => ⟨h.1, ⟨#[]⟩, false, 0, h.2.1.sight, h.2.2.2, rfl, rfl, rfl, h.2.2.1⟩))
                    have HB4 := Lib.hid b04
                    have HS4 := Lib.hid s4
                    have HS13 := Lib.hid (show w.heap.size ≤ W3.heap.size by omega)
                    clear bk lk bl r4 b34 hO4 b14 b04 hs13 hs1 s4
                    go_wp2_with fail
                    rw [← hW4]
                    clear hW4
                    refine HRD.out.mono ?_
                    rintro e w2 ⟨r, b, y, w1, ⟨rfl, rfl, rfl, ho1⟩, rfl, g1, g2⟩
                    have ho2 := ho1.over g2 (fun z => by have := HS4.out; omega)
                    have hbel := look_below (w := W4) (B := w.heap.size) g1 g2 HB4.out.size (fun z hz hzz => by have := HS13.out; omega)
                    have cO := Has.at_ ho2 0
                    simp at cO
                    have ew : why ⟨#[]⟩ false 0 = 0 := by decide +kernel
                    rw [ew]
                    have HB5 := Lib.hid (HB4.out.trans (hbel))
                    clear HRD ho1 ho2 g1 g2 hbel ew
                    go_wp2_with fail
                    refine (awake_any _).mono ?_
                    rintro e w' ⟨rfl, hb9⟩
                    go_wp2
                    go_ret
                    exact ⟨rfl, HB5.out.trans (hb9.mono HB5.out.size)⟩
theorem back_walk (w : World) (A0 : Option Addr) (n0 c0 : Nat) (a0 : List Int) (A1 : Option Addr) (n1 c1 : Nat) (a1 : List ByteArray) (a2 : Int)
    (w0 : NumRow w A0 n0 a0) (_ : A0 = none → n0 = 0 ∧ c0 = 0) (_ : n0 ≤ c0) (_ : c0 ≤ maxLen) (_ : ∀ x ∈ a0, -9223372036854775808 ≤ x ∧ x ≤ 9223372036854775807)
    (w1 : TxtRow w A1 n1 a1) (_ : A1 = none → n1 = 0 ∧ c1 = 0) (b1 : n1 ≤ c1) (m1 : c1 ≤ maxLen) (_ : ∀ x ∈ a1, x.size ≤ maxLen) (_ : (Lit.int .i64 a2).wf = true) :
    Calls Try.prog 5 #[.slice A0 n0 c0, .slice A1 n1 c1, .int .i64 a2] w fun e w' => e = .returned (.bool true) ∧ Below w.heap.size w w' :=
  back_all A0 A1 n0 c0 n1 c1 a2 a0 a1 (Nat.le_trans b1 m1) w w0 w1
end Go.Proofs.Ytdedbbbgpjhjhaa.Oct
