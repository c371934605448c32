import Derived.Test.YtdbmnnmcelaehaaDoorTxA
import Derived.Laws.NewBlocks
import Derived.Laws.BytesArg
import Derived.Laws.BytesString
import Derived.Deep.LoopGhost

/- Numbers in decimal digits: the document's. -/
namespace Go.Proofs.YtdbmnnmcelaehaaDoor.Tx
open Go.RowKit Go.Proofs.YtdbmnnmcelaehaaDoor.Mem
set_option linter.unusedVariables false set_option linter.unusedSimpArgs false

theorem conv_one (wr : World) (x : Int) : (convert 88 9 (.slice (some ⟨wr.heap.size, 0, none⟩) 1 1)).run Tryd.prog (wr.alloc (.cells #[.int .u8 x] 5)) = .ok (.string (strOfNums [x])) (wr.alloc (.cells #[.int .u8 x] 5)) :=
  run_convert_bytes_arg (P := Tryd.prog) (wr.alloc (.cells #[.int .u8 x] 5)) 88 5 Tryd.underlying88 Tryd.underlying5 wr.heap.size 0 1 1 [x] rfl
    (fun i hi => by
      obtain rfl : i = 0 := by omega
      rw [World.cell?_alloc_at _ _ _ _ rfl]
      rfl) 9 Tryd.underlying9
/-- What is left of a number, and the digits behind it, make the whole. -/
def DI (full : List UInt8) (u : Nat) (s : List UInt8) : Prop := (0 < u ∨ s = [] → Lib.decDigits u ++ s = full) ∧ (u = 0 → s ≠ [] → s = full)
theorem DI.start (u : Nat) : DI (Lib.decDigits u) u [] := ⟨fun _ => List.append_nil _, fun _ h => absurd rfl h⟩
theorem DI.step {full : List UInt8} {u : Nat} {s : List UInt8} (h : DI full u s) (hc : 0 < u ∨ s = []) : DI full (u / 10) (UInt8.ofNat (48 + u % 10) :: s) := by
  have h1 := h.1 hc
  by_cases h10 : u < 10
  · rw [Lib.decDigits, dif_pos h10] at h1
    have e : u % 10 = u := Nat.mod_eq_of_lt h10
    refine ⟨fun k => ?_, fun _ _ => by rw [e]; exact h1⟩
    rcases k with k | k
    · omega
    · cases k
  · rw [Lib.decDigits, dif_neg h10, List.append_assoc] at h1
    exact ⟨fun _ => h1, fun k => by omega⟩
theorem DI.stay {full : List UInt8} {u : Nat} {s : List UInt8} (h : DI full u s) (hu : u = 0) : DI full (u / 10) s := by
  have e : u / 10 = u := by omega
  rw [e]
  exact h
theorem pow_step {u k : Nat} (h : u < 10 ^ (k + 1)) : u / 10 < 10 ^ k := by
  rw [Nat.div_lt_iff_lt_mul (by decide), ← Nat.pow_succ]
  exact h
theorem one_cons (d : Nat) (s : ByteArray) (h : d < 10) : (strOfNums [(48 + (d : Int))] ++ s).data.toList = UInt8.ofNat (48 + d) :: s.data.toList := by
  have e : strOfNums [(48 + (d : Int))] = (⟨#[UInt8.ofNat (48 + d)]⟩ : ByteArray) := by
    have e2 : (48 + (d : Int)).toNat = 48 + d := by omega
    simp [strOfNums, e2]
  rw [e, ByteArray.data_append]
  simp
theorem itoaB_pos {n : Int} (h : 0 ≤ n) : itoaB n = txt (Lib.decDigits n.toNat) := by unfold itoaB Lib.itoa; rw [if_neg (by omega)]
theorem itoaB_neg {n : Int} (h : n < 0) : itoaB n = (⟨#[45]⟩ : ByteArray) ++ txt (Lib.decDigits n.natAbs) := by
  unfold itoaB Lib.itoa
  rw [if_pos h]
  apply ByteArray.ext
  apply Array.toList_inj.1
  rw [ByteArray.data_append]
  simp [txt]
structure DgI (w wr : World) (full : List UInt8) (a : Int) (s : ByteArray) (j : Nat) : Prop where
  below : Below w.heap.size w wr
  is : ∃ u : Nat, a = u ∧ DI full u s.data.toList ∧ u < 10 ^ (20 - j) ∧ (0 < j → s.data.toList ≠ []) ∧ s.size = s.data.toList.length ∧ s.size ≤ j
theorem DgI.done {w wr : World} {full : List UInt8} {a : Int} {s : ByteArray} (h : DgI w wr full a s 20) : s = txt full := by
  obtain ⟨u, _, hd, hu, hs, _⟩ := h.is
  have e : u = 0 := by simpa using hu
  have e2 := hd.2 e (hs (by omega))
  apply ByteArray.ext
  apply Array.toList_inj.1
  rw [e2]
  simp [txt]
theorem DgI.step {w wr : World} {full : List UInt8} {a : Int} {s s2 : ByteArray} {j d : Nat} {o : Obj} (h : DgI w wr full a s j) (hj : j < 20) (hc : 0 < a ∨ s.data.toList = []) (hd : ((d : Nat) : Int) = a % 10) (h2 : s2.data.toList = UInt8.ofNat (48 + d) :: s.data.toList) : DgI w (wr.alloc o) full (a / 10) s2 (j + 1) := by
  obtain ⟨u, rfl, h3, h4, h5, h6, h7⟩ := h.is
  have hd2 : d = u % 10 := by omega
  have hz : s2.size = s2.data.toList.length := rfl
  refine ⟨h.below.alloc h.below.size _, u / 10, by omega, ?_, ?_, fun _ => by rw [h2]; exact List.cons_ne_nil _ _, hz, ?_⟩
  · rw [h2, hd2]
    exact h3.step (by rcases hc with k | k; exact .inl (by omega); exact .inr k)
  · have e : 20 - j = (20 - (j + 1)) + 1 := by omega
    rw [e] at h4
    exact pow_step h4
  · rw [hz, h2, List.length_cons, ← h6]
    omega
theorem DgI.stay {w wr : World} {full : List UInt8} {a : Int} {s : ByteArray} {j : Nat} (h : DgI w wr full a s j) (hj : j < 20) (ha : a = 0) (hs : s.data.toList ≠ []) : DgI w wr full (a / 10) s (j + 1) := by
  obtain ⟨u, hu, h3, h4, h5, h6, h7⟩ := h.is
  have hu0 : u = 0 := by omega
  refine ⟨h.below, u / 10, by omega, h3.stay hu0, ?_, fun _ => hs, h6, by omega⟩
  rw [hu0]
  exact Nat.pow_pos (by omega)
theorem DgI.ge {w wr : World} {full : List UInt8} {a : Int} {s : ByteArray} {j : Nat} (h : DgI w wr full a s j) : 0 ≤ a ∧ a < 18446744073709551616 * 6 := by
  obtain ⟨u, hu, _, h4, _⟩ := h.is
  have : (10 : Nat) ^ (20 - j) ≤ 10 ^ 20 := Nat.pow_le_pow_right (by omega) (by omega)
  have e : (10 : Nat) ^ 20 = 100000000000000000000 := by decide
  omega
def M64 : Int := 18446744073709551616
theorem wrap_quo {a : Int} (h : 0 ≤ a) (h2 : a < M64) : IntKind.u64.wrap (a / 10) = a / 10 := by unfold M64 at h2; rw [IntKind.wrap_u64]; omega
theorem quo_less {a : Int} (h : 0 ≤ a) (h2 : a < M64) : a / 10 < M64 := by unfold M64 at h2 ⊢; omega
theorem u64_pos {n : Int} (h : fitI n) (h0 : 0 ≤ n) : IntKind.u64.wrap n = n ∧ n < M64 := by unfold fitI at h; unfold M64; rw [IntKind.wrap_u64]; omega
theorem u64_neg {n : Int} (h : fitI n) (h0 : n < 0) : IntKind.u64.wrap (-IntKind.u64.wrap n) = -n ∧ -n < M64 := by unfold fitI at h; unfold M64; rw [IntKind.wrap_u64, IntKind.wrap_u64]; omega
theorem dg_start {w : World} {n : Int} (h0 : 0 ≤ n) (h : n < M64) : DgI w w (Lib.decDigits n.toNat) n ⟨#[]⟩ 0 := by
  unfold M64 at h
  refine ⟨Below.refl _ _, n.toNat, by omega, DI.start _, ?_, fun k => by omega, rfl, Nat.le_refl _⟩
  have e : (10 : Nat) ^ (20 - 0) = 100000000000000000000 := by decide
  rw [e]
  omega
set_option maxRecDepth 100000 in
set_option maxHeartbeats 2000000 in
theorem digits_any (n : Int) (h : fitI n) (w : World) : Calls Tryd.prog 29 #[.int .i64 n] w fun e w' => e = .returned (.string (itoaB n)) ∧ Below w.heap.size w w' := by
  by_cases h0 : 0 ≤ n
  · obtain ⟨e1, e2⟩ := u64_pos h h0
    have HU := Lib.hid e2
    obtain ⟨full, hf⟩ : ∃ full, full = Lib.decDigits n.toNat := ⟨_, rfl⟩
    have HI0 := Lib.hid (hf ▸ dg_start (w := w) h0 e2)
    have HF := Lib.hid (show itoaB n = txt full by rw [hf]; exact itoaB_pos h0)
    have n0 : ¬ n < 0 := by omega
    clear h e2 hf h0
    go_enter Tryd.func29, Tryd.ntmps29
    go_wp2
    go_loopw [3, 4, 11] (fun x y i wr => ∃ j : Nat, ∃ a : Int, ∃ s : ByteArray, j ≤ 20 ∧ i = .int .i64 j ∧ x = .int .u64 a ∧ y = .string s ∧ Hid (a < M64) ∧ Hid (DgI w wr full a s j)) (fun _ _ i _ => 20 - (intOf i).toNat)
    case atStart => exact ⟨0, _, _, by omega, rfl, rfl, rfl, HU, HI0⟩
    case round =>
      obtain ⟨j, a, s, hj, rfl, rfl, rfl, HA, HI⟩ := hrel
      by_cases hlt : j < 20
      · have k1 : (j : Int) < 20 := by omega
        have HJ := Lib.hid hlt
        have hge := HI.out.ge
        have ha0 : 0 ≤ a := hge.1
        have q1 : a.tdiv 10 = a / 10 := by rw [Int.tdiv_eq_ediv_of_nonneg ha0]
        have q2 : IntKind.u64.wrap (a / 10) = a / 10 := wrap_quo ha0 HA.out
        obtain ⟨b, hb⟩ : ∃ b : Int, b = a / 10 := ⟨_, rfl⟩
        have HBA := Lib.hid (show b < M64 by rw [hb]; exact quo_less ha0 HA.out)
        have HBB := Lib.hid hb
        rw [← hb] at q1 q2
        obtain ⟨d, hd⟩ : ∃ d : Nat, ((d : Nat) : Int) = a % 10 := ⟨(a % 10).toNat, by omega⟩
        have r1 : a.tmod 10 = (d : Int) := by rw [Int.tmod_eq_emod_of_nonneg ha0, hd]
        have hd10 : d < 10 := by omega
        have r2 : IntKind.u64.wrap (48 + (d : Int)) = 48 + (d : Int) := by rw [IntKind.wrap_u64]; omega
        have r3 : IntKind.u8.wrap (48 + (d : Int)) = 48 + (d : Int) := by rw [IntKind.wrap_u8]; omega
        have r4 : IntKind.u64.wrap (d : Int) = (d : Int) := by rw [IntKind.wrap_u64]; omega
        have kc := conv_one wr (48 + (d : Int))
        have hone := one_cons d s hd10
        have r5 : (48 + (d : Int)) % 256 = 48 + (d : Int) := by omega
        obtain ⟨T, hT⟩ : ∃ T, T = strOfNums [48 + (d : Int)] := ⟨_, rfl⟩
        rw [← hT] at kc hone
        have hs20 : s.size ≤ 20 := by obtain ⟨u, _, _, _, _, h6, h7⟩ := HI.out.is; omega
        have hT1 : T.size ≤ 1 := by
          have h1 := congrArg List.length hone
          rw [ByteArray.data_append, Array.toList_append, List.length_append, List.length_cons] at h1
          have h2 : T.size = T.data.toList.length := rfl
          have h3 : s.size = s.data.toList.length := rfl
          omega
        have hcat := fun V => run_string_add_sum (P := Tryd.prog) V T s (by omega)
        obtain ⟨s2, hs2⟩ : ∃ s2, s2 = T ++ s := ⟨_, rfl⟩
        rw [← hs2] at hcat hone
        have HST := Lib.hid (fun (hc : 0 < a ∨ s.data.toList = []) => (HI.out.step (o := .cells #[.int .u8 (48 + (d : Int))] 5) hlt hc hd hone))
        have HSY := Lib.hid (fun (h0 : a = 0) (h1 : s.data.toList ≠ []) => HI.out.stay hlt h0 h1)
        clear hb hone hs2 hT hge hs20 hT1 hd
        by_cases hpos : 0 < a
        · have HQ := Lib.hid (HBB.out ▸ HST.out (.inl hpos))
          clear ha0 hd10
          go_wp2
          go_roundw
          case rel => exact ⟨j + 1, _, _, by have := HJ.out; omega, by go_num, rfl, rfl, HBA, HQ⟩
          case measure => have := HJ.out; simp [intOf]; omega
        · have h00 : a = 0 := by omega
          cases he : s.toList.isEmpty with
          | true =>
            have HQ := Lib.hid (HBB.out ▸ HST.out (.inr (by rw [ByteArray.toList_eq] at he; simpa using he)))
            have he2 : s.toList = [] := by simpa using he
            clear ha0 hd10 h00
            go_wp2
            go_roundw
            case rel => exact ⟨j + 1, _, _, by have := HJ.out; omega, by go_num, rfl, rfl, HBA, HQ⟩
            case measure => have := HJ.out; simp [intOf]; omega
          | false =>
            have HQ := Lib.hid (HBB.out ▸ HSY.out h00 (by intro e; rw [ByteArray.toList_eq, e] at he; cases he))
            have he2 : ¬ s.toList = [] := by intro e; rw [e] at he; cases he
            clear ha0 hd10 h00
            go_wp2
            go_roundw
            case rel => exact ⟨j + 1, _, _, by have := HJ.out; omega, by go_num, rfl, rfl, HBA, HQ⟩
            case measure => have := HJ.out; simp [intOf]; omega
      · obtain rfl : j = 20 := by omega
        have HS := Lib.hid HI.out.done
        have HB := Lib.hid HI.out.below
        go_wp2
        go_ret
        exact ⟨by rw [HF.out, ← HS.out]; rfl, HB.out⟩
  · have n0 : n < 0 := by omega
    obtain ⟨e1, e2⟩ := u64_neg h n0
    obtain ⟨V, hV⟩ : ∃ V, V = IntKind.u64.wrap n := ⟨_, rfl⟩
    rw [← hV] at e1
    have e3 : IntKind.u64.wrap n = V := hV.symm
    obtain ⟨U, hU⟩ : ∃ U, U = -n := ⟨_, rfl⟩
    rw [← hU] at e1 e2
    have HU := Lib.hid e2
    obtain ⟨full, hf⟩ : ∃ full, full = Lib.decDigits n.natAbs := ⟨_, rfl⟩
    have hfu : Lib.decDigits U.toNat = full := by rw [hf, hU]; congr 1; omega
    have HI0 := Lib.hid (hfu ▸ dg_start (w := w) (by omega) e2)
    have HF := Lib.hid (show itoaB n = (⟨#[45]⟩ : ByteArray) ++ txt full by rw [hf]; exact itoaB_neg n0)
    have HL := Lib.hid (show (txt full).size ≤ 21 by
      have h1 := itoaB_size h
      rw [itoaB_neg n0, ByteArray.size_append, ← hf] at h1
      omega)
    clear h e2 hf h0 hV hU hfu
    go_enter Tryd.func29, Tryd.ntmps29
    go_wp2
    go_loopw [3, 4, 11] (fun x y i wr => ∃ j : Nat, ∃ a : Int, ∃ s : ByteArray, j ≤ 20 ∧ i = .int .i64 j ∧ x = .int .u64 a ∧ y = .string s ∧ Hid (a < M64) ∧ Hid (DgI w wr full a s j)) (fun _ _ i _ => 20 - (intOf i).toNat)
    case atStart => exact ⟨0, _, _, by omega, rfl, rfl, rfl, HU, HI0⟩
    case round =>
      obtain ⟨j, a, s, hj, rfl, rfl, rfl, HA, HI⟩ := hrel
      by_cases hlt : j < 20
      · have k1 : (j : Int) < 20 := by omega
        have HJ := Lib.hid hlt
        have hge := HI.out.ge
        have ha0 : 0 ≤ a := hge.1
        have q1 : a.tdiv 10 = a / 10 := by rw [Int.tdiv_eq_ediv_of_nonneg ha0]
        have q2 : IntKind.u64.wrap (a / 10) = a / 10 := wrap_quo ha0 HA.out
        obtain ⟨b, hb⟩ : ∃ b : Int, b = a / 10 := ⟨_, rfl⟩
        have HBA := Lib.hid (show b < M64 by rw [hb]; exact quo_less ha0 HA.out)
        have HBB := Lib.hid hb
        rw [← hb] at q1 q2
        obtain ⟨d, hd⟩ : ∃ d : Nat, ((d : Nat) : Int) = a % 10 := ⟨(a % 10).toNat, by omega⟩
        have r1 : a.tmod 10 = (d : Int) := by rw [Int.tmod_eq_emod_of_nonneg ha0, hd]
        have hd10 : d < 10 := by omega
        have r2 : IntKind.u64.wrap (48 + (d : Int)) = 48 + (d : Int) := by rw [IntKind.wrap_u64]; omega
        have r3 : IntKind.u8.wrap (48 + (d : Int)) = 48 + (d : Int) := by rw [IntKind.wrap_u8]; omega
        have r4 : IntKind.u64.wrap (d : Int) = (d : Int) := by rw [IntKind.wrap_u64]; omega
        have kc := conv_one wr (48 + (d : Int))
        have hone := one_cons d s hd10
        have r5 : (48 + (d : Int)) % 256 = 48 + (d : Int) := by omega
        obtain ⟨T, hT⟩ : ∃ T, T = strOfNums [48 + (d : Int)] := ⟨_, rfl⟩
        rw [← hT] at kc hone
        have hs20 : s.size ≤ 20 := by obtain ⟨u, _, _, _, _, h6, h7⟩ := HI.out.is; omega
        have hT1 : T.size ≤ 1 := by
          have h1 := congrArg List.length hone
          rw [ByteArray.data_append, Array.toList_append, List.length_append, List.length_cons] at h1
          have h2 : T.size = T.data.toList.length := rfl
          have h3 : s.size = s.data.toList.length := rfl
          omega
        have hcat := fun V => run_string_add_sum (P := Tryd.prog) V T s (by omega)
        obtain ⟨s2, hs2⟩ : ∃ s2, s2 = T ++ s := ⟨_, rfl⟩
        rw [← hs2] at hcat hone
        have HST := Lib.hid (fun (hc : 0 < a ∨ s.data.toList = []) => (HI.out.step (o := .cells #[.int .u8 (48 + (d : Int))] 5) hlt hc hd hone))
        have HSY := Lib.hid (fun (h0 : a = 0) (h1 : s.data.toList ≠ []) => HI.out.stay hlt h0 h1)
        clear hb hone hs2 hT hge hs20 hT1 hd
        by_cases hpos : 0 < a
        · have HQ := Lib.hid (HBB.out ▸ HST.out (.inl hpos))
          clear ha0 hd10
          go_wp2
          go_roundw
          case rel => exact ⟨j + 1, _, _, by have := HJ.out; omega, by go_num, rfl, rfl, HBA, HQ⟩
          case measure => have := HJ.out; simp [intOf]; omega
        · have h00 : a = 0 := by omega
          cases he : s.toList.isEmpty with
          | true =>
            have HQ := Lib.hid (HBB.out ▸ HST.out (.inr (by rw [ByteArray.toList_eq] at he; simpa using he)))
            have he2 : s.toList = [] := by simpa using he
            clear ha0 hd10 h00
            go_wp2
            go_roundw
            case rel => exact ⟨j + 1, _, _, by have := HJ.out; omega, by go_num, rfl, rfl, HBA, HQ⟩
            case measure => have := HJ.out; simp [intOf]; omega
          | false =>
            have HQ := Lib.hid (HBB.out ▸ HSY.out h00 (by intro e; rw [ByteArray.toList_eq, e] at he; cases he))
            have he2 : ¬ s.toList = [] := by intro e; rw [e] at he; cases he
            clear ha0 hd10 h00
            go_wp2
            go_roundw
            case rel => exact ⟨j + 1, _, _, by have := HJ.out; omega, by go_num, rfl, rfl, HBA, HQ⟩
            case measure => have := HJ.out; simp [intOf]; omega
      · obtain rfl : j = 20 := by omega
        have HS := Lib.hid HI.out.done
        have HB := Lib.hid HI.out.below
        have hl := HL.out
        rw [← HS.out] at hl
        have z1 : (⟨#[45]⟩ : ByteArray).size = 1 := rfl
        have hcat2 := fun V => run_string_add_sum (P := Tryd.prog) V ⟨#[45]⟩ s (by omega)
        clear hl z1
        go_wp2
        go_ret
        exact ⟨by rw [HF.out, ← HS.out]; rfl, HB.out⟩
end Go.Proofs.YtdbmnnmcelaehaaDoor.Tx
