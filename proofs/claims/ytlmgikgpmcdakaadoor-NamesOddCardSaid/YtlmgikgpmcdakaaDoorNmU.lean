/- The document's own name of an event. -/
import Derived.Test.YtlmgikgpmcdakaaDoorNmStamp
import Derived.LoopTactic
namespace Go.Proofs.YtlmgikgpmcdakaaDoor.Nm
open Go.RowKit Go.Proofs.YtlmgikgpmcdakaaDoor.Mem

/-- The last so many digits, noughts ahead. -/
def pk : Nat → Nat → List UInt8
  | 0, _ => []
  | j + 1, u => dig (u / 16 ^ j % 16) :: pk j u
theorem pk_length : ∀ j u, (pk j u).length = j
  | 0, _ => rfl
  | j + 1, u => by unfold pk; rw [List.length_cons, pk_length j u]
theorem pk_snoc : ∀ j u, pk (j + 1) u = pk j (u / 16) ++ [dig (u % 16)]
  | 0, u => by unfold pk; simp [pk]
  | j + 1, u => by
    have ih := pk_snoc j u
    have h : pk (j + 2) u = dig (u / 16 ^ (j + 1) % 16) :: pk (j + 1) u := rfl
    have h2 : pk (j + 1) (u / 16) = dig (u / 16 / 16 ^ j % 16) :: pk j (u / 16) := rfl
    rw [h, ih, h2, Nat.div_div_eq_div_mul, Nat.pow_succ, Nat.mul_comm (16 ^ j)]
    rfl
theorem pk_zero : ∀ j, pk j 0 = List.replicate j 48
  | 0 => rfl
  | j + 1 => by
    unfold pk
    rw [pk_zero j, Nat.zero_div]
    rfl
theorem hexU_len_le : ∀ (m u : Nat), u < 16 ^ m → 1 ≤ m → (hexU u).length ≤ m
  | 0, _, _, h => by omega
  | m + 1, u, h, _ => hexU_length m u h
theorem pk_hex : ∀ (m u : Nat), 1 ≤ m → u < 16 ^ m → pk m u = List.replicate (m - (hexU u).length) 48 ++ hexU u
  | 0, _, h, _ => by omega
  | m + 1, u, _, h => by
    rw [pk_snoc]
    by_cases hu : u < 16
    · rw [hexU_small u hu, Nat.div_eq_of_lt hu, pk_zero, Nat.mod_eq_of_lt hu]
      rfl
    · have hm : 1 ≤ m := by
        rcases m with _ | m
        · simp at h; omega
        · omega
      have h2 : u / 16 < 16 ^ m := by rw [Nat.div_lt_iff_lt_mul (by omega)]; rw [Nat.pow_succ] at h; exact h
      rw [pk_hex m (u / 16) hm h2, hexU_step u hu, List.append_assoc]
      rw [List.length_append, List.length_singleton]
      rw [show m + 1 - ((hexU (u / 16)).length + 1) = m - (hexU (u / 16)).length by omega]
theorem hexU_head (u : Nat) (h : ¬ u < 16) : ∃ b t, hexU u = b :: t ∧ b ≠ 48 ∧ t ≠ [] := by
  induction u using Nat.strongRecOn with
  | ind u ih =>
    rw [hexU_step u h]
    by_cases h2 : u / 16 < 16
    · rw [hexU_small _ h2]
      refine ⟨dig (u / 16), [dig (u % 16)], rfl, ?_, by simp⟩
      have : ∀ d : Nat, d < 16 → d ≠ 0 → dig d ≠ 48 := by decide +kernel
      exact this _ h2 (by omega)
    · obtain ⟨b, t, e, hb, _⟩ := ih (u / 16) (by omega) h2
      exact ⟨b, t ++ [dig (u % 16)], by rw [e]; rfl, hb, by simp⟩
theorem hexU_big (u : Nat) (h : 281474976710656 ≤ u) : 13 ≤ (hexU u).length := by
  have aux : ∀ (m u : Nat), 16 ^ m ≤ u → m + 1 ≤ (hexU u).length := by
    intro m
    induction m with
    | zero => intro u _; have := hexU_ne u; cases hx : hexU u with | nil => exact absurd hx this | cons => simp
    | succ m ih =>
      intro u hu
      have h16 : ¬ u < 16 := by
        have : 16 ^ 1 ≤ 16 ^ (m + 1) := Nat.pow_le_pow_right (by omega) (by omega)
        omega
      rw [hexU_step u h16]
      have := ih (u / 16) (by rw [Nat.le_div_iff_mul_le (by omega)]; rw [Nat.pow_succ] at hu; exact hu)
      simp
      omega
  exact aux 12 u (by simpa using h)
theorem drop_pk (u : Nat) : (pk 16 u).drop 4 = pk 12 u := rfl
theorem last_pk (u : Nat) (hu : u < 18446744073709551616) (h : 281474976710656 ≤ u) : last12 (hexU u) = pk 12 u := by
  have h1 := pk_hex 16 u (by omega) (by simpa using hu)
  have hl := hexU_len_le 16 u (by simpa using hu) (by omega)
  have hb := hexU_big u h
  rw [← drop_pk, h1, List.drop_append, List.drop_of_length_le (by simp; omega)]
  unfold last12
  rw [List.nil_append, List.length_replicate]
  congr 1
  omega
theorem last_small (u : Nat) (h : u < 281474976710656) : last12 (hexU u) = hexU u ∧ pk 12 u = List.replicate (12 - (hexU u).length) 48 ++ hexU u := by
  have hl := hexU_len_le 12 u (by simpa using h) (by omega)
  refine ⟨?_, pk_hex 12 u (by omega) (by simpa using h)⟩
  unfold last12
  rw [show (hexU u).length - 12 = 0 by omega]
  rfl
theorem piece16 (P : ByteArray) (a : Nat) : (P.extract a P.size).data.toList = P.data.toList.drop a := by
  rw [ByteArray.data_extract]
  have : P.data.toList.length = P.size := by simp
  simp [List.extract]
  apply List.take_of_length_le
  simp
theorem row16 : ∀ d : Nat, d < 16 → (⟨#[48, 49, 50, 51, 52, 53, 54, 55, 56, 57, 97, 98, 99, 100, 101, 102]⟩ : ByteArray).extract d (d + 1) = ⟨#[dig d]⟩ := by decide +kernel
set_option maxHeartbeats 4000000 in
set_option maxRecDepth 100000 in
theorem rodd_any (t w : Int) (W : World) :
    Calls Tryd.prog 26 #[.agg #[.int .i64 t, .int .i64 w]] W fun e W' => e = .returned (.string (oddB t w)) ∧ Below W.heap.size W W' := by
  have hwt := u64_wrap t
  have hww := u64_wrap w
  have hb0 := (Below.refl W.heap.size W).alloc (Nat.le_refl _) (.cells #[.int .i64 t, .int .i64 w] 38)
  go_enter Tryd.func26, Tryd.ntmps26
  go_wp2
  have HB0 := Lib.hid hb0
  clear hb0
  have HO := Lib.hid (show (oddB t w).data.toList = 99 :: (last12 (hexU (u64 t)) ++ 45 :: hexU (u64 w % 16)) from rfl)
  have hU := u64_lt t
  have hh := Has.fresh W 38 #[.int .i64 t, .int .i64 w]
  generalize W.alloc (.cells #[.int .i64 t, .int .i64 w] 38) = W0 at *
  have c0 := Has.at_ hh 0
  have c1 := Has.at_ hh 1
  simp at c0 c1
  clear hh
  generalize u64 t = u at *
  go_loop [3, 4, 10] (fun S n i => ∃ (j : Nat) (P : ByteArray), i = .int .i64 j ∧ j ≤ 16 ∧ n = .int .u64 ((u / 16 ^ j : Nat) : Int) ∧ S = .string P ∧ P.data.toList = pk j u) (fun _ _ i => 16 - (intOf i).toNat)
  case atStart => exact ⟨0, ⟨#[]⟩, rfl, by omega, by simp, rfl, rfl⟩
  case round =>
    obtain ⟨j, P, rfl, hj, rfl, rfl, hP⟩ := hrel
    have hPs : P.size = j := by
      have h1 := pk_length j u
      rw [← hP] at h1
      simpa using h1
    by_cases hlt : j < 16
    · have hnx : pk (j + 1) u = dig (u / 16 ^ j % 16) :: pk j u := rfl
      have hdv : u / 16 ^ (j + 1) = u / 16 ^ j / 16 := by rw [Nat.pow_succ, Nat.div_div_eq_div_mul]
      have hvl : u / 16 ^ j < 18446744073709551616 := Nat.lt_of_le_of_lt (Nat.div_le_self _ _) hU
      generalize u / 16 ^ j = v at *
      obtain ⟨d, hd⟩ : ∃ d, d = v % 16 := ⟨_, rfl⟩
      have hdi : (v : Int) % 16 = (d : Int) := by omega
      have hd16 : d < 16 := by omega
      have hd1 : (d : Int) + 1 ≤ 16 := by omega
      have hd2 : (d : Int) ≤ d + 1 := by omega
      have he := row16 d hd16
      rw [← hd] at hnx
      clear hd
      have HNX := Lib.hid hnx
      have HDV := Lib.hid hdv
      have HPP := Lib.hid hP
      clear hnx hdv hP
      go_wp2
      refine ⟨⟨j + 1, ⟨#[dig d]⟩ ++ P, by go_num, by omega, by rw [HDV.out]; simp, rfl, by rw [HNX.out, ← HPP.out]; simp⟩, by simp [intOf]; omega⟩
    · obtain rfl : j = 16 := by omega
      have hQ : (P.extract 4 16).data.toList = pk 12 u := by
        have := piece16 P 4
        rw [hPs] at this
        rw [this, hP]
        rfl
      have hQs : (P.extract 4 16).size = 12 := by
        have h1 := pk_length 12 u
        rw [← hQ] at h1
        have e : ∀ b : ByteArray, b.data.toList.length = b.size := fun b => by simp
        rw [e] at h1
        exact h1
      have hQb : (P.extract 4 16).size ≤ 20 := by omega
      have HQ := Lib.hid hQ
      have hP4 : (4 : Int) ≤ P.size := by omega
      generalize hE : P.extract 4 16 = Q at *
      have HE := Lib.hid hE
      obtain ⟨d, hd⟩ : ∃ d, d = u64 w % 16 := ⟨_, rfl⟩
      have hdi : ((u64 w : Nat) : Int) % 16 = (d : Int) := by omega
      have hd16 : d < 16 := by omega
      have hd1 : (d : Int) + 1 ≤ 16 := by omega
      have hd2 : (d : Int) ≤ d + 1 := by omega
      have he := row16 d hd16
      rw [← hd, hexU_small d hd16] at HO
      clear hd hQ hP
      by_cases hb48 : u < 281474976710656
      · have hbi : (u : Int) < 281474976710656 := by omega
        have hsm := last_small u hb48
        rw [hsm.1] at HO
        have HQ2 := Lib.hid (HQ.out.trans hsm.2)
        clear hsm hb48 hU
        go_wp2
        go_loop [3] (fun S => ∃ (r : Nat) (P : ByteArray), S = .string P ∧ P.data.toList = List.replicate r 48 ++ hexU u ∧ P.size ≤ 20) (fun S => match S with | .string P => P.size | _ => 0)
        case atStart => exact ⟨_, Q, rfl, HQ2.out, hQb⟩
        case round =>
          obtain ⟨r, P, rfl, hP, hPb⟩ := hrel
          have hl : P.data.toList.length = P.size := by simp
          have hne := hexU_ne u
          rcases r with _ | r
          · have hP0 : P.data.toList = hexU u := hP
            have hfin : (⟨#[99]⟩ : ByteArray) ++ P ++ ⟨#[45]⟩ ++ ⟨#[dig d]⟩ = oddB t w := by
              apply bytes_ext
              rw [HO, ← hP0]
              simp
            have HF := Lib.hid hfin
            by_cases hu16 : u < 16
            · have hP1 : ¬ (1 : Int) < P.size := by
                rw [← hl, hP0, hexU_small u hu16]
                simp
              clear hP hP0 hl hfin HO HQ HQ2 HE hE hQb hQs hu16
              go_wp2
              go_ret
              exact ⟨by rw [← HF.out]; rfl, HB0.out⟩
            · obtain ⟨b, tl, hbt, hb, htl⟩ := hexU_head u hu16
              have hsz : 0 < P.size := by rw [← hl, hP0, hbt]; simp
              have hP1 : (1 : Int) < P.size := by
                rw [← hl, hP0, hbt]
                cases tl with
                | nil => exact absurd rfl htl
                | cons => simp; omega
              have hx : P[0]'hsz = b := by
                have h2 := Lib.data_getElem? P 0 hsz
                rw [hP0, hbt] at h2
                injection h2 with h2
                exact h2.symm
              have hxb : (((P[0]'hsz).toNat : Int) == 48) = false := by
                rw [hx]
                exact beq_eq_false_iff_ne.2 (fun e => hb (UInt8.toNat_inj.1 (by show _ = 48; omega)))
              have hszi : (0 : Int) < P.size := by omega
              clear hP hP0 hl hfin HO HQ HQ2 HE hE hQb hQs hu16 hx hbt hb htl
              go_wp2
              go_ret
              exact ⟨by rw [← HF.out]; rfl, HB0.out⟩
          · have hlen : r + 1 + (hexU u).length = P.size := by rw [← hl, hP]; simp
            have hpos : 0 < (hexU u).length := by cases h : hexU u with | nil => exact absurd h hne | cons => simp
            have hsz : 0 < P.size := by omega
            have hP1 : (1 : Int) < P.size := by omega
            have hx : P[0]'hsz = 48 := by
              have h2 := Lib.data_getElem? P 0 hsz
              rw [hP] at h2
              injection h2 with h2
              exact h2.symm
            have hxb : (((P[0]'hsz).toNat : Int) == 48) = true := by rw [hx]; rfl
            have hN := Lib.hid (show (P.extract 1 P.size).data.toList = List.replicate r 48 ++ hexU u by rw [piece16 P 1, hP]; rfl)
            have hszi : (0 : Int) < P.size := by omega
            have hs1 : (1 : Int) ≤ P.size := by omega
            clear hP hl HO HQ HQ2 HE hE hQb hQs hx
            go_wp2
            go_round
            case rel => exact ⟨r, P.extract 1 P.size, rfl, hN.out, by simp; omega⟩
            case measure => simp; omega
      · have hbi : ¬ (u : Int) < 281474976710656 := by omega
        have hsm := last_pk u hU (by omega)
        rw [hsm] at HO
        have hfin : (⟨#[99]⟩ : ByteArray) ++ Q ++ ⟨#[45]⟩ ++ ⟨#[dig d]⟩ = oddB t w := by
          apply bytes_ext
          rw [HO, ← HQ.out]
          simp
        have HF := Lib.hid hfin
        clear hsm hb48 hU hfin HO
        go_wp2
        go_ret
        exact ⟨by rw [← HF.out]; rfl, HB0.out⟩
end Go.Proofs.YtlmgikgpmcdakaaDoor.Nm
