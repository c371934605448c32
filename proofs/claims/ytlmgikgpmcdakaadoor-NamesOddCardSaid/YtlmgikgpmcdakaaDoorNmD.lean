/- Names of events: Odd. -/
import Derived.Test.YtlmgikgpmcdakaaDoorNmC
namespace Go.Proofs.YtlmgikgpmcdakaaDoor.Nm
open Go.RowKit Go.Proofs.YtlmgikgpmcdakaaDoor.Mem

theorem hexU_lt (u : Nat) (h : u < 16) : hexU u = [dig u] := hexU_small u h
theorem hexU_length : ∀ (k u : Nat), u < 16 ^ (k + 1) → (hexU u).length ≤ k + 1
  | 0, u, h => by rw [hexU_small u (by simpa using h)]; simp
  | k + 1, u, h => by
    by_cases hu : u < 16
    · rw [hexU_small u hu]; simp
    · rw [hexU_step u hu]
      have := hexU_length k (u / 16) (by rw [Nat.div_lt_iff_lt_mul (by omega)]; rw [Nat.pow_succ] at h; exact h)
      simp
      omega
/-- The last twelve of a row. -/
def last12 (l : List UInt8) : List UInt8 := l.drop (l.length - 12)
/-- A number as 64 bits. -/
def u64 (x : Int) : Nat := (IntKind.u64.wrap x).toNat
theorem u64_lt (x : Int) : u64 x < 18446744073709551616 := by unfold u64; rw [IntKind.wrap_u64]; omega
theorem u64_wrap (x : Int) : IntKind.u64.wrap x = (u64 x : Int) := by unfold u64; rw [IntKind.wrap_u64]; omega
/-- The name of an event among conflicts. -/
def oddL (t w : Int) : List UInt8 := 99 :: (last12 (hexU (u64 t)) ++ 45 :: hexU (u64 w % 16))
theorem bytes_ext {a b : ByteArray} (h : a.data.toList = b.data.toList) : a = b := by
  cases a; cases b; congr 1; exact Array.toList_inj.1 h
theorem odd_any (t w : Int) (W : World) (h : Tabs W) :
    Calls Tryd.prog 25 #[.agg #[.int .i64 t, .int .i64 w]] W fun e W' => e = .returned (.string ⟨(oddL t w).toArray⟩) ∧ Below W.heap.size W W' := by
  have hwt := u64_wrap t
  have hww := u64_wrap w
  have H1 := Lib.hid (fun (W : World) (h : Tabs W) => fmt16 (u64 t) (u64_lt t) W h)
  have H2 := Lib.hid (fun (W : World) (h : Tabs W) => fmt16 (u64 w % 16) (by omega) W h)
  have hb0 := (Below.refl W.heap.size W).alloc (Nat.le_refl _) (.cells #[.int .i64 t, .int .i64 w] 38)
  have hh0 := Has.fresh W 38 #[.int .i64 t, .int .i64 w]
  have hT0 := h.self hb0
  go_enter Tryd.func25, Tryd.ntmps25
  go_wp2_with fail
  refine (H1.out _ hT0).mono ?_
  rintro e w1 ⟨rfl, hb1⟩
  have hh1 := hh0.below hb1
  have hT1 := hT0.self hb1
  have hB1 := hb0.trans (hb1.mono hb0.size)
  clear hb1 hb0 hT0 hh0
  have c1 := Has.at_ hh1 1
  simp at c1
  have hs : ((⟨(hexU (u64 t)).toArray⟩ : ByteArray).size : Int) = ((hexU (u64 t)).length : Int) := rfl
  have hmx : (hexU (u64 t)).length ≤ 16 := hexU_length 15 _ (u64_lt t)
  have HO := Lib.hid (show oddL t w = 99 :: (last12 (hexU (u64 t)) ++ 45 :: hexU (u64 w % 16)) from rfl)
  generalize hexU (u64 t) = L at *
  go_wp2_with fail
  have h16 := H2.out _ hT1
  rw [show ((u64 w % 16 : Nat) : Int) = (u64 w : Int) % 16 by omega] at h16
  rw [hexU_small _ (Nat.mod_lt _ (by omega))] at h16
  refine h16.mono ?_
  rintro e w2 ⟨rfl, hb2⟩
  go_wp2
  go_ret
  refine ⟨?_, hB1.trans (hb2.mono hB1.size)⟩
  rw [HO.out, hexU_small _ (Nat.mod_lt _ (by omega))]
  show Ending.returned (Value.string _) = _
  congr 2
  apply bytes_ext
  simp [ByteArray.data_extract, last12]
  rw [show (max 0 ((L.length : Int) - 12)).toNat = L.length - 12 by omega]
  exact List.take_of_length_le (by simp)

/-- The time and the one that a text would name. -/
def timeOf (s : ByteArray) : Nat := numM ⟨(Lib.cut (Lib.trimPrefix s.data.toList [99]) [45]).1.toArray⟩
def whoOf (s : ByteArray) : Nat := numM ⟨(Lib.cut (Lib.trimPrefix s.data.toList [99]) [45]).2.1.toArray⟩
theorem cut_le (a b : List UInt8) : (Lib.cut a b).1.length ≤ a.length ∧ (Lib.cut a b).2.1.length ≤ a.length := by
  unfold Lib.cut
  split
  · simp; omega
  · simp
theorem trim_le (a b : List UInt8) : (Lib.trimPrefix a b).length ≤ a.length := by
  unfold Lib.trimPrefix
  split
  · simp
  · simp
theorem txt_other {x y : ByteArray} (h : ¬ x = y) : (x.toList == y.toList) = false := by
  refine beq_eq_false_iff_ne.2 fun e => h ?_
  rw [ByteArray.toList_eq, ByteArray.toList_eq] at e
  obtain ⟨⟨d⟩⟩ := x
  obtain ⟨⟨k⟩⟩ := y
  simp at e
  rw [e]
/-- What Of answers. -/
def ofAns (s : ByteArray) : Value := if oddL (timeOf s) (whoOf s) = s.data.toList then .tuple #[.agg #[.int .i64 (timeOf s : Int), .int .i64 (whoOf s : Int)], .bool true] else .tuple #[.agg #[.int .i64 0, .int .i64 0], .bool false]
theorem below_drewN {B : Nat} {a b : World} (h : Below B a b) (n : Nat) : Below B a (b.drewN n) := ⟨h.os, h.tape, h.output, h.size, h.block⟩
theorem of_any (s : ByteArray) (hs : s.size ≤ 4096) (W : World) (h : Tabs W) :
    Calls Tryd.prog 23 #[.string s] W fun e W' => e = .returned (ofAns s) ∧ Below W.heap.size W W' := by
  have hl := trim_le s.data.toList [99]
  have hs2 : s.data.toList.length ≤ 4096 := by simpa using hs
  have h1 := cut_le (Lib.trimPrefix s.data.toList [99]) [45]
  have HT := Lib.hid (show timeOf s = numM ⟨(Lib.cut (Lib.trimPrefix s.data.toList [99]) [45]).1.toArray⟩ from rfl)
  have HW := Lib.hid (show whoOf s = numM ⟨(Lib.cut (Lib.trimPrefix s.data.toList [99]) [45]).2.1.toArray⟩ from rfl)
  have hR : (⟨(Lib.trimPrefix s.data.toList [99]).toArray⟩ : ByteArray).size ≤ 4096 := by show (Lib.trimPrefix s.data.toList [99]).toArray.size ≤ 4096; simp; omega
  have hA : (⟨(Lib.cut (Lib.trimPrefix s.data.toList [99]) [45]).1.toArray⟩ : ByteArray).size ≤ 4096 := by show Array.size _ ≤ 4096; simp; omega
  have hB : (⟨(Lib.cut (Lib.trimPrefix s.data.toList [99]) [45]).2.1.toArray⟩ : ByteArray).size ≤ 4096 := by show Array.size _ ≤ 4096; simp; omega
  have hb0 := (Below.refl W.heap.size W).alloc (Nat.le_refl _) (.cells #[.int .i64 0, .int .i64 0] 38)
  have hh0 := Has.fresh W 38 #[.int .i64 0, .int .i64 0]
  have hT0 := h.self hb0
  have C1 := Lib.hid (Tryd.strings_CutPrefix s ⟨#[99]⟩ (W.alloc (.cells #[.int .i64 0, .int .i64 0] 38)))
  obtain ⟨m, hm⟩ := hT0.ml
  have C2 := Lib.hid (Tryd.strings_Cut ⟨(Lib.trimPrefix s.data.toList [99]).toArray⟩ ⟨#[45]⟩ m (W.alloc (.cells #[.int .i64 0, .int .i64 0] 38)) (by omega) hm)
  have C3 := Lib.hid (fun W h => number_any _ (Nat.le_trans hA (by omega)) W h)
  have C4 := Lib.hid (fun W h => number_any _ (Nat.le_trans hB (by omega)) W h)
  rw [← HT.out] at C3
  rw [← HW.out] at C4
  have C5 := Lib.hid (fun W h => odd_any (timeOf s) (whoOf s) W h)
  have HTz := Lib.hid hT0
  have HB0 := Lib.hid hb0
  have HH0 := Lib.hid hh0
  clear h1 hl hR hA hB hm hT0 hb0 hh0
  go_enter Tryd.func23, Tryd.ntmps23
  go_wp2_with fail
  refine C1.out.mono ?_
  rintro e w1 ⟨rfl, rfl⟩
  go_wp2_with fail
  refine C2.out.mono ?_
  rintro e w1 ⟨rfl, n, rfl⟩
  have hb1 := below_drewN HB0.out n
  have hh1 : Has ((W.alloc (.cells #[.int .i64 0, .int .i64 0] 38)).drewN n) W.heap.size 38 #[.int .i64 0, .int .i64 0] := HH0.out
  have hT1 := h.self hb1
  generalize (W.alloc (.cells #[.int .i64 0, .int .i64 0] 38)).drewN n = w0 at *
  clear C1 C2 HTz HB0 HH0
  go_wp2_with fail
  refine (C3.out _ hT1).mono ?_
  rintro e w1 ⟨rfl, hb⟩
  replace hb1 := hb1.trans (hb.mono hb1.size)
  replace hh1 := hh1.below hb
  have hT2 := hT1.self hb
  clear hb hT1
  go_wp2_with fail
  refine (C4.out _ hT2).mono ?_
  rintro e w2 ⟨rfl, hb⟩
  replace hb1 := hb1.trans (hb.mono hb1.size)
  replace hh1 := hh1.below hb
  have hT3 := hT2.self hb
  clear hb hT2 C3 C4
  go_wp2_with fail
  have hb4 := (Below.refl w2.heap.size w2).alloc (Nat.le_refl _) (.cells #[.int .i64 (timeOf s : Int), .int .i64 (whoOf s : Int)] 38)
  have hi4 := Has.fresh w2 38 #[.int .i64 (timeOf s : Int), .int .i64 (whoOf s : Int)]
  have hT4 := hT3.self hb4
  refine (C5.out _ hT4).mono ?_
  rintro e w3 ⟨rfl, hb⟩
  replace hb1 := (hb1.trans (hb4.mono hb1.size)).trans (hb.mono (Nat.le_trans hb1.size hb4.size))
  replace hh1 := (hh1.below hb4).below hb
  replace hi4 := hi4.below hb
  clear hb hb4 hT3 hT4 C5
  have i0 := Has.at_ hi4 0
  have i1 := Has.at_ hi4 1
  simp at i0 i1
  have c0 := Has.at_ hh1 0
  have c1 := Has.at_ hh1 1
  have f0 := Has.free hh1 0
  have f1 := Has.free hh1 1
  simp at c0 c1
  by_cases hq : oddL (timeOf s) (whoOf s) = s.data.toList
  · have HA := Lib.hid (show ofAns s = .tuple #[.agg #[.int .i64 (timeOf s : Int), .int .i64 (whoOf s : Int)], .bool true] by unfold ofAns; rw [if_pos hq])
    have hqb : (⟨(oddL (timeOf s) (whoOf s)).toArray⟩ : ByteArray) = s := bytes_ext hq
    generalize (⟨(oddL (timeOf s) (whoOf s)).toArray⟩ : ByteArray) = X at *
    have hx : (X.toList == s.toList) = true := by rw [hqb]; simp
    clear hq hqb
    have HP := Lib.hid (Has.put (Has.put hh1 0 (.int .i64 (timeOf s : Int))) 1 (.int .i64 (whoOf s : Int)))
    go_wp2
    have d0 := Has.at_ HP.out 0
    have d1 := Has.at_ HP.out 1
    simp at d0 d1
    simp [bodyPost, results, Tryd.results23, go_sem, d0, d1]
    refine ⟨by rw [HA.out], (hb1.setCell (Nat.le_refl _) _).setCell (Nat.le_refl _) _⟩
  · have HA := Lib.hid (show ofAns s = .tuple #[.agg #[.int .i64 0, .int .i64 0], .bool false] by unfold ofAns; rw [if_neg hq])
    have hqb : ¬ (⟨(oddL (timeOf s) (whoOf s)).toArray⟩ : ByteArray) = s := fun h => hq (congrArg (·.data.toList) h)
    generalize (⟨(oddL (timeOf s) (whoOf s)).toArray⟩ : ByteArray) = X at *
    have hx : (X.toList == s.toList) = false := txt_other hqb
    clear hq hqb
    have HP := Lib.hid (Has.put (Has.put hh1 0 (.int .i64 0)) 1 (.int .i64 0))
    go_wp2
    have d0 := Has.at_ HP.out 0
    have d1 := Has.at_ HP.out 1
    simp at d0 d1
    simp [bodyPost, results, Tryd.results23, go_sem, d0, d1]
    refine ⟨by rw [HA.out], (hb1.setCell (Nat.le_refl _) _).setCell (Nat.le_refl _) _⟩
end Go.Proofs.YtlmgikgpmcdakaaDoor.Nm
