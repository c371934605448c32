/- Changes in parts: the document's Cut. -/
import Derived.Test.YtepnckglnciinaaSmI
import Derived.Test.YtepnckglnciinaaSmS
namespace Go.Proofs.Ytepnckglnciinaa.Sm
open Go.RowKit Go.Proofs.Ytepnckglnciinaa.Mem
set_option linter.unusedVariables false

theorem cut_on {s : ByteArray} {a : Nat} (h : a + 512 < s.size) : cutL (s.extract a s.size) = s.extract a (a + 512) :: cutL (s.extract (a + 512) s.size) := by
  have e : (s.extract a s.size).size = s.size - a := by rw [ByteArray.size_extract]; omega
  rw [cutL_cons (by rw [e]; omega), e, show min (s.size - a) 512 = 512 by omega, ByteArray.extract_extract, ByteArray.extract_extract, Nat.add_zero, show min (a + 512) s.size = a + 512 by omega, show min (a + (s.size - a)) s.size = s.size by omega]
theorem cut_end {s : ByteArray} {a : Nat} (h : a < s.size) (h2 : s.size ≤ a + 512) : cutL (s.extract a s.size) = [s.extract a s.size] := by
  have e : (s.extract a s.size).size = s.size - a := by rw [ByteArray.size_extract]; omega
  rw [cutL_cons (by rw [e]; omega), e, show min (s.size - a) 512 = s.size - a by omega, ByteArray.extract_extract, cutL_nil (by rw [ByteArray.size_extract, e]; omega), Nat.add_zero, show min (a + (s.size - a)) s.size = s.size by omega]
theorem cut_none (s : ByteArray) : cutL s = [] ++ cutL (s.extract (512 * 0) s.size) := by
  rw [Nat.mul_zero, List.nil_append, ByteArray.extract_zero_size]
theorem part_none (s : ByteArray) : (⟨#[]⟩ : ByteArray) = s.extract (512 * ([] : List ByteArray).length) 0 := by
  apply ByteArray.ext
  simp
theorem slice1 (s : ByteArray) (i : Nat) (h : i < s.size) (h9 : s.size ≤ 800000) (w : World) : (Instr.slice 9 (.string s) (some (.int .i64 (i : Int))) (some (.int .i64 ((i : Int) + 1))) none).run Try.prog w = .ok (.string (s.extract i (i + 1))) w := by
  have h1 : (i : Int) + 1 ≤ s.size := by omega
  have h2 : (0 : Int) ≤ i := by omega
  have h3 : (i : Int) ≤ (i : Int) + 1 := by omega
  have h4 : ((i : Int) + 1).toNat = i + 1 := by omega
  have h5 : (s.size : Int) ≤ 800000 := by omega
  go_simp
structure RcutI (w wr : World) (s : ByteArray) (u : Value) (ps : List ByteArray) (part : ByteArray) (i : Nat) : Prop where
  below : Below w.heap.size w wr
  row : wr.ownsRow w.heap.size 9 1 u ps.length (ps.map Value.string)
  is : cutL s = ps ++ cutL (s.extract (512 * ps.length) s.size)
  part : part = s.extract (512 * ps.length) i
  lo : 512 * ps.length ≤ i ∧ (0 < i → 512 * ps.length < i)
  hi : i ≤ 512 * (ps.length + 1)
theorem part_on {s : ByteArray} {a i : Nat} (h : a ≤ i) (h2 : i < s.size) : s.extract a i ++ s.extract i (i + 1) = s.extract a (i + 1) := by
  rw [ByteArray.extract_append_extract]
  congr 1 <;> omega
theorem RcutI.go {w wr : World} {s part : ByteArray} {u : Value} {ps : List ByteArray} {i : Nat} (h : RcutI w wr s u ps part i) (hs : i < s.size) (hm : ¬ (0 < i ∧ i % 512 = 0)) : RcutI w wr s u ps (part ++ s.extract i (i + 1)) (i + 1) := by
  have h1 := h.lo
  have h2 := h.hi
  exact ⟨h.below, h.row, h.is, by rw [h.part, part_on h1.1 hs], ⟨by omega, fun _ => by omega⟩, by omega⟩
theorem RcutI.turn {w wr w' : World} {s part : ByteArray} {u : Value} {ps : List ByteArray} {i g' cap : Nat} (h : RcutI w wr s u ps part i) (hs : i < s.size) (hm : 0 < i ∧ i % 512 = 0)
    (ho : w'.ownsRow w.heap.size 9 1 (.slice (some ⟨g', 0, none⟩) (ps.length + 1) cap) (ps.length + 1) (ps.map Value.string ++ [.string part])) (hg2 : (wr.alloc (.cells #[.string part] 9)).grownBy w' u.ownBlock) :
    RcutI w w' s (.slice (some ⟨g', 0, none⟩) (ps.length + 1) cap) (ps ++ [part]) (s.extract i (i + 1)) (i + 1) := by
  have h1 := h.lo
  have h2 := h.hi
  have h3 := h1.2 hm.1
  have hi : i = 512 * (ps.length + 1) := by omega
  refine ⟨(h.below.alloc h.below.size (.cells #[.string part] 9)).grown hg2 (Nat.le_trans h.below.size (by simp only [World.size_alloc]; omega)) (fun q hq => (World.ownsRow.lt h.row q hq).1), ?_, ?_, ?_, ?_, ?_⟩
  · rw [List.length_append, List.map_append]
    exact ho
  · rw [h.is, cut_on (a := 512 * ps.length) (by omega), h.part, List.length_append, List.length_singleton, show i = 512 * ps.length + 512 by omega, show 512 * (ps.length + 1) = 512 * ps.length + 512 by omega]
    simp
  · rw [List.length_append, List.length_singleton, ← hi]
  · rw [List.length_append, List.length_singleton]
    omega
  · rw [List.length_append, List.length_singleton]
    omega
theorem rem_512 (i : Nat) : (i : Int).tmod 512 = ((i % 512 : Nat) : Int) := by rw [Int.tmod_eq_emod_of_nonneg (by omega)]; omega
set_option maxRecDepth 100000 in
set_option maxHeartbeats 4000000 in
theorem rcut_any (A : Option Addr) (n cap : Nat) (cs : List ChgP) (w : World) (h : CRow w A n cs) (hn : n ≤ 800000) (hl : (putD cs).length ≤ 800000) : Calls Try.prog 12 #[.slice A n cap] w (PartsIs w (cutL ⟨(putD cs).toArray⟩)) := by
  obtain ⟨i0, hi, hz0, hz1, hz2⟩ := info_parts info_s
  have HII := Lib.hid (And.intro hi (And.intro hz0 (And.intro hz1 hz2)))
  have HP := Lib.hid (rdput_any A n cap cs w h hn hl)
  obtain ⟨s, hs⟩ : ∃ s : ByteArray, s = ⟨(putD cs).toArray⟩ := ⟨_, rfl⟩
  rw [← hs] at HP ⊢
  have hsz : s.size ≤ 800000 := by rw [hs]; simpa [ByteArray.size] using hl
  have hsp : 0 < s.size := by
    have e : s.size = (putD cs).length := by rw [hs]; simp [ByteArray.size]
    rw [e]
    unfold putD
    rw [List.length_append, numB_len]
    omega
  have HSZ := Lib.hid (And.intro hsp hsz)
  clear hi hz0 hz1 hz2 h hl hs
  obtain ⟨N, hN⟩ : ∃ N, N = s.size := ⟨_, rfl⟩
  have HN := Lib.hid hN
  have hN9 : (N : Int) ≤ 800000 := by omega
  clear hsz hsp
  go_enter Try.func12, Try.ntmps12
  go_wp2_with fail
  refine HP.out.mono ?_
  rintro e w1 ⟨rfl, hb⟩
  have HI0 := Lib.hid (show RcutI w w1 s (.slice none 0 0) [] ⟨#[]⟩ 0 from ⟨hb, own1_nil _ _ _, cut_none s, part_none s, ⟨by simp, fun h => by omega⟩, by simp⟩)
  clear hb
  go_wp2
  rw [← hN]
  clear hN
  go_loopw [4, 5, 11] (fun a b z wr => ∃ i : Nat, ∃ u : Value, ∃ ps : List ByteArray, ∃ part : ByteArray, i ≤ N ∧ z = .int .i64 i ∧ a = u ∧ b = .string part ∧ Hid (RcutI w wr s u ps part i)) (fun _ _ z _ => N - (intOf z).toNat)
  case atStart => exact ⟨0, _, _, _, by omega, rfl, rfl, rfl, HI0⟩
  case round =>
    obtain ⟨i, u, ps, part, hiN, rfl, rfl, rfl, HI⟩ := hrel
    obtain ⟨Au, cu, rfl⟩ := own1_sl HI.out.row
    have HF := Lib.hid (show ps.length ≤ 800000 by have := HI.out.lo; omega)
    have HS := Lib.hid (fun o : Obj => show w.heap.size ≤ (wr.alloc o).heap.size from Nat.le_trans HI.out.below.size (by simp only [World.size_alloc]; omega))
    by_cases hlt : i < N
    · have hlti : (i : Int) < N := by omega
      have HLT := Lib.hid (show i + 1 ≤ N from hlt)
      have HLS := Lib.hid (show i < s.size by rw [← HN.out]; exact hlt)
      have hrm := rem_512 i
      have hsl := fun w => slice1 s i HLS.out HSZ.out.2 w
      have hps : part.size ≤ 800000 := by rw [HI.out.part, ByteArray.size_extract]; have := HSZ.out.2; omega
      have hes : (s.extract i (i + 1)).size = 1 := by rw [ByteArray.size_extract]; have := HLS.out; omega
      have hcat := fun w => run_string_add_sum (P := Try.prog) w part (s.extract i (i + 1)) (by omega)
      by_cases h0 : 0 < i
      · have h0i : (0 : Int) < i := by omega
        by_cases hm : i % 512 = 0
        · have HM := Lib.hid (And.intro h0 hm)
          rw [hm] at hrm
          clear hm h0
          go_wp2_with (at_builtin; refine wpList_append_lies _ rfl (.tmp 21) (.tmp 23) 25 rfl w.heap.size 9 i0 (.string ⟨#[]⟩) 1 16 Try.underlying25 HII.out.1 HII.out.2.1 HII.out.2.2.1 HII.out.2.2.2 rfl (by decide) (.slice Au ps.length cu) ps.length (ps.map Value.string) rfl (World.ownsRow.alloc HI.out.row _) ⟨wr.heap.size, 0, none⟩ 1 1 [.string part] rfl rfl ?c1 ?c2 (by decide) (by unfold maxLen; have := HF.out; omega) (by have := HF.out; omega) (HS.out _) _ rfl ?_)
          case c1 => exact World.news_of_block (Has.fresh wr 9 #[.string part])
          case c2 => first | rfl | exact fun u hu => by simp at hu; subst hu; rfl
          intro g' cap5 w5 ho hg2 hor hlt2
          have HQ := Lib.hid (RcutI.turn HI.out HLS.out HM.out ho hg2)
          clear ho hg2 hor hlt2
          go_wp2
          go_roundw
          case rel => exact ⟨i + 1, _, _, _, HLT.out, by go_num, rfl, rfl, HQ⟩
          case measure => have := HLT.out; simp [intOf]; omega
        · have HQ := Lib.hid (RcutI.go HI.out HLS.out (fun h => hm h.2))
          have hm1 : (((i % 512 : Nat) : Int) == 0) = false := beq_eq_false_iff_ne.2 (by omega)
          obtain ⟨r, hr⟩ : ∃ r : Nat, r = i % 512 := ⟨_, rfl⟩
          rw [← hr] at hrm hm1 hm
          have hm2 : ¬ (r : Int) = 0 := by omega
          have hm3 : r ≠ 0 := hm
          clear hm hr
          go_wp2
          go_roundw
          case rel => exact ⟨i + 1, _, _, _, HLT.out, by go_num, rfl, rfl, HQ⟩
          case measure => have := HLT.out; simp [intOf]; omega
      · have h0i : ¬ (0 : Int) < i := by omega
        have HQ := Lib.hid (RcutI.go HI.out HLS.out (fun h => h0 h.1))
        obtain rfl : i = 0 := by omega
        have hsl : ∀ w, (Instr.slice 9 (.string s) (some (.int .i64 0)) (some (.int .i64 1)) none).run Try.prog w = .ok (.string (s.extract 0 1)) w := fun w => slice1 s 0 HLS.out HSZ.out.2 w
        clear h0 hrm
        go_wp2
        go_roundw
        case rel => exact ⟨1, _, _, _, HLT.out, by go_num, rfl, rfl, HQ⟩
        case measure => have := HLT.out; simp [intOf]; omega
    · have hlti : ¬ (i : Int) < N := by omega
      obtain rfl : i = N := by omega
      have HE := Lib.hid (show cutL s = ps ++ [part] by
        have h1 := HI.out.lo
        have h2 := HI.out.hi
        have h3 := HSZ.out.1
        have h4 := HN.out
        rw [HI.out.is, cut_end (a := 512 * ps.length) (by omega) (by omega), HI.out.part, h4])
      go_wp2_with (at_builtin; refine wpList_append_lies _ rfl (.tmp 33) (.tmp 35) 25 rfl w.heap.size 9 i0 (.string ⟨#[]⟩) 1 16 Try.underlying25 HII.out.1 HII.out.2.1 HII.out.2.2.1 HII.out.2.2.2 rfl (by decide) (.slice Au ps.length cu) ps.length (ps.map Value.string) rfl (World.ownsRow.alloc HI.out.row _) ⟨wr.heap.size, 0, none⟩ 1 1 [.string part] rfl rfl ?c1e ?c2e (by decide) (by unfold maxLen; have := HF.out; omega) (by have := HF.out; omega) (HS.out _) _ rfl ?_)
      try case c1e => exact World.news_of_block (Has.fresh wr 9 #[.string part])
      case c2e => first | rfl | exact fun u hu => by simp at hu; subst hu; rfl
      intro g' cap5 w5 ho hg2 hor hlt2
      have HB5 := Lib.hid (show Below w.heap.size w w5 from (HI.out.below.alloc HI.out.below.size (.cells #[.string part] 9)).grown hg2 (Nat.le_trans HI.out.below.size (by simp only [World.size_alloc]; omega)) (fun q hq => (World.ownsRow.lt HI.out.row q hq).1))
      have HO := Lib.hid (show OwnS w5 w.heap.size (.slice (some ⟨g', 0, none⟩) (ps.length + 1) cap5) (ps ++ [part]) from by
        unfold OwnS
        rw [List.length_append, List.map_append]
        exact ho)
      clear ho hg2 hor hlt2
      go_wp2
      go_ret
      exact ⟨_, rfl, by rw [HE.out]; exact HO.out, HB5.out⟩
end Go.Proofs.Ytepnckglnciinaa.Sm
