/- Changes in parts: the program's Cut. -/
import Derived.Test.YtepnckglnciinaaSmH
import Derived.Test.YtepnckglnciinaaSmC
namespace Go.Proofs.Ytepnckglnciinaa.Sm
open Go.RowKit Go.Proofs.Ytepnckglnciinaa.Mem
set_option linter.unusedVariables false

def cutN : Nat → ByteArray → List ByteArray
  | 0, _ => []
  | k + 1, s => if s.size = 0 then [] else s.extract 0 (min s.size 512) :: cutN k (s.extract (min s.size 512) s.size)
def cutL (s : ByteArray) : List ByteArray := cutN s.size s
theorem cutN_more : ∀ (k : Nat) (s : ByteArray), s.size ≤ k → cutN k s = cutN s.size s
  | 0, s, h => by rw [show s.size = 0 by omega]
  | k + 1, s, h => by
    by_cases h0 : s.size = 0
    · rw [h0]; simp [cutN, h0]
    · obtain ⟨m, hm⟩ : ∃ m, s.size = m + 1 := ⟨s.size - 1, by omega⟩
      conv => rhs; rw [hm]
      simp only [cutN, if_neg h0]
      have e : (s.extract (min s.size 512) s.size).size = s.size - min s.size 512 := by rw [ByteArray.size_extract]; omega
      rw [cutN_more k _ (by rw [e]; omega), cutN_more m _ (by rw [e]; omega)]
theorem cutL_nil {s : ByteArray} (h : s.size = 0) : cutL s = [] := by unfold cutL; rw [h]; rfl
theorem cutL_cons {s : ByteArray} (h : s.size ≠ 0) : cutL s = s.extract 0 (min s.size 512) :: cutL (s.extract (min s.size 512) s.size) := by
  obtain ⟨m, hm⟩ : ∃ m, s.size = m + 1 := ⟨s.size - 1, by omega⟩
  have e : (s.extract (min s.size 512) s.size).size = s.size - min s.size 512 := by rw [ByteArray.size_extract]; omega
  unfold cutL
  conv => lhs; rw [hm]
  simp only [cutN, if_neg h]
  rw [cutN_more m _ (by rw [e]; omega)]
structure CutI (w wr : World) (s : ByteArray) (u : Value) (ps : List ByteArray) (rest : ByteArray) : Prop where
  below : Below w.heap.size w wr
  row : wr.ownsRow w.heap.size 9 1 u ps.length (ps.map Value.string)
  is : cutL s = ps ++ cutL rest
  few : ps.length + rest.size ≤ s.size
theorem CutI.step {w wr w' : World} {s rest : ByteArray} {u : Value} {ps : List ByteArray} {g' cap n : Nat} (h : CutI w wr s u ps rest) (hr : 0 < rest.size) (hn : n = min rest.size 512)
    (ho : w'.ownsRow w.heap.size 9 1 (.slice (some ⟨g', 0, none⟩) (ps.length + 1) cap) (ps.length + 1) (ps.map Value.string ++ [.string (rest.extract 0 n)])) (hg2 : (wr.alloc (.cells #[.string (rest.extract 0 n)] 9)).grownBy w' u.ownBlock) : CutI w w' s (.slice (some ⟨g', 0, none⟩) (ps.length + 1) cap) (ps ++ [rest.extract 0 n]) (rest.extract n rest.size) := by
  refine ⟨(h.below.alloc h.below.size (.cells #[.string (rest.extract 0 n)] 9)).grown hg2 (Nat.le_trans h.below.size (by simp)) (fun q hq => (World.ownsRow.lt h.row q hq).1), ?_, ?_, ?_⟩
  · rw [List.length_append, List.map_append]
    exact ho
  · rw [h.is, cutL_cons (by omega), hn]
    simp
  · have := h.few
    rw [List.length_append, ByteArray.size_extract]
    simp
    omega
def cutM : Value → Nat
  | .string s => s.size
  | _ => 0
theorem empty_size {s : ByteArray} (h : s.toList.isEmpty = true) : s.size = 0 := by
  rw [ByteArray.toList_eq] at h
  obtain ⟨⟨l⟩⟩ := s
  cases l with
  | nil => rfl
  | cons a l => simp at h
theorem full_size {s : ByteArray} (h : s.toList.isEmpty = false) : 0 < s.size := by
  rw [ByteArray.toList_eq] at h
  obtain ⟨⟨l⟩⟩ := s
  cases l with
  | nil => simp at h
  | cons a l => show 0 < (a :: l).length; simp
def PartsIs (w : World) (l : List ByteArray) (e : Ending) (w' : World) : Prop := ∃ u, e = .returned u ∧ OwnS w' w.heap.size u l ∧ Below w.heap.size w w'
set_option maxRecDepth 100000 in
set_option maxHeartbeats 4000000 in
theorem cut_any (A : Option Addr) (n cap : Nat) (cs : List ChgP) (w : World) (h : CRow w A n cs) (hn : n ≤ 800000) (hl : (putD cs).length ≤ 800000) : Calls Try.prog 11 #[.slice A n cap] w (PartsIs w (cutL ⟨(putD cs).toArray⟩)) := by
  obtain ⟨i0, hi, hz0, hz1, hz2⟩ := info_parts info_s
  have HII := Lib.hid (And.intro hi (And.intro hz0 (And.intro hz1 hz2)))
  have HP := Lib.hid (dput_any A n cap cs w h hn hl)
  obtain ⟨s, hs⟩ : ∃ s : ByteArray, s = ⟨(putD cs).toArray⟩ := ⟨_, rfl⟩
  rw [← hs] at HP ⊢
  have HSZ := Lib.hid (show s.size ≤ 800000 by rw [hs]; simpa [ByteArray.size] using hl)
  clear hi hz0 hz1 hz2 h hl hs
  go_enter Try.func11, Try.ntmps11
  go_wp2_with fail
  refine HP.out.mono ?_
  rintro e w1 ⟨rfl, hb⟩
  have HI0 := Lib.hid (show CutI w w1 s (.slice none 0 0) [] s from ⟨hb, own1_nil _ _ _, rfl, by simp⟩)
  clear hb
  go_wp2
  go_loopw [3, 4] (fun a b wr => ∃ u : Value, ∃ ps : List ByteArray, ∃ rest : ByteArray, a = u ∧ b = .string rest ∧ Hid (CutI w wr s u ps rest)) (fun _ b _ => cutM b)
  case atStart => exact ⟨_, _, _, rfl, rfl, HI0⟩
  case round =>
    obtain ⟨u, ps, rest, rfl, rfl, HI⟩ := hrel
    obtain ⟨Au, cu, rfl⟩ := own1_sl HI.out.row
    have HF := Lib.hid (show ps.length ≤ 800000 by have := HI.out.few; have := HSZ.out; omega)
    cases he : rest.toList.isEmpty with
    | true =>
      have HE := Lib.hid (show cutL s = ps by rw [HI.out.is, cutL_nil (empty_size he)]; simp)
      go_wp2
      go_ret
      exact ⟨_, rfl, by rw [HE.out]; exact HI.out.row, HI.out.below⟩
    | false =>
      have HNE := Lib.hid (full_size he)
      have HO := Lib.hid HI.out.row
      have hbig : (rest.size : Int) ≤ 800000 := by have := HI.out.few; have := HSZ.out; omega
      have HS := Lib.hid (show w.heap.size ≤ (wr.alloc (.cells #[.string (rest.extract 0 (min (rest.size : Int) 512).toNat)] 9)).heap.size from Nat.le_trans HI.out.below.size (by simp))
      go_wp2_with (at_builtin; refine wpList_append_lies _ rfl (.tmp 13) (.tmp 17) 25 rfl w.heap.size 9 i0 (.string ⟨#[]⟩) 1 16 Try.underlying25 HII.out.1 HII.out.2.1 HII.out.2.2.1 HII.out.2.2.2 rfl (by decide) (.slice Au ps.length cu) ps.length (ps.map Value.string) rfl (World.ownsRow.alloc HO.out _) ⟨wr.heap.size, 0, none⟩ 1 1 [.string (rest.extract 0 (min (rest.size : Int) 512).toNat)] rfl rfl ?c1 ?c2 (by decide) (by unfold maxLen; have := HF.out; omega) (by have := HF.out; omega) HS.out _ rfl ?_)
      case c1 => exact World.news_of_block (Has.fresh wr 9 #[.string (rest.extract 0 (min (rest.size : Int) 512).toNat)])
      case c2 => exact fun u hu => by simp at hu; subst hu; rfl
      intro g' cap w2 ho hg2 hor hlt2
      have HQ := Lib.hid (CutI.step HI.out HNE.out (show (min (rest.size : Int) 512).toNat = min rest.size 512 by omega) ho hg2)
      clear ho hg2 hor hlt2
      go_wp2
      go_roundw
      case rel => exact ⟨_, _, _, rfl, rfl, HQ⟩
      case measure => have := HNE.out; simp [cutM]; omega
end Go.Proofs.Ytepnckglnciinaa.Sm
