/- The chapter's example. -/
import Derived.Test.YtlmgikgpmcdakaaDoorNmI
namespace Go.Proofs.YtlmgikgpmcdakaaDoor.Nm
open Go.RowKit Go.Proofs.YtlmgikgpmcdakaaDoor.Mem

def pathP : ByteArray := ⟨#[47, 97, 47, 98]⟩
def oddP : ByteArray := ⟨#[99, 49, 97, 45, 51]⟩
theorem splitP : splitErr pathP = 0 := by decide +kernel
theorem splitPL : splitL pathP = [⟨#[97]⟩, ⟨#[98]⟩] := by decide +kernel
theorem goodP : goodM [97, 47, 98] = 22 := by decide +kernel
theorem u64_26 : u64 26 = 26 := by decide +kernel
theorem u64_3 : u64 3 = 3 := by decide +kernel
theorem oddP_is : oddL 26 3 = [99, 49, 97, 45, 51] := by
  unfold oddL
  rw [u64_26, u64_3, hexU_step 26 (by omega), hexU_small (26 / 16) (by omega), hexU_small (3 % 16) (by omega)]
  decide +kernel
theorem timeP : timeOf oddP = 26 := by decide +kernel
theorem whoP : whoOf oddP = 3 := by decide +kernel
theorem ofP : ofAns oddP = .tuple #[.agg #[.int .i64 26, .int .i64 3], .bool true] := by
  unfold ofAns
  rw [timeP, whoP]
  exact if_pos oddP_is
theorem cells_of {w : World} {g : Nat} {t : TypeId} {l : List ByteArray} (h : Has w g t (l.map Value.string).toArray) : ∀ j, j < l.length → w.cell? ⟨g, 0 + j, none⟩ = some (.string (l.getD j ByteArray.empty)) := fun j hj => by
  rw [Nat.zero_add, Has.at_ h, List.getElem?_toArray, List.getElem?_map, List.getElem?_eq_getElem hj]
  simp [List.getD, List.getElem?_eq_getElem hj]
theorem awake_true (w : World) (h : Tabs w) : Calls Tryd.prog 10 #[] w fun e w' => e = .returned (.bool true) ∧ Below w.heap.size w w' := by
  have C1 := Lib.hid (split_any pathP (by decide) w h)
  have C2 := Lib.hid (fun w h => of_any oddP (by decide) w h)
  rw [ofP] at C2
  have C3 := Lib.hid (fun w h => odd_any 26 3 w h)
  rw [oddP_is] at C3
  have C4 := Lib.hid (fun w => good_any ⟨#[97, 47, 98]⟩ (by decide) w)
  rw [show goodM (⟨#[97, 47, 98]⟩ : ByteArray).data.toList = 22 from goodP] at C4
  unfold pathP at C1
  unfold oddP at C2
  go_enter Tryd.func10, Tryd.ntmps10
  go_wp2_with fail
  refine C1.out.mono ?_
  rintro e w1 ⟨⟨v, rfl, hs⟩, hb⟩
  rw [show splitErr ⟨#[47, 97, 47, 98]⟩ = 0 from splitP]
  rw [show splitL ⟨#[47, 97, 47, 98]⟩ = [⟨#[97]⟩, ⟨#[98]⟩] from splitPL] at hs
  rcases hs with ⟨hs, _⟩ | ⟨_, g, hg, rfl, hx⟩
  · cases hs
  go_wp2_with fail
  refine (C2.out _ (h.self hb)).mono ?_
  rintro e w2 ⟨rfl, hb2⟩
  have hb3 := hb.trans (hb2.mono hb.size)
  have hx2 := hx.below hb2
  clear hb hb2 hx
  go_wp2_with fail
  have hb4 := ((Below.refl w2.heap.size w2).alloc (Nat.le_refl _) (.cells #[.int .i64 26, .int .i64 3] 38)).alloc (by simp) (.cells #[.string ⟨#[97]⟩, .string ⟨#[98]⟩] 9)
  have hx4 := hx2.below hb4
  have hy4 := Has.fresh (w2.alloc (.cells #[.int .i64 26, .int .i64 3] 38)) 9 #[.string ⟨#[97]⟩, .string ⟨#[98]⟩]
  rw [World.size_alloc] at hy4
  have hi4 := ((Has.fresh w2 38 #[.int .i64 26, .int .i64 3]).past (.cells #[.string ⟨#[97]⟩, .string ⟨#[98]⟩] 9))
  have hb5 := hb3.trans (hb4.mono hb3.size)
  clear hb4 hb3 hx2
  generalize (w2.alloc (.cells #[.int .i64 26, .int .i64 3] 38)).alloc (.cells #[.string ⟨#[97]⟩, .string ⟨#[98]⟩] 9) = w4 at *
  have CE := Tryd.slices_Equal_string g 0 2 2 (w2.heap.size + 1) 0 2 2 [⟨#[97]⟩, ⟨#[98]⟩] [⟨#[97]⟩, ⟨#[98]⟩] w4 (by decide) (by decide) (by decide) (by decide) (cells_of hx4) (cells_of (l := [⟨#[97]⟩, ⟨#[98]⟩]) hy4)
  rw [decide_eq_true rfl] at CE
  refine CE.mono ?_
  rintro e w5 ⟨rfl, q, rfl⟩
  have hb6 := below_drewN hb5 q
  have hi6 : Has (w4.drewN q) w2.heap.size 38 #[.int .i64 26, .int .i64 3] := hi4
  clear CE hx4 hy4 hi4 hb5
  generalize w4.drewN q = w6 at *
  go_wp2_with fail
  refine (C3.out _ (h.self hb6)).mono ?_
  rintro e w7 ⟨rfl, hb⟩
  have hb7 := hb6.trans (hb.mono hb6.size)
  have hi7 := hi6.below hb
  have c0 := Has.at_ hi7 0
  have c1 := Has.at_ hi7 1
  simp at c0 c1
  clear hb hb6 hi6 C3
  go_wp2_with fail
  refine (C4.out _).mono ?_
  rintro e w8 ⟨rfl, hb⟩
  go_wp2_with fail
  go_ret
  exact ⟨rfl, hb7.trans (hb.mono hb7.size)⟩
end Go.Proofs.YtlmgikgpmcdakaaDoor.Nm
