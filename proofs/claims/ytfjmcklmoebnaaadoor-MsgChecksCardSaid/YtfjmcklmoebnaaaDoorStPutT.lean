/- PutText: contract. -/
import Derived.Test.YtfjmcklmoebnaaaDoorStBase
namespace Go.Proofs.YtfjmcklmoebnaaaDoor.Oct
open Go.RowKit

/-- The text's bytes that are put, and those ahead of them. -/
def cutT (s : ByteArray) : List UInt8 := s.data.toList.take 65535
def headT (n : Nat) : List UInt8 := [UInt8.ofNat (n / 256), UInt8.ofNat (n % 256)]
theorem two_new (w : World) (x y : Value) (t : TypeId) : ∀ j u, [x, y][j]? = some u → (w.alloc (.cells #[x, y] t)).cell? ((⟨w.heap.size, 0, none⟩ : Addr).add j) = some u := by
  have h := Has.fresh w t #[x, y]
  intro j u hj
  rcases j with _ | _ | j
  · have := Has.at_ h 0
    simp at hj
    subst hj
    exact this
  · have := Has.at_ h 1
    simp at hj
    subst hj
    exact this
  · simp at hj
theorem head_cells (n : Nat) (h : n < 65536) : (headT n).map bv = [.int .u8 ((n : Int) / 256 % 256), .int .u8 ((n : Int) % 256)] := by
  unfold headT
  have e1 : n / 256 = n / 256 % 256 := by omega
  rw [e1, List.map_cons, List.map_cons, List.map_nil, byte_val, byte_val]
  congr 2
theorem str_cells (s : ByteArray) : Lib.strCells s = s.data.toList.map bv := rfl
theorem head_len (n : Nat) : (headT n).length = 2 := rfl
set_option maxRecDepth 100000 in
theorem ptext_short (A : Option Addr) (n cap : Nat) (l : List UInt8) (s : ByteArray) (hn : n ≤ 900000) (hs : s.size < 65535) (w : World) (h : RowB w A n l) (h0 : A = none → n = 0 ∧ cap = 0) :
    Calls Tryd.prog 37 #[.slice A n cap, .string s] w fun e w' => ∃ v, e = .returned v ∧ Owns w' w.heap.size v (l ++ headT s.size ++ s.data.toList) ∧ Below w.heap.size w w' := by
  obtain ⟨i0, hi, hz0, hz1, hz2⟩ := info_parts info_u8
  have HI := Lib.hid (And.intro hi (And.intro hz0 (And.intro hz1 hz2)))
  clear hi hz0 hz1 hz2
  have HW := Lib.hid (with_any A n cap (2 + s.size) l (by omega) (by omega) w h h0)
  rw [show ((2 + s.size : Nat) : Int) = 2 + (s.size : Int) by omega] at HW
  have HL := Lib.hid h.1
  have g1 : (s.size : Int) < 65535 := by omega
  have g2 : ¬ 65535 < (s.size : Int) := by omega
  clear h h0
  go_enter Tryd.func37, Tryd.ntmps37
  go_wp2_with fail
  refine HW.out.mono ?_
  rintro e w1 ⟨v, rfl, hown, hb⟩
  clear HW g1 g2
  have HS := Lib.hid hs
  have HN := Lib.hid hn
  have HO := Lib.hid hown
  clear hs hn hown
  go_wp2_with (at_builtin; (refine wpList_append_own (w1.alloc (.cells #[.int .u8 ((s.size : Int) / 256 % 256), .int .u8 ((s.size : Int) % 256)] 5)) rfl (.tmp 16) (.tmp 24) _ rfl w.heap.size 5 i0 (.int .u8 0) 1 1 Tryd.underlying41 HI.out.1 HI.out.2.1 HI.out.2.2.1 HI.out.2.2.2 rfl (by decide) _ l.length (l.map bv) rfl (World.ownsRow.alloc HO.out _) ⟨w1.heap.size, 0, none⟩ 2 2 [.int .u8 ((s.size : Int) / 256 % 256), .int .u8 ((s.size : Int) % 256)] rfl rfl (two_new _ _ _ _) ?c1 ?c2 ?c3 ?c4 ?_))
  case c1 => intro u hu; rcases List.mem_cons.1 hu with rfl | hu; rfl; rw [List.mem_singleton.1 hu]; rfl
  case c2 => have := HL.out; have := HN.out; unfold maxLen; omega
  case c3 => have := HL.out; have := HN.out; omega
  case c4 => simp; exact Nat.le_trans hb.size (Nat.le_succ _)
  intro v2 w2 o2 b2 _
  have B2 := (hb.alloc hb.size _).grown b2 (by simp; exact Nat.le_trans hb.size (Nat.le_succ _)) (fun g hg => (World.ownsRow.lt HO.out g hg).1)
  have HO2 := Lib.hid o2
  clear o2 b2
  go_wp2_with (at_builtin; (refine Lib.wpList_append_own_string _ rfl (.tmp 26) (.tmp 27) _ _ rfl w.heap.size 5 i0 Tryd.underlying41 Tryd.underlying9 HI.out.1 HI.out.2.1 HI.out.2.2.1 HI.out.2.2.2 _ (l.length + 2) _ rfl HO2.out s rfl ?c5 ?c6 ?c7 ?_))
  case c5 => have := HL.out; have := HN.out; have := HS.out; unfold maxLen; omega
  case c6 => have := HL.out; have := HN.out; have := HS.out; omega
  case c7 => exact B2.size
  intro v3 w3 o3 b3 _
  go_wp2
  go_ret
  refine ⟨v3, rfl, ?_, B2.grown b3 B2.size (fun g hg => (World.ownsRow.lt HO2.out g hg).1)⟩
  have e1 : (l ++ headT s.size ++ s.data.toList).length = l.length + 2 + s.size := by rw [List.length_append, List.length_append, head_len]; rfl
  unfold Owns
  rw [e1, List.map_append, List.map_append, head_cells _ (by have := HS.out; omega), ← str_cells]
  simpa using o3
set_option maxRecDepth 100000 in
theorem ptext_even (A : Option Addr) (n cap : Nat) (l : List UInt8) (s : ByteArray) (hn : n ≤ 900000) (hs : s.size = 65535) (w : World) (h : RowB w A n l) (h0 : A = none → n = 0 ∧ cap = 0) :
    Calls Tryd.prog 37 #[.slice A n cap, .string s] w fun e w' => ∃ v, e = .returned v ∧ Owns w' w.heap.size v (l ++ headT 65535 ++ (s.extract 0 65535).data.toList) ∧ Below w.heap.size w w' := by
  obtain ⟨i0, hi, hz0, hz1, hz2⟩ := info_parts info_u8
  have HI := Lib.hid (And.intro hi (And.intro hz0 (And.intro hz1 hz2)))
  clear hi hz0 hz1 hz2
  obtain ⟨T, hT⟩ : ∃ T : ByteArray, T = s.extract 0 65535 := ⟨_, rfl⟩
  have eT : T.size = 65535 := by rw [hT]; simp; omega
  have HW := Lib.hid (with_any A n cap 65537 l (by omega) (by omega) w h h0)
  have HT := Lib.hid hT
  have HL := Lib.hid h.1
  have g1 : ¬ (s.size : Int) < 65535 := by omega
  have g2 : ¬ 65535 < (s.size : Int) := by omega
  clear h h0 hT
  go_enter Tryd.func37, Tryd.ntmps37
  go_wp2_with fail
  rw [← HT.out]
  refine HW.out.mono ?_
  rintro e w1 ⟨v, rfl, hown, hb⟩
  clear HW g1 g2
  have HS := Lib.hid eT
  have HN := Lib.hid hn
  have HO := Lib.hid hown
  clear hs hn hown eT
  go_wp2_with (at_builtin; (refine wpList_append_own (w1.alloc (.cells #[.int .u8 ((T.size : Int) / 256 % 256), .int .u8 ((T.size : Int) % 256)] 5)) rfl (.tmp 16) (.tmp 24) _ rfl w.heap.size 5 i0 (.int .u8 0) 1 1 Tryd.underlying41 HI.out.1 HI.out.2.1 HI.out.2.2.1 HI.out.2.2.2 rfl (by decide) _ l.length (l.map bv) rfl (World.ownsRow.alloc HO.out _) ⟨w1.heap.size, 0, none⟩ 2 2 [.int .u8 ((T.size : Int) / 256 % 256), .int .u8 ((T.size : Int) % 256)] rfl rfl (two_new _ _ _ _) ?c1 ?c2 ?c3 ?c4 ?_))
  case c1 => intro u hu; rcases List.mem_cons.1 hu with rfl | hu; rfl; rw [List.mem_singleton.1 hu]; rfl
  case c2 => have := HL.out; have := HN.out; unfold maxLen; omega
  case c3 => have := HL.out; have := HN.out; omega
  case c4 => simp; exact Nat.le_trans hb.size (Nat.le_succ _)
  intro v2 w2 o2 b2 _
  have B2 := (hb.alloc hb.size _).grown b2 (by simp; exact Nat.le_trans hb.size (Nat.le_succ _)) (fun g hg => (World.ownsRow.lt HO.out g hg).1)
  have HO2 := Lib.hid o2
  clear o2 b2
  go_wp2_with (at_builtin; (refine Lib.wpList_append_own_string _ rfl (.tmp 26) (.tmp 27) _ _ rfl w.heap.size 5 i0 Tryd.underlying41 Tryd.underlying9 HI.out.1 HI.out.2.1 HI.out.2.2.1 HI.out.2.2.2 _ (l.length + 2) _ rfl HO2.out T rfl ?c5 ?c6 ?c7 ?_))
  case c5 => have := HL.out; have := HN.out; have := HS.out; unfold maxLen; omega
  case c6 => have := HL.out; have := HN.out; have := HS.out; omega
  case c7 => exact B2.size
  intro v3 w3 o3 b3 _
  go_wp2
  go_ret
  refine ⟨v3, rfl, ?_, B2.grown b3 B2.size (fun g hg => (World.ownsRow.lt HO2.out g hg).1)⟩
  rw [← HT.out, ← HS.out]
  have e1 : (l ++ headT T.size ++ T.data.toList).length = l.length + 2 + T.size := by rw [List.length_append, List.length_append, head_len]; rfl
  unfold Owns
  rw [e1, List.map_append, List.map_append, head_cells _ (by have := HS.out; omega), ← str_cells]
  simpa using o3
set_option maxRecDepth 100000 in
theorem ptext_long (A : Option Addr) (n cap : Nat) (l : List UInt8) (s : ByteArray) (hn : n ≤ 900000) (hs : 65535 < s.size) (w : World) (h : RowB w A n l) (h0 : A = none → n = 0 ∧ cap = 0) :
    Calls Tryd.prog 37 #[.slice A n cap, .string s] w fun e w' => ∃ v, e = .returned v ∧ Owns w' w.heap.size v (l ++ headT 65535 ++ (s.extract 0 65535).data.toList) ∧ Below w.heap.size w w' := by
  obtain ⟨i0, hi, hz0, hz1, hz2⟩ := info_parts info_u8
  have HI := Lib.hid (And.intro hi (And.intro hz0 (And.intro hz1 hz2)))
  clear hi hz0 hz1 hz2
  obtain ⟨T, hT⟩ : ∃ T : ByteArray, T = s.extract 0 65535 := ⟨_, rfl⟩
  have eT : T.size = 65535 := by rw [hT]; simp; omega
  have HW := Lib.hid (with_any A n cap (2 + T.size) l (by omega) (by omega) w h h0)
  rw [show ((2 + T.size : Nat) : Int) = 2 + (T.size : Int) by omega] at HW
  have HM := Lib.hid (show min 65535 s.size = T.size by omega)
  have HT := Lib.hid hT
  have HL := Lib.hid h.1
  have g1 : ¬ (s.size : Int) < 65535 := by omega
  have g2 : 65535 < (s.size : Int) := by omega
  clear h h0 hT
  go_enter Tryd.func37, Tryd.ntmps37
  go_wp2_with fail
  rw [← HT.out, HM.out]
  refine HW.out.mono ?_
  rintro e w1 ⟨v, rfl, hown, hb⟩
  clear HW g1 g2
  have HS := Lib.hid eT
  have HN := Lib.hid hn
  have HO := Lib.hid hown
  clear hs hn hown eT
  go_wp2_with (at_builtin; (refine wpList_append_own (w1.alloc (.cells #[.int .u8 ((T.size : Int) / 256 % 256), .int .u8 ((T.size : Int) % 256)] 5)) rfl (.tmp 16) (.tmp 24) _ rfl w.heap.size 5 i0 (.int .u8 0) 1 1 Tryd.underlying41 HI.out.1 HI.out.2.1 HI.out.2.2.1 HI.out.2.2.2 rfl (by decide) _ l.length (l.map bv) rfl (World.ownsRow.alloc HO.out _) ⟨w1.heap.size, 0, none⟩ 2 2 [.int .u8 ((T.size : Int) / 256 % 256), .int .u8 ((T.size : Int) % 256)] rfl rfl (two_new _ _ _ _) ?c1 ?c2 ?c3 ?c4 ?_))
  case c1 => intro u hu; rcases List.mem_cons.1 hu with rfl | hu; rfl; rw [List.mem_singleton.1 hu]; rfl
  case c2 => have := HL.out; have := HN.out; unfold maxLen; omega
  case c3 => have := HL.out; have := HN.out; omega
  case c4 => simp; exact Nat.le_trans hb.size (Nat.le_succ _)
  intro v2 w2 o2 b2 _
  have B2 := (hb.alloc hb.size _).grown b2 (by simp; exact Nat.le_trans hb.size (Nat.le_succ _)) (fun g hg => (World.ownsRow.lt HO.out g hg).1)
  have HO2 := Lib.hid o2
  clear o2 b2
  go_wp2_with (at_builtin; (refine Lib.wpList_append_own_string _ rfl (.tmp 26) (.tmp 27) _ _ rfl w.heap.size 5 i0 Tryd.underlying41 Tryd.underlying9 HI.out.1 HI.out.2.1 HI.out.2.2.1 HI.out.2.2.2 _ (l.length + 2) _ rfl HO2.out T rfl ?c5 ?c6 ?c7 ?_))
  case c5 => have := HL.out; have := HN.out; have := HS.out; unfold maxLen; omega
  case c6 => have := HL.out; have := HN.out; have := HS.out; omega
  case c7 => exact B2.size
  intro v3 w3 o3 b3 _
  go_wp2
  go_ret
  refine ⟨v3, rfl, ?_, B2.grown b3 B2.size (fun g hg => (World.ownsRow.lt HO2.out g hg).1)⟩
  rw [← HT.out, ← HS.out]
  have e1 : (l ++ headT T.size ++ T.data.toList).length = l.length + 2 + T.size := by rw [List.length_append, List.length_append, head_len]; rfl
  unfold Owns
  rw [e1, List.map_append, List.map_append, head_cells _ (by have := HS.out; omega), ← str_cells]
  simpa using o3
theorem ptext_any (A : Option Addr) (n cap : Nat) (l : List UInt8) (s : ByteArray) (hn : n ≤ 900000) (w : World) (h : RowB w A n l) (h0 : A = none → n = 0 ∧ cap = 0) :
    Calls Tryd.prog 37 #[.slice A n cap, .string s] w fun e w' => ∃ v, e = .returned v ∧ Owns w' w.heap.size v (l ++ headT (cutT s).length ++ cutT s) ∧ Below w.heap.size w w' := by
  rcases Nat.lt_trichotomy s.size 65535 with hs | hs | hs
  · have e : cutT s = s.data.toList := by unfold cutT; exact List.take_of_length_le (by simp; omega)
    rw [e]
    exact ptext_short A n cap l s hn hs w h h0
  · have e : cutT s = (s.extract 0 65535).data.toList := by unfold cutT; rw [ByteArray.data_extract]; simp [List.extract]
    have e2 : (cutT s).length = 65535 := by unfold cutT; simp; omega
    rw [e2, e]
    exact ptext_even A n cap l s hn hs w h h0
  · have e : cutT s = (s.extract 0 65535).data.toList := by unfold cutT; rw [ByteArray.data_extract]; simp [List.extract]
    have e2 : (cutT s).length = 65535 := by unfold cutT; simp; omega
    rw [e2, e]
    exact ptext_long A n cap l s hn hs w h h0
end Go.Proofs.YtfjmcklmoebnaaaDoor.Oct
