/- The walk of the law CrcTold. -/
import Derived.Test.YthbpnbllcbemfabCrcTell
import Derived.Laws.IdiomStrings
import Derived.Handy
namespace Go.Proofs.Ythbpnbllcbemfab.CrcW
open Go.RowKit
open Go.Proofs.Ythbpnbllcbemfab.CrcM

/-- A text as bytes of the call's own: what is known of the new row. -/
theorem bytes_of (w : World) (s : ByteArray) : ∃ (O : Obj) (cap : Nat),
    (convert 9 47 (.string s)).run Try.prog w = .ok (.slice (some ⟨w.heap.size, 0, none⟩) s.size cap) (w.alloc O).drew ∧ s.size ≤ cap ∧
      (∀ i (h : i < s.size), (w.alloc O).cell? ⟨w.heap.size, i, none⟩ = some (.int .u8 (s[i].toNat : Int))) ∧
      (∀ i, i < s.size → (w.alloc O).frozen? ⟨w.heap.size, i, none⟩ = false) := by
  refine ⟨_, _, run_bytes_of_string (P := Try.prog) w 9 47 5 s Try.underlying9 Try.underlying47 Try.underlying5, grownCap_ge w s.size 0 _, ?_, ?_⟩
  · intro i h
    have := World.cell?_alloc_mark w (bytesRow s (grownCap w s.size 0 5)) 5 ((bytesRow s (grownCap w s.size 0 5)).size, (bytesRow s (grownCap w s.size 0 5)).size + 1) i
    exact this.trans (bytesRow_at s _ i h)
  · intro i h
    have := World.frozen?_alloc_mark w (bytesRow s (grownCap w s.size 0 5)) 5 (bytesRow s (grownCap w s.size 0 5)).size ((bytesRow s (grownCap w s.size 0 5)).size + 1) i
    refine this.trans ?_
    have hz : s.size ≤ (bytesRow s (grownCap w s.size 0 5)).size := by
      unfold bytesRow
      rw [Array.size_append, Array.size_map]
      exact Nat.le_add_right _ _
    rw [decide_eq_false (by omega), Bool.false_and]

/-- One byte of a row of the call's own is changed: the text that it reads as. -/
theorem back_of (w : World) (O : Obj) (s : ByteArray) (cap J x : Nat) (hJ : J < s.size) (hx : x < 256) (hcell : ∀ i (h : i < s.size), (w.alloc O).cell? ⟨w.heap.size, i, none⟩ = some (.int .u8 (s[i].toNat : Int))) :
    (convert 47 9 (.slice (some ⟨w.heap.size, 0, none⟩) s.size cap)).run Try.prog
        ((w.alloc O).setCell ⟨w.heap.size, J, none⟩ (.int .u8 (bits .xor .u8 (s[J].toNat : Int) (x : Int)))).drew =
      .ok (.string ⟨(s.data.toList.set J (UInt8.ofNat (s[J].toNat ^^^ x))).toArray⟩) ((w.alloc O).setCell ⟨w.heap.size, J, none⟩ (.int .u8 (bits .xor .u8 (s[J].toNat : Int) (x : Int)))).drew := by
  have hl : s.size = (s.data.toList.set J (UInt8.ofNat (s[J].toNat ^^^ x))).length := by rw [List.length_set, Array.length_toList]; rfl
  have hv : bits .xor .u8 (s[J].toNat : Int) (x : Int) = ((UInt8.ofNat (s[J].toNat ^^^ x)).toNat : Int) := by
    rw [u8_xor_nat _ _ s[J].toNat_lt hx, UInt8.toNat_ofNat', Nat.mod_eq_of_lt (Nat.xor_lt_two_pow (n := 8) s[J].toNat_lt hx)]
  rw [hv]
  generalize UInt8.ofNat (s[J].toNat ^^^ x) = y at *
  rw [hl]
  refine run_convert_bytes_back (P := Try.prog) _ 47 9 5 ⟨w.heap.size, 0, none⟩ cap _ Try.underlying47 Try.underlying5 Try.underlying9 ?_
  intro j hj
  have hj' : j < s.size := by rw [hl]; exact hj
  have ha : (⟨w.heap.size, 0, none⟩ : Addr).add j = ⟨w.heap.size, j, none⟩ := by
    unfold Addr.add
    split
    · next h => rw [h]
    · simp
  rw [ha]
  show ((w.alloc O).setCell ⟨w.heap.size, J, none⟩ (.int .u8 (y.toNat : Int))).cell? ⟨w.heap.size, j, none⟩ = _
  by_cases e : J = j
  · subst e
    rw [World.cell?_setCell_same _ _ _ (hcell J hJ), List.getElem_set_self]
  · rw [World.cell?_setCell_other _ _ _ _ (by intro h; apply e; injection h), hcell j hj', List.getElem_set_ne e]
    rfl

theorem below_two {B : Nat} {a b c : World} (h : Below B a b) (hB : B ≤ b.heap.size) (k : Below b.heap.size b c) : Below B a c := h.trans (k.mono hB)

set_option maxHeartbeats 400000 in
theorem told_long (b : ByteArray) (a1 a2 : Int) (hb : ¬ 4096 < b.size) (w2 : (Lit.int .u8 a2).wf = true) (hne : a2 ≠ 0) (w : World) :
    Calls Try.prog 10 #[.string b, .int .i64 a1, .int .u8 a2] w fun e w' => e = .returned (.bool true) ∧ Below w.heap.size w w' := by
  have hn2 : (a2 == 0) = false := by simp [hne]
  have hx2 : 0 ≤ a2 ∧ a2 ≤ 255 := by simpa [Lit.wf, IntKind.min, IntKind.max, IntKind.signed, IntKind.bits] using w2
  obtain ⟨x, rfl⟩ := Int.eq_ofNat_of_zero_le hx2.1
  have hxn : ¬ x = 0 := by omega
  clear hne w2
  have hu0 : 0 ≤ IntKind.u64.wrap a1 := wrap_u64_nonneg a1
  obtain ⟨U, hU⟩ := Int.eq_ofNat_of_zero_le hu0
  go_enter Try.func10, Try.ntmps10
  go_wp2_with fail
  refine (seal_any b (by omega) _).mono ?_
  rintro e w1 ⟨rfl, hb1⟩
  have hz := sealB_size b
  generalize hS : sealB b = S at *
  have HS := Lib.hid hS
  clear hS
  have hz1 : 8 ≤ S.size := by omega
  have hz2 : S.size ≤ 4104 := by omega
  have hz3 : ((S.size : Int) == 0) = false := beq_eq_false_iff_ne.2 (by omega)
  have HZ := Lib.hid hz
  clear hz
  obtain ⟨O, cap, kc, hcap, hcell, hfz⟩ := bytes_of w1 S
  have hJ : U % S.size < S.size := Nat.mod_lt _ (by omega)
  have hc := hcell _ hJ
  have hf := hfz _ hJ
  have kc2 := back_of w1 O S cap _ x hJ (by omega) hcell
  have hop := told_open b (U % S.size) (UInt8.ofNat (S[U % S.size].toNat ^^^ x))
  rw [HS.out] at hop
  have hop2 := hop hJ (by
    intro e
    have h1 := congrArg UInt8.toNat e
    rw [UInt8.toNat_ofNat', Nat.mod_eq_of_lt (Nat.xor_lt_two_pow (n := 8) S[U % S.size].toNat_lt (by omega))] at h1
    have h2 : S[U % S.size].toNat ^^^ x = S[U % S.size].toNat ^^^ 0 := by rw [h1, Nat.xor_zero]
    exact hxn (xor_cancel_left h2))
  have hl : (⟨(S.data.toList.set (U % S.size) (UInt8.ofNat (S[U % S.size].toNat ^^^ x))).toArray⟩ : ByteArray).size = S.size := by
    rw [ByteArray.size_mk', List.size_toArray, List.length_set, Array.length_toList]
    rfl
  generalize (⟨(S.data.toList.set (U % S.size) (UInt8.ofNat (S[U % S.size].toNat ^^^ x))).toArray⟩ : ByteArray) = T at *
  have HO := Lib.hid hop2
  have hl1 : 8 ≤ T.size := by omega
  have hl2 : T.size ≤ 4104 := by omega
  clear hcell hfz hop hop2 hl
  go_wp2_with fail
  refine (open_long T hl1 hl2 _).mono ?_
  rintro e w2 ⟨rfl, hb2⟩
  rw [HO.out]
  go_wp2_with fail
  refine (awake_any _).mono ?_
  rintro e w3 ⟨rfl, hb3⟩
  go_wp2
  go_ret
  have h1 := ((hb1.alloc hb1.size O).setCell (p := ⟨w1.heap.size, U % S.size, none⟩) hb1.size (.int .u8 (bits .xor .u8 (S[U % S.size].toNat : Int) (x : Int)))).drew
  have h2 := below_two h1 h1.size hb2
  exact ⟨rfl, below_two h2 h2.size hb3⟩
theorem told_walk (b : ByteArray) (a1 a2 : Int) (_w0 : b.size ≤ maxLen) (_w1 : (Lit.int .i64 a1).wf = true) (w2 : (Lit.int .u8 a2).wf = true) (w : World) :
    Calls Try.prog 10 #[.string b, .int .i64 a1, .int .u8 a2] w fun e w' => e = .returned (.bool true) ∧ Below w.heap.size w w' := by
  by_cases hb : 4096 < b.size
  · clear w2
    go_enter Try.func10, Try.ntmps10
    go_wp2_with fail
    refine (awake_any _).mono ?_
    rintro e w1 ⟨rfl, hb1⟩
    go_wp2
    go_ret
    exact ⟨rfl, hb1⟩
  · by_cases hne : a2 = 0
    · subst hne
      clear w2
      go_enter Try.func10, Try.ntmps10
      go_wp2_with fail
      refine (awake_any _).mono ?_
      rintro e w1 ⟨rfl, hb1⟩
      go_wp2
      go_ret
      exact ⟨rfl, hb1⟩
    · exact told_long b a1 a2 hb w2 hne w
end Go.Proofs.Ythbpnbllcbemfab.CrcW
