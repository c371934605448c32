/- A message with one byte changed: the law MsgTold walked. -/
import Derived.Test.YtfjmcklmoebnaaaDoorMgX
import Derived.Test.YtfjmcklmoebnaaaDoorCrcTell
import Derived.Laws.IdiomStrings
import Derived.Handy
namespace Go.Proofs.YtfjmcklmoebnaaaDoor.Mg
open Go.RowKit Go.Proofs.YtfjmcklmoebnaaaDoor.Mem Go.Proofs.YtfjmcklmoebnaaaDoor.Nt
open Go.Proofs.YtfjmcklmoebnaaaDoor.Vc (vecC)
set_option linter.unusedVariables false set_option linter.unusedSimpArgs false

/-- A text as bytes of the call's own: what is known of the new row. -/
theorem bytes_of (w : World) (s : ByteArray) : ∃ (O : Obj) (cap : Nat),
    (convert 9 41 (.string s)).run Tryd.prog w = .ok (.slice (some ⟨w.heap.size, 0, none⟩) s.size cap) (w.alloc O).drew ∧ s.size ≤ cap ∧
      (∀ i (h : i < s.size), (w.alloc O).cell? ⟨w.heap.size, i, none⟩ = some (.int .u8 (s[i].toNat : Int))) ∧
      (∀ i, i < s.size → (w.alloc O).frozen? ⟨w.heap.size, i, none⟩ = false) := by
  refine ⟨_, _, run_bytes_of_string (P := Tryd.prog) w 9 41 5 s Tryd.underlying9 Tryd.underlying41 Tryd.underlying5, grownCap_ge w s.size 0 _, ?_, ?_⟩
  · intro i h
    have := World.cell?_alloc_mark w (bytesRow s (grownCap w s.size 0 5)) 5 ((bytesRow s (grownCap w s.size 0 5)).size, (bytesRow s (grownCap w s.size 0 5)).size + 1) i
    exact this.trans (bytesRow_at s _ i h)
  · intro i h
    have := World.frozen?_alloc_mark w (bytesRow s (grownCap w s.size 0 5)) 5 (bytesRow s (grownCap w s.size 0 5)).size ((bytesRow s (grownCap w s.size 0 5)).size + 1) i
    refine this.trans ?_
    have hz : s.size ≤ (bytesRow s (grownCap w s.size 0 5)).size := by
      unfold bytesRow
      rw [Array.size_append, Array.size_map]
      exact Nat.le_add_right _ _
    rw [decide_eq_false (by omega), Bool.false_and]

/-- One byte of a row of the call's own is changed: the text that it reads as. -/
theorem back_of (w : World) (O : Obj) (s : ByteArray) (cap J x : Nat) (hJ : J < s.size) (hx : x < 256) (hcell : ∀ i (h : i < s.size), (w.alloc O).cell? ⟨w.heap.size, i, none⟩ = some (.int .u8 (s[i].toNat : Int))) :
    (convert 41 9 (.slice (some ⟨w.heap.size, 0, none⟩) s.size cap)).run Tryd.prog
        ((w.alloc O).setCell ⟨w.heap.size, J, none⟩ (.int .u8 (bits .xor .u8 (s[J].toNat : Int) (x : Int)))).drew =
      .ok (.string ⟨(s.data.toList.set J (UInt8.ofNat (s[J].toNat ^^^ x))).toArray⟩) ((w.alloc O).setCell ⟨w.heap.size, J, none⟩ (.int .u8 (bits .xor .u8 (s[J].toNat : Int) (x : Int)))).drew := by
  have hl : s.size = (s.data.toList.set J (UInt8.ofNat (s[J].toNat ^^^ x))).length := by rw [List.length_set, Array.length_toList]; rfl
  have hv : bits .xor .u8 (s[J].toNat : Int) (x : Int) = ((UInt8.ofNat (s[J].toNat ^^^ x)).toNat : Int) := by
    rw [u8_xor_nat _ _ s[J].toNat_lt hx, UInt8.toNat_ofNat', Nat.mod_eq_of_lt (Nat.xor_lt_two_pow (n := 8) s[J].toNat_lt hx)]
  rw [hv]
  generalize UInt8.ofNat (s[J].toNat ^^^ x) = y at *
  rw [hl]
  refine run_convert_bytes_back (P := Tryd.prog) _ 41 9 5 ⟨w.heap.size, 0, none⟩ cap _ Tryd.underlying41 Tryd.underlying5 Tryd.underlying9 ?_
  intro j hj
  have hj' : j < s.size := by rw [hl]; exact hj
  have ha : (⟨w.heap.size, 0, none⟩ : Addr).add j = ⟨w.heap.size, j, none⟩ := by
    unfold Addr.add
    split
    · next h => rw [h]
    · simp
  rw [ha]
  show ((w.alloc O).setCell ⟨w.heap.size, J, none⟩ (.int .u8 (y.toNat : Int))).cell? ⟨w.heap.size, j, none⟩ = _
  by_cases e : J = j
  · subst e
    rw [World.cell?_setCell_same _ _ _ (hcell J hJ), List.getElem_set_self]
  · rw [World.cell?_setCell_other _ _ _ _ (by intro h; apply e; injection h), hcell j hj', List.getElem_set_ne e]
    rfl


set_option maxRecDepth 100000 in
set_option maxHeartbeats 2000000 in
theorem told_walk (W : World) (m : MsgP) (a1 a2 : Int) (hm : FitM m) (w1x : (Lit.int .i64 a1).wf = true) (w2x : (Lit.int .u8 a2).wf = true) (hT : Tabs W) : Calls Tryd.prog 7 #[.agg (msgC m), .int .i64 a1, .int .u8 a2] W fun e w' => e = .returned (.bool true) ∧ Below W.heap.size W w' := by
  have hx2 : 0 ≤ a2 ∧ a2 ≤ 255 := by simpa [Lit.wf, IntKind.min, IntKind.max, IntKind.signed, IntKind.bits] using w2x
  have hb0 := (Below.refl W.heap.size W).alloc (Nat.le_refl _) (.cells (msgC m) 27)
  have HB0 := Lib.hid hb0
  have HA0 := Lib.hid (Has.fresh W 27 (msgC m))
  have HT := Lib.hid hT
  have HP := Lib.hid (fun V => put_any m V)
  clear hb0 hT hm w1x w2x
  by_cases hok : OkM m
  · have HE := Lib.hid (putR_yes hok)
    have hz := CrcW.sealB_size (BA (msgB m))
    have hzf := fits_seal m hok
    have HOK := Lib.hid hok
    obtain ⟨S, hS⟩ : ∃ S, S = CrcW.sealB (BA (msgB m)) := ⟨_, rfl⟩
    have HPS := Lib.hid (show ∀ V, Calls Tryd.prog 17 #[.agg (msgC m)] V fun e w' => e = .returned (.tuple #[.string S, .int .i64 0]) ∧ Below V.heap.size V w' from fun V => (HP.out V).mono fun e w' h => ⟨by rw [h.1, HE.out, hS]; rfl, h.2⟩)
    rw [← hS] at hz hzf
    have HS := Lib.hid hS.symm
    have hz1 : 8 ≤ S.size := by omega
    have hz3 : ((S.size : Int) == 0) = false := beq_eq_false_iff_ne.2 (by omega)
    clear hS hok hz HP
    by_cases hne : a2 = 0
    · subst hne
      clear hx2 hzf
      go_enter Tryd.func7, Tryd.ntmps7
      go_wp2_with ((with_reducible refine Who.wpList_loadC 27 (.tmp 3) rfl W.heap.size 0 (msgC m) ?_); refine And.intro ⟨by rfl, by rfl, ⟨_, Tryd.underlying27, rfl⟩, info_size _⟩ (And.intro (Who.has_range HA0.out) ?_); (try simp only [Act.put, List.setIfInBounds_toArray, List.set_cons_zero, List.set_cons_succ]))
      refine (HPS.out _).mono ?_
      rintro e w1 ⟨rfl, hb⟩
      have HB1 := Lib.hid (HB0.out.trans (hb.mono HB0.out.size))
      clear hb
      go_wp2_with fail
      refine (awake_any _ (HT.out.self HB1.out)).mono ?_
      rintro e wz ⟨rfl, hb⟩
      have HBZ := Lib.hid (HB1.out.trans (hb.mono HB1.out.size))
      clear hb
      go_wp2
      go_ret
      exact ⟨rfl, HBZ.out⟩
    · have hn2 : (a2 == 0) = false := by simp [hne]
      obtain ⟨x, rfl⟩ := Int.eq_ofNat_of_zero_le hx2.1
      have hxn : ¬ x = 0 := by omega
      clear hne
      have hu0 : 0 ≤ IntKind.u64.wrap a1 := wrap_u64_nonneg a1
      obtain ⟨U, hU⟩ := Int.eq_ofNat_of_zero_le hu0
      go_enter Tryd.func7, Tryd.ntmps7
      go_wp2_with ((with_reducible refine Who.wpList_loadC 27 (.tmp 3) rfl W.heap.size 0 (msgC m) ?_); refine And.intro ⟨by rfl, by rfl, ⟨_, Tryd.underlying27, rfl⟩, info_size _⟩ (And.intro (Who.has_range HA0.out) ?_); (try simp only [Act.put, List.setIfInBounds_toArray, List.set_cons_zero, List.set_cons_succ]))
      refine (HPS.out _).mono ?_
      rintro e w1 ⟨rfl, hb1⟩
      have HB1 := Lib.hid (HB0.out.trans (hb1.mono HB0.out.size))
      clear hb1
      obtain ⟨O, cap, kc, hcap, hcell, hfz⟩ := bytes_of w1 S
      have hJ : U % S.size < S.size := Nat.mod_lt _ (by omega)
      have hc := hcell _ hJ
      have hf := hfz _ hJ
      have kc2 := back_of w1 O S cap _ x hJ (by omega) hcell
      have hop := CrcW.told_open (BA (msgB m)) (U % S.size) (UInt8.ofNat (S[U % S.size].toNat ^^^ x))
      rw [HS.out] at hop
      have hop2 := hop hJ (by
        intro e
        have h1 := congrArg UInt8.toNat e
        rw [UInt8.toNat_ofNat', Nat.mod_eq_of_lt (Nat.xor_lt_two_pow (n := 8) S[U % S.size].toNat_lt (by omega))] at h1
        have h2 : S[U % S.size].toNat ^^^ x = S[U % S.size].toNat ^^^ 0 := by rw [h1, Nat.xor_zero]
        exact hxn (CrcM.xor_cancel_left h2))
      have hl : (⟨(S.data.toList.set (U % S.size) (UInt8.ofNat (S[U % S.size].toNat ^^^ x))).toArray⟩ : ByteArray).size = S.size := by
        rw [ByteArray.size_mk', List.size_toArray, List.length_set, Array.length_toList]
        rfl
      generalize (⟨(S.data.toList.set (U % S.size) (UInt8.ofNat (S[U % S.size].toNat ^^^ x))).toArray⟩ : ByteArray) = T at *
      have HG := Lib.hid (show ∀ V, Calls Tryd.prog 19 #[.string T] V fun e w' => e = .returned (.tuple #[.agg (msgC msg0), .int .i64 201]) ∧ Below V.heap.size V w' from fun V => (get_any T (by omega) V).mono fun e w' h => ⟨by rw [h.1, get_shut hop2], h.2⟩)
      have h1 := ((HB1.out.alloc HB1.out.size O).setCell (p := ⟨w1.heap.size, U % S.size, none⟩) HB1.out.size (.int .u8 (bits .xor .u8 (S[U % S.size].toNat : Int) (x : Int)))).drew
      have HB2 := Lib.hid h1
      clear hcell hfz hop hop2 hl h1
      go_wp2_with fail
      refine (HG.out _).mono ?_
      rintro e w2 ⟨rfl, hb2⟩
      have HB3 := Lib.hid (HB2.out.trans (hb2.mono HB2.out.size))
      clear hb2
      go_wp2_with fail
      refine (awake_any _ (HT.out.self HB3.out)).mono ?_
      rintro e wz ⟨rfl, hb⟩
      have HBZ := Lib.hid (HB3.out.trans (hb.mono HB3.out.size))
      clear hb
      go_wp2
      go_ret
      exact ⟨rfl, HBZ.out⟩
  · have HPS := Lib.hid (show ∀ V, Calls Tryd.prog 17 #[.agg (msgC m)] V fun e w' => e = .returned (.tuple #[.string ⟨#[]⟩, .int .i64 201]) ∧ Below V.heap.size V w' from fun V => (HP.out V).mono fun e w' h => ⟨by rw [h.1, putR_no hok], h.2⟩)
    clear hx2 hok HP
    go_enter Tryd.func7, Tryd.ntmps7
    go_wp2_with ((with_reducible refine Who.wpList_loadC 27 (.tmp 3) rfl W.heap.size 0 (msgC m) ?_); refine And.intro ⟨by rfl, by rfl, ⟨_, Tryd.underlying27, rfl⟩, info_size _⟩ (And.intro (Who.has_range HA0.out) ?_); (try simp only [Act.put, List.setIfInBounds_toArray, List.set_cons_zero, List.set_cons_succ]))
    refine (HPS.out _).mono ?_
    rintro e w1 ⟨rfl, hb⟩
    have HB1 := Lib.hid (HB0.out.trans (hb.mono HB0.out.size))
    clear hb
    go_wp2_with fail
    refine (awake_any _ (HT.out.self HB1.out)).mono ?_
    rintro e wz ⟨rfl, hb⟩
    have HBZ := Lib.hid (HB1.out.trans (hb.mono HB1.out.size))
    clear hb
    go_wp2
    go_ret
    exact ⟨rfl, HBZ.out⟩
end Go.Proofs.YtfjmcklmoebnaaaDoor.Mg
