/- A block is put, read, held: contracts. -/
import Derived.Test.YtidkckapjelbmaaStK
namespace Go.Proofs.Ytidkckapjelbmaa.Sto
open Go.RowKit
open Oct (Has Chg)
open Rws
open Mem (IMap)
open Vc (wpAnyH_read wpAnyH_skip)

/-- What a Put comes to where a block can be: the answer, the error, the store. -/
def putAt (s : SV) (kids : List Int) (data : ByteArray) : Option Nat → Int × Int × SV
  | none => (0, 28, s)
  | some i => if Dv.wrE s.dev i (blockB kids data) = 0 then ((i : Nat), 0, addV { s with dev := Dv.wrD s.dev i (blockB kids data) } i kids) else (0, Dv.wrE s.dev i (blockB kids data), { s with dev := Dv.wrD s.dev i (blockB kids data) })
/-- What a Put comes to. -/
def putV (s : SV) (kids : List Int) (data : ByteArray) : Int × Int × SV := if canB s kids data = true then putAt s kids data (least s) else (0, 22, s)
theorem canB_parts {s : SV} {kids : List Int} {data : ByteArray} (h : canB s kids data = true) : kids.length ≤ 16 ∧ data.size ≤ 3900 ∧ (∀ k ∈ kids, (s.nodes k).isSome = true) ∧ aboveV s.nodes kids ≤ 64 := by
  unfold canB at h
  simp only [Bool.and_eq_true, decide_eq_true_eq] at h
  exact ⟨h.1, h.2.1, List.all_eq_true.1 h.2.2.1, h.2.2.2⟩
theorem least_is {s : SV} : ∀ (n i j : Nat), leastFrom s n i = some j → freeB s j = true ∧ i ≤ j ∧ j < i + n
  | 0, i, j, h => by cases h
  | n + 1, i, j, h => by
    unfold leastFrom at h
    split at h
    · injection h with h
      subst h
      exact ⟨by assumption, Nat.le_refl _, by omega⟩
    · have := least_is n (i + 1) j h
      exact ⟨this.1, by omega, by omega⟩
theorem free_none {s : SV} {i : Int} (h : freeB s i = true) : s.nodes i = none := by
  unfold freeB at h
  cases hn : s.nodes i with
  | none => rfl
  | some n => rw [hn] at h; simp at h
/-- What a Put changes of what was there. -/
def PutS (F : Fr) (s : SV) (k : Nat) : Prop := AddS F s k ∨ Dv.Own F.d F.dk F.dd k
/-- The store stands there once more, perhaps with a node more. -/
def Stands (w : World) (p : Nat) (F : Fr) (f : Int → Option NodeV) (s : SV) (w' : World) : Prop := ∃ F', StoIs w' p F' s ∧ F'.t = F.t ∧ F'.k = F.k ∧ F'.d = F.d ∧ F'.dk = F.dk ∧ F'.dd = F.dd ∧ ∀ z, (s.nodes z).isSome = true → ((f z).isSome = true ∧ F'.g z = F.g z) ∨ w.heap.size ≤ F'.g z
theorem blockB_size (kids : List Int) (data : ByteArray) : (blockB kids data).size = 4 * kids.length + data.size + 11 := by
  unfold blockB
  rw [CrcW.sealB_size, arr_size, blockL_len]
set_option maxRecDepth 100000 in
set_option maxHeartbeats 4000000 in
theorem put_sto (p : Nat) (F : Fr) (s : SV) (hlow : Low s) (A : Option Addr) (n c : Nat) (kids : List Int) (data : ByteArray) (w : World) (h : StoIs w p F s) (hr : NumRow w A n kids)
    (hA : 0 < n → ∀ b off, A = some ⟨b, off, none⟩ → ¬ PutS F s b) (o : Int × Int × SV) (ho : putV s kids data = o) :
    Calls Try.prog 14 #[.pointer (some ⟨p, 0, none⟩), .slice A n c, .string data] w fun e w' => e = .returned (.tuple #[.int .i64 o.1, .int .i64 o.2.1]) ∧ Stands w p F s.nodes o.2.2 w' ∧ Chg (PutS F s) w w' := by
  have HH := Lib.hid h
  have HR := Lib.hid hr
  have HL := Lib.hid hlow
  have HA := Lib.hid hA
  have HO := Lib.hid ho
  have HM := Lib.hid (made_sto p F s w h)
  have HC := Lib.hid (can_sto p F s hlow A n c kids data w h hr)
  have hst0 : Stands w p F s.nodes s w := ⟨F, h, rfl, rfl, rfl, rfl, rfl, fun z hz => .inl ⟨hz, rfl⟩⟩
  have HS0 := Lib.hid hst0
  clear h hr hlow hA ho hst0
  go_enter Try.func14, Try.ntmps14
  go_wp2_with fail
  refine HM.out.mono ?_
  rintro e w' ⟨rfl, rfl⟩
  go_wp2_with fail
  refine HC.out.mono ?_
  rintro e w' ⟨rfl, rfl⟩
  cases hcan : canB s kids data with
  | false =>
    have hge : o = (0, 22, s) := HO.out.symm.trans (by unfold putV; rw [if_neg (by rw [hcan]; decide)])
    subst hge
    clear hcan
    go_wp2
    go_ret2
    exact ⟨rfl, HS0.out, Chg.refl _ _⟩
  | true =>
    obtain ⟨k16, k39, kall, k64⟩ := canB_parts hcan
    obtain ⟨ol, hol⟩ : ∃ ol, least s = ol := ⟨_, rfl⟩
    have HO1 := Lib.hid (show putAt s kids data ol = o by rw [← hol, ← HO.out]; unfold putV; rw [if_pos hcan])
    have HLE := Lib.hid (least_sto p F s w HH.out ol hol)
    have HLI := Lib.hid (show ∀ j, ol = some j → freeB s j = true from fun j hj => (least_is _ _ _ (hol.trans hj)).1)
    have HK := Lib.hid kall
    have HN := Lib.hid (show n ≤ 16 by have := HR.out.1; omega)
    have HD := Lib.hid k39
    clear hcan hol kall k16 k39 k64 HO HC HM
    go_wp2_with fail
    refine HLE.out.mono ?_
    rintro e w1 ⟨hlo, hb1⟩
    have HB1 := Lib.hid hb1
    clear hb1 HLE
    cases ol with
    | none =>
      have hlo : e = .returned (.tuple #[.int .i64 0, .bool false]) := hlo
      subst hlo
      have hge : o = (0, 28, s) := HO1.out.symm
      subst hge
      have HS1 := Lib.hid (show Stands w p F s.nodes s w1 from ⟨F, HH.out.below HB1.out, rfl, rfl, rfl, rfl, rfl, fun z hz => .inl ⟨hz, rfl⟩⟩)
      go_wp2
      go_ret2
      exact ⟨rfl, HS1.out, Chg.of_below HB1.out _⟩
    | some i =>
      have hlo : e = .returned (.tuple #[.int .i64 (i : Nat), .bool true]) := hlo
      subst hlo
      have H1 := Lib.hid (HH.out.below HB1.out)
      have HR1 := Lib.hid (HR.out.below HB1.out)
      have HBO := Lib.hid (bytes_of A n c kids data HN.out HD.out w1.drew ⟨HR1.out.1, HR1.out.2⟩)
      have c3 := Has.at_ H1.out.obj 3
      simp at c3
      clear HLI
      go_wp2_with fail
      refine wp_region_held_drew (S := (fun w' => w'.cell? ⟨p, 3, none⟩ = some (.pointer (some ⟨F.d, 0, none⟩)))) (by kernel_rfl) (c3) (fun hHeld => ?_)
      refine wpAnyH_read (i := 0) (d := some 26) (v := ?v1) (by rfl) (by rfl) (by kernel_rfl) (by kernel_rfl) (by kernel_rfl) (fun _ _ _ h => h) (by rfl) ?hy1 (by assumption) ?rest1
      case hy1 =>
        intro w hSw
        try dsimp only at hSw
        go_simp
        try with_reducible rfl
      try simp only [Act.put, List.setIfInBounds_toArray, List.set_cons_zero, List.set_cons_succ]
      refine wpAnyH_read (i := 1) (d := some 27) (v := ?v2) (by rfl) (by rfl) (by kernel_rfl) (by kernel_rfl) (by kernel_rfl) (fun _ _ _ h => h) (by rfl) ?hy2 (by assumption) ?rest2
      case hy2 =>
        intro w hSw
        try dsimp only at hSw
        go_simp
        try with_reducible rfl
      try simp only [Act.put, List.setIfInBounds_toArray, List.set_cons_zero, List.set_cons_succ]
      refine wpAnyH_read (i := 2) (d := some 28) (v := ?v3) (by rfl) (by rfl) (by kernel_rfl) (by kernel_rfl) (by kernel_rfl) (fun _ _ _ h => h) (by rfl) ?hy3 (by assumption) ?rest3
      case hy3 =>
        intro w hSw
        try dsimp only at hSw
        go_simp
        try with_reducible rfl
      try simp only [Act.put, List.setIfInBounds_toArray, List.set_cons_zero, List.set_cons_succ]
      refine wpAnyH_read (i := 3) (d := some 29) (v := ?v4) (by rfl) (by rfl) (by kernel_rfl) (by kernel_rfl) (by kernel_rfl) (fun _ _ _ h => h) (by rfl) ?hy4 (by assumption) ?rest4
      case hy4 =>
        intro w hSw
        try dsimp only at hSw
        go_simp
        try with_reducible rfl
      try simp only [Act.put, List.setIfInBounds_toArray, List.set_cons_zero, List.set_cons_succ]
      refine wpAnyH_read (i := 4) (d := some 30) (v := ?v5) (by rfl) (by rfl) (by kernel_rfl) (by kernel_rfl) (by kernel_rfl) (fun _ _ _ h => h) (by rfl) ?hy5 (by assumption) ?rest5
      case hy5 =>
        intro w hSw
        try dsimp only at hSw
        go_simp
        try with_reducible rfl
      try simp only [Act.put, List.setIfInBounds_toArray, List.set_cons_zero, List.set_cons_succ]
      refine wpAnyH_read (i := 5) (d := some 31) (v := ?v6) (by rfl) (by rfl) (by kernel_rfl) (by kernel_rfl) (by kernel_rfl) (fun _ _ _ h => h) (by rfl) ?hy6 (by assumption) ?rest6
      case hy6 =>
        intro w hSw
        try dsimp only at hSw
        go_simp
        try with_reducible rfl
      try simp only [Act.put, List.setIfInBounds_toArray, List.set_cons_zero, List.set_cons_succ]
      refine wpAnyH_read (i := 6) (d := some 32) (v := ?v7) (by rfl) (by rfl) (by kernel_rfl) (by kernel_rfl) (by kernel_rfl) (fun _ _ _ h => h) (by rfl) ?hy7 (by assumption) ?rest7
      case hy7 =>
        intro w hSw
        try dsimp only at hSw
        go_simp
        try with_reducible rfl
      try simp only [Act.put, List.setIfInBounds_toArray, List.set_cons_zero, List.set_cons_succ]
      refine wpAnyH_ready (rs := [7]) (by kernel_rfl) (by simp) ?_
      refine AllReadyH.cons rfl (fun K hK => ?_) AllReadyH.nil
      go_simp
      refine HBO.out.mono ?_
      rintro e w2 ⟨rfl, hb2⟩
      have HB2 := Lib.hid (HB1.out.trans ((((Below.refl w1.heap.size w1).drew).trans hb2).mono HB1.out.size))
      have H2 := Lib.hid (HH.out.below HB2.out)
      have b3 := Has.at_ H2.out.obj 3
      simp at b3
      have HW := Lib.hid (Dv.write_all F.d F.dk F.dd s.dev i (blockB kids data) w2 H2.out.dev)
      clear hb2 HBO
      refine hK.out _ _ (b3) (fun hHeld => ?_)
      clear hK K
      try simp only [Act.put, List.setIfInBounds_toArray, List.set_cons_zero, List.set_cons_succ]
      refine wpAnyH_ready (rs := [8]) (by kernel_rfl) (by simp) ?_
      refine AllReadyH.cons rfl (fun K hK => ?_) AllReadyH.nil
      go_simp
      refine HW.out.mono ?_
      rintro e w3 ⟨rfl, hd3, hc3⟩
      have H3 := Lib.hid (H2.out.devs hd3 (Oct.Chg.of hc3))
      have b4 := Has.at_ H3.out.obj 3
      simp at b4
      have HC3 := Lib.hid ((Chg.of_below HB2.out (PutS F s)).trans ((Oct.Chg.of hc3).mono fun k hk => .inr hk))
      clear hd3 hc3 HW
      refine hK.out _ _ (b4) (fun hHeld => ?_)
      clear hK K
      try simp only [Act.put, List.setIfInBounds_toArray, List.set_cons_zero, List.set_cons_succ]
      refine wpAnyH_read (i := 9) (d := some 10) (v := ?v8) (by rfl) (by rfl) (by kernel_rfl) (by kernel_rfl) (by kernel_rfl) (fun _ _ _ h => h) (by rfl) ?hy8 (by assumption) ?rest8
      case hy8 =>
        intro w hSw
        try dsimp only at hSw
        go_simp
        try with_reducible rfl
      try simp only [Act.put, List.setIfInBounds_toArray, List.set_cons_zero, List.set_cons_succ]
      refine wpAnyH_done (by kernel_rfl) ?_ _
      clear hHeld b3 b4 c3 H1 HR1 HB1 H2
      obtain ⟨E, hE⟩ : ∃ E, Dv.wrE s.dev i (blockB kids data) = E := ⟨_, rfl⟩
      have HO2 := Lib.hid (show (if Dv.wrE s.dev i (blockB kids data) = 0 then ((i : Nat), 0, addV { s with dev := Dv.wrD s.dev i (blockB kids data) } i kids) else (0, Dv.wrE s.dev i (blockB kids data), { s with dev := Dv.wrD s.dev i (blockB kids data) }) : Int × Int × SV) = o from HO1.out)
      rw [hE] at HO2 ⊢
      obtain ⟨d', hd'⟩ : ∃ d', Dv.wrD s.dev i (blockB kids data) = d' := ⟨_, rfl⟩
      rw [hd'] at HO2 H3
      clear hE hd' HO1
      by_cases hE0 : E = 0
      · subst hE0
        have hge : o = (((i : Nat) : Int), (0 : Int), addV { s with dev := d' } i kids) := HO2.out.symm
        subst hge
        have HAD := Lib.hid (add_sto p F { s with dev := d' } HL.out i A n c kids (by have := HN.out; omega) HK.out w3 H3.out (row_chg HR.out HC3.out (fun h0 b off e => by
          have hq := HA.out h0 b off e
          exact hq)) (fun h0 b off e hq => HA.out h0 b off e (.inl hq)))
        have HZ := Lib.hid HC3.out.size
        go_wp2_with fail
        refine HAD.out.mono ?_
        rintro e w4 ⟨rfl, ⟨G, hG, h4⟩, hc4⟩
        have HS4 := Lib.hid (show Stands w p F s.nodes (addV { s with dev := d' } i kids) w4 from ⟨F.ins i G, h4, rfl, rfl, rfl, rfl, rfl, fun z hq => by
          have hz : w.heap.size ≤ w3.heap.size := HZ.out
          show ((s.nodes z).isSome = true ∧ (if z = (i : Int) then G else F.g z) = F.g z) ∨ w.heap.size ≤ (if z = (i : Int) then G else F.g z)
          by_cases hzi : z = (i : Int)
          · rw [if_pos hzi]; exact .inr (Nat.le_trans hz hG)
          · rw [if_neg hzi]; exact .inl ⟨by
                have hq : (bumps (insN s.nodes i (newNode { s with dev := d' } kids)) kids z).isSome = true := hq
                rw [bumps_some] at hq
                unfold insN at hq
                rw [if_neg hzi] at hq
                exact hq, rfl⟩⟩)
        have HC4 := Lib.hid (HC3.out.trans (hc4.mono fun k hk => (.inl hk : PutS F s k)))
        clear hG h4 hc4
        go_wp2
        go_ret2
        exact ⟨rfl, HS4.out, HC4.out⟩
      · have hne : (E != 0) = true := by simpa using hE0
        have hge : o = (0, E, { s with dev := d' }) := HO2.out.symm.trans (by simp only [if_neg hE0])
        subst hge
        have HS3 := Lib.hid (show Stands w p F s.nodes { s with dev := d' } w3 from ⟨F, H3.out, rfl, rfl, rfl, rfl, rfl, fun z hz => .inl ⟨hz, rfl⟩⟩)
        clear hE0
        go_wp2
        go_ret2
        exact ⟨rfl, HS3.out, HC3.out⟩
end Go.Proofs.Ytidkckapjelbmaa.Sto
