import Derived.Test.YthejlenafjnmkaaGreatT5
import Derived.Deep.QuietTactic
import Derived.BigQuiet

/- A block is put, read, held: contracts. -/
namespace Go.Proofs.YthejlenafjnmkaaGreat.Sto
open Go.RowKit
open Oct (Has Chg)
open Rws
open Mem (IMap)
open Vc (wpAnyH_read wpAnyH_skip)

/-- What a Put comes to where a block can be: the answer, the error, the store. -/
def putAt (s : SV) (kids : List Int) (data : ByteArray) : Option Nat → Int × Int × SV
  | none => (0, 28, s)
  | some i => if Dv.wrE s.dev i (blockB kids data) = 0 then ((i : Nat), 0, addV { s with dev := Dv.wrD s.dev i (blockB kids data) } i kids) else (0, Dv.wrE s.dev i (blockB kids data), { s with dev := Dv.wrD s.dev i (blockB kids data) })
/-- What a Put comes to. -/
def putV (s : SV) (kids : List Int) (data : ByteArray) : Int × Int × SV := if canB s kids data = true then putAt s kids data (least s) else (0, 22, s)
theorem canB_parts {s : SV} {kids : List Int} {data : ByteArray} (h : canB s kids data = true) : kids.length ≤ 16 ∧ data.size ≤ 3900 ∧ (∀ k ∈ kids, (s.nodes k).isSome = true) ∧ aboveV s.nodes kids ≤ 64 := by
  unfold canB at h
  simp only [Bool.and_eq_true, decide_eq_true_eq] at h
  exact ⟨h.1, h.2.1, List.all_eq_true.1 h.2.2.1, h.2.2.2⟩
theorem least_is {s : SV} : ∀ (n i j : Nat), leastFrom s n i = some j → freeB s j = true ∧ i ≤ j ∧ j < i + n
  | 0, i, j, h => by cases h
  | n + 1, i, j, h => by
    unfold leastFrom at h
    split at h
    · injection h with h
      subst h
      exact ⟨by assumption, Nat.le_refl _, by omega⟩
    · have := least_is n (i + 1) j h
      exact ⟨this.1, by omega, by omega⟩
theorem free_none {s : SV} {i : Int} (h : freeB s i = true) : s.nodes i = none := by
  unfold freeB at h
  cases hn : s.nodes i with
  | none => rfl
  | some n => rw [hn] at h; simp at h
/-- What a Put changes of what was there. -/
def PutS (F : Fr) (s : SV) (k : Nat) : Prop := AddS F s k ∨ Dv.Own F.d F.dk F.dd k
/-- The store stands there once more, perhaps with a node more. -/
def Stands (w : World) (p : Nat) (F : Fr) (f : Int → Option NodeV) (s : SV) (w' : World) : Prop := ∃ F', StoIs w' p F' s ∧ F'.t = F.t ∧ F'.k = F.k ∧ F'.d = F.d ∧ F'.dk = F.dk ∧ F'.dd = F.dd ∧ ∀ z, (s.nodes z).isSome = true → ((f z).isSome = true ∧ F'.g z = F.g z) ∨ w.heap.size ≤ F'.g z
theorem blockB_size (kids : List Int) (data : ByteArray) : (blockB kids data).size = 4 * kids.length + data.size + 11 := by
  unfold blockB
  rw [CrcW.sealB_size, arr_size, blockL_len]
set_option maxRecDepth 100000 in
set_option maxHeartbeats 4000000 in
theorem put_sto (p : Nat) (F : Fr) (s : SV) (hlow : Low s) (A : Option Addr) (n c : Nat) (kids : List Int) (data : ByteArray) (w : World) (h : StoIs w p F s) (hr : NumRow w A n kids)
    (hA : 0 < n → ∀ b off, A = some ⟨b, off, none⟩ → ¬ PutS F s b) (o : Int × Int × SV) (ho : putV s kids data = o) :
    Calls Tryz.prog 28 #[.pointer (some ⟨p, 0, none⟩), .slice A n c, .string data] w fun e w' => e = .returned (.tuple #[.int .i64 o.1, .int .i64 o.2.1]) ∧ Stands w p F s.nodes o.2.2 w' ∧ Chg (PutS F s) w w' := by
  have HH := Lib.hid h
  have HR := Lib.hid hr
  have HL := Lib.hid hlow
  have HA := Lib.hid hA
  have HO := Lib.hid ho
  have HM := Lib.hid (made_sto p F s w h)
  have HC := Lib.hid (can_sto p F s hlow A n c kids data w h hr)
  have hst0 : Stands w p F s.nodes s w := ⟨F, h, rfl, rfl, rfl, rfl, rfl, fun z hz => .inl ⟨hz, rfl⟩⟩
  have HS0 := Lib.hid hst0
  clear h hr hlow hA ho hst0
  go_enter Tryz.func28, Tryz.ntmps28
  go_wp2_with fail
  refine HM.out.mono ?_
  rintro e w' ⟨rfl, rfl⟩
  go_wp2_with fail
  refine HC.out.mono ?_
  rintro e w' ⟨rfl, rfl⟩
  cases hcan : canB s kids data with
  | false =>
    have hge : o = (0, 22, s) := HO.out.symm.trans (by unfold putV; rw [if_neg (by rw [hcan]; decide)])
    subst hge
    clear hcan
    go_wp2
    go_ret2
    exact ⟨rfl, HS0.out, Chg.refl _ _⟩
  | true =>
    obtain ⟨k16, k39, kall, k64⟩ := canB_parts hcan
    obtain ⟨ol, hol⟩ : ∃ ol, least s = ol := ⟨_, rfl⟩
    have HO1 := Lib.hid (show putAt s kids data ol = o by rw [← hol, ← HO.out]; unfold putV; rw [if_pos hcan])
    have HLE := Lib.hid (least_sto p F s w HH.out ol hol)
    have HLI := Lib.hid (show ∀ j, ol = some j → freeB s j = true from fun j hj => (least_is _ _ _ (hol.trans hj)).1)
    have HK := Lib.hid kall
    have HN := Lib.hid (show n ≤ 16 by have := HR.out.1; omega)
    have HD := Lib.hid k39
    clear hcan hol kall k16 k39 k64 HO HC HM
    go_wp2_with fail
    refine HLE.out.mono ?_
    rintro e w1 ⟨hlo, hb1⟩
    have HB1 := Lib.hid hb1
    clear hb1 HLE
    cases ol with
    | none =>
      have hlo : e = .returned (.tuple #[.int .i64 0, .bool false]) := hlo
      subst hlo
      have hge : o = (0, 28, s) := HO1.out.symm
      subst hge
      have HS1 := Lib.hid (show Stands w p F s.nodes s w1 from ⟨F, HH.out.below HB1.out, rfl, rfl, rfl, rfl, rfl, fun z hz => .inl ⟨hz, rfl⟩⟩)
      go_wp2
      go_ret2
      exact ⟨rfl, HS1.out, Chg.of_below HB1.out _⟩
    | some i =>
      have hlo : e = .returned (.tuple #[.int .i64 (i : Nat), .bool true]) := hlo
      subst hlo
      have H1 := Lib.hid (HH.out.below HB1.out)
      have HR1 := Lib.hid (HR.out.below HB1.out)
      have HBO := Lib.hid (bytes_of A n c kids data HN.out HD.out w1.drew ⟨HR1.out.1, HR1.out.2⟩)
      have c3 := Has.at_ H1.out.obj 3
      simp at c3
      clear HLI
      go_wp2_with fail
      refine wp_region_held_drew (S := (fun w' => w'.cell? ⟨p, 3, none⟩ = some (.pointer (some ⟨F.d, 0, none⟩)))) (by kernel_rfl) (c3) (fun hHeld => ?_)
      refine wpAnyH_read (i := 0) (d := some 26) (v := ?v1) (by rfl) (by rfl) (by kernel_rfl) (by kernel_rfl) (by kernel_rfl) (fun _ _ _ h => h) (by rfl) ?hy1 (by assumption) ?rest1
      case hy1 =>
        intro w hSw
        try dsimp only at hSw
        go_simp
        try with_reducible rfl
      try simp only [Act.put, List.setIfInBounds_toArray, List.set_cons_zero, List.set_cons_succ]
      refine wpAnyH_read (i := 1) (d := some 27) (v := ?v2) (by rfl) (by rfl) (by kernel_rfl) (by kernel_rfl) (by kernel_rfl) (fun _ _ _ h => h) (by rfl) ?hy2 (by assumption) ?rest2
      case hy2 =>
        intro w hSw
        try dsimp only at hSw
        go_simp
        try with_reducible rfl
      try simp only [Act.put, List.setIfInBounds_toArray, List.set_cons_zero, List.set_cons_succ]
      refine wpAnyH_read (i := 2) (d := some 28) (v := ?v3) (by rfl) (by rfl) (by kernel_rfl) (by kernel_rfl) (by kernel_rfl) (fun _ _ _ h => h) (by rfl) ?hy3 (by assumption) ?rest3
      case hy3 =>
        intro w hSw
        try dsimp only at hSw
        go_simp
        try with_reducible rfl
      try simp only [Act.put, List.setIfInBounds_toArray, List.set_cons_zero, List.set_cons_succ]
      refine wpAnyH_read (i := 3) (d := some 29) (v := ?v4) (by rfl) (by rfl) (by kernel_rfl) (by kernel_rfl) (by kernel_rfl) (fun _ _ _ h => h) (by rfl) ?hy4 (by assumption) ?rest4
      case hy4 =>
        intro w hSw
        try dsimp only at hSw
        go_simp
        try with_reducible rfl
      try simp only [Act.put, List.setIfInBounds_toArray, List.set_cons_zero, List.set_cons_succ]
      refine wpAnyH_read (i := 4) (d := some 30) (v := ?v5) (by rfl) (by rfl) (by kernel_rfl) (by kernel_rfl) (by kernel_rfl) (fun _ _ _ h => h) (by rfl) ?hy5 (by assumption) ?rest5
      case hy5 =>
        intro w hSw
        try dsimp only at hSw
        go_simp
        try with_reducible rfl
      try simp only [Act.put, List.setIfInBounds_toArray, List.set_cons_zero, List.set_cons_succ]
      refine wpAnyH_read (i := 5) (d := some 31) (v := ?v6) (by rfl) (by rfl) (by kernel_rfl) (by kernel_rfl) (by kernel_rfl) (fun _ _ _ h => h) (by rfl) ?hy6 (by assumption) ?rest6
      case hy6 =>
        intro w hSw
        try dsimp only at hSw
        go_simp
        try with_reducible rfl
      try simp only [Act.put, List.setIfInBounds_toArray, List.set_cons_zero, List.set_cons_succ]
      refine wpAnyH_read (i := 6) (d := some 32) (v := ?v7) (by rfl) (by rfl) (by kernel_rfl) (by kernel_rfl) (by kernel_rfl) (fun _ _ _ h => h) (by rfl) ?hy7 (by assumption) ?rest7
      case hy7 =>
        intro w hSw
        try dsimp only at hSw
        go_simp
        try with_reducible rfl
      try simp only [Act.put, List.setIfInBounds_toArray, List.set_cons_zero, List.set_cons_succ]
      refine wpAnyH_ready (rs := [7]) (by kernel_rfl) (by simp) ?_
      refine AllReadyH.cons rfl (fun K hK => ?_) AllReadyH.nil
      go_simp
      refine HBO.out.mono ?_
      rintro e w2 ⟨rfl, hb2⟩
      have HB2 := Lib.hid (HB1.out.trans ((((Below.refl w1.heap.size w1).drew).trans hb2).mono HB1.out.size))
      have H2 := Lib.hid (HH.out.below HB2.out)
      have b3 := Has.at_ H2.out.obj 3
      simp at b3
      have HW := Lib.hid (Dv.write_all F.d F.dk F.dd s.dev i (blockB kids data) w2 H2.out.dev)
      clear hb2 HBO
      refine hK.out _ _ (b3) (fun hHeld => ?_)
      clear hK K
      try simp only [Act.put, List.setIfInBounds_toArray, List.set_cons_zero, List.set_cons_succ]
      refine wpAnyH_ready (rs := [8]) (by kernel_rfl) (by simp) ?_
      refine AllReadyH.cons rfl (fun K hK => ?_) AllReadyH.nil
      go_simp
      refine HW.out.mono ?_
      rintro e w3 ⟨rfl, hd3, hc3⟩
      have H3 := Lib.hid (H2.out.devs hd3 (Oct.Chg.of hc3))
      have b4 := Has.at_ H3.out.obj 3
      simp at b4
      have HC3 := Lib.hid ((Chg.of_below HB2.out (PutS F s)).trans ((Oct.Chg.of hc3).mono fun k hk => .inr hk))
      clear hd3 hc3 HW
      refine hK.out _ _ (b4) (fun hHeld => ?_)
      clear hK K
      try simp only [Act.put, List.setIfInBounds_toArray, List.set_cons_zero, List.set_cons_succ]
      refine wpAnyH_read (i := 9) (d := some 10) (v := ?v8) (by rfl) (by rfl) (by kernel_rfl) (by kernel_rfl) (by kernel_rfl) (fun _ _ _ h => h) (by rfl) ?hy8 (by assumption) ?rest8
      case hy8 =>
        intro w hSw
        try dsimp only at hSw
        go_simp
        try with_reducible rfl
      try simp only [Act.put, List.setIfInBounds_toArray, List.set_cons_zero, List.set_cons_succ]
      refine wpAnyH_done (by kernel_rfl) ?_ _
      clear hHeld b3 b4 c3 H1 HR1 HB1 H2
      obtain ⟨E, hE⟩ : ∃ E, Dv.wrE s.dev i (blockB kids data) = E := ⟨_, rfl⟩
      have HO2 := Lib.hid (show (if Dv.wrE s.dev i (blockB kids data) = 0 then ((i : Nat), 0, addV { s with dev := Dv.wrD s.dev i (blockB kids data) } i kids) else (0, Dv.wrE s.dev i (blockB kids data), { s with dev := Dv.wrD s.dev i (blockB kids data) }) : Int × Int × SV) = o from HO1.out)
      rw [hE] at HO2 ⊢
      obtain ⟨d', hd'⟩ : ∃ d', Dv.wrD s.dev i (blockB kids data) = d' := ⟨_, rfl⟩
      rw [hd'] at HO2 H3
      clear hE hd' HO1
      by_cases hE0 : E = 0
      · subst hE0
        have hge : o = (((i : Nat) : Int), (0 : Int), addV { s with dev := d' } i kids) := HO2.out.symm
        subst hge
        have HAD := Lib.hid (add_sto p F { s with dev := d' } HL.out i A n c kids (by have := HN.out; omega) HK.out w3 H3.out (row_chg HR.out HC3.out (fun h0 b off e => by
          have hq := HA.out h0 b off e
          exact hq)) (fun h0 b off e hq => HA.out h0 b off e (.inl hq)))
        have HZ := Lib.hid HC3.out.size
        go_wp2_with fail
        refine HAD.out.mono ?_
        rintro e w4 ⟨rfl, ⟨G, hG, h4⟩, hc4⟩
        have HS4 := Lib.hid (show Stands w p F s.nodes (addV { s with dev := d' } i kids) w4 from ⟨F.ins i G, h4, rfl, rfl, rfl, rfl, rfl, fun z hq => by
          have hz : w.heap.size ≤ w3.heap.size := HZ.out
          show ((s.nodes z).isSome = true ∧ (if z = (i : Int) then G else F.g z) = F.g z) ∨ w.heap.size ≤ (if z = (i : Int) then G else F.g z)
          by_cases hzi : z = (i : Int)
          · rw [if_pos hzi]; exact .inr (Nat.le_trans hz hG)
          · rw [if_neg hzi]; exact .inl ⟨by
                have hq : (bumps (insN s.nodes i (newNode { s with dev := d' } kids)) kids z).isSome = true := hq
                rw [bumps_some] at hq
                unfold insN at hq
                rw [if_neg hzi] at hq
                exact hq, rfl⟩⟩)
        have HC4 := Lib.hid (HC3.out.trans (hc4.mono fun k hk => (.inl hk : PutS F s k)))
        clear hG h4 hc4
        go_wp2
        go_ret2
        exact ⟨rfl, HS4.out, HC4.out⟩
      · have hne : (E != 0) = true := by simpa using hE0
        have hge : o = (0, E, { s with dev := d' }) := HO2.out.symm.trans (by simp only [if_neg hE0])
        subst hge
        have HS3 := Lib.hid (show Stands w p F s.nodes { s with dev := d' } w3 from ⟨F, H3.out, rfl, rfl, rfl, rfl, rfl, fun z hz => .inl ⟨hz, rfl⟩⟩)
        clear hE0
        go_wp2
        go_ret2
        exact ⟨rfl, HS3.out, HC3.out⟩
end Go.Proofs.YthejlenafjnmkaaGreat.Sto
/- A block is read and held: contracts. -/
namespace Go.Proofs.YthejlenafjnmkaaGreat.Sto
open Go.RowKit
open Oct (Has Chg)
open Rws
open Mem (IMap)

def QOut (o : Option (List Int × ByteArray)) (E : Int) (B : Nat) (e : Ending) (w' : World) : Prop :=
  match o with
  | some (ks, t) => ∃ v, e = .returned (.tuple #[.agg #[v, .string t], .int .i64 E]) ∧ OwnI w' B v ks
  | none => e = .returned (.tuple #[.agg #[.slice none 0 0, .string ⟨#[]⟩], .int .i64 E])
def readB : Option (List Int × ByteArray) → Option (List Int × ByteArray) × Int
  | some b => (some b, 0)
  | none => (none, 5)
/-- What is read: a block or none, and the error. -/
def readV (s : SV) (id : Int) : Option (List Int × ByteArray) × Int := if Dv.rdE s.dev id = 0 then readB (parseB s.dev.size (Dv.rdS s.dev id)) else (none, Dv.rdE s.dev id)
theorem below_drewN {B : Nat} {a w : World} (h : Below B a w) (n : Nat) : Below B a (w.drewN n) := ⟨h.os, h.tape, h.output, h.size, h.block⟩
theorem has_blw {w w' : World} {g : Nat} {t : TypeId} {cs : Array Value} (h : Has w g t cs) (hb : Below w.heap.size w w') : Has w' g t cs := h.over (Chg.of_below hb (fun _ => False)) (fun h => h)
theorem below_cells {B : Nat} {w W : World} (h : Below B w W) {g : Nat} (hg : B ≤ g) (a b : Value) : Below B w ((W.setCell ⟨g, 0, none⟩ a).setCell ⟨g, 1, none⟩ b) := (h.setCell (p := ⟨g, 0, none⟩) hg a).setCell (p := ⟨g, 1, none⟩) hg b
set_option maxRecDepth 100000 in
set_option maxHeartbeats 1000000 in
theorem read_sto (p : Nat) (F : Fr) (s : SV) (id : Int) (w : World) (h : StoIs w p F s) (hsm : (Dv.rdS s.dev id).size ≤ 4104) (o : Option (List Int × ByteArray)) (E : Int) (ho : readV s id = (o, E)) :
    Calls Tryz.prog 75 #[.pointer (some ⟨p, 0, none⟩), .int .i64 id] w fun e w' => QOut o E w.heap.size e w' ∧ Below w.heap.size w w' := by
  have hB0 := (Below.refl w.heap.size w).alloc (Nat.le_refl _) (.cells #[.slice none 0 0, .string ⟨#[]⟩] 51)
  have hr := Oct.Has.fresh w 51 #[.slice none 0 0, .string ⟨#[]⟩]
  have h0 := h.below hB0
  have c3 := Has.at_ h0.obj 3
  simp at c3
  have HO := Lib.hid ho
  have HSM := Lib.hid hsm
  have HB0 := Lib.hid hB0
  have HH := Lib.hid h
  have HRC := Lib.hid hr
  have HRD := Lib.hid (Dv.read_all F.d F.dk F.dd s.dev id _ h0.dev)
  clear h h0 hB0 hr ho hsm
  go_enter Tryz.func75, Tryz.ntmps75
  go_wp2_with fail
  refine HRD.out.mono ?_
  rintro e w1 ⟨rfl, hb⟩
  have HR1 := Lib.hid (has_blw HRC.out hb)
  have HB1 := Lib.hid (HB0.out.trans (hb.mono HB0.out.size))
  have H1 := Lib.hid (HH.out.below HB1.out)
  clear hb c3 HRD HRC
  obtain ⟨R, hR⟩ : ∃ R, Dv.rdE s.dev id = R := ⟨_, rfl⟩
  obtain ⟨bs, hbs⟩ : ∃ bs, Dv.rdS s.dev id = bs := ⟨_, rfl⟩
  have HO1 := Lib.hid (show (if R = 0 then readB (parseB s.dev.size bs) else (none, R)) = (o, E) by rw [← HO.out]; unfold readV; rw [hR, hbs])
  have HS1 := Lib.hid (show bs.size ≤ 4104 by rw [← hbs]; exact HSM.out)
  rw [hR, hbs]
  clear hR hbs HO HSM
  by_cases hr0 : R = 0
  · subst hr0
    obtain ⟨ob, hob⟩ : ∃ ob, parseB s.dev.size bs = ob := ⟨_, rfl⟩
    have HO2 := Lib.hid (show readB ob = (o, E) by have := HO1.out; rw [if_pos rfl, hob] at this; exact this)
    have HBO := Lib.hid (fun W => block_of bs HS1.out s.dev.size W ob hob)
    have HSZ := Lib.hid (size_dev F.d F.dk F.dd s.dev w1 H1.out.dev)
    have c3 := Has.at_ H1.out.obj 3
    simp at c3
    clear hob HO1
    go_wp2_with fail
    refine HSZ.out.mono ?_
    rintro e w' ⟨rfl, rfl⟩
    go_wp2_with fail
    refine (HBO.out _).mono ?_
    rintro e w2 ⟨hq, hb2⟩
    have HB2 := Lib.hid (HB1.out.trans (hb2.mono HB1.out.size))
    have HR2 := Lib.hid (has_blw HR1.out hb2)
    cases ob with
    | none =>
      have hq : e = .returned (.tuple #[.agg #[.slice none 0 0, .string ⟨#[]⟩], .bool false]) := hq
      subst hq
      have he := HO2.out
      injection he with he1 he2
      subst he1
      subst he2
      have HR3 := Lib.hid (HR2.out.past (.cells #[.slice none 0 0, .string ⟨#[]⟩] 51))
      have j0 := Has.at_ HR3.out 0
      have j1 := Has.at_ HR3.out 1
      have f0 := Has.free HR3.out 0
      have f1 := Has.free HR3.out 1
      simp at j0 j1
      have h22 := Oct.Has.put (Oct.Has.put HR3.out 0 (.slice none 0 0)) 1 (.string ⟨#[]⟩)
      have j2 := Has.at_ h22 0
      have j3 := Has.at_ h22 1
      simp at j2 j3
      have HB3 := Lib.hid (below_cells (HB2.out.alloc HB2.out.size (.cells #[.slice none 0 0, .string ⟨#[]⟩] 51)) (Nat.le_refl w.heap.size) (.slice none 0 0) (.string ⟨#[]⟩))
      clear hb2 h22 c3
      go_wp2
      exact bodyPost_ret (v := .tuple #[.agg #[.slice none 0 0, .string ⟨#[]⟩], .int .i64 5]) (by simp [results, Tryz.results75, go_sem, j2, j3]) rfl ⟨rfl, HB3.out⟩
    | some b =>
      obtain ⟨ks, t⟩ := b
      obtain ⟨v, hq, hov⟩ := hq
      subst hq
      have he := HO2.out
      injection he with he1 he2
      subst he1
      subst he2
      have hov2 : OwnI w2 w.heap.size v ks := own_low hov (HB1.out.size)
      obtain ⟨A5, c5, rfl⟩ := own_sl hov2
      have HR3 := Lib.hid (HR2.out.past (.cells #[.slice A5 ks.length c5, .string t] 51))
      have j0 := Has.at_ HR3.out 0
      have j1 := Has.at_ HR3.out 1
      have f0 := Has.free HR3.out 0
      have f1 := Has.free HR3.out 1
      simp at j0 j1
      have h22 := Oct.Has.put (Oct.Has.put HR3.out 0 (.slice A5 ks.length c5)) 1 (.string t)
      have j2 := Has.at_ h22 0
      have j3 := Has.at_ h22 1
      simp at j2 j3
      have HB3 := Lib.hid (below_cells (HB2.out.alloc HB2.out.size (.cells #[.slice A5 ks.length c5, .string t] 51)) (Nat.le_refl w.heap.size) (.slice A5 ks.length c5) (.string t))
      have HO3 := Lib.hid (show OwnI (((w2.alloc (.cells #[.slice A5 ks.length c5, .string t] 51)).setCell ⟨w.heap.size, 0, none⟩ (.slice A5 ks.length c5)).setCell ⟨w.heap.size, 1, none⟩ (.string t)) w.heap.size (.slice A5 ks.length c5) ks from
        own_apart (World.ownsRow.alloc hov2 _) HR3.out (((Chg.refl (· = w.heap.size) _).setCell (p := ⟨w.heap.size, 0, none⟩) (.inl rfl) _).setCell (p := ⟨w.heap.size, 1, none⟩) (.inl rfl) _) (by decide))
      clear hb2 h22 c3 hov hov2
      go_wp2
      exact bodyPost_ret (v := .tuple #[.agg #[.slice A5 ks.length c5, .string t], .int .i64 0]) (by simp [results, Tryz.results75, go_sem, j2, j3]) rfl ⟨⟨_, rfl, HO3.out⟩, HB3.out⟩
  · have hne : (R != 0) = true := by simpa using hr0
    have he := HO1.out
    rw [if_neg hr0] at he
    injection he with he1 he2
    subst he1
    subst he2
    have j0 := Has.at_ HR1.out 0
    have j1 := Has.at_ HR1.out 1
    have f0 := Has.free HR1.out 0
    have f1 := Has.free HR1.out 1
    simp at j0 j1
    have h22 := Oct.Has.put (Oct.Has.put HR1.out 0 (.slice none 0 0)) 1 (.string ⟨#[]⟩)
    have j2 := Has.at_ h22 0
    have j3 := Has.at_ h22 1
    simp at j2 j3
    have HB3 := Lib.hid (below_cells HB1.out (Nat.le_refl w.heap.size) (.slice none 0 0) (.string ⟨#[]⟩))
    clear h22 hr0
    go_wp2
    exact bodyPost_ret (v := .tuple #[.agg #[.slice none 0 0, .string ⟨#[]⟩], .int .i64 R]) (by simp [results, Tryz.results75, go_sem, j2, j3]) rfl ⟨rfl, HB3.out⟩
/-- What Get answers. -/
def getV (s : SV) (id : Int) : Option (List Int × ByteArray) × Int := if (s.nodes id).isSome = true then readV s id else (none, 22)
set_option maxRecDepth 100000 in
set_option maxHeartbeats 1000000 in
theorem get_sto (p : Nat) (F : Fr) (s : SV) (id : Int) (w : World) (h : StoIs w p F s) (hsm : (Dv.rdS s.dev id).size ≤ 4104) (o : Option (List Int × ByteArray)) (E : Int) (ho : getV s id = (o, E)) :
    Calls Tryz.prog 32 #[.pointer (some ⟨p, 0, none⟩), .int .i64 id] w fun e w' => QOut o E w.heap.size e w' ∧ Below w.heap.size w w' := by
  have hB0 := (Below.refl w.heap.size w).alloc (Nat.le_refl _) (.cells #[.slice none 0 0, .string ⟨#[]⟩] 51)
  have hr := Oct.Has.fresh w 51 #[.slice none 0 0, .string ⟨#[]⟩]
  have h0 := h.below hB0
  have HO := Lib.hid ho
  have HSM := Lib.hid hsm
  have HB0 := Lib.hid hB0
  have HRC := Lib.hid hr
  have HM := Lib.hid (made_sto p F s _ h0)
  have HS := Lib.hid (has_sto p F s id _ h0)
  have H0 := Lib.hid h0
  clear h h0 hB0 hr ho hsm
  go_enter Tryz.func32, Tryz.ntmps32
  go_wp2_with fail
  refine HM.out.mono ?_
  rintro e w' ⟨rfl, rfl⟩
  go_wp2_with fail
  refine HS.out.mono ?_
  rintro e w' ⟨rfl, rfl⟩
  cases hn : (s.nodes id).isSome with
  | false =>
    have he := HO.out
    unfold getV at he
    rw [if_neg (by rw [hn]; decide)] at he
    injection he with he1 he2
    subst he1
    subst he2
    clear hn
    go_wp2
    exact bodyPost_ret (v := .tuple #[.agg #[.slice none 0 0, .string ⟨#[]⟩], .int .i64 22]) (by simp [results, Tryz.results32, go_sem]) rfl ⟨rfl, HB0.out⟩
  | true =>
    have he := HO.out
    unfold getV at he
    rw [if_pos hn] at he
    have HR := Lib.hid (read_sto p F s id _ H0.out HSM.out o E he)
    clear hn he
    go_wp2_with fail
    refine HR.out.mono ?_
    rintro e w2 ⟨hq, hb2⟩
    have HB2 := Lib.hid (HB0.out.trans (hb2.mono HB0.out.size))
    have HR2 := Lib.hid (has_blw HRC.out hb2)
    have j0 := Has.at_ HR2.out 0
    have j1 := Has.at_ HR2.out 1
    have f0 := Has.free HR2.out 0
    have f1 := Has.free HR2.out 1
    simp at j0 j1
    cases o with
    | none =>
      have hq : e = .returned (.tuple #[.agg #[.slice none 0 0, .string ⟨#[]⟩], .int .i64 E]) := hq
      subst hq
      have h22 := Oct.Has.put (Oct.Has.put HR2.out 0 (.slice none 0 0)) 1 (.string ⟨#[]⟩)
      have j2 := Has.at_ h22 0
      have j3 := Has.at_ h22 1
      simp at j2 j3
      have HB3 := Lib.hid (below_cells HB2.out (Nat.le_refl w.heap.size) (.slice none 0 0) (.string ⟨#[]⟩))
      clear h22 hb2
      go_wp2
      exact bodyPost_ret (v := .tuple #[.agg #[.slice none 0 0, .string ⟨#[]⟩], .int .i64 E]) (by simp [results, Tryz.results32, go_sem, j2, j3]) rfl ⟨rfl, HB3.out⟩
    | some b =>
      obtain ⟨ks, t⟩ := b
      obtain ⟨v, hq, hov⟩ := hq
      subst hq
      have hov2 : OwnI w2 w.heap.size v ks := own_low hov (HB0.out.size)
      obtain ⟨A5, c5, rfl⟩ := own_sl hov2
      have h22 := Oct.Has.put (Oct.Has.put HR2.out 0 (.slice A5 ks.length c5)) 1 (.string t)
      have j2 := Has.at_ h22 0
      have j3 := Has.at_ h22 1
      simp at j2 j3
      have HB3 := Lib.hid (below_cells HB2.out (Nat.le_refl w.heap.size) (.slice A5 ks.length c5) (.string t))
      have HO3 := Lib.hid (show OwnI ((w2.setCell ⟨w.heap.size, 0, none⟩ (.slice A5 ks.length c5)).setCell ⟨w.heap.size, 1, none⟩ (.string t)) w.heap.size (.slice A5 ks.length c5) ks from
        own_apart hov2 HR2.out (((Chg.refl (· = w.heap.size) _).setCell (p := ⟨w.heap.size, 0, none⟩) (.inl rfl) _).setCell (p := ⟨w.heap.size, 1, none⟩) (.inl rfl) _) (by decide))
      clear hb2 h22 hov hov2
      go_wp2
      exact bodyPost_ret (v := .tuple #[.agg #[.slice A5 ks.length c5, .string t], .int .i64 E]) (by simp [results, Tryz.results32, go_sem, j2, j3]) rfl ⟨⟨_, rfl, HO3.out⟩, HB3.out⟩
/-- One is held so often. -/
def heldN (f : Int → Option NodeV) (k : Int) (q : Int) : Int → Option NodeV := fun z => if z = k then (f z).map fun n => { n with held := q } else f z
theorem heldN_some (f : Int → Option NodeV) (k q z : Int) : (heldN f k q z).isSome = (f z).isSome := by
  unfold heldN
  split
  · cases f z <;> rfl
  · rfl
theorem StoIs.holds {w : World} {p : Nat} {F : Fr} {s : SV} (h : StoIs w p F s) {k : Int} {nd : NodeV} (hk : s.nodes k = some nd) (q : Int) : StoIs (w.setCell ⟨F.g k, 3, none⟩ (.int .i64 q)) p F { s with nodes := heldN s.nodes k q } := by
  obtain ⟨a1, a2, a3, a4, a5, a6⟩ := h.apart hk
  have hc : Chg (· = F.g k) w (w.setCell ⟨F.g k, 3, none⟩ (.int .i64 q)) := (Chg.refl (· = F.g k) w).setCell (p := ⟨F.g k, 3, none⟩) (.inl rfl) _
  have hm : thereM F (heldN s.nodes k q) = thereM F s.nodes := by
    funext z
    unfold thereM
    have := heldN_some s.nodes k q z
    cases h1 : heldN s.nodes k q z <;> cases h2 : s.nodes z <;> rw [h1, h2] at this <;> first | rfl | (simp at this)
  refine ⟨h.obj.over hc a1, h.dev.over hc.to a4 a5 a6, ?_, h.kept.over hc.to a3, fun z n hz => ?_, fun z y hz hy => h.inj z y (by rw [← heldN_some s.nodes k q z]; exact hz) (by rw [← heldN_some s.nodes k q y]; exact hy), h.tk, h.tdk, h.tdd, h.kdk, h.kdd⟩
  · show IMap _ F.t (thereM F (heldN s.nodes k q))
    rw [hm]
    exact h.there.over hc.to a2
  · have hz' : heldN s.nodes k q z = some n := hz
    obtain ⟨Ak, ck, k1, k2⟩ := h.node k nd hk
    unfold heldN at hz'
    by_cases e : z = k
    · subst e
      rw [if_pos rfl, hk] at hz'
      simp at hz'
      subst hz'
      exact ⟨Ak, ck, Oct.Has.put k1 3 _, own_apart k2 k1 hc (by decide)⟩
    · rw [if_neg e] at hz'
      obtain ⟨A, c, h1, h2⟩ := h.node z n hz'
      exact ⟨A, c, h1.over hc (fun q => e (h.inj z k (by rw [hz']; rfl) (by rw [hk]; rfl) q)), own_apart h2 k1 hc (by decide)⟩
set_option maxHeartbeats 400000 in
theorem hold_sto (p : Nat) (F : Fr) (s : SV) (id : Int) (nd : NodeV) (hn : s.nodes id = some nd) (h0 : 0 ≤ nd.held) (h1 : nd.held ≤ 1000000000) (w : World) (h : StoIs w p F s) :
    Calls Tryz.prog 29 #[.pointer (some ⟨p, 0, none⟩), .int .i64 id] w fun e w' => e = .returned (.int .i64 0) ∧ StoIs w' p F { s with nodes := heldN s.nodes id (nd.held + 1) } ∧ Chg (· = F.g id) w w' := by
  have HM := Lib.hid (made_sto p F s w h)
  have HS := Lib.hid (has_sto p F s id w h)
  have hsm : (s.nodes id).isSome = true := by rw [hn]; rfl
  rw [hsm] at HS
  have hl := (h.there.lookup mapN Dv.intT (.pointer none) zero_node id).1
  have e1 : (thereM F s.nodes id).getD (.pointer none) = .pointer (some ⟨F.g id, 0, none⟩) := by unfold thereM; rw [hn]; rfl
  rw [e1] at hl
  have c4 := Has.at_ h.obj 4
  simp at c4
  obtain ⟨A2, c2, q1, q2⟩ := h.node id nd hn
  have k2 := Has.at_ q1 3
  have k3 := Has.free q1 3
  simp [nodeC] at k2
  have HE := Lib.hid (h.holds hn (nd.held + 1))
  have HC := Lib.hid ((Chg.refl (· = F.g id) w).setCell (p := ⟨F.g id, 3, none⟩) (.inl rfl) (.int .i64 (nd.held + 1)))
  clear h hn hsm e1 q1 q2
  generalize F.g id = G at *
  generalize nd.held = N at *
  go_enter Tryz.func29, Tryz.ntmps29
  go_wp2_with fail
  refine HM.out.mono ?_
  rintro e w' ⟨rfl, rfl⟩
  go_wp2_with fail
  refine HS.out.mono ?_
  rintro e w' ⟨rfl, rfl⟩
  go_wp2
  go_ret
  exact ⟨rfl, HE.out, HC.out⟩
theorem root_sto (p : Nat) (F : Fr) (s : SV) (w : World) (h : StoIs w p F s) :
    Calls Tryz.prog 31 #[.pointer (some ⟨p, 0, none⟩)] w fun e w' => e = .returned (.tuple #[.int .i64 s.root, .string s.note, .int .i64 s.gen]) ∧ Below w.heap.size w w' := by
  have HM := Lib.hid (made_sto p F s w h)
  have c0 := Has.at_ h.obj 0
  have c1 := Has.at_ h.obj 1
  have c2 := Has.at_ h.obj 2
  simp at c0 c1 c2
  clear h
  go_enter Tryz.func31, Tryz.ntmps31
  go_wp2_with fail
  refine HM.out.mono ?_
  rintro e w' ⟨rfl, rfl⟩
  go_wp2_with fail
  go_quiet (fail)
  go_wp2
  go_ret3
  exact ⟨rfl, below_drewN (Below.refl _ _) _⟩
end Go.Proofs.YthejlenafjnmkaaGreat.Sto
