/- A beginning is laid; blocks are kept: contracts. -/
import Derived.Test.YtidkckapjelbmaaStM
namespace Go.Proofs.Ytidkckapjelbmaa.Sto
open Go.RowKit
open Oct (Has Chg)
open Rws
open Mem (IMap)
open Vc (wpAnyH_read wpAnyH_skip)

/-- A store upon a device, in which nothing is there. -/
def bareV (gen root : Int) (note : ByteArray) (d : Dv.St) : SV := ⟨gen, root, note, fun _ => none, fun _ => false, d⟩
theorem over_sto (gen root : Int) (note : ByteArray) (d dk dd : Nat) (D : Dv.St) (w : World) (h : Dv.DevIs w d dk dd D) :
    Calls Try.prog 28 #[.pointer (some ⟨d, 0, none⟩), .agg #[.int .i64 gen, .int .i64 root, .string note]] w fun e w' => ∃ p F, e = .returned (.pointer (some ⟨p, 0, none⟩)) ∧ StoIs w' p F (bareV gen root note D) ∧ F.d = d ∧ F.dk = dk ∧ F.dd = dd ∧ w.heap.size ≤ p ∧ w.heap.size ≤ F.t ∧ w.heap.size ≤ F.k ∧ Below w.heap.size w w' := by
  have hmm := @run_makeMap Try.prog
  have HH := Lib.hid h
  clear h
  go_enter Try.func28, Try.ntmps28
  go_wp2
  go_ret
  have hb : Below w.heap.size w ((((w.alloc (.cells #[.int .i64 gen, .int .i64 root, .string note] 51)).alloc (.map #[] 0)).alloc (.map #[] 0)).alloc (.cells #[.int .i64 gen, .int .i64 root, .string note, .pointer (some ⟨d, 0, none⟩), .map (some (w.heap.size + 1)), .map (some (w.heap.size + 2))] 55)) :=
    ((((Below.refl _ w).alloc (Nat.le_refl _) _).alloc (by simp) _).alloc (by simp; omega) _).alloc (by simp; omega) _
  have b1 := HH.out.obj.bound
  have b2 := HH.out.kept.bound
  have b3 := HH.out.dirt.bound
  refine ⟨w.heap.size + 3, ⟨w.heap.size + 1, w.heap.size + 2, d, dk, dd, fun _ => 0⟩, rfl, ⟨?_, HH.out.below hb, ?_, ?_, (fun z n hz => by cases hz), (fun z y hz => by cases hz), by show w.heap.size + 1 ≠ w.heap.size + 2; omega, by show w.heap.size + 1 ≠ dk; omega, by show w.heap.size + 1 ≠ dd; omega, by show w.heap.size + 2 ≠ dk; omega, by show w.heap.size + 2 ≠ dd; omega⟩, rfl, rfl, rfl, by omega, by show w.heap.size ≤ w.heap.size + 1; omega, by show w.heap.size ≤ w.heap.size + 2; omega, hb⟩
  · have h := Has.fresh (((w.alloc (.cells #[.int .i64 gen, .int .i64 root, .string note] 51)).alloc (.map #[] 0)).alloc (.map #[] 0)) 55 #[.int .i64 gen, .int .i64 root, .string note, .pointer (some ⟨d, 0, none⟩), .map (some (w.heap.size + 1)), .map (some (w.heap.size + 2))]
    rw [World.size_alloc, World.size_alloc, World.size_alloc] at h
    exact h
  · have h := IMap.made (w.alloc (.cells #[.int .i64 gen, .int .i64 root, .string note] 51))
    rw [World.size_alloc] at h
    exact (h.below ((Below.refl _ _).alloc (Nat.le_refl _) (.map #[] 0))).below ((Below.refl _ _).alloc (Nat.le_refl _) _)
  · have h := IMap.made ((w.alloc (.cells #[.int .i64 gen, .int .i64 root, .string note] 51)).alloc (.map #[] 0))
    rw [World.size_alloc, World.size_alloc] at h
    exact h.below ((Below.refl _ _).alloc (Nat.le_refl _) _)
/-- What laying a beginning comes to. -/
def layD (d : Dv.St) (gen root : Int) (note : ByteArray) : Dv.St := if Dv.flE d = 0 then Dv.wrD (Dv.flD d) (gen % 2) (beginB gen root (Dv.flD d).size note) else Dv.flD d
def layE (d : Dv.St) (gen root : Int) (note : ByteArray) : Int := if Dv.flE d = 0 then Dv.wrE (Dv.flD d) (gen % 2) (beginB gen root (Dv.flD d).size note) else Dv.flE d
set_option maxRecDepth 100000 in
set_option maxHeartbeats 4000000 in
theorem lay_sto (p : Nat) (F : Fr) (s : SV) (gen root : Int) (note : ByteArray) (hg : 0 ≤ gen) (hd : note.size ≤ 3900) (w : World) (h : StoIs w p F s) (E : Int) (Z : Dv.St) (hE : layE s.dev gen root note = E) (hZ : layD s.dev gen root note = Z) :
    Calls Try.prog 29 #[.pointer (some ⟨p, 0, none⟩), .agg #[.int .i64 gen, .int .i64 root, .string note]] w fun e w' => e = .returned (.int .i64 E) ∧ StoIs w' p F { s with dev := Z } ∧ Chg (Dv.Own F.d F.dk F.dd) w w' := by
  have hB0 := (Below.refl w.heap.size w).alloc (Nat.le_refl _) (.cells #[.int .i64 gen, .int .i64 root, .string note] 51)
  have hr := Oct.Has.fresh w 51 #[.int .i64 gen, .int .i64 root, .string note]
  have h0 := h.below hB0
  have HF := Lib.hid (Dv.flush_all F.d F.dk F.dd s.dev _ h0.dev)
  have c3 := Has.at_ h0.obj 3
  simp at c3
  have H0 := Lib.hid h0
  have HR := Lib.hid hr
  have HB0 := Lib.hid hB0
  clear h h0 hr hB0
  have HE := Lib.hid (show (if Dv.flE s.dev = 0 then Dv.wrE (Dv.flD s.dev) (gen % 2) (beginB gen root (Dv.flD s.dev).size note) else Dv.flE s.dev) = E from hE)
  have HE2 := Lib.hid (show (if Dv.flE s.dev = 0 then Dv.wrD (Dv.flD s.dev) (gen % 2) (beginB gen root (Dv.flD s.dev).size note) else Dv.flD s.dev) = Z from hZ)
  clear hE hZ
  go_enter Try.func29, Try.ntmps29
  go_wp2_with fail
  refine HF.out.mono ?_
  rintro e w1 ⟨rfl, hd1, hc1⟩
  have H1 := Lib.hid (H0.out.devs hd1 (Oct.Chg.of hc1))
  have HR1 := Lib.hid (HR.out.over (Oct.Chg.of hc1) (fun e => by
    have hdo : Has _ F.d _ _ := H0.out.dev.obj
    rcases e with e | e | e
    · exact has_ne HR.out hdo (by decide) e
    · exact map_ne H0.out.dev.kept HR.out e.symm
    · exact map_ne H0.out.dev.dirt HR.out e.symm))
  have HC1 := Lib.hid ((Chg.of_below HB0.out (Dv.Own F.d F.dk F.dd)).trans (Oct.Chg.of hc1))
  clear hd1 hc1 HF c3 H0 HR HB0
  obtain ⟨E1, hE1⟩ : ∃ E1, Dv.flE s.dev = E1 := ⟨_, rfl⟩
  obtain ⟨d1, hd1⟩ : ∃ d1, Dv.flD s.dev = d1 := ⟨_, rfl⟩
  rw [hE1] at HE HE2 ⊢
  rw [hd1] at HE HE2 H1
  clear hE1 hd1
  by_cases h0 : E1 = 0
  · subst h0
    have HE3 := Lib.hid (show (Dv.wrE d1 (gen % 2) (beginB gen root d1.size note)) = E from (if_pos rfl).symm.trans HE.out)
    have HD3 := Lib.hid (show (Dv.wrD d1 (gen % 2) (beginB gen root d1.size note)) = Z from (if_pos rfl).symm.trans HE2.out)
    have c3 := Has.at_ H1.out.obj 3
    have b0 := Has.at_ HR1.out 0
    have b1 := Has.at_ HR1.out 1
    have b2 := Has.at_ HR1.out 2
    simp at c3 b0 b1 b2
    clear HE HE2
    go_wp2_with fail
    refine wp_region_held_drew (S := (fun w' => w'.cell? ⟨p, 3, none⟩ = some (.pointer (some ⟨F.d, 0, none⟩)) ∧ w'.cell? ⟨w.heap.size, 0, none⟩ = some (.int .i64 gen) ∧ w'.cell? ⟨w.heap.size, 1, none⟩ = some (.int .i64 root) ∧ w'.cell? ⟨w.heap.size, 2, none⟩ = some (.string note))) (by kernel_rfl) (⟨c3, b0, b1, b2⟩) (fun hHeld => ?_)
    refine wpAnyH_read (i := 0) (d := some 14) (v := ?v1) (by rfl) (by rfl) (by kernel_rfl) (by kernel_rfl) (by kernel_rfl) (fun _ _ _ h => h) (by rfl) ?hy1 (by assumption) ?rest1
    case hy1 =>
      intro w hSw
      try dsimp only at hSw
      obtain ⟨s3, s0, s1, s2⟩ := hSw
      go_simp
      try with_reducible rfl
    try simp only [Act.put, List.setIfInBounds_toArray, List.set_cons_zero, List.set_cons_succ]
    refine wpAnyH_read (i := 1) (d := some 15) (v := ?v2) (by rfl) (by rfl) (by kernel_rfl) (by kernel_rfl) (by kernel_rfl) (fun _ _ _ h => h) (by rfl) ?hy2 (by assumption) ?rest2
    case hy2 =>
      intro w hSw
      try dsimp only at hSw
      obtain ⟨s3, s0, s1, s2⟩ := hSw
      go_simp
      try with_reducible rfl
    try simp only [Act.put, List.setIfInBounds_toArray, List.set_cons_zero, List.set_cons_succ]
    refine wpAnyH_read (i := 2) (d := some 16) (v := ?v3) (by rfl) (by rfl) (by kernel_rfl) (by kernel_rfl) (by kernel_rfl) (fun _ _ _ h => h) (by rfl) ?hy3 (by assumption) ?rest3
    case hy3 =>
      intro w hSw
      try dsimp only at hSw
      obtain ⟨s3, s0, s1, s2⟩ := hSw
      go_simp
      try with_reducible rfl
    try simp only [Act.put, List.setIfInBounds_toArray, List.set_cons_zero, List.set_cons_succ]
    refine wpAnyH_read (i := 3) (d := some 17) (v := ?v4) (by rfl) (by rfl) (by kernel_rfl) (by kernel_rfl) (by kernel_rfl) (fun _ _ _ h => h) (by rfl) ?hy4 (by assumption) ?rest4
    case hy4 =>
      intro w hSw
      try dsimp only at hSw
      obtain ⟨s3, s0, s1, s2⟩ := hSw
      go_simp
      try with_reducible rfl
    try simp only [Act.put, List.setIfInBounds_toArray, List.set_cons_zero, List.set_cons_succ]
    refine wpAnyH_read (i := 4) (d := some 18) (v := ?v5) (by rfl) (by rfl) (by kernel_rfl) (by kernel_rfl) (by kernel_rfl) (fun _ _ _ h => h) (by rfl) ?hy5 (by assumption) ?rest5
    case hy5 =>
      intro w hSw
      try dsimp only at hSw
      obtain ⟨s3, s0, s1, s2⟩ := hSw
      go_simp
      try with_reducible rfl
    try simp only [Act.put, List.setIfInBounds_toArray, List.set_cons_zero, List.set_cons_succ]
    refine wpAnyH_read (i := 6) (d := some 20) (v := ?v6) (by rfl) (by rfl) (by kernel_rfl) (by kernel_rfl) (by kernel_rfl) (fun _ _ _ h => h) (by rfl) ?hy6 (by assumption) ?rest6
    case hy6 =>
      intro w hSw
      try dsimp only at hSw
      obtain ⟨s3, s0, s1, s2⟩ := hSw
      go_simp
      try with_reducible rfl
    try simp only [Act.put, List.setIfInBounds_toArray, List.set_cons_zero, List.set_cons_succ]
    refine wpAnyH_read (i := 7) (d := some 21) (v := ?v7) (by rfl) (by rfl) (by kernel_rfl) (by kernel_rfl) (by kernel_rfl) (fun _ _ _ h => h) (by rfl) ?hy7 (by assumption) ?rest7
    case hy7 =>
      intro w hSw
      try dsimp only at hSw
      obtain ⟨s3, s0, s1, s2⟩ := hSw
      go_simp
      try with_reducible rfl
    try simp only [Act.put, List.setIfInBounds_toArray, List.set_cons_zero, List.set_cons_succ]
    refine wpAnyH_read (i := 8) (d := some 22) (v := ?v8) (by rfl) (by rfl) (by kernel_rfl) (by kernel_rfl) (by kernel_rfl) (fun _ _ _ h => h) (by rfl) ?hy8 (by assumption) ?rest8
    case hy8 =>
      intro w hSw
      try dsimp only at hSw
      obtain ⟨s3, s0, s1, s2⟩ := hSw
      go_simp
      try with_reducible rfl
    try simp only [Act.put, List.setIfInBounds_toArray, List.set_cons_zero, List.set_cons_succ]
    refine wpAnyH_read (i := 9) (d := some 23) (v := ?v9) (by rfl) (by rfl) (by kernel_rfl) (by kernel_rfl) (by kernel_rfl) (fun _ _ _ h => h) (by rfl) ?hy9 (by assumption) ?rest9
    case hy9 =>
      intro w hSw
      try dsimp only at hSw
      obtain ⟨s3, s0, s1, s2⟩ := hSw
      go_simp
      try with_reducible rfl
    try simp only [Act.put, List.setIfInBounds_toArray, List.set_cons_zero, List.set_cons_succ]
    refine wpAnyH_read (i := 10) (d := some 24) (v := ?v10) (by rfl) (by rfl) (by kernel_rfl) (by kernel_rfl) (by kernel_rfl) (fun _ _ _ h => h) (by rfl) ?hy10 (by assumption) ?rest10
    case hy10 =>
      intro w hSw
      try dsimp only at hSw
      obtain ⟨s3, s0, s1, s2⟩ := hSw
      go_simp
      try with_reducible rfl
    try simp only [Act.put, List.setIfInBounds_toArray, List.set_cons_zero, List.set_cons_succ]
    refine wpAnyH_ready (rs := [5]) (by kernel_rfl) (by simp) ?_
    refine AllReadyH.cons rfl (fun K hK => ?_) AllReadyH.nil
    go_simp
    refine (place_any gen root note hg _).mono ?_
    rintro e w2 ⟨rfl, hb⟩
    have hbb : Below w1.heap.size w1 w2 := ((Below.refl w1.heap.size w1).drew).trans hb
    have H2 := Lib.hid (H1.out.below hbb)
    have HR2 := Lib.hid (has_blw HR1.out hbb)
    have HC2 := Lib.hid (HC1.out.trans (Chg.of_below hbb (Dv.Own F.d F.dk F.dd)))
    have e3 := Has.at_ H2.out.obj 3
    have e0 := Has.at_ HR2.out 0
    have e1 := Has.at_ HR2.out 1
    have e2 := Has.at_ HR2.out 2
    simp at e3 e0 e1 e2
    clear hb hbb
    refine hK.out _ _ (⟨e3, e0, e1, e2⟩) (fun hHeld => ?_)
    clear hK K
    try simp only [Act.put, List.setIfInBounds_toArray, List.set_cons_zero, List.set_cons_succ]
    refine wpAnyH_ready (rs := [11]) (by kernel_rfl) (by simp) ?_
    refine AllReadyH.cons rfl (fun K hK => ?_) AllReadyH.nil
    go_simp
    refine (size_dev F.d F.dk F.dd d1 w2 H2.out.dev).mono ?_
    rintro e w' ⟨rfl, rfl⟩
    refine hK.out _ _ (⟨e3, e0, e1, e2⟩) (fun hHeld => ?_)
    clear hK K
    try simp only [Act.put, List.setIfInBounds_toArray, List.set_cons_zero, List.set_cons_succ]
    refine wpAnyH_ready (rs := [12]) (by kernel_rfl) (by simp) ?_
    refine AllReadyH.cons rfl (fun K hK => ?_) AllReadyH.nil
    go_simp
    refine (begin_bytes gen root d1.size note hd w2).mono ?_
    rintro e w3 ⟨rfl, hbb⟩
    have H3 := Lib.hid (H2.out.below hbb)
    have HR3 := Lib.hid (has_blw HR2.out hbb)
    have HC3 := Lib.hid (HC2.out.trans (Chg.of_below hbb (Dv.Own F.d F.dk F.dd)))
    have g3 := Has.at_ H3.out.obj 3
    have g0 := Has.at_ HR3.out 0
    have g1 := Has.at_ HR3.out 1
    have g2 := Has.at_ HR3.out 2
    simp at g3 g0 g1 g2
    clear hbb
    refine hK.out _ _ (⟨g3, g0, g1, g2⟩) (fun hHeld => ?_)
    clear hK K
    try simp only [Act.put, List.setIfInBounds_toArray, List.set_cons_zero, List.set_cons_succ]
    refine wpAnyH_ready (rs := [13]) (by kernel_rfl) (by simp) ?_
    refine AllReadyH.cons rfl (fun K hK => ?_) AllReadyH.nil
    go_simp
    refine (Dv.write_all F.d F.dk F.dd d1 (gen % 2) (beginB gen root d1.size note) w3 H3.out.dev).mono ?_
    rintro e w4 ⟨rfl, hd4, hc4⟩
    rw [HE3.out]
    rw [HD3.out] at hd4
    have H4 := Lib.hid (H3.out.devs hd4 (Oct.Chg.of hc4))
    have HR4 := Lib.hid (HR3.out.over (Oct.Chg.of hc4) (fun e => by
      have hdo : Has _ F.d _ _ := H3.out.dev.obj
      rcases e with e | e | e
      · exact has_ne HR3.out hdo (by decide) e
      · exact map_ne H3.out.dev.kept HR3.out e.symm
      · exact map_ne H3.out.dev.dirt HR3.out e.symm))
    have HC4 := Lib.hid (HC3.out.trans (Oct.Chg.of hc4))
    have k3 := Has.at_ H4.out.obj 3
    have k0 := Has.at_ HR4.out 0
    have k1 := Has.at_ HR4.out 1
    have k2 := Has.at_ HR4.out 2
    simp at k3 k0 k1 k2
    clear hd4 hc4
    refine hK.out _ _ (⟨k3, k0, k1, k2⟩) (fun hHeld => ?_)
    clear hK K
    try simp only [Act.put, List.setIfInBounds_toArray, List.set_cons_zero, List.set_cons_succ]
    refine wpAnyH_read (i := 14) (d := some 4) (v := ?v11) (by rfl) (by rfl) (by kernel_rfl) (by kernel_rfl) (by kernel_rfl) (fun _ _ _ h => h) (by rfl) ?hy11 (by assumption) ?rest11
    case hy11 =>
      intro w hSw
      try dsimp only at hSw
      obtain ⟨s3, s0, s1, s2⟩ := hSw
      go_simp
      try with_reducible rfl
    try simp only [Act.put, List.setIfInBounds_toArray, List.set_cons_zero, List.set_cons_succ]
    refine wpAnyH_done (by kernel_rfl) ?_ _
    clear hHeld k3 k0 k1 k2 g3 g0 g1 g2 e3 e0 e1 e2 c3 b0 b1 b2
    go_wp2
    go_ret
    exact ⟨rfl, H4.out, HC4.out⟩
  · have hne : (E1 != 0) = true := by simpa using h0
    have he : E = E1 := by rw [← HE.out]; exact if_neg h0
    have hz : Z = d1 := by rw [← HE2.out]; exact if_neg h0
    subst he
    subst hz
    clear h0 HE HE2
    go_wp2
    go_ret
    exact ⟨rfl, H1.out, HC1.out⟩
end Go.Proofs.Ytidkckapjelbmaa.Sto
