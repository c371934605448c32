import Derived.Test.YthejlenafjnmkaaGreatT6

/- A beginning is laid; blocks are kept: contracts. -/
namespace Go.Proofs.YthejlenafjnmkaaGreat.Sto
open Go.RowKit
open Oct (Has Chg)
open Rws
open Mem (IMap)
open Vc (wpAnyH_read wpAnyH_skip)

/-- A store upon a device, in which nothing is there. -/
def bareV (gen root : Int) (note : ByteArray) (d : Dv.St) : SV := ⟨gen, root, note, fun _ => none, fun _ => false, d⟩
theorem over_sto (gen root : Int) (note : ByteArray) (d dk dd : Nat) (D : Dv.St) (w : World) (h : Dv.DevIs w d dk dd D) :
    Calls Tryz.prog 34 #[.pointer (some ⟨d, 0, none⟩), .agg #[.int .i64 gen, .int .i64 root, .string note]] w fun e w' => ∃ p F, e = .returned (.pointer (some ⟨p, 0, none⟩)) ∧ StoIs w' p F (bareV gen root note D) ∧ F.d = d ∧ F.dk = dk ∧ F.dd = dd ∧ w.heap.size ≤ p ∧ w.heap.size ≤ F.t ∧ w.heap.size ≤ F.k ∧ Below w.heap.size w w' := by
  have hmm := @run_makeMap Tryz.prog
  have HH := Lib.hid h
  clear h
  go_enter Tryz.func34, Tryz.ntmps34
  go_wp2
  go_ret
  have hb : Below w.heap.size w ((((w.alloc (.cells #[.int .i64 gen, .int .i64 root, .string note] 83)).alloc (.map #[] 0)).alloc (.map #[] 0)).alloc (.cells #[.int .i64 gen, .int .i64 root, .string note, .pointer (some ⟨d, 0, none⟩), .map (some (w.heap.size + 1)), .map (some (w.heap.size + 2))] 88)) :=
    ((((Below.refl _ w).alloc (Nat.le_refl _) _).alloc (by simp) _).alloc (by simp; omega) _).alloc (by simp; omega) _
  have b1 := HH.out.obj.bound
  have b2 := HH.out.kept.bound
  have b3 := HH.out.dirt.bound
  refine ⟨w.heap.size + 3, ⟨w.heap.size + 1, w.heap.size + 2, d, dk, dd, fun _ => 0⟩, rfl, ⟨?_, HH.out.below hb, ?_, ?_, (fun z n hz => by cases hz), (fun z y hz => by cases hz), by show w.heap.size + 1 ≠ w.heap.size + 2; omega, by show w.heap.size + 1 ≠ dk; omega, by show w.heap.size + 1 ≠ dd; omega, by show w.heap.size + 2 ≠ dk; omega, by show w.heap.size + 2 ≠ dd; omega⟩, rfl, rfl, rfl, by omega, by show w.heap.size ≤ w.heap.size + 1; omega, by show w.heap.size ≤ w.heap.size + 2; omega, hb⟩
  · have h := Has.fresh (((w.alloc (.cells #[.int .i64 gen, .int .i64 root, .string note] 83)).alloc (.map #[] 0)).alloc (.map #[] 0)) 88 #[.int .i64 gen, .int .i64 root, .string note, .pointer (some ⟨d, 0, none⟩), .map (some (w.heap.size + 1)), .map (some (w.heap.size + 2))]
    rw [World.size_alloc, World.size_alloc, World.size_alloc] at h
    exact h
  · have h := IMap.made (w.alloc (.cells #[.int .i64 gen, .int .i64 root, .string note] 83))
    rw [World.size_alloc] at h
    exact (h.below ((Below.refl _ _).alloc (Nat.le_refl _) (.map #[] 0))).below ((Below.refl _ _).alloc (Nat.le_refl _) _)
  · have h := IMap.made ((w.alloc (.cells #[.int .i64 gen, .int .i64 root, .string note] 83)).alloc (.map #[] 0))
    rw [World.size_alloc, World.size_alloc] at h
    exact h.below ((Below.refl _ _).alloc (Nat.le_refl _) _)
/-- What laying a beginning comes to. -/
def layD (d : Dv.St) (gen root : Int) (note : ByteArray) : Dv.St := if Dv.flE d = 0 then Dv.wrD (Dv.flD d) (gen % 2) (beginB gen root (Dv.flD d).size note) else Dv.flD d
def layE (d : Dv.St) (gen root : Int) (note : ByteArray) : Int := if Dv.flE d = 0 then Dv.wrE (Dv.flD d) (gen % 2) (beginB gen root (Dv.flD d).size note) else Dv.flE d
set_option maxRecDepth 100000 in
set_option maxHeartbeats 4000000 in
theorem lay_sto (p : Nat) (F : Fr) (s : SV) (gen root : Int) (note : ByteArray) (hg : 0 ≤ gen) (hd : note.size ≤ 3900) (w : World) (h : StoIs w p F s) (E : Int) (Z : Dv.St) (hE : layE s.dev gen root note = E) (hZ : layD s.dev gen root note = Z) :
    Calls Tryz.prog 35 #[.pointer (some ⟨p, 0, none⟩), .agg #[.int .i64 gen, .int .i64 root, .string note]] w fun e w' => e = .returned (.int .i64 E) ∧ StoIs w' p F { s with dev := Z } ∧ Chg (Dv.Own F.d F.dk F.dd) w w' := by
  have hB0 := (Below.refl w.heap.size w).alloc (Nat.le_refl _) (.cells #[.int .i64 gen, .int .i64 root, .string note] 83)
  have hr := Oct.Has.fresh w 83 #[.int .i64 gen, .int .i64 root, .string note]
  have h0 := h.below hB0
  have HF := Lib.hid (Dv.flush_all F.d F.dk F.dd s.dev _ h0.dev)
  have c3 := Has.at_ h0.obj 3
  simp at c3
  have H0 := Lib.hid h0
  have HR := Lib.hid hr
  have HB0 := Lib.hid hB0
  clear h h0 hr hB0
  have HE := Lib.hid (show (if Dv.flE s.dev = 0 then Dv.wrE (Dv.flD s.dev) (gen % 2) (beginB gen root (Dv.flD s.dev).size note) else Dv.flE s.dev) = E from hE)
  have HE2 := Lib.hid (show (if Dv.flE s.dev = 0 then Dv.wrD (Dv.flD s.dev) (gen % 2) (beginB gen root (Dv.flD s.dev).size note) else Dv.flD s.dev) = Z from hZ)
  clear hE hZ
  go_enter Tryz.func35, Tryz.ntmps35
  go_wp2_with fail
  refine HF.out.mono ?_
  rintro e w1 ⟨rfl, hd1, hc1⟩
  have H1 := Lib.hid (H0.out.devs hd1 (Oct.Chg.of hc1))
  have HR1 := Lib.hid (HR.out.over (Oct.Chg.of hc1) (fun e => by
    have hdo : Has _ F.d _ _ := H0.out.dev.obj
    rcases e with e | e | e
    · exact has_ne HR.out hdo (by decide) e
    · exact map_ne H0.out.dev.kept HR.out e.symm
    · exact map_ne H0.out.dev.dirt HR.out e.symm))
  have HC1 := Lib.hid ((Chg.of_below HB0.out (Dv.Own F.d F.dk F.dd)).trans (Oct.Chg.of hc1))
  clear hd1 hc1 HF c3 H0 HR HB0
  obtain ⟨E1, hE1⟩ : ∃ E1, Dv.flE s.dev = E1 := ⟨_, rfl⟩
  obtain ⟨d1, hd1⟩ : ∃ d1, Dv.flD s.dev = d1 := ⟨_, rfl⟩
  rw [hE1] at HE HE2 ⊢
  rw [hd1] at HE HE2 H1
  clear hE1 hd1
  by_cases h0 : E1 = 0
  · subst h0
    have HE3 := Lib.hid (show (Dv.wrE d1 (gen % 2) (beginB gen root d1.size note)) = E from (if_pos rfl).symm.trans HE.out)
    have HD3 := Lib.hid (show (Dv.wrD d1 (gen % 2) (beginB gen root d1.size note)) = Z from (if_pos rfl).symm.trans HE2.out)
    have c3 := Has.at_ H1.out.obj 3
    have b0 := Has.at_ HR1.out 0
    have b1 := Has.at_ HR1.out 1
    have b2 := Has.at_ HR1.out 2
    simp at c3 b0 b1 b2
    clear HE HE2
    go_wp2_with fail
    refine wp_region_held_drew (S := (fun w' => w'.cell? ⟨p, 3, none⟩ = some (.pointer (some ⟨F.d, 0, none⟩)) ∧ w'.cell? ⟨w.heap.size, 0, none⟩ = some (.int .i64 gen) ∧ w'.cell? ⟨w.heap.size, 1, none⟩ = some (.int .i64 root) ∧ w'.cell? ⟨w.heap.size, 2, none⟩ = some (.string note))) (by kernel_rfl) (⟨c3, b0, b1, b2⟩) (fun hHeld => ?_)
    refine wpAnyH_read (i := 0) (d := some 14) (v := ?v1) (by rfl) (by rfl) (by kernel_rfl) (by kernel_rfl) (by kernel_rfl) (fun _ _ _ h => h) (by rfl) ?hy1 (by assumption) ?rest1
    case hy1 =>
      intro w hSw
      try dsimp only at hSw
      obtain ⟨s3, s0, s1, s2⟩ := hSw
      go_simp
      try with_reducible rfl
    try simp only [Act.put, List.setIfInBounds_toArray, List.set_cons_zero, List.set_cons_succ]
    refine wpAnyH_read (i := 1) (d := some 15) (v := ?v2) (by rfl) (by rfl) (by kernel_rfl) (by kernel_rfl) (by kernel_rfl) (fun _ _ _ h => h) (by rfl) ?hy2 (by assumption) ?rest2
    case hy2 =>
      intro w hSw
      try dsimp only at hSw
      obtain ⟨s3, s0, s1, s2⟩ := hSw
      go_simp
      try with_reducible rfl
    try simp only [Act.put, List.setIfInBounds_toArray, List.set_cons_zero, List.set_cons_succ]
    refine wpAnyH_read (i := 2) (d := some 16) (v := ?v3) (by rfl) (by rfl) (by kernel_rfl) (by kernel_rfl) (by kernel_rfl) (fun _ _ _ h => h) (by rfl) ?hy3 (by assumption) ?rest3
    case hy3 =>
      intro w hSw
      try dsimp only at hSw
      obtain ⟨s3, s0, s1, s2⟩ := hSw
      go_simp
      try with_reducible rfl
    try simp only [Act.put, List.setIfInBounds_toArray, List.set_cons_zero, List.set_cons_succ]
    refine wpAnyH_read (i := 3) (d := some 17) (v := ?v4) (by rfl) (by rfl) (by kernel_rfl) (by kernel_rfl) (by kernel_rfl) (fun _ _ _ h => h) (by rfl) ?hy4 (by assumption) ?rest4
    case hy4 =>
      intro w hSw
      try dsimp only at hSw
      obtain ⟨s3, s0, s1, s2⟩ := hSw
      go_simp
      try with_reducible rfl
    try simp only [Act.put, List.setIfInBounds_toArray, List.set_cons_zero, List.set_cons_succ]
    refine wpAnyH_read (i := 4) (d := some 18) (v := ?v5) (by rfl) (by rfl) (by kernel_rfl) (by kernel_rfl) (by kernel_rfl) (fun _ _ _ h => h) (by rfl) ?hy5 (by assumption) ?rest5
    case hy5 =>
      intro w hSw
      try dsimp only at hSw
      obtain ⟨s3, s0, s1, s2⟩ := hSw
      go_simp
      try with_reducible rfl
    try simp only [Act.put, List.setIfInBounds_toArray, List.set_cons_zero, List.set_cons_succ]
    refine wpAnyH_read (i := 6) (d := some 20) (v := ?v6) (by rfl) (by rfl) (by kernel_rfl) (by kernel_rfl) (by kernel_rfl) (fun _ _ _ h => h) (by rfl) ?hy6 (by assumption) ?rest6
    case hy6 =>
      intro w hSw
      try dsimp only at hSw
      obtain ⟨s3, s0, s1, s2⟩ := hSw
      go_simp
      try with_reducible rfl
    try simp only [Act.put, List.setIfInBounds_toArray, List.set_cons_zero, List.set_cons_succ]
    refine wpAnyH_read (i := 7) (d := some 21) (v := ?v7) (by rfl) (by rfl) (by kernel_rfl) (by kernel_rfl) (by kernel_rfl) (fun _ _ _ h => h) (by rfl) ?hy7 (by assumption) ?rest7
    case hy7 =>
      intro w hSw
      try dsimp only at hSw
      obtain ⟨s3, s0, s1, s2⟩ := hSw
      go_simp
      try with_reducible rfl
    try simp only [Act.put, List.setIfInBounds_toArray, List.set_cons_zero, List.set_cons_succ]
    refine wpAnyH_read (i := 8) (d := some 22) (v := ?v8) (by rfl) (by rfl) (by kernel_rfl) (by kernel_rfl) (by kernel_rfl) (fun _ _ _ h => h) (by rfl) ?hy8 (by assumption) ?rest8
    case hy8 =>
      intro w hSw
      try dsimp only at hSw
      obtain ⟨s3, s0, s1, s2⟩ := hSw
      go_simp
      try with_reducible rfl
    try simp only [Act.put, List.setIfInBounds_toArray, List.set_cons_zero, List.set_cons_succ]
    refine wpAnyH_read (i := 9) (d := some 23) (v := ?v9) (by rfl) (by rfl) (by kernel_rfl) (by kernel_rfl) (by kernel_rfl) (fun _ _ _ h => h) (by rfl) ?hy9 (by assumption) ?rest9
    case hy9 =>
      intro w hSw
      try dsimp only at hSw
      obtain ⟨s3, s0, s1, s2⟩ := hSw
      go_simp
      try with_reducible rfl
    try simp only [Act.put, List.setIfInBounds_toArray, List.set_cons_zero, List.set_cons_succ]
    refine wpAnyH_read (i := 10) (d := some 24) (v := ?v10) (by rfl) (by rfl) (by kernel_rfl) (by kernel_rfl) (by kernel_rfl) (fun _ _ _ h => h) (by rfl) ?hy10 (by assumption) ?rest10
    case hy10 =>
      intro w hSw
      try dsimp only at hSw
      obtain ⟨s3, s0, s1, s2⟩ := hSw
      go_simp
      try with_reducible rfl
    try simp only [Act.put, List.setIfInBounds_toArray, List.set_cons_zero, List.set_cons_succ]
    refine wpAnyH_ready (rs := [5]) (by kernel_rfl) (by simp) ?_
    refine AllReadyH.cons rfl (fun K hK => ?_) AllReadyH.nil
    go_simp
    refine (place_any gen root note hg _).mono ?_
    rintro e w2 ⟨rfl, hb⟩
    have hbb : Below w1.heap.size w1 w2 := ((Below.refl w1.heap.size w1).drew).trans hb
    have H2 := Lib.hid (H1.out.below hbb)
    have HR2 := Lib.hid (has_blw HR1.out hbb)
    have HC2 := Lib.hid (HC1.out.trans (Chg.of_below hbb (Dv.Own F.d F.dk F.dd)))
    have e3 := Has.at_ H2.out.obj 3
    have e0 := Has.at_ HR2.out 0
    have e1 := Has.at_ HR2.out 1
    have e2 := Has.at_ HR2.out 2
    simp at e3 e0 e1 e2
    clear hb hbb
    refine hK.out _ _ (⟨e3, e0, e1, e2⟩) (fun hHeld => ?_)
    clear hK K
    try simp only [Act.put, List.setIfInBounds_toArray, List.set_cons_zero, List.set_cons_succ]
    refine wpAnyH_ready (rs := [11]) (by kernel_rfl) (by simp) ?_
    refine AllReadyH.cons rfl (fun K hK => ?_) AllReadyH.nil
    go_simp
    refine (size_dev F.d F.dk F.dd d1 w2 H2.out.dev).mono ?_
    rintro e w' ⟨rfl, rfl⟩
    refine hK.out _ _ (⟨e3, e0, e1, e2⟩) (fun hHeld => ?_)
    clear hK K
    try simp only [Act.put, List.setIfInBounds_toArray, List.set_cons_zero, List.set_cons_succ]
    refine wpAnyH_ready (rs := [12]) (by kernel_rfl) (by simp) ?_
    refine AllReadyH.cons rfl (fun K hK => ?_) AllReadyH.nil
    go_simp
    refine (begin_bytes gen root d1.size note hd w2).mono ?_
    rintro e w3 ⟨rfl, hbb⟩
    have H3 := Lib.hid (H2.out.below hbb)
    have HR3 := Lib.hid (has_blw HR2.out hbb)
    have HC3 := Lib.hid (HC2.out.trans (Chg.of_below hbb (Dv.Own F.d F.dk F.dd)))
    have g3 := Has.at_ H3.out.obj 3
    have g0 := Has.at_ HR3.out 0
    have g1 := Has.at_ HR3.out 1
    have g2 := Has.at_ HR3.out 2
    simp at g3 g0 g1 g2
    clear hbb
    refine hK.out _ _ (⟨g3, g0, g1, g2⟩) (fun hHeld => ?_)
    clear hK K
    try simp only [Act.put, List.setIfInBounds_toArray, List.set_cons_zero, List.set_cons_succ]
    refine wpAnyH_ready (rs := [13]) (by kernel_rfl) (by simp) ?_
    refine AllReadyH.cons rfl (fun K hK => ?_) AllReadyH.nil
    go_simp
    refine (Dv.write_all F.d F.dk F.dd d1 (gen % 2) (beginB gen root d1.size note) w3 H3.out.dev).mono ?_
    rintro e w4 ⟨rfl, hd4, hc4⟩
    rw [HE3.out]
    rw [HD3.out] at hd4
    have H4 := Lib.hid (H3.out.devs hd4 (Oct.Chg.of hc4))
    have HR4 := Lib.hid (HR3.out.over (Oct.Chg.of hc4) (fun e => by
      have hdo : Has _ F.d _ _ := H3.out.dev.obj
      rcases e with e | e | e
      · exact has_ne HR3.out hdo (by decide) e
      · exact map_ne H3.out.dev.kept HR3.out e.symm
      · exact map_ne H3.out.dev.dirt HR3.out e.symm))
    have HC4 := Lib.hid (HC3.out.trans (Oct.Chg.of hc4))
    have k3 := Has.at_ H4.out.obj 3
    have k0 := Has.at_ HR4.out 0
    have k1 := Has.at_ HR4.out 1
    have k2 := Has.at_ HR4.out 2
    simp at k3 k0 k1 k2
    clear hd4 hc4
    refine hK.out _ _ (⟨k3, k0, k1, k2⟩) (fun hHeld => ?_)
    clear hK K
    try simp only [Act.put, List.setIfInBounds_toArray, List.set_cons_zero, List.set_cons_succ]
    refine wpAnyH_read (i := 14) (d := some 4) (v := ?v11) (by rfl) (by rfl) (by kernel_rfl) (by kernel_rfl) (by kernel_rfl) (fun _ _ _ h => h) (by rfl) ?hy11 (by assumption) ?rest11
    case hy11 =>
      intro w hSw
      try dsimp only at hSw
      obtain ⟨s3, s0, s1, s2⟩ := hSw
      go_simp
      try with_reducible rfl
    try simp only [Act.put, List.setIfInBounds_toArray, List.set_cons_zero, List.set_cons_succ]
    refine wpAnyH_done (by kernel_rfl) ?_ _
    clear hHeld k3 k0 k1 k2 g3 g0 g1 g2 e3 e0 e1 e2 c3 b0 b1 b2
    go_wp2
    go_ret
    exact ⟨rfl, H4.out, HC4.out⟩
  · have hne : (E1 != 0) = true := by simpa using h0
    have he : E = E1 := by rw [← HE.out]; exact if_neg h0
    have hz : Z = d1 := by rw [← HE2.out]; exact if_neg h0
    subst he
    subst hz
    clear h0 HE HE2
    go_wp2
    go_ret
    exact ⟨rfl, H1.out, HC1.out⟩
end Go.Proofs.YthejlenafjnmkaaGreat.Sto
/- Blocks are kept; a commit: contracts. -/
namespace Go.Proofs.YthejlenafjnmkaaGreat.Sto
open Go.RowKit
open Oct (Has Chg)
open Rws
open Mem (IMap)

/-- What is kept when a block is kept, and all below it (at most so many levels). -/
def keepV (f : Int → Option NodeV) : Nat → (Int → Bool) → Int → (Int → Bool)
  | 0, K, _ => K
  | n + 1, K, id => if K id = true then K else match f id with
    | none => K
    | some nd => nd.kids.foldl (keepV f n) (fun z => z == id || K z)
/-- Blocks stand below those that name them. -/
def Down (f : Int → Option NodeV) : Prop := ∀ z n, f z = some n → 1 ≤ n.high ∧ n.kids.length ≤ 1000 ∧ ∀ k ∈ n.kids, ∃ m, f k = some m ∧ m.high < n.high
theorem StoIs.keepOne {w w6 : World} {p : Nat} {F : Fr} {s : SV} (h : StoIs w p F s) {id : Int}
    (hm : IMap w6 F.k (Mem.upd (keptM s.kept) id (.agg #[]))) (hc : Chg (· = F.k) w w6) : StoIs w6 p F { s with kept := fun z => z == id || s.kept z } := by
  have pk : p ≠ F.k := fun e => map_ne h.kept h.obj e.symm
  have dk : F.d ≠ F.k := fun e => map_ne h.kept (show Oct.Has w F.d _ _ from h.dev.obj) e.symm
  refine ⟨h.obj.over hc pk, h.dev.over hc.to dk h.kdk.symm h.kdd.symm, h.there.over hc.to h.tk, ?_, fun z m hz => ?_, h.inj, h.tk, h.tdk, h.tdd, h.kdk, h.kdd⟩
  · have e : keptM (fun z => z == id || s.kept z) = Mem.upd (keptM s.kept) id (.agg #[]) := by
      funext z
      unfold keptM Mem.upd
      by_cases e : z = id
      · simp [e]
      · have : (z == id) = false := beq_eq_false_iff_ne.2 e
        simp [e]
    show IMap w6 F.k (keptM (fun z => z == id || s.kept z))
    rw [e]
    exact hm
  · obtain ⟨A, c, k1, k2⟩ := h.node z m hz
    exact ⟨A, c, k1.over hc (fun e => map_ne h.kept k1 e.symm), own_map k2 h.kept hc⟩
theorem map_cell {w : World} {b g off : Nat} {m : Int → Option Value} {v : Value} (h : IMap w g m) (hb : b = g) (hc : w.cell? ⟨b, off, none⟩ = some v) : False := by
  subst hb
  rw [h.no_cell] at hc
  cases hc
theorem row_of_own {w : World} {b n : Nat} {A : Option Addr} {c : Nat} {l : List Int} (h : w.ownsRow b 3 1 (.slice A n c) n (l.map (Value.int .i64))) (hl : l.length = n) : NumRow w A n l := by
  refine ⟨hl, fun hn => ?_⟩
  rcases h.2 with ⟨e, e0⟩ | ⟨g, cap, cur, e, hb, hh, k⟩
  · omega
  · injection e with e1 e2 e3
    subst e1
    refine ⟨g, 0, rfl, (Array.getElem?_eq_some_iff.1 hh).1, fun i hi => ?_⟩
    have hs : w.ownsRow b 3 1 (.slice (some ⟨g, 0, none⟩) n c) n (l.map (Value.int .i64)) := h
    have := World.ownsRow.cells hs (g := g) rfl i (.int .i64 l[i]) (by rw [List.getElem?_map, List.getElem?_eq_getElem hi]; rfl)
    have ha : (⟨g, 0, none⟩ : Addr).add i = ⟨g, 0 + i, none⟩ := by
      unfold Addr.add
      split
      · next h => rw [h]
      · simp
    rw [ha] at this
    exact this
set_option maxRecDepth 100000 in
set_option maxHeartbeats 2000000 in
theorem keep_sto (p : Nat) (F : Fr) (n : Nat) : ∀ (s : SV) (_ : Down s.nodes) (id : Int) (nd : NodeV) (_ : s.nodes id = some nd) (_ : nd.high ≤ n) (w : World) (_ : StoIs w p F s),
    Calls Tryz.prog 49 #[.pointer (some ⟨p, 0, none⟩), .int .i64 id] w fun e w' => e = .returned (.tuple #[]) ∧ StoIs w' p F { s with kept := keepV s.nodes n s.kept id } ∧ Chg (· = F.k) w w' := by
  induction n with
  | zero =>
    intro s hdn id nd hnd hh w h
    have := (hdn id nd hnd).1
    omega
  | succ n ih =>
    intro s hdn id nd hnd hh w h
    have HIH := Lib.hid ih
    have hl := (h.kept.lookup mapK Dv.intT (.agg #[]) zero_unit id).2
    have e1 : (keptM s.kept id).isSome = s.kept id := by unfold keptM; cases s.kept id <;> rfl
    have e2 : (keptM s.kept id).getD (.agg #[]) = .agg #[] := by unfold keptM; cases s.kept id <;> rfl
    rw [e1, e2] at hl
    have c5 := Has.at_ h.obj 5
    simp at c5
    have hB0 := (Below.refl w.heap.size w).alloc (Nat.le_refl _) (.cells #[] 135)
    have HB0 := Lib.hid hB0
    have H0 := Lib.hid (h.below hB0)
    have HDN := Lib.hid hdn
    have HND := Lib.hid hnd
    have HHI := Lib.hid hh
    clear e1 e2 ih hdn hnd hh h hB0
    cases hk : s.kept id with
    | true =>
      have HE := Lib.hid (show keepV s.nodes (n + 1) s.kept id = s.kept from if_pos hk)
      rw [hk] at hl
      go_enter Tryz.func49, Tryz.ntmps49
      go_wp2
      exact bodyPost_ret (v := .tuple #[]) (by simp [results, Tryz.results49, go_sem]) rfl ⟨rfl, by rw [HE.out]; exact H0.out, Chg.of_below HB0.out _⟩
    | false =>
      have HE := Lib.hid (show keepV s.nodes (n + 1) s.kept id = nd.kids.foldl (keepV s.nodes n) (fun z => z == id || s.kept z) by
        show (if s.kept id = true then s.kept else match s.nodes id with | none => s.kept | some nd => nd.kids.foldl (keepV s.nodes n) (fun z => z == id || s.kept z)) = _
        rw [if_neg (by rw [hk]; decide), HND.out])
      rw [hk] at hl
      have d5 := Has.at_ H0.out.obj 5
      simp at d5
      obtain ⟨w6, hu, m6, g6, z6⟩ := H0.out.kept.update mapK Dv.intT id (.agg #[])
      have h6 := H0.out.keepOne m6 (Oct.Chg.of g6)
      have c4 := Has.at_ h6.obj 4
      simp at c4
      have hl2 := (h6.there.lookup mapN Dv.intT (.pointer none) zero_node id).1
      have e3 : (thereM F s.nodes id).getD (.pointer none) = .pointer (some ⟨F.g id, 0, none⟩) := by unfold thereM; rw [HND.out]; rfl
      replace hl2 : (Instr.lookup 85 (.map (some F.t)) (.int .i64 id) false).run Tryz.prog w6 = .ok (.pointer (some ⟨F.g id, 0, none⟩)) w6 := by rw [← e3]; exact hl2
      obtain ⟨A2, c2, q1, q2⟩ := h6.node id nd HND.out
      have k0 := Has.at_ q1 0
      simp [nodeC] at k0
      have HROW := Lib.hid (row_of_own q2 rfl)
      have HQ1 := Lib.hid q1
      have HQ2 := Lib.hid q2
      have HKM := Lib.hid h6.kept
      have H6 := Lib.hid (show StoIs w6 p F { s with kept := (nd.kids.take 0).foldl (keepV s.nodes n) (fun z => z == id || s.kept z) } from h6)
      have HC6 := Lib.hid ((Chg.of_below HB0.out (· = F.k)).trans (Oct.Chg.of g6))
      have HLN := Lib.hid ((HDN.out id nd HND.out).2.1)
      clear m6 g6 z6 h6 e3 q1 q2 H0 HB0 hk
      go_enter Tryz.func49, Tryz.ntmps49
      go_wp2
      clear hl c5 d5 hu c4 hl2 k0
      go_loopw [34] (fun i wr => ∃ j : Nat, j ≤ nd.kids.length ∧ i = .int .i64 j ∧ Hid (StoIs wr p F { s with kept := (nd.kids.take j).foldl (keepV s.nodes n) (fun z => z == id || s.kept z) }) ∧ Hid (Chg (· = F.k) w wr) ∧ Hid (Chg (· = F.k) w6 wr)) (fun i _ => nd.kids.length - (intOf i).toNat)
      case atStart => exact ⟨0, Nat.zero_le _, rfl, H6, HC6, Lib.hid (Chg.refl _ _)⟩
      case round =>
        obtain ⟨j, hj, rfl, HJ, HC, HCW⟩ := hrel
        clear H6 HC6
        have hl9 := HLN.out
        have hrow := row_chg HROW.out HCW.out (fun h0 b off e hb => by
          obtain ⟨b', off', e', hlt', hx'⟩ := HROW.out.2 h0
          rw [e] at e'
          injection e' with e'
          injection e' with e1 e2 e3
          have hq := hx' 0 (by omega)
          rw [← e1] at hq
          exact map_cell HKM.out hb hq)
        by_cases hlt : j < nd.kids.length
        · obtain ⟨b, off, rfl, hbl, hcl⟩ := hrow.2 (by omega)
          have k1 := hcl j hlt
          obtain ⟨mk, hm1, hm2⟩ := (HDN.out id nd HND.out).2.2 nd.kids[j] (List.getElem_mem hlt)
          have HR := Lib.hid (HIH.out { s with kept := (nd.kids.take j).foldl (keepV s.nodes n) (fun z => z == id || s.kept z) } HDN.out nd.kids[j] mk hm1 (by have := HHI.out; omega) wr HJ.out)
          have HT := Lib.hid (show (nd.kids.take (j + 1)).foldl (keepV s.nodes n) (fun z => z == id || s.kept z) = keepV s.nodes n ((nd.kids.take j).foldl (keepV s.nodes n) (fun z => z == id || s.kept z)) nd.kids[j] by
            rw [List.take_succ_eq_append_getElem hlt, List.foldl_append]
            rfl)
          clear hrow hcl hbl hm1 hm2
          generalize nd.kids[j] = kid at *
          go_wp2_with fail
          refine HR.out.mono ?_
          rintro e w7 ⟨rfl, h7, c7⟩
          have HS := Lib.hid (show StoIs w7 p F { s with kept := (nd.kids.take (j + 1)).foldl (keepV s.nodes n) (fun z => z == id || s.kept z) } by rw [HT.out]; exact h7)
          have HC7 := Lib.hid (HC.out.trans c7)
          have HCW7 := Lib.hid (HCW.out.trans c7)
          clear h7 c7 HR
          go_wp2
          go_roundw
          case rel => exact ⟨j + 1, by omega, by go_num, HS, HC7, HCW7⟩
          case measure => simp [intOf]; omega
        · have hje : j = nd.kids.length := by omega
          have hfull : nd.kids.take j = nd.kids := List.take_of_length_le (by omega)
          rw [hfull] at HJ
          subst hje
          go_wp2
          go_end0
          exact ⟨rfl, by rw [HE.out]; exact HJ.out, HC.out⟩
end Go.Proofs.YthejlenafjnmkaaGreat.Sto
/- A commit: contract. -/
namespace Go.Proofs.YthejlenafjnmkaaGreat.Sto
open Go.RowKit
open Oct (Has Chg)
open Rws
open Mem (IMap)

theorem own_cells {w w' : World} {b g n : Nat} {v : Value} {xs : List Value} {t : TypeId} {cs : Array Value} (h : w.ownsRow b 3 1 v n xs) (hg : Has w g t cs) (hc : Chg (· = g) w w') (hne : 3 ≠ t) : w'.ownsRow b 3 1 v n xs := own_apart h hg hc hne
/-- The last commit is written down. -/
theorem StoIs.begins {w : World} {p : Nat} {F : Fr} {s : SV} (h : StoIs w p F s) (gen root : Int) (note : ByteArray) :
    StoIs (((w.setCell ⟨p, 0, none⟩ (.int .i64 gen)).setCell ⟨p, 1, none⟩ (.int .i64 root)).setCell ⟨p, 2, none⟩ (.string note)) p F { s with gen := gen, root := root, note := note } := by
  have hc : Chg (· = p) w (((w.setCell ⟨p, 0, none⟩ (.int .i64 gen)).setCell ⟨p, 1, none⟩ (.int .i64 root)).setCell ⟨p, 2, none⟩ (.string note)) :=
    (((Chg.refl (· = p) w).setCell (p := ⟨p, 0, none⟩) (.inl rfl) _).setCell (p := ⟨p, 1, none⟩) (.inl rfl) _).setCell (p := ⟨p, 2, none⟩) (.inl rfl) _
  have hdo : Has w F.d _ _ := h.dev.obj
  refine ⟨Oct.Has.put (Oct.Has.put (Oct.Has.put h.obj 0 _) 1 _) 2 _, h.dev.over hc.to (has_ne hdo h.obj (by decide)) (map_ne h.dev.kept h.obj) (map_ne h.dev.dirt h.obj), h.there.over hc.to (map_ne h.there h.obj), h.kept.over hc.to (map_ne h.kept h.obj), fun z n hz => ?_, h.inj, h.tk, h.tdk, h.tdd, h.kdk, h.kdd⟩
  obtain ⟨A, c, k1, k2⟩ := h.node z n hz
  exact ⟨A, c, k1.over hc (has_ne k1 h.obj (by decide)), own_apart k2 h.obj hc (by decide)⟩
/-- Nothing is kept any more. -/
theorem StoIs.unkept {w w6 : World} {p : Nat} {F : Fr} {s : SV} (h : StoIs w p F s) (hm : IMap w6 F.k (fun _ => none)) (hc : Chg (· = F.k) w w6) : StoIs w6 p F { s with kept := fun _ => false } := by
  have pk : p ≠ F.k := fun e => map_ne h.kept h.obj e.symm
  have dk : F.d ≠ F.k := fun e => map_ne h.kept (show Oct.Has w F.d _ _ from h.dev.obj) e.symm
  refine ⟨h.obj.over hc pk, h.dev.over hc.to dk h.kdk.symm h.kdd.symm, h.there.over hc.to h.tk, hm, fun z m hz => ?_, h.inj, h.tk, h.tdk, h.tdd, h.kdk, h.kdd⟩
  obtain ⟨A, c, k1, k2⟩ := h.node z m hz
  exact ⟨A, c, k1.over hc (fun e => map_ne h.kept k1 e.symm), own_map k2 h.kept hc⟩
/-- What a commit comes to that may be. -/
def commitD (s : SV) (root : Int) (note : ByteArray) : Dv.St := if layE s.dev (s.gen + 1) root note = 0 then Dv.flD (layD s.dev (s.gen + 1) root note) else layD s.dev (s.gen + 1) root note
def commitE (s : SV) (root : Int) (note : ByteArray) : Int := if layE s.dev (s.gen + 1) root note = 0 then Dv.flE (layD s.dev (s.gen + 1) root note) else layE s.dev (s.gen + 1) root note
def keptOf (s : SV) (root : Int) : Int → Bool := if root = 0 then fun _ => false else keepV s.nodes 64 (fun _ => false) root
def commitV (s : SV) (root : Int) (note : ByteArray) : SV := if commitE s root note = 0 then ⟨s.gen + 1, root, note, s.nodes, keptOf s root, commitD s root note⟩ else { s with dev := commitD s root note }
/-- What a commit changes of what was there. -/
def ComS (p : Nat) (F : Fr) (k : Nat) : Prop := k = p ∨ k = F.k ∨ Dv.Own F.d F.dk F.dd k
set_option maxRecDepth 100000 in
set_option maxHeartbeats 2000000 in
/-- A commit of a root that is there. -/
theorem commit_sto (p : Nat) (F : Fr) (s : SV) (hlow : Low s) (hdn : Down s.nodes) (root : Int) (nd : NodeV) (hnd : s.nodes root = some nd) (hr0 : root ≠ 0) (note : ByteArray) (hnote : note.size ≤ 3900) (hg0 : 0 ≤ s.gen) (hg1 : s.gen < 1099511627776) (w : World) (h : StoIs w p F s) :
    Calls Tryz.prog 30 #[.pointer (some ⟨p, 0, none⟩), .int .i64 root, .string note] w fun e w' => e = .returned (.int .i64 (commitE s root note)) ∧ StoIs w' p F (commitV s root note) ∧ Chg (ComS p F) w w' := by
  have HH := Lib.hid h
  have HM := Lib.hid (made_sto p F s w h)
  have HS := Lib.hid (has_sto p F s root w h)
  rw [show (s.nodes root).isSome = true by rw [hnd]; rfl] at HS
  have t1 : (root != 0) = true := by simpa using hr0
  have t2 : ¬ 3900 < (note.size : Int) := by omega
  have t3 : (s.gen == 1099511627776) = false := beq_eq_false_iff_ne.2 (by omega)
  have HND := Lib.hid hnd
  have HDN := Lib.hid hdn
  have HHI := Lib.hid ((hlow root nd hnd).2)
  have HR0 := Lib.hid hr0
  have HNT := Lib.hid hnote
  have c0 := Has.at_ h.obj 0
  simp at c0
  obtain ⟨GEN, hGEN⟩ : ∃ G, s.gen = G := ⟨_, rfl⟩
  rw [hGEN] at c0 t3 hg0 hg1
  have HGN := Lib.hid hGEN
  have hB0 := (Below.refl w.heap.size w).alloc (Nat.le_refl _) (.cells #[.int .i64 (GEN + 1), .int .i64 root, .string note] 83)
  have HB0 := Lib.hid hB0
  have HRB := Lib.hid (Oct.Has.fresh w 83 #[.int .i64 (GEN + 1), .int .i64 root, .string note])
  obtain ⟨E1, hE1⟩ : ∃ E, layE s.dev (GEN + 1) root note = E := ⟨_, rfl⟩
  obtain ⟨Z1, hZ1⟩ : ∃ Z, layD s.dev (GEN + 1) root note = Z := ⟨_, rfl⟩
  have HLAY := Lib.hid (lay_sto p F s (GEN + 1) root note (by omega) hnote _ (h.below hB0) E1 Z1 hE1 hZ1)
  have HCE := Lib.hid (show commitE s root note = if E1 = 0 then Dv.flE Z1 else E1 by unfold commitE; rw [hGEN, hE1, hZ1])
  have HCD := Lib.hid (show commitD s root note = if E1 = 0 then Dv.flD Z1 else Z1 by unfold commitD; rw [hGEN, hE1, hZ1])
  clear h hnd hdn hlow hr0 hnote hB0 hGEN hE1 hZ1
  go_enter Tryz.func30, Tryz.ntmps30
  go_wp2_with fail
  refine HM.out.mono ?_
  rintro e w' ⟨rfl, rfl⟩
  go_wp2_with fail
  refine HS.out.mono ?_
  rintro e w' ⟨rfl, rfl⟩
  go_wp2_with fail
  refine HLAY.out.mono ?_
  rintro e w1 ⟨rfl, h1, c1⟩
  have H1 := Lib.hid h1
  have HC1 := Lib.hid ((Chg.of_below HB0.out (ComS p F)).trans (c1.mono fun k hk => (.inr (.inr hk) : ComS p F k)))
  have HR1 := Lib.hid (HRB.out.over c1 (fun e => by
    have h0 := HH.out.below HB0.out
    have hdo : Has _ F.d _ _ := h0.dev.obj
    rcases e with e | e | e
    · exact has_ne HRB.out hdo (by decide) e
    · exact map_ne h0.dev.kept HRB.out e.symm
    · exact map_ne h0.dev.dirt HRB.out e.symm))
  clear h1 c1 c0 HM HS HLAY
  by_cases h0 : E1 = 0
  · subst h0
    have HCE2 := Lib.hid (show commitE s root note = Dv.flE Z1 from HCE.out.trans (if_pos rfl))
    have HCD2 := Lib.hid (show commitD s root note = Dv.flD Z1 from HCD.out.trans (if_pos rfl))
    have c3 := Has.at_ H1.out.obj 3
    simp at c3
    have HFL := Lib.hid (Dv.flush_all F.d F.dk F.dd Z1 w1 H1.out.dev)
    go_wp2_with fail
    refine HFL.out.mono ?_
    rintro e w2 ⟨rfl, hd2, hc2⟩
    have H2 := Lib.hid (H1.out.devs hd2 (Oct.Chg.of hc2))
    have HC2 := Lib.hid (HC1.out.trans ((Oct.Chg.of hc2).mono fun k hk => (.inr (.inr hk) : ComS p F k)))
    have HR2 := Lib.hid (HR1.out.over (Oct.Chg.of hc2) (fun e => by
      have hdo : Has _ F.d _ _ := H1.out.dev.obj
      rcases e with e | e | e
      · exact has_ne HR1.out hdo (by decide) e
      · exact map_ne H1.out.dev.kept HR1.out e.symm
      · exact map_ne H1.out.dev.dirt HR1.out e.symm))
    clear hd2 hc2 c3 HFL
    obtain ⟨E2, hE2⟩ : ∃ E, Dv.flE Z1 = E := ⟨_, rfl⟩
    rw [hE2] at HCE2 ⊢
    clear hE2
    by_cases h0 : E2 = 0
    · subst h0
      have b0 := Has.at_ HR2.out 0
      have b1 := Has.at_ HR2.out 1
      have b2 := Has.at_ HR2.out 2
      have d0 := Has.at_ H2.out.obj 0
      have d1 := Has.at_ H2.out.obj 1
      have d2 := Has.at_ H2.out.obj 2
      have f0 := Has.free H2.out.obj 0
      have f1 := Has.free H2.out.obj 1
      have f2 := Has.free H2.out.obj 2
      simp at b0 b1 b2 d0 d1 d2
      have H3 := Lib.hid (H2.out.begins (GEN + 1) root note)
      have e5 := Has.at_ H3.out.obj 5
      simp at e5
      obtain ⟨w6, hu, m6, g6, z6⟩ := IMap.clear mapK H3.out.kept
      have H6 := Lib.hid (H3.out.unkept m6 (Oct.Chg.of g6))
      have HC6 := Lib.hid (((((HC2.out.setCell (p := ⟨p, 0, none⟩) (.inl (.inl rfl)) (.int .i64 (GEN + 1))).setCell (p := ⟨p, 1, none⟩) (.inl (.inl rfl)) (.int .i64 root)).setCell (p := ⟨p, 2, none⟩) (.inl (.inl rfl)) (.string note))).trans ((Oct.Chg.of g6).mono fun k hk => (.inr (.inl hk) : ComS p F k)))
      have HKP := Lib.hid (keep_sto p F 64 ⟨GEN + 1, root, note, s.nodes, fun _ => false, Dv.flD Z1⟩ HDN.out root nd HND.out HHI.out w6 H6.out)
      have HV := Lib.hid (show commitV s root note = ⟨GEN + 1, root, note, s.nodes, keepV s.nodes 64 (fun _ => false) root, Dv.flD Z1⟩ by
        unfold commitV
        rw [if_pos (HCE2.out), HCD2.out, HGN.out]
        unfold keptOf
        rw [if_neg HR0.out])
      clear m6 g6 z6
      go_wp2_with fail
      refine HKP.out.mono ?_
      rintro e w7 ⟨rfl, h7, c7⟩
      have HE := Lib.hid (show StoIs w7 p F (commitV s root note) by rw [HV.out]; exact h7)
      have HC7 := Lib.hid (HC6.out.trans (c7.mono fun k hk => (.inr (.inl hk) : ComS p F k)))
      clear h7 c7
      go_wp2
      go_ret
      exact ⟨by rw [HCE2.out]; rfl, HE.out, HC7.out⟩
    · have hne : (E2 != 0) = true := by simpa using h0
      have HV := Lib.hid (show commitV s root note = { s with dev := Dv.flD Z1 } by unfold commitV; rw [if_neg (by rw [HCE2.out]; exact h0), HCD2.out])
      clear h0
      go_wp2
      go_ret
      exact ⟨by rw [HCE2.out]; rfl, by rw [HV.out]; exact H2.out, HC2.out⟩
  · have hne : (E1 != 0) = true := by simpa using h0
    have HCE2 := Lib.hid (show commitE s root note = E1 from HCE.out.trans (if_neg h0))
    have HV := Lib.hid (show commitV s root note = { s with dev := Z1 } by unfold commitV; rw [if_neg (by rw [HCE2.out]; exact h0), HCD.out, if_neg h0])
    clear h0
    go_wp2
    go_ret
    exact ⟨by rw [HCE2.out]; rfl, by rw [HV.out]; exact H1.out, HC1.out⟩
end Go.Proofs.YthejlenafjnmkaaGreat.Sto
