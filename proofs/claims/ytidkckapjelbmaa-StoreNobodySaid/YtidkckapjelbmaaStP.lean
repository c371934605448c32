/- A commit: contract. -/
import Derived.Test.YtidkckapjelbmaaStO
namespace Go.Proofs.Ytidkckapjelbmaa.Sto
open Go.RowKit
open Oct (Has Chg)
open Rws
open Mem (IMap)

theorem own_cells {w w' : World} {b g n : Nat} {v : Value} {xs : List Value} {t : TypeId} {cs : Array Value} (h : w.ownsRow b 3 1 v n xs) (hg : Has w g t cs) (hc : Chg (· = g) w w') (hne : 3 ≠ t) : w'.ownsRow b 3 1 v n xs := own_apart h hg hc hne
/-- The last commit is written down. -/
theorem StoIs.begins {w : World} {p : Nat} {F : Fr} {s : SV} (h : StoIs w p F s) (gen root : Int) (note : ByteArray) :
    StoIs (((w.setCell ⟨p, 0, none⟩ (.int .i64 gen)).setCell ⟨p, 1, none⟩ (.int .i64 root)).setCell ⟨p, 2, none⟩ (.string note)) p F { s with gen := gen, root := root, note := note } := by
  have hc : Chg (· = p) w (((w.setCell ⟨p, 0, none⟩ (.int .i64 gen)).setCell ⟨p, 1, none⟩ (.int .i64 root)).setCell ⟨p, 2, none⟩ (.string note)) :=
    (((Chg.refl (· = p) w).setCell (p := ⟨p, 0, none⟩) (.inl rfl) _).setCell (p := ⟨p, 1, none⟩) (.inl rfl) _).setCell (p := ⟨p, 2, none⟩) (.inl rfl) _
  have hdo : Has w F.d _ _ := h.dev.obj
  refine ⟨Oct.Has.put (Oct.Has.put (Oct.Has.put h.obj 0 _) 1 _) 2 _, h.dev.over hc.to (has_ne hdo h.obj (by decide)) (map_ne h.dev.kept h.obj) (map_ne h.dev.dirt h.obj), h.there.over hc.to (map_ne h.there h.obj), h.kept.over hc.to (map_ne h.kept h.obj), fun z n hz => ?_, h.inj, h.tk, h.tdk, h.tdd, h.kdk, h.kdd⟩
  obtain ⟨A, c, k1, k2⟩ := h.node z n hz
  exact ⟨A, c, k1.over hc (has_ne k1 h.obj (by decide)), own_apart k2 h.obj hc (by decide)⟩
/-- Nothing is kept any more. -/
theorem StoIs.unkept {w w6 : World} {p : Nat} {F : Fr} {s : SV} (h : StoIs w p F s) (hm : IMap w6 F.k (fun _ => none)) (hc : Chg (· = F.k) w w6) : StoIs w6 p F { s with kept := fun _ => false } := by
  have pk : p ≠ F.k := fun e => map_ne h.kept h.obj e.symm
  have dk : F.d ≠ F.k := fun e => map_ne h.kept (show Oct.Has w F.d _ _ from h.dev.obj) e.symm
  refine ⟨h.obj.over hc pk, h.dev.over hc.to dk h.kdk.symm h.kdd.symm, h.there.over hc.to h.tk, hm, fun z m hz => ?_, h.inj, h.tk, h.tdk, h.tdd, h.kdk, h.kdd⟩
  obtain ⟨A, c, k1, k2⟩ := h.node z m hz
  exact ⟨A, c, k1.over hc (fun e => map_ne h.kept k1 e.symm), own_map k2 h.kept hc⟩
/-- What a commit comes to that may be. -/
def commitD (s : SV) (root : Int) (note : ByteArray) : Dv.St := if layE s.dev (s.gen + 1) root note = 0 then Dv.flD (layD s.dev (s.gen + 1) root note) else layD s.dev (s.gen + 1) root note
def commitE (s : SV) (root : Int) (note : ByteArray) : Int := if layE s.dev (s.gen + 1) root note = 0 then Dv.flE (layD s.dev (s.gen + 1) root note) else layE s.dev (s.gen + 1) root note
def keptOf (s : SV) (root : Int) : Int → Bool := if root = 0 then fun _ => false else keepV s.nodes 64 (fun _ => false) root
def commitV (s : SV) (root : Int) (note : ByteArray) : SV := if commitE s root note = 0 then ⟨s.gen + 1, root, note, s.nodes, keptOf s root, commitD s root note⟩ else { s with dev := commitD s root note }
/-- What a commit changes of what was there. -/
def ComS (p : Nat) (F : Fr) (k : Nat) : Prop := k = p ∨ k = F.k ∨ Dv.Own F.d F.dk F.dd k
set_option maxRecDepth 100000 in
set_option maxHeartbeats 2000000 in
/-- A commit of a root that is there. -/
theorem commit_sto (p : Nat) (F : Fr) (s : SV) (hlow : Low s) (hdn : Down s.nodes) (root : Int) (nd : NodeV) (hnd : s.nodes root = some nd) (hr0 : root ≠ 0) (note : ByteArray) (hnote : note.size ≤ 3900) (hg0 : 0 ≤ s.gen) (hg1 : s.gen < 1099511627776) (w : World) (h : StoIs w p F s) :
    Calls Try.prog 23 #[.pointer (some ⟨p, 0, none⟩), .int .i64 root, .string note] w fun e w' => e = .returned (.int .i64 (commitE s root note)) ∧ StoIs w' p F (commitV s root note) ∧ Chg (ComS p F) w w' := by
  have HH := Lib.hid h
  have HM := Lib.hid (made_sto p F s w h)
  have HS := Lib.hid (has_sto p F s root w h)
  rw [show (s.nodes root).isSome = true by rw [hnd]; rfl] at HS
  have t1 : (root != 0) = true := by simpa using hr0
  have t2 : ¬ 3900 < (note.size : Int) := by omega
  have t3 : (s.gen == 1099511627776) = false := beq_eq_false_iff_ne.2 (by omega)
  have HND := Lib.hid hnd
  have HDN := Lib.hid hdn
  have HHI := Lib.hid ((hlow root nd hnd).2)
  have HR0 := Lib.hid hr0
  have HNT := Lib.hid hnote
  have c0 := Has.at_ h.obj 0
  simp at c0
  obtain ⟨GEN, hGEN⟩ : ∃ G, s.gen = G := ⟨_, rfl⟩
  rw [hGEN] at c0 t3 hg0 hg1
  have HGN := Lib.hid hGEN
  have hB0 := (Below.refl w.heap.size w).alloc (Nat.le_refl _) (.cells #[.int .i64 (GEN + 1), .int .i64 root, .string note] 51)
  have HB0 := Lib.hid hB0
  have HRB := Lib.hid (Oct.Has.fresh w 51 #[.int .i64 (GEN + 1), .int .i64 root, .string note])
  obtain ⟨E1, hE1⟩ : ∃ E, layE s.dev (GEN + 1) root note = E := ⟨_, rfl⟩
  obtain ⟨Z1, hZ1⟩ : ∃ Z, layD s.dev (GEN + 1) root note = Z := ⟨_, rfl⟩
  have HLAY := Lib.hid (lay_sto p F s (GEN + 1) root note (by omega) hnote _ (h.below hB0) E1 Z1 hE1 hZ1)
  have HCE := Lib.hid (show commitE s root note = if E1 = 0 then Dv.flE Z1 else E1 by unfold commitE; rw [hGEN, hE1, hZ1])
  have HCD := Lib.hid (show commitD s root note = if E1 = 0 then Dv.flD Z1 else Z1 by unfold commitD; rw [hGEN, hE1, hZ1])
  clear h hnd hdn hlow hr0 hnote hB0 hGEN hE1 hZ1
  go_enter Try.func23, Try.ntmps23
  go_wp2_with fail
  refine HM.out.mono ?_
  rintro e w' ⟨rfl, rfl⟩
  go_wp2_with fail
  refine HS.out.mono ?_
  rintro e w' ⟨rfl, rfl⟩
  go_wp2_with fail
  refine HLAY.out.mono ?_
  rintro e w1 ⟨rfl, h1, c1⟩
  have H1 := Lib.hid h1
  have HC1 := Lib.hid ((Chg.of_below HB0.out (ComS p F)).trans (c1.mono fun k hk => (.inr (.inr hk) : ComS p F k)))
  have HR1 := Lib.hid (HRB.out.over c1 (fun e => by
    have h0 := HH.out.below HB0.out
    have hdo : Has _ F.d _ _ := h0.dev.obj
    rcases e with e | e | e
    · exact has_ne HRB.out hdo (by decide) e
    · exact map_ne h0.dev.kept HRB.out e.symm
    · exact map_ne h0.dev.dirt HRB.out e.symm))
  clear h1 c1 c0 HM HS HLAY
  by_cases h0 : E1 = 0
  · subst h0
    have HCE2 := Lib.hid (show commitE s root note = Dv.flE Z1 from HCE.out.trans (if_pos rfl))
    have HCD2 := Lib.hid (show commitD s root note = Dv.flD Z1 from HCD.out.trans (if_pos rfl))
    have c3 := Has.at_ H1.out.obj 3
    simp at c3
    have HFL := Lib.hid (Dv.flush_all F.d F.dk F.dd Z1 w1 H1.out.dev)
    go_wp2_with fail
    refine HFL.out.mono ?_
    rintro e w2 ⟨rfl, hd2, hc2⟩
    have H2 := Lib.hid (H1.out.devs hd2 (Oct.Chg.of hc2))
    have HC2 := Lib.hid (HC1.out.trans ((Oct.Chg.of hc2).mono fun k hk => (.inr (.inr hk) : ComS p F k)))
    have HR2 := Lib.hid (HR1.out.over (Oct.Chg.of hc2) (fun e => by
      have hdo : Has _ F.d _ _ := H1.out.dev.obj
      rcases e with e | e | e
      · exact has_ne HR1.out hdo (by decide) e
      · exact map_ne H1.out.dev.kept HR1.out e.symm
      · exact map_ne H1.out.dev.dirt HR1.out e.symm))
    clear hd2 hc2 c3 HFL
    obtain ⟨E2, hE2⟩ : ∃ E, Dv.flE Z1 = E := ⟨_, rfl⟩
    rw [hE2] at HCE2 ⊢
    clear hE2
    by_cases h0 : E2 = 0
    · subst h0
      have b0 := Has.at_ HR2.out 0
      have b1 := Has.at_ HR2.out 1
      have b2 := Has.at_ HR2.out 2
      have d0 := Has.at_ H2.out.obj 0
      have d1 := Has.at_ H2.out.obj 1
      have d2 := Has.at_ H2.out.obj 2
      have f0 := Has.free H2.out.obj 0
      have f1 := Has.free H2.out.obj 1
      have f2 := Has.free H2.out.obj 2
      simp at b0 b1 b2 d0 d1 d2
      have H3 := Lib.hid (H2.out.begins (GEN + 1) root note)
      have e5 := Has.at_ H3.out.obj 5
      simp at e5
      obtain ⟨w6, hu, m6, g6, z6⟩ := IMap.clear mapK H3.out.kept
      have H6 := Lib.hid (H3.out.unkept m6 (Oct.Chg.of g6))
      have HC6 := Lib.hid (((((HC2.out.setCell (p := ⟨p, 0, none⟩) (.inl (.inl rfl)) (.int .i64 (GEN + 1))).setCell (p := ⟨p, 1, none⟩) (.inl (.inl rfl)) (.int .i64 root)).setCell (p := ⟨p, 2, none⟩) (.inl (.inl rfl)) (.string note))).trans ((Oct.Chg.of g6).mono fun k hk => (.inr (.inl hk) : ComS p F k)))
      have HKP := Lib.hid (keep_sto p F 64 ⟨GEN + 1, root, note, s.nodes, fun _ => false, Dv.flD Z1⟩ HDN.out root nd HND.out HHI.out w6 H6.out)
      have HV := Lib.hid (show commitV s root note = ⟨GEN + 1, root, note, s.nodes, keepV s.nodes 64 (fun _ => false) root, Dv.flD Z1⟩ by
        unfold commitV
        rw [if_pos (HCE2.out), HCD2.out, HGN.out]
        unfold keptOf
        rw [if_neg HR0.out])
      clear m6 g6 z6
      go_wp2_with fail
      refine HKP.out.mono ?_
      rintro e w7 ⟨rfl, h7, c7⟩
      have HE := Lib.hid (show StoIs w7 p F (commitV s root note) by rw [HV.out]; exact h7)
      have HC7 := Lib.hid (HC6.out.trans (c7.mono fun k hk => (.inr (.inl hk) : ComS p F k)))
      clear h7 c7
      go_wp2
      go_ret
      exact ⟨by rw [HCE2.out]; rfl, HE.out, HC7.out⟩
    · have hne : (E2 != 0) = true := by simpa using h0
      have HV := Lib.hid (show commitV s root note = { s with dev := Dv.flD Z1 } by unfold commitV; rw [if_neg (by rw [HCE2.out]; exact h0), HCD2.out])
      clear h0
      go_wp2
      go_ret
      exact ⟨by rw [HCE2.out]; rfl, by rw [HV.out]; exact H2.out, HC2.out⟩
  · have hne : (E1 != 0) = true := by simpa using h0
    have HCE2 := Lib.hid (show commitE s root note = E1 from HCE.out.trans (if_neg h0))
    have HV := Lib.hid (show commitV s root note = { s with dev := Z1 } by unfold commitV; rw [if_neg (by rw [HCE2.out]; exact h0), HCD.out, if_neg h0])
    clear h0
    go_wp2
    go_ret
    exact ⟨by rw [HCE2.out]; rfl, by rw [HV.out]; exact H1.out, HC1.out⟩
end Go.Proofs.Ytidkckapjelbmaa.Sto
