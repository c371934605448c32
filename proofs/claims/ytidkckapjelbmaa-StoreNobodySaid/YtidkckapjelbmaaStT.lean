/- The store that lies on a device: contract of Open. -/
import Derived.Test.YtidkckapjelbmaaStS
namespace Go.Proofs.Ytidkckapjelbmaa.Sto
open Go.RowKit
open Oct (Has Chg)
open Rws
open Mem (IMap)

theorem heldN_down {f : Int → Option NodeV} (h : Down f) (k q : Int) : Down (heldN f k q) := by
  intro z n hz
  have e : ∃ m, f z = some m ∧ n.high = m.high ∧ n.kids = m.kids := by
    unfold heldN at hz
    split at hz
    · cases hf : f z with
      | none => rw [hf] at hz; cases hz
      | some m =>
        rw [hf] at hz
        injection hz with hz
        exact ⟨m, rfl, by rw [← hz], by rw [← hz]⟩
    · exact ⟨n, hz, rfl, rfl⟩
  obtain ⟨m, e1, e2, e3⟩ := e
  obtain ⟨h1, h2, h3⟩ := h z m e1
  refine ⟨by rw [e2]; exact h1, by rw [e3]; exact h2, fun x hx => ?_⟩
  rw [e3] at hx
  obtain ⟨y, y1, y2⟩ := h3 x hx
  unfold heldN
  split
  · exact ⟨_, by rw [y1]; rfl, by rw [e2]; exact y2⟩
  · exact ⟨y, y1, by rw [e2]; exact y2⟩
theorem below_chg {S : Nat → Prop} {B : Nat} {a w w' : World} (h : Below B a w) (hB : B ≤ w.heap.size) (hc : Chg S w w') (hs : ∀ k, S k → B ≤ k) : Below B a w' :=
  ⟨hc.os.trans h.os, hc.tape.trans h.tape, hc.output.trans h.output, Nat.le_trans h.size hc.size, fun i hi => (hc.block i (by omega) (fun k => by have := hs i k; omega)).trans (h.block i hi)⟩
/-- The root is held once, and kept with all below it. -/
def rootV (s : SV) : SV := { s with nodes := heldN s.nodes s.root 1, kept := keepV (heldN s.nodes s.root 1) 64 s.kept s.root }
def openL : Int × SV → Option SV × Int
  | (E, s) => if E = 0 then (some (rootV s), 0) else (none, E)
def openR (s : SV) : Option SV × Int := if s.root = 0 then (some s, 0) else openL (loadV 64 s s.root)
def openN (D : Dv.St) : BgV × Int → Option SV × Int
  | (b, E) => if E = 0 then openR (bareV b.1 b.2.1 b.2.2 D) else (none, E)
/-- What Open comes to. -/
def openV (D : Dv.St) : Option SV × Int := openN D (newV D)
def OOut (r : Option SV × Int) (d dk dd : Nat) (D : Dv.St) (B : Nat) (e : Ending) (w' : World) : Prop :=
  match r with
  | (some V, E) => ∃ p F, e = .returned (.tuple #[.pointer (some ⟨p, 0, none⟩), .int .i64 E]) ∧ Laid B V d dk dd p F w'
  | (none, E) => e = .returned (.tuple #[.pointer none, .int .i64 E]) ∧ Dv.DevIs w' d dk dd D
set_option maxRecDepth 100000 in
set_option maxHeartbeats 4000000 in
theorem open_dev (d dk dd : Nat) (D : Dv.St) (hsz : D.size ≠ 0) (hsm : ∀ i, (Dv.rdS D i).size ≤ 4104) (hdn : ∀ b, newV D = (b, 0) → ∀ s1, loadV 64 (bareV b.1 b.2.1 b.2.2 D) b.2.1 = (0, s1) → Down s1.nodes) (w : World) (h : Dv.DevIs w d dk dd D) (R : Option SV × Int) (hR : openV D = R) :
    Calls Try.prog 21 #[.pointer (some ⟨d, 0, none⟩)] w fun e w' => OOut R d dk dd D w.heap.size e w' ∧ Below w.heap.size w w' := by
  have HSZ := Lib.hid (size_dev d dk dd D w h)
  have t1 : (((D.size : Nat) : Int) == 0) = false := beq_eq_false_iff_ne.2 (by omega)
  have HH := Lib.hid h
  have HSM := Lib.hid hsm
  have HDN := Lib.hid hdn
  obtain ⟨b, E1, hb⟩ : ∃ b E1, newV D = (b, E1) := ⟨_, _, rfl⟩
  obtain ⟨g, ro, nt⟩ := b
  have HNW := Lib.hid (newest_dev d dk dd D hsm w h _ hb)
  have HR := Lib.hid (show (if E1 = 0 then openR (bareV g ro nt D) else (none, E1)) = R by rw [← hR]; unfold openV; rw [hb]; rfl)
  have HNV := Lib.hid hb
  clear h hsm hdn hR hsz hb
  go_enter Try.func21, Try.ntmps21
  go_wp2_with fail
  refine HSZ.out.mono ?_
  rintro e w' ⟨rfl, rfl⟩
  go_wp2_with fail
  refine HNW.out.mono ?_
  rintro e w1 ⟨rfl, hb1⟩
  have HB1 := Lib.hid hb1
  have HB2 := Lib.hid (hb1.alloc hb1.size (.cells #[.int .i64 g, .int .i64 ro, .string nt] 51))
  clear hb1 HSZ HNW
  by_cases h0 : E1 = 0
  · subst h0
    have HR1 := Lib.hid (show openR (bareV g ro nt D) = R by rw [← HR.out, if_pos rfl])
    have HO := Lib.hid (over_sto g ro nt d dk dd D _ (HH.out.below HB2.out))
    clear HR
    simp only [bgC]
    go_wp2_with fail
    refine HO.out.mono ?_
    rintro e w2 ⟨p, F, rfl, hst, e1, e2, e3, e4, e5, e6, e7⟩
    have hz : (w1.alloc (.cells #[.int .i64 g, .int .i64 ro, .string nt] 51)).heap.size = w1.heap.size + 1 := by simp
    have hz2 := HB1.out.size
    have HL := Lib.hid (show Laid w.heap.size (bareV g ro nt D) d dk dd p F w2 from ⟨hst, e1, e2, e3, by omega, by omega, by omega⟩)
    have HB3 := Lib.hid (HB2.out.trans (e7.mono (by omega)))
    have c1 := Has.at_ hst.obj 1
    simp [bareV] at c1
    clear hst e1 e2 e3 e4 e5 e6 e7 hz hz2 HO
    by_cases hr : ro = 0
    · subst hr
      have HR2 := Lib.hid (show (some (bareV g 0 nt D), 0) = R by rw [← HR1.out]; exact (if_pos rfl).symm)
      clear HR1
      go_wp2
      go_ret2
      exact ⟨by rw [← HR2.out]; exact ⟨p, F, rfl, HL.out⟩, HB3.out⟩
    · have hne : (ro == 0) = false := beq_eq_false_iff_ne.2 hr
      obtain ⟨E2, s1, hE⟩ : ∃ E2 s1, loadV 64 (bareV g ro nt D) ro = (E2, s1) := ⟨_, _, rfl⟩
      have HR2 := Lib.hid (show openL (E2, s1) = R by
        rw [← HR1.out, ← hE]
        exact (if_neg hr).symm)
      have HLD := Lib.hid (load_sto p 64 F (bareV g ro nt D) (fun z n hz => by cases hz) HSM.out (by omega) ro w2 HL.out.is)
      rw [hE] at HLD
      have HKP := Lib.hid (show Keeps (bareV g ro nt D) s1 by have := keeps_load 64 (bareV g ro nt D) ro; rw [hE] at this; exact this)
      clear HR1
      go_wp2_with fail
      refine HLD.out.mono ?_
      rintro e w3 ⟨rfl, F3, hg⟩
      have HB4 := Lib.hid (below_chg HB3.out (by have := HB3.out.size; omega) hg.chg (fun k hk => by
        rcases hk with e | ⟨z, e, _⟩
        · rw [e]
          exact HL.out.t
        · cases e))
      have HG := Lib.hid hg
      clear hg HLD
      by_cases h0 : E2 = 0
      · subst h0
        have HR3 := Lib.hid (show (some (rootV s1), 0) = R by rw [← HR2.out]; rfl)
        have hth := there_load 64 (bareV g ro nt D) ro
        rw [hE] at hth
        obtain ⟨nd, hnd⟩ := Option.isSome_iff_exists.1 (hth rfl)
        have hro : s1.root = ro := HKP.out.beg.2.1
        have hi := HG.out.is
        have c1 := Has.at_ hi.obj 1
        have c4 := Has.at_ hi.obj 4
        simp [hro] at c1 c4
        have hl := ((hi.there.below ((Below.refl w3.heap.size w3).drew)).lookup mapN Dv.intT (.pointer none) zero_node ro).1
        have e1 : (thereM F3 s1.nodes ro).getD (.pointer none) = .pointer (some ⟨F3.g ro, 0, none⟩) := by unfold thereM; rw [hnd]; rfl
        rw [e1] at hl
        obtain ⟨A2, c2, q1, q2⟩ := hi.node ro nd hnd
        have k2 := Has.at_ q1 3
        have k3 := Has.free q1 3
        simp [nodeC] at k2
        have HE := Lib.hid ((hi.below ((Below.refl w3.heap.size w3).drew)).holds hnd 1)
        have HGE := Lib.hid (show w.heap.size ≤ F3.g ro by
          have h1 := HB3.out.size
          rcases HG.out.old ro (by rw [hnd]; rfl) with ⟨e, _⟩ | e
          · cases e
          · omega)
        have HB5 := Lib.hid ((HB4.out.drew).setCell (p := ⟨F3.g ro, 3, none⟩) HGE.out (.int .i64 1))
        have HND := Lib.hid (show heldN s1.nodes ro 1 ro = some { nd with held := 1 } by
          unfold heldN
          rw [if_pos rfl, hnd]
          rfl)
        have HHI := Lib.hid ((HKP.out.low (fun z n hz => by cases hz)) ro nd hnd).2
        have HRV := Lib.hid (show rootV s1 = { s1 with nodes := heldN s1.nodes ro 1, kept := keepV (heldN s1.nodes ro 1) 64 s1.kept ro } by
          unfold rootV
          rw [hro])
        have HKE := Lib.hid (keep_sto p F3 64 { s1 with nodes := heldN s1.nodes ro 1 } (heldN_down (HDN.out (g, ro, nt) HNV.out s1 hE) ro 1) ro _ HND.out HHI.out _ HE.out)
        have e1 := Has.at_ HE.out.obj 1
        simp [hro] at e1
        clear hi q1 q2 hth HR2 hro hnd hE
        generalize F3.g ro = G at *
        go_wp2_with fail
        go_region
        go_wp2_with fail
        refine HKE.out.mono ?_
        rintro e w4 ⟨rfl, h4, c4⟩
        have HL4 := Lib.hid (show Laid w.heap.size (rootV s1) d dk dd p F3 w4 from ⟨by rw [HRV.out]; exact h4, HG.out.d.trans HL.out.d, HG.out.dk.trans HL.out.dk, HG.out.dd.trans HL.out.dd, HL.out.p, by rw [HG.out.t]; exact HL.out.t, by rw [HG.out.k]; exact HL.out.k⟩)
        have HB6 := Lib.hid (below_chg HB5.out HB5.out.size c4 (fun k hk => by
          rw [hk, HG.out.k]
          exact HL.out.k))
        clear h4 c4 HKE HE
        go_wp2
        go_ret2
        exact ⟨by rw [← HR3.out]; exact ⟨p, F3, rfl, HL4.out⟩, HB6.out⟩
      · have hne : (E2 != 0) = true := by simpa using h0
        have HR3 := Lib.hid (show (none, E2) = R by rw [← HR2.out]; exact (if_neg h0).symm)
        have HD := Lib.hid (HH.out.below HB4.out)
        clear h0 HR2
        go_wp2
        go_ret2
        exact ⟨by rw [← HR3.out]; exact ⟨rfl, HD.out⟩, HB4.out⟩
  · have hne : (E1 != 0) = true := by simpa using h0
    have HR1 := Lib.hid (show (none, E1) = R by rw [← HR.out, if_neg h0])
    have HD := Lib.hid (HH.out.below HB2.out)
    clear h0 HR
    simp only [bgC]
    go_wp2
    go_ret2
    exact ⟨by rw [← HR1.out]; exact ⟨rfl, HD.out⟩, HB2.out⟩
end Go.Proofs.Ytidkckapjelbmaa.Sto
