import Derived.Test.YtidkckapjelbmaaStW

/- The package's example, in pure terms. -/
namespace Go.Proofs.Ytidkckapjelbmaa.Sto
open Go.RowKit

def oneN : Int → Option NodeV := fun z => if z = 2 then some ⟨[], 1, 0, 0⟩ else none
def twoN : Int → Option NodeV := fun z => if z = 2 then some ⟨[], 1, 1, 0⟩ else if z = 3 then some ⟨[2], 2, 0, 0⟩ else none
theorem one_nodes {s : SV} (h : s.nodes = fun _ => none) : (addV s 2 []).nodes = oneN := by
  funext z
  show insN s.nodes 2 (newNode s []) z = oneN z
  unfold insN oneN newNode
  rw [h]
  rfl
theorem two_nodes {s : SV} (h : s.nodes = oneN) : (addV s 3 [2]).nodes = twoN := by
  funext z
  show bump1 (insN s.nodes 3 (newNode s [2])) 2 z = twoN z
  unfold newNode
  rw [h]
  unfold bump1 insN twoN oneN
  by_cases e : z = 2
  · subst e
    simp [wrap64]
  · by_cases e3 : z = 3
    · subst e3
      rfl
    · simp [e, e3]
theorem two_down : Down twoN := by
  intro z n hz
  unfold twoN at hz
  split at hz
  · injection hz with hz
    subst hz
    exact ⟨by decide, by decide, fun k hk => by cases hk⟩
  · split at hz
    · injection hz with hz
      subst hz
      refine ⟨by decide, by decide, fun k hk => ?_⟩
      rw [List.mem_singleton.1 hk]
      exact ⟨⟨[], 1, 1, 0⟩, rfl, by decide⟩
    · cases hz
theorem two_low {s : SV} (h : s.nodes = twoN) : Low s := by
  intro z n hz
  rw [h] at hz
  unfold twoN at hz
  split at hz
  · injection hz with hz
    subst hz
    exact ⟨by decide, by decide⟩
  · split at hz
    · injection hz with hz
      subst hz
      exact ⟨by decide, by decide⟩
    · cases hz
def tA : ByteArray := ⟨#[97]⟩
def tB : ByteArray := ⟨#[98]⟩
def tN : ByteArray := ⟨#[110]⟩
def aZ : Dv.St := fmtZ ⟨#[]⟩ (Dv.newSt 8)
theorem a_calm : Calm aZ := ((((Calm.put ⟨rfl, rfl⟩ 0 _).put 1 _).fl).put 1 _).fl
theorem a_fmt : fmtV ⟨#[]⟩ (Dv.newSt 8) = (true, 0, aZ) := fmt_calm ⟨rfl, rfl⟩ (by decide) _ (by decide)
def aS0 : SV := bareV 1 0 ⟨#[]⟩ aZ
def aS1 : SV := addV { aS0 with dev := Dv.putD aZ 2 (blockB [] tA) } 2 []
theorem a_put1 : putV aS0 [] tA = (2, 0, aS1) := by
  obtain ⟨e1, e2⟩ := wr_calm a_calm (i := 2) (s := blockB [] tA) (by decide) (by decide) (by rw [blockB_size]; decide)
  unfold putV
  rw [if_pos (show canB aS0 [] tA = true by decide), show least aS0 = some 2 by rfl]
  unfold putAt
  show (if Dv.wrE aZ 2 (blockB [] tA) = 0 then _ else _) = _
  rw [if_pos e1]
  show ((2 : Int), (0 : Int), addV { aS0 with dev := Dv.wrD aZ 2 (blockB [] tA) } 2 []) = _
  rw [e2]
  rfl
theorem a_nodes1 : aS1.nodes = oneN := one_nodes rfl
def aS2 : SV := addV { aS1 with dev := Dv.putD aS1.dev 3 (blockB [2] tB) } 3 [2]
theorem a_nodes2 : aS2.nodes = twoN := two_nodes a_nodes1
theorem a_put2 : putV aS1 [2] tB = (3, 0, aS2) := by
  obtain ⟨e1, e2⟩ := wr_calm (a_calm.put 2 (blockB [] tA)) (i := 3) (s := blockB [2] tB) (by decide) (by decide) (by rw [blockB_size]; decide)
  have hc : canB aS1 [2] tB = true := by
    unfold canB allB aboveV
    rw [a_nodes1]
    decide
  have hl : least aS1 = some 3 := by
    show leastFrom aS1 6 2 = some 3
    unfold leastFrom
    rw [if_neg (show ¬ freeB aS1 ((2 : Nat) : Int) = true by unfold freeB; rw [a_nodes1]; decide)]
    unfold leastFrom
    rw [if_pos (show freeB aS1 ((2 + 1 : Nat) : Int) = true by unfold freeB; rw [a_nodes1]; rfl)]
  unfold putV
  rw [if_pos hc, hl]
  unfold putAt
  show (if Dv.wrE aS1.dev 3 (blockB [2] tB) = 0 then _ else _) = _
  rw [if_pos (show Dv.wrE aS1.dev 3 (blockB [2] tB) = 0 from e1)]
  show ((3 : Int), (0 : Int), addV { aS1 with dev := Dv.wrD aS1.dev 3 (blockB [2] tB) } 3 [2]) = _
  rw [show Dv.wrD aS1.dev 3 (blockB [2] tB) = Dv.putD aS1.dev 3 (blockB [2] tB) from e2]
  rfl
def aS3 : SV := { aS2 with nodes := heldN aS2.nodes 3 1 }
theorem a_calm3 : Calm aS3.dev := (a_calm.put 2 (blockB [] tA)).put 3 (blockB [2] tB)
def aD4 : Dv.St := calmFl (Dv.putD (calmFl aS3.dev) 0 (beginB 2 3 8 tN))
theorem a_commit : commitE aS3 3 tN = 0 ∧ commitV aS3 3 tN = ⟨2, 3, tN, aS3.nodes, keptOf aS3 3, aD4⟩ := by
  obtain ⟨e1, e2⟩ := commit_calm a_calm3 (by decide) 3 tN (by decide)
  exact ⟨e2, e1⟩
/-- The device behind a crash, and a start. -/
def aD5 : Dv.St := Dv.startD (Dv.crashD aD4 [])
theorem a_calm5 : Calm aD5 := ⟨rfl, rfl⟩
theorem a_re (i : Int) (h0 : 0 ≤ i) (h1 : i < 8) : Dv.rdE aD5 i = 0 := (rd_calm a_calm5 h0 (show i < aD5.size from h1)).1
theorem a_rd0 : Dv.rdS aD5 0 = beginB 2 3 8 tN := (rd_calm a_calm5 (by decide) (by decide)).2.trans rfl
theorem a_rd1 : Dv.rdS aD5 1 = beginB 1 0 8 ⟨#[]⟩ := (rd_calm a_calm5 (by decide) (by decide)).2.trans rfl
theorem a_rd2 : Dv.rdS aD5 2 = blockB [] tA := (rd_calm a_calm5 (by decide) (by decide)).2.trans rfl
theorem a_rd3 : Dv.rdS aD5 3 = blockB [2] tB := (rd_calm a_calm5 (by decide) (by decide)).2.trans rfl
theorem a_new : newV aD5 = ((2, 3, tN), 0) := by
  have g0 : parseG aD5.size (beginB 2 3 8 tN) = some (2, 3, tN) := parseG_back 8 2 3 tN (by decide) (.inr (by decide)) (by decide) (by decide) (by decide)
  have g1 : parseG aD5.size (beginB 1 0 8 ⟨#[]⟩) = some (1, 0, ⟨#[]⟩) := parseG_back 8 1 0 ⟨#[]⟩ (by decide) (.inl rfl) (by decide) (by decide) (by decide)
  unfold newV
  unfold scanV
  rw [if_pos (a_re 0 (by decide) (by decide)), a_rd0, g0]
  unfold scanV
  rw [if_pos (a_re 1 (by decide) (by decide)), a_rd1, g1]
  rfl
def aB : SV := bareV 2 3 tN aD5
def aL1 : SV := addV aB 2 []
def aL : SV := addV aL1 3 [2]
theorem a_nodesL : aL.nodes = twoN := two_nodes (one_nodes rfl)
theorem a_load : loadV 64 aB 3 = (0, aL) := by
  have p3 : parseB aB.dev.size (blockB [2] tB) = some ([2], tB) := parseB_back 8 [2] tB (fun k hk => by rw [List.mem_singleton.1 hk]; decide) (by decide) (by decide)
  have p2 : parseB aB.dev.size (blockB [] tA) = some ([], tA) := parseB_back 8 [] tA (fun k hk => by cases hk) (by decide) (by decide)
  have r3 : readV aB 3 = (some ([2], tB), 0) := by
    unfold readV
    rw [if_pos (show Dv.rdE aB.dev 3 = 0 from a_re 3 (by decide) (by decide)), show Dv.rdS aB.dev 3 = blockB [2] tB from a_rd3, p3]
    rfl
  have r2 : readV aB 2 = (some ([], tA), 0) := by
    unfold readV
    rw [if_pos (show Dv.rdE aB.dev 2 = 0 from a_re 2 (by decide) (by decide)), show Dv.rdS aB.dev 2 = blockB [] tA from a_rd2, p2]
    rfl
  have l2 : loadV 63 aB 2 = (0, aL1) := by
    unfold loadV
    rw [if_neg (show ¬ (aB.nodes 2).isSome = true by decide), r2]
    rfl
  have h1 : aL1.nodes = oneN := one_nodes rfl
  unfold loadV
  rw [if_neg (show ¬ (aB.nodes 3).isSome = true by decide), r3]
  show loadOut 3 [2] (loadKids (loadV 63) [2] aB) = _
  unfold loadKids
  rw [l2]
  show (if 64 < aboveV aL1.nodes [2] then ((5 : Int), aL1) else (0, addV aL1 3 [2])) = _
  rw [if_neg (show ¬ 64 < aboveV aL1.nodes [2] by rw [h1]; decide)]
  rfl
theorem a_open : openV aD5 = (some (rootV aL), 0) := by
  unfold openV
  rw [a_new]
  show openR (bareV 2 3 tN aD5) = _
  unfold openR
  rw [if_neg (show ¬ (bareV 2 3 tN aD5).root = 0 by decide)]
  show openL (loadV 64 aB 3) = _
  rw [a_load]
  rfl
end Go.Proofs.Ytidkckapjelbmaa.Sto

/- The package's example: how many blocks are free. -/
namespace Go.Proofs.Ytidkckapjelbmaa.Sto
open Go.RowKit

theorem same_len {a b : List Int} (ha : a.Nodup) (hb : b.Nodup) (h : ∀ z, z ∈ a ↔ z ∈ b) : a.length = b.length := ((List.perm_ext_iff_of_nodup ha hb).2 h).length_eq
theorem free_val {s : SV} {e : Ending} (h : FreeIs s e) (ks ls : List Int) (h1 : ks.Nodup) (h2 : ls.Nodup) (h3 : ∀ z, (s.nodes z).isSome = true ↔ z ∈ ks) (h4 : ∀ z, (s.kept z = true ∧ (s.nodes z).isSome = false) ↔ z ∈ ls) (v : Int)
    (hv : wrap64 ((s.dev.size : Int) - 2 - ks.length - ls.length) = v) : e = .returned (.int .i64 v) := by
  obtain ⟨ks', ls', k1, k2, k3, k4, rfl⟩ := h
  rw [same_len k1 h1 (fun z => (k2 z).trans (h3 z)), same_len k3 h2 (fun z => (k4 z).trans (h4 z)), hv]
theorem a_free0 {e : Ending} (h : FreeIs aS0 e) : e = .returned (.int .i64 6) :=
  free_val h [] [] List.nodup_nil List.nodup_nil (fun z => ⟨(fun h => by cases h), (fun h => by cases h)⟩) (fun z => ⟨(fun h => by cases h.1), (fun h => by cases h)⟩) 6 (show wrap64 6 = 6 by simp [wrap64])
theorem twoN_some (z : Int) : (twoN z).isSome = true ↔ z ∈ [(2 : Int), 3] := by
  unfold twoN
  by_cases e : z = 2
  · simp [e]
  · by_cases e3 : z = 3
    · simp [e3]
    · simp [e, e3]
theorem a_kept : keepV (heldN twoN 3 1) 64 (fun _ => false) 3 = fun z => z == 2 || (z == 3 || false) := by
  funext z
  rfl
theorem a_free {e : Ending} (h : FreeIs (rootV aL) e) : e = .returned (.int .i64 4) := by
  have hn : (rootV aL).nodes = heldN twoN 3 1 := by
    show heldN aL.nodes 3 1 = _
    rw [a_nodesL]
  have hk : (rootV aL).kept = fun z => z == 2 || (z == 3 || false) := by
    show keepV (heldN aL.nodes 3 1) 64 (fun _ => false) 3 = _
    rw [a_nodesL]
    exact a_kept
  refine free_val h [2, 3] [] (by decide) List.nodup_nil (fun z => ?_) (fun z => ⟨fun h => ?_, fun h => by cases h⟩) 4 (show wrap64 4 = 4 by simp [wrap64])
  · rw [hn, heldN_some]
    exact twoN_some z
  · rw [hn, heldN_some, hk] at h
    have h1 := h.1
    have h2 := h.2
    have h3 : z ∈ [(2 : Int), 3] := by
      simp at h1
      simp
      exact h1
    rw [(twoN_some z).2 h3] at h2
    cases h2
end Go.Proofs.Ytidkckapjelbmaa.Sto

/- The package's example: what its walk needs besides. -/
namespace Go.Proofs.Ytidkckapjelbmaa.Sto
open Go.RowKit
open Oct (Has Chg)
open Rws
open Mem (IMap)

/-- What lies on a device is of a bounded size. -/
def Bnd (d : Dv.St) : Prop := ∀ z s, (d.dirty z = some s ∨ d.kept z = some s) → s.size ≤ 4104
theorem Bnd.new (n : Nat) : Bnd (Dv.newSt n) := fun z s h => by rcases h with h | h <;> cases h
theorem Bnd.put {d : Dv.St} (h : Bnd d) {i : Int} {s : ByteArray} (hs : s.size ≤ 4104) : Bnd (Dv.putD d i s) := fun z t k => by
  rcases k with k | k
  · have k : (if z = i then some s else d.dirty z) = some t := k
    split at k
    · injection k with k
      rw [← k]
      exact hs
    · exact h z t (.inl k)
  · exact h z t (.inr k)
theorem Bnd.fl {d : Dv.St} (h : Bnd d) : Bnd (calmFl d) := fun z t k => by
  rcases k with k | k
  · cases k
  · have k : (d.dirty z).or (d.kept z) = some t := k
    cases hd : d.dirty z with
    | none => rw [hd] at k; exact h z t (.inr k)
    | some x => rw [hd] at k; exact h z t (.inl (hd.trans k))
theorem Bnd.crash {d : Dv.St} (h : Bnd d) : Bnd (Dv.crashD d []) := fun z t k => by
  rcases k with k | k
  · cases k
  · exact h z t (.inr k)
theorem Bnd.start {d : Dv.St} (h : Bnd d) : Bnd (Dv.startD d) := fun z t k => by
  unfold Dv.startD at k
  split at k
  · exact h z t k
  · rcases k with k | k
    · cases k
    · exact h z t (.inr k)
theorem Bnd.rd {d : Dv.St} (h : Bnd d) (i : Int) : (Dv.rdS d i).size ≤ 4104 := by
  unfold Dv.rdS Dv.readS
  split
  · cases hd : d.dirty i with
    | none =>
      cases hk : d.kept i with
      | none => decide
      | some x => exact h i x (.inr hk)
    | some x => exact h i x (.inl hd)
  · decide
theorem a_bnd5 : Bnd aD5 := by
  refine (Bnd.crash (Bnd.fl (Bnd.put (Bnd.fl (Bnd.put (Bnd.put (Bnd.fl (Bnd.put (Bnd.fl (Bnd.put (Bnd.put (Bnd.new 8) ?_) ?_)) ?_)) ?_) ?_)) ?_))).start
  · decide
  · decide
  · rw [beginB_size]; decide
  · rw [blockB_size]; decide
  · rw [blockB_size]; decide
  · rw [beginB_size]; decide
theorem a_get : getV (rootV aL) 2 = (some ([], tA), 0) := by
  have p2 : parseB (rootV aL).dev.size (blockB [] tA) = some ([], tA) := parseB_back 8 [] tA (fun k hk => by cases hk) (by decide) (by decide)
  unfold getV
  rw [if_pos (show ((rootV aL).nodes 2).isSome = true by show (heldN aL.nodes 3 1 2).isSome = true; rw [a_nodesL]; decide)]
  unfold readV
  rw [if_pos (show Dv.rdE (rootV aL).dev 2 = 0 from a_re 2 (by decide) (by decide)), show Dv.rdS (rootV aL).dev 2 = blockB [] tA from a_rd2, p2]
  rfl
theorem put_not {w : World} {p : Nat} {F : Fr} {s : SV} (h : StoIs w p F s) {g : Nat} {t : TypeId} {cs : Array Value} (hg : Has w g t cs) (hne : t ≠ 83) (hnd : t ≠ 71) : ¬ PutS F s g := by
  rintro (e | e | e | e)
  · exact add_not h hg hne e
  · have hdo : Has w F.d _ _ := h.dev.obj
    exact has_ne hg hdo hnd e
  · exact map_ne h.dev.kept hg e.symm
  · exact map_ne h.dev.dirt hg e.symm
/-- All of a store lies above B. -/
structure Fresh (B p : Nat) (F : Fr) (s : SV) : Prop where
  p : B ≤ p
  t : B ≤ F.t
  k : B ≤ F.k
  d : B ≤ F.d
  dk : B ≤ F.dk
  dd : B ≤ F.dd
  g : ∀ z, (s.nodes z).isSome = true → B ≤ F.g z
theorem Fresh.own {B p : Nat} {F : Fr} {s : SV} (h : Fresh B p F s) : ∀ k, Dv.Own F.d F.dk F.dd k → B ≤ k := by
  rintro k (e | e | e)
  · rw [e]; exact h.d
  · rw [e]; exact h.dk
  · rw [e]; exact h.dd
theorem Fresh.put {B p : Nat} {F : Fr} {s : SV} (h : Fresh B p F s) : ∀ k, PutS F s k → B ≤ k := by
  rintro k ((e | ⟨z, e1, e2⟩) | e)
  · rw [e]; exact h.t
  · rw [e2]; exact h.g z e1
  · exact h.own k e
theorem Fresh.com {B p : Nat} {F : Fr} {s : SV} (h : Fresh B p F s) : ∀ k, ComS p F k → B ≤ k := by
  rintro k (e | e | e)
  · rw [e]; exact h.p
  · rw [e]; exact h.k
  · exact h.own k e
end Go.Proofs.Ytidkckapjelbmaa.Sto
