/- A store and its device, whatever befalls them: in pure terms. -/
import Derived.Test.YtkbpjegegjgbkaaGreatSwB
namespace Go.Proofs.YtkbpjegegjgbkaaGreat.Sto
open Go.RowKit
open Dv (DoV)
set_option linter.unusedVariables false

theorem rd_on {d : Dv.St} (h : d.on = true) {i : Int} (h0 : 0 ≤ i) (h1 : i < d.size) : Dv.rdE d i = 0 ∧ Dv.rdS d i = Dv.readS d i := by
  have hi : Dv.inside d i = true := by
    unfold Dv.inside
    simp [h0, h1]
  unfold Dv.rdE Dv.rdS
  rw [if_neg (by rw [h]; decide), if_neg (by rw [hi]; decide), if_pos ⟨h, hi⟩]
  exact ⟨rfl, rfl⟩
theorem act_on {d : Dv.St} (h : d.on = true) : (Dv.actE d = 5 ∧ d.fuse = 0 ∧ Dv.act d = { d with on := false }) ∨ (Dv.actE d = 0 ∧ ¬ d.fuse = 0 ∧ ∃ q, Dv.act d = { d with fuse := q }) := by
  by_cases h0 : d.fuse = 0
  · exact .inl ⟨if_pos h0, h0, if_pos h0⟩
  · refine .inr ⟨if_neg h0, h0, ?_⟩
    by_cases h1 : 0 < d.fuse
    · exact ⟨d.fuse - 1, (if_neg h0).trans (if_pos h1)⟩
    · exact ⟨d.fuse, (if_neg h0).trans (if_neg h1)⟩
theorem fl_on {d : Dv.St} (h : d.on = true) : (Dv.flE d = 5 ∧ Dv.flD d = { d with on := false }) ∨ (Dv.flE d = 0 ∧ ∃ q, Dv.flD d = { calmFl d with fuse := q }) := by
  unfold Dv.flE Dv.flD Dv.flushD
  rw [if_pos h, if_pos h]
  rcases act_on h with ⟨e1, e2, e3⟩ | ⟨e1, e2, q, e3⟩
  · exact .inl ⟨e1, by rw [if_pos e2, e3]⟩
  · exact .inr ⟨e1, q, by rw [if_neg e2, e3]; rfl⟩
theorem wr_on {d : Dv.St} (h : d.on = true) {i : Int} {s : ByteArray} (h0 : 0 ≤ i) (h1 : i < d.size) (hs : s.size ≤ 4096) : (Dv.wrE d i s = 5 ∧ Dv.wrD d i s = { d with on := false }) ∨ (Dv.wrE d i s = 0 ∧ ∃ q, Dv.wrD d i s = { Dv.putD d i s with fuse := q }) := by
  have hi : Dv.inside d i = true := by
    unfold Dv.inside
    simp [h0, h1]
  unfold Dv.wrE Dv.wrD Dv.writeD
  rw [if_neg (by rw [h]; decide), if_neg (by rw [hi]; intro k; rcases k with k | k; cases k; omega), if_pos ⟨h, hi, hs⟩]
  rcases act_on h with ⟨e1, e2, e3⟩ | ⟨e1, e2, q, e3⟩
  · exact .inl ⟨e1, by rw [if_pos e2, e3]⟩
  · exact .inr ⟨e1, q, by rw [if_neg e2, e3]; rfl⟩
/-- What a block holds. -/
def dataOf (N : Nat) (s : SV) (z : Int) : ByteArray := match parseB N (Dv.readS s.dev z) with
  | some b => b.2
  | none => ⟨#[]⟩
def treeOf (N : Nat) (s : SV) (root : Int) : Int → Option TV := fun z => if keptOf s root z = true then (s.nodes z).map fun n => ⟨n.high, n.kids, dataOf N s z⟩ else none
/-- The device tells each block that is there. -/
def TellsN (s : SV) : Prop := ∀ z n, s.nodes z = some n → n.kids.length ≤ 16 ∧ ∃ t : ByteArray, t.size ≤ 3900 ∧ Dv.readS s.dev z = blockB n.kids t
theorem data_is {N a : Nat} {s : SV} (hI : Inv N a s) (h : TellsN s) {z : Int} {n : NodeV} (hz : s.nodes z = some n) : n.kids.length ≤ 16 ∧ (dataOf N s z).size ≤ 3900 ∧ Dv.readS s.dev z = blockB n.kids (dataOf N s z) ∧ parseB N (Dv.readS s.dev z) = some (n.kids, dataOf N s z) := by
  obtain ⟨h1, t, h2, h3⟩ := h z n hz
  have hp : parseB N (Dv.readS s.dev z) = some (n.kids, t) := by
    rw [h3]
    refine parseB_back _ _ _ (fun k hk => ?_) h1 h2
    obtain ⟨m, hm, _⟩ := (hI.acc.down z n hz).2.2 k hk
    obtain ⟨i, e, e2, e3⟩ := hI.acc.ids k (by rw [hm]; rfl)
    have := hI.two
    unfold nameB
    constructor
    · simp
      omega
    · omega
  have e : dataOf N s z = t := by
    unfold dataOf
    rw [hp]
  rw [e]
  exact ⟨h1, h2, h3, hp⟩
theorem get_img {N a : Nat} {s : SV} (hI : Inv N a s) (ho : s.dev.on = true) (h : TellsN s) (z : Int) : getV s z = match s.nodes z with
  | some n => (some (n.kids, dataOf N s z), 0)
  | none => (none, 22) := by
  unfold getV
  cases hz : s.nodes z with
  | none => exact if_neg (by decide)
  | some n =>
    obtain ⟨i, e, e2, e3⟩ := hI.acc.ids z (by rw [hz]; rfl)
    have hr := rd_on ho (i := z) (by omega) (by have := hI.size; omega)
    obtain ⟨_, _, _, h4⟩ := data_is hI h hz
    refine (if_pos rfl).trans ?_
    unfold readV
    rw [if_pos hr.1, hr.2, hI.size, h4]
    rfl
theorem kept_at {N a : Nat} {s : SV} (hI : Inv N a s) {root : Int} (hr : root = 0 ∨ (s.nodes root).isSome = true) : (root ≠ 0 → keptOf s root root = true) ∧ ∀ z, keptOf s root z = true → ∀ m, s.nodes z = some m → ∀ k ∈ m.kids, keptOf s root k = true := by
  by_cases h0 : root = 0
  · refine ⟨fun h => (h h0).elim, fun z hz => ?_⟩
    unfold keptOf at hz
    rw [if_pos h0] at hz
    cases hz
  · obtain ⟨nd, hn⟩ := Option.isSome_iff_exists.1 (hr.resolve_left h0)
    have hd := keepV_done hI.acc.down 64 (fun _ => false) root nd hn (hI.low root nd hn).2
    have e : keptOf s root = keepV s.nodes 64 (fun _ => false) root := if_neg h0
    rw [e]
    exact ⟨fun _ => hd.1, fun z hz m hm k hk => hd.2 z hz rfl m hm k hk⟩
theorem tree_some {N a : Nat} {s : SV} (hI : Inv N a s) {root : Int} (hr : root = 0 ∨ (s.nodes root).isSome = true) (z : Int) : (treeOf N s root z).isSome = keptOf s root z := by
  unfold treeOf
  cases hk : keptOf s root z with
  | false => rfl
  | true =>
    rw [if_pos rfl]
    obtain ⟨n, hn⟩ := Option.isSome_iff_exists.1 (kept_in hI hr hk)
    rw [hn]
    rfl
theorem tree_is {N : Nat} {s : SV} {root z : Int} {v : TV} (h : treeOf N s root z = some v) : keptOf s root z = true ∧ ∃ n, s.nodes z = some n ∧ v = ⟨n.high, n.kids, dataOf N s z⟩ := by
  unfold treeOf at h
  split at h
  · rename_i hk
    refine ⟨hk, ?_⟩
    cases hn : s.nodes z with
    | none => rw [hn] at h; cases h
    | some n =>
      rw [hn] at h
      injection h with h
      exact ⟨n, rfl, h.symm⟩
  · cases h
theorem tree_of {N a : Nat} {s : SV} (hI : Inv N a s) (h : TellsN s) {root : Int} (hr : root = 0 ∨ (s.nodes root).isSome = true) : TreeT N (treeOf N s root) root := by
  obtain ⟨k1, k2⟩ := kept_at hI hr
  refine ⟨fun h0 => by rw [tree_some hI hr]; exact k1 h0, fun z v hv => ?_, fun z v hv => ?_, fun L h1 h2 z hz => ?_⟩
  · obtain ⟨_, n, hn, _⟩ := tree_is hv
    exact hI.acc.ids z (by rw [hn]; rfl)
  · obtain ⟨hk, n, hn, rfl⟩ := tree_is hv
    obtain ⟨d1, d2, _⟩ := data_is hI h hn
    have hlo := hI.low z n hn
    refine ⟨hlo.1, hlo.2, d1, d2, fun k hk' => ?_⟩
    obtain ⟨m, hm, hlt⟩ := (hI.acc.down z n hn).2.2 k hk'
    refine ⟨⟨m.high, m.kids, dataOf N s k⟩, ?_, hlt⟩
    unfold treeOf
    rw [if_pos (k2 z hk n hn k hk'), hm]
    rfl
  · rw [tree_some hI hr] at hz
    by_cases h0 : root = 0
    · unfold keptOf at hz
      rw [if_pos h0] at hz
      cases hz
    · have e : keptOf s root = keepV s.nodes 64 (fun _ => false) root := if_neg h0
      rw [e] at hz
      have := keepV_least (L := fun z => L z ∧ keptOf s root z = true) (f := s.nodes) (fun y m hy hm k hk => ⟨h2 y ⟨m.high, m.kids, dataOf N s y⟩ hy.1 (by unfold treeOf; rw [if_pos hy.2, hm]; rfl) k hk, k2 y hy.2 m hm k hk⟩) 64 (fun _ => false) root (fun z h => by cases h) ⟨h1 h0, k1 h0⟩ z hz
      exact this.1
/-- What holds of a store and its device. -/
structure Img (N : Nat) (s : SV) (T : Int → Option TV) : Prop where
  on : s.dev.on = true
  safe : Safe N s.dev s.gen s.root s.note T
  kept : ∀ z, s.kept z = (T z).isSome
  tells : TellsN s
theorem reads_some {d : Dv.St} {z : Int} {ks : List Int} {t : ByteArray} (h : Dv.readS d z = blockB ks t) : (d.dirty z).or (d.kept z) = some (blockB ks t) := by
  unfold Dv.readS at h
  cases ho : (d.dirty z).or (d.kept z) with
  | some b =>
    rw [ho] at h
    have h : b = blockB ks t := h
    rw [h]
  | none =>
    rw [ho] at h
    have h : (⟨#[]⟩ : ByteArray) = blockB ks t := h
    have h2 := blockB_size ks t
    rw [← h] at h2
    have h2 : (0 : Nat) = 4 * ks.length + t.size + 11 := h2
    omega
theorem read_fl (d : Dv.St) (z : Int) : Dv.readS (calmFl d) z = Dv.readS d z := by
  unfold Dv.readS
  show ((none : Option ByteArray).or ((d.dirty z).or (d.kept z))).getD ⟨#[]⟩ = _
  cases d.dirty z <;> cases d.kept z <;> rfl
theorem read_put (d : Dv.St) {z i : Int} (b : ByteArray) (h : z ≠ i) : Dv.readS (Dv.putD d i b) z = Dv.readS d z := by
  unfold Dv.readS
  show (((if z = i then some b else d.dirty z)).or (d.kept z)).getD ⟨#[]⟩ = _
  rw [if_neg h]
theorem read_at (d : Dv.St) (i : Int) (b : ByteArray) : Dv.readS (Dv.putD d i b) i = b := by
  unfold Dv.readS
  show (((if i = i then some b else d.dirty i)).or (d.kept i)).getD ⟨#[]⟩ = _
  rw [if_pos rfl]
  rfl
theorem tells_to {s s' : SV} (h : TellsN s) (hd : s'.dev = s.dev) (hs : ∀ z n, s'.nodes z = some n → ∃ m, s.nodes z = some m ∧ n.kids = m.kids) : TellsN s' := fun z n hz => by
  obtain ⟨m, hm, e⟩ := hs z n hz
  rw [hd, e]
  exact h z m hm
theorem Img.nodes {N : Nat} {s : SV} {T : Int → Option TV} (h : Img N s T) {f : Int → Option NodeV} (hs : ∀ z n, f z = some n → ∃ m, s.nodes z = some m ∧ n.kids = m.kids) : Img N { s with nodes := f } T :=
  ⟨h.on, h.safe, h.kept, tells_to (s' := { s with nodes := f }) h.tells rfl hs⟩
/-- A block is put. -/
theorem img_put {N a : Nat} {s : SV} {T : Int → Option TV} (hI : Inv N a s) (h : Img N s T) (kids : List Int) (data : ByteArray) :
    ((putV s kids data).2.1 ≠ 5 ∧ Img N (putV s kids data).2.2 T ∧ (putV s kids data).2.2.root = s.root ∧ (putV s kids data).2.2.note = s.note ∧ (putV s kids data).2.2.gen = s.gen) ∨
    ((putV s kids data).2.1 = 5 ∧ Safe N (putV s kids data).2.2.dev s.gen s.root s.note T) := by
  by_cases hc : canB s kids data = true
  · have e : putV s kids data = putAt s kids data (least s) := if_pos hc
    rw [e]
    obtain ⟨h1, h2, h3, h4⟩ := canB_parts hc
    cases hL : least s with
    | none => exact .inl ⟨(by decide : (28 : Int) ≠ 5), h, rfl, rfl, rfl⟩
    | some j =>
      obtain ⟨k1, k2, k3, k4⟩ := least_in hL
      have hb : (blockB kids data).size ≤ 4096 := by rw [blockB_size]; omega
      rcases wr_on h.on (i := j) (s := blockB kids data) (by omega) (by omega) hb with ⟨w1, w2⟩ | ⟨w1, q, w2⟩
      · rw [show putAt s kids data (some j) = (0, Dv.wrE s.dev j (blockB kids data), { s with dev := Dv.wrD s.dev j (blockB kids data) }) from if_neg (by rw [w1]; decide)]
        refine .inr ⟨w1, ?_⟩
        show Safe N (Dv.wrD s.dev j (blockB kids data)) _ _ _ _
        rw [w2]
        exact h.safe.same rfl rfl rfl
      · rw [show putAt s kids data (some j) = (((j : Nat) : Int), 0, addV { s with dev := Dv.wrD s.dev j (blockB kids data) } j kids) from if_pos w1]
        refine .inl ⟨(by decide : (0 : Int) ≠ 5), ?_, rfl, rfl, rfl⟩
        have hTj : ∀ z v, T z = some v → z ≠ (j : Int) := fun z v hz e => by
          have := h.kept j
          rw [k2, ← e, hz] at this
          cases this
        have hput : ∀ z b, AtD s.dev z b → z ≠ (j : Int) → AtD (Dv.wrD s.dev j (blockB kids data)) z b := fun z b hz hne => by
          rw [w2]
          exact hz.put hne
        have hsm := (h.safe.small.wr j (blockB kids data))
        obtain ⟨b, o1, o2⟩ := h.safe.oth
        refine ⟨?_, ⟨?_, hsm.1, h.safe.tree, fun z v hz => hput _ _ (h.safe.dev z v hz) (hTj z v hz), hput _ _ h.safe.beg (by show s.gen % 2 ≠ _; omega), h.safe.note, h.safe.gen, b, hput _ _ o1 (by show (s.gen + 1) % 2 ≠ _; omega), o2⟩, h.kept, fun z n hz => ?_⟩
        · show (Dv.wrD s.dev j (blockB kids data)).on = true
          rw [w2]
          exact h.on
        · exact hsm.2.trans h.safe.size
        · show n.kids.length ≤ 16 ∧ ∃ t : ByteArray, t.size ≤ 3900 ∧ Dv.readS (Dv.wrD s.dev j (blockB kids data)) z = blockB n.kids t
          rcases add_is (s := s) hI.acc k1 h1 hz with ⟨e, _, e2, _⟩ | ⟨m, hm, e1, _, _⟩
          · rw [e2, e, w2]
            exact ⟨h1, data, h2, read_at _ _ _⟩
          · have hne : z ≠ (j : Int) := fun e => by rw [e, k1] at hm; cases hm
            obtain ⟨t1, t, t2, t3⟩ := h.tells z m hm
            rw [e1, w2]
            exact ⟨t1, t, t2, (read_put _ _ hne).trans t3⟩
  · have e : putV s kids data = (0, 22, s) := if_neg hc
    rw [e]
    exact .inl ⟨(by decide : (22 : Int) ≠ 5), h, rfl, rfl, rfl⟩
/-- A commit. -/
theorem img_commit {N a : Nat} {s : SV} {T : Int → Option TV} (hI : Inv N a s) (ha : a ≤ 1000) (h : Img N s T) {root : Int} (hr : root = 0 ∨ (s.nodes root).isSome = true) {note : ByteArray} (hn : note.size ≤ 3900) :
    (commitE s root note = 0 ∧ Img N (commitV s root note) (treeOf N s root) ∧ (commitV s root note).root = root ∧ (commitV s root note).note = note) ∨
    (commitE s root note = 5 ∧ Safe N (commitV s root note).dev s.gen s.root s.note T) ∨
    (commitE s root note = 5 ∧ Half N (commitV s root note).dev s.gen s.root s.note T root note (treeOf N s root)) := by
  have hg := hI.gen
  have hN := hI.two
  have htree := tree_of hI h.tells hr
  have hroot : root = 0 ∨ ∃ i : Nat, root = i ∧ 2 ≤ i ∧ i < N := hr.imp id fun h => hI.acc.ids root h
  have hdev5 : ∀ D, commitE s root note = 5 → commitD s root note = D → (commitV s root note).dev = D := fun D e1 e2 => by
    unfold commitV
    rw [if_neg (by rw [e1]; decide)]
    exact e2
  rcases fl_on h.on with ⟨f1, f2⟩ | ⟨f1, q, f2⟩
  · have l1 : layE s.dev (s.gen + 1) root note = 5 := (if_neg (by rw [f1]; decide)).trans f1
    have l2 : layD s.dev (s.gen + 1) root note = { s.dev with on := false } := (if_neg (by rw [f1]; decide)).trans f2
    have c1 : commitE s root note = 5 := (if_neg (by rw [l1]; decide)).trans l1
    have c2 : commitD s root note = { s.dev with on := false } := (if_neg (by rw [l1]; decide)).trans l2
    refine .inr (.inl ⟨c1, ?_⟩)
    rw [hdev5 _ c1 c2]
    exact h.safe.same rfl rfl rfl
  · have hsmF : Small (calmFl s.dev) := h.safe.small.calm
    have hsafeF : Safe N { calmFl s.dev with fuse := q } s.gen s.root s.note T := by
      obtain ⟨b, o1, o2⟩ := h.safe.oth
      exact Safe.same (d := calmFl s.dev) ⟨h.safe.size, hsmF, h.safe.tree, fun z v hz => (h.safe.dev z v hz).fl, h.safe.beg.fl, h.safe.note, h.safe.gen, b, o1.fl, o2⟩ rfl rfl rfl
    have hb : (beginB (s.gen + 1) root N note).size ≤ 4096 := by rw [beginB_size]; omega
    have hsz : ({ calmFl s.dev with fuse := q } : Dv.St).size = N := h.safe.size
    have l0 : ∀ (X : Int) (Y : Dv.St), Dv.wrE { calmFl s.dev with fuse := q } ((s.gen + 1) % 2) (beginB (s.gen + 1) root N note) = X → Dv.wrD { calmFl s.dev with fuse := q } ((s.gen + 1) % 2) (beginB (s.gen + 1) root N note) = Y →
        layE s.dev (s.gen + 1) root note = X ∧ layD s.dev (s.gen + 1) root note = Y := fun X Y e1 e2 => by
      unfold layE layD
      rw [if_pos f1, if_pos f1, f2, hsz]
      exact ⟨e1, e2⟩
    rcases wr_on (d := { calmFl s.dev with fuse := q }) h.on (i := (s.gen + 1) % 2) (s := beginB (s.gen + 1) root N note) (by omega) (by rw [hsz]; omega) hb with ⟨w1, w2⟩ | ⟨w1, r, w2⟩
    · obtain ⟨l1, l2⟩ := l0 _ _ w1 w2
      have c1 : commitE s root note = 5 := (if_neg (by rw [l1]; decide)).trans l1
      have c2 := (if_neg (by rw [l1]; decide) : commitD s root note = _).trans l2
      refine .inr (.inl ⟨c1, ?_⟩)
      rw [hdev5 _ c1 c2]
      exact hsafeF.same rfl rfl rfl
    · obtain ⟨l1, l2⟩ := l0 _ _ w1 w2
      have hne : s.gen % 2 ≠ (s.gen + 1) % 2 := by omega
      have hTn : ∀ (z : Int), (∃ i : Nat, z = i ∧ 2 ≤ i ∧ i < N) → z ≠ (s.gen + 1) % 2 := fun z hz => by
        obtain ⟨i, e, e2, _⟩ := hz
        omega
      have hdev2 : ∀ z v, treeOf N s root z = some v → AtD (calmFl s.dev) z (blockB v.kids v.data) := fun z v hz => by
        obtain ⟨_, n, hn', rfl⟩ := tree_is hz
        obtain ⟨_, _, d3, _⟩ := data_is hI h.tells hn'
        exact ⟨rfl, reads_some d3⟩
      obtain ⟨b, o1, o2⟩ := h.safe.oth
      have hsmP := (hsmF.put ((s.gen + 1) % 2) (beginB (s.gen + 1) root N note) hb).1
      have hhalf : Half N (Dv.putD (calmFl s.dev) ((s.gen + 1) % 2) (beginB (s.gen + 1) root N note)) s.gen s.root s.note T root note (treeOf N s root) :=
        ⟨h.safe.size, hsmP, h.safe.tree, fun z v hz => (h.safe.dev z v hz).fl.put (hTn z (h.safe.tree.ids z v hz)), h.safe.beg.fl.put hne, h.safe.note, ⟨h.safe.gen.1, by omega⟩, h.safe.root, htree, fun z v hz => (hdev2 z v hz).put (hTn z (htree.ids z v hz)), hn, hroot, by show (if (s.gen + 1) % 2 = (s.gen + 1) % 2 then _ else _) = _; rw [if_pos rfl], b, o1.fl.2, o2⟩
      rcases fl_on (d := { Dv.putD { calmFl s.dev with fuse := q } ((s.gen + 1) % 2) (beginB (s.gen + 1) root N note) with fuse := r }) h.on with ⟨g1, g2⟩ | ⟨g1, u, g2⟩
      · have c1 : commitE s root note = 5 := by
          unfold commitE
          rw [if_pos l1]
          exact (congrArg Dv.flE l2).trans g1
        have c2 := (show commitD s root note = Dv.flD (layD s.dev (s.gen + 1) root note) by unfold commitD; rw [if_pos l1]).trans ((congrArg Dv.flD l2).trans g2)
        refine .inr (.inr ⟨c1, ?_⟩)
        rw [hdev5 _ c1 c2]
        exact hhalf.same rfl rfl rfl
      · have c1 : commitE s root note = 0 := by
          unfold commitE
          rw [if_pos l1]
          exact (congrArg Dv.flE l2).trans g1
        have c2 := (show commitD s root note = Dv.flD (layD s.dev (s.gen + 1) root note) by unfold commitD; rw [if_pos l1]).trans ((congrArg Dv.flD l2).trans g2)
        have hV : commitV s root note = ⟨s.gen + 1, root, note, s.nodes, keptOf s root, commitD s root note⟩ := if_pos c1
        refine .inl ⟨c1, ?_, by rw [hV], by rw [hV]⟩
        rw [hV, c2]
        have hsafe : Safe N (calmFl (Dv.putD (calmFl s.dev) ((s.gen + 1) % 2) (beginB (s.gen + 1) root N note))) (s.gen + 1) root note (treeOf N s root) :=
          ⟨h.safe.size, hsmP.calm, htree, fun z v hz => (hhalf.dev2 z v hz).fl, ⟨rfl, by show (if (s.gen + 1) % 2 = (s.gen + 1) % 2 then some (beginB (s.gen + 1) root N note) else _).or _ = _; rw [if_pos rfl]; rfl⟩, hn, by omega, beginB s.gen s.root N s.note, by rw [show (s.gen + 1 + 1) % 2 = s.gen % 2 by omega]; exact hhalf.beg.fl, fun x hx => by
            rw [parse_begin hN.2 (by omega) h.safe.root h.safe.note] at hx
            injection hx with hx
            subst hx
            show s.gen < s.gen + 1
            omega⟩
        refine ⟨h.on, hsafe.same rfl rfl rfl, fun z => (tree_some hI hr z).symm, fun z n hz => ?_⟩
        obtain ⟨t1, t, t2, t3⟩ := h.tells z n hz
        refine ⟨t1, t, t2, ?_⟩
        have hz2 := hI.acc.ids z (by show (s.nodes z).isSome = true; rw [show s.nodes z = some n from hz]; rfl)
        show Dv.readS (calmFl (Dv.putD (calmFl s.dev) ((s.gen + 1) % 2) (beginB (s.gen + 1) root N note))) z = _
        rw [read_fl, read_put _ _ (hTn z hz2), read_fl]
        exact t3
end Go.Proofs.YtkbpjegegjgbkaaGreat.Sto
