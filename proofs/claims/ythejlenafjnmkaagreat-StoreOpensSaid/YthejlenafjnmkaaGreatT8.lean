import Derived.Test.YthejlenafjnmkaaGreatT7

/- A block of the device is there from now on, and all below it: contract of load. -/
namespace Go.Proofs.YthejlenafjnmkaaGreat.Sto
open Go.RowKit
open Oct (Has Chg)
open Rws
open Mem (IMap)

def loadKids (ld : SV → Int → Int × SV) : List Int → SV → Int × SV
  | [], s => (0, s)
  | k :: l, s => if (ld s k).1 = 0 then loadKids ld l (ld s k).2 else ld s k
def loadOut (id : Int) (ks : List Int) (r : Int × SV) : Int × SV := if r.1 = 0 then (if 64 < aboveV r.2.nodes ks then (5, r.2) else (0, addV r.2 id ks)) else r
def loadRead (n : SV → Int → Int × SV) (s : SV) (id : Int) : Option (List Int × ByteArray) × Int → Int × SV
  | (none, E) => (E, s)
  | (some (ks, _), _) => loadOut id ks (loadKids n ks s)
/-- What load comes to. -/
def loadV : Nat → SV → Int → Int × SV
  | 0, s, id => if (s.nodes id).isSome = true then (0, s) else (5, s)
  | n + 1, s, id => if (s.nodes id).isSome = true then (0, s) else loadRead (loadV n) s id (readV s id)
theorem addV_some (s : SV) (id : Int) (ks : List Int) (z : Int) : ((addV s id ks).nodes z).isSome = (decide (z = id) || (s.nodes z).isSome) := by
  show (bumps (insN s.nodes id (newNode s ks)) ks z).isSome = _
  rw [bumps_some]
  unfold insN
  by_cases e : z = id
  · simp [e]
  · simp [e]
/-- What a loading keeps. -/
structure Keeps (s s' : SV) : Prop where
  mono : ∀ z, (s.nodes z).isSome = true → (s'.nodes z).isSome = true
  low : Low s → Low s'
  dev : s'.dev = s.dev
  beg : s'.gen = s.gen ∧ s'.root = s.root ∧ s'.note = s.note
  kept : s'.kept = s.kept
theorem Keeps.refl (s : SV) : Keeps s s := ⟨fun _ h => h, fun h => h, rfl, ⟨rfl, rfl, rfl⟩, rfl⟩
theorem Keeps.trans {a b c : SV} (h : Keeps a b) (k : Keeps b c) : Keeps a c := ⟨fun z hz => k.mono z (h.mono z hz), fun l => k.low (h.low l), k.dev.trans h.dev, ⟨k.beg.1.trans h.beg.1, k.beg.2.1.trans h.beg.2.1, k.beg.2.2.trans h.beg.2.2⟩, k.kept.trans h.kept⟩
theorem low_bump {f : Int → Option NodeV} (h : ∀ z n, f z = some n → 1 ≤ n.high ∧ n.high ≤ 64) (k : Int) : ∀ z n, bump1 f k z = some n → 1 ≤ n.high ∧ n.high ≤ 64 := by
  intro z n hz
  unfold bump1 at hz
  split at hz
  · cases hf : f z with
    | none => rw [hf] at hz; cases hz
    | some m =>
      rw [hf] at hz
      simp at hz
      subst hz
      exact h z m hf
  · exact h z n hz
theorem low_bumps : ∀ (l : List Int) {f : Int → Option NodeV}, (∀ z n, f z = some n → 1 ≤ n.high ∧ n.high ≤ 64) → ∀ z n, bumps f l z = some n → 1 ≤ n.high ∧ n.high ≤ 64
  | [], _, h => h
  | k :: l, _, h => low_bumps l (low_bump h k)
theorem keeps_add (s : SV) (id : Int) (ks : List Int) (h : aboveV s.nodes ks ≤ 64) : Keeps s (addV s id ks) := by
  refine ⟨fun z hz => by rw [addV_some, hz]; simp, fun hl => low_bumps ks (fun z n hz => ?_), rfl, ⟨rfl, rfl, rfl⟩, rfl⟩
  unfold insN at hz
  split at hz
  · injection hz with hz
    subst hz
    refine ⟨?_, h⟩
    show 1 ≤ highs s.nodes ks 0 + 1
    have := (highs_low hl ks 0 (by decide) (by decide)).1
    omega
  · exact hl z n hz
theorem keeps_kids {ld : SV → Int → Int × SV} (h : ∀ s k, Keeps s (ld s k).2) : ∀ (l : List Int) (s : SV), Keeps s (loadKids ld l s).2
  | [], s => Keeps.refl s
  | k :: l, s => by
    unfold loadKids
    split
    · exact (h s k).trans (keeps_kids h l _)
    · exact h s k
theorem keeps_load : ∀ (n : Nat) (s : SV) (id : Int), Keeps s (loadV n s id).2
  | 0, s, id => by
    unfold loadV
    split <;> exact Keeps.refl s
  | n + 1, s, id => by
    unfold loadV
    split
    · exact Keeps.refl s
    · cases hr : readV s id with
      | mk o E =>
        cases o with
        | none => exact Keeps.refl s
        | some b =>
          have hk := keeps_kids (keeps_load n) b.1 s
          show Keeps s (loadOut id b.1 (loadKids (loadV n) b.1 s)).2
          unfold loadOut
          split
          · split
            · exact hk
            · exact hk.trans (keeps_add _ id b.1 (by omega))
          · exact hk
theorem read_err {s : SV} {id E : Int} (h : readV s id = (none, E)) : E ≠ 0 := by
  unfold readV at h
  split at h
  · cases hp : parseB s.dev.size (Dv.rdS s.dev id) with
    | none =>
      rw [hp] at h
      unfold readB at h
      injection h with _ h
      omega
    | some b => rw [hp] at h; cases h
  · injection h with _ h
    omega
theorem there_load : ∀ (n : Nat) (s : SV) (id : Int), (loadV n s id).1 = 0 → ((loadV n s id).2.nodes id).isSome = true
  | 0, s, id => by
    unfold loadV
    split
    · intro _; assumption
    · intro h; cases h
  | n + 1, s, id => by
    unfold loadV
    split
    · intro _; assumption
    · cases hr : readV s id with
      | mk o E =>
        cases o with
        | none => intro h; exact (read_err hr h).elim
        | some b =>
          intro h
          have h : (loadOut id b.1 (loadKids (loadV n) b.1 s)).1 = 0 := h
          show ((loadOut id b.1 (loadKids (loadV n) b.1 s)).2.nodes id).isSome = true
          unfold loadOut at h ⊢
          split at h
          · split at h
            · cases h
            · rename_i h1 h2
              rw [if_pos h1, if_neg h2, addV_some]
              simp
          · exact absurd h (by assumption)
theorem there_kids {ld : SV → Int → Int × SV} (h1 : ∀ s k, Keeps s (ld s k).2) (h2 : ∀ s k, (ld s k).1 = 0 → ((ld s k).2.nodes k).isSome = true) : ∀ (l : List Int) (s : SV), (loadKids ld l s).1 = 0 → ∀ k ∈ l, ((loadKids ld l s).2.nodes k).isSome = true
  | [], s, _, k, hk => by cases hk
  | x :: l, s, h, k, hk => by
    unfold loadKids at h ⊢
    split at h
    · rename_i h0
      rw [if_pos h0]
      rcases List.mem_cons.1 hk with e | e
      · rw [e]
        exact (keeps_kids h1 l _).mono x (h2 s x h0)
      · exact there_kids h1 h2 l _ h k e
    · exact absurd h (by assumption)
/-- A store that has grown. -/
structure Grown (w : World) (p : Nat) (F : Fr) (s : SV) (w' : World) (F' : Fr) (s' : SV) : Prop where
  is : StoIs w' p F' s'
  t : F'.t = F.t
  k : F'.k = F.k
  d : F'.d = F.d
  dk : F'.dk = F.dk
  dd : F'.dd = F.dd
  old : ∀ z, (s'.nodes z).isSome = true → ((s.nodes z).isSome = true ∧ F'.g z = F.g z) ∨ w.heap.size ≤ F'.g z
  chg : Chg (AddS F s) w w'
theorem Grown.same {w w' : World} {p : Nat} {F : Fr} {s : SV} (h : StoIs w p F s) (hb : Below w.heap.size w w') : Grown w p F s w' F s := ⟨h.below hb, rfl, rfl, rfl, rfl, rfl, fun _ hz => .inl ⟨hz, rfl⟩, Chg.of_below hb _⟩
theorem Grown.trans {w w1 w2 : World} {p : Nat} {F F1 F2 : Fr} {s s1 s2 : SV} (h : Grown w p F s w1 F1 s1) (k : Grown w1 p F1 s1 w2 F2 s2) : Grown w p F s w2 F2 s2 := by
  have hz := h.chg.size
  refine ⟨k.is, k.t.trans h.t, k.k.trans h.k, k.d.trans h.d, k.dk.trans h.dk, k.dd.trans h.dd, fun z hz2 => ?_, h.chg.step k.chg (fun i hi hT => ?_)⟩
  · rcases k.old z hz2 with ⟨e1, e2⟩ | e
    · rcases h.old z e1 with ⟨e3, e4⟩ | e3
      · exact .inl ⟨e3, e2.trans e4⟩
      · exact .inr (by rw [e2]; exact e3)
    · exact .inr (by omega)
  · rcases hT with e | ⟨z, e1, e2⟩
    · exact .inl (e.trans h.t)
    · rcases h.old z e1 with ⟨e3, e4⟩ | e3
      · exact .inr ⟨z, e3, e2.trans e4⟩
      · omega
theorem add_not {w : World} {p : Nat} {F : Fr} {s : SV} (h : StoIs w p F s) {g : Nat} {t : TypeId} {cs : Array Value} (hg : Has w g t cs) (hne : t ≠ 109) : ¬ AddS F s g := by
  rintro (e | ⟨z, hz, e⟩)
  · exact map_ne h.there hg e.symm
  · obtain ⟨n, hn⟩ := Option.isSome_iff_exists.1 hz
    obtain ⟨A, c, k1, _⟩ := h.node z n hn
    exact has_ne hg k1 hne e
theorem own_add {w w' : World} {p b n : Nat} {F : Fr} {s : SV} {v : Value} {xs : List Value} (h : w.ownsRow b 3 1 v n xs) (hs : StoIs w p F s) (hc : Chg (AddS F s) w w') : w'.ownsRow b 3 1 v n xs := by
  refine ⟨h.1, ?_⟩
  rcases h.2 with k | ⟨q, cap, cur, e1, hb, hh, k⟩
  · exact .inl k
  · have hq : Has w q 3 _ := hh
    refine .inr ⟨q, cap, cur, e1, hb, ?_, k⟩
    rw [hc.block q hq.bound (add_not hs hq (by decide))]
    exact hh
theorem row_not {w : World} {p b n c : Nat} {A : Option Addr} {F : Fr} {s : SV} {xs : List Value} (h : w.ownsRow b 3 1 (.slice A n c) n xs) (hs : StoIs w p F s) : 0 < n → ∀ q off, A = some ⟨q, off, none⟩ → ¬ AddS F s q := by
  intro h0 q off e
  rcases h.2 with ⟨e1, e0⟩ | ⟨g, cap, cur, e1, hb, hh, k⟩
  · omega
  · injection e1 with e1 _ _
    rw [e] at e1
    injection e1 with e1
    injection e1 with e1 _ _
    subst e1
    exact add_not hs (show Has w q 3 _ from hh) (by decide)
theorem kids_len (size : Int) : ∀ (k : Nat) (r : ByteArray) (acc ks : List Int) (r' : ByteArray), kidsP size k r acc = .ok (ks, r') → ks.length = acc.length + k
  | 0, r, acc, ks, r', h => by
    unfold kidsP at h
    injection h with h
    injection h with h1 h2
    rw [← h1]
    rfl
  | k + 1, r, acc, ks, r', h => by
    unfold kidsP at h
    split at h
    · split at h
      · have := kids_len size k _ _ ks r' h
        simp at this
        omega
      · cases h
    · cases h
    · cases h
theorem text_ks {ks l : List Int} {r r' t : ByteArray} (h : textP ks r = .ok ((l, t), r')) : l = ks := by
  unfold textP at h
  split at h
  · injection h with h
    injection h with h1 h2
    injection h1 with h1 h3
    exact h1.symm
  · cases h
  · cases h
theorem block_len {size : Int} {r r' t : ByteArray} {ks : List Int} (h : blockP size r = .ok ((ks, t), r')) : ks.length ≤ 16 := by
  unfold blockP at h
  split at h
  · split at h
    · rename_i n r1 hg hn
      cases hk : kidsP size n.toNat r1 [] with
      | error e => rw [hk] at h; cases h
      | ok b =>
        obtain ⟨l, r2⟩ := b
        rw [hk] at h
        have h1 := text_ks (show textP l r2 = .ok ((ks, t), r') from h)
        have h2 := kids_len size n.toNat r1 [] l r2 hk
        rw [h1, h2]
        simp
        omega
    · cases h
  · cases h
  · cases h
theorem parse_len {size : Int} {bytes : ByteArray} {b : List Int × ByteArray} (h : parseB size bytes = some b) : b.1.length ≤ 16 := by
  unfold parseB parOf at h
  split at h
  · cases hx : blockP size (CrcW.headB bytes) with
    | error e => rw [hx] at h; cases h
    | ok c =>
      obtain ⟨⟨ks, t⟩, r⟩ := c
      rw [hx] at h
      injection h with h
      rw [← h]
      exact block_len hx
  · cases h
theorem read_len {s : SV} {id E : Int} {b : List Int × ByteArray} (h : readV s id = (some b, E)) : b.1.length ≤ 16 := by
  unfold readV at h
  split at h
  · cases hp : parseB s.dev.size (Dv.rdS s.dev id) with
    | none => rw [hp] at h; cases h
    | some c =>
      rw [hp] at h
      unfold readB at h
      injection h with h
      injection h with h
      rw [← h]
      exact parse_len hp
  · cases h
set_option maxRecDepth 100000 in
set_option maxHeartbeats 4000000 in
theorem load_sto (p : Nat) (n : Nat) : ∀ (F : Fr) (s : SV) (_ : Low s) (_ : ∀ i, (Dv.rdS s.dev i).size ≤ 4104) (_ : n ≤ 64) (id : Int) (w : World) (_ : StoIs w p F s),
    Calls Tryz.prog 48 #[.pointer (some ⟨p, 0, none⟩), .int .i64 id, .int .i64 n] w fun e w' => e = .returned (.int .i64 (loadV n s id).1) ∧ ∃ F', Grown w p F s w' F' (loadV n s id).2 := by
  induction n with
  | zero =>
    intro F s hlow hsm hn id w h
    have HS := Lib.hid (has_sto p F s id w h)
    have HG := Lib.hid (Grown.same h (Below.refl _ _))
    clear h hlow hsm hn
    cases hs : (s.nodes id).isSome with
    | true =>
      have HV := Lib.hid (show loadV 0 s id = (0, s) from if_pos hs)
      rw [hs] at HS
      clear hs
      go_enter Tryz.func48, Tryz.ntmps48
      go_wp2_with fail
      refine HS.out.mono ?_
      rintro e w' ⟨rfl, rfl⟩
      go_wp2
      go_ret
      exact ⟨by rw [HV.out]; rfl, F, by rw [HV.out]; exact HG.out⟩
    | false =>
      have HV := Lib.hid (show loadV 0 s id = (5, s) from if_neg (by rw [hs]; decide))
      rw [hs] at HS
      clear hs
      go_enter Tryz.func48, Tryz.ntmps48
      go_wp2_with fail
      refine HS.out.mono ?_
      rintro e w' ⟨rfl, rfl⟩
      go_wp2
      go_ret
      exact ⟨by rw [HV.out]; rfl, F, by rw [HV.out]; exact HG.out⟩
  | succ n ih =>
    intro F s hlow hsm hn id w h
    have HIH := Lib.hid ih
    have HS := Lib.hid (has_sto p F s id w h)
    have HG := Lib.hid (Grown.same h (Below.refl _ _))
    have HH := Lib.hid h
    have HLOW := Lib.hid hlow
    have HSM := Lib.hid hsm
    clear ih h hlow hsm
    cases hs : (s.nodes id).isSome with
    | true =>
      have HV := Lib.hid (show loadV (n + 1) s id = (0, s) from if_pos hs)
      rw [hs] at HS
      clear hs
      go_enter Tryz.func48, Tryz.ntmps48
      go_wp2_with fail
      refine HS.out.mono ?_
      rintro e w' ⟨rfl, rfl⟩
      go_wp2
      go_ret
      exact ⟨by rw [HV.out]; rfl, F, by rw [HV.out]; exact HG.out⟩
    | false =>
      have HV := Lib.hid (show loadV (n + 1) s id = loadRead (loadV n) s id (readV s id) from if_neg (by rw [hs]; decide))
      rw [hs] at HS
      obtain ⟨o, E, hoE⟩ : ∃ o E, readV s id = (o, E) := ⟨_, _, rfl⟩
      have HRD := Lib.hid (read_sto p F s id w HH.out (HSM.out id) o E hoE)
      have HV2 := Lib.hid (show loadV (n + 1) s id = loadRead (loadV n) s id (o, E) by rw [HV.out, hoE])
      have HNE := Lib.hid (show o = none → E ≠ 0 from fun e => by subst e; exact read_err hoE)
      have HE0 := Lib.hid (show ∀ b, o = some b → E = 0 from fun b e => by
        subst e
        unfold readV at hoE
        split at hoE
        · cases hp : parseB s.dev.size (Dv.rdS s.dev id) with
          | none => rw [hp] at hoE; cases hoE
          | some c => rw [hp] at hoE; unfold readB at hoE; injection hoE with _ h2; exact h2.symm
        · cases hoE)
      have HLN := Lib.hid (show ∀ b, o = some b → b.1.length ≤ 16 from fun b e => read_len (by rw [hoE, e]))
      have m0 : (((n + 1 : Nat) : Int) == 0) = false := beq_eq_false_iff_ne.2 (by omega)
      clear hs HV hoE
      go_enter Tryz.func48, Tryz.ntmps48
      go_wp2_with fail
      refine HS.out.mono ?_
      rintro e w' ⟨rfl, rfl⟩
      go_wp2_with fail
      refine HRD.out.mono ?_
      rintro e w1 ⟨hq, hb1⟩
      have HB1 := Lib.hid hb1
      clear hb1 HRD HS
      cases o with
      | none =>
        have hq : e = .returned (.tuple #[.agg #[.slice none 0 0, .string ⟨#[]⟩], .int .i64 E]) := hq
        subst hq
        have hne : (E != 0) = true := by simpa using HNE.out rfl
        have HG1 := Lib.hid (Grown.same HH.out (HB1.out.trans ((Below.refl w.heap.size w1).alloc HB1.out.size (.cells #[.slice none 0 0, .string ⟨#[]⟩] 51))))
        have HV3 := Lib.hid (show loadV (n + 1) s id = (E, s) from HV2.out)
        go_wp2
        go_ret
        exact ⟨by rw [HV3.out]; rfl, F, by rw [HV3.out]; exact HG1.out⟩
      | some b =>
        obtain ⟨ks, t⟩ := b
        obtain ⟨v, hq, hov⟩ := hq
        subst hq
        obtain rfl : E = 0 := HE0.out _ rfl
        obtain ⟨A5, c5, rfl⟩ := own_sl hov
        have HG1 := Lib.hid (Grown.same HH.out (HB1.out.trans ((Below.refl w.heap.size w1).alloc HB1.out.size (.cells #[.slice A5 ks.length c5, .string t] 51))))
        have HBK := Lib.hid (Has.fresh w1 51 #[.slice A5 ks.length c5, .string t])
        have HOW := Lib.hid (World.ownsRow.alloc hov (.cells #[.slice A5 ks.length c5, .string t] 51))
        have HV3 := Lib.hid (show loadV (n + 1) s id = loadOut id ks (loadKids (loadV n) (ks.drop 0) s) from HV2.out)
        have hl16 : ks.length ≤ 16 := HLN.out _ rfl
        clear hov HV2 HNE HE0 HLN
        go_wp2_with fail
        go_loopw [29] (fun i wr => ∃ (j : Nat) (F1 : Fr) (s1 : SV), j ≤ ks.length ∧ i = .int .i64 j ∧ Hid (loadV (n + 1) s id = loadOut id ks (loadKids (loadV n) (ks.drop j) s1)) ∧ Hid (Grown w p F s wr F1 s1) ∧ Hid (Keeps s s1) ∧ Hid (∀ k ∈ ks.take j, (s1.nodes k).isSome = true) ∧ Hid (Has wr w1.heap.size 51 #[.slice A5 ks.length c5, .string t]) ∧ Hid (OwnI wr w.heap.size (.slice A5 ks.length c5) ks)) (fun i _ => ks.length - (intOf i).toNat)
        case atStart => exact ⟨0, F, s, Nat.zero_le _, rfl, HV3, HG1, Lib.hid (Keeps.refl s), Lib.hid (fun k hk => by simp at hk), HBK, HOW⟩
        case round =>
          obtain ⟨j, F1, s1, hj, rfl, HV, HJ, HKP, HTH, HB, HO⟩ := hrel
          clear HV3 HG1 HBK HOW
          by_cases hlt : j < ks.length
          · have hr0 := row_of_own HO.out rfl
            obtain ⟨b, off, rfl, hbl, hcl⟩ := hr0.2 (by omega)
            have k1 := hcl j hlt
            have hd : ks.drop j = ks[j] :: ks.drop (j + 1) := List.drop_eq_getElem_cons hlt
            obtain ⟨E1, s2, hE⟩ : ∃ E1 s2, loadV n s1 ks[j] = (E1, s2) := ⟨_, _, rfl⟩
            have HC := Lib.hid (HIH.out F1 s1 (HKP.out.low HLOW.out) (fun i => by rw [HKP.out.dev]; exact HSM.out i) (by omega) ks[j] wr HJ.out.is)
            rw [hE] at HC
            have HVN := Lib.hid (show loadV (n + 1) s id = loadOut id ks (if E1 = 0 then loadKids (loadV n) (ks.drop (j + 1)) s2 else (E1, s2)) from by
              rw [HV.out, hd]
              show loadOut id ks (if (loadV n s1 ks[j]).1 = 0 then loadKids (loadV n) (ks.drop (j + 1)) (loadV n s1 ks[j]).2 else loadV n s1 ks[j]) = _
              rw [hE])
            have HK2 := Lib.hid (HKP.out.trans (show Keeps s1 s2 by have := keeps_load n s1 ks[j]; rw [hE] at this; exact this))
            have HT2 := Lib.hid (show E1 = 0 → ∀ k ∈ ks.take (j + 1), (s2.nodes k).isSome = true from fun e k hk => by
              have h3 := keeps_load n s1 ks[j]
              have h5 := there_load n s1 ks[j]
              rw [hE] at h3 h5
              rw [List.take_succ_eq_append_getElem hlt] at hk
              rcases List.mem_append.1 hk with h4 | h4
              · exact h3.mono k (HTH.out k h4)
              · rw [List.mem_singleton.1 h4]
                exact h5 e)
            clear hr0 hcl hd hE HV HTH HKP hbl
            generalize ks[j] = kid at *
            go_wp2_with fail
            refine HC.out.mono ?_
            rintro e w3 ⟨rfl, F2, hg⟩
            have HB2 := Lib.hid (HB.out.over hg.chg (add_not HJ.out.is HB.out (by decide)))
            have HO2 := Lib.hid (own_add HO.out HJ.out.is hg.chg)
            have HG2 := Lib.hid (HJ.out.trans hg)
            clear hg HC HJ HB HO k1
            by_cases h0 : E1 = 0
            · subst h0
              have HVN2 := Lib.hid (show loadV (n + 1) s id = loadOut id ks (loadKids (loadV n) (ks.drop (j + 1)) s2) from by rw [HVN.out, if_pos rfl])
              have HT3 := Lib.hid (HT2.out rfl)
              clear HVN HT2
              go_wp2
              go_roundw
              case rel => exact ⟨j + 1, F2, s2, by omega, by go_num, HVN2, HG2, HK2, HT3, HB2, HO2⟩
              case measure => simp [intOf]; omega
            · have hne : (E1 != 0) = true := by simpa using h0
              have HVN2 := Lib.hid (show loadV (n + 1) s id = (E1, s2) from by
                rw [HVN.out, if_neg h0]
                unfold loadOut
                rw [if_neg h0])
              clear h0 HVN HT2
              go_wp2
              go_ret
              exact ⟨by rw [HVN2.out]; rfl, F2, by rw [HVN2.out]; exact HG2.out⟩
          · have hje : j = ks.length := by omega
            subst hje
            have hfull : ks.take ks.length = ks := List.take_of_length_le (by omega)
            rw [hfull] at HTH
            rw [List.drop_length] at HV
            have HV4 := Lib.hid (show loadV (n + 1) s id = if 64 < aboveV s1.nodes ks then (5, s1) else (0, addV s1 id ks) from HV.out)
            have c0 := Has.at_ HB.out 0
            simp at c0
            have HROW := Lib.hid (row_of_own HO.out rfl)
            have HAB := Lib.hid (above_sto p F1 s1 (HKP.out.low HLOW.out) A5 ks.length c5 ks (by omega) HTH.out wr HJ.out.is HROW.out)
            clear hfull HV hlt
            go_wp2_with fail
            refine HAB.out.mono ?_
            rintro e w' ⟨rfl, rfl⟩
            by_cases h6 : 64 < aboveV s1.nodes ks
            · have HV5 := Lib.hid (HV4.out.trans (if_pos h6))
              generalize aboveV s1.nodes ks = AB at *
              go_wp2
              go_ret
              exact ⟨by rw [HV5.out]; rfl, F1, by rw [HV5.out]; exact HJ.out⟩
            · have HV5 := Lib.hid (HV4.out.trans (if_neg h6))
              have HAD := Lib.hid (add_sto p F1 s1 (HKP.out.low HLOW.out) id A5 ks.length c5 ks (by omega) HTH.out wr HJ.out.is HROW.out (row_not HO.out HJ.out.is))
              clear HV4 HAB
              generalize aboveV s1.nodes ks = AB at *
              go_wp2_with fail
              refine HAD.out.mono ?_
              rintro e w4 ⟨rfl, ⟨G, hGb, hst⟩, hch⟩
              have HE := Lib.hid (show Grown w p F s w4 (F1.ins id G) (addV s1 id ks) from HJ.out.trans ⟨hst, rfl, rfl, rfl, rfl, rfl, fun z hz => by
                rw [addV_some] at hz
                show ((s1.nodes z).isSome = true ∧ (if z = id then G else F1.g z) = F1.g z) ∨ wr.heap.size ≤ (if z = id then G else F1.g z)
                by_cases e : z = id
                · rw [if_pos e]
                  exact .inr hGb
                · rw [if_neg e]
                  exact .inl ⟨by simpa [e] using hz, rfl⟩, hch⟩)
              clear hGb hst hch HAD
              go_wp2
              go_ret
              exact ⟨by rw [HV5.out]; rfl, F1.ins id G, by rw [HV5.out]; exact HE.out⟩
end Go.Proofs.YthejlenafjnmkaaGreat.Sto
/- A store is laid on a device: contract of Format. -/
namespace Go.Proofs.YthejlenafjnmkaaGreat.Sto
open Go.RowKit
open Oct (Has Chg)
open Rws
open Mem (IMap)

/-- Blocks are emptied, one after another. -/
def wipe : List Int → Dv.St → Int × Dv.St
  | [], D => (0, D)
  | i :: l, D => if Dv.wrE D i ⟨#[]⟩ = 0 then wipe l (Dv.wrD D i ⟨#[]⟩) else (Dv.wrE D i ⟨#[]⟩, Dv.wrD D i ⟨#[]⟩)
def fmtLaid (note : ByteArray) (D : Dv.St) : Bool × Int × Dv.St :=
  if layE D 1 0 note = 0 then (true, Dv.flE (layD D 1 0 note), Dv.flD (layD D 1 0 note)) else (false, layE D 1 0 note, layD D 1 0 note)
def fmtWiped (note : ByteArray) (r : Int × Dv.St) : Bool × Int × Dv.St := if r.1 = 0 then fmtLaid note r.2 else (false, r.1, r.2)
/-- What Format comes to: whether there is a store, the error, the device. -/
def fmtV (note : ByteArray) (D : Dv.St) : Bool × Int × Dv.St := fmtWiped note (wipe [0, 1] D)
/-- A store is there, or none. -/
structure Laid (B : Nat) (V : SV) (d dk dd p : Nat) (F : Fr) (w' : World) : Prop where
  is : StoIs w' p F V
  d : F.d = d
  dk : F.dk = dk
  dd : F.dd = dd
  p : B ≤ p
  t : B ≤ F.t
  k : B ≤ F.k
def FOut (r : Bool × Int × Dv.St) (note : ByteArray) (d dk dd B : Nat) (e : Ending) (w' : World) : Prop :=
  match r with
  | (true, E, Z) => ∃ p F, e = .returned (.tuple #[.pointer (some ⟨p, 0, none⟩), .int .i64 E]) ∧ Laid B (bareV 1 0 note Z) d dk dd p F w'
  | (false, E, Z) => e = .returned (.tuple #[.pointer none, .int .i64 E]) ∧ Dv.DevIs w' d dk dd Z
theorem drop_two (j : Nat) (h : j < 2) : ([0, 1] : List Int).drop j = (j : Int) :: ([0, 1] : List Int).drop (j + 1) := by
  rcases j with _ | _ | j
  · rfl
  · rfl
  · omega
set_option maxRecDepth 100000 in
set_option maxHeartbeats 4000000 in
theorem format_dev (d dk dd : Nat) (D : Dv.St) (note : ByteArray) (hsz : D.size ≠ 0) (hn : note.size ≤ 3900) (w : World) (h : Dv.DevIs w d dk dd D) (R : Bool × Int × Dv.St) (hR : fmtV note D = R) :
    Calls Tryz.prog 10 #[.pointer (some ⟨d, 0, none⟩), .string note] w fun e w' => FOut R note d dk dd w.heap.size e w' ∧ Chg (Dv.Own d dk dd) w w' := by
  have HSZ := Lib.hid (size_dev d dk dd D w h)
  have t1 : (((D.size : Nat) : Int) == 0) = false := beq_eq_false_iff_ne.2 (by omega)
  have t2 : ¬ 3900 < (note.size : Int) := by omega
  have HH := Lib.hid h
  have HN := Lib.hid hn
  have HR := Lib.hid (show fmtWiped note (wipe (([0, 1] : List Int).drop 0) D) = R from hR)
  have HC0 := Lib.hid (Chg.refl (Dv.Own d dk dd) w)
  clear h hR hn hsz
  go_enter Tryz.func10, Tryz.ntmps10
  go_wp2_with fail
  refine HSZ.out.mono ?_
  rintro e w' ⟨rfl, rfl⟩
  go_wp2_with fail
  go_loopw [16] (fun i wr => ∃ (j : Nat) (D1 : Dv.St), j ≤ 2 ∧ i = .int .i64 j ∧ Hid (fmtWiped note (wipe (([0, 1] : List Int).drop j) D1) = R) ∧ Hid (Dv.DevIs wr d dk dd D1) ∧ Hid (Chg (Dv.Own d dk dd) w wr)) (fun i _ => 2 - (intOf i).toNat)
  case atStart => exact ⟨0, D, by omega, rfl, HR, HH, HC0⟩
  case round =>
    obtain ⟨j, D1, hj, rfl, HV, HJ, HC⟩ := hrel
    clear HR HH HC0
    by_cases hlt : j < 2
    · obtain ⟨E1, hE1⟩ : ∃ E1, Dv.wrE D1 j ⟨#[]⟩ = E1 := ⟨_, rfl⟩
      have HW := Lib.hid (Dv.write_all d dk dd D1 j ⟨#[]⟩ wr HJ.out)
      rw [hE1] at HW
      have HVN := Lib.hid (show fmtWiped note (if E1 = 0 then wipe (([0, 1] : List Int).drop (j + 1)) (Dv.wrD D1 j ⟨#[]⟩) else (E1, Dv.wrD D1 j ⟨#[]⟩)) = R by
        rw [← HV.out, drop_two j hlt]
        show _ = fmtWiped note (if Dv.wrE D1 j ⟨#[]⟩ = 0 then wipe (([0, 1] : List Int).drop (j + 1)) (Dv.wrD D1 j ⟨#[]⟩) else (Dv.wrE D1 j ⟨#[]⟩, Dv.wrD D1 j ⟨#[]⟩))
        rw [hE1])
      clear hE1 HV
      go_wp2_with fail
      refine HW.out.mono ?_
      rintro e w3 ⟨rfl, hd3, hc3⟩
      have HJ3 := Lib.hid hd3
      have HC3 := Lib.hid (HC.out.trans (Oct.Chg.of hc3))
      clear hd3 hc3 HW HJ HC
      by_cases h0 : E1 = 0
      · subst h0
        have HV2 := Lib.hid (show fmtWiped note (wipe (([0, 1] : List Int).drop (j + 1)) (Dv.wrD D1 j ⟨#[]⟩)) = R by rw [← HVN.out, if_pos rfl])
        clear HVN
        go_wp2
        go_roundw
        case rel => exact ⟨j + 1, _, by omega, by go_num, HV2, HJ3, HC3⟩
        case measure => simp [intOf]; omega
      · have hne : (E1 != 0) = true := by simpa using h0
        have HV2 := Lib.hid (show (false, E1, Dv.wrD D1 j ⟨#[]⟩) = R by
          rw [← HVN.out, if_neg h0]
          unfold fmtWiped
          rw [if_neg h0])
        clear h0 HVN
        go_wp2
        go_ret2
        exact ⟨by rw [← HV2.out]; exact ⟨rfl, HJ3.out⟩, HC3.out⟩
    · have hje : j = 2 := by omega
      subst hje
      have HV1 := Lib.hid (show fmtLaid note D1 = R from (if_pos rfl).symm.trans HV.out)
      have HO := Lib.hid (over_sto 1 0 note d dk dd D1 wr HJ.out)
      clear HV
      go_wp2_with fail
      refine HO.out.mono ?_
      rintro e w1 ⟨p, F, rfl, hst, e1, e2, e3, e4, e5, e6, e7⟩
      have HS1 := Lib.hid hst
      have HEQ := Lib.hid (show F.d = d ∧ F.dk = dk ∧ F.dd = dd from ⟨e1, e2, e3⟩)
      have hz := HC.out.size
      have HGE := Lib.hid (show w.heap.size ≤ p ∧ w.heap.size ≤ F.t ∧ w.heap.size ≤ F.k from ⟨by omega, by omega, by omega⟩)
      have HC1 := Lib.hid (HC.out.trans (Chg.of_below e7 (Dv.Own d dk dd)))
      have c0 := Has.at_ hst.obj 0
      have c1 := Has.at_ hst.obj 1
      have c2 := Has.at_ hst.obj 2
      simp at c0 c1 c2
      obtain ⟨E1, hE1⟩ : ∃ E, layE D1 1 0 note = E := ⟨_, rfl⟩
      obtain ⟨Z1, hZ1⟩ : ∃ Z, layD D1 1 0 note = Z := ⟨_, rfl⟩
      have HL := Lib.hid (lay_sto p F (bareV 1 0 note D1) 1 0 note (by omega) HN.out w1 hst E1 Z1 hE1 hZ1)
      have HV2 := Lib.hid (show (if E1 = 0 then (true, Dv.flE Z1, Dv.flD Z1) else (false, E1, Z1)) = R by
        rw [← HV1.out]
        unfold fmtLaid
        rw [hE1, hZ1])
      clear hst e1 e2 e3 e4 e5 e6 e7 hz HV1 HO HJ HC hE1 hZ1
      go_wp2_with fail
      refine HL.out.mono ?_
      rintro e w2 ⟨rfl, h2, hc2⟩
      have HS2 := Lib.hid (show StoIs w2 p F (bareV 1 0 note Z1) from h2)
      have HC2 := Lib.hid (HC1.out.trans (show Chg (Dv.Own d dk dd) w1 w2 by rw [← HEQ.out.1, ← HEQ.out.2.1, ← HEQ.out.2.2]; exact hc2))
      clear h2 hc2 HL c0 c1 c2 HS1 HC1
      by_cases h0 : E1 = 0
      · subst h0
        have HV3 := Lib.hid (show (true, Dv.flE Z1, Dv.flD Z1) = R by rw [← HV2.out, if_pos rfl])
        have HFL := Lib.hid (show Calls Tryz.prog 36 #[.pointer (some ⟨d, 0, none⟩)] w2 _ by have h := Dv.flush_all F.d F.dk F.dd Z1 w2 HS2.out.dev; rw [HEQ.out.1] at h; exact h)
        clear HV2
        go_wp2_with fail
        refine HFL.out.mono ?_
        rintro e w3 ⟨rfl, hd3, hc3⟩
        have HL3 := Lib.hid (show Laid w.heap.size (bareV 1 0 note (Dv.flD Z1)) d dk dd p F w3 from ⟨HS2.out.devs (by rw [HEQ.out.1]; exact hd3) (by rw [HEQ.out.1]; exact Oct.Chg.of hc3), HEQ.out.1, HEQ.out.2.1, HEQ.out.2.2, HGE.out.1, HGE.out.2.1, HGE.out.2.2⟩)
        have HC3 := Lib.hid (HC2.out.trans (show Chg (Dv.Own d dk dd) w2 w3 by have h := Oct.Chg.of hc3; rw [HEQ.out.2.1, HEQ.out.2.2] at h; exact h))
        clear hd3 hc3 HFL
        go_wp2
        go_ret2
        exact ⟨by rw [← HV3.out]; exact ⟨p, F, rfl, HL3.out⟩, HC3.out⟩
      · have hne : (E1 != 0) = true := by simpa using h0
        have HV3 := Lib.hid (show (false, E1, Z1) = R by rw [← HV2.out, if_neg h0])
        have HD := Lib.hid (show Dv.DevIs w2 d dk dd Z1 by have h := HS2.out.dev; rw [HEQ.out.1, HEQ.out.2.1, HEQ.out.2.2] at h; exact h)
        clear h0 HV2
        go_wp2
        go_ret2
        exact ⟨by rw [← HV3.out]; exact ⟨rfl, HD.out⟩, HC2.out⟩
end Go.Proofs.YthejlenafjnmkaaGreat.Sto
