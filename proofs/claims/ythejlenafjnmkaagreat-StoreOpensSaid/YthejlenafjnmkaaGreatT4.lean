import Derived.Test.YthejlenafjnmkaaGreatT3
import Derived.Test.YthejlenafjnmkaaGreatDevE

/- A block and a beginning, read: contracts. -/
namespace Go.Proofs.YthejlenafjnmkaaGreat.Sto
open Go.RowKit Go.Proofs.YthejlenafjnmkaaGreat.Oct
open Rws

theorem own_low {w : World} {b c n : Nat} {e : TypeId} {u : Value} {l : List Value} (h : w.ownsRow b e 1 u n l) (hc : c ≤ b) : w.ownsRow c e 1 u n l := by
  refine ⟨h.1, ?_⟩
  rcases h.2 with k | ⟨g, cap, cur, e, hb, hh, k⟩
  · exact .inl k
  · exact .inr ⟨g, cap, cur, e, Nat.le_trans hc hb, hh, k⟩
/-- Rows from b on stay where only what lies below b has changed. -/
theorem own_under {w w' : World} {b : Nat} {t : TypeId} {v : Value} {n : Nat} {xs : List Value} {B : Nat} (h : w.ownsRow b t 1 v n xs) (hc : Chg (fun k => B ≤ k ∧ k < b) w w') : w'.ownsRow b t 1 v n xs := own_chg h hc (fun k hk => by omega)
/-- A row stays where only a block of another kind has changed. -/
theorem own_apart {w w' : World} {b g n : Nat} {e t : TypeId} {v : Value} {xs : List Value} {cs : Array Value} (h : w.ownsRow b e 1 v n xs) (hg : Oct.Has w g t cs) (hc : Chg (· = g) w w') (hne : e ≠ t) : w'.ownsRow b e 1 v n xs := by
  refine ⟨h.1, ?_⟩
  rcases h.2 with k | ⟨q, cap, cur, e1, hb, hh, k⟩
  · exact .inl k
  · refine .inr ⟨q, cap, cur, e1, hb, ?_, k⟩
    rw [hc.block q (Array.getElem?_eq_some_iff.1 hh).1 (fun hq => ?_)]
    · exact hh
    · subst hq
      unfold Oct.Has at hg
      rw [hg] at hh
      injection hh with hh
      injection hh with _ h2
      exact hne h2.symm
theorem back_bytes (r : ByteArray) : (⟨r.data.toList.toArray⟩ : ByteArray) = r := by simp
theorem num_why {r : ByteArray} {k : Int} {q : ByteArray} {y : Int} (h : gotNum r k = .bad q y) : y ≠ 0 := by
  unfold gotNum at h
  repeat' split at h
  all_goals simp at h
  all_goals omega
theorem text_why {r : ByteArray} {k : Int} {q : ByteArray} {y : Int} (h : gotText r k = .bad q y) : y ≠ 0 := by
  unfold gotText at h
  repeat' split at h
  all_goals simp at h
  all_goals omega
theorem raw_why {r : ByteArray} {k : Int} {q : ByteArray} {y : Int} (h : gotRaw r k = .bad q y) : y ≠ 0 := by
  unfold gotRaw at h
  repeat' split at h
  all_goals simp at h
  all_goals omega
theorem kids_why {size : Int} : ∀ {k : Nat} {r : ByteArray} {acc : List Int} {q : ByteArray} {y : Int}, kidsP size k r acc = .error (q, y) → y ≠ 0
  | 0, r, acc, q, y, h => by simp [kidsP] at h
  | k + 1, r, acc, q, y, h => by
    unfold kidsP at h
    split at h
    · split at h
      · exact kids_why h
      · simp at h; omega
    · simp at h; omega
    · rename_i hg
      simp at h
      exact h.2 ▸ num_why hg
theorem textP_why {ks : List Int} {r q : ByteArray} {y : Int} (h : textP ks r = .error (q, y)) : y ≠ 0 := by
  unfold textP at h
  split at h
  · simp at h
  · simp at h; omega
  · rename_i hg
    simp at h
    exact h.2 ▸ text_why hg
theorem block_why {size : Int} {r q : ByteArray} {y : Int} (h : blockP size r = .error (q, y)) : y ≠ 0 := by
  unfold blockP at h
  split at h
  · split at h
    · unfold tailP at h
      split at h
      · exact textP_why h
      · rename_i e he
        simp at h
        subst h
        exact kids_why he
    · simp at h; omega
  · simp at h; omega
  · rename_i hg
    simp at h
    exact h.2 ▸ num_why hg
theorem begin_why {size : Int} {r q : ByteArray} {y : Int} (h : beginP size r = .error (q, y)) : y ≠ 0 := by
  unfold beginP at h
  split at h
  · split at h
    · unfold bg2 at h
      split at h
      · split at h
        · unfold bg3 at h
          split at h
          · split at h
            · unfold bg4 at h
              split at h
              · split at h
                · unfold bg5 at h
                  split at h
                  · simp at h
                  · simp at h; omega
                  · rename_i hg; simp at h; exact h.2 ▸ text_why hg
                · simp at h; omega
              · simp at h; omega
              · rename_i hg; simp at h; exact h.2 ▸ num_why hg
            · simp at h; omega
          · simp at h; omega
          · rename_i hg; simp at h; exact h.2 ▸ num_why hg
        · simp at h; omega
      · simp at h; omega
      · rename_i hg; simp at h; exact h.2 ▸ num_why hg
    · simp at h; omega
  · simp at h; omega
  · rename_i hg; simp at h; exact h.2 ▸ raw_why hg
/-- What sealed bytes tell of a block; of a beginning. -/
def parOf {α : Type} (bytes : ByteArray) (X : Par α) : Option α := if lookB bytes X = true then (match X with | .ok (a, _) => some a | .error _ => none) else none
def parseB (size : Int) (bytes : ByteArray) : Option (List Int × ByteArray) := parOf bytes (blockP size (CrcW.headB bytes))
def parseG (size : Int) (bytes : ByteArray) : Option BgV := parOf bytes (beginP size (CrcW.headB bytes))
def BOut (o : Option (List Int × ByteArray)) (B : Nat) (e : Ending) (w' : World) : Prop :=
  match o with
  | some (ks, t) => ∃ v, e = .returned (.tuple #[.agg #[v, .string t], .bool true]) ∧ OwnI w' B v ks
  | none => e = .returned (.tuple #[.agg #[.slice none 0 0, .string ⟨#[]⟩], .bool false])
set_option maxRecDepth 100000 in
set_option maxHeartbeats 1000000 in
theorem block_of (bytes : ByteArray) (hs : bytes.size ≤ 4104) (size : Int) (w : World) (o : Option (List Int × ByteArray)) (ho : parseB size bytes = o) :
    Calls Tryz.prog 99 #[.string bytes, .int .i64 size] w fun e w' => BOut o w.heap.size e w' ∧ Below w.heap.size w w' := by
  obtain ⟨W0, hW0⟩ : ∃ W0, W0 = (((w.alloc (.cells #[.int .i64 size] 3)).alloc (.cells #[.slice none 0 0, .string ⟨#[]⟩] 51)).alloc (.cells #[.slice none 0 0, .string ⟨#[]⟩] 51)) := ⟨_, rfl⟩
  have h1 : Oct.Has W0 w.heap.size 3 #[.int .i64 size] := by rw [hW0]; exact ((Oct.Has.fresh w _ _).past _).past _
  have h2 : Oct.Has W0 (w.heap.size + 1) 51 #[.slice none 0 0, .string ⟨#[]⟩] := by
    have h := Oct.Has.fresh (w.alloc (.cells #[.int .i64 size] 3)) 51 #[.slice none 0 0, .string ⟨#[]⟩]
    rw [World.size_alloc] at h
    rw [hW0]
    exact h.past _
  have h3 : Oct.Has W0 (w.heap.size + 2) 51 #[.slice none 0 0, .string ⟨#[]⟩] := by
    have h := Oct.Has.fresh ((w.alloc (.cells #[.int .i64 size] 3)).alloc (.cells #[.slice none 0 0, .string ⟨#[]⟩] 51)) 51 #[.slice none 0 0, .string ⟨#[]⟩]
    rw [World.size_alloc, World.size_alloc] at h
    rw [hW0]
    exact h
  have hB : Below w.heap.size w W0 := by rw [hW0]; exact (((Below.refl _ w).alloc (Nat.le_refl _) _).alloc (by simp) _).alloc (by simp; omega) _
  have hz : W0.heap.size = w.heap.size + 3 := by rw [hW0]; simp
  have henter : ∀ (args : Array Value) (W : World), (callFunc 116 args).run Tryz.prog W = .ok (.enter 116 args) W := fun args W => by kernel_rfl
  have HL := Lib.hid (look_par (blockP size (CrcW.headB bytes)) (fun r y h => block_why h) bytes hs 116 #[.pointer (some ⟨w.heap.size, 0, none⟩), .pointer (some ⟨w.heap.size + 2, 0, none⟩)] W0 henter (· = w.heap.size + 2) (fun k hk => by omega)
    (fun b a w1 => ∃ v, Oct.Has w1 (w.heap.size + 2) 51 #[v, .string a.2] ∧ OwnI w1 b v a.1) (fun W hW => by
      have hsz := hW.size
      have hlk := lookW_below W (CrcW.headB bytes).data.toList
      have hls := lookW_size W (CrcW.headB bytes).data.toList
      have hL : Looks (lookW W (CrcW.headB bytes).data.toList) (W.heap.size + 3) (W.heap.size + 1) (CrcW.headB bytes) := by
        have k1 := lookW_sight W (CrcW.headB bytes).data.toList
        rw [back_bytes] at k1
        exact ⟨lookW_eye W _, k1⟩
      have hall := hW.trans (hlk.mono hW.size)
      refine (block_look (W.heap.size + 3) (W.heap.size + 1) (w.heap.size + 2) w.heap.size size (CrcW.headB bytes) (by omega) (by omega) (by omega) (by omega) (by omega) _ hL (h3.over (Chg.of_below hall (fun _ => False)) (fun h => h)) (h1.over (Chg.of_below hall (fun _ => False)) (fun h => h)) _ rfl).mono ?_
      intro e w1 hd
      generalize blockP size (CrcW.headB bytes) = X at *
      cases X with
      | ok a =>
        obtain ⟨⟨ks, t⟩, r⟩ := a
        obtain ⟨d1, d2, ⟨v, d3, d4⟩, d5⟩ := hd
        exact ⟨d1, d2, ⟨v, d3, by rw [hls] at d4; exact d4⟩, d5⟩
      | error a =>
        obtain ⟨r, y⟩ := a
        exact hd))
  have HO := Lib.hid (show parOf bytes (blockP size (CrcW.headB bytes)) = o from ho)
  obtain ⟨X, hX⟩ : ∃ X, blockP size (CrcW.headB bytes) = X := ⟨_, rfl⟩
  rw [hX] at HL HO
  have HW := Lib.hid hW0
  have HB := Lib.hid hB
  have H2 := Lib.hid h2
  have H3 := Lib.hid h3
  have HZ := Lib.hid hz
  clear hW0 h1 h2 h3 hB hz henter hX ho
  go_enter Tryz.func99, Tryz.ntmps99
  go_wp2_with fail
  rw [← HW.out]
  refine HL.out.mono ?_
  rintro e w1 ⟨rfl, hd, hc⟩
  have hsz := hc.size
  have hz1 := HZ.out
  have h21 := H2.out.over hc (by omega)
  have HB1 := Lib.hid (HB.out.trans (hc.below HB.out.size (fun k hk => by omega)))
  cases hlb : lookB bytes X with
  | false =>
    have hge : o = none := HO.out.symm.trans (by unfold parOf; rw [hlb]; rfl)
    subst hge
    have j0 := Oct.Has.at_ h21 0
    have j1 := Oct.Has.at_ h21 1
    have f0 := Oct.Has.free h21 0
    have f1 := Oct.Has.free h21 1
    simp at j0 j1
    have h22 := Oct.Has.put (Oct.Has.put h21 0 (.slice none 0 0)) 1 (.string ⟨#[]⟩)
    have j2 := Oct.Has.at_ h22 0
    have j3 := Oct.Has.at_ h22 1
    simp at j2 j3
    have HB2 := Lib.hid ((HB1.out.setCell (p := ⟨w.heap.size + 1, 0, none⟩) (by simp) (.slice none 0 0)).setCell (p := ⟨w.heap.size + 1, 1, none⟩) (by simp) (.string ⟨#[]⟩))
    clear hd hc h21 h22 hsz hz1 hlb
    go_wp2
    exact bodyPost_ret (v := .tuple #[.agg #[.slice none 0 0, .string ⟨#[]⟩], .bool false]) (by simp [results, Tryz.results99, go_sem, j2, j3]) rfl ⟨rfl, HB2.out⟩
  | true =>
    cases X with
    | error a => exact (hd hlb).elim
    | ok a =>
      obtain ⟨⟨ks, t⟩, r⟩ := a
      have hge : o = some (ks, t) := HO.out.symm.trans (by unfold parOf; rw [hlb]; rfl)
      subst hge
      obtain ⟨w2, b, hb, ⟨v, k1, k2⟩, hc2⟩ := hd hlb
      have k3 := k1.over hc2 (by omega)
      have k4 : OwnI w1 w.heap.size v ks := own_low (own_under k2 hc2) (by omega)
      obtain ⟨A5, c5, rfl⟩ := own_sl k4
      have i0 := Oct.Has.at_ k3 0
      have i1 := Oct.Has.at_ k3 1
      have j0 := Oct.Has.at_ h21 0
      have j1 := Oct.Has.at_ h21 1
      have f0 := Oct.Has.free h21 0
      have f1 := Oct.Has.free h21 1
      simp at i0 i1 j0 j1
      have h22 := Oct.Has.put (Oct.Has.put h21 0 (.slice A5 ks.length c5)) 1 (.string t)
      have j2 := Oct.Has.at_ h22 0
      have j3 := Oct.Has.at_ h22 1
      simp at j2 j3
      have HB2 := Lib.hid ((HB1.out.setCell (p := ⟨w.heap.size + 1, 0, none⟩) (by simp) (.slice A5 ks.length c5)).setCell (p := ⟨w.heap.size + 1, 1, none⟩) (by simp) (.string t))
      have HO2 := Lib.hid (show OwnI ((w1.setCell ⟨w.heap.size + 1, 0, none⟩ (.slice A5 ks.length c5)).setCell ⟨w.heap.size + 1, 1, none⟩ (.string t)) w.heap.size (.slice A5 ks.length c5) ks from
        own_apart k4 h21 (((Chg.refl (· = w.heap.size + 1) w1).setCell (p := ⟨w.heap.size + 1, 0, none⟩) (.inl rfl) _).setCell (p := ⟨w.heap.size + 1, 1, none⟩) (.inl rfl) _) (by decide))
      clear hd hc h21 h22 hsz hz1 hlb k1 k2 k3 k4 hc2
      go_wp2
      exact bodyPost_ret (v := .tuple #[.agg #[.slice A5 ks.length c5, .string t], .bool true]) (by simp [results, Tryz.results99, go_sem, j2, j3]) rfl ⟨⟨_, rfl, HO2.out⟩, HB2.out⟩
end Go.Proofs.YthejlenafjnmkaaGreat.Sto
/- A beginning, read: contract. -/
namespace Go.Proofs.YthejlenafjnmkaaGreat.Sto
open Go.RowKit Go.Proofs.YthejlenafjnmkaaGreat.Oct
open Rws

def GOut (o : Option BgV) (e : Ending) : Prop :=
  match o with
  | some (g, ro, t) => e = .returned (.tuple #[.agg #[.int .i64 g, .int .i64 ro, .string t], .bool true])
  | none => e = .returned (.tuple #[.agg #[.int .i64 0, .int .i64 0, .string ⟨#[]⟩], .bool false])
set_option maxRecDepth 100000 in
set_option maxHeartbeats 1000000 in
theorem begin_of (bytes : ByteArray) (hs : bytes.size ≤ 4104) (size : Int) (w : World) (o : Option BgV) (ho : parseG size bytes = o) :
    Calls Tryz.prog 84 #[.string bytes, .int .i64 size] w fun e w' => GOut o e ∧ Below w.heap.size w w' := by
  obtain ⟨W0, hW0⟩ : ∃ W0, W0 = (((w.alloc (.cells #[.int .i64 size] 3)).alloc (.cells #[.int .i64 0, .int .i64 0, .string ⟨#[]⟩] 83)).alloc (.cells #[.int .i64 0, .int .i64 0, .string ⟨#[]⟩] 83)) := ⟨_, rfl⟩
  have h1 : Oct.Has W0 w.heap.size 3 #[.int .i64 size] := by rw [hW0]; exact ((Oct.Has.fresh w _ _).past _).past _
  have h2 : Oct.Has W0 (w.heap.size + 1) 83 #[.int .i64 0, .int .i64 0, .string ⟨#[]⟩] := by
    have h := Oct.Has.fresh (w.alloc (.cells #[.int .i64 size] 3)) 83 #[.int .i64 0, .int .i64 0, .string ⟨#[]⟩]
    rw [World.size_alloc] at h
    rw [hW0]
    exact h.past _
  have h3 : Oct.Has W0 (w.heap.size + 2) 83 #[.int .i64 0, .int .i64 0, .string ⟨#[]⟩] := by
    have h := Oct.Has.fresh ((w.alloc (.cells #[.int .i64 size] 3)).alloc (.cells #[.int .i64 0, .int .i64 0, .string ⟨#[]⟩] 83)) 83 #[.int .i64 0, .int .i64 0, .string ⟨#[]⟩]
    rw [World.size_alloc, World.size_alloc] at h
    rw [hW0]
    exact h
  have hB : Below w.heap.size w W0 := by rw [hW0]; exact (((Below.refl _ w).alloc (Nat.le_refl _) _).alloc (by simp) _).alloc (by simp; omega) _
  have hz : W0.heap.size = w.heap.size + 3 := by rw [hW0]; simp
  have henter : ∀ (args : Array Value) (W : World), (callFunc 105 args).run Tryz.prog W = .ok (.enter 105 args) W := fun args W => by kernel_rfl
  have HL := Lib.hid (look_par (beginP size (CrcW.headB bytes)) (fun r y h => begin_why h) bytes hs 105 #[.pointer (some ⟨w.heap.size + 2, 0, none⟩), .pointer (some ⟨w.heap.size, 0, none⟩)] W0 henter (· = w.heap.size + 2) (fun k hk => by omega)
    (fun _ a w1 => Oct.Has w1 (w.heap.size + 2) 83 #[.int .i64 a.1, .int .i64 a.2.1, .string a.2.2]) (fun W hW => by
      have hsz := hW.size
      have hlk := lookW_below W (CrcW.headB bytes).data.toList
      have hls := lookW_size W (CrcW.headB bytes).data.toList
      have hL : Looks (lookW W (CrcW.headB bytes).data.toList) (W.heap.size + 3) (W.heap.size + 1) (CrcW.headB bytes) := by
        have k1 := lookW_sight W (CrcW.headB bytes).data.toList
        rw [back_bytes] at k1
        exact ⟨lookW_eye W _, k1⟩
      have hall := hW.trans (hlk.mono hW.size)
      refine (begin_look (W.heap.size + 3) (W.heap.size + 1) (w.heap.size + 2) w.heap.size size (CrcW.headB bytes) ⟨by omega, by omega, by omega, by omega, by omega⟩ _ hL (h3.over (Chg.of_below hall (fun _ => False)) (fun h => h)) (h1.over (Chg.of_below hall (fun _ => False)) (fun h => h)) _ rfl).mono ?_
      intro e w1 hd
      generalize beginP size (CrcW.headB bytes) = X at *
      cases X with
      | ok a =>
        obtain ⟨⟨g, ro, t⟩, r⟩ := a
        obtain ⟨d1, d2, d3, d5⟩ := hd
        exact ⟨d1, d2, d3, d5⟩
      | error a =>
        obtain ⟨r, y⟩ := a
        exact hd))
  have HO := Lib.hid (show parOf bytes (beginP size (CrcW.headB bytes)) = o from ho)
  obtain ⟨X, hX⟩ : ∃ X, beginP size (CrcW.headB bytes) = X := ⟨_, rfl⟩
  rw [hX] at HL HO
  have HW := Lib.hid hW0
  have HB := Lib.hid hB
  have H2 := Lib.hid h2
  have H3 := Lib.hid h3
  have HZ := Lib.hid hz
  clear hW0 h1 h2 h3 hB hz henter hX ho
  go_enter Tryz.func84, Tryz.ntmps84
  go_wp2_with fail
  rw [← HW.out]
  refine HL.out.mono ?_
  rintro e w1 ⟨rfl, hd, hc⟩
  have hsz := hc.size
  have hz1 := HZ.out
  have h21 := H2.out.over hc (by omega)
  have HB1 := Lib.hid (HB.out.trans (hc.below HB.out.size (fun k hk => by omega)))
  cases hlb : lookB bytes X with
  | false =>
    have hge : o = none := HO.out.symm.trans (by unfold parOf; rw [hlb]; rfl)
    subst hge
    have j0 := Oct.Has.at_ h21 0
    have j1 := Oct.Has.at_ h21 1
    have j2 := Oct.Has.at_ h21 2
    have f0 := Oct.Has.free h21 0
    have f1 := Oct.Has.free h21 1
    have f2 := Oct.Has.free h21 2
    simp at j0 j1 j2
    have h22 := Oct.Has.put (Oct.Has.put (Oct.Has.put h21 0 (.int .i64 0)) 1 (.int .i64 0)) 2 (.string ⟨#[]⟩)
    have j3 := Oct.Has.at_ h22 0
    have j4 := Oct.Has.at_ h22 1
    have j5 := Oct.Has.at_ h22 2
    simp at j3 j4 j5
    have HB2 := Lib.hid (((HB1.out.setCell (p := ⟨w.heap.size + 1, 0, none⟩) (by simp) (.int .i64 0)).setCell (p := ⟨w.heap.size + 1, 1, none⟩) (by simp) (.int .i64 0)).setCell (p := ⟨w.heap.size + 1, 2, none⟩) (by simp) (.string ⟨#[]⟩))
    clear hd hc h21 h22 hsz hz1 hlb
    go_wp2
    exact bodyPost_ret (v := .tuple #[.agg #[.int .i64 0, .int .i64 0, .string ⟨#[]⟩], .bool false]) (by simp [results, Tryz.results84, go_sem, j3, j4, j5]) rfl ⟨rfl, HB2.out⟩
  | true =>
    cases X with
    | error a => exact (hd hlb).elim
    | ok a =>
      obtain ⟨⟨g, ro, t⟩, r⟩ := a
      have hge : o = some (g, ro, t) := HO.out.symm.trans (by unfold parOf; rw [hlb]; rfl)
      subst hge
      obtain ⟨w2, b, hb, k1, hc2⟩ := hd hlb
      have k3 := k1.over hc2 (by omega)
      have i0 := Oct.Has.at_ k3 0
      have i1 := Oct.Has.at_ k3 1
      have i2 := Oct.Has.at_ k3 2
      have j0 := Oct.Has.at_ h21 0
      have j1 := Oct.Has.at_ h21 1
      have j2 := Oct.Has.at_ h21 2
      have f0 := Oct.Has.free h21 0
      have f1 := Oct.Has.free h21 1
      have f2 := Oct.Has.free h21 2
      simp at i0 i1 i2 j0 j1 j2
      have h22 := Oct.Has.put (Oct.Has.put (Oct.Has.put h21 0 (.int .i64 g)) 1 (.int .i64 ro)) 2 (.string t)
      have j3 := Oct.Has.at_ h22 0
      have j4 := Oct.Has.at_ h22 1
      have j5 := Oct.Has.at_ h22 2
      simp at j3 j4 j5
      have HB2 := Lib.hid (((HB1.out.setCell (p := ⟨w.heap.size + 1, 0, none⟩) (by simp) (.int .i64 g)).setCell (p := ⟨w.heap.size + 1, 1, none⟩) (by simp) (.int .i64 ro)).setCell (p := ⟨w.heap.size + 1, 2, none⟩) (by simp) (.string t))
      clear hd hc h21 h22 hsz hz1 hlb k1 k3 hc2
      go_wp2
      exact bodyPost_ret (v := .tuple #[.agg #[.int .i64 g, .int .i64 ro, .string t], .bool true]) (by simp [results, Tryz.results84, go_sem, j3, j4, j5]) rfl ⟨rfl, HB2.out⟩
end Go.Proofs.YthejlenafjnmkaaGreat.Sto
/- A store in memory, and what its parts answer. -/
namespace Go.Proofs.YthejlenafjnmkaaGreat.Sto
open Go.RowKit
open Oct (Has Chg)
open Rws
open Mem (IMap)

/-- What a store knows of a block that is there. -/
structure NodeV where
  kids : List Int
  high : Int
  named : Int
  held : Int
/-- A store: its last commit, its blocks, what is kept, its device. -/
structure SV where
  gen : Int
  root : Int
  note : ByteArray
  nodes : Int → Option NodeV
  kept : Int → Bool
  dev : Dv.St
/-- Where a store's parts stand. -/
structure Fr where
  t : Nat
  k : Nat
  d : Nat
  dk : Nat
  dd : Nat
  g : Int → Nat
def thereM (F : Fr) (f : Int → Option NodeV) : Int → Option Value := fun z => (f z).map fun _ => .pointer (some ⟨F.g z, 0, none⟩)
def keptM (f : Int → Bool) : Int → Option Value := fun z => if f z = true then some (.agg #[]) else none
def nodeC (n : NodeV) (A : Option Addr) (c : Nat) : Array Value := #[.slice A n.kids.length c, .int .i64 n.high, .int .i64 n.named, .int .i64 n.held]
/-- A node stands at a block. -/
def NodeIs (w : World) (g : Nat) (n : NodeV) : Prop := ∃ A c, Has w g 109 (nodeC n A c) ∧ OwnI w 0 (.slice A n.kids.length c) n.kids
/-- The store s stands at block p. -/
structure StoIs (w : World) (p : Nat) (F : Fr) (s : SV) : Prop where
  obj : Has w p 88 #[.int .i64 s.gen, .int .i64 s.root, .string s.note, .pointer (some ⟨F.d, 0, none⟩), .map (some F.t), .map (some F.k)]
  dev : Dv.DevIs w F.d F.dk F.dd s.dev
  there : IMap w F.t (thereM F s.nodes)
  kept : IMap w F.k (keptM s.kept)
  node : ∀ z n, s.nodes z = some n → NodeIs w (F.g z) n
  inj : ∀ z y, (s.nodes z).isSome = true → (s.nodes y).isSome = true → F.g z = F.g y → z = y
  tk : F.t ≠ F.k
  tdk : F.t ≠ F.dk
  tdd : F.t ≠ F.dd
  kdk : F.k ≠ F.dk
  kdd : F.k ≠ F.dd
theorem own_below {w w' : World} {b n : Nat} {e : TypeId} {v : Value} {xs : List Value} (h : w.ownsRow b e 1 v n xs) (hb : Below w.heap.size w w') : w'.ownsRow b e 1 v n xs := own_chg h (Chg.of_below hb (fun _ => False)) (fun _ _ h => h)
theorem NodeIs.below {w w' : World} {g : Nat} {n : NodeV} (h : NodeIs w g n) (hb : Below w.heap.size w w') : NodeIs w' g n := by
  obtain ⟨A, c, h1, h2⟩ := h
  exact ⟨A, c, h1.over (Chg.of_below hb (fun _ => False)) (fun h => h), own_below h2 hb⟩
theorem StoIs.below {w w' : World} {p : Nat} {F : Fr} {s : SV} (h : StoIs w p F s) (hb : Below w.heap.size w w') : StoIs w' p F s :=
  ⟨h.obj.over (Chg.of_below hb (fun _ => False)) (fun h => h), h.dev.below hb, h.there.below hb, h.kept.below hb, fun z n hz => (h.node z n hz).below hb, h.inj, h.tk, h.tdk, h.tdd, h.kdk, h.kdd⟩
theorem mapN : Tryz.prog.underlying 85 = some (.map 3 110) := Tryz.underlying85
theorem mapK : Tryz.prog.underlying 86 = some (.map 3 135) := Tryz.underlying86
theorem zero_node (w : World) : (zeroValue 110).run Tryz.prog w = .ok (.pointer none) w := by kernel_rfl
theorem zero_unit (w : World) : (zeroValue 135).run Tryz.prog w = .ok (.agg #[]) w := by kernel_rfl
theorem made_sto (p : Nat) (F : Fr) (s : SV) (w : World) (h : StoIs w p F s) :
    Calls Tryz.prog 69 #[.pointer (some ⟨p, 0, none⟩)] w fun e w' => e = .returned (.bool true) ∧ w = w' := by
  have c3 := Has.at_ h.obj 3
  simp at c3
  clear h
  go_enter Tryz.func69, Tryz.ntmps69
  go_wp2
  go_ret
  exact ⟨rfl, rfl⟩
theorem has_sto (p : Nat) (F : Fr) (s : SV) (i : Int) (w : World) (h : StoIs w p F s) :
    Calls Tryz.prog 70 #[.pointer (some ⟨p, 0, none⟩), .int .i64 i] w fun e w' => e = .returned (.bool (s.nodes i).isSome) ∧ w = w' := by
  have c4 := Has.at_ h.obj 4
  simp at c4
  have hl := (h.there.lookup mapN Dv.intT (.pointer none) zero_node i).2
  have e1 : (thereM F s.nodes i).isSome = (s.nodes i).isSome := by unfold thereM; cases s.nodes i <;> rfl
  rw [e1] at hl
  generalize (thereM F s.nodes i).getD (.pointer none) = v at hl
  generalize (s.nodes i).isSome = b at *
  clear h e1
  go_enter Tryz.func70, Tryz.ntmps70
  go_wp2
  go_ret
  exact ⟨rfl, rfl⟩
def freeB (s : SV) (i : Int) : Bool := !s.kept i && !(s.nodes i).isSome
theorem free_sto (p : Nat) (F : Fr) (s : SV) (i : Int) (w : World) (h : StoIs w p F s) :
    Calls Tryz.prog 95 #[.pointer (some ⟨p, 0, none⟩), .int .i64 i] w fun e w' => e = .returned (.bool (freeB s i)) ∧ Below w.heap.size w w' := by
  have c5 := Has.at_ h.obj 5
  simp at c5
  have hl := (h.kept.lookup mapK Dv.intT (.agg #[]) zero_unit i).2
  have e1 : (keptM s.kept i).isSome = s.kept i := by unfold keptM; cases s.kept i <;> rfl
  have e2 : (keptM s.kept i).getD (.agg #[]) = .agg #[] := by unfold keptM; cases s.kept i <;> rfl
  rw [e1, e2] at hl
  have HB := Lib.hid ((Below.refl w.heap.size w).alloc (Nat.le_refl _) (.cells #[] 135))
  have HH := Lib.hid (has_sto p F s i _ (h.below HB.out))
  have HF := Lib.hid (show freeB s i = (!s.kept i && !(s.nodes i).isSome) from rfl)
  clear h e1 e2
  rw [HF.out]
  generalize (s.nodes i).isSome = b at *
  cases hk : s.kept i with
  | true =>
    rw [hk] at hl
    go_enter Tryz.func95, Tryz.ntmps95
    go_wp2
    go_ret
    exact ⟨rfl, HB.out⟩
  | false =>
    rw [hk] at hl
    go_enter Tryz.func95, Tryz.ntmps95
    go_wp2_with fail
    refine HH.out.mono ?_
    rintro e w' ⟨rfl, rfl⟩
    go_wp2
    go_ret
    exact ⟨rfl, HB.out⟩
end Go.Proofs.YthejlenafjnmkaaGreat.Sto
