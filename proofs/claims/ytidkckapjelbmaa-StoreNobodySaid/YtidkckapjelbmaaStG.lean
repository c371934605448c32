/- A beginning, read: contract. -/
import Derived.Test.YtidkckapjelbmaaStF
namespace Go.Proofs.Ytidkckapjelbmaa.Sto
open Go.RowKit Go.Proofs.Ytidkckapjelbmaa.Oct
open Rws

def GOut (o : Option BgV) (e : Ending) : Prop :=
  match o with
  | some (g, ro, t) => e = .returned (.tuple #[.agg #[.int .i64 g, .int .i64 ro, .string t], .bool true])
  | none => e = .returned (.tuple #[.agg #[.int .i64 0, .int .i64 0, .string ⟨#[]⟩], .bool false])
set_option maxRecDepth 100000 in
set_option maxHeartbeats 1000000 in
theorem begin_of (bytes : ByteArray) (hs : bytes.size ≤ 4104) (size : Int) (w : World) (o : Option BgV) (ho : parseG size bytes = o) :
    Calls Try.prog 63 #[.string bytes, .int .i64 size] w fun e w' => GOut o e ∧ Below w.heap.size w w' := by
  obtain ⟨W0, hW0⟩ : ∃ W0, W0 = (((w.alloc (.cells #[.int .i64 size] 3)).alloc (.cells #[.int .i64 0, .int .i64 0, .string ⟨#[]⟩] 51)).alloc (.cells #[.int .i64 0, .int .i64 0, .string ⟨#[]⟩] 51)) := ⟨_, rfl⟩
  have h1 : Oct.Has W0 w.heap.size 3 #[.int .i64 size] := by rw [hW0]; exact ((Oct.Has.fresh w _ _).past _).past _
  have h2 : Oct.Has W0 (w.heap.size + 1) 51 #[.int .i64 0, .int .i64 0, .string ⟨#[]⟩] := by
    have h := Oct.Has.fresh (w.alloc (.cells #[.int .i64 size] 3)) 51 #[.int .i64 0, .int .i64 0, .string ⟨#[]⟩]
    rw [World.size_alloc] at h
    rw [hW0]
    exact h.past _
  have h3 : Oct.Has W0 (w.heap.size + 2) 51 #[.int .i64 0, .int .i64 0, .string ⟨#[]⟩] := by
    have h := Oct.Has.fresh ((w.alloc (.cells #[.int .i64 size] 3)).alloc (.cells #[.int .i64 0, .int .i64 0, .string ⟨#[]⟩] 51)) 51 #[.int .i64 0, .int .i64 0, .string ⟨#[]⟩]
    rw [World.size_alloc, World.size_alloc] at h
    rw [hW0]
    exact h
  have hB : Below w.heap.size w W0 := by rw [hW0]; exact (((Below.refl _ w).alloc (Nat.le_refl _) _).alloc (by simp) _).alloc (by simp; omega) _
  have hz : W0.heap.size = w.heap.size + 3 := by rw [hW0]; simp
  have henter : ∀ (args : Array Value) (W : World), (callFunc 75 args).run Try.prog W = .ok (.enter 75 args) W := fun args W => by kernel_rfl
  have HL := Lib.hid (look_par (beginP size (CrcW.headB bytes)) (fun r y h => begin_why h) bytes hs 75 #[.pointer (some ⟨w.heap.size + 2, 0, none⟩), .pointer (some ⟨w.heap.size, 0, none⟩)] W0 henter (· = w.heap.size + 2) (fun k hk => by omega)
    (fun _ a w1 => Oct.Has w1 (w.heap.size + 2) 51 #[.int .i64 a.1, .int .i64 a.2.1, .string a.2.2]) (fun W hW => by
      have hsz := hW.size
      have hlk := lookW_below W (CrcW.headB bytes).data.toList
      have hls := lookW_size W (CrcW.headB bytes).data.toList
      have hL : Looks (lookW W (CrcW.headB bytes).data.toList) (W.heap.size + 3) (W.heap.size + 1) (CrcW.headB bytes) := by
        have k1 := lookW_sight W (CrcW.headB bytes).data.toList
        rw [back_bytes] at k1
        exact ⟨lookW_eye W _, k1⟩
      have hall := hW.trans (hlk.mono hW.size)
      refine (begin_look (W.heap.size + 3) (W.heap.size + 1) (w.heap.size + 2) w.heap.size size (CrcW.headB bytes) ⟨by omega, by omega, by omega, by omega, by omega⟩ _ hL (h3.over (Chg.of_below hall (fun _ => False)) (fun h => h)) (h1.over (Chg.of_below hall (fun _ => False)) (fun h => h)) _ rfl).mono ?_
      intro e w1 hd
      generalize beginP size (CrcW.headB bytes) = X at *
      cases X with
      | ok a =>
        obtain ⟨⟨g, ro, t⟩, r⟩ := a
        obtain ⟨d1, d2, d3, d5⟩ := hd
        exact ⟨d1, d2, d3, d5⟩
      | error a =>
        obtain ⟨r, y⟩ := a
        exact hd))
  have HO := Lib.hid (show parOf bytes (beginP size (CrcW.headB bytes)) = o from ho)
  obtain ⟨X, hX⟩ : ∃ X, beginP size (CrcW.headB bytes) = X := ⟨_, rfl⟩
  rw [hX] at HL HO
  have HW := Lib.hid hW0
  have HB := Lib.hid hB
  have H2 := Lib.hid h2
  have H3 := Lib.hid h3
  have HZ := Lib.hid hz
  clear hW0 h1 h2 h3 hB hz henter hX ho
  go_enter Try.func63, Try.ntmps63
  go_wp2_with fail
  rw [← HW.out]
  refine HL.out.mono ?_
  rintro e w1 ⟨rfl, hd, hc⟩
  have hsz := hc.size
  have hz1 := HZ.out
  have h21 := H2.out.over hc (by omega)
  have HB1 := Lib.hid (HB.out.trans (hc.below HB.out.size (fun k hk => by omega)))
  cases hlb : lookB bytes X with
  | false =>
    have hge : o = none := HO.out.symm.trans (by unfold parOf; rw [hlb]; rfl)
    subst hge
    have j0 := Oct.Has.at_ h21 0
    have j1 := Oct.Has.at_ h21 1
    have j2 := Oct.Has.at_ h21 2
    have f0 := Oct.Has.free h21 0
    have f1 := Oct.Has.free h21 1
    have f2 := Oct.Has.free h21 2
    simp at j0 j1 j2
    have h22 := Oct.Has.put (Oct.Has.put (Oct.Has.put h21 0 (.int .i64 0)) 1 (.int .i64 0)) 2 (.string ⟨#[]⟩)
    have j3 := Oct.Has.at_ h22 0
    have j4 := Oct.Has.at_ h22 1
    have j5 := Oct.Has.at_ h22 2
    simp at j3 j4 j5
    have HB2 := Lib.hid (((HB1.out.setCell (p := ⟨w.heap.size + 1, 0, none⟩) (by simp) (.int .i64 0)).setCell (p := ⟨w.heap.size + 1, 1, none⟩) (by simp) (.int .i64 0)).setCell (p := ⟨w.heap.size + 1, 2, none⟩) (by simp) (.string ⟨#[]⟩))
    clear hd hc h21 h22 hsz hz1 hlb
    go_wp2
    exact bodyPost_ret (v := .tuple #[.agg #[.int .i64 0, .int .i64 0, .string ⟨#[]⟩], .bool false]) (by simp [results, Try.results63, go_sem, j3, j4, j5]) rfl ⟨rfl, HB2.out⟩
  | true =>
    cases X with
    | error a => exact (hd hlb).elim
    | ok a =>
      obtain ⟨⟨g, ro, t⟩, r⟩ := a
      have hge : o = some (g, ro, t) := HO.out.symm.trans (by unfold parOf; rw [hlb]; rfl)
      subst hge
      obtain ⟨w2, b, hb, k1, hc2⟩ := hd hlb
      have k3 := k1.over hc2 (by omega)
      have i0 := Oct.Has.at_ k3 0
      have i1 := Oct.Has.at_ k3 1
      have i2 := Oct.Has.at_ k3 2
      have j0 := Oct.Has.at_ h21 0
      have j1 := Oct.Has.at_ h21 1
      have j2 := Oct.Has.at_ h21 2
      have f0 := Oct.Has.free h21 0
      have f1 := Oct.Has.free h21 1
      have f2 := Oct.Has.free h21 2
      simp at i0 i1 i2 j0 j1 j2
      have h22 := Oct.Has.put (Oct.Has.put (Oct.Has.put h21 0 (.int .i64 g)) 1 (.int .i64 ro)) 2 (.string t)
      have j3 := Oct.Has.at_ h22 0
      have j4 := Oct.Has.at_ h22 1
      have j5 := Oct.Has.at_ h22 2
      simp at j3 j4 j5
      have HB2 := Lib.hid (((HB1.out.setCell (p := ⟨w.heap.size + 1, 0, none⟩) (by simp) (.int .i64 g)).setCell (p := ⟨w.heap.size + 1, 1, none⟩) (by simp) (.int .i64 ro)).setCell (p := ⟨w.heap.size + 1, 2, none⟩) (by simp) (.string t))
      clear hd hc h21 h22 hsz hz1 hlb k1 k3 hc2
      go_wp2
      exact bodyPost_ret (v := .tuple #[.agg #[.int .i64 g, .int .i64 ro, .string t], .bool true]) (by simp [results, Try.results63, go_sem, j3, j4, j5]) rfl ⟨rfl, HB2.out⟩
end Go.Proofs.Ytidkckapjelbmaa.Sto
