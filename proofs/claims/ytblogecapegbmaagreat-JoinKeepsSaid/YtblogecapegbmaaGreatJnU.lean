/- Join: how much is there when two are one; what facts.Same and the opening want. -/
import Derived.Test.YtblogecapegbmaaGreatJnQ
import Derived.Test.YtblogecapegbmaaGreatJnS
import Derived.Test.YtblogecapegbmaaGreatJnRow
import Derived.Test.YtblogecapegbmaaGreatOpenJ
namespace Go.Proofs.YtblogecapegbmaaGreat.Jn
open Go.RowKit Go.Proofs.YtblogecapegbmaaGreat.Mem
set_option linter.unusedVariables false set_option linter.unusedSimpArgs false set_option linter.unusedSectionVars false

theorem same_yes {a b : Fc.StateC} (h : a.p = b.p) : Fc.SameP a b := by
 simp only [Fc.StateC.p, Fc.StateP.mk.injEq] at h
 exact ⟨fun i _ => by rw [h.1], h.2.1, by rw [h.2.2]⟩
theorem in_fit {w : World} {s : Fc.StateC} (h : Fc.StateFit w s) (n : Fc.NilS s) : StateIn w s :=
 ⟨⟨h.nodes, n.1⟩, ⟨h.links, n.2.1⟩, fun z hz => ⟨⟨(h.each z hz).ps, (n.2.2 z hz).1⟩, ⟨(h.each z hz).xs, (n.2.2 z hz).2⟩⟩⟩
theorem sum_le {α : Type} (f : α → Nat) (k : Nat) : ∀ (l : List α), (∀ x ∈ l, f x ≤ k) → (l.map f).sum ≤ l.length * k
 | [], _ => by simp
 | x :: r, h => by
  have h1 := h x List.mem_cons_self
  have h2 := sum_le f k r (fun y hy => h y (List.mem_cons_of_mem _ hy))
  rw [List.map_cons, List.sum_cons, List.length_cons, Nat.add_mul]
  omega
theorem lim_small {w : World} {s : Fc.StateC} (h : Fc.StateFit w s) (h1 : s.n1 ≤ 40) (h2 : s.n2 ≤ 40) (h3 : ∀ x ∈ s.nodes, x.n1 ≤ 120 ∧ x.n2 ≤ 120) : LimS 4800 s := by
 have e := h.nodes.len
 have a1 := sum_le Fc.NodeC.n1 120 s.nodes (fun x hx => (h3 x hx).1)
 have a2 := sum_le Fc.NodeC.n2 120 s.nodes (fun x hx => (h3 x hx).2)
 exact ⟨by omega, by omega, by omega, by omega⟩
/-- May all be gone through? -/
def SmallsIs (xs : List Fc.StateC) (e : Ending) : Prop := ∃ b, e = .returned (.bool b) ∧ (b = true → ∀ x ∈ xs, LimS 4800 x)
theorem take_all {P : Fc.StateC → Prop} {xs : List Fc.StateC} {j : Nat} {x : Fc.StateC} (h : ∀ y ∈ xs.take j, P y) (hj : j < xs.length) (hx : x = xs[j]) (hp : P x) : ∀ y ∈ xs.take (j + 1), P y := fun y hy => by
 rw [List.take_succ_eq_append_getElem hj] at hy
 rcases List.mem_append.1 hy with hy | hy
 ·exact h y hy
 ·rw [List.mem_singleton.1 hy, ← hx]; exact hp
set_option maxRecDepth 100000 in
set_option maxHeartbeats 4000000 in
theorem smalls_any (T n c : Nat) (xs : List Fc.StateC) (w : World) (hr : Fc.SRow w 10 Fc.stateC (some ⟨T, 0, none⟩) n xs) (hn : n ≤ 9223372036854775807) (hf : ∀ x ∈ xs, Fc.StateFit w x) : Calls Tryz.prog 11 #[.slice (some ⟨T, 0, none⟩) n c] w fun e w' => SmallsIs xs e ∧ Below w.heap.size w w' := by
 have HR := Lib.hid hr
 have HF := Lib.hid hf
 have HLN := Lib.hid hr.len
 clear hr hf
 go_enter Tryz.func11, Tryz.ntmps11
 go_wp2
 go_loopw [7] (fun i wr => ∃ j : Nat, i = .int .i64 j ∧ j ≤ n ∧ Hid (∀ x ∈ xs.take j, LimS 4800 x) ∧ Hid (Below w.heap.size w wr)) (fun i _ => n - (intOf i).toNat)
 case atStart => exact ⟨0, rfl, Nat.zero_le _, Lib.hid (fun x hx => by simp at hx), Lib.hid (Below.refl _ _)⟩
 case round =>
  obtain ⟨j, rfl, hj, HL, HB⟩ := hrel
  by_cases hlt : j < n
  ·obtain ⟨b, off, hA, hbl, hx, mr⟩ := (HR.out.below HB.out).range (i := j) hlt
   obtain ⟨x, hxx⟩ : ∃ x, x = xs[j] := ⟨_, rfl⟩
   have HX := Lib.hid (HF.out _ (List.getElem_mem hx))
   have HNX := Lib.hid (fun (p : LimS 4800 x) => take_all HL.out hx hxx p)
   rw [← hxx] at mr HX
   obtain ⟨e1, e2⟩ : T = b ∧ 0 = off := by cases hA; exact ⟨rfl, rfl⟩
   subst e1 e2
   have MR := Lib.hid mr
   have HW := Lib.hid ((Below.refl wr.heap.size wr).alloc (Nat.le_refl _) (.cells (Fc.stateC x) 27))
   have HG := Lib.hid (Has.fresh wr 27 (Fc.stateC x))
   have HS := Lib.hid (Small_any x (wr.alloc (.cells (Fc.stateC x) 27)) ((HX.out.below HB.out).below HW.out))
   clear mr hA hxx hbl hx
   go_wp2_with (first | ((with_reducible refine Who.wpList_loadC 27 (.tmp 9) rfl T (0 + j * 10) (Fc.stateC x) ?_); refine And.intro ⟨by rfl, by rfl, ⟨_, Tryz.underlying27, rfl⟩, info_state⟩ (And.intro (MR.out) ?_); (try simp only [Act.put, List.setIfInBounds_toArray, List.set_cons_zero, List.set_cons_succ])) | ((with_reducible refine Who.wpList_loadC 27 (.tmp 9) rfl T (j * 10) (Fc.stateC x) ?_); refine And.intro ⟨by rfl, by rfl, ⟨_, Tryz.underlying27, rfl⟩, info_state⟩ (And.intro (by have q := MR.out; rwa [Nat.zero_add] at q) ?_); (try simp only [Act.put, List.setIfInBounds_toArray, List.set_cons_zero, List.set_cons_succ])) | ((with_reducible refine Who.wpList_newC 27 4 (.tmp 10) rfl rfl rfl (zeroS) (Fc.stateC x) ?_); refine And.intro ⟨rfl, rfl, rfl, allocS, by rfl, by rfl, info_state, rfl, state_one _⟩ ?_; (try simp only [Act.put, List.setIfInBounds_toArray, List.set_cons_zero, List.set_cons_succ]); (try simp only [World.size_alloc])) | ((with_reducible refine Who.wpList_loadC 27 (.tmp 4) rfl (wr.heap.size) 0 (Fc.stateC x) ?_); refine And.intro ⟨by rfl, by rfl, ⟨_, Tryz.underlying27, rfl⟩, info_state⟩ (And.intro (Who.has_range HG.out) ?_); (try simp only [Act.put, List.setIfInBounds_toArray, List.set_cons_zero, List.set_cons_succ])) | fail)
   refine HS.out.mono ?_
   rintro e w2 ⟨⟨bo, rfl, hs⟩, hb⟩
   have HB1 := Lib.hid (HB.out.trans (HW.out.mono HB.out.size))
   have HB2 := Lib.hid (HB1.out.trans (hb.mono HB1.out.size))
   have HG2 := Lib.hid (HG.out.below hb)
   have c8 : w2.cell? ⟨wr.heap.size, 8, none⟩ = some (.slice x.A1 x.n1 x.c1) := HG2.out.at_ 8
   have c9 : w2.cell? ⟨wr.heap.size, 9, none⟩ = some (.slice x.A2 x.n2 x.c2) := HG2.out.at_ 9
   have HSS := Lib.hid hs
   clear hb hs HS HG HW HB HB1 MR
   cases bo with
   | false =>
    go_wp2
    go_ret
    exact ⟨⟨false, rfl, fun q => by cases q⟩, HB2.out⟩
   | true =>
    by_cases h1 : (40 : Int) < x.n1
    ·go_wp2
     go_ret
     exact ⟨⟨false, rfl, fun q => by cases q⟩, HB2.out⟩
    by_cases h2 : (40 : Int) < x.n2
    ·go_wp2
     go_ret
     exact ⟨⟨false, rfl, fun q => by cases q⟩, HB2.out⟩
    have HNN := Lib.hid (HNX.out (lim_small HX.out (by omega) (by omega) (HSS.out rfl).2))
    go_wp2
    go_roundw
    case rel => exact ⟨j + 1, by go_num, by omega, HNN, HB2⟩
    case measure => simp [intOf]; omega
  ·have HQ := Lib.hid (show ∀ x ∈ xs, LimS 4800 x from fun x hx => HL.out x (by rw [List.take_of_length_le (by rw [HLN.out]; omega)]; exact hx))
   go_wp2
   go_ret
   exact ⟨⟨true, rfl, fun _ => HQ.out⟩, HB.out⟩
end Go.Proofs.YtblogecapegbmaaGreat.Jn
