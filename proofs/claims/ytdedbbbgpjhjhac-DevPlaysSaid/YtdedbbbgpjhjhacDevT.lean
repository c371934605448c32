/- The document's own device: starting, made anew, what was written. -/
import Derived.Test.YtdedbbbgpjhjhacDevS
import Derived.Laws.MakeOwn
namespace Go.Proofs.Ytdedbbbgpjhjhac.Dv
open Go.RowKit
open Mem
open Rws

set_option maxRecDepth 100000 in
theorem rstart_any (p a b c : Nat) (d : St) (w : World) (h : RefIs w p a b c d) :
    Calls Try.prog 39 #[.pointer (some ⟨p, 0, none⟩)] w fun e w' => e = .returned (.int .i64 0) ∧ RefIs w' p a b c (startD d) ∧ Chg (ROwn p a b c) w w' := by
  have c3 := Has.at_ h.obj 3
  have HH := Lib.hid h
  simp at c3
  cases ho : d.on with
  | true =>
    have e1 : startD d = d := if_pos ho
    rw [e1]
    rw [ho] at c3
    clear e1 h
    go_enter Try.func39, Try.ntmps39
    go_wp2
    go_ret
    exact ⟨rfl, HH.out, Chg.refl _ _⟩
  | false =>
    have e1 : startD d = { d with on := true, fuse := -1, dirty := fun _ => none } := if_neg (by rw [ho]; decide)
    rw [e1]
    rw [ho] at c3
    have HC := Lib.hid (rcrash_any p a b c d none 0 0 [] w (by decide) ⟨rfl, fun hn => by omega⟩ h (fun _ _ e => by cases e))
    clear e1 h
    go_enter Try.func39, Try.ntmps39
    go_wp2_with fail
    refine HC.out.mono ?_
    rintro e w1 ⟨rfl, h1, g1⟩
    have d3 := Has.at_ h1.obj 3
    have f3 := Has.free h1.obj 3
    simp at d3
    have hf := Lib.hid ((h1.put_power true).congr (e := { d with on := true, fuse := -1, dirty := fun _ => none }) rfl rfl rfl (fun i _ => ⟨(if_neg (by simp) : keepD d [] (i : Int) = d.kept i).symm, rfl⟩))
    have hg := Lib.hid g1
    clear h1 g1
    go_wp2
    go_ret
    exact ⟨rfl, hf.out, hg.out.trans (chg_set (.inl rfl) _)⟩
theorem rnew_bad (n : Int) (h : n < 8 ∨ 4096 < n) (w : World) :
    Calls Try.prog 13 #[.int .i64 n] w fun e w' => e = .returned (.tuple #[.pointer none, .int .i64 22]) ∧ w = w' := by
  by_cases h1 : n < 8
  · clear h
    go_enter Try.func13, Try.ntmps13
    go_wp2
    go_ret2
    exact ⟨rfl, rfl⟩
  · have h2 : 4096 < n := by omega
    clear h
    go_enter Try.func13, Try.ntmps13
    go_wp2
    go_ret2
    exact ⟨rfl, rfl⟩
theorem made_mk (z : Value) (n : Nat) : madeCells #[z] n = mk n fun _ => z := by
  apply Array.ext
  · rw [size_madeCells, mk_size]
  · intro j h1 h2
    have h3 : j < n := by rw [mk_size] at h2; exact h2
    simp [madeCells, mk, Nat.mod_one]
theorem info_b : (Try.prog.info? 4).map (fun i => (i.zero, i.size, i.bytes)) = some (some (.bool false), 1, 1) := by kernel_rfl
theorem make_s (n : Nat) (hn : n ≤ 4096) (w : World) : (Instr.makeSlice 42 (.int .i64 n) (.int .i64 n)).run Try.prog w = .ok (.slice (some ⟨w.heap.size, 0, none⟩) n n) (w.alloc (.cells (mk n fun _ => .string ⟨#[]⟩) 9)) := by
  obtain ⟨i0, hi, hz0, hz1, hz2⟩ := info_parts info_s
  have h := run_makeSlice (P := Try.prog) w 42 9 i0 (.string ⟨#[]⟩) Try.underlying42 hi hz0 .i64 .i64 n n (by omega) (Int.le_refl _) (by rw [hz1]; omega) (by rw [hz2]; omega) (by omega)
  rw [hz1, Nat.mul_one, Int.toNat_natCast] at h
  rw [h]
  exact congrArg (fun x => Result.ok _ (w.alloc (.cells x _))) (made_mk _ _)
theorem make_b (n : Nat) (hn : n ≤ 4096) (w : World) : (Instr.makeSlice 43 (.int .i64 n) (.int .i64 n)).run Try.prog w = .ok (.slice (some ⟨w.heap.size, 0, none⟩) n n) (w.alloc (.cells (mk n fun _ => .bool false) 4)) := by
  obtain ⟨i0, hi, hz0, hz1, hz2⟩ := info_parts info_b
  have h := run_makeSlice (P := Try.prog) w 43 4 i0 (.bool false) Try.underlying43 hi hz0 .i64 .i64 n n (by omega) (Int.le_refl _) (by rw [hz1]; omega) (by rw [hz2]; omega) (by omega)
  rw [hz1, Nat.mul_one, Int.toNat_natCast] at h
  rw [h]
  exact congrArg (fun x => Result.ok _ (w.alloc (.cells x _))) (made_mk _ _)
theorem at0 {w : World} {x : Array Value} {t : TypeId} {o2 o3 o4 : Obj} : Has ((((w.alloc (.cells x t)).alloc o2).alloc o3).alloc o4).drew w.heap.size t x := ((((Has.fresh w t x).past _).past _).past _).drew
theorem at1 {w : World} {x : Array Value} {t : TypeId} {o1 o3 o4 : Obj} : Has ((((w.alloc o1).alloc (.cells x t)).alloc o3).alloc o4).drew (w.heap.size + 1) t x := by
  have h := Has.fresh (w.alloc o1) t x
  rw [World.size_alloc] at h
  exact ((h.past _).past _).drew
theorem at2 {w : World} {x : Array Value} {t : TypeId} {o1 o2 o4 : Obj} : Has ((((w.alloc o1).alloc o2).alloc (.cells x t)).alloc o4).drew (w.heap.size + 1 + 1) t x := by
  have h := Has.fresh ((w.alloc o1).alloc o2) t x
  rw [World.size_alloc, World.size_alloc] at h
  exact (h.past _).drew
theorem at3 {w : World} {x : Array Value} {t : TypeId} {o1 o2 o3 : Obj} : Has ((((w.alloc o1).alloc o2).alloc o3).alloc (.cells x t)).drew (w.heap.size + 1 + 1 + 1) t x := by
  have h := Has.fresh (((w.alloc o1).alloc o2).alloc o3) t x
  rw [World.size_alloc, World.size_alloc, World.size_alloc] at h
  exact h.drew
theorem rnew_is {W : World} {n p a b c : Nat} (h1 : 8 ≤ n) (h2 : n ≤ 4096) (hp : Has W p 45 #[.slice (some ⟨a, 0, none⟩) n n, .slice (some ⟨b, 0, none⟩) n n, .slice (some ⟨c, 0, none⟩) n n, .bool false, .int .i64 (-1)])
    (ha : Has W a 9 (mk n fun _ => .string ⟨#[]⟩)) (hb : Has W b 9 (mk n fun _ => .string ⟨#[]⟩)) (hc : Has W c 4 (mk n fun _ => .bool false)) (ap : (p ≠ a ∧ p ≠ b ∧ p ≠ c) ∧ a ≠ b ∧ a ≠ c ∧ b ≠ c) : RefIs W p a b c (newSt n) :=
  ⟨hp, ha, ⟨fun _ => ⟨#[]⟩, hb, fun i _ s hs => by cases hs⟩, hc, ap, h1, h2, by show (-1 : Int) ≤ -1; decide, by show (-1 : Int) ≤ _; decide⟩
theorem rnew_good (n : Nat) (h1 : 8 ≤ n) (h2 : n ≤ 4096) (w : World) :
    Calls Try.prog 13 #[.int .i64 n] w fun e w' => ∃ p a b c, e = .returned (.tuple #[.pointer (some ⟨p, 0, none⟩), .int .i64 0]) ∧ RefIs w' p a b c (newSt n) ∧ (∀ k, ROwn p a b c k → w.heap.size ≤ k) ∧ Below w.heap.size w w' := by
  have t1 : ¬ (n : Int) < 8 := by omega
  have t2 : ¬ 4096 < (n : Int) := by omega
  have hN := Lib.hid (And.intro h1 h2)
  go_enter Try.func13, Try.ntmps13
  have mS := make_s n h2
  have mB := make_b n h2
  go_wp2
  go_region
  all_goals
    go_wp2
    go_ret2
    refine ⟨_, _, _, _, rfl, rnew_is hN.out.1 hN.out.2 at3 (by first | exact at0 | exact at1 | exact at2) (by first | exact at0 | exact at1 | exact at2) (by first | exact at0 | exact at1 | exact at2) (by omega), ?_, ?_⟩
    · rintro k (hk | hk | hk | hk) <;> omega
    · exact Below.drew (((((Below.refl _ w).alloc (Nat.le_refl _) _).alloc (by simp) _).alloc (by simp; omega) _).alloc (by simp; omega) _)
end Go.Proofs.Ytdedbbbgpjhjhac.Dv
