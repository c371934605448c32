/- The walk of StoreOpens. -/
import Derived.Test.YthejlenafjnmkaaGreatY5
import Derived.Test.YthejlenafjnmkaaGreatY4
import Derived.Deep.QuietTactic
import Derived.BigQuiet

namespace Go.Proofs.YthejlenafjnmkaaGreat.Sto
open Go.RowKit
open Oct (Has Chg)
open Rws
open Dv (RefIs ROwn)
set_option linter.unusedVariables false

def FewR (xs : List DoC) (j N : Nat) : Prop := N ≤ 8192 → ∀ x ∈ xs.take j, x.v.s.size ≤ 8192 ∧ x.n ≤ 8192
theorem FewR.step {xs : List DoC} {j N E : Nat} (h : FewR xs j N) (hj : j < xs.length) (he : N ≤ E) (hx : E ≤ 8192 → xs[j].v.s.size ≤ 8192 ∧ xs[j].n ≤ 8192) : FewR xs (j + 1) E := by
  intro hE x hm
  rw [List.take_succ_eq_append_getElem hj] at hm
  rcases List.mem_append.1 hm with hm | hm
  · exact h (by omega) x hm
  · rw [List.mem_singleton.1 hm]
    exact hx hE
theorem calm_wr {D : Dv.St} (h : Calm D) (i : Int) (b : ByteArray) : Calm (Dv.wrD D i b) := by
  unfold Dv.wrD
  split
  · unfold Dv.writeD
    rw [if_neg (by rw [h.fuse]; decide), (act_calm h).1]
    exact h.put i b
  · exact h
theorem idx_of (y : Int) (K : Nat) (hK : 0 < K) : ∃ I : Nat, (IntKind.u64.wrap y).tmod K = (I : Int) ∧ I < K := by
  have h0 : 0 ≤ IntKind.u64.wrap y := by unfold IntKind.wrap; simp [IntKind.signed, IntKind.bits]; omega
  have h1 : 0 ≤ (IntKind.u64.wrap y).tmod K := Int.tmod_nonneg _ h0
  have h2 : (IntKind.u64.wrap y).tmod K < K := Int.tmod_lt_of_pos _ (by omega)
  exact ⟨((IntKind.u64.wrap y).tmod K).toNat, by omega, by omega⟩
/-- What is known of tells. -/
def TellsIs : Prop := ∀ {N a : Nat} {V : SV} {cs : Nat → RC} {kp : Nat → Bool}, Inv N a V → SameR N V cs kp → ∀ {w : World} {p : Nat} {F : Fr}, StoIs w p F V → ∀ {q cb kb pd ra rb rc : Nat} {B : BgV} {D : Dv.St}, RefS w q cb kb pd ra rb rc N B D cs kp → V.gen = B.1 → V.root = B.2.1 → V.note = B.2.2 →
  Calls Tryz.prog 12 #[.pointer (some ⟨p, 0, none⟩), .pointer (some ⟨q, 0, none⟩)] w fun e w' => e = .returned (.bool true) ∧ Below w.heap.size w w'
def TellsNil : Prop := ∀ w : World, Calls Tryz.prog 12 #[.pointer none, .pointer none] w fun e w' => e = .returned (.bool true) ∧ w = w'
set_option maxRecDepth 100000 in
set_option maxHeartbeats 4000000 in
theorem opens_walk0 (HT : TellsIs) (HTN : TellsNil) (x : Int) (A : Option Addr) (n c : Nat) (xs : List DoC) (hn : n ≤ 9223372036854775807) (w : World) (h : DoRow w A n xs) :
    Calls Tryz.prog 4 #[.int .i64 x, .slice A n c] w fun e w' => e = .returned (.bool true) ∧ Below w.heap.size w w' := by
  have HR := Lib.hid h
  clear h
  go_enter Tryz.func4, Tryz.ntmps4
  go_wp2
  go_loopw [5, 6] (fun m i wr => ∃ j N : Nat, j ≤ 61 ∧ i = .int .i64 j ∧ m = .int .i64 N ∧ N ≤ 24578 ∧ Hid (FewR xs j N) ∧ Hid (Below w.heap.size w wr)) (fun _ i _ => 61 - (intOf i).toNat)
  case atStart => exact ⟨0, 0, by omega, rfl, rfl, by omega, Lib.hid (fun _ x hx => by rw [List.take_zero] at hx; cases hx), Lib.hid (Below.refl _ _)⟩
  case round =>
    obtain ⟨j, N, hj, rfl, rfl, hN, HFW, HBJ⟩ := hrel
    by_cases g1 : (j : Int) < (n : Int)
    · by_cases g2 : (j : Int) ≤ 60
      · by_cases g3 : (N : Int) ≤ 8192
        · obtain ⟨b, off, rfl, hbl, hcl⟩ := HR.out.cells (by omega)
          have hjx : j < xs.length := by rw [HR.out.len]; omega
          have HJX := Lib.hid hjx
          obtain ⟨x0, x1, x2, x3⟩ := hcl j hjx
          replace x2 := (HBJ.out.cell (p := ⟨b, off + j * 4 + 2, none⟩) hbl).trans x2
          replace x3 := (HBJ.out.cell (p := ⟨b, off + j * 4 + 3, none⟩) hbl).trans x3
          generalize hy : xs[j]'hjx = y at x2 x3
          obtain ⟨⟨yo, yi, ys, yk⟩, yA, yn, yc⟩ := y
          simp only at x2 x3
          have HYE := Lib.hid hy
          clear x0 x1 hcl hy hbl
          go_wp2
          rcases Nat.lt_trichotomy ys.size 8193 with p1 | p1 | p1
          · have q1 : (ys.size : Int) < 8193 := by omega
            have q2 : ¬ 8193 < (ys.size : Int) := by omega
            rcases Nat.lt_trichotomy yn 8193 with p2 | p2 | p2
            · have q3 : (yn : Int) < 8193 := by omega
              have q4 : ¬ 8193 < (yn : Int) := by omega
              have HFS := Lib.hid (HFW.out.step HJX.out (E := N + (ys.size + yn)) (by omega) (by rw [HYE.out]; intro h; exact ⟨by show ys.size ≤ 8192; omega, by show yn ≤ 8192; omega⟩))
              have HNE := Lib.hid (show N + (ys.size + yn) ≤ 24578 by omega)
              clear p1 p2
              go_quiet (fail)
              go_wp2
              have hne := HNE.out
              refine ⟨⟨j + 1, N + (ys.size + yn), by omega, by go_num, by go_num, by omega, HFS, Lib.hid (below_drewN HBJ.out _)⟩, by simp [intOf]; omega⟩
            · have q3 : ¬ (yn : Int) < 8193 := by omega
              have q4 : ¬ 8193 < (yn : Int) := by omega
              have HFS := Lib.hid (HFW.out.step HJX.out (E := N + (ys.size + yn)) (by omega) (by rw [HYE.out]; intro h; exact ⟨by show ys.size ≤ 8192; omega, by show yn ≤ 8192; omega⟩))
              have HNE := Lib.hid (show N + (ys.size + yn) ≤ 24578 by omega)
              clear p1 p2
              go_quiet (fail)
              go_wp2
              have hne := HNE.out
              refine ⟨⟨j + 1, N + (ys.size + yn), by omega, by go_num, by go_num, by omega, HFS, Lib.hid (below_drewN HBJ.out _)⟩, by simp [intOf]; omega⟩
            · have q3 : ¬ (yn : Int) < 8193 := by omega
              have q4 : 8193 < (yn : Int) := by omega
              have HFS := Lib.hid (HFW.out.step HJX.out (E := N + (ys.size + 8193)) (by omega) (by rw [HYE.out]; intro h; exact ⟨by show ys.size ≤ 8192; omega, by show yn ≤ 8192; omega⟩))
              have HNE := Lib.hid (show N + (ys.size + 8193) ≤ 24578 by omega)
              clear p1 p2
              go_quiet (fail)
              go_wp2
              have hne := HNE.out
              refine ⟨⟨j + 1, N + (ys.size + 8193), by omega, by go_num, by go_num, by omega, HFS, Lib.hid (below_drewN HBJ.out _)⟩, by simp [intOf]; omega⟩
          · have q1 : ¬ (ys.size : Int) < 8193 := by omega
            have q2 : ¬ 8193 < (ys.size : Int) := by omega
            rcases Nat.lt_trichotomy yn 8193 with p2 | p2 | p2
            · have q3 : (yn : Int) < 8193 := by omega
              have q4 : ¬ 8193 < (yn : Int) := by omega
              have HFS := Lib.hid (HFW.out.step HJX.out (E := N + (ys.size + yn)) (by omega) (by rw [HYE.out]; intro h; exact ⟨by show ys.size ≤ 8192; omega, by show yn ≤ 8192; omega⟩))
              have HNE := Lib.hid (show N + (ys.size + yn) ≤ 24578 by omega)
              clear p1 p2
              go_quiet (fail)
              go_wp2
              have hne := HNE.out
              refine ⟨⟨j + 1, N + (ys.size + yn), by omega, by go_num, by go_num, by omega, HFS, Lib.hid (below_drewN HBJ.out _)⟩, by simp [intOf]; omega⟩
            · have q3 : ¬ (yn : Int) < 8193 := by omega
              have q4 : ¬ 8193 < (yn : Int) := by omega
              have HFS := Lib.hid (HFW.out.step HJX.out (E := N + (ys.size + yn)) (by omega) (by rw [HYE.out]; intro h; exact ⟨by show ys.size ≤ 8192; omega, by show yn ≤ 8192; omega⟩))
              have HNE := Lib.hid (show N + (ys.size + yn) ≤ 24578 by omega)
              clear p1 p2
              go_quiet (fail)
              go_wp2
              have hne := HNE.out
              refine ⟨⟨j + 1, N + (ys.size + yn), by omega, by go_num, by go_num, by omega, HFS, Lib.hid (below_drewN HBJ.out _)⟩, by simp [intOf]; omega⟩
            · have q3 : ¬ (yn : Int) < 8193 := by omega
              have q4 : 8193 < (yn : Int) := by omega
              have HFS := Lib.hid (HFW.out.step HJX.out (E := N + (ys.size + 8193)) (by omega) (by rw [HYE.out]; intro h; exact ⟨by show ys.size ≤ 8192; omega, by show yn ≤ 8192; omega⟩))
              have HNE := Lib.hid (show N + (ys.size + 8193) ≤ 24578 by omega)
              clear p1 p2
              go_quiet (fail)
              go_wp2
              have hne := HNE.out
              refine ⟨⟨j + 1, N + (ys.size + 8193), by omega, by go_num, by go_num, by omega, HFS, Lib.hid (below_drewN HBJ.out _)⟩, by simp [intOf]; omega⟩
          · have q1 : ¬ (ys.size : Int) < 8193 := by omega
            have q2 : 8193 < (ys.size : Int) := by omega
            rcases Nat.lt_trichotomy yn 8193 with p2 | p2 | p2
            · have q3 : (yn : Int) < 8193 := by omega
              have q4 : ¬ 8193 < (yn : Int) := by omega
              have HFS := Lib.hid (HFW.out.step HJX.out (E := N + (8193 + yn)) (by omega) (by rw [HYE.out]; intro h; exact ⟨by show ys.size ≤ 8192; omega, by show yn ≤ 8192; omega⟩))
              have HNE := Lib.hid (show N + (8193 + yn) ≤ 24578 by omega)
              clear p1 p2
              go_quiet (fail)
              go_wp2
              have hne := HNE.out
              refine ⟨⟨j + 1, N + (8193 + yn), by omega, by go_num, by go_num, by omega, HFS, Lib.hid (below_drewN HBJ.out _)⟩, by simp [intOf]; omega⟩
            · have q3 : ¬ (yn : Int) < 8193 := by omega
              have q4 : ¬ 8193 < (yn : Int) := by omega
              have HFS := Lib.hid (HFW.out.step HJX.out (E := N + (8193 + yn)) (by omega) (by rw [HYE.out]; intro h; exact ⟨by show ys.size ≤ 8192; omega, by show yn ≤ 8192; omega⟩))
              have HNE := Lib.hid (show N + (8193 + yn) ≤ 24578 by omega)
              clear p1 p2
              go_quiet (fail)
              go_wp2
              have hne := HNE.out
              refine ⟨⟨j + 1, N + (8193 + yn), by omega, by go_num, by go_num, by omega, HFS, Lib.hid (below_drewN HBJ.out _)⟩, by simp [intOf]; omega⟩
            · have q3 : ¬ (yn : Int) < 8193 := by omega
              have q4 : 8193 < (yn : Int) := by omega
              have HFS := Lib.hid (HFW.out.step HJX.out (E := N + (8193 + 8193)) (by omega) (by rw [HYE.out]; intro h; exact ⟨by show ys.size ≤ 8192; omega, by show yn ≤ 8192; omega⟩))
              have HNE := Lib.hid (show N + (8193 + 8193) ≤ 24578 by omega)
              clear p1 p2
              go_quiet (fail)
              go_wp2
              have hne := HNE.out
              refine ⟨⟨j + 1, N + (8193 + 8193), by omega, by go_num, by go_num, by omega, HFS, Lib.hid (below_drewN HBJ.out _)⟩, by simp [intOf]; omega⟩
        · skip
          by_cases k1 : (60 : Int) < n
          · skip
            go_wp2_with fail
            refine (awake_any _).mono ?_
            rintro e w1 ⟨rfl, hb1⟩
            have HBE := Lib.hid (HBJ.out.trans (hb1.mono HBJ.out.size))
            go_wp2
            go_ret
            exact ⟨rfl, HBE.out⟩
          · have k2 : (8192 : Int) < N := by omega
            go_wp2_with fail
            refine (awake_any _).mono ?_
            rintro e w1 ⟨rfl, hb1⟩
            have HBE := Lib.hid (HBJ.out.trans (hb1.mono HBJ.out.size))
            go_wp2
            go_ret
            exact ⟨rfl, HBE.out⟩
      · skip
        have k1 : (60 : Int) < n := by omega
        go_wp2_with fail
        refine (awake_any _).mono ?_
        rintro e w1 ⟨rfl, hb1⟩
        have HBE := Lib.hid (HBJ.out.trans (hb1.mono HBJ.out.size))
        go_wp2
        go_ret
        exact ⟨rfl, HBE.out⟩
    · skip
      by_cases k1 : (60 : Int) < n
      · skip
        go_wp2_with fail
        refine (awake_any _).mono ?_
        rintro e w1 ⟨rfl, hb1⟩
        have HBE := Lib.hid (HBJ.out.trans (hb1.mono HBJ.out.size))
        go_wp2
        go_ret
        exact ⟨rfl, HBE.out⟩
      · by_cases k2 : (8192 : Int) < N
        · skip
          go_wp2_with fail
          refine (awake_any _).mono ?_
          rintro e w1 ⟨rfl, hb1⟩
          have HBE := Lib.hid (HBJ.out.trans (hb1.mono HBJ.out.size))
          go_wp2
          go_ret
          exact ⟨rfl, HBE.out⟩
        · have hnx := HR.out.len
          have HFX := Lib.hid (show ∀ x ∈ xs, x.v.s.size ≤ 8192 ∧ x.n ≤ 8192 from fun x hx => HFW.out (by omega) x (by rw [List.take_of_length_le (by omega)]; exact hx))
          obtain ⟨K, hK1, hK2, hKe⟩ := size_of x
          have HSZ := Lib.hid (fun W => size_sto x K hKe W)
          clear hKe HFW hj hN
          go_wp2_with fail
          refine (HSZ.out _).mono ?_
          rintro e w1 ⟨rfl, hb1⟩
          have HB1 := Lib.hid (HBJ.out.trans (hb1.mono HBJ.out.size))
          have HND := Lib.hid (Dv.new_good K hK1 (by omega) w1)
          clear hb1 HBJ
          go_wp2_with fail
          refine HND.out.mono ?_
          rintro e w2 ⟨rfl, hd, hb2, hz2⟩
          obtain ⟨dp, hdp⟩ : ∃ dp, dp = w1.heap.size + 2 := ⟨_, rfl⟩
          obtain ⟨dk, hdk⟩ : ∃ dk, dk = w1.heap.size := ⟨_, rfl⟩
          obtain ⟨dd, hdd⟩ : ∃ dd, dd = w1.heap.size + 1 := ⟨_, rfl⟩
          rw [← hdp, ← hdd, ← hdk] at hd
          rw [← hdp]
          have HB2 := Lib.hid (HB1.out.trans (hb2.mono HB1.out.size))
          have HOW := Lib.hid (show ∀ k, Dv.Own dp dk dd k → w.heap.size ≤ k ∧ k < w2.heap.size from fun k hk => by
            have := HB1.out.size
            rcases hk with e | e | e <;> rw [e] <;> omega)
          have HD2 := Lib.hid hd
          clear hd hb2 hz2 hdp hdk hdd HND HB1
          go_wp2_with fail
          refine (HSZ.out _).mono ?_
          rintro e w3 ⟨rfl, hb3⟩
          have HB3 := Lib.hid (HB2.out.trans (hb3.mono HB2.out.size))
          have HD3 := Lib.hid (HD2.out.below hb3)
          have HS3 := Lib.hid hb3.size
          have HRN := Lib.hid (Dv.rnew_good K hK1 (by omega) w3)
          clear hb3 HB2 HD2
          go_wp2_with fail
          refine HRN.out.mono ?_
          rintro e w4 ⟨pd, ra, rb, rc, rfl, hr, hlow, hb4⟩
          have HB4 := Lib.hid (HB3.out.trans (hb4.mono HB3.out.size))
          have HD4 := Lib.hid (HD3.out.below hb4)
          have HR4 := Lib.hid hr
          have HAP := Lib.hid (show ∀ k, Dv.Own dp dk dd k → ROwn pd ra rb rc k → False from fun k h1 h2 => by
            have := (HOW.out k h1).2
            have := hlow k h2
            have := HS3.out
            omega)
          have HRL := Lib.hid (show ∀ k, ROwn pd ra rb rc k → w.heap.size ≤ k from fun k hk => by
            have := hlow k hk
            have := HB3.out.size
            omega)
          have HCA := Lib.hid (show Calm (Dv.newSt K) ∧ Small (Dv.newSt K) ∧ (Dv.newSt K).size = K from ⟨⟨rfl, rfl⟩, (fun i b h => by rcases h with h | h <;> cases h), rfl⟩)
          have HZ4 := Lib.hid (Nat.le_trans HS3.out hb4.size)
          clear hr hlow hb4 HRN HB3 HD3 HS3
          go_wp2_with fail
          go_loopw [71] (fun i wr => ∃ (q : Nat) (D : Dv.St), q ≤ n ∧ i = .int .i64 q ∧ Hid (Calm D ∧ Small D ∧ D.size = K) ∧ Hid (Dv.DevIs wr dp dk dd D) ∧ Hid (RefIs wr pd ra rb rc D) ∧ Hid (Below w.heap.size w wr) ∧ Hid (w2.heap.size ≤ wr.heap.size)) (fun i _ => n - (intOf i).toNat)
          case atStart => exact ⟨0, Dv.newSt K, Nat.zero_le _, rfl, HCA, HD4, HR4, HB4, HZ4⟩
          case round =>
            obtain ⟨q, D, hq, rfl, HCD, HDD, HRD, HBD, HZD⟩ := hrel
            clear HCA HD4 HR4 HB4 HZ4
            obtain ⟨wd, hwd⟩ : ∃ wd : World, wd = wr := ⟨_, rfl⟩
            subst hwd
            by_cases hlq : q < n
            · obtain ⟨bb, off, rfl, hbl, hcl⟩ := HR.out.cells (by omega)
              have hqx : q < xs.length := by omega
              obtain ⟨x0, x1, x2, x3⟩ := hcl q hqx
              replace x0 := (HBD.out.cell (p := ⟨bb, off + q * 4, none⟩) hbl).trans x0
              replace x1 := (HBD.out.cell (p := ⟨bb, off + q * 4 + 1, none⟩) hbl).trans x1
              replace x2 := (HBD.out.cell (p := ⟨bb, off + q * 4 + 2, none⟩) hbl).trans x2
              replace x3 := (HBD.out.cell (p := ⟨bb, off + q * 4 + 3, none⟩) hbl).trans x3
              have hfit := HR.out.each _ (List.getElem_mem hqx)
              have hfew := HFX.out _ (List.getElem_mem hqx)
              generalize xs[q]'hqx = y at x0 x1 x2 x3 hfit hfew
              obtain ⟨⟨yo, yi, ys, yk⟩, yA, yn, yc⟩ := y
              simp only at x0 x1 x2 x3 hfew
              have HFT := Lib.hid hfit
              have HRB := Lib.hid (fun W (hb : Below w.heap.size w W) => rraw_bytes yo yi yA yn yc yk ys (by omega) HFT.out.len (by omega) W (HFT.out.row.below hb))
              have HFE := Lib.hid hfew
              have HX1 := Lib.hid (show Has (wd.alloc (.cells #[.int .i64 yo, .int .i64 yi, .slice yA yn yc, .string ys] 59)).drew wd.heap.size 59 #[.int .i64 yo, .int .i64 yi, .slice yA yn yc, .string ys] from (Has.fresh wd _ _).drew)
              have HBX := Lib.hid (show Below wd.heap.size wd (wd.alloc (.cells #[.int .i64 yo, .int .i64 yi, .slice yA yn yc, .string ys] 59)).drew from ((Below.refl _ wd).alloc (Nat.le_refl _) _).drew)
              have HKU := Lib.hid (show IntKind.u64.wrap (K : Int) = K by rw [IntKind.wrap_u64, Int.emod_eq_of_lt (by omega) (by omega)])
              have HK0 := Lib.hid (show ¬ (K : Int) = 0 by omega)
              obtain ⟨I, hI, hIK⟩ : ∃ I : Nat, (IntKind.u64.wrap yo).tmod K = (I : Int) ∧ I < K := idx_of yo K (by omega)
              have HII := Lib.hid hI
              have HIW := Lib.hid (show IntKind.i64.wrap (I : Int) = I by rw [IntKind.wrap_i64]; omega)
              have HIK := Lib.hid hIK
              clear hcl hbl hfit hfew hI hIK
              go_wp2_with fail
              refine wp_region_held_drew (S := (fun w' => w'.cell? ⟨wd.heap.size, 0, none⟩ = some (.int .i64 yo) ∧ w'.cell? ⟨wd.heap.size, 1, none⟩ = some (.int .i64 yi) ∧ w'.cell? ⟨wd.heap.size, 2, none⟩ = some (.slice yA yn yc) ∧ w'.cell? ⟨wd.heap.size, 3, none⟩ = some (.string ys))) (by kernel_rfl) ⟨Has.at_ HX1.out 0, Has.at_ HX1.out 1, Has.at_ HX1.out 2, Has.at_ HX1.out 3⟩ (fun hHeld => ?_)
              refine Vc.wpAnyH_read (i := 0) (d := some 75) (v := ?v1) (by rfl) (by rfl) (by kernel_rfl) (by kernel_rfl) (by kernel_rfl) (fun _ _ _ h => h) (by rfl) ?hy1 (by assumption) ?rest1
              case hy1 =>
                intro w hSw
                try dsimp only at hSw
                go_simp
                try with_reducible rfl
              try simp only [Act.put, List.setIfInBounds_toArray, List.set_cons_zero, List.set_cons_succ]
              refine Vc.wpAnyH_read (i := 1) (d := some 76) (v := ?v2) (by rfl) (by rfl) (by kernel_rfl) (by kernel_rfl) (by kernel_rfl) (fun _ _ _ h => h) (by rfl) ?hy2 (by assumption) ?rest2
              case hy2 =>
                intro w hSw
                try dsimp only at hSw
                go_simp
                try with_reducible rfl
              try simp only [Act.put, List.setIfInBounds_toArray, List.set_cons_zero, List.set_cons_succ]
              refine Vc.wpAnyH_read (i := 2) (d := some 77) (v := ?v3) (by rfl) (by rfl) (by kernel_rfl) (by kernel_rfl) (by kernel_rfl) (fun _ _ _ h => h) (by rfl) ?hy3 (by assumption) ?rest3
              case hy3 =>
                intro w hSw
                try dsimp only at hSw
                go_simp
                try with_reducible rfl
              try simp only [Act.put, List.setIfInBounds_toArray, List.set_cons_zero, List.set_cons_succ]
              refine Vc.wpAnyH_read (i := 3) (d := some 78) (v := ?v4) (by rfl) (by rfl) (by kernel_rfl) (by kernel_rfl) (by kernel_rfl) (fun _ _ _ h => h) (by rfl) ?hy4 (by assumption) ?rest4
              case hy4 =>
                intro w hSw
                try dsimp only at hSw
                go_simp
                try with_reducible rfl
              try simp only [Act.put, List.setIfInBounds_toArray, List.set_cons_zero, List.set_cons_succ]
              refine wpAnyH_ready (rs := [4]) (by kernel_rfl) (by simp) ?_
              refine AllReadyH.cons rfl (fun K hK => ?_) AllReadyH.nil
              go_simp
              go_at_call 8
              refine (HSZ.out _).mono ?_
              rintro e u2 ⟨rfl, hc2⟩
              have HX2 := Lib.hid (has_blw HX1.out hc2)
              refine hK.out _ _ ⟨Has.at_ HX2.out 0, Has.at_ HX2.out 1, Has.at_ HX2.out 2, Has.at_ HX2.out 3⟩ (fun hHeld => ?_)
              clear hK K
              try simp only [Act.put, List.setIfInBounds_toArray, List.set_cons_zero, List.set_cons_succ]
              refine Vc.wpAnyH_read (i := 5) (d := some 80) (v := ?v5) (by rfl) (by rfl) (by kernel_rfl) (by kernel_rfl) (by kernel_rfl) (fun _ _ _ h => h) (by rfl) ?hy5 (by assumption) ?rest5
              case hy5 =>
                intro w hSw
                try dsimp only at hSw
                go_simp
                try with_reducible rfl
              try simp only [Act.put, List.setIfInBounds_toArray, List.set_cons_zero, List.set_cons_succ]
              refine Vc.wpAnyH_read (i := 6) (d := some 81) (v := ?v6) (by rfl) (by rfl) (by kernel_rfl) (by kernel_rfl) (by kernel_rfl) (fun _ _ _ h => h) (by rfl) ?hy6 (by assumption) ?rest6
              case hy6 =>
                intro w hSw
                try dsimp only at hSw
                go_simp
                rw [HKU.out, if_neg HK0.out, HII.out]
                try with_reducible rfl
              try simp only [Act.put, List.setIfInBounds_toArray, List.set_cons_zero, List.set_cons_succ]
              refine Vc.wpAnyH_read (i := 7) (d := some 82) (v := ?v7) (by rfl) (by rfl) (by kernel_rfl) (by kernel_rfl) (by kernel_rfl) (fun _ _ _ h => h) (by rfl) ?hy7 (by assumption) ?rest7
              case hy7 =>
                intro w hSw
                try dsimp only at hSw
                go_simp
                try rw [HIW.out]
                try with_reducible rfl
              try simp only [Act.put, List.setIfInBounds_toArray, List.set_cons_zero, List.set_cons_succ]
              refine Vc.wpAnyH_read (i := 8) (d := some 13) (v := ?v8) (by rfl) (by rfl) (by kernel_rfl) (by kernel_rfl) (by kernel_rfl) (fun _ _ _ h => h) (by rfl) ?hy8 (by assumption) ?rest8
              case hy8 =>
                intro w hSw
                try dsimp only at hSw
                go_simp
                try with_reducible rfl
              try simp only [Act.put, List.setIfInBounds_toArray, List.set_cons_zero, List.set_cons_succ]
              refine wpAnyH_done (by kernel_rfl) ?_ _
              have HX2d := Lib.hid (Has.drew HX2.out)
              have HW2 := Lib.hid (show Below wd.heap.size wd u2.drew from (HBX.out.trans (hc2.mono HBX.out.size)).drew)
              have HB2 := Lib.hid (HBD.out.trans (HW2.out.mono HBD.out.size))
              have HNB := Lib.hid (show ¬ Dv.Own dp dk dd wd.heap.size from fun h => by
                have := (HOW.out _ h).2
                have := HZD.out
                omega)
              have HNR := Lib.hid (show ¬ ROwn pd ra rb rc wd.heap.size from fun h => by
                have := HRD.out.bound _ h
                omega)
              clear hc2 HX1
              go_wp2_with fail
              refine wp_region_held_drew (S := (fun w' => w'.cell? ⟨wd.heap.size, 0, none⟩ = some (.int .i64 yo) ∧ w'.cell? ⟨wd.heap.size, 1, none⟩ = some (.int .i64 yi) ∧ w'.cell? ⟨wd.heap.size, 2, none⟩ = some (.slice yA yn yc) ∧ w'.cell? ⟨wd.heap.size, 3, none⟩ = some (.string ys))) (by kernel_rfl) ⟨Has.at_ HX2d.out 0, Has.at_ HX2d.out 1, Has.at_ HX2d.out 2, Has.at_ HX2d.out 3⟩ (fun hHeld => ?_)
              refine Vc.wpAnyH_read (i := 0) (d := some 83) (v := ?v9) (by rfl) (by rfl) (by kernel_rfl) (by kernel_rfl) (by kernel_rfl) (fun _ _ _ h => h) (by rfl) ?hy9 (by assumption) ?rest9
              case hy9 =>
                intro w hSw
                try dsimp only at hSw
                go_simp
                try with_reducible rfl
              try simp only [Act.put, List.setIfInBounds_toArray, List.set_cons_zero, List.set_cons_succ]
              refine Vc.wpAnyH_read (i := 1) (d := some 84) (v := ?v10) (by rfl) (by rfl) (by kernel_rfl) (by kernel_rfl) (by kernel_rfl) (fun _ _ _ h => h) (by rfl) ?hy10 (by assumption) ?rest10
              case hy10 =>
                intro w hSw
                try dsimp only at hSw
                go_simp
                try with_reducible rfl
              try simp only [Act.put, List.setIfInBounds_toArray, List.set_cons_zero, List.set_cons_succ]
              refine Vc.wpAnyH_read (i := 2) (d := some 85) (v := ?v11) (by rfl) (by rfl) (by kernel_rfl) (by kernel_rfl) (by kernel_rfl) (fun _ _ _ h => h) (by rfl) ?hy11 (by assumption) ?rest11
              case hy11 =>
                intro w hSw
                try dsimp only at hSw
                go_simp
                try with_reducible rfl
              try simp only [Act.put, List.setIfInBounds_toArray, List.set_cons_zero, List.set_cons_succ]
              refine Vc.wpAnyH_read (i := 5) (d := some 88) (v := ?v12) (by rfl) (by rfl) (by kernel_rfl) (by kernel_rfl) (by kernel_rfl) (fun _ _ _ h => h) (by rfl) ?hy12 (by assumption) ?rest12
              case hy12 =>
                intro w hSw
                try dsimp only at hSw
                go_simp
                try with_reducible rfl
              try simp only [Act.put, List.setIfInBounds_toArray, List.set_cons_zero, List.set_cons_succ]
              refine Vc.wpAnyH_read (i := 6) (d := some 89) (v := ?v13) (by rfl) (by rfl) (by kernel_rfl) (by kernel_rfl) (by kernel_rfl) (fun _ _ _ h => h) (by rfl) ?hy13 (by assumption) ?rest13
              case hy13 =>
                intro w hSw
                try dsimp only at hSw
                go_simp
                try with_reducible rfl
              try simp only [Act.put, List.setIfInBounds_toArray, List.set_cons_zero, List.set_cons_succ]
              refine Vc.wpAnyH_read (i := 7) (d := some 90) (v := ?v14) (by rfl) (by rfl) (by kernel_rfl) (by kernel_rfl) (by kernel_rfl) (fun _ _ _ h => h) (by rfl) ?hy14 (by assumption) ?rest14
              case hy14 =>
                intro w hSw
                try dsimp only at hSw
                go_simp
                try with_reducible rfl
              try simp only [Act.put, List.setIfInBounds_toArray, List.set_cons_zero, List.set_cons_succ]
              refine wpAnyH_ready (rs := [3]) (by kernel_rfl) (by simp) ?_
              refine AllReadyH.cons rfl (fun K hK => ?_) AllReadyH.nil
              go_simp
              go_at_call 25
              refine (HRB.out _ HB2.out).mono ?_
              rintro e u3 ⟨rfl, hc3⟩
              have HX3 := Lib.hid (has_blw HX2d.out hc3)
              have HB3 := Lib.hid (HB2.out.trans (hc3.mono HB2.out.size))
              have HW3 := Lib.hid (HW2.out.trans (hc3.mono HW2.out.size))
              have HD3 := Lib.hid (HDD.out.below HW3.out)
              refine hK.out _ _ ⟨Has.at_ HX3.out 0, Has.at_ HX3.out 1, Has.at_ HX3.out 2, Has.at_ HX3.out 3⟩ (fun hHeld => ?_)
              clear hK K
              try simp only [Act.put, List.setIfInBounds_toArray, List.set_cons_zero, List.set_cons_succ]
              refine wpAnyH_ready (rs := [4]) (by kernel_rfl) (by simp) ?_
              refine AllReadyH.cons rfl (fun K hK => ?_) AllReadyH.nil
              go_simp
              go_at_call 24
              refine (Dv.write_all dp dk dd D I (rawB yi yk ys) _ HD3.out).mono ?_
              rintro e u4 ⟨rfl, hd4, hc4⟩
              have HD4 := Lib.hid hd4
              have HX4 := Lib.hid (HX3.out.over (Chg.of hc4) HNB.out)
              have HB4 := Lib.hid (HB3.out.trans (hc4.below HB3.out.size (fun k hk h => by have := (HOW.out k h).1; omega)))
              have HR4 := Lib.hid ((HRD.out.below HW3.out).over hc4 (fun k h1 h2 => HAP.out k h2 h1))
              have HZ4 := Lib.hid (Nat.le_trans HW3.out.size hc4.size)
              refine hK.out _ _ ⟨Has.at_ HX4.out 0, Has.at_ HX4.out 1, Has.at_ HX4.out 2, Has.at_ HX4.out 3⟩ (fun hHeld => ?_)
              clear hK K
              try simp only [Act.put, List.setIfInBounds_toArray, List.set_cons_zero, List.set_cons_succ]
              refine wpAnyH_ready (rs := [8]) (by kernel_rfl) (by simp) ?_
              refine AllReadyH.cons rfl (fun K hK => ?_) AllReadyH.nil
              go_simp
              go_at_call 25
              refine (HRB.out _ HB4.out).mono ?_
              rintro e u5 ⟨rfl, hc5⟩
              have HX5 := Lib.hid (has_blw HX4.out hc5)
              have HB5 := Lib.hid (HB4.out.trans (hc5.mono HB4.out.size))
              have HD5 := Lib.hid (HD4.out.below hc5)
              have HR5 := Lib.hid (HR4.out.below hc5)
              have HZ5 := Lib.hid (Nat.le_trans HZ4.out hc5.size)
              refine hK.out _ _ ⟨Has.at_ HX5.out 0, Has.at_ HX5.out 1, Has.at_ HX5.out 2, Has.at_ HX5.out 3⟩ (fun hHeld => ?_)
              clear hK K
              try simp only [Act.put, List.setIfInBounds_toArray, List.set_cons_zero, List.set_cons_succ]
              refine wpAnyH_ready (rs := [9]) (by kernel_rfl) (by simp) ?_
              refine AllReadyH.cons rfl (fun K hK => ?_) AllReadyH.nil
              go_simp
              go_at_call 26
              refine (Dv.rwrite_all pd ra rb rc D I (rawB yi yk ys) _ HR5.out).mono ?_
              rintro e u6 ⟨rfl, hr6, hc6⟩
              have HR6 := Lib.hid hr6
              have HX6 := Lib.hid (HX5.out.over (Chg.of hc6) HNR.out)
              have HB6 := Lib.hid (HB5.out.trans (hc6.below HB5.out.size (fun k hk h => by have := HRL.out k h; omega)))
              have HD6 := Lib.hid (HD5.out.over hc6 (fun h => HAP.out _ (.inl rfl) h) (fun h => HAP.out _ (.inr (.inl rfl)) h) (fun h => HAP.out _ (.inr (.inr rfl)) h))
              have HZ6 := Lib.hid (Nat.le_trans HZ5.out hc6.size)
              refine hK.out _ _ ⟨Has.at_ HX6.out 0, Has.at_ HX6.out 1, Has.at_ HX6.out 2, Has.at_ HX6.out 3⟩ (fun hHeld => ?_)
              clear hK K
              try simp only [Act.put, List.setIfInBounds_toArray, List.set_cons_zero, List.set_cons_succ]
              refine Vc.wpAnyH_read (i := 10) (d := some 93) (v := ?v15) (by rfl) (by rfl) (by kernel_rfl) (by kernel_rfl) (by kernel_rfl) (fun _ _ _ h => h) (by rfl) ?hy15 (by assumption) ?rest15
              case hy15 =>
                intro w hSw
                try dsimp only at hSw
                go_simp
                try with_reducible rfl
              try simp only [Act.put, List.setIfInBounds_toArray, List.set_cons_zero, List.set_cons_succ]
              refine wpAnyH_done (by kernel_rfl) ?_ _
              have HCE := Lib.hid (show Calm (Dv.wrD D I (rawB yi yk ys)) ∧ Small (Dv.wrD D I (rawB yi yk ys)) ∧ (Dv.wrD D I (rawB yi yk ys)).size = K from ⟨calm_wr HCD.out.1 _ _, (HCD.out.2.1.wr _ _).1, (HCD.out.2.1.wr _ _).2.trans HCD.out.2.2⟩)
              have HZE := Lib.hid (Nat.le_trans HZD.out HZ6.out)
              generalize Dv.wrE D I (rawB yi yk ys) = E at *
              go_wp2
              go_roundw
              case rel => exact ⟨q + 1, Dv.wrD D I (rawB yi yk ys), by omega, by go_num, HCE, HD6, HR6, HB6, HZE⟩
              case measure => simp [intOf]; omega
            · have hs0 := HCD.out.2.2
              have hon := HCD.out.1.on
              have HOD := Lib.hid (open_dev dp dk dd D (by omega) (fun i => HCD.out.2.1.read i) (open_down hK1 hK2 hs0 hon) wd HDD.out _ rfl)
              have HON := Lib.hid hon
              have HSZ0 := Lib.hid hs0
              have HKK := Lib.hid (And.intro hK1 hK2)
              clear hs0 hon
              go_wp2_with fail
              refine HOD.out.mono ?_
              rintro e w5 ⟨ho, hb5⟩
              have HB5 := Lib.hid (HBD.out.trans (hb5.mono HBD.out.size))
              have HRO := Lib.hid (ropen pd ra rb rc K D HSZ0.out HON.out (fun i => HCD.out.2.1.read i) w5 (HRD.out.below hb5))
              clear hb5 HOD
              obtain ⟨R, hR⟩ : ∃ R, openV D = R := ⟨_, rfl⟩
              rw [hR] at ho
              have HRE := Lib.hid hR
              clear hR
              obtain ⟨o, E⟩ := R
              cases o with
              | none =>
                obtain ⟨rfl, _⟩ := ho
                go_wp2_with fail
                refine HRO.out.mono ?_
                rintro e w6 ⟨hro, hb6⟩
                have HB6 := Lib.hid (HB5.out.trans (hb6.mono HB5.out.size))
                clear hb6 HRO
                rcases hro with ⟨h1, h2⟩ | ⟨h1, h2, h3⟩ | ⟨h1, h2, h3, h4⟩ | ⟨h1, h2, h3, h4⟩
                · have he := HRE.out.symm.trans (open_err h1)
                  injection he with _ he
                  rw [← he] at h2
                  obtain rfl := h2
                  clear h1 he HRE
                  go_wp2_with fail
                  refine (HTN _).mono ?_
                  rintro e w7 ⟨rfl, rfl⟩
                  have HB7 := HB6
                  go_wp2_with fail
                  refine (awake_any _).mono ?_
                  rintro e w8 ⟨rfl, hb8⟩
                  have HB8 := Lib.hid (HB7.out.trans (hb8.mono HB7.out.size))
                  go_wp2
                  go_ret
                  exact ⟨rfl, HB8.out⟩
                · obtain ⟨p, cb, kb, cs, kp, _, _, hP⟩ := h3
                  obtain ⟨V, hV, _⟩ := open_bare HKK.out.1 HKK.out.2 HSZ0.out HON.out HCD.out.2.1 (Prod.ext rfl h1 : newV D = ((newV D).1, 0)) h2 hP
                  have he := HRE.out.symm.trans hV
                  injection he with he _
                  cases he
                · have he := HRE.out.symm.trans (open_none HKK.out.1 HKK.out.2 HSZ0.out HON.out (Prod.ext rfl h1 : newV D = ((newV D).1, 0)) h2 h3)
                  injection he with _ he
                  subst he
                  obtain rfl := h4
                  clear h1 h2 h3 HRE
                  go_wp2_with fail
                  refine (HTN _).mono ?_
                  rintro e w7 ⟨rfl, rfl⟩
                  have HB7 := HB6
                  go_wp2_with fail
                  refine (awake_any _).mono ?_
                  rintro e w8 ⟨rfl, hb8⟩
                  have HB8 := Lib.hid (HB7.out.trans (hb8.mono HB7.out.size))
                  go_wp2
                  go_ret
                  exact ⟨rfl, HB8.out⟩
                · obtain ⟨p, cb, kb, cs, kp, _, _, hP⟩ := h4
                  obtain ⟨V, hV, _⟩ := open_some HKK.out.1 HKK.out.2 HSZ0.out HON.out HCD.out.2.1 (Prod.ext rfl h1 : newV D = ((newV D).1, 0)) h2 h3 hP
                  have he := HRE.out.symm.trans hV
                  injection he with he _
                  cases he
              | some V =>
                obtain ⟨p, F, rfl, hL⟩ := ho
                have HLD := Lib.hid hL
                clear hL
                go_wp2_with fail
                refine HRO.out.mono ?_
                rintro e w6 ⟨hro, hb6⟩
                have HB6 := Lib.hid (HB5.out.trans (hb6.mono HB5.out.size))
                have HST := Lib.hid (HLD.out.is.below hb6)
                clear hb6 HRO
                rcases hro with ⟨h1, h2⟩ | ⟨h1, h2, h3⟩ | ⟨h1, h2, h3, h4⟩ | ⟨h1, h2, h3, h4⟩
                · have he := HRE.out.symm.trans (open_err h1)
                  injection he with he _
                  cases he
                · obtain ⟨q2, cb, kb, cs, kp, rfl, hRS, hP⟩ := h3
                  obtain ⟨V', hV, hO, hS⟩ := open_bare HKK.out.1 HKK.out.2 HSZ0.out HON.out HCD.out.2.1 (Prod.ext rfl h1 : newV D = ((newV D).1, 0)) h2 hP
                  have he := HRE.out.symm.trans hV
                  injection he with he he2
                  injection he with he
                  subst he he2
                  have HTL := Lib.hid (HT hO.inv hS HST.out hRS hO.gen hO.root hO.note)
                  clear h1 h2 hRS hP hV hO hS HRE HST
                  go_wp2_with fail
                  refine HTL.out.mono ?_
                  rintro e w7 ⟨rfl, hb7⟩
                  have HB7 := Lib.hid (HB6.out.trans (hb7.mono HB6.out.size))
                  clear hb7
                  go_wp2_with fail
                  refine (awake_any _).mono ?_
                  rintro e w8 ⟨rfl, hb8⟩
                  have HB8 := Lib.hid (HB7.out.trans (hb8.mono HB7.out.size))
                  go_wp2
                  go_ret
                  exact ⟨rfl, HB8.out⟩
                · have he := HRE.out.symm.trans (open_none HKK.out.1 HKK.out.2 HSZ0.out HON.out (Prod.ext rfl h1 : newV D = ((newV D).1, 0)) h2 h3)
                  injection he with he _
                  cases he
                · obtain ⟨q2, cb, kb, cs, kp, rfl, hRS, hP⟩ := h4
                  obtain ⟨V', hV, hO, hS⟩ := open_some HKK.out.1 HKK.out.2 HSZ0.out HON.out HCD.out.2.1 (Prod.ext rfl h1 : newV D = ((newV D).1, 0)) h2 h3 hP
                  have he := HRE.out.symm.trans hV
                  injection he with he he2
                  injection he with he
                  subst he he2
                  have HTL := Lib.hid (HT hO.inv hS HST.out hRS hO.gen hO.root hO.note)
                  clear h1 h2 h3 hRS hP hV hO hS HRE HST
                  go_wp2_with fail
                  refine HTL.out.mono ?_
                  rintro e w7 ⟨rfl, hb7⟩
                  have HB7 := Lib.hid (HB6.out.trans (hb7.mono HB6.out.size))
                  clear hb7
                  go_wp2_with fail
                  refine (awake_any _).mono ?_
                  rintro e w8 ⟨rfl, hb8⟩
                  have HB8 := Lib.hid (HB7.out.trans (hb8.mono HB7.out.size))
                  go_wp2
                  go_ret
                  exact ⟨rfl, HB8.out⟩
end Go.Proofs.YthejlenafjnmkaaGreat.Sto
