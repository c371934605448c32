/- The program's looks, asked one thing, in all outcomes. -/
import Derived.Test.YtancbkmgbhigpaaRdAlso
namespace Go.Proofs.Ytancbkmgbhigpaa.Vc
open Go.RowKit Go.Proofs.Ytancbkmgbhigpaa.Oct

/-- What the two rows hold behind one asking that came to an answer. -/
def OneAt (g : Ask) (q s : Nat) (w : World) (u v : Value) (w' : World) : Prop :=
  match g with
  | .num x r => OwnI w' w.heap.size u [x] ∧ v = .slice none 0 0 ∧ Looks w' q s r ∧ Chg (· = s) w w'
  | .txt t r => u = .slice none 0 0 ∧ OwnS w' w.heap.size v [t] ∧ Looks w' q s r ∧ Chg (· = s) w w'
  | .still r => u = .slice none 0 0 ∧ v = .slice none 0 0 ∧ Looks w' q s r ∧ Chg (· = s) w w'
  | .bad _ _ => False
/-- What looks of one asking does. -/
def One (g : Ask) (q s : Nat) (w : World) (e : Ending) (w' : World) : Prop :=
  match g with
  | .bad r y => e = .panicked (own s) ∧ Sight w' s r true y ∧ Chg (· = s) w w'
  | g => ∃ u v, e = .returned (.tuple #[u, v]) ∧ OneAt g q s w u v w'
theorem one_of {g : Ask} {q s : Nat} {w w' : World} {u v : Value} (h : OneAt g q s w u v w') : One g q s w (.returned (.tuple #[u, v])) w' := by
  cases g with
  | num x r => exact ⟨u, v, rfl, h⟩
  | txt t r => exact ⟨u, v, rfl, h⟩
  | still r => exact ⟨u, v, rfl, h⟩
  | bad r y => exact h.elim
/-- On the way: nothing asked yet, or all. -/
def OneSt (g : Ask) (q s : Nat) (r : ByteArray) (w : World) (j : Nat) (u v : Value) (w' : World) : Prop :=
  (j = 0 ∧ u = .slice none 0 0 ∧ v = .slice none 0 0 ∧ Looks w' q s r ∧ Chg (· = s) w w') ∨ (j = 1 ∧ OneAt g q s w u v w')
theorem looks_past {w : World} {q s : Nat} {r : ByteArray} (h : Looks w q s r) (o : Obj) : Looks (w.alloc o) q s r := ⟨h.eye.past o, Oct.Has.past h.sight o⟩
theorem gotNum_txt {r : ByteArray} {k : Int} {t q : ByteArray} (h : gotNum r k = .txt t q) : False := by
  unfold gotNum at h
  repeat' split at h
  all_goals simp at h
theorem gotRaw_num {r : ByteArray} {n v : Int} {q : ByteArray} (h : gotRaw r n = .num v q) : False := by
  unfold gotRaw at h
  repeat' split at h
  all_goals simp at h
theorem gotText_num {r : ByteArray} {n v : Int} {q : ByteArray} (h : gotText r n = .num v q) : False := by
  unfold gotText at h
  repeat' split at h
  all_goals simp at h
theorem left_ok (q s : Nat) (r : ByteArray) (w : World) (h : Looks w q s r) :
    Calls Try.prog 31 #[.pointer (some ⟨q, 0, none⟩)] w fun e w' => e = .returned (.int .i64 r.size) ∧ w = w' := by
  have c0 := Oct.Has.at_ h.sight 0
  simp at c0
  go_enter Try.func31, Try.ntmps31
  go_wp2_with fail
  refine (open_any q s r w h).mono ?_
  rintro e w1 ⟨rfl, rfl⟩
  go_wp2
  go_ret
  exact ⟨rfl, rfl⟩
theorem looks_grown {w w' : World} {q s : Nat} {r : ByteArray} {row : Option Nat} (h : Looks w q s r) (hg : w.grownBy w' row) (h1 : some q = row → False) (h2 : some s = row → False) : Looks w' q s r :=
  ⟨has_grown h.eye hg h1, has_grown h.sight hg h2⟩
set_option maxRecDepth 100000 in
set_option maxHeartbeats 8000000 in
theorem looks_one (q s : Nat) (hqs : q ≠ s) (r : ByteArray) (op m : Int) (g : Ask) (hg : ask r op m = g) (b off n c : Nat) (hn : n = 1) (w : World) (h : Looks w q s r) (hbl : b < w.heap.size) (hbs : b ≠ s)
    (hcl : w.cell? ⟨b, off + 0 * 2, none⟩ = some (.int .i64 op) ∧ w.cell? ⟨b, off + 0 * 2 + 1, none⟩ = some (.int .i64 m)) :
    Calls Try.prog 9 #[.pointer (some ⟨q, 0, none⟩), .slice (some ⟨b, off, none⟩) n c] w (One g q s w) := by
  obtain ⟨i0, hi, hz0, hz1, hz2⟩ := info_parts info_i
  have HI := Lib.hid (And.intro hi (And.intro hz0 (And.intro hz1 hz2)))
  clear hi hz0 hz1 hz2
  obtain ⟨j0, hi, hz0, hz1, hz2⟩ := info_parts info_s
  have HJ := Lib.hid (And.intro hi (And.intro hz0 (And.intro hz1 hz2)))
  clear hi hz0 hz1 hz2
  have HN := Lib.hid hn
  have HG0 := Lib.hid hg
  have HCL := Lib.hid hcl
  have HQ := Lib.hid hqs
  have bq := h.eye.bound
  have bs := Oct.Has.bound h.sight
  have HL0 := Lib.hid (show OneSt g q s r w 0 (.slice none 0 0) (.slice none 0 0) w from .inl ⟨rfl, rfl, rfl, h, Chg.refl _ _⟩)
  clear h hcl hg hqs
  have hn9 : n ≤ 1 := by omega
  clear hn
  go_enter Try.func9, Try.ntmps9
  go_wp2
  go_loopw [4, 5, 10] (fun u v i wr => ∃ j : Nat, j ≤ n ∧ i = .int .i64 j ∧ Hid (OneSt g q s r w j u v wr)) (fun _ _ i _ => n - (intOf i).toNat)
  case atStart => exact ⟨0, Nat.zero_le _, rfl, HL0⟩
  case round =>
    obtain ⟨j, hj, rfl, HO⟩ := hrel
    clear HL0
    by_cases hlt : j < n
    · rcases HO.out with ⟨hj0, rfl, rfl, hl, hc⟩ | ⟨hj1, _⟩
      · have HJ0 := Lib.hid hj0
        have c1 : wr.cell? ⟨b, off + j * 2, none⟩ = some (.int .i64 op) := by rw [hj0]; exact (World.cell?_of_block (hc.block b hbl hbs)).trans HCL.out.1
        have c2 : wr.cell? ⟨b, off + j * 2 + 1, none⟩ = some (.int .i64 m) := by rw [hj0]; exact (World.cell?_of_block (hc.block b hbl hbs)).trans HCL.out.2
        have hk1 := Lib.hid (looks_past hl (.cells #[.int .i64 op, .int .i64 m] 37))
        have hC1 := Lib.hid (hc.alloc (.cells #[.int .i64 op, .int .i64 m] 37))
        have hsz : w.heap.size ≤ wr.heap.size := hc.size
        clear hl hc hj0 HO
        by_cases k0 : (bits .and .i64 op 7 == 0) = true
        · have HD := Lib.hid (num_got q s m r HQ.out _ hk1.out)
          cases hgt : gotNum r m with
          | num x r2 =>
            have HG := Lib.hid hgt
            have hge : g = .num x r2 := HG0.out.symm.trans (by unfold ask kind; simp only [k0, if_true, HG.out, Ask.of])
            subst hge
            rw [hgt] at HD
            clear hgt
            go_wp2_with fail
            refine HD.out.mono ?_
            rintro e w2 hd
            obtain ⟨rfl, hl2, hc2⟩ := hd
            have hl3 := Lib.hid (looks_past hl2 (.cells #[.int .i64 x] 3))
            have HC2 := Lib.hid ((hC1.out.trans hc2).alloc (.cells #[.int .i64 x] 3))
            have HN2 := Lib.hid (show ∀ q u, [(.int .i64 x : Value)][q]? = some u → (w2.alloc (.cells #[.int .i64 x] 3)).cell? ((⟨w2.heap.size, 0, none⟩ : Addr).add q) = some u from cell_one_new w2 _ _)
            have H1 := Lib.hid (show ∀ u ∈ [(.int .i64 x : Value)], u.oneCell' = true by intro u hu; rw [List.mem_singleton.1 hu]; rfl)
            have H2 := Lib.hid (show 0 + 1 ≤ maxLen by decide)
            have H3 := Lib.hid (show (0 + 1) * 8 ≤ 140737488355328 by decide)
            have H4 := Lib.hid (show w.heap.size ≤ (w2.alloc (.cells #[.int .i64 x] 3)).heap.size from HC2.out.size)
            have HO2 := Lib.hid (World.ownsRow_nil (w2.alloc (.cells #[.int .i64 x] 3)) w.heap.size 3 1)
            clear hc2 hl2
            go_wp2_with (at_builtin; (refine wpList_append_own (w2.alloc (.cells #[.int .i64 x] 3)) rfl (.tmp 19) (.tmp 24) _ rfl w.heap.size 3 i0 (.int .i64 0) 1 8 Try.underlying29 HI.out.1 HI.out.2.1 HI.out.2.2.1 HI.out.2.2.2 rfl (by decide) _ 0 [] rfl HO2.out ⟨w2.heap.size, 0, none⟩ 1 1 [.int .i64 x] rfl rfl HN2.out H1.out H2.out H3.out H4.out ?_))
            intro v2 w3 o2 b2 _
            have hown := fun q hq => (World.ownsRow.lt HO2.out q hq).1
            have hC3 := chg_grown HC2.out b2 hown
            have hL3 := looks_grown hl3.out b2 (fun e => by have := hown q e.symm; omega) (fun e => by have := hown s e.symm; omega)
            clear hown
            go_wp2
            go_roundw
            case rel => exact ⟨j + 1, by omega, by go_num, Lib.hid (.inr ⟨by rw [HJ0.out], o2, rfl, hL3, hC3⟩)⟩
            case measure => simp [intOf]; omega
          | txt t r2 =>
            exact (gotNum_txt hgt).elim
          | bad r2 y =>
            have HG := Lib.hid hgt
            have hge : g = .bad r2 y := HG0.out.symm.trans (by unfold ask kind; simp only [k0, if_true, HG.out, Ask.of])
            subst hge
            rw [hgt] at HD
            clear hgt
            go_wp2_with fail
            refine HD.out.mono ?_
            rintro e w2 hd
            obtain ⟨rfl, hs2, hc2⟩ := hd
            have HC2 := Lib.hid (hC1.out.trans hc2)
            have HS2 := Lib.hid hs2
            clear hs2 hc2
            go_wp2
            show _ ∧ _
            exact ⟨rfl, rfl, HS2.out, HC2.out⟩
        · have k0 : (bits .and .i64 op 7 == 0) = false := Bool.eq_false_iff.2 k0
          by_cases k1 : (bits .and .i64 op 7 == 1) = true
          · have HD := Lib.hid (text_got q s m r HQ.out _ hk1.out)
            cases hgt : gotText r m with
            | num x r2 =>
              exact (gotText_num hgt).elim
            | txt t r2 =>
              have HG := Lib.hid hgt
              have hge : g = .txt t r2 := HG0.out.symm.trans (by unfold ask kind; simp only [k0, k1, if_true, if_false, Bool.false_eq_true, HG.out, Ask.of])
              subst hge
              rw [hgt] at HD
              clear hgt
              go_wp2_with fail
              refine HD.out.mono ?_
              rintro e w2 hd
              obtain ⟨rfl, hl2, hc2⟩ := hd
              have hl3 := Lib.hid (looks_past hl2 (.cells #[.string t] 9))
              have HC2 := Lib.hid ((hC1.out.trans hc2).alloc (.cells #[.string t] 9))
              have HN2 := Lib.hid (show ∀ q u, [(.string t : Value)][q]? = some u → (w2.alloc (.cells #[.string t] 9)).cell? ((⟨w2.heap.size, 0, none⟩ : Addr).add q) = some u from cell_one_new w2 _ _)
              have H1 := Lib.hid (show ∀ u ∈ [(.string t : Value)], u.oneCell' = true by intro u hu; rw [List.mem_singleton.1 hu]; rfl)
              have H2 := Lib.hid (show 0 + 1 ≤ maxLen by decide)
              have H3 := Lib.hid (show (0 + 1) * 16 ≤ 140737488355328 by decide)
              have H4 := Lib.hid (show w.heap.size ≤ (w2.alloc (.cells #[.string t] 9)).heap.size from HC2.out.size)
              have HO2 := Lib.hid (World.ownsRow_nil (w2.alloc (.cells #[.string t] 9)) w.heap.size 9 1)
              clear hc2 hl2
              go_wp2_with (at_builtin; (refine wpList_append_own (w2.alloc (.cells #[.string t] 9)) rfl (.tmp 28) (.tmp 33) _ rfl w.heap.size 9 j0 (.string ⟨#[]⟩) 1 16 Try.underlying30 HJ.out.1 HJ.out.2.1 HJ.out.2.2.1 HJ.out.2.2.2 rfl (by decide) _ 0 [] rfl HO2.out ⟨w2.heap.size, 0, none⟩ 1 1 [.string t] rfl rfl HN2.out H1.out H2.out H3.out H4.out ?_))
              intro v2 w3 o2 b2 _
              have hown := fun q hq => (World.ownsRow.lt HO2.out q hq).1
              have hC3 := chg_grown HC2.out b2 hown
              have hL3 := looks_grown hl3.out b2 (fun e => by have := hown q e.symm; omega) (fun e => by have := hown s e.symm; omega)
              clear hown
              go_wp2
              go_roundw
              case rel => exact ⟨j + 1, by omega, by go_num, Lib.hid (.inr ⟨by rw [HJ0.out], rfl, o2, hL3, hC3⟩)⟩
              case measure => simp [intOf]; omega
            | bad r2 y =>
              have HG := Lib.hid hgt
              have hge : g = .bad r2 y := HG0.out.symm.trans (by unfold ask kind; simp only [k0, k1, if_true, if_false, Bool.false_eq_true, HG.out, Ask.of])
              subst hge
              rw [hgt] at HD
              clear hgt
              go_wp2_with fail
              refine HD.out.mono ?_
              rintro e w2 hd
              obtain ⟨rfl, hs2, hc2⟩ := hd
              have HC2 := Lib.hid (hC1.out.trans hc2)
              have HS2 := Lib.hid hs2
              clear hs2 hc2
              go_wp2
              show _ ∧ _
              exact ⟨rfl, rfl, HS2.out, HC2.out⟩
          · have k1 : (bits .and .i64 op 7 == 1) = false := Bool.eq_false_iff.2 k1
            by_cases k2 : (bits .and .i64 op 7 == 2) = true
            · have HD := Lib.hid (raw_got q s m r HQ.out _ hk1.out)
              cases hgt : gotRaw r m with
              | num x r2 =>
                exact (gotRaw_num hgt).elim
              | txt t r2 =>
                have HG := Lib.hid hgt
                have hge : g = .txt t r2 := HG0.out.symm.trans (by unfold ask kind; simp only [k0, k1, k2, if_true, if_false, Bool.false_eq_true, HG.out, Ask.of])
                subst hge
                rw [hgt] at HD
                clear hgt
                go_wp2_with fail
                refine HD.out.mono ?_
                rintro e w2 hd
                obtain ⟨rfl, hl2, hc2⟩ := hd
                have hl3 := Lib.hid (looks_past hl2 (.cells #[.string t] 9))
                have HC2 := Lib.hid ((hC1.out.trans hc2).alloc (.cells #[.string t] 9))
                have HN2 := Lib.hid (show ∀ q u, [(.string t : Value)][q]? = some u → (w2.alloc (.cells #[.string t] 9)).cell? ((⟨w2.heap.size, 0, none⟩ : Addr).add q) = some u from cell_one_new w2 _ _)
                have H1 := Lib.hid (show ∀ u ∈ [(.string t : Value)], u.oneCell' = true by intro u hu; rw [List.mem_singleton.1 hu]; rfl)
                have H2 := Lib.hid (show 0 + 1 ≤ maxLen by decide)
                have H3 := Lib.hid (show (0 + 1) * 16 ≤ 140737488355328 by decide)
                have H4 := Lib.hid (show w.heap.size ≤ (w2.alloc (.cells #[.string t] 9)).heap.size from HC2.out.size)
                have HO2 := Lib.hid (World.ownsRow_nil (w2.alloc (.cells #[.string t] 9)) w.heap.size 9 1)
                clear hc2 hl2
                go_wp2_with (at_builtin; (refine wpList_append_own (w2.alloc (.cells #[.string t] 9)) rfl (.tmp 37) (.tmp 42) _ rfl w.heap.size 9 j0 (.string ⟨#[]⟩) 1 16 Try.underlying30 HJ.out.1 HJ.out.2.1 HJ.out.2.2.1 HJ.out.2.2.2 rfl (by decide) _ 0 [] rfl HO2.out ⟨w2.heap.size, 0, none⟩ 1 1 [.string t] rfl rfl HN2.out H1.out H2.out H3.out H4.out ?_))
                intro v2 w3 o2 b2 _
                have hown := fun q hq => (World.ownsRow.lt HO2.out q hq).1
                have hC3 := chg_grown HC2.out b2 hown
                have hL3 := looks_grown hl3.out b2 (fun e => by have := hown q e.symm; omega) (fun e => by have := hown s e.symm; omega)
                clear hown
                go_wp2
                go_roundw
                case rel => exact ⟨j + 1, by omega, by go_num, Lib.hid (.inr ⟨by rw [HJ0.out], rfl, o2, hL3, hC3⟩)⟩
                case measure => simp [intOf]; omega
              | bad r2 y =>
                have HG := Lib.hid hgt
                have hge : g = .bad r2 y := HG0.out.symm.trans (by unfold ask kind; simp only [k0, k1, k2, if_true, if_false, Bool.false_eq_true, HG.out, Ask.of])
                subst hge
                rw [hgt] at HD
                clear hgt
                go_wp2_with fail
                refine HD.out.mono ?_
                rintro e w2 hd
                obtain ⟨rfl, hs2, hc2⟩ := hd
                have HC2 := Lib.hid (hC1.out.trans hc2)
                have HS2 := Lib.hid hs2
                clear hs2 hc2
                go_wp2
                show _ ∧ _
                exact ⟨rfl, rfl, HS2.out, HC2.out⟩
            · have k2 : (bits .and .i64 op 7 == 2) = false := Bool.eq_false_iff.2 k2
              by_cases k3 : (bits .and .i64 op 7 == 3) = true
              · have hge : g = .num (r.size : Nat) r := HG0.out.symm.trans (by unfold ask kind; simp only [k0, k1, k2, k3, if_true, if_false, Bool.false_eq_true])
                subst hge
                have HD := Lib.hid (left_ok q s r _ hk1.out)
                go_wp2_with fail
                refine HD.out.mono ?_
                rintro e w2 hd
                obtain ⟨rfl, rfl⟩ := hd
                generalize hxx : ((r.size : Nat) : Int) = x at *
                have hl3 := Lib.hid (looks_past hk1.out (.cells #[.int .i64 x] 3))
                have HC2 := Lib.hid (hC1.out.alloc (.cells #[.int .i64 x] 3))
                have HN2 := Lib.hid (show ∀ q u, [(.int .i64 x : Value)][q]? = some u → ((wr.alloc (.cells #[.int .i64 op, .int .i64 m] 37)).alloc (.cells #[.int .i64 x] 3)).cell? ((⟨wr.heap.size + 1, 0, none⟩ : Addr).add q) = some u from by have h := cell_one_new (wr.alloc (.cells #[.int .i64 op, .int .i64 m] 37)) (.int .i64 x) 3; rw [World.size_alloc] at h; exact h)
                have H1 := Lib.hid (show ∀ u ∈ [(.int .i64 x : Value)], u.oneCell' = true by intro u hu; rw [List.mem_singleton.1 hu]; rfl)
                have H2 := Lib.hid (show 0 + 1 ≤ maxLen by decide)
                have H3 := Lib.hid (show (0 + 1) * 8 ≤ 140737488355328 by decide)
                have H4 := Lib.hid (show w.heap.size ≤ ((wr.alloc (.cells #[.int .i64 op, .int .i64 m] 37)).alloc (.cells #[.int .i64 x] 3)).heap.size from HC2.out.size)
                have HO2 := Lib.hid (World.ownsRow_nil ((wr.alloc (.cells #[.int .i64 op, .int .i64 m] 37)).alloc (.cells #[.int .i64 x] 3)) w.heap.size 3 1)
                clear HD
                go_wp2_with (at_builtin; (refine wpList_append_own ((wr.alloc (.cells #[.int .i64 op, .int .i64 m] 37)).alloc (.cells #[.int .i64 x] 3)) rfl (.tmp 46) (.tmp 49) _ rfl w.heap.size 3 i0 (.int .i64 0) 1 8 Try.underlying29 HI.out.1 HI.out.2.1 HI.out.2.2.1 HI.out.2.2.2 rfl (by decide) _ 0 [] rfl HO2.out ⟨wr.heap.size + 1, 0, none⟩ 1 1 [.int .i64 x] rfl rfl HN2.out H1.out H2.out H3.out H4.out ?_))
                intro v2 w3 o2 b2 _
                have hown := fun q hq => (World.ownsRow.lt HO2.out q hq).1
                have hC3 := chg_grown HC2.out b2 hown
                have hL3 := looks_grown hl3.out b2 (fun e => by have := hown q e.symm; omega) (fun e => by have := hown s e.symm; omega)
                clear hown
                go_wp2
                go_roundw
                case rel => exact ⟨j + 1, by omega, by go_num, Lib.hid (.inr ⟨by rw [HJ0.out], by rw [hxx]; exact o2, rfl, hL3, hC3⟩)⟩
                case measure => simp [intOf]; omega
              · have k3 : (bits .and .i64 op 7 == 3) = false := Bool.eq_false_iff.2 k3
                by_cases k4 : (bits .and .i64 op 7 == 4) = true
                · have hge : g = .bad r m := HG0.out.symm.trans (by unfold ask kind; simp only [k0, k1, k2, k3, k4, if_true, if_false, Bool.false_eq_true])
                  subst hge
                  have HD := Lib.hid (fail_ok q s m r _ hk1.out)
                  go_wp2_with fail
                  refine HD.out.mono ?_
                  rintro e w2 hd
                  obtain ⟨rfl, hs2, hc2⟩ := hd
                  have HC2 := Lib.hid (hC1.out.trans hc2)
                  have HS2 := Lib.hid hs2
                  clear hs2 hc2
                  go_wp2
                  show _ ∧ _
                  exact ⟨rfl, rfl, HS2.out, HC2.out⟩
                · have k4 : (bits .and .i64 op 7 == 4) = false := Bool.eq_false_iff.2 k4
                  have hge : g = .still r := HG0.out.symm.trans (by unfold ask kind; simp only [k0, k1, k2, k3, k4, if_false, Bool.false_eq_true])
                  subst hge
                  go_wp2
                  go_roundw
                  case rel => exact ⟨j + 1, by omega, by go_num, Lib.hid (.inr ⟨by rw [HJ0.out], rfl, rfl, hk1.out, hC1.out⟩)⟩
                  case measure => simp [intOf]; omega
      · omega
    · obtain rfl : j = n := by omega
      rcases HO.out with ⟨hj0, _⟩ | ⟨_, h1⟩
      · have := HN.out; omega
      · have H1 := Lib.hid h1
        clear h1
        go_wp2
        go_ret2
        exact one_of H1.out
end Go.Proofs.Ytancbkmgbhigpaa.Vc
