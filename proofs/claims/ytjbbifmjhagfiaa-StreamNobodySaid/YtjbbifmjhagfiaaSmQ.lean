/- The law StreamNobody walked. -/
import Derived.Test.YtjbbifmjhagfiaaSmO
import Derived.Test.YtjbbifmjhagfiaaSmP
namespace Go.Proofs.Ytjbbifmjhagfiaa.Sm
open Go.RowKit Go.Proofs.Ytjbbifmjhagfiaa.Mem
set_option linter.unusedVariables false

theorem info_pt : (Try.prog.info? 64).map (·.size) = some 2 := by kernel_rfl
theorem pt_row (i : Int) (s : ByteArray) (w : World) : PRow (w.alloc (.cells #[.int .i64 i, .string s] 64)) (some ⟨w.heap.size, 0, none⟩) 1 [⟨i, s⟩] :=
  ⟨rfl, fun k c hc => ⟨w.heap.size, 0, rfl, by simp, fun j v hv => by
    have hk : k = 0 := by have := (List.getElem?_eq_some_iff.1 hc).1; simp at this; exact this
    subst hk
    simp at hc
    subst hc
    rw [(Has.fresh w 64 #[.int .i64 i, .string s]).at_]
    simpa [ptC] using hv⟩⟩
structure DeadL (w : World) (g b : Nat) (i : Int) (s : ByteArray) : Prop where
  par : Has w g 64 #[.int .i64 i, .string s]
  at0 : w.cell? ⟨b, 0, none⟩ = some (.pointer none)
  at1 : ∃ p, w.cell? ⟨b, 1, none⟩ = some (.pointer p) ∧ DeadS w p
theorem dead_laid (i : Int) (s : ByteArray) (W : World) (o : Obj) (x : TypeId) : DeadL ((((W.alloc (.cells #[.int .i64 i, .string s] 64)).alloc o).alloc (.cells #[.int .i64 0, .map none] 81)).alloc (.cells #[.pointer none, .pointer (some ⟨W.heap.size + 1 + 1, 0, none⟩)] x)) W.heap.size (W.heap.size + 1 + 1 + 1) i s := by
  have h1 := Has.fresh (((W.alloc (.cells #[.int .i64 i, .string s] 64)).alloc o).alloc (.cells #[.int .i64 0, .map none] 81)) x #[.pointer none, .pointer (some ⟨W.heap.size + 1 + 1, 0, none⟩)]
  have h2 := (Has.fresh ((W.alloc (.cells #[.int .i64 i, .string s] 64)).alloc o) 81 #[.int .i64 0, .map none]).past (.cells #[.pointer none, .pointer (some ⟨W.heap.size + 1 + 1, 0, none⟩)] x)
  have h0 := (((Has.fresh W 64 #[.int .i64 i, .string s]).past o).past (.cells #[.int .i64 0, .map none] 81)).past (.cells #[.pointer none, .pointer (some ⟨W.heap.size + 1 + 1, 0, none⟩)] x)
  simp only [World.size_alloc] at h1 h2
  exact ⟨h0, h1.at_ 0, some ⟨W.heap.size + 1 + 1, 0, none⟩, h1.at_ 1, .inr ⟨_, rfl, h2⟩⟩
theorem DeadL.pick {w : World} {g b : Nat} {i : Int} {s : ByteArray} (h : DeadL w g b i s) (j : Nat) (hj : j < 2) : ∃ p, w.cell? ⟨b, j, none⟩ = some (.pointer p) ∧ DeadS w p := by
  have : j = 0 ∨ j = 1 := by omega
  rcases this with rfl | rfl
  · exact ⟨none, h.at0, .inl rfl⟩
  · exact h.at1
set_option maxRecDepth 100000 in
set_option maxHeartbeats 4000000 in
theorem nobody_walk (W : World) (p : PtP) (hp : p.s.size ≤ maxLen ∧ (Lit.int .i64 p.i).wf = true) : Calls Try.prog 9 #[.agg (ptC p)] W fun e w' => e = .returned (.bool true) ∧ Below W.heap.size W w' := by
  obtain ⟨i, s⟩ := p
  have HS := Lib.hid (smalls_any (some ⟨W.heap.size + 1, 0, none⟩) 1 1 [⟨i, s⟩] ((W.alloc (.cells #[.int .i64 i, .string s] 64)).alloc (.cells #[.int .i64 i, .string s] 64)) (by have h := pt_row i s (W.alloc (.cells #[.int .i64 i, .string s] 64)); rwa [World.size_alloc] at h) (fun p hp2 => by rw [List.mem_singleton.1 hp2]; exact hp.1) (by decide))
  have HM := Lib.hid (Has.fresh W 64 #[.int .i64 i, .string s])
  have HB2 := Lib.hid ((((Below.refl W.heap.size W).alloc (Nat.le_refl _) (.cells #[.int .i64 i, .string s] 64))).alloc (by simp) (.cells #[.int .i64 i, .string s] 64))
  have HD := Lib.hid (dead_laid i s W)
  clear hp
  unfold ptC
  go_enter Try.func9, Try.ntmps9
  go_wp2_with ((with_reducible refine Who.wpList_loadC 64 (.tmp 1) rfl W.heap.size 0 #[.int .i64 i, .string s] ?_); refine And.intro ⟨by rfl, by rfl, ⟨_, Try.underlying64, rfl⟩, info_pt⟩ (And.intro (Who.has_range HM.out) ?_); (try simp only [Act.put, List.setIfInBounds_toArray, List.set_cons_zero, List.set_cons_succ]))
  refine HS.out.mono ?_
  rintro e w' ⟨b, rfl, _, rfl⟩
  cases b with
  | false =>
    go_wp2_with fail
    refine (awake_any _).mono ?_
    rintro e w4 ⟨rfl, hb⟩
    have HB4 := Lib.hid (HB2.out.trans (hb.mono HB2.out.size))
    clear hb
    go_wp2
    go_ret
    exact ⟨rfl, HB4.out⟩
  | true =>
    go_wp2
    obtain ⟨wd, hwd⟩ : ∃ wd : World, wd = ((((W.alloc (.cells #[.int .i64 i, .string s] 64)).alloc (.cells #[.int .i64 i, .string s] 64)).alloc (.cells #[.int .i64 0, .map none] 81)).alloc (.cells #[.pointer none, .pointer (some ⟨W.heap.size + 1 + 1, 0, none⟩)] 57)) := ⟨_, rfl⟩
    have HDD := Lib.hid (hwd ▸ HD.out (.cells #[.int .i64 i, .string s] 64) 57 : DeadL wd W.heap.size (W.heap.size + 1 + 1 + 1) i s)
    have HBD := Lib.hid (show Below W.heap.size W wd by rw [hwd]; exact (HB2.out.alloc (by simp; omega) _).alloc (by simp; omega) _)
    rw [← hwd]
    clear hwd HD HS HM HB2
    go_loopw [20] (fun z wr => ∃ j : Nat, j ≤ 2 ∧ z = .int .i64 j ∧ wr = wd) (fun z _ => 2 - (intOf z).toNat)
    case atStart => exact ⟨0, by omega, rfl, rfl⟩
    case round =>
      obtain ⟨j, hj, rfl, rfl⟩ := hrel
      by_cases hlt : j < 2
      · have HL := Lib.hid (show j + 1 ≤ 2 from hlt)
        have hlti : (j : Int) < 2 := by omega
        obtain ⟨p, hx, hd⟩ := HDD.out.pick j hlt
        have c0 := HDD.out.par.at_ 0
        have c1 := HDD.out.par.at_ 1
        simp at c0 c1
        have H1 := Lib.hid (add_dead p i s _ hd)
        have H2 := Lib.hid (hasn_dead p _ hd)
        have H3 := Lib.hid (changes_dead p _ hd)
        have H4 := Lib.hid (whole_dead p i _ hd)
        have H5 := Lib.hid (missing_dead p _ hd)
        clear hd
        go_wp2_with fail
        with_reducible refine (H1.out).mono ?_
        rintro e w' ⟨rfl, rfl⟩
        go_wp2_with fail
        with_reducible refine (H2.out).mono ?_
        rintro e w' ⟨rfl, rfl⟩
        go_wp2_with fail
        with_reducible refine (H3.out).mono ?_
        rintro e w' ⟨rfl, rfl⟩
        go_wp2_with fail
        with_reducible refine (H4.out).mono ?_
        rintro e w' ⟨rfl, rfl⟩
        go_wp2_with fail
        with_reducible refine (H5.out).mono ?_
        rintro e w' ⟨rfl, rfl⟩
        go_wp2
        go_roundw
        case rel => exact ⟨j + 1, HL.out, by go_num, trivial⟩
        case measure => have := HL.out; simp [intOf]; omega
      · have hlti : ¬ (j : Int) < 2 := by omega
        obtain rfl : j = 2 := by omega
        go_wp2_with fail
        refine (awake_any _).mono ?_
        rintro e w4 ⟨rfl, hb⟩
        have HB4 := Lib.hid (HBD.out.trans (hb.mono HBD.out.size))
        clear hb
        go_wp2
        go_ret
        exact ⟨rfl, HB4.out⟩
end Go.Proofs.Ytjbbifmjhagfiaa.Sm
