/- What an event wrote of a link: the program's parts, the document's line. -/
import Derived.Test.YtdbmnnmcelaehaaDoorSrA
namespace Go.Proofs.YtdbmnnmcelaehaaDoor.Sr
open Go.RowKit Go.Proofs.YtdbmnnmcelaehaaDoor.Mem Go.Proofs.YtdbmnnmcelaehaaDoor.Tx
open Go.Proofs.YtdbmnnmcelaehaaDoor.Fc (fitS NodeP LinkP NodeC nodeC linkC)
open Go.Proofs.YtdbmnnmcelaehaaDoor.Vc (vecC stC eq8 eqv neq_st)
set_option linter.unusedVariables false set_option linter.unusedSimpArgs false

theorem info_st : (Tryd.prog.info? 23).map (·.size) = some 2 := by kernel_rfl
theorem info_vec : (Tryd.prog.info? 25).map (·.size) = some 8 := by kernel_rfl
theorem info_link : (Tryd.prog.info? 66).map (·.size) = some 25 := by kernel_rfl
theorem id_range {w : World} {g : Nat} {t : TypeId} {k : LinkP} (h : Has w g t (linkC k)) : w.rangeAt g 0 (#[.int .i64 k.id.1, .int .i64 k.id.2]).toList := fun j v hv => by
  match j, hv with
  | 0, hv => exact (h.at_ 0).trans hv
  | 1, hv => exact (h.at_ 1).trans hv
  | j + 2, hv => simp [vecC] at hv
theorem at_range {w : World} {g : Nat} {t : TypeId} {k : LinkP} (h : Has w g t (linkC k)) : w.rangeAt g 4 (#[.int .i64 k.at_.1, .int .i64 k.at_.2]).toList := fun j v hv => by
  match j, hv with
  | 0, hv => exact (h.at_ 4).trans hv
  | 1, hv => exact (h.at_ 5).trans hv
  | j + 2, hv => simp [vecC] at hv
theorem par_range {w : World} {g : Nat} {t : TypeId} {k : LinkP} (h : Has w g t (linkC k)) : w.rangeAt g 6 (#[.int .i64 k.par.1, .int .i64 k.par.2]).toList := fun j v hv => by
  match j, hv with
  | 0, hv => exact (h.at_ 6).trans hv
  | 1, hv => exact (h.at_ 7).trans hv
  | j + 2, hv => simp [vecC] at hv
theorem al_range {w : World} {g : Nat} {t : TypeId} {k : LinkP} (h : Has w g t (linkC k)) : w.rangeAt g 9 (vecC k.al).toList := fun j v hv => by
  match j, hv with
  | 0, hv => exact (h.at_ 9).trans hv
  | 1, hv => exact (h.at_ 10).trans hv
  | 2, hv => exact (h.at_ 11).trans hv
  | 3, hv => exact (h.at_ 12).trans hv
  | 4, hv => exact (h.at_ 13).trans hv
  | 5, hv => exact (h.at_ 14).trans hv
  | 6, hv => exact (h.at_ 15).trans hv
  | 7, hv => exact (h.at_ 16).trans hv
  | j + 8, hv => simp [vecC] at hv
theorem de_range {w : World} {g : Nat} {t : TypeId} {k : LinkP} (h : Has w g t (linkC k)) : w.rangeAt g 17 (vecC k.de).toList := fun j v hv => by
  match j, hv with
  | 0, hv => exact (h.at_ 17).trans hv
  | 1, hv => exact (h.at_ 18).trans hv
  | 2, hv => exact (h.at_ 19).trans hv
  | 3, hv => exact (h.at_ 20).trans hv
  | 4, hv => exact (h.at_ 21).trans hv
  | 5, hv => exact (h.at_ 22).trans hv
  | 6, hv => exact (h.at_ 23).trans hv
  | 7, hv => exact (h.at_ 24).trans hv
  | j + 8, hv => simp [vecC] at hv
/-- What a call has that gathers texts: its own copy of what it was handed (the block laid first), and the row. -/
structure HasI (t : TypeId) (cs : Array Value) (w wr : World) (u : Value) (l : List ByteArray) : Prop where
  below : Below w.heap.size w wr
  has : Has wr w.heap.size t cs
  row : OwnS wr (w.heap.size + 1) u l
theorem HasI.big {t : TypeId} {cs : Array Value} {w wr : World} {u : Value} {l : List ByteArray} (h : HasI t cs w wr u l) : w.heap.size + 1 ≤ wr.heap.size := h.has.bound
theorem HasI.sl {t : TypeId} {cs : Array Value} {w wr : World} {u : Value} {l : List ByteArray} (h : HasI t cs w wr u l) : ∃ A n c, u = .slice A n c := by
  obtain ⟨A, c, e⟩ := own1_sl h.row
  exact ⟨A, _, c, e⟩
theorem HasI.start (w : World) (t : TypeId) (cs : Array Value) : HasI t cs w (w.alloc (.cells cs t)) (.slice none 0 0) [] := ⟨(Below.refl w.heap.size w).alloc (Nat.le_refl _) _, Has.fresh w _ _, own1_nil _ _ _⟩
theorem HasI.low {t : TypeId} {cs : Array Value} {w wr w2 : World} {u : Value} {l : List ByteArray} (h : HasI t cs w wr u l) (hb : Below wr.heap.size wr w2) : HasI t cs w w2 u l := ⟨h.below.trans (hb.mono h.below.size), h.has.below hb, own1_below h.row hb⟩
theorem HasI.grew {t : TypeId} {cs : Array Value} {w wr w2 : World} {u u' : Value} {l : List ByteArray} {b : ByteArray} (h : HasI t cs w wr u l) (hg : Grew (w.heap.size + 1) wr w2 u u' l b) : HasI t cs w w2 u' (l ++ [b]) :=
  ⟨h.below.trans (hg.below.mono (Nat.le_succ _)), h.has.over hg.chg (fun e => by have := (World.ownsRow.lt h.row _ e).1; omega), hg.row⟩
set_option maxRecDepth 100000 in
theorem placed_any (k : LinkP) (w : World) : Calls Tryd.prog 40 #[.agg (linkC k)] w fun e w' => e = .returned (.bool (!zeroS k.at_)) ∧ Below w.heap.size w w' := by
  have hb0 := (Below.refl w.heap.size w).alloc (Nat.le_refl _) (.cells (linkC k) 66)
  have HB0 := Lib.hid hb0
  have HX := Lib.hid (Has.fresh w 66 (linkC k))
  have HI := Lib.hid (fun V => is_any k.at_ V)
  clear hb0
  go_enter Tryd.func40, Tryd.ntmps40
  go_wp2_with (first | ((with_reducible refine Who.wpList_loadC 23 (.tmp 3) rfl w.heap.size 4 (#[.int .i64 k.at_.1, .int .i64 k.at_.2]) ?_); refine And.intro ⟨by rfl, by rfl, ⟨_, Tryd.underlying23, rfl⟩, info_st⟩ (And.intro (at_range HX.out) ?_); (try simp only [Act.put, List.setIfInBounds_toArray, List.set_cons_zero, List.set_cons_succ])) | fail)
  refine (HI.out _).mono ?_
  rintro e w1 ⟨rfl, hb⟩
  have HB1 := Lib.hid (HB0.out.trans (hb.mono HB0.out.size))
  clear hb
  go_wp2
  go_ret
  exact ⟨rfl, HB1.out⟩
def placeB (k : LinkP) : ByteArray := ⟨#[112, 108, 97, 99, 101, 58]⟩ ++ stampB k.par ++ ⟨#[47]⟩ ++ k.name
def alW : ByteArray := ⟨#[97, 108, 105, 118, 101]⟩
def deW : ByteArray := ⟨#[100, 101, 97, 100]⟩
def plL (k : LinkP) : List ByteArray := if zeroS k.at_ then [] else [placeB k]
def alL (k : LinkP) : List ByteArray := if zero8 k.al then [] else [alW]
def deL (k : LinkP) : List ByteArray := if zero8 k.de then [] else [deW]
theorem plL_len (k : LinkP) : (plL k).length ≤ 4000000 := by unfold plL; split <;> simp
theorem alL_len (k : LinkP) : (plL k ++ alL k).length ≤ 4000000 := by unfold plL alL; split <;> split <;> simp
def partsL (k : LinkP) : List ByteArray := plL k ++ alL k ++ deL k
theorem placeB_size {k : LinkP} (h : fitS k.par) : (placeB k).size ≤ 50 + k.name.size := by
  unfold placeB
  rw [ByteArray.size_append, ByteArray.size_append, ByteArray.size_append]
  have := stampB_size h
  have z1 : (⟨#[112, 108, 97, 99, 101, 58]⟩ : ByteArray).size = 6 := rfl
  have z2 : (⟨#[47]⟩ : ByteArray).size = 1 := rfl
  omega
theorem partsL_small {k : LinkP} (hk : Fc.NumL k) (hn : k.name.size ≤ 1048576) : SmallP (partsL k) := by
  have h1 : (plL k).length ≤ 1 := by unfold plL; split <;> simp
  have h2 : (alL k).length ≤ 1 := by unfold alL; split <;> simp
  have h3 : (deL k).length ≤ 1 := by unfold deL; split <;> simp
  refine ⟨by unfold partsL; simp; omega, fun p hp => ?_⟩
  unfold partsL at hp
  simp only [List.mem_append] at hp
  rcases hp with (hp | hp) | hp
  · unfold plL at hp
    split at hp
    · cases hp
    · simp at hp; subst hp; have := placeB_size hk.2.2.2.1; omega
  · unfold alL at hp
    split at hp
    · cases hp
    · simp at hp; subst hp; exact of_decide_eq_true rfl
  · unfold deL at hp
    split at hp
    · cases hp
    · simp at hp; subst hp; exact of_decide_eq_true rfl
set_option maxRecDepth 100000 in
set_option maxHeartbeats 2000000 in
theorem linkParts_any (k : LinkP) (hk : Fc.NumL k) (hn : k.name.size ≤ 1048576) (w : World) (hT : Tabs w) : Calls Tryd.prog 27 #[.agg (linkC k)] w fun e w' => ∃ u, e = .returned u ∧ OwnS w' (w.heap.size + 1) u (partsL k) ∧ Below w.heap.size w w' := by
  have H0 := Lib.hid (HasI.start w 66 (linkC k))
  have HSK := Lib.hid (show ∀ V, Has V w.heap.size 66 (linkC k) → (V.rangeAt w.heap.size 6 #[.int .i64 k.par.1, .int .i64 k.par.2].toList ∧ V.cell? ⟨w.heap.size, 8, none⟩ = some (.string k.name)) from fun V h => ⟨par_range h, h.at_ 8⟩)
  have HTT := Lib.hid (show ∀ V, Below w.heap.size w V → Tabs V from fun V h => hT.self h)
  have HSP := Lib.hid (fun V (h : Tabs V) => stamp_any k.par hk.2.2.2.1 V h)
  clear hT
  have s1 := stampB_size hk.2.2.2.1
  have z1 : (⟨#[112, 108, 97, 99, 101, 58]⟩ : ByteArray).size = 6 := rfl
  have z2 : (⟨#[47]⟩ : ByteArray).size = 1 := rfl
  obtain ⟨g1, eg1⟩ : ∃ g1 : ByteArray, g1 = (⟨#[112, 108, 97, 99, 101, 58]⟩ : ByteArray) ++ (stampB k.par) := ⟨_, rfl⟩
  have fg1 := congrArg ByteArray.size eg1
  rw [ByteArray.size_append] at fg1
  have ag1 := fun W => run_string_add_sum (P := Tryd.prog) W (⟨#[112, 108, 97, 99, 101, 58]⟩ : ByteArray) (stampB k.par) (by omega)
  rw [← eg1] at ag1
  obtain ⟨g2, eg2⟩ : ∃ g2 : ByteArray, g2 = g1 ++ (⟨#[47]⟩ : ByteArray) := ⟨_, rfl⟩
  have fg2 := congrArg ByteArray.size eg2
  rw [ByteArray.size_append] at fg2
  have ag2 := fun W => run_string_add_sum (P := Tryd.prog) W g1 (⟨#[47]⟩ : ByteArray) (by omega)
  rw [← eg2] at ag2
  obtain ⟨g3, eg3⟩ : ∃ g3 : ByteArray, g3 = g2 ++ (k.name) := ⟨_, rfl⟩
  have fg3 := congrArg ByteArray.size eg3
  rw [ByteArray.size_append] at fg3
  have ag3 := fun W => run_string_add_sum (P := Tryd.prog) W g2 (k.name) (by omega)
  rw [← eg3] at ag3
  have HG3 := Lib.hid (show g3 = placeB k by unfold placeB; rw [eg3, eg2, eg1])
  clear s1 z1 z2 fg1 fg2 fg3 eg1 eg2 eg3
  have hz1 := fun W => neq_st k.at_.1 k.at_.2 0 0 W
  have HZ := Lib.hid (show zeroS k.at_ = (k.at_.1 == 0 && k.at_.2 == 0) from rfl)
  rw [← HZ.out] at hz1
  have hz2 : ∀ W, (Op.equalIn 10000 25 (.agg (vecC k.al)) (.agg #[.int .i64 0, .int .i64 0, .int .i64 0, .int .i64 0, .int .i64 0, .int .i64 0, .int .i64 0, .int .i64 0])).run Tryd.prog W = .ok (zero8 k.al) W := fun W => eqv k.al (fun _ => 0) W
  have hz3 : ∀ W, (Op.equalIn 10000 25 (.agg (vecC k.de)) (.agg #[.int .i64 0, .int .i64 0, .int .i64 0, .int .i64 0, .int .i64 0, .int .i64 0, .int .i64 0, .int .i64 0])).run Tryd.prog W = .ok (zero8 k.de) W := fun W => eqv k.de (fun _ => 0) W
  unfold stC at hz1
  have HP := Lib.hid (show plL k = if zeroS k.at_ then [] else [placeB k] from rfl)
  have HA := Lib.hid (show alL k = if zero8 k.al then [] else [alW] from rfl)
  have HD := Lib.hid (show deL k = if zero8 k.de then [] else [deW] from rfl)
  have HLP := Lib.hid (plL_len k)
  have HLA := Lib.hid (alL_len k)
  clear hk hn
  obtain ⟨zp, hzp⟩ : ∃ zp, zp = zeroS k.at_ := ⟨_, rfl⟩
  obtain ⟨za, hza⟩ : ∃ za, za = zero8 k.al := ⟨_, rfl⟩
  obtain ⟨zd, hzd⟩ : ∃ zd, zd = zero8 k.de := ⟨_, rfl⟩
  rw [← hzp] at hz1 HP
  rw [← hza] at hz2 HA
  rw [← hzd] at hz3 HD
  have qpl := fun V => placed_any k V
  rw [← hzp] at qpl
  have HPL := Lib.hid qpl
  clear qpl
  clear hzp hza hzd HZ
  go_enter Tryd.func27, Tryd.ntmps27
  repeat ((fail_if_success (with_reducible refine wp_seq_k (x := Code.seq _ _) (fun K0 hK0 => ?_))); go_step)
  with_reducible refine wp_seq_k (x := Code.seq _ _) (fun K1 hK1 => ?_)
  have HK1 : ∀ (v1x4 v1x5 v1x6 v1x7 v1x8 v1x9 v1x10 v1x11 v1x12 v1x13 v1x14 v1x15 v1x16 v1x17 v1x18 v1x19 v1x20 v1x21 v1x22 v1x23 v1x24 v1x25 v1x26 v1x27 v1x28 v1x29 v1x30 v1x31 : Value) (u : Value) (wr : World), HasI 66 (linkC k) w wr u (plL k) → K1 { tmps := #[.agg (linkC k), .pointer (some ⟨w.heap.size, 0, none⟩), .slice none 0 0, u, v1x4, v1x5, v1x6, v1x7, v1x8, v1x9, v1x10, v1x11, v1x12, v1x13, v1x14, v1x15, v1x16, v1x17, v1x18, v1x19, v1x20, v1x21, v1x22, v1x23, v1x24, v1x25, v1x26, v1x27, v1x28, v1x29, v1x30, v1x31], defers := [] } wr := by
    intro v1x4 v1x5 v1x6 v1x7 v1x8 v1x9 v1x10 v1x11 v1x12 v1x13 v1x14 v1x15 v1x16 v1x17 v1x18 v1x19 v1x20 v1x21 v1x22 v1x23 v1x24 v1x25 v1x26 v1x27 v1x28 v1x29 v1x30 v1x31 u wr HI
    have H := Lib.hid HI
    clear HI
    refine hK1 _ _ ?_
    clear hK1 K1
    repeat ((fail_if_success (with_reducible refine wp_seq_k (x := Code.seq _ _) (fun K0 hK0 => ?_))); go_step)
    with_reducible refine wp_seq_k (x := Code.seq _ _) (fun K2 hK2 => ?_)
    have HK2 : ∀ (v2x4 v2x5 v2x6 v2x7 v2x8 v2x9 v2x10 v2x11 v2x12 v2x13 v2x14 v2x15 v2x16 v2x17 v2x18 v2x19 v2x20 v2x21 v2x22 v2x23 v2x24 v2x25 v2x26 v2x27 v2x28 v2x29 v2x30 v2x31 : Value) (u : Value) (wr : World), HasI 66 (linkC k) w wr u (plL k ++ alL k) → K2 { tmps := #[.agg (linkC k), .pointer (some ⟨w.heap.size, 0, none⟩), .slice none 0 0, u, v2x4, v2x5, v2x6, v2x7, v2x8, v2x9, v2x10, v2x11, v2x12, v2x13, v2x14, v2x15, v2x16, v2x17, v2x18, v2x19, v2x20, v2x21, v2x22, v2x23, v2x24, v2x25, v2x26, v2x27, v2x28, v2x29, v2x30, v2x31], defers := [] } wr := by
      intro v2x4 v2x5 v2x6 v2x7 v2x8 v2x9 v2x10 v2x11 v2x12 v2x13 v2x14 v2x15 v2x16 v2x17 v2x18 v2x19 v2x20 v2x21 v2x22 v2x23 v2x24 v2x25 v2x26 v2x27 v2x28 v2x29 v2x30 v2x31 u wr HI
      have H := Lib.hid HI
      clear HI
      refine hK2 _ _ ?_
      clear hK2 K2
      repeat ((fail_if_success (with_reducible refine wp_seq_k (x := Code.seq _ _) (fun K0 hK0 => ?_))); go_step)
      with_reducible refine wp_seq_k (x := Code.seq _ _) (fun K3 hK3 => ?_)
      have HK3 : ∀ (v3x4 v3x5 v3x6 v3x7 v3x8 v3x9 v3x10 v3x11 v3x12 v3x13 v3x14 v3x15 v3x16 v3x17 v3x18 v3x19 v3x20 v3x21 v3x22 v3x23 v3x24 v3x25 v3x26 v3x27 v3x28 v3x29 v3x30 v3x31 : Value) (u : Value) (wr : World), HasI 66 (linkC k) w wr u (plL k ++ alL k ++ deL k) → K3 { tmps := #[.agg (linkC k), .pointer (some ⟨w.heap.size, 0, none⟩), .slice none 0 0, u, v3x4, v3x5, v3x6, v3x7, v3x8, v3x9, v3x10, v3x11, v3x12, v3x13, v3x14, v3x15, v3x16, v3x17, v3x18, v3x19, v3x20, v3x21, v3x22, v3x23, v3x24, v3x25, v3x26, v3x27, v3x28, v3x29, v3x30, v3x31], defers := [] } wr := by
        intro v3x4 v3x5 v3x6 v3x7 v3x8 v3x9 v3x10 v3x11 v3x12 v3x13 v3x14 v3x15 v3x16 v3x17 v3x18 v3x19 v3x20 v3x21 v3x22 v3x23 v3x24 v3x25 v3x26 v3x27 v3x28 v3x29 v3x30 v3x31 u wr HI
        have H := Lib.hid HI
        clear HI
        refine hK3 _ _ ?_
        clear hK3 K3
        go_wp2
        refine bodyPost_ret (v := u) (by simp [results, Tryd.results27, go_sem]) rfl ⟨u, rfl, H.out.row, H.out.below⟩
      have HH3 := Lib.hid HK3
      clear HK3 hK3
      cases zd with
      | true =>
        have HE := Lib.hid HD.out
        rw [if_pos rfl] at HE
        go_wp2_with (first | ((with_reducible refine Who.wpList_loadC 25 (.tmp 24) rfl w.heap.size 17 (vecC k.de) ?_); refine And.intro ⟨by rfl, by rfl, ⟨_, Tryd.underlying25, rfl⟩, info_vec⟩ (And.intro (de_range H.out.has) ?_); (try simp only [Act.put, List.setIfInBounds_toArray, List.set_cons_zero, List.set_cons_succ])) | fail)
        exact HH3.out _ _ _ _ _ _ _ _ _ _ _ _ _ _ _ _ _ _ _ _ _ _ _ _ _ _ _ _ u _ (by rw [HE.out, List.append_nil]; exact H.out)
      | false =>
        have HE := Lib.hid HD.out
        rw [if_neg (by decide)] at HE
        obtain ⟨A, n, c, rfl⟩ := H.out.sl
        go_wp2_with (first | ((with_reducible refine Who.wpList_loadC 25 (.tmp 24) rfl w.heap.size 17 (vecC k.de) ?_); refine And.intro ⟨by rfl, by rfl, ⟨_, Tryd.underlying25, rfl⟩, info_vec⟩ (And.intro (de_range H.out.has) ?_); (try simp only [Act.put, List.setIfInBounds_toArray, List.set_cons_zero, List.set_cons_succ])) | (at_builtin; (with_reducible refine wpl_text (B := w.heap.size + 1) (u := .slice A n c) (l := plL k ++ alL k) (.tmp 28) (.tmp 29) rfl rfl ?_); refine And.intro ⟨⟨by rfl, ⟨_, by rfl, by simp⟩⟩, H.out.row, H.out.big, HLA.out⟩ ?_))
        intro u2 wz hg
        have H2 := Lib.hid (H.out.grew hg)
        clear hg
        go_wp2
        exact HH3.out _ _ _ _ _ _ _ _ _ _ _ _ _ _ _ _ _ _ _ _ _ _ _ _ _ _ _ _ u2 wz (by rw [HE.out]; exact H2.out)
    have HH2 := Lib.hid HK2
    clear HK2 hK2
    cases za with
    | true =>
      have HE := Lib.hid HA.out
      rw [if_pos rfl] at HE
      go_wp2_with (first | ((with_reducible refine Who.wpList_loadC 25 (.tmp 17) rfl w.heap.size 9 (vecC k.al) ?_); refine And.intro ⟨by rfl, by rfl, ⟨_, Tryd.underlying25, rfl⟩, info_vec⟩ (And.intro (al_range H.out.has) ?_); (try simp only [Act.put, List.setIfInBounds_toArray, List.set_cons_zero, List.set_cons_succ])) | fail)
      exact HH2.out _ _ _ _ _ _ _ _ _ _ _ _ _ _ _ _ _ _ _ _ _ _ _ _ _ _ _ _ u _ (by rw [HE.out, List.append_nil]; exact H.out)
    | false =>
      have HE := Lib.hid HA.out
      rw [if_neg (by decide)] at HE
      obtain ⟨A, n, c, rfl⟩ := H.out.sl
      go_wp2_with (first | ((with_reducible refine Who.wpList_loadC 25 (.tmp 17) rfl w.heap.size 9 (vecC k.al) ?_); refine And.intro ⟨by rfl, by rfl, ⟨_, Tryd.underlying25, rfl⟩, info_vec⟩ (And.intro (al_range H.out.has) ?_); (try simp only [Act.put, List.setIfInBounds_toArray, List.set_cons_zero, List.set_cons_succ])) | (at_builtin; (with_reducible refine wpl_text (B := w.heap.size + 1) (u := .slice A n c) (l := plL k) (.tmp 21) (.tmp 22) rfl rfl ?_); refine And.intro ⟨⟨by rfl, ⟨_, by rfl, by simp⟩⟩, H.out.row, H.out.big, HLP.out⟩ ?_))
      intro u2 wz hg
      have H2 := Lib.hid (H.out.grew hg)
      clear hg
      go_wp2
      exact HH2.out _ _ _ _ _ _ _ _ _ _ _ _ _ _ _ _ _ _ _ _ _ _ _ _ _ _ _ _ u2 wz (by rw [HE.out]; exact H2.out)
  have HH1 := Lib.hid HK1
  clear HK1 hK1
  go_wp2_with (first | ((with_reducible refine Who.wpList_loadC 66 (.tmp 1) rfl w.heap.size 0 (linkC k) ?_); refine And.intro ⟨by rfl, by rfl, ⟨_, Tryd.underlying66, rfl⟩, info_link⟩ (And.intro (Who.has_range H0.out.has) ?_); (try simp only [Act.put, List.setIfInBounds_toArray, List.set_cons_zero, List.set_cons_succ])) | fail)
  refine (HPL.out _).mono ?_
  rintro e wp ⟨rfl, hb⟩
  have H1 := Lib.hid (H0.out.low hb)
  clear hb
  cases zp with
  | true =>
    have HE := Lib.hid HP.out
    rw [if_pos rfl] at HE
    go_wp2
    exact HH1.out _ _ _ _ _ _ _ _ _ _ _ _ _ _ _ _ _ _ _ _ _ _ _ _ _ _ _ _ _ _ (by rw [HE.out]; exact H1.out)
  | false =>
    have HE := Lib.hid HP.out
    rw [if_neg (by decide)] at HE
    go_wp2
    have HR0 := Lib.hid (H1.out.low ((Below.refl _ _).drew))
    refine wp_region_held_drew (S := fun V => V.rangeAt w.heap.size 6 #[.int .i64 k.par.1, .int .i64 k.par.2].toList ∧ V.cell? ⟨w.heap.size, 8, none⟩ = some (.string k.name)) (by kernel_rfl) (HSK.out _ HR0.out.has) (fun hHeld => ?_)
    refine Vc.wpAnyH_read (i := 0) (d := some 6) (v := ?vy1) (by rfl) (by rfl) (by kernel_rfl) (by kernel_rfl) (by kernel_rfl) (fun _ _ _ h => h) (by rfl) ?hyy1 (by assumption) ?resty1
    case hyy1 =>
      intro w hSw
      obtain ⟨s0, s1⟩ := hSw
      go_simp
      try with_reducible rfl
    (try simp only [Act.put, List.setIfInBounds_toArray, List.set_cons_zero, List.set_cons_succ])
    refine Vc.wpAnyH_read (i := 1) (d := some 7) (v := ?vy2) (by rfl) (by rfl) (by kernel_rfl) (by kernel_rfl) (by kernel_rfl) (fun _ _ _ h => h) (by rfl) ?hyy2 (by assumption) ?resty2
    case hyy2 =>
      intro w hSw
      obtain ⟨s0, s1⟩ := hSw
      go_simp
      try with_reducible rfl
    (try simp only [Act.put, List.setIfInBounds_toArray, List.set_cons_zero, List.set_cons_succ])
    refine Vc.wpAnyH_read (i := 2) (d := some 8) (v := .agg #[.int .i64 k.par.1, .int .i64 k.par.2]) (by rfl) (by rfl) (by kernel_rfl) (by kernel_rfl) (by kernel_rfl) (fun _ _ _ h => h) (by rfl) ?hyy3 (by assumption) ?resty3
    case hyy3 =>
      intro w hSw
      obtain ⟨s0, s1⟩ := hSw
      exact Who.exec_loadA _ rfl rfl s0 Tryd.underlying23 rfl info_st
    (try simp only [Act.put, List.setIfInBounds_toArray, List.set_cons_zero, List.set_cons_succ])
    refine Vc.wpAnyH_read (i := 6) (d := some 12) (v := ?vy4) (by rfl) (by rfl) (by kernel_rfl) (by kernel_rfl) (by kernel_rfl) (fun _ _ _ h => h) (by rfl) ?hyy4 (by assumption) ?resty4
    case hyy4 =>
      intro w hSw
      obtain ⟨s0, s1⟩ := hSw
      go_simp
      try with_reducible rfl
    (try simp only [Act.put, List.setIfInBounds_toArray, List.set_cons_zero, List.set_cons_succ])
    refine Vc.wpAnyH_read (i := 7) (d := some 13) (v := ?vy5) (by rfl) (by rfl) (by kernel_rfl) (by kernel_rfl) (by kernel_rfl) (fun _ _ _ h => h) (by rfl) ?hyy5 (by assumption) ?resty5
    case hyy5 =>
      intro w hSw
      obtain ⟨s0, s1⟩ := hSw
      go_simp
      try with_reducible rfl
    (try simp only [Act.put, List.setIfInBounds_toArray, List.set_cons_zero, List.set_cons_succ])
    refine wpAnyH_ready (rs := [3]) (by kernel_rfl) (by simp) ?_
    refine AllReadyH.cons rfl (fun K hK => ?_) AllReadyH.nil
    go_simp
    go_at_call 23
    refine (HSP.out _ (HTT.out _ HR0.out.below)).mono ?_
    rintro e wq ⟨rfl, hb⟩
    have HR1 := Lib.hid (HR0.out.low hb)
    clear hb
    refine hK.out _ _ (HSK.out _ HR1.out.has) (fun hHeld => ?_)
    clear hK K
    (try simp only [Act.put, List.setIfInBounds_toArray, List.set_cons_zero, List.set_cons_succ])
    refine Vc.wpAnyH_read (i := 4) (d := some 10) (v := ?vy6) (by rfl) (by rfl) (by kernel_rfl) (by kernel_rfl) (by kernel_rfl) (fun _ _ _ h => h) (by rfl) ?hyy6 (by assumption) ?resty6
    case hyy6 =>
      intro w hSw
      obtain ⟨s0, s1⟩ := hSw
      go_simp
      try with_reducible rfl
    (try simp only [Act.put, List.setIfInBounds_toArray, List.set_cons_zero, List.set_cons_succ])
    refine Vc.wpAnyH_read (i := 5) (d := some 11) (v := ?vy7) (by rfl) (by rfl) (by kernel_rfl) (by kernel_rfl) (by kernel_rfl) (fun _ _ _ h => h) (by rfl) ?hyy7 (by assumption) ?resty7
    case hyy7 =>
      intro w hSw
      obtain ⟨s0, s1⟩ := hSw
      go_simp
      try with_reducible rfl
    (try simp only [Act.put, List.setIfInBounds_toArray, List.set_cons_zero, List.set_cons_succ])
    refine Vc.wpAnyH_read (i := 8) (d := some 14) (v := ?vy8) (by rfl) (by rfl) (by kernel_rfl) (by kernel_rfl) (by kernel_rfl) (fun _ _ _ h => h) (by rfl) ?hyy8 (by assumption) ?resty8
    case hyy8 =>
      intro w hSw
      obtain ⟨s0, s1⟩ := hSw
      go_simp
      try with_reducible rfl
    (try simp only [Act.put, List.setIfInBounds_toArray, List.set_cons_zero, List.set_cons_succ])
    refine wpAnyH_ready (rs := [9]) (by kernel_rfl) (by simp) ?_
    refine AllReadyH.cons rfl (fun K hK => ?_) AllReadyH.nil
    have HR2 := Lib.hid (HR1.out.low ((Below.refl _ _).alloc (Nat.le_refl _) (.cells #[.string g3] 9)))
    go_simp
    refine hK.out _ _ (HSK.out _ HR2.out.has) (fun hHeld => ?_)
    clear hK K
    (try simp only [Act.put, List.setIfInBounds_toArray, List.set_cons_zero, List.set_cons_succ])
    refine wpAnyH_ready (rs := [10]) (by kernel_rfl) (by simp) ?_
    refine AllReadyH.cons rfl (fun K hK => ?_) AllReadyH.nil
    refine step_text (.tmp 6) (.tmp 15) (by rfl) (by rfl) ⟨⟨⟨by rfl, ⟨_, by rfl, by simp⟩⟩, HR1.out.row, HR1.out.big, by simp⟩, fun u1 wz hg => ?_⟩
    have H2 := Lib.hid (HR1.out.grew hg)
    clear hg
    refine hK.out _ _ (HSK.out _ H2.out.has) (fun hHeld => ?_)
    clear hK K
    (try simp only [Act.put, List.setIfInBounds_toArray, List.set_cons_zero, List.set_cons_succ])
    refine Vc.wpAnyH_read (i := 11) (d := some 3) (v := ?vy9) (by rfl) (by rfl) (by kernel_rfl) (by kernel_rfl) (by kernel_rfl) (fun _ _ _ h => h) (by rfl) ?hyy9 (by assumption) ?resty9
    case hyy9 =>
      intro w hSw
      obtain ⟨s0, s1⟩ := hSw
      go_simp
      try with_reducible rfl
    (try simp only [Act.put, List.setIfInBounds_toArray, List.set_cons_zero, List.set_cons_succ])
    refine wpAnyH_done (by kernel_rfl) ?_ _
    go_wp2
    exact HH1.out _ _ _ _ _ _ _ _ _ _ _ _ _ _ _ _ _ _ _ _ _ _ _ _ _ _ _ _ u1 wz (by rw [HE.out, ← HG3.out]; exact H2.out)
set_option maxRecDepth 100000 in
set_option maxHeartbeats 2000000 in
theorem rlink_any (k : LinkP) (hk : Fc.NumL k) (hn : k.name.size ≤ 1048576) (w : World) : Calls Tryd.prog 31 #[.agg (linkC k)] w fun e w' => e = .returned (.string (lineB ⟨#[108, 105, 110, 107]⟩ k.id (partsL k))) ∧ Below w.heap.size w w' := by
  have H0 := Lib.hid (HasI.start w 66 (linkC k))
  have HSK := Lib.hid (show ∀ V, Has V w.heap.size 66 (linkC k) → (V.rangeAt w.heap.size 6 #[.int .i64 k.par.1, .int .i64 k.par.2].toList ∧ V.cell? ⟨w.heap.size, 8, none⟩ = some (.string k.name)) from fun V h => ⟨par_range h, h.at_ 8⟩)
  have HSP := Lib.hid (fun V => rstamp_any k.par hk.2.2.2.1 V)
  have HSI := Lib.hid (fun V => rstamp_any k.id hk.1 V)
  have s1 := stampB_size hk.2.2.2.1
  have z1 : (⟨#[112, 108, 97, 99, 101, 58]⟩ : ByteArray).size = 6 := rfl
  have z2 : (⟨#[47]⟩ : ByteArray).size = 1 := rfl
  obtain ⟨g1, eg1⟩ : ∃ g1 : ByteArray, g1 = (⟨#[112, 108, 97, 99, 101, 58]⟩ : ByteArray) ++ (stampB k.par) := ⟨_, rfl⟩
  have fg1 := congrArg ByteArray.size eg1
  rw [ByteArray.size_append] at fg1
  have ag1 := fun W => run_string_add_sum (P := Tryd.prog) W (⟨#[112, 108, 97, 99, 101, 58]⟩ : ByteArray) (stampB k.par) (by omega)
  rw [← eg1] at ag1
  obtain ⟨g2, eg2⟩ : ∃ g2 : ByteArray, g2 = g1 ++ (⟨#[47]⟩ : ByteArray) := ⟨_, rfl⟩
  have fg2 := congrArg ByteArray.size eg2
  rw [ByteArray.size_append] at fg2
  have ag2 := fun W => run_string_add_sum (P := Tryd.prog) W g1 (⟨#[47]⟩ : ByteArray) (by omega)
  rw [← eg2] at ag2
  obtain ⟨g3, eg3⟩ : ∃ g3 : ByteArray, g3 = g2 ++ (k.name) := ⟨_, rfl⟩
  have fg3 := congrArg ByteArray.size eg3
  rw [ByteArray.size_append] at fg3
  have ag3 := fun W => run_string_add_sum (P := Tryd.prog) W g2 (k.name) (by omega)
  rw [← eg3] at ag3
  have HG3 := Lib.hid (show g3 = placeB k by unfold placeB; rw [eg3, eg2, eg1])
  clear s1 z1 z2 fg1 fg2 fg3 eg1 eg2 eg3
  have hz1 := fun W => neq_st k.at_.1 k.at_.2 0 0 W
  have HZ := Lib.hid (show zeroS k.at_ = (k.at_.1 == 0 && k.at_.2 == 0) from rfl)
  rw [← HZ.out] at hz1
  have hz2 : ∀ W, (Op.equalIn 10000 25 (.agg (vecC k.al)) (.agg #[.int .i64 0, .int .i64 0, .int .i64 0, .int .i64 0, .int .i64 0, .int .i64 0, .int .i64 0, .int .i64 0])).run Tryd.prog W = .ok (zero8 k.al) W := fun W => eqv k.al (fun _ => 0) W
  have hz3 : ∀ W, (Op.equalIn 10000 25 (.agg (vecC k.de)) (.agg #[.int .i64 0, .int .i64 0, .int .i64 0, .int .i64 0, .int .i64 0, .int .i64 0, .int .i64 0, .int .i64 0])).run Tryd.prog W = .ok (zero8 k.de) W := fun W => eqv k.de (fun _ => 0) W
  unfold stC at hz1
  have HP := Lib.hid (show plL k = if zeroS k.at_ then [] else [placeB k] from rfl)
  have HA := Lib.hid (show alL k = if zero8 k.al then [] else [alW] from rfl)
  have HD := Lib.hid (show deL k = if zero8 k.de then [] else [deW] from rfl)
  have HLP := Lib.hid (plL_len k)
  have HLA := Lib.hid (alL_len k)
  have HSM := Lib.hid (partsL_small hk hn)
  have sI := stampB_size hk.1
  have zI : (⟨#[108, 105, 110, 107, 32]⟩ : ByteArray).size = 5 := rfl
  have zJ : (⟨#[32]⟩ : ByteArray).size = 1 := rfl
  have sJ := joinC_size (partsL_small hk hn)
  obtain ⟨j1, ej1⟩ : ∃ j1 : ByteArray, j1 = (⟨#[108, 105, 110, 107, 32]⟩ : ByteArray) ++ (stampB k.id) := ⟨_, rfl⟩
  have fj1 := congrArg ByteArray.size ej1
  rw [ByteArray.size_append] at fj1
  have aj1 := fun W => run_string_add_sum (P := Tryd.prog) W (⟨#[108, 105, 110, 107, 32]⟩ : ByteArray) (stampB k.id) (by omega)
  rw [← ej1] at aj1
  obtain ⟨j2, ej2⟩ : ∃ j2 : ByteArray, j2 = j1 ++ (⟨#[32]⟩ : ByteArray) := ⟨_, rfl⟩
  have fj2 := congrArg ByteArray.size ej2
  rw [ByteArray.size_append] at fj2
  have aj2 := fun W => run_string_add_sum (P := Tryd.prog) W j1 (⟨#[32]⟩ : ByteArray) (by omega)
  rw [← ej2] at aj2
  obtain ⟨j3, ej3⟩ : ∃ j3 : ByteArray, j3 = j2 ++ (joinC (partsL k)) := ⟨_, rfl⟩
  have fj3 := congrArg ByteArray.size ej3
  rw [ByteArray.size_append] at fj3
  have aj3 := fun W => run_string_add_sum (P := Tryd.prog) W j2 (joinC (partsL k)) (by omega)
  rw [← ej3] at aj3
  have HJ3 := Lib.hid (show j3 = lineB ⟨#[108, 105, 110, 107]⟩ k.id (partsL k) by unfold lineB; rw [ej3, ej2, ej1, show (⟨#[108, 105, 110, 107, 32]⟩ : ByteArray) = ⟨#[108, 105, 110, 107]⟩ ++ ⟨#[32]⟩ from rfl])
  clear sI zI zJ sJ fj1 fj2 fj3 ej1 ej2 ej3
  clear hk hn
  obtain ⟨zp, hzp⟩ : ∃ zp, zp = zeroS k.at_ := ⟨_, rfl⟩
  obtain ⟨za, hza⟩ : ∃ za, za = zero8 k.al := ⟨_, rfl⟩
  obtain ⟨zd, hzd⟩ : ∃ zd, zd = zero8 k.de := ⟨_, rfl⟩
  rw [← hzp] at hz1 HP
  rw [← hza] at hz2 HA
  rw [← hzd] at hz3 HD
  clear hzp hza hzd HZ
  go_enter Tryd.func31, Tryd.ntmps31
  repeat ((fail_if_success (with_reducible refine wp_seq_k (x := Code.seq _ _) (fun K0 hK0 => ?_))); go_step)
  with_reducible refine wp_seq_k (x := Code.seq _ _) (fun K1 hK1 => ?_)
  have HK1 : ∀ (v1x4 v1x5 v1x6 v1x7 v1x8 v1x9 v1x10 v1x11 v1x12 v1x13 v1x14 v1x15 v1x16 v1x17 v1x18 v1x19 v1x20 v1x21 v1x22 v1x23 v1x24 v1x25 v1x26 v1x27 v1x28 v1x29 v1x30 v1x31 v1x32 v1x33 v1x34 v1x35 v1x36 v1x37 v1x38 v1x39 v1x40 : Value) (u : Value) (wr : World), HasI 66 (linkC k) w wr u (plL k) → K1 { tmps := #[.agg (linkC k), .pointer (some ⟨w.heap.size, 0, none⟩), .string ⟨#[]⟩, u, v1x4, v1x5, v1x6, v1x7, v1x8, v1x9, v1x10, v1x11, v1x12, v1x13, v1x14, v1x15, v1x16, v1x17, v1x18, v1x19, v1x20, v1x21, v1x22, v1x23, v1x24, v1x25, v1x26, v1x27, v1x28, v1x29, v1x30, v1x31, v1x32, v1x33, v1x34, v1x35, v1x36, v1x37, v1x38, v1x39, v1x40], defers := [] } wr := by
    intro v1x4 v1x5 v1x6 v1x7 v1x8 v1x9 v1x10 v1x11 v1x12 v1x13 v1x14 v1x15 v1x16 v1x17 v1x18 v1x19 v1x20 v1x21 v1x22 v1x23 v1x24 v1x25 v1x26 v1x27 v1x28 v1x29 v1x30 v1x31 v1x32 v1x33 v1x34 v1x35 v1x36 v1x37 v1x38 v1x39 v1x40 u wr HI
    have H := Lib.hid HI
    clear HI
    refine hK1 _ _ ?_
    clear hK1 K1
    repeat ((fail_if_success (with_reducible refine wp_seq_k (x := Code.seq _ _) (fun K0 hK0 => ?_))); go_step)
    with_reducible refine wp_seq_k (x := Code.seq _ _) (fun K2 hK2 => ?_)
    have HK2 : ∀ (v2x4 v2x5 v2x6 v2x7 v2x8 v2x9 v2x10 v2x11 v2x12 v2x13 v2x14 v2x15 v2x16 v2x17 v2x18 v2x19 v2x20 v2x21 v2x22 v2x23 v2x24 v2x25 v2x26 v2x27 v2x28 v2x29 v2x30 v2x31 v2x32 v2x33 v2x34 v2x35 v2x36 v2x37 v2x38 v2x39 v2x40 : Value) (u : Value) (wr : World), HasI 66 (linkC k) w wr u (plL k ++ alL k) → K2 { tmps := #[.agg (linkC k), .pointer (some ⟨w.heap.size, 0, none⟩), .string ⟨#[]⟩, u, v2x4, v2x5, v2x6, v2x7, v2x8, v2x9, v2x10, v2x11, v2x12, v2x13, v2x14, v2x15, v2x16, v2x17, v2x18, v2x19, v2x20, v2x21, v2x22, v2x23, v2x24, v2x25, v2x26, v2x27, v2x28, v2x29, v2x30, v2x31, v2x32, v2x33, v2x34, v2x35, v2x36, v2x37, v2x38, v2x39, v2x40], defers := [] } wr := by
      intro v2x4 v2x5 v2x6 v2x7 v2x8 v2x9 v2x10 v2x11 v2x12 v2x13 v2x14 v2x15 v2x16 v2x17 v2x18 v2x19 v2x20 v2x21 v2x22 v2x23 v2x24 v2x25 v2x26 v2x27 v2x28 v2x29 v2x30 v2x31 v2x32 v2x33 v2x34 v2x35 v2x36 v2x37 v2x38 v2x39 v2x40 u wr HI
      have H := Lib.hid HI
      clear HI
      refine hK2 _ _ ?_
      clear hK2 K2
      repeat ((fail_if_success (with_reducible refine wp_seq_k (x := Code.seq _ _) (fun K0 hK0 => ?_))); go_step)
      with_reducible refine wp_seq_k (x := Code.seq _ _) (fun K3 hK3 => ?_)
      have HK3 : ∀ (v3x4 v3x5 v3x6 v3x7 v3x8 v3x9 v3x10 v3x11 v3x12 v3x13 v3x14 v3x15 v3x16 v3x17 v3x18 v3x19 v3x20 v3x21 v3x22 v3x23 v3x24 v3x25 v3x26 v3x27 v3x28 v3x29 v3x30 v3x31 v3x32 v3x33 v3x34 v3x35 v3x36 v3x37 v3x38 v3x39 v3x40 : Value) (u : Value) (wr : World), HasI 66 (linkC k) w wr u (plL k ++ alL k ++ deL k) → K3 { tmps := #[.agg (linkC k), .pointer (some ⟨w.heap.size, 0, none⟩), .string ⟨#[]⟩, u, v3x4, v3x5, v3x6, v3x7, v3x8, v3x9, v3x10, v3x11, v3x12, v3x13, v3x14, v3x15, v3x16, v3x17, v3x18, v3x19, v3x20, v3x21, v3x22, v3x23, v3x24, v3x25, v3x26, v3x27, v3x28, v3x29, v3x30, v3x31, v3x32, v3x33, v3x34, v3x35, v3x36, v3x37, v3x38, v3x39, v3x40], defers := [] } wr := by
        intro v3x4 v3x5 v3x6 v3x7 v3x8 v3x9 v3x10 v3x11 v3x12 v3x13 v3x14 v3x15 v3x16 v3x17 v3x18 v3x19 v3x20 v3x21 v3x22 v3x23 v3x24 v3x25 v3x26 v3x27 v3x28 v3x29 v3x30 v3x31 v3x32 v3x33 v3x34 v3x35 v3x36 v3x37 v3x38 v3x39 v3x40 u wr HI
        have H := Lib.hid HI
        clear HI
        refine hK3 _ _ ?_
        clear hK3 K3
        go_wp2_with (first | ((with_reducible refine Who.wpList_loadC 23 (.tmp 33) rfl w.heap.size 0 (#[.int .i64 k.id.1, .int .i64 k.id.2]) ?_); refine And.intro ⟨by rfl, by rfl, ⟨_, Tryd.underlying23, rfl⟩, info_st⟩ (And.intro (id_range H.out.has) ?_); (try simp only [Act.put, List.setIfInBounds_toArray, List.set_cons_zero, List.set_cons_succ])) | fail)
        refine (HSI.out _).mono ?_
        rintro e wq ⟨rfl, hb⟩
        have HQ := Lib.hid (H.out.low hb)
        clear hb
        go_wp2_with fail
        refine (rjoin_any _ u (partsL k) HSM.out _ HQ.out.row).mono ?_
        rintro e wr2 ⟨rfl, hb⟩
        have HBZ := Lib.hid (HQ.out.below.trans (hb.mono HQ.out.below.size))
        clear hb
        go_wp2
        go_ret
        exact ⟨by rw [← HJ3.out]; rfl, HBZ.out⟩
      have HH3 := Lib.hid HK3
      clear HK3 hK3
      cases zd with
      | true =>
        have HE := Lib.hid HD.out
        rw [if_pos rfl] at HE
        go_wp2_with (first | ((with_reducible refine Who.wpList_loadC 25 (.tmp 26) rfl w.heap.size 17 (vecC k.de) ?_); refine And.intro ⟨by rfl, by rfl, ⟨_, Tryd.underlying25, rfl⟩, info_vec⟩ (And.intro (de_range H.out.has) ?_); (try simp only [Act.put, List.setIfInBounds_toArray, List.set_cons_zero, List.set_cons_succ])) | fail)
        exact HH3.out _ _ _ _ _ _ _ _ _ _ _ _ _ _ _ _ _ _ _ _ _ _ _ _ _ _ _ _ _ _ _ _ _ _ _ _ _ u _ (by rw [HE.out, List.append_nil]; exact H.out)
      | false =>
        have HE := Lib.hid HD.out
        rw [if_neg (by decide)] at HE
        obtain ⟨A, n, c, rfl⟩ := H.out.sl
        go_wp2_with (first | ((with_reducible refine Who.wpList_loadC 25 (.tmp 26) rfl w.heap.size 17 (vecC k.de) ?_); refine And.intro ⟨by rfl, by rfl, ⟨_, Tryd.underlying25, rfl⟩, info_vec⟩ (And.intro (de_range H.out.has) ?_); (try simp only [Act.put, List.setIfInBounds_toArray, List.set_cons_zero, List.set_cons_succ])) | (at_builtin; (with_reducible refine wpl_text (B := w.heap.size + 1) (u := .slice A n c) (l := plL k ++ alL k) (.tmp 30) (.tmp 31) rfl rfl ?_); refine And.intro ⟨⟨by rfl, ⟨_, by rfl, by simp⟩⟩, H.out.row, H.out.big, HLA.out⟩ ?_))
        intro u2 wz hg
        have H2 := Lib.hid (H.out.grew hg)
        clear hg
        go_wp2
        exact HH3.out _ _ _ _ _ _ _ _ _ _ _ _ _ _ _ _ _ _ _ _ _ _ _ _ _ _ _ _ _ _ _ _ _ _ _ _ _ u2 wz (by rw [HE.out]; exact H2.out)
    have HH2 := Lib.hid HK2
    clear HK2 hK2
    cases za with
    | true =>
      have HE := Lib.hid HA.out
      rw [if_pos rfl] at HE
      go_wp2_with (first | ((with_reducible refine Who.wpList_loadC 25 (.tmp 19) rfl w.heap.size 9 (vecC k.al) ?_); refine And.intro ⟨by rfl, by rfl, ⟨_, Tryd.underlying25, rfl⟩, info_vec⟩ (And.intro (al_range H.out.has) ?_); (try simp only [Act.put, List.setIfInBounds_toArray, List.set_cons_zero, List.set_cons_succ])) | fail)
      exact HH2.out _ _ _ _ _ _ _ _ _ _ _ _ _ _ _ _ _ _ _ _ _ _ _ _ _ _ _ _ _ _ _ _ _ _ _ _ _ u _ (by rw [HE.out, List.append_nil]; exact H.out)
    | false =>
      have HE := Lib.hid HA.out
      rw [if_neg (by decide)] at HE
      obtain ⟨A, n, c, rfl⟩ := H.out.sl
      go_wp2_with (first | ((with_reducible refine Who.wpList_loadC 25 (.tmp 19) rfl w.heap.size 9 (vecC k.al) ?_); refine And.intro ⟨by rfl, by rfl, ⟨_, Tryd.underlying25, rfl⟩, info_vec⟩ (And.intro (al_range H.out.has) ?_); (try simp only [Act.put, List.setIfInBounds_toArray, List.set_cons_zero, List.set_cons_succ])) | (at_builtin; (with_reducible refine wpl_text (B := w.heap.size + 1) (u := .slice A n c) (l := plL k) (.tmp 23) (.tmp 24) rfl rfl ?_); refine And.intro ⟨⟨by rfl, ⟨_, by rfl, by simp⟩⟩, H.out.row, H.out.big, HLP.out⟩ ?_))
      intro u2 wz hg
      have H2 := Lib.hid (H.out.grew hg)
      clear hg
      go_wp2
      exact HH2.out _ _ _ _ _ _ _ _ _ _ _ _ _ _ _ _ _ _ _ _ _ _ _ _ _ _ _ _ _ _ _ _ _ _ _ _ _ u2 wz (by rw [HE.out]; exact H2.out)
  have HH1 := Lib.hid HK1
  clear HK1 hK1
  cases zp with
  | true =>
    have HE := Lib.hid HP.out
    rw [if_pos rfl] at HE
    go_wp2_with (first | ((with_reducible refine Who.wpList_loadC 23 (.tmp 4) rfl w.heap.size 4 (#[.int .i64 k.at_.1, .int .i64 k.at_.2]) ?_); refine And.intro ⟨by rfl, by rfl, ⟨_, Tryd.underlying23, rfl⟩, info_st⟩ (And.intro (at_range H0.out.has) ?_); (try simp only [Act.put, List.setIfInBounds_toArray, List.set_cons_zero, List.set_cons_succ])) | fail)
    exact HH1.out _ _ _ _ _ _ _ _ _ _ _ _ _ _ _ _ _ _ _ _ _ _ _ _ _ _ _ _ _ _ _ _ _ _ _ _ _ _ _ (by rw [HE.out]; exact H0.out)
  | false =>
    have HE := Lib.hid HP.out
    rw [if_neg (by decide)] at HE
    go_wp2_with (first | ((with_reducible refine Who.wpList_loadC 23 (.tmp 4) rfl w.heap.size 4 (#[.int .i64 k.at_.1, .int .i64 k.at_.2]) ?_); refine And.intro ⟨by rfl, by rfl, ⟨_, Tryd.underlying23, rfl⟩, info_st⟩ (And.intro (at_range H0.out.has) ?_); (try simp only [Act.put, List.setIfInBounds_toArray, List.set_cons_zero, List.set_cons_succ])) | fail)
    have HR0 := Lib.hid (H0.out.low ((Below.refl _ _).drew))
    refine wp_region_held_drew (S := fun V => V.rangeAt w.heap.size 6 #[.int .i64 k.par.1, .int .i64 k.par.2].toList ∧ V.cell? ⟨w.heap.size, 8, none⟩ = some (.string k.name)) (by kernel_rfl) (HSK.out _ HR0.out.has) (fun hHeld => ?_)
    refine Vc.wpAnyH_read (i := 0) (d := some 8) (v := ?vy10) (by rfl) (by rfl) (by kernel_rfl) (by kernel_rfl) (by kernel_rfl) (fun _ _ _ h => h) (by rfl) ?hyy10 (by assumption) ?resty10
    case hyy10 =>
      intro w hSw
      obtain ⟨s0, s1⟩ := hSw
      go_simp
      try with_reducible rfl
    (try simp only [Act.put, List.setIfInBounds_toArray, List.set_cons_zero, List.set_cons_succ])
    refine Vc.wpAnyH_read (i := 1) (d := some 9) (v := ?vy11) (by rfl) (by rfl) (by kernel_rfl) (by kernel_rfl) (by kernel_rfl) (fun _ _ _ h => h) (by rfl) ?hyy11 (by assumption) ?resty11
    case hyy11 =>
      intro w hSw
      obtain ⟨s0, s1⟩ := hSw
      go_simp
      try with_reducible rfl
    (try simp only [Act.put, List.setIfInBounds_toArray, List.set_cons_zero, List.set_cons_succ])
    refine Vc.wpAnyH_read (i := 2) (d := some 10) (v := .agg #[.int .i64 k.par.1, .int .i64 k.par.2]) (by rfl) (by rfl) (by kernel_rfl) (by kernel_rfl) (by kernel_rfl) (fun _ _ _ h => h) (by rfl) ?hyy12 (by assumption) ?resty12
    case hyy12 =>
      intro w hSw
      obtain ⟨s0, s1⟩ := hSw
      exact Who.exec_loadA _ rfl rfl s0 Tryd.underlying23 rfl info_st
    (try simp only [Act.put, List.setIfInBounds_toArray, List.set_cons_zero, List.set_cons_succ])
    refine Vc.wpAnyH_read (i := 6) (d := some 14) (v := ?vy13) (by rfl) (by rfl) (by kernel_rfl) (by kernel_rfl) (by kernel_rfl) (fun _ _ _ h => h) (by rfl) ?hyy13 (by assumption) ?resty13
    case hyy13 =>
      intro w hSw
      obtain ⟨s0, s1⟩ := hSw
      go_simp
      try with_reducible rfl
    (try simp only [Act.put, List.setIfInBounds_toArray, List.set_cons_zero, List.set_cons_succ])
    refine Vc.wpAnyH_read (i := 7) (d := some 15) (v := ?vy14) (by rfl) (by rfl) (by kernel_rfl) (by kernel_rfl) (by kernel_rfl) (fun _ _ _ h => h) (by rfl) ?hyy14 (by assumption) ?resty14
    case hyy14 =>
      intro w hSw
      obtain ⟨s0, s1⟩ := hSw
      go_simp
      try with_reducible rfl
    (try simp only [Act.put, List.setIfInBounds_toArray, List.set_cons_zero, List.set_cons_succ])
    refine wpAnyH_ready (rs := [3]) (by kernel_rfl) (by simp) ?_
    refine AllReadyH.cons rfl (fun K hK => ?_) AllReadyH.nil
    go_simp
    go_at_call 28
    refine (HSP.out _).mono ?_
    rintro e wq ⟨rfl, hb⟩
    have HR1 := Lib.hid (HR0.out.low hb)
    clear hb
    refine hK.out _ _ (HSK.out _ HR1.out.has) (fun hHeld => ?_)
    clear hK K
    (try simp only [Act.put, List.setIfInBounds_toArray, List.set_cons_zero, List.set_cons_succ])
    refine Vc.wpAnyH_read (i := 4) (d := some 12) (v := ?vy15) (by rfl) (by rfl) (by kernel_rfl) (by kernel_rfl) (by kernel_rfl) (fun _ _ _ h => h) (by rfl) ?hyy15 (by assumption) ?resty15
    case hyy15 =>
      intro w hSw
      obtain ⟨s0, s1⟩ := hSw
      go_simp
      try with_reducible rfl
    (try simp only [Act.put, List.setIfInBounds_toArray, List.set_cons_zero, List.set_cons_succ])
    refine Vc.wpAnyH_read (i := 5) (d := some 13) (v := ?vy16) (by rfl) (by rfl) (by kernel_rfl) (by kernel_rfl) (by kernel_rfl) (fun _ _ _ h => h) (by rfl) ?hyy16 (by assumption) ?resty16
    case hyy16 =>
      intro w hSw
      obtain ⟨s0, s1⟩ := hSw
      go_simp
      try with_reducible rfl
    (try simp only [Act.put, List.setIfInBounds_toArray, List.set_cons_zero, List.set_cons_succ])
    refine Vc.wpAnyH_read (i := 8) (d := some 16) (v := ?vy17) (by rfl) (by rfl) (by kernel_rfl) (by kernel_rfl) (by kernel_rfl) (fun _ _ _ h => h) (by rfl) ?hyy17 (by assumption) ?resty17
    case hyy17 =>
      intro w hSw
      obtain ⟨s0, s1⟩ := hSw
      go_simp
      try with_reducible rfl
    (try simp only [Act.put, List.setIfInBounds_toArray, List.set_cons_zero, List.set_cons_succ])
    refine wpAnyH_ready (rs := [9]) (by kernel_rfl) (by simp) ?_
    refine AllReadyH.cons rfl (fun K hK => ?_) AllReadyH.nil
    have HR2 := Lib.hid (HR1.out.low ((Below.refl _ _).alloc (Nat.le_refl _) (.cells #[.string g3] 9)))
    go_simp
    refine hK.out _ _ (HSK.out _ HR2.out.has) (fun hHeld => ?_)
    clear hK K
    (try simp only [Act.put, List.setIfInBounds_toArray, List.set_cons_zero, List.set_cons_succ])
    refine wpAnyH_ready (rs := [10]) (by kernel_rfl) (by simp) ?_
    refine AllReadyH.cons rfl (fun K hK => ?_) AllReadyH.nil
    refine step_text (.tmp 8) (.tmp 17) (by rfl) (by rfl) ⟨⟨⟨by rfl, ⟨_, by rfl, by simp⟩⟩, HR1.out.row, HR1.out.big, by simp⟩, fun u1 wz hg => ?_⟩
    have H2 := Lib.hid (HR1.out.grew hg)
    clear hg
    refine hK.out _ _ (HSK.out _ H2.out.has) (fun hHeld => ?_)
    clear hK K
    (try simp only [Act.put, List.setIfInBounds_toArray, List.set_cons_zero, List.set_cons_succ])
    refine Vc.wpAnyH_read (i := 11) (d := some 3) (v := ?vy18) (by rfl) (by rfl) (by kernel_rfl) (by kernel_rfl) (by kernel_rfl) (fun _ _ _ h => h) (by rfl) ?hyy18 (by assumption) ?resty18
    case hyy18 =>
      intro w hSw
      obtain ⟨s0, s1⟩ := hSw
      go_simp
      try with_reducible rfl
    (try simp only [Act.put, List.setIfInBounds_toArray, List.set_cons_zero, List.set_cons_succ])
    refine wpAnyH_done (by kernel_rfl) ?_ _
    go_wp2
    exact HH1.out _ _ _ _ _ _ _ _ _ _ _ _ _ _ _ _ _ _ _ _ _ _ _ _ _ _ _ _ _ _ _ _ _ _ _ _ _ u1 wz (by rw [HE.out, ← HG3.out]; exact H2.out)
end Go.Proofs.YtdbmnnmcelaehaaDoor.Sr
