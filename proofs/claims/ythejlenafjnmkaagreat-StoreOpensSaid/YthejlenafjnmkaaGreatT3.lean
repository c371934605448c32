import Derived.Test.YthejlenafjnmkaaGreatT2
import Derived.Deep.RegionHeld3
import Derived.Test.YthejlenafjnmkaaGreatReg
import Derived.Lib.ConvBytes

/- The look by which a beginning is read: contract. -/
namespace Go.Proofs.YthejlenafjnmkaaGreat.Sto
open Go.RowKit Go.Proofs.YthejlenafjnmkaaGreat.Oct
open Rws
open Vc (wpAnyH_read wpAnyH_skip)

abbrev BgV := Int × Int × ByteArray
def bg5 (g ro : Int) (r : ByteArray) : Pars (BgV × ByteArray) :=
  match gotText r 3900 with
  | .txt t r5 => .ok ((g, ro, t), r5)
  | .num _ r5 => .error (r5, 201)
  | .bad r5 y => .error (r5, y)
def bg4 (size g ro : Int) (r : ByteArray) : Pars (BgV × ByteArray) :=
  match gotNum r 4 with
  | .num sz r4 => if (sz == size) = true then bg5 g ro r4 else .error (r4, 201)
  | .txt _ r4 => .error (r4, 201)
  | .bad r4 y => .error (r4, y)
def bg3 (size g : Int) (r : ByteArray) : Pars (BgV × ByteArray) :=
  match gotNum r 4 with
  | .num ro r3 => if (ro == 0 || nameB ro size) = true then bg4 size g ro r3 else .error (r3, 201)
  | .txt _ r3 => .error (r3, 201)
  | .bad r3 y => .error (r3, y)
def bg2 (size : Int) (r : ByteArray) : Pars (BgV × ByteArray) :=
  match gotNum r 6 with
  | .num g r2 => if (decide (1 ≤ g) && decide (g ≤ 1099511627776)) = true then bg3 size g r2 else .error (r2, 201)
  | .txt _ r2 => .error (r2, 201)
  | .bad r2 y => .error (r2, y)
/-- What the bytes of a beginning tell. -/
def beginP (size : Int) (r : ByteArray) : Pars (BgV × ByteArray) :=
  match gotRaw r 1 with
  | .txt t r1 => if (t.toList == [83]) = true then bg2 size r1 else .error (r1, 201)
  | .num _ r1 => .error (r1, 201)
  | .bad r1 y => .error (r1, y)
theorem gotRaw_num {r : ByteArray} {n v : Int} {q : ByteArray} (h : gotRaw r n = .num v q) : False := by
  unfold gotRaw at h
  repeat' split at h
  all_goals simp at h
/-- What the look leaves. -/
def GEnd (x : Pars (BgV × ByteArray)) (q s bc : Nat) (w : World) (e : Ending) (w' : World) : Prop :=
  match x with
  | .ok ((g, ro, t), r) => e = .returned (.tuple #[]) ∧ Looks w' q s r ∧ Oct.Has w' bc 83 #[.int .i64 g, .int .i64 ro, .string t] ∧ Chg (BS s bc) w w'
  | .error (r, y) => e = .panicked (own s) ∧ Sight w' s r true y ∧ Chg (BS s bc) w w'
/-- On the way. -/
structure GMid (w : World) (q s bc cs : Nat) (size : Int) (r : ByteArray) (g ro : Int) (w' : World) : Prop where
  looks : Looks w' q s r
  blk : Oct.Has w' bc 83 #[.int .i64 g, .int .i64 ro, .string ⟨#[]⟩]
  size_ : Oct.Has w' cs 3 #[.int .i64 size]
  chg : Chg (BS s bc) w w'
structure Apt (q s bc cs : Nat) : Prop where
  qs : q ≠ s
  bs : bc ≠ s
  bq : bc ≠ q
  ss : cs ≠ s
  sb : cs ≠ bc
theorem GMid.next {w w1 w2 : World} {q s bc cs : Nat} {size : Int} {r r2 : ByteArray} {g ro : Int} (h : GMid w q s bc cs size r g ro w1) (d : Apt q s bc cs) (hl : Looks w2 q s r2) (hc : Chg (· = s) w1 w2) : GMid w q s bc cs size r2 g ro w2 :=
  ⟨hl, h.blk.over hc d.bs, h.size_.over hc d.ss, h.chg.trans (hc.mono fun _ hk => Or.inl hk)⟩
theorem GMid.put0 {w w1 : World} {q s bc cs : Nat} {size : Int} {r : ByteArray} {g ro : Int} (h : GMid w q s bc cs size r g ro w1) (d : Apt q s bc cs) (v : Int) : GMid w q s bc cs size r v ro (w1.setCell ⟨bc, 0, none⟩ (.int .i64 v)) :=
  ⟨⟨h.looks.eye.keep (p := ⟨bc, 0, none⟩) d.bq.symm _, Oct.Has.keep h.looks.sight (p := ⟨bc, 0, none⟩) d.bs.symm _⟩, Oct.Has.put h.blk 0 _, h.size_.keep (p := ⟨bc, 0, none⟩) d.sb _, h.chg.setCell (p := ⟨bc, 0, none⟩) (.inl (.inr rfl)) _⟩
theorem GMid.put1 {w w1 : World} {q s bc cs : Nat} {size : Int} {r : ByteArray} {g ro : Int} (h : GMid w q s bc cs size r g ro w1) (d : Apt q s bc cs) (v : Int) : GMid w q s bc cs size r g v (w1.setCell ⟨bc, 1, none⟩ (.int .i64 v)) :=
  ⟨⟨h.looks.eye.keep (p := ⟨bc, 1, none⟩) d.bq.symm _, Oct.Has.keep h.looks.sight (p := ⟨bc, 1, none⟩) d.bs.symm _⟩, Oct.Has.put h.blk 1 _, h.size_.keep (p := ⟨bc, 1, none⟩) d.sb _, h.chg.setCell (p := ⟨bc, 1, none⟩) (.inl (.inr rfl)) _⟩
theorem GMid.bad {w w1 w2 : World} {q s bc cs : Nat} {size : Int} {r r2 : ByteArray} {g ro y : Int} (h : GMid w q s bc cs size r g ro w1) (hs : Sight w2 s r2 true y) (hc : Chg (· = s) w1 w2) : GEnd (.error (r2, y)) q s bc w (.panicked (own s)) w2 :=
  ⟨rfl, hs, h.chg.trans (hc.mono fun _ hk => Or.inl hk)⟩
theorem GMid.drew {w w1 : World} {q s bc cs : Nat} {size : Int} {r : ByteArray} {g ro : Int} (h : GMid w q s bc cs size r g ro w1) : GMid w q s bc cs size r g ro w1.drew := ⟨⟨h.looks.eye.drew, Oct.Has.drew h.looks.sight⟩, h.blk.drew, h.size_.drew, h.chg.drew⟩
set_option maxRecDepth 100000 in
set_option maxHeartbeats 8000000 in
theorem begin_look (q s bc cs : Nat) (size : Int) (r : ByteArray) (d : Apt q s bc cs) (w : World) (hl : Looks w q s r) (hb : Oct.Has w bc 83 #[.int .i64 0, .int .i64 0, .string ⟨#[]⟩]) (hs : Oct.Has w cs 3 #[.int .i64 size]) (X : Pars (BgV × ByteArray)) (hX : beginP size r = X) :
    Calls Tryz.prog 105 #[.pointer (some ⟨q, 0, none⟩), .pointer (some ⟨bc, 0, none⟩), .pointer (some ⟨cs, 0, none⟩)] w (GEnd X q s bc w) := by
  have HX := Lib.hid hX
  have HD := Lib.hid d
  have HM := Lib.hid (show GMid w q s bc cs size r 0 0 w from ⟨hl, hb, hs, Chg.refl _ _⟩)
  have HN := Lib.hid (raw_got q s 1 r d.qs w hl)
  clear hX d hl hb hs
  go_enter Tryz.func105, Tryz.ntmps105
  cases hg : gotRaw r 1 with
  | num v r1 => exact (gotRaw_num hg).elim
  | bad r1 y =>
    have hge : X = .error (r1, y) := HX.out.symm.trans (by unfold beginP; rw [hg])
    subst hge
    rw [hg] at HN
    clear hg
    go_wp2_with fail
    refine HN.out.mono ?_
    rintro e w1 hd
    obtain ⟨rfl, h1, h2⟩ := hd
    have HE := Lib.hid (HM.out.bad h1 h2)
    clear h1 h2
    go_wp2
    show _ ∧ _
    exact ⟨rfl, HE.out⟩
  | txt t r1 =>
    have HXV := Lib.hid (show X = if (t.toList == [83]) = true then bg2 size r1 else .error (r1, 201) from HX.out.symm.trans (by unfold beginP; rw [hg]))
    rw [hg] at HN
    clear hg HX
    go_wp2_with fail
    refine HN.out.mono ?_
    rintro e w1 hd
    obtain ⟨rfl, h1, h2⟩ := hd
    replace HM := Lib.hid (HM.out.next HD.out h1 h2)
    clear h1 h2 HN
    cases hcd : (t.toList == [83]) with
    | false =>
      have hge : X = .error (r1, 201) := HXV.out.trans (by rw [hcd]; rfl)
      subst hge
      have HF := Lib.hid (demand_no q s r1 w1 HM.out.looks)
      skip
      go_wp2_with fail
      refine HF.out.mono ?_
      rintro e w9 ⟨rfl, h1, h2⟩
      have HE := Lib.hid (HM.out.bad h1 h2)
      clear h1 h2
      go_wp2
      show _ ∧ _
      exact ⟨rfl, HE.out⟩
    | true =>
      have HX := Lib.hid (show X = bg2 size r1 from HXV.out.trans (by rw [hcd]; rfl))
      skip
      clear HXV
      go_wp2_with fail
      refine (demand_yes _ _).mono ?_
      rintro e w' ⟨rfl, rfl⟩
      have HN := Lib.hid (num_got q s 6 r1 HD.out.qs w1 HM.out.looks)
      cases hg : gotNum r1 6 with
      | txt v r2 => exact (gotNum_txt hg).elim
      | bad r2 y =>
        have hge : X = .error (r2, y) := HX.out.trans (by unfold bg2; rw [hg])
        subst hge
        rw [hg] at HN
        clear hg
        go_wp2_with fail
        refine HN.out.mono ?_
        rintro e w9 hd
        obtain ⟨rfl, h1, h2⟩ := hd
        have HE := Lib.hid (HM.out.bad h1 h2)
        clear h1 h2
        go_wp2
        show _ ∧ _
        exact ⟨rfl, HE.out⟩
      | num g r2 =>
        have HXV := Lib.hid (show X = if (decide (1 ≤ g) && decide (g ≤ 1099511627776)) = true then bg3 size g r2 else .error (r2, 201) from HX.out.trans (by unfold bg2; rw [hg]))
        rw [hg] at HN
        clear hg HX hcd
        go_wp2_with fail
        refine HN.out.mono ?_
        rintro e w2 hd
        obtain ⟨rfl, h1, h2⟩ := hd
        replace HM := Lib.hid (HM.out.next HD.out h1 h2)
        clear h1 h2 HN
        have b0 := Oct.Has.at_ HM.out.blk 0
        have f0 := Oct.Has.free HM.out.blk 0
        simp at b0
        replace HM := Lib.hid (HM.out.put0 HD.out g)
        have b1 := Oct.Has.at_ HM.out.blk 0
        simp at b1
        cases hlo : decide (1 ≤ g) with
        | false =>
          have hge : X = .error (r2, 201) := HXV.out.trans (by rw [hlo]; rfl)
          subst hge
          have HF := Lib.hid (demand_no q s r2 _ HM.out.looks)
          go_wp2_with fail
          refine HF.out.mono ?_
          rintro e w9 ⟨rfl, h1, h2⟩
          have HE := Lib.hid (HM.out.bad h1 h2)
          clear h1 h2
          go_wp2
          show _ ∧ _
          exact ⟨rfl, HE.out⟩
        | true =>
          cases hhi : decide (g ≤ 1099511627776) with
          | false =>
            have hge : X = .error (r2, 201) := HXV.out.trans (by rw [hlo, hhi]; rfl)
            subst hge
            have HF := Lib.hid (demand_no q s r2 _ HM.out.looks)
            go_wp2_with fail
            refine HF.out.mono ?_
            rintro e w9 ⟨rfl, h1, h2⟩
            have HE := Lib.hid (HM.out.bad h1 h2)
            clear h1 h2
            go_wp2
            show _ ∧ _
            exact ⟨rfl, HE.out⟩
          | true =>
            have HX := Lib.hid (show X = bg3 size g r2 from HXV.out.trans (by rw [hlo, hhi]; rfl))
            clear HXV
            go_wp2_with fail
            refine (demand_yes _ _).mono ?_
            rintro e w' ⟨rfl, rfl⟩
            clear hlo hhi b0 f0 b1
            obtain ⟨w3, hw3⟩ : ∃ w3, w3 = w2.setCell ⟨bc, 0, none⟩ (.int .i64 g) := ⟨_, rfl⟩
            rw [← hw3] at HM ⊢
            clear hw3
            have HN := Lib.hid (num_got q s 4 r2 HD.out.qs w3 HM.out.looks)
            cases hg : gotNum r2 4 with
            | txt v r3 => exact (gotNum_txt hg).elim
            | bad r3 y =>
              have hge : X = .error (r3, y) := HX.out.trans (by unfold bg3; rw [hg])
              subst hge
              rw [hg] at HN
              clear hg
              go_wp2_with fail
              refine HN.out.mono ?_
              rintro e w9 hd
              obtain ⟨rfl, h1, h2⟩ := hd
              have HE := Lib.hid (HM.out.bad h1 h2)
              clear h1 h2
              go_wp2
              show _ ∧ _
              exact ⟨rfl, HE.out⟩
            | num ro r3 =>
              have HXV := Lib.hid (show X = if (ro == 0 || nameB ro size) = true then bg4 size g ro r3 else .error (r3, 201) from HX.out.trans (by unfold bg3; rw [hg]))
              rw [hg] at HN
              clear hg HX
              go_wp2_with fail
              refine HN.out.mono ?_
              rintro e w4 hd
              obtain ⟨rfl, h1, h2⟩ := hd
              replace HM := Lib.hid (HM.out.next HD.out h1 h2)
              clear h1 h2 HN
              have b0 := Oct.Has.at_ HM.out.blk 1
              have f0 := Oct.Has.free HM.out.blk 1
              simp at b0
              replace HM := Lib.hid (HM.out.put1 HD.out ro)
              have b1 := Oct.Has.at_ HM.out.blk 1
              have b2 := Oct.Has.at_ HM.out.size_ 0
              simp at b1 b2
              obtain ⟨w5, hw5⟩ : ∃ w5, w5 = w4.setCell ⟨bc, 1, none⟩ (.int .i64 ro) := ⟨_, rfl⟩
              have HM5 := Lib.hid (show GMid w q s bc cs size r3 g ro w5 by rw [hw5]; exact HM.out)
              have HW5 := Lib.hid hw5
              clear hw5
              cases hz : (ro == 0) with
              | true =>
                have HX := Lib.hid (show X = bg4 size g ro r3 from HXV.out.trans (by rw [hz]; rfl))
                clear HXV
                go_wp2_with fail
                refine (demand_yes _ _).mono ?_
                rintro e w' ⟨rfl, rfl⟩
                rw [← HW5.out]
                clear b0 f0 b1 b2 HM HW5
                have HN := Lib.hid (num_got q s 4 r3 HD.out.qs w5.drew HM5.out.drew.looks)
                have b2 := Oct.Has.at_ HM5.out.size_ 0
                simp at b2
                go_wp2_with fail
                cases hg : gotNum r3 4 with
                | txt v r4 => exact (gotNum_txt hg).elim
                | bad r4 y =>
                  have hge : X = .error (r4, y) := HX.out.trans (by unfold bg4; rw [hg])
                  subst hge
                  rw [hg] at HN
                  clear hg
                  refine wp_region_held_drew (S := (fun w' => w'.cell? ⟨cs, 0, none⟩ = some (.int .i64 size))) (by kernel_rfl) (b2) (fun hHeld => ?_)
                  refine wpAnyH_read (i := 0) (d := some 36) (v := ?v1) (by rfl) (by rfl) (by kernel_rfl) (by kernel_rfl) (by kernel_rfl) (fun _ _ _ h => h) (by rfl) ?hy1 (by assumption) ?rest1
                  case hy1 =>
                    intro w hSw
                    try dsimp only at hSw
                    go_simp
                    try with_reducible rfl
                  try simp only [Act.put, List.setIfInBounds_toArray, List.set_cons_zero, List.set_cons_succ]
                  refine wpAnyH_read (i := 1) (d := some 37) (v := ?v2) (by rfl) (by rfl) (by kernel_rfl) (by kernel_rfl) (by kernel_rfl) (fun _ _ _ h => h) (by rfl) ?hy2 (by assumption) ?rest2
                  case hy2 =>
                    intro w hSw
                    try dsimp only at hSw
                    go_simp
                    try with_reducible rfl
                  try simp only [Act.put, List.setIfInBounds_toArray, List.set_cons_zero, List.set_cons_succ]
                  refine wpAnyH_read (i := 3) (d := some 39) (v := ?v3) (by rfl) (by rfl) (by kernel_rfl) (by kernel_rfl) (by kernel_rfl) (fun _ _ _ h => h) (by rfl) ?hy3 (by assumption) ?rest3
                  case hy3 =>
                    intro w hSw
                    try dsimp only at hSw
                    go_simp
                    try with_reducible rfl
                  try simp only [Act.put, List.setIfInBounds_toArray, List.set_cons_zero, List.set_cons_succ]
                  refine wpAnyH_ready (rs := [2]) (by kernel_rfl) (by simp) ?_
                  refine AllReadyH.cons rfl (fun K hK => ?_) AllReadyH.nil
                  go_simp
                  refine HN.out.mono ?_
                  rintro e w9 hd
                  obtain ⟨rfl, h1, h2⟩ := hd
                  have HE := Lib.hid (HM5.out.drew.bad h1 h2)
                  clear h1 h2
                  show _ ∧ _
                  exact ⟨rfl, HE.out⟩
                | num sz r4 =>
                  have HXV := Lib.hid (show X = if (sz == size) = true then bg5 g ro r4 else .error (r4, 201) from HX.out.trans (by unfold bg4; rw [hg]))
                  rw [hg] at HN
                  clear hg HX
                  cases hsz : (sz == size) with
                  | false =>
                    have hge : X = .error (r4, 201) := HXV.out.trans (by rw [hsz]; rfl)
                    subst hge
                    refine wp_region_held_drew (S := (fun w' => w'.cell? ⟨cs, 0, none⟩ = some (.int .i64 size))) (by kernel_rfl) (b2) (fun hHeld => ?_)
                    refine wpAnyH_read (i := 0) (d := some 36) (v := ?v4) (by rfl) (by rfl) (by kernel_rfl) (by kernel_rfl) (by kernel_rfl) (fun _ _ _ h => h) (by rfl) ?hy4 (by assumption) ?rest4
                    case hy4 =>
                      intro w hSw
                      try dsimp only at hSw
                      go_simp
                      try with_reducible rfl
                    try simp only [Act.put, List.setIfInBounds_toArray, List.set_cons_zero, List.set_cons_succ]
                    refine wpAnyH_read (i := 1) (d := some 37) (v := ?v5) (by rfl) (by rfl) (by kernel_rfl) (by kernel_rfl) (by kernel_rfl) (fun _ _ _ h => h) (by rfl) ?hy5 (by assumption) ?rest5
                    case hy5 =>
                      intro w hSw
                      try dsimp only at hSw
                      go_simp
                      try with_reducible rfl
                    try simp only [Act.put, List.setIfInBounds_toArray, List.set_cons_zero, List.set_cons_succ]
                    refine wpAnyH_read (i := 3) (d := some 39) (v := ?v6) (by rfl) (by rfl) (by kernel_rfl) (by kernel_rfl) (by kernel_rfl) (fun _ _ _ h => h) (by rfl) ?hy6 (by assumption) ?rest6
                    case hy6 =>
                      intro w hSw
                      try dsimp only at hSw
                      go_simp
                      try with_reducible rfl
                    try simp only [Act.put, List.setIfInBounds_toArray, List.set_cons_zero, List.set_cons_succ]
                    refine wpAnyH_ready (rs := [2]) (by kernel_rfl) (by simp) ?_
                    refine AllReadyH.cons rfl (fun K hK => ?_) AllReadyH.nil
                    go_simp
                    refine HN.out.mono ?_
                    rintro e w6 hd
                    obtain ⟨rfl, h1, h2⟩ := hd
                    have HM6 := Lib.hid (HM5.out.drew.next HD.out h1 h2)
                    have b3 := Oct.Has.at_ HM6.out.size_ 0
                    simp at b3
                    clear h1 h2 HN
                    refine hK.out _ _ (b3) (fun hHeld => ?_)
                    clear hK K
                    try simp only [Act.put, List.setIfInBounds_toArray, List.set_cons_zero, List.set_cons_succ]
                    refine wpAnyH_read (i := 4) (d := some 40) (v := ?v7) (by rfl) (by rfl) (by kernel_rfl) (by kernel_rfl) (by kernel_rfl) (fun _ _ _ h => h) (by rfl) ?hy7 (by assumption) ?rest7
                    case hy7 =>
                      intro w hSw
                      try dsimp only at hSw
                      go_simp
                      try with_reducible rfl
                    try simp only [Act.put, List.setIfInBounds_toArray, List.set_cons_zero, List.set_cons_succ]
                    refine wpAnyH_ready (rs := [5]) (by kernel_rfl) (by simp) ?_
                    refine AllReadyH.cons rfl (fun K hK => ?_) AllReadyH.nil
                    go_simp
                    refine (demand_no q s r4 w6 HM6.out.looks).mono ?_
                    rintro e w9 ⟨rfl, h1, h2⟩
                    have HE := Lib.hid (HM6.out.bad h1 h2)
                    clear h1 h2
                    show _ ∧ _
                    exact ⟨rfl, HE.out⟩
                  | true =>
                    have HX := Lib.hid (show X = bg5 g ro r4 from HXV.out.trans (by rw [hsz]; rfl))
                    clear HXV
                    refine wp_region_held_drew (S := (fun w' => w'.cell? ⟨cs, 0, none⟩ = some (.int .i64 size))) (by kernel_rfl) (b2) (fun hHeld => ?_)
                    refine wpAnyH_read (i := 0) (d := some 36) (v := ?v8) (by rfl) (by rfl) (by kernel_rfl) (by kernel_rfl) (by kernel_rfl) (fun _ _ _ h => h) (by rfl) ?hy8 (by assumption) ?rest8
                    case hy8 =>
                      intro w hSw
                      try dsimp only at hSw
                      go_simp
                      try with_reducible rfl
                    try simp only [Act.put, List.setIfInBounds_toArray, List.set_cons_zero, List.set_cons_succ]
                    refine wpAnyH_read (i := 1) (d := some 37) (v := ?v9) (by rfl) (by rfl) (by kernel_rfl) (by kernel_rfl) (by kernel_rfl) (fun _ _ _ h => h) (by rfl) ?hy9 (by assumption) ?rest9
                    case hy9 =>
                      intro w hSw
                      try dsimp only at hSw
                      go_simp
                      try with_reducible rfl
                    try simp only [Act.put, List.setIfInBounds_toArray, List.set_cons_zero, List.set_cons_succ]
                    refine wpAnyH_read (i := 3) (d := some 39) (v := ?v10) (by rfl) (by rfl) (by kernel_rfl) (by kernel_rfl) (by kernel_rfl) (fun _ _ _ h => h) (by rfl) ?hy10 (by assumption) ?rest10
                    case hy10 =>
                      intro w hSw
                      try dsimp only at hSw
                      go_simp
                      try with_reducible rfl
                    try simp only [Act.put, List.setIfInBounds_toArray, List.set_cons_zero, List.set_cons_succ]
                    refine wpAnyH_ready (rs := [2]) (by kernel_rfl) (by simp) ?_
                    refine AllReadyH.cons rfl (fun K hK => ?_) AllReadyH.nil
                    go_simp
                    refine HN.out.mono ?_
                    rintro e w6 hd
                    obtain ⟨rfl, h1, h2⟩ := hd
                    have HM6 := Lib.hid (HM5.out.drew.next HD.out h1 h2)
                    have b3 := Oct.Has.at_ HM6.out.size_ 0
                    simp at b3
                    clear h1 h2 HN
                    refine hK.out _ _ (b3) (fun hHeld => ?_)
                    clear hK K
                    try simp only [Act.put, List.setIfInBounds_toArray, List.set_cons_zero, List.set_cons_succ]
                    refine wpAnyH_read (i := 4) (d := some 40) (v := ?v11) (by rfl) (by rfl) (by kernel_rfl) (by kernel_rfl) (by kernel_rfl) (fun _ _ _ h => h) (by rfl) ?hy11 (by assumption) ?rest11
                    case hy11 =>
                      intro w hSw
                      try dsimp only at hSw
                      go_simp
                      try with_reducible rfl
                    try simp only [Act.put, List.setIfInBounds_toArray, List.set_cons_zero, List.set_cons_succ]
                    refine wpAnyH_ready (rs := [5]) (by kernel_rfl) (by simp) ?_
                    refine AllReadyH.cons rfl (fun K hK => ?_) AllReadyH.nil
                    go_simp
                    refine (demand_yes _ _).mono ?_
                    rintro e w' ⟨rfl, rfl⟩
                    refine hK.out _ _ (b3) (fun hHeld => ?_)
                    clear hK K
                    try simp only [Act.put, List.setIfInBounds_toArray, List.set_cons_zero, List.set_cons_succ]
                    refine wpAnyH_done (by kernel_rfl) ?_ _
                    clear hHeld b2 b3 hsz
                    have HT := Lib.hid (text_got q s 3900 r4 HD.out.qs w6 HM6.out.looks)
                    cases hg : gotText r4 3900 with
                    | num v r5 => exact (gotText_num hg).elim
                    | bad r5 y =>
                      have hge : X = .error (r5, y) := HX.out.trans (by unfold bg5; rw [hg])
                      subst hge
                      rw [hg] at HT
                      clear hg
                      go_wp2_with fail
                      refine HT.out.mono ?_
                      rintro e w9 hd
                      obtain ⟨rfl, h1, h2⟩ := hd
                      have HE := Lib.hid (HM6.out.bad h1 h2)
                      clear h1 h2
                      go_wp2
                      show _ ∧ _
                      exact ⟨rfl, HE.out⟩
                    | txt tx r5 =>
                      have hge : X = .ok ((g, ro, tx), r5) := HX.out.trans (by unfold bg5; rw [hg])
                      subst hge
                      rw [hg] at HT
                      clear hg
                      go_wp2_with fail
                      refine HT.out.mono ?_
                      rintro e w7 hd
                      obtain ⟨rfl, h1, h2⟩ := hd
                      have HM7 := Lib.hid (HM6.out.next HD.out h1 h2)
                      have i1 := Oct.Has.at_ HM7.out.blk 2
                      have i2 := Oct.Has.free HM7.out.blk 2
                      simp at i1
                      have HE := Lib.hid (show GEnd (.ok ((g, ro, tx), r5)) q s bc w (.returned (.tuple #[])) (w7.setCell ⟨bc, 2, none⟩ (.string tx)) from
                        ⟨rfl, ⟨HM7.out.looks.eye.keep (p := ⟨bc, 2, none⟩) HD.out.bq.symm _, Oct.Has.keep HM7.out.looks.sight (p := ⟨bc, 2, none⟩) HD.out.bs.symm _⟩, Oct.Has.put HM7.out.blk 2 _, HM7.out.chg.setCell (p := ⟨bc, 2, none⟩) (.inl (.inr rfl)) _⟩)
                      clear h1 h2
                      go_wp2
                      go_end0
                      exact HE.out
              | false =>
                go_wp2_with fail
                refine (nameable_any ro size _).mono ?_
                rintro e w' ⟨rfl, rfl⟩
                cases hnm : nameB ro size with
                | false =>
                  have hge : X = .error (r3, 201) := HXV.out.trans (by rw [hz, hnm]; rfl)
                  subst hge
                  have HF := Lib.hid (demand_no q s r3 _ HM.out.looks)
                  go_wp2_with fail
                  refine HF.out.mono ?_
                  rintro e w9 ⟨rfl, h1, h2⟩
                  have HE := Lib.hid (HM.out.bad h1 h2)
                  clear h1 h2
                  go_wp2
                  show _ ∧ _
                  exact ⟨rfl, HE.out⟩
                | true =>
                  have HX := Lib.hid (show X = bg4 size g ro r3 from HXV.out.trans (by rw [hz, hnm]; rfl))
                  clear HXV
                  go_wp2_with fail
                  refine (demand_yes _ _).mono ?_
                  rintro e w' ⟨rfl, rfl⟩
                  rw [← HW5.out]
                  clear b0 f0 b1 b2 HM HW5
                  have HN := Lib.hid (num_got q s 4 r3 HD.out.qs w5.drew HM5.out.drew.looks)
                  have b2 := Oct.Has.at_ HM5.out.size_ 0
                  simp at b2
                  go_wp2_with fail
                  cases hg : gotNum r3 4 with
                  | txt v r4 => exact (gotNum_txt hg).elim
                  | bad r4 y =>
                    have hge : X = .error (r4, y) := HX.out.trans (by unfold bg4; rw [hg])
                    subst hge
                    rw [hg] at HN
                    clear hg
                    refine wp_region_held_drew (S := (fun w' => w'.cell? ⟨cs, 0, none⟩ = some (.int .i64 size))) (by kernel_rfl) (b2) (fun hHeld => ?_)
                    refine wpAnyH_read (i := 0) (d := some 36) (v := ?v12) (by rfl) (by rfl) (by kernel_rfl) (by kernel_rfl) (by kernel_rfl) (fun _ _ _ h => h) (by rfl) ?hy12 (by assumption) ?rest12
                    case hy12 =>
                      intro w hSw
                      try dsimp only at hSw
                      go_simp
                      try with_reducible rfl
                    try simp only [Act.put, List.setIfInBounds_toArray, List.set_cons_zero, List.set_cons_succ]
                    refine wpAnyH_read (i := 1) (d := some 37) (v := ?v13) (by rfl) (by rfl) (by kernel_rfl) (by kernel_rfl) (by kernel_rfl) (fun _ _ _ h => h) (by rfl) ?hy13 (by assumption) ?rest13
                    case hy13 =>
                      intro w hSw
                      try dsimp only at hSw
                      go_simp
                      try with_reducible rfl
                    try simp only [Act.put, List.setIfInBounds_toArray, List.set_cons_zero, List.set_cons_succ]
                    refine wpAnyH_read (i := 3) (d := some 39) (v := ?v14) (by rfl) (by rfl) (by kernel_rfl) (by kernel_rfl) (by kernel_rfl) (fun _ _ _ h => h) (by rfl) ?hy14 (by assumption) ?rest14
                    case hy14 =>
                      intro w hSw
                      try dsimp only at hSw
                      go_simp
                      try with_reducible rfl
                    try simp only [Act.put, List.setIfInBounds_toArray, List.set_cons_zero, List.set_cons_succ]
                    refine wpAnyH_ready (rs := [2]) (by kernel_rfl) (by simp) ?_
                    refine AllReadyH.cons rfl (fun K hK => ?_) AllReadyH.nil
                    go_simp
                    refine HN.out.mono ?_
                    rintro e w9 hd
                    obtain ⟨rfl, h1, h2⟩ := hd
                    have HE := Lib.hid (HM5.out.drew.bad h1 h2)
                    clear h1 h2
                    show _ ∧ _
                    exact ⟨rfl, HE.out⟩
                  | num sz r4 =>
                    have HXV := Lib.hid (show X = if (sz == size) = true then bg5 g ro r4 else .error (r4, 201) from HX.out.trans (by unfold bg4; rw [hg]))
                    rw [hg] at HN
                    clear hg HX
                    cases hsz : (sz == size) with
                    | false =>
                      have hge : X = .error (r4, 201) := HXV.out.trans (by rw [hsz]; rfl)
                      subst hge
                      refine wp_region_held_drew (S := (fun w' => w'.cell? ⟨cs, 0, none⟩ = some (.int .i64 size))) (by kernel_rfl) (b2) (fun hHeld => ?_)
                      refine wpAnyH_read (i := 0) (d := some 36) (v := ?v15) (by rfl) (by rfl) (by kernel_rfl) (by kernel_rfl) (by kernel_rfl) (fun _ _ _ h => h) (by rfl) ?hy15 (by assumption) ?rest15
                      case hy15 =>
                        intro w hSw
                        try dsimp only at hSw
                        go_simp
                        try with_reducible rfl
                      try simp only [Act.put, List.setIfInBounds_toArray, List.set_cons_zero, List.set_cons_succ]
                      refine wpAnyH_read (i := 1) (d := some 37) (v := ?v16) (by rfl) (by rfl) (by kernel_rfl) (by kernel_rfl) (by kernel_rfl) (fun _ _ _ h => h) (by rfl) ?hy16 (by assumption) ?rest16
                      case hy16 =>
                        intro w hSw
                        try dsimp only at hSw
                        go_simp
                        try with_reducible rfl
                      try simp only [Act.put, List.setIfInBounds_toArray, List.set_cons_zero, List.set_cons_succ]
                      refine wpAnyH_read (i := 3) (d := some 39) (v := ?v17) (by rfl) (by rfl) (by kernel_rfl) (by kernel_rfl) (by kernel_rfl) (fun _ _ _ h => h) (by rfl) ?hy17 (by assumption) ?rest17
                      case hy17 =>
                        intro w hSw
                        try dsimp only at hSw
                        go_simp
                        try with_reducible rfl
                      try simp only [Act.put, List.setIfInBounds_toArray, List.set_cons_zero, List.set_cons_succ]
                      refine wpAnyH_ready (rs := [2]) (by kernel_rfl) (by simp) ?_
                      refine AllReadyH.cons rfl (fun K hK => ?_) AllReadyH.nil
                      go_simp
                      refine HN.out.mono ?_
                      rintro e w6 hd
                      obtain ⟨rfl, h1, h2⟩ := hd
                      have HM6 := Lib.hid (HM5.out.drew.next HD.out h1 h2)
                      have b3 := Oct.Has.at_ HM6.out.size_ 0
                      simp at b3
                      clear h1 h2 HN
                      refine hK.out _ _ (b3) (fun hHeld => ?_)
                      clear hK K
                      try simp only [Act.put, List.setIfInBounds_toArray, List.set_cons_zero, List.set_cons_succ]
                      refine wpAnyH_read (i := 4) (d := some 40) (v := ?v18) (by rfl) (by rfl) (by kernel_rfl) (by kernel_rfl) (by kernel_rfl) (fun _ _ _ h => h) (by rfl) ?hy18 (by assumption) ?rest18
                      case hy18 =>
                        intro w hSw
                        try dsimp only at hSw
                        go_simp
                        try with_reducible rfl
                      try simp only [Act.put, List.setIfInBounds_toArray, List.set_cons_zero, List.set_cons_succ]
                      refine wpAnyH_ready (rs := [5]) (by kernel_rfl) (by simp) ?_
                      refine AllReadyH.cons rfl (fun K hK => ?_) AllReadyH.nil
                      go_simp
                      refine (demand_no q s r4 w6 HM6.out.looks).mono ?_
                      rintro e w9 ⟨rfl, h1, h2⟩
                      have HE := Lib.hid (HM6.out.bad h1 h2)
                      clear h1 h2
                      show _ ∧ _
                      exact ⟨rfl, HE.out⟩
                    | true =>
                      have HX := Lib.hid (show X = bg5 g ro r4 from HXV.out.trans (by rw [hsz]; rfl))
                      clear HXV
                      refine wp_region_held_drew (S := (fun w' => w'.cell? ⟨cs, 0, none⟩ = some (.int .i64 size))) (by kernel_rfl) (b2) (fun hHeld => ?_)
                      refine wpAnyH_read (i := 0) (d := some 36) (v := ?v19) (by rfl) (by rfl) (by kernel_rfl) (by kernel_rfl) (by kernel_rfl) (fun _ _ _ h => h) (by rfl) ?hy19 (by assumption) ?rest19
                      case hy19 =>
                        intro w hSw
                        try dsimp only at hSw
                        go_simp
                        try with_reducible rfl
                      try simp only [Act.put, List.setIfInBounds_toArray, List.set_cons_zero, List.set_cons_succ]
                      refine wpAnyH_read (i := 1) (d := some 37) (v := ?v20) (by rfl) (by rfl) (by kernel_rfl) (by kernel_rfl) (by kernel_rfl) (fun _ _ _ h => h) (by rfl) ?hy20 (by assumption) ?rest20
                      case hy20 =>
                        intro w hSw
                        try dsimp only at hSw
                        go_simp
                        try with_reducible rfl
                      try simp only [Act.put, List.setIfInBounds_toArray, List.set_cons_zero, List.set_cons_succ]
                      refine wpAnyH_read (i := 3) (d := some 39) (v := ?v21) (by rfl) (by rfl) (by kernel_rfl) (by kernel_rfl) (by kernel_rfl) (fun _ _ _ h => h) (by rfl) ?hy21 (by assumption) ?rest21
                      case hy21 =>
                        intro w hSw
                        try dsimp only at hSw
                        go_simp
                        try with_reducible rfl
                      try simp only [Act.put, List.setIfInBounds_toArray, List.set_cons_zero, List.set_cons_succ]
                      refine wpAnyH_ready (rs := [2]) (by kernel_rfl) (by simp) ?_
                      refine AllReadyH.cons rfl (fun K hK => ?_) AllReadyH.nil
                      go_simp
                      refine HN.out.mono ?_
                      rintro e w6 hd
                      obtain ⟨rfl, h1, h2⟩ := hd
                      have HM6 := Lib.hid (HM5.out.drew.next HD.out h1 h2)
                      have b3 := Oct.Has.at_ HM6.out.size_ 0
                      simp at b3
                      clear h1 h2 HN
                      refine hK.out _ _ (b3) (fun hHeld => ?_)
                      clear hK K
                      try simp only [Act.put, List.setIfInBounds_toArray, List.set_cons_zero, List.set_cons_succ]
                      refine wpAnyH_read (i := 4) (d := some 40) (v := ?v22) (by rfl) (by rfl) (by kernel_rfl) (by kernel_rfl) (by kernel_rfl) (fun _ _ _ h => h) (by rfl) ?hy22 (by assumption) ?rest22
                      case hy22 =>
                        intro w hSw
                        try dsimp only at hSw
                        go_simp
                        try with_reducible rfl
                      try simp only [Act.put, List.setIfInBounds_toArray, List.set_cons_zero, List.set_cons_succ]
                      refine wpAnyH_ready (rs := [5]) (by kernel_rfl) (by simp) ?_
                      refine AllReadyH.cons rfl (fun K hK => ?_) AllReadyH.nil
                      go_simp
                      refine (demand_yes _ _).mono ?_
                      rintro e w' ⟨rfl, rfl⟩
                      refine hK.out _ _ (b3) (fun hHeld => ?_)
                      clear hK K
                      try simp only [Act.put, List.setIfInBounds_toArray, List.set_cons_zero, List.set_cons_succ]
                      refine wpAnyH_done (by kernel_rfl) ?_ _
                      clear hHeld b2 b3 hsz
                      have HT := Lib.hid (text_got q s 3900 r4 HD.out.qs w6 HM6.out.looks)
                      cases hg : gotText r4 3900 with
                      | num v r5 => exact (gotText_num hg).elim
                      | bad r5 y =>
                        have hge : X = .error (r5, y) := HX.out.trans (by unfold bg5; rw [hg])
                        subst hge
                        rw [hg] at HT
                        clear hg
                        go_wp2_with fail
                        refine HT.out.mono ?_
                        rintro e w9 hd
                        obtain ⟨rfl, h1, h2⟩ := hd
                        have HE := Lib.hid (HM6.out.bad h1 h2)
                        clear h1 h2
                        go_wp2
                        show _ ∧ _
                        exact ⟨rfl, HE.out⟩
                      | txt tx r5 =>
                        have hge : X = .ok ((g, ro, tx), r5) := HX.out.trans (by unfold bg5; rw [hg])
                        subst hge
                        rw [hg] at HT
                        clear hg
                        go_wp2_with fail
                        refine HT.out.mono ?_
                        rintro e w7 hd
                        obtain ⟨rfl, h1, h2⟩ := hd
                        have HM7 := Lib.hid (HM6.out.next HD.out h1 h2)
                        have i1 := Oct.Has.at_ HM7.out.blk 2
                        have i2 := Oct.Has.free HM7.out.blk 2
                        simp at i1
                        have HE := Lib.hid (show GEnd (.ok ((g, ro, tx), r5)) q s bc w (.returned (.tuple #[])) (w7.setCell ⟨bc, 2, none⟩ (.string tx)) from
                          ⟨rfl, ⟨HM7.out.looks.eye.keep (p := ⟨bc, 2, none⟩) HD.out.bq.symm _, Oct.Has.keep HM7.out.looks.sight (p := ⟨bc, 2, none⟩) HD.out.bs.symm _⟩, Oct.Has.put HM7.out.blk 2 _, HM7.out.chg.setCell (p := ⟨bc, 2, none⟩) (.inl (.inr rfl)) _⟩)
                        clear h1 h2
                        go_wp2
                        go_end0
                        exact HE.out
end Go.Proofs.YthejlenafjnmkaaGreat.Sto
/- Read and look, whatever a look comes to: contracts. -/
namespace Go.Proofs.YthejlenafjnmkaaGreat.Oct
open Go.RowKit
/-- What a look comes to: an answer and what is left, or what was left when it was ended, and why. -/
abbrev Par (α : Type) := Except (ByteArray × Int) (α × ByteArray)
def PEnd {α : Type} (X : Par α) (q s : Nat) (Y : Nat → Prop) (G : α → World → Prop) (w : World) (e : Ending) (w' : World) : Prop :=
  match X with
  | .ok (a, r) => e = .returned (.tuple #[]) ∧ Looks w' q s r ∧ G a w' ∧ Chg (fun k => k = s ∨ Y k) w w'
  | .error (r, y) => e = .panicked (own s) ∧ Sight w' s r true y ∧ Chg (fun k => k = s ∨ Y k) w w'
def endP {α : Type} : Par α → Int
  | .ok (_, r) => why r false 0
  | .error (_, y) => y
/-- What Read of a look leaves. -/
def PDone {α : Type} (X : Par α) (G : α → World → Prop) (w : World) (w' : World) : Prop :=
  match X with
  | .ok (a, _) => ∃ w1, G a w1 ∧ Chg (fun k => k = w.heap.size + 1 ∨ k = w.heap.size) w1 w'
  | .error _ => True
theorem read_par {α : Type} (X : Par α) (A : Option Addr) (n cap : Nat) (l : List UInt8) (f : FuncId) (cp : Array Value) (w : World) (h : RowB w A n l)
    (henter : ∀ (args : Array Value) (W : World), (callFunc f args).run Tryz.prog W = .ok (.enter f args) W) (Y : Nat → Prop) (hY : ∀ k, Y k → k < w.heap.size) (G : α → World → Prop)
    (hlook : Calls Tryz.prog f (#[.pointer (some ⟨w.heap.size + 3, 0, none⟩)] ++ cp) (lookW w l) (PEnd X (w.heap.size + 3) (w.heap.size + 1) Y G (lookW w l))) :
    Calls Tryz.prog 122 #[.slice A n cap, .func (.func f) #[] cp] w fun e w' => e = .returned (.int .i64 (endP X)) ∧ PDone X G w w' ∧ Chg Y w w' := by
  have y0 : ¬ Y w.heap.size := fun h => Nat.lt_irrefl _ (hY _ h)
  have y2 : ¬ Y (w.heap.size + 2) := fun h => by have := hY _ h; omega
  have hz := lookW_size w l
  have fin : ∀ w1 w', Chg (fun k => k = w.heap.size + 1 ∨ Y k) (lookW w l) w1 → Chg (fun k => k = w.heap.size + 1 ∨ k = w.heap.size) w1 w' → Chg Y w w' := fun w1 w' h1 h2 =>
    ((Chg.of_below (lookW_below w l) Y).step h1 (fun i hi hT => by
      rcases hT with e | e
      · omega
      · exact e)).step h2 (fun i hi hT => by omega)
  cases X with
  | ok a =>
    obtain ⟨a, r0⟩ := a
    refine (read_look A n cap l f cp w h henter Y y0 y2 (fun r b y w1 => r = r0 ∧ b = false ∧ y = 0 ∧ G a w1) ?_).mono ?_
    · refine hlook.mono ?_
      intro e w1 hd
      exact ⟨hd.1, r0, false, 0, hd.2.1.sight, hd.2.2.2, rfl, rfl, rfl, hd.2.2.1⟩
    · rintro e w' ⟨r, b, y, w1, ⟨rfl, rfl, rfl, hG⟩, rfl, h1, h2⟩
      exact ⟨rfl, ⟨w1, hG, h2⟩, fin w1 w' h1 h2⟩
  | error a =>
    obtain ⟨r0, y0'⟩ := a
    refine (read_throws A n cap l f cp w h henter Y y0 y2 (fun r y w1 => y = y0') ?_).mono ?_
    · refine hlook.mono ?_
      intro e w1 hd
      exact ⟨hd.1, r0, y0', hd.2.1, hd.2.2, rfl⟩
    · rintro e w' ⟨r, y, w1, rfl, rfl, h1, h2⟩
      exact ⟨rfl, trivial, fin w1 w' h1 h2⟩
end Go.Proofs.YthejlenafjnmkaaGreat.Oct
namespace Go.Proofs.YthejlenafjnmkaaGreat.Sto
open Go.RowKit Go.Proofs.YthejlenafjnmkaaGreat.Oct
open Rws

theorem bw_below (w : World) (s : ByteArray) : Below w.heap.size w (Lib.bytesWorld w 5 s) := by
  refine ⟨rfl, rfl, rfl, ?_, fun i hi => Lib.bytesWorld_at_old w 5 s i hi⟩
  simp [Lib.bytesWorld, World.freeze]
theorem bw_row (w : World) (s : ByteArray) : RowB (Lib.bytesWorld w 5 s) (some ⟨w.heap.size, 0, none⟩) s.size s.data.toList := by
  refine ⟨by simp, fun h => ⟨w.heap.size, 0, rfl, ?_, fun i hi => ?_⟩⟩
  · simp [Lib.bytesWorld, World.freeze]
  · have hi2 : i < s.size := by simpa using hi
    rw [Nat.zero_add, Lib.bytesWorld_cell w 5 s i hi2]
    simp [List.getD, List.getElem?_eq_getElem hi]
theorem conv_SB (w : World) (s : ByteArray) : (convert 9 124 (.string s)).run Tryz.prog w = .ok (.slice (some ⟨w.heap.size, 0, none⟩) s.size (grownCap w s.size 0 5)) (Lib.bytesWorld w 5 s) :=
  Lib.run_convert_string_bytes w 9 124 5 s Tryz.underlying9 Tryz.underlying124 Tryz.underlying5
/-- Whether sealed bytes are looked at to their end. -/
def lookB {α : Type} (bytes : ByteArray) (X : Par α) : Bool := decide (8 ≤ bytes.size) && CrcW.openB bytes && (endP X == 0)
/-- What a look leaves that came to its end. -/
def LDone {α : Type} (X : Par α) (G : Nat → α → World → Prop) (B : Nat) (w' : World) : Prop :=
  match X with
  | .ok (a, _) => ∃ w1 b, B ≤ b ∧ G b a w1 ∧ Chg (fun k => B ≤ k ∧ k < b) w1 w'
  | .error _ => False
set_option maxRecDepth 100000 in
set_option maxHeartbeats 1000000 in
theorem look_par {α : Type} (X : Par α) (hX : ∀ r y, X = .error (r, y) → y ≠ 0) (bytes : ByteArray) (hs : bytes.size ≤ 4104) (f : FuncId) (cp : Array Value) (w : World)
    (henter : ∀ (args : Array Value) (W : World), (callFunc f args).run Tryz.prog W = .ok (.enter f args) W) (Y : Nat → Prop) (hY : ∀ k, Y k → k < w.heap.size) (G : Nat → α → World → Prop)
    (hlook : ∀ W, Below w.heap.size w W → Calls Tryz.prog f (#[.pointer (some ⟨W.heap.size + 3, 0, none⟩)] ++ cp) (lookW W (CrcW.headB bytes).data.toList) (PEnd X (W.heap.size + 3) (W.heap.size + 1) Y (G (W.heap.size + 4)) (lookW W (CrcW.headB bytes).data.toList))) :
    Calls Tryz.prog 104 #[.string bytes, .func (.func f) #[] cp] w fun e w' => e = .returned (.bool (lookB bytes X)) ∧ (lookB bytes X = true → LDone X G w.heap.size w') ∧ Chg Y w w' := by
  have HL := Lib.hid hlook
  have HY := Lib.hid hY
  have HE := Lib.hid henter
  have HX := Lib.hid hX
  clear hlook hY henter hX
  by_cases h8 : 8 ≤ bytes.size
  · cases ho : CrcW.openB bytes with
    | false =>
      have hl : lookB bytes X = false := by unfold lookB; rw [ho]; simp
      have HO := Lib.hid (CrcW.open_long bytes h8 hs w)
      rw [ho] at HO
      rw [hl]
      clear ho hl h8 hs
      go_enter Tryz.func104, Tryz.ntmps104
      go_wp2_with fail
      refine HO.out.mono ?_
      rintro e w1 ⟨rfl, hb⟩
      have HB := Lib.hid hb
      clear hb
      go_wp2
      go_ret
      exact ⟨rfl, (fun h => by cases h), Chg.of_below HB.out Y⟩
    | true =>
      have hl : lookB bytes X = (endP X == 0) := by unfold lookB; rw [ho, decide_eq_true h8]; rfl
      have HO := Lib.hid (CrcW.open_long bytes h8 hs w)
      rw [ho] at HO
      rw [hl]
      have HLL := Lib.hid hl
      clear ho hl h8 hs
      go_enter Tryz.func104, Tryz.ntmps104
      go_wp2_with fail
      refine HO.out.mono ?_
      rintro e w1 ⟨rfl, hb⟩
      have HB := Lib.hid hb
      have kc := conv_SB w1 (CrcW.headB bytes)
      have HB2 := Lib.hid (hb.trans ((bw_below w1 (CrcW.headB bytes)).mono hb.size))
      obtain ⟨W, hW⟩ : ∃ W, W = Lib.bytesWorld w1 5 (CrcW.headB bytes) := ⟨_, rfl⟩
      have hrow := bw_row w1 (CrcW.headB bytes)
      rw [← hW] at kc HB2 hrow
      have HR := Lib.hid (read_par X (some ⟨w1.heap.size, 0, none⟩) (CrcW.headB bytes).size (grownCap w1 (CrcW.headB bytes).size 0 5) _ f cp W hrow HE.out Y (fun k hk => Nat.lt_of_lt_of_le (HY.out k hk) HB2.out.size) (G (W.heap.size + 4)) (HL.out W HB2.out))
      have HSZ := HB2.out.size
      clear hb hW hrow
      go_wp2_with fail
      refine HR.out.mono ?_
      rintro e w2 ⟨rfl, hd, hc⟩
      have HP := Lib.hid (show (endP X == 0) = true → LDone X G w.heap.size w2 from fun he => by
        cases X with
        | ok a =>
          obtain ⟨a, r0⟩ := a
          obtain ⟨w3, g1, g2⟩ := hd
          exact ⟨w3, W.heap.size + 4, by omega, g1, g2.mono fun k hk => by omega⟩
        | error a =>
          obtain ⟨r0, y0⟩ := a
          exact HX.out r0 y0 rfl (eq_of_beq he))
      have HC := Lib.hid ((Chg.of_below HB2.out Y).step hc (fun _ _ h => h))
      clear hd hc kc HR
      go_wp2
      go_ret
      exact ⟨rfl, HP.out, HC.out⟩
  · have hl : lookB bytes X = false := by unfold lookB; rw [decide_eq_false h8]; rfl
    have HO := Lib.hid (CrcW.open_short bytes (by omega) w)
    rw [hl]
    clear hl h8 hs
    go_enter Tryz.func104, Tryz.ntmps104
    go_wp2_with fail
    refine HO.out.mono ?_
    rintro e w1 ⟨rfl, rfl⟩
    go_wp2
    go_ret
    exact ⟨rfl, (fun h => by cases h), Chg.refl _ _⟩
end Go.Proofs.YthejlenafjnmkaaGreat.Sto
