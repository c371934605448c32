/- Changes of bytes: the program's Get. -/
import Derived.Test.YtepnckglnciinaaSmF
import Derived.Lib.ConvBytes
namespace Go.Proofs.Ytepnckglnciinaa.Sm
open Go.RowKit Go.Proofs.Ytepnckglnciinaa.Oct
set_option linter.unusedVariables false

/-- What a look comes to: an answer and what is left, or what was left when it was ended, and why. -/
abbrev Par (α : Type) := Except (ByteArray × Int) (α × ByteArray)
def PEnd {α : Type} (X : Par α) (q s : Nat) (Y : Nat → Prop) (G : α → World → Prop) (w : World) (e : Ending) (w' : World) : Prop :=
  match X with
  | .ok (a, r) => e = .returned (.tuple #[]) ∧ Looks w' q s r ∧ G a w' ∧ Chg (fun k => k = s ∨ Y k) w w'
  | .error (r, y) => e = .panicked (own s) ∧ Sight w' s r true y ∧ Chg (fun k => k = s ∨ Y k) w w'
def endP {α : Type} : Par α → Int
  | .ok (_, r) => why r false 0
  | .error (_, y) => y
/-- What Read of a look leaves. -/
def PDone {α : Type} (X : Par α) (G : α → World → Prop) (w : World) (w' : World) : Prop :=
  match X with
  | .ok (a, _) => ∃ w1, G a w1 ∧ Chg (fun k => k = w.heap.size + 1 ∨ k = w.heap.size) w1 w'
  | .error _ => True
theorem read_par {α : Type} (X : Par α) (A : Option Addr) (n cap : Nat) (l : List UInt8) (f : FuncId) (cp : Array Value) (w : World) (h : RowB w A n l)
    (henter : ∀ (args : Array Value) (W : World), (callFunc f args).run Try.prog W = .ok (.enter f args) W) (Y : Nat → Prop) (hY : ∀ k, Y k → k < w.heap.size) (G : α → World → Prop)
    (hlook : Calls Try.prog f (#[.pointer (some ⟨w.heap.size + 3, 0, none⟩)] ++ cp) (lookW w l) (PEnd X (w.heap.size + 3) (w.heap.size + 1) Y G (lookW w l))) :
    Calls Try.prog 51 #[.slice A n cap, .func (.func f) #[] cp] w fun e w' => e = .returned (.int .i64 (endP X)) ∧ PDone X G w w' ∧ Chg Y w w' := by
  have y0 : ¬ Y w.heap.size := fun h => Nat.lt_irrefl _ (hY _ h)
  have y2 : ¬ Y (w.heap.size + 2) := fun h => by have := hY _ h; omega
  have hz := lookW_size w l
  have fin : ∀ w1 w', Chg (fun k => k = w.heap.size + 1 ∨ Y k) (lookW w l) w1 → Chg (fun k => k = w.heap.size + 1 ∨ k = w.heap.size) w1 w' → Chg Y w w' := fun w1 w' h1 h2 =>
    ((Chg.of_below (lookW_below w l) Y).step h1 (fun i hi hT => by
      rcases hT with e | e
      · omega
      · exact e)).step h2 (fun i hi hT => by omega)
  cases X with
  | ok a =>
    obtain ⟨a, r0⟩ := a
    refine (read_look A n cap l f cp w h henter Y y0 y2 (fun r b y w1 => r = r0 ∧ b = false ∧ y = 0 ∧ G a w1) ?_).mono ?_
    · refine hlook.mono ?_
      intro e w1 hd
      exact ⟨hd.1, r0, false, 0, hd.2.1.sight, hd.2.2.2, rfl, rfl, rfl, hd.2.2.1⟩
    · rintro e w' ⟨r, b, y, w1, ⟨rfl, rfl, rfl, hG⟩, rfl, h1, h2⟩
      exact ⟨rfl, ⟨w1, hG, h2⟩, fin w1 w' h1 h2⟩
  | error a =>
    obtain ⟨r0, y0'⟩ := a
    refine (read_throws A n cap l f cp w h henter Y y0 y2 (fun r y w1 => y = y0') ?_).mono ?_
    · refine hlook.mono ?_
      intro e w1 hd
      exact ⟨hd.1, r0, y0', hd.2.1, hd.2.2, rfl⟩
    · rintro e w' ⟨r, y, w1, rfl, rfl, h1, h2⟩
      exact ⟨rfl, trivial, fin w1 w' h1 h2⟩
theorem bw_below (w : World) (s : ByteArray) : Below w.heap.size w (Lib.bytesWorld w 5 s) := by
  refine ⟨rfl, rfl, rfl, ?_, fun i hi => Lib.bytesWorld_at_old w 5 s i hi⟩
  simp [Lib.bytesWorld, World.freeze]
theorem bw_row (w : World) (s : ByteArray) : RowB (Lib.bytesWorld w 5 s) (some ⟨w.heap.size, 0, none⟩) s.size s.data.toList := by
  refine ⟨by simp, fun h => ⟨w.heap.size, 0, rfl, ?_, fun i hi => ?_⟩⟩
  · simp [Lib.bytesWorld, World.freeze]
  · have hi2 : i < s.size := by simpa using hi
    rw [Nat.zero_add, Lib.bytesWorld_cell w 5 s i hi2]
    simp [List.getD, List.getElem?_eq_getElem hi]
theorem conv_SB (w : World) (s : ByteArray) : (convert 9 69 (.string s)).run Try.prog w = .ok (.slice (some ⟨w.heap.size, 0, none⟩) s.size (grownCap w s.size 0 5)) (Lib.bytesWorld w 5 s) :=
  Lib.run_convert_string_bytes w 9 69 5 s Try.underlying9 Try.underlying69 Try.underlying5
theorem back_bytes (r : ByteArray) : (⟨r.data.toList.toArray⟩ : ByteArray) = r := by simp
theorem num_why {r : ByteArray} {k : Int} {q : ByteArray} {y : Int} (h : gotNum r k = .bad q y) : y ≠ 0 := by
  unfold gotNum at h
  repeat' split at h
  all_goals simp at h
  all_goals omega
theorem text_why {r : ByteArray} {k : Int} {q : ByteArray} {y : Int} (h : gotText r k = .bad q y) : y ≠ 0 := by
  unfold gotText at h
  repeat' split at h
  all_goals simp at h
  all_goals omega
theorem COwn.low {w : World} {B C : Nat} {v : Value} {cs : List ChgP} (h : COwn w B v cs) (hc : C ≤ B) : COwn w C v cs := by
  refine ⟨h.1, ?_⟩
  rcases h.2 with e | ⟨g, cap, cur, e, hg, r⟩
  · exact .inl e
  · exact .inr ⟨g, cap, cur, e, Nat.le_trans hc hg, r⟩
theorem flat_at {α : Type} {f : α → List Value} {k : Nat} (hk : ∀ x, (f x).length = k) : ∀ (l : List α) (i j : Nat) (x : α), l[i]? = some x → j < k → (l.flatMap f)[i * k + j]? = (f x)[j]?
  | [], i, j, x, h, _ => by simp at h
  | y :: r, 0, j, x, h, hj => by
    simp at h
    subst h
    rw [List.flatMap_cons, Nat.zero_mul, Nat.zero_add, List.getElem?_append_left (by rw [hk]; exact hj)]
  | y :: r, i + 1, j, x, h, hj => by
    have h2 : r[i]? = some x := by simpa using h
    rw [List.flatMap_cons, List.getElem?_append_right (by rw [hk, Nat.succ_mul]; omega), hk]
    have e : (i + 1) * k + j - k = i * k + j := by rw [Nat.succ_mul]; omega
    rw [e]
    exact flat_at hk r i j x h2 hj
theorem COwn.row {w : World} {B : Nat} {v : Value} {cs : List ChgP} (h : COwn w B v cs) : ∃ A c, v = .slice A cs.length c ∧ CRow w A cs.length cs := by
  rcases h.2 with ⟨e, e0⟩ | ⟨g, cap, cur, e, hg, hh, hn, hm, hs, ht⟩
  · refine ⟨none, 0, by rw [e, e0], rfl, fun i c hc => ?_⟩
    have : i < cs.length := (List.getElem?_eq_some_iff.1 hc).1
    omega
  · refine ⟨some ⟨g, 0, none⟩, cap, e, rfl, fun i c hc => ⟨g, 0, rfl, (Array.getElem?_eq_some_iff.1 hh).1, fun j u hu => ?_⟩⟩
    have hj : j < 3 := by have := (List.getElem?_eq_some_iff.1 hu).1; exact this
    have hf := flat_at chL_len cs i j c hc hj
    have hcell := World.ownsRow.cells h (g := g) (by rw [e]; rfl) (i * 3 + j) u (hf.trans hu)
    have ha : (⟨g, 0, none⟩ : Addr).add (i * 3 + j) = ⟨g, 0 + i * 3 + j, none⟩ := by
      rw [Nat.zero_add]
      unfold Addr.add
      split
      · next h => rw [h]
      · simp
    rw [ha] at hcell
    exact hcell
theorem loop_len : ∀ (k : Nat) (r : ByteArray) (acc cs : List ChgP) (q : ByteArray), loopP k r acc = .ok (cs, q) → cs.length + q.size ≤ acc.length + r.size
  | 0, r, acc, cs, q, h => by
    unfold loopP at h
    injection h with h
    injection h with h1 h2
    subst h1; subst h2
    exact Nat.le_refl _
  | k + 1, r, acc, cs, q, h => by
    unfold loopP at h
    cases hg : gotNum r 1 with
    | txt t r1 => rw [hg] at h; cases h
    | bad r1 y => rw [hg] at h; cases h
    | num v r1 =>
      rw [hg] at h
      have l1 := got_less1 hg
      dsimp only at h
      split at h
      · cases h
      · cases hg2 : gotText r1 64 with
        | num t r2 => rw [hg2] at h; cases h
        | bad r2 y => rw [hg2] at h; cases h
        | txt key r2 =>
          rw [hg2] at h
          have l2 := got_lessT hg2
          dsimp only at h
          cases hg3 : gotText r2 300 with
          | num t r3 => rw [hg3] at h; cases h
          | bad r3 y => rw [hg3] at h; cases h
          | txt val r3 =>
            rw [hg3] at h
            have l3 := got_lessT hg3
            have := loop_len k r3 _ cs q h
            rw [List.length_append] at this
            simp at this
            omega
theorem loop_why : ∀ (k : Nat) (r : ByteArray) (acc : List ChgP) (q : ByteArray) (y : Int), loopP k r acc = .error (q, y) → y ≠ 0
  | 0, r, acc, q, y, h => by unfold loopP at h; cases h
  | k + 1, r, acc, q, y, h => by
    unfold loopP at h
    cases hg : gotNum r 1 with
    | txt t r1 => exact (gotNum_txt hg).elim
    | bad r1 y1 =>
      rw [hg] at h
      injection h with h
      injection h with h1 h2
      subst h2
      exact num_why hg
    | num v r1 =>
      rw [hg] at h
      dsimp only at h
      split at h
      · injection h with h
        injection h with h1 h2
        subst h2
        decide
      · cases hg2 : gotText r1 64 with
        | num t r2 => exact (gotText_num hg2).elim
        | bad r2 y1 =>
          rw [hg2] at h
          injection h with h
          injection h with h1 h2
          subst h2
          exact text_why hg2
        | txt key r2 =>
          rw [hg2] at h
          dsimp only at h
          cases hg3 : gotText r2 300 with
          | num t r3 => exact (gotText_num hg3).elim
          | bad r3 y1 =>
            rw [hg3] at h
            injection h with h
            injection h with h1 h2
            subst h2
            exact text_why hg3
          | txt val r3 =>
            rw [hg3] at h
            exact loop_why k r3 _ q y h
theorem get_len {r q : ByteArray} {cs : List ChgP} (h : getP r = .ok (cs, q)) : cs.length ≤ r.size := by
  unfold getP at h
  cases hg : gotNum r 4 with
  | txt t r1 => rw [hg] at h; cases h
  | bad r1 y => rw [hg] at h; cases h
  | num v r1 =>
    rw [hg] at h
    have l1 := got_less4 hg
    have := loop_len _ r1 _ cs q h
    simp at this
    omega
theorem get_why {r q : ByteArray} {y : Int} (h : getP r = .error (q, y)) : y ≠ 0 := by
  unfold getP at h
  cases hg : gotNum r 4 with
  | txt t r1 => exact (gotNum_txt hg).elim
  | bad r1 y1 =>
    rw [hg] at h
    injection h with h
    injection h with h1 h2
    subst h2
    exact num_why hg
  | num v r1 =>
    rw [hg] at h
    exact loop_why _ r1 _ q y h
/-- What Get comes to. -/
def GetsTo (s : ByteArray) : Option (List ChgP) → Prop
  | some cs => ∃ r, getP s = .ok (cs, r) ∧ r.toList.isEmpty = true ∧ SortP ⟨#[]⟩ cs
  | none => ∀ cs r, getP s = .ok (cs, r) → r.toList.isEmpty = true → ¬ SortP ⟨#[]⟩ cs
def GetOut (o : Option (List ChgP)) (B : Nat) (e : Ending) (w' : World) : Prop :=
  match o with
  | some cs => ∃ v, e = .returned (.tuple #[v, .int .i64 0]) ∧ COwn w' B v cs
  | none => e = .returned (.tuple #[.slice none 0 0, .int .i64 201])
def GetIs (s : ByteArray) (w : World) (e : Ending) (w' : World) : Prop := (∃ o, GetsTo s o ∧ GetOut o w.heap.size e w') ∧ Below w.heap.size w w'
theorem enter_get (args : Array Value) (W : World) : (callFunc 52 args).run Try.prog W = .ok (.enter 52 args) W := by kernel_rfl
set_option maxRecDepth 100000 in
set_option maxHeartbeats 4000000 in
theorem dget_any (s : ByteArray) (hs : s.size ≤ 1000000) (w : World) : Calls Try.prog 40 #[.string s] w (GetIs s w) := by
  obtain ⟨w0, hw0⟩ : ∃ w0, w0 = w.alloc (.cells #[.slice none 0 0] 22) := ⟨_, rfl⟩
  obtain ⟨bc, hbc⟩ : ∃ bc, bc = w.heap.size := ⟨_, rfl⟩
  have hb0 : Has w0 bc 22 #[.slice none 0 0] := by rw [hw0, hbc]; exact Has.fresh w _ _
  have hbl0 : Below w.heap.size w w0 := by rw [hw0]; exact (Below.refl _ w).alloc (Nat.le_refl _) _
  have kc := conv_SB w0 s
  obtain ⟨W, hW⟩ : ∃ W, W = Lib.bytesWorld w0 5 s := ⟨_, rfl⟩
  have hblW : Below w0.heap.size w0 W := by rw [hW]; exact bw_below w0 s
  have hrow := bw_row w0 s
  rw [← hW] at kc hrow
  have hbW : Has W bc 22 #[.slice none 0 0] := hbelow hb0 hblW
  have hbcW := hbW.bound
  obtain ⟨X, hX⟩ : ∃ X, getP s = X := ⟨_, rfl⟩
  have hL : Looks (lookW W s.data.toList) (W.heap.size + 3) (W.heap.size + 1) s := by
    have k1 := lookW_sight W s.data.toList
    rw [back_bytes] at k1
    exact ⟨lookW_eye W _, k1⟩
  have hbL : Has (lookW W s.data.toList) bc 22 #[.slice none 0 0] := hbelow hbW (lookW_below W _)
  have hsz := lookW_size W s.data.toList
  have hread := (read_par X (some ⟨w0.heap.size, 0, none⟩) s.size (grownCap w0 s.size 0 5) _ 52 #[.pointer (some ⟨bc, 0, none⟩)] W hrow enter_get (· = bc) (fun k hk => by omega)
    (fun cs w1 => ∃ v, Has w1 bc 22 #[v] ∧ COwn w1 (W.heap.size + 4) v cs) ((get_look (W.heap.size + 3) (W.heap.size + 1) bc s (by omega) (by omega) (by omega) hs _ hL hbL X hX).mono fun e w1 hd => by
      cases X with
      | ok a =>
        obtain ⟨cs, r⟩ := a
        obtain ⟨d1, d2, ⟨v, d3, d4⟩, d5⟩ := hd
        exact ⟨d1, d2, ⟨v, d3, by rw [hsz] at d4; exact d4⟩, d5⟩
      | error a =>
        obtain ⟨r, y⟩ := a
        exact hd))
  have HBW := Lib.hid (show Below w.heap.size w W from hbl0.trans (hblW.mono hbl0.size))
  have HXX := Lib.hid hX
  have HBCW := Lib.hid hbcW
  have HRS := Lib.hid hs
  subst hw0
  subst hbc
  rw [World.size_alloc] at kc hread
  have HREAD := Lib.hid hread
  clear hb0 hbl0 hW hblW hrow hbW hbcW hL hbL hsz hX hs hread
  go_enter Try.func40, Try.ntmps40
  go_wp2_with fail
  refine HREAD.out.mono ?_
  rintro e w2 ⟨rfl, hd, hc⟩
  have hb2 : Below w.heap.size w w2 := HBW.out.trans (hc.below HBW.out.size (fun k hk e => by omega))
  cases X with
  | error a =>
    obtain ⟨r, y⟩ := a
    have HO := Lib.hid (show GetsTo s none from fun cs r h => by rw [HXX.out] at h; cases h)
    have e1 : (y == 0) = false := beq_eq_false_iff_ne.2 (get_why HXX.out)
    have e3 : ¬ y = 0 := get_why HXX.out
    have e2 : endP (α := List ChgP) (.error (r, y)) = y := rfl
    rw [e2]
    have HB2 := Lib.hid hb2
    clear hb2 hc hd e2
    go_wp2
    exact bodyPost_ret (v := .tuple #[.slice none 0 0, .int .i64 201]) (by simp [results, Try.results40, go_sem]) rfl ⟨⟨none, HO.out, rfl⟩, HB2.out⟩
  | ok a =>
    obtain ⟨cs, r⟩ := a
    obtain ⟨w3, ⟨v, g1, g2⟩, g3⟩ := hd
    have hv2 : Has w2 w.heap.size 22 #[v] := g1.over g3 (by have := HBCW.out; omega)
    have ho2 : COwn w2 w.heap.size v cs := (g2.chg g3 (fun k hk e => by have := (World.ownsRow.lt g2 k hk).1; omega)).low (by have := HBCW.out; omega)
    have HO2 := Lib.hid ho2
    obtain ⟨Av, cv, rfl, hrow⟩ := ho2.row
    have HRW := Lib.hid hrow
    have HB2 := Lib.hid hb2
    have HLN := Lib.hid (get_len HXX.out)
    have c0 : w2.cell? ⟨w.heap.size, 0, none⟩ = some (.slice Av cs.length cv) := hv2.at_ 0
    have hvb := hv2.bound
    have HV2 := Lib.hid hv2
    clear hb2 hc g1 g2 g3 hv2 ho2 hrow
    cases hr : r.toList.isEmpty with
    | false =>
      have HO := Lib.hid (show GetsTo s none from fun cs' r' h h2 => by rw [HXX.out] at h; injection h with h; injection h with h1 h3; subst h3; rw [hr] at h2; cases h2)
      have e2 : endP (α := List ChgP) (.ok (cs, r)) = 201 := by show why r false 0 = 201; unfold why; rw [hr]; rfl
      rw [e2]
      clear e2 hr
      go_wp2
      exact bodyPost_ret (v := .tuple #[.slice none 0 0, .int .i64 201]) (by simp [results, Try.results40, go_sem]) rfl ⟨⟨none, HO.out, rfl⟩, HB2.out⟩
    | true =>
      have HE := Lib.hid hr
      have e2 : endP (α := List ChgP) (.ok (cs, r)) = 0 := by show why r false 0 = 0; unfold why; rw [hr]; rfl
      rw [e2]
      clear e2 hr
      go_wp2_with fail
      refine (sorted_any Av cs.length cv cs w2 HRW.out (by have := HLN.out; have := HRS.out; omega)).mono ?_
      rintro e w4 ⟨⟨b, rfl, hb⟩, hb4⟩
      have HB4 := Lib.hid (HB2.out.trans (hb4.mono HB2.out.size))
      have c4 : w4.cell? ⟨w.heap.size, 0, none⟩ = some (.slice Av cs.length cv) := (hbelow HV2.out hb4).at_ 0
      have HO4 := Lib.hid (show COwn w4 w.heap.size (.slice Av cs.length cv) cs from HO2.out.chg (Chg.of_below hb4 (fun _ => False)) (fun _ _ k => k))
      have HBB := Lib.hid hb
      clear hb hb4 c0
      cases b with
      | true =>
        have HO := Lib.hid (show GetsTo s (some cs) from ⟨r, HXX.out, HE.out, HBB.out.1 rfl⟩)
        go_wp2
        exact bodyPost_ret (v := .tuple #[.slice Av cs.length cv, .int .i64 0]) (by simp [results, Try.results40, go_sem]) rfl ⟨⟨some cs, HO.out, _, rfl, HO4.out⟩, HB4.out⟩
      | false =>
        have HO := Lib.hid (show GetsTo s none from fun cs' r' h h2 h3 => by rw [HXX.out] at h; injection h with h; injection h with h1 h4; subst h1; have := HBB.out.2 h3; cases this)
        go_wp2
        exact bodyPost_ret (v := .tuple #[.slice none 0 0, .int .i64 201]) (by simp [results, Try.results40, go_sem]) rfl ⟨⟨none, HO.out, rfl⟩, HB4.out⟩
end Go.Proofs.Ytepnckglnciinaa.Sm
