/- The program's Get of a message. -/
import Derived.Test.YtfjmcklmoebnaaaDoorMgD
import Derived.Lib.ConvBytes
namespace Go.Proofs.YtfjmcklmoebnaaaDoor.Mg
open Go.RowKit Go.Proofs.YtfjmcklmoebnaaaDoor.Mem Go.Proofs.YtfjmcklmoebnaaaDoor.Nt
open Go.Proofs.YtfjmcklmoebnaaaDoor.Oct (Looks Sight own gotNum gotText Got RowB lookW lookW_size lookW_below lookW_eye lookW_sight why)
open Go.Proofs.YtfjmcklmoebnaaaDoor.Vc (seeV vecC)
set_option linter.unusedVariables false set_option linter.unusedSimpArgs false

theorem results_pair {P : Program} {fn : Func} {p u : Tmp} {t : TypeId} (hr : fn.results = #[.cell p t, .tmp u]) (tmps : Array Value) (w : World) (b : Nat) (C : Array Value) (d : TypeDesc) {y : Value} (hp : tmps.getD p undef = .pointer (some ⟨b, 0, none⟩)) (hc : Has w b t C) (hu : P.underlying t = some d) (hd : d.isRow = true) (hi : (P.info? t).map (·.size) = some C.size) (hy : tmps.getD u undef = y) : (results fn tmps).run P w = .ok (.tuple #[.agg C, y]) w := by
  rw [← hy]
  exact Who.results_cell_tmp hr tmps w b 0 C d hp (Who.has_range hc) hu hd hi
theorem chg_low {w W W' : World} {g : Nat} (h : Below w.heap.size w W) (hc : Chg (· = g) W W') (hg : w.heap.size ≤ g) : Below w.heap.size w W' := h.trans (hc.below (B := w.heap.size) h.size (fun k hk e => by omega))
theorem bw_below (w : World) (s : ByteArray) : Below w.heap.size w (Lib.bytesWorld w 5 s) := by
  refine ⟨rfl, rfl, rfl, ?_, fun i hi => Lib.bytesWorld_at_old w 5 s i hi⟩
  simp [Lib.bytesWorld, World.freeze]
theorem bw_row (w : World) (s : ByteArray) : RowB (Lib.bytesWorld w 5 s) (some ⟨w.heap.size, 0, none⟩) s.size s.data.toList := by
  refine ⟨by simp, fun h => ⟨w.heap.size, 0, rfl, ?_, fun i hi => ?_⟩⟩
  · simp [Lib.bytesWorld, World.freeze]
  · have hi2 : i < s.size := by simpa using hi
    rw [Nat.zero_add, Lib.bytesWorld_cell w 5 s i hi2]
    simp [List.getD, List.getElem?_eq_getElem hi]
theorem conv_SB (w : World) (s : ByteArray) : (convert 9 41 (.string s)).run Tryd.prog w = .ok (.slice (some ⟨w.heap.size, 0, none⟩) s.size (grownCap w s.size 0 5)) (Lib.bytesWorld w 5 s) :=
  Lib.run_convert_string_bytes w 9 41 5 s Tryd.underlying9 Tryd.underlying41 Tryd.underlying5
theorem back_bytes (r : ByteArray) : (⟨r.data.toList.toArray⟩ : ByteArray) = r := by simp
/-- What Read of a look comes to. -/
def endX {α : Type} : ParX α → Int
  | .ok (_, r) => why r false 0
  | .error y => y
def PEndX {α : Type} (X : ParX α) (q s : Nat) (Y : Nat → Prop) (G : α → World → Prop) (w : World) (e : Ending) (w' : World) : Prop :=
  match X with
  | .ok (a, r) => e = .returned (.tuple #[]) ∧ Looks w' q s r ∧ G a w' ∧ Oct.Chg (fun k => k = s ∨ Y k) w w'
  | .error y => e = .panicked (own s) ∧ (∃ r, Sight w' s r true y) ∧ Oct.Chg (fun k => k = s ∨ Y k) w w'
def PDoneX {α : Type} (X : ParX α) (G : α → World → Prop) (w : World) (w' : World) : Prop :=
  match X with
  | .ok (a, _) => ∃ w1, G a w1 ∧ Oct.Chg (fun k => k = w.heap.size + 1 ∨ k = w.heap.size) w1 w'
  | .error _ => True
theorem read_x {α : Type} (X : ParX α) (A : Option Addr) (n cap : Nat) (l : List UInt8) (f : FuncId) (cp : Array Value) (w : World) (h : RowB w A n l)
    (henter : ∀ (args : Array Value) (W : World), (callFunc f args).run Tryd.prog W = .ok (.enter f args) W) (Y : Nat → Prop) (hY : ∀ k, Y k → k < w.heap.size) (G : α → World → Prop)
    (hlook : Calls Tryd.prog f (#[.pointer (some ⟨w.heap.size + 3, 0, none⟩)] ++ cp) (lookW w l) (PEndX X (w.heap.size + 3) (w.heap.size + 1) Y G (lookW w l))) :
    Calls Tryd.prog 45 #[.slice A n cap, .func (.func f) #[] cp] w fun e w' => e = .returned (.int .i64 (endX X)) ∧ PDoneX X G w w' ∧ Oct.Chg Y w w' := by
  have y0 : ¬ Y w.heap.size := fun h => Nat.lt_irrefl _ (hY _ h)
  have y2 : ¬ Y (w.heap.size + 2) := fun h => by have := hY _ h; omega
  have hz := lookW_size w l
  have fin : ∀ w1 w', Oct.Chg (fun k => k = w.heap.size + 1 ∨ Y k) (lookW w l) w1 → Oct.Chg (fun k => k = w.heap.size + 1 ∨ k = w.heap.size) w1 w' → Oct.Chg Y w w' := fun w1 w' h1 h2 =>
    ((Oct.Chg.of_below (lookW_below w l) Y).step h1 (fun i hi hT => by
      rcases hT with e | e
      · omega
      · exact e)).step h2 (fun i hi hT => by omega)
  cases X with
  | ok a =>
    obtain ⟨a, r0⟩ := a
    refine (Oct.read_look A n cap l f cp w h henter Y y0 y2 (fun r b y w1 => r = r0 ∧ b = false ∧ y = 0 ∧ G a w1) ?_).mono ?_
    · refine hlook.mono ?_
      intro e w1 hd
      exact ⟨hd.1, r0, false, 0, hd.2.1.sight, hd.2.2.2, rfl, rfl, rfl, hd.2.2.1⟩
    · rintro e w' ⟨r, b, y, w1, ⟨rfl, rfl, rfl, hG⟩, rfl, h1, h2⟩
      exact ⟨rfl, ⟨w1, hG, h2⟩, fin w1 w' h1 h2⟩
  | error y0' =>
    refine (Oct.read_throws A n cap l f cp w h henter Y y0 y2 (fun r y w1 => y = y0') ?_).mono ?_
    · refine hlook.mono ?_
      intro e w1 hd
      obtain ⟨e1, ⟨r0, h1⟩, h2⟩ := hd
      exact ⟨e1, r0, y0', h1, h2, rfl⟩
    · rintro e w' ⟨r, y, w1, rfl, rfl, h1, h2⟩
      exact ⟨rfl, trivial, fin w1 w' h1 h2⟩
theorem bnd_why {α β : Type} {x : ParX α} {f : α → ByteArray → ParX β} {y : Int} (h : bnd x f = .error y) (hx : ∀ y, x = .error y → y ≠ 0) (hf : ∀ a r y, f a r = .error y → y ≠ 0) : y ≠ 0 := by
  cases x with
  | error z => exact hx y (by injection h with h; rw [h])
  | ok a => exact hf a.1 a.2 y h
theorem gN_why {r : ByteArray} {k : Int} : ∀ y, gN r k = .error y → y ≠ 0 := by
  intro y h
  unfold gN at h
  cases hg : gotNum r k with
  | num v q => rw [hg] at h; cases h
  | txt v q => rw [hg] at h; injection h with h; omega
  | bad q z =>
    rw [hg] at h
    injection h with h
    subst h
    unfold gotNum at hg
    repeat' split at hg
    all_goals (first | (injection hg with _ h2; omega) | cases hg)
theorem gT_why {r : ByteArray} {k : Int} : ∀ y, gT r k = .error y → y ≠ 0 := by
  intro y h
  unfold gT at h
  cases hg : gotText r k with
  | txt v q => rw [hg] at h; cases h
  | num v q => rw [hg] at h; injection h with h; omega
  | bad q z =>
    rw [hg] at h
    injection h with h
    subst h
    unfold gotText at hg
    repeat' split at hg
    all_goals (first | (injection hg with _ h2; omega) | cases hg)
theorem gV_why {r : ByteArray} : ∀ y, gV r = .error y → y ≠ 0 := by
  intro y h
  unfold gV at h
  split at h
  · cases h
  · injection h with h; omega
theorem gM_why {r : ByteArray} : ∀ y, gM r = .error y → y ≠ 0 := fun y h => bnd_why h gN_why fun a r y h => bnd_why h gN_why fun b r y h => by cases h
theorem tl5_why {m : MsgP} {r : ByteArray} : ∀ y, tl5 m r = .error y → y ≠ 0 := fun y h => bnd_why h gT_why fun a r y h => by cases h
theorem tl4_why {m : MsgP} {r : ByteArray} : ∀ y, tl4 m r = .error y → y ≠ 0 := by
  intro y h
  unfold tl4 at h
  split at h
  · exact bnd_why h gN_why fun a r y h => tl5_why y h
  · cases h
theorem tl3_why {m : MsgP} {r : ByteArray} : ∀ y, tl3 m r = .error y → y ≠ 0 := fun y h => bnd_why h gN_why fun a r y h => tl4_why y h
theorem tl2_why {m : MsgP} {r : ByteArray} : ∀ y, tl2 m r = .error y → y ≠ 0 := fun y h => bnd_why h gM_why fun a r y h => by
  split at h
  · cases h
  · exact tl3_why y h
theorem tl1_why {m : MsgP} {r : ByteArray} : ∀ y, tl1 m r = .error y → y ≠ 0 := by
  intro y h
  unfold tl1 at h
  split at h
  · exact bnd_why h gM_why fun a r y h => tl2_why y h
  · split at h
    · exact tl2_why y h
    · cases h
theorem see_why {r : ByteArray} : ∀ y, seeP r = .error y → y ≠ 0 := fun y h => bnd_why h gN_why fun a r y h => bnd_why h gN_why fun a r y h => bnd_why h gN_why fun a r y h => bnd_why h gN_why fun a r y h => bnd_why h gV_why fun a r y h => tl1_why y h
noncomputable def getR (s : ByteArray) : MsgP × Int :=
  if CrcW.openB s = true then (match seeP (CrcW.headB s) with
    | .ok (m, r) => @ite _ (r.toList.isEmpty = true ∧ OkM m) (Classical.propDecidable _) (m, 0) (msg0, 201)
    | .error _ => (msg0, 201)) else (msg0, 201)
theorem get_shut {s : ByteArray} (h : CrcW.openB s = false) : getR s = (msg0, 201) := by unfold getR; rw [h]; rfl
theorem get_err {s : ByteArray} {y : Int} (h : seeP (CrcW.headB s) = .error y) : getR s = (msg0, 201) := by unfold getR; rw [h]; split <;> rfl
theorem get_more {s r : ByteArray} {m : MsgP} (h : seeP (CrcW.headB s) = .ok (m, r)) (hr : ¬ (r.toList.isEmpty = true ∧ OkM m)) : getR s = (msg0, 201) := by
  unfold getR
  rw [h]
  dsimp only
  rw [if_neg hr]
  split <;> rfl
theorem get_all {s r : ByteArray} {m : MsgP} (ho : CrcW.openB s = true) (h : seeP (CrcW.headB s) = .ok (m, r)) (hr : r.toList.isEmpty = true ∧ OkM m) : getR s = (m, 0) := by
  unfold getR
  rw [h, if_pos ho]
  dsimp only
  rw [if_pos hr]
def GetIs (s : ByteArray) (w : World) (e : Ending) (w' : World) : Prop := e = .returned (.tuple #[.agg (msgC (getR s).1), .int .i64 (getR s).2]) ∧ Below w.heap.size w w'
theorem open_less {s : ByteArray} (h : s.size < 8) : CrcW.openB s = false := by
  cases hb : CrcW.openB s with
  | false => rfl
  | true =>
    unfold CrcW.openB at hb
    have e : CrcW.sealB (CrcW.headB s) = s := Nt.toList_eq (beq_iff_eq.1 hb)
    have e2 := congrArg ByteArray.size e
    rw [CrcW.sealB_size] at e2
    omega
def OpenIs (s : ByteArray) (w : World) (e : Ending) (w' : World) : Prop := ∃ b, e = .returned (.tuple #[.string b, .bool (CrcW.openB s)]) ∧ (CrcW.openB s = true → b = CrcW.headB s) ∧ Below w.heap.size w w'
theorem open_x (s : ByteArray) (hs : s.size ≤ 4104) (w : World) : Calls Tryd.prog 44 #[.string s] w (OpenIs s w) := by
  by_cases h : s.size < 8
  · refine (CrcW.open_short s h w).mono fun e w' q => ?_
    obtain ⟨e1, rfl⟩ := q
    have h0 := open_less h
    exact ⟨⟨#[]⟩, by rw [e1, h0], fun k => (by rw [h0] at k; cases k), Below.refl _ _⟩
  · exact (CrcW.open_long s (by omega) hs w).mono fun e w' q => ⟨_, q.1, fun _ => rfl, q.2⟩
theorem enter_get (args : Array Value) (W : World) : (callFunc 46 args).run Tryd.prog W = .ok (.enter 46 args) W := by kernel_rfl
set_option maxRecDepth 100000 in
set_option maxHeartbeats 2000000 in
theorem get1_x (q s bc : Nat) (r : ByteArray) (hqs : q ≠ s) (hbq : bc ≠ q) (hbs : bc ≠ s) (w : World) (h : Looks w q s r) (hb : Has w bc 27 (msgC msg0)) : Calls Tryd.prog 46 #[.pointer (some ⟨q, 0, none⟩), .pointer (some ⟨bc, 0, none⟩)] w (PEndX (seeP r) q s (· = bc) (fun m W => Has W bc 27 (msgC m)) w) := by
  have HS := Lib.hid (see_x q s r hqs w h)
  have HB := Lib.hid hb
  have HD := Lib.hid (And.intro hbq hbs)
  clear h hb hqs hbq hbs
  go_enter Tryd.func46, Tryd.ntmps46
  go_wp2_with fail
  refine HS.out.mono ?_
  intro e w1 hd
  cases hx : seeP r with
  | error y =>
    rw [hx] at hd
    obtain ⟨rfl, h1, h2⟩ := hd
    have HE := Lib.hid (show PEndX (seeP r) q s (· = bc) (fun m W => Has W bc 27 (msgC m)) w (.panicked (own s)) w1 from by rw [hx]; exact ⟨rfl, h1, h2.mono fun k hk => Or.inl hk⟩)
    clear h1 h2 hx
    go_wp2
    show _ ∧ _
    exact ⟨rfl, HE.out⟩
  | ok a =>
    obtain ⟨m, r1⟩ := a
    rw [hx] at hd
    obtain ⟨rfl, h1, h2⟩ := hd
    have HX := Lib.hid hx
    have HB1 := Lib.hid (has_got HB.out h2 HD.out.2)
    have HL := Lib.hid h1
    have HC := Lib.hid h2
    clear h1 h2 hx
    go_wp2_with ((with_reducible refine wpList_storeM 27 (.tmp 1) (.tmp 4) rfl bc 0 27 (msgC msg0) (msgC m) (msgC m) ?_); refine And.intro ⟨rfl, by rfl, by rfl, info_size _, msgC_one _, of_decide_eq_true rfl, Who.lay_all _ _ rfl, HB1.out⟩ ?_; intro WZ HVZ HCZ; (try simp only [Act.put, List.setIfInBounds_toArray, List.set_cons_zero, List.set_cons_succ]))
    have HE := Lib.hid (show PEndX (seeP r) q s (· = bc) (fun m W => Has W bc 27 (msgC m)) w (.returned (.tuple #[])) WZ from by
      rw [HX.out]
      exact ⟨rfl, looks_over HL.out HCZ.out (fun e => HD.out.1 e.symm) (fun e => HD.out.2 e.symm), HVZ.out, (HC.out.mono fun k hk => Or.inl hk).trans ((Oct.Chg.of HCZ.out).mono fun k hk => Or.inr hk)⟩)
    go_end0
    exact HE.out
set_option maxRecDepth 100000 in
set_option maxHeartbeats 600000 in
theorem get_any (s : ByteArray) (hs : s.size ≤ 4104) (w : World) : Calls Tryd.prog 19 #[.string s] w (GetIs s w) := by
  have hal := alloc_msg
  have hb0 := (Below.refl w.heap.size w).alloc (Nat.le_refl _) (.cells (msgC msg0) 27)
  have HO := Lib.hid (open_x s hs (w.alloc (.cells (msgC msg0) 27)))
  have HB0 := Lib.hid hb0
  have HG0 := Lib.hid (Has.fresh w 27 (msgC msg0))
  have HCK := Lib.hid check_any
  clear hb0 hs
  go_enter Tryd.func19, Tryd.ntmps19
  go_wp2_with ((with_reducible refine Who.wpList_alloc 27 2 rfl rfl rfl (msgC msg0) hal ?_); (try simp only [Act.put, List.setIfInBounds_toArray, List.set_cons_zero, List.set_cons_succ]); (try simp only [World.size_alloc]))
  refine HO.out.mono ?_
  rintro e w1 ⟨b, rfl, hb, hbl⟩
  have HB1 := Lib.hid (HB0.out.trans (hbl.mono HB0.out.size))
  have HG1 := Lib.hid (HG0.out.below hbl)
  have HGL := Lib.hid HG1.out.bound
  clear hbl HO HB0 HG0
  cases ho : CrcW.openB s with
  | false =>
    have HR := Lib.hid (get_shut ho)
    clear hb ho
    go_wp2_with (first | ((with_reducible refine wpList_storeM 27 (.tmp 2) (.tmp 15) rfl w.heap.size 0 27 (msgC msg0) (msgC msg0) (msgC msg0) ?_); refine And.intro ⟨rfl, by rfl, by rfl, info_size _, msgC_one _, of_decide_eq_true rfl, Who.lay_all _ _ rfl, HG1.out⟩ ?_; intro WZ HVZ HCZ; (try simp only [Act.put, List.setIfInBounds_toArray, List.set_cons_zero, List.set_cons_succ])))
    refine bodyPost_ret (v := .tuple #[.agg (msgC msg0), .int .i64 201]) (results_pair Tryd.results19 _ _ w.heap.size _ _ (by rfl) HVZ.out Tryd.underlying27 rfl (info_size _) (by rfl)) rfl ?_
    exact ⟨by rw [HR.out], chg_low HB1.out HCZ.out (Nat.le_refl _)⟩
  | true =>
    obtain rfl := hb ho
    have HOP := Lib.hid ho
    clear hb ho
    obtain ⟨bc, hbc⟩ : ∃ bc, bc = w1.heap.size := ⟨_, rfl⟩
    obtain ⟨w0, hw0⟩ : ∃ w0, w0 = w1.alloc (.cells (msgC msg0) 27) := ⟨_, rfl⟩
    have hbl0 : Below w1.heap.size w1 w0 := by rw [hw0]; exact (Below.refl _ w1).alloc (Nat.le_refl _) _
    have hm0 : Has w0 bc 27 (msgC msg0) := by rw [hw0, hbc]; exact Has.fresh w1 _ _
    have hg0 : Has w0 w.heap.size 27 (msgC msg0) := HG1.out.below hbl0
    have kc := conv_SB w0 (CrcW.headB s)
    have hrow := bw_row w0 (CrcW.headB s)
    have hbW := bw_below w0 (CrcW.headB s)
    obtain ⟨W, hW⟩ : ∃ W, W = Lib.bytesWorld w0 5 (CrcW.headB s) := ⟨_, rfl⟩
    rw [← hW] at kc hrow hbW
    have hmW := hm0.below hbW
    have hgW := hg0.below hbW
    have hL : Looks (lookW W (CrcW.headB s).data.toList) (W.heap.size + 3) (W.heap.size + 1) (CrcW.headB s) := by
      have k1 := lookW_sight W (CrcW.headB s).data.toList
      rw [back_bytes] at k1
      exact ⟨lookW_eye W _, k1⟩
    have hmL : Has (lookW W (CrcW.headB s).data.toList) bc 27 (msgC msg0) := hmW.below (lookW_below W _)
    have hbcW := hmW.bound
    have hread := (read_x (seeP (CrcW.headB s)) (some ⟨w0.heap.size, 0, none⟩) (CrcW.headB s).size (grownCap w0 (CrcW.headB s).size 0 5) _ 46 #[.pointer (some ⟨bc, 0, none⟩)] W hrow enter_get (· = bc) (fun k hk => by omega) (fun m W => Has W bc 27 (msgC m)) (get1_x _ _ bc _ (by omega) (by omega) (by omega) _ hL hmL))
    have HGB := Lib.hid (show w.heap.size ≠ bc by rw [hbc]; have := HGL.out; omega)
    have HBW := Lib.hid (HB1.out.trans ((hbl0.trans (hbW.mono hbl0.size)).mono HB1.out.size))
    have HGW := Lib.hid hgW
    have HBC := Lib.hid hbcW
    subst hw0
    rw [World.size_alloc] at kc hread
    have HREAD := Lib.hid hread
    clear hread
    have HLE := Lib.hid (show w.heap.size ≤ bc by rw [hbc]; exact Nat.le_of_lt HGL.out)
    have HBE := Lib.hid hbc
    subst hbc
    clear hbl0 hm0 hg0 hrow hbW hW hmW hgW hL hmL hbcW
    go_wp2_with ((with_reducible refine Who.wpList_alloc 27 6 rfl rfl rfl (msgC msg0) hal ?_); (try simp only [Act.put, List.setIfInBounds_toArray, List.set_cons_zero, List.set_cons_succ]); (try simp only [World.size_alloc]))
    refine HREAD.out.mono ?_
    rintro e w2 ⟨rfl, hd, hc⟩
    have HB2 := Lib.hid (show Below w.heap.size w w2 from HBW.out.trans (hc.to.below HBW.out.size (fun k hk e => by have := HLE.out; omega)))
    have HG2 := Lib.hid (HGW.out.over hc.to HGB.out)
    cases hx : seeP (CrcW.headB s) with
    | error y =>
      have HR := Lib.hid (get_err hx)
      have hy := see_why y hx
      have e1 : endX (.error y : ParX MsgP) = y := rfl
      rw [e1]
      have e2 : (y == 0) = false := beq_eq_false_iff_ne.2 hy
      have e3 : ¬ y = 0 := hy
      clear hd hc hx e1 hy kc
      go_wp2_with (first | ((with_reducible refine wpList_storeM 27 (.tmp 2) (.tmp 27) rfl w.heap.size 0 27 (msgC msg0) (msgC msg0) (msgC msg0) ?_); refine And.intro ⟨rfl, by rfl, by rfl, info_size _, msgC_one _, of_decide_eq_true rfl, Who.lay_all _ _ rfl, HG2.out⟩ ?_; intro WZ HVZ HCZ; (try simp only [Act.put, List.setIfInBounds_toArray, List.set_cons_zero, List.set_cons_succ])))
      refine bodyPost_ret (v := .tuple #[.agg (msgC msg0), .int .i64 201]) (results_pair Tryd.results19 _ _ w.heap.size _ _ (by rfl) HVZ.out Tryd.underlying27 rfl (info_size _) (by rfl)) rfl ?_
      exact ⟨by rw [HR.out], chg_low HB2.out HCZ.out (Nat.le_refl _)⟩
    | ok a =>
      obtain ⟨m, r⟩ := a
      rw [hx] at hd
      obtain ⟨w3, hm3, hc3⟩ := hd
      have HM2 := Lib.hid (show Has w2 w1.heap.size 27 (msgC m) from hm3.over hc3.to (by have := HBC.out; omega))
      have HX := Lib.hid hx
      clear hm3 hc3 hc hx kc
      cases hr : r.toList.isEmpty with
      | false =>
        have HR := Lib.hid (get_more HX.out (fun h => by rw [hr] at h; cases h.1))
        have e2 : endX (.ok (m, r) : ParX MsgP) = 201 := by show why r false 0 = 201; unfold why; rw [hr]; rfl
        rw [e2]
        clear e2 hr
        go_wp2_with (first | ((with_reducible refine wpList_storeM 27 (.tmp 2) (.tmp 27) rfl w.heap.size 0 27 (msgC msg0) (msgC msg0) (msgC msg0) ?_); refine And.intro ⟨rfl, by rfl, by rfl, info_size _, msgC_one _, of_decide_eq_true rfl, Who.lay_all _ _ rfl, HG2.out⟩ ?_; intro WZ HVZ HCZ; (try simp only [Act.put, List.setIfInBounds_toArray, List.set_cons_zero, List.set_cons_succ])))
        refine bodyPost_ret (v := .tuple #[.agg (msgC msg0), .int .i64 201]) (results_pair Tryd.results19 _ _ w.heap.size _ _ (by rfl) HVZ.out Tryd.underlying27 rfl (info_size _) (by rfl)) rfl ?_
        exact ⟨by rw [HR.out], chg_low HB2.out HCZ.out (Nat.le_refl _)⟩
      | true =>
        have e2 : endX (.ok (m, r) : ParX MsgP) = 0 := by show why r false 0 = 0; unfold why; rw [hr]; rfl
        rw [e2]
        have HRE := Lib.hid hr
        clear e2 hr
        have HC2 := Lib.hid (HCK.out m w2)
        go_wp2_with ((with_reducible refine Who.wpList_loadC 27 (.tmp 6) rfl w1.heap.size 0 (msgC m) ?_); refine And.intro ⟨by rfl, by rfl, ⟨_, Tryd.underlying27, rfl⟩, info_size _⟩ (And.intro (Who.has_range HM2.out) ?_); (try simp only [Act.put, List.setIfInBounds_toArray, List.set_cons_zero, List.set_cons_succ]))
        refine HC2.out.mono ?_
        rintro e w4 ⟨rfl, hb⟩
        have HB4 := Lib.hid (HB2.out.trans (hb.mono HB2.out.size))
        have HG4 := Lib.hid (HG2.out.below hb)
        have HM4 := Lib.hid (HM2.out.below hb)
        clear hb
        by_cases hok : OkM m
        · have HR := Lib.hid (get_all HOP.out HX.out ⟨HRE.out, hok⟩)
          rw [err_yes hok]
          clear hok
          go_wp2_with (first | ((with_reducible refine wpList_storeM 27 (.tmp 2) (.tmp 28) rfl w.heap.size 0 27 (msgC msg0) (msgC m) (msgC m) ?_); refine And.intro ⟨rfl, by rfl, by rfl, info_size _, msgC_one _, of_decide_eq_true rfl, Who.lay_all _ _ rfl, HG4.out⟩ ?_; intro WZ HVZ HCZ; (try simp only [Act.put, List.setIfInBounds_toArray, List.set_cons_zero, List.set_cons_succ])) | ((with_reducible refine Who.wpList_loadC 27 (.tmp 6) rfl w1.heap.size 0 (msgC m) ?_); refine And.intro ⟨by rfl, by rfl, ⟨_, Tryd.underlying27, rfl⟩, info_size _⟩ (And.intro (Who.has_range HM4.out) ?_); (try simp only [Act.put, List.setIfInBounds_toArray, List.set_cons_zero, List.set_cons_succ])))
          refine bodyPost_ret (v := .tuple #[.agg (msgC m), .int .i64 0]) (results_pair Tryd.results19 _ _ w.heap.size _ _ (by rfl) HVZ.out Tryd.underlying27 rfl (info_size _) (by rfl)) rfl ?_
          exact ⟨by rw [HR.out], chg_low HB4.out HCZ.out (Nat.le_refl _)⟩
        · have HR := Lib.hid (get_more HX.out (fun h => hok h.2))
          rw [err_no hok]
          clear hok
          go_wp2_with (first | ((with_reducible refine wpList_storeM 27 (.tmp 2) (.tmp 27) rfl w.heap.size 0 27 (msgC msg0) (msgC msg0) (msgC msg0) ?_); refine And.intro ⟨rfl, by rfl, by rfl, info_size _, msgC_one _, of_decide_eq_true rfl, Who.lay_all _ _ rfl, HG4.out⟩ ?_; intro WZ HVZ HCZ; (try simp only [Act.put, List.setIfInBounds_toArray, List.set_cons_zero, List.set_cons_succ])))
          refine bodyPost_ret (v := .tuple #[.agg (msgC msg0), .int .i64 201]) (results_pair Tryd.results19 _ _ w.heap.size _ _ (by rfl) HVZ.out Tryd.underlying27 rfl (info_size _) (by rfl)) rfl ?_
          exact ⟨by rw [HR.out], chg_low HB4.out HCZ.out (Nat.le_refl _)⟩
end Go.Proofs.YtfjmcklmoebnaaaDoor.Mg
