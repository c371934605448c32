/- A message as bytes: the model; rows of bytes that are put together; a mark put. -/
import Derived.Test.YtfjmcklmoebnaaaDoorNtE
import Derived.Test.YtfjmcklmoebnaaaDoorMgRq
import Derived.Test.YtfjmcklmoebnaaaDoorStRTxt
namespace Go.Proofs.YtfjmcklmoebnaaaDoor.Mg
open Go.RowKit Go.Proofs.YtfjmcklmoebnaaaDoor.Mem Go.Proofs.YtfjmcklmoebnaaaDoor.Nt
open Go.Proofs.YtfjmcklmoebnaaaDoor.Oct (Owns RowB headT cutT)
open Go.Proofs.YtfjmcklmoebnaaaDoor.Vc (numB numB_len vecB owns_lens vecC)
set_option linter.unusedVariables false

def markB (k : Int × Int) : List UInt8 := numB k.1 6 ++ numB k.2 6
theorem markB_len (k : Int × Int) : (markB k).length = 12 := by unfold markB; rw [List.length_append, numB_len, numB_len]
theorem vecB_len (x : Nat → Int) : (vecB x).length = 48 := Vc.vecTo_len x 8
def textB (s : ByteArray) : List UInt8 := headT (cutT s).length ++ cutT s
theorem textB_len (s : ByteArray) (h : s.size ≤ 60000) : (textB s).length = s.size + 2 := by
  unfold textB
  have e : cutT s = s.data.toList := List.take_of_length_le (by simp; omega)
  rw [List.length_append, e]
  show 2 + s.data.toList.length = s.size + 2
  simp only [Array.length_toList]
  show 2 + s.size = s.size + 2
  omega
def hdN (m : MsgP) (j : Nat) : Int := if j = 0 then m.kind else if j = 1 then m.fr else if j = 2 then m.to else m.vol
def headTo (m : MsgP) : Nat → List UInt8
  | 0 => []
  | j + 1 => headTo m j ++ numB (hdN m j) 1
theorem headTo_len (m : MsgP) : ∀ j, (headTo m j).length = j
  | 0 => rfl
  | j + 1 => by rw [headTo, List.length_append, numB_len, headTo_len m j]
def headB (m : MsgP) : List UInt8 := headTo m 4
def msgB (m : MsgP) : List UInt8 :=
  headB m ++ vecB m.seen ++ (if m.kind = 1 ∨ m.kind = 2 then markB m.base else []) ++ (if m.kind = 3 then [] else markB m.mark) ++ (if m.kind = 1 ∨ m.kind = 2 then numB m.ix 2 else []) ++ (if m.kind = 2 then numB m.tot 2 ++ textB m.data else [])
theorem msgB_1 {m : MsgP} (h : m.kind = 1) : msgB m = headB m ++ vecB m.seen ++ markB m.base ++ markB m.mark ++ numB m.ix 2 := by unfold msgB; simp [h]
theorem msgB_2 {m : MsgP} (h : m.kind = 2) : msgB m = headB m ++ vecB m.seen ++ markB m.base ++ markB m.mark ++ numB m.ix 2 ++ numB m.tot 2 ++ textB m.data := by unfold msgB; simp [h]
theorem msgB_3 {m : MsgP} (h : m.kind = 3) : msgB m = headB m ++ vecB m.seen := by unfold msgB; simp [h]
theorem msgB_4 {m : MsgP} (h : m.kind = 4) : msgB m = headB m ++ vecB m.seen ++ markB m.mark := by unfold msgB; simp [h]
structure RowI (w wr : World) (A : Option Addr) (n c : Nat) (M : List UInt8) : Prop where
  below : Below w.heap.size w wr
  row : RowB wr A n M
  nil : A = none → n = 0 ∧ c = 0
def RowIs (w wr : World) (M : List UInt8) (e : Ending) (w' : World) : Prop := ∃ A n c, e = .returned (.slice A n c) ∧ RowI w w' A n c M ∧ Below wr.heap.size wr w'
theorem RowI.low {w wr w2 : World} {A : Option Addr} {n c : Nat} {M : List UInt8} (h : RowI w wr A n c M) (hb : Below wr.heap.size wr w2) : RowI w w2 A n c M := ⟨h.below.trans (hb.mono h.below.size), Oct.RowB.below h.row hb, h.nil⟩
theorem RowI.none (w : World) : RowI w w .none 0 0 [] := ⟨Below.refl _ _, Vc.row_nil w, fun _ => ⟨rfl, rfl⟩⟩
theorem row_put {w wr : World} {M : List UInt8} {e : Ending} {w' : World} (hw : Below w.heap.size w wr) (h : ∃ v, e = .returned v ∧ Owns w' wr.heap.size v M ∧ Below wr.heap.size wr w') : RowIs w wr M e w' := by
  obtain ⟨v, e1, ho, hb⟩ := h
  obtain ⟨A2, c2, rfl, r2, n2⟩ := owns_lens ho
  exact ⟨A2, _, c2, e1, ⟨hw.trans (hb.mono hw.size), r2, n2⟩, hb⟩
theorem num_row {w wr : World} {A : Option Addr} {n c : Nat} {M : List UInt8} (h : RowI w wr A n c M) (x : Int) (k : Nat) (h1 : 1 ≤ k) (h8 : k ≤ 8) (hm : M.length ≤ 100000) : Calls Tryd.prog 34 #[.slice A n c, .int .i64 x, .int .i64 k] wr (RowIs w wr (M ++ numB x k)) :=
  (Vc.put_num x (by have := h.row.1; omega) h1 h8 h.row h.nil).mono fun e w' q => row_put h.below q
theorem rnum_row {w wr : World} {A : Option Addr} {n c : Nat} {M : List UInt8} (h : RowI w wr A n c M) (x : Int) (k : Nat) (h1 : 1 ≤ k) (h8 : k ≤ 8) (hm : M.length ≤ 100000) : Calls Tryd.prog 41 #[.slice A n c, .int .i64 x, .int .i64 k] wr (RowIs w wr (M ++ numB x k)) :=
  (Vc.rput_num x (by have := h.row.1; omega) h1 h8 h.row h.nil).mono fun e w' q => row_put h.below q
theorem vec_row {w wr : World} {A : Option Addr} {n c : Nat} {M : List UInt8} (h : RowI w wr A n c M) (x : Nat → Int) (hm : M.length ≤ 100000) : Calls Tryd.prog 35 #[.slice A n c, .agg (vecC x)] wr (RowIs w wr (M ++ vecB x)) :=
  (Vc.put_vec A n c x M (by have := h.row.1; omega) wr h.row h.nil).mono fun e w' q => row_put h.below q
theorem rvec_row {w wr : World} {A : Option Addr} {n c : Nat} {M : List UInt8} (h : RowI w wr A n c M) (x : Nat → Int) (hm : M.length ≤ 100000) : Calls Tryd.prog 39 #[.slice A n c, .agg (vecC x)] wr (RowIs w wr (M ++ vecB x)) :=
  (Vc.rput_vec A n c x M (by have := h.row.1; omega) wr h.row h.nil).mono fun e w' q => row_put h.below q
theorem text_row {w wr : World} {A : Option Addr} {n c : Nat} {M : List UInt8} (h : RowI w wr A n c M) (s : ByteArray) (hm : M.length ≤ 100000) : Calls Tryd.prog 37 #[.slice A n c, .string s] wr (RowIs w wr (M ++ textB s)) :=
  (Oct.ptext_any A n c M s (by have := h.row.1; omega) wr h.row h.nil).mono fun e w' q => row_put h.below (by unfold textB; rw [← List.append_assoc]; exact q)
theorem rtext_row {w wr : World} {A : Option Addr} {n c : Nat} {M : List UInt8} (h : RowI w wr A n c M) (s : ByteArray) (hm : M.length ≤ 100000) : Calls Tryd.prog 42 #[.slice A n c, .string s] wr (RowIs w wr (M ++ textB s)) :=
  (Oct.rptext_any A n c M s (by have := h.row.1; omega) wr h.row h.nil).mono fun e w' q => row_put h.below (by unfold textB; rw [← List.append_assoc]; exact q)
set_option maxRecDepth 100000 in
set_option maxHeartbeats 2000000 in
theorem mark_row {w wr : World} {A : Option Addr} {n c : Nat} {M : List UInt8} (h : RowI w wr A n c M) (k : Int × Int) (hm : M.length ≤ 90000) : Calls Tryd.prog 36 #[.slice A n c, .agg #[.int .i64 k.1, .int .i64 k.2]] wr (RowIs w wr (M ++ markB k)) := by
  have hb0 := (Below.refl wr.heap.size wr).alloc (Nat.le_refl _) (.cells #[.int .i64 k.1, .int .i64 k.2] 23)
  have H0 := Lib.hid (h.low hb0.drew)
  have HB0 := Lib.hid hb0.drew
  have HX := Lib.hid (Has.fresh wr 23 #[.int .i64 k.1, .int .i64 k.2])
  have HS := Lib.hid (show ∀ V, Below (wr.alloc (.cells #[.int .i64 k.1, .int .i64 k.2] 23)).heap.size (wr.alloc (.cells #[.int .i64 k.1, .int .i64 k.2] 23)) V → V.cell? ⟨wr.heap.size, 0, none⟩ = some (.int .i64 k.1) ∧ V.cell? ⟨wr.heap.size, 1, none⟩ = some (.int .i64 k.2) from fun V hV => ⟨(HX.out.below hV).at_ 0, (HX.out.below hV).at_ 1⟩)
  have HR := Lib.hid ((Below.refl (wr.alloc (.cells #[.int .i64 k.1, .int .i64 k.2] 23)).heap.size (wr.alloc (.cells #[.int .i64 k.1, .int .i64 k.2] 23))).drew)
  have HM := Lib.hid hm
  clear h hb0 hm
  go_enter Tryd.func36, Tryd.ntmps36
  go_wp2
  refine wp_region_held_drew (S := fun w' => w'.cell? ⟨wr.heap.size, 0, none⟩ = some (.int .i64 k.1) ∧ w'.cell? ⟨wr.heap.size, 1, none⟩ = some (.int .i64 k.2)) (by kernel_rfl) (HS.out _ HR.out) (fun hHeld => ?_)
  refine Vc.wpAnyH_read (i := 0) (d := some 5) (v := ?vz1) (by rfl) (by rfl) (by kernel_rfl) (by kernel_rfl) (by kernel_rfl) (fun _ _ _ h => h) (by rfl) ?hyz1 (by assumption) ?restz1
  case hyz1 =>
    intro w hSw
    obtain ⟨s0, s1⟩ := hSw
    go_simp
    try with_reducible rfl
  (try simp only [Act.put, List.setIfInBounds_toArray, List.set_cons_zero, List.set_cons_succ])
  refine Vc.wpAnyH_read (i := 1) (d := some 6) (v := ?vz2) (by rfl) (by rfl) (by kernel_rfl) (by kernel_rfl) (by kernel_rfl) (fun _ _ _ h => h) (by rfl) ?hyz2 (by assumption) ?restz2
  case hyz2 =>
    intro w hSw
    obtain ⟨s0, s1⟩ := hSw
    go_simp
    try with_reducible rfl
  (try simp only [Act.put, List.setIfInBounds_toArray, List.set_cons_zero, List.set_cons_succ])
  refine Vc.wpAnyH_read (i := 2) (d := some 7) (v := ?vz3) (by rfl) (by rfl) (by kernel_rfl) (by kernel_rfl) (by kernel_rfl) (fun _ _ _ h => h) (by rfl) ?hyz3 (by assumption) ?restz3
  case hyz3 =>
    intro w hSw
    obtain ⟨s0, s1⟩ := hSw
    go_simp
    try with_reducible rfl
  (try simp only [Act.put, List.setIfInBounds_toArray, List.set_cons_zero, List.set_cons_succ])
  refine Vc.wpAnyH_read (i := 4) (d := some 9) (v := ?vz4) (by rfl) (by rfl) (by kernel_rfl) (by kernel_rfl) (by kernel_rfl) (fun _ _ _ h => h) (by rfl) ?hyz4 (by assumption) ?restz4
  case hyz4 =>
    intro w hSw
    obtain ⟨s0, s1⟩ := hSw
    go_simp
    try with_reducible rfl
  (try simp only [Act.put, List.setIfInBounds_toArray, List.set_cons_zero, List.set_cons_succ])
  refine Vc.wpAnyH_read (i := 5) (d := some 10) (v := ?vz5) (by rfl) (by rfl) (by kernel_rfl) (by kernel_rfl) (by kernel_rfl) (fun _ _ _ h => h) (by rfl) ?hyz5 (by assumption) ?restz5
  case hyz5 =>
    intro w hSw
    obtain ⟨s0, s1⟩ := hSw
    go_simp
    try with_reducible rfl
  (try simp only [Act.put, List.setIfInBounds_toArray, List.set_cons_zero, List.set_cons_succ])
  refine wpAnyH_ready (rs := [3]) (by kernel_rfl) (by simp) ?_
  refine AllReadyH.cons rfl (fun K hK => ?_) AllReadyH.nil
  go_simp
  go_at_call 34
  refine (num_row H0.out k.1 6 (by omega) (by omega) (by have := HM.out; omega)).mono ?_
  rintro e w2 ⟨A2, n2, c2, rfl, hrow, hb⟩
  have H2 := Lib.hid hrow
  have HR2 := Lib.hid (HR.out.trans (hb.mono HR.out.size))
  have HB2 := Lib.hid (HB0.out.trans (hb.mono HB0.out.size))
  clear hrow hb
  refine hK.out _ _ (HS.out _ HR2.out) (fun hHeld => ?_)
  clear hK K
  (try simp only [Act.put, List.setIfInBounds_toArray, List.set_cons_zero, List.set_cons_succ])
  refine wpAnyH_ready (rs := [6]) (by kernel_rfl) (by simp) ?_
  refine AllReadyH.cons rfl (fun K hK => ?_) AllReadyH.nil
  go_simp
  go_at_call 34
  refine (num_row H2.out k.2 6 (by omega) (by omega) (by have := HM.out; rw [List.length_append, numB_len]; omega)).mono ?_
  rintro e w3 ⟨A3, n3, c3, rfl, hrow, hb⟩
  have H3 := Lib.hid hrow
  have HR3 := Lib.hid (HR2.out.trans (hb.mono HR2.out.size))
  have HB3 := Lib.hid (HB2.out.trans (hb.mono HB2.out.size))
  clear hrow hb
  refine hK.out _ _ (HS.out _ HR3.out) (fun hHeld => ?_)
  clear hK K
  (try simp only [Act.put, List.setIfInBounds_toArray, List.set_cons_zero, List.set_cons_succ])
  refine Vc.wpAnyH_read (i := 7) (d := some 4) (v := ?vz6) (by rfl) (by rfl) (by kernel_rfl) (by kernel_rfl) (by kernel_rfl) (fun _ _ _ h => h) (by rfl) ?hyz6 (by assumption) ?restz6
  case hyz6 =>
    intro w hSw
    obtain ⟨s0, s1⟩ := hSw
    go_simp
    try with_reducible rfl
  (try simp only [Act.put, List.setIfInBounds_toArray, List.set_cons_zero, List.set_cons_succ])
  refine wpAnyH_done (by kernel_rfl) ?_ _
  go_wp2
  go_ret
  exact ⟨_, _, _, rfl, by unfold markB; rw [← List.append_assoc]; exact H3.out, HB3.out⟩
set_option maxRecDepth 100000 in
set_option maxHeartbeats 2000000 in
theorem rmark_row {w wr : World} {A : Option Addr} {n c : Nat} {M : List UInt8} (h : RowI w wr A n c M) (k : Int × Int) (hm : M.length ≤ 90000) : Calls Tryd.prog 40 #[.slice A n c, .agg #[.int .i64 k.1, .int .i64 k.2]] wr (RowIs w wr (M ++ markB k)) := by
  have hb0 := (Below.refl wr.heap.size wr).alloc (Nat.le_refl _) (.cells #[.int .i64 k.1, .int .i64 k.2] 23)
  have H0 := Lib.hid (h.low hb0.drew)
  have HB0 := Lib.hid hb0.drew
  have HX := Lib.hid (Has.fresh wr 23 #[.int .i64 k.1, .int .i64 k.2])
  have HS := Lib.hid (show ∀ V, Below (wr.alloc (.cells #[.int .i64 k.1, .int .i64 k.2] 23)).heap.size (wr.alloc (.cells #[.int .i64 k.1, .int .i64 k.2] 23)) V → V.cell? ⟨wr.heap.size, 0, none⟩ = some (.int .i64 k.1) ∧ V.cell? ⟨wr.heap.size, 1, none⟩ = some (.int .i64 k.2) from fun V hV => ⟨(HX.out.below hV).at_ 0, (HX.out.below hV).at_ 1⟩)
  have HR := Lib.hid ((Below.refl (wr.alloc (.cells #[.int .i64 k.1, .int .i64 k.2] 23)).heap.size (wr.alloc (.cells #[.int .i64 k.1, .int .i64 k.2] 23))).drew)
  have HM := Lib.hid hm
  clear h hb0 hm
  go_enter Tryd.func40, Tryd.ntmps40
  go_wp2
  refine wp_region_held_drew (S := fun w' => w'.cell? ⟨wr.heap.size, 0, none⟩ = some (.int .i64 k.1) ∧ w'.cell? ⟨wr.heap.size, 1, none⟩ = some (.int .i64 k.2)) (by kernel_rfl) (HS.out _ HR.out) (fun hHeld => ?_)
  refine Vc.wpAnyH_read (i := 0) (d := some 5) (v := ?vz7) (by rfl) (by rfl) (by kernel_rfl) (by kernel_rfl) (by kernel_rfl) (fun _ _ _ h => h) (by rfl) ?hyz7 (by assumption) ?restz7
  case hyz7 =>
    intro w hSw
    obtain ⟨s0, s1⟩ := hSw
    go_simp
    try with_reducible rfl
  (try simp only [Act.put, List.setIfInBounds_toArray, List.set_cons_zero, List.set_cons_succ])
  refine Vc.wpAnyH_read (i := 1) (d := some 6) (v := ?vz8) (by rfl) (by rfl) (by kernel_rfl) (by kernel_rfl) (by kernel_rfl) (fun _ _ _ h => h) (by rfl) ?hyz8 (by assumption) ?restz8
  case hyz8 =>
    intro w hSw
    obtain ⟨s0, s1⟩ := hSw
    go_simp
    try with_reducible rfl
  (try simp only [Act.put, List.setIfInBounds_toArray, List.set_cons_zero, List.set_cons_succ])
  refine Vc.wpAnyH_read (i := 2) (d := some 7) (v := ?vz9) (by rfl) (by rfl) (by kernel_rfl) (by kernel_rfl) (by kernel_rfl) (fun _ _ _ h => h) (by rfl) ?hyz9 (by assumption) ?restz9
  case hyz9 =>
    intro w hSw
    obtain ⟨s0, s1⟩ := hSw
    go_simp
    try with_reducible rfl
  (try simp only [Act.put, List.setIfInBounds_toArray, List.set_cons_zero, List.set_cons_succ])
  refine Vc.wpAnyH_read (i := 4) (d := some 9) (v := ?vz10) (by rfl) (by rfl) (by kernel_rfl) (by kernel_rfl) (by kernel_rfl) (fun _ _ _ h => h) (by rfl) ?hyz10 (by assumption) ?restz10
  case hyz10 =>
    intro w hSw
    obtain ⟨s0, s1⟩ := hSw
    go_simp
    try with_reducible rfl
  (try simp only [Act.put, List.setIfInBounds_toArray, List.set_cons_zero, List.set_cons_succ])
  refine Vc.wpAnyH_read (i := 5) (d := some 10) (v := ?vz11) (by rfl) (by rfl) (by kernel_rfl) (by kernel_rfl) (by kernel_rfl) (fun _ _ _ h => h) (by rfl) ?hyz11 (by assumption) ?restz11
  case hyz11 =>
    intro w hSw
    obtain ⟨s0, s1⟩ := hSw
    go_simp
    try with_reducible rfl
  (try simp only [Act.put, List.setIfInBounds_toArray, List.set_cons_zero, List.set_cons_succ])
  refine wpAnyH_ready (rs := [3]) (by kernel_rfl) (by simp) ?_
  refine AllReadyH.cons rfl (fun K hK => ?_) AllReadyH.nil
  go_simp
  go_at_call 41
  refine (rnum_row H0.out k.1 6 (by omega) (by omega) (by have := HM.out; omega)).mono ?_
  rintro e w2 ⟨A2, n2, c2, rfl, hrow, hb⟩
  have H2 := Lib.hid hrow
  have HR2 := Lib.hid (HR.out.trans (hb.mono HR.out.size))
  have HB2 := Lib.hid (HB0.out.trans (hb.mono HB0.out.size))
  clear hrow hb
  refine hK.out _ _ (HS.out _ HR2.out) (fun hHeld => ?_)
  clear hK K
  (try simp only [Act.put, List.setIfInBounds_toArray, List.set_cons_zero, List.set_cons_succ])
  refine wpAnyH_ready (rs := [6]) (by kernel_rfl) (by simp) ?_
  refine AllReadyH.cons rfl (fun K hK => ?_) AllReadyH.nil
  go_simp
  go_at_call 41
  refine (rnum_row H2.out k.2 6 (by omega) (by omega) (by have := HM.out; rw [List.length_append, numB_len]; omega)).mono ?_
  rintro e w3 ⟨A3, n3, c3, rfl, hrow, hb⟩
  have H3 := Lib.hid hrow
  have HR3 := Lib.hid (HR2.out.trans (hb.mono HR2.out.size))
  have HB3 := Lib.hid (HB2.out.trans (hb.mono HB2.out.size))
  clear hrow hb
  refine hK.out _ _ (HS.out _ HR3.out) (fun hHeld => ?_)
  clear hK K
  (try simp only [Act.put, List.setIfInBounds_toArray, List.set_cons_zero, List.set_cons_succ])
  refine Vc.wpAnyH_read (i := 7) (d := some 4) (v := ?vz12) (by rfl) (by rfl) (by kernel_rfl) (by kernel_rfl) (by kernel_rfl) (fun _ _ _ h => h) (by rfl) ?hyz12 (by assumption) ?restz12
  case hyz12 =>
    intro w hSw
    obtain ⟨s0, s1⟩ := hSw
    go_simp
    try with_reducible rfl
  (try simp only [Act.put, List.setIfInBounds_toArray, List.set_cons_zero, List.set_cons_succ])
  refine wpAnyH_done (by kernel_rfl) ?_ _
  go_wp2
  go_ret
  exact ⟨_, _, _, rfl, by unfold markB; rw [← List.append_assoc]; exact H3.out, HB3.out⟩
end Go.Proofs.YtfjmcklmoebnaaaDoor.Mg
