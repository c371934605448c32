/- Join: slices.DeleteFunc by a closure, over a row that one owns. -/
import Derived.Test.YtblogecapegbmaaGreatJoS
namespace Go.Proofs.YtblogecapegbmaaGreat.Jn
open Go.RowKit Go.Proofs.YtblogecapegbmaaGreat.Mem
set_option linter.unusedVariables false set_option linter.unusedSimpArgs false set_option linter.unusedSectionVars false

theorem wpList_clear {P : Program} {ops : Array Oper} {rest : List Oper} {o : Oper} {a : Act} {w : World} {Q : Exit → Act → World → Prop} (x : Operand) (t : TypeId) (ho : o.op = .call { callee := .builtin .clear, args := #[x], argTypes := #[t] }) (v : Value) (w2 : World)
  (h : (o.guard = none ∧ o.dst = none ∧ a.eval x = v ∧ ∀ ty, (Builtin.clear_ #[t] ty #[v]).run P w = .ok (.tuple #[]) w2) ∧ wpList P ops Q rest a w2) : wpList P ops Q (o :: rest) a w := by
 obtain ⟨⟨h1, h0, h2, h3⟩, h4⟩ := h
 refine wpList_plain h1 fun K hK => ?_
 have hr := h3 o.type
 unfold Oper.wp
 have q := hK a w2 h4
 simp [execOp, ho, resolve, invoke, builtin, h2, hr, Result.andThen]
 show K (a.put o.dst (.tuple #[])) w2
 rw [h0]
 exact q
theorem zero_mem {Z : Array Value} {n : Nat} {v : Value} (hz : 0 < Z.size) (h1 : Z.all (·.oneCell') = true) (h : v ∈ (Builtin.zeroCells Z n).toList) : v.oneCell' = true := by
 unfold Builtin.zeroCells at h
 simp only [Array.toList_map, List.mem_map] at h
 obtain ⟨i, _, rfl⟩ := h
 have hm := Nat.mod_lt i hz
 rw [getElem!_pos Z _ hm]
 exact (Array.all_eq_true.1 h1) _ hm
theorem zero_len (Z : Array Value) (n : Nat) : (Builtin.zeroCells Z n).toList.length = n * Z.size := by
 unfold Builtin.zeroCells
 simp
/-- What the loop keeps: what is kept stands in front, what is to come stands as it stood. -/
structure DvI {α : Type} (S : Nat → Prop) (w wr : World) (B : Nat) (E : TypeId) (k : Nat) (C : α → Array Value) (P : α → Bool) (g n c : Nat) (xs zs : List α) (i j : Nat) : Prop where
 chg : Chg S w wr
 own : OwnK wr B E k C (.slice (some ⟨g, 0, none⟩) n c) zs
 low : zs.take i = (xs.take j).filter fun y => !P y
 high : zs.drop j = xs.drop j
 len : zs.length = xs.length
section
variable {α : Type} {S : Nat → Prop} {w wr w2 : World} {B : Nat} {E : TypeId} {k : Nat} {C : α → Array Value} {P : α → Bool} {g n c : Nat} {xs zs : List α} {i j : Nat}
theorem DvI.low2 (h : DvI S w wr B E k C P g n c xs zs i j) (hb : Below wr.heap.size wr w2) : DvI S w w2 B E k C P g n c xs zs i j := ⟨h.chg.trans (Chg.of_below hb S), h.own.below hb, h.low, h.high, h.len⟩
theorem DvI.at_ (h : DvI S w wr B E k C P g n c xs zs i j) {y : α} (hj : j < xs.length) (hy : xs[j] = y) : ∃ hz : j < zs.length, zs[j] = y := by
 have hz : j < zs.length := by rw [h.len]; exact hj
 refine ⟨hz, ?_⟩
 have e1 : zs.drop j = zs[j] :: zs.drop (j + 1) := List.drop_eq_getElem_cons hz
 have e2 : xs.drop j = xs[j] :: xs.drop (j + 1) := List.drop_eq_getElem_cons hj
 have := h.high
 rw [e1, e2] at this
 rw [← hy]
 exact (List.cons.inj this).1
theorem drop_more {l r : List α} {j : Nat} (h : l.drop j = r.drop j) : l.drop (j + 1) = r.drop (j + 1) := by
 rw [← List.drop_drop, ← List.drop_drop, h]
theorem DvI.gone (h : DvI S w wr B E k C P g n c xs zs i j) {y : α} (hj : j < xs.length) (hy : xs[j] = y) (hp : P y = true) : DvI S w wr B E k C P g n c xs zs i (j + 1) := ⟨h.chg, h.own, by
  rw [List.take_succ_eq_append_getElem hj, hy, List.filter_append, ← h.low]
  simp [hp], drop_more h.high, h.len⟩
theorem DvI.kept (h : DvI S w wr B E k C P g n c xs zs i j) {y : α} (hj : j < xs.length) (hy : xs[j] = y) (hp : P y = false) (hij : i ≤ j) (hc : Chg S wr w2) (ho : OwnK w2 B E k C (.slice (some ⟨g, 0, none⟩) n c) (zs.set i y)) : DvI S w w2 B E k C P g n c xs (zs.set i y) (i + 1) (j + 1) := by
 have hi : i < (zs.set i y).length := by rw [List.length_set, h.len]; omega
 refine ⟨h.chg.trans hc, ho, ?_, ?_, by rw [List.length_set]; exact h.len⟩
 ·rw [List.take_succ_eq_append_getElem hi, List.take_succ_eq_append_getElem hj, hy, List.filter_append, ← h.low, List.getElem_set_self]
  have e : (zs.set i y).take i = zs.take i := by rw [take_set, List.set_eq_of_length_le (by rw [List.length_take]; omega)]
  rw [e]
  simp [hp]
 ·rw [List.drop_set_of_lt (by omega)]
  exact drop_more h.high
theorem DvI.start (hc : Chg S w wr) (ho : OwnK wr B E k C (.slice (some ⟨g, 0, none⟩) n c) xs) (hj : j < xs.length) (hp : P xs[j] = true) (hb : ∀ y ∈ xs.take j, P y = false) : DvI S w wr B E k C P g n c xs xs j (j + 1) := ⟨hc, ho, by
  rw [List.take_succ_eq_append_getElem hj, List.filter_append]
  have e : (xs.take j).filter (fun y => !P y) = xs.take j := List.filter_eq_self.2 fun y hy => by rw [hb y hy]; rfl
  rw [e]
  simp [hp], rfl, rfl⟩
end
theorem zeroNv (w : World) : (zeroValue 46).run Tryz.prog w = .ok (.agg zeroN) w := by
 have hz := Tryz.zeroValue46
 go_simp
 try rfl
set_option maxRecDepth 100000 in
set_option maxHeartbeats 16000000 in
theorem deleteN_any (B : Nat) (A : Option Addr) (c : Nat) (xs : List Fc.NodeC) (fid : FuncId) (caps : Array Value) (hcf : ∀ args V, (callFunc fid args).run Tryz.prog V = .ok (.enter fid args) V) (P : Fc.NodeC → Bool) (hn : xs.length ≤ 800000) (w : World) (ho : OwnK w B 46 13 Fc.nodeC (.slice A xs.length c) xs)
  (h : ∀ V, Chg (fun q => (Value.slice A xs.length c).ownBlock = some q) w V → ∀ x ∈ xs, Calls Tryz.prog fid (#[.agg (Fc.nodeC x)] ++ caps) V fun e V' => e = .returned (.bool (P x)) ∧ Below V.heap.size V V') :
  Calls Tryz.prog 96 #[.slice A xs.length c, .func (.func fid) #[] caps] w fun e w' => ∃ v, e = .returned v ∧ OwnK w' B 46 13 Fc.nodeC v (xs.filter fun y => !P y) ∧ Chg (fun q => (Value.slice A xs.length c).ownBlock = some q) w w' := by
 have HF := Lib.hid (firstN_any A xs.length c xs fid caps hcf P (by omega) w (OwnK.srow2 ho (fun _ => rfl) rfl) (fun V hV x hx => h V (Chg.of_below hV _) x hx))
 have HO := Lib.hid ho
 have HG := Lib.hid h
 obtain ⟨n, hnx⟩ : ∃ n, n = xs.length := ⟨_, rfl⟩
 have HNX := Lib.hid hnx
 have hn2 : n ≤ 800000 := by omega
 clear ho h
 rw [← hnx]
 rw [← hnx] at HF
 clear hnx hn
 go_enter Tryz.func96, Tryz.ntmps96
 go_wp2_with fail
 refine HF.out.mono ?_
 rintro e w2 ⟨hfi, hb⟩
 have HB := Lib.hid hb
 have HO2 := Lib.hid (HO.out.below hb)
 clear hb HF
 rcases hfi with ⟨j0, hj0, rfl, hp0, hbef⟩ | ⟨rfl, hall⟩
 ·have hA : ∃ g, A = some ⟨g, 0, none⟩ := by
   rcases HO2.out.sl with ⟨_, q⟩ | ⟨g, cap, e, _⟩
   ·rw [q] at hj0; cases hj0
   ·injection e with e1 e2 e3; exact ⟨g, e1⟩
  obtain ⟨g, rfl⟩ := hA
  have HI0 := Lib.hid (show DvI (fun q => (Value.slice (some ⟨g, 0, none⟩) xs.length c).ownBlock = some q) w w2 B 46 13 Fc.nodeC P g xs.length c xs xs j0 (j0 + 1) from DvI.start (Chg.of_below HB.out _) HO2.out hj0 hp0 hbef)
  have hjn : j0 + 1 ≤ n := by have := HNX.out; omega
  obtain ⟨off, hoff⟩ : ∃ off : Nat, off = 0 := ⟨_, rfl⟩
  have HOFF := Lib.hid hoff
  have hne : ((j0 : Int) == -1) = false := by simp <;> omega
  have hne2 : decide ((j0 : Int) = -1) = false := by simp <;> omega
  rw [show (some ⟨g, 0, none⟩ : Option Addr) = some ⟨g, off, none⟩ by rw [hoff]]
  clear hp0 hbef HO2 HB HO hoff hj0
  go_wp2
  go_loopw [5, 6] (fun a b wr => ∃ i j : Nat, a = .int .i64 i ∧ b = .int .i64 j ∧ i < j ∧ j ≤ n ∧ ∃ zs, Hid (DvI (fun q => (Value.slice (some ⟨g, 0, none⟩) xs.length c).ownBlock = some q) w wr B 46 13 Fc.nodeC P g xs.length c xs zs i j)) (fun _ b _ => n - (intOf b).toNat)
  case atStart => exact ⟨j0, j0 + 1, rfl, by go_num, Nat.lt_succ_self _, hjn, xs, HI0⟩
  case round =>
   clear HI0
   obtain ⟨i, j, rfl, rfl, hij, hj, zs, HI⟩ := hrel
   by_cases hlt : j < n
   ·have hjx : j < xs.length := by have := HNX.out; omega
    obtain ⟨y, hy⟩ : ∃ y, xs[j] = y := ⟨_, rfl⟩
    obtain ⟨hz, hzy⟩ := HI.out.at_ hjx hy
    have mr : wr.rangeAt g (off + j * 13) (Fc.nodeC y).toList := by
     obtain ⟨b, o2, e1, _, hx, m⟩ := (OwnK.srow2 HI.out.own (fun _ => rfl) HI.out.len.symm).range (i := j) hjx
     cases e1
     rw [hzy] at m
     rw [HOFF.out]
     exact m
    have MR := Lib.hid mr
    have HN1 := Lib.hid (Has.fresh wr 46 (Fc.nodeC y))
    have HI1 := Lib.hid (HI.out.low2 ((Below.refl wr.heap.size wr).alloc (Nat.le_refl _) (.cells (Fc.nodeC y) 46)))
    have HZ := Lib.hid (HG.out _ HI1.out.chg y (hy ▸ List.getElem_mem hjx))
    have HJ := Lib.hid (And.intro hjx hy)
    have HGL := Lib.hid (show g < wr.heap.size from by
     rcases HI.out.own.sl with ⟨e, _⟩ | ⟨g2, cap, e, _, hl, _⟩
     ·cases e
     ·injection e with e1 e2 e3; cases e1; exact hl)
    have hlti : (j : Int) < (n : Int) := by omega
    have hiti : (i : Int) < (n : Int) := by omega
    clear mr hzy HI hy
    go_wp2_with (first | ((with_reducible refine Who.wpList_loadC 46 (.tmp 24) rfl (g) (off + j * 13) (Fc.nodeC y) ?_); refine And.intro ⟨by rfl, by rfl, ⟨_, Tryz.underlying46, rfl⟩, infoN⟩ (And.intro (MR.out) ?_)) | ((with_reducible refine Who.wpList_newC 46 7 (.tmp 25) rfl rfl rfl (zeroN) (Fc.nodeC y) ?_); refine And.intro ⟨rfl, rfl, rfl, allocN, by rfl, by rfl, infoN, rfl, oneN _⟩ ?_; (try simp only [Act.put, List.setIfInBounds_toArray, List.set_cons_zero, List.set_cons_succ]); (try simp only [World.size_alloc])) | ((with_reducible refine Who.wpList_loadC 46 (.tmp 7) rfl (wr.heap.size) 0 (Fc.nodeC y) ?_); refine And.intro ⟨by rfl, by rfl, ⟨_, Tryz.underlying46, rfl⟩, infoN⟩ (And.intro (Who.has_range HN1.out) ?_)) | fail)
    refine HZ.out.mono ?_
    rintro e w4 ⟨rfl, hb⟩
    have HI2 := Lib.hid (HI1.out.low2 hb)
    have HN2 := Lib.hid (HN1.out.below hb)
    clear hb HI1 HN1 HZ
    cases hp : P y with
    | true =>
     have HI3 := Lib.hid (HI2.out.gone HJ.out.1 HJ.out.2 hp)
     clear hp
     go_wp2
     go_roundw
     case rel => exact ⟨i, j + 1, rfl, by go_num, by omega, by omega, zs, HI3⟩
     case measure => simp [intOf]; omega
    | false =>
     obtain ⟨cur, hcur, hcs⟩ := HI2.out.own.cur
     have HCU := Lib.hid hcur
     have HCS := Lib.hid (show off + i * 13 + (Fc.nodeC y).size ≤ cur.size from by
      have h1 : (i + 1) * 13 ≤ zs.length * 13 := Nat.mul_le_mul_right 13 (by have := HI2.out.len; have := HJ.out.1; omega)
      have h2 : (Fc.nodeC y).size = 13 := rfl
      rw [HOFF.out, h2]
      omega)
     have HPF := Lib.hid hp
     clear hp hcur hcs
     go_wp2_with (first | ((with_reducible refine Who.wpList_loadC 46 (.tmp 7) rfl (wr.heap.size) 0 (Fc.nodeC y) ?_); refine And.intro ⟨by rfl, by rfl, ⟨_, Tryz.underlying46, rfl⟩, infoN⟩ (And.intro (Who.has_range HN2.out) ?_)) | ((with_reducible refine wpList_storeH (T := 46) 46 (.tmp 33) (.tmp 32) rfl g (off + i * 13) (cur) (Fc.nodeC y) (Lib.lay cur (off + i * 13) (Fc.nodeC y).toList) ?_); refine And.intro ⟨rfl, by rfl, by rfl, infoN, oneN _, HCS.out, rfl, HCU.out⟩ ?_; intro W5 HX5 HC5) | fail)
     have HI3 := Lib.hid (HI2.out.kept HJ.out.1 HJ.out.2 HPF.out (Nat.le_of_lt hij) (HC5.out.mono fun q hq => by rw [hq]; rfl) (OwnK.sets HI2.out.own (fun _ => rfl) (by decide) (by have := HI2.out.len; have := HJ.out.1; omega) HCU.out (by have q := HX5.out; rw [HOFF.out, Nat.zero_add] at q; exact q)))
     go_wp2
     go_roundw
     case rel => exact ⟨i + 1, j + 1, by go_num, by go_num, by omega, by omega, zs.set i y, HI3⟩
     case measure => simp [intOf]; omega
   ·have hjn2 : j = n := by omega
    have HEN := Lib.hid (show zs.take i = xs.filter (fun y => !P y) from by rw [HI.out.low, hjn2, HNX.out, List.take_length])
    obtain ⟨cur, hcur, hcs⟩ := HI.out.own.cur
    have hin : i < n := by omega
    have hic : i < c := by
     rcases HI.out.own.2 with ⟨e, _⟩ | ⟨g2, cap, cur2, e, _, _, hl, _⟩
     ·cases e
     ·injection e with e1 e2 e3; have := HI.out.len; have := HNX.out; omega
    have hci : (c == i) = false := by simp <;> omega
    have hci2 : ¬ c = i := by omega
    have hni : 0 < n - i := by omega
    have hlen := zero_len zeroN (n - i)
    have hzs : zeroN.size = 13 := rfl
    have hbound : off + i * 13 + (Builtin.zeroCells zeroN (n - i)).toList.length ≤ cur.size := by
     rw [hlen, hzs, HOFF.out]
     have h1 := HI.out.len
     have h2 := HNX.out
     have h3 : (n - i) * 13 + i * 13 = n * 13 := by rw [← Nat.add_mul]; congr 1; omega
     rw [h1, ← h2] at hcs
     omega
    obtain ⟨W9, hW9⟩ : ∃ W, W = wr.setCells g (off + i * 13) (Builtin.zeroCells zeroN (n - i)).toList := ⟨_, rfl⟩
    have HCL := Lib.hid (show ∀ ty c2, (Builtin.clear_ #[24] ty #[.slice (some ⟨g, off + i * 13, none⟩) (n - i) c2]).run Tryz.prog wr = .ok (.tuple #[]) W9 from fun ty c2 => by
     rw [hW9]
     exact run_clear_any wr 24 46 ty (.agg zeroN) Tryz.underlying24 zeroNv (fun _ _ => trivial) g (off + i * 13) (n - i) c2 hni (fun v hv => zero_mem (Z := zeroN) (by decide) (by simp [zeroN, Value.oneCell']) hv) (fun t ht => by
      rw [hcur.at_ (off + i * 13 + t)]
      have hq : t < (Builtin.zeroCells zeroN (n - i)).toList.length := ht
      simp; omega) (fun t ht => hcur.free _))
    have HX9 := Lib.hid (show Has W9 g 46 (Lib.lay cur (off + i * 13) (Builtin.zeroCells zeroN (n - i)).toList) from by rw [hW9]; exact Who.has_setCells _ _ _ _ hcur)
    have HC9 := Lib.hid (show Chg (· = g) wr W9 from by rw [hW9]; exact Who.chg_setCells g _ _ _)
    have HFO := Lib.hid (show OwnK W9 B 46 13 Fc.nodeC (.slice (some ⟨g, 0, none⟩) i c) (xs.filter fun y => !P y) from by
     rw [← HEN.out]
     refine OwnK.cut HI.out.own (fun _ => rfl) (by have := HI.out.len; have := HNX.out; omega) hcur HX9.out (Lib.lay_size _ _ _) fun t ht => ?_
     rw [Lib.lay_get? _ _ _ _ hbound, if_neg (by rw [HOFF.out]; omega)])
    have HFC := Lib.hid (HI.out.chg.trans (HC9.out.mono fun q hq => by rw [hq]; rfl))
    have htn : ((n : Int) - (i : Int)).toNat = n - i := by omega
    have hii : (i : Int) ≤ (n : Int) := by omega
    have hicI : (i : Int) < (c : Int) := by omega
    clear hW9 hcur hcs HI hlen hbound
    go_wp2_with ((with_reducible refine wpList_clear (.tmp 38) 24 rfl (.slice (some ⟨g, off + i * 13, none⟩) (n - i) (c - i)) W9 ?_); refine And.intro ⟨rfl, rfl, by rfl, fun ty => HCL.out ty _⟩ ?_)
    go_ret
    refine ⟨_, rfl, ?_, HFC.out⟩
    have q := HFO.out
    rw [← HOFF.out] at q
    exact q
 ·have HALL := Lib.hid (show xs.filter (fun y => !P y) = xs from List.filter_eq_self.2 fun y hy => by rw [hall y hy]; rfl)
  clear hall
  go_wp2
  go_ret
  exact ⟨_, rfl, by rw [HALL.out]; have q := HO2.out; rw [← HNX.out] at q; exact q, Chg.of_below HB.out _⟩
theorem zeroLv (w : World) : (zeroValue 51).run Tryz.prog w = .ok (.agg zeroL) w := by
 have hz := Tryz.zeroValue51
 go_simp
 try rfl
set_option maxRecDepth 100000 in
set_option maxHeartbeats 16000000 in
theorem deleteL_any (B : Nat) (A : Option Addr) (c : Nat) (xs : List Fc.LinkP) (fid : FuncId) (caps : Array Value) (hcf : ∀ args V, (callFunc fid args).run Tryz.prog V = .ok (.enter fid args) V) (P : Fc.LinkP → Bool) (hn : xs.length ≤ 800000) (w : World) (ho : OwnK w B 51 25 Fc.linkC (.slice A xs.length c) xs)
  (h : ∀ V, Chg (fun q => (Value.slice A xs.length c).ownBlock = some q) w V → ∀ x ∈ xs, Calls Tryz.prog fid (#[.agg (Fc.linkC x)] ++ caps) V fun e V' => e = .returned (.bool (P x)) ∧ Below V.heap.size V V') :
  Calls Tryz.prog 98 #[.slice A xs.length c, .func (.func fid) #[] caps] w fun e w' => ∃ v, e = .returned v ∧ OwnK w' B 51 25 Fc.linkC v (xs.filter fun y => !P y) ∧ Chg (fun q => (Value.slice A xs.length c).ownBlock = some q) w w' := by
 have HF := Lib.hid (firstL_any A xs.length c xs fid caps hcf P (by omega) w (OwnK.srow2 ho (fun _ => rfl) rfl) (fun V hV x hx => h V (Chg.of_below hV _) x hx))
 have HO := Lib.hid ho
 have HG := Lib.hid h
 obtain ⟨n, hnx⟩ : ∃ n, n = xs.length := ⟨_, rfl⟩
 have HNX := Lib.hid hnx
 have hn2 : n ≤ 800000 := by omega
 clear ho h
 rw [← hnx]
 rw [← hnx] at HF
 clear hnx hn
 go_enter Tryz.func98, Tryz.ntmps98
 go_wp2_with fail
 refine HF.out.mono ?_
 rintro e w2 ⟨hfi, hb⟩
 have HB := Lib.hid hb
 have HO2 := Lib.hid (HO.out.below hb)
 clear hb HF
 rcases hfi with ⟨j0, hj0, rfl, hp0, hbef⟩ | ⟨rfl, hall⟩
 ·have hA : ∃ g, A = some ⟨g, 0, none⟩ := by
   rcases HO2.out.sl with ⟨_, q⟩ | ⟨g, cap, e, _⟩
   ·rw [q] at hj0; cases hj0
   ·injection e with e1 e2 e3; exact ⟨g, e1⟩
  obtain ⟨g, rfl⟩ := hA
  have HI0 := Lib.hid (show DvI (fun q => (Value.slice (some ⟨g, 0, none⟩) xs.length c).ownBlock = some q) w w2 B 51 25 Fc.linkC P g xs.length c xs xs j0 (j0 + 1) from DvI.start (Chg.of_below HB.out _) HO2.out hj0 hp0 hbef)
  have hjn : j0 + 1 ≤ n := by have := HNX.out; omega
  obtain ⟨off, hoff⟩ : ∃ off : Nat, off = 0 := ⟨_, rfl⟩
  have HOFF := Lib.hid hoff
  have hne : ((j0 : Int) == -1) = false := by simp <;> omega
  have hne2 : decide ((j0 : Int) = -1) = false := by simp <;> omega
  rw [show (some ⟨g, 0, none⟩ : Option Addr) = some ⟨g, off, none⟩ by rw [hoff]]
  clear hp0 hbef HO2 HB HO hoff hj0
  go_wp2
  go_loopw [5, 6] (fun a b wr => ∃ i j : Nat, a = .int .i64 i ∧ b = .int .i64 j ∧ i < j ∧ j ≤ n ∧ ∃ zs, Hid (DvI (fun q => (Value.slice (some ⟨g, 0, none⟩) xs.length c).ownBlock = some q) w wr B 51 25 Fc.linkC P g xs.length c xs zs i j)) (fun _ b _ => n - (intOf b).toNat)
  case atStart => exact ⟨j0, j0 + 1, rfl, by go_num, Nat.lt_succ_self _, hjn, xs, HI0⟩
  case round =>
   clear HI0
   obtain ⟨i, j, rfl, rfl, hij, hj, zs, HI⟩ := hrel
   by_cases hlt : j < n
   ·have hjx : j < xs.length := by have := HNX.out; omega
    obtain ⟨y, hy⟩ : ∃ y, xs[j] = y := ⟨_, rfl⟩
    obtain ⟨hz, hzy⟩ := HI.out.at_ hjx hy
    have mr : wr.rangeAt g (off + j * 25) (Fc.linkC y).toList := by
     obtain ⟨b, o2, e1, _, hx, m⟩ := (OwnK.srow2 HI.out.own (fun _ => rfl) HI.out.len.symm).range (i := j) hjx
     cases e1
     rw [hzy] at m
     rw [HOFF.out]
     exact m
    have MR := Lib.hid mr
    have HN1 := Lib.hid (Has.fresh wr 51 (Fc.linkC y))
    have HI1 := Lib.hid (HI.out.low2 ((Below.refl wr.heap.size wr).alloc (Nat.le_refl _) (.cells (Fc.linkC y) 51)))
    have HZ := Lib.hid (HG.out _ HI1.out.chg y (hy ▸ List.getElem_mem hjx))
    have HJ := Lib.hid (And.intro hjx hy)
    have HGL := Lib.hid (show g < wr.heap.size from by
     rcases HI.out.own.sl with ⟨e, _⟩ | ⟨g2, cap, e, _, hl, _⟩
     ·cases e
     ·injection e with e1 e2 e3; cases e1; exact hl)
    have hlti : (j : Int) < (n : Int) := by omega
    have hiti : (i : Int) < (n : Int) := by omega
    clear mr hzy HI hy
    go_wp2_with (first | ((with_reducible refine Who.wpList_loadC 51 (.tmp 24) rfl (g) (off + j * 25) (Fc.linkC y) ?_); refine And.intro ⟨by rfl, by rfl, ⟨_, Tryz.underlying51, rfl⟩, info_link⟩ (And.intro (MR.out) ?_)) | ((with_reducible refine Who.wpList_newC 51 7 (.tmp 25) rfl rfl rfl (zeroL) (Fc.linkC y) ?_); refine And.intro ⟨rfl, rfl, rfl, allocL, by rfl, by rfl, info_link, rfl, own1 _⟩ ?_; (try simp only [Act.put, List.setIfInBounds_toArray, List.set_cons_zero, List.set_cons_succ]); (try simp only [World.size_alloc])) | ((with_reducible refine Who.wpList_loadC 51 (.tmp 7) rfl (wr.heap.size) 0 (Fc.linkC y) ?_); refine And.intro ⟨by rfl, by rfl, ⟨_, Tryz.underlying51, rfl⟩, info_link⟩ (And.intro (Who.has_range HN1.out) ?_)) | fail)
    refine HZ.out.mono ?_
    rintro e w4 ⟨rfl, hb⟩
    have HI2 := Lib.hid (HI1.out.low2 hb)
    have HN2 := Lib.hid (HN1.out.below hb)
    clear hb HI1 HN1 HZ
    cases hp : P y with
    | true =>
     have HI3 := Lib.hid (HI2.out.gone HJ.out.1 HJ.out.2 hp)
     clear hp
     go_wp2
     go_roundw
     case rel => exact ⟨i, j + 1, rfl, by go_num, by omega, by omega, zs, HI3⟩
     case measure => simp [intOf]; omega
    | false =>
     obtain ⟨cur, hcur, hcs⟩ := HI2.out.own.cur
     have HCU := Lib.hid hcur
     have HCS := Lib.hid (show off + i * 25 + (Fc.linkC y).size ≤ cur.size from by
      have h1 : (i + 1) * 25 ≤ zs.length * 25 := Nat.mul_le_mul_right 25 (by have := HI2.out.len; have := HJ.out.1; omega)
      have h2 : (Fc.linkC y).size = 25 := rfl
      rw [HOFF.out, h2]
      omega)
     have HPF := Lib.hid hp
     clear hp hcur hcs
     go_wp2_with (first | ((with_reducible refine Who.wpList_loadC 51 (.tmp 7) rfl (wr.heap.size) 0 (Fc.linkC y) ?_); refine And.intro ⟨by rfl, by rfl, ⟨_, Tryz.underlying51, rfl⟩, info_link⟩ (And.intro (Who.has_range HN2.out) ?_)) | ((with_reducible refine wpList_storeH (T := 51) 51 (.tmp 33) (.tmp 32) rfl g (off + i * 25) (cur) (Fc.linkC y) (Lib.lay cur (off + i * 25) (Fc.linkC y).toList) ?_); refine And.intro ⟨rfl, by rfl, by rfl, info_link, own1 _, HCS.out, rfl, HCU.out⟩ ?_; intro W5 HX5 HC5) | fail)
     have HI3 := Lib.hid (HI2.out.kept HJ.out.1 HJ.out.2 HPF.out (Nat.le_of_lt hij) (HC5.out.mono fun q hq => by rw [hq]; rfl) (OwnK.sets HI2.out.own (fun _ => rfl) (by decide) (by have := HI2.out.len; have := HJ.out.1; omega) HCU.out (by have q := HX5.out; rw [HOFF.out, Nat.zero_add] at q; exact q)))
     go_wp2
     go_roundw
     case rel => exact ⟨i + 1, j + 1, by go_num, by go_num, by omega, by omega, zs.set i y, HI3⟩
     case measure => simp [intOf]; omega
   ·have hjn2 : j = n := by omega
    have HEN := Lib.hid (show zs.take i = xs.filter (fun y => !P y) from by rw [HI.out.low, hjn2, HNX.out, List.take_length])
    obtain ⟨cur, hcur, hcs⟩ := HI.out.own.cur
    have hin : i < n := by omega
    have hic : i < c := by
     rcases HI.out.own.2 with ⟨e, _⟩ | ⟨g2, cap, cur2, e, _, _, hl, _⟩
     ·cases e
     ·injection e with e1 e2 e3; have := HI.out.len; have := HNX.out; omega
    have hci : (c == i) = false := by simp <;> omega
    have hci2 : ¬ c = i := by omega
    have hni : 0 < n - i := by omega
    have hlen := zero_len zeroL (n - i)
    have hzs : zeroL.size = 25 := rfl
    have hbound : off + i * 25 + (Builtin.zeroCells zeroL (n - i)).toList.length ≤ cur.size := by
     rw [hlen, hzs, HOFF.out]
     have h1 := HI.out.len
     have h2 := HNX.out
     have h3 : (n - i) * 25 + i * 25 = n * 25 := by rw [← Nat.add_mul]; congr 1; omega
     rw [h1, ← h2] at hcs
     omega
    obtain ⟨W9, hW9⟩ : ∃ W, W = wr.setCells g (off + i * 25) (Builtin.zeroCells zeroL (n - i)).toList := ⟨_, rfl⟩
    have HCL := Lib.hid (show ∀ ty c2, (Builtin.clear_ #[25] ty #[.slice (some ⟨g, off + i * 25, none⟩) (n - i) c2]).run Tryz.prog wr = .ok (.tuple #[]) W9 from fun ty c2 => by
     rw [hW9]
     exact run_clear_any wr 25 51 ty (.agg zeroL) Tryz.underlying25 zeroLv (fun _ _ => trivial) g (off + i * 25) (n - i) c2 hni (fun v hv => zero_mem (Z := zeroL) (by decide) (by simp [zeroL, Value.oneCell']) hv) (fun t ht => by
      rw [hcur.at_ (off + i * 25 + t)]
      have hq : t < (Builtin.zeroCells zeroL (n - i)).toList.length := ht
      simp; omega) (fun t ht => hcur.free _))
    have HX9 := Lib.hid (show Has W9 g 51 (Lib.lay cur (off + i * 25) (Builtin.zeroCells zeroL (n - i)).toList) from by rw [hW9]; exact Who.has_setCells _ _ _ _ hcur)
    have HC9 := Lib.hid (show Chg (· = g) wr W9 from by rw [hW9]; exact Who.chg_setCells g _ _ _)
    have HFO := Lib.hid (show OwnK W9 B 51 25 Fc.linkC (.slice (some ⟨g, 0, none⟩) i c) (xs.filter fun y => !P y) from by
     rw [← HEN.out]
     refine OwnK.cut HI.out.own (fun _ => rfl) (by have := HI.out.len; have := HNX.out; omega) hcur HX9.out (Lib.lay_size _ _ _) fun t ht => ?_
     rw [Lib.lay_get? _ _ _ _ hbound, if_neg (by rw [HOFF.out]; omega)])
    have HFC := Lib.hid (HI.out.chg.trans (HC9.out.mono fun q hq => by rw [hq]; rfl))
    have htn : ((n : Int) - (i : Int)).toNat = n - i := by omega
    have hii : (i : Int) ≤ (n : Int) := by omega
    have hicI : (i : Int) < (c : Int) := by omega
    clear hW9 hcur hcs HI hlen hbound
    go_wp2_with ((with_reducible refine wpList_clear (.tmp 38) 25 rfl (.slice (some ⟨g, off + i * 25, none⟩) (n - i) (c - i)) W9 ?_); refine And.intro ⟨rfl, rfl, by rfl, fun ty => HCL.out ty _⟩ ?_)
    go_ret
    refine ⟨_, rfl, ?_, HFC.out⟩
    have q := HFO.out
    rw [← HOFF.out] at q
    exact q
 ·have HALL := Lib.hid (show xs.filter (fun y => !P y) = xs from List.filter_eq_self.2 fun y hy => by rw [hall y hy]; rfl)
  clear hall
  go_wp2
  go_ret
  exact ⟨_, rfl, by rw [HALL.out]; have q := HO2.out; rw [← HNX.out] at q; exact q, Chg.of_below HB.out _⟩
end Go.Proofs.YtblogecapegbmaaGreat.Jn
