/- Rows of numbers and of texts; slices.Equal of such. -/
import Derived.Test.YtepnckglnciinaaMem
import Derived.Test.YtepnckglnciinaaReg
import Derived.Deep.QuietTactic
import Derived.BigQuiet
import Derived.Deep.AppendLies
import Derived.Laws.AppendOwn
import Derived.Tactics2
namespace Go.Proofs.Ytepnckglnciinaa.Sm
open Go.RowKit Go.Proofs.Ytepnckglnciinaa.Mem
set_option linter.unusedVariables false

def NumRow (w : World) (A : Option Addr) (n : Nat) (xs : List Int) : Prop :=
  xs.length = n ∧ (0 < n → ∃ b off, A = some ⟨b, off, none⟩ ∧ b < w.heap.size ∧ ∀ i (h : i < xs.length), w.cell? ⟨b, off + i, none⟩ = some (.int .i64 xs[i]))
def TxtRow (w : World) (A : Option Addr) (n : Nat) (xs : List ByteArray) : Prop :=
  xs.length = n ∧ (0 < n → ∃ b off, A = some ⟨b, off, none⟩ ∧ b < w.heap.size ∧ ∀ i (h : i < xs.length), w.cell? ⟨b, off + i, none⟩ = some (.string xs[i]))
theorem NumRow.below {w w' : World} {A : Option Addr} {n : Nat} {xs : List Int} (h : NumRow w A n xs) (hb : Below w.heap.size w w') : NumRow w' A n xs :=
  ⟨h.1, fun hn => by
    obtain ⟨b, off, e, hl, hx⟩ := h.2 hn
    exact ⟨b, off, e, Nat.lt_of_lt_of_le hl hb.size, fun i hi => (hb.cell (p := ⟨b, off + i, none⟩) hl).trans (hx i hi)⟩⟩
theorem TxtRow.below {w w' : World} {A : Option Addr} {n : Nat} {xs : List ByteArray} (h : TxtRow w A n xs) (hb : Below w.heap.size w w') : TxtRow w' A n xs :=
  ⟨h.1, fun hn => by
    obtain ⟨b, off, e, hl, hx⟩ := h.2 hn
    exact ⟨b, off, e, Nat.lt_of_lt_of_le hl hb.size, fun i hi => (hb.cell (p := ⟨b, off + i, none⟩) hl).trans (hx i hi)⟩⟩
theorem below_drewN {B : Nat} {a w : World} (h : Below B a w) (n : Nat) : Below B a (w.drewN n) := ⟨h.os, h.tape, h.output, h.size, h.block⟩
theorem own_row {w : World} {b n : Nat} {e : TypeId} {u : Value} {α : Type} {f : α → Value} {l : List α} (h : w.ownsRow b e 1 u n (l.map f)) : ∃ A c, u = .slice A n c ∧ (0 < n → ∃ g off, A = some ⟨g, off, none⟩ ∧ g < w.heap.size ∧ ∀ i (hi : i < l.length), w.cell? ⟨g, off + i, none⟩ = some (f l[i])) := by
  rcases h.2 with ⟨e1, e0⟩ | ⟨g, cap, cur, e2, hb, hh, k⟩
  · exact ⟨none, 0, by rw [e1, e0], fun hn => by omega⟩
  · subst e2
    refine ⟨some ⟨g, 0, none⟩, cap, rfl, fun _ => ⟨g, 0, rfl, (Array.getElem?_eq_some_iff.1 hh).1, fun i hi => ?_⟩⟩
    have := World.ownsRow.cells h (g := g) rfl i (f l[i]) (by rw [List.getElem?_map, List.getElem?_eq_getElem hi]; rfl)
    have ha : (⟨g, 0, none⟩ : Addr).add i = ⟨g, 0 + i, none⟩ := by
      unfold Addr.add
      split
      · next h => rw [h]
      · simp
    rw [ha] at this
    exact this
theorem txt_same {x y : ByteArray} (h : x = y) : (x.toList == y.toList) = true := by subst h; simp
theorem txt_other {x y : ByteArray} (h : ¬ x = y) : (x.toList == y.toList) = false := by
  refine beq_eq_false_iff_ne.2 fun e => h ?_
  rw [ByteArray.toList_eq, ByteArray.toList_eq] at e
  obtain ⟨⟨d⟩⟩ := x
  obtain ⟨⟨k⟩⟩ := y
  simp at e
  rw [e]
theorem take_snoc_eq {α : Type} {l k : List α} {j : Nat} (h1 : j < l.length) (h2 : j < k.length) (h : l.take j = k.take j) (he : l[j] = k[j]) : l.take (j + 1) = k.take (j + 1) := by
  rw [List.take_succ_eq_append_getElem h1, List.take_succ_eq_append_getElem h2, h, he]
set_option maxRecDepth 100000 in
theorem eqi_any (A B : Option Addr) (n m c d : Nat) (l k : List Int) (hn : n ≤ 9223372036854775807) (w : World) (h : NumRow w A n l) (h2 : NumRow w B m k) :
    Calls Try.prog 14 #[.slice A n c, .slice B m d] w fun e w' => e = .returned (.bool (decide (l = k))) ∧ Below w.heap.size w w' := by
  have HR := Lib.hid h
  have HR2 := Lib.hid h2
  clear h h2
  go_enter Try.func14, Try.ntmps14
  by_cases hnm : n = m
  · subst hnm
    go_wp2
    go_loopw [13] (fun z wr => ∃ j : Nat, j ≤ n ∧ z = .int .i64 j ∧ l.take j = k.take j ∧ Below w.heap.size w wr) (fun z _ => n - (intOf z).toNat)
    case atStart => exact ⟨0, Nat.zero_le _, rfl, rfl, Below.refl _ _⟩
    case round =>
      obtain ⟨j, hj, rfl, ht, hb⟩ := hrel
      have HB := Lib.hid hb
      have HT := Lib.hid ht
      clear hb ht
      by_cases hlt : j < n
      · obtain ⟨b, off, rfl, hbl, hcl⟩ := (HR.out.below HB.out).2 (by omega)
        obtain ⟨b2, off2, rfl, hbl2, hcl2⟩ := (HR2.out.below HB.out).2 (by omega)
        have j1 : j < l.length := by rw [HR.out.1]; exact hlt
        have j2 : j < k.length := by rw [HR2.out.1]; exact hlt
        have c1 := hcl j j1
        have c2 := hcl2 j j2
        have HN := Lib.hid (take_snoc_eq j1 j2 HT.out)
        have HE := Lib.hid (show l[j] ≠ k[j] → decide (l = k) = false from fun he => decide_eq_false fun e => he (by subst e; rfl))
        clear hcl hcl2 hbl hbl2
        generalize l[j] = x at *
        generalize k[j] = y at *
        clear j1 j2
        by_cases hxy : x = y
        · have HN := Lib.hid (HN.out hxy)
          have t1 : (x != y) = false := by rw [hxy]; simp
          clear hxy HE
          go_wp2_with fail
          go_quiet (fail)
          go_wp2
          go_roundw
          case rel => exact ⟨j + 1, by omega, by go_num, HN.out, below_drewN HB.out _⟩
          case measure => simp [intOf]; omega
        · have t1 : (x != y) = true := by simpa using hxy
          have HF := Lib.hid (HE.out hxy)
          clear hxy HE
          go_wp2_with fail
          go_quiet (fail)
          go_wp2
          go_ret
          exact ⟨by rw [HF.out]; rfl, below_drewN HB.out _⟩
      · obtain rfl : j = n := by omega
        have he : decide (l = k) = true := by
          have := HT.out
          rw [List.take_of_length_le (by rw [HR.out.1]; exact Nat.le_refl _), List.take_of_length_le (by rw [HR2.out.1]; exact Nat.le_refl _)] at this
          exact decide_eq_true this
        have HF := Lib.hid he
        clear he
        go_wp2
        go_ret
        exact ⟨by rw [HF.out]; rfl, HB.out⟩
  · have t1 : ((n : Int) == (m : Int)) = false := beq_eq_false_iff_ne.2 (by omega)
    have he : decide (l = k) = false := decide_eq_false fun e => hnm (by rw [← HR.out.1, ← HR2.out.1, e])
    rw [he]
    clear he hnm
    go_wp2
    go_ret
    exact ⟨rfl, Below.refl _ _⟩
set_option maxRecDepth 100000 in
theorem eqs_any (A B : Option Addr) (n m c d : Nat) (l k : List ByteArray) (hn : n ≤ 9223372036854775807) (w : World) (h : TxtRow w A n l) (h2 : TxtRow w B m k) :
    Calls Try.prog 10 #[.slice A n c, .slice B m d] w fun e w' => e = .returned (.bool (decide (l = k))) ∧ Below w.heap.size w w' := by
  have HR := Lib.hid h
  have HR2 := Lib.hid h2
  clear h h2
  go_enter Try.func10, Try.ntmps10
  by_cases hnm : n = m
  · subst hnm
    go_wp2
    go_loopw [13] (fun z wr => ∃ j : Nat, j ≤ n ∧ z = .int .i64 j ∧ l.take j = k.take j ∧ Below w.heap.size w wr) (fun z _ => n - (intOf z).toNat)
    case atStart => exact ⟨0, Nat.zero_le _, rfl, rfl, Below.refl _ _⟩
    case round =>
      obtain ⟨j, hj, rfl, ht, hb⟩ := hrel
      have HB := Lib.hid hb
      have HT := Lib.hid ht
      clear hb ht
      by_cases hlt : j < n
      · obtain ⟨b, off, rfl, hbl, hcl⟩ := (HR.out.below HB.out).2 (by omega)
        obtain ⟨b2, off2, rfl, hbl2, hcl2⟩ := (HR2.out.below HB.out).2 (by omega)
        have j1 : j < l.length := by rw [HR.out.1]; exact hlt
        have j2 : j < k.length := by rw [HR2.out.1]; exact hlt
        have c1 := hcl j j1
        have c2 := hcl2 j j2
        have HN := Lib.hid (take_snoc_eq j1 j2 HT.out)
        have HE := Lib.hid (show l[j] ≠ k[j] → decide (l = k) = false from fun he => decide_eq_false fun e => he (by subst e; rfl))
        clear hcl hcl2 hbl hbl2
        generalize l[j] = x at *
        generalize k[j] = y at *
        clear j1 j2
        by_cases hxy : x = y
        · have HN := Lib.hid (HN.out hxy)
          have t1 : (x.toList == y.toList) = true := txt_same hxy
          clear hxy HE
          go_wp2_with fail
          go_quiet (fail)
          go_wp2
          go_roundw
          case rel => exact ⟨j + 1, by omega, by go_num, HN.out, below_drewN HB.out _⟩
          case measure => simp [intOf]; omega
        · have t1 : (x.toList == y.toList) = false := txt_other hxy
          have HF := Lib.hid (HE.out hxy)
          clear hxy HE
          go_wp2_with fail
          go_quiet (fail)
          go_wp2
          go_ret
          exact ⟨by rw [HF.out]; rfl, below_drewN HB.out _⟩
      · obtain rfl : j = n := by omega
        have he : decide (l = k) = true := by
          have := HT.out
          rw [List.take_of_length_le (by rw [HR.out.1]; exact Nat.le_refl _), List.take_of_length_le (by rw [HR2.out.1]; exact Nat.le_refl _)] at this
          exact decide_eq_true this
        have HF := Lib.hid he
        clear he
        go_wp2
        go_ret
        exact ⟨by rw [HF.out]; rfl, HB.out⟩
  · have t1 : ((n : Int) == (m : Int)) = false := beq_eq_false_iff_ne.2 (by omega)
    have he : decide (l = k) = false := decide_eq_false fun e => hnm (by rw [← HR.out.1, ← HR2.out.1, e])
    rw [he]
    clear he hnm
    go_wp2
    go_ret
    exact ⟨rfl, Below.refl _ _⟩
def OwnI (w : World) (B : Nat) (v : Value) (l : List Int) : Prop := w.ownsRow B 3 1 v l.length (l.map (Value.int .i64))
def OwnS (w : World) (B : Nat) (v : Value) (l : List ByteArray) : Prop := w.ownsRow B 9 1 v l.length (l.map Value.string)
theorem own1_chg {S : Nat → Prop} {w w' : World} {B : Nat} {t : TypeId} {v : Value} {n : Nat} {xs : List Value} (h : w.ownsRow B t 1 v n xs) (hc : Chg S w w') (hS : ∀ k, v.ownBlock = some k → ¬ S k) : w'.ownsRow B t 1 v n xs := by
  refine ⟨h.1, ?_⟩
  rcases h.2 with e | ⟨g, cap, cur, e, hg, hh, hr⟩
  · exact .inl e
  · refine .inr ⟨g, cap, cur, e, hg, ?_, hr⟩
    rw [hc.block g (Array.getElem?_eq_some_iff.1 hh).1 (hS g (by rw [e]; rfl))]
    exact hh
theorem own1_below {w w' : World} {B : Nat} {t : TypeId} {v : Value} {n : Nat} {xs : List Value} (h : w.ownsRow B t 1 v n xs) (hb : Below w.heap.size w w') : w'.ownsRow B t 1 v n xs := own1_chg h (Chg.of_below hb (fun _ => False)) (fun _ _ k => k)
theorem own1_sl {w : World} {B n : Nat} {t : TypeId} {v : Value} {xs : List Value} (h : w.ownsRow B t 1 v n xs) : ∃ A c, v = .slice A n c := by
  rcases h.2 with ⟨e, e0⟩ | ⟨g, cap, cur, e, _⟩
  · exact ⟨none, 0, by rw [e, e0]⟩
  · exact ⟨_, cap, e⟩
theorem own1_nil (w : World) (B : Nat) (t : TypeId) : w.ownsRow B t 1 (.slice none 0 0) 0 [] := ⟨rfl, .inl ⟨rfl, rfl⟩⟩
theorem own1_low {w : World} {B C n : Nat} {t : TypeId} {v : Value} {xs : List Value} (h : w.ownsRow B t 1 v n xs) (hc : C ≤ B) : w.ownsRow C t 1 v n xs := by
  refine ⟨h.1, ?_⟩
  rcases h.2 with e | ⟨g, cap, cur, e, hg, r⟩
  · exact .inl e
  · exact .inr ⟨g, cap, cur, e, Nat.le_trans hc hg, r⟩
theorem OwnI.row {w : World} {B : Nat} {v : Value} {l : List Int} (h : OwnI w B v l) : ∃ A c, v = .slice A l.length c ∧ NumRow w A l.length l := by
  obtain ⟨A, c, e, k⟩ := own_row h
  exact ⟨A, c, e, rfl, k⟩
theorem OwnS.row {w : World} {B : Nat} {v : Value} {l : List ByteArray} (h : OwnS w B v l) : ∃ A c, v = .slice A l.length c ∧ TxtRow w A l.length l := by
  obtain ⟨A, c, e, k⟩ := own_row h
  exact ⟨A, c, e, rfl, k⟩
theorem info_i : (Try.prog.info? 3).map (fun i => (i.zero, i.size, i.bytes)) = some (some (.int .i64 0), 1, 8) := by kernel_rfl
theorem info_s : (Try.prog.info? 9).map (fun i => (i.zero, i.size, i.bytes)) = some (some (.string ⟨#[]⟩), 1, 16) := by kernel_rfl
theorem info_parts {P : Program} {t : TypeId} {z : Option Value} {s b : Nat} (h : (P.info? t).map (fun i => (i.zero, i.size, i.bytes)) = some (z, s, b)) : ∃ i, P.info? t = some i ∧ i.zero = z ∧ i.size = s ∧ i.bytes = b := by
  cases hi : P.info? t with
  | none => rw [hi] at h; simp at h
  | some i =>
    rw [hi] at h
    simp at h
    exact ⟨i, rfl, h.1, h.2.1, h.2.2⟩
/-- A row of the call's own that one more stands behind. -/
theorem own1_push {w w' : World} {B g' cap n : Nat} {t : TypeId} {xs : List Value} {x : Value} {m : Nat} (hm : m = n + 1) (ho : w'.ownsRow B t 1 (.slice (some ⟨g', 0, none⟩) (n + 1) cap) (n + 1) (xs ++ [x])) : w'.ownsRow B t 1 (.slice (some ⟨g', 0, none⟩) m cap) m (xs ++ [x]) := by
  subst hm
  exact ho
theorem eqi_own (u v : Value) (a b : Nat) (l k : List Int) (hn : l.length ≤ 1000000) (w : World) (h : OwnI w a u l) (h2 : OwnI w b v k) :
    Calls Try.prog 14 #[u, v] w fun e w' => e = .returned (.bool (decide (l = k))) ∧ Below w.heap.size w w' := by
  obtain ⟨A, c, rfl, r⟩ := h.row
  obtain ⟨B, d, rfl, r2⟩ := h2.row
  exact eqi_any A B l.length k.length c d l k (by omega) w r r2
theorem eqs_own (u v : Value) (a b : Nat) (l k : List ByteArray) (hn : l.length ≤ 1000000) (w : World) (h : OwnS w a u l) (h2 : OwnS w b v k) :
    Calls Try.prog 10 #[u, v] w fun e w' => e = .returned (.bool (decide (l = k))) ∧ Below w.heap.size w w' := by
  obtain ⟨A, c, rfl, r⟩ := h.row
  obtain ⟨B, d, rfl, r2⟩ := h2.row
  exact eqs_any A B l.length k.length c d l k (by omega) w r r2
end Go.Proofs.Ytepnckglnciinaa.Sm
