import Derived.Test.YtfjmcklmoebnaaaDoorMgF
import Derived.Test.YtfjmcklmoebnaaaDoorShelf
import Derived.Test.YtfjmcklmoebnaaaDoorVcB
import Derived.Lib.ItoaLen
import Derived.Lib.LaidTab
import Derived.Deep.AppendLies
import Derived.Laws.AppendOwn

/- Numbers, pairs, vectors as text: the program's. -/
namespace Go.Proofs.YtfjmcklmoebnaaaDoor.Mg
open Go.RowKit Go.Proofs.YtfjmcklmoebnaaaDoor.Mem Go.Proofs.YtfjmcklmoebnaaaDoor.Nt
open Go.Proofs.YtfjmcklmoebnaaaDoor.Vc (vecC)
set_option linter.unusedVariables false

structure Tabs (w : World) : Prop where
  p10 : Lib.TabIs Tryd.prog w "internal/strconv.uint64pow10" .u64 Lib.pow10Tab
  big : 1 ≤ w.heap.size
theorem glob_p10 : Tryd.prog.globalNamed "internal/strconv.uint64pow10" = some 0 := by kernel_rfl
theorem Tabs.self {w w' : World} (h : Tabs w) (hb : Below w.heap.size w w') : Tabs w' := by
  refine ⟨?_, Nat.le_trans h.big hb.size⟩
  have h1 := h.p10
  unfold Lib.TabIs World.var? at h1 ⊢
  rw [glob_p10] at h1 ⊢
  simp only [Option.bind_some] at h1 ⊢
  rw [hb.block _ (Nat.lt_of_lt_of_le (by decide) h.big)]
  exact h1
theorem Tabs.low {B : Nat} {w w' : World} (h : Tabs w) (hB : 1 ≤ B) (hb : Below B w w') : Tabs w' := by
  refine ⟨?_, Nat.le_trans h.big hb.size⟩
  have h1 := h.p10
  unfold Lib.TabIs World.var? at h1 ⊢
  rw [glob_p10] at h1 ⊢
  simp only [Option.bind_some] at h1 ⊢
  rw [hb.block _ (Nat.lt_of_lt_of_le (by decide) hB)]
  exact h1
def fitI (x : Int) : Prop := -9223372036854775808 ≤ x ∧ x ≤ 9223372036854775807
def txt (l : List UInt8) : ByteArray := ⟨l.toArray⟩
def itoaB (n : Int) : ByteArray := txt (Lib.itoa n)
theorem txt_list (l : List UInt8) : (txt l).data.toList = l := by unfold txt; simp
theorem itoaB_size {n : Int} (h : fitI n) : (itoaB n).size ≤ 21 := by
  have h1 := Lib.itoa_length_le n h.1 h.2
  show (Lib.itoa n).toArray.size ≤ 21
  rw [List.size_toArray]
  exact h1
theorem grow_below (w : World) (k : Nat) (os : Array Obj) : Below w.heap.size w (Sort.grow (w.drewN k) os) := ⟨rfl, rfl, rfl, by simp [Sort.grow, World.drewN], fun i hi => by
  show (w.heap ++ os)[i]? = w.heap[i]?
  rw [Array.getElem?_append_left hi]⟩
theorem itoa_any (n : Int) (h : fitI n) (w : World) (hT : Tabs w) : Calls Tryd.prog 29 #[.int .i64 n] w fun e w' => e = .returned (.string (itoaB n)) ∧ Below w.heap.size w w' :=
  (Tryd.strconv_Itoa n h.1 h.2 w hT.p10).mono fun e w' q => ⟨q.1, by obtain ⟨k, os, e2⟩ := q.2; rw [e2]; exact grow_below w k os⟩
theorem own_row {w : World} {b n : Nat} {e : TypeId} {u : Value} {α : Type} {f : α → Value} {l : List α} (h : w.ownsRow b e 1 u n (l.map f)) : ∃ A c, u = .slice A n c ∧ (0 < n → ∃ g off, A = some ⟨g, off, none⟩ ∧ g < w.heap.size ∧ ∀ i (hi : i < l.length), w.cell? ⟨g, off + i, none⟩ = some (f l[i])) := by
  rcases h.2 with ⟨e1, e0⟩ | ⟨g, cap, cur, e2, hb, hh, k⟩
  · exact ⟨none, 0, by rw [e1, e0], fun hn => by omega⟩
  · subst e2
    refine ⟨some ⟨g, 0, none⟩, cap, rfl, fun _ => ⟨g, 0, rfl, (Array.getElem?_eq_some_iff.1 hh).1, fun i hi => ?_⟩⟩
    have := World.ownsRow.cells h (g := g) rfl i (f l[i]) (by rw [List.getElem?_map, List.getElem?_eq_getElem hi]; rfl)
    have ha : (⟨g, 0, none⟩ : Addr).add i = ⟨g, 0 + i, none⟩ := by
      unfold Addr.add
      split
      · next h => rw [h]
      · simp
    rw [ha] at this
    exact this
def OwnS (w : World) (B : Nat) (v : Value) (l : List ByteArray) : Prop := w.ownsRow B 9 1 v l.length (l.map Value.string)
theorem own1_chg {S : Nat → Prop} {w w' : World} {B : Nat} {t : TypeId} {v : Value} {n : Nat} {xs : List Value} (h : w.ownsRow B t 1 v n xs) (hc : Chg S w w') (hS : ∀ k, v.ownBlock = some k → ¬ S k) : w'.ownsRow B t 1 v n xs := by
  refine ⟨h.1, ?_⟩
  rcases h.2 with e | ⟨g, cap, cur, e, hg, hh, hr⟩
  · exact .inl e
  · refine .inr ⟨g, cap, cur, e, hg, ?_, hr⟩
    rw [hc.block g (Array.getElem?_eq_some_iff.1 hh).1 (hS g (by rw [e]; rfl))]
    exact hh
theorem own1_below {w w' : World} {B : Nat} {t : TypeId} {v : Value} {n : Nat} {xs : List Value} (h : w.ownsRow B t 1 v n xs) (hb : Below w.heap.size w w') : w'.ownsRow B t 1 v n xs := own1_chg h (Chg.of_below hb (fun _ => False)) (fun _ _ k => k)
theorem own1_sl {w : World} {B n : Nat} {t : TypeId} {v : Value} {xs : List Value} (h : w.ownsRow B t 1 v n xs) : ∃ A c, v = .slice A n c := by
  rcases h.2 with ⟨e, e0⟩ | ⟨g, cap, cur, e, _⟩
  · exact ⟨none, 0, by rw [e, e0]⟩
  · exact ⟨_, cap, e⟩
theorem own1_nil (w : World) (B : Nat) (t : TypeId) : w.ownsRow B t 1 (.slice none 0 0) 0 [] := ⟨rfl, .inl ⟨rfl, rfl⟩⟩
theorem own1_low {w : World} {B C n : Nat} {t : TypeId} {v : Value} {xs : List Value} (h : w.ownsRow B t 1 v n xs) (hc : C ≤ B) : w.ownsRow C t 1 v n xs := by
  refine ⟨h.1, ?_⟩
  rcases h.2 with e | ⟨g, cap, cur, e, hg, r⟩
  · exact .inl e
  · exact .inr ⟨g, cap, cur, e, Nat.le_trans hc hg, r⟩
theorem info_s : (Tryd.prog.info? 9).map (fun i => (i.zero, i.size, i.bytes)) = some (some (.string ⟨#[]⟩), 1, 16) := by kernel_rfl
theorem OwnS.chg {S : Nat → Prop} {w w' : World} {B : Nat} {v : Value} {l : List ByteArray} (h : OwnS w B v l) (hc : Chg S w w') (hS : ∀ k, v.ownBlock = some k → ¬ S k) : OwnS w' B v l := own1_chg h hc hS
def joinB (ps : List ByteArray) (sep : ByteArray) : ByteArray := txt (Lib.join (ps.map (·.data.toList)) sep.data.toList)
theorem join_own {w : World} {B : Nat} {u : Value} {ps : List ByteArray} (sep : ByteArray) (h : OwnS w B u ps) (hs : ps.length ≤ 1000 ∧ (Lib.join (ps.map (·.data.toList)) sep.data.toList).length ≤ 1000000) (w1 : World) (hw : w1 = w := by rfl) : Calls Tryd.prog 31 #[u, .string sep] w1 fun e w' => e = .returned (.string (joinB ps sep)) ∧ Below w1.heap.size w1 w' := by
  subst hw
  rcases h.2 with ⟨e, e0⟩ | ⟨g, cap, cur, e, hg, hh, hn, hm, hsz, ht⟩
  · have hp : ps = [] := List.length_eq_zero_iff.1 e0
    subst hp
    rw [e]
    exact (Tryd.strings_Join_none none 0 sep w1).mono fun e w' q => ⟨q.1, by rw [q.2]; exact Below.refl _ _⟩
  · obtain ⟨A, c, e2, hx⟩ := own_row h
    rw [e] at e2
    injection e2 with e3 e4 e5
    subst e3 e5
    rw [e]
    unfold maxLen at hm
    have hps := hs.1
    by_cases hz : 0 < ps.length
    · obtain ⟨g2, off, e6, hlt, hc⟩ := hx hz
      injection e6 with e6
      injection e6 with e7 e8 _
      subst e7 e8
      have hlen : ps.length ≤ 140737488355328 := by omega
      exact Tryd.strings_Join g 0 cap ps sep w1 (fun j x hj => by
        obtain ⟨hj1, hj2⟩ := List.getElem?_eq_some_iff.1 hj
        rw [hc j hj1, hj2]) hlt hlen hn (by have := hs.2; omega)
    · have hp : ps = [] := List.length_eq_zero_iff.1 (by omega)
      subst hp
      exact (Tryd.strings_Join_none _ cap sep w1).mono fun e w' q => ⟨q.1, by rw [q.2]; exact Below.refl _ _⟩
end Go.Proofs.YtfjmcklmoebnaaaDoor.Mg
/- Numbers, pairs, vectors as text: the program's, walked. -/
namespace Go.Proofs.YtfjmcklmoebnaaaDoor.Mg
open Go.RowKit Go.Proofs.YtfjmcklmoebnaaaDoor.Mem Go.Proofs.YtfjmcklmoebnaaaDoor.Nt
open Go.Proofs.YtfjmcklmoebnaaaDoor.Vc (vecC)
set_option linter.unusedVariables false

def pairB (a : Int) (s : ByteArray) (b : Int) : ByteArray := itoaB a ++ s ++ itoaB b
theorem pair_any (a : Int) (s : ByteArray) (b : Int) (ha : fitI a) (hb : fitI b) (hs : s.size ≤ 1000) (w : World) (hT : Tabs w) : Calls Tryd.prog 28 #[.int .i64 a, .string s, .int .i64 b] w fun e w' => e = .returned (.string (pairB a s b)) ∧ Below w.heap.size w w' := by
  have H1 := Lib.hid (itoa_any a ha w hT)
  have H2 := Lib.hid (fun W (h : Tabs W) => itoa_any b hb W h)
  have HT := Lib.hid hT
  have s1 := itoaB_size ha
  have s2 := itoaB_size hb
  have a1 := fun W => run_string_add_sum (P := Tryd.prog) W (itoaB a) s (by omega)
  have a2 := fun W => run_string_add_sum (P := Tryd.prog) W (itoaB a ++ s) (itoaB b) (by rw [ByteArray.size_append]; omega)
  clear hT ha hb hs s1 s2
  go_enter Tryd.func28, Tryd.ntmps28
  go_wp2_with fail
  refine H1.out.mono ?_
  rintro e w1 ⟨rfl, hb⟩
  have HB1 := Lib.hid hb
  have H3 := Lib.hid (H2.out w1 (HT.out.self hb))
  clear hb
  go_wp2_with fail
  refine H3.out.mono ?_
  rintro e w2 ⟨rfl, hb⟩
  have HB2 := Lib.hid (HB1.out.trans (hb.mono HB1.out.size))
  clear hb
  go_wp2
  go_ret
  exact ⟨rfl, HB2.out⟩
theorem markText_any (k : Int × Int) (ha : fitI k.1) (hb : fitI k.2) (w : World) (hT : Tabs w) : Calls Tryd.prog 30 #[.agg #[.int .i64 k.1, .int .i64 k.2]] w fun e w' => e = .returned (.string (pairB k.1 ⟨#[46]⟩ k.2)) ∧ Below w.heap.size w w' := by
  have hb0 := (Below.refl w.heap.size w).alloc (Nat.le_refl _) (.cells #[.int .i64 k.1, .int .i64 k.2] 23)
  have HP := Lib.hid (pair_any k.1 ⟨#[46]⟩ k.2 ha hb (by decide) _ (hT.self hb0))
  have HB0 := Lib.hid hb0
  clear hb0 hT ha hb
  go_enter Tryd.func30, Tryd.ntmps30
  go_wp2_with fail
  refine HP.out.mono ?_
  rintro e w1 ⟨rfl, hb⟩
  have HB1 := Lib.hid (HB0.out.trans (hb.mono HB0.out.size))
  clear hb
  go_wp2
  go_ret
  exact ⟨rfl, HB1.out⟩
def lastTo (x : Nat → Int) : Nat → Nat
  | 0 => 0
  | k + 1 => if x k = 0 then lastTo x k else k + 1
theorem lastTo_le (x : Nat → Int) : ∀ k, lastTo x k ≤ k
  | 0 => Nat.le_refl _
  | k + 1 => by
    unfold lastTo
    split
    · exact Nat.le_succ_of_le (lastTo_le x k)
    · exact Nat.le_refl _
def nums (x : Nat → Int) (k : Nat) : List ByteArray := (List.range k).map fun i => itoaB (x i)
theorem nums_len (x : Nat → Int) (k : Nat) : (nums x k).length = k := by unfold nums; simp
theorem nums_snoc (x : Nat → Int) (k : Nat) : nums x (k + 1) = nums x k ++ [itoaB (x k)] := by unfold nums; rw [List.range_succ, List.map_append]; rfl
theorem lens_le (m : Nat) : ∀ ps : List (List UInt8), (∀ p ∈ ps, p.length ≤ m) → Lib.lens ps ≤ ps.length * m
  | [], _ => by simp [Lib.lens]
  | p :: r, h => by
    have h1 := lens_le m r (fun q hq => h q (List.mem_cons_of_mem _ hq))
    have h2 := h p (by simp)
    have e : Lib.lens (p :: r) = p.length + Lib.lens r := by simp [Lib.lens]
    rw [e, List.length_cons, Nat.succ_mul]
    omega
def seenB (x : Nat → Int) : ByteArray := joinB (nums x (lastTo x 8)) ⟨#[44]⟩
theorem join_len (sep : List UInt8) (m : Nat) : ∀ ps : List (List UInt8), (∀ p ∈ ps, p.length ≤ m) → (Lib.join ps sep).length ≤ ps.length * (m + sep.length)
  | [], _ => by rw [Lib.join_nil]; exact Nat.zero_le _
  | [p], h => by
    rw [Lib.join_one]
    have := h p (by simp)
    simp
    omega
  | p :: q :: r, h => by
    have h1 := Lib.join_length p (q :: r) sep
    rw [h1]
    have h2 : Lib.lens (p :: q :: r) ≤ (p :: q :: r).length * m := lens_le m _ h
    have e1 : sep.length * (q :: r).length ≤ (p :: q :: r).length * sep.length := by rw [Nat.mul_comm]; exact Nat.mul_le_mul_right _ (by simp)
    rw [Nat.mul_add]
    omega
theorem nums_small (x : Nat → Int) (hx : ∀ i, i < 8 → fitI (x i)) {k : Nat} (hk : k ≤ 8) : (nums x k).length ≤ 1000 ∧ (Lib.join ((nums x k).map (·.data.toList)) (⟨#[44]⟩ : ByteArray).data.toList).length ≤ 1000000 := by
  refine ⟨by rw [nums_len]; omega, ?_⟩
  have h := join_len (⟨#[44]⟩ : ByteArray).data.toList 21 ((nums x k).map (·.data.toList)) (fun p hp => by
    unfold nums at hp
    simp only [List.mem_map, List.mem_range] at hp
    obtain ⟨q, ⟨i, hi, rfl⟩, rfl⟩ := hp
    exact itoaB_size (hx i (by omega)))
  refine Nat.le_trans h ?_
  rw [List.length_map, nums_len]
  show k * (21 + 1) ≤ 1000000
  omega
structure SeenI (w wr : World) (x : Nat → Int) (u : Value) (j : Nat) : Prop where
  below : Below w.heap.size w wr
  row : OwnS wr (w.heap.size + 1) u (nums x j)
  has : Has wr w.heap.size 25 (vecC x)
theorem own_at {w : World} {B : Nat} {t : TypeId} {u : Value} {xs : List Value} {n L j : Nat} (h1 : n = j) (h2 : n = L) (ho : w.ownsRow B t 1 u (L + 1) xs) : w.ownsRow B t 1 u (j + 1) xs := by rw [← h1, h2]; exact ho
theorem SeenI.low {w wr w2 : World} {x : Nat → Int} {u : Value} {j : Nat} (h : SeenI w wr x u j) (hb : Below wr.heap.size wr w2) : SeenI w w2 x u j := ⟨h.below.trans (hb.mono h.below.size), own1_below h.row hb, h.has.below hb⟩
theorem SeenI.step {w w2 w5 : World} {x : Nat → Int} {u u' : Value} {j : Nat} {b : ByteArray} {hbx : b = itoaB (x j)} (h : SeenI w w2 x u j) (ho : w5.ownsRow (w.heap.size + 1) 9 1 u' (j + 1) ((nums x j).map Value.string ++ [.string b])) (hg : (w2.alloc (.cells #[.string b] 9)).grownBy w5 u.ownBlock) : SeenI w w5 x u' (j + 1) := by
  subst hbx
  have hl := World.ownsRow.lt h.row
  refine ⟨(h.below.alloc h.below.size _).grown hg (Nat.le_trans h.below.size (by simp)) (fun q hq => by have := (hl q hq).1; omega), ?_, ?_⟩
  · unfold OwnS
    rw [nums_len, nums_snoc, List.map_append]
    exact ho
  · have c : Chg (fun k => u.ownBlock = some k) (w2.alloc (.cells #[.string (itoaB (x j))] 9)) w5 := ⟨hg.os, hg.tape, hg.output, hg.size, fun k hk hn => hg.block k hk (fun e => hn e.symm)⟩
    exact (h.has.past _).over c (fun e => by have := (hl _ e).1; omega)
end Go.Proofs.YtfjmcklmoebnaaaDoor.Mg
/- A vector as text, and a message that is the same: the program's. -/
namespace Go.Proofs.YtfjmcklmoebnaaaDoor.Mg
open Go.RowKit Go.Proofs.YtfjmcklmoebnaaaDoor.Mem Go.Proofs.YtfjmcklmoebnaaaDoor.Nt
open Go.Proofs.YtfjmcklmoebnaaaDoor.Vc (vecC)
set_option linter.unusedVariables false

theorem info_parts {P : Program} {t : TypeId} {z : Option Value} {s b : Nat} (h : (P.info? t).map (fun i => (i.zero, i.size, i.bytes)) = some (z, s, b)) : ∃ i, P.info? t = some i ∧ i.zero = z ∧ i.size = s ∧ i.bytes = b := by
  cases hi : P.info? t with
  | none => rw [hi] at h; simp at h
  | some i =>
    rw [hi] at h
    simp at h
    exact ⟨i, rfl, h.1, h.2.1, h.2.2⟩
set_option maxRecDepth 100000 in
set_option maxHeartbeats 2000000 in
theorem seen_any (x : Nat → Int) (hx : ∀ i, i < 8 → fitI (x i)) (w : World) (hT : Tabs w) : Calls Tryd.prog 15 #[.agg (vecC x)] w fun e w' => e = .returned (.string (seenB x)) ∧ Below w.heap.size w w' := by
  obtain ⟨i0, hi, hz0, hz1, hz2⟩ := info_parts info_s
  have HII := Lib.hid (And.intro hi (And.intro hz0 (And.intro hz1 hz2)))
  have HX8 := Lib.hid hx
  have HT := Lib.hid hT
  have HX := Lib.hid (Has.fresh w 25 (vecC x))
  have HI0 := Lib.hid (show SeenI w (w.alloc (.cells (vecC x) 25)) x (.slice none 0 0) 0 from ⟨(Below.refl w.heap.size w).alloc (Nat.le_refl _) _, own1_nil _ _ _, Has.fresh w _ _⟩)
  clear hi hz0 hz1 hz2 hx hT
  go_enter Tryd.func15, Tryd.ntmps15
  go_wp2
  go_loop [3] (fun i => ∃ k : Nat, k ≤ 8 ∧ i = .int .i64 k ∧ Hid (lastTo x k = lastTo x 8)) (fun i => (intOf i).toNat)
  case atStart => exact ⟨8, by omega, rfl, Lib.hid rfl⟩
  case round =>
    obtain ⟨k, hk, rfl, HL⟩ := hrel
    by_cases hk0 : 0 < k
    · obtain ⟨q, rfl⟩ : ∃ q, k = q + 1 := ⟨k - 1, by omega⟩
      have t1 : (0 : Int) < ((q + 1 : Nat) : Int) := by omega
      have t2 : IntKind.i64.wrap (((q + 1 : Nat) : Int) - 1) = (q : Int) := by rw [IntKind.wrap_i64]; omega
      have t3 : (q : Int) < 8 := by omega
      have xq : (w.alloc (.cells (vecC x) 25)).cell? ⟨w.heap.size, q, none⟩ = some (.int .i64 (x q)) := (HX.out.at_ q).trans (Vc.vecC_at x (by omega))
      obtain ⟨T, hTT⟩ : ∃ T : Int, T = ((q + 1 : Nat) : Int) := ⟨_, rfl⟩
      rw [← hTT] at t1 t2
      by_cases hz : x q = 0
      · have HN := Lib.hid (show lastTo x q = lastTo x 8 from by rw [← HL.out]; show lastTo x q = (if x q = 0 then lastTo x q else q + 1); rw [if_pos hz])
        have HQ := Lib.hid (And.intro hk hTT)
        rw [hz] at xq
        rw [← hTT]
        clear hTT hz hk
        go_wp2
        go_round
        case rel => exact ⟨q, by have := HQ.out.1; omega, rfl, HN⟩
        case measure => have := HQ.out.2; simp [intOf]; omega
      · have HK := Lib.hid (show q + 1 ≤ 8 ∧ lastTo x 8 = q + 1 from ⟨hk, by rw [← HL.out]; show (if x q = 0 then lastTo x q else q + 1) = q + 1; rw [if_neg hz]⟩)
        have hz2 : (x q == 0) = false := beq_eq_false_iff_ne.2 hz
        obtain ⟨k, hkk⟩ : ∃ k, k = q + 1 := ⟨_, rfl⟩
        rw [← hkk] at HK hTT
        rw [hkk.symm] 
        subst hTT
        have t4 : (k : Int) ≤ 8 := by omega
        clear hk hk0 hkk
        go_wp2
        go_loopw [4, 21] (fun a i wr => ∃ j : Nat, ∃ u : Value, j ≤ k ∧ i = .int .i64 j ∧ a = u ∧ Hid (SeenI w wr x u j)) (fun _ i _ => k - (intOf i).toNat)
        case atStart => exact ⟨0, _, by omega, rfl, rfl, HI0⟩
        case round =>
          obtain ⟨j, u, hj, rfl, rfl, HI⟩ := hrel
          obtain ⟨Au, cu, rfl⟩ := own1_sl HI.out.row
          have HLN := Lib.hid (nums_len x j)
          by_cases hlt : j < k
          · have hlti : (j : Int) < k := by omega
            have HLT := Lib.hid (show j + 1 ≤ k ∧ j < 8 by omega)
            have xj : wr.cell? ⟨w.heap.size, j, none⟩ = some (.int .i64 (x j)) := (HI.out.has.at_ j).trans (Vc.vecC_at x (by omega))
            have HN := Lib.hid (itoa_any (x j) (HX8.out j HLT.out.2) wr (HT.out.self HI.out.below))
            have HB := Lib.hid HI.out.below
            go_wp2_with fail
            refine HN.out.mono ?_
            rintro e w2 ⟨rfl, hb⟩
            have HI2 := Lib.hid (HI.out.low hb)
            have HO := Lib.hid HI2.out.row
            have HS := Lib.hid (show w.heap.size + 1 ≤ (w2.alloc (.cells #[.string (itoaB (x j))] 9)).heap.size from by have := HI2.out.has.bound; simp; omega)
            obtain ⟨L, hL⟩ : ∃ L, (nums x j).length = L := ⟨_, rfl⟩
            rw [hL]
            have hL8 : L ≤ 8 := by have := HLN.out; have := HLT.out; omega
            clear hb xj
            go_wp2_with (at_builtin; refine wpList_append_lies _ rfl (.tmp 25) (.tmp 28) 51 rfl (w.heap.size + 1) 9 i0 (.string ⟨#[]⟩) 1 16 Tryd.underlying51 HII.out.1 HII.out.2.1 HII.out.2.2.1 HII.out.2.2.2 rfl (by decide) (.slice Au L cu) L ((nums x j).map Value.string) rfl (World.ownsRow.alloc (by have h := HO.out; unfold OwnS at h; rw [hL] at h; exact h) _) ⟨w2.heap.size, 0, none⟩ 1 1 [.string (itoaB (x j))] rfl rfl ?c1 ?c2 (by decide) (by unfold maxLen; omega) (by omega) HS.out _ rfl ?_)
            case c1 => exact World.news_of_block (Has.fresh w2 9 #[.string (itoaB (x j))])
            case c2 => exact fun u hu => by simp at hu; subst hu; rfl
            intro g' cap w5 ho hg2 hor hlt2
            rw [← hL] at hg2
            have HQ := Lib.hid (SeenI.step (hbx := rfl) HI2.out (own_at HLN.out hL ho) hg2)
            clear ho hg2 hor hlt2
            go_wp2
            go_roundw
            case rel => exact ⟨j + 1, _, HLT.out.1, by go_num, rfl, HQ⟩
            case measure => have := HLT.out; simp [intOf]; omega
          · have hlti : ¬ (j : Int) < k := by omega
            obtain rfl : j = k := by omega
            have HJ := Lib.hid (join_own ⟨#[44]⟩ HI.out.row (nums_small x HX8.out (Nat.le_trans hj HK.out.1)) wr)
            have HE := Lib.hid (show joinB (nums x j) ⟨#[44]⟩ = seenB x by unfold seenB; rw [HK.out.2])
            have HB := Lib.hid HI.out.below
            go_wp2_with fail
            refine HJ.out.mono ?_
            rintro e w2 ⟨rfl, hb⟩
            have HBZ := Lib.hid (HB.out.trans (hb.mono HB.out.size))
            clear hb
            go_wp2
            go_ret
            exact ⟨by rw [← HE.out]; rfl, HBZ.out⟩
    · obtain rfl : k = 0 := by omega
      obtain ⟨k, hkk⟩ : ∃ k, k = (0 : Nat) := ⟨_, rfl⟩
      have HK := Lib.hid (show k ≤ 8 ∧ lastTo x 8 = k from ⟨by omega, by rw [hkk]; exact HL.out.symm⟩)
      subst hkk
      clear hk hk0
      go_wp2
      go_loopw [4, 21] (fun a i wr => ∃ j : Nat, ∃ u : Value, j ≤ 0 ∧ i = .int .i64 j ∧ a = u ∧ Hid (SeenI w wr x u j)) (fun _ i _ => 0 - (intOf i).toNat)
      case atStart => exact ⟨0, _, by omega, rfl, rfl, HI0⟩
      case round =>
        obtain ⟨j, u, hj, rfl, rfl, HI⟩ := hrel
        obtain ⟨Au, cu, rfl⟩ := own1_sl HI.out.row
        have HLN := Lib.hid (nums_len x j)
        obtain rfl : j = 0 := by omega
        have HJ := Lib.hid (join_own ⟨#[44]⟩ HI.out.row (nums_small x HX8.out (Nat.le_trans hj HK.out.1)) wr)
        have HE := Lib.hid (show joinB (nums x 0) ⟨#[44]⟩ = seenB x by unfold seenB; rw [HK.out.2])
        have HB := Lib.hid HI.out.below
        go_wp2_with fail
        refine HJ.out.mono ?_
        rintro e w2 ⟨rfl, hb⟩
        have HBZ := Lib.hid (HB.out.trans (hb.mono HB.out.size))
        clear hb
        go_wp2
        go_ret
        exact ⟨by rw [← HE.out]; rfl, HBZ.out⟩
end Go.Proofs.YtfjmcklmoebnaaaDoor.Mg
