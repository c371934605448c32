/- Changes as bytes: the program's Put. -/
import Derived.Test.YtepnckglnciinaaStPutT
import Derived.Test.YtepnckglnciinaaWho
import Derived.Test.YtepnckglnciinaaReg
namespace Go.Proofs.Ytepnckglnciinaa.Sm
open Go.RowKit Go.Proofs.Ytepnckglnciinaa.Oct
set_option linter.unusedVariables false

theorem owns_lens {w : World} {B : Nat} {v : Value} {l : List UInt8} (h : Owns w B v l) : ∃ A cap, v = .slice A l.length cap ∧ RowB w A l.length l ∧ (A = none → l.length = 0 ∧ cap = 0) := by
  rcases h.2 with ⟨e, e0⟩ | ⟨g, c, cur, e, hb, hh, _⟩
  · exact ⟨none, 0, by rw [e, e0], ⟨rfl, fun h => by omega⟩, fun _ => ⟨e0, rfl⟩⟩
  · refine ⟨_, _, e, ?_, fun h => by cases h⟩
    subst e
    exact Owns.row h rfl
def numB (x : Int) (k : Nat) : List UInt8 := putL (IntKind.u64.wrap x).toNat k
theorem numB_len (x : Int) (k : Nat) : (numB x k).length = k := putL_len _ _
theorem row_nil (w : World) : RowB w none 0 [] := ⟨rfl, fun h => by omega⟩
theorem Owns.below {w w' : World} {B : Nat} {v : Value} {l : List UInt8} (h : Owns w B v l) (hb : Below w.heap.size w w') : Owns w' B v l := by
  refine ⟨h.1, ?_⟩
  rcases h.2 with e | ⟨g, cap, cur, e, hg, hh, hr⟩
  · exact .inl e
  · refine .inr ⟨g, cap, cur, e, hg, ?_, hr⟩
    rw [hb.block g (Array.getElem?_eq_some_iff.1 hh).1]
    exact hh
theorem hbelow {w w' : World} {g : Nat} {t : TypeId} {cs : Array Value} (h : Has w g t cs) (hb : Below w.heap.size w w') : Has w' g t cs := Has.over h (Chg.of_below hb (fun _ => False)) (fun k => k)
theorem put_one (x : Int) (k : Nat) (h1 : 1 ≤ k) (h8 : k ≤ 8) (w : World) : Calls Try.prog 46 #[.slice none 0 0, .int .i64 x, .int .i64 k] w fun e w' => ∃ v, e = .returned v ∧ Owns w' w.heap.size v (numB x k) ∧ Below w.heap.size w w' := by
  have h := put_in none 0 0 k x [] (by omega) h1 h8 w (row_nil w) (fun _ => ⟨rfl, rfl⟩)
  simpa [numB] using h
structure ChgP where
  key : ByteArray
  val : ByteArray
  gone : Bool
def chC (c : ChgP) : Array Value := #[.string c.key, .string c.val, .bool c.gone]
theorem chC_one (c : ChgP) : (chC c).all (·.oneCell') = true := by simp [chC, Value.oneCell']
theorem info_ch : (Try.prog.info? 53).map (·.size) = some 3 := by kernel_rfl
def ch0 : ChgP := ⟨⟨#[]⟩, ⟨#[]⟩, false⟩
theorem alloc_ch (w : World) : (Instr.alloc 53 true (.tuple #[])).run Try.prog w = .ok (.pointer (some ⟨w.heap.size, 0, none⟩)) (w.alloc (.cells (chC ch0) 53)) := by
  have hz := Try.zeroValue53
  go_simp
  rfl
/-- A row of changes. -/
structure CRow (w : World) (A : Option Addr) (n : Nat) (cs : List ChgP) : Prop where
  len : cs.length = n
  cells : ∀ i c, cs[i]? = some c → ∃ b off, A = some ⟨b, off, none⟩ ∧ b < w.heap.size ∧ w.rangeAt b (off + i * 3) (chC c).toList
theorem CRow.below {w w' : World} {A : Option Addr} {n : Nat} {cs : List ChgP} (h : CRow w A n cs) (hb : Below w.heap.size w w') : CRow w' A n cs :=
  ⟨h.len, fun i c hc => by
    obtain ⟨b, off, e, hl, hr⟩ := h.cells i c hc
    exact ⟨b, off, e, Nat.lt_of_lt_of_le hl hb.size, fun j v hv => (Below.cell hb (p := ⟨b, off + i * 3 + j, none⟩) hl).trans (hr j v hv)⟩⟩
def gi (b : Bool) : Int := if b then 1 else 0
def putT (s : ByteArray) : List UInt8 := headT (cutT s).length ++ cutT s
def putC (c : ChgP) : List UInt8 := numB (gi c.gone) 1 ++ headT (cutT c.key).length ++ cutT c.key ++ headT (cutT c.val).length ++ cutT c.val
def putTo (cs : List ChgP) (j : Nat) : List UInt8 := numB cs.length 4 ++ (cs.take j).flatMap putC
def putD (cs : List ChgP) : List UInt8 := numB cs.length 4 ++ cs.flatMap putC
theorem putTo_snoc {cs : List ChgP} {j : Nat} {c : ChgP} (h : cs[j]? = some c) : putTo cs (j + 1) = putTo cs j ++ putC c := by
  obtain ⟨hj, e⟩ := List.getElem?_eq_some_iff.1 h
  unfold putTo
  rw [List.take_succ_eq_append_getElem hj, e, List.flatMap_append, List.append_assoc]
  simp
theorem putTo_all (cs : List ChgP) : putTo cs cs.length = putD cs := by unfold putTo putD; rw [List.take_length]
theorem putTo_le (cs : List ChgP) (j : Nat) : (putTo cs j).length ≤ (putD cs).length := by
  unfold putTo putD
  have h : cs.flatMap putC = (cs.take j).flatMap putC ++ (cs.drop j).flatMap putC := by rw [← List.flatMap_append, List.take_append_drop]
  rw [h]
  simp
structure PutI (w wr : World) (cs : List ChgP) (u : Value) (l : List UInt8) (j : Nat) : Prop where
  below : Below w.heap.size w wr
  row : Owns wr w.heap.size u l
  is : l = putTo cs j
  len : (putD cs).length ≤ 800000
theorem PutI.step {w wr w4 w5 : World} {cs : List ChgP} {u v1 : Value} {l D : List UInt8} {j : Nat} {c : ChgP} {g : Bool} (h : PutI w wr cs u l j) (hb : Below wr.heap.size wr w4) (hc : cs[j]? = some c)
    (hD : numB (gi g) 1 ++ headT (cutT c.key).length ++ cutT c.key ++ headT (cutT c.val).length ++ cutT c.val = D) (hg : c.gone = g) (ho : w5.ownsRow w.heap.size 5 1 v1 (l.length + D.length) (l.map bv ++ D.map bv)) (hg2 : w4.grownBy w5 u.ownBlock) : PutI w w5 cs v1 (l ++ D) (j + 1) := by
  have hb4 := h.below.trans (hb.mono h.below.size)
  refine ⟨hb4.grown hg2 hb4.size (fun q hq => (World.ownsRow.lt h.row q hq).1), ?_, ?_, h.len⟩
  · unfold Owns
    rw [List.length_append, List.map_append]
    exact ho
  · subst hg
    rw [putTo_snoc hc, ← h.is, ← hD]
    rfl
set_option maxRecDepth 100000 in
set_option maxHeartbeats 4000000 in
theorem dput_any (A : Option Addr) (n cap : Nat) (cs : List ChgP) (w : World) (h : CRow w A n cs) (hn : n ≤ 800000) (hl : (putD cs).length ≤ 800000) : Calls Try.prog 33 #[.slice A n cap] w fun e w' => e = .returned (.string ⟨(putD cs).toArray⟩) ∧ Below w.heap.size w w' := by
  obtain ⟨i0, hi, hz0, hz1, hz2⟩ := info_parts info_u8
  have HII := Lib.hid (And.intro hi (And.intro hz0 (And.intro hz1 hz2)))
  have HR := Lib.hid h
  have HPL := Lib.hid hl
  have HLNN := Lib.hid h.len
  have halc := alloc_ch
  clear hi hz0 hz1 hz2 h hl
  go_enter Try.func33, Try.ntmps33
  go_wp2_with fail
  refine (put_in none 0 0 4 (n : Int) [] (by omega) (by omega) (by omega) w (row_nil w) (fun _ => ⟨rfl, rfl⟩)).mono ?_
  rintro e w1 ⟨v0, rfl, ho, hb⟩
  have HI0 := Lib.hid (show PutI w w1 cs v0 ([] ++ putL (IntKind.u64.wrap (n : Int)).toNat 4) 0 from ⟨hb, ho, by unfold putTo numB; rw [HLNN.out]; simp, HPL.out⟩)
  generalize ([] ++ putL (IntKind.u64.wrap (n : Int)).toNat 4 : List UInt8) = l0 at *
  clear ho hb
  go_wp2
  go_loopw [3, 13] (fun s i wr => ∃ j : Nat, ∃ u : Value, ∃ l : List UInt8, j ≤ n ∧ i = .int .i64 j ∧ s = u ∧ Hid (PutI w wr cs u l j)) (fun _ i _ => n - (intOf i).toNat)
  case atStart => exact ⟨0, _, _, by omega, rfl, rfl, HI0⟩
  case round =>
    obtain ⟨j, u, l, hj, rfl, rfl, HI⟩ := hrel
    obtain ⟨Au, cu, rfl, hru, _⟩ := owns_lens HI.out.row
    have HRU := Lib.hid hru
    clear hru
    by_cases hlt : j < n
    · have HLT := Lib.hid (show j + 1 ≤ n from hlt)
      obtain ⟨c, hc⟩ : ∃ c, cs[j]? = some c := ⟨_, List.getElem?_eq_getElem (by rw [HLNN.out]; exact hlt)⟩
      obtain ⟨b, off, rfl, hbl, hrg⟩ := (HR.out.below HI.out.below).cells j c hc
      have HRG := Lib.hid hrg
      have HC := Lib.hid hc
      have HX := Lib.hid (Has.fresh wr 53 (chC c))
      have HB1 := Lib.hid ((Below.refl wr.heap.size wr).alloc (Nat.le_refl _) (.cells (chC c) 53))
      have HP1 := Lib.hid (fun (x : Int) (W : World) => put_one x 1 (by omega) (by omega) W)
      have x2 : (wr.alloc (.cells (chC c) 53)).cell? ⟨wr.heap.size, 2, none⟩ = some (.bool c.gone) := HX.out.at_ 2
      have HSN := putTo_snoc hc
      have HLE := putTo_le cs (j + 1)
      have HQ := Lib.hid (show ∀ g, c.gone = g → (l ++ (numB (gi g) 1 ++ headT (cutT c.key).length ++ cutT c.key ++ headT (cutT c.val).length ++ cutT c.val)).length ≤ 800000 from fun g hg => by subst hg; rw [HSN, ← HI.out.is] at HLE; exact Nat.le_trans HLE HPL.out)
      have hlti : (j : Int) < n := by omega
      have hn2 : (n : Int) ≤ 800000 := by omega
      clear hrg hc HSN HLE
      cases hg : c.gone with
      | true =>
        rw [hg] at x2
        have HG := Lib.hid hg
        replace HQ := Lib.hid (HQ.out true hg)
        clear hg
        go_wp2_with (first | ((with_reducible refine Who.wpList_loadC 53 (.tmp 15) rfl b (off + j * 3) (chC c) ?_); refine And.intro ⟨by rfl, by rfl, ⟨_, Try.underlying53, rfl⟩, info_ch⟩ (And.intro HRG.out ?_); (try simp only [Act.put, List.setIfInBounds_toArray, List.set_cons_zero, List.set_cons_succ])) | ((with_reducible refine Who.wpList_newC 53 5 (.tmp 16) rfl rfl rfl (chC ch0) (chC c) ?_); refine And.intro ⟨rfl, rfl, rfl, halc, by rfl, by rfl, info_ch, rfl, chC_one _⟩ ?_; (try simp only [Act.put, List.setIfInBounds_toArray, List.set_cons_zero, List.set_cons_succ])))
        refine wp_region_held_drew (S := fun w' => w'.cell? ⟨wr.heap.size, 0, none⟩ = some (.string c.key)) (by kernel_rfl) (HX.out.drew.at_ 0) (fun hHeld => ?_)
        refine Vc.wpAnyH_read (i := 0) (d := some 19) (v := ?vtrue0) (by rfl) (by rfl) (by kernel_rfl) (by kernel_rfl) (by kernel_rfl) (fun _ _ _ h => h) (by rfl) ?hytrue0 (by assumption) ?resttrue0
        case hytrue0 =>
          intro w hSw
          try dsimp only at hSw
          go_simp
          try with_reducible rfl
        (try simp only [Act.put, List.setIfInBounds_toArray, List.set_cons_zero, List.set_cons_succ])
        refine Vc.wpAnyH_read (i := 2) (d := some 21) (v := ?vtrue2) (by rfl) (by rfl) (by kernel_rfl) (by kernel_rfl) (by kernel_rfl) (fun _ _ _ h => h) (by rfl) ?hytrue2 (by assumption) ?resttrue2
        case hytrue2 =>
          intro w hSw
          try dsimp only at hSw
          go_simp
          try with_reducible rfl
        (try simp only [Act.put, List.setIfInBounds_toArray, List.set_cons_zero, List.set_cons_succ])
        refine Vc.wpAnyH_read (i := 3) (d := some 22) (v := ?vtrue3) (by rfl) (by rfl) (by kernel_rfl) (by kernel_rfl) (by kernel_rfl) (fun _ _ _ h => h) (by rfl) ?hytrue3 (by assumption) ?resttrue3
        case hytrue3 =>
          intro w hSw
          try dsimp only at hSw
          go_simp
          try with_reducible rfl
        (try simp only [Act.put, List.setIfInBounds_toArray, List.set_cons_zero, List.set_cons_succ])
        refine wpAnyH_ready (rs := [1]) (by kernel_rfl) (by simp) ?_
        refine AllReadyH.cons rfl (fun K hK => ?_) AllReadyH.nil
        go_simp
        go_at_call 46
        refine (HP1.out (gi true) _).mono ?_
        rintro e w2 ⟨v, rfl, ho, hb⟩
        obtain ⟨L1, hL1⟩ : ∃ L1, L1 = numB (gi true) 1 := ⟨_, rfl⟩
        rw [← hL1] at ho
        have HL1 := Lib.hid hL1
        obtain ⟨A2, c2, rfl, hr2, h02⟩ := owns_lens ho
        have HB2 := Lib.hid (HB1.out.drew.trans (hb.mono HB1.out.size))
        have HX2 := Lib.hid (hbelow HX.out.drew hb)
        have HR2 := Lib.hid (And.intro hr2 h02)
        clear ho hb hr2 h02 hL1
        refine hK.out _ _ (HX2.out.at_ 0) (fun hHeld => ?_)
        clear hK K
        (try simp only [Act.put, List.setIfInBounds_toArray, List.set_cons_zero, List.set_cons_succ])
        refine wpAnyH_ready (rs := [4]) (by kernel_rfl) (by simp) ?_
        refine AllReadyH.cons rfl (fun K hK => ?_) AllReadyH.nil
        go_simp
        go_at_call 47
        refine (ptext_any A2 _ c2 _ c.key (by rw [HL1.out, numB_len]; omega) _ HR2.out.1 HR2.out.2).mono ?_
        rintro e w3 ⟨v, rfl, ho, hb⟩
        obtain ⟨L2, hL2⟩ : ∃ L2, L2 = L1 ++ headT (cutT c.key).length ++ cutT c.key := ⟨_, rfl⟩
        rw [← hL2] at ho
        have HL2 := Lib.hid hL2
        obtain ⟨A3, c3, rfl, hr3, h03⟩ := owns_lens ho
        have HB3 := Lib.hid (HB2.out.trans (hb.mono HB2.out.size))
        have HX3 := Lib.hid (hbelow HX2.out hb)
        have HR3 := Lib.hid (And.intro hr3 h03)
        clear ho hb hr3 h03 hL2
        refine hK.out _ _ (HX3.out.at_ 0) (fun hHeld => ?_)
        clear hK K
        (try simp only [Act.put, List.setIfInBounds_toArray, List.set_cons_zero, List.set_cons_succ])
        refine Vc.wpAnyH_read (i := 5) (d := some 7) (v := ?vtrue5) (by rfl) (by rfl) (by kernel_rfl) (by kernel_rfl) (by kernel_rfl) (fun _ _ _ h => h) (by rfl) ?hytrue5 (by assumption) ?resttrue5
        case hytrue5 =>
          intro w hSw
          try dsimp only at hSw
          go_simp
          try with_reducible rfl
        (try simp only [Act.put, List.setIfInBounds_toArray, List.set_cons_zero, List.set_cons_succ])
        refine wpAnyH_done (by kernel_rfl) ?_ _
        have c1 : w3.cell? ⟨wr.heap.size, 1, none⟩ = some (.string c.val) := HX3.out.at_ 1
        have HZ := Lib.hid (show l.length + L2.length + (headT (cutT c.val).length ++ cutT c.val).length ≤ 800000 from by rw [HL2.out, HL1.out]; have h := HQ.out; simp only [List.length_append] at h ⊢; omega)
        go_wp2_with fail
        refine (ptext_any A3 _ c3 _ c.val (by have := HZ.out; omega) _ HR3.out.1 HR3.out.2).mono ?_
        rintro e w4 ⟨v, rfl, ho, hb⟩
        obtain ⟨D, hD⟩ : ∃ D, D = L2 ++ headT (cutT c.val).length ++ cutT c.val := ⟨_, rfl⟩
        rw [← hD] at ho
        have HD := Lib.hid (show numB (gi true) 1 ++ headT (cutT c.key).length ++ cutT c.key ++ headT (cutT c.val).length ++ cutT c.val = D from by rw [hD, HL2.out, HL1.out])
        have HLN := Lib.hid (show 0 < D.length ∧ l.length + D.length ≤ 800000 from by rw [hD]; have h := HZ.out; simp only [List.length_append, head_len] at h ⊢; omega)
        obtain ⟨A4, c4, rfl, hr4, h04⟩ := owns_lens ho
        have HB4 := Lib.hid (HB3.out.trans (hb.mono HB3.out.size))
        have HO := Lib.hid (Owns.below HI.out.row HB4.out)
        obtain ⟨b4, rfl⟩ : ∃ b4, A4 = some b4 := by
          cases A4 with
          | none => have h1 := (h04 rfl).1; have h2 := HLN.out.1; omega
          | some x => exact ⟨x, rfl⟩
        have HNW := Lib.hid (row_news hr4)
        clear ho hb hr4 h04 hD
        go_wp2_with (at_builtin; refine wpList_append_own _ rfl (.tmp 24) (.tmp 28) 69 rfl w.heap.size 5 i0 (.int .u8 0) 1 1 Try.underlying69 HII.out.1 HII.out.2.1 HII.out.2.2.1 HII.out.2.2.2 rfl (by decide) (.slice Au l.length cu) l.length (l.map bv) rfl HO.out b4 D.length c4 (D.map bv) rfl (by simp) HNW.out (bytes_one D) (by unfold maxLen; have := HLN.out; omega) (by have := HLN.out; omega) (Nat.le_trans HI.out.below.size HB4.out.size) ?_)
        intro v1 w5 o2 g2 _
        have HRel := Lib.hid (PutI.step HI.out HB4.out HC.out HD.out HG.out o2 g2)
        clear o2 g2
        go_wp2
        go_roundw
        case rel => exact ⟨j + 1, _, _, HLT.out, by go_num, rfl, HRel⟩
        case measure => have := HLT.out; simp [intOf]; omega
      | false =>
        rw [hg] at x2
        have HG := Lib.hid hg
        replace HQ := Lib.hid (HQ.out false hg)
        clear hg
        go_wp2_with (first | ((with_reducible refine Who.wpList_loadC 53 (.tmp 15) rfl b (off + j * 3) (chC c) ?_); refine And.intro ⟨by rfl, by rfl, ⟨_, Try.underlying53, rfl⟩, info_ch⟩ (And.intro HRG.out ?_); (try simp only [Act.put, List.setIfInBounds_toArray, List.set_cons_zero, List.set_cons_succ])) | ((with_reducible refine Who.wpList_newC 53 5 (.tmp 16) rfl rfl rfl (chC ch0) (chC c) ?_); refine And.intro ⟨rfl, rfl, rfl, halc, by rfl, by rfl, info_ch, rfl, chC_one _⟩ ?_; (try simp only [Act.put, List.setIfInBounds_toArray, List.set_cons_zero, List.set_cons_succ])))
        refine wp_region_held_drew (S := fun w' => w'.cell? ⟨wr.heap.size, 0, none⟩ = some (.string c.key)) (by kernel_rfl) (HX.out.drew.at_ 0) (fun hHeld => ?_)
        refine Vc.wpAnyH_read (i := 0) (d := some 19) (v := ?vfalse0) (by rfl) (by rfl) (by kernel_rfl) (by kernel_rfl) (by kernel_rfl) (fun _ _ _ h => h) (by rfl) ?hyfalse0 (by assumption) ?restfalse0
        case hyfalse0 =>
          intro w hSw
          try dsimp only at hSw
          go_simp
          try with_reducible rfl
        (try simp only [Act.put, List.setIfInBounds_toArray, List.set_cons_zero, List.set_cons_succ])
        refine Vc.wpAnyH_read (i := 2) (d := some 21) (v := ?vfalse2) (by rfl) (by rfl) (by kernel_rfl) (by kernel_rfl) (by kernel_rfl) (fun _ _ _ h => h) (by rfl) ?hyfalse2 (by assumption) ?restfalse2
        case hyfalse2 =>
          intro w hSw
          try dsimp only at hSw
          go_simp
          try with_reducible rfl
        (try simp only [Act.put, List.setIfInBounds_toArray, List.set_cons_zero, List.set_cons_succ])
        refine Vc.wpAnyH_read (i := 3) (d := some 22) (v := ?vfalse3) (by rfl) (by rfl) (by kernel_rfl) (by kernel_rfl) (by kernel_rfl) (fun _ _ _ h => h) (by rfl) ?hyfalse3 (by assumption) ?restfalse3
        case hyfalse3 =>
          intro w hSw
          try dsimp only at hSw
          go_simp
          try with_reducible rfl
        (try simp only [Act.put, List.setIfInBounds_toArray, List.set_cons_zero, List.set_cons_succ])
        refine wpAnyH_ready (rs := [1]) (by kernel_rfl) (by simp) ?_
        refine AllReadyH.cons rfl (fun K hK => ?_) AllReadyH.nil
        go_simp
        go_at_call 46
        refine (HP1.out (gi false) _).mono ?_
        rintro e w2 ⟨v, rfl, ho, hb⟩
        obtain ⟨L1, hL1⟩ : ∃ L1, L1 = numB (gi false) 1 := ⟨_, rfl⟩
        rw [← hL1] at ho
        have HL1 := Lib.hid hL1
        obtain ⟨A2, c2, rfl, hr2, h02⟩ := owns_lens ho
        have HB2 := Lib.hid (HB1.out.drew.trans (hb.mono HB1.out.size))
        have HX2 := Lib.hid (hbelow HX.out.drew hb)
        have HR2 := Lib.hid (And.intro hr2 h02)
        clear ho hb hr2 h02 hL1
        refine hK.out _ _ (HX2.out.at_ 0) (fun hHeld => ?_)
        clear hK K
        (try simp only [Act.put, List.setIfInBounds_toArray, List.set_cons_zero, List.set_cons_succ])
        refine wpAnyH_ready (rs := [4]) (by kernel_rfl) (by simp) ?_
        refine AllReadyH.cons rfl (fun K hK => ?_) AllReadyH.nil
        go_simp
        go_at_call 47
        refine (ptext_any A2 _ c2 _ c.key (by rw [HL1.out, numB_len]; omega) _ HR2.out.1 HR2.out.2).mono ?_
        rintro e w3 ⟨v, rfl, ho, hb⟩
        obtain ⟨L2, hL2⟩ : ∃ L2, L2 = L1 ++ headT (cutT c.key).length ++ cutT c.key := ⟨_, rfl⟩
        rw [← hL2] at ho
        have HL2 := Lib.hid hL2
        obtain ⟨A3, c3, rfl, hr3, h03⟩ := owns_lens ho
        have HB3 := Lib.hid (HB2.out.trans (hb.mono HB2.out.size))
        have HX3 := Lib.hid (hbelow HX2.out hb)
        have HR3 := Lib.hid (And.intro hr3 h03)
        clear ho hb hr3 h03 hL2
        refine hK.out _ _ (HX3.out.at_ 0) (fun hHeld => ?_)
        clear hK K
        (try simp only [Act.put, List.setIfInBounds_toArray, List.set_cons_zero, List.set_cons_succ])
        refine Vc.wpAnyH_read (i := 5) (d := some 7) (v := ?vfalse5) (by rfl) (by rfl) (by kernel_rfl) (by kernel_rfl) (by kernel_rfl) (fun _ _ _ h => h) (by rfl) ?hyfalse5 (by assumption) ?restfalse5
        case hyfalse5 =>
          intro w hSw
          try dsimp only at hSw
          go_simp
          try with_reducible rfl
        (try simp only [Act.put, List.setIfInBounds_toArray, List.set_cons_zero, List.set_cons_succ])
        refine wpAnyH_done (by kernel_rfl) ?_ _
        have c1 : w3.cell? ⟨wr.heap.size, 1, none⟩ = some (.string c.val) := HX3.out.at_ 1
        have HZ := Lib.hid (show l.length + L2.length + (headT (cutT c.val).length ++ cutT c.val).length ≤ 800000 from by rw [HL2.out, HL1.out]; have h := HQ.out; simp only [List.length_append] at h ⊢; omega)
        go_wp2_with fail
        refine (ptext_any A3 _ c3 _ c.val (by have := HZ.out; omega) _ HR3.out.1 HR3.out.2).mono ?_
        rintro e w4 ⟨v, rfl, ho, hb⟩
        obtain ⟨D, hD⟩ : ∃ D, D = L2 ++ headT (cutT c.val).length ++ cutT c.val := ⟨_, rfl⟩
        rw [← hD] at ho
        have HD := Lib.hid (show numB (gi false) 1 ++ headT (cutT c.key).length ++ cutT c.key ++ headT (cutT c.val).length ++ cutT c.val = D from by rw [hD, HL2.out, HL1.out])
        have HLN := Lib.hid (show 0 < D.length ∧ l.length + D.length ≤ 800000 from by rw [hD]; have h := HZ.out; simp only [List.length_append, head_len] at h ⊢; omega)
        obtain ⟨A4, c4, rfl, hr4, h04⟩ := owns_lens ho
        have HB4 := Lib.hid (HB3.out.trans (hb.mono HB3.out.size))
        have HO := Lib.hid (Owns.below HI.out.row HB4.out)
        obtain ⟨b4, rfl⟩ : ∃ b4, A4 = some b4 := by
          cases A4 with
          | none => have h1 := (h04 rfl).1; have h2 := HLN.out.1; omega
          | some x => exact ⟨x, rfl⟩
        have HNW := Lib.hid (row_news hr4)
        clear ho hb hr4 h04 hD
        go_wp2_with (at_builtin; refine wpList_append_own _ rfl (.tmp 24) (.tmp 28) 69 rfl w.heap.size 5 i0 (.int .u8 0) 1 1 Try.underlying69 HII.out.1 HII.out.2.1 HII.out.2.2.1 HII.out.2.2.2 rfl (by decide) (.slice Au l.length cu) l.length (l.map bv) rfl HO.out b4 D.length c4 (D.map bv) rfl (by simp) HNW.out (bytes_one D) (by unfold maxLen; have := HLN.out; omega) (by have := HLN.out; omega) (Nat.le_trans HI.out.below.size HB4.out.size) ?_)
        intro v1 w5 o2 g2 _
        have HRel := Lib.hid (PutI.step HI.out HB4.out HC.out HD.out HG.out o2 g2)
        clear o2 g2
        go_wp2
        go_roundw
        case rel => exact ⟨j + 1, _, _, HLT.out, by go_num, rfl, HRel⟩
        case measure => have := HLT.out; simp [intOf]; omega
    · have hlti : ¬ (j : Int) < n := by omega
      obtain rfl : j = n := by omega
      have HE := Lib.hid (show l = putD cs by rw [HI.out.is, ← HLNN.out]; exact putTo_all cs)
      have kc := conv_RowB wr Au l.length cu l HRU.out
      go_wp2
      go_ret
      exact ⟨by rw [HE.out]; rfl, HI.out.below⟩
end Go.Proofs.Ytepnckglnciinaa.Sm
