/- What the parts of a stage tell: Changes. -/
import Derived.Test.YtepnckglnciinaaSmK
namespace Go.Proofs.Ytepnckglnciinaa.Sm
open Go.RowKit Go.Proofs.Ytepnckglnciinaa.Mem
set_option linter.unusedVariables false

def partB (m : Int → Option ByteArray) (i : Nat) : List UInt8 := ((m (i : Int)).getD ⟨#[]⟩).data.toList
def allB (m : Int → Option ByteArray) (n : Nat) : List UInt8 := (List.range n).flatMap (partB m)
theorem allB_snoc (m : Int → Option ByteArray) (n : Nat) : allB m (n + 1) = allB m n ++ partB m n := by unfold allB; rw [List.range_succ, List.flatMap_append]; simp
theorem allB_le (m : Int → Option ByteArray) (hs : ∀ z s, m z = some s → s.size ≤ 512) : ∀ n, (allB m n).length ≤ n * 512
  | 0 => by simp [allB]
  | n + 1 => by
    rw [allB_snoc, List.length_append]
    have h1 := allB_le m hs n
    have h2 : (partB m n).length ≤ 512 := by
      unfold partB
      cases h : m (n : Int) with
      | none => simp
      | some s => have := hs _ s h; simpa using this
    omega
theorem filter_all {α : Type} {p : α → Bool} : ∀ {l : List α}, (l.filter p).length = l.length → ∀ x ∈ l, p x = true
  | [], _, x, hx => by cases hx
  | a :: l, h, x, hx => by
    rw [List.filter_cons] at h
    by_cases ha : p a = true
    · rw [if_pos ha] at h
      simp at h
      rcases List.mem_cons.1 hx with rfl | hx
      · exact ha
      · exact filter_all (by simpa using h) x hx
    · rw [if_neg ha] at h
      have := List.length_filter_le p l
      simp at h
      omega
theorem cnt_all {T : Nat} {m : Int → Option ByteArray} (h : T ≤ cntM T m) : ∀ i : Nat, i < T → (m i).isSome = true := fun i hi => by
  have hl : ((List.range T).filter fun (i : Nat) => (m (i : Int)).isSome).length = (List.range T).length := by
    have h1 := List.length_filter_le (fun (i : Nat) => (m (i : Int)).isSome) (List.range T)
    rw [List.length_range] at h1 ⊢
    unfold cntM at h
    omega
  exact filter_all hl i (List.mem_range.2 hi)
theorem cnt_le (T : Nat) (m : Int → Option ByteArray) : cntM T m ≤ T := by
  have h1 := List.length_filter_le (fun (i : Nat) => (m (i : Int)).isSome) (List.range T)
  rw [List.length_range] at h1
  exact h1
theorem bld_below {B b : Nat} {p : Value} {bs : List Value} {w w' : World} (h : Lib.BuilderAt 71 5 B b p bs w) (hb : Below w.heap.size w w') : Lib.BuilderAt 71 5 B b p bs w' := by
  obtain ⟨h1, v, h2, h3, h4⟩ := h
  exact ⟨h1, v, by rw [hb.block b (Array.getElem?_eq_some_iff.1 h2).1]; exact h2, own1_below h3 hb, h4⟩
theorem changes_less (g q T : Nat) (m : Int → Option ByteArray) (w : World) (h : StageIs w g q T m) (hc : cntM T m < T) : Calls Try.prog 28 #[.pointer (some ⟨g, 0, none⟩)] w fun e w' => e = .returned (.tuple #[.slice none 0 0, .int .i64 61]) ∧ Below w.heap.size w w' := by
  have HM := Lib.hid (made_live g q T m w h)
  obtain ⟨es, clock, hes, hn⟩ := IMap.len h.map h.dom
  have c0 := h.obj.at_ 0
  have c1 := h.obj.at_ 1
  simp at c0 c1
  have hlt : (es.size : Int) < T := by omega
  have hlt2 : (cntM T m : Int) < T := by omega
  clear h
  go_enter Try.func28, Try.ntmps28
  go_wp2_with fail
  with_reducible refine HM.out.mono ?_
  rintro e w' ⟨rfl, rfl⟩
  go_wp2
  refine wp_region_held_drew (S := fun w' => w'.cell? ⟨g, 0, none⟩ = some (.int .i64 (T : Int)) ∧ w'.cell? ⟨g, 1, none⟩ = some (.map (some q)) ∧ w'.heap[q]? = some (.map es clock)) (by kernel_rfl) ⟨c0, c1, hes⟩ (fun hHeld => ?_)
  refine Vc.wpAnyH_read (i := 0) (d := some 9) (v := ?va0) (by rfl) (by rfl) (by kernel_rfl) (by kernel_rfl) (by kernel_rfl) (fun _ _ _ h => h) (by rfl) ?hya0 (by assumption) ?resta0
  case hya0 =>
    intro w hSw
    obtain ⟨hS1, hS2, hS3⟩ := hSw
    have hlen := fun ty => len_map q es clock w ty hS3
    go_simp
    try with_reducible rfl
  (try simp only [Act.put, List.setIfInBounds_toArray, List.set_cons_zero, List.set_cons_succ])
  refine Vc.wpAnyH_read (i := 1) (d := some 10) (v := ?va1) (by rfl) (by rfl) (by kernel_rfl) (by kernel_rfl) (by kernel_rfl) (fun _ _ _ h => h) (by rfl) ?hya1 (by assumption) ?resta1
  case hya1 =>
    intro w hSw
    obtain ⟨hS1, hS2, hS3⟩ := hSw
    have hlen := fun ty => len_map q es clock w ty hS3
    go_simp
    try with_reducible rfl
  (try simp only [Act.put, List.setIfInBounds_toArray, List.set_cons_zero, List.set_cons_succ])
  refine Vc.wpAnyH_read (i := 2) (d := some 11) (v := ?va2) (by rfl) (by rfl) (by kernel_rfl) (by kernel_rfl) (by kernel_rfl) (fun _ _ _ h => h) (by rfl) ?hya2 (by assumption) ?resta2
  case hya2 =>
    intro w hSw
    obtain ⟨hS1, hS2, hS3⟩ := hSw
    have hlen := fun ty => len_map q es clock w ty hS3
    go_simp
    try with_reducible rfl
  (try simp only [Act.put, List.setIfInBounds_toArray, List.set_cons_zero, List.set_cons_succ])
  refine Vc.wpAnyH_read (i := 3) (d := some 12) (v := ?va3) (by rfl) (by rfl) (by kernel_rfl) (by kernel_rfl) (by kernel_rfl) (fun _ _ _ h => h) (by rfl) ?hya3 (by assumption) ?resta3
  case hya3 =>
    intro w hSw
    obtain ⟨hS1, hS2, hS3⟩ := hSw
    have hlen := fun ty => len_map q es clock w ty hS3
    go_simp
    try with_reducible rfl
  (try simp only [Act.put, List.setIfInBounds_toArray, List.set_cons_zero, List.set_cons_succ])
  refine Vc.wpAnyH_read (i := 4) (d := some 13) (v := ?va4) (by rfl) (by rfl) (by kernel_rfl) (by kernel_rfl) (by kernel_rfl) (fun _ _ _ h => h) (by rfl) ?hya4 (by assumption) ?resta4
  case hya4 =>
    intro w hSw
    obtain ⟨hS1, hS2, hS3⟩ := hSw
    have hlen := fun ty => len_map q es clock w ty hS3
    go_simp
    try with_reducible rfl
  (try simp only [Act.put, List.setIfInBounds_toArray, List.set_cons_zero, List.set_cons_succ])
  refine Vc.wpAnyH_read (i := 5) (d := some 14) (v := ?va5) (by rfl) (by rfl) (by kernel_rfl) (by kernel_rfl) (by kernel_rfl) (fun _ _ _ h => h) (by rfl) ?hya5 (by assumption) ?resta5
  case hya5 =>
    intro w hSw
    obtain ⟨hS1, hS2, hS3⟩ := hSw
    have hlen := fun ty => len_map q es clock w ty hS3
    go_simp
    try with_reducible rfl
  (try simp only [Act.put, List.setIfInBounds_toArray, List.set_cons_zero, List.set_cons_succ])
  refine Vc.wpAnyH_read (i := 6) (d := some 15) (v := ?va6) (by rfl) (by rfl) (by kernel_rfl) (by kernel_rfl) (by kernel_rfl) (fun _ _ _ h => h) (by rfl) ?hya6 (by assumption) ?resta6
  case hya6 =>
    intro w hSw
    obtain ⟨hS1, hS2, hS3⟩ := hSw
    have hlen := fun ty => len_map q es clock w ty hS3
    go_simp
    try with_reducible rfl
  (try simp only [Act.put, List.setIfInBounds_toArray, List.set_cons_zero, List.set_cons_succ])
  refine Vc.wpAnyH_read (i := 7) (d := some 16) (v := ?va7) (by rfl) (by rfl) (by kernel_rfl) (by kernel_rfl) (by kernel_rfl) (fun _ _ _ h => h) (by rfl) ?hya7 (by assumption) ?resta7
  case hya7 =>
    intro w hSw
    obtain ⟨hS1, hS2, hS3⟩ := hSw
    have hlen := fun ty => len_map q es clock w ty hS3
    go_simp
    try with_reducible rfl
  (try simp only [Act.put, List.setIfInBounds_toArray, List.set_cons_zero, List.set_cons_succ])
  refine Vc.wpAnyH_read (i := 8) (d := some 17) (v := ?va8) (by rfl) (by rfl) (by kernel_rfl) (by kernel_rfl) (by kernel_rfl) (fun _ _ _ h => h) (by rfl) ?hya8 (by assumption) ?resta8
  case hya8 =>
    intro w hSw
    obtain ⟨hS1, hS2, hS3⟩ := hSw
    have hlen := fun ty => len_map q es clock w ty hS3
    go_simp
    try with_reducible rfl
  (try simp only [Act.put, List.setIfInBounds_toArray, List.set_cons_zero, List.set_cons_succ])
  refine Vc.wpAnyH_read (i := 9) (d := some 18) (v := ?va9) (by rfl) (by rfl) (by kernel_rfl) (by kernel_rfl) (by kernel_rfl) (fun _ _ _ h => h) (by rfl) ?hya9 (by assumption) ?resta9
  case hya9 =>
    intro w hSw
    obtain ⟨hS1, hS2, hS3⟩ := hSw
    have hlen := fun ty => len_map q es clock w ty hS3
    go_simp
    try with_reducible rfl
  (try simp only [Act.put, List.setIfInBounds_toArray, List.set_cons_zero, List.set_cons_succ])
  refine wpAnyH_done (by kernel_rfl) ?_ _
  go_wp2
  exact bodyPost_ret (v := .tuple #[.slice none 0 0, .int .i64 61]) (by simp [results, Try.results28, go_sem]) rfl ⟨rfl, (Below.refl _ _).drew⟩
structure ChI (w wr : World) (m : Int → Option ByteArray) (b j : Nat) : Prop where
  below : Below w.heap.size w wr
  bld : Lib.IsBuilder 71 5 w.heap.size b (Lib.byteCells (allB m j)) wr
theorem getout_low {o : Option (List ChgP)} {B C : Nat} {e : Ending} {w : World} (h : GetOut o B e w) (hc : C ≤ B) : GetOut o C e w := by
  cases o with
  | none => exact h
  | some cs =>
    obtain ⟨v, e1, e2⟩ := h
    exact ⟨v, e1, e2.low hc⟩
set_option maxRecDepth 100000 in
set_option maxHeartbeats 4000000 in
theorem changes_live (g q T : Nat) (m : Int → Option ByteArray) (hs : ∀ z s, m z = some s → s.size ≤ 512) (hT : T ≤ 1900) (w : World) (h : StageIs w g q T m) (hc : T ≤ cntM T m) : Calls Try.prog 28 #[.pointer (some ⟨g, 0, none⟩)] w (GetIs ⟨(allB m T).toArray⟩ w) := by
  have HM := Lib.hid (made_live g q T m w h)
  obtain ⟨es, clock, hes, hn⟩ := IMap.len h.map h.dom
  have c0 := h.obj.at_ 0
  have c1 := h.obj.at_ 1
  simp at c0 c1
  have hlt : ¬ (es.size : Int) < T := by omega
  have hlt2 : ¬ (cntM T m : Int) < T := by omega
  have hle : T ≤ cntM T m := hc
  have HST := Lib.hid h
  have HALL := Lib.hid (cnt_all hc)
  have HTT := Lib.hid hT
  have HSM := Lib.hid (allB_le m hs)
  have HSM1 := Lib.hid hs
  clear h hc hT hs
  go_enter Try.func28, Try.ntmps28
  go_wp2_with fail
  with_reducible refine HM.out.mono ?_
  rintro e w' ⟨rfl, rfl⟩
  go_wp2
  refine wp_region_held_drew (S := fun w' => w'.cell? ⟨g, 0, none⟩ = some (.int .i64 (T : Int)) ∧ w'.cell? ⟨g, 1, none⟩ = some (.map (some q)) ∧ w'.heap[q]? = some (.map es clock)) (by kernel_rfl) ⟨c0, c1, hes⟩ (fun hHeld => ?_)
  refine Vc.wpAnyH_read (i := 0) (d := some 9) (v := ?va0) (by rfl) (by rfl) (by kernel_rfl) (by kernel_rfl) (by kernel_rfl) (fun _ _ _ h => h) (by rfl) ?hya0 (by assumption) ?resta0
  case hya0 =>
    intro w hSw
    obtain ⟨hS1, hS2, hS3⟩ := hSw
    have hlen := fun ty => len_map q es clock w ty hS3
    go_simp
    try with_reducible rfl
  (try simp only [Act.put, List.setIfInBounds_toArray, List.set_cons_zero, List.set_cons_succ])
  refine Vc.wpAnyH_read (i := 1) (d := some 10) (v := ?va1) (by rfl) (by rfl) (by kernel_rfl) (by kernel_rfl) (by kernel_rfl) (fun _ _ _ h => h) (by rfl) ?hya1 (by assumption) ?resta1
  case hya1 =>
    intro w hSw
    obtain ⟨hS1, hS2, hS3⟩ := hSw
    have hlen := fun ty => len_map q es clock w ty hS3
    go_simp
    try with_reducible rfl
  (try simp only [Act.put, List.setIfInBounds_toArray, List.set_cons_zero, List.set_cons_succ])
  refine Vc.wpAnyH_read (i := 2) (d := some 11) (v := ?va2) (by rfl) (by rfl) (by kernel_rfl) (by kernel_rfl) (by kernel_rfl) (fun _ _ _ h => h) (by rfl) ?hya2 (by assumption) ?resta2
  case hya2 =>
    intro w hSw
    obtain ⟨hS1, hS2, hS3⟩ := hSw
    have hlen := fun ty => len_map q es clock w ty hS3
    go_simp
    try with_reducible rfl
  (try simp only [Act.put, List.setIfInBounds_toArray, List.set_cons_zero, List.set_cons_succ])
  refine Vc.wpAnyH_read (i := 3) (d := some 12) (v := ?va3) (by rfl) (by rfl) (by kernel_rfl) (by kernel_rfl) (by kernel_rfl) (fun _ _ _ h => h) (by rfl) ?hya3 (by assumption) ?resta3
  case hya3 =>
    intro w hSw
    obtain ⟨hS1, hS2, hS3⟩ := hSw
    have hlen := fun ty => len_map q es clock w ty hS3
    go_simp
    try with_reducible rfl
  (try simp only [Act.put, List.setIfInBounds_toArray, List.set_cons_zero, List.set_cons_succ])
  refine Vc.wpAnyH_read (i := 4) (d := some 13) (v := ?va4) (by rfl) (by rfl) (by kernel_rfl) (by kernel_rfl) (by kernel_rfl) (fun _ _ _ h => h) (by rfl) ?hya4 (by assumption) ?resta4
  case hya4 =>
    intro w hSw
    obtain ⟨hS1, hS2, hS3⟩ := hSw
    have hlen := fun ty => len_map q es clock w ty hS3
    go_simp
    try with_reducible rfl
  (try simp only [Act.put, List.setIfInBounds_toArray, List.set_cons_zero, List.set_cons_succ])
  refine Vc.wpAnyH_read (i := 5) (d := some 14) (v := ?va5) (by rfl) (by rfl) (by kernel_rfl) (by kernel_rfl) (by kernel_rfl) (fun _ _ _ h => h) (by rfl) ?hya5 (by assumption) ?resta5
  case hya5 =>
    intro w hSw
    obtain ⟨hS1, hS2, hS3⟩ := hSw
    have hlen := fun ty => len_map q es clock w ty hS3
    go_simp
    try with_reducible rfl
  (try simp only [Act.put, List.setIfInBounds_toArray, List.set_cons_zero, List.set_cons_succ])
  refine Vc.wpAnyH_read (i := 6) (d := some 15) (v := ?va6) (by rfl) (by rfl) (by kernel_rfl) (by kernel_rfl) (by kernel_rfl) (fun _ _ _ h => h) (by rfl) ?hya6 (by assumption) ?resta6
  case hya6 =>
    intro w hSw
    obtain ⟨hS1, hS2, hS3⟩ := hSw
    have hlen := fun ty => len_map q es clock w ty hS3
    go_simp
    try with_reducible rfl
  (try simp only [Act.put, List.setIfInBounds_toArray, List.set_cons_zero, List.set_cons_succ])
  refine Vc.wpAnyH_read (i := 7) (d := some 16) (v := ?va7) (by rfl) (by rfl) (by kernel_rfl) (by kernel_rfl) (by kernel_rfl) (fun _ _ _ h => h) (by rfl) ?hya7 (by assumption) ?resta7
  case hya7 =>
    intro w hSw
    obtain ⟨hS1, hS2, hS3⟩ := hSw
    have hlen := fun ty => len_map q es clock w ty hS3
    go_simp
    try with_reducible rfl
  (try simp only [Act.put, List.setIfInBounds_toArray, List.set_cons_zero, List.set_cons_succ])
  refine Vc.wpAnyH_read (i := 8) (d := some 17) (v := ?va8) (by rfl) (by rfl) (by kernel_rfl) (by kernel_rfl) (by kernel_rfl) (fun _ _ _ h => h) (by rfl) ?hya8 (by assumption) ?resta8
  case hya8 =>
    intro w hSw
    obtain ⟨hS1, hS2, hS3⟩ := hSw
    have hlen := fun ty => len_map q es clock w ty hS3
    go_simp
    try with_reducible rfl
  (try simp only [Act.put, List.setIfInBounds_toArray, List.set_cons_zero, List.set_cons_succ])
  refine Vc.wpAnyH_read (i := 9) (d := some 18) (v := .bool false) (by rfl) (by rfl) (by kernel_rfl) (by kernel_rfl) (by kernel_rfl) (fun _ _ _ h => h) (by rfl) ?hya9 (by assumption) ?resta9
  case hya9 =>
    intro w hSw
    obtain ⟨hS1, hS2, hS3⟩ := hSw
    have hlen := fun ty => len_map q es clock w ty hS3
    go_simp
    try with_reducible rfl
  (try simp only [Act.put, List.setIfInBounds_toArray, List.set_cons_zero, List.set_cons_succ])
  refine wpAnyH_done (by kernel_rfl) ?_ _
  have hfr := Lib.fresh_isBuilder 71 5 w
  have hba := (Below.refl w.heap.size w).alloc (Nat.le_refl _) (.cells #[.pointer none, .slice none 0 0] 71)
  have HI0 := Lib.hid (show ChI w (w.alloc (.cells #[.pointer none, .slice none 0 0] 71)).drew m w.heap.size 0 from ⟨hba.drew, hfr.imp (fun h => h.drew) (fun h => h.drew)⟩)
  have d0 : (w.alloc (.cells #[.pointer none, .slice none 0 0] 71)).cell? ⟨g, 0, none⟩ = some (.int .i64 (T : Int)) := (HST.out.below hba).obj.at_ 0
  clear hfr hba hes hlt hn
  go_wp2
  go_loopw [23] (fun i wr => ∃ j : Nat, j ≤ T ∧ i = .int .i64 j ∧ Hid (ChI w wr m w.heap.size j)) (fun i _ => T - (intOf i).toNat)
  case atStart => exact ⟨0, by omega, rfl, HI0⟩
  case round =>
    obtain ⟨j, hj, rfl, HI⟩ := hrel
    have hT : (T : Int) ≤ 1900 := by have := HTT.out; omega
    by_cases hltj : j < T
    · have HLT := Lib.hid (show j + 1 ≤ T from hltj)
      have hltji : (j : Int) < T := by omega
      have hst := HST.out.below HI.out.below
      have e1 := hst.obj.at_ 1
      simp at e1
      have hl := (hst.map.lookup mapT intT (.agg #[.string ⟨#[]⟩]) zero_piece j).1
      have hsome := HALL.out j hltj
      obtain ⟨s, hsj⟩ := Option.isSome_iff_exists.1 hsome
      have ev : vals m j = some (.agg #[.string s]) := by unfold vals; rw [hsj]; rfl
      rw [ev] at hl
      simp at hl
      have HSJ := Lib.hid hsj
      have hfp := field_piece
      have HWS := Lib.hid (writeString_any w.heap.size w.heap.size (Lib.byteCells (allB m j)) s wr HI.out.bld (by have h1 := HSM.out j; have h2 := HSM1.out _ s hsj; simp [Lib.byteCells]; have := HTT.out; omega) HI.out.below.size)
      clear hst hsome ev hsj
      go_wp2_with fail
      refine HWS.out.mono ?_
      rintro e w2 ⟨rfl, hbd, hb⟩
      have HQ := Lib.hid (show ChI w w2 m w.heap.size (j + 1) from ⟨HI.out.below.trans hb, Or.inr (by
        rw [allB_snoc]
        have e1 : partB m j = s.data.toList := by unfold partB; rw [HSJ.out]; rfl
        rw [e1]
        have e2 : Lib.byteCells (allB m j ++ s.data.toList) = Lib.byteCells (allB m j) ++ Lib.strCells s := by unfold Lib.byteCells; rw [List.map_append]; rfl
        rw [e2]
        exact hbd)⟩)
      clear hbd hb
      go_wp2
      go_roundw
      case rel => exact ⟨j + 1, HLT.out, by go_num, HQ⟩
      case measure => have := HLT.out; simp [intOf]; omega
    · have hltji : ¬ (j : Int) < T := by omega
      obtain rfl : j = T := by omega
      have HSTR := Lib.hid (Try.Builder_String_any w.heap.size w.heap.size (allB m j) wr HI.out.bld HI.out.below.size)
      have HSZ := Lib.hid (show (allB m j).length ≤ 1000000 by have := HSM.out j; have := HTT.out; omega)
      go_wp2_with fail
      refine HSTR.out.mono ?_
      rintro e w2 ⟨rfl, hb⟩
      have HB2 := Lib.hid (HI.out.below.trans hb)
      have HG := Lib.hid (dget_any ⟨(allB m j).toArray⟩ (by have := HSZ.out; simpa [ByteArray.size] using this) w2)
      clear hb
      go_wp2_with fail
      refine HG.out.mono ?_
      rintro e w3 ⟨⟨o, ho, hout⟩, hb⟩
      have HB3 := Lib.hid (HB2.out.trans (hb.mono HB2.out.size))
      cases o with
      | none =>
        obtain rfl := hout
        have HO := Lib.hid ho
        clear hb ho
        go_wp2
        exact bodyPost_ret (v := .tuple #[.slice none 0 0, .int .i64 201]) (by simp [results, Try.results28, go_sem]) rfl ⟨⟨none, HO.out, rfl⟩, HB3.out⟩
      | some cs =>
        obtain ⟨v, rfl, hv⟩ := hout
        obtain ⟨Av, cv, rfl⟩ := hv.sl
        have HO := Lib.hid ho
        have HV := Lib.hid (hv.low HB2.out.size)
        clear hb ho hv
        go_wp2
        exact bodyPost_ret (v := .tuple #[.slice Av cs.length cv, .int .i64 0]) (by simp [results, Try.results28, go_sem]) rfl ⟨⟨some cs, HO.out, _, rfl, HV.out⟩, HB3.out⟩
end Go.Proofs.Ytepnckglnciinaa.Sm
