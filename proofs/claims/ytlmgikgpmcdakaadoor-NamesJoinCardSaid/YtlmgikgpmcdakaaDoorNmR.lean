/- The document's own Good and Split. -/
import Derived.Test.YtlmgikgpmcdakaaDoorNmWBack
namespace Go.Proofs.YtlmgikgpmcdakaaDoor.Nm
open Go.RowKit Go.Proofs.YtlmgikgpmcdakaaDoor.Mem Go.Proofs.YtlmgikgpmcdakaaDoor.Rws

theorem bad_hit (l : List UInt8) (i : Nat) (x : UInt8) (hn : Lib.NoAny l [47, 0] i) (hx : l[i]? = some x) (h : x = 47 ∨ x = 0) : bad l = true := by
  unfold bad
  rw [Lib.indexAny_hit hn hx (by rcases h with rfl | rfl <;> decide)]
  exact decide_eq_true (Int.natCast_nonneg _)
theorem bad_none (l : List UInt8) (hn : Lib.NoAny l [47, 0] l.length) : bad l = false := by
  unfold bad
  rw [Lib.indexAny_none hn]
  decide
theorem rgood_any (s : ByteArray) (hs : s.size ≤ 4294967280) (w : World) :
    Calls Tryd.prog 16 #[.string s] w fun e w' => e = .returned (.int .i64 (goodM s.data.toList)) ∧ w' = w := by
  by_cases h0 : s = ⟨#[]⟩
  · subst h0
    go_enter Tryd.func16, Tryd.ntmps16
    go_wp2
    go_ret
    exact ⟨rfl, rfl⟩
  · by_cases h1 : s = ⟨#[46]⟩
    · subst h1
      go_enter Tryd.func16, Tryd.ntmps16
      go_wp2
      go_ret
      exact ⟨rfl, rfl⟩
    · by_cases h2 : s = ⟨#[46, 46]⟩
      · subst h2
        go_enter Tryd.func16, Tryd.ntmps16
        go_wp2
        go_ret
        exact ⟨rfl, rfl⟩
      · have k0 : ¬ s.data.toList = [] := fun h => h0 (bytes_ext h)
        have k1 : ¬ s.data.toList = [46] := fun h => h1 (bytes_ext h)
        have k2 : ¬ s.data.toList = [46, 46] := fun h => h2 (bytes_ext h)
        have q1 : ¬ s.toList = [46] := by rw [ByteArray.toList_eq]; exact k1
        have q2 : ¬ s.toList = [46, 46] := by rw [ByteArray.toList_eq]; exact k2
        have r1 : (s.toList == [46]) = false := beq_eq_false_iff_ne.2 q1
        have r2 : (s.toList == [46, 46]) = false := beq_eq_false_iff_ne.2 q2
        have hemp : s.toList.isEmpty = false := by
          rw [← decide_eq_emptyBytes]
          exact decide_eq_false h0
        have hl : s.data.toList.length = s.size := by simp
        have HG := Lib.hid (show goodM s.data.toList = if bad s.data.toList = true then 22 else if 16 < s.size then 36 else 0 by unfold goodM; rw [hl]; simp [k0, k1, k2])
        have HL := Lib.hid hl
        clear h0 h1 h2 k0 k1 k2 hl
        go_enter Tryd.func16, Tryd.ntmps16
        go_wp2
        go_loop [16] (fun i => ∃ k : Nat, i = .int .i64 k ∧ k ≤ s.size ∧ Lib.NoAny s.data.toList [47, 0] k) (fun i => s.size - (intOf i).toNat)
        case atStart => exact ⟨0, rfl, by omega, Lib.NoAny.zero _ _⟩
        case round =>
          obtain ⟨k, rfl, hk, hno⟩ := hrel
          have HN := Lib.hid hno
          clear hno
          by_cases hlt : k < s.size
          · obtain ⟨x, hx⟩ : ∃ x : UInt8, s[k]'hlt = x := ⟨_, rfl⟩
            have HX := Lib.hid (show s.data.toList[k]? = some x by rw [← hx]; exact Lib.data_getElem? s k hlt)
            by_cases h47 : x.toNat = 47
            · have hb := bad_hit _ k x HN.out HX.out (.inl (UInt8.toNat_inj.1 h47))
              have HG2 := Lib.hid (HG.out.trans (by rw [hb]; rfl : _ = (22 : Int)))
              clear hb
              go_wp2
              all_goals go_ret
              all_goals exact ⟨by rw [HG2.out]; rfl, rfl⟩
            · by_cases h00 : x.toNat = 0
              · have hb := bad_hit _ k x HN.out HX.out (.inr (UInt8.toNat_inj.1 h00))
                have HG2 := Lib.hid (HG.out.trans (by rw [hb]; rfl : _ = (22 : Int)))
                clear hb
                go_wp2
                all_goals go_ret
                all_goals exact ⟨by rw [HG2.out]; rfl, rfl⟩
              · have HN2 := Lib.hid (HN.out.succ HX.out (by
                  have e1 : x ≠ 47 := fun e => h47 (by rw [e]; rfl)
                  have e2 : x ≠ 0 := fun e => h00 (by rw [e]; rfl)
                  simp [e1, e2]))
                have b47 : ((x.toNat : Int) == 47) = false := beq_eq_false_iff_ne.2 (by omega)
                have b00 : ((x.toNat : Int) == 0) = false := beq_eq_false_iff_ne.2 (by omega)
                have hk1 : (k : Int) + 1 < 9223372036854775808 := by omega
                go_wp2
                refine ⟨⟨k + 1, by go_num, by omega, HN2.out⟩, by simp [intOf]; omega⟩
          · obtain rfl : k = s.size := by omega
            have hb := bad_none _ (by rw [HL.out]; exact HN.out)
            by_cases h16 : 16 < s.size
            · have HG2 := Lib.hid (HG.out.trans (by rw [hb]; simp [h16] : _ = (36 : Int)))
              have h16i : 16 < (s.size : Int) := by omega
              clear hb
              go_wp2
              all_goals go_ret
              all_goals exact ⟨by rw [HG2.out]; rfl, rfl⟩
            · have HG2 := Lib.hid (HG.out.trans (by rw [hb]; simp [h16] : _ = (0 : Int)))
              have h16i : ¬ 16 < (s.size : Int) := by omega
              clear hb
              go_wp2
              all_goals go_ret
              all_goals exact ⟨by rw [HG2.out]; rfl, rfl⟩

/-- The pieces of some bytes. -/
def seg (l : List UInt8) : List (List UInt8) := Lib.splitK [47] 0 (Lib.count l [47]) l
theorem index_first : ∀ (a : List UInt8) (r : List UInt8), (∀ b ∈ a, b ≠ 47) → Lib.index (a ++ 47 :: r) [47] = a.length
  | [], r, _ => by unfold Lib.index; rfl
  | b :: a, r, h => by
    have ih := index_first a r (fun c hc => h c (List.mem_cons_of_mem _ hc))
    have hb := h b (List.mem_cons_self ..)
    rw [List.cons_append]
    unfold Lib.index
    have e : ([47] : List UInt8).isPrefixOf (b :: (a ++ 47 :: r)) = false := by
      simp [List.isPrefixOf]
      exact fun h => hb h.symm
    rw [e, ih]
    simp
theorem index_none : ∀ (a : List UInt8), (∀ b ∈ a, b ≠ 47) → Lib.index a [47] = -1
  | [], _ => rfl
  | b :: a, h => by
    have ih := index_none a (fun c hc => h c (List.mem_cons_of_mem _ hc))
    have hb := h b (List.mem_cons_self ..)
    unfold Lib.index
    have e : ([47] : List UInt8).isPrefixOf (b :: a) = false := by
      simp [List.isPrefixOf]
      exact fun h => hb h.symm
    rw [e, ih]
    rfl
theorem seg_none (a : List UInt8) (h : ∀ b ∈ a, b ≠ 47) : seg a = [a] := by
  unfold seg
  rw [Lib.count_miss (index_none a h)]
  rfl
theorem seg_hit (a r : List UInt8) (h : ∀ b ∈ a, b ≠ 47) : seg (a ++ 47 :: r) = a :: seg r := by
  have hi := index_first a r h
  unfold seg
  rw [Lib.count_hit (by simp) hi, Nat.add_comm]
  have hd : (a ++ 47 :: r).drop (a.length + 1) = r := by simp
  simp only [List.length_singleton, hd]
  rw [Lib.splitK, hi, if_neg (by simp)]
  simp
theorem pieces_seg (r : ByteArray) : (pieces r).map (·.data.toList) = seg r.data.toList := by
  unfold pieces
  rw [Lib.splitB_data]
  rfl
theorem map_data_inj : ∀ (a b : List ByteArray), a.map (·.data.toList) = b.map (·.data.toList) → a = b
  | [], [], _ => rfl
  | [], _ :: _, h => by cases h
  | _ :: _, [], h => by cases h
  | x :: a, y :: b, h => by
    simp only [List.map_cons, List.cons.injEq] at h
    rw [bytes_ext h.1, map_data_inj a b h.2]
/-- How far the document's own looking for slashes has come. -/
def Inv (P : ByteArray) (i from' : Nat) (done : List ByteArray) : Prop :=
  1 ≤ from' ∧ from' ≤ max i 1 ∧ done.length ≤ i ∧
  ((i ≤ P.size ∧ seg (P.data.toList.drop 1) = done.map (·.data.toList) ++ seg (P.data.toList.drop from') ∧ ∀ j (hj : j < P.size), from' ≤ j → j < i → P[j] ≠ 47) ∨
   (i = P.size + 1 ∧ seg (P.data.toList.drop 1) = done.map (·.data.toList)))
theorem Inv.start (P : ByteArray) : Inv P 0 1 [] := ⟨Nat.le_refl _, by omega, by simp, .inl ⟨Nat.zero_le _, rfl, fun j _ h1 h2 => by omega⟩⟩
theorem piece_list (P : ByteArray) (a b : Nat) : (P.extract a b).data.toList = (P.data.toList.drop a).take (b - a) := by
  rw [ByteArray.data_extract]
  simp [List.extract]
theorem piece_free (P : ByteArray) (a b : Nat) (hb : b ≤ P.size) (h : ∀ j (hj : j < P.size), a ≤ j → j < b → P[j] ≠ 47) : ∀ x ∈ (P.data.toList.drop a).take (b - a), x ≠ 47 := by
  intro x hx
  obtain ⟨k, hk, rfl⟩ := List.mem_iff_getElem.1 hx
  have hk2 : k < b - a := by rw [List.length_take] at hk; omega
  rw [List.getElem_take, List.getElem_drop]
  exact h (a + k) (by omega) (by omega) (by omega)
theorem Inv.pass {P : ByteArray} {i f : Nat} {done : List ByteArray} (h : Inv P i f done) (hi : i < P.size) (hn : i = 0 ∨ P[i] ≠ 47) : Inv P (i + 1) f done := by
  obtain ⟨h1, h2, h3, h4⟩ := h
  refine ⟨h1, by omega, by omega, ?_⟩
  rcases h4 with ⟨_, h5, h6⟩ | ⟨h5, _⟩
  · refine .inl ⟨by omega, h5, fun j hj ha hb => ?_⟩
    by_cases hji : j = i
    · subst hji
      rcases hn with hn | hn
      · omega
      · exact hn
    · exact h6 j hj ha (by omega)
  · omega
theorem Inv.hit {P : ByteArray} {i f : Nat} {done : List ByteArray} (h : Inv P i f done) (h0 : 0 < i) (hi : i < P.size) (hn : P[i] = 47) : f ≤ i ∧ Inv P (i + 1) (i + 1) (done ++ [P.extract f i]) := by
  obtain ⟨h1, h2, h3, h4⟩ := h
  have hf : f ≤ i := by omega
  refine ⟨hf, by omega, by omega, by simp; omega, ?_⟩
  rcases h4 with ⟨_, h5, h6⟩ | ⟨h5, _⟩
  · refine .inl ⟨by omega, ?_, fun j _ ha hb => by omega⟩
    rw [h5, List.map_append, List.append_assoc]
    congr 1
    have hfree := piece_free P f i (by omega) h6
    have e : P.data.toList.drop f = (P.data.toList.drop f).take (i - f) ++ 47 :: P.data.toList.drop (i + 1) := by
      have e1 : (P.data.toList.drop f).drop (i - f) = P.data.toList.drop i := by rw [List.drop_drop]; congr 1; omega
      have e2 : P.data.toList.drop i = 47 :: P.data.toList.drop (i + 1) := by
        have hlt : i < P.data.toList.length := by simpa using hi
        rw [List.drop_eq_getElem_cons hlt]
        congr 1
      rw [← e2, ← e1, List.take_append_drop]
    rw [e, seg_hit _ _ hfree]
    simp only [List.map_cons, List.map_nil, List.singleton_append]
    rw [piece_list P f i]
  · omega
theorem Inv.last {P : ByteArray} {f : Nat} {done : List ByteArray} (h : Inv P P.size f done) (h0 : 0 < P.size) : f ≤ P.size ∧ Inv P (P.size + 1) (P.size + 1) (done ++ [P.extract f P.size]) := by
  obtain ⟨h1, h2, h3, h4⟩ := h
  have hf : f ≤ P.size := by omega
  refine ⟨hf, by omega, by omega, by simp; omega, ?_⟩
  rcases h4 with ⟨_, h5, h6⟩ | ⟨h5, _⟩
  · refine .inr ⟨rfl, ?_⟩
    have hfree := piece_free P f P.size (by omega) h6
    have e : (P.data.toList.drop f).take (P.size - f) = P.data.toList.drop f := List.take_of_length_le (by simp)
    rw [e] at hfree
    rw [h5, seg_none _ hfree, List.map_append]
    simp only [List.map_cons, List.map_nil]
    rw [piece_list P f P.size, e]
  · omega
theorem Inv.all {P : ByteArray} {f : Nat} {done : List ByteArray} (h : Inv P (P.size + 1) f done) (hp : Lib.hasPrefix P.data.toList [47] = true) : done = pieces (behind P) := by
  obtain ⟨_, _, _, h4⟩ := h
  rcases h4 with ⟨h5, _⟩ | ⟨_, h5⟩
  · omega
  · apply map_data_inj
    rw [← h5, pieces_seg]
    congr 1
    show P.data.toList.drop 1 = Lib.trimPrefix P.data.toList [47]
    unfold Lib.trimPrefix
    rw [if_pos hp]
    rfl
end Go.Proofs.YtlmgikgpmcdakaaDoor.Nm
