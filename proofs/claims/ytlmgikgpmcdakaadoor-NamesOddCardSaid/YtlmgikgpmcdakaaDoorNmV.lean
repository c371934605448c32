/- The document's own event of a name. -/
import Derived.Test.YtlmgikgpmcdakaaDoorNmU
namespace Go.Proofs.YtlmgikgpmcdakaaDoor.Nm
open Go.RowKit Go.Proofs.YtlmgikgpmcdakaaDoor.Mem

/-- What a sign is; 99: none. -/
def dg (c : Nat) : Nat := if 48 ≤ c ∧ c ≤ 57 then c - 48 else if 97 ≤ c ∧ c ≤ 102 then c - 87 else 99
theorem dg_dig : ∀ d : Nat, d < 16 → dg (dig d).toNat = d := by decide +kernel
theorem dg_back (x : UInt8) (h : dg x.toNat ≠ 99) : dg x.toNat < 16 ∧ x = dig (dg x.toNat) := by
  have : ∀ c : Nat, c < 256 → dg c ≠ 99 → dg c < 16 ∧ c.toUInt8 = dig (dg c) := by decide +kernel
  have h2 := this x.toNat x.toNat_lt h
  refine ⟨h2.1, ?_⟩
  rw [← h2.2]
  simp
theorem digit_any (x : UInt8) (w : World) :
    Calls Tryd.prog 35 #[.int .u8 (x.toNat : Int)] w fun e w' => e = .returned (.int .i64 (dg x.toNat : Int)) ∧ w' = w := by
  have hx := x.toNat_lt
  have HD := Lib.hid (show dg x.toNat = if 48 ≤ x.toNat ∧ x.toNat ≤ 57 then x.toNat - 48 else if 97 ≤ x.toNat ∧ x.toNat ≤ 102 then x.toNat - 87 else 99 from rfl)
  generalize x.toNat = c at *
  by_cases h1 : 48 ≤ c ∧ c ≤ 57
  · obtain ⟨a1, a2⟩ := h1
    have HD2 := Lib.hid (show ((dg c : Nat) : Int) = (c : Int) - 48 by rw [HD.out, if_pos ⟨a1, a2⟩]; omega)
    go_enter Tryd.func35, Tryd.ntmps35
    go_wp2
    go_ret
    exact ⟨by rw [HD2.out]; rfl, rfl⟩
  · by_cases h2 : 97 ≤ c ∧ c ≤ 102
    · obtain ⟨a1, a2⟩ := h2
      have HD2 := Lib.hid (show ((dg c : Nat) : Int) = (c : Int) - 97 + 10 by rw [HD.out, if_neg h1, if_pos ⟨a1, a2⟩]; omega)
      have hn : ¬ c ≤ 57 := by omega
      have hn0 : 48 ≤ c := by omega
      clear h1
      go_enter Tryd.func35, Tryd.ntmps35
      go_wp2
      go_ret
      exact ⟨by rw [HD2.out]; rfl, rfl⟩
    · have HD2 := Lib.hid (show dg c = 99 by rw [HD.out, if_neg h1, if_neg h2])
      go_enter Tryd.func35, Tryd.ntmps35
      go_wp2
      all_goals go_ret
      all_goals exact ⟨by rw [HD2.out]; rfl, rfl⟩
/-- The number of digits. -/
def val (ds : List Nat) : Nat := ds.foldl (fun n d => n * 16 + d) 0
theorem val_snoc (ds : List Nat) (d : Nat) : val (ds ++ [d]) = val ds * 16 + d := by unfold val; rw [List.foldl_append]; rfl
theorem val_lt (ds : List Nat) (h : ∀ d ∈ ds, d < 16) : val ds < 16 ^ ds.length := by
  have aux : ∀ (ds : List Nat) (n : Nat), (∀ d ∈ ds, d < 16) → ds.foldl (fun n d => n * 16 + d) n < (n + 1) * 16 ^ ds.length := by
    intro ds
    induction ds with
    | nil => intro n _; simp
    | cons d ds ih =>
      intro n h
      rw [List.foldl_cons, List.length_cons, Nat.pow_succ]
      have h1 := ih (n * 16 + d) (fun e he => h e (List.mem_cons_of_mem _ he))
      have h2 := h d (List.mem_cons_self ..)
      have h3 : (n * 16 + d + 1) * 16 ^ ds.length ≤ ((n + 1) * 16) * 16 ^ ds.length := Nat.mul_le_mul_right _ (by omega)
      rw [Nat.mul_assoc, Nat.mul_comm 16] at h3
      exact Nat.lt_of_lt_of_le h1 h3
  have := aux ds 0 h
  unfold val
  omega
theorem rev_ind {p : List Nat → Prop} (h0 : p []) (hs : ∀ l x, p l → p (l ++ [x])) (l : List Nat) : p l := by
  have : ∀ l : List Nat, p l.reverse := by
    intro l
    induction l with
    | nil => exact h0
    | cons a l ih => rw [List.reverse_cons]; exact hs _ _ ih
  have h := this l.reverse
  rwa [List.reverse_reverse] at h
theorem at_eq (P : ByteArray) (i j : Nat) (hi : i < P.size) (hj : j < P.size) (e : i = j) : P[i]'hi = P[j]'hj := by subst e; rfl
theorem val_pos : ∀ (ds : List Nat), (∃ d r, ds = d :: r ∧ d ≠ 0) → 1 ≤ val ds := by
  refine rev_ind ?_ ?_
  · rintro ⟨d, r, e, _⟩; cases e
  · rintro ds x ih ⟨d, r, e, hd⟩
    rw [val_snoc]
    cases ds with
    | nil =>
      simp at e
      rw [e.1]
      omega
    | cons a ds =>
      simp at e
      have := ih ⟨a, ds, rfl, by rw [e.1]; exact hd⟩
      omega
theorem hexU_val : ∀ (ds : List Nat), (∀ d ∈ ds, d < 16) → ds ≠ [] → (ds.length = 1 ∨ ∃ d r, ds = d :: r ∧ d ≠ 0) → hexU (val ds) = ds.map dig := by
  refine rev_ind ?_ ?_
  · intro _ h
    exact absurd rfl h
  · intro ds x ih hd _ h
    have hx : x < 16 := hd x (by simp)
    cases ds with
    | nil =>
      rw [val_snoc]
      show hexU (0 * 16 + x) = _
      rw [Nat.zero_mul, Nat.zero_add, hexU_small x hx]
      rfl
    | cons a ds =>
      have ha : a ≠ 0 := by
        rcases h with h | ⟨d, r, e, hd0⟩
        · simp at h
        · simp at e
          rw [e.1]
          exact hd0
      have hv := val_pos (a :: ds) ⟨a, ds, rfl, ha⟩
      have ih2 := ih (fun d hm => hd d (List.mem_append_left _ hm)) (by simp) (.inr ⟨a, ds, rfl, ha⟩)
      rw [val_snoc, hexU_step _ (by omega), show (val (a :: ds) * 16 + x) / 16 = val (a :: ds) by omega, show (val (a :: ds) * 16 + x) % 16 = x by omega, ih2]
      simp
/-- How a name of an event stands. -/
def Form (l : List UInt8) (t d : Nat) : Prop := t < 281474976710656 ∧ d < 16 ∧ l = 99 :: (hexU t ++ [45, dig d])
theorem num_lt2 (t : ByteArray) : numM t < 281474976710656 := by
  unfold numM
  cases hx : numT t with
  | none => decide
  | some n =>
    unfold numT at hx
    split at hx
    · cases hx
    · exact num_lt _ 0 n (by omega) hx
theorem form_of (s : ByteArray) (h : oddL (timeOf s) (whoOf s) = s.data.toList) : Form s.data.toList (timeOf s) (whoOf s % 16) := by
  have h1 : timeOf s < 281474976710656 := num_lt2 _
  have h2 : whoOf s < 281474976710656 := num_lt2 _
  refine ⟨h1, Nat.mod_lt _ (by omega), ?_⟩
  rw [← h]
  have e1 : u64 (timeOf s : Int) = timeOf s := by unfold u64; rw [IntKind.wrap_u64]; omega
  have e2 : u64 (whoOf s : Int) = whoOf s := by unfold u64; rw [IntKind.wrap_u64]; omega
  unfold oddL
  rw [e1, e2, (last_small _ h1).1, hexU_small _ (Nat.mod_lt _ (by omega))]
theorem of_form (s : ByteArray) (t d : Nat) (h : Form s.data.toList t d) : ofAns s = .tuple #[.agg #[.int .i64 (t : Int), .int .i64 (d : Int)], .bool true] := by
  obtain ⟨h1, h2, h3⟩ := h
  have hin : inB (t : Int) (d : Int) = true := by
    unfold inB
    simp
    omega
  have e : s = ⟨(oddL (t : Int) (d : Int)).toArray⟩ := by
    apply bytes_ext
    rw [h3]
    show _ = oddL (t : Int) (d : Int)
    rw [(oddL_in _ _ hin).1]
    simp
  rw [e, of_odd _ _ hin]
theorem of_none (s : ByteArray) (h : ∀ t d, ¬ Form s.data.toList t d) : ofAns s = .tuple #[.agg #[.int .i64 0, .int .i64 0], .bool false] := by
  unfold ofAns
  rw [if_neg]
  intro e
  exact h _ _ (form_of s e)
/-- What a form's bytes are. -/
theorem form_facts {P : ByteArray} {t d : Nat} (h : Form P.data.toList t d) : 4 ≤ P.size ∧ P.size ≤ 15 ∧ (∀ hp : 0 < P.size, P[0] = 99) ∧ (∀ hp : P.size - 2 < P.size, P[P.size - 2] = 45) ∧ (∀ hp : P.size - 1 < P.size, dg (P[P.size - 1]).toNat ≠ 99) ∧
    (∀ i (hi : i < P.size), 1 ≤ i → i < P.size - 2 → dg (P[i]).toNat ≠ 99) ∧ (4 < P.size → ∀ hp : 1 < P.size, dg (P[1]).toNat ≠ 0) := by
  obtain ⟨h1, h2, h3⟩ := h
  have hl : P.data.toList.length = P.size := by simp
  have hne := hexU_ne t
  have hpos : 0 < (hexU t).length := by cases hx : hexU t with | nil => exact absurd hx hne | cons => simp
  have hle := hexU_len_le 12 t (by simpa using h1) (by omega)
  have hsz : P.size = (hexU t).length + 3 := by rw [← hl, h3]; simp
  have get : ∀ i (hi : i < P.size), (99 :: (hexU t ++ [45, dig d]))[i]? = some P[i] := fun i hi => by rw [← h3]; exact Lib.data_getElem? P i hi
  refine ⟨by omega, by omega, fun hp => ?_, fun hp => ?_, fun hp => ?_, fun i hi h4 h5 => ?_, fun h4 hp => ?_⟩
  · have := get 0 hp
    injection this with this
    exact this.symm
  · have := get ((hexU t).length + 1) (by omega)
    rw [List.getElem?_cons_succ, List.getElem?_append_right (Nat.le_refl _)] at this
    simp at this
    rw [at_eq P (P.size - 2) ((hexU t).length + 1) hp (by omega) (by omega)]
    exact this.symm
  · have := get ((hexU t).length + 1 + 1) (by omega)
    rw [List.getElem?_cons_succ, List.getElem?_append_right (by omega)] at this
    simp at this
    rw [at_eq P (P.size - 1) ((hexU t).length + 1 + 1) hp (by omega) (by omega), ← this, dg_dig d h2]
    omega
  · have := get i hi
    obtain ⟨j, rfl⟩ : ∃ j, i = j + 1 := ⟨i - 1, by omega⟩
    rw [List.getElem?_cons_succ, List.getElem?_append_left (by omega)] at this
    obtain ⟨e, he, hx⟩ := hexU_digs t _ (List.mem_of_getElem? this)
    rw [hx, dg_dig e he]
    omega
  · have ht : ¬ t < 16 := fun ht => by rw [hexU_small t ht] at hsz; simp at hsz; omega
    obtain ⟨b, tl, e, hb, _⟩ := hexU_head t ht
    have := get 1 hp
    rw [e] at this
    have this : some b = some P[1] := this
    injection this with this
    have hm : b ∈ hexU t := by rw [e]; simp
    obtain ⟨x, hx, hbx⟩ := hexU_digs t b hm
    rw [← this, hbx, dg_dig x hx]
    rintro rfl
    exact hb hbx
end Go.Proofs.YtlmgikgpmcdakaaDoor.Nm
