/- The document's Sorted, whatever it is asked. -/
import Derived.Test.YtepnckglnciinaaSnE
namespace Go.Proofs.Ytepnckglnciinaa.Sm
open Go.RowKit Go.Proofs.Ytepnckglnciinaa.Mem
set_option linter.unusedVariables false

def lastAt (cs : List ChgP) (j : Nat) : ByteArray := if j = 0 then ⟨#[]⟩ else ((cs[j - 1]?).map ChgP.key).getD ⟨#[]⟩
theorem sort_from : ∀ {cs : List ChgP} {last : ByteArray}, SortP last cs ↔ ∀ k c, cs[k]? = some c → okC (if k = 0 then last else ((cs[k - 1]?).map ChgP.key).getD ⟨#[]⟩) c
  | [], _ => by simp [SortP]
  | x :: cs, last => by
    show okC last x ∧ SortP x.key cs ↔ _
    rw [sort_from (cs := cs)]
    constructor
    · rintro ⟨h1, h2⟩ k c hc
      cases k with
      | zero =>
        simp at hc
        subst hc
        exact h1
      | succ k =>
        rw [List.getElem?_cons_succ] at hc
        have h := h2 k c hc
        cases k with
        | zero => simpa using h
        | succ k => simpa using h
    · intro h
      refine ⟨by simpa using h 0 x rfl, fun k c hc => ?_⟩
      have h2 := h (k + 1) c (by rw [List.getElem?_cons_succ]; exact hc)
      cases k with
      | zero => simpa using h2
      | succ k => simpa using h2
theorem sort_iff {cs : List ChgP} : SortP ⟨#[]⟩ cs ↔ ∀ k c, cs[k]? = some c → okC (lastAt cs k) c := sort_from
theorem next_ok {cs : List ChgP} {j : Nat} {c : ChgP} (h : ∀ k c, k < j → cs[k]? = some c → okC (lastAt cs k) c) (hc : cs[j]? = some c) (hk : okC (lastAt cs j) c) : ∀ k c, k < j + 1 → cs[k]? = some c → okC (lastAt cs k) c := fun k x hx hxc => by
  by_cases e : k = j
  · subst e
    rw [hc] at hxc
    injection hxc with e
    subst e
    exact hk
  · exact h k x (by omega) hxc
theorem key_no (s : ByteArray) (h : ¬ (1 ≤ s.size ∧ s.size ≤ 64)) (w : World) : Calls Try.prog 43 #[.string s] w fun e w' => e = .returned (.bool false) ∧ w = w' := by
  by_cases h1 : (1 : Int) ≤ s.size
  · have t2 : ¬ (s.size : Int) ≤ 64 := by omega
    go_enter Try.func43, Try.ntmps43
    go_wp2
    go_ret
    exact ⟨rfl, rfl⟩
  · go_enter Try.func43, Try.ntmps43
    go_wp2
    go_ret
    exact ⟨rfl, rfl⟩
theorem val_no (s : ByteArray) (h2 : ¬ s.size ≤ 300) (w : World) : Calls Try.prog 44 #[.string s] w fun e w' => e = .returned (.bool false) ∧ w = w' := by
  have t2 : ¬ (s.size : Int) ≤ 300 := by omega
  go_enter Try.func44, Try.ntmps44
  go_wp2
  go_ret
  exact ⟨rfl, rfl⟩
theorem less_anti : ∀ x y : List UInt8, Op.bytesLess x y = true → Op.bytesLess y x = false ∧ y ≠ x
  | x, [], h => by cases x <;> cases h
  | [], b :: y, _ => ⟨rfl, fun e => by cases e⟩
  | a :: x, b :: y, h => by
    unfold Op.bytesLess at h ⊢
    by_cases h1 : a < b
    · have h2 : ¬ b < a := fun h3 => by
        have g1 : a.toNat < b.toNat := h1
        have g2 : b.toNat < a.toNat := h3
        omega
      have h4 : ¬ b = a := fun e => by subst e; exact h2 h1
      refine ⟨by simp [h2, h4], fun e => ?_⟩
      injection e with e _
      exact h4 e
    · simp [h1] at h
      obtain ⟨rfl, h3⟩ := h
      obtain ⟨i1, i2⟩ := less_anti x y h3
      refine ⟨by simp [h1, i1], fun e => ?_⟩
      injection e with _ e
      exact i2 e
theorem ok_next {l : ByteArray} {c : ChgP} (h : Op.bytesLess l.toList c.key.toList = true) (hk : 1 ≤ c.key.size ∧ c.key.size ≤ 64) (hv : c.val.size ≤ 300) (hg : c.gone = true → c.val.toList.isEmpty = true) : okC l c :=
  ⟨(less_anti _ _ h).1, beq_eq_false_iff_ne.2 (less_anti _ _ h).2, hk.2, hv, hg⟩
theorem ok_first {c : ChgP} (hk : 1 ≤ c.key.size ∧ c.key.size ≤ 64) (hv : c.val.size ≤ 300) (hg : c.gone = true → c.val.toList.isEmpty = true) : okC ⟨#[]⟩ c := by
  refine ok_next ?_ hk hv hg
  have e : (⟨#[]⟩ : ByteArray).toList = [] := by decide +kernel
  rw [e]
  have h := full_of hk.1
  cases h2 : c.key.toList with
  | nil => rw [h2] at h; cases h
  | cons a l => rfl
set_option maxRecDepth 100000 in
set_option maxHeartbeats 16000000 in
theorem rsorted_any (A : Option Addr) (n cap : Nat) (cs : List ChgP) (w : World) (h : CRow w A n cs) (hn : n ≤ 1000000) (hf : ∀ c ∈ cs, c.key.size ≤ 1048576) : Calls Try.prog 32 #[.slice A n cap] w fun e w' => Tolds (SortP ⟨#[]⟩ cs) e ∧ Below w.heap.size w w' := by
  have HH := Lib.hid h
  have HLN := Lib.hid h.len
  have halc := alloc_ch
  clear h
  go_enter Try.func32, Try.ntmps32
  go_wp2
  go_loopw [7] (fun i wr => ∃ j : Nat, j ≤ n ∧ i = .int .i64 j ∧ Hid (Below w.heap.size w wr) ∧ Hid (∀ k c, k < j → cs[k]? = some c → okC (lastAt cs k) c)) (fun i _ => n - (intOf i).toNat)
  case atStart => exact ⟨0, by omega, rfl, Lib.hid (Below.refl _ _), Lib.hid (fun k c hk => by omega)⟩
  case round =>
    obtain ⟨j, hj, rfl, HB, HKO⟩ := hrel
    by_cases hlt : j < n
    case neg =>
      have hlti : ¬ (j : Int) < n := by omega
      obtain rfl : j = n := by omega
      have HY := Lib.hid (show SortP ⟨#[]⟩ cs from sort_iff.2 fun k c hc => HKO.out k c (by have := (List.getElem?_eq_some_iff.1 hc).1; have := HLN.out; omega) hc)
      go_wp2
      go_ret
      exact ⟨told_t HY.out, HB.out⟩
    case pos =>
      have HJ := Lib.hid (show j + 1 ≤ n from hlt)
      obtain ⟨c, hc⟩ : ∃ c, cs[j]? = some c := ⟨_, List.getElem?_eq_getElem (by rw [HLN.out]; exact hlt)⟩
      obtain ⟨b, off, rfl, hbl, hrg⟩ := (HH.out.below HB.out).cells j c hc
      have HRG := Lib.hid hrg
      have HC := Lib.hid hc
      have HFS := Lib.hid (hf c (List.mem_of_getElem? hc))
      have HX := Lib.hid (Has.fresh wr 53 (chC c))
      have x0 : (wr.alloc (.cells (chC c) 53)).cell? ⟨wr.heap.size, 0, none⟩ = some (.string c.key) := HX.out.at_ 0
      have x1 : (wr.alloc (.cells (chC c) 53)).cell? ⟨wr.heap.size, 1, none⟩ = some (.string c.val) := HX.out.at_ 1
      have x2 : (wr.alloc (.cells (chC c) 53)).cell? ⟨wr.heap.size, 2, none⟩ = some (.bool c.gone) := HX.out.at_ 2
      have HB1 := Lib.hid (show Below w.heap.size w ((wr.alloc (.cells (chC c) 53)).drew) from (HB.out.alloc HB.out.size _).drew)
      have hlti : (j : Int) < n := by omega
      have hn2 : (n : Int) ≤ 1000000 := by omega
      clear hrg hc
      by_cases hk : 1 ≤ c.key.size ∧ c.key.size ≤ 64
      case neg =>
        have HK := Lib.hid (fun W => key_no c.key hk W)
        have HNO := Lib.hid (show ¬ SortP ⟨#[]⟩ cs from fun h => hk (let k := (sort_iff.1 h) j c HC.out; ⟨okC_key k, k.2.2.1⟩))
        have HS := Lib.hid (And.intro x0 (And.intro x1 (And.intro x2 trivial)))
        clear hk
        go_wp2_with (first | ((with_reducible refine Who.wpList_loadC 53 (.tmp 10) rfl b (off + j * 3) (chC c) ?_); refine And.intro ⟨by rfl, by rfl, ⟨_, Try.underlying53, rfl⟩, info_ch⟩ (And.intro HRG.out ?_); (try simp only [Act.put, List.setIfInBounds_toArray, List.set_cons_zero, List.set_cons_succ])) | ((with_reducible refine wpList_storeNew 53 (.tmp 4) (.tmp 11) (chC ch0) (chC c) rfl ?_); refine And.intro ⟨rfl, rfl, rfl, rfl, info_ch, rfl, chC_one _⟩ ?_; (try simp only [Act.put, List.setIfInBounds_toArray, List.set_cons_zero, List.set_cons_succ])) | ((with_reducible refine Who.wpList_alloc 53 4 rfl rfl rfl (chC ch0) halc ?_); (try simp only [Act.put, List.setIfInBounds_toArray, List.set_cons_zero, List.set_cons_succ])))
        refine wp_region_held_drew (S := fun w' => w'.cell? ⟨wr.heap.size, 0, none⟩ = some (.string c.key) ∧ w'.cell? ⟨wr.heap.size, 1, none⟩ = some (.string c.val) ∧ w'.cell? ⟨wr.heap.size, 2, none⟩ = some (.bool c.gone) ∧ True) (by kernel_rfl) HS.out (fun hHeld => ?_)
        refine Vc.wpAnyH_read (i := 0) (d := some 12) (v := ?vz1) (by rfl) (by rfl) (by kernel_rfl) (by kernel_rfl) (by kernel_rfl) (fun _ _ _ h => h) (by rfl) ?hyz1 (by assumption) ?restz1
        case hyz1 =>
          intro w hSw
          obtain ⟨s0, s1, s2, s3⟩ := hSw
          go_simp
          try with_reducible rfl
        (try simp only [Act.put, List.setIfInBounds_toArray, List.set_cons_zero, List.set_cons_succ])
        refine Vc.wpAnyH_read (i := 1) (d := some 13) (v := ?vz2) (by rfl) (by rfl) (by kernel_rfl) (by kernel_rfl) (by kernel_rfl) (fun _ _ _ h => h) (by rfl) ?hyz2 (by assumption) ?restz2
        case hyz2 =>
          intro w hSw
          obtain ⟨s0, s1, s2, s3⟩ := hSw
          go_simp
          try with_reducible rfl
        (try simp only [Act.put, List.setIfInBounds_toArray, List.set_cons_zero, List.set_cons_succ])
        refine wpAnyH_ready (rs := [2]) (by kernel_rfl) (by simp) ?_
        refine AllReadyH.cons rfl (fun K hK => ?_) AllReadyH.nil
        go_simp
        go_at_call 43
        refine (HK.out _).mono ?_
        rintro e w2 ⟨rfl, rfl⟩
        refine hK.out _ _ HS.out (fun hHeld => ?_)
        clear hK K
        (try simp only [Act.put, List.setIfInBounds_toArray, List.set_cons_zero, List.set_cons_succ])
        refine Vc.wpAnyH_read (i := 3) (d := some 15) (v := ?vz3) (by rfl) (by rfl) (by kernel_rfl) (by kernel_rfl) (by kernel_rfl) (fun _ _ _ h => h) (by rfl) ?hyz3 (by assumption) ?restz3
        case hyz3 =>
          intro w hSw
          obtain ⟨s0, s1, s2, s3⟩ := hSw
          go_simp
          try with_reducible rfl
        (try simp only [Act.put, List.setIfInBounds_toArray, List.set_cons_zero, List.set_cons_succ])
        refine Vc.wpAnyH_read (i := 4) (d := some 16) (v := ?vz4) (by rfl) (by rfl) (by kernel_rfl) (by kernel_rfl) (by kernel_rfl) (fun _ _ _ h => h) (by rfl) ?hyz4 (by assumption) ?restz4
        case hyz4 =>
          intro w hSw
          obtain ⟨s0, s1, s2, s3⟩ := hSw
          go_simp
          try with_reducible rfl
        (try simp only [Act.put, List.setIfInBounds_toArray, List.set_cons_zero, List.set_cons_succ])
        refine Vc.wpAnyH_skip (i := 5) (d := some 17) (by rfl) (by rfl) (by kernel_rfl) (by kernel_rfl) (by kernel_rfl) (fun _ _ _ h => h) (by rfl) (by assumption) ?_
        (try simp only [Act.put, List.setIfInBounds_toArray, List.set_cons_zero, List.set_cons_succ])
        refine Vc.wpAnyH_skip (i := 6) (d := some 18) (by rfl) (by rfl) (by kernel_rfl) (by kernel_rfl) (by kernel_rfl) (fun _ _ _ h => h) (by rfl) (by assumption) ?_
        (try simp only [Act.put, List.setIfInBounds_toArray, List.set_cons_zero, List.set_cons_succ])
        refine Vc.wpAnyH_skip (i := 7) (d := some 19) (by rfl) (by rfl) (by kernel_rfl) (by kernel_rfl) (by kernel_rfl) (fun _ _ _ h => h) (by rfl) (by assumption) ?_
        (try simp only [Act.put, List.setIfInBounds_toArray, List.set_cons_zero, List.set_cons_succ])
        refine Vc.wpAnyH_skip (i := 8) (d := some 20) (by rfl) (by rfl) (by kernel_rfl) (by kernel_rfl) (by kernel_rfl) (fun _ _ _ h => h) (by rfl) (by assumption) ?_
        (try simp only [Act.put, List.setIfInBounds_toArray, List.set_cons_zero, List.set_cons_succ])
        refine Vc.wpAnyH_read (i := 9) (d := some 21) (v := ?vz5) (by rfl) (by rfl) (by kernel_rfl) (by kernel_rfl) (by kernel_rfl) (fun _ _ _ h => h) (by rfl) ?hyz5 (by assumption) ?restz5
        case hyz5 =>
          intro w hSw
          obtain ⟨s0, s1, s2, s3⟩ := hSw
          go_simp
          try with_reducible rfl
        (try simp only [Act.put, List.setIfInBounds_toArray, List.set_cons_zero, List.set_cons_succ])
        refine Vc.wpAnyH_read (i := 10) (d := some 22) (v := ?vz6) (by rfl) (by rfl) (by kernel_rfl) (by kernel_rfl) (by kernel_rfl) (fun _ _ _ h => h) (by rfl) ?hyz6 (by assumption) ?restz6
        case hyz6 =>
          intro w hSw
          obtain ⟨s0, s1, s2, s3⟩ := hSw
          go_simp
          try with_reducible rfl
        (try simp only [Act.put, List.setIfInBounds_toArray, List.set_cons_zero, List.set_cons_succ])
        refine Vc.wpAnyH_skip (i := 11) (d := some 23) (by rfl) (by rfl) (by kernel_rfl) (by kernel_rfl) (by kernel_rfl) (fun _ _ _ h => h) (by rfl) (by assumption) ?_
        (try simp only [Act.put, List.setIfInBounds_toArray, List.set_cons_zero, List.set_cons_succ])
        refine Vc.wpAnyH_skip (i := 12) (d := some 24) (by rfl) (by rfl) (by kernel_rfl) (by kernel_rfl) (by kernel_rfl) (fun _ _ _ h => h) (by rfl) (by assumption) ?_
        (try simp only [Act.put, List.setIfInBounds_toArray, List.set_cons_zero, List.set_cons_succ])
        refine Vc.wpAnyH_skip (i := 13) (d := some 25) (by rfl) (by rfl) (by kernel_rfl) (by kernel_rfl) (by kernel_rfl) (fun _ _ _ h => h) (by rfl) (by assumption) ?_
        (try simp only [Act.put, List.setIfInBounds_toArray, List.set_cons_zero, List.set_cons_succ])
        refine Vc.wpAnyH_skip (i := 14) (d := some 26) (by rfl) (by rfl) (by kernel_rfl) (by kernel_rfl) (by kernel_rfl) (fun _ _ _ h => h) (by rfl) (by assumption) ?_
        (try simp only [Act.put, List.setIfInBounds_toArray, List.set_cons_zero, List.set_cons_succ])
        refine Vc.wpAnyH_skip (i := 15) (d := some 27) (by rfl) (by rfl) (by kernel_rfl) (by kernel_rfl) (by kernel_rfl) (fun _ _ _ h => h) (by rfl) (by assumption) ?_
        (try simp only [Act.put, List.setIfInBounds_toArray, List.set_cons_zero, List.set_cons_succ])
        refine Vc.wpAnyH_skip (i := 16) (d := some 28) (by rfl) (by rfl) (by kernel_rfl) (by kernel_rfl) (by kernel_rfl) (fun _ _ _ h => h) (by rfl) (by assumption) ?_
        (try simp only [Act.put, List.setIfInBounds_toArray, List.set_cons_zero, List.set_cons_succ])
        refine Vc.wpAnyH_skip (i := 17) (d := some 29) (by rfl) (by rfl) (by kernel_rfl) (by kernel_rfl) (by kernel_rfl) (fun _ _ _ h => h) (by rfl) (by assumption) ?_
        (try simp only [Act.put, List.setIfInBounds_toArray, List.set_cons_zero, List.set_cons_succ])
        refine Vc.wpAnyH_read (i := 18) (d := some 30) (v := ?vz7) (by rfl) (by rfl) (by kernel_rfl) (by kernel_rfl) (by kernel_rfl) (fun _ _ _ h => h) (by rfl) ?hyz7 (by assumption) ?restz7
        case hyz7 =>
          intro w hSw
          obtain ⟨s0, s1, s2, s3⟩ := hSw
          go_simp
          try with_reducible rfl
        (try simp only [Act.put, List.setIfInBounds_toArray, List.set_cons_zero, List.set_cons_succ])
        refine Vc.wpAnyH_read (i := 19) (d := some 31) (v := ?vz8) (by rfl) (by rfl) (by kernel_rfl) (by kernel_rfl) (by kernel_rfl) (fun _ _ _ h => h) (by rfl) ?hyz8 (by assumption) ?restz8
        case hyz8 =>
          intro w hSw
          obtain ⟨s0, s1, s2, s3⟩ := hSw
          go_simp
          try with_reducible rfl
        (try simp only [Act.put, List.setIfInBounds_toArray, List.set_cons_zero, List.set_cons_succ])
        refine Vc.wpAnyH_skip (i := 20) (d := some 32) (by rfl) (by rfl) (by kernel_rfl) (by kernel_rfl) (by kernel_rfl) (fun _ _ _ h => h) (by rfl) (by assumption) ?_
        (try simp only [Act.put, List.setIfInBounds_toArray, List.set_cons_zero, List.set_cons_succ])
        refine Vc.wpAnyH_skip (i := 21) (d := some 33) (by rfl) (by rfl) (by kernel_rfl) (by kernel_rfl) (by kernel_rfl) (fun _ _ _ h => h) (by rfl) (by assumption) ?_
        (try simp only [Act.put, List.setIfInBounds_toArray, List.set_cons_zero, List.set_cons_succ])
        refine Vc.wpAnyH_skip (i := 22) (d := some 34) (by rfl) (by rfl) (by kernel_rfl) (by kernel_rfl) (by kernel_rfl) (fun _ _ _ h => h) (by rfl) (by assumption) ?_
        (try simp only [Act.put, List.setIfInBounds_toArray, List.set_cons_zero, List.set_cons_succ])
        refine Vc.wpAnyH_skip (i := 23) (d := some 35) (by rfl) (by rfl) (by kernel_rfl) (by kernel_rfl) (by kernel_rfl) (fun _ _ _ h => h) (by rfl) (by assumption) ?_
        (try simp only [Act.put, List.setIfInBounds_toArray, List.set_cons_zero, List.set_cons_succ])
        refine Vc.wpAnyH_skip (i := 24) (d := some 36) (by rfl) (by rfl) (by kernel_rfl) (by kernel_rfl) (by kernel_rfl) (fun _ _ _ h => h) (by rfl) (by assumption) ?_
        (try simp only [Act.put, List.setIfInBounds_toArray, List.set_cons_zero, List.set_cons_succ])
        refine Vc.wpAnyH_skip (i := 25) (d := some 37) (by rfl) (by rfl) (by kernel_rfl) (by kernel_rfl) (by kernel_rfl) (fun _ _ _ h => h) (by rfl) (by assumption) ?_
        (try simp only [Act.put, List.setIfInBounds_toArray, List.set_cons_zero, List.set_cons_succ])
        refine Vc.wpAnyH_skip (i := 26) (d := some 38) (by rfl) (by rfl) (by kernel_rfl) (by kernel_rfl) (by kernel_rfl) (fun _ _ _ h => h) (by rfl) (by assumption) ?_
        (try simp only [Act.put, List.setIfInBounds_toArray, List.set_cons_zero, List.set_cons_succ])
        refine Vc.wpAnyH_skip (i := 27) (d := some 39) (by rfl) (by rfl) (by kernel_rfl) (by kernel_rfl) (by kernel_rfl) (fun _ _ _ h => h) (by rfl) (by assumption) ?_
        (try simp only [Act.put, List.setIfInBounds_toArray, List.set_cons_zero, List.set_cons_succ])
        refine Vc.wpAnyH_skip (i := 28) (d := some 40) (by rfl) (by rfl) (by kernel_rfl) (by kernel_rfl) (by kernel_rfl) (fun _ _ _ h => h) (by rfl) (by assumption) ?_
        (try simp only [Act.put, List.setIfInBounds_toArray, List.set_cons_zero, List.set_cons_succ])
        refine Vc.wpAnyH_skip (i := 29) (d := some 41) (by rfl) (by rfl) (by kernel_rfl) (by kernel_rfl) (by kernel_rfl) (fun _ _ _ h => h) (by rfl) (by assumption) ?_
        (try simp only [Act.put, List.setIfInBounds_toArray, List.set_cons_zero, List.set_cons_succ])
        refine Vc.wpAnyH_skip (i := 30) (d := some 42) (by rfl) (by rfl) (by kernel_rfl) (by kernel_rfl) (by kernel_rfl) (fun _ _ _ h => h) (by rfl) (by assumption) ?_
        (try simp only [Act.put, List.setIfInBounds_toArray, List.set_cons_zero, List.set_cons_succ])
        refine Vc.wpAnyH_skip (i := 31) (d := some 43) (by rfl) (by rfl) (by kernel_rfl) (by kernel_rfl) (by kernel_rfl) (fun _ _ _ h => h) (by rfl) (by assumption) ?_
        (try simp only [Act.put, List.setIfInBounds_toArray, List.set_cons_zero, List.set_cons_succ])
        refine Vc.wpAnyH_skip (i := 32) (d := some 44) (by rfl) (by rfl) (by kernel_rfl) (by kernel_rfl) (by kernel_rfl) (fun _ _ _ h => h) (by rfl) (by assumption) ?_
        (try simp only [Act.put, List.setIfInBounds_toArray, List.set_cons_zero, List.set_cons_succ])
        refine Vc.wpAnyH_skip (i := 33) (d := some 45) (by rfl) (by rfl) (by kernel_rfl) (by kernel_rfl) (by kernel_rfl) (fun _ _ _ h => h) (by rfl) (by assumption) ?_
        (try simp only [Act.put, List.setIfInBounds_toArray, List.set_cons_zero, List.set_cons_succ])
        refine Vc.wpAnyH_read (i := 34) (d := some 46) (v := ?vz9) (by rfl) (by rfl) (by kernel_rfl) (by kernel_rfl) (by kernel_rfl) (fun _ _ _ h => h) (by rfl) ?hyz9 (by assumption) ?restz9
        case hyz9 =>
          intro w hSw
          obtain ⟨s0, s1, s2, s3⟩ := hSw
          go_simp
          try with_reducible rfl
        (try simp only [Act.put, List.setIfInBounds_toArray, List.set_cons_zero, List.set_cons_succ])
        refine wpAnyH_done (by kernel_rfl) ?_ _
        go_wp2
        go_ret
        exact ⟨told_f HNO.out, HB1.out⟩
      case pos =>
        have HK := Lib.hid (fun W => key_any c.key hk.1 hk.2 W)
        have HKK := Lib.hid hk
        clear hk
        by_cases hv : c.val.size ≤ 300
        case neg =>
          have HV := Lib.hid (fun W => val_no c.val hv W)
          have HNO := Lib.hid (show ¬ SortP ⟨#[]⟩ cs from fun h => hv ((sort_iff.1 h) j c HC.out).2.2.2.1)
          have HS := Lib.hid (And.intro x0 (And.intro x1 (And.intro x2 trivial)))
          clear hv
          go_wp2_with (first | ((with_reducible refine Who.wpList_loadC 53 (.tmp 10) rfl b (off + j * 3) (chC c) ?_); refine And.intro ⟨by rfl, by rfl, ⟨_, Try.underlying53, rfl⟩, info_ch⟩ (And.intro HRG.out ?_); (try simp only [Act.put, List.setIfInBounds_toArray, List.set_cons_zero, List.set_cons_succ])) | ((with_reducible refine wpList_storeNew 53 (.tmp 4) (.tmp 11) (chC ch0) (chC c) rfl ?_); refine And.intro ⟨rfl, rfl, rfl, rfl, info_ch, rfl, chC_one _⟩ ?_; (try simp only [Act.put, List.setIfInBounds_toArray, List.set_cons_zero, List.set_cons_succ])) | ((with_reducible refine Who.wpList_alloc 53 4 rfl rfl rfl (chC ch0) halc ?_); (try simp only [Act.put, List.setIfInBounds_toArray, List.set_cons_zero, List.set_cons_succ])))
          refine wp_region_held_drew (S := fun w' => w'.cell? ⟨wr.heap.size, 0, none⟩ = some (.string c.key) ∧ w'.cell? ⟨wr.heap.size, 1, none⟩ = some (.string c.val) ∧ w'.cell? ⟨wr.heap.size, 2, none⟩ = some (.bool c.gone) ∧ True) (by kernel_rfl) HS.out (fun hHeld => ?_)
          refine Vc.wpAnyH_read (i := 0) (d := some 12) (v := ?vz10) (by rfl) (by rfl) (by kernel_rfl) (by kernel_rfl) (by kernel_rfl) (fun _ _ _ h => h) (by rfl) ?hyz10 (by assumption) ?restz10
          case hyz10 =>
            intro w hSw
            obtain ⟨s0, s1, s2, s3⟩ := hSw
            go_simp
            try with_reducible rfl
          (try simp only [Act.put, List.setIfInBounds_toArray, List.set_cons_zero, List.set_cons_succ])
          refine Vc.wpAnyH_read (i := 1) (d := some 13) (v := ?vz11) (by rfl) (by rfl) (by kernel_rfl) (by kernel_rfl) (by kernel_rfl) (fun _ _ _ h => h) (by rfl) ?hyz11 (by assumption) ?restz11
          case hyz11 =>
            intro w hSw
            obtain ⟨s0, s1, s2, s3⟩ := hSw
            go_simp
            try with_reducible rfl
          (try simp only [Act.put, List.setIfInBounds_toArray, List.set_cons_zero, List.set_cons_succ])
          refine wpAnyH_ready (rs := [2]) (by kernel_rfl) (by simp) ?_
          refine AllReadyH.cons rfl (fun K hK => ?_) AllReadyH.nil
          go_simp
          go_at_call 43
          refine (HK.out _).mono ?_
          rintro e w2 ⟨rfl, rfl⟩
          refine hK.out _ _ HS.out (fun hHeld => ?_)
          clear hK K
          (try simp only [Act.put, List.setIfInBounds_toArray, List.set_cons_zero, List.set_cons_succ])
          refine Vc.wpAnyH_read (i := 3) (d := some 15) (v := ?vz12) (by rfl) (by rfl) (by kernel_rfl) (by kernel_rfl) (by kernel_rfl) (fun _ _ _ h => h) (by rfl) ?hyz12 (by assumption) ?restz12
          case hyz12 =>
            intro w hSw
            obtain ⟨s0, s1, s2, s3⟩ := hSw
            go_simp
            try with_reducible rfl
          (try simp only [Act.put, List.setIfInBounds_toArray, List.set_cons_zero, List.set_cons_succ])
          refine Vc.wpAnyH_read (i := 4) (d := some 16) (v := ?vz13) (by rfl) (by rfl) (by kernel_rfl) (by kernel_rfl) (by kernel_rfl) (fun _ _ _ h => h) (by rfl) ?hyz13 (by assumption) ?restz13
          case hyz13 =>
            intro w hSw
            obtain ⟨s0, s1, s2, s3⟩ := hSw
            go_simp
            try with_reducible rfl
          (try simp only [Act.put, List.setIfInBounds_toArray, List.set_cons_zero, List.set_cons_succ])
          refine Vc.wpAnyH_read (i := 5) (d := some 17) (v := ?vz14) (by rfl) (by rfl) (by kernel_rfl) (by kernel_rfl) (by kernel_rfl) (fun _ _ _ h => h) (by rfl) ?hyz14 (by assumption) ?restz14
          case hyz14 =>
            intro w hSw
            obtain ⟨s0, s1, s2, s3⟩ := hSw
            go_simp
            try with_reducible rfl
          (try simp only [Act.put, List.setIfInBounds_toArray, List.set_cons_zero, List.set_cons_succ])
          refine Vc.wpAnyH_read (i := 6) (d := some 18) (v := ?vz15) (by rfl) (by rfl) (by kernel_rfl) (by kernel_rfl) (by kernel_rfl) (fun _ _ _ h => h) (by rfl) ?hyz15 (by assumption) ?restz15
          case hyz15 =>
            intro w hSw
            obtain ⟨s0, s1, s2, s3⟩ := hSw
            go_simp
            try with_reducible rfl
          (try simp only [Act.put, List.setIfInBounds_toArray, List.set_cons_zero, List.set_cons_succ])
          refine wpAnyH_ready (rs := [7]) (by kernel_rfl) (by simp) ?_
          refine AllReadyH.cons rfl (fun K hK => ?_) AllReadyH.nil
          go_simp
          go_at_call 44
          refine (HV.out _).mono ?_
          rintro e w2 ⟨rfl, rfl⟩
          refine hK.out _ _ HS.out (fun hHeld => ?_)
          clear hK K
          (try simp only [Act.put, List.setIfInBounds_toArray, List.set_cons_zero, List.set_cons_succ])
          refine Vc.wpAnyH_read (i := 8) (d := some 20) (v := ?vz16) (by rfl) (by rfl) (by kernel_rfl) (by kernel_rfl) (by kernel_rfl) (fun _ _ _ h => h) (by rfl) ?hyz16 (by assumption) ?restz16
          case hyz16 =>
            intro w hSw
            obtain ⟨s0, s1, s2, s3⟩ := hSw
            go_simp
            try with_reducible rfl
          (try simp only [Act.put, List.setIfInBounds_toArray, List.set_cons_zero, List.set_cons_succ])
          refine Vc.wpAnyH_read (i := 9) (d := some 21) (v := ?vz17) (by rfl) (by rfl) (by kernel_rfl) (by kernel_rfl) (by kernel_rfl) (fun _ _ _ h => h) (by rfl) ?hyz17 (by assumption) ?restz17
          case hyz17 =>
            intro w hSw
            obtain ⟨s0, s1, s2, s3⟩ := hSw
            go_simp
            try with_reducible rfl
          (try simp only [Act.put, List.setIfInBounds_toArray, List.set_cons_zero, List.set_cons_succ])
          refine Vc.wpAnyH_read (i := 10) (d := some 22) (v := ?vz18) (by rfl) (by rfl) (by kernel_rfl) (by kernel_rfl) (by kernel_rfl) (fun _ _ _ h => h) (by rfl) ?hyz18 (by assumption) ?restz18
          case hyz18 =>
            intro w hSw
            obtain ⟨s0, s1, s2, s3⟩ := hSw
            go_simp
            try with_reducible rfl
          (try simp only [Act.put, List.setIfInBounds_toArray, List.set_cons_zero, List.set_cons_succ])
          refine Vc.wpAnyH_skip (i := 11) (d := some 23) (by rfl) (by rfl) (by kernel_rfl) (by kernel_rfl) (by kernel_rfl) (fun _ _ _ h => h) (by rfl) (by assumption) ?_
          (try simp only [Act.put, List.setIfInBounds_toArray, List.set_cons_zero, List.set_cons_succ])
          refine Vc.wpAnyH_skip (i := 12) (d := some 24) (by rfl) (by rfl) (by kernel_rfl) (by kernel_rfl) (by kernel_rfl) (fun _ _ _ h => h) (by rfl) (by assumption) ?_
          (try simp only [Act.put, List.setIfInBounds_toArray, List.set_cons_zero, List.set_cons_succ])
          refine Vc.wpAnyH_skip (i := 13) (d := some 25) (by rfl) (by rfl) (by kernel_rfl) (by kernel_rfl) (by kernel_rfl) (fun _ _ _ h => h) (by rfl) (by assumption) ?_
          (try simp only [Act.put, List.setIfInBounds_toArray, List.set_cons_zero, List.set_cons_succ])
          refine Vc.wpAnyH_skip (i := 14) (d := some 26) (by rfl) (by rfl) (by kernel_rfl) (by kernel_rfl) (by kernel_rfl) (fun _ _ _ h => h) (by rfl) (by assumption) ?_
          (try simp only [Act.put, List.setIfInBounds_toArray, List.set_cons_zero, List.set_cons_succ])
          refine Vc.wpAnyH_skip (i := 15) (d := some 27) (by rfl) (by rfl) (by kernel_rfl) (by kernel_rfl) (by kernel_rfl) (fun _ _ _ h => h) (by rfl) (by assumption) ?_
          (try simp only [Act.put, List.setIfInBounds_toArray, List.set_cons_zero, List.set_cons_succ])
          refine Vc.wpAnyH_skip (i := 16) (d := some 28) (by rfl) (by rfl) (by kernel_rfl) (by kernel_rfl) (by kernel_rfl) (fun _ _ _ h => h) (by rfl) (by assumption) ?_
          (try simp only [Act.put, List.setIfInBounds_toArray, List.set_cons_zero, List.set_cons_succ])
          refine Vc.wpAnyH_skip (i := 17) (d := some 29) (by rfl) (by rfl) (by kernel_rfl) (by kernel_rfl) (by kernel_rfl) (fun _ _ _ h => h) (by rfl) (by assumption) ?_
          (try simp only [Act.put, List.setIfInBounds_toArray, List.set_cons_zero, List.set_cons_succ])
          refine Vc.wpAnyH_read (i := 18) (d := some 30) (v := ?vz19) (by rfl) (by rfl) (by kernel_rfl) (by kernel_rfl) (by kernel_rfl) (fun _ _ _ h => h) (by rfl) ?hyz19 (by assumption) ?restz19
          case hyz19 =>
            intro w hSw
            obtain ⟨s0, s1, s2, s3⟩ := hSw
            go_simp
            try with_reducible rfl
          (try simp only [Act.put, List.setIfInBounds_toArray, List.set_cons_zero, List.set_cons_succ])
          refine Vc.wpAnyH_read (i := 19) (d := some 31) (v := ?vz20) (by rfl) (by rfl) (by kernel_rfl) (by kernel_rfl) (by kernel_rfl) (fun _ _ _ h => h) (by rfl) ?hyz20 (by assumption) ?restz20
          case hyz20 =>
            intro w hSw
            obtain ⟨s0, s1, s2, s3⟩ := hSw
            go_simp
            try with_reducible rfl
          (try simp only [Act.put, List.setIfInBounds_toArray, List.set_cons_zero, List.set_cons_succ])
          refine Vc.wpAnyH_skip (i := 20) (d := some 32) (by rfl) (by rfl) (by kernel_rfl) (by kernel_rfl) (by kernel_rfl) (fun _ _ _ h => h) (by rfl) (by assumption) ?_
          (try simp only [Act.put, List.setIfInBounds_toArray, List.set_cons_zero, List.set_cons_succ])
          refine Vc.wpAnyH_skip (i := 21) (d := some 33) (by rfl) (by rfl) (by kernel_rfl) (by kernel_rfl) (by kernel_rfl) (fun _ _ _ h => h) (by rfl) (by assumption) ?_
          (try simp only [Act.put, List.setIfInBounds_toArray, List.set_cons_zero, List.set_cons_succ])
          refine Vc.wpAnyH_skip (i := 22) (d := some 34) (by rfl) (by rfl) (by kernel_rfl) (by kernel_rfl) (by kernel_rfl) (fun _ _ _ h => h) (by rfl) (by assumption) ?_
          (try simp only [Act.put, List.setIfInBounds_toArray, List.set_cons_zero, List.set_cons_succ])
          refine Vc.wpAnyH_skip (i := 23) (d := some 35) (by rfl) (by rfl) (by kernel_rfl) (by kernel_rfl) (by kernel_rfl) (fun _ _ _ h => h) (by rfl) (by assumption) ?_
          (try simp only [Act.put, List.setIfInBounds_toArray, List.set_cons_zero, List.set_cons_succ])
          refine Vc.wpAnyH_skip (i := 24) (d := some 36) (by rfl) (by rfl) (by kernel_rfl) (by kernel_rfl) (by kernel_rfl) (fun _ _ _ h => h) (by rfl) (by assumption) ?_
          (try simp only [Act.put, List.setIfInBounds_toArray, List.set_cons_zero, List.set_cons_succ])
          refine Vc.wpAnyH_skip (i := 25) (d := some 37) (by rfl) (by rfl) (by kernel_rfl) (by kernel_rfl) (by kernel_rfl) (fun _ _ _ h => h) (by rfl) (by assumption) ?_
          (try simp only [Act.put, List.setIfInBounds_toArray, List.set_cons_zero, List.set_cons_succ])
          refine Vc.wpAnyH_skip (i := 26) (d := some 38) (by rfl) (by rfl) (by kernel_rfl) (by kernel_rfl) (by kernel_rfl) (fun _ _ _ h => h) (by rfl) (by assumption) ?_
          (try simp only [Act.put, List.setIfInBounds_toArray, List.set_cons_zero, List.set_cons_succ])
          refine Vc.wpAnyH_skip (i := 27) (d := some 39) (by rfl) (by rfl) (by kernel_rfl) (by kernel_rfl) (by kernel_rfl) (fun _ _ _ h => h) (by rfl) (by assumption) ?_
          (try simp only [Act.put, List.setIfInBounds_toArray, List.set_cons_zero, List.set_cons_succ])
          refine Vc.wpAnyH_skip (i := 28) (d := some 40) (by rfl) (by rfl) (by kernel_rfl) (by kernel_rfl) (by kernel_rfl) (fun _ _ _ h => h) (by rfl) (by assumption) ?_
          (try simp only [Act.put, List.setIfInBounds_toArray, List.set_cons_zero, List.set_cons_succ])
          refine Vc.wpAnyH_skip (i := 29) (d := some 41) (by rfl) (by rfl) (by kernel_rfl) (by kernel_rfl) (by kernel_rfl) (fun _ _ _ h => h) (by rfl) (by assumption) ?_
          (try simp only [Act.put, List.setIfInBounds_toArray, List.set_cons_zero, List.set_cons_succ])
          refine Vc.wpAnyH_skip (i := 30) (d := some 42) (by rfl) (by rfl) (by kernel_rfl) (by kernel_rfl) (by kernel_rfl) (fun _ _ _ h => h) (by rfl) (by assumption) ?_
          (try simp only [Act.put, List.setIfInBounds_toArray, List.set_cons_zero, List.set_cons_succ])
          refine Vc.wpAnyH_skip (i := 31) (d := some 43) (by rfl) (by rfl) (by kernel_rfl) (by kernel_rfl) (by kernel_rfl) (fun _ _ _ h => h) (by rfl) (by assumption) ?_
          (try simp only [Act.put, List.setIfInBounds_toArray, List.set_cons_zero, List.set_cons_succ])
          refine Vc.wpAnyH_skip (i := 32) (d := some 44) (by rfl) (by rfl) (by kernel_rfl) (by kernel_rfl) (by kernel_rfl) (fun _ _ _ h => h) (by rfl) (by assumption) ?_
          (try simp only [Act.put, List.setIfInBounds_toArray, List.set_cons_zero, List.set_cons_succ])
          refine Vc.wpAnyH_skip (i := 33) (d := some 45) (by rfl) (by rfl) (by kernel_rfl) (by kernel_rfl) (by kernel_rfl) (fun _ _ _ h => h) (by rfl) (by assumption) ?_
          (try simp only [Act.put, List.setIfInBounds_toArray, List.set_cons_zero, List.set_cons_succ])
          refine Vc.wpAnyH_read (i := 34) (d := some 46) (v := ?vz21) (by rfl) (by rfl) (by kernel_rfl) (by kernel_rfl) (by kernel_rfl) (fun _ _ _ h => h) (by rfl) ?hyz21 (by assumption) ?restz21
          case hyz21 =>
            intro w hSw
            obtain ⟨s0, s1, s2, s3⟩ := hSw
            go_simp
            try with_reducible rfl
          (try simp only [Act.put, List.setIfInBounds_toArray, List.set_cons_zero, List.set_cons_succ])
          refine wpAnyH_done (by kernel_rfl) ?_ _
          go_wp2
          go_ret
          exact ⟨told_f HNO.out, HB1.out⟩
        case pos =>
          have HV := Lib.hid (fun W => val_any c.val hv W)
          have HVV := Lib.hid hv
          clear hv
          cases hg : c.gone with
          | true =>
            rw [hg] at x2
            cases hemp : c.val.toList.isEmpty with
            | false =>
              have hemp2 : ¬ c.val.toList = [] := by intro e; rw [e] at hemp; cases hemp
              have HNO := Lib.hid (show ¬ SortP ⟨#[]⟩ cs from fun h => by have k := ((sort_iff.1 h) j c HC.out).2.2.2.2 hg; rw [hemp] at k; cases k)
              have HS := Lib.hid (And.intro x0 (And.intro x1 (And.intro x2 trivial)))
              clear hg
              go_wp2_with (first | ((with_reducible refine Who.wpList_loadC 53 (.tmp 10) rfl b (off + j * 3) (chC c) ?_); refine And.intro ⟨by rfl, by rfl, ⟨_, Try.underlying53, rfl⟩, info_ch⟩ (And.intro HRG.out ?_); (try simp only [Act.put, List.setIfInBounds_toArray, List.set_cons_zero, List.set_cons_succ])) | ((with_reducible refine wpList_storeNew 53 (.tmp 4) (.tmp 11) (chC ch0) (chC c) rfl ?_); refine And.intro ⟨rfl, rfl, rfl, rfl, info_ch, rfl, chC_one _⟩ ?_; (try simp only [Act.put, List.setIfInBounds_toArray, List.set_cons_zero, List.set_cons_succ])) | ((with_reducible refine Who.wpList_alloc 53 4 rfl rfl rfl (chC ch0) halc ?_); (try simp only [Act.put, List.setIfInBounds_toArray, List.set_cons_zero, List.set_cons_succ])))
              refine wp_region_held_drew (S := fun w' => w'.cell? ⟨wr.heap.size, 0, none⟩ = some (.string c.key) ∧ w'.cell? ⟨wr.heap.size, 1, none⟩ = some (.string c.val) ∧ w'.cell? ⟨wr.heap.size, 2, none⟩ = some (.bool true) ∧ True) (by kernel_rfl) HS.out (fun hHeld => ?_)
              refine Vc.wpAnyH_read (i := 0) (d := some 12) (v := ?vz22) (by rfl) (by rfl) (by kernel_rfl) (by kernel_rfl) (by kernel_rfl) (fun _ _ _ h => h) (by rfl) ?hyz22 (by assumption) ?restz22
              case hyz22 =>
                intro w hSw
                obtain ⟨s0, s1, s2, s3⟩ := hSw
                go_simp
                try with_reducible rfl
              (try simp only [Act.put, List.setIfInBounds_toArray, List.set_cons_zero, List.set_cons_succ])
              refine Vc.wpAnyH_read (i := 1) (d := some 13) (v := ?vz23) (by rfl) (by rfl) (by kernel_rfl) (by kernel_rfl) (by kernel_rfl) (fun _ _ _ h => h) (by rfl) ?hyz23 (by assumption) ?restz23
              case hyz23 =>
                intro w hSw
                obtain ⟨s0, s1, s2, s3⟩ := hSw
                go_simp
                try with_reducible rfl
              (try simp only [Act.put, List.setIfInBounds_toArray, List.set_cons_zero, List.set_cons_succ])
              refine wpAnyH_ready (rs := [2]) (by kernel_rfl) (by simp) ?_
              refine AllReadyH.cons rfl (fun K hK => ?_) AllReadyH.nil
              go_simp
              go_at_call 43
              refine (HK.out _).mono ?_
              rintro e w2 ⟨rfl, rfl⟩
              refine hK.out _ _ HS.out (fun hHeld => ?_)
              clear hK K
              (try simp only [Act.put, List.setIfInBounds_toArray, List.set_cons_zero, List.set_cons_succ])
              refine Vc.wpAnyH_read (i := 3) (d := some 15) (v := ?vz24) (by rfl) (by rfl) (by kernel_rfl) (by kernel_rfl) (by kernel_rfl) (fun _ _ _ h => h) (by rfl) ?hyz24 (by assumption) ?restz24
              case hyz24 =>
                intro w hSw
                obtain ⟨s0, s1, s2, s3⟩ := hSw
                go_simp
                try with_reducible rfl
              (try simp only [Act.put, List.setIfInBounds_toArray, List.set_cons_zero, List.set_cons_succ])
              refine Vc.wpAnyH_read (i := 4) (d := some 16) (v := ?vz25) (by rfl) (by rfl) (by kernel_rfl) (by kernel_rfl) (by kernel_rfl) (fun _ _ _ h => h) (by rfl) ?hyz25 (by assumption) ?restz25
              case hyz25 =>
                intro w hSw
                obtain ⟨s0, s1, s2, s3⟩ := hSw
                go_simp
                try with_reducible rfl
              (try simp only [Act.put, List.setIfInBounds_toArray, List.set_cons_zero, List.set_cons_succ])
              refine Vc.wpAnyH_read (i := 5) (d := some 17) (v := ?vz26) (by rfl) (by rfl) (by kernel_rfl) (by kernel_rfl) (by kernel_rfl) (fun _ _ _ h => h) (by rfl) ?hyz26 (by assumption) ?restz26
              case hyz26 =>
                intro w hSw
                obtain ⟨s0, s1, s2, s3⟩ := hSw
                go_simp
                try with_reducible rfl
              (try simp only [Act.put, List.setIfInBounds_toArray, List.set_cons_zero, List.set_cons_succ])
              refine Vc.wpAnyH_read (i := 6) (d := some 18) (v := ?vz27) (by rfl) (by rfl) (by kernel_rfl) (by kernel_rfl) (by kernel_rfl) (fun _ _ _ h => h) (by rfl) ?hyz27 (by assumption) ?restz27
              case hyz27 =>
                intro w hSw
                obtain ⟨s0, s1, s2, s3⟩ := hSw
                go_simp
                try with_reducible rfl
              (try simp only [Act.put, List.setIfInBounds_toArray, List.set_cons_zero, List.set_cons_succ])
              refine wpAnyH_ready (rs := [7]) (by kernel_rfl) (by simp) ?_
              refine AllReadyH.cons rfl (fun K hK => ?_) AllReadyH.nil
              go_simp
              go_at_call 44
              refine (HV.out _).mono ?_
              rintro e w2 ⟨rfl, rfl⟩
              refine hK.out _ _ HS.out (fun hHeld => ?_)
              clear hK K
              (try simp only [Act.put, List.setIfInBounds_toArray, List.set_cons_zero, List.set_cons_succ])
              refine Vc.wpAnyH_read (i := 8) (d := some 20) (v := ?vz28) (by rfl) (by rfl) (by kernel_rfl) (by kernel_rfl) (by kernel_rfl) (fun _ _ _ h => h) (by rfl) ?hyz28 (by assumption) ?restz28
              case hyz28 =>
                intro w hSw
                obtain ⟨s0, s1, s2, s3⟩ := hSw
                go_simp
                try with_reducible rfl
              (try simp only [Act.put, List.setIfInBounds_toArray, List.set_cons_zero, List.set_cons_succ])
              refine Vc.wpAnyH_read (i := 9) (d := some 21) (v := ?vz29) (by rfl) (by rfl) (by kernel_rfl) (by kernel_rfl) (by kernel_rfl) (fun _ _ _ h => h) (by rfl) ?hyz29 (by assumption) ?restz29
              case hyz29 =>
                intro w hSw
                obtain ⟨s0, s1, s2, s3⟩ := hSw
                go_simp
                try with_reducible rfl
              (try simp only [Act.put, List.setIfInBounds_toArray, List.set_cons_zero, List.set_cons_succ])
              refine Vc.wpAnyH_read (i := 10) (d := some 22) (v := ?vz30) (by rfl) (by rfl) (by kernel_rfl) (by kernel_rfl) (by kernel_rfl) (fun _ _ _ h => h) (by rfl) ?hyz30 (by assumption) ?restz30
              case hyz30 =>
                intro w hSw
                obtain ⟨s0, s1, s2, s3⟩ := hSw
                go_simp
                try with_reducible rfl
              (try simp only [Act.put, List.setIfInBounds_toArray, List.set_cons_zero, List.set_cons_succ])
              refine Vc.wpAnyH_read (i := 11) (d := some 23) (v := ?vz31) (by rfl) (by rfl) (by kernel_rfl) (by kernel_rfl) (by kernel_rfl) (fun _ _ _ h => h) (by rfl) ?hyz31 (by assumption) ?restz31
              case hyz31 =>
                intro w hSw
                obtain ⟨s0, s1, s2, s3⟩ := hSw
                go_simp
                try with_reducible rfl
              (try simp only [Act.put, List.setIfInBounds_toArray, List.set_cons_zero, List.set_cons_succ])
              refine Vc.wpAnyH_read (i := 12) (d := some 24) (v := ?vz32) (by rfl) (by rfl) (by kernel_rfl) (by kernel_rfl) (by kernel_rfl) (fun _ _ _ h => h) (by rfl) ?hyz32 (by assumption) ?restz32
              case hyz32 =>
                intro w hSw
                obtain ⟨s0, s1, s2, s3⟩ := hSw
                go_simp
                try with_reducible rfl
              (try simp only [Act.put, List.setIfInBounds_toArray, List.set_cons_zero, List.set_cons_succ])
              refine Vc.wpAnyH_read (i := 13) (d := some 25) (v := ?vz33) (by rfl) (by rfl) (by kernel_rfl) (by kernel_rfl) (by kernel_rfl) (fun _ _ _ h => h) (by rfl) ?hyz33 (by assumption) ?restz33
              case hyz33 =>
                intro w hSw
                obtain ⟨s0, s1, s2, s3⟩ := hSw
                go_simp
                try with_reducible rfl
              (try simp only [Act.put, List.setIfInBounds_toArray, List.set_cons_zero, List.set_cons_succ])
              refine Vc.wpAnyH_read (i := 14) (d := some 26) (v := ?vz34) (by rfl) (by rfl) (by kernel_rfl) (by kernel_rfl) (by kernel_rfl) (fun _ _ _ h => h) (by rfl) ?hyz34 (by assumption) ?restz34
              case hyz34 =>
                intro w hSw
                obtain ⟨s0, s1, s2, s3⟩ := hSw
                go_simp
                try with_reducible rfl
              (try simp only [Act.put, List.setIfInBounds_toArray, List.set_cons_zero, List.set_cons_succ])
              refine Vc.wpAnyH_read (i := 15) (d := some 27) (v := ?vz35) (by rfl) (by rfl) (by kernel_rfl) (by kernel_rfl) (by kernel_rfl) (fun _ _ _ h => h) (by rfl) ?hyz35 (by assumption) ?restz35
              case hyz35 =>
                intro w hSw
                obtain ⟨s0, s1, s2, s3⟩ := hSw
                go_simp
                try with_reducible rfl
              (try simp only [Act.put, List.setIfInBounds_toArray, List.set_cons_zero, List.set_cons_succ])
              refine Vc.wpAnyH_read (i := 16) (d := some 28) (v := ?vz36) (by rfl) (by rfl) (by kernel_rfl) (by kernel_rfl) (by kernel_rfl) (fun _ _ _ h => h) (by rfl) ?hyz36 (by assumption) ?restz36
              case hyz36 =>
                intro w hSw
                obtain ⟨s0, s1, s2, s3⟩ := hSw
                go_simp
                try with_reducible rfl
              (try simp only [Act.put, List.setIfInBounds_toArray, List.set_cons_zero, List.set_cons_succ])
              refine Vc.wpAnyH_read (i := 17) (d := some 29) (v := ?vz37) (by rfl) (by rfl) (by kernel_rfl) (by kernel_rfl) (by kernel_rfl) (fun _ _ _ h => h) (by rfl) ?hyz37 (by assumption) ?restz37
              case hyz37 =>
                intro w hSw
                obtain ⟨s0, s1, s2, s3⟩ := hSw
                go_simp
                try with_reducible rfl
              (try simp only [Act.put, List.setIfInBounds_toArray, List.set_cons_zero, List.set_cons_succ])
              refine Vc.wpAnyH_read (i := 18) (d := some 30) (v := ?vz38) (by rfl) (by rfl) (by kernel_rfl) (by kernel_rfl) (by kernel_rfl) (fun _ _ _ h => h) (by rfl) ?hyz38 (by assumption) ?restz38
              case hyz38 =>
                intro w hSw
                obtain ⟨s0, s1, s2, s3⟩ := hSw
                go_simp
                try with_reducible rfl
              (try simp only [Act.put, List.setIfInBounds_toArray, List.set_cons_zero, List.set_cons_succ])
              refine Vc.wpAnyH_read (i := 19) (d := some 31) (v := ?vz39) (by rfl) (by rfl) (by kernel_rfl) (by kernel_rfl) (by kernel_rfl) (fun _ _ _ h => h) (by rfl) ?hyz39 (by assumption) ?restz39
              case hyz39 =>
                intro w hSw
                obtain ⟨s0, s1, s2, s3⟩ := hSw
                go_simp
                try with_reducible rfl
              (try simp only [Act.put, List.setIfInBounds_toArray, List.set_cons_zero, List.set_cons_succ])
              refine Vc.wpAnyH_skip (i := 20) (d := some 32) (by rfl) (by rfl) (by kernel_rfl) (by kernel_rfl) (by kernel_rfl) (fun _ _ _ h => h) (by rfl) (by assumption) ?_
              (try simp only [Act.put, List.setIfInBounds_toArray, List.set_cons_zero, List.set_cons_succ])
              refine Vc.wpAnyH_skip (i := 21) (d := some 33) (by rfl) (by rfl) (by kernel_rfl) (by kernel_rfl) (by kernel_rfl) (fun _ _ _ h => h) (by rfl) (by assumption) ?_
              (try simp only [Act.put, List.setIfInBounds_toArray, List.set_cons_zero, List.set_cons_succ])
              refine Vc.wpAnyH_skip (i := 22) (d := some 34) (by rfl) (by rfl) (by kernel_rfl) (by kernel_rfl) (by kernel_rfl) (fun _ _ _ h => h) (by rfl) (by assumption) ?_
              (try simp only [Act.put, List.setIfInBounds_toArray, List.set_cons_zero, List.set_cons_succ])
              refine Vc.wpAnyH_skip (i := 23) (d := some 35) (by rfl) (by rfl) (by kernel_rfl) (by kernel_rfl) (by kernel_rfl) (fun _ _ _ h => h) (by rfl) (by assumption) ?_
              (try simp only [Act.put, List.setIfInBounds_toArray, List.set_cons_zero, List.set_cons_succ])
              refine Vc.wpAnyH_skip (i := 24) (d := some 36) (by rfl) (by rfl) (by kernel_rfl) (by kernel_rfl) (by kernel_rfl) (fun _ _ _ h => h) (by rfl) (by assumption) ?_
              (try simp only [Act.put, List.setIfInBounds_toArray, List.set_cons_zero, List.set_cons_succ])
              refine Vc.wpAnyH_skip (i := 25) (d := some 37) (by rfl) (by rfl) (by kernel_rfl) (by kernel_rfl) (by kernel_rfl) (fun _ _ _ h => h) (by rfl) (by assumption) ?_
              (try simp only [Act.put, List.setIfInBounds_toArray, List.set_cons_zero, List.set_cons_succ])
              refine Vc.wpAnyH_skip (i := 26) (d := some 38) (by rfl) (by rfl) (by kernel_rfl) (by kernel_rfl) (by kernel_rfl) (fun _ _ _ h => h) (by rfl) (by assumption) ?_
              (try simp only [Act.put, List.setIfInBounds_toArray, List.set_cons_zero, List.set_cons_succ])
              refine Vc.wpAnyH_skip (i := 27) (d := some 39) (by rfl) (by rfl) (by kernel_rfl) (by kernel_rfl) (by kernel_rfl) (fun _ _ _ h => h) (by rfl) (by assumption) ?_
              (try simp only [Act.put, List.setIfInBounds_toArray, List.set_cons_zero, List.set_cons_succ])
              refine Vc.wpAnyH_skip (i := 28) (d := some 40) (by rfl) (by rfl) (by kernel_rfl) (by kernel_rfl) (by kernel_rfl) (fun _ _ _ h => h) (by rfl) (by assumption) ?_
              (try simp only [Act.put, List.setIfInBounds_toArray, List.set_cons_zero, List.set_cons_succ])
              refine Vc.wpAnyH_skip (i := 29) (d := some 41) (by rfl) (by rfl) (by kernel_rfl) (by kernel_rfl) (by kernel_rfl) (fun _ _ _ h => h) (by rfl) (by assumption) ?_
              (try simp only [Act.put, List.setIfInBounds_toArray, List.set_cons_zero, List.set_cons_succ])
              refine Vc.wpAnyH_skip (i := 30) (d := some 42) (by rfl) (by rfl) (by kernel_rfl) (by kernel_rfl) (by kernel_rfl) (fun _ _ _ h => h) (by rfl) (by assumption) ?_
              (try simp only [Act.put, List.setIfInBounds_toArray, List.set_cons_zero, List.set_cons_succ])
              refine Vc.wpAnyH_skip (i := 31) (d := some 43) (by rfl) (by rfl) (by kernel_rfl) (by kernel_rfl) (by kernel_rfl) (fun _ _ _ h => h) (by rfl) (by assumption) ?_
              (try simp only [Act.put, List.setIfInBounds_toArray, List.set_cons_zero, List.set_cons_succ])
              refine Vc.wpAnyH_skip (i := 32) (d := some 44) (by rfl) (by rfl) (by kernel_rfl) (by kernel_rfl) (by kernel_rfl) (fun _ _ _ h => h) (by rfl) (by assumption) ?_
              (try simp only [Act.put, List.setIfInBounds_toArray, List.set_cons_zero, List.set_cons_succ])
              refine Vc.wpAnyH_skip (i := 33) (d := some 45) (by rfl) (by rfl) (by kernel_rfl) (by kernel_rfl) (by kernel_rfl) (fun _ _ _ h => h) (by rfl) (by assumption) ?_
              (try simp only [Act.put, List.setIfInBounds_toArray, List.set_cons_zero, List.set_cons_succ])
              refine Vc.wpAnyH_read (i := 34) (d := some 46) (v := ?vz40) (by rfl) (by rfl) (by kernel_rfl) (by kernel_rfl) (by kernel_rfl) (fun _ _ _ h => h) (by rfl) ?hyz40 (by assumption) ?restz40
              case hyz40 =>
                intro w hSw
                obtain ⟨s0, s1, s2, s3⟩ := hSw
                go_simp
                try with_reducible rfl
              (try simp only [Act.put, List.setIfInBounds_toArray, List.set_cons_zero, List.set_cons_succ])
              refine wpAnyH_done (by kernel_rfl) ?_ _
              go_wp2
              go_ret
              exact ⟨told_f HNO.out, HB1.out⟩
            | true =>
              have hemp2 : c.val.toList = [] := by simpa using hemp
              have HGT := Lib.hid (show c.gone = true → c.val.toList.isEmpty = true from (fun _ => hemp))
              clear hg
              by_cases hp : 0 < j
              case neg =>
                have hp0 : ¬ (0 : Int) < j := by omega
                have HLA := Lib.hid (show lastAt cs j = ⟨#[]⟩ by unfold lastAt; rw [if_pos (by omega)])
                have HNX := Lib.hid (show ∀ k c, k < j + 1 → cs[k]? = some c → okC (lastAt cs k) c from next_ok HKO.out HC.out (by rw [HLA.out]; exact ok_first HKK.out HVV.out HGT.out))
                have HS := Lib.hid (And.intro x0 (And.intro x1 (And.intro x2 trivial)))
                go_wp2_with (first | ((with_reducible refine Who.wpList_loadC 53 (.tmp 10) rfl b (off + j * 3) (chC c) ?_); refine And.intro ⟨by rfl, by rfl, ⟨_, Try.underlying53, rfl⟩, info_ch⟩ (And.intro HRG.out ?_); (try simp only [Act.put, List.setIfInBounds_toArray, List.set_cons_zero, List.set_cons_succ])) | ((with_reducible refine wpList_storeNew 53 (.tmp 4) (.tmp 11) (chC ch0) (chC c) rfl ?_); refine And.intro ⟨rfl, rfl, rfl, rfl, info_ch, rfl, chC_one _⟩ ?_; (try simp only [Act.put, List.setIfInBounds_toArray, List.set_cons_zero, List.set_cons_succ])) | ((with_reducible refine Who.wpList_alloc 53 4 rfl rfl rfl (chC ch0) halc ?_); (try simp only [Act.put, List.setIfInBounds_toArray, List.set_cons_zero, List.set_cons_succ])))
                refine wp_region_held_drew (S := fun w' => w'.cell? ⟨wr.heap.size, 0, none⟩ = some (.string c.key) ∧ w'.cell? ⟨wr.heap.size, 1, none⟩ = some (.string c.val) ∧ w'.cell? ⟨wr.heap.size, 2, none⟩ = some (.bool true) ∧ True) (by kernel_rfl) HS.out (fun hHeld => ?_)
                refine Vc.wpAnyH_read (i := 0) (d := some 12) (v := ?vz41) (by rfl) (by rfl) (by kernel_rfl) (by kernel_rfl) (by kernel_rfl) (fun _ _ _ h => h) (by rfl) ?hyz41 (by assumption) ?restz41
                case hyz41 =>
                  intro w hSw
                  obtain ⟨s0, s1, s2, s3⟩ := hSw
                  go_simp
                  try with_reducible rfl
                (try simp only [Act.put, List.setIfInBounds_toArray, List.set_cons_zero, List.set_cons_succ])
                refine Vc.wpAnyH_read (i := 1) (d := some 13) (v := ?vz42) (by rfl) (by rfl) (by kernel_rfl) (by kernel_rfl) (by kernel_rfl) (fun _ _ _ h => h) (by rfl) ?hyz42 (by assumption) ?restz42
                case hyz42 =>
                  intro w hSw
                  obtain ⟨s0, s1, s2, s3⟩ := hSw
                  go_simp
                  try with_reducible rfl
                (try simp only [Act.put, List.setIfInBounds_toArray, List.set_cons_zero, List.set_cons_succ])
                refine wpAnyH_ready (rs := [2]) (by kernel_rfl) (by simp) ?_
                refine AllReadyH.cons rfl (fun K hK => ?_) AllReadyH.nil
                go_simp
                go_at_call 43
                refine (HK.out _).mono ?_
                rintro e w2 ⟨rfl, rfl⟩
                refine hK.out _ _ HS.out (fun hHeld => ?_)
                clear hK K
                (try simp only [Act.put, List.setIfInBounds_toArray, List.set_cons_zero, List.set_cons_succ])
                refine Vc.wpAnyH_read (i := 3) (d := some 15) (v := ?vz43) (by rfl) (by rfl) (by kernel_rfl) (by kernel_rfl) (by kernel_rfl) (fun _ _ _ h => h) (by rfl) ?hyz43 (by assumption) ?restz43
                case hyz43 =>
                  intro w hSw
                  obtain ⟨s0, s1, s2, s3⟩ := hSw
                  go_simp
                  try with_reducible rfl
                (try simp only [Act.put, List.setIfInBounds_toArray, List.set_cons_zero, List.set_cons_succ])
                refine Vc.wpAnyH_read (i := 4) (d := some 16) (v := ?vz44) (by rfl) (by rfl) (by kernel_rfl) (by kernel_rfl) (by kernel_rfl) (fun _ _ _ h => h) (by rfl) ?hyz44 (by assumption) ?restz44
                case hyz44 =>
                  intro w hSw
                  obtain ⟨s0, s1, s2, s3⟩ := hSw
                  go_simp
                  try with_reducible rfl
                (try simp only [Act.put, List.setIfInBounds_toArray, List.set_cons_zero, List.set_cons_succ])
                refine Vc.wpAnyH_read (i := 5) (d := some 17) (v := ?vz45) (by rfl) (by rfl) (by kernel_rfl) (by kernel_rfl) (by kernel_rfl) (fun _ _ _ h => h) (by rfl) ?hyz45 (by assumption) ?restz45
                case hyz45 =>
                  intro w hSw
                  obtain ⟨s0, s1, s2, s3⟩ := hSw
                  go_simp
                  try with_reducible rfl
                (try simp only [Act.put, List.setIfInBounds_toArray, List.set_cons_zero, List.set_cons_succ])
                refine Vc.wpAnyH_read (i := 6) (d := some 18) (v := ?vz46) (by rfl) (by rfl) (by kernel_rfl) (by kernel_rfl) (by kernel_rfl) (fun _ _ _ h => h) (by rfl) ?hyz46 (by assumption) ?restz46
                case hyz46 =>
                  intro w hSw
                  obtain ⟨s0, s1, s2, s3⟩ := hSw
                  go_simp
                  try with_reducible rfl
                (try simp only [Act.put, List.setIfInBounds_toArray, List.set_cons_zero, List.set_cons_succ])
                refine wpAnyH_ready (rs := [7]) (by kernel_rfl) (by simp) ?_
                refine AllReadyH.cons rfl (fun K hK => ?_) AllReadyH.nil
                go_simp
                go_at_call 44
                refine (HV.out _).mono ?_
                rintro e w2 ⟨rfl, rfl⟩
                refine hK.out _ _ HS.out (fun hHeld => ?_)
                clear hK K
                (try simp only [Act.put, List.setIfInBounds_toArray, List.set_cons_zero, List.set_cons_succ])
                refine Vc.wpAnyH_read (i := 8) (d := some 20) (v := ?vz47) (by rfl) (by rfl) (by kernel_rfl) (by kernel_rfl) (by kernel_rfl) (fun _ _ _ h => h) (by rfl) ?hyz47 (by assumption) ?restz47
                case hyz47 =>
                  intro w hSw
                  obtain ⟨s0, s1, s2, s3⟩ := hSw
                  go_simp
                  try with_reducible rfl
                (try simp only [Act.put, List.setIfInBounds_toArray, List.set_cons_zero, List.set_cons_succ])
                refine Vc.wpAnyH_read (i := 9) (d := some 21) (v := ?vz48) (by rfl) (by rfl) (by kernel_rfl) (by kernel_rfl) (by kernel_rfl) (fun _ _ _ h => h) (by rfl) ?hyz48 (by assumption) ?restz48
                case hyz48 =>
                  intro w hSw
                  obtain ⟨s0, s1, s2, s3⟩ := hSw
                  go_simp
                  try with_reducible rfl
                (try simp only [Act.put, List.setIfInBounds_toArray, List.set_cons_zero, List.set_cons_succ])
                refine Vc.wpAnyH_read (i := 10) (d := some 22) (v := ?vz49) (by rfl) (by rfl) (by kernel_rfl) (by kernel_rfl) (by kernel_rfl) (fun _ _ _ h => h) (by rfl) ?hyz49 (by assumption) ?restz49
                case hyz49 =>
                  intro w hSw
                  obtain ⟨s0, s1, s2, s3⟩ := hSw
                  go_simp
                  try with_reducible rfl
                (try simp only [Act.put, List.setIfInBounds_toArray, List.set_cons_zero, List.set_cons_succ])
                refine Vc.wpAnyH_read (i := 11) (d := some 23) (v := ?vz50) (by rfl) (by rfl) (by kernel_rfl) (by kernel_rfl) (by kernel_rfl) (fun _ _ _ h => h) (by rfl) ?hyz50 (by assumption) ?restz50
                case hyz50 =>
                  intro w hSw
                  obtain ⟨s0, s1, s2, s3⟩ := hSw
                  go_simp
                  try with_reducible rfl
                (try simp only [Act.put, List.setIfInBounds_toArray, List.set_cons_zero, List.set_cons_succ])
                refine Vc.wpAnyH_read (i := 12) (d := some 24) (v := ?vz51) (by rfl) (by rfl) (by kernel_rfl) (by kernel_rfl) (by kernel_rfl) (fun _ _ _ h => h) (by rfl) ?hyz51 (by assumption) ?restz51
                case hyz51 =>
                  intro w hSw
                  obtain ⟨s0, s1, s2, s3⟩ := hSw
                  go_simp
                  try with_reducible rfl
                (try simp only [Act.put, List.setIfInBounds_toArray, List.set_cons_zero, List.set_cons_succ])
                refine Vc.wpAnyH_read (i := 13) (d := some 25) (v := ?vz52) (by rfl) (by rfl) (by kernel_rfl) (by kernel_rfl) (by kernel_rfl) (fun _ _ _ h => h) (by rfl) ?hyz52 (by assumption) ?restz52
                case hyz52 =>
                  intro w hSw
                  obtain ⟨s0, s1, s2, s3⟩ := hSw
                  go_simp
                  try with_reducible rfl
                (try simp only [Act.put, List.setIfInBounds_toArray, List.set_cons_zero, List.set_cons_succ])
                refine Vc.wpAnyH_read (i := 14) (d := some 26) (v := ?vz53) (by rfl) (by rfl) (by kernel_rfl) (by kernel_rfl) (by kernel_rfl) (fun _ _ _ h => h) (by rfl) ?hyz53 (by assumption) ?restz53
                case hyz53 =>
                  intro w hSw
                  obtain ⟨s0, s1, s2, s3⟩ := hSw
                  go_simp
                  try with_reducible rfl
                (try simp only [Act.put, List.setIfInBounds_toArray, List.set_cons_zero, List.set_cons_succ])
                refine Vc.wpAnyH_read (i := 15) (d := some 27) (v := ?vz54) (by rfl) (by rfl) (by kernel_rfl) (by kernel_rfl) (by kernel_rfl) (fun _ _ _ h => h) (by rfl) ?hyz54 (by assumption) ?restz54
                case hyz54 =>
                  intro w hSw
                  obtain ⟨s0, s1, s2, s3⟩ := hSw
                  go_simp
                  try with_reducible rfl
                (try simp only [Act.put, List.setIfInBounds_toArray, List.set_cons_zero, List.set_cons_succ])
                refine Vc.wpAnyH_read (i := 16) (d := some 28) (v := ?vz55) (by rfl) (by rfl) (by kernel_rfl) (by kernel_rfl) (by kernel_rfl) (fun _ _ _ h => h) (by rfl) ?hyz55 (by assumption) ?restz55
                case hyz55 =>
                  intro w hSw
                  obtain ⟨s0, s1, s2, s3⟩ := hSw
                  go_simp
                  try with_reducible rfl
                (try simp only [Act.put, List.setIfInBounds_toArray, List.set_cons_zero, List.set_cons_succ])
                refine Vc.wpAnyH_read (i := 17) (d := some 29) (v := ?vz56) (by rfl) (by rfl) (by kernel_rfl) (by kernel_rfl) (by kernel_rfl) (fun _ _ _ h => h) (by rfl) ?hyz56 (by assumption) ?restz56
                case hyz56 =>
                  intro w hSw
                  obtain ⟨s0, s1, s2, s3⟩ := hSw
                  go_simp
                  try with_reducible rfl
                (try simp only [Act.put, List.setIfInBounds_toArray, List.set_cons_zero, List.set_cons_succ])
                refine Vc.wpAnyH_read (i := 18) (d := some 30) (v := ?vz57) (by rfl) (by rfl) (by kernel_rfl) (by kernel_rfl) (by kernel_rfl) (fun _ _ _ h => h) (by rfl) ?hyz57 (by assumption) ?restz57
                case hyz57 =>
                  intro w hSw
                  obtain ⟨s0, s1, s2, s3⟩ := hSw
                  go_simp
                  try with_reducible rfl
                (try simp only [Act.put, List.setIfInBounds_toArray, List.set_cons_zero, List.set_cons_succ])
                refine Vc.wpAnyH_read (i := 19) (d := some 31) (v := ?vz58) (by rfl) (by rfl) (by kernel_rfl) (by kernel_rfl) (by kernel_rfl) (fun _ _ _ h => h) (by rfl) ?hyz58 (by assumption) ?restz58
                case hyz58 =>
                  intro w hSw
                  obtain ⟨s0, s1, s2, s3⟩ := hSw
                  go_simp
                  try with_reducible rfl
                (try simp only [Act.put, List.setIfInBounds_toArray, List.set_cons_zero, List.set_cons_succ])
                refine Vc.wpAnyH_read (i := 20) (d := some 32) (v := ?vz59) (by rfl) (by rfl) (by kernel_rfl) (by kernel_rfl) (by kernel_rfl) (fun _ _ _ h => h) (by rfl) ?hyz59 (by assumption) ?restz59
                case hyz59 =>
                  intro w hSw
                  obtain ⟨s0, s1, s2, s3⟩ := hSw
                  go_simp
                  try with_reducible rfl
                (try simp only [Act.put, List.setIfInBounds_toArray, List.set_cons_zero, List.set_cons_succ])
                refine Vc.wpAnyH_read (i := 21) (d := some 33) (v := ?vz60) (by rfl) (by rfl) (by kernel_rfl) (by kernel_rfl) (by kernel_rfl) (fun _ _ _ h => h) (by rfl) ?hyz60 (by assumption) ?restz60
                case hyz60 =>
                  intro w hSw
                  obtain ⟨s0, s1, s2, s3⟩ := hSw
                  go_simp
                  try with_reducible rfl
                (try simp only [Act.put, List.setIfInBounds_toArray, List.set_cons_zero, List.set_cons_succ])
                refine Vc.wpAnyH_read (i := 22) (d := some 34) (v := ?vz61) (by rfl) (by rfl) (by kernel_rfl) (by kernel_rfl) (by kernel_rfl) (fun _ _ _ h => h) (by rfl) ?hyz61 (by assumption) ?restz61
                case hyz61 =>
                  intro w hSw
                  obtain ⟨s0, s1, s2, s3⟩ := hSw
                  go_simp
                  try with_reducible rfl
                (try simp only [Act.put, List.setIfInBounds_toArray, List.set_cons_zero, List.set_cons_succ])
                refine Vc.wpAnyH_skip (i := 23) (d := some 35) (by rfl) (by rfl) (by kernel_rfl) (by kernel_rfl) (by kernel_rfl) (fun _ _ _ h => h) (by rfl) (by assumption) ?_
                (try simp only [Act.put, List.setIfInBounds_toArray, List.set_cons_zero, List.set_cons_succ])
                refine Vc.wpAnyH_skip (i := 24) (d := some 36) (by rfl) (by rfl) (by kernel_rfl) (by kernel_rfl) (by kernel_rfl) (fun _ _ _ h => h) (by rfl) (by assumption) ?_
                (try simp only [Act.put, List.setIfInBounds_toArray, List.set_cons_zero, List.set_cons_succ])
                refine Vc.wpAnyH_skip (i := 25) (d := some 37) (by rfl) (by rfl) (by kernel_rfl) (by kernel_rfl) (by kernel_rfl) (fun _ _ _ h => h) (by rfl) (by assumption) ?_
                (try simp only [Act.put, List.setIfInBounds_toArray, List.set_cons_zero, List.set_cons_succ])
                refine Vc.wpAnyH_skip (i := 26) (d := some 38) (by rfl) (by rfl) (by kernel_rfl) (by kernel_rfl) (by kernel_rfl) (fun _ _ _ h => h) (by rfl) (by assumption) ?_
                (try simp only [Act.put, List.setIfInBounds_toArray, List.set_cons_zero, List.set_cons_succ])
                refine Vc.wpAnyH_skip (i := 27) (d := some 39) (by rfl) (by rfl) (by kernel_rfl) (by kernel_rfl) (by kernel_rfl) (fun _ _ _ h => h) (by rfl) (by assumption) ?_
                (try simp only [Act.put, List.setIfInBounds_toArray, List.set_cons_zero, List.set_cons_succ])
                refine Vc.wpAnyH_skip (i := 28) (d := some 40) (by rfl) (by rfl) (by kernel_rfl) (by kernel_rfl) (by kernel_rfl) (fun _ _ _ h => h) (by rfl) (by assumption) ?_
                (try simp only [Act.put, List.setIfInBounds_toArray, List.set_cons_zero, List.set_cons_succ])
                refine Vc.wpAnyH_skip (i := 29) (d := some 41) (by rfl) (by rfl) (by kernel_rfl) (by kernel_rfl) (by kernel_rfl) (fun _ _ _ h => h) (by rfl) (by assumption) ?_
                (try simp only [Act.put, List.setIfInBounds_toArray, List.set_cons_zero, List.set_cons_succ])
                refine Vc.wpAnyH_skip (i := 30) (d := some 42) (by rfl) (by rfl) (by kernel_rfl) (by kernel_rfl) (by kernel_rfl) (fun _ _ _ h => h) (by rfl) (by assumption) ?_
                (try simp only [Act.put, List.setIfInBounds_toArray, List.set_cons_zero, List.set_cons_succ])
                refine Vc.wpAnyH_skip (i := 31) (d := some 43) (by rfl) (by rfl) (by kernel_rfl) (by kernel_rfl) (by kernel_rfl) (fun _ _ _ h => h) (by rfl) (by assumption) ?_
                (try simp only [Act.put, List.setIfInBounds_toArray, List.set_cons_zero, List.set_cons_succ])
                refine Vc.wpAnyH_skip (i := 32) (d := some 44) (by rfl) (by rfl) (by kernel_rfl) (by kernel_rfl) (by kernel_rfl) (fun _ _ _ h => h) (by rfl) (by assumption) ?_
                (try simp only [Act.put, List.setIfInBounds_toArray, List.set_cons_zero, List.set_cons_succ])
                refine Vc.wpAnyH_read (i := 33) (d := some 45) (v := ?vz62) (by rfl) (by rfl) (by kernel_rfl) (by kernel_rfl) (by kernel_rfl) (fun _ _ _ h => h) (by rfl) ?hyz62 (by assumption) ?restz62
                case hyz62 =>
                  intro w hSw
                  obtain ⟨s0, s1, s2, s3⟩ := hSw
                  go_simp
                  try with_reducible rfl
                (try simp only [Act.put, List.setIfInBounds_toArray, List.set_cons_zero, List.set_cons_succ])
                refine Vc.wpAnyH_read (i := 34) (d := some 46) (v := ?vz63) (by rfl) (by rfl) (by kernel_rfl) (by kernel_rfl) (by kernel_rfl) (fun _ _ _ h => h) (by rfl) ?hyz63 (by assumption) ?restz63
                case hyz63 =>
                  intro w hSw
                  obtain ⟨s0, s1, s2, s3⟩ := hSw
                  go_simp
                  try with_reducible rfl
                (try simp only [Act.put, List.setIfInBounds_toArray, List.set_cons_zero, List.set_cons_succ])
                refine wpAnyH_done (by kernel_rfl) ?_ _
                go_wp2
                go_roundw
                case rel => exact ⟨j + 1, HJ.out, by go_num, Lib.hid HB1.out, HNX⟩
                case measure => have := HJ.out; simp [intOf]; omega
              case pos =>
                obtain ⟨d, hd⟩ : ∃ d, cs[j - 1]? = some d := ⟨_, List.getElem?_eq_getElem (by have := HLN.out; omega)⟩
                obtain ⟨b3, off3, e3, hbl3, hrg3⟩ := (HH.out.below HB.out).cells (j - 1) d hd
                injection e3 with e3
                injection e3 with e4 e5 _
                subst e4 e5
                have HDD := Lib.hid hd
                have HDS := Lib.hid (hf d (List.mem_of_getElem? hd))
                have HL := Lib.hid (fun W => less_any d.key c.key HDS.out HFS.out W)
                have HLA := Lib.hid (show lastAt cs j = d.key by unfold lastAt; rw [if_neg (by omega), hd]; rfl)
                have x3 : (wr.alloc (.cells (chC c) 53)).cell? ⟨b, off + (j - 1) * 3, none⟩ = some (.string d.key) := (Below.cell ((Below.refl wr.heap.size wr).alloc (Nat.le_refl _) (.cells (chC c) 53)) (p := ⟨b, off + (j - 1) * 3, none⟩) hbl3).trans (hrg3 0 _ rfl)
                have HS := Lib.hid (And.intro x0 (And.intro x1 (And.intro x2 x3)))
                have HSB := Lib.hid (fun (W : World) (hb : Below (wr.alloc (.cells (chC c) 53)).drew.heap.size (wr.alloc (.cells (chC c) 53)).drew W) => show W.cell? ⟨wr.heap.size, 0, none⟩ = some (.string c.key) ∧ W.cell? ⟨wr.heap.size, 1, none⟩ = some (.string c.val) ∧ W.cell? ⟨wr.heap.size, 2, none⟩ = some (.bool true) ∧ W.cell? ⟨b, off + (j - 1) * 3, none⟩ = some (.string d.key) from ⟨(Below.cell hb (p := ⟨wr.heap.size, 0, none⟩) (by show wr.heap.size < (wr.alloc _).heap.size; rw [World.size_alloc]; omega)).trans x0, (Below.cell hb (p := ⟨wr.heap.size, 1, none⟩) (by show wr.heap.size < (wr.alloc _).heap.size; rw [World.size_alloc]; omega)).trans x1, (Below.cell hb (p := ⟨wr.heap.size, 2, none⟩) (by show wr.heap.size < (wr.alloc _).heap.size; rw [World.size_alloc]; omega)).trans x2, (Below.cell hb (p := ⟨b, off + (j - 1) * 3, none⟩) (by show b < (wr.alloc _).heap.size; rw [World.size_alloc]; omega)).trans x3⟩)
                have j1 : IntKind.i64.wrap ((j : Int) - 1) = (j : Int) - 1 := by rw [IntKind.wrap_i64]; omega
                have j2 : ((j - 1 : Nat) : Int) = (j : Int) - 1 := by omega
                have j3 : ((j : Int) - 1).toNat = j - 1 := by omega
                have j4 : (0 : Int) < j := by omega
                have j5 : (0 : Int) ≤ (j : Int) - 1 := by omega
                have j6 : (j : Int) - 1 < n := by omega
                have j7 : (1 : Int) ≤ j := by omega
                clear hrg3 hbl3 hd
                cases hls : Op.bytesLess d.key.toList c.key.toList with
                | true =>
                  have HLT := Lib.hid hls
                  have HNX := Lib.hid (show ∀ k c, k < j + 1 → cs[k]? = some c → okC (lastAt cs k) c from next_ok HKO.out HC.out (by rw [HLA.out]; exact ok_next hls HKK.out HVV.out HGT.out))
                  clear hls
                  go_wp2_with (first | ((with_reducible refine Who.wpList_loadC 53 (.tmp 10) rfl b (off + j * 3) (chC c) ?_); refine And.intro ⟨by rfl, by rfl, ⟨_, Try.underlying53, rfl⟩, info_ch⟩ (And.intro HRG.out ?_); (try simp only [Act.put, List.setIfInBounds_toArray, List.set_cons_zero, List.set_cons_succ])) | ((with_reducible refine wpList_storeNew 53 (.tmp 4) (.tmp 11) (chC ch0) (chC c) rfl ?_); refine And.intro ⟨rfl, rfl, rfl, rfl, info_ch, rfl, chC_one _⟩ ?_; (try simp only [Act.put, List.setIfInBounds_toArray, List.set_cons_zero, List.set_cons_succ])) | ((with_reducible refine Who.wpList_alloc 53 4 rfl rfl rfl (chC ch0) halc ?_); (try simp only [Act.put, List.setIfInBounds_toArray, List.set_cons_zero, List.set_cons_succ])))
                  refine wp_region_held_drew (S := fun w' => w'.cell? ⟨wr.heap.size, 0, none⟩ = some (.string c.key) ∧ w'.cell? ⟨wr.heap.size, 1, none⟩ = some (.string c.val) ∧ w'.cell? ⟨wr.heap.size, 2, none⟩ = some (.bool true) ∧ w'.cell? ⟨b, off + (j - 1) * 3, none⟩ = some (.string d.key)) (by kernel_rfl) HS.out (fun hHeld => ?_)
                  refine Vc.wpAnyH_read (i := 0) (d := some 12) (v := ?vz64) (by rfl) (by rfl) (by kernel_rfl) (by kernel_rfl) (by kernel_rfl) (fun _ _ _ h => h) (by rfl) ?hyz64 (by assumption) ?restz64
                  case hyz64 =>
                    intro w hSw
                    obtain ⟨s0, s1, s2, s3⟩ := hSw
                    go_simp
                    try with_reducible rfl
                  (try simp only [Act.put, List.setIfInBounds_toArray, List.set_cons_zero, List.set_cons_succ])
                  refine Vc.wpAnyH_read (i := 1) (d := some 13) (v := ?vz65) (by rfl) (by rfl) (by kernel_rfl) (by kernel_rfl) (by kernel_rfl) (fun _ _ _ h => h) (by rfl) ?hyz65 (by assumption) ?restz65
                  case hyz65 =>
                    intro w hSw
                    obtain ⟨s0, s1, s2, s3⟩ := hSw
                    go_simp
                    try with_reducible rfl
                  (try simp only [Act.put, List.setIfInBounds_toArray, List.set_cons_zero, List.set_cons_succ])
                  refine wpAnyH_ready (rs := [2]) (by kernel_rfl) (by simp) ?_
                  refine AllReadyH.cons rfl (fun K hK => ?_) AllReadyH.nil
                  go_simp
                  go_at_call 43
                  refine (HK.out _).mono ?_
                  rintro e w2 ⟨rfl, rfl⟩
                  refine hK.out _ _ HS.out (fun hHeld => ?_)
                  clear hK K
                  (try simp only [Act.put, List.setIfInBounds_toArray, List.set_cons_zero, List.set_cons_succ])
                  refine Vc.wpAnyH_read (i := 3) (d := some 15) (v := ?vz66) (by rfl) (by rfl) (by kernel_rfl) (by kernel_rfl) (by kernel_rfl) (fun _ _ _ h => h) (by rfl) ?hyz66 (by assumption) ?restz66
                  case hyz66 =>
                    intro w hSw
                    obtain ⟨s0, s1, s2, s3⟩ := hSw
                    go_simp
                    try with_reducible rfl
                  (try simp only [Act.put, List.setIfInBounds_toArray, List.set_cons_zero, List.set_cons_succ])
                  refine Vc.wpAnyH_read (i := 4) (d := some 16) (v := ?vz67) (by rfl) (by rfl) (by kernel_rfl) (by kernel_rfl) (by kernel_rfl) (fun _ _ _ h => h) (by rfl) ?hyz67 (by assumption) ?restz67
                  case hyz67 =>
                    intro w hSw
                    obtain ⟨s0, s1, s2, s3⟩ := hSw
                    go_simp
                    try with_reducible rfl
                  (try simp only [Act.put, List.setIfInBounds_toArray, List.set_cons_zero, List.set_cons_succ])
                  refine Vc.wpAnyH_read (i := 5) (d := some 17) (v := ?vz68) (by rfl) (by rfl) (by kernel_rfl) (by kernel_rfl) (by kernel_rfl) (fun _ _ _ h => h) (by rfl) ?hyz68 (by assumption) ?restz68
                  case hyz68 =>
                    intro w hSw
                    obtain ⟨s0, s1, s2, s3⟩ := hSw
                    go_simp
                    try with_reducible rfl
                  (try simp only [Act.put, List.setIfInBounds_toArray, List.set_cons_zero, List.set_cons_succ])
                  refine Vc.wpAnyH_read (i := 6) (d := some 18) (v := ?vz69) (by rfl) (by rfl) (by kernel_rfl) (by kernel_rfl) (by kernel_rfl) (fun _ _ _ h => h) (by rfl) ?hyz69 (by assumption) ?restz69
                  case hyz69 =>
                    intro w hSw
                    obtain ⟨s0, s1, s2, s3⟩ := hSw
                    go_simp
                    try with_reducible rfl
                  (try simp only [Act.put, List.setIfInBounds_toArray, List.set_cons_zero, List.set_cons_succ])
                  refine wpAnyH_ready (rs := [7]) (by kernel_rfl) (by simp) ?_
                  refine AllReadyH.cons rfl (fun K hK => ?_) AllReadyH.nil
                  go_simp
                  go_at_call 44
                  refine (HV.out _).mono ?_
                  rintro e w2 ⟨rfl, rfl⟩
                  refine hK.out _ _ HS.out (fun hHeld => ?_)
                  clear hK K
                  (try simp only [Act.put, List.setIfInBounds_toArray, List.set_cons_zero, List.set_cons_succ])
                  refine Vc.wpAnyH_read (i := 8) (d := some 20) (v := ?vz70) (by rfl) (by rfl) (by kernel_rfl) (by kernel_rfl) (by kernel_rfl) (fun _ _ _ h => h) (by rfl) ?hyz70 (by assumption) ?restz70
                  case hyz70 =>
                    intro w hSw
                    obtain ⟨s0, s1, s2, s3⟩ := hSw
                    go_simp
                    try with_reducible rfl
                  (try simp only [Act.put, List.setIfInBounds_toArray, List.set_cons_zero, List.set_cons_succ])
                  refine Vc.wpAnyH_read (i := 9) (d := some 21) (v := ?vz71) (by rfl) (by rfl) (by kernel_rfl) (by kernel_rfl) (by kernel_rfl) (fun _ _ _ h => h) (by rfl) ?hyz71 (by assumption) ?restz71
                  case hyz71 =>
                    intro w hSw
                    obtain ⟨s0, s1, s2, s3⟩ := hSw
                    go_simp
                    try with_reducible rfl
                  (try simp only [Act.put, List.setIfInBounds_toArray, List.set_cons_zero, List.set_cons_succ])
                  refine Vc.wpAnyH_read (i := 10) (d := some 22) (v := ?vz72) (by rfl) (by rfl) (by kernel_rfl) (by kernel_rfl) (by kernel_rfl) (fun _ _ _ h => h) (by rfl) ?hyz72 (by assumption) ?restz72
                  case hyz72 =>
                    intro w hSw
                    obtain ⟨s0, s1, s2, s3⟩ := hSw
                    go_simp
                    try with_reducible rfl
                  (try simp only [Act.put, List.setIfInBounds_toArray, List.set_cons_zero, List.set_cons_succ])
                  refine Vc.wpAnyH_read (i := 11) (d := some 23) (v := ?vz73) (by rfl) (by rfl) (by kernel_rfl) (by kernel_rfl) (by kernel_rfl) (fun _ _ _ h => h) (by rfl) ?hyz73 (by assumption) ?restz73
                  case hyz73 =>
                    intro w hSw
                    obtain ⟨s0, s1, s2, s3⟩ := hSw
                    go_simp
                    try with_reducible rfl
                  (try simp only [Act.put, List.setIfInBounds_toArray, List.set_cons_zero, List.set_cons_succ])
                  refine Vc.wpAnyH_read (i := 12) (d := some 24) (v := ?vz74) (by rfl) (by rfl) (by kernel_rfl) (by kernel_rfl) (by kernel_rfl) (fun _ _ _ h => h) (by rfl) ?hyz74 (by assumption) ?restz74
                  case hyz74 =>
                    intro w hSw
                    obtain ⟨s0, s1, s2, s3⟩ := hSw
                    go_simp
                    try with_reducible rfl
                  (try simp only [Act.put, List.setIfInBounds_toArray, List.set_cons_zero, List.set_cons_succ])
                  refine Vc.wpAnyH_read (i := 13) (d := some 25) (v := ?vz75) (by rfl) (by rfl) (by kernel_rfl) (by kernel_rfl) (by kernel_rfl) (fun _ _ _ h => h) (by rfl) ?hyz75 (by assumption) ?restz75
                  case hyz75 =>
                    intro w hSw
                    obtain ⟨s0, s1, s2, s3⟩ := hSw
                    go_simp
                    try with_reducible rfl
                  (try simp only [Act.put, List.setIfInBounds_toArray, List.set_cons_zero, List.set_cons_succ])
                  refine Vc.wpAnyH_read (i := 14) (d := some 26) (v := ?vz76) (by rfl) (by rfl) (by kernel_rfl) (by kernel_rfl) (by kernel_rfl) (fun _ _ _ h => h) (by rfl) ?hyz76 (by assumption) ?restz76
                  case hyz76 =>
                    intro w hSw
                    obtain ⟨s0, s1, s2, s3⟩ := hSw
                    go_simp
                    try with_reducible rfl
                  (try simp only [Act.put, List.setIfInBounds_toArray, List.set_cons_zero, List.set_cons_succ])
                  refine Vc.wpAnyH_read (i := 15) (d := some 27) (v := ?vz77) (by rfl) (by rfl) (by kernel_rfl) (by kernel_rfl) (by kernel_rfl) (fun _ _ _ h => h) (by rfl) ?hyz77 (by assumption) ?restz77
                  case hyz77 =>
                    intro w hSw
                    obtain ⟨s0, s1, s2, s3⟩ := hSw
                    go_simp
                    try with_reducible rfl
                  (try simp only [Act.put, List.setIfInBounds_toArray, List.set_cons_zero, List.set_cons_succ])
                  refine Vc.wpAnyH_read (i := 16) (d := some 28) (v := ?vz78) (by rfl) (by rfl) (by kernel_rfl) (by kernel_rfl) (by kernel_rfl) (fun _ _ _ h => h) (by rfl) ?hyz78 (by assumption) ?restz78
                  case hyz78 =>
                    intro w hSw
                    obtain ⟨s0, s1, s2, s3⟩ := hSw
                    go_simp
                    try with_reducible rfl
                  (try simp only [Act.put, List.setIfInBounds_toArray, List.set_cons_zero, List.set_cons_succ])
                  refine Vc.wpAnyH_read (i := 17) (d := some 29) (v := ?vz79) (by rfl) (by rfl) (by kernel_rfl) (by kernel_rfl) (by kernel_rfl) (fun _ _ _ h => h) (by rfl) ?hyz79 (by assumption) ?restz79
                  case hyz79 =>
                    intro w hSw
                    obtain ⟨s0, s1, s2, s3⟩ := hSw
                    go_simp
                    try with_reducible rfl
                  (try simp only [Act.put, List.setIfInBounds_toArray, List.set_cons_zero, List.set_cons_succ])
                  refine Vc.wpAnyH_read (i := 18) (d := some 30) (v := ?vz80) (by rfl) (by rfl) (by kernel_rfl) (by kernel_rfl) (by kernel_rfl) (fun _ _ _ h => h) (by rfl) ?hyz80 (by assumption) ?restz80
                  case hyz80 =>
                    intro w hSw
                    obtain ⟨s0, s1, s2, s3⟩ := hSw
                    go_simp
                    try with_reducible rfl
                  (try simp only [Act.put, List.setIfInBounds_toArray, List.set_cons_zero, List.set_cons_succ])
                  refine Vc.wpAnyH_read (i := 19) (d := some 31) (v := ?vz81) (by rfl) (by rfl) (by kernel_rfl) (by kernel_rfl) (by kernel_rfl) (fun _ _ _ h => h) (by rfl) ?hyz81 (by assumption) ?restz81
                  case hyz81 =>
                    intro w hSw
                    obtain ⟨s0, s1, s2, s3⟩ := hSw
                    go_simp
                    try with_reducible rfl
                  (try simp only [Act.put, List.setIfInBounds_toArray, List.set_cons_zero, List.set_cons_succ])
                  refine Vc.wpAnyH_read (i := 20) (d := some 32) (v := ?vz82) (by rfl) (by rfl) (by kernel_rfl) (by kernel_rfl) (by kernel_rfl) (fun _ _ _ h => h) (by rfl) ?hyz82 (by assumption) ?restz82
                  case hyz82 =>
                    intro w hSw
                    obtain ⟨s0, s1, s2, s3⟩ := hSw
                    go_simp
                    try with_reducible rfl
                  (try simp only [Act.put, List.setIfInBounds_toArray, List.set_cons_zero, List.set_cons_succ])
                  refine Vc.wpAnyH_read (i := 21) (d := some 33) (v := ?vz83) (by rfl) (by rfl) (by kernel_rfl) (by kernel_rfl) (by kernel_rfl) (fun _ _ _ h => h) (by rfl) ?hyz83 (by assumption) ?restz83
                  case hyz83 =>
                    intro w hSw
                    obtain ⟨s0, s1, s2, s3⟩ := hSw
                    go_simp
                    try with_reducible rfl
                  (try simp only [Act.put, List.setIfInBounds_toArray, List.set_cons_zero, List.set_cons_succ])
                  refine Vc.wpAnyH_read (i := 22) (d := some 34) (v := ?vz84) (by rfl) (by rfl) (by kernel_rfl) (by kernel_rfl) (by kernel_rfl) (fun _ _ _ h => h) (by rfl) ?hyz84 (by assumption) ?restz84
                  case hyz84 =>
                    intro w hSw
                    obtain ⟨s0, s1, s2, s3⟩ := hSw
                    go_simp
                    try with_reducible rfl
                  (try simp only [Act.put, List.setIfInBounds_toArray, List.set_cons_zero, List.set_cons_succ])
                  refine Vc.wpAnyH_read (i := 23) (d := some 35) (v := ?vz85) (by rfl) (by rfl) (by kernel_rfl) (by kernel_rfl) (by kernel_rfl) (fun _ _ _ h => h) (by rfl) ?hyz85 (by assumption) ?restz85
                  case hyz85 =>
                    intro w hSw
                    obtain ⟨s0, s1, s2, s3⟩ := hSw
                    go_simp
                    try with_reducible rfl
                  (try simp only [Act.put, List.setIfInBounds_toArray, List.set_cons_zero, List.set_cons_succ])
                  refine Vc.wpAnyH_read (i := 24) (d := some 36) (v := ?vz86) (by rfl) (by rfl) (by kernel_rfl) (by kernel_rfl) (by kernel_rfl) (fun _ _ _ h => h) (by rfl) ?hyz86 (by assumption) ?restz86
                  case hyz86 =>
                    intro w hSw
                    obtain ⟨s0, s1, s2, s3⟩ := hSw
                    go_simp
                    try with_reducible rfl
                  (try simp only [Act.put, List.setIfInBounds_toArray, List.set_cons_zero, List.set_cons_succ])
                  refine Vc.wpAnyH_read (i := 25) (d := some 37) (v := ?vz87) (by rfl) (by rfl) (by kernel_rfl) (by kernel_rfl) (by kernel_rfl) (fun _ _ _ h => h) (by rfl) ?hyz87 (by assumption) ?restz87
                  case hyz87 =>
                    intro w hSw
                    obtain ⟨s0, s1, s2, s3⟩ := hSw
                    go_simp
                    try with_reducible rfl
                  (try simp only [Act.put, List.setIfInBounds_toArray, List.set_cons_zero, List.set_cons_succ])
                  refine Vc.wpAnyH_read (i := 26) (d := some 38) (v := ?vz88) (by rfl) (by rfl) (by kernel_rfl) (by kernel_rfl) (by kernel_rfl) (fun _ _ _ h => h) (by rfl) ?hyz88 (by assumption) ?restz88
                  case hyz88 =>
                    intro w hSw
                    obtain ⟨s0, s1, s2, s3⟩ := hSw
                    go_simp
                    try with_reducible rfl
                  (try simp only [Act.put, List.setIfInBounds_toArray, List.set_cons_zero, List.set_cons_succ])
                  refine Vc.wpAnyH_read (i := 27) (d := some 39) (v := ?vz89) (by rfl) (by rfl) (by kernel_rfl) (by kernel_rfl) (by kernel_rfl) (fun _ _ _ h => h) (by rfl) ?hyz89 (by assumption) ?restz89
                  case hyz89 =>
                    intro w hSw
                    obtain ⟨s0, s1, s2, s3⟩ := hSw
                    go_simp
                    try with_reducible rfl
                  (try simp only [Act.put, List.setIfInBounds_toArray, List.set_cons_zero, List.set_cons_succ])
                  refine Vc.wpAnyH_read (i := 28) (d := some 40) (v := ?vz90) (by rfl) (by rfl) (by kernel_rfl) (by kernel_rfl) (by kernel_rfl) (fun _ _ _ h => h) (by rfl) ?hyz90 (by assumption) ?restz90
                  case hyz90 =>
                    intro w hSw
                    obtain ⟨s0, s1, s2, s3⟩ := hSw
                    go_simp
                    try with_reducible rfl
                  (try simp only [Act.put, List.setIfInBounds_toArray, List.set_cons_zero, List.set_cons_succ])
                  refine Vc.wpAnyH_read (i := 29) (d := some 41) (v := ?vz91) (by rfl) (by rfl) (by kernel_rfl) (by kernel_rfl) (by kernel_rfl) (fun _ _ _ h => h) (by rfl) ?hyz91 (by assumption) ?restz91
                  case hyz91 =>
                    intro w hSw
                    obtain ⟨s0, s1, s2, s3⟩ := hSw
                    go_simp
                    try with_reducible rfl
                  (try simp only [Act.put, List.setIfInBounds_toArray, List.set_cons_zero, List.set_cons_succ])
                  refine Vc.wpAnyH_read (i := 30) (d := some 42) (v := ?vz92) (by rfl) (by rfl) (by kernel_rfl) (by kernel_rfl) (by kernel_rfl) (fun _ _ _ h => h) (by rfl) ?hyz92 (by assumption) ?restz92
                  case hyz92 =>
                    intro w hSw
                    obtain ⟨s0, s1, s2, s3⟩ := hSw
                    go_simp
                    try with_reducible rfl
                  (try simp only [Act.put, List.setIfInBounds_toArray, List.set_cons_zero, List.set_cons_succ])
                  refine wpAnyH_ready (rs := [31]) (by kernel_rfl) (by simp) ?_
                  refine AllReadyH.cons rfl (fun K hK => ?_) AllReadyH.nil
                  go_simp
                  go_at_call 45
                  refine (HL.out _).mono ?_
                  rintro e w2 ⟨rfl, hb⟩
                  rw [HLT.out]
                  have HB2 := Lib.hid (HB1.out.trans (hb.mono HB1.out.size))
                  have HS2 := Lib.hid (HSB.out _ hb)
                  clear hb
                  refine hK.out _ _ HS2.out (fun hHeld => ?_)
                  clear hK K
                  (try simp only [Act.put, List.setIfInBounds_toArray, List.set_cons_zero, List.set_cons_succ])
                  refine Vc.wpAnyH_read (i := 32) (d := some 44) (v := ?vz93) (by rfl) (by rfl) (by kernel_rfl) (by kernel_rfl) (by kernel_rfl) (fun _ _ _ h => h) (by rfl) ?hyz93 (by assumption) ?restz93
                  case hyz93 =>
                    intro w hSw
                    obtain ⟨s0, s1, s2, s3⟩ := hSw
                    go_simp
                    try with_reducible rfl
                  (try simp only [Act.put, List.setIfInBounds_toArray, List.set_cons_zero, List.set_cons_succ])
                  refine Vc.wpAnyH_read (i := 33) (d := some 45) (v := ?vz94) (by rfl) (by rfl) (by kernel_rfl) (by kernel_rfl) (by kernel_rfl) (fun _ _ _ h => h) (by rfl) ?hyz94 (by assumption) ?restz94
                  case hyz94 =>
                    intro w hSw
                    obtain ⟨s0, s1, s2, s3⟩ := hSw
                    go_simp
                    try with_reducible rfl
                  (try simp only [Act.put, List.setIfInBounds_toArray, List.set_cons_zero, List.set_cons_succ])
                  refine Vc.wpAnyH_read (i := 34) (d := some 46) (v := ?vz95) (by rfl) (by rfl) (by kernel_rfl) (by kernel_rfl) (by kernel_rfl) (fun _ _ _ h => h) (by rfl) ?hyz95 (by assumption) ?restz95
                  case hyz95 =>
                    intro w hSw
                    obtain ⟨s0, s1, s2, s3⟩ := hSw
                    go_simp
                    try with_reducible rfl
                  (try simp only [Act.put, List.setIfInBounds_toArray, List.set_cons_zero, List.set_cons_succ])
                  refine wpAnyH_done (by kernel_rfl) ?_ _
                  go_wp2
                  go_roundw
                  case rel => exact ⟨j + 1, HJ.out, by go_num, Lib.hid HB2.out, HNX⟩
                  case measure => have := HJ.out; simp [intOf]; omega
                | false =>
                  have HLT := Lib.hid hls
                  have HNO := Lib.hid (show ¬ SortP ⟨#[]⟩ cs from fun h => by have k := (sort_iff.1 h) j c HC.out; rw [HLA.out] at k; have k2 := less_total _ _ k.1 (fun e => by have h := k.2.1; rw [e] at h; simp at h); rw [hls] at k2; cases k2)
                  clear hls
                  go_wp2_with (first | ((with_reducible refine Who.wpList_loadC 53 (.tmp 10) rfl b (off + j * 3) (chC c) ?_); refine And.intro ⟨by rfl, by rfl, ⟨_, Try.underlying53, rfl⟩, info_ch⟩ (And.intro HRG.out ?_); (try simp only [Act.put, List.setIfInBounds_toArray, List.set_cons_zero, List.set_cons_succ])) | ((with_reducible refine wpList_storeNew 53 (.tmp 4) (.tmp 11) (chC ch0) (chC c) rfl ?_); refine And.intro ⟨rfl, rfl, rfl, rfl, info_ch, rfl, chC_one _⟩ ?_; (try simp only [Act.put, List.setIfInBounds_toArray, List.set_cons_zero, List.set_cons_succ])) | ((with_reducible refine Who.wpList_alloc 53 4 rfl rfl rfl (chC ch0) halc ?_); (try simp only [Act.put, List.setIfInBounds_toArray, List.set_cons_zero, List.set_cons_succ])))
                  refine wp_region_held_drew (S := fun w' => w'.cell? ⟨wr.heap.size, 0, none⟩ = some (.string c.key) ∧ w'.cell? ⟨wr.heap.size, 1, none⟩ = some (.string c.val) ∧ w'.cell? ⟨wr.heap.size, 2, none⟩ = some (.bool true) ∧ w'.cell? ⟨b, off + (j - 1) * 3, none⟩ = some (.string d.key)) (by kernel_rfl) HS.out (fun hHeld => ?_)
                  refine Vc.wpAnyH_read (i := 0) (d := some 12) (v := ?vz96) (by rfl) (by rfl) (by kernel_rfl) (by kernel_rfl) (by kernel_rfl) (fun _ _ _ h => h) (by rfl) ?hyz96 (by assumption) ?restz96
                  case hyz96 =>
                    intro w hSw
                    obtain ⟨s0, s1, s2, s3⟩ := hSw
                    go_simp
                    try with_reducible rfl
                  (try simp only [Act.put, List.setIfInBounds_toArray, List.set_cons_zero, List.set_cons_succ])
                  refine Vc.wpAnyH_read (i := 1) (d := some 13) (v := ?vz97) (by rfl) (by rfl) (by kernel_rfl) (by kernel_rfl) (by kernel_rfl) (fun _ _ _ h => h) (by rfl) ?hyz97 (by assumption) ?restz97
                  case hyz97 =>
                    intro w hSw
                    obtain ⟨s0, s1, s2, s3⟩ := hSw
                    go_simp
                    try with_reducible rfl
                  (try simp only [Act.put, List.setIfInBounds_toArray, List.set_cons_zero, List.set_cons_succ])
                  refine wpAnyH_ready (rs := [2]) (by kernel_rfl) (by simp) ?_
                  refine AllReadyH.cons rfl (fun K hK => ?_) AllReadyH.nil
                  go_simp
                  go_at_call 43
                  refine (HK.out _).mono ?_
                  rintro e w2 ⟨rfl, rfl⟩
                  refine hK.out _ _ HS.out (fun hHeld => ?_)
                  clear hK K
                  (try simp only [Act.put, List.setIfInBounds_toArray, List.set_cons_zero, List.set_cons_succ])
                  refine Vc.wpAnyH_read (i := 3) (d := some 15) (v := ?vz98) (by rfl) (by rfl) (by kernel_rfl) (by kernel_rfl) (by kernel_rfl) (fun _ _ _ h => h) (by rfl) ?hyz98 (by assumption) ?restz98
                  case hyz98 =>
                    intro w hSw
                    obtain ⟨s0, s1, s2, s3⟩ := hSw
                    go_simp
                    try with_reducible rfl
                  (try simp only [Act.put, List.setIfInBounds_toArray, List.set_cons_zero, List.set_cons_succ])
                  refine Vc.wpAnyH_read (i := 4) (d := some 16) (v := ?vz99) (by rfl) (by rfl) (by kernel_rfl) (by kernel_rfl) (by kernel_rfl) (fun _ _ _ h => h) (by rfl) ?hyz99 (by assumption) ?restz99
                  case hyz99 =>
                    intro w hSw
                    obtain ⟨s0, s1, s2, s3⟩ := hSw
                    go_simp
                    try with_reducible rfl
                  (try simp only [Act.put, List.setIfInBounds_toArray, List.set_cons_zero, List.set_cons_succ])
                  refine Vc.wpAnyH_read (i := 5) (d := some 17) (v := ?vz100) (by rfl) (by rfl) (by kernel_rfl) (by kernel_rfl) (by kernel_rfl) (fun _ _ _ h => h) (by rfl) ?hyz100 (by assumption) ?restz100
                  case hyz100 =>
                    intro w hSw
                    obtain ⟨s0, s1, s2, s3⟩ := hSw
                    go_simp
                    try with_reducible rfl
                  (try simp only [Act.put, List.setIfInBounds_toArray, List.set_cons_zero, List.set_cons_succ])
                  refine Vc.wpAnyH_read (i := 6) (d := some 18) (v := ?vz101) (by rfl) (by rfl) (by kernel_rfl) (by kernel_rfl) (by kernel_rfl) (fun _ _ _ h => h) (by rfl) ?hyz101 (by assumption) ?restz101
                  case hyz101 =>
                    intro w hSw
                    obtain ⟨s0, s1, s2, s3⟩ := hSw
                    go_simp
                    try with_reducible rfl
                  (try simp only [Act.put, List.setIfInBounds_toArray, List.set_cons_zero, List.set_cons_succ])
                  refine wpAnyH_ready (rs := [7]) (by kernel_rfl) (by simp) ?_
                  refine AllReadyH.cons rfl (fun K hK => ?_) AllReadyH.nil
                  go_simp
                  go_at_call 44
                  refine (HV.out _).mono ?_
                  rintro e w2 ⟨rfl, rfl⟩
                  refine hK.out _ _ HS.out (fun hHeld => ?_)
                  clear hK K
                  (try simp only [Act.put, List.setIfInBounds_toArray, List.set_cons_zero, List.set_cons_succ])
                  refine Vc.wpAnyH_read (i := 8) (d := some 20) (v := ?vz102) (by rfl) (by rfl) (by kernel_rfl) (by kernel_rfl) (by kernel_rfl) (fun _ _ _ h => h) (by rfl) ?hyz102 (by assumption) ?restz102
                  case hyz102 =>
                    intro w hSw
                    obtain ⟨s0, s1, s2, s3⟩ := hSw
                    go_simp
                    try with_reducible rfl
                  (try simp only [Act.put, List.setIfInBounds_toArray, List.set_cons_zero, List.set_cons_succ])
                  refine Vc.wpAnyH_read (i := 9) (d := some 21) (v := ?vz103) (by rfl) (by rfl) (by kernel_rfl) (by kernel_rfl) (by kernel_rfl) (fun _ _ _ h => h) (by rfl) ?hyz103 (by assumption) ?restz103
                  case hyz103 =>
                    intro w hSw
                    obtain ⟨s0, s1, s2, s3⟩ := hSw
                    go_simp
                    try with_reducible rfl
                  (try simp only [Act.put, List.setIfInBounds_toArray, List.set_cons_zero, List.set_cons_succ])
                  refine Vc.wpAnyH_read (i := 10) (d := some 22) (v := ?vz104) (by rfl) (by rfl) (by kernel_rfl) (by kernel_rfl) (by kernel_rfl) (fun _ _ _ h => h) (by rfl) ?hyz104 (by assumption) ?restz104
                  case hyz104 =>
                    intro w hSw
                    obtain ⟨s0, s1, s2, s3⟩ := hSw
                    go_simp
                    try with_reducible rfl
                  (try simp only [Act.put, List.setIfInBounds_toArray, List.set_cons_zero, List.set_cons_succ])
                  refine Vc.wpAnyH_read (i := 11) (d := some 23) (v := ?vz105) (by rfl) (by rfl) (by kernel_rfl) (by kernel_rfl) (by kernel_rfl) (fun _ _ _ h => h) (by rfl) ?hyz105 (by assumption) ?restz105
                  case hyz105 =>
                    intro w hSw
                    obtain ⟨s0, s1, s2, s3⟩ := hSw
                    go_simp
                    try with_reducible rfl
                  (try simp only [Act.put, List.setIfInBounds_toArray, List.set_cons_zero, List.set_cons_succ])
                  refine Vc.wpAnyH_read (i := 12) (d := some 24) (v := ?vz106) (by rfl) (by rfl) (by kernel_rfl) (by kernel_rfl) (by kernel_rfl) (fun _ _ _ h => h) (by rfl) ?hyz106 (by assumption) ?restz106
                  case hyz106 =>
                    intro w hSw
                    obtain ⟨s0, s1, s2, s3⟩ := hSw
                    go_simp
                    try with_reducible rfl
                  (try simp only [Act.put, List.setIfInBounds_toArray, List.set_cons_zero, List.set_cons_succ])
                  refine Vc.wpAnyH_read (i := 13) (d := some 25) (v := ?vz107) (by rfl) (by rfl) (by kernel_rfl) (by kernel_rfl) (by kernel_rfl) (fun _ _ _ h => h) (by rfl) ?hyz107 (by assumption) ?restz107
                  case hyz107 =>
                    intro w hSw
                    obtain ⟨s0, s1, s2, s3⟩ := hSw
                    go_simp
                    try with_reducible rfl
                  (try simp only [Act.put, List.setIfInBounds_toArray, List.set_cons_zero, List.set_cons_succ])
                  refine Vc.wpAnyH_read (i := 14) (d := some 26) (v := ?vz108) (by rfl) (by rfl) (by kernel_rfl) (by kernel_rfl) (by kernel_rfl) (fun _ _ _ h => h) (by rfl) ?hyz108 (by assumption) ?restz108
                  case hyz108 =>
                    intro w hSw
                    obtain ⟨s0, s1, s2, s3⟩ := hSw
                    go_simp
                    try with_reducible rfl
                  (try simp only [Act.put, List.setIfInBounds_toArray, List.set_cons_zero, List.set_cons_succ])
                  refine Vc.wpAnyH_read (i := 15) (d := some 27) (v := ?vz109) (by rfl) (by rfl) (by kernel_rfl) (by kernel_rfl) (by kernel_rfl) (fun _ _ _ h => h) (by rfl) ?hyz109 (by assumption) ?restz109
                  case hyz109 =>
                    intro w hSw
                    obtain ⟨s0, s1, s2, s3⟩ := hSw
                    go_simp
                    try with_reducible rfl
                  (try simp only [Act.put, List.setIfInBounds_toArray, List.set_cons_zero, List.set_cons_succ])
                  refine Vc.wpAnyH_read (i := 16) (d := some 28) (v := ?vz110) (by rfl) (by rfl) (by kernel_rfl) (by kernel_rfl) (by kernel_rfl) (fun _ _ _ h => h) (by rfl) ?hyz110 (by assumption) ?restz110
                  case hyz110 =>
                    intro w hSw
                    obtain ⟨s0, s1, s2, s3⟩ := hSw
                    go_simp
                    try with_reducible rfl
                  (try simp only [Act.put, List.setIfInBounds_toArray, List.set_cons_zero, List.set_cons_succ])
                  refine Vc.wpAnyH_read (i := 17) (d := some 29) (v := ?vz111) (by rfl) (by rfl) (by kernel_rfl) (by kernel_rfl) (by kernel_rfl) (fun _ _ _ h => h) (by rfl) ?hyz111 (by assumption) ?restz111
                  case hyz111 =>
                    intro w hSw
                    obtain ⟨s0, s1, s2, s3⟩ := hSw
                    go_simp
                    try with_reducible rfl
                  (try simp only [Act.put, List.setIfInBounds_toArray, List.set_cons_zero, List.set_cons_succ])
                  refine Vc.wpAnyH_read (i := 18) (d := some 30) (v := ?vz112) (by rfl) (by rfl) (by kernel_rfl) (by kernel_rfl) (by kernel_rfl) (fun _ _ _ h => h) (by rfl) ?hyz112 (by assumption) ?restz112
                  case hyz112 =>
                    intro w hSw
                    obtain ⟨s0, s1, s2, s3⟩ := hSw
                    go_simp
                    try with_reducible rfl
                  (try simp only [Act.put, List.setIfInBounds_toArray, List.set_cons_zero, List.set_cons_succ])
                  refine Vc.wpAnyH_read (i := 19) (d := some 31) (v := ?vz113) (by rfl) (by rfl) (by kernel_rfl) (by kernel_rfl) (by kernel_rfl) (fun _ _ _ h => h) (by rfl) ?hyz113 (by assumption) ?restz113
                  case hyz113 =>
                    intro w hSw
                    obtain ⟨s0, s1, s2, s3⟩ := hSw
                    go_simp
                    try with_reducible rfl
                  (try simp only [Act.put, List.setIfInBounds_toArray, List.set_cons_zero, List.set_cons_succ])
                  refine Vc.wpAnyH_read (i := 20) (d := some 32) (v := ?vz114) (by rfl) (by rfl) (by kernel_rfl) (by kernel_rfl) (by kernel_rfl) (fun _ _ _ h => h) (by rfl) ?hyz114 (by assumption) ?restz114
                  case hyz114 =>
                    intro w hSw
                    obtain ⟨s0, s1, s2, s3⟩ := hSw
                    go_simp
                    try with_reducible rfl
                  (try simp only [Act.put, List.setIfInBounds_toArray, List.set_cons_zero, List.set_cons_succ])
                  refine Vc.wpAnyH_read (i := 21) (d := some 33) (v := ?vz115) (by rfl) (by rfl) (by kernel_rfl) (by kernel_rfl) (by kernel_rfl) (fun _ _ _ h => h) (by rfl) ?hyz115 (by assumption) ?restz115
                  case hyz115 =>
                    intro w hSw
                    obtain ⟨s0, s1, s2, s3⟩ := hSw
                    go_simp
                    try with_reducible rfl
                  (try simp only [Act.put, List.setIfInBounds_toArray, List.set_cons_zero, List.set_cons_succ])
                  refine Vc.wpAnyH_read (i := 22) (d := some 34) (v := ?vz116) (by rfl) (by rfl) (by kernel_rfl) (by kernel_rfl) (by kernel_rfl) (fun _ _ _ h => h) (by rfl) ?hyz116 (by assumption) ?restz116
                  case hyz116 =>
                    intro w hSw
                    obtain ⟨s0, s1, s2, s3⟩ := hSw
                    go_simp
                    try with_reducible rfl
                  (try simp only [Act.put, List.setIfInBounds_toArray, List.set_cons_zero, List.set_cons_succ])
                  refine Vc.wpAnyH_read (i := 23) (d := some 35) (v := ?vz117) (by rfl) (by rfl) (by kernel_rfl) (by kernel_rfl) (by kernel_rfl) (fun _ _ _ h => h) (by rfl) ?hyz117 (by assumption) ?restz117
                  case hyz117 =>
                    intro w hSw
                    obtain ⟨s0, s1, s2, s3⟩ := hSw
                    go_simp
                    try with_reducible rfl
                  (try simp only [Act.put, List.setIfInBounds_toArray, List.set_cons_zero, List.set_cons_succ])
                  refine Vc.wpAnyH_read (i := 24) (d := some 36) (v := ?vz118) (by rfl) (by rfl) (by kernel_rfl) (by kernel_rfl) (by kernel_rfl) (fun _ _ _ h => h) (by rfl) ?hyz118 (by assumption) ?restz118
                  case hyz118 =>
                    intro w hSw
                    obtain ⟨s0, s1, s2, s3⟩ := hSw
                    go_simp
                    try with_reducible rfl
                  (try simp only [Act.put, List.setIfInBounds_toArray, List.set_cons_zero, List.set_cons_succ])
                  refine Vc.wpAnyH_read (i := 25) (d := some 37) (v := ?vz119) (by rfl) (by rfl) (by kernel_rfl) (by kernel_rfl) (by kernel_rfl) (fun _ _ _ h => h) (by rfl) ?hyz119 (by assumption) ?restz119
                  case hyz119 =>
                    intro w hSw
                    obtain ⟨s0, s1, s2, s3⟩ := hSw
                    go_simp
                    try with_reducible rfl
                  (try simp only [Act.put, List.setIfInBounds_toArray, List.set_cons_zero, List.set_cons_succ])
                  refine Vc.wpAnyH_read (i := 26) (d := some 38) (v := ?vz120) (by rfl) (by rfl) (by kernel_rfl) (by kernel_rfl) (by kernel_rfl) (fun _ _ _ h => h) (by rfl) ?hyz120 (by assumption) ?restz120
                  case hyz120 =>
                    intro w hSw
                    obtain ⟨s0, s1, s2, s3⟩ := hSw
                    go_simp
                    try with_reducible rfl
                  (try simp only [Act.put, List.setIfInBounds_toArray, List.set_cons_zero, List.set_cons_succ])
                  refine Vc.wpAnyH_read (i := 27) (d := some 39) (v := ?vz121) (by rfl) (by rfl) (by kernel_rfl) (by kernel_rfl) (by kernel_rfl) (fun _ _ _ h => h) (by rfl) ?hyz121 (by assumption) ?restz121
                  case hyz121 =>
                    intro w hSw
                    obtain ⟨s0, s1, s2, s3⟩ := hSw
                    go_simp
                    try with_reducible rfl
                  (try simp only [Act.put, List.setIfInBounds_toArray, List.set_cons_zero, List.set_cons_succ])
                  refine Vc.wpAnyH_read (i := 28) (d := some 40) (v := ?vz122) (by rfl) (by rfl) (by kernel_rfl) (by kernel_rfl) (by kernel_rfl) (fun _ _ _ h => h) (by rfl) ?hyz122 (by assumption) ?restz122
                  case hyz122 =>
                    intro w hSw
                    obtain ⟨s0, s1, s2, s3⟩ := hSw
                    go_simp
                    try with_reducible rfl
                  (try simp only [Act.put, List.setIfInBounds_toArray, List.set_cons_zero, List.set_cons_succ])
                  refine Vc.wpAnyH_read (i := 29) (d := some 41) (v := ?vz123) (by rfl) (by rfl) (by kernel_rfl) (by kernel_rfl) (by kernel_rfl) (fun _ _ _ h => h) (by rfl) ?hyz123 (by assumption) ?restz123
                  case hyz123 =>
                    intro w hSw
                    obtain ⟨s0, s1, s2, s3⟩ := hSw
                    go_simp
                    try with_reducible rfl
                  (try simp only [Act.put, List.setIfInBounds_toArray, List.set_cons_zero, List.set_cons_succ])
                  refine Vc.wpAnyH_read (i := 30) (d := some 42) (v := ?vz124) (by rfl) (by rfl) (by kernel_rfl) (by kernel_rfl) (by kernel_rfl) (fun _ _ _ h => h) (by rfl) ?hyz124 (by assumption) ?restz124
                  case hyz124 =>
                    intro w hSw
                    obtain ⟨s0, s1, s2, s3⟩ := hSw
                    go_simp
                    try with_reducible rfl
                  (try simp only [Act.put, List.setIfInBounds_toArray, List.set_cons_zero, List.set_cons_succ])
                  refine wpAnyH_ready (rs := [31]) (by kernel_rfl) (by simp) ?_
                  refine AllReadyH.cons rfl (fun K hK => ?_) AllReadyH.nil
                  go_simp
                  go_at_call 45
                  refine (HL.out _).mono ?_
                  rintro e w2 ⟨rfl, hb⟩
                  rw [HLT.out]
                  have HB2 := Lib.hid (HB1.out.trans (hb.mono HB1.out.size))
                  have HS2 := Lib.hid (HSB.out _ hb)
                  clear hb
                  refine hK.out _ _ HS2.out (fun hHeld => ?_)
                  clear hK K
                  (try simp only [Act.put, List.setIfInBounds_toArray, List.set_cons_zero, List.set_cons_succ])
                  refine Vc.wpAnyH_read (i := 32) (d := some 44) (v := ?vz125) (by rfl) (by rfl) (by kernel_rfl) (by kernel_rfl) (by kernel_rfl) (fun _ _ _ h => h) (by rfl) ?hyz125 (by assumption) ?restz125
                  case hyz125 =>
                    intro w hSw
                    obtain ⟨s0, s1, s2, s3⟩ := hSw
                    go_simp
                    try with_reducible rfl
                  (try simp only [Act.put, List.setIfInBounds_toArray, List.set_cons_zero, List.set_cons_succ])
                  refine Vc.wpAnyH_read (i := 33) (d := some 45) (v := ?vz126) (by rfl) (by rfl) (by kernel_rfl) (by kernel_rfl) (by kernel_rfl) (fun _ _ _ h => h) (by rfl) ?hyz126 (by assumption) ?restz126
                  case hyz126 =>
                    intro w hSw
                    obtain ⟨s0, s1, s2, s3⟩ := hSw
                    go_simp
                    try with_reducible rfl
                  (try simp only [Act.put, List.setIfInBounds_toArray, List.set_cons_zero, List.set_cons_succ])
                  refine Vc.wpAnyH_read (i := 34) (d := some 46) (v := ?vz127) (by rfl) (by rfl) (by kernel_rfl) (by kernel_rfl) (by kernel_rfl) (fun _ _ _ h => h) (by rfl) ?hyz127 (by assumption) ?restz127
                  case hyz127 =>
                    intro w hSw
                    obtain ⟨s0, s1, s2, s3⟩ := hSw
                    go_simp
                    try with_reducible rfl
                  (try simp only [Act.put, List.setIfInBounds_toArray, List.set_cons_zero, List.set_cons_succ])
                  refine wpAnyH_done (by kernel_rfl) ?_ _
                  go_wp2
                  go_ret
                  exact ⟨told_f HNO.out, HB2.out⟩
          | false =>
            rw [hg] at x2
            have HGT := Lib.hid (show c.gone = true → c.val.toList.isEmpty = true from (fun e => by rw [hg] at e; cases e))
            clear hg
            by_cases hp : 0 < j
            case neg =>
              have hp0 : ¬ (0 : Int) < j := by omega
              have HLA := Lib.hid (show lastAt cs j = ⟨#[]⟩ by unfold lastAt; rw [if_pos (by omega)])
              have HNX := Lib.hid (show ∀ k c, k < j + 1 → cs[k]? = some c → okC (lastAt cs k) c from next_ok HKO.out HC.out (by rw [HLA.out]; exact ok_first HKK.out HVV.out HGT.out))
              have HS := Lib.hid (And.intro x0 (And.intro x1 (And.intro x2 trivial)))
              go_wp2_with (first | ((with_reducible refine Who.wpList_loadC 53 (.tmp 10) rfl b (off + j * 3) (chC c) ?_); refine And.intro ⟨by rfl, by rfl, ⟨_, Try.underlying53, rfl⟩, info_ch⟩ (And.intro HRG.out ?_); (try simp only [Act.put, List.setIfInBounds_toArray, List.set_cons_zero, List.set_cons_succ])) | ((with_reducible refine wpList_storeNew 53 (.tmp 4) (.tmp 11) (chC ch0) (chC c) rfl ?_); refine And.intro ⟨rfl, rfl, rfl, rfl, info_ch, rfl, chC_one _⟩ ?_; (try simp only [Act.put, List.setIfInBounds_toArray, List.set_cons_zero, List.set_cons_succ])) | ((with_reducible refine Who.wpList_alloc 53 4 rfl rfl rfl (chC ch0) halc ?_); (try simp only [Act.put, List.setIfInBounds_toArray, List.set_cons_zero, List.set_cons_succ])))
              refine wp_region_held_drew (S := fun w' => w'.cell? ⟨wr.heap.size, 0, none⟩ = some (.string c.key) ∧ w'.cell? ⟨wr.heap.size, 1, none⟩ = some (.string c.val) ∧ w'.cell? ⟨wr.heap.size, 2, none⟩ = some (.bool false) ∧ True) (by kernel_rfl) HS.out (fun hHeld => ?_)
              refine Vc.wpAnyH_read (i := 0) (d := some 12) (v := ?vz128) (by rfl) (by rfl) (by kernel_rfl) (by kernel_rfl) (by kernel_rfl) (fun _ _ _ h => h) (by rfl) ?hyz128 (by assumption) ?restz128
              case hyz128 =>
                intro w hSw
                obtain ⟨s0, s1, s2, s3⟩ := hSw
                go_simp
                try with_reducible rfl
              (try simp only [Act.put, List.setIfInBounds_toArray, List.set_cons_zero, List.set_cons_succ])
              refine Vc.wpAnyH_read (i := 1) (d := some 13) (v := ?vz129) (by rfl) (by rfl) (by kernel_rfl) (by kernel_rfl) (by kernel_rfl) (fun _ _ _ h => h) (by rfl) ?hyz129 (by assumption) ?restz129
              case hyz129 =>
                intro w hSw
                obtain ⟨s0, s1, s2, s3⟩ := hSw
                go_simp
                try with_reducible rfl
              (try simp only [Act.put, List.setIfInBounds_toArray, List.set_cons_zero, List.set_cons_succ])
              refine wpAnyH_ready (rs := [2]) (by kernel_rfl) (by simp) ?_
              refine AllReadyH.cons rfl (fun K hK => ?_) AllReadyH.nil
              go_simp
              go_at_call 43
              refine (HK.out _).mono ?_
              rintro e w2 ⟨rfl, rfl⟩
              refine hK.out _ _ HS.out (fun hHeld => ?_)
              clear hK K
              (try simp only [Act.put, List.setIfInBounds_toArray, List.set_cons_zero, List.set_cons_succ])
              refine Vc.wpAnyH_read (i := 3) (d := some 15) (v := ?vz130) (by rfl) (by rfl) (by kernel_rfl) (by kernel_rfl) (by kernel_rfl) (fun _ _ _ h => h) (by rfl) ?hyz130 (by assumption) ?restz130
              case hyz130 =>
                intro w hSw
                obtain ⟨s0, s1, s2, s3⟩ := hSw
                go_simp
                try with_reducible rfl
              (try simp only [Act.put, List.setIfInBounds_toArray, List.set_cons_zero, List.set_cons_succ])
              refine Vc.wpAnyH_read (i := 4) (d := some 16) (v := ?vz131) (by rfl) (by rfl) (by kernel_rfl) (by kernel_rfl) (by kernel_rfl) (fun _ _ _ h => h) (by rfl) ?hyz131 (by assumption) ?restz131
              case hyz131 =>
                intro w hSw
                obtain ⟨s0, s1, s2, s3⟩ := hSw
                go_simp
                try with_reducible rfl
              (try simp only [Act.put, List.setIfInBounds_toArray, List.set_cons_zero, List.set_cons_succ])
              refine Vc.wpAnyH_read (i := 5) (d := some 17) (v := ?vz132) (by rfl) (by rfl) (by kernel_rfl) (by kernel_rfl) (by kernel_rfl) (fun _ _ _ h => h) (by rfl) ?hyz132 (by assumption) ?restz132
              case hyz132 =>
                intro w hSw
                obtain ⟨s0, s1, s2, s3⟩ := hSw
                go_simp
                try with_reducible rfl
              (try simp only [Act.put, List.setIfInBounds_toArray, List.set_cons_zero, List.set_cons_succ])
              refine Vc.wpAnyH_read (i := 6) (d := some 18) (v := ?vz133) (by rfl) (by rfl) (by kernel_rfl) (by kernel_rfl) (by kernel_rfl) (fun _ _ _ h => h) (by rfl) ?hyz133 (by assumption) ?restz133
              case hyz133 =>
                intro w hSw
                obtain ⟨s0, s1, s2, s3⟩ := hSw
                go_simp
                try with_reducible rfl
              (try simp only [Act.put, List.setIfInBounds_toArray, List.set_cons_zero, List.set_cons_succ])
              refine wpAnyH_ready (rs := [7]) (by kernel_rfl) (by simp) ?_
              refine AllReadyH.cons rfl (fun K hK => ?_) AllReadyH.nil
              go_simp
              go_at_call 44
              refine (HV.out _).mono ?_
              rintro e w2 ⟨rfl, rfl⟩
              refine hK.out _ _ HS.out (fun hHeld => ?_)
              clear hK K
              (try simp only [Act.put, List.setIfInBounds_toArray, List.set_cons_zero, List.set_cons_succ])
              refine Vc.wpAnyH_read (i := 8) (d := some 20) (v := ?vz134) (by rfl) (by rfl) (by kernel_rfl) (by kernel_rfl) (by kernel_rfl) (fun _ _ _ h => h) (by rfl) ?hyz134 (by assumption) ?restz134
              case hyz134 =>
                intro w hSw
                obtain ⟨s0, s1, s2, s3⟩ := hSw
                go_simp
                try with_reducible rfl
              (try simp only [Act.put, List.setIfInBounds_toArray, List.set_cons_zero, List.set_cons_succ])
              refine Vc.wpAnyH_read (i := 9) (d := some 21) (v := ?vz135) (by rfl) (by rfl) (by kernel_rfl) (by kernel_rfl) (by kernel_rfl) (fun _ _ _ h => h) (by rfl) ?hyz135 (by assumption) ?restz135
              case hyz135 =>
                intro w hSw
                obtain ⟨s0, s1, s2, s3⟩ := hSw
                go_simp
                try with_reducible rfl
              (try simp only [Act.put, List.setIfInBounds_toArray, List.set_cons_zero, List.set_cons_succ])
              refine Vc.wpAnyH_read (i := 10) (d := some 22) (v := ?vz136) (by rfl) (by rfl) (by kernel_rfl) (by kernel_rfl) (by kernel_rfl) (fun _ _ _ h => h) (by rfl) ?hyz136 (by assumption) ?restz136
              case hyz136 =>
                intro w hSw
                obtain ⟨s0, s1, s2, s3⟩ := hSw
                go_simp
                try with_reducible rfl
              (try simp only [Act.put, List.setIfInBounds_toArray, List.set_cons_zero, List.set_cons_succ])
              refine Vc.wpAnyH_read (i := 11) (d := some 23) (v := ?vz137) (by rfl) (by rfl) (by kernel_rfl) (by kernel_rfl) (by kernel_rfl) (fun _ _ _ h => h) (by rfl) ?hyz137 (by assumption) ?restz137
              case hyz137 =>
                intro w hSw
                obtain ⟨s0, s1, s2, s3⟩ := hSw
                go_simp
                try with_reducible rfl
              (try simp only [Act.put, List.setIfInBounds_toArray, List.set_cons_zero, List.set_cons_succ])
              refine Vc.wpAnyH_read (i := 12) (d := some 24) (v := ?vz138) (by rfl) (by rfl) (by kernel_rfl) (by kernel_rfl) (by kernel_rfl) (fun _ _ _ h => h) (by rfl) ?hyz138 (by assumption) ?restz138
              case hyz138 =>
                intro w hSw
                obtain ⟨s0, s1, s2, s3⟩ := hSw
                go_simp
                try with_reducible rfl
              (try simp only [Act.put, List.setIfInBounds_toArray, List.set_cons_zero, List.set_cons_succ])
              refine Vc.wpAnyH_read (i := 13) (d := some 25) (v := ?vz139) (by rfl) (by rfl) (by kernel_rfl) (by kernel_rfl) (by kernel_rfl) (fun _ _ _ h => h) (by rfl) ?hyz139 (by assumption) ?restz139
              case hyz139 =>
                intro w hSw
                obtain ⟨s0, s1, s2, s3⟩ := hSw
                go_simp
                try with_reducible rfl
              (try simp only [Act.put, List.setIfInBounds_toArray, List.set_cons_zero, List.set_cons_succ])
              refine Vc.wpAnyH_skip (i := 14) (d := some 26) (by rfl) (by rfl) (by kernel_rfl) (by kernel_rfl) (by kernel_rfl) (fun _ _ _ h => h) (by rfl) (by assumption) ?_
              (try simp only [Act.put, List.setIfInBounds_toArray, List.set_cons_zero, List.set_cons_succ])
              refine Vc.wpAnyH_skip (i := 15) (d := some 27) (by rfl) (by rfl) (by kernel_rfl) (by kernel_rfl) (by kernel_rfl) (fun _ _ _ h => h) (by rfl) (by assumption) ?_
              (try simp only [Act.put, List.setIfInBounds_toArray, List.set_cons_zero, List.set_cons_succ])
              refine Vc.wpAnyH_skip (i := 16) (d := some 28) (by rfl) (by rfl) (by kernel_rfl) (by kernel_rfl) (by kernel_rfl) (fun _ _ _ h => h) (by rfl) (by assumption) ?_
              (try simp only [Act.put, List.setIfInBounds_toArray, List.set_cons_zero, List.set_cons_succ])
              refine Vc.wpAnyH_read (i := 17) (d := some 29) (v := ?vz140) (by rfl) (by rfl) (by kernel_rfl) (by kernel_rfl) (by kernel_rfl) (fun _ _ _ h => h) (by rfl) ?hyz140 (by assumption) ?restz140
              case hyz140 =>
                intro w hSw
                obtain ⟨s0, s1, s2, s3⟩ := hSw
                go_simp
                try with_reducible rfl
              (try simp only [Act.put, List.setIfInBounds_toArray, List.set_cons_zero, List.set_cons_succ])
              refine Vc.wpAnyH_read (i := 18) (d := some 30) (v := ?vz141) (by rfl) (by rfl) (by kernel_rfl) (by kernel_rfl) (by kernel_rfl) (fun _ _ _ h => h) (by rfl) ?hyz141 (by assumption) ?restz141
              case hyz141 =>
                intro w hSw
                obtain ⟨s0, s1, s2, s3⟩ := hSw
                go_simp
                try with_reducible rfl
              (try simp only [Act.put, List.setIfInBounds_toArray, List.set_cons_zero, List.set_cons_succ])
              refine Vc.wpAnyH_read (i := 19) (d := some 31) (v := ?vz142) (by rfl) (by rfl) (by kernel_rfl) (by kernel_rfl) (by kernel_rfl) (fun _ _ _ h => h) (by rfl) ?hyz142 (by assumption) ?restz142
              case hyz142 =>
                intro w hSw
                obtain ⟨s0, s1, s2, s3⟩ := hSw
                go_simp
                try with_reducible rfl
              (try simp only [Act.put, List.setIfInBounds_toArray, List.set_cons_zero, List.set_cons_succ])
              refine Vc.wpAnyH_read (i := 20) (d := some 32) (v := ?vz143) (by rfl) (by rfl) (by kernel_rfl) (by kernel_rfl) (by kernel_rfl) (fun _ _ _ h => h) (by rfl) ?hyz143 (by assumption) ?restz143
              case hyz143 =>
                intro w hSw
                obtain ⟨s0, s1, s2, s3⟩ := hSw
                go_simp
                try with_reducible rfl
              (try simp only [Act.put, List.setIfInBounds_toArray, List.set_cons_zero, List.set_cons_succ])
              refine Vc.wpAnyH_read (i := 21) (d := some 33) (v := ?vz144) (by rfl) (by rfl) (by kernel_rfl) (by kernel_rfl) (by kernel_rfl) (fun _ _ _ h => h) (by rfl) ?hyz144 (by assumption) ?restz144
              case hyz144 =>
                intro w hSw
                obtain ⟨s0, s1, s2, s3⟩ := hSw
                go_simp
                try with_reducible rfl
              (try simp only [Act.put, List.setIfInBounds_toArray, List.set_cons_zero, List.set_cons_succ])
              refine Vc.wpAnyH_read (i := 22) (d := some 34) (v := ?vz145) (by rfl) (by rfl) (by kernel_rfl) (by kernel_rfl) (by kernel_rfl) (fun _ _ _ h => h) (by rfl) ?hyz145 (by assumption) ?restz145
              case hyz145 =>
                intro w hSw
                obtain ⟨s0, s1, s2, s3⟩ := hSw
                go_simp
                try with_reducible rfl
              (try simp only [Act.put, List.setIfInBounds_toArray, List.set_cons_zero, List.set_cons_succ])
              refine Vc.wpAnyH_skip (i := 23) (d := some 35) (by rfl) (by rfl) (by kernel_rfl) (by kernel_rfl) (by kernel_rfl) (fun _ _ _ h => h) (by rfl) (by assumption) ?_
              (try simp only [Act.put, List.setIfInBounds_toArray, List.set_cons_zero, List.set_cons_succ])
              refine Vc.wpAnyH_skip (i := 24) (d := some 36) (by rfl) (by rfl) (by kernel_rfl) (by kernel_rfl) (by kernel_rfl) (fun _ _ _ h => h) (by rfl) (by assumption) ?_
              (try simp only [Act.put, List.setIfInBounds_toArray, List.set_cons_zero, List.set_cons_succ])
              refine Vc.wpAnyH_skip (i := 25) (d := some 37) (by rfl) (by rfl) (by kernel_rfl) (by kernel_rfl) (by kernel_rfl) (fun _ _ _ h => h) (by rfl) (by assumption) ?_
              (try simp only [Act.put, List.setIfInBounds_toArray, List.set_cons_zero, List.set_cons_succ])
              refine Vc.wpAnyH_skip (i := 26) (d := some 38) (by rfl) (by rfl) (by kernel_rfl) (by kernel_rfl) (by kernel_rfl) (fun _ _ _ h => h) (by rfl) (by assumption) ?_
              (try simp only [Act.put, List.setIfInBounds_toArray, List.set_cons_zero, List.set_cons_succ])
              refine Vc.wpAnyH_skip (i := 27) (d := some 39) (by rfl) (by rfl) (by kernel_rfl) (by kernel_rfl) (by kernel_rfl) (fun _ _ _ h => h) (by rfl) (by assumption) ?_
              (try simp only [Act.put, List.setIfInBounds_toArray, List.set_cons_zero, List.set_cons_succ])
              refine Vc.wpAnyH_skip (i := 28) (d := some 40) (by rfl) (by rfl) (by kernel_rfl) (by kernel_rfl) (by kernel_rfl) (fun _ _ _ h => h) (by rfl) (by assumption) ?_
              (try simp only [Act.put, List.setIfInBounds_toArray, List.set_cons_zero, List.set_cons_succ])
              refine Vc.wpAnyH_skip (i := 29) (d := some 41) (by rfl) (by rfl) (by kernel_rfl) (by kernel_rfl) (by kernel_rfl) (fun _ _ _ h => h) (by rfl) (by assumption) ?_
              (try simp only [Act.put, List.setIfInBounds_toArray, List.set_cons_zero, List.set_cons_succ])
              refine Vc.wpAnyH_skip (i := 30) (d := some 42) (by rfl) (by rfl) (by kernel_rfl) (by kernel_rfl) (by kernel_rfl) (fun _ _ _ h => h) (by rfl) (by assumption) ?_
              (try simp only [Act.put, List.setIfInBounds_toArray, List.set_cons_zero, List.set_cons_succ])
              refine Vc.wpAnyH_skip (i := 31) (d := some 43) (by rfl) (by rfl) (by kernel_rfl) (by kernel_rfl) (by kernel_rfl) (fun _ _ _ h => h) (by rfl) (by assumption) ?_
              (try simp only [Act.put, List.setIfInBounds_toArray, List.set_cons_zero, List.set_cons_succ])
              refine Vc.wpAnyH_skip (i := 32) (d := some 44) (by rfl) (by rfl) (by kernel_rfl) (by kernel_rfl) (by kernel_rfl) (fun _ _ _ h => h) (by rfl) (by assumption) ?_
              (try simp only [Act.put, List.setIfInBounds_toArray, List.set_cons_zero, List.set_cons_succ])
              refine Vc.wpAnyH_read (i := 33) (d := some 45) (v := ?vz146) (by rfl) (by rfl) (by kernel_rfl) (by kernel_rfl) (by kernel_rfl) (fun _ _ _ h => h) (by rfl) ?hyz146 (by assumption) ?restz146
              case hyz146 =>
                intro w hSw
                obtain ⟨s0, s1, s2, s3⟩ := hSw
                go_simp
                try with_reducible rfl
              (try simp only [Act.put, List.setIfInBounds_toArray, List.set_cons_zero, List.set_cons_succ])
              refine Vc.wpAnyH_read (i := 34) (d := some 46) (v := ?vz147) (by rfl) (by rfl) (by kernel_rfl) (by kernel_rfl) (by kernel_rfl) (fun _ _ _ h => h) (by rfl) ?hyz147 (by assumption) ?restz147
              case hyz147 =>
                intro w hSw
                obtain ⟨s0, s1, s2, s3⟩ := hSw
                go_simp
                try with_reducible rfl
              (try simp only [Act.put, List.setIfInBounds_toArray, List.set_cons_zero, List.set_cons_succ])
              refine wpAnyH_done (by kernel_rfl) ?_ _
              go_wp2
              go_roundw
              case rel => exact ⟨j + 1, HJ.out, by go_num, Lib.hid HB1.out, HNX⟩
              case measure => have := HJ.out; simp [intOf]; omega
            case pos =>
              obtain ⟨d, hd⟩ : ∃ d, cs[j - 1]? = some d := ⟨_, List.getElem?_eq_getElem (by have := HLN.out; omega)⟩
              obtain ⟨b3, off3, e3, hbl3, hrg3⟩ := (HH.out.below HB.out).cells (j - 1) d hd
              injection e3 with e3
              injection e3 with e4 e5 _
              subst e4 e5
              have HDD := Lib.hid hd
              have HDS := Lib.hid (hf d (List.mem_of_getElem? hd))
              have HL := Lib.hid (fun W => less_any d.key c.key HDS.out HFS.out W)
              have HLA := Lib.hid (show lastAt cs j = d.key by unfold lastAt; rw [if_neg (by omega), hd]; rfl)
              have x3 : (wr.alloc (.cells (chC c) 53)).cell? ⟨b, off + (j - 1) * 3, none⟩ = some (.string d.key) := (Below.cell ((Below.refl wr.heap.size wr).alloc (Nat.le_refl _) (.cells (chC c) 53)) (p := ⟨b, off + (j - 1) * 3, none⟩) hbl3).trans (hrg3 0 _ rfl)
              have HS := Lib.hid (And.intro x0 (And.intro x1 (And.intro x2 x3)))
              have HSB := Lib.hid (fun (W : World) (hb : Below (wr.alloc (.cells (chC c) 53)).drew.heap.size (wr.alloc (.cells (chC c) 53)).drew W) => show W.cell? ⟨wr.heap.size, 0, none⟩ = some (.string c.key) ∧ W.cell? ⟨wr.heap.size, 1, none⟩ = some (.string c.val) ∧ W.cell? ⟨wr.heap.size, 2, none⟩ = some (.bool false) ∧ W.cell? ⟨b, off + (j - 1) * 3, none⟩ = some (.string d.key) from ⟨(Below.cell hb (p := ⟨wr.heap.size, 0, none⟩) (by show wr.heap.size < (wr.alloc _).heap.size; rw [World.size_alloc]; omega)).trans x0, (Below.cell hb (p := ⟨wr.heap.size, 1, none⟩) (by show wr.heap.size < (wr.alloc _).heap.size; rw [World.size_alloc]; omega)).trans x1, (Below.cell hb (p := ⟨wr.heap.size, 2, none⟩) (by show wr.heap.size < (wr.alloc _).heap.size; rw [World.size_alloc]; omega)).trans x2, (Below.cell hb (p := ⟨b, off + (j - 1) * 3, none⟩) (by show b < (wr.alloc _).heap.size; rw [World.size_alloc]; omega)).trans x3⟩)
              have j1 : IntKind.i64.wrap ((j : Int) - 1) = (j : Int) - 1 := by rw [IntKind.wrap_i64]; omega
              have j2 : ((j - 1 : Nat) : Int) = (j : Int) - 1 := by omega
              have j3 : ((j : Int) - 1).toNat = j - 1 := by omega
              have j4 : (0 : Int) < j := by omega
              have j5 : (0 : Int) ≤ (j : Int) - 1 := by omega
              have j6 : (j : Int) - 1 < n := by omega
              have j7 : (1 : Int) ≤ j := by omega
              clear hrg3 hbl3 hd
              cases hls : Op.bytesLess d.key.toList c.key.toList with
              | true =>
                have HLT := Lib.hid hls
                have HNX := Lib.hid (show ∀ k c, k < j + 1 → cs[k]? = some c → okC (lastAt cs k) c from next_ok HKO.out HC.out (by rw [HLA.out]; exact ok_next hls HKK.out HVV.out HGT.out))
                clear hls
                go_wp2_with (first | ((with_reducible refine Who.wpList_loadC 53 (.tmp 10) rfl b (off + j * 3) (chC c) ?_); refine And.intro ⟨by rfl, by rfl, ⟨_, Try.underlying53, rfl⟩, info_ch⟩ (And.intro HRG.out ?_); (try simp only [Act.put, List.setIfInBounds_toArray, List.set_cons_zero, List.set_cons_succ])) | ((with_reducible refine wpList_storeNew 53 (.tmp 4) (.tmp 11) (chC ch0) (chC c) rfl ?_); refine And.intro ⟨rfl, rfl, rfl, rfl, info_ch, rfl, chC_one _⟩ ?_; (try simp only [Act.put, List.setIfInBounds_toArray, List.set_cons_zero, List.set_cons_succ])) | ((with_reducible refine Who.wpList_alloc 53 4 rfl rfl rfl (chC ch0) halc ?_); (try simp only [Act.put, List.setIfInBounds_toArray, List.set_cons_zero, List.set_cons_succ])))
                refine wp_region_held_drew (S := fun w' => w'.cell? ⟨wr.heap.size, 0, none⟩ = some (.string c.key) ∧ w'.cell? ⟨wr.heap.size, 1, none⟩ = some (.string c.val) ∧ w'.cell? ⟨wr.heap.size, 2, none⟩ = some (.bool false) ∧ w'.cell? ⟨b, off + (j - 1) * 3, none⟩ = some (.string d.key)) (by kernel_rfl) HS.out (fun hHeld => ?_)
                refine Vc.wpAnyH_read (i := 0) (d := some 12) (v := ?vz148) (by rfl) (by rfl) (by kernel_rfl) (by kernel_rfl) (by kernel_rfl) (fun _ _ _ h => h) (by rfl) ?hyz148 (by assumption) ?restz148
                case hyz148 =>
                  intro w hSw
                  obtain ⟨s0, s1, s2, s3⟩ := hSw
                  go_simp
                  try with_reducible rfl
                (try simp only [Act.put, List.setIfInBounds_toArray, List.set_cons_zero, List.set_cons_succ])
                refine Vc.wpAnyH_read (i := 1) (d := some 13) (v := ?vz149) (by rfl) (by rfl) (by kernel_rfl) (by kernel_rfl) (by kernel_rfl) (fun _ _ _ h => h) (by rfl) ?hyz149 (by assumption) ?restz149
                case hyz149 =>
                  intro w hSw
                  obtain ⟨s0, s1, s2, s3⟩ := hSw
                  go_simp
                  try with_reducible rfl
                (try simp only [Act.put, List.setIfInBounds_toArray, List.set_cons_zero, List.set_cons_succ])
                refine wpAnyH_ready (rs := [2]) (by kernel_rfl) (by simp) ?_
                refine AllReadyH.cons rfl (fun K hK => ?_) AllReadyH.nil
                go_simp
                go_at_call 43
                refine (HK.out _).mono ?_
                rintro e w2 ⟨rfl, rfl⟩
                refine hK.out _ _ HS.out (fun hHeld => ?_)
                clear hK K
                (try simp only [Act.put, List.setIfInBounds_toArray, List.set_cons_zero, List.set_cons_succ])
                refine Vc.wpAnyH_read (i := 3) (d := some 15) (v := ?vz150) (by rfl) (by rfl) (by kernel_rfl) (by kernel_rfl) (by kernel_rfl) (fun _ _ _ h => h) (by rfl) ?hyz150 (by assumption) ?restz150
                case hyz150 =>
                  intro w hSw
                  obtain ⟨s0, s1, s2, s3⟩ := hSw
                  go_simp
                  try with_reducible rfl
                (try simp only [Act.put, List.setIfInBounds_toArray, List.set_cons_zero, List.set_cons_succ])
                refine Vc.wpAnyH_read (i := 4) (d := some 16) (v := ?vz151) (by rfl) (by rfl) (by kernel_rfl) (by kernel_rfl) (by kernel_rfl) (fun _ _ _ h => h) (by rfl) ?hyz151 (by assumption) ?restz151
                case hyz151 =>
                  intro w hSw
                  obtain ⟨s0, s1, s2, s3⟩ := hSw
                  go_simp
                  try with_reducible rfl
                (try simp only [Act.put, List.setIfInBounds_toArray, List.set_cons_zero, List.set_cons_succ])
                refine Vc.wpAnyH_read (i := 5) (d := some 17) (v := ?vz152) (by rfl) (by rfl) (by kernel_rfl) (by kernel_rfl) (by kernel_rfl) (fun _ _ _ h => h) (by rfl) ?hyz152 (by assumption) ?restz152
                case hyz152 =>
                  intro w hSw
                  obtain ⟨s0, s1, s2, s3⟩ := hSw
                  go_simp
                  try with_reducible rfl
                (try simp only [Act.put, List.setIfInBounds_toArray, List.set_cons_zero, List.set_cons_succ])
                refine Vc.wpAnyH_read (i := 6) (d := some 18) (v := ?vz153) (by rfl) (by rfl) (by kernel_rfl) (by kernel_rfl) (by kernel_rfl) (fun _ _ _ h => h) (by rfl) ?hyz153 (by assumption) ?restz153
                case hyz153 =>
                  intro w hSw
                  obtain ⟨s0, s1, s2, s3⟩ := hSw
                  go_simp
                  try with_reducible rfl
                (try simp only [Act.put, List.setIfInBounds_toArray, List.set_cons_zero, List.set_cons_succ])
                refine wpAnyH_ready (rs := [7]) (by kernel_rfl) (by simp) ?_
                refine AllReadyH.cons rfl (fun K hK => ?_) AllReadyH.nil
                go_simp
                go_at_call 44
                refine (HV.out _).mono ?_
                rintro e w2 ⟨rfl, rfl⟩
                refine hK.out _ _ HS.out (fun hHeld => ?_)
                clear hK K
                (try simp only [Act.put, List.setIfInBounds_toArray, List.set_cons_zero, List.set_cons_succ])
                refine Vc.wpAnyH_read (i := 8) (d := some 20) (v := ?vz154) (by rfl) (by rfl) (by kernel_rfl) (by kernel_rfl) (by kernel_rfl) (fun _ _ _ h => h) (by rfl) ?hyz154 (by assumption) ?restz154
                case hyz154 =>
                  intro w hSw
                  obtain ⟨s0, s1, s2, s3⟩ := hSw
                  go_simp
                  try with_reducible rfl
                (try simp only [Act.put, List.setIfInBounds_toArray, List.set_cons_zero, List.set_cons_succ])
                refine Vc.wpAnyH_read (i := 9) (d := some 21) (v := ?vz155) (by rfl) (by rfl) (by kernel_rfl) (by kernel_rfl) (by kernel_rfl) (fun _ _ _ h => h) (by rfl) ?hyz155 (by assumption) ?restz155
                case hyz155 =>
                  intro w hSw
                  obtain ⟨s0, s1, s2, s3⟩ := hSw
                  go_simp
                  try with_reducible rfl
                (try simp only [Act.put, List.setIfInBounds_toArray, List.set_cons_zero, List.set_cons_succ])
                refine Vc.wpAnyH_read (i := 10) (d := some 22) (v := ?vz156) (by rfl) (by rfl) (by kernel_rfl) (by kernel_rfl) (by kernel_rfl) (fun _ _ _ h => h) (by rfl) ?hyz156 (by assumption) ?restz156
                case hyz156 =>
                  intro w hSw
                  obtain ⟨s0, s1, s2, s3⟩ := hSw
                  go_simp
                  try with_reducible rfl
                (try simp only [Act.put, List.setIfInBounds_toArray, List.set_cons_zero, List.set_cons_succ])
                refine Vc.wpAnyH_read (i := 11) (d := some 23) (v := ?vz157) (by rfl) (by rfl) (by kernel_rfl) (by kernel_rfl) (by kernel_rfl) (fun _ _ _ h => h) (by rfl) ?hyz157 (by assumption) ?restz157
                case hyz157 =>
                  intro w hSw
                  obtain ⟨s0, s1, s2, s3⟩ := hSw
                  go_simp
                  try with_reducible rfl
                (try simp only [Act.put, List.setIfInBounds_toArray, List.set_cons_zero, List.set_cons_succ])
                refine Vc.wpAnyH_read (i := 12) (d := some 24) (v := ?vz158) (by rfl) (by rfl) (by kernel_rfl) (by kernel_rfl) (by kernel_rfl) (fun _ _ _ h => h) (by rfl) ?hyz158 (by assumption) ?restz158
                case hyz158 =>
                  intro w hSw
                  obtain ⟨s0, s1, s2, s3⟩ := hSw
                  go_simp
                  try with_reducible rfl
                (try simp only [Act.put, List.setIfInBounds_toArray, List.set_cons_zero, List.set_cons_succ])
                refine Vc.wpAnyH_read (i := 13) (d := some 25) (v := ?vz159) (by rfl) (by rfl) (by kernel_rfl) (by kernel_rfl) (by kernel_rfl) (fun _ _ _ h => h) (by rfl) ?hyz159 (by assumption) ?restz159
                case hyz159 =>
                  intro w hSw
                  obtain ⟨s0, s1, s2, s3⟩ := hSw
                  go_simp
                  try with_reducible rfl
                (try simp only [Act.put, List.setIfInBounds_toArray, List.set_cons_zero, List.set_cons_succ])
                refine Vc.wpAnyH_skip (i := 14) (d := some 26) (by rfl) (by rfl) (by kernel_rfl) (by kernel_rfl) (by kernel_rfl) (fun _ _ _ h => h) (by rfl) (by assumption) ?_
                (try simp only [Act.put, List.setIfInBounds_toArray, List.set_cons_zero, List.set_cons_succ])
                refine Vc.wpAnyH_skip (i := 15) (d := some 27) (by rfl) (by rfl) (by kernel_rfl) (by kernel_rfl) (by kernel_rfl) (fun _ _ _ h => h) (by rfl) (by assumption) ?_
                (try simp only [Act.put, List.setIfInBounds_toArray, List.set_cons_zero, List.set_cons_succ])
                refine Vc.wpAnyH_skip (i := 16) (d := some 28) (by rfl) (by rfl) (by kernel_rfl) (by kernel_rfl) (by kernel_rfl) (fun _ _ _ h => h) (by rfl) (by assumption) ?_
                (try simp only [Act.put, List.setIfInBounds_toArray, List.set_cons_zero, List.set_cons_succ])
                refine Vc.wpAnyH_read (i := 17) (d := some 29) (v := ?vz160) (by rfl) (by rfl) (by kernel_rfl) (by kernel_rfl) (by kernel_rfl) (fun _ _ _ h => h) (by rfl) ?hyz160 (by assumption) ?restz160
                case hyz160 =>
                  intro w hSw
                  obtain ⟨s0, s1, s2, s3⟩ := hSw
                  go_simp
                  try with_reducible rfl
                (try simp only [Act.put, List.setIfInBounds_toArray, List.set_cons_zero, List.set_cons_succ])
                refine Vc.wpAnyH_read (i := 18) (d := some 30) (v := ?vz161) (by rfl) (by rfl) (by kernel_rfl) (by kernel_rfl) (by kernel_rfl) (fun _ _ _ h => h) (by rfl) ?hyz161 (by assumption) ?restz161
                case hyz161 =>
                  intro w hSw
                  obtain ⟨s0, s1, s2, s3⟩ := hSw
                  go_simp
                  try with_reducible rfl
                (try simp only [Act.put, List.setIfInBounds_toArray, List.set_cons_zero, List.set_cons_succ])
                refine Vc.wpAnyH_read (i := 19) (d := some 31) (v := ?vz162) (by rfl) (by rfl) (by kernel_rfl) (by kernel_rfl) (by kernel_rfl) (fun _ _ _ h => h) (by rfl) ?hyz162 (by assumption) ?restz162
                case hyz162 =>
                  intro w hSw
                  obtain ⟨s0, s1, s2, s3⟩ := hSw
                  go_simp
                  try with_reducible rfl
                (try simp only [Act.put, List.setIfInBounds_toArray, List.set_cons_zero, List.set_cons_succ])
                refine Vc.wpAnyH_read (i := 20) (d := some 32) (v := ?vz163) (by rfl) (by rfl) (by kernel_rfl) (by kernel_rfl) (by kernel_rfl) (fun _ _ _ h => h) (by rfl) ?hyz163 (by assumption) ?restz163
                case hyz163 =>
                  intro w hSw
                  obtain ⟨s0, s1, s2, s3⟩ := hSw
                  go_simp
                  try with_reducible rfl
                (try simp only [Act.put, List.setIfInBounds_toArray, List.set_cons_zero, List.set_cons_succ])
                refine Vc.wpAnyH_read (i := 21) (d := some 33) (v := ?vz164) (by rfl) (by rfl) (by kernel_rfl) (by kernel_rfl) (by kernel_rfl) (fun _ _ _ h => h) (by rfl) ?hyz164 (by assumption) ?restz164
                case hyz164 =>
                  intro w hSw
                  obtain ⟨s0, s1, s2, s3⟩ := hSw
                  go_simp
                  try with_reducible rfl
                (try simp only [Act.put, List.setIfInBounds_toArray, List.set_cons_zero, List.set_cons_succ])
                refine Vc.wpAnyH_read (i := 22) (d := some 34) (v := ?vz165) (by rfl) (by rfl) (by kernel_rfl) (by kernel_rfl) (by kernel_rfl) (fun _ _ _ h => h) (by rfl) ?hyz165 (by assumption) ?restz165
                case hyz165 =>
                  intro w hSw
                  obtain ⟨s0, s1, s2, s3⟩ := hSw
                  go_simp
                  try with_reducible rfl
                (try simp only [Act.put, List.setIfInBounds_toArray, List.set_cons_zero, List.set_cons_succ])
                refine Vc.wpAnyH_read (i := 23) (d := some 35) (v := ?vz166) (by rfl) (by rfl) (by kernel_rfl) (by kernel_rfl) (by kernel_rfl) (fun _ _ _ h => h) (by rfl) ?hyz166 (by assumption) ?restz166
                case hyz166 =>
                  intro w hSw
                  obtain ⟨s0, s1, s2, s3⟩ := hSw
                  go_simp
                  try with_reducible rfl
                (try simp only [Act.put, List.setIfInBounds_toArray, List.set_cons_zero, List.set_cons_succ])
                refine Vc.wpAnyH_read (i := 24) (d := some 36) (v := ?vz167) (by rfl) (by rfl) (by kernel_rfl) (by kernel_rfl) (by kernel_rfl) (fun _ _ _ h => h) (by rfl) ?hyz167 (by assumption) ?restz167
                case hyz167 =>
                  intro w hSw
                  obtain ⟨s0, s1, s2, s3⟩ := hSw
                  go_simp
                  try with_reducible rfl
                (try simp only [Act.put, List.setIfInBounds_toArray, List.set_cons_zero, List.set_cons_succ])
                refine Vc.wpAnyH_read (i := 25) (d := some 37) (v := ?vz168) (by rfl) (by rfl) (by kernel_rfl) (by kernel_rfl) (by kernel_rfl) (fun _ _ _ h => h) (by rfl) ?hyz168 (by assumption) ?restz168
                case hyz168 =>
                  intro w hSw
                  obtain ⟨s0, s1, s2, s3⟩ := hSw
                  go_simp
                  try with_reducible rfl
                (try simp only [Act.put, List.setIfInBounds_toArray, List.set_cons_zero, List.set_cons_succ])
                refine Vc.wpAnyH_read (i := 26) (d := some 38) (v := ?vz169) (by rfl) (by rfl) (by kernel_rfl) (by kernel_rfl) (by kernel_rfl) (fun _ _ _ h => h) (by rfl) ?hyz169 (by assumption) ?restz169
                case hyz169 =>
                  intro w hSw
                  obtain ⟨s0, s1, s2, s3⟩ := hSw
                  go_simp
                  try with_reducible rfl
                (try simp only [Act.put, List.setIfInBounds_toArray, List.set_cons_zero, List.set_cons_succ])
                refine Vc.wpAnyH_read (i := 27) (d := some 39) (v := ?vz170) (by rfl) (by rfl) (by kernel_rfl) (by kernel_rfl) (by kernel_rfl) (fun _ _ _ h => h) (by rfl) ?hyz170 (by assumption) ?restz170
                case hyz170 =>
                  intro w hSw
                  obtain ⟨s0, s1, s2, s3⟩ := hSw
                  go_simp
                  try with_reducible rfl
                (try simp only [Act.put, List.setIfInBounds_toArray, List.set_cons_zero, List.set_cons_succ])
                refine Vc.wpAnyH_read (i := 28) (d := some 40) (v := ?vz171) (by rfl) (by rfl) (by kernel_rfl) (by kernel_rfl) (by kernel_rfl) (fun _ _ _ h => h) (by rfl) ?hyz171 (by assumption) ?restz171
                case hyz171 =>
                  intro w hSw
                  obtain ⟨s0, s1, s2, s3⟩ := hSw
                  go_simp
                  try with_reducible rfl
                (try simp only [Act.put, List.setIfInBounds_toArray, List.set_cons_zero, List.set_cons_succ])
                refine Vc.wpAnyH_read (i := 29) (d := some 41) (v := ?vz172) (by rfl) (by rfl) (by kernel_rfl) (by kernel_rfl) (by kernel_rfl) (fun _ _ _ h => h) (by rfl) ?hyz172 (by assumption) ?restz172
                case hyz172 =>
                  intro w hSw
                  obtain ⟨s0, s1, s2, s3⟩ := hSw
                  go_simp
                  try with_reducible rfl
                (try simp only [Act.put, List.setIfInBounds_toArray, List.set_cons_zero, List.set_cons_succ])
                refine Vc.wpAnyH_read (i := 30) (d := some 42) (v := ?vz173) (by rfl) (by rfl) (by kernel_rfl) (by kernel_rfl) (by kernel_rfl) (fun _ _ _ h => h) (by rfl) ?hyz173 (by assumption) ?restz173
                case hyz173 =>
                  intro w hSw
                  obtain ⟨s0, s1, s2, s3⟩ := hSw
                  go_simp
                  try with_reducible rfl
                (try simp only [Act.put, List.setIfInBounds_toArray, List.set_cons_zero, List.set_cons_succ])
                refine wpAnyH_ready (rs := [31]) (by kernel_rfl) (by simp) ?_
                refine AllReadyH.cons rfl (fun K hK => ?_) AllReadyH.nil
                go_simp
                go_at_call 45
                refine (HL.out _).mono ?_
                rintro e w2 ⟨rfl, hb⟩
                rw [HLT.out]
                have HB2 := Lib.hid (HB1.out.trans (hb.mono HB1.out.size))
                have HS2 := Lib.hid (HSB.out _ hb)
                clear hb
                refine hK.out _ _ HS2.out (fun hHeld => ?_)
                clear hK K
                (try simp only [Act.put, List.setIfInBounds_toArray, List.set_cons_zero, List.set_cons_succ])
                refine Vc.wpAnyH_read (i := 32) (d := some 44) (v := ?vz174) (by rfl) (by rfl) (by kernel_rfl) (by kernel_rfl) (by kernel_rfl) (fun _ _ _ h => h) (by rfl) ?hyz174 (by assumption) ?restz174
                case hyz174 =>
                  intro w hSw
                  obtain ⟨s0, s1, s2, s3⟩ := hSw
                  go_simp
                  try with_reducible rfl
                (try simp only [Act.put, List.setIfInBounds_toArray, List.set_cons_zero, List.set_cons_succ])
                refine Vc.wpAnyH_read (i := 33) (d := some 45) (v := ?vz175) (by rfl) (by rfl) (by kernel_rfl) (by kernel_rfl) (by kernel_rfl) (fun _ _ _ h => h) (by rfl) ?hyz175 (by assumption) ?restz175
                case hyz175 =>
                  intro w hSw
                  obtain ⟨s0, s1, s2, s3⟩ := hSw
                  go_simp
                  try with_reducible rfl
                (try simp only [Act.put, List.setIfInBounds_toArray, List.set_cons_zero, List.set_cons_succ])
                refine Vc.wpAnyH_read (i := 34) (d := some 46) (v := ?vz176) (by rfl) (by rfl) (by kernel_rfl) (by kernel_rfl) (by kernel_rfl) (fun _ _ _ h => h) (by rfl) ?hyz176 (by assumption) ?restz176
                case hyz176 =>
                  intro w hSw
                  obtain ⟨s0, s1, s2, s3⟩ := hSw
                  go_simp
                  try with_reducible rfl
                (try simp only [Act.put, List.setIfInBounds_toArray, List.set_cons_zero, List.set_cons_succ])
                refine wpAnyH_done (by kernel_rfl) ?_ _
                go_wp2
                go_roundw
                case rel => exact ⟨j + 1, HJ.out, by go_num, Lib.hid HB2.out, HNX⟩
                case measure => have := HJ.out; simp [intOf]; omega
              | false =>
                have HLT := Lib.hid hls
                have HNO := Lib.hid (show ¬ SortP ⟨#[]⟩ cs from fun h => by have k := (sort_iff.1 h) j c HC.out; rw [HLA.out] at k; have k2 := less_total _ _ k.1 (fun e => by have h := k.2.1; rw [e] at h; simp at h); rw [hls] at k2; cases k2)
                clear hls
                go_wp2_with (first | ((with_reducible refine Who.wpList_loadC 53 (.tmp 10) rfl b (off + j * 3) (chC c) ?_); refine And.intro ⟨by rfl, by rfl, ⟨_, Try.underlying53, rfl⟩, info_ch⟩ (And.intro HRG.out ?_); (try simp only [Act.put, List.setIfInBounds_toArray, List.set_cons_zero, List.set_cons_succ])) | ((with_reducible refine wpList_storeNew 53 (.tmp 4) (.tmp 11) (chC ch0) (chC c) rfl ?_); refine And.intro ⟨rfl, rfl, rfl, rfl, info_ch, rfl, chC_one _⟩ ?_; (try simp only [Act.put, List.setIfInBounds_toArray, List.set_cons_zero, List.set_cons_succ])) | ((with_reducible refine Who.wpList_alloc 53 4 rfl rfl rfl (chC ch0) halc ?_); (try simp only [Act.put, List.setIfInBounds_toArray, List.set_cons_zero, List.set_cons_succ])))
                refine wp_region_held_drew (S := fun w' => w'.cell? ⟨wr.heap.size, 0, none⟩ = some (.string c.key) ∧ w'.cell? ⟨wr.heap.size, 1, none⟩ = some (.string c.val) ∧ w'.cell? ⟨wr.heap.size, 2, none⟩ = some (.bool false) ∧ w'.cell? ⟨b, off + (j - 1) * 3, none⟩ = some (.string d.key)) (by kernel_rfl) HS.out (fun hHeld => ?_)
                refine Vc.wpAnyH_read (i := 0) (d := some 12) (v := ?vz177) (by rfl) (by rfl) (by kernel_rfl) (by kernel_rfl) (by kernel_rfl) (fun _ _ _ h => h) (by rfl) ?hyz177 (by assumption) ?restz177
                case hyz177 =>
                  intro w hSw
                  obtain ⟨s0, s1, s2, s3⟩ := hSw
                  go_simp
                  try with_reducible rfl
                (try simp only [Act.put, List.setIfInBounds_toArray, List.set_cons_zero, List.set_cons_succ])
                refine Vc.wpAnyH_read (i := 1) (d := some 13) (v := ?vz178) (by rfl) (by rfl) (by kernel_rfl) (by kernel_rfl) (by kernel_rfl) (fun _ _ _ h => h) (by rfl) ?hyz178 (by assumption) ?restz178
                case hyz178 =>
                  intro w hSw
                  obtain ⟨s0, s1, s2, s3⟩ := hSw
                  go_simp
                  try with_reducible rfl
                (try simp only [Act.put, List.setIfInBounds_toArray, List.set_cons_zero, List.set_cons_succ])
                refine wpAnyH_ready (rs := [2]) (by kernel_rfl) (by simp) ?_
                refine AllReadyH.cons rfl (fun K hK => ?_) AllReadyH.nil
                go_simp
                go_at_call 43
                refine (HK.out _).mono ?_
                rintro e w2 ⟨rfl, rfl⟩
                refine hK.out _ _ HS.out (fun hHeld => ?_)
                clear hK K
                (try simp only [Act.put, List.setIfInBounds_toArray, List.set_cons_zero, List.set_cons_succ])
                refine Vc.wpAnyH_read (i := 3) (d := some 15) (v := ?vz179) (by rfl) (by rfl) (by kernel_rfl) (by kernel_rfl) (by kernel_rfl) (fun _ _ _ h => h) (by rfl) ?hyz179 (by assumption) ?restz179
                case hyz179 =>
                  intro w hSw
                  obtain ⟨s0, s1, s2, s3⟩ := hSw
                  go_simp
                  try with_reducible rfl
                (try simp only [Act.put, List.setIfInBounds_toArray, List.set_cons_zero, List.set_cons_succ])
                refine Vc.wpAnyH_read (i := 4) (d := some 16) (v := ?vz180) (by rfl) (by rfl) (by kernel_rfl) (by kernel_rfl) (by kernel_rfl) (fun _ _ _ h => h) (by rfl) ?hyz180 (by assumption) ?restz180
                case hyz180 =>
                  intro w hSw
                  obtain ⟨s0, s1, s2, s3⟩ := hSw
                  go_simp
                  try with_reducible rfl
                (try simp only [Act.put, List.setIfInBounds_toArray, List.set_cons_zero, List.set_cons_succ])
                refine Vc.wpAnyH_read (i := 5) (d := some 17) (v := ?vz181) (by rfl) (by rfl) (by kernel_rfl) (by kernel_rfl) (by kernel_rfl) (fun _ _ _ h => h) (by rfl) ?hyz181 (by assumption) ?restz181
                case hyz181 =>
                  intro w hSw
                  obtain ⟨s0, s1, s2, s3⟩ := hSw
                  go_simp
                  try with_reducible rfl
                (try simp only [Act.put, List.setIfInBounds_toArray, List.set_cons_zero, List.set_cons_succ])
                refine Vc.wpAnyH_read (i := 6) (d := some 18) (v := ?vz182) (by rfl) (by rfl) (by kernel_rfl) (by kernel_rfl) (by kernel_rfl) (fun _ _ _ h => h) (by rfl) ?hyz182 (by assumption) ?restz182
                case hyz182 =>
                  intro w hSw
                  obtain ⟨s0, s1, s2, s3⟩ := hSw
                  go_simp
                  try with_reducible rfl
                (try simp only [Act.put, List.setIfInBounds_toArray, List.set_cons_zero, List.set_cons_succ])
                refine wpAnyH_ready (rs := [7]) (by kernel_rfl) (by simp) ?_
                refine AllReadyH.cons rfl (fun K hK => ?_) AllReadyH.nil
                go_simp
                go_at_call 44
                refine (HV.out _).mono ?_
                rintro e w2 ⟨rfl, rfl⟩
                refine hK.out _ _ HS.out (fun hHeld => ?_)
                clear hK K
                (try simp only [Act.put, List.setIfInBounds_toArray, List.set_cons_zero, List.set_cons_succ])
                refine Vc.wpAnyH_read (i := 8) (d := some 20) (v := ?vz183) (by rfl) (by rfl) (by kernel_rfl) (by kernel_rfl) (by kernel_rfl) (fun _ _ _ h => h) (by rfl) ?hyz183 (by assumption) ?restz183
                case hyz183 =>
                  intro w hSw
                  obtain ⟨s0, s1, s2, s3⟩ := hSw
                  go_simp
                  try with_reducible rfl
                (try simp only [Act.put, List.setIfInBounds_toArray, List.set_cons_zero, List.set_cons_succ])
                refine Vc.wpAnyH_read (i := 9) (d := some 21) (v := ?vz184) (by rfl) (by rfl) (by kernel_rfl) (by kernel_rfl) (by kernel_rfl) (fun _ _ _ h => h) (by rfl) ?hyz184 (by assumption) ?restz184
                case hyz184 =>
                  intro w hSw
                  obtain ⟨s0, s1, s2, s3⟩ := hSw
                  go_simp
                  try with_reducible rfl
                (try simp only [Act.put, List.setIfInBounds_toArray, List.set_cons_zero, List.set_cons_succ])
                refine Vc.wpAnyH_read (i := 10) (d := some 22) (v := ?vz185) (by rfl) (by rfl) (by kernel_rfl) (by kernel_rfl) (by kernel_rfl) (fun _ _ _ h => h) (by rfl) ?hyz185 (by assumption) ?restz185
                case hyz185 =>
                  intro w hSw
                  obtain ⟨s0, s1, s2, s3⟩ := hSw
                  go_simp
                  try with_reducible rfl
                (try simp only [Act.put, List.setIfInBounds_toArray, List.set_cons_zero, List.set_cons_succ])
                refine Vc.wpAnyH_read (i := 11) (d := some 23) (v := ?vz186) (by rfl) (by rfl) (by kernel_rfl) (by kernel_rfl) (by kernel_rfl) (fun _ _ _ h => h) (by rfl) ?hyz186 (by assumption) ?restz186
                case hyz186 =>
                  intro w hSw
                  obtain ⟨s0, s1, s2, s3⟩ := hSw
                  go_simp
                  try with_reducible rfl
                (try simp only [Act.put, List.setIfInBounds_toArray, List.set_cons_zero, List.set_cons_succ])
                refine Vc.wpAnyH_read (i := 12) (d := some 24) (v := ?vz187) (by rfl) (by rfl) (by kernel_rfl) (by kernel_rfl) (by kernel_rfl) (fun _ _ _ h => h) (by rfl) ?hyz187 (by assumption) ?restz187
                case hyz187 =>
                  intro w hSw
                  obtain ⟨s0, s1, s2, s3⟩ := hSw
                  go_simp
                  try with_reducible rfl
                (try simp only [Act.put, List.setIfInBounds_toArray, List.set_cons_zero, List.set_cons_succ])
                refine Vc.wpAnyH_read (i := 13) (d := some 25) (v := ?vz188) (by rfl) (by rfl) (by kernel_rfl) (by kernel_rfl) (by kernel_rfl) (fun _ _ _ h => h) (by rfl) ?hyz188 (by assumption) ?restz188
                case hyz188 =>
                  intro w hSw
                  obtain ⟨s0, s1, s2, s3⟩ := hSw
                  go_simp
                  try with_reducible rfl
                (try simp only [Act.put, List.setIfInBounds_toArray, List.set_cons_zero, List.set_cons_succ])
                refine Vc.wpAnyH_skip (i := 14) (d := some 26) (by rfl) (by rfl) (by kernel_rfl) (by kernel_rfl) (by kernel_rfl) (fun _ _ _ h => h) (by rfl) (by assumption) ?_
                (try simp only [Act.put, List.setIfInBounds_toArray, List.set_cons_zero, List.set_cons_succ])
                refine Vc.wpAnyH_skip (i := 15) (d := some 27) (by rfl) (by rfl) (by kernel_rfl) (by kernel_rfl) (by kernel_rfl) (fun _ _ _ h => h) (by rfl) (by assumption) ?_
                (try simp only [Act.put, List.setIfInBounds_toArray, List.set_cons_zero, List.set_cons_succ])
                refine Vc.wpAnyH_skip (i := 16) (d := some 28) (by rfl) (by rfl) (by kernel_rfl) (by kernel_rfl) (by kernel_rfl) (fun _ _ _ h => h) (by rfl) (by assumption) ?_
                (try simp only [Act.put, List.setIfInBounds_toArray, List.set_cons_zero, List.set_cons_succ])
                refine Vc.wpAnyH_read (i := 17) (d := some 29) (v := ?vz189) (by rfl) (by rfl) (by kernel_rfl) (by kernel_rfl) (by kernel_rfl) (fun _ _ _ h => h) (by rfl) ?hyz189 (by assumption) ?restz189
                case hyz189 =>
                  intro w hSw
                  obtain ⟨s0, s1, s2, s3⟩ := hSw
                  go_simp
                  try with_reducible rfl
                (try simp only [Act.put, List.setIfInBounds_toArray, List.set_cons_zero, List.set_cons_succ])
                refine Vc.wpAnyH_read (i := 18) (d := some 30) (v := ?vz190) (by rfl) (by rfl) (by kernel_rfl) (by kernel_rfl) (by kernel_rfl) (fun _ _ _ h => h) (by rfl) ?hyz190 (by assumption) ?restz190
                case hyz190 =>
                  intro w hSw
                  obtain ⟨s0, s1, s2, s3⟩ := hSw
                  go_simp
                  try with_reducible rfl
                (try simp only [Act.put, List.setIfInBounds_toArray, List.set_cons_zero, List.set_cons_succ])
                refine Vc.wpAnyH_read (i := 19) (d := some 31) (v := ?vz191) (by rfl) (by rfl) (by kernel_rfl) (by kernel_rfl) (by kernel_rfl) (fun _ _ _ h => h) (by rfl) ?hyz191 (by assumption) ?restz191
                case hyz191 =>
                  intro w hSw
                  obtain ⟨s0, s1, s2, s3⟩ := hSw
                  go_simp
                  try with_reducible rfl
                (try simp only [Act.put, List.setIfInBounds_toArray, List.set_cons_zero, List.set_cons_succ])
                refine Vc.wpAnyH_read (i := 20) (d := some 32) (v := ?vz192) (by rfl) (by rfl) (by kernel_rfl) (by kernel_rfl) (by kernel_rfl) (fun _ _ _ h => h) (by rfl) ?hyz192 (by assumption) ?restz192
                case hyz192 =>
                  intro w hSw
                  obtain ⟨s0, s1, s2, s3⟩ := hSw
                  go_simp
                  try with_reducible rfl
                (try simp only [Act.put, List.setIfInBounds_toArray, List.set_cons_zero, List.set_cons_succ])
                refine Vc.wpAnyH_read (i := 21) (d := some 33) (v := ?vz193) (by rfl) (by rfl) (by kernel_rfl) (by kernel_rfl) (by kernel_rfl) (fun _ _ _ h => h) (by rfl) ?hyz193 (by assumption) ?restz193
                case hyz193 =>
                  intro w hSw
                  obtain ⟨s0, s1, s2, s3⟩ := hSw
                  go_simp
                  try with_reducible rfl
                (try simp only [Act.put, List.setIfInBounds_toArray, List.set_cons_zero, List.set_cons_succ])
                refine Vc.wpAnyH_read (i := 22) (d := some 34) (v := ?vz194) (by rfl) (by rfl) (by kernel_rfl) (by kernel_rfl) (by kernel_rfl) (fun _ _ _ h => h) (by rfl) ?hyz194 (by assumption) ?restz194
                case hyz194 =>
                  intro w hSw
                  obtain ⟨s0, s1, s2, s3⟩ := hSw
                  go_simp
                  try with_reducible rfl
                (try simp only [Act.put, List.setIfInBounds_toArray, List.set_cons_zero, List.set_cons_succ])
                refine Vc.wpAnyH_read (i := 23) (d := some 35) (v := ?vz195) (by rfl) (by rfl) (by kernel_rfl) (by kernel_rfl) (by kernel_rfl) (fun _ _ _ h => h) (by rfl) ?hyz195 (by assumption) ?restz195
                case hyz195 =>
                  intro w hSw
                  obtain ⟨s0, s1, s2, s3⟩ := hSw
                  go_simp
                  try with_reducible rfl
                (try simp only [Act.put, List.setIfInBounds_toArray, List.set_cons_zero, List.set_cons_succ])
                refine Vc.wpAnyH_read (i := 24) (d := some 36) (v := ?vz196) (by rfl) (by rfl) (by kernel_rfl) (by kernel_rfl) (by kernel_rfl) (fun _ _ _ h => h) (by rfl) ?hyz196 (by assumption) ?restz196
                case hyz196 =>
                  intro w hSw
                  obtain ⟨s0, s1, s2, s3⟩ := hSw
                  go_simp
                  try with_reducible rfl
                (try simp only [Act.put, List.setIfInBounds_toArray, List.set_cons_zero, List.set_cons_succ])
                refine Vc.wpAnyH_read (i := 25) (d := some 37) (v := ?vz197) (by rfl) (by rfl) (by kernel_rfl) (by kernel_rfl) (by kernel_rfl) (fun _ _ _ h => h) (by rfl) ?hyz197 (by assumption) ?restz197
                case hyz197 =>
                  intro w hSw
                  obtain ⟨s0, s1, s2, s3⟩ := hSw
                  go_simp
                  try with_reducible rfl
                (try simp only [Act.put, List.setIfInBounds_toArray, List.set_cons_zero, List.set_cons_succ])
                refine Vc.wpAnyH_read (i := 26) (d := some 38) (v := ?vz198) (by rfl) (by rfl) (by kernel_rfl) (by kernel_rfl) (by kernel_rfl) (fun _ _ _ h => h) (by rfl) ?hyz198 (by assumption) ?restz198
                case hyz198 =>
                  intro w hSw
                  obtain ⟨s0, s1, s2, s3⟩ := hSw
                  go_simp
                  try with_reducible rfl
                (try simp only [Act.put, List.setIfInBounds_toArray, List.set_cons_zero, List.set_cons_succ])
                refine Vc.wpAnyH_read (i := 27) (d := some 39) (v := ?vz199) (by rfl) (by rfl) (by kernel_rfl) (by kernel_rfl) (by kernel_rfl) (fun _ _ _ h => h) (by rfl) ?hyz199 (by assumption) ?restz199
                case hyz199 =>
                  intro w hSw
                  obtain ⟨s0, s1, s2, s3⟩ := hSw
                  go_simp
                  try with_reducible rfl
                (try simp only [Act.put, List.setIfInBounds_toArray, List.set_cons_zero, List.set_cons_succ])
                refine Vc.wpAnyH_read (i := 28) (d := some 40) (v := ?vz200) (by rfl) (by rfl) (by kernel_rfl) (by kernel_rfl) (by kernel_rfl) (fun _ _ _ h => h) (by rfl) ?hyz200 (by assumption) ?restz200
                case hyz200 =>
                  intro w hSw
                  obtain ⟨s0, s1, s2, s3⟩ := hSw
                  go_simp
                  try with_reducible rfl
                (try simp only [Act.put, List.setIfInBounds_toArray, List.set_cons_zero, List.set_cons_succ])
                refine Vc.wpAnyH_read (i := 29) (d := some 41) (v := ?vz201) (by rfl) (by rfl) (by kernel_rfl) (by kernel_rfl) (by kernel_rfl) (fun _ _ _ h => h) (by rfl) ?hyz201 (by assumption) ?restz201
                case hyz201 =>
                  intro w hSw
                  obtain ⟨s0, s1, s2, s3⟩ := hSw
                  go_simp
                  try with_reducible rfl
                (try simp only [Act.put, List.setIfInBounds_toArray, List.set_cons_zero, List.set_cons_succ])
                refine Vc.wpAnyH_read (i := 30) (d := some 42) (v := ?vz202) (by rfl) (by rfl) (by kernel_rfl) (by kernel_rfl) (by kernel_rfl) (fun _ _ _ h => h) (by rfl) ?hyz202 (by assumption) ?restz202
                case hyz202 =>
                  intro w hSw
                  obtain ⟨s0, s1, s2, s3⟩ := hSw
                  go_simp
                  try with_reducible rfl
                (try simp only [Act.put, List.setIfInBounds_toArray, List.set_cons_zero, List.set_cons_succ])
                refine wpAnyH_ready (rs := [31]) (by kernel_rfl) (by simp) ?_
                refine AllReadyH.cons rfl (fun K hK => ?_) AllReadyH.nil
                go_simp
                go_at_call 45
                refine (HL.out _).mono ?_
                rintro e w2 ⟨rfl, hb⟩
                rw [HLT.out]
                have HB2 := Lib.hid (HB1.out.trans (hb.mono HB1.out.size))
                have HS2 := Lib.hid (HSB.out _ hb)
                clear hb
                refine hK.out _ _ HS2.out (fun hHeld => ?_)
                clear hK K
                (try simp only [Act.put, List.setIfInBounds_toArray, List.set_cons_zero, List.set_cons_succ])
                refine Vc.wpAnyH_read (i := 32) (d := some 44) (v := ?vz203) (by rfl) (by rfl) (by kernel_rfl) (by kernel_rfl) (by kernel_rfl) (fun _ _ _ h => h) (by rfl) ?hyz203 (by assumption) ?restz203
                case hyz203 =>
                  intro w hSw
                  obtain ⟨s0, s1, s2, s3⟩ := hSw
                  go_simp
                  try with_reducible rfl
                (try simp only [Act.put, List.setIfInBounds_toArray, List.set_cons_zero, List.set_cons_succ])
                refine Vc.wpAnyH_read (i := 33) (d := some 45) (v := ?vz204) (by rfl) (by rfl) (by kernel_rfl) (by kernel_rfl) (by kernel_rfl) (fun _ _ _ h => h) (by rfl) ?hyz204 (by assumption) ?restz204
                case hyz204 =>
                  intro w hSw
                  obtain ⟨s0, s1, s2, s3⟩ := hSw
                  go_simp
                  try with_reducible rfl
                (try simp only [Act.put, List.setIfInBounds_toArray, List.set_cons_zero, List.set_cons_succ])
                refine Vc.wpAnyH_read (i := 34) (d := some 46) (v := ?vz205) (by rfl) (by rfl) (by kernel_rfl) (by kernel_rfl) (by kernel_rfl) (fun _ _ _ h => h) (by rfl) ?hyz205 (by assumption) ?restz205
                case hyz205 =>
                  intro w hSw
                  obtain ⟨s0, s1, s2, s3⟩ := hSw
                  go_simp
                  try with_reducible rfl
                (try simp only [Act.put, List.setIfInBounds_toArray, List.set_cons_zero, List.set_cons_succ])
                refine wpAnyH_done (by kernel_rfl) ?_ _
                go_wp2
                go_ret
                exact ⟨told_f HNO.out, HB2.out⟩
end Go.Proofs.Ytepnckglnciinaa.Sm
