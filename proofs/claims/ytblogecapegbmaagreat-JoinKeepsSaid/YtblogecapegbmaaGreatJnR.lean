/- A drawn region that reads, calls, and stores at its end into what it read: what is read may be taken first, if the first store waits for it. -/
import Derived.Test.YtblogecapegbmaaGreatReg
import Derived.Lib.Hide
namespace Go.Proofs.YtblogecapegbmaaGreat.Jn
open Go.RowKit
set_option linter.unusedVariables false

section
variable {P : Program} {md : Region.Mode} {ops : Array Oper} {Q : Exit → Act → World → Prop} {S : World → Prop} {k : Nat}
/-- S holds until number k has come up. -/
def wpAnyG (P : Program) (md : Region.Mode) (ops : Array Oper) (Q : Exit → Act → World → Prop) (S : World → Prop) (k : Nat) : Nat → Array Bool → Act → World → Prop
 | 0, listed, a, w => Region.ready md ops listed = [] ∧ Q .normal a w
 | fuel + 1, listed, a, w =>
  (Region.ready md ops listed = [] → Q .normal a w) ∧
  ∀ i ∈ Region.ready md ops listed, wpOp P ops Q i (fun a' w' => ((listed.setIfInBounds i true).getD k true = false → S w') ∧ wpAnyG P md ops Q S k fuel (listed.setIfInBounds i true) a' w') a w
theorem wpAny_of_G : ∀ (fuel : Nat) (listed : Array Bool) (a : Act) (w : World), wpAnyG P md ops Q S k fuel listed a w → wpAny P md ops Q fuel listed a w
 | 0, _, _, _, h => h
 | fuel + 1, _, _, _, h => ⟨h.1, fun i hi => wpOp_mono (fun a' w' h' => wpAny_of_G fuel _ a' w' h'.2) (h.2 i hi)⟩
/-- What has come up came up behind what it waits for. -/
def Cl (md : Region.Mode) (ops : Array Oper) (l : Array Bool) : Prop := ∀ j o, ops[j]? = some o → l.getD j false = true → ∀ e ∈ o.after, Region.binds md e = true → l.getD e.on false = true
theorem Cl.start (n : Nat) : Cl md ops (Array.replicate n false) := fun j o _ h => by
 simp [Array.getD] at h
theorem Cl.next {l : Array Bool} (h : Cl md ops l) {j : Nat} (hj : j ∈ Region.ready md ops l) : Cl md ops (l.setIfInBounds j true) := fun i o hi hl e he hb => by
 by_cases hij : j = i
 ·subst hij
  obtain ⟨_, o2, ho2, hall⟩ := mem_ready.1 hj
  rw [hi] at ho2
  cases ho2
  exact getD_set_true (hall e he hb)
 ·rw [getD_set_ne false hij] at hl
  exact getD_set_true (h i o hi hl e he hb)
/-- Does number k wait for number i? -/
def waits (md : Region.Mode) (ops : Array Oper) : Nat → Nat → Nat → Bool
 | 0, _, _ => false
 | n + 1, k, i => match ops[k]? with
  | none => false
  | some o => o.after.any fun e => Region.binds md e && (e.on == i || waits md ops n e.on i)
theorem waits_spec {l : Array Bool} (h : Cl md ops l) (i : Nat) : ∀ (n k : Nat), waits md ops n k i = true → l.getD k false = true → l.getD i false = true
 | 0, _, hw, _ => by cases hw
 | n + 1, k, hw, hk => by
  unfold waits at hw
  split at hw
  ·cases hw
  ·next o ho =>
   obtain ⟨e, he, hb⟩ := Array.any_eq_true'.1 hw
   simp only [Bool.and_eq_true, Bool.or_eq_true, beq_iff_eq] at hb
   have h1 := h k o ho hk e he hb.1
   rcases hb.2 with rfl | h2
   ·exact h1
   ·exact waits_spec h i n e.on h2 h1
theorem wpAnyG_first {i n : Nat} {oi : Oper} {v : Value} (hi : ops[i]? = some oi) (hsel : ∀ (j : Nat) (o : Oper) cs b, ops[j]? = some o → o.op ≠ .select cs b)
  (hQ : ∀ c a w, Q (.panic c) (a.put oi.dst v) w → Q (.panic c) a w) (hki : k ≠ i) (hwt : waits md ops n k i = true) :
  ∀ (fuel : Nat) (listed : Array Bool) (a : Act) (w : World), k < listed.size → Cl md ops listed →
   (∀ j oj, ops[j]? = some oj → j ≠ i → listed.getD j true = false → (∀ e ∈ oj.after, Region.binds md e = true → e.on ≠ i) → oi.apart ops oj = true) →
   i ∈ Region.ready md ops listed → YieldsIf P ops S oi v a → (listed.getD k true = false → S w) →
   wpAnyG P md ops Q S k fuel (listed.setIfInBounds i true) (a.put oi.dst v) w → wpAnyG P md ops Q S k (fuel + 1) listed a w := by
 have unl : ∀ {listed : Array Bool}, k < listed.size → Cl md ops listed → i ∈ Region.ready md ops listed → listed.getD k true = false := fun {listed} hk hc hr => by
  have h0 := (mem_ready.1 hr).1
  have hi0 : listed.getD i false = false := by
   rcases Nat.lt_or_ge i listed.size with h' | h'
   ·simpa [h'] using h0
   ·simp [Array.getElem?_eq_none h'] at h0
  cases hl : listed.getD k false with
  | true => have := waits_spec hc i n k hwt hl; rw [hi0] at this; cases this
  | false => simpa [hk] using hl
 intro fuel
 induction fuel with
 | zero =>
  intro listed a w hk hc _ hr hy hS H
  have hSw := hS (unl hk hc hr)
  refine ⟨fun h => (by rw [h] at hr; cases hr), fun j hj => ?_⟩
  by_cases hji : j = i
  ·subst hji; exact hy.wpOp hi hSw ⟨fun _ => hSw, H⟩
  ·have := ready_mono hj hji
   rw [H.1] at this
   cases this
 | succ fuel ih =>
  intro listed a w hk hc hfree hr hy hS H
  have hSw := hS (unl hk hc hr)
  refine ⟨fun h => (by rw [h] at hr; cases hr), fun j hj => ?_⟩
  by_cases hji : j = i
  ·subst hji; exact hy.wpOp hi hSw ⟨fun _ => hSw, H⟩
  ·have h1 := H.2 j (ready_mono hj hji)
   obtain ⟨hjun, oj, hoj, hall⟩ := mem_ready.1 hj
   have hnot : ∀ e ∈ oj.after, Region.binds md e = true → e.on ≠ i := fun e he hb heq => by
    have h1 := hall e he hb
    have h0 := (mem_ready.1 hr).1
    rw [heq] at h1
    rcases Nat.lt_or_ge i listed.size with h' | h'
    ·simp [h'] at h0 h1; rw [h0] at h1; cases h1
    ·simp [Array.getElem?_eq_none h'] at h1
   have h2 := wpOp_putIf hoj (hfree j oj hoj hji hjun hnot) (fun cs b => hsel i oi cs b hi) (fun cs b => hsel j oj cs b hoj) hQ hy h1
   have hfree' : ∀ q ok, ops[q]? = some ok → q ≠ i → (listed.setIfInBounds j true).getD q true = false →
     (∀ e ∈ ok.after, Region.binds md e = true → e.on ≠ i) → oi.apart ops ok = true := fun q ok hq hqi hun hno => by
    refine hfree q ok hq hqi ?_ hno
    by_cases hjq : j = q
    ·subst hjq; exact hjun
    ·rw [getD_set_ne true hjq] at hun; exact hun
   refine wpOp_mono (fun a' w' h3 => ?_) h2
   have hS2 : (listed.setIfInBounds j true).getD k true = false → S w' := fun hq => h3.2.1 (by
    rw [Array.setIfInBounds_comm _ _ (Ne.symm hji), getD_set_ne true (Ne.symm hki)]
    exact hq)
   refine ⟨hS2, ih (listed.setIfInBounds j true) a' w' (by simpa using hk) (hc.next hj) hfree' (ready_mono hr (Ne.symm hji)) h3.1 hS2 ?_⟩
   rw [Array.setIfInBounds_comm _ _ hji]
   exact h3.2.2
theorem wpAnyG_read {i : Nat} {oi : Oper} {d : Option Tmp} {fuel : Nat} {listed : Array Bool} {a : Act} {w : World} {v : Value} (hi : ops[i]? = some oi) (hd : oi.dst = d)
  (hs : Region.noSelect ops = true) (hf : Region.free md ops listed i = true) (hr : (Region.ready md ops listed).contains i = true) (hwt : (decide (k < listed.size) && decide (k ≠ i) && waits md ops 8 k i) = true) (hc : Cl md ops listed)
  (hQ : ∀ c a w, Q (.panic c) (a.put d v) w → Q (.panic c) a w) (hw : Region.wanted oi (yielded ops a.tmps) = true) (hy : ∀ w, S w → (execOp a.eval oi).run P w = .ok (.value v) w) (hS : listed.getD k true = false → S w)
  (h : Cl md ops (listed.setIfInBounds i true) → ((listed.setIfInBounds i true).getD k true = false → S w) → wpAnyG P md ops Q S k fuel (listed.setIfInBounds i true) (a.put d v) w) : wpAnyG P md ops Q S k (fuel + 1) listed a w := by
 subst hd
 simp only [Bool.and_eq_true, decide_eq_true_eq] at hwt
 have hr2 : i ∈ Region.ready md ops listed := by simpa using hr
 exact wpAnyG_first hi (Region.noSelect_spec hs) hQ hwt.1.2 hwt.2 fuel listed a w hwt.1.1 hc (Region.free_spec hi hf) hr2 (Or.inl ⟨hw, hy⟩) hS (h (hc.next hr2) (fun q => hS (by rw [getD_set_ne true (Ne.symm hwt.1.2)] at q; exact q)))
theorem set_guard {listed : Array Bool} {i : Nat} (h : (listed.setIfInBounds i true).getD k true = false) : listed.getD k true = false := by
 by_cases e : i = k
 ·subst e
  by_cases hl : i < listed.size
  ·simp [hl] at h
  ·simp [hl] at h
 ·rwa [getD_set_ne true e] at h
/-- One that reads no memory, alone ready. -/
theorem wpAnyG_pure {i : Nat} {oi : Oper} {d : Option Tmp} {fuel : Nat} {listed : Array Bool} {a : Act} {w : World} {v : Value} (hi : ops[i]? = some oi) (hd : oi.dst = d) (rs : Region.ready md ops listed = [i]) (hw : Region.wanted oi (yielded ops a.tmps) = true) (hy : (execOp a.eval oi).run P w = .ok (.value v) w) (hc : Cl md ops listed) (hS : listed.getD k true = false → S w)
  (h : Cl md ops (listed.setIfInBounds i true) → ((listed.setIfInBounds i true).getD k true = false → S w) → wpAnyG P md ops Q S k fuel (listed.setIfInBounds i true) (a.put d v) w) : wpAnyG P md ops Q S k (fuel + 1) listed a w := by
 subst hd
 have hr2 : i ∈ Region.ready md ops listed := by rw [rs]; simp
 refine ⟨fun e => (by rw [rs] at e; cases e), fun j hj => ?_⟩
 rw [rs] at hj
 have e := List.mem_singleton.1 hj
 subst e
 unfold wpOp
 simp only [hi]
 rw [if_pos hw]
 left
 unfold Oper.wp
 rw [hy]
 exact ⟨fun q => hS (set_guard q), h (hc.next hr2) (fun q => hS (set_guard q))⟩
def AllReadyG (P : Program) (md : Region.Mode) (ops : Array Oper) (Q : Exit → Act → World → Prop) (S : World → Prop) (k : Nat) (fuel : Nat) (listed : Array Bool) (a : Act) (w : World) (rs : List Nat) : Prop :=
 ∀ i ∈ rs, wpOp P ops Q i (fun a' w' => ((listed.setIfInBounds i true).getD k true = false → S w') ∧ wpAnyG P md ops Q S k fuel (listed.setIfInBounds i true) a' w') a w
theorem AllReadyG.nil {fuel : Nat} {listed : Array Bool} {a : Act} {w : World} : AllReadyG P md ops Q S k fuel listed a w [] := fun _ h => by cases h
theorem AllReadyG.cons {fuel : Nat} {listed : Array Bool} {a : Act} {w : World} {i : Nat} {o : Oper} {rs : List Nat} (ho : ops[i]? = some o) (hc : Cl md ops listed) (hr : (Region.ready md ops listed).contains i = true)
  (h : ∀ K' : Act → World → Prop, Hid (∀ a w, ((listed.setIfInBounds i true).getD k true = false → S w) → (((listed.setIfInBounds i true).getD k true = false → S w) → Cl md ops (listed.setIfInBounds i true) → wpAnyG P md ops Q S k fuel (listed.setIfInBounds i true) a w) → K' a w) → if Region.wanted o (yielded ops a.tmps) = true then Oper.wp P o a w K' Q else K' (a.put o.dst undef) w)
  (hs : AllReadyG P md ops Q S k fuel listed a w rs) : AllReadyG P md ops Q S k fuel listed a w (i :: rs) := fun j hj => by
 rcases List.mem_cons.1 hj with rfl | hj
 ·have hr2 : j ∈ Region.ready md ops listed := by simpa using hr
  have := h (fun a' w' => ((listed.setIfInBounds j true).getD k true = false → S w') ∧ wpAnyG P md ops Q S k fuel (listed.setIfInBounds j true) a' w') (Lib.hid (fun a w hS hk => And.intro hS (hk hS (hc.next hr2))))
  unfold wpOp
  simp only [ho]
  split
  ·next q => rw [if_pos q] at this; exact .inl this
  ·next q => rw [if_neg q] at this; exact this
 ·exact hs j hj
theorem wpAnyG_ready {rs : List Nat} {fuel : Nat} {listed : Array Bool} {a : Act} {w : World} (hr : Region.ready md ops listed = rs) (hne : rs ≠ [])
  (h : AllReadyG P md ops Q S k fuel listed a w rs) : wpAnyG P md ops Q S k (fuel + 1) listed a w := ⟨fun h0 => absurd (hr ▸ h0) hne, by rw [hr]; exact h⟩
theorem wpAnyG_done {listed : Array Bool} {a : Act} {w : World} (hr : Region.ready md ops listed = []) (h : Q .normal a w) : ∀ fuel, wpAnyG P md ops Q S k fuel listed a w
 | 0 => ⟨hr, h⟩
 | _ + 1 => ⟨fun _ => h, by rw [hr]; simp⟩
theorem wp_region_G {id : Nat} {a : Act} {w : World} (k : Nat) (hm : P.follows .mixedOrders = true) (hS : S w.drew)
  (h : ((Array.replicate ops.size false).getD k true = false → S w.drew) → Cl .any ops (Array.replicate ops.size false) → wpAnyG P .any ops Q S k ops.size (Array.replicate ops.size false) a w.drew) : (Code.region id ops true).wp P Q a w :=
 wp_region_any hm (wpAny_of_G _ _ _ _ (h (fun _ => hS) (Cl.start _)))
theorem late {b : Bool} (hb : b = true) {p : Prop} (h : b = false) : p := by rw [hb] at h; cases h
end
end Go.Proofs.YtblogecapegbmaaGreat.Jn
