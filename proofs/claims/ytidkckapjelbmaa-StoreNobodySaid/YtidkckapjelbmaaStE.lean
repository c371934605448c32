/- Read and look, whatever a look comes to: contracts. -/
import Derived.Test.YtidkckapjelbmaaStD
import Derived.Lib.ConvBytes
namespace Go.Proofs.Ytidkckapjelbmaa.Oct
open Go.RowKit
/-- What a look comes to: an answer and what is left, or what was left when it was ended, and why. -/
abbrev Par (α : Type) := Except (ByteArray × Int) (α × ByteArray)
def PEnd {α : Type} (X : Par α) (q s : Nat) (Y : Nat → Prop) (G : α → World → Prop) (w : World) (e : Ending) (w' : World) : Prop :=
  match X with
  | .ok (a, r) => e = .returned (.tuple #[]) ∧ Looks w' q s r ∧ G a w' ∧ Chg (fun k => k = s ∨ Y k) w w'
  | .error (r, y) => e = .panicked (own s) ∧ Sight w' s r true y ∧ Chg (fun k => k = s ∨ Y k) w w'
def endP {α : Type} : Par α → Int
  | .ok (_, r) => why r false 0
  | .error (_, y) => y
/-- What Read of a look leaves. -/
def PDone {α : Type} (X : Par α) (G : α → World → Prop) (w : World) (w' : World) : Prop :=
  match X with
  | .ok (a, _) => ∃ w1, G a w1 ∧ Chg (fun k => k = w.heap.size + 1 ∨ k = w.heap.size) w1 w'
  | .error _ => True
theorem read_par {α : Type} (X : Par α) (A : Option Addr) (n cap : Nat) (l : List UInt8) (f : FuncId) (cp : Array Value) (w : World) (h : RowB w A n l)
    (henter : ∀ (args : Array Value) (W : World), (callFunc f args).run Try.prog W = .ok (.enter f args) W) (Y : Nat → Prop) (hY : ∀ k, Y k → k < w.heap.size) (G : α → World → Prop)
    (hlook : Calls Try.prog f (#[.pointer (some ⟨w.heap.size + 3, 0, none⟩)] ++ cp) (lookW w l) (PEnd X (w.heap.size + 3) (w.heap.size + 1) Y G (lookW w l))) :
    Calls Try.prog 79 #[.slice A n cap, .func (.func f) #[] cp] w fun e w' => e = .returned (.int .i64 (endP X)) ∧ PDone X G w w' ∧ Chg Y w w' := by
  have y0 : ¬ Y w.heap.size := fun h => Nat.lt_irrefl _ (hY _ h)
  have y2 : ¬ Y (w.heap.size + 2) := fun h => by have := hY _ h; omega
  have hz := lookW_size w l
  have fin : ∀ w1 w', Chg (fun k => k = w.heap.size + 1 ∨ Y k) (lookW w l) w1 → Chg (fun k => k = w.heap.size + 1 ∨ k = w.heap.size) w1 w' → Chg Y w w' := fun w1 w' h1 h2 =>
    ((Chg.of_below (lookW_below w l) Y).step h1 (fun i hi hT => by
      rcases hT with e | e
      · omega
      · exact e)).step h2 (fun i hi hT => by omega)
  cases X with
  | ok a =>
    obtain ⟨a, r0⟩ := a
    refine (read_look A n cap l f cp w h henter Y y0 y2 (fun r b y w1 => r = r0 ∧ b = false ∧ y = 0 ∧ G a w1) ?_).mono ?_
    · refine hlook.mono ?_
      intro e w1 hd
      exact ⟨hd.1, r0, false, 0, hd.2.1.sight, hd.2.2.2, rfl, rfl, rfl, hd.2.2.1⟩
    · rintro e w' ⟨r, b, y, w1, ⟨rfl, rfl, rfl, hG⟩, rfl, h1, h2⟩
      exact ⟨rfl, ⟨w1, hG, h2⟩, fin w1 w' h1 h2⟩
  | error a =>
    obtain ⟨r0, y0'⟩ := a
    refine (read_throws A n cap l f cp w h henter Y y0 y2 (fun r y w1 => y = y0') ?_).mono ?_
    · refine hlook.mono ?_
      intro e w1 hd
      exact ⟨hd.1, r0, y0', hd.2.1, hd.2.2, rfl⟩
    · rintro e w' ⟨r, y, w1, rfl, rfl, h1, h2⟩
      exact ⟨rfl, trivial, fin w1 w' h1 h2⟩
end Go.Proofs.Ytidkckapjelbmaa.Oct
namespace Go.Proofs.Ytidkckapjelbmaa.Sto
open Go.RowKit Go.Proofs.Ytidkckapjelbmaa.Oct
open Rws

theorem bw_below (w : World) (s : ByteArray) : Below w.heap.size w (Lib.bytesWorld w 5 s) := by
  refine ⟨rfl, rfl, rfl, ?_, fun i hi => Lib.bytesWorld_at_old w 5 s i hi⟩
  simp [Lib.bytesWorld, World.freeze]
theorem bw_row (w : World) (s : ByteArray) : RowB (Lib.bytesWorld w 5 s) (some ⟨w.heap.size, 0, none⟩) s.size s.data.toList := by
  refine ⟨by simp, fun h => ⟨w.heap.size, 0, rfl, ?_, fun i hi => ?_⟩⟩
  · simp [Lib.bytesWorld, World.freeze]
  · have hi2 : i < s.size := by simpa using hi
    rw [Nat.zero_add, Lib.bytesWorld_cell w 5 s i hi2]
    simp [List.getD, List.getElem?_eq_getElem hi]
theorem conv_SB (w : World) (s : ByteArray) : (convert 9 98 (.string s)).run Try.prog w = .ok (.slice (some ⟨w.heap.size, 0, none⟩) s.size (grownCap w s.size 0 5)) (Lib.bytesWorld w 5 s) :=
  Lib.run_convert_string_bytes w 9 98 5 s Try.underlying9 Try.underlying98 Try.underlying5
/-- Whether sealed bytes are looked at to their end. -/
def lookB {α : Type} (bytes : ByteArray) (X : Par α) : Bool := decide (8 ≤ bytes.size) && CrcW.openB bytes && (endP X == 0)
/-- What a look leaves that came to its end. -/
def LDone {α : Type} (X : Par α) (G : Nat → α → World → Prop) (B : Nat) (w' : World) : Prop :=
  match X with
  | .ok (a, _) => ∃ w1 b, B ≤ b ∧ G b a w1 ∧ Chg (fun k => B ≤ k ∧ k < b) w1 w'
  | .error _ => False
set_option maxRecDepth 100000 in
set_option maxHeartbeats 1000000 in
theorem look_par {α : Type} (X : Par α) (hX : ∀ r y, X = .error (r, y) → y ≠ 0) (bytes : ByteArray) (hs : bytes.size ≤ 4104) (f : FuncId) (cp : Array Value) (w : World)
    (henter : ∀ (args : Array Value) (W : World), (callFunc f args).run Try.prog W = .ok (.enter f args) W) (Y : Nat → Prop) (hY : ∀ k, Y k → k < w.heap.size) (G : Nat → α → World → Prop)
    (hlook : ∀ W, Below w.heap.size w W → Calls Try.prog f (#[.pointer (some ⟨W.heap.size + 3, 0, none⟩)] ++ cp) (lookW W (CrcW.headB bytes).data.toList) (PEnd X (W.heap.size + 3) (W.heap.size + 1) Y (G (W.heap.size + 4)) (lookW W (CrcW.headB bytes).data.toList))) :
    Calls Try.prog 66 #[.string bytes, .func (.func f) #[] cp] w fun e w' => e = .returned (.bool (lookB bytes X)) ∧ (lookB bytes X = true → LDone X G w.heap.size w') ∧ Chg Y w w' := by
  have HL := Lib.hid hlook
  have HY := Lib.hid hY
  have HE := Lib.hid henter
  have HX := Lib.hid hX
  clear hlook hY henter hX
  by_cases h8 : 8 ≤ bytes.size
  · cases ho : CrcW.openB bytes with
    | false =>
      have hl : lookB bytes X = false := by unfold lookB; rw [ho]; simp
      have HO := Lib.hid (CrcW.open_long bytes h8 hs w)
      rw [ho] at HO
      rw [hl]
      clear ho hl h8 hs
      go_enter Try.func66, Try.ntmps66
      go_wp2_with fail
      refine HO.out.mono ?_
      rintro e w1 ⟨rfl, hb⟩
      have HB := Lib.hid hb
      clear hb
      go_wp2
      go_ret
      exact ⟨rfl, (fun h => by cases h), Chg.of_below HB.out Y⟩
    | true =>
      have hl : lookB bytes X = (endP X == 0) := by unfold lookB; rw [ho, decide_eq_true h8]; rfl
      have HO := Lib.hid (CrcW.open_long bytes h8 hs w)
      rw [ho] at HO
      rw [hl]
      have HLL := Lib.hid hl
      clear ho hl h8 hs
      go_enter Try.func66, Try.ntmps66
      go_wp2_with fail
      refine HO.out.mono ?_
      rintro e w1 ⟨rfl, hb⟩
      have HB := Lib.hid hb
      have kc := conv_SB w1 (CrcW.headB bytes)
      have HB2 := Lib.hid (hb.trans ((bw_below w1 (CrcW.headB bytes)).mono hb.size))
      obtain ⟨W, hW⟩ : ∃ W, W = Lib.bytesWorld w1 5 (CrcW.headB bytes) := ⟨_, rfl⟩
      have hrow := bw_row w1 (CrcW.headB bytes)
      rw [← hW] at kc HB2 hrow
      have HR := Lib.hid (read_par X (some ⟨w1.heap.size, 0, none⟩) (CrcW.headB bytes).size (grownCap w1 (CrcW.headB bytes).size 0 5) _ f cp W hrow HE.out Y (fun k hk => Nat.lt_of_lt_of_le (HY.out k hk) HB2.out.size) (G (W.heap.size + 4)) (HL.out W HB2.out))
      have HSZ := HB2.out.size
      clear hb hW hrow
      go_wp2_with fail
      refine HR.out.mono ?_
      rintro e w2 ⟨rfl, hd, hc⟩
      have HP := Lib.hid (show (endP X == 0) = true → LDone X G w.heap.size w2 from fun he => by
        cases X with
        | ok a =>
          obtain ⟨a, r0⟩ := a
          obtain ⟨w3, g1, g2⟩ := hd
          exact ⟨w3, W.heap.size + 4, by omega, g1, g2.mono fun k hk => by omega⟩
        | error a =>
          obtain ⟨r0, y0⟩ := a
          exact HX.out r0 y0 rfl (eq_of_beq he))
      have HC := Lib.hid ((Chg.of_below HB2.out Y).step hc (fun _ _ h => h))
      clear hd hc kc HR
      go_wp2
      go_ret
      exact ⟨rfl, HP.out, HC.out⟩
  · have hl : lookB bytes X = false := by unfold lookB; rw [decide_eq_false h8]; rfl
    have HO := Lib.hid (CrcW.open_short bytes (by omega) w)
    rw [hl]
    clear hl h8 hs
    go_enter Try.func66, Try.ntmps66
    go_wp2_with fail
    refine HO.out.mono ?_
    rintro e w1 ⟨rfl, rfl⟩
    go_wp2
    go_ret
    exact ⟨rfl, (fun h => by cases h), Chg.refl _ _⟩
end Go.Proofs.Ytidkckapjelbmaa.Sto
