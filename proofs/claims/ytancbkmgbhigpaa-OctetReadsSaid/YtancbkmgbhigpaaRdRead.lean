/- Read, with what becomes of its looking; the statement's look handed to it. -/
import Derived.Test.YtancbkmgbhigpaaRdLoop
namespace Go.Proofs.Ytancbkmgbhigpaa.Oct
open Go.RowKit

theorem catch_idle2 (a e0 s : Nat) (r : ByteArray) (b : Bool) (y z : Int) (w : World) (ha : Has w a 56 #[.pointer (some ⟨s, 0, none⟩)]) (hs : Sight w s r b y) (he : Has w e0 26 #[.int .i64 z]) (hse : s ≠ e0) :
    CallsD Try.prog 27 #[.pointer (some ⟨a, 0, none⟩), .pointer (some ⟨e0, 0, none⟩)] .returning w fun e u' w' =>
      e = .returned (.tuple #[]) ∧ u' = .returning ∧ Has w' e0 26 #[.int .i64 (why r b y)] ∧ Sight w' s ⟨#[]⟩ true (why r b y) ∧ Chg (fun k => k = s ∨ k = e0) w w' := by
  have ca := Has.at_ ha 0
  simp at ca
  refine callsD_of_wpS Try.func27 rfl fun c₀ cs hu => ?_
  refine wpS_region_two (by kernel_rfl) (by kernel_rfl) (by kernel_rfl) (by kernel_rfl) (by kernel_rfl) (by kernel_rfl) (by kernel_rfl) ?_ ?_
  all_goals
    simp [wpOpsS, go_sem, recoverD, hu, Try.ntmps27, ca]
    refine (close_any s r b y _ (Has.drew hs)).mono ?_
    rintro e w1 ⟨rfl, h1, g1⟩
    have he1 : Has w1 e0 26 #[.int .i64 z] := (Has.drew he).over g1 (fun k => hse k.symm)
    have c1 := Has.at_ he1 0
    have f1 := Has.free he1 0
    simp at c1
    simp [go_sem, c1, f1, bodyPostS, results, Try.results27]
    refine ⟨.returning, by rw [← hu], rfl, Has.put he1 0 _, Has.keep h1 (p := ⟨e0, 0, none⟩) hse _, ?_⟩
    exact ((((Chg.refl (fun k => k = s ∨ k = e0) w).drew).trans (g1.mono (fun k hk => Or.inl hk))).setCell (p := ⟨e0, 0, none⟩) (.inl (Or.inr rfl)) _)
/-- Read, of a look that comes to its end: what it leaves (G), and the answer. -/
theorem read_look2 (A : Option Addr) (n cap : Nat) (l : List UInt8) (f : FuncId) (cp : Array Value) (w : World) (h : RowB w A n l)
    (henter : ∀ (args : Array Value) (W : World), (callFunc f args).run Try.prog W = .ok (.enter f args) W) (X : Nat → Prop) (hX0 : ¬ X w.heap.size) (hX2 : ¬ X (w.heap.size + 2))
    (G : ByteArray → Bool → Int → World → Prop)
    (hlook : Calls Try.prog f (#[.pointer (some ⟨w.heap.size + 3, 0, none⟩)] ++ cp) (lookW w l) fun e w1 => e = .returned (.tuple #[]) ∧ ∃ r b y, Sight w1 (w.heap.size + 1) r b y ∧ Chg (fun k => k = w.heap.size + 1 ∨ X k) (lookW w l) w1 ∧ G r b y w1) :
    Calls Try.prog 6 #[.slice A n cap, .func (.func f) #[] cp] w fun e w' =>
      ∃ r b y w1, G r b y w1 ∧ e = .returned (.int .i64 (why r b y)) ∧ Chg (fun k => k = w.heap.size + 1 ∨ X k) (lookW w l) w1 ∧ Chg (fun k => k = w.heap.size + 1 ∨ k = w.heap.size) w1 w' ∧ Sight w' (w.heap.size + 1) ⟨#[]⟩ true (why r b y) := by
  have hmf : ∀ (fn : Fn) (first cap : Array Value) (w : World), (Instr.makeFunc fn first cap).run Try.prog w = .ok (.func fn first cap) w := fun _ _ _ _ => rfl
  have kc : (convert 22 9 (.slice A n cap)).run Try.prog (w.alloc (.cells #[.int .i64 0] 26)) = .ok (.string ⟨l.toArray⟩) (w.alloc (.cells #[.int .i64 0] 26)) :=
    conv_RowB _ A n cap l (h.below ((Below.refl _ w).alloc (Nat.le_refl _) _))
  have hne := func_ne f cp
  have HL := Lib.hid hlook
  clear hlook h
  unfold lookW at HL
  go_enter_defers Try.func6, Try.ntmps6
  iterate 120 (try go_step)
  refine HL.out.mono ?_
  rintro e w1 ⟨rfl, r, b, y, hs, hc, hG⟩
  have ha := (lookW_at w l).over hc (fun k => k.elim (fun k => by omega) hX2)
  have he := (lookW_err w l).over hc (fun k => k.elim (fun k => by omega) hX0)
  clear HL kc hne henter
  go_wp2
  refine leaves_cons (f := 27) (args := #[.pointer (some ⟨w.heap.size + 2, 0, none⟩), .pointer (some ⟨w.heap.size, 0, none⟩)]) (by simp) (by simp [go_sem]) ?_
  refine (catch_idle2 _ _ _ r b y 0 w1 ha hs he (by omega)).mono ?_
  rintro e u' w2 ⟨rfl, rfl, h2, hs2, g2⟩
  have c2 := Has.at_ h2 0
  simp at c2
  simp [Leaves, settle, results, Try.results6, go_sem, c2]
  cases b with
  | false => exact ⟨r, .inl ⟨y, w1, hG, rfl, hc, g2, hs2⟩⟩
  | true => exact ⟨r, .inr ⟨y, w1, hG, rfl, hc, g2, hs2⟩⟩
theorem catch_own2 (a e0 s : Nat) (r : ByteArray) (y z : Int) (w : World) (ha : Has w a 56 #[.pointer (some ⟨s, 0, none⟩)]) (hs : Sight w s r true y) (he : Has w e0 26 #[.int .i64 z]) (hse : s ≠ e0) :
    CallsD Try.prog 27 #[.pointer (some ⟨a, 0, none⟩), .pointer (some ⟨e0, 0, none⟩)] (.panicking (own s)) w fun e u' w' =>
      e = .returned (.tuple #[]) ∧ u' = .panicking (caught s) ∧ Has w' e0 26 #[.int .i64 y] ∧ Sight w' s ⟨#[]⟩ true y ∧ Chg (fun k => k = s ∨ k = e0) w w' := by
  have ca := Has.at_ ha 0
  simp at ca
  refine callsD_of_wpS Try.func27 rfl fun c₀ cs hu => ?_
  unfold own at hu
  refine wpS_region_two (by kernel_rfl) (by kernel_rfl) (by kernel_rfl) (by kernel_rfl) (by kernel_rfl) (by kernel_rfl) (by kernel_rfl) ?_ ?_
  all_goals
    simp [wpOpsS, go_sem, recoverD, hu, Try.ntmps27, ca]
    refine (close_own s r y _ (Has.drew hs)).mono ?_
    rintro e w1 ⟨rfl, h1, g1⟩
    have he1 : Has w1 e0 26 #[.int .i64 z] := (Has.drew he).over g1 (fun k => hse k.symm)
    have c1 := Has.at_ he1 0
    have f1 := Has.free he1 0
    simp at c1
    simp [go_sem, c1, f1, bodyPostS, results, Try.results27]
    exact ⟨rfl, Has.put he1 0 _, Has.keep h1 (p := ⟨e0, 0, none⟩) hse _, ((((Chg.refl (fun k => k = s ∨ k = e0) w).drew).trans (g1.mono (fun k hk => Or.inl hk))).setCell (p := ⟨e0, 0, none⟩) (.inl (Or.inr rfl)) _)⟩
/-- Read, of a look that throws its own: what it leaves (G), and the answer. -/
theorem read_throws2 (A : Option Addr) (n cap : Nat) (l : List UInt8) (f : FuncId) (cp : Array Value) (w : World) (h : RowB w A n l)
    (henter : ∀ (args : Array Value) (W : World), (callFunc f args).run Try.prog W = .ok (.enter f args) W) (X : Nat → Prop) (hX0 : ¬ X w.heap.size) (hX2 : ¬ X (w.heap.size + 2))
    (G : ByteArray → Int → World → Prop)
    (hlook : Calls Try.prog f (#[.pointer (some ⟨w.heap.size + 3, 0, none⟩)] ++ cp) (lookW w l) fun e w1 => e = .panicked (own (w.heap.size + 1)) ∧ ∃ r y, Sight w1 (w.heap.size + 1) r true y ∧ Chg (fun k => k = w.heap.size + 1 ∨ X k) (lookW w l) w1 ∧ G r y w1) :
    Calls Try.prog 6 #[.slice A n cap, .func (.func f) #[] cp] w fun e w' =>
      ∃ r y w1, G r y w1 ∧ e = .returned (.int .i64 y) ∧ Chg (fun k => k = w.heap.size + 1 ∨ X k) (lookW w l) w1 ∧ Chg (fun k => k = w.heap.size + 1 ∨ k = w.heap.size) w1 w' ∧ Sight w' (w.heap.size + 1) ⟨#[]⟩ true y := by
  have hmf : ∀ (fn : Fn) (first cap : Array Value) (w : World), (Instr.makeFunc fn first cap).run Try.prog w = .ok (.func fn first cap) w := fun _ _ _ _ => rfl
  have kc : (convert 22 9 (.slice A n cap)).run Try.prog (w.alloc (.cells #[.int .i64 0] 26)) = .ok (.string ⟨l.toArray⟩) (w.alloc (.cells #[.int .i64 0] 26)) :=
    conv_RowB _ A n cap l (h.below ((Below.refl _ w).alloc (Nat.le_refl _) _))
  have hne := func_ne f cp
  have HL := Lib.hid hlook
  clear hlook h
  unfold lookW at HL
  go_enter_defers Try.func6, Try.ntmps6
  iterate 120 (try go_step)
  refine HL.out.mono ?_
  rintro e w1 ⟨rfl, r, y, hs, hc, hG⟩
  have ha := (lookW_at w l).over hc (fun k => k.elim (fun k => by omega) hX2)
  have he := (lookW_err w l).over hc (fun k => k.elim (fun k => by omega) hX0)
  clear HL kc hne henter
  go_wp2
  refine leaves_cons (f := 27) (args := #[.pointer (some ⟨w.heap.size + 2, 0, none⟩), .pointer (some ⟨w.heap.size, 0, none⟩)]) (by simp) (by simp [go_sem]) ?_
  refine (catch_own2 _ _ _ r y 0 w1 ha hs he (by omega)).mono ?_
  rintro e u' w2 ⟨rfl, rfl, h2, hs2, g2⟩
  have c2 := Has.at_ h2 0
  simp at c2
  simp [Leaves, settle, results, Try.results6, go_sem, c2, caught]
  exact ⟨r, y, w1, hG, rfl, hc, g2, hs2⟩
end Go.Proofs.Ytancbkmgbhigpaa.Oct
namespace Go.Proofs.Ytancbkmgbhigpaa.Vc
open Go.RowKit Go.Proofs.Ytancbkmgbhigpaa.Oct

theorem own_low {w : World} {b c n : Nat} {e : TypeId} {u : Value} {l : List Value} (h : w.ownsRow b e 1 u n l) (hc : c ≤ b) : w.ownsRow c e 1 u n l := by
  refine ⟨h.1, ?_⟩
  rcases h.2 with k | ⟨g, cap, cur, e, hb, hh, k⟩
  · exact .inl k
  · exact .inr ⟨g, cap, cur, e, Nat.le_trans hc hb, hh, k⟩
/-- How the looking ends. -/
def endOf (st : St) : Int :=
  match st.why with
  | none => why st.rest false 0
  | some y => y
def RdX (kp np sp bp : Nat) (k : Nat) : Prop := k = kp ∨ k = np ∨ k = sp ∨ k = bp
/-- What a looking leaves. -/
structure RdDone (w : World) (kp np sp bp : Nat) (st : St) (w' : World) : Prop where
  kept : Oct.Has w' kp 33 #[.pointer (some ⟨w.heap.size + 3, 0, none⟩)]
  eye : Oct.Has w' (w.heap.size + 3) 61 #[.pointer (some ⟨w.heap.size + 1, 0, none⟩)]
  sight : ∃ r y, Sight w' (w.heap.size + 1) r true y
  nums : ∃ u, Oct.Has w' np 29 #[u] ∧ OwnI w' w.heap.size u st.nums
  txts : ∃ v, Oct.Has w' sp 30 #[v] ∧ OwnS w' w.heap.size v st.txts
  back : Oct.Has w' bp 4 #[.bool st.why.isNone]
  chg : Chg (RdX kp np sp bp) w w'
theorem rd_done {w w1 w' : World} {l : List UInt8} {kp np sp bp : Nat} {st : St} {b : Bool} (hb : b = st.why.isNone) (hk : kp < w.heap.size ∧ np < w.heap.size ∧ sp < w.heap.size ∧ bp < w.heap.size)
    (h : RdIs (lookW w l) kp np sp bp (w.heap.size + 3) (w.heap.size + 1) st b w1) (hc : Chg (fun k => k = w.heap.size + 1 ∨ k = w.heap.size) w1 w') (hs : ∃ r y, Sight w' (w.heap.size + 1) r true y) : RdDone w kp np sp bp st w' := by
  subst hb
  have he : Oct.Has w1 (w.heap.size + 3) 61 #[.pointer (some ⟨w.heap.size + 1, 0, none⟩)] := (lookW_eye w l).over h.chg (by
    unfold RdS
    omega)
  obtain ⟨⟨u, n1, n2⟩, ⟨v, t1, t2⟩⟩ := And.intro h.nums h.txts
  rw [lookW_size] at n2 t2
  have hz := lookW_size w l
  refine ⟨h.kept.over hc (by omega), he.over hc (by omega), hs, ⟨u, n1.over hc (by omega), own_low (own_chg n2 hc (fun k hk => by omega)) (by omega)⟩, ⟨v, t1.over hc (by omega), own_low (own_chg t2 hc (fun k hk => by omega)) (by omega)⟩, h.back.over hc (by omega), ?_⟩
  refine ((Chg.of_below (lookW_below w l) (RdX kp np sp bp)).step h.chg (fun i hi hT => ?_)).step hc (fun i hi hT => ?_)
  · rcases hT with e | e
    · omega
    · exact e
  · omega
/-- Read of the statement's look. -/
theorem reads_read (A2 : Option Addr) (n2 c2 : Nat) (l : List UInt8) (kp lp np sp bp : Nat) (A : Option Addr) (n c : Nat) (xs : List (Int × Int)) (hn : n ≤ 100) (w : World) (h : RowB w A2 n2 l)
    (h1 : Oct.Has w kp 33 #[.pointer none]) (h2 : Oct.Has w lp 23 #[.slice A n c]) (h3 : Oct.Has w np 29 #[.slice none 0 0]) (h4 : Oct.Has w sp 30 #[.slice none 0 0]) (h5 : Oct.Has w bp 4 #[.bool false]) (hx : LookRow w A n xs)
    (ha : 0 < n → ∀ b off, A = some ⟨b, off, none⟩ → b < lp) (d : lp < np ∧ np < sp ∧ sp < bp ∧ bp < kp) :
    Calls Try.prog 6 #[.slice A2 n2 c2, .func (.func 8) #[] #[.pointer (some ⟨kp, 0, none⟩), .pointer (some ⟨lp, 0, none⟩), .pointer (some ⟨np, 0, none⟩), .pointer (some ⟨sp, 0, none⟩), .pointer (some ⟨bp, 0, none⟩)]] w
      fun e w' => e = .returned (.int .i64 (endOf (asked ⟨l.toArray⟩ xs))) ∧ RdDone w kp np sp bp (asked ⟨l.toArray⟩ xs) w' := by
  have b1 := Oct.Has.bound h1
  have hbl := lookW_below w l
  have hz := lookW_size w l
  have hall : RdAll (lookW w l) kp lp np sp bp (w.heap.size + 3) (w.heap.size + 1) A n c xs :=
    ⟨Oct.Has.below h1 hbl, Oct.Has.below h2 hbl, Oct.Has.below h3 hbl, Oct.Has.below h4 hbl, Oct.Has.below h5 hbl, hx.below hbl, fun h0 b off e => by have := ha h0 b off e; unfold RdS; omega, by omega, by omega, by omega, by omega, by omega⟩
  have HL := look_any kp lp np sp bp (w.heap.size + 3) (w.heap.size + 1) A n c xs hn ⟨l.toArray⟩ (lookW w l) hall ⟨lookW_eye w l, lookW_sight w l⟩
  have henter : ∀ (args : Array Value) (W : World), (callFunc 8 args).run Try.prog W = .ok (.enter 8 args) W := fun args W => by kernel_rfl
  generalize asked ⟨l.toArray⟩ xs = st at *
  cases hw : st.why with
  | none =>
    refine (read_look2 A2 n2 c2 l 8 #[.pointer (some ⟨kp, 0, none⟩), .pointer (some ⟨lp, 0, none⟩), .pointer (some ⟨np, 0, none⟩), .pointer (some ⟨sp, 0, none⟩), .pointer (some ⟨bp, 0, none⟩)] w h henter (RdX kp np sp bp) (by unfold RdX; omega) (by unfold RdX; omega)
      (fun r b y w1 => r = st.rest ∧ b = false ∧ y = 0 ∧ RdIs (lookW w l) kp np sp bp (w.heap.size + 3) (w.heap.size + 1) st true w1) ?_).mono ?_
    · refine HL.mono ?_
      intro e w1 hd
      unfold RdEnd at hd
      rw [hw] at hd
      exact ⟨hd.1, st.rest, false, 0, hd.2.2.sight, hd.2.1.chg, rfl, rfl, rfl, hd.2.1⟩
    · rintro e w' ⟨r, b, y, w1, ⟨rfl, rfl, rfl, hi⟩, rfl, g1, g2, g3⟩
      exact ⟨by unfold endOf; rw [hw], rd_done (by rw [hw]; rfl) (by omega) hi g2 ⟨_, _, g3⟩⟩
  | some y0 =>
    refine (read_throws2 A2 n2 c2 l 8 #[.pointer (some ⟨kp, 0, none⟩), .pointer (some ⟨lp, 0, none⟩), .pointer (some ⟨np, 0, none⟩), .pointer (some ⟨sp, 0, none⟩), .pointer (some ⟨bp, 0, none⟩)] w h henter (RdX kp np sp bp) (by unfold RdX; omega) (by unfold RdX; omega)
      (fun r y w1 => y = y0 ∧ RdIs (lookW w l) kp np sp bp (w.heap.size + 3) (w.heap.size + 1) st false w1) ?_).mono ?_
    · refine HL.mono ?_
      intro e w1 hd
      unfold RdEnd at hd
      rw [hw] at hd
      exact ⟨hd.1, st.rest, y0, hd.2.2, hd.2.1.chg, rfl, hd.2.1⟩
    · rintro e w' ⟨r, y, w1, ⟨rfl, hi⟩, rfl, g1, g2, g3⟩
      exact ⟨by unfold endOf; rw [hw], rd_done (by rw [hw]; rfl) (by omega) hi g2 ⟨_, _, g3⟩⟩
end Go.Proofs.Ytancbkmgbhigpaa.Vc
