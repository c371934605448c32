/- What StoreWhole carries along. -/
import Derived.Test.YtkbpjegegjgbkaaSwH
namespace Go.Proofs.Ytkbpjegegjgbkaa.Sto
open Go.RowKit
open Oct (Has Chg)
open Rws
open Dv (DoV)
open Mem (IMap)
set_option linter.unusedVariables false

theorem fuse_of (x : Int) : ∃ q : Nat, q < 100 ∧ wrap64 ((IntKind.u64.wrap x).tmod 100) = (q : Int) := by
  have h0 : 0 ≤ IntKind.u64.wrap x := by unfold IntKind.wrap; simp [IntKind.signed, IntKind.bits]; omega
  have h1 : 0 ≤ (IntKind.u64.wrap x).tmod 100 := Int.tmod_nonneg _ h0
  have h2 : (IntKind.u64.wrap x).tmod 100 < 100 := Int.tmod_lt_of_pos _ (by decide)
  generalize (IntKind.u64.wrap x).tmod 100 = r at *
  refine ⟨r.toNat, by omega, ?_⟩
  unfold wrap64
  omega
theorem fuse_on {d : Dv.St} (h : d.on = true) (n : Int) : Dv.fuE d = 0 ∧ Dv.fuD d n = { d with fuse := max n (-1) } := by
  unfold Dv.fuE Dv.fuD
  rw [if_pos h, if_pos h]
  exact ⟨rfl, rfl⟩
theorem inv_fuse {N a : Nat} {s : SV} (h : Inv N a s) (q : Int) : Inv N a { s with dev := { s.dev with fuse := q } } := ⟨h.acc, h.low, h.size, h.two, h.small, h.gen, h.held, h.kept⟩
theorem img_fuse {N : Nat} {s : SV} {T : Int → Option TV} (h : Img N s T) (q : Int) : Img N { s with dev := { s.dev with fuse := q } } T := ⟨h.on, h.safe.same rfl rfl rfl, h.kept, h.tells⟩
theorem dev_not {w : World} {d dk dd : Nat} {D : Dv.St} (h : Dv.DevIs w d dk dd D) {g : Nat} {t : TypeId} {cs : Array Value} (hg : Has w g t cs) (ht : t ≠ 71) : ¬ Dv.Own d dk dd g := by
  have hdo : Has w d _ _ := h.obj
  rintro (e | e | e)
  · exact has_ne hg hdo ht e
  · exact map_ne h.kept hg e.symm
  · exact map_ne h.dirt hg e.symm
theorem dos_not {w : World} {p : Nat} {F : Fr} {s : SV} (h : StoIs w p F s) {g : Nat} {t : TypeId} {cs : Array Value} (hg : Has w g t cs) (h1 : t ≠ 87) (h2 : t ≠ 71) (h3 : t ≠ 79) : ¬ DoS p F s g := by
  rintro ((e | e | e) | e)
  · exact has_ne hg h.obj h3 e
  · exact map_ne h.kept hg e.symm
  · exact dev_not h.dev hg h2 e
  · exact add_not h hg h1 e
/-- A row stays where no block of its kind has changed. -/
theorem own_keep {w w' : World} {B n k : Nat} {t : TypeId} {v : Value} {xs : List Value} {S : Nat → Prop} (h : w.ownsRow B t k v n xs) (hc : Chg S w w') (hs : ∀ g cs, Has w g t cs → ¬ S g) : w'.ownsRow B t k v n xs := by
  refine ⟨h.1, ?_⟩
  rcases h.2 with e | ⟨q, cap, cur, e1, hb, hh, k⟩
  · exact .inl e
  · refine .inr ⟨q, cap, cur, e1, hb, ?_, k⟩
    rw [hc.block q (Array.getElem?_eq_some_iff.1 hh).1 (hs q cur hh)]
    exact hh
theorem OutRow.keep {w w' : World} {B : Nat} {v : Value} {es : List BE} {S : Nat → Prop} (h : OutRow w B v es) (hc : Chg S w w') (h1 : ∀ g cs, Has w g 45 cs → ¬ S g) (h2 : ∀ g cs, Has w g 3 cs → ¬ S g) : OutRow w' B v es :=
  ⟨own_keep h.row hc h1, fun e he => own_keep (h.each e he) hc h2⟩
theorem OutRow.dos {w w' : World} {B p : Nat} {F : Fr} {s : SV} {v : Value} {es : List BE} (h : OutRow w B v es) (hs : StoIs w p F s) (hc : Chg (DoS p F s) w w') : OutRow w' B v es :=
  h.keep hc (fun g cs hg => dos_not hs hg (by decide) (by decide) (by decide)) (fun g cs hg => dos_not hs hg (by decide) (by decide) (by decide))
theorem OutRow.dev {w w' : World} {B d dk dd : Nat} {D : Dv.St} {v : Value} {es : List BE} (h : OutRow w B v es) (hs : Dv.DevIs w d dk dd D) (hc : Chg (Dv.Own d dk dd) w w') : OutRow w' B v es :=
  h.keep hc (fun g cs hg => dev_not hs hg (by decide)) (fun g cs hg => dev_not hs hg (by decide))
theorem OutRow.cell {w w' : World} {B g : Nat} {t : TypeId} {cs : Array Value} {v : Value} {es : List BE} (h : OutRow w B v es) (hg : Has w g t cs) (h1 : t ≠ 45) (h2 : t ≠ 3) (hc : Chg (· = g) w w') : OutRow w' B v es :=
  h.keep hc (fun q cs hq e => has_ne hq hg h1.symm e) (fun q cs hq e => has_ne hq hg h2.symm e)
/-- A store stays where only a block of another kind has changed. -/
theorem StoIs.other {w w' : World} {p : Nat} {F : Fr} {s : SV} (h : StoIs w p F s) {g : Nat} {t : TypeId} {cs : Array Value} (hg : Has w g t cs) (h1 : t ≠ 87) (h2 : t ≠ 71) (h3 : t ≠ 79) (h4 : t ≠ 3) (hc : Chg (· = g) w w') : StoIs w' p F s := by
  have hdo : Has w F.d _ _ := h.dev.obj
  refine ⟨h.obj.over hc (has_ne h.obj hg h3.symm), h.dev.over hc.to (has_ne hdo hg h2.symm) (map_ne h.dev.kept hg) (map_ne h.dev.dirt hg), h.there.over hc.to (map_ne h.there hg), h.kept.over hc.to (map_ne h.kept hg), fun z n hz => ?_, h.inj, h.tk, h.tdk, h.tdd, h.kdk, h.kdd⟩
  obtain ⟨A, c, k1, k2⟩ := h.node z n hz
  exact ⟨A, c, k1.over hc (has_ne k1 hg h1.symm), own_apart k2 hg hc h4.symm⟩
/-- What StoreWhole carries along: the store, and what was committed last. -/
structure WhI (w0 w : World) (K j p g0 c0 dp : Nat) (F : Fr) (s : SV) (T : Int → Option TV) (nr : Int) (nn : ByteArray) (A9 : Option Addr) (n9 c9 : Nat) (nes : List BE) : Prop where
  sto : StoIs w p F s
  inv : Inv K j s
  img : Img K s T
  fresh : Fresh w0.heap.size p F s
  bel : Below w0.heap.size w0 w
  cell : Has w g0 31 #[.pointer (some ⟨p, 0, none⟩)]
  now : Has w c0 38 #[.int .i64 nr, .string nn, .slice A9 n9 c9]
  row : OutRow w w0.heap.size (.slice A9 n9 c9) nes
  is : s.root = nr ∧ s.note = nn ∧ nes.map BE.val = hangs (getT T) nr
  dp : F.d = dp
  low : w0.heap.size ≤ g0 ∧ w0.heap.size ≤ c0
theorem WhI.below {w0 w w' : World} {K j p g0 c0 dp : Nat} {F : Fr} {s : SV} {T : Int → Option TV} {nr : Int} {nn : ByteArray} {A9 : Option Addr} {n9 c9 : Nat} {nes : List BE} (h : WhI w0 w K j p g0 c0 dp F s T nr nn A9 n9 c9 nes) (hb : Below w.heap.size w w') :
    WhI w0 w' K j p g0 c0 dp F s T nr nn A9 n9 c9 nes :=
  ⟨h.sto.below hb, h.inv, h.img, h.fresh, h.bel.trans (hb.mono h.bel.size), has_blw h.cell hb, has_blw h.now hb, h.row.below hb, h.is, h.dp, h.low⟩
/-- A thing befalls the store. -/
structure StepI (w0 w : World) (K j p g0 c0 dp : Nat) (F : Fr) (s : SV) (nr : Int) (nn : ByteArray) (A9 : Option Addr) (n9 c9 : Nat) (nes : List BE) : Prop where
  sto : StoIs w p F s
  inv : Inv K j s
  fresh : Fresh w0.heap.size p F s
  bel : Below w0.heap.size w0 w
  cell : Has w g0 31 #[.pointer (some ⟨p, 0, none⟩)]
  now : Has w c0 38 #[.int .i64 nr, .string nn, .slice A9 n9 c9]
  row : OutRow w w0.heap.size (.slice A9 n9 c9) nes
  dp : F.d = dp
  low : w0.heap.size ≤ g0 ∧ w0.heap.size ≤ c0
theorem WhI.does {w0 w w' : World} {K j p g0 c0 dp : Nat} {F F' : Fr} {s s' : SV} {T : Int → Option TV} {nr : Int} {nn : ByteArray} {A9 : Option Addr} {n9 c9 : Nat} {nes : List BE} {k : DoV} {E : Int} (h : WhI w0 w K j p g0 c0 dp F s T nr nn A9 n9 c9 nes)
    (hd : DoesV K s k E s') (hs : StoIs w' p F' s') (e1 : F'.t = F.t) (e2 : F'.k = F.k) (e3 : F'.d = F.d) (e4 : F'.dk = F.dk) (e5 : F'.dd = F.dd) (hg : ∀ z, (s'.nodes z).isSome = true → ((s.nodes z).isSome = true ∧ F'.g z = F.g z) ∨ w.heap.size ≤ F'.g z) (hc : Chg (DoS p F s) w w') :
    StepI w0 w' K (j + 1) p g0 c0 dp F' s' nr nn A9 n9 c9 nes :=
  ⟨hs, inv_does h.inv hd, h.fresh.step h.bel.size e1 e2 e3 e4 e5 hg, below_chg h.bel h.bel.size hc h.fresh.dos, h.cell.over hc (dos_not h.sto h.cell (by decide) (by decide) (by decide)), h.now.over hc (dos_not h.sto h.now (by decide) (by decide) (by decide)), h.row.dos h.sto hc, e3.trans h.dp, h.low⟩
theorem StepI.below {w0 w w' : World} {K j p g0 c0 dp : Nat} {F : Fr} {s : SV} {nr : Int} {nn : ByteArray} {A9 : Option Addr} {n9 c9 : Nat} {nes : List BE} (h : StepI w0 w K j p g0 c0 dp F s nr nn A9 n9 c9 nes) (hb : Below w.heap.size w w') :
    StepI w0 w' K j p g0 c0 dp F s nr nn A9 n9 c9 nes :=
  ⟨h.sto.below hb, h.inv, h.fresh, h.bel.trans (hb.mono h.bel.size), has_blw h.cell hb, has_blw h.now hb, h.row.below hb, h.dp, h.low⟩
theorem hangs_open {N : Nat} {T : Int → Option TV} {g root : Int} {note : ByteArray} {D : Dv.St} {V : SV} (h : OpenI N T g root note D V) : hangs (getV V) root = hangs (getT T) root := by
  rw [show getV V = getT T from funext h.get]
theorem WhI.more {w0 w : World} {K j p g0 c0 dp : Nat} {F : Fr} {s : SV} {T : Int → Option TV} {nr : Int} {nn : ByteArray} {A9 : Option Addr} {n9 c9 : Nat} {nes : List BE} (h : WhI w0 w K j p g0 c0 dp F s T nr nn A9 n9 c9 nes) : WhI w0 w K (j + 1) p g0 c0 dp F s T nr nn A9 n9 c9 nes :=
  ⟨h.sto, h.inv.more, h.img, h.fresh, h.bel, h.cell, h.now, h.row, h.is, h.dp, h.low⟩
theorem WhI.step {w0 w : World} {K j p g0 c0 dp : Nat} {F : Fr} {s : SV} {T : Int → Option TV} {nr : Int} {nn : ByteArray} {A9 : Option Addr} {n9 c9 : Nat} {nes : List BE} (h : WhI w0 w K j p g0 c0 dp F s T nr nn A9 n9 c9 nes) : StepI w0 w K j p g0 c0 dp F s nr nn A9 n9 c9 nes :=
  ⟨h.sto, h.inv, h.fresh, h.bel, h.cell, h.now, h.row, h.dp, h.low⟩
/-- What was committed last stays so. -/
theorem StepI.same {w0 w : World} {K j p g0 c0 dp : Nat} {F : Fr} {s s0 : SV} {T : Int → Option TV} {nr : Int} {nn : ByteArray} {A9 : Option Addr} {n9 c9 : Nat} {nes : List BE} (h : StepI w0 w K j p g0 c0 dp F s nr nn A9 n9 c9 nes) (hi : Img K s T) (h1 : s.root = s0.root) (h2 : s.note = s0.note)
    (his : s0.root = nr ∧ s0.note = nn ∧ nes.map BE.val = hangs (getT T) nr) : WhI w0 w K j p g0 c0 dp F s T nr nn A9 n9 c9 nes :=
  ⟨h.sto, h.inv, hi, h.fresh, h.bel, h.cell, h.now, h.row, ⟨h1.trans his.1, h2.trans his.2.1, his.2.2⟩, h.dp, h.low⟩
/-- What is looked at behind the crash. -/
structure TailI (w0 w : World) (g0 c0 : Nat) (o : Option Addr) (nr : Int) (nn : ByteArray) (A9 : Option Addr) (n9 c9 : Nat) (nes : List BE) : Prop where
  bel : Below w0.heap.size w0 w
  cell : Has w g0 31 #[.pointer o]
  now : Has w c0 38 #[.int .i64 nr, .string nn, .slice A9 n9 c9]
  row : OutRow w w0.heap.size (.slice A9 n9 c9) nes
  low : w0.heap.size ≤ g0 ∧ w0.heap.size ≤ c0
theorem StepI.tail {w0 w : World} {K j p g0 c0 dp : Nat} {F : Fr} {s : SV} {nr : Int} {nn : ByteArray} {A9 : Option Addr} {n9 c9 : Nat} {nes : List BE} (h : StepI w0 w K j p g0 c0 dp F s nr nn A9 n9 c9 nes) : TailI w0 w g0 c0 (some ⟨p, 0, none⟩) nr nn A9 n9 c9 nes :=
  ⟨h.bel, h.cell, h.now, h.row, h.low⟩
theorem TailI.below {w0 w w' : World} {g0 c0 : Nat} {o : Option Addr} {nr : Int} {nn : ByteArray} {A9 : Option Addr} {n9 c9 : Nat} {nes : List BE} (h : TailI w0 w g0 c0 o nr nn A9 n9 c9 nes) (hb : Below w.heap.size w w') : TailI w0 w' g0 c0 o nr nn A9 n9 c9 nes :=
  ⟨h.bel.trans (hb.mono h.bel.size), has_blw h.cell hb, has_blw h.now hb, h.row.below hb, h.low⟩
theorem TailI.dev {w0 w w' : World} {g0 c0 d dk dd : Nat} {D : Dv.St} {o : Option Addr} {nr : Int} {nn : ByteArray} {A9 : Option Addr} {n9 c9 : Nat} {nes : List BE} (h : TailI w0 w g0 c0 o nr nn A9 n9 c9 nes) (hd : Dv.DevIs w d dk dd D) (hc : Chg (Dv.Own d dk dd) w w') (hl : ∀ k, Dv.Own d dk dd k → w0.heap.size ≤ k) : TailI w0 w' g0 c0 o nr nn A9 n9 c9 nes :=
  ⟨below_chg h.bel h.bel.size hc hl, h.cell.over hc (dev_not hd h.cell (by decide)), h.now.over hc (dev_not hd h.now (by decide)), h.row.dev hd hc, h.low⟩
theorem TailI.set {w0 w : World} {g0 c0 : Nat} {o : Option Addr} {nr : Int} {nn : ByteArray} {A9 : Option Addr} {n9 c9 : Nat} {nes : List BE} (h : TailI w0 w g0 c0 o nr nn A9 n9 c9 nes) (o2 : Option Addr) : TailI w0 (w.setCell ⟨g0, 0, none⟩ (.pointer o2)) g0 c0 o2 nr nn A9 n9 c9 nes := by
  have hc : Chg (· = g0) w (w.setCell ⟨g0, 0, none⟩ (.pointer o2)) := (Chg.refl (· = g0) w).setCell (p := ⟨g0, 0, none⟩) (.inl rfl) _
  exact ⟨below_chg h.bel h.bel.size hc (fun k hk => by rw [hk]; exact h.low.1), Oct.Has.put h.cell 0 _, h.now.over hc (has_ne h.now h.cell (by decide)), h.row.cell h.cell (by decide) (by decide) hc, h.low⟩
theorem OutRow.low {w : World} {B C : Nat} {v : Value} {es : List BE} (h : OutRow w B v es) (hc : C ≤ B) : OutRow w C v es := by
  refine ⟨⟨h.row.1, ?_⟩, fun e he => own_low (h.each e he) hc⟩
  rcases h.row.2 with k | ⟨g, cap, cur, e, hb, k⟩
  · exact .inl k
  · exact .inr ⟨g, cap, cur, e, Nat.le_trans hc hb, k⟩
/-- What was being committed. -/
structure NextI (w : World) (B nb : Nat) (ni : Int) (ns : ByteArray) (A8 : Option Addr) (n8 c8 : Nat) (es : List BE) : Prop where
  at_ : Has w nb 38 #[.int .i64 ni, .string ns, .slice A8 n8 c8]
  row : OutRow w B (.slice A8 n8 c8) es
theorem NextI.below {w w' : World} {B nb : Nat} {ni : Int} {ns : ByteArray} {A8 : Option Addr} {n8 c8 : Nat} {es : List BE} (h : NextI w B nb ni ns A8 n8 c8 es) (hb : Below w.heap.size w w') : NextI w' B nb ni ns A8 n8 c8 es := ⟨has_blw h.at_ hb, h.row.below hb⟩
theorem NextI.dev {w w' : World} {B nb d dk dd : Nat} {D : Dv.St} {ni : Int} {ns : ByteArray} {A8 : Option Addr} {n8 c8 : Nat} {es : List BE} (h : NextI w B nb ni ns A8 n8 c8 es) (hd : Dv.DevIs w d dk dd D) (hc : Chg (Dv.Own d dk dd) w w') : NextI w' B nb ni ns A8 n8 c8 es := ⟨h.at_.over hc (dev_not hd h.at_ (by decide)), h.row.dev hd hc⟩
theorem NextI.dos {w w' : World} {B nb p : Nat} {F : Fr} {s : SV} {ni : Int} {ns : ByteArray} {A8 : Option Addr} {n8 c8 : Nat} {es : List BE} (h : NextI w B nb ni ns A8 n8 c8 es) (hs : StoIs w p F s) (hc : Chg (DoS p F s) w w') : NextI w' B nb ni ns A8 n8 c8 es := ⟨h.at_.over hc (dos_not hs h.at_ (by decide) (by decide) (by decide)), h.row.dos hs hc⟩
theorem NextI.cell {w w' : World} {B nb g : Nat} {cs : Array Value} {ni : Int} {ns : ByteArray} {A8 : Option Addr} {n8 c8 : Nat} {es : List BE} (h : NextI w B nb ni ns A8 n8 c8 es) (hg : Has w g 31 cs) (hc : Chg (· = g) w w') : NextI w' B nb ni ns A8 n8 c8 es := ⟨h.at_.over hc (has_ne h.at_ hg (by decide)), h.row.cell hg (by decide) (by decide) hc⟩
/-- It is what is committed last. -/
theorem StepI.next {w0 w : World} {K j p g0 c0 dp nb : Nat} {F : Fr} {s s0 : SV} {k : DoV} {nr : Int} {nn : ByteArray} {A9 A8 : Option Addr} {n9 c9 n8 c8 : Nat} {nes es : List BE} (h : StepI w0 w K j p g0 c0 dp F s nr nn A9 n9 c9 nes) (hn : NextI w w0.heap.size nb k.i k.s A8 n8 c8 es)
    (hi : Img K s (treeOf K s0 k.i)) (h1 : s.root = k.i) (h2 : s.note = k.s) (hm : es.map BE.val = hangs (getT (treeOf K s0 k.i)) k.i) :
    WhI w0 (((w.setCell ⟨c0, 0, none⟩ (.int .i64 k.i)).setCell ⟨c0, 1, none⟩ (.string k.s)).setCell ⟨c0, 2, none⟩ (.slice A8 n8 c8)) K j p g0 c0 dp F s (treeOf K s0 k.i) k.i k.s A8 n8 c8 es := by
  have hc : Chg (· = c0) w (((w.setCell ⟨c0, 0, none⟩ (.int .i64 k.i)).setCell ⟨c0, 1, none⟩ (.string k.s)).setCell ⟨c0, 2, none⟩ (.slice A8 n8 c8)) :=
    (((Chg.refl (· = c0) w).setCell (p := ⟨c0, 0, none⟩) (.inl rfl) _).setCell (p := ⟨c0, 1, none⟩) (.inl rfl) _).setCell (p := ⟨c0, 2, none⟩) (.inl rfl) _
  exact ⟨h.sto.other h.now (by decide) (by decide) (by decide) (by decide) hc, h.inv, hi, h.fresh, below_chg h.bel h.bel.size hc (fun k hk => by rw [hk]; exact h.low.2), h.cell.over hc (has_ne h.cell h.now (by decide)), put3 h.now _ _ _, hn.row.cell h.now (by decide) (by decide) hc, ⟨h1, h2, hm⟩, h.dp, h.low⟩
end Go.Proofs.Ytkbpjegegjgbkaa.Sto
