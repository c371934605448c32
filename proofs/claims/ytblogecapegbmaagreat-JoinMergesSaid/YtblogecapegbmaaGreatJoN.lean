/- Join: what the laws that clone their states keep. -/
import Derived.Test.YtblogecapegbmaaGreatJoD
import Derived.Test.YtblogecapegbmaaGreatJoL
import Derived.Test.YtblogecapegbmaaGreatJoM
import Derived.Test.YtblogecapegbmaaGreatJnU
namespace Go.Proofs.YtblogecapegbmaaGreat.Jn
open Go.RowKit Go.Proofs.YtblogecapegbmaaGreat.Mem
set_option linter.unusedVariables false set_option linter.unusedSimpArgs false

theorem sum_ok {w : World} {a : Fc.StateC} (h : Fc.StateFit w a) (n : Fc.NilS a) (l : LimS 4800 a) : SumOk (a.nodes.map Fc.NodeC.p) := by
 have q := limP_of (in_fit h n) l
 exact ⟨Nat.le_trans q.ps (by decide), Nat.le_trans q.xs (by decide), fun y hy => by
  obtain ⟨z, hz, rfl⟩ := List.mem_map.1 hy
  have k := h.each z hz
  exact ⟨k.text, k.pdata, k.xdata⟩⟩
/-- While both are cloned. -/
structure R3 (w W : World) (g2 g3 : Nat) (a b : Fc.StateC) (G : List Nat) (T : List (Fc.StateC × Fc.StateC)) : Prop where
 below : Below w.heap.size w W
 h2 : Has W g2 27 (Fc.stateC a)
 h3 : Has W g3 27 (Fc.stateC b)
 hz : ∀ g ∈ G, Has W g 27 zeroS ∧ w.heap.size ≤ g ∧ g2 ≠ g ∧ g3 ≠ g
 nd : G.Nodup
 cl : ∀ p ∈ T, ClO p.1 W p.2 ∧ p.2.p = p.1.p
/-- Both are cloned. -/
structure F5 (w W : World) (g2 g3 g5 g6 : Nat) (a b t1 t2 : Fc.StateC) : Prop where
 below : Below w.heap.size w W
 h2 : Has W g2 27 (Fc.stateC a)
 h3 : Has W g3 27 (Fc.stateC b)
 h5 : Has W g5 27 (Fc.stateC t1)
 h6 : Has W g6 27 (Fc.stateC t2)
 c1 : ClO a W t1
 c2 : ClO b W t2
 p1 : t1.p = a.p
 p2 : t2.p = b.p
section
variable {w W W2 W3 : World} {g2 g3 g5 g6 : Nat} {a b t1 t2 : Fc.StateC} {G : List Nat} {T : List (Fc.StateC × Fc.StateC)}
theorem R3.low (h : R3 w W g2 g3 a b G T) (hb : Below W.heap.size W W2) : R3 w W2 g2 g3 a b G T := ⟨h.below.trans (hb.mono h.below.size), h.h2.below hb, h.h3.below hb, fun g hg => ⟨(h.hz g hg).1.below hb, (h.hz g hg).2⟩, h.nd, fun p hp => ⟨(h.cl p hp).1.low hb, (h.cl p hp).2⟩⟩
theorem R3.alloc (h : R3 w W g2 g3 a b G T) {g : Nat} (hx : Has W2 g 27 zeroS) (hb : Below W.heap.size W W2) (hl : W.heap.size ≤ g) : R3 w W2 g2 g3 a b (g :: G) T := by
 have k := h.low hb
 have n2 := h.h2.bound
 have n3 := h.h3.bound
 have ns := h.below.size
 refine ⟨k.below, k.h2, k.h3, fun q hq => ?_, List.nodup_cons.2 ⟨fun hg => ?_, k.nd⟩, k.cl⟩
 ·rcases List.mem_cons.1 hq with rfl | hq
  ·exact ⟨hx, by omega, by omega, by omega⟩
  ·exact k.hz q hq
 ·have := (h.hz g hg).1.bound
  omega
theorem R3.clone (h : R3 w W g2 g3 a b G T) {s t : Fc.StateC} (hb : Below W.heap.size W W2) (ho : ClO s W2 t) (hp : t.p = s.p) : R3 w W2 g2 g3 a b G ((s, t) :: T) := by
 have k := h.low hb
 refine ⟨k.below, k.h2, k.h3, k.hz, k.nd, fun p hq => ?_⟩
 rcases List.mem_cons.1 hq with rfl | hq
 ·exact ⟨ho, hp⟩
 ·exact k.cl p hq
theorem R3.fin (h : R3 w W g2 g3 a b G [(b, t2), (a, t1)]) (m5 : g5 ∈ G) (m6 : g6 ∈ G) (ne : g5 ≠ g6) (x5 : Has W2 g5 27 (Fc.stateC t1)) (c5 : Chg (· = g5) W W2) (x6 : Has W3 g6 27 (Fc.stateC t2)) (c6 : Chg (· = g6) W2 W3) : F5 w W3 g2 g3 g5 g6 a b t1 t2 := by
 obtain ⟨z5, l5, n25, n35⟩ := h.hz g5 m5
 obtain ⟨z6, l6, n26, n36⟩ := h.hz g6 m6
 have k2 := h.cl (b, t2) (by simp)
 have k1 := h.cl (a, t1) (by simp)
 have z62 := z6.over c5 (fun e => ne e.symm)
 exact ⟨below_step (below_step h.below c5 l5) c6 l6, (h.h2.over c5 n25).over c6 n26, (h.h3.over c5 n35).over c6 n36, x5.over c6 ne, x6, (k1.1.past z5 c5).past z62 c6, (k2.1.past z5 c5).past z62 c6, k1.2, k2.2⟩
theorem F5.low (h : F5 w W g2 g3 g5 g6 a b t1 t2) (hb : Below W.heap.size W W2) : F5 w W2 g2 g3 g5 g6 a b t1 t2 := ⟨h.below.trans (hb.mono h.below.size), h.h2.below hb, h.h3.below hb, h.h5.below hb, h.h6.below hb, h.c1.low hb, h.c2.low hb, h.p1, h.p2⟩
theorem F5.in1 (h : F5 w W g2 g3 g5 g6 a b t1 t2) (hi : ∀ V, Below w.heap.size w V → StateIn V a) : StateIn W t1 := h.c1.isIn (hi W h.below).each
theorem F5.in2 (h : F5 w W g2 g3 g5 g6 a b t1 t2) (hi : ∀ V, Below w.heap.size w V → StateIn V b) : StateIn W t2 := h.c2.isIn (hi W h.below).each
theorem F5.lim1 (h : F5 w W g2 g3 g5 g6 a b t1 t2) (hi : ∀ V, Below w.heap.size w V → StateIn V a) (l : LimS 4800 a) : LimS 4800 t1 := limS_of (h.in1 hi) (by rw [h.p1]; exact limP_of (hi W h.below) l)
theorem F5.lim2 (h : F5 w W g2 g3 g5 g6 a b t1 t2) (hi : ∀ V, Below w.heap.size w V → StateIn V b) (l : LimS 4800 b) : LimS 4800 t2 := limS_of (h.in2 hi) (by rw [h.p2]; exact limP_of (hi W h.below) l)
end
end Go.Proofs.YtblogecapegbmaaGreat.Jn
