/- Model: whether each event that was done through a link was known by one who unlinked it. -/
import Derived.Test.YtigkdoicmcdbhaaGreatMdE
namespace Go.Proofs.YtigkdoicmcdbhaaGreat.Md
open Go.RowKit Go.Proofs.YtigkdoicmcdbhaaGreat.Mem
open Go.Proofs.YtigkdoicmcdbhaaGreat.Fc (PieceP XattrP LinkP NodeC pieceC xattrC linkC nodeC stateC)
open Go.Proofs.YtigkdoicmcdbhaaGreat.Sr (EOwn GrewE zeroS)
open Go.Proofs.YtigkdoicmcdbhaaGreat.Stab (EOut eown_nil eown_sl)
open Go.Proofs.YtigkdoicmcdbhaaGreat.Stl (IdxIs any_take any_hit isId filter_yes filter_no filter_len eown_below eown_mono)
open Go.Proofs.YtigkdoicmcdbhaaGreat.Vc (vecC stC eql_st neq_st)
set_option linter.unusedVariables false set_option linter.unusedSimpArgs false

def linkAl (id : Int × Int) (k : LinkP) : Bool := isId k.id id && !Sr.zero8 k.al
theorem hasAl_any (k : LinkP) (w : World) : Calls Tryz.prog 35 #[.agg (linkC k)] w fun e w' => e = .returned (.bool (!Sr.zero8 k.al)) ∧ Below w.heap.size w w' := by
  have HB0 := Lib.hid ((Below.refl w.heap.size w).alloc (Nat.le_refl _) (.cells (linkC k) 63))
  have HX := Lib.hid (Has.fresh w 63 (linkC k))
  have hz : ∀ W, (Op.equalIn 10000 24 (.agg (vecC k.al)) (.agg #[.int .i64 0, .int .i64 0, .int .i64 0, .int .i64 0, .int .i64 0, .int .i64 0, .int .i64 0, .int .i64 0])).run Tryz.prog W = .ok (Sr.zero8 k.al) W := fun W => Vc.eqv k.al (fun _ => 0) W
  go_enter Tryz.func35, Tryz.ntmps35
  go_wp2_with (first | ((with_reducible refine Who.wpList_loadC 24 (.tmp 3) rfl (w.heap.size) 9 (vecC k.al) ?_); refine And.intro ⟨by rfl, by rfl, ⟨_, Tryz.underlying24, rfl⟩, Sr.info_vec⟩ (And.intro (Sr.al_range HX.out) ?_); (try simp only [Act.put, List.setIfInBounds_toArray, List.set_cons_zero, List.set_cons_succ])) | fail)
  go_ret
  exact ⟨rfl, HB0.out⟩
set_option maxRecDepth 100000 in
set_option maxHeartbeats 1000000 in
theorem wroAl_any (k : LinkP) (id : Int × Int) (g1 g2 : Nat) (t2 : TypeId) (w : World) (h1 : Has w g1 26 #[.int .i64 id.1, .int .i64 id.2]) (h2 : Has w g2 t2 #[(.func (.func 35) #[] #[])]) : Calls Tryz.prog 51 #[.agg (linkC k), .pointer (some ⟨g1, 0, none⟩), .pointer (some ⟨g2, 0, none⟩)] w fun e w' => e = .returned (.bool (linkAl id k)) ∧ Below w.heap.size w w' := by
  have HB0 := Lib.hid ((Below.refl w.heap.size w).alloc (Nat.le_refl _) (.cells (linkC k) 63))
  have HX := Lib.hid (Has.fresh w 63 (linkC k))
  have H1 := Lib.hid (h1.past (.cells (linkC k) 63))
  have c2 : (w.alloc (.cells (linkC k) 63)).cell? ⟨g2, 0, none⟩ = some (.func (.func 35) #[] #[]) := (h2.past (.cells (linkC k) 63)).at_ 0
  have q1 := fun W => eql_st k.id.1 k.id.2 id.1 id.2 W
  unfold stC at q1
  have HC := Lib.hid (fun V => hasAl_any k V)
  have HD := Lib.hid (show linkAl id k = ((k.id.1 == id.1 && k.id.2 == id.2) && !Sr.zero8 k.al) from rfl)
  obtain ⟨z1, hz1⟩ : ∃ z1, z1 = (k.id.1 == id.1 && k.id.2 == id.2) := ⟨_, rfl⟩
  rw [← hz1] at q1 HD
  clear hz1 h1 h2
  go_enter Tryz.func51, Tryz.ntmps51
  cases z1 with
  | false =>
    go_wp2_with (first | ((with_reducible refine Who.wpList_loadC 26 (.tmp 5) rfl (w.heap.size) 0 (#[.int .i64 k.id.1, .int .i64 k.id.2]) ?_); refine And.intro ⟨by rfl, by rfl, ⟨_, Tryz.underlying26, rfl⟩, Sr.info_st⟩ (And.intro (Sr.id_range HX.out) ?_); (try simp only [Act.put, List.setIfInBounds_toArray, List.set_cons_zero, List.set_cons_succ])) | ((with_reducible refine Who.wpList_loadC 26 (.tmp 1) rfl (g1) 0 (#[.int .i64 id.1, .int .i64 id.2]) ?_); refine And.intro ⟨by rfl, by rfl, ⟨_, Tryz.underlying26, rfl⟩, Sr.info_st⟩ (And.intro (Who.has_range H1.out) ?_); (try simp only [Act.put, List.setIfInBounds_toArray, List.set_cons_zero, List.set_cons_succ])) | fail)
    go_ret
    exact ⟨by rw [HD.out]; rfl, HB0.out⟩
  | true =>
    go_wp2_with (first | ((with_reducible refine Who.wpList_loadC 26 (.tmp 5) rfl (w.heap.size) 0 (#[.int .i64 k.id.1, .int .i64 k.id.2]) ?_); refine And.intro ⟨by rfl, by rfl, ⟨_, Tryz.underlying26, rfl⟩, Sr.info_st⟩ (And.intro (Sr.id_range HX.out) ?_); (try simp only [Act.put, List.setIfInBounds_toArray, List.set_cons_zero, List.set_cons_succ])) | ((with_reducible refine Who.wpList_loadC 26 (.tmp 1) rfl (g1) 0 (#[.int .i64 id.1, .int .i64 id.2]) ?_); refine And.intro ⟨by rfl, by rfl, ⟨_, Tryz.underlying26, rfl⟩, Sr.info_st⟩ (And.intro (Who.has_range H1.out) ?_); (try simp only [Act.put, List.setIfInBounds_toArray, List.set_cons_zero, List.set_cons_succ])) | ((with_reducible refine Who.wpList_loadC 63 (.tmp 3) rfl (w.heap.size) 0 (linkC k) ?_); refine And.intro ⟨by rfl, by rfl, ⟨_, Tryz.underlying63, rfl⟩, Sr.info_link⟩ (And.intro (Who.has_range HX.out) ?_); (try simp only [Act.put, List.setIfInBounds_toArray, List.set_cons_zero, List.set_cons_succ])) | fail)
    refine (HC.out _).mono ?_
    rintro q w2 ⟨rfl, hb⟩
    have HB2 := Lib.hid (HB0.out.trans (hb.mono HB0.out.size))
    clear hb
    go_wp2
    go_ret
    exact ⟨by rw [HD.out]; rfl, HB2.out⟩
set_option maxRecDepth 100000 in
set_option maxHeartbeats 1000000 in
theorem wreAl_any (e : Fc.EventC) (id : Int × Int) (g1 g2 : Nat) (t2 : TypeId) (w : World) (hf : Fc.StateFit w e.d) (h1 : Has w g1 26 #[.int .i64 id.1, .int .i64 id.2]) (h2 : Has w g2 t2 #[(.func (.func 35) #[] #[])]) : Calls Tryz.prog 50 #[.agg (Fc.eventC e), .pointer (some ⟨g1, 0, none⟩), .pointer (some ⟨g2, 0, none⟩)] w fun q w' => q = .returned (.bool (e.d.links.any (linkAl id))) ∧ Below w.heap.size w w' := by
  have hb0 := (Below.refl w.heap.size w).alloc (Nat.le_refl _) (.cells (Fc.eventC e) 34)
  have HB0 := Lib.hid hb0
  have hx := Has.fresh w 34 (Fc.eventC e)
  have c20 : (w.alloc (.cells (Fc.eventC e) 34)).cell? ⟨w.heap.size, 20, none⟩ = some (.slice e.d.A2 e.d.n2 e.d.c2) := hx.at_ 20
  have k1 := h1.past (.cells (Fc.eventC e) 34)
  have k2 := h2.past (.cells (Fc.eventC e) 34)
  have hf2 := hf.below hb0
  have HC := Lib.hid (contains_link e.d.A2 e.d.n2 e.d.c2 e.d.links 51 #[.pointer (some ⟨g1, 0, none⟩), .pointer (some ⟨g2, 0, none⟩)] (fun args V => enters Tryz.func51 (by kernel_rfl) rfl args V) (linkAl id) hf2.m2 _ hf2.links (fun V hV x _ => wroAl_any x id g1 g2 t2 V (k1.below hV) (k2.below hV)))
  clear hf hf2 h1 h2 k1 k2 hb0 hx
  go_enter Tryz.func50, Tryz.ntmps50
  go_wp2_with fail
  refine HC.out.mono ?_
  rintro q w2 ⟨rfl, hb⟩
  have HB2 := Lib.hid (HB0.out.trans (hb.mono HB0.out.size))
  clear hb
  go_wp2
  go_ret
  exact ⟨rfl, HB2.out⟩
theorem mkAl_any (id : Int × Int) (w : World) : Calls Tryz.prog 34 #[.agg #[.int .i64 id.1, .int .i64 id.2], (.func (.func 35) #[] #[])] w fun e w' => (∃ g1 g2 t2, e = .returned (.func (.func 50) #[] #[.pointer (some ⟨g1, 0, none⟩), .pointer (some ⟨g2, 0, none⟩)]) ∧ Has w' g1 26 #[.int .i64 id.1, .int .i64 id.2] ∧ Has w' g2 t2 #[(.func (.func 35) #[] #[])]) ∧ Below w.heap.size w w' := by
  have HB := Lib.hid (show ∀ t2, Below w.heap.size w ((w.alloc (.cells #[.int .i64 id.1, .int .i64 id.2] 26)).alloc (.cells #[(.func (.func 35) #[] #[])] t2)) from fun t2 => ((Below.refl w.heap.size w).alloc (Nat.le_refl _) _).alloc (by simp) _)
  have H1 := Lib.hid (show ∀ t2, Has ((w.alloc (.cells #[.int .i64 id.1, .int .i64 id.2] 26)).alloc (.cells #[(.func (.func 35) #[] #[])] t2)) w.heap.size 26 #[.int .i64 id.1, .int .i64 id.2] from fun t2 => (Has.fresh w 26 #[.int .i64 id.1, .int .i64 id.2]).past _)
  have H2 := Lib.hid (show ∀ t2, Has ((w.alloc (.cells #[.int .i64 id.1, .int .i64 id.2] 26)).alloc (.cells #[(.func (.func 35) #[] #[])] t2)) (w.heap.size + 1) t2 #[(.func (.func 35) #[] #[])] from fun t2 => freshAt t2 _ (by simp))
  go_enter Tryz.func34, Tryz.ntmps34
  go_wp2
  go_ret
  exact ⟨⟨_, _, _, rfl, H1.out _, H2.out _⟩, HB.out _⟩
set_option maxRecDepth 100000 in
theorem thoseAl_any (A : Option Addr) (n c : Nat) (es : List Fc.EventC) (id : Int × Int) (g1 g2 : Nat) (t2 : TypeId) (hn : n ≤ 4000000) (w : World) (hr : Fc.SRow w 21 Fc.eventC A n es) (hf : ∀ e ∈ es, Fc.StateFit w e.d) (h1 : Has w g1 26 #[.int .i64 id.1, .int .i64 id.2]) (h2 : Has w g2 t2 #[(.func (.func 35) #[] #[])]) : Calls Tryz.prog 24 #[.slice A n c, .func (.func 50) #[] #[.pointer (some ⟨g1, 0, none⟩), .pointer (some ⟨g2, 0, none⟩)]] w (EOut (es.filter (fun e => e.d.links.any (linkAl id))) w) :=
  those_any A n c es 50 _ (fun args V => enters Tryz.func50 (by kernel_rfl) rfl args V) (fun e => e.d.links.any (linkAl id)) hn _ hr (fun V hV x hx => wreAl_any x id g1 g2 t2 V ((hf x hx).below hV) (h1.below hV) (h2.below hV))
def linkDe (id : Int × Int) (k : LinkP) : Bool := isId k.id id && !Sr.zero8 k.de
theorem hasDe_any (k : LinkP) (w : World) : Calls Tryz.prog 36 #[.agg (linkC k)] w fun e w' => e = .returned (.bool (!Sr.zero8 k.de)) ∧ Below w.heap.size w w' := by
  have HB0 := Lib.hid ((Below.refl w.heap.size w).alloc (Nat.le_refl _) (.cells (linkC k) 63))
  have HX := Lib.hid (Has.fresh w 63 (linkC k))
  have hz : ∀ W, (Op.equalIn 10000 24 (.agg (vecC k.de)) (.agg #[.int .i64 0, .int .i64 0, .int .i64 0, .int .i64 0, .int .i64 0, .int .i64 0, .int .i64 0, .int .i64 0])).run Tryz.prog W = .ok (Sr.zero8 k.de) W := fun W => Vc.eqv k.de (fun _ => 0) W
  go_enter Tryz.func36, Tryz.ntmps36
  go_wp2_with (first | ((with_reducible refine Who.wpList_loadC 24 (.tmp 3) rfl (w.heap.size) 17 (vecC k.de) ?_); refine And.intro ⟨by rfl, by rfl, ⟨_, Tryz.underlying24, rfl⟩, Sr.info_vec⟩ (And.intro (Sr.de_range HX.out) ?_); (try simp only [Act.put, List.setIfInBounds_toArray, List.set_cons_zero, List.set_cons_succ])) | fail)
  go_ret
  exact ⟨rfl, HB0.out⟩
set_option maxRecDepth 100000 in
set_option maxHeartbeats 1000000 in
theorem wroDe_any (k : LinkP) (id : Int × Int) (g1 g2 : Nat) (t2 : TypeId) (w : World) (h1 : Has w g1 26 #[.int .i64 id.1, .int .i64 id.2]) (h2 : Has w g2 t2 #[(.func (.func 36) #[] #[])]) : Calls Tryz.prog 51 #[.agg (linkC k), .pointer (some ⟨g1, 0, none⟩), .pointer (some ⟨g2, 0, none⟩)] w fun e w' => e = .returned (.bool (linkDe id k)) ∧ Below w.heap.size w w' := by
  have HB0 := Lib.hid ((Below.refl w.heap.size w).alloc (Nat.le_refl _) (.cells (linkC k) 63))
  have HX := Lib.hid (Has.fresh w 63 (linkC k))
  have H1 := Lib.hid (h1.past (.cells (linkC k) 63))
  have c2 : (w.alloc (.cells (linkC k) 63)).cell? ⟨g2, 0, none⟩ = some (.func (.func 36) #[] #[]) := (h2.past (.cells (linkC k) 63)).at_ 0
  have q1 := fun W => eql_st k.id.1 k.id.2 id.1 id.2 W
  unfold stC at q1
  have HC := Lib.hid (fun V => hasDe_any k V)
  have HD := Lib.hid (show linkDe id k = ((k.id.1 == id.1 && k.id.2 == id.2) && !Sr.zero8 k.de) from rfl)
  obtain ⟨z1, hz1⟩ : ∃ z1, z1 = (k.id.1 == id.1 && k.id.2 == id.2) := ⟨_, rfl⟩
  rw [← hz1] at q1 HD
  clear hz1 h1 h2
  go_enter Tryz.func51, Tryz.ntmps51
  cases z1 with
  | false =>
    go_wp2_with (first | ((with_reducible refine Who.wpList_loadC 26 (.tmp 5) rfl (w.heap.size) 0 (#[.int .i64 k.id.1, .int .i64 k.id.2]) ?_); refine And.intro ⟨by rfl, by rfl, ⟨_, Tryz.underlying26, rfl⟩, Sr.info_st⟩ (And.intro (Sr.id_range HX.out) ?_); (try simp only [Act.put, List.setIfInBounds_toArray, List.set_cons_zero, List.set_cons_succ])) | ((with_reducible refine Who.wpList_loadC 26 (.tmp 1) rfl (g1) 0 (#[.int .i64 id.1, .int .i64 id.2]) ?_); refine And.intro ⟨by rfl, by rfl, ⟨_, Tryz.underlying26, rfl⟩, Sr.info_st⟩ (And.intro (Who.has_range H1.out) ?_); (try simp only [Act.put, List.setIfInBounds_toArray, List.set_cons_zero, List.set_cons_succ])) | fail)
    go_ret
    exact ⟨by rw [HD.out]; rfl, HB0.out⟩
  | true =>
    go_wp2_with (first | ((with_reducible refine Who.wpList_loadC 26 (.tmp 5) rfl (w.heap.size) 0 (#[.int .i64 k.id.1, .int .i64 k.id.2]) ?_); refine And.intro ⟨by rfl, by rfl, ⟨_, Tryz.underlying26, rfl⟩, Sr.info_st⟩ (And.intro (Sr.id_range HX.out) ?_); (try simp only [Act.put, List.setIfInBounds_toArray, List.set_cons_zero, List.set_cons_succ])) | ((with_reducible refine Who.wpList_loadC 26 (.tmp 1) rfl (g1) 0 (#[.int .i64 id.1, .int .i64 id.2]) ?_); refine And.intro ⟨by rfl, by rfl, ⟨_, Tryz.underlying26, rfl⟩, Sr.info_st⟩ (And.intro (Who.has_range H1.out) ?_); (try simp only [Act.put, List.setIfInBounds_toArray, List.set_cons_zero, List.set_cons_succ])) | ((with_reducible refine Who.wpList_loadC 63 (.tmp 3) rfl (w.heap.size) 0 (linkC k) ?_); refine And.intro ⟨by rfl, by rfl, ⟨_, Tryz.underlying63, rfl⟩, Sr.info_link⟩ (And.intro (Who.has_range HX.out) ?_); (try simp only [Act.put, List.setIfInBounds_toArray, List.set_cons_zero, List.set_cons_succ])) | fail)
    refine (HC.out _).mono ?_
    rintro q w2 ⟨rfl, hb⟩
    have HB2 := Lib.hid (HB0.out.trans (hb.mono HB0.out.size))
    clear hb
    go_wp2
    go_ret
    exact ⟨by rw [HD.out]; rfl, HB2.out⟩
set_option maxRecDepth 100000 in
set_option maxHeartbeats 1000000 in
theorem wreDe_any (e : Fc.EventC) (id : Int × Int) (g1 g2 : Nat) (t2 : TypeId) (w : World) (hf : Fc.StateFit w e.d) (h1 : Has w g1 26 #[.int .i64 id.1, .int .i64 id.2]) (h2 : Has w g2 t2 #[(.func (.func 36) #[] #[])]) : Calls Tryz.prog 50 #[.agg (Fc.eventC e), .pointer (some ⟨g1, 0, none⟩), .pointer (some ⟨g2, 0, none⟩)] w fun q w' => q = .returned (.bool (e.d.links.any (linkDe id))) ∧ Below w.heap.size w w' := by
  have hb0 := (Below.refl w.heap.size w).alloc (Nat.le_refl _) (.cells (Fc.eventC e) 34)
  have HB0 := Lib.hid hb0
  have hx := Has.fresh w 34 (Fc.eventC e)
  have c20 : (w.alloc (.cells (Fc.eventC e) 34)).cell? ⟨w.heap.size, 20, none⟩ = some (.slice e.d.A2 e.d.n2 e.d.c2) := hx.at_ 20
  have k1 := h1.past (.cells (Fc.eventC e) 34)
  have k2 := h2.past (.cells (Fc.eventC e) 34)
  have hf2 := hf.below hb0
  have HC := Lib.hid (contains_link e.d.A2 e.d.n2 e.d.c2 e.d.links 51 #[.pointer (some ⟨g1, 0, none⟩), .pointer (some ⟨g2, 0, none⟩)] (fun args V => enters Tryz.func51 (by kernel_rfl) rfl args V) (linkDe id) hf2.m2 _ hf2.links (fun V hV x _ => wroDe_any x id g1 g2 t2 V (k1.below hV) (k2.below hV)))
  clear hf hf2 h1 h2 k1 k2 hb0 hx
  go_enter Tryz.func50, Tryz.ntmps50
  go_wp2_with fail
  refine HC.out.mono ?_
  rintro q w2 ⟨rfl, hb⟩
  have HB2 := Lib.hid (HB0.out.trans (hb.mono HB0.out.size))
  clear hb
  go_wp2
  go_ret
  exact ⟨rfl, HB2.out⟩
theorem mkDe_any (id : Int × Int) (w : World) : Calls Tryz.prog 34 #[.agg #[.int .i64 id.1, .int .i64 id.2], (.func (.func 36) #[] #[])] w fun e w' => (∃ g1 g2 t2, e = .returned (.func (.func 50) #[] #[.pointer (some ⟨g1, 0, none⟩), .pointer (some ⟨g2, 0, none⟩)]) ∧ Has w' g1 26 #[.int .i64 id.1, .int .i64 id.2] ∧ Has w' g2 t2 #[(.func (.func 36) #[] #[])]) ∧ Below w.heap.size w w' := by
  have HB := Lib.hid (show ∀ t2, Below w.heap.size w ((w.alloc (.cells #[.int .i64 id.1, .int .i64 id.2] 26)).alloc (.cells #[(.func (.func 36) #[] #[])] t2)) from fun t2 => ((Below.refl w.heap.size w).alloc (Nat.le_refl _) _).alloc (by simp) _)
  have H1 := Lib.hid (show ∀ t2, Has ((w.alloc (.cells #[.int .i64 id.1, .int .i64 id.2] 26)).alloc (.cells #[(.func (.func 36) #[] #[])] t2)) w.heap.size 26 #[.int .i64 id.1, .int .i64 id.2] from fun t2 => (Has.fresh w 26 #[.int .i64 id.1, .int .i64 id.2]).past _)
  have H2 := Lib.hid (show ∀ t2, Has ((w.alloc (.cells #[.int .i64 id.1, .int .i64 id.2] 26)).alloc (.cells #[(.func (.func 36) #[] #[])] t2)) (w.heap.size + 1) t2 #[(.func (.func 36) #[] #[])] from fun t2 => freshAt t2 _ (by simp))
  go_enter Tryz.func34, Tryz.ntmps34
  go_wp2
  go_ret
  exact ⟨⟨_, _, _, rfl, H1.out _, H2.out _⟩, HB.out _⟩
set_option maxRecDepth 100000 in
theorem thoseDe_any (A : Option Addr) (n c : Nat) (es : List Fc.EventC) (id : Int × Int) (g1 g2 : Nat) (t2 : TypeId) (hn : n ≤ 4000000) (w : World) (hr : Fc.SRow w 21 Fc.eventC A n es) (hf : ∀ e ∈ es, Fc.StateFit w e.d) (h1 : Has w g1 26 #[.int .i64 id.1, .int .i64 id.2]) (h2 : Has w g2 t2 #[(.func (.func 36) #[] #[])]) : Calls Tryz.prog 24 #[.slice A n c, .func (.func 50) #[] #[.pointer (some ⟨g1, 0, none⟩), .pointer (some ⟨g2, 0, none⟩)]] w (EOut (es.filter (fun e => e.d.links.any (linkDe id))) w) :=
  those_any A n c es 50 _ (fun args V => enters Tryz.func50 (by kernel_rfl) rfl args V) (fun e => e.d.links.any (linkDe id)) hn _ hr (fun V hV x hx => wreDe_any x id g1 g2 t2 V ((hf x hx).below hV) (h1.below hV) (h2.below hV))
theorem own_srow {w : World} {B c : Nat} {A : Option Addr} {es : List Fc.EventC} (h : EOwn w B (.slice A es.length c) es) : Fc.SRow w 21 Fc.eventC A es.length es := by
  obtain ⟨A3, c3, e, hnil, hsome⟩ := eown_sl h
  cases e
  cases A with
  | none =>
    rw [(hnil rfl).2]
    exact Fc.SRow.nil _ _ _
  | some a =>
    obtain ⟨g, rfl⟩ := hsome a rfl
    obtain ⟨_, _, _, z, hr⟩ := Stab.own_rw h
    refine ⟨rfl, fun _ => ⟨g, 0, rfl, hr.bound, fun i hi j v hv => ?_⟩⟩
    have q := hr.range (fun y => rfl) (i := i) hi j v (by
      rw [List.getElem?_eq_getElem hi]
      simpa using hv)
    rw [Nat.zero_add]
    exact q
theorem un31_any (a b : Fc.EventC) (g : Nat) (w : World) (hg : Has w g 34 (Fc.eventC a)) : Calls Tryz.prog 38 #[.agg (Fc.eventC b), .pointer (some ⟨g, 0, none⟩)] w fun e w' => e = .returned (.bool (befB a b)) ∧ Below w.heap.size w w' := by
  have HB0 := Lib.hid ((Below.refl w.heap.size w).alloc (Nat.le_refl _) (.cells (Fc.eventC b) 34))
  have HX := Lib.hid (Has.fresh w 34 (Fc.eventC b))
  have HG := Lib.hid (hg.past (.cells (Fc.eventC b) 34))
  have HC := Lib.hid (fun V => before_any a b V)
  clear hg
  go_enter Tryz.func38, Tryz.ntmps38
  go_wp2_with (first | ((with_reducible refine Who.wpList_loadC 34 (.tmp 1) rfl (g) 0 (Fc.eventC a) ?_); refine And.intro ⟨by rfl, by rfl, ⟨_, Tryz.underlying34, rfl⟩, Sr.info_event⟩ (And.intro (Who.has_range HG.out) ?_); (try simp only [Act.put, List.setIfInBounds_toArray, List.set_cons_zero, List.set_cons_succ])) | ((with_reducible refine Who.wpList_loadC 34 (.tmp 2) rfl (w.heap.size) 0 (Fc.eventC b) ?_); refine And.intro ⟨by rfl, by rfl, ⟨_, Tryz.underlying34, rfl⟩, Sr.info_event⟩ (And.intro (Who.has_range HX.out) ?_); (try simp only [Act.put, List.setIfInBounds_toArray, List.set_cons_zero, List.set_cons_succ])) | fail)
  refine (HC.out _).mono ?_
  rintro q w2 ⟨rfl, hb⟩
  have HB2 := Lib.hid (HB0.out.trans (hb.mono HB0.out.size))
  clear hb
  go_wp2
  go_ret
  exact ⟨rfl, HB2.out⟩
set_option maxRecDepth 100000 in
theorem un3_any (a : Fc.EventC) (A : Option Addr) (n c : Nat) (ds : List Fc.EventC) (g : Nat) (t : TypeId) (hn : n ≤ 4000000) (w : World) (hr : Fc.SRow w 21 Fc.eventC A n ds) (hg : Has w g t #[.slice A n c]) : Calls Tryz.prog 37 #[.agg (Fc.eventC a), .pointer (some ⟨g, 0, none⟩)] w fun e w' => e = .returned (.bool (!ds.any (befB a))) ∧ Below w.heap.size w w' := by
  have hb0 := (Below.refl w.heap.size w).alloc (Nat.le_refl _) (.cells (Fc.eventC a) 34)
  have HB0 := Lib.hid hb0
  have hx := Has.fresh w 34 (Fc.eventC a)
  have c0 : (w.alloc (.cells (Fc.eventC a) 34)).cell? ⟨g, 0, none⟩ = some (.slice A n c) := (hg.past (.cells (Fc.eventC a) 34)).at_ 0
  have HC := Lib.hid (contains_event A n c ds 38 #[.pointer (some ⟨w.heap.size, 0, none⟩)] (fun args V => enters Tryz.func38 (by kernel_rfl) rfl args V) (befB a) (by omega) _ (hr.below hb0) (fun V hV x _ => un31_any a x _ V (hx.below hV)))
  clear hr hg hb0 hx
  go_enter Tryz.func37, Tryz.ntmps37
  go_wp2_with fail
  refine HC.out.mono ?_
  rintro q w2 ⟨rfl, hb⟩
  have HB2 := Lib.hid (HB0.out.trans (hb.mono HB0.out.size))
  clear hb
  go_wp2
  go_ret
  exact ⟨rfl, HB2.out⟩
def aliveB (id : Int × Int) (e : Fc.EventC) : Bool := e.d.links.any (linkAl id)
def deadB (id : Int × Int) (e : Fc.EventC) : Bool := e.d.links.any (linkDe id)
def unlB (es : List Fc.EventC) (id : Int × Int) : Bool := !(es.filter (aliveB id)).any (fun a => !(es.filter (deadB id)).any (befB a))
set_option maxRecDepth 100000 in
set_option maxHeartbeats 2000000 in
theorem unlinked_any (A : Option Addr) (n c : Nat) (es : List Fc.EventC) (id : Int × Int) (hn : n ≤ 4000000) (w : World) (hr : Fc.SRow w 21 Fc.eventC A n es) (hf : ∀ e ∈ es, Fc.StateFit w e.d) : Calls Tryz.prog 14 #[.slice A n c, .agg #[.int .i64 id.1, .int .i64 id.2]] w fun e w' => e = .returned (.bool (unlB es id)) ∧ Below w.heap.size w w' := by
  have HR := Lib.hid hr
  have HLN := Lib.hid hr.len
  have HF := Lib.hid (show ∀ V, Below w.heap.size w V → ∀ e ∈ es, Fc.StateFit V e.d from fun V hb e he => (hf e he).below hb)
  have HB0 := Lib.hid ((Below.refl w.heap.size w).alloc (Nat.le_refl _) (.cells #[.int .i64 id.1, .int .i64 id.2] 26))
  have HS0 := Lib.hid (Has.fresh w 26 #[.int .i64 id.1, .int .i64 id.2])
  have HM1 := Lib.hid (fun V => mkAl_any id V)
  have HM2 := Lib.hid (fun V => mkDe_any id V)
  clear hr hf
  go_enter Tryz.func14, Tryz.ntmps14
  go_wp2_with (first | ((with_reducible refine Who.wpList_loadC 26 (.tmp 3) rfl (w.heap.size) 0 (#[.int .i64 id.1, .int .i64 id.2]) ?_); refine And.intro ⟨by rfl, by rfl, ⟨_, Tryz.underlying26, rfl⟩, Sr.info_st⟩ (And.intro (Who.has_range HS0.out) ?_); (try simp only [Act.put, List.setIfInBounds_toArray, List.set_cons_zero, List.set_cons_succ])) | fail)
  refine (HM1.out _).mono ?_
  rintro q w1 ⟨⟨g1, g2, t2, rfl, h1, h2⟩, hb⟩
  have HB1 := Lib.hid (HB0.out.trans (hb.mono HB0.out.size))
  have HS1 := Lib.hid (HS0.out.below hb)
  have HT := Lib.hid (thoseAl_any A n c es id g1 g2 t2 hn _ (HR.out.below HB1.out) (HF.out _ HB1.out) h1 h2)
  clear hb h1 h2 HB0 HS0
  go_wp2_with fail
  refine HT.out.mono ?_
  rintro q w2 ⟨v2, rfl, hv, hb⟩
  have HB2 := Lib.hid (HB1.out.trans (hb.mono HB1.out.size))
  have HS2 := Lib.hid (HS1.out.below hb)
  obtain ⟨A2, c2, rfl, _, _⟩ := eown_sl hv
  have HV2 := Lib.hid (own_srow hv)
  have HL2 := Lib.hid (show (es.filter (fun e => e.d.links.any (linkAl id))).length ≤ 4000000 from Nat.le_trans (List.length_filter_le _ _) (by rw [HLN.out]; exact hn))
  clear hb hv HT HB1 HS1
  go_wp2_with (first | ((with_reducible refine Who.wpList_loadC 26 (.tmp 3) rfl (w.heap.size) 0 (#[.int .i64 id.1, .int .i64 id.2]) ?_); refine And.intro ⟨by rfl, by rfl, ⟨_, Tryz.underlying26, rfl⟩, Sr.info_st⟩ (And.intro (Who.has_range HS2.out) ?_); (try simp only [Act.put, List.setIfInBounds_toArray, List.set_cons_zero, List.set_cons_succ])) | fail)
  refine (HM2.out _).mono ?_
  rintro q w3 ⟨⟨g1, g2, t2, rfl, h1, h2⟩, hb⟩
  have HB3 := Lib.hid (HB2.out.trans (hb.mono HB2.out.size))
  have HV3 := Lib.hid (HV2.out.below hb)
  have HT := Lib.hid (thoseDe_any A n c es id g1 g2 t2 hn _ (HR.out.below HB3.out) (HF.out _ HB3.out) h1 h2)
  clear hb h1 h2 HB2 HS2 HV2
  go_wp2_with fail
  refine HT.out.mono ?_
  rintro q w4 ⟨v4, rfl, hv, hb⟩
  have HB4 := Lib.hid (HB3.out.trans (hb.mono HB3.out.size))
  have HV4 := Lib.hid (HV3.out.below hb)
  obtain ⟨A4, c4, rfl, _, _⟩ := eown_sl hv
  have HW4 := Lib.hid (own_srow hv)
  have HL4 := Lib.hid (show (es.filter (fun e => e.d.links.any (linkDe id))).length ≤ 4000000 from Nat.le_trans (List.length_filter_le _ _) (by rw [HLN.out]; exact hn))
  clear hb hv HT HB3 HV3
  obtain ⟨L1, hL1⟩ : ∃ L1, L1 = es.filter (fun e => e.d.links.any (linkAl id)) := ⟨_, rfl⟩
  obtain ⟨L2, hL2⟩ : ∃ L2, L2 = es.filter (fun e => e.d.links.any (linkDe id)) := ⟨_, rfl⟩
  have HU := Lib.hid (show unlB es id = !L1.any (fun a => !L2.any (befB a)) by rw [hL1, hL2]; rfl)
  rw [← hL1] at HV4 HL2 ⊢
  rw [← hL2] at HW4 HL4 ⊢
  have HBX := Lib.hid (show ∀ t, Below w.heap.size w (w4.alloc (.cells #[.slice A4 L2.length c4] t)) from fun t => HB4.out.alloc HB4.out.size _)
  have HCX := Lib.hid (show ∀ t, Calls Tryz.prog 22 #[.slice A2 L1.length c2, .func (.func 37) #[] #[.pointer (some ⟨w4.heap.size, 0, none⟩)]] (w4.alloc (.cells #[.slice A4 L2.length c4] t)) fun e w' => e = .returned (.bool (L1.any (fun a => !L2.any (befB a)))) ∧ Below (w4.alloc (.cells #[.slice A4 L2.length c4] t)).heap.size (w4.alloc (.cells #[.slice A4 L2.length c4] t)) w' from fun t =>
    have hb := (Below.refl w4.heap.size w4).alloc (Nat.le_refl _) (.cells #[.slice A4 L2.length c4] t)
    contains_event A2 L1.length c2 L1 37 #[.pointer (some ⟨w4.heap.size, 0, none⟩)] (fun args V => enters Tryz.func37 (by kernel_rfl) rfl args V) (fun a => !L2.any (befB a)) (Nat.le_trans HL2.out (by decide)) _ (HV4.out.below hb) (fun V hV x _ => un3_any x A4 L2.length c4 L2 _ t HL4.out V ((HW4.out.below hb).below hV) ((Has.fresh w4 t #[.slice A4 L2.length c4]).below hV)))
  clear hL1 hL2 HV4 HW4
  go_wp2_with fail
  refine (HCX.out _).mono ?_
  rintro q w5 ⟨rfl, hb⟩
  have HB5 := Lib.hid ((HBX.out _).trans (hb.mono (HBX.out _).size))
  clear hb
  go_wp2
  go_ret
  exact ⟨by rw [HU.out]; rfl, HB5.out⟩
end Go.Proofs.YtigkdoicmcdbhaaGreat.Md
