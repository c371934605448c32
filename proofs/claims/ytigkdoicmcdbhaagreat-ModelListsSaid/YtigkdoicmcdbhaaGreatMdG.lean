/- Model: the document's answer whether a link was unlinked. -/
import Derived.Test.YtigkdoicmcdbhaaGreatMdF
namespace Go.Proofs.YtigkdoicmcdbhaaGreat.Md
open Go.RowKit Go.Proofs.YtigkdoicmcdbhaaGreat.Mem
open Go.Proofs.YtigkdoicmcdbhaaGreat.Fc (PieceP XattrP LinkP NodeC pieceC xattrC linkC nodeC stateC)
open Go.Proofs.YtigkdoicmcdbhaaGreat.Sr (EOwn GrewE zeroS)
open Go.Proofs.YtigkdoicmcdbhaaGreat.Stab (EOut eown_nil eown_sl)
open Go.Proofs.YtigkdoicmcdbhaaGreat.Stl (IdxIs any_take any_hit isId filter_yes filter_no filter_len eown_below eown_mono)
open Go.Proofs.YtigkdoicmcdbhaaGreat.Vc (vecC stC eql_st neq_st)
set_option linter.unusedVariables false set_option linter.unusedSimpArgs false

theorem bool4 (a t p b : Bool) : (a || ((t || p) && b)) = ((a || (t && b)) || (p && b)) := by cases a <;> cases t <;> cases p <;> cases b <;> rfl
/-- known by one who unlinked it -/
def knwB (es : List Fc.EventC) (id : Int × Int) (e : Fc.EventC) : Bool := es.any (fun u => deadB id u && befB e u)
def okB (es : List Fc.EventC) (id : Int × Int) (e : Fc.EventC) : Bool := !(aliveB id e && !knwB es id e)
theorem unl_all (es : List Fc.EventC) (id : Int × Int) : unlB es id = es.all (okB es id) := by
  unfold unlB okB knwB
  rw [List.any_filter, List.all_eq_not_any_not]
  congr 2
  funext e
  rw [List.any_filter, Bool.not_not]
structure UnI (id : Int × Int) (w wr : World) : Prop where
  below : Below w.heap.size w wr
  has : Has wr w.heap.size 26 #[.int .i64 id.1, .int .i64 id.2]
theorem UnI.low {id : Int × Int} {w wr w2 : World} (h : UnI id w wr) (hb : Below wr.heap.size wr w2) : UnI id w w2 := ⟨h.below.trans (hb.mono h.below.size), h.has.below hb⟩
theorem all_take {α : Type} {xs : List α} (P : α → Bool) {j : Nat} (h : j < xs.length) (hf : (xs.take j).all P = true) : P xs[j] = true → (xs.take (j + 1)).all P = true := by
  intro hp
  rw [List.take_succ_eq_append_getElem h, List.all_append, hf]
  simp [hp]
theorem all_miss {α : Type} {xs : List α} (P : α → Bool) {j : Nat} (h : j < xs.length) : P xs[j] = false → xs.all P = false := fun hp => List.all_eq_false.2 ⟨_, List.getElem_mem h, by rw [hp]; decide⟩
set_option maxRecDepth 100000 in
set_option maxHeartbeats 16000000 in
theorem runlinked_any (A : Option Addr) (n c : Nat) (es : List Fc.EventC) (id : Int × Int) (hn : n ≤ 4000000) (w : World) (hr : Fc.SRow w 21 Fc.eventC A n es) (hf : ∀ e ∈ es, Fc.StateFit w e.d) : Calls Tryz.prog 15 #[.slice A n c, .agg #[.int .i64 id.1, .int .i64 id.2]] w fun e w' => e = .returned (.bool (unlB es id)) ∧ Below w.heap.size w w' := by
  have HR := Lib.hid hr
  have HLN := Lib.hid hr.len
  have HF := Lib.hid (show ∀ V, Below w.heap.size w V → ∀ e ∈ es, Fc.StateFit V e.d from fun V hb e he => (hf e he).below hb)
  have HI0 := Lib.hid (show UnI id w (w.alloc (.cells #[.int .i64 id.1, .int .i64 id.2] 26)) from ⟨(Below.refl w.heap.size w).alloc (Nat.le_refl _) _, Has.fresh w _ _⟩)
  have HUA := Lib.hid (unl_all es id)
  have halv := Sr.alloc_event
  have hall := Stl.alloc_link
  clear hr hf
  go_enter Tryz.func15, Tryz.ntmps15
  go_wp2
  go_loopw [16] (fun i wr => ∃ j : Nat, i = .int .i64 j ∧ j ≤ n ∧ Hid ((es.take j).all (okB es id) = true) ∧ Hid (UnI id w wr)) (fun i _ => n - (intOf i).toNat)
  case atStart => exact ⟨0, rfl, Nat.zero_le _, Lib.hid rfl, HI0⟩
  case round =>
    clear HI0
    obtain ⟨j, rfl, hj, HOK, HI⟩ := hrel
    obtain ⟨wo, hwo⟩ : ∃ wo : World, wo = wr := ⟨_, rfl⟩
    subst hwo
    by_cases hlt : j < n
    · obtain ⟨b, off, rfl, hbl, hx, mr⟩ := (HR.out.below HI.out.below).range (i := j) hlt
      have HAT := Lib.hid (all_take (okB es id) hx HOK.out)
      have HAM := Lib.hid (all_miss (okB es id) hx)
      have hmem := List.getElem_mem hx
      obtain ⟨e, he⟩ : ∃ e, e = es[j] := ⟨_, rfl⟩
      rw [← he] at mr HAT HAM hmem
      have HFW := Lib.hid (show ∀ V, Below w.heap.size w V → Fc.StateFit V e.d from fun V h => HF.out V h e hmem)
      have MR := Lib.hid mr
      have hb1 := (Below.refl wo.heap.size wo).alloc (Nat.le_refl _) (.cells (Fc.eventC e) 34)
      have HIb := Lib.hid (HI.out.low hb1)
      have HEb := Lib.hid (Has.fresh wo 34 (Fc.eventC e))
      have c20 : (wo.alloc (.cells (Fc.eventC e) 34)).cell? ⟨wo.heap.size, 20, none⟩ = some (.slice e.d.A2 e.d.n2 e.d.c2) := HEb.out.at_ 20
      have m2 := (HFW.out _ HIb.out.below).m2
      have HDE := Lib.hid (show okB es id e = !(e.d.links.any (linkAl id) && !knwB es id e) from rfl)
      clear he mr hx hbl hb1 HI hmem HOK
      go_wp2_with (first | ((with_reducible refine Who.wpList_loadC 34 (.tmp 18) rfl (b) (off + j * 21) (Fc.eventC e) ?_); refine And.intro ⟨by rfl, by rfl, ⟨_, Tryz.underlying34, rfl⟩, Sr.info_event⟩ (And.intro (MR.out) ?_); (try simp only [Act.put, List.setIfInBounds_toArray, List.set_cons_zero, List.set_cons_succ])) | ((with_reducible refine Who.wpList_newC 34 6 (.tmp 19) rfl rfl rfl (Fc.eventC Sr.zeroE) (Fc.eventC e) ?_); refine And.intro ⟨rfl, rfl, rfl, halv, by rfl, by rfl, Sr.info_event, rfl, Sr.event_one _⟩ ?_; (try simp only [Act.put, List.setIfInBounds_toArray, List.set_cons_zero, List.set_cons_succ]); (try simp only [World.size_alloc])) | fail)
      go_loopw [24] (fun si wr => ∃ m : Nat, si = .int .i64 m ∧ m ≤ e.d.n2 ∧ Hid ((e.d.links.take m).any (linkAl id) = true → knwB es id e = true) ∧ Hid (UnI id w wr) ∧ Hid (Has wr wo.heap.size 34 (Fc.eventC e))) (fun si _ => e.d.n2 - (intOf si).toNat)
      case atStart => exact ⟨0, rfl, Nat.zero_le _, Lib.hid (fun h => by cases h), HIb, HEb⟩
      case round =>
        clear HIb HEb c20
        obtain ⟨m, rfl, hm, HAG, HI, HE⟩ := hrel
        obtain ⟨wk, hwk⟩ : ∃ wk : World, wk = wr := ⟨_, rfl⟩
        subst hwk
        by_cases hlm : m < e.d.n2
        · have hlmi : (m : Int) < e.d.n2 := by omega
          obtain ⟨bk, offk, hA, hbl, hx, mr⟩ := (HFW.out _ HI.out.below).links.range (i := m) hlm
          have HST := Lib.hid (any_nextG (linkAl id) hx)
          have hkm := List.getElem_mem hx
          obtain ⟨k, hk⟩ : ∃ k, k = e.d.links[m] := ⟨_, rfl⟩
          rw [← hk] at mr HST hkm
          have HKM := Lib.hid (show linkAl id k = true → aliveB id e = true from fun h => List.any_eq_true.2 ⟨k, hkm, h⟩)
          have MRK := Lib.hid mr
          have hb2 := (Below.refl wk.heap.size wk).alloc (Nat.le_refl _) (.cells (linkC k) 63)
          have HI1 := Lib.hid (HI.out.low hb2)
          have HE1 := Lib.hid (HE.out.below hb2)
          have HK1 := Lib.hid (Has.fresh wk 63 (linkC k))
          have q1 := fun W => neq_st k.id.1 k.id.2 id.1 id.2 W
          unfold stC at q1
          have q2 : ∀ W, (Op.equalIn 10000 24 (.agg (vecC k.al)) (.agg #[.int .i64 0, .int .i64 0, .int .i64 0, .int .i64 0, .int .i64 0, .int .i64 0, .int .i64 0, .int .i64 0])).run Tryz.prog W = .ok (Sr.zero8 k.al) W := fun W => Vc.eqv k.al (fun _ => 0) W
          have HD := Lib.hid (show linkAl id k = ((k.id.1 == id.1 && k.id.2 == id.2) && !Sr.zero8 k.al) from rfl)
          obtain ⟨z1, hz1⟩ : ∃ z1, z1 = (k.id.1 == id.1 && k.id.2 == id.2) := ⟨_, rfl⟩
          obtain ⟨z2, hz2⟩ : ∃ z2, z2 = Sr.zero8 k.al := ⟨_, rfl⟩
          rw [← hz1] at q1 HD
          rw [← hz2] at q2 HD
          clear hz1 hz2 mr hx hbl hb2 hk hkm HI HE
          rw [hA]
          cases z1 with
          | false =>
            have HAN := Lib.hid (show (e.d.links.take (m + 1)).any (linkAl id) = true → knwB es id e = true from fun h => HAG.out (by rw [HST.out, HD.out] at h; simpa using h))
            go_wp2_with (first | ((with_reducible refine Who.wpList_loadC 63 (.tmp 26) rfl (bk) (offk + m * 25) (linkC k) ?_); refine And.intro ⟨by rfl, by rfl, ⟨_, Tryz.underlying63, rfl⟩, Sr.info_link⟩ (And.intro (MRK.out) ?_); (try simp only [Act.put, List.setIfInBounds_toArray, List.set_cons_zero, List.set_cons_succ])) | ((with_reducible refine Who.wpList_newC 63 8 (.tmp 27) rfl rfl rfl (linkC Stl.zeroK) (linkC k) ?_); refine And.intro ⟨rfl, rfl, rfl, hall, by rfl, by rfl, Sr.info_link, rfl, Stl.link_one _⟩ ?_; (try simp only [Act.put, List.setIfInBounds_toArray, List.set_cons_zero, List.set_cons_succ]); (try simp only [World.size_alloc])) | ((with_reducible refine Who.wpList_loadC 26 (.tmp 28) rfl (wk.heap.size) 0 (#[.int .i64 k.id.1, .int .i64 k.id.2]) ?_); refine And.intro ⟨by rfl, by rfl, ⟨_, Tryz.underlying26, rfl⟩, Sr.info_st⟩ (And.intro (Sr.id_range HK1.out) ?_); (try simp only [Act.put, List.setIfInBounds_toArray, List.set_cons_zero, List.set_cons_succ])) | ((with_reducible refine Who.wpList_loadC 26 (.tmp 3) rfl (w.heap.size) 0 (#[.int .i64 id.1, .int .i64 id.2]) ?_); refine And.intro ⟨by rfl, by rfl, ⟨_, Tryz.underlying26, rfl⟩, Sr.info_st⟩ (And.intro (Who.has_range HI1.out.has) ?_); (try simp only [Act.put, List.setIfInBounds_toArray, List.set_cons_zero, List.set_cons_succ])) | fail)
            go_roundw
            case rel => exact ⟨m + 1, by go_num, by omega, HAN, HI1, HE1⟩
            case measure => simp [intOf]; omega
          | true =>
            cases z2 with
            | true =>
              have HAN := Lib.hid (show (e.d.links.take (m + 1)).any (linkAl id) = true → knwB es id e = true from fun h => HAG.out (by rw [HST.out, HD.out] at h; simpa using h))
              go_wp2_with (first | ((with_reducible refine Who.wpList_loadC 63 (.tmp 26) rfl (bk) (offk + m * 25) (linkC k) ?_); refine And.intro ⟨by rfl, by rfl, ⟨_, Tryz.underlying63, rfl⟩, Sr.info_link⟩ (And.intro (MRK.out) ?_); (try simp only [Act.put, List.setIfInBounds_toArray, List.set_cons_zero, List.set_cons_succ])) | ((with_reducible refine Who.wpList_newC 63 8 (.tmp 27) rfl rfl rfl (linkC Stl.zeroK) (linkC k) ?_); refine And.intro ⟨rfl, rfl, rfl, hall, by rfl, by rfl, Sr.info_link, rfl, Stl.link_one _⟩ ?_; (try simp only [Act.put, List.setIfInBounds_toArray, List.set_cons_zero, List.set_cons_succ]); (try simp only [World.size_alloc])) | ((with_reducible refine Who.wpList_loadC 26 (.tmp 28) rfl (wk.heap.size) 0 (#[.int .i64 k.id.1, .int .i64 k.id.2]) ?_); refine And.intro ⟨by rfl, by rfl, ⟨_, Tryz.underlying26, rfl⟩, Sr.info_st⟩ (And.intro (Sr.id_range HK1.out) ?_); (try simp only [Act.put, List.setIfInBounds_toArray, List.set_cons_zero, List.set_cons_succ])) | ((with_reducible refine Who.wpList_loadC 26 (.tmp 3) rfl (w.heap.size) 0 (#[.int .i64 id.1, .int .i64 id.2]) ?_); refine And.intro ⟨by rfl, by rfl, ⟨_, Tryz.underlying26, rfl⟩, Sr.info_st⟩ (And.intro (Who.has_range HI1.out.has) ?_); (try simp only [Act.put, List.setIfInBounds_toArray, List.set_cons_zero, List.set_cons_succ])) | ((with_reducible refine Who.wpList_loadC 24 (.tmp 33) rfl (wk.heap.size) 9 (vecC k.al) ?_); refine And.intro ⟨by rfl, by rfl, ⟨_, Tryz.underlying24, rfl⟩, Sr.info_vec⟩ (And.intro (Sr.al_range HK1.out) ?_); (try simp only [Act.put, List.setIfInBounds_toArray, List.set_cons_zero, List.set_cons_succ])) | fail)
              go_roundw
              case rel => exact ⟨m + 1, by go_num, by omega, HAN, HI1, HE1⟩
              case measure => simp [intOf]; omega
            | false =>
              have HAL := Lib.hid (HKM.out HD.out)
              go_wp2_with (first | ((with_reducible refine Who.wpList_loadC 63 (.tmp 26) rfl (bk) (offk + m * 25) (linkC k) ?_); refine And.intro ⟨by rfl, by rfl, ⟨_, Tryz.underlying63, rfl⟩, Sr.info_link⟩ (And.intro (MRK.out) ?_); (try simp only [Act.put, List.setIfInBounds_toArray, List.set_cons_zero, List.set_cons_succ])) | ((with_reducible refine Who.wpList_newC 63 8 (.tmp 27) rfl rfl rfl (linkC Stl.zeroK) (linkC k) ?_); refine And.intro ⟨rfl, rfl, rfl, hall, by rfl, by rfl, Sr.info_link, rfl, Stl.link_one _⟩ ?_; (try simp only [Act.put, List.setIfInBounds_toArray, List.set_cons_zero, List.set_cons_succ]); (try simp only [World.size_alloc])) | ((with_reducible refine Who.wpList_loadC 26 (.tmp 28) rfl (wk.heap.size) 0 (#[.int .i64 k.id.1, .int .i64 k.id.2]) ?_); refine And.intro ⟨by rfl, by rfl, ⟨_, Tryz.underlying26, rfl⟩, Sr.info_st⟩ (And.intro (Sr.id_range HK1.out) ?_); (try simp only [Act.put, List.setIfInBounds_toArray, List.set_cons_zero, List.set_cons_succ])) | ((with_reducible refine Who.wpList_loadC 26 (.tmp 3) rfl (w.heap.size) 0 (#[.int .i64 id.1, .int .i64 id.2]) ?_); refine And.intro ⟨by rfl, by rfl, ⟨_, Tryz.underlying26, rfl⟩, Sr.info_st⟩ (And.intro (Who.has_range HI1.out.has) ?_); (try simp only [Act.put, List.setIfInBounds_toArray, List.set_cons_zero, List.set_cons_succ])) | ((with_reducible refine Who.wpList_loadC 24 (.tmp 33) rfl (wk.heap.size) 9 (vecC k.al) ?_); refine And.intro ⟨by rfl, by rfl, ⟨_, Tryz.underlying24, rfl⟩, Sr.info_vec⟩ (And.intro (Sr.al_range HK1.out) ?_); (try simp only [Act.put, List.setIfInBounds_toArray, List.set_cons_zero, List.set_cons_succ])) | fail)
              go_loopw [9, 40] (fun sb si wr => ∃ (i : Nat) (kn : Bool), si = .int .i64 i ∧ sb = .bool kn ∧ i ≤ n ∧ Hid (kn = (es.take i).any (fun u => deadB id u && befB e u)) ∧ Hid (UnI id w wr) ∧ Hid (Has wr wo.heap.size 34 (Fc.eventC e))) (fun _ si _ => n - (intOf si).toNat)
              case atStart => exact ⟨0, false, rfl, rfl, Nat.zero_le _, Lib.hid rfl, HI1, HE1⟩
              case round =>
                clear HI1 HE1 q1 q2 HK1 HD
                obtain ⟨i, kn, rfl, rfl, hi, HKN, HI, HE⟩ := hrel
                obtain ⟨wu, hwu⟩ : ∃ wu : World, wu = wr := ⟨_, rfl⟩
                subst hwu
                by_cases hli : i < n
                · obtain ⟨b, off, hA2, hbl, hx, mr⟩ := (HR.out.below HI.out.below).range (i := i) hli
                  cases hA2
                  have HSU := Lib.hid (any_nextG (fun u => deadB id u && befB e u) hx)
                  have hmem := List.getElem_mem hx
                  obtain ⟨u, hu⟩ : ∃ u, u = es[i] := ⟨_, rfl⟩
                  rw [← hu] at mr HSU hmem
                  have HFU := Lib.hid (show ∀ V, Below w.heap.size w V → Fc.StateFit V u.d from fun V h => HF.out V h u hmem)
                  have MRU := Lib.hid mr
                  have hb3 := (Below.refl wu.heap.size wu).alloc (Nat.le_refl _) (.cells (Fc.eventC u) 34)
                  have HIb := Lib.hid (HI.out.low hb3)
                  have HEb := Lib.hid (HE.out.below hb3)
                  have HUb := Lib.hid (Has.fresh wu 34 (Fc.eventC u))
                  have c20 : (wu.alloc (.cells (Fc.eventC u) 34)).cell? ⟨wu.heap.size, 20, none⟩ = some (.slice u.d.A2 u.d.n2 u.d.c2) := HUb.out.at_ 20
                  have mu2 := (HFU.out _ HIb.out.below).m2
                  clear hu mr hx hbl hb3 HI HE hmem
                  go_wp2_with (first | ((with_reducible refine Who.wpList_loadC 34 (.tmp 42) rfl (b) (off + i * 21) (Fc.eventC u) ?_); refine And.intro ⟨by rfl, by rfl, ⟨_, Tryz.underlying34, rfl⟩, Sr.info_event⟩ (And.intro (MRU.out) ?_); (try simp only [Act.put, List.setIfInBounds_toArray, List.set_cons_zero, List.set_cons_succ])) | ((with_reducible refine Who.wpList_newC 34 11 (.tmp 43) rfl rfl rfl (Fc.eventC Sr.zeroE) (Fc.eventC u) ?_); refine And.intro ⟨rfl, rfl, rfl, halv, by rfl, by rfl, Sr.info_event, rfl, Sr.event_one _⟩ ?_; (try simp only [Act.put, List.setIfInBounds_toArray, List.set_cons_zero, List.set_cons_succ]); (try simp only [World.size_alloc])) | fail)
                  go_loopw [9, 48] (fun sb si wr => ∃ (r : Nat) (kx : Bool), si = .int .i64 r ∧ sb = .bool kx ∧ r ≤ u.d.n2 ∧ Hid (kx = ((es.take i).any (fun u => deadB id u && befB e u) || ((u.d.links.take r).any (linkDe id) && befB e u))) ∧ Hid (UnI id w wr) ∧ Hid (Has wr wo.heap.size 34 (Fc.eventC e)) ∧ Hid (Has wr wu.heap.size 34 (Fc.eventC u))) (fun _ si _ => u.d.n2 - (intOf si).toNat)
                  case atStart => exact ⟨0, kn, rfl, rfl, Nat.zero_le _, Lib.hid (by rw [HKN.out]; simp), HIb, HEb, HUb⟩
                  case round =>
                    clear HIb HEb HUb c20
                    obtain ⟨r, kx, rfl, rfl, hr, HAG, HI, HE, HU⟩ := hrel
                    obtain ⟨wx, hwx⟩ : ∃ wx : World, wx = wr := ⟨_, rfl⟩
                    subst hwx
                    by_cases hlr : r < u.d.n2
                    · have hlri : (r : Int) < u.d.n2 := by omega
                      obtain ⟨bx, offx, hA3, hbl, hx, mr⟩ := (HFU.out _ HI.out.below).links.range (i := r) hlr
                      have HST := Lib.hid (any_nextG (linkDe id) hx)
                      obtain ⟨x, hxx⟩ : ∃ x, x = u.d.links[r] := ⟨_, rfl⟩
                      rw [← hxx] at mr HST
                      have MRX := Lib.hid mr
                      have hb4 := (Below.refl wx.heap.size wx).alloc (Nat.le_refl _) (.cells (linkC x) 63)
                      have HI1 := Lib.hid (HI.out.low hb4)
                      have HE1 := Lib.hid (HE.out.below hb4)
                      have HU1 := Lib.hid (HU.out.below hb4)
                      have HX1 := Lib.hid (Has.fresh wx 63 (linkC x))
                      have q1 := fun W => eql_st x.id.1 x.id.2 id.1 id.2 W
                      unfold stC at q1
                      have q2 : ∀ W, (Op.equalIn 10000 24 (.agg (vecC x.de)) (.agg #[.int .i64 0, .int .i64 0, .int .i64 0, .int .i64 0, .int .i64 0, .int .i64 0, .int .i64 0, .int .i64 0])).run Tryz.prog W = .ok (Sr.zero8 x.de) W := fun W => Vc.eqv x.de (fun _ => 0) W
                      have HD := Lib.hid (show linkDe id x = ((x.id.1 == id.1 && x.id.2 == id.2) && !Sr.zero8 x.de) from rfl)
                      have HBF := Lib.hid (fun V => rbefore_any e u V)
                      obtain ⟨z1, hz1⟩ : ∃ z1, z1 = (x.id.1 == id.1 && x.id.2 == id.2) := ⟨_, rfl⟩
                      obtain ⟨z2, hz2⟩ : ∃ z2, z2 = Sr.zero8 x.de := ⟨_, rfl⟩
                      rw [← hz1] at q1 HD
                      rw [← hz2] at q2 HD
                      clear hz1 hz2 hxx mr hx hbl hb4 HI HE HU
                      rw [hA3]
                      cases kx with
                      | true =>
                        have HAN := Lib.hid (show true = ((es.take i).any (fun u => deadB id u && befB e u) || ((u.d.links.take (r + 1)).any (linkDe id) && befB e u)) by rw [HST.out, bool4]; rw [← HAG.out]; rfl)
                        go_wp2_with (first | ((with_reducible refine Who.wpList_loadC 63 (.tmp 50) rfl (bx) (offx + r * 25) (linkC x) ?_); refine And.intro ⟨by rfl, by rfl, ⟨_, Tryz.underlying63, rfl⟩, Sr.info_link⟩ (And.intro (MRX.out) ?_); (try simp only [Act.put, List.setIfInBounds_toArray, List.set_cons_zero, List.set_cons_succ])) | ((with_reducible refine Who.wpList_newC 63 13 (.tmp 51) rfl rfl rfl (linkC Stl.zeroK) (linkC x) ?_); refine And.intro ⟨rfl, rfl, rfl, hall, by rfl, by rfl, Sr.info_link, rfl, Stl.link_one _⟩ ?_; (try simp only [Act.put, List.setIfInBounds_toArray, List.set_cons_zero, List.set_cons_succ]); (try simp only [World.size_alloc])) | fail)
                        go_roundw
                        case rel => exact ⟨r + 1, true, by go_num, rfl, by omega, HAN, HI1, HE1, HU1⟩
                        case measure => simp [intOf]; omega
                      | false =>
                        cases z1 with
                        | false =>
                          have HAN := Lib.hid (show false = ((es.take i).any (fun u => deadB id u && befB e u) || ((u.d.links.take (r + 1)).any (linkDe id) && befB e u)) by rw [HST.out, bool4]; rw [← HAG.out]; rw [HD.out]; rfl)
                          go_wp2_with (first | ((with_reducible refine Who.wpList_loadC 63 (.tmp 50) rfl (bx) (offx + r * 25) (linkC x) ?_); refine And.intro ⟨by rfl, by rfl, ⟨_, Tryz.underlying63, rfl⟩, Sr.info_link⟩ (And.intro (MRX.out) ?_); (try simp only [Act.put, List.setIfInBounds_toArray, List.set_cons_zero, List.set_cons_succ])) | ((with_reducible refine Who.wpList_newC 63 13 (.tmp 51) rfl rfl rfl (linkC Stl.zeroK) (linkC x) ?_); refine And.intro ⟨rfl, rfl, rfl, hall, by rfl, by rfl, Sr.info_link, rfl, Stl.link_one _⟩ ?_; (try simp only [Act.put, List.setIfInBounds_toArray, List.set_cons_zero, List.set_cons_succ]); (try simp only [World.size_alloc])) | ((with_reducible refine Who.wpList_loadC 26 (.tmp 54) rfl (wx.heap.size) 0 (#[.int .i64 x.id.1, .int .i64 x.id.2]) ?_); refine And.intro ⟨by rfl, by rfl, ⟨_, Tryz.underlying26, rfl⟩, Sr.info_st⟩ (And.intro (Sr.id_range HX1.out) ?_); (try simp only [Act.put, List.setIfInBounds_toArray, List.set_cons_zero, List.set_cons_succ])) | ((with_reducible refine Who.wpList_loadC 26 (.tmp 3) rfl (w.heap.size) 0 (#[.int .i64 id.1, .int .i64 id.2]) ?_); refine And.intro ⟨by rfl, by rfl, ⟨_, Tryz.underlying26, rfl⟩, Sr.info_st⟩ (And.intro (Who.has_range HI1.out.has) ?_); (try simp only [Act.put, List.setIfInBounds_toArray, List.set_cons_zero, List.set_cons_succ])) | fail)
                          go_roundw
                          case rel => exact ⟨r + 1, false, by go_num, rfl, by omega, HAN, HI1, HE1, HU1⟩
                          case measure => simp [intOf]; omega
                        | true =>
                          cases z2 with
                          | true =>
                            have HAN := Lib.hid (show false = ((es.take i).any (fun u => deadB id u && befB e u) || ((u.d.links.take (r + 1)).any (linkDe id) && befB e u)) by rw [HST.out, bool4]; rw [← HAG.out]; rw [HD.out]; rfl)
                            go_wp2_with (first | ((with_reducible refine Who.wpList_loadC 63 (.tmp 50) rfl (bx) (offx + r * 25) (linkC x) ?_); refine And.intro ⟨by rfl, by rfl, ⟨_, Tryz.underlying63, rfl⟩, Sr.info_link⟩ (And.intro (MRX.out) ?_); (try simp only [Act.put, List.setIfInBounds_toArray, List.set_cons_zero, List.set_cons_succ])) | ((with_reducible refine Who.wpList_newC 63 13 (.tmp 51) rfl rfl rfl (linkC Stl.zeroK) (linkC x) ?_); refine And.intro ⟨rfl, rfl, rfl, hall, by rfl, by rfl, Sr.info_link, rfl, Stl.link_one _⟩ ?_; (try simp only [Act.put, List.setIfInBounds_toArray, List.set_cons_zero, List.set_cons_succ]); (try simp only [World.size_alloc])) | ((with_reducible refine Who.wpList_loadC 26 (.tmp 54) rfl (wx.heap.size) 0 (#[.int .i64 x.id.1, .int .i64 x.id.2]) ?_); refine And.intro ⟨by rfl, by rfl, ⟨_, Tryz.underlying26, rfl⟩, Sr.info_st⟩ (And.intro (Sr.id_range HX1.out) ?_); (try simp only [Act.put, List.setIfInBounds_toArray, List.set_cons_zero, List.set_cons_succ])) | ((with_reducible refine Who.wpList_loadC 26 (.tmp 3) rfl (w.heap.size) 0 (#[.int .i64 id.1, .int .i64 id.2]) ?_); refine And.intro ⟨by rfl, by rfl, ⟨_, Tryz.underlying26, rfl⟩, Sr.info_st⟩ (And.intro (Who.has_range HI1.out.has) ?_); (try simp only [Act.put, List.setIfInBounds_toArray, List.set_cons_zero, List.set_cons_succ])) | ((with_reducible refine Who.wpList_loadC 24 (.tmp 59) rfl (wx.heap.size) 17 (vecC x.de) ?_); refine And.intro ⟨by rfl, by rfl, ⟨_, Tryz.underlying24, rfl⟩, Sr.info_vec⟩ (And.intro (Sr.de_range HX1.out) ?_); (try simp only [Act.put, List.setIfInBounds_toArray, List.set_cons_zero, List.set_cons_succ])) | fail)
                            go_roundw
                            case rel => exact ⟨r + 1, false, by go_num, rfl, by omega, HAN, HI1, HE1, HU1⟩
                            case measure => simp [intOf]; omega
                          | false =>
                            have HAN := Lib.hid (show befB e u = ((es.take i).any (fun u => deadB id u && befB e u) || ((u.d.links.take (r + 1)).any (linkDe id) && befB e u)) by rw [HST.out, bool4]; rw [← HAG.out]; rw [HD.out]; simp)
                            go_wp2_with (first | ((with_reducible refine Who.wpList_loadC 63 (.tmp 50) rfl (bx) (offx + r * 25) (linkC x) ?_); refine And.intro ⟨by rfl, by rfl, ⟨_, Tryz.underlying63, rfl⟩, Sr.info_link⟩ (And.intro (MRX.out) ?_); (try simp only [Act.put, List.setIfInBounds_toArray, List.set_cons_zero, List.set_cons_succ])) | ((with_reducible refine Who.wpList_newC 63 13 (.tmp 51) rfl rfl rfl (linkC Stl.zeroK) (linkC x) ?_); refine And.intro ⟨rfl, rfl, rfl, hall, by rfl, by rfl, Sr.info_link, rfl, Stl.link_one _⟩ ?_; (try simp only [Act.put, List.setIfInBounds_toArray, List.set_cons_zero, List.set_cons_succ]); (try simp only [World.size_alloc])) | ((with_reducible refine Who.wpList_loadC 26 (.tmp 54) rfl (wx.heap.size) 0 (#[.int .i64 x.id.1, .int .i64 x.id.2]) ?_); refine And.intro ⟨by rfl, by rfl, ⟨_, Tryz.underlying26, rfl⟩, Sr.info_st⟩ (And.intro (Sr.id_range HX1.out) ?_); (try simp only [Act.put, List.setIfInBounds_toArray, List.set_cons_zero, List.set_cons_succ])) | ((with_reducible refine Who.wpList_loadC 26 (.tmp 3) rfl (w.heap.size) 0 (#[.int .i64 id.1, .int .i64 id.2]) ?_); refine And.intro ⟨by rfl, by rfl, ⟨_, Tryz.underlying26, rfl⟩, Sr.info_st⟩ (And.intro (Who.has_range HI1.out.has) ?_); (try simp only [Act.put, List.setIfInBounds_toArray, List.set_cons_zero, List.set_cons_succ])) | ((with_reducible refine Who.wpList_loadC 24 (.tmp 59) rfl (wx.heap.size) 17 (vecC x.de) ?_); refine And.intro ⟨by rfl, by rfl, ⟨_, Tryz.underlying24, rfl⟩, Sr.info_vec⟩ (And.intro (Sr.de_range HX1.out) ?_); (try simp only [Act.put, List.setIfInBounds_toArray, List.set_cons_zero, List.set_cons_succ])) | ((with_reducible refine Who.wpList_loadC 34 (.tmp 6) rfl (wo.heap.size) 0 (Fc.eventC e) ?_); refine And.intro ⟨by rfl, by rfl, ⟨_, Tryz.underlying34, rfl⟩, Sr.info_event⟩ (And.intro (Who.has_range HE1.out) ?_); (try simp only [Act.put, List.setIfInBounds_toArray, List.set_cons_zero, List.set_cons_succ])) | ((with_reducible refine Who.wpList_loadC 34 (.tmp 11) rfl (wu.heap.size) 0 (Fc.eventC u) ?_); refine And.intro ⟨by rfl, by rfl, ⟨_, Tryz.underlying34, rfl⟩, Sr.info_event⟩ (And.intro (Who.has_range HU1.out) ?_); (try simp only [Act.put, List.setIfInBounds_toArray, List.set_cons_zero, List.set_cons_succ])) | fail)
                            refine (HBF.out _).mono ?_
                            rintro q w2 ⟨rfl, hb⟩
                            have HI2 := Lib.hid (HI1.out.low hb)
                            have HE2 := Lib.hid (HE1.out.below hb)
                            have HU2 := Lib.hid (HU1.out.below hb)
                            clear hb
                            go_wp2
                            go_roundw
                            case rel => exact ⟨r + 1, befB e u, by go_num, rfl, by omega, HAN, HI2, HE2, HU2⟩
                            case measure => simp [intOf]; omega
                    · have HAE := Lib.hid (show kx = (es.take (i + 1)).any (fun u => deadB id u && befB e u) by
                        have h := HAG.out
                        rw [show u.d.links.take r = u.d.links from List.take_of_length_le (by rw [(HFU.out _ HI.out.below).links.len]; omega)] at h
                        rw [h, HSU.out]
                        rfl)
                      clear HAG
                      go_wp2_with fail
                      go_roundw
                      case rel => exact ⟨i + 1, kx, by go_num, rfl, by omega, HAE, HI, HE⟩
                      case measure => simp [intOf]; omega
                · have HAE := Lib.hid (show kn = knwB es id e by have h := HKN.out; rwa [List.take_of_length_le (by rw [HLN.out]; omega)] at h)
                  clear HKN
                  cases kn with
                  | true =>
                    have HAN := Lib.hid (show (e.d.links.take (m + 1)).any (linkAl id) = true → knwB es id e = true from fun _ => HAE.out.symm)
                    go_wp2_with fail
                    go_roundw
                    case rel => exact ⟨m + 1, by go_num, by omega, HAN, HI, HE⟩
                    case measure => simp [intOf]; omega
                  | false =>
                    have HQ := Lib.hid (show unlB es id = false by rw [HUA.out]; exact HAM.out (by rw [HDE.out, ← HAE.out, show e.d.links.any (linkAl id) = true from HAL.out]; rfl))
                    go_wp2_with fail
                    go_ret
                    exact ⟨by rw [HQ.out]; rfl, HI.out.below⟩
        · have HQ := Lib.hid (HAT.out (by
            have h := HAG.out
            rw [List.take_of_length_le (by rw [(HFW.out _ HI.out.below).links.len]; omega)] at h
            rw [HDE.out]
            cases c : e.d.links.any (linkAl id) with
            | false => rfl
            | true => rw [h c]; rfl))
          go_wp2_with fail
          go_roundw
          case rel => exact ⟨j + 1, by go_num, by omega, HQ, HI⟩
          case measure => simp [intOf]; omega
    · have HQ := Lib.hid (show unlB es id = true by rw [HUA.out]; have h := HOK.out; rwa [List.take_of_length_le (by rw [HLN.out]; omega)] at h)
      go_wp2
      go_ret
      exact ⟨by rw [HQ.out]; rfl, HI.out.below⟩
end Go.Proofs.YtigkdoicmcdbhaaGreat.Md
