/- The example; any event as lines: the law StoryText walked. -/
import Derived.Test.YtdbmnnmcelaehaaDoorSrF
namespace Go.Proofs.YtdbmnnmcelaehaaDoor.Sr
open Go.RowKit Go.Proofs.YtdbmnnmcelaehaaDoor.Mem Go.Proofs.YtdbmnnmcelaehaaDoor.Tx
open Go.Proofs.YtdbmnnmcelaehaaDoor.Fc (fitS NodeP LinkP NodeC PieceP XattrP nodeC linkC pieceC xattrC)
open Go.Proofs.YtdbmnnmcelaehaaDoor.Vc (vecC stC eq8 eqv neq_st eql_st)
set_option linter.unusedVariables false set_option linter.unusedSimpArgs false

def xA : NodeC := ⟨⟨(3, 1), 1, ⟨#[]⟩, (3, 1), 0, 0, (3, 1), 0, [], []⟩, none, 0, 0, none, 0, 0⟩
def kA : LinkP := ⟨(3, 1), (3, 1), (3, 1), (0, 0), ⟨#[102]⟩, fun i => if i = 1 then 3 else 0, fun _ => 0⟩
def eX (g : Nat) : Fc.EventC := ⟨(3, 1), 0, fun _ => 0, ⟨fun _ => 0, some ⟨g + 1, 0, none⟩, 1, 1, some ⟨g + 1 + 1, 0, none⟩, 1, 1, [xA], [kA]⟩⟩
theorem itoa0 : itoaB 0 = ⟨#[48]⟩ := by unfold itoaB Lib.itoa; rw [if_neg (by decide), show (0 : Int).toNat = 0 from rfl, Lib.decDigits_one (by decide)]; rfl
theorem itoa1 : itoaB 1 = ⟨#[49]⟩ := by unfold itoaB Lib.itoa; rw [if_neg (by decide), show (1 : Int).toNat = 1 from rfl, Lib.decDigits_one (by decide)]; rfl
theorem itoa3 : itoaB 3 = ⟨#[51]⟩ := by unfold itoaB Lib.itoa; rw [if_neg (by decide), show (3 : Int).toNat = 3 from rfl, Lib.decDigits_one (by decide)]; rfl
theorem st31 : stampB (3, 1) = ⟨#[51, 46, 49]⟩ := by unfold stampB; rw [itoa3, itoa1]; rfl
theorem st00 : stampB (0, 0) = ⟨#[48, 46, 48]⟩ := by unfold stampB; rw [itoa0]; rfl
theorem partsA : partsN xA.p = [⟨#[102, 105, 108, 101]⟩, ⟨#[97, 116, 116, 114]⟩, ⟨#[115, 105, 122, 101, 58, 48]⟩] := by
  show ([⟨#[102, 105, 108, 101]⟩] ++ [atW] ++ [⟨#[115, 105, 122, 101, 58]⟩ ++ itoaB 0] ++ [] ++ []) = _
  rw [itoa0]; rfl
theorem partsK : partsL kA = [⟨#[112, 108, 97, 99, 101, 58, 48, 46, 48, 47, 102]⟩, ⟨#[97, 108, 105, 118, 101]⟩] := by
  show ([placeB kA] ++ [alW] ++ []) = _
  unfold placeB
  rw [show stampB kA.par = ⟨#[48, 46, 48]⟩ from st00]; rfl
theorem textA (g : Nat) : textE (eX g) = [⟨#[101, 118, 101, 110, 116, 32, 51, 46, 49, 32, 118, 48]⟩, ⟨#[105, 110, 111, 100, 101, 32, 51, 46, 49, 32, 102, 105, 108, 101, 44, 97, 116, 116, 114, 44, 115, 105, 122, 101, 58, 48]⟩, ⟨#[108, 105, 110, 107, 32, 51, 46, 49, 32, 112, 108, 97, 99, 101, 58, 48, 46, 48, 47, 102, 44, 97, 108, 105, 118, 101]⟩] := by
  show [headB (eX g)] ++ [lineB ⟨#[105, 110, 111, 100, 101]⟩ (3, 1) (partsN xA.p)] ++ [lineB ⟨#[108, 105, 110, 107]⟩ (3, 1) (partsL kA)] = _
  rw [partsA, partsK]
  unfold headB lineB
  rw [show stampB (eX g).at_ = ⟨#[51, 46, 49]⟩ from st31, show itoaB (eX g).vol = ⟨#[48]⟩ from itoa0, st31]
  rfl
theorem fitA (g : Nat) {w : World} (h1 : Has w (g + 1) 62 (nodeC xA)) (h2 : Has w (g + 1 + 1) 66 (linkC kA)) : Fc.EventFit w (eX g) ∧ Fc.BndS 1048576 (eX g).d := by
  have z : fitI 0 := by unfold fitI; omega
  have o1 : fitI 1 := by unfold fitI; omega
  have t3 : fitI 3 := by unfold fitI; omega
  have s3 : fitS (3, 1) := ⟨t3, o1⟩
  have s0 : fitS (0, 0) := ⟨z, z⟩
  refine ⟨⟨⟨srow_one h1, srow_one h2, by show 1 ≤ 9223372036854775807; decide, by show 1 ≤ 9223372036854775807; decide, fun x hx => ?_, fun x hx => ?_⟩, ⟨fun i hi => z, fun x hx => ?_, fun x hx => ?_⟩, s3, z, fun i hi => z⟩, ⟨⟨by show 1 ≤ 1048576; decide, by show 1 ≤ 1048576; decide⟩, fun x hx => ?_, fun x hx => ?_⟩⟩
  · obtain rfl : x = xA := by simpa [eX] using hx
    exact ⟨Fc.SRow.nil _ _ _, Fc.SRow.nil _ _ _, by decide, by decide, by decide, by decide, fun p hp => (List.not_mem_nil hp).elim, fun p hp => (List.not_mem_nil hp).elim⟩
  · obtain rfl : x = kA := by simpa [eX] using hx
    decide
  · obtain rfl : x = xA := by simpa [eX] using hx
    exact ⟨s3, o1, ⟨s3, z⟩, ⟨s3, z⟩, fun p hp => (List.not_mem_nil hp).elim, fun p hp => (List.not_mem_nil hp).elim⟩
  · obtain rfl : x = kA := by simpa [eX] using hx
    refine ⟨s3, s3, s3, s0, fun i hi => ?_, fun i hi => z⟩
    show fitI (if i = 1 then 3 else 0)
    split
    · exact t3
    · exact z
  · obtain rfl : x = xA := by simpa [eX] using hx
    exact ⟨by decide, by decide, fun p hp => (List.not_mem_nil hp).elim⟩
  · obtain rfl : x = kA := by simpa [eX] using hx
    decide
theorem wpList_build_evW {ops : Array Oper} {rest : List Oper} {o : Oper} {a : Act} {w : World} {Q : Exit → Act → World → Prop} (x : Operand) (ho : o.op = .buildSlice 38 1 #[(0, x)]) (e : Fc.EventC)
    (h : (Region.wanted o (yielded ops a.tmps) = true ∧ a.eval x = .agg (Fc.eventC e)) ∧ wpList Tryd.prog ops Q rest (a.put o.dst (.slice (some ⟨w.heap.size, 0, none⟩) 1 1)) (w.alloc (.cells (Fc.eventC e) 31))) : wpList Tryd.prog ops Q (o :: rest) a w := by
  obtain ⟨⟨h1, h2⟩, h3⟩ := h
  obtain ⟨i, q0, q1, q2, q3⟩ := info_parts_ev
  refine wpList_step fun K hK => ?_
  rw [if_pos h1]
  refine wp_buildSlice 38 31 1 _ ho (Fc.eventC e) i _ Tryd.underlying38 q0 q1 (by omega) (by omega) ?_ (hK _ _ h3)
  have e1 : (#[(0, x)] : Array (Nat × Operand)).map (fun (i, x) => (i, a.eval x)) = #[(0, .agg (Fc.eventC e))] := by simp [h2]
  rw [e1, q2]
  exact fill_ev e
set_option maxRecDepth 100000 in
set_option maxHeartbeats 4000000 in
theorem awake_any (w : World) (hT : Tabs w) : Calls Tryd.prog 10 #[] w fun e w' => e = .returned (.bool true) ∧ Below w.heap.size w w' := by
  have hb4 := ((((Below.refl w.heap.size w).alloc (Nat.le_refl _) (.cells #[.int .i64 3, .int .i64 1] 23)).alloc (by simp) (.cells (nodeC xA) 62)).alloc (by simp; omega) (.cells (linkC kA) 66)).alloc (by simp; omega) (.cells (Fc.eventC (eX w.heap.size)) 31)
  have HB4 := Lib.hid hb4
  have HT4 := Lib.hid (hT.self hb4)
  have HS1 := Lib.hid (Has.fresh w 23 #[.int .i64 3, .int .i64 1])
  have HS2 := Lib.hid (HS1.out.past (.cells (nodeC xA) 62))
  have HS3 := Lib.hid (HS2.out.past (.cells (linkC kA) 66))
  have HS4 := Lib.hid (HS3.out.past (.cells (Fc.eventC (eX w.heap.size)) 31))
  have n1 : Has ((w.alloc (.cells #[.int .i64 3, .int .i64 1] 23)).alloc (.cells (nodeC xA) 62)) (w.heap.size + 1) 62 (nodeC xA) := by have q := Has.fresh (w.alloc (.cells #[.int .i64 3, .int .i64 1] 23)) 62 (nodeC xA); rw [World.size_alloc] at q; exact q
  have l1 : Has (((w.alloc (.cells #[.int .i64 3, .int .i64 1] 23)).alloc (.cells (nodeC xA) 62)).alloc (.cells (linkC kA) 66)) (w.heap.size + 1 + 1) 66 (linkC kA) := by have q := Has.fresh ((w.alloc (.cells #[.int .i64 3, .int .i64 1] 23)).alloc (.cells (nodeC xA) 62)) 66 (linkC kA); rw [World.size_alloc, World.size_alloc] at q; exact q
  have e1 : Has ((((w.alloc (.cells #[.int .i64 3, .int .i64 1] 23)).alloc (.cells (nodeC xA) 62)).alloc (.cells (linkC kA) 66)).alloc (.cells (Fc.eventC (eX w.heap.size)) 31)) (w.heap.size + 1 + 1 + 1) 31 (Fc.eventC (eX w.heap.size)) := by have q := Has.fresh (((w.alloc (.cells #[.int .i64 3, .int .i64 1] 23)).alloc (.cells (nodeC xA) 62)).alloc (.cells (linkC kA) 66)) 31 (Fc.eventC (eX w.heap.size)); rw [World.size_alloc, World.size_alloc, World.size_alloc] at q; exact q
  have HN4 := Lib.hid ((n1.past (.cells (linkC kA) 66)).past (.cells (Fc.eventC (eX w.heap.size)) 31))
  have HL4 := Lib.hid (l1.past (.cells (Fc.eventC (eX w.heap.size)) 31))
  have HE4 := Lib.hid e1
  have halv := alloc_event
  clear hb4 hT n1 l1 e1
  go_enter Tryd.func10, Tryd.ntmps10
  go_wp2_with (first | ((with_reducible refine Who.wpList_loadC 23 (.tmp 1) rfl w.heap.size 0 (#[.int .i64 3, .int .i64 1]) ?_); refine And.intro ⟨by rfl, by rfl, ⟨_, Tryd.underlying23, rfl⟩, info_st⟩ (And.intro (by first | exact Who.has_range HS1.out | exact Who.has_range HS2.out | exact Who.has_range HS3.out) ?_); (try simp only [Act.put, List.setIfInBounds_toArray, List.set_cons_zero, List.set_cons_succ])) | ((with_reducible refine Who.wpList_newC 31 2 (.tmp 19) rfl rfl rfl (Fc.eventC zeroE) (Fc.eventC (eX w.heap.size)) ?_); refine And.intro ⟨rfl, rfl, rfl, halv, by rfl, by rfl, info_event, rfl, event_one _⟩ ?_; (try simp only [Act.put, List.setIfInBounds_toArray, List.set_cons_zero, List.set_cons_succ]); (try simp only [World.size_alloc])) | ((with_reducible refine Who.wpList_loadC 31 (.tmp 2) rfl (w.heap.size + 1 + 1 + 1) 0 (Fc.eventC (eX w.heap.size)) ?_); refine And.intro ⟨by rfl, by rfl, ⟨_, Tryd.underlying31, rfl⟩, info_event⟩ (And.intro (Who.has_range HE4.out) ?_); (try simp only [Act.put, List.setIfInBounds_toArray, List.set_cons_zero, List.set_cons_succ])) | fail)
  refine (text_any (eX w.heap.size) _ (fitA w.heap.size HN4.out HL4.out).1 (fitA w.heap.size HN4.out HL4.out).2 HT4.out).mono ?_
  rintro q w5 ⟨u, rfl, hu, hb⟩
  have HB5 := Lib.hid (HB4.out.trans (hb.mono HB4.out.size))
  have HU5 := Lib.hid (own1_below hu ((Below.refl w5.heap.size w5).alloc (Nat.le_refl _) (.cells #[.string ⟨#[101, 118, 101, 110, 116, 32, 51, 46, 49, 32, 118, 48]⟩, .string ⟨#[105, 110, 111, 100, 101, 32, 51, 46, 49, 32, 102, 105, 108, 101, 44, 97, 116, 116, 114, 44, 115, 105, 122, 101, 58, 48]⟩, .string ⟨#[108, 105, 110, 107, 32, 51, 46, 49, 32, 112, 108, 97, 99, 101, 58, 48, 46, 48, 47, 102, 44, 97, 108, 105, 118, 101]⟩] 9)))
  have HB6 := Lib.hid (HB5.out.alloc HB5.out.size (.cells #[.string ⟨#[101, 118, 101, 110, 116, 32, 51, 46, 49, 32, 118, 48]⟩, .string ⟨#[105, 110, 111, 100, 101, 32, 51, 46, 49, 32, 102, 105, 108, 101, 44, 97, 116, 116, 114, 44, 115, 105, 122, 101, 58, 48]⟩, .string ⟨#[108, 105, 110, 107, 32, 51, 46, 49, 32, 112, 108, 97, 99, 101, 58, 48, 46, 48, 47, 102, 44, 97, 108, 105, 118, 101]⟩] 9))
  have HL6 := Lib.hid (own_lit (B := 0) (l := [⟨#[101, 118, 101, 110, 116, 32, 51, 46, 49, 32, 118, 48]⟩, ⟨#[105, 110, 111, 100, 101, 32, 51, 46, 49, 32, 102, 105, 108, 101, 44, 97, 116, 116, 114, 44, 115, 105, 122, 101, 58, 48]⟩, ⟨#[108, 105, 110, 107, 32, 51, 46, 49, 32, 112, 108, 97, 99, 101, 58, 48, 46, 48, 47, 102, 44, 97, 108, 105, 118, 101]⟩]) (Has.fresh w5 9 #[.string ⟨#[101, 118, 101, 110, 116, 32, 51, 46, 49, 32, 118, 48]⟩, .string ⟨#[105, 110, 111, 100, 101, 32, 51, 46, 49, 32, 102, 105, 108, 101, 44, 97, 116, 116, 114, 44, 115, 105, 122, 101, 58, 48]⟩, .string ⟨#[108, 105, 110, 107, 32, 51, 46, 49, 32, 112, 108, 97, 99, 101, 58, 48, 46, 48, 47, 102, 44, 97, 108, 105, 118, 101]⟩]) (Nat.zero_le _) rfl (by decide))
  have HS6 := Lib.hid ((HS4.out.below hb).past (.cells #[.string ⟨#[101, 118, 101, 110, 116, 32, 51, 46, 49, 32, 118, 48]⟩, .string ⟨#[105, 110, 111, 100, 101, 32, 51, 46, 49, 32, 102, 105, 108, 101, 44, 97, 116, 116, 114, 44, 115, 105, 122, 101, 58, 48]⟩, .string ⟨#[108, 105, 110, 107, 32, 51, 46, 49, 32, 112, 108, 97, 99, 101, 58, 48, 46, 48, 47, 102, 44, 97, 108, 105, 118, 101]⟩] 9))
  have HN6 := Lib.hid ((HN4.out.below hb).past (.cells #[.string ⟨#[101, 118, 101, 110, 116, 32, 51, 46, 49, 32, 118, 48]⟩, .string ⟨#[105, 110, 111, 100, 101, 32, 51, 46, 49, 32, 102, 105, 108, 101, 44, 97, 116, 116, 114, 44, 115, 105, 122, 101, 58, 48]⟩, .string ⟨#[108, 105, 110, 107, 32, 51, 46, 49, 32, 112, 108, 97, 99, 101, 58, 48, 46, 48, 47, 102, 44, 97, 108, 105, 118, 101]⟩] 9))
  have HE6 := Lib.hid ((HE4.out.below hb).past (.cells #[.string ⟨#[101, 118, 101, 110, 116, 32, 51, 46, 49, 32, 118, 48]⟩, .string ⟨#[105, 110, 111, 100, 101, 32, 51, 46, 49, 32, 102, 105, 108, 101, 44, 97, 116, 116, 114, 44, 115, 105, 122, 101, 58, 48]⟩, .string ⟨#[108, 105, 110, 107, 32, 51, 46, 49, 32, 112, 108, 97, 99, 101, 58, 48, 46, 48, 47, 102, 44, 97, 108, 105, 118, 101]⟩] 9))
  have HTX := Lib.hid (textA w.heap.size)
  clear hu hb HS1 HS2 HS3 HS4 HN4 HL4 HE4 HB4 HT4 halv
  go_wp2_with fail
  refine (eqs_own u _ _ 0 _ [⟨#[101, 118, 101, 110, 116, 32, 51, 46, 49, 32, 118, 48]⟩, ⟨#[105, 110, 111, 100, 101, 32, 51, 46, 49, 32, 102, 105, 108, 101, 44, 97, 116, 116, 114, 44, 115, 105, 122, 101, 58, 48]⟩, ⟨#[108, 105, 110, 107, 32, 51, 46, 49, 32, 112, 108, 97, 99, 101, 58, 48, 46, 48, 47, 102, 44, 97, 108, 105, 118, 101]⟩] (by rw [HTX.out]; decide) (by decide) (by rw [HTX.out]; decide) (by decide) _ HU5.out HL6.out).mono ?_
  rintro q w7 ⟨rfl, hb⟩
  rw [show decide (textE (eX w.heap.size) = [⟨#[101, 118, 101, 110, 116, 32, 51, 46, 49, 32, 118, 48]⟩, ⟨#[105, 110, 111, 100, 101, 32, 51, 46, 49, 32, 102, 105, 108, 101, 44, 97, 116, 116, 114, 44, 115, 105, 122, 101, 58, 48]⟩, ⟨#[108, 105, 110, 107, 32, 51, 46, 49, 32, 112, 108, 97, 99, 101, 58, 48, 46, 48, 47, 102, 44, 97, 108, 105, 118, 101]⟩]) = true from decide_eq_true HTX.out]
  have HB7 := Lib.hid (HB6.out.trans (hb.mono HB6.out.size))
  have HS7 := Lib.hid (HS6.out.below hb)
  have HN7 := Lib.hid (HN6.out.below hb)
  have HE7 := Lib.hid (HE6.out.below hb)
  have HB8 := Lib.hid (HB7.out.alloc HB7.out.size (.cells (Fc.eventC (eX w.heap.size)) 31))
  have HS8 := Lib.hid (HS7.out.past (.cells (Fc.eventC (eX w.heap.size)) 31))
  have HA8 := Lib.hid (about_one (some ⟨w7.heap.size, 0, none⟩) 1 (eX w.heap.size) xA (3, 1) _ (srow_one (Has.fresh w7 31 (Fc.eventC (eX w.heap.size)))) (srow_one (HN7.out.past (.cells (Fc.eventC (eX w.heap.size)) 31))) rfl rfl)
  clear hb HB5 HB6 HU5 HL6 HS6 HN6 HE6 HTX
  go_wp2_with (first | ((with_reducible refine Who.wpList_loadC 31 (.tmp 2) rfl (w.heap.size + 1 + 1 + 1) 0 (Fc.eventC (eX w.heap.size)) ?_); refine And.intro ⟨by rfl, by rfl, ⟨_, Tryd.underlying31, rfl⟩, info_event⟩ (And.intro (Who.has_range HE7.out) ?_); (try simp only [Act.put, List.setIfInBounds_toArray, List.set_cons_zero, List.set_cons_succ])) | ((with_reducible refine wpList_build_evW (.tmp 25) rfl (eX w.heap.size) ?_); refine And.intro ⟨by rfl, by rfl⟩ ?_; (try simp only [Act.put, List.setIfInBounds_toArray, List.set_cons_zero, List.set_cons_succ])) | ((with_reducible refine Who.wpList_loadC 23 (.tmp 1) rfl w.heap.size 0 (#[.int .i64 3, .int .i64 1]) ?_); refine And.intro ⟨by rfl, by rfl, ⟨_, Tryd.underlying23, rfl⟩, info_st⟩ (And.intro (Who.has_range HS8.out) ?_); (try simp only [Act.put, List.setIfInBounds_toArray, List.set_cons_zero, List.set_cons_succ])) | fail)
  refine HA8.out.mono ?_
  rintro q w9 ⟨⟨A9, c9, rfl⟩, hb⟩
  have HB9 := Lib.hid (HB8.out.trans (hb.mono HB8.out.size))
  clear hb
  go_wp2
  go_ret
  exact ⟨rfl, HB9.out⟩
theorem step_build_ev {ops : Array Oper} {o : Oper} {a : Act} {w : World} {K : Act → World → Prop} {Q : Exit → Act → World → Prop} {E : Prop} (x : Operand) (ho : o.op = .buildSlice 38 1 #[(0, x)]) (e : Fc.EventC)
    (h : (Region.wanted o (yielded ops a.tmps) = true ∧ a.eval x = .agg (Fc.eventC e)) ∧ K (a.put o.dst (.slice (some ⟨w.heap.size, 0, none⟩) 1 1)) (w.alloc (.cells (Fc.eventC e) 31))) :
    if Region.wanted o (yielded ops a.tmps) = true then Oper.wp Tryd.prog o a w K Q else E := by
  obtain ⟨⟨h1, h2⟩, h3⟩ := h
  obtain ⟨i, q0, q1, q2, q3⟩ := info_parts_ev
  rw [if_pos h1]
  refine wp_buildSlice 38 31 1 _ ho (Fc.eventC e) i _ Tryd.underlying38 q0 q1 (by omega) (by omega) ?_ h3
  have e1 : (#[(0, x)] : Array (Nat × Operand)).map (fun (i, x) => (i, a.eval x)) = #[(0, .agg (Fc.eventC e))] := by simp [h2]
  rw [e1, q2]
  exact fill_ev e
theorem textE_pos (e : Fc.EventC) : 0 < (textE e).length := by unfold textE; simp
theorem textE_len {e : Fc.EventC} {w : World} (h : Fc.BndS 1048576 e.d) (he : Fc.EventFit w e) : (textE e).length ≤ 9223372036854775807 := by
  have h1 := h.1.1
  have h2 := h.1.2
  have h3 := he.1.nodes.len
  have h4 := he.1.links.len
  unfold textE nodeLines linkLines
  rw [List.length_append, List.length_append, List.length_map, List.length_map, List.length_singleton]
  omega
set_option maxRecDepth 100000 in
set_option maxHeartbeats 4000000 in
theorem story_walk (W : World) (e : Fc.EventC) (he : Fc.EventFit W e) (hbd : Fc.BndS 1048576 e.d) (hT : Tabs W) : Calls Tryd.prog 3 #[.agg (Fc.eventC e)] W fun q w' => q = .returned (.bool true) ∧ Below W.heap.size W w' := by
  have H0 := Lib.hid (BxI.start W 31 (Fc.eventC e))
  have HFE := Lib.hid (show ∀ V, Below W.heap.size W V → Fc.EventFit V e from fun V h => ⟨he.1.below h, he.2⟩)
  have HTT := Lib.hid (show ∀ V, Below W.heap.size W V → Tabs V from fun V h => hT.self h)
  have HBD := Lib.hid hbd
  have HLE := Lib.hid (textE_len hbd he)
  have HSE := Lib.hid (show ∀ V, Below W.heap.size W V → ∀ q ∈ [e], Fc.StateFit V q.d from fun V h q hq => by
    have h1 : q = e := by simpa using hq
    subst h1
    exact (he.1.below h))
  have HSK := Lib.hid (show ∀ V, Has V W.heap.size 31 (Fc.eventC e) → (V.rangeAt W.heap.size 0 (Fc.eventC e).toList ∧ True) from fun V h => ⟨Who.has_range h, trivial⟩)
  clear he hbd hT
  go_enter Tryd.func3, Tryd.ntmps3
  go_wp2
  have HR0 := Lib.hid (H0.out.low ((Below.refl _ _).drew))
  refine wp_region_held_drew (S := fun V => V.rangeAt W.heap.size 0 (Fc.eventC e).toList ∧ True) (by kernel_rfl) (HSK.out _ HR0.out.has) (fun hHeld => ?_)
  refine Vc.wpAnyH_read (i := 0) (d := some 3) (v := .agg (Fc.eventC e)) (by rfl) (by rfl) (by kernel_rfl) (by kernel_rfl) (by kernel_rfl) (fun _ _ _ h => h) (by rfl) ?hyy1 (by assumption) ?resty1
  case hyy1 =>
    intro w hSw
    obtain ⟨s0, s1⟩ := hSw
    exact Who.exec_loadA _ rfl rfl s0 Tryd.underlying31 rfl info_event
  (try simp only [Act.put, List.setIfInBounds_toArray, List.set_cons_zero, List.set_cons_succ])
  refine wpAnyH_ready (rs := [1]) (by kernel_rfl) (by simp) ?_
  refine AllReadyH.cons rfl (fun K hK => ?_) AllReadyH.nil
  refine step_build_ev (.tmp 3) (by rfl) e ?_
  refine And.intro ⟨by rfl, by rfl⟩ ?_
  have HR1 := Lib.hid (H0.out.low (((Below.refl _ _).alloc (Nat.le_refl _) (.cells (Fc.eventC e) 31)).drew))
  have n1 : Has ((W.alloc (.cells (Fc.eventC e) 31)).alloc (.cells (Fc.eventC e) 31)) (W.heap.size + 1) 31 (Fc.eventC e) := by have q := Has.fresh (W.alloc (.cells (Fc.eventC e) 31)) 31 (Fc.eventC e); rw [World.size_alloc] at q; exact q
  have HSR := Lib.hid (srow_one (k := 21) (n1.below ((Below.refl _ _).drew)))
  clear n1
  go_simp
  refine hK.out _ _ (HSK.out _ HR1.out.has) (fun hHeld => ?_)
  clear hK K
  (try simp only [Act.put, List.setIfInBounds_toArray, List.set_cons_zero, List.set_cons_succ])
  refine wpAnyH_ready (rs := [2]) (by kernel_rfl) (by simp) ?_
  refine AllReadyH.cons rfl (fun K hK => ?_) AllReadyH.nil
  go_simp
  go_at_call 6
  refine (small_any _ 1 1 [e] (by decide) _ HSR.out (HSE.out _ HR1.out.below)).mono ?_
  rintro q w2 ⟨⟨z, rfl⟩, hb⟩
  have HR2 := Lib.hid (HR1.out.low hb)
  clear hb HSR
  refine hK.out _ _ (HSK.out _ HR2.out.has) (fun hHeld => ?_)
  clear hK K
  (try simp only [Act.put, List.setIfInBounds_toArray, List.set_cons_zero, List.set_cons_succ])
  cases z with
  | false =>
    refine Vc.wpAnyH_read (i := 3) (d := some 6) (v := ?vy2) (by rfl) (by rfl) (by kernel_rfl) (by kernel_rfl) (by kernel_rfl) (fun _ _ _ h => h) (by rfl) ?hyy2 (by assumption) ?resty2
    case hyy2 =>
      intro w hSw
      obtain ⟨s0, s1⟩ := hSw
      go_simp
      try with_reducible rfl
    (try simp only [Act.put, List.setIfInBounds_toArray, List.set_cons_zero, List.set_cons_succ])
    refine Vc.wpAnyH_read (i := 4) (d := some 7) (v := ?vy3) (by rfl) (by rfl) (by kernel_rfl) (by kernel_rfl) (by kernel_rfl) (fun _ _ _ h => h) (by rfl) ?hyy3 (by assumption) ?resty3
    case hyy3 =>
      intro w hSw
      obtain ⟨s0, s1⟩ := hSw
      go_simp
      try with_reducible rfl
    (try simp only [Act.put, List.setIfInBounds_toArray, List.set_cons_zero, List.set_cons_succ])
    refine Vc.wpAnyH_skip (i := 5) (d := some 8) (by rfl) (by rfl) (by kernel_rfl) (by kernel_rfl) (by kernel_rfl) (fun _ _ _ h => h) (by rfl) (by assumption) ?_
    (try simp only [Act.put, List.setIfInBounds_toArray, List.set_cons_zero, List.set_cons_succ])
    refine Vc.wpAnyH_skip (i := 6) (d := some 9) (by rfl) (by rfl) (by kernel_rfl) (by kernel_rfl) (by kernel_rfl) (fun _ _ _ h => h) (by rfl) (by assumption) ?_
    (try simp only [Act.put, List.setIfInBounds_toArray, List.set_cons_zero, List.set_cons_succ])
    refine Vc.wpAnyH_skip (i := 7) (d := some 10) (by rfl) (by rfl) (by kernel_rfl) (by kernel_rfl) (by kernel_rfl) (fun _ _ _ h => h) (by rfl) (by assumption) ?_
    (try simp only [Act.put, List.setIfInBounds_toArray, List.set_cons_zero, List.set_cons_succ])
    refine Vc.wpAnyH_skip (i := 8) (d := some 11) (by rfl) (by rfl) (by kernel_rfl) (by kernel_rfl) (by kernel_rfl) (fun _ _ _ h => h) (by rfl) (by assumption) ?_
    (try simp only [Act.put, List.setIfInBounds_toArray, List.set_cons_zero, List.set_cons_succ])
    refine Vc.wpAnyH_skip (i := 9) (d := some 12) (by rfl) (by rfl) (by kernel_rfl) (by kernel_rfl) (by kernel_rfl) (fun _ _ _ h => h) (by rfl) (by assumption) ?_
    (try simp only [Act.put, List.setIfInBounds_toArray, List.set_cons_zero, List.set_cons_succ])
    refine Vc.wpAnyH_read (i := 10) (d := some 13) (v := ?vy4) (by rfl) (by rfl) (by kernel_rfl) (by kernel_rfl) (by kernel_rfl) (fun _ _ _ h => h) (by rfl) ?hyy4 (by assumption) ?resty4
    case hyy4 =>
      intro w hSw
      obtain ⟨s0, s1⟩ := hSw
      go_simp
      try with_reducible rfl
    (try simp only [Act.put, List.setIfInBounds_toArray, List.set_cons_zero, List.set_cons_succ])
    refine Vc.wpAnyH_read (i := 11) (d := some 14) (v := ?vy5) (by rfl) (by rfl) (by kernel_rfl) (by kernel_rfl) (by kernel_rfl) (fun _ _ _ h => h) (by rfl) ?hyy5 (by assumption) ?resty5
    case hyy5 =>
      intro w hSw
      obtain ⟨s0, s1⟩ := hSw
      go_simp
      try with_reducible rfl
    (try simp only [Act.put, List.setIfInBounds_toArray, List.set_cons_zero, List.set_cons_succ])
    refine wpAnyH_ready (rs := [12]) (by kernel_rfl) (by simp) ?_
    refine AllReadyH.cons rfl (fun K hK => ?_) AllReadyH.nil
    go_simp
    go_at_call 10
    refine (awake_any _ (HTT.out _ HR2.out.below)).mono ?_
    rintro q wz ⟨rfl, hb⟩
    have HRZ := Lib.hid (HR2.out.low hb)
    clear hb
    refine hK.out _ _ (HSK.out _ HRZ.out.has) (fun hHeld => ?_)
    clear hK K
    (try simp only [Act.put, List.setIfInBounds_toArray, List.set_cons_zero, List.set_cons_succ])
    refine Vc.wpAnyH_read (i := 13) (d := some 16) (v := ?vy6) (by rfl) (by rfl) (by kernel_rfl) (by kernel_rfl) (by kernel_rfl) (fun _ _ _ h => h) (by rfl) ?hyy6 (by assumption) ?resty6
    case hyy6 =>
      intro w hSw
      obtain ⟨s0, s1⟩ := hSw
      go_simp
      try with_reducible rfl
    (try simp only [Act.put, List.setIfInBounds_toArray, List.set_cons_zero, List.set_cons_succ])
    refine Vc.wpAnyH_read (i := 14) (d := some 2) (v := ?vy7) (by rfl) (by rfl) (by kernel_rfl) (by kernel_rfl) (by kernel_rfl) (fun _ _ _ h => h) (by rfl) ?hyy7 (by assumption) ?resty7
    case hyy7 =>
      intro w hSw
      obtain ⟨s0, s1⟩ := hSw
      go_simp
      try with_reducible rfl
    (try simp only [Act.put, List.setIfInBounds_toArray, List.set_cons_zero, List.set_cons_succ])
    refine wpAnyH_done (by kernel_rfl) ?_ _
    go_wp2
    go_ret
    exact ⟨rfl, HRZ.out.below⟩
  | true =>
    refine Vc.wpAnyH_read (i := 3) (d := some 6) (v := ?vy8) (by rfl) (by rfl) (by kernel_rfl) (by kernel_rfl) (by kernel_rfl) (fun _ _ _ h => h) (by rfl) ?hyy8 (by assumption) ?resty8
    case hyy8 =>
      intro w hSw
      obtain ⟨s0, s1⟩ := hSw
      go_simp
      try with_reducible rfl
    (try simp only [Act.put, List.setIfInBounds_toArray, List.set_cons_zero, List.set_cons_succ])
    refine Vc.wpAnyH_read (i := 4) (d := some 7) (v := ?vy9) (by rfl) (by rfl) (by kernel_rfl) (by kernel_rfl) (by kernel_rfl) (fun _ _ _ h => h) (by rfl) ?hyy9 (by assumption) ?resty9
    case hyy9 =>
      intro w hSw
      obtain ⟨s0, s1⟩ := hSw
      go_simp
      try with_reducible rfl
    (try simp only [Act.put, List.setIfInBounds_toArray, List.set_cons_zero, List.set_cons_succ])
    refine Vc.wpAnyH_read (i := 5) (d := some 8) (v := .agg (Fc.eventC e)) (by rfl) (by rfl) (by kernel_rfl) (by kernel_rfl) (by kernel_rfl) (fun _ _ _ h => h) (by rfl) ?hyy10 (by assumption) ?resty10
    case hyy10 =>
      intro w hSw
      obtain ⟨s0, s1⟩ := hSw
      exact Who.exec_loadA _ rfl rfl s0 Tryd.underlying31 rfl info_event
    (try simp only [Act.put, List.setIfInBounds_toArray, List.set_cons_zero, List.set_cons_succ])
    refine Vc.wpAnyH_read (i := 7) (d := some 10) (v := .agg (Fc.eventC e)) (by rfl) (by rfl) (by kernel_rfl) (by kernel_rfl) (by kernel_rfl) (fun _ _ _ h => h) (by rfl) ?hyy11 (by assumption) ?resty11
    case hyy11 =>
      intro w hSw
      obtain ⟨s0, s1⟩ := hSw
      exact Who.exec_loadA _ rfl rfl s0 Tryd.underlying31 rfl info_event
    (try simp only [Act.put, List.setIfInBounds_toArray, List.set_cons_zero, List.set_cons_succ])
    refine wpAnyH_ready (rs := [6]) (by kernel_rfl) (by simp) ?_
    refine AllReadyH.cons rfl (fun K hK => ?_) AllReadyH.nil
    go_simp
    go_at_call 8
    refine (text_any e _ (HFE.out _ HR2.out.below) HBD.out (HTT.out _ HR2.out.below)).mono ?_
    rintro q w3 ⟨u, rfl, hu, hb⟩
    have HR3 := Lib.hid (HR2.out.low hb)
    have HU := Lib.hid hu
    clear hb hu
    refine hK.out _ _ (HSK.out _ HR3.out.has) (fun hHeld => ?_)
    clear hK K
    (try simp only [Act.put, List.setIfInBounds_toArray, List.set_cons_zero, List.set_cons_succ])
    refine wpAnyH_ready (rs := [8]) (by kernel_rfl) (by simp) ?_
    refine AllReadyH.cons rfl (fun K hK => ?_) AllReadyH.nil
    go_simp
    go_at_call 9
    refine (rtext_any e _ (HFE.out _ HR3.out.below) HBD.out).mono ?_
    rintro q w4 ⟨v, rfl, hv, hb⟩
    have HR4 := Lib.hid (HR3.out.low hb)
    have HU4 := Lib.hid (own1_below HU.out hb)
    have HV := Lib.hid hv
    clear hb hv
    refine hK.out _ _ (HSK.out _ HR4.out.has) (fun hHeld => ?_)
    clear hK K
    (try simp only [Act.put, List.setIfInBounds_toArray, List.set_cons_zero, List.set_cons_succ])
    refine wpAnyH_ready (rs := [9]) (by kernel_rfl) (by simp) ?_
    refine AllReadyH.cons rfl (fun K hK => ?_) AllReadyH.nil
    go_simp
    go_at_call 7
    refine (eqs_own u v _ _ (textE e) (textE e) (textE_pos e) (textE_pos e) HLE.out HLE.out _ HU4.out HV.out).mono ?_
    rintro q w5 ⟨rfl, hb⟩
    rw [show decide (textE e = textE e) = true from decide_eq_true rfl]
    have HR5 := Lib.hid (HR4.out.low hb)
    clear hb
    refine hK.out _ _ (HSK.out _ HR5.out.has) (fun hHeld => ?_)
    clear hK K
    (try simp only [Act.put, List.setIfInBounds_toArray, List.set_cons_zero, List.set_cons_succ])
    refine Vc.wpAnyH_read (i := 10) (d := some 13) (v := ?vy12) (by rfl) (by rfl) (by kernel_rfl) (by kernel_rfl) (by kernel_rfl) (fun _ _ _ h => h) (by rfl) ?hyy12 (by assumption) ?resty12
    case hyy12 =>
      intro w hSw
      obtain ⟨s0, s1⟩ := hSw
      go_simp
      try with_reducible rfl
    (try simp only [Act.put, List.setIfInBounds_toArray, List.set_cons_zero, List.set_cons_succ])
    refine Vc.wpAnyH_read (i := 11) (d := some 14) (v := ?vy13) (by rfl) (by rfl) (by kernel_rfl) (by kernel_rfl) (by kernel_rfl) (fun _ _ _ h => h) (by rfl) ?hyy13 (by assumption) ?resty13
    case hyy13 =>
      intro w hSw
      obtain ⟨s0, s1⟩ := hSw
      go_simp
      try with_reducible rfl
    (try simp only [Act.put, List.setIfInBounds_toArray, List.set_cons_zero, List.set_cons_succ])
    refine wpAnyH_ready (rs := [12]) (by kernel_rfl) (by simp) ?_
    refine AllReadyH.cons rfl (fun K hK => ?_) AllReadyH.nil
    go_simp
    go_at_call 10
    refine (awake_any _ (HTT.out _ HR5.out.below)).mono ?_
    rintro q wz ⟨rfl, hb⟩
    have HRZ := Lib.hid (HR5.out.low hb)
    clear hb
    refine hK.out _ _ (HSK.out _ HRZ.out.has) (fun hHeld => ?_)
    clear hK K
    (try simp only [Act.put, List.setIfInBounds_toArray, List.set_cons_zero, List.set_cons_succ])
    refine Vc.wpAnyH_read (i := 13) (d := some 16) (v := ?vy14) (by rfl) (by rfl) (by kernel_rfl) (by kernel_rfl) (by kernel_rfl) (fun _ _ _ h => h) (by rfl) ?hyy14 (by assumption) ?resty14
    case hyy14 =>
      intro w hSw
      obtain ⟨s0, s1⟩ := hSw
      go_simp
      try with_reducible rfl
    (try simp only [Act.put, List.setIfInBounds_toArray, List.set_cons_zero, List.set_cons_succ])
    refine Vc.wpAnyH_read (i := 14) (d := some 2) (v := ?vy15) (by rfl) (by rfl) (by kernel_rfl) (by kernel_rfl) (by kernel_rfl) (fun _ _ _ h => h) (by rfl) ?hyy15 (by assumption) ?resty15
    case hyy15 =>
      intro w hSw
      obtain ⟨s0, s1⟩ := hSw
      go_simp
      try with_reducible rfl
    (try simp only [Act.put, List.setIfInBounds_toArray, List.set_cons_zero, List.set_cons_succ])
    refine wpAnyH_done (by kernel_rfl) ?_ _
    go_wp2
    go_ret
    exact ⟨rfl, HRZ.out.below⟩
end Go.Proofs.YtdbmnnmcelaehaaDoor.Sr
