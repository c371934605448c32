/- A message without what its kind does not have. -/
import Derived.Test.YtfjmcklmoebnaaaDoorNtB
namespace Go.Proofs.YtfjmcklmoebnaaaDoor.Nt
open Go.RowKit Go.Proofs.YtfjmcklmoebnaaaDoor.Mem Go.Proofs.YtfjmcklmoebnaaaDoor.Vc
set_option linter.unusedVariables false set_option linter.unusedSimpArgs false

def bareM (m : MsgP) : MsgP :=
  { m with base := if m.kind = 1 ∨ m.kind = 2 then m.base else (0, 0), mark := if m.kind = 1 ∨ m.kind = 2 ∨ m.kind = 4 then m.mark else (0, 0), ix := if m.kind = 1 ∨ m.kind = 2 then m.ix else 0, tot := if m.kind = 2 then m.tot else 0, data := if m.kind = 2 then m.data else ⟨#[]⟩ }
def coreM (m : MsgP) : MsgP := { m with base := (0, 0), mark := (0, 0), ix := 0, tot := 0, data := ⟨#[]⟩ }
theorem alloc_msg (w : World) : (Instr.alloc 27 true (.tuple #[])).run Tryd.prog w = .ok (.pointer (some ⟨w.heap.size, 0, none⟩)) (w.alloc (.cells (msgC msg0) 27)) := by
  have hz := Tryd.zeroValue27
  go_simp
  rfl
section
variable {w : World} {g : Nat} {t : TypeId} {x : MsgP}
theorem put_base (x : MsgP) (k : Int × Int) : ((msgC x).setIfInBounds 4 (.int .i64 k.1)).setIfInBounds 5 (.int .i64 k.2) = msgC { x with base := k } := rfl
theorem put_mark (x : MsgP) (k : Int × Int) : ((msgC x).setIfInBounds 6 (.int .i64 k.1)).setIfInBounds 7 (.int .i64 k.2) = msgC { x with mark := k } := rfl
theorem put_ix (x : MsgP) (k : Int) : (msgC x).setIfInBounds 8 (.int .i64 k) = msgC { x with ix := k } := rfl
theorem put_tot (x : MsgP) (k : Int) : (msgC x).setIfInBounds 9 (.int .i64 k) = msgC { x with tot := k } := rfl
theorem put_data (x : MsgP) (k : ByteArray) : (msgC x).setIfInBounds 18 (.string k) = msgC { x with data := k } := rfl
theorem has_base (h : Has w g t (msgC x)) (k : Int × Int) : Has ((w.setCell ⟨g, 4, none⟩ (.int .i64 k.1)).setCell ⟨g, 5, none⟩ (.int .i64 k.2)) g t (msgC { x with base := k }) := by
  rw [← put_base]
  exact (h.put 4 _).put 5 _
theorem has_mark (h : Has w g t (msgC x)) (k : Int × Int) : Has ((w.setCell ⟨g, 6, none⟩ (.int .i64 k.1)).setCell ⟨g, 7, none⟩ (.int .i64 k.2)) g t (msgC { x with mark := k }) := by
  rw [← put_mark]
  exact (h.put 6 _).put 7 _
theorem has_ix (h : Has w g t (msgC x)) (k : Int) : Has (w.setCell ⟨g, 8, none⟩ (.int .i64 k)) g t (msgC { x with ix := k }) := by
  rw [← put_ix]
  exact h.put 8 _
theorem has_tot (h : Has w g t (msgC x)) (k : Int) : Has (w.setCell ⟨g, 9, none⟩ (.int .i64 k)) g t (msgC { x with tot := k }) := by
  rw [← put_tot]
  exact h.put 9 _
theorem has_data (h : Has w g t (msgC x)) (k : ByteArray) : Has (w.setCell ⟨g, 18, none⟩ (.string k)) g t (msgC { x with data := k }) := by
  rw [← put_data]
  exact h.put 18 _
end
theorem bare_1 {m : MsgP} (h : m.kind = 1) : bareM m = { coreM m with base := m.base, mark := m.mark, ix := m.ix } := by unfold bareM coreM; simp [h]
theorem bare_2 {m : MsgP} (h : m.kind = 2) : bareM m = { coreM m with base := m.base, mark := m.mark, ix := m.ix, tot := m.tot, data := m.data } := by unfold bareM coreM; simp [h]
theorem bare_3 {m : MsgP} (h : m.kind = 3) : bareM m = coreM m := by unfold bareM coreM; simp [h]
theorem bare_4 {m : MsgP} (h : m.kind = 4) : bareM m = { coreM m with mark := m.mark } := by unfold bareM coreM; simp [h]
theorem bare_0 {m : MsgP} (h1 : ¬ m.kind = 1) (h2 : ¬ m.kind = 2) (h4 : ¬ m.kind = 4) : bareM m = coreM m := by unfold bareM coreM; simp [h1, h2, h4]
set_option maxRecDepth 100000 in
set_option maxHeartbeats 4000000 in
theorem bare_k1 (m : MsgP) (q1 : m.kind = 1) (w : World) : Calls Tryd.prog 11 #[.agg (msgC m)] w fun e w' => e = .returned (.agg (msgC (bareM m))) ∧ Below w.heap.size w w' := by
  have HB := Lib.hid (((Below.refl w.heap.size w).alloc (Nat.le_refl _) (.cells (msgC m) 27)).alloc (by simp) (.cells (msgC msg0) 27))
  have HA0 := Lib.hid (show Has ((w.alloc (.cells (msgC m) 27)).alloc (.cells (msgC msg0) 27)) w.heap.size 27 (msgC m) from (Has.fresh w 27 (msgC m)).past _)
  have HR := Lib.hid (show Has ((w.alloc (.cells (msgC m) 27)).alloc (.cells (msgC msg0) 27)) (w.heap.size + 1) 27 (msgC msg0) from by have h := Has.fresh (w.alloc (.cells (msgC m) 27)) 27 (msgC msg0); rw [World.size_alloc] at h; exact h)
  have c0 : (msgC m)[0]? = some (.int .i64 m.kind) := rfl
  have c1 : (msgC m)[1]? = some (.int .i64 m.fr) := rfl
  have c2 : (msgC m)[2]? = some (.int .i64 m.to) := rfl
  have c3 : (msgC m)[3]? = some (.int .i64 m.vol) := rfl
  have c10 : (msgC m)[10]? = some (.int .i64 (m.seen 0)) := rfl
  have c11 : (msgC m)[11]? = some (.int .i64 (m.seen 1)) := rfl
  have c12 : (msgC m)[12]? = some (.int .i64 (m.seen 2)) := rfl
  have c13 : (msgC m)[13]? = some (.int .i64 (m.seen 3)) := rfl
  have c14 : (msgC m)[14]? = some (.int .i64 (m.seen 4)) := rfl
  have c15 : (msgC m)[15]? = some (.int .i64 (m.seen 5)) := rfl
  have c16 : (msgC m)[16]? = some (.int .i64 (m.seen 6)) := rfl
  have c17 : (msgC m)[17]? = some (.int .i64 (m.seen 7)) := rfl
  have c4 : (msgC m)[4]? = some (.int .i64 m.base.1) := rfl
  have c5 : (msgC m)[5]? = some (.int .i64 m.base.2) := rfl
  have c6 : (msgC m)[6]? = some (.int .i64 m.mark.1) := rfl
  have c7 : (msgC m)[7]? = some (.int .i64 m.mark.2) := rfl
  have c8 : (msgC m)[8]? = some (.int .i64 m.ix) := rfl
  have hal := alloc_msg
  have HK := Lib.hid (fun W => kindOf_any m.kind W)
  have HKC : kindC m.kind = #[.string ⟨#[97, 115, 107]⟩, .bool true, .bool true, .bool true, .bool false, .bool false] := by unfold kindC; simp [q1]
  rw [HKC] at HK
  have QB := Lib.hid (q1)
  clear HKC q1
  go_enter Tryd.func11, Tryd.ntmps11
  go_wp2_with (first | ((with_reducible refine Who.wpList_newC 27 3 (.tmp 15) rfl rfl rfl (msgC msg0) (msgC (coreM m)) ?_); refine And.intro ⟨rfl, rfl, rfl, hal, by rfl, by rfl, info_size _, rfl, msgC_one _⟩ ?_; try simp only [Act.put, List.setIfInBounds_toArray, List.set_cons_zero, List.set_cons_succ]; (try simp only [World.size_alloc])) | ((with_reducible refine Who.wpList_alloc 27 2 rfl rfl rfl (msgC msg0) hal ?_); try simp only [Act.put, List.setIfInBounds_toArray, List.set_cons_zero, List.set_cons_succ]; (try simp only [World.size_alloc])))
  with_reducible refine (HK.out _).mono ?_
  rintro e w1 ⟨rfl, hb⟩
  have HT0 : Has (((w.alloc (.cells (msgC m) 27)).alloc (.cells (msgC msg0) 27)).alloc (.cells (msgC (coreM m)) 27)) (w.heap.size + 1 + 1) 27 (msgC (coreM m)) := by have h := Has.fresh ((w.alloc (.cells (msgC m) 27)).alloc (.cells (msgC msg0) 27)) 27 (msgC (coreM m)); simp only [World.size_alloc] at h; exact h
  have HT := Lib.hid (HT0.below hb)
  clear HT0
  replace HB := Lib.hid ((HB.out.alloc (by simp <;> omega) (.cells (msgC (coreM m)) 27)).trans (hb.mono (by simp <;> omega)))
  replace HA0 := Lib.hid ((HA0.out.past (.cells (msgC (coreM m)) 27)).below hb)
  replace HR := Lib.hid ((HR.out.past (.cells (msgC (coreM m)) 27)).below hb)
  clear hb
  have hs0 := HA0.out.bound
  have hs1 := HR.out.bound
  have hs2 := HT.out.bound
  have hr0 := fun j => HA0.out.at_ j
  have d4 : w1.cell? ⟨w.heap.size + 1 + 1, 4, none⟩ = some (.int .i64 0) := HT.out.at_ 4
  have f4 := HT.out.free 4
  have d5 : w1.cell? ⟨w.heap.size + 1 + 1, 5, none⟩ = some (.int .i64 0) := HT.out.at_ 5
  have f5 := HT.out.free 5
  have d6 : w1.cell? ⟨w.heap.size + 1 + 1, 6, none⟩ = some (.int .i64 0) := HT.out.at_ 6
  have f6 := HT.out.free 6
  have d7 : w1.cell? ⟨w.heap.size + 1 + 1, 7, none⟩ = some (.int .i64 0) := HT.out.at_ 7
  have f7 := HT.out.free 7
  have d8 : w1.cell? ⟨w.heap.size + 1 + 1, 8, none⟩ = some (.int .i64 0) := HT.out.at_ 8
  have f8 := HT.out.free 8
  go_wp2_with (first | ((with_reducible refine Who.wpList_loadC 27 (.tmp 3) rfl (w.heap.size + 1 + 1) 0 (msgC (bareM m)) ?_); refine And.intro ⟨by rfl, by rfl, ⟨_, Tryd.underlying27, rfl⟩, info_size _⟩ (And.intro (Who.has_range (t := 27) (by rw [bare_1 QB.out]; have h := (((has_ix (has_mark (has_base HT.out m.base) m.mark) m.ix)).past (.cells #[.string ⟨#[97, 115, 107]⟩, .bool true, .bool true, .bool true, .bool false, .bool false] 47)); exact h)) ?_); try simp only [Act.put, List.setIfInBounds_toArray, List.set_cons_zero, List.set_cons_succ]) | ((with_reducible refine Who.wpList_storeC 27 (.tmp 2) (.tmp 44) rfl (w.heap.size + 1) 0 (msgC (bareM m)) ?_); refine And.intro ⟨rfl, by rfl, by rfl, info_size _, msgC_one _⟩ (And.intro (Who.has_there (t := 27) (cs := msgC msg0) (by have h := (((((((HR.out).keep (p := ⟨w.heap.size + 1 + 1, 4, none⟩) (by show w.heap.size + 1 ≠ w.heap.size + 1 + 1; omega) (.int .i64 m.base.1)).keep (p := ⟨w.heap.size + 1 + 1, 5, none⟩) (by show w.heap.size + 1 ≠ w.heap.size + 1 + 1; omega) (.int .i64 m.base.2)).keep (p := ⟨w.heap.size + 1 + 1, 6, none⟩) (by show w.heap.size + 1 ≠ w.heap.size + 1 + 1; omega) (.int .i64 m.mark.1)).keep (p := ⟨w.heap.size + 1 + 1, 7, none⟩) (by show w.heap.size + 1 ≠ w.heap.size + 1 + 1; omega) (.int .i64 m.mark.2)).keep (p := ⟨w.heap.size + 1 + 1, 8, none⟩) (by show w.heap.size + 1 ≠ w.heap.size + 1 + 1; omega) (.int .i64 m.ix)).past (.cells #[.string ⟨#[97, 115, 107]⟩, .bool true, .bool true, .bool true, .bool false, .bool false] 47)); exact h) rfl) ?_); try simp only [Act.put, List.setIfInBounds_toArray, List.set_cons_zero, List.set_cons_succ]))
  refine bodyPost_ret (v := .agg (msgC (bareM m))) (Who.results_cell Tryd.results11 _ _ (w.heap.size + 1) 0 (msgC (bareM m)) _ (by rfl) (Who.has_range (Who.has_over ((((((((HR.out).keep (p := ⟨w.heap.size + 1 + 1, 4, none⟩) (by show w.heap.size + 1 ≠ w.heap.size + 1 + 1; omega) (.int .i64 m.base.1)).keep (p := ⟨w.heap.size + 1 + 1, 5, none⟩) (by show w.heap.size + 1 ≠ w.heap.size + 1 + 1; omega) (.int .i64 m.base.2)).keep (p := ⟨w.heap.size + 1 + 1, 6, none⟩) (by show w.heap.size + 1 ≠ w.heap.size + 1 + 1; omega) (.int .i64 m.mark.1)).keep (p := ⟨w.heap.size + 1 + 1, 7, none⟩) (by show w.heap.size + 1 ≠ w.heap.size + 1 + 1; omega) (.int .i64 m.mark.2)).keep (p := ⟨w.heap.size + 1 + 1, 8, none⟩) (by show w.heap.size + 1 ≠ w.heap.size + 1 + 1; omega) (.int .i64 m.ix)).past (.cells #[.string ⟨#[97, 115, 107]⟩, .bool true, .bool true, .bool true, .bool false, .bool false] 47))) rfl)) Tryd.underlying27 rfl (info_size _)) rfl ⟨rfl, Who.below_setCells (((((((HB.out).setCell (p := ⟨w.heap.size + 1 + 1, 4, none⟩) (by show w.heap.size ≤ w.heap.size + 1 + 1; omega) (.int .i64 m.base.1)).setCell (p := ⟨w.heap.size + 1 + 1, 5, none⟩) (by show w.heap.size ≤ w.heap.size + 1 + 1; omega) (.int .i64 m.base.2)).setCell (p := ⟨w.heap.size + 1 + 1, 6, none⟩) (by show w.heap.size ≤ w.heap.size + 1 + 1; omega) (.int .i64 m.mark.1)).setCell (p := ⟨w.heap.size + 1 + 1, 7, none⟩) (by show w.heap.size ≤ w.heap.size + 1 + 1; omega) (.int .i64 m.mark.2)).setCell (p := ⟨w.heap.size + 1 + 1, 8, none⟩) (by show w.heap.size ≤ w.heap.size + 1 + 1; omega) (.int .i64 m.ix)).alloc (by have := HB.out.size; (try simp only [World.size_setCell]); omega) (.cells #[.string ⟨#[97, 115, 107]⟩, .bool true, .bool true, .bool true, .bool false, .bool false] 47)) (by omega) 0 _⟩
set_option maxRecDepth 100000 in
set_option maxHeartbeats 4000000 in
theorem bare_k2 (m : MsgP) (q2 : m.kind = 2) (w : World) : Calls Tryd.prog 11 #[.agg (msgC m)] w fun e w' => e = .returned (.agg (msgC (bareM m))) ∧ Below w.heap.size w w' := by
  have HB := Lib.hid (((Below.refl w.heap.size w).alloc (Nat.le_refl _) (.cells (msgC m) 27)).alloc (by simp) (.cells (msgC msg0) 27))
  have HA0 := Lib.hid (show Has ((w.alloc (.cells (msgC m) 27)).alloc (.cells (msgC msg0) 27)) w.heap.size 27 (msgC m) from (Has.fresh w 27 (msgC m)).past _)
  have HR := Lib.hid (show Has ((w.alloc (.cells (msgC m) 27)).alloc (.cells (msgC msg0) 27)) (w.heap.size + 1) 27 (msgC msg0) from by have h := Has.fresh (w.alloc (.cells (msgC m) 27)) 27 (msgC msg0); rw [World.size_alloc] at h; exact h)
  have c0 : (msgC m)[0]? = some (.int .i64 m.kind) := rfl
  have c1 : (msgC m)[1]? = some (.int .i64 m.fr) := rfl
  have c2 : (msgC m)[2]? = some (.int .i64 m.to) := rfl
  have c3 : (msgC m)[3]? = some (.int .i64 m.vol) := rfl
  have c10 : (msgC m)[10]? = some (.int .i64 (m.seen 0)) := rfl
  have c11 : (msgC m)[11]? = some (.int .i64 (m.seen 1)) := rfl
  have c12 : (msgC m)[12]? = some (.int .i64 (m.seen 2)) := rfl
  have c13 : (msgC m)[13]? = some (.int .i64 (m.seen 3)) := rfl
  have c14 : (msgC m)[14]? = some (.int .i64 (m.seen 4)) := rfl
  have c15 : (msgC m)[15]? = some (.int .i64 (m.seen 5)) := rfl
  have c16 : (msgC m)[16]? = some (.int .i64 (m.seen 6)) := rfl
  have c17 : (msgC m)[17]? = some (.int .i64 (m.seen 7)) := rfl
  have c4 : (msgC m)[4]? = some (.int .i64 m.base.1) := rfl
  have c5 : (msgC m)[5]? = some (.int .i64 m.base.2) := rfl
  have c6 : (msgC m)[6]? = some (.int .i64 m.mark.1) := rfl
  have c7 : (msgC m)[7]? = some (.int .i64 m.mark.2) := rfl
  have c8 : (msgC m)[8]? = some (.int .i64 m.ix) := rfl
  have c9 : (msgC m)[9]? = some (.int .i64 m.tot) := rfl
  have c18 : (msgC m)[18]? = some (.string m.data) := rfl
  have hal := alloc_msg
  have HK := Lib.hid (fun W => kindOf_any m.kind W)
  have HKC : kindC m.kind = #[.string ⟨#[112, 97, 114, 116]⟩, .bool true, .bool true, .bool true, .bool true, .bool true] := by unfold kindC; simp [q2]
  rw [HKC] at HK
  have QB := Lib.hid (q2)
  clear HKC q2
  go_enter Tryd.func11, Tryd.ntmps11
  go_wp2_with (first | ((with_reducible refine Who.wpList_newC 27 3 (.tmp 15) rfl rfl rfl (msgC msg0) (msgC (coreM m)) ?_); refine And.intro ⟨rfl, rfl, rfl, hal, by rfl, by rfl, info_size _, rfl, msgC_one _⟩ ?_; try simp only [Act.put, List.setIfInBounds_toArray, List.set_cons_zero, List.set_cons_succ]; (try simp only [World.size_alloc])) | ((with_reducible refine Who.wpList_alloc 27 2 rfl rfl rfl (msgC msg0) hal ?_); try simp only [Act.put, List.setIfInBounds_toArray, List.set_cons_zero, List.set_cons_succ]; (try simp only [World.size_alloc])))
  with_reducible refine (HK.out _).mono ?_
  rintro e w1 ⟨rfl, hb⟩
  have HT0 : Has (((w.alloc (.cells (msgC m) 27)).alloc (.cells (msgC msg0) 27)).alloc (.cells (msgC (coreM m)) 27)) (w.heap.size + 1 + 1) 27 (msgC (coreM m)) := by have h := Has.fresh ((w.alloc (.cells (msgC m) 27)).alloc (.cells (msgC msg0) 27)) 27 (msgC (coreM m)); simp only [World.size_alloc] at h; exact h
  have HT := Lib.hid (HT0.below hb)
  clear HT0
  replace HB := Lib.hid ((HB.out.alloc (by simp <;> omega) (.cells (msgC (coreM m)) 27)).trans (hb.mono (by simp <;> omega)))
  replace HA0 := Lib.hid ((HA0.out.past (.cells (msgC (coreM m)) 27)).below hb)
  replace HR := Lib.hid ((HR.out.past (.cells (msgC (coreM m)) 27)).below hb)
  clear hb
  have hs0 := HA0.out.bound
  have hs1 := HR.out.bound
  have hs2 := HT.out.bound
  have hr0 := fun j => HA0.out.at_ j
  have d4 : w1.cell? ⟨w.heap.size + 1 + 1, 4, none⟩ = some (.int .i64 0) := HT.out.at_ 4
  have f4 := HT.out.free 4
  have d5 : w1.cell? ⟨w.heap.size + 1 + 1, 5, none⟩ = some (.int .i64 0) := HT.out.at_ 5
  have f5 := HT.out.free 5
  have d6 : w1.cell? ⟨w.heap.size + 1 + 1, 6, none⟩ = some (.int .i64 0) := HT.out.at_ 6
  have f6 := HT.out.free 6
  have d7 : w1.cell? ⟨w.heap.size + 1 + 1, 7, none⟩ = some (.int .i64 0) := HT.out.at_ 7
  have f7 := HT.out.free 7
  have d8 : w1.cell? ⟨w.heap.size + 1 + 1, 8, none⟩ = some (.int .i64 0) := HT.out.at_ 8
  have f8 := HT.out.free 8
  have d9 : w1.cell? ⟨w.heap.size + 1 + 1, 9, none⟩ = some (.int .i64 0) := HT.out.at_ 9
  have f9 := HT.out.free 9
  have d18 : w1.cell? ⟨w.heap.size + 1 + 1, 18, none⟩ = some (.string ⟨#[]⟩) := HT.out.at_ 18
  have f18 := HT.out.free 18
  go_wp2_with (first | ((with_reducible refine Who.wpList_loadC 27 (.tmp 3) rfl (w.heap.size + 1 + 1) 0 (msgC (bareM m)) ?_); refine And.intro ⟨by rfl, by rfl, ⟨_, Tryd.underlying27, rfl⟩, info_size _⟩ (And.intro (Who.has_range (t := 27) (by rw [bare_2 QB.out]; have h := (((has_data (has_tot (has_ix (has_mark (has_base HT.out m.base) m.mark) m.ix) m.tot) m.data)).past (.cells #[.string ⟨#[112, 97, 114, 116]⟩, .bool true, .bool true, .bool true, .bool true, .bool true] 47)); exact h)) ?_); try simp only [Act.put, List.setIfInBounds_toArray, List.set_cons_zero, List.set_cons_succ]) | ((with_reducible refine Who.wpList_storeC 27 (.tmp 2) (.tmp 44) rfl (w.heap.size + 1) 0 (msgC (bareM m)) ?_); refine And.intro ⟨rfl, by rfl, by rfl, info_size _, msgC_one _⟩ (And.intro (Who.has_there (t := 27) (cs := msgC msg0) (by have h := (((((((((HR.out).keep (p := ⟨w.heap.size + 1 + 1, 4, none⟩) (by show w.heap.size + 1 ≠ w.heap.size + 1 + 1; omega) (.int .i64 m.base.1)).keep (p := ⟨w.heap.size + 1 + 1, 5, none⟩) (by show w.heap.size + 1 ≠ w.heap.size + 1 + 1; omega) (.int .i64 m.base.2)).keep (p := ⟨w.heap.size + 1 + 1, 6, none⟩) (by show w.heap.size + 1 ≠ w.heap.size + 1 + 1; omega) (.int .i64 m.mark.1)).keep (p := ⟨w.heap.size + 1 + 1, 7, none⟩) (by show w.heap.size + 1 ≠ w.heap.size + 1 + 1; omega) (.int .i64 m.mark.2)).keep (p := ⟨w.heap.size + 1 + 1, 8, none⟩) (by show w.heap.size + 1 ≠ w.heap.size + 1 + 1; omega) (.int .i64 m.ix)).keep (p := ⟨w.heap.size + 1 + 1, 9, none⟩) (by show w.heap.size + 1 ≠ w.heap.size + 1 + 1; omega) (.int .i64 m.tot)).keep (p := ⟨w.heap.size + 1 + 1, 18, none⟩) (by show w.heap.size + 1 ≠ w.heap.size + 1 + 1; omega) (.string m.data)).past (.cells #[.string ⟨#[112, 97, 114, 116]⟩, .bool true, .bool true, .bool true, .bool true, .bool true] 47)); exact h) rfl) ?_); try simp only [Act.put, List.setIfInBounds_toArray, List.set_cons_zero, List.set_cons_succ]))
  refine bodyPost_ret (v := .agg (msgC (bareM m))) (Who.results_cell Tryd.results11 _ _ (w.heap.size + 1) 0 (msgC (bareM m)) _ (by rfl) (Who.has_range (Who.has_over ((((((((((HR.out).keep (p := ⟨w.heap.size + 1 + 1, 4, none⟩) (by show w.heap.size + 1 ≠ w.heap.size + 1 + 1; omega) (.int .i64 m.base.1)).keep (p := ⟨w.heap.size + 1 + 1, 5, none⟩) (by show w.heap.size + 1 ≠ w.heap.size + 1 + 1; omega) (.int .i64 m.base.2)).keep (p := ⟨w.heap.size + 1 + 1, 6, none⟩) (by show w.heap.size + 1 ≠ w.heap.size + 1 + 1; omega) (.int .i64 m.mark.1)).keep (p := ⟨w.heap.size + 1 + 1, 7, none⟩) (by show w.heap.size + 1 ≠ w.heap.size + 1 + 1; omega) (.int .i64 m.mark.2)).keep (p := ⟨w.heap.size + 1 + 1, 8, none⟩) (by show w.heap.size + 1 ≠ w.heap.size + 1 + 1; omega) (.int .i64 m.ix)).keep (p := ⟨w.heap.size + 1 + 1, 9, none⟩) (by show w.heap.size + 1 ≠ w.heap.size + 1 + 1; omega) (.int .i64 m.tot)).keep (p := ⟨w.heap.size + 1 + 1, 18, none⟩) (by show w.heap.size + 1 ≠ w.heap.size + 1 + 1; omega) (.string m.data)).past (.cells #[.string ⟨#[112, 97, 114, 116]⟩, .bool true, .bool true, .bool true, .bool true, .bool true] 47))) rfl)) Tryd.underlying27 rfl (info_size _)) rfl ⟨rfl, Who.below_setCells (((((((((HB.out).setCell (p := ⟨w.heap.size + 1 + 1, 4, none⟩) (by show w.heap.size ≤ w.heap.size + 1 + 1; omega) (.int .i64 m.base.1)).setCell (p := ⟨w.heap.size + 1 + 1, 5, none⟩) (by show w.heap.size ≤ w.heap.size + 1 + 1; omega) (.int .i64 m.base.2)).setCell (p := ⟨w.heap.size + 1 + 1, 6, none⟩) (by show w.heap.size ≤ w.heap.size + 1 + 1; omega) (.int .i64 m.mark.1)).setCell (p := ⟨w.heap.size + 1 + 1, 7, none⟩) (by show w.heap.size ≤ w.heap.size + 1 + 1; omega) (.int .i64 m.mark.2)).setCell (p := ⟨w.heap.size + 1 + 1, 8, none⟩) (by show w.heap.size ≤ w.heap.size + 1 + 1; omega) (.int .i64 m.ix)).setCell (p := ⟨w.heap.size + 1 + 1, 9, none⟩) (by show w.heap.size ≤ w.heap.size + 1 + 1; omega) (.int .i64 m.tot)).setCell (p := ⟨w.heap.size + 1 + 1, 18, none⟩) (by show w.heap.size ≤ w.heap.size + 1 + 1; omega) (.string m.data)).alloc (by have := HB.out.size; (try simp only [World.size_setCell]); omega) (.cells #[.string ⟨#[112, 97, 114, 116]⟩, .bool true, .bool true, .bool true, .bool true, .bool true] 47)) (by omega) 0 _⟩
set_option maxRecDepth 100000 in
set_option maxHeartbeats 4000000 in
theorem bare_k3 (m : MsgP) (q3 : m.kind = 3) (w : World) : Calls Tryd.prog 11 #[.agg (msgC m)] w fun e w' => e = .returned (.agg (msgC (bareM m))) ∧ Below w.heap.size w w' := by
  have HB := Lib.hid (((Below.refl w.heap.size w).alloc (Nat.le_refl _) (.cells (msgC m) 27)).alloc (by simp) (.cells (msgC msg0) 27))
  have HA0 := Lib.hid (show Has ((w.alloc (.cells (msgC m) 27)).alloc (.cells (msgC msg0) 27)) w.heap.size 27 (msgC m) from (Has.fresh w 27 (msgC m)).past _)
  have HR := Lib.hid (show Has ((w.alloc (.cells (msgC m) 27)).alloc (.cells (msgC msg0) 27)) (w.heap.size + 1) 27 (msgC msg0) from by have h := Has.fresh (w.alloc (.cells (msgC m) 27)) 27 (msgC msg0); rw [World.size_alloc] at h; exact h)
  have c0 : (msgC m)[0]? = some (.int .i64 m.kind) := rfl
  have c1 : (msgC m)[1]? = some (.int .i64 m.fr) := rfl
  have c2 : (msgC m)[2]? = some (.int .i64 m.to) := rfl
  have c3 : (msgC m)[3]? = some (.int .i64 m.vol) := rfl
  have c10 : (msgC m)[10]? = some (.int .i64 (m.seen 0)) := rfl
  have c11 : (msgC m)[11]? = some (.int .i64 (m.seen 1)) := rfl
  have c12 : (msgC m)[12]? = some (.int .i64 (m.seen 2)) := rfl
  have c13 : (msgC m)[13]? = some (.int .i64 (m.seen 3)) := rfl
  have c14 : (msgC m)[14]? = some (.int .i64 (m.seen 4)) := rfl
  have c15 : (msgC m)[15]? = some (.int .i64 (m.seen 5)) := rfl
  have c16 : (msgC m)[16]? = some (.int .i64 (m.seen 6)) := rfl
  have c17 : (msgC m)[17]? = some (.int .i64 (m.seen 7)) := rfl
  have hal := alloc_msg
  have HK := Lib.hid (fun W => kindOf_any m.kind W)
  have HKC : kindC m.kind = #[.string ⟨#[115, 97, 109, 101]⟩, .bool false, .bool false, .bool false, .bool false, .bool false] := by unfold kindC; simp [q3]
  rw [HKC] at HK
  have QB := Lib.hid (q3)
  clear HKC q3
  go_enter Tryd.func11, Tryd.ntmps11
  go_wp2_with (first | ((with_reducible refine Who.wpList_newC 27 3 (.tmp 15) rfl rfl rfl (msgC msg0) (msgC (coreM m)) ?_); refine And.intro ⟨rfl, rfl, rfl, hal, by rfl, by rfl, info_size _, rfl, msgC_one _⟩ ?_; try simp only [Act.put, List.setIfInBounds_toArray, List.set_cons_zero, List.set_cons_succ]; (try simp only [World.size_alloc])) | ((with_reducible refine Who.wpList_alloc 27 2 rfl rfl rfl (msgC msg0) hal ?_); try simp only [Act.put, List.setIfInBounds_toArray, List.set_cons_zero, List.set_cons_succ]; (try simp only [World.size_alloc])))
  with_reducible refine (HK.out _).mono ?_
  rintro e w1 ⟨rfl, hb⟩
  have HT0 : Has (((w.alloc (.cells (msgC m) 27)).alloc (.cells (msgC msg0) 27)).alloc (.cells (msgC (coreM m)) 27)) (w.heap.size + 1 + 1) 27 (msgC (coreM m)) := by have h := Has.fresh ((w.alloc (.cells (msgC m) 27)).alloc (.cells (msgC msg0) 27)) 27 (msgC (coreM m)); simp only [World.size_alloc] at h; exact h
  have HT := Lib.hid (HT0.below hb)
  clear HT0
  replace HB := Lib.hid ((HB.out.alloc (by simp <;> omega) (.cells (msgC (coreM m)) 27)).trans (hb.mono (by simp <;> omega)))
  replace HA0 := Lib.hid ((HA0.out.past (.cells (msgC (coreM m)) 27)).below hb)
  replace HR := Lib.hid ((HR.out.past (.cells (msgC (coreM m)) 27)).below hb)
  clear hb
  have hs0 := HA0.out.bound
  have hs1 := HR.out.bound
  have hs2 := HT.out.bound
  have hr0 := fun j => HA0.out.at_ j
  go_wp2_with (first | ((with_reducible refine Who.wpList_loadC 27 (.tmp 3) rfl (w.heap.size + 1 + 1) 0 (msgC (bareM m)) ?_); refine And.intro ⟨by rfl, by rfl, ⟨_, Tryd.underlying27, rfl⟩, info_size _⟩ (And.intro (Who.has_range (t := 27) (by rw [bare_3 QB.out]; have h := ((HT.out).past (.cells #[.string ⟨#[115, 97, 109, 101]⟩, .bool false, .bool false, .bool false, .bool false, .bool false] 47)); exact h)) ?_); try simp only [Act.put, List.setIfInBounds_toArray, List.set_cons_zero, List.set_cons_succ]) | ((with_reducible refine Who.wpList_storeC 27 (.tmp 2) (.tmp 44) rfl (w.heap.size + 1) 0 (msgC (bareM m)) ?_); refine And.intro ⟨rfl, by rfl, by rfl, info_size _, msgC_one _⟩ (And.intro (Who.has_there (t := 27) (cs := msgC msg0) (by have h := ((HR.out).past (.cells #[.string ⟨#[115, 97, 109, 101]⟩, .bool false, .bool false, .bool false, .bool false, .bool false] 47)); exact h) rfl) ?_); try simp only [Act.put, List.setIfInBounds_toArray, List.set_cons_zero, List.set_cons_succ]))
  refine bodyPost_ret (v := .agg (msgC (bareM m))) (Who.results_cell Tryd.results11 _ _ (w.heap.size + 1) 0 (msgC (bareM m)) _ (by rfl) (Who.has_range (Who.has_over (((HR.out).past (.cells #[.string ⟨#[115, 97, 109, 101]⟩, .bool false, .bool false, .bool false, .bool false, .bool false] 47))) rfl)) Tryd.underlying27 rfl (info_size _)) rfl ⟨rfl, Who.below_setCells ((HB.out).alloc (by have := HB.out.size; (try simp only [World.size_setCell]); omega) (.cells #[.string ⟨#[115, 97, 109, 101]⟩, .bool false, .bool false, .bool false, .bool false, .bool false] 47)) (by omega) 0 _⟩
set_option maxRecDepth 100000 in
set_option maxHeartbeats 4000000 in
theorem bare_k4 (m : MsgP) (q4 : m.kind = 4) (w : World) : Calls Tryd.prog 11 #[.agg (msgC m)] w fun e w' => e = .returned (.agg (msgC (bareM m))) ∧ Below w.heap.size w w' := by
  have HB := Lib.hid (((Below.refl w.heap.size w).alloc (Nat.le_refl _) (.cells (msgC m) 27)).alloc (by simp) (.cells (msgC msg0) 27))
  have HA0 := Lib.hid (show Has ((w.alloc (.cells (msgC m) 27)).alloc (.cells (msgC msg0) 27)) w.heap.size 27 (msgC m) from (Has.fresh w 27 (msgC m)).past _)
  have HR := Lib.hid (show Has ((w.alloc (.cells (msgC m) 27)).alloc (.cells (msgC msg0) 27)) (w.heap.size + 1) 27 (msgC msg0) from by have h := Has.fresh (w.alloc (.cells (msgC m) 27)) 27 (msgC msg0); rw [World.size_alloc] at h; exact h)
  have c0 : (msgC m)[0]? = some (.int .i64 m.kind) := rfl
  have c1 : (msgC m)[1]? = some (.int .i64 m.fr) := rfl
  have c2 : (msgC m)[2]? = some (.int .i64 m.to) := rfl
  have c3 : (msgC m)[3]? = some (.int .i64 m.vol) := rfl
  have c10 : (msgC m)[10]? = some (.int .i64 (m.seen 0)) := rfl
  have c11 : (msgC m)[11]? = some (.int .i64 (m.seen 1)) := rfl
  have c12 : (msgC m)[12]? = some (.int .i64 (m.seen 2)) := rfl
  have c13 : (msgC m)[13]? = some (.int .i64 (m.seen 3)) := rfl
  have c14 : (msgC m)[14]? = some (.int .i64 (m.seen 4)) := rfl
  have c15 : (msgC m)[15]? = some (.int .i64 (m.seen 5)) := rfl
  have c16 : (msgC m)[16]? = some (.int .i64 (m.seen 6)) := rfl
  have c17 : (msgC m)[17]? = some (.int .i64 (m.seen 7)) := rfl
  have c6 : (msgC m)[6]? = some (.int .i64 m.mark.1) := rfl
  have c7 : (msgC m)[7]? = some (.int .i64 m.mark.2) := rfl
  have hal := alloc_msg
  have HK := Lib.hid (fun W => kindOf_any m.kind W)
  have HKC : kindC m.kind = #[.string ⟨#[103, 111, 110, 101]⟩, .bool false, .bool true, .bool false, .bool false, .bool false] := by unfold kindC; simp [q4]
  rw [HKC] at HK
  have QB := Lib.hid (q4)
  clear HKC q4
  go_enter Tryd.func11, Tryd.ntmps11
  go_wp2_with (first | ((with_reducible refine Who.wpList_newC 27 3 (.tmp 15) rfl rfl rfl (msgC msg0) (msgC (coreM m)) ?_); refine And.intro ⟨rfl, rfl, rfl, hal, by rfl, by rfl, info_size _, rfl, msgC_one _⟩ ?_; try simp only [Act.put, List.setIfInBounds_toArray, List.set_cons_zero, List.set_cons_succ]; (try simp only [World.size_alloc])) | ((with_reducible refine Who.wpList_alloc 27 2 rfl rfl rfl (msgC msg0) hal ?_); try simp only [Act.put, List.setIfInBounds_toArray, List.set_cons_zero, List.set_cons_succ]; (try simp only [World.size_alloc])))
  with_reducible refine (HK.out _).mono ?_
  rintro e w1 ⟨rfl, hb⟩
  have HT0 : Has (((w.alloc (.cells (msgC m) 27)).alloc (.cells (msgC msg0) 27)).alloc (.cells (msgC (coreM m)) 27)) (w.heap.size + 1 + 1) 27 (msgC (coreM m)) := by have h := Has.fresh ((w.alloc (.cells (msgC m) 27)).alloc (.cells (msgC msg0) 27)) 27 (msgC (coreM m)); simp only [World.size_alloc] at h; exact h
  have HT := Lib.hid (HT0.below hb)
  clear HT0
  replace HB := Lib.hid ((HB.out.alloc (by simp <;> omega) (.cells (msgC (coreM m)) 27)).trans (hb.mono (by simp <;> omega)))
  replace HA0 := Lib.hid ((HA0.out.past (.cells (msgC (coreM m)) 27)).below hb)
  replace HR := Lib.hid ((HR.out.past (.cells (msgC (coreM m)) 27)).below hb)
  clear hb
  have hs0 := HA0.out.bound
  have hs1 := HR.out.bound
  have hs2 := HT.out.bound
  have hr0 := fun j => HA0.out.at_ j
  have d6 : w1.cell? ⟨w.heap.size + 1 + 1, 6, none⟩ = some (.int .i64 0) := HT.out.at_ 6
  have f6 := HT.out.free 6
  have d7 : w1.cell? ⟨w.heap.size + 1 + 1, 7, none⟩ = some (.int .i64 0) := HT.out.at_ 7
  have f7 := HT.out.free 7
  go_wp2_with (first | ((with_reducible refine Who.wpList_loadC 27 (.tmp 3) rfl (w.heap.size + 1 + 1) 0 (msgC (bareM m)) ?_); refine And.intro ⟨by rfl, by rfl, ⟨_, Tryd.underlying27, rfl⟩, info_size _⟩ (And.intro (Who.has_range (t := 27) (by rw [bare_4 QB.out]; have h := (((has_mark HT.out m.mark)).past (.cells #[.string ⟨#[103, 111, 110, 101]⟩, .bool false, .bool true, .bool false, .bool false, .bool false] 47)); exact h)) ?_); try simp only [Act.put, List.setIfInBounds_toArray, List.set_cons_zero, List.set_cons_succ]) | ((with_reducible refine Who.wpList_storeC 27 (.tmp 2) (.tmp 44) rfl (w.heap.size + 1) 0 (msgC (bareM m)) ?_); refine And.intro ⟨rfl, by rfl, by rfl, info_size _, msgC_one _⟩ (And.intro (Who.has_there (t := 27) (cs := msgC msg0) (by have h := ((((HR.out).keep (p := ⟨w.heap.size + 1 + 1, 6, none⟩) (by show w.heap.size + 1 ≠ w.heap.size + 1 + 1; omega) (.int .i64 m.mark.1)).keep (p := ⟨w.heap.size + 1 + 1, 7, none⟩) (by show w.heap.size + 1 ≠ w.heap.size + 1 + 1; omega) (.int .i64 m.mark.2)).past (.cells #[.string ⟨#[103, 111, 110, 101]⟩, .bool false, .bool true, .bool false, .bool false, .bool false] 47)); exact h) rfl) ?_); try simp only [Act.put, List.setIfInBounds_toArray, List.set_cons_zero, List.set_cons_succ]))
  refine bodyPost_ret (v := .agg (msgC (bareM m))) (Who.results_cell Tryd.results11 _ _ (w.heap.size + 1) 0 (msgC (bareM m)) _ (by rfl) (Who.has_range (Who.has_over (((((HR.out).keep (p := ⟨w.heap.size + 1 + 1, 6, none⟩) (by show w.heap.size + 1 ≠ w.heap.size + 1 + 1; omega) (.int .i64 m.mark.1)).keep (p := ⟨w.heap.size + 1 + 1, 7, none⟩) (by show w.heap.size + 1 ≠ w.heap.size + 1 + 1; omega) (.int .i64 m.mark.2)).past (.cells #[.string ⟨#[103, 111, 110, 101]⟩, .bool false, .bool true, .bool false, .bool false, .bool false] 47))) rfl)) Tryd.underlying27 rfl (info_size _)) rfl ⟨rfl, Who.below_setCells ((((HB.out).setCell (p := ⟨w.heap.size + 1 + 1, 6, none⟩) (by show w.heap.size ≤ w.heap.size + 1 + 1; omega) (.int .i64 m.mark.1)).setCell (p := ⟨w.heap.size + 1 + 1, 7, none⟩) (by show w.heap.size ≤ w.heap.size + 1 + 1; omega) (.int .i64 m.mark.2)).alloc (by have := HB.out.size; (try simp only [World.size_setCell]); omega) (.cells #[.string ⟨#[103, 111, 110, 101]⟩, .bool false, .bool true, .bool false, .bool false, .bool false] 47)) (by omega) 0 _⟩
set_option maxRecDepth 100000 in
set_option maxHeartbeats 4000000 in
theorem bare_k0 (m : MsgP) (q1 : ¬ m.kind = 1) (q2 : ¬ m.kind = 2) (q3 : ¬ m.kind = 3) (q4 : ¬ m.kind = 4) (w : World) : Calls Tryd.prog 11 #[.agg (msgC m)] w fun e w' => e = .returned (.agg (msgC (bareM m))) ∧ Below w.heap.size w w' := by
  have HB := Lib.hid (((Below.refl w.heap.size w).alloc (Nat.le_refl _) (.cells (msgC m) 27)).alloc (by simp) (.cells (msgC msg0) 27))
  have HA0 := Lib.hid (show Has ((w.alloc (.cells (msgC m) 27)).alloc (.cells (msgC msg0) 27)) w.heap.size 27 (msgC m) from (Has.fresh w 27 (msgC m)).past _)
  have HR := Lib.hid (show Has ((w.alloc (.cells (msgC m) 27)).alloc (.cells (msgC msg0) 27)) (w.heap.size + 1) 27 (msgC msg0) from by have h := Has.fresh (w.alloc (.cells (msgC m) 27)) 27 (msgC msg0); rw [World.size_alloc] at h; exact h)
  have c0 : (msgC m)[0]? = some (.int .i64 m.kind) := rfl
  have c1 : (msgC m)[1]? = some (.int .i64 m.fr) := rfl
  have c2 : (msgC m)[2]? = some (.int .i64 m.to) := rfl
  have c3 : (msgC m)[3]? = some (.int .i64 m.vol) := rfl
  have c10 : (msgC m)[10]? = some (.int .i64 (m.seen 0)) := rfl
  have c11 : (msgC m)[11]? = some (.int .i64 (m.seen 1)) := rfl
  have c12 : (msgC m)[12]? = some (.int .i64 (m.seen 2)) := rfl
  have c13 : (msgC m)[13]? = some (.int .i64 (m.seen 3)) := rfl
  have c14 : (msgC m)[14]? = some (.int .i64 (m.seen 4)) := rfl
  have c15 : (msgC m)[15]? = some (.int .i64 (m.seen 5)) := rfl
  have c16 : (msgC m)[16]? = some (.int .i64 (m.seen 6)) := rfl
  have c17 : (msgC m)[17]? = some (.int .i64 (m.seen 7)) := rfl
  have hal := alloc_msg
  have HK := Lib.hid (fun W => kindOf_any m.kind W)
  have HKC : kindC m.kind = #[.string ⟨#[110, 111, 110, 101]⟩, .bool false, .bool false, .bool false, .bool false, .bool false] := by unfold kindC; simp [q1, q2, q3, q4]
  rw [HKC] at HK
  have QB := Lib.hid (And.intro q1 (And.intro q2 q4))
  clear HKC q1 q2 q3 q4
  go_enter Tryd.func11, Tryd.ntmps11
  go_wp2_with (first | ((with_reducible refine Who.wpList_newC 27 3 (.tmp 15) rfl rfl rfl (msgC msg0) (msgC (coreM m)) ?_); refine And.intro ⟨rfl, rfl, rfl, hal, by rfl, by rfl, info_size _, rfl, msgC_one _⟩ ?_; try simp only [Act.put, List.setIfInBounds_toArray, List.set_cons_zero, List.set_cons_succ]; (try simp only [World.size_alloc])) | ((with_reducible refine Who.wpList_alloc 27 2 rfl rfl rfl (msgC msg0) hal ?_); try simp only [Act.put, List.setIfInBounds_toArray, List.set_cons_zero, List.set_cons_succ]; (try simp only [World.size_alloc])))
  with_reducible refine (HK.out _).mono ?_
  rintro e w1 ⟨rfl, hb⟩
  have HT0 : Has (((w.alloc (.cells (msgC m) 27)).alloc (.cells (msgC msg0) 27)).alloc (.cells (msgC (coreM m)) 27)) (w.heap.size + 1 + 1) 27 (msgC (coreM m)) := by have h := Has.fresh ((w.alloc (.cells (msgC m) 27)).alloc (.cells (msgC msg0) 27)) 27 (msgC (coreM m)); simp only [World.size_alloc] at h; exact h
  have HT := Lib.hid (HT0.below hb)
  clear HT0
  replace HB := Lib.hid ((HB.out.alloc (by simp <;> omega) (.cells (msgC (coreM m)) 27)).trans (hb.mono (by simp <;> omega)))
  replace HA0 := Lib.hid ((HA0.out.past (.cells (msgC (coreM m)) 27)).below hb)
  replace HR := Lib.hid ((HR.out.past (.cells (msgC (coreM m)) 27)).below hb)
  clear hb
  have hs0 := HA0.out.bound
  have hs1 := HR.out.bound
  have hs2 := HT.out.bound
  have hr0 := fun j => HA0.out.at_ j
  go_wp2_with (first | ((with_reducible refine Who.wpList_loadC 27 (.tmp 3) rfl (w.heap.size + 1 + 1) 0 (msgC (bareM m)) ?_); refine And.intro ⟨by rfl, by rfl, ⟨_, Tryd.underlying27, rfl⟩, info_size _⟩ (And.intro (Who.has_range (t := 27) (by rw [bare_0 QB.out.1 QB.out.2.1 QB.out.2.2]; have h := ((HT.out).past (.cells #[.string ⟨#[110, 111, 110, 101]⟩, .bool false, .bool false, .bool false, .bool false, .bool false] 47)); exact h)) ?_); try simp only [Act.put, List.setIfInBounds_toArray, List.set_cons_zero, List.set_cons_succ]) | ((with_reducible refine Who.wpList_storeC 27 (.tmp 2) (.tmp 44) rfl (w.heap.size + 1) 0 (msgC (bareM m)) ?_); refine And.intro ⟨rfl, by rfl, by rfl, info_size _, msgC_one _⟩ (And.intro (Who.has_there (t := 27) (cs := msgC msg0) (by have h := ((HR.out).past (.cells #[.string ⟨#[110, 111, 110, 101]⟩, .bool false, .bool false, .bool false, .bool false, .bool false] 47)); exact h) rfl) ?_); try simp only [Act.put, List.setIfInBounds_toArray, List.set_cons_zero, List.set_cons_succ]))
  refine bodyPost_ret (v := .agg (msgC (bareM m))) (Who.results_cell Tryd.results11 _ _ (w.heap.size + 1) 0 (msgC (bareM m)) _ (by rfl) (Who.has_range (Who.has_over (((HR.out).past (.cells #[.string ⟨#[110, 111, 110, 101]⟩, .bool false, .bool false, .bool false, .bool false, .bool false] 47))) rfl)) Tryd.underlying27 rfl (info_size _)) rfl ⟨rfl, Who.below_setCells ((HB.out).alloc (by have := HB.out.size; (try simp only [World.size_setCell]); omega) (.cells #[.string ⟨#[110, 111, 110, 101]⟩, .bool false, .bool false, .bool false, .bool false, .bool false] 47)) (by omega) 0 _⟩
theorem bare_any (m : MsgP) (w : World) : Calls Tryd.prog 11 #[.agg (msgC m)] w fun e w' => e = .returned (.agg (msgC (bareM m))) ∧ Below w.heap.size w w' := by
  by_cases q1 : m.kind = 1
  · exact bare_k1 m q1 w
  by_cases q2 : m.kind = 2
  · exact bare_k2 m q2 w
  by_cases q3 : m.kind = 3
  · exact bare_k3 m q3 w
  by_cases q4 : m.kind = 4
  · exact bare_k4 m q4 w
  exact bare_k0 m q1 q2 q3 q4 w
end Go.Proofs.YtfjmcklmoebnaaaDoor.Nt
