/- Changes that are sorted, to the document's Sorted. -/
import Derived.Test.YtepnckglnciinaaSmX
import Derived.Test.YtepnckglnciinaaVcA
namespace Go.Proofs.Ytepnckglnciinaa.Sm
open Go.RowKit Go.Proofs.Ytepnckglnciinaa.Mem
set_option linter.unusedVariables false

theorem wpList_storeNew {P : Program} {ops : Array Oper} {rest : List Oper} {op : Oper} {a : Act} {w0 : World} {Q : Exit → Act → World → Prop} (ty : TypeId) (x y : Operand) (z C : Array Value) (ho : op.op = .store ty x y)
    (h : (op.guard = none ∧ op.dst = none ∧ a.eval x = .pointer (some ⟨w0.heap.size, 0, none⟩) ∧ a.eval y = .agg C ∧ (P.info? ty).map (·.size) = some C.size ∧ z.size = C.size ∧ C.all (·.oneCell') = true) ∧ wpList P ops Q rest a (w0.alloc (.cells C ty))) : wpList P ops Q (op :: rest) a (w0.alloc (.cells z ty)) := by
  obtain ⟨⟨hg, hd, hx, hy, hi, hzC, hone⟩, h⟩ := h
  refine wpList_plain hg fun K2 hK2 => ?_
  have e3 : (execOp a.eval op).run P (w0.alloc (.cells z ty)) = .ok .skip (w0.alloc (.cells C ty)) := by
    unfold execOp
    simp only [ho, hx, hy, Instr.storeAt, Instr.sureAddr, Sem.run_bind, Sem.run_pure, Result.andThen_ok, run_storeVar_new w0 ty z C hi hzC hone]
  unfold Oper.wp
  rw [e3]
  refine hK2 _ _ ?_
  rw [hd]
  exact h
theorem sort_at : ∀ {cs : List ChgP} {last : ByteArray}, SortP last cs → ∀ {j : Nat} {d c : ChgP}, cs[j]? = some d → cs[j + 1]? = some c → okC d.key c
  | [], _, _, j, d, c, h, _ => by simp at h
  | x :: cs, last, h, 0, d, c, hd, hc => by
    simp at hd
    subst hd
    rw [List.getElem?_cons_succ] at hc
    cases cs with
    | nil => simp at hc
    | cons y cs =>
      simp at hc
      subst hc
      exact h.2.1
  | x :: cs, last, h, j + 1, d, c, hd, hc => by
    rw [List.getElem?_cons_succ] at hd hc
    exact sort_at h.2 hd hc
theorem okC_key {last : ByteArray} {c : ChgP} (h : okC last c) : 1 ≤ c.key.size := by
  refine Nat.pos_of_ne_zero fun h0 => ?_
  have e : c.key.toList = [] := by rw [ByteArray.toList_eq]; exact List.length_eq_zero_iff.1 h0
  have h1 := h.1
  have h2 := h.2.1
  rw [e] at h1 h2
  cases hl : last.toList with
  | nil => rw [hl] at h2; simp at h2
  | cons a l => rw [hl] at h1; cases h1
theorem okC_all : ∀ {cs : List ChgP} {last : ByteArray}, SortP last cs → ∀ c ∈ cs, 1 ≤ c.key.size ∧ (c.gone = true → c.val.toList.isEmpty = true)
  | [], _, _, c, hc => by cases hc
  | x :: cs, last, h, c, hc => by
    rcases List.mem_cons.1 hc with rfl | hc
    · exact ⟨okC_key h.1, h.1.2.2.2.2⟩
    · exact okC_all h.2 c hc
set_option maxRecDepth 100000 in
set_option maxHeartbeats 8000000 in
theorem rsorted_yes (A : Option Addr) (n cap : Nat) (cs : List ChgP) (w : World) (h : CRow w A n cs) (hn : n ≤ 1000000) (hs : SortP ⟨#[]⟩ cs) : Calls Try.prog 32 #[.slice A n cap] w fun e w' => e = .returned (.bool true) ∧ Below w.heap.size w w' := by
  have HH := Lib.hid h
  have HLN := Lib.hid h.len
  have HSO := Lib.hid hs
  have halc := alloc_ch
  clear h hs
  go_enter Try.func32, Try.ntmps32
  go_wp2
  go_loopw [7] (fun i wr => ∃ j : Nat, j ≤ n ∧ i = .int .i64 j ∧ Hid (Below w.heap.size w wr)) (fun i _ => n - (intOf i).toNat)
  case atStart => exact ⟨0, by omega, rfl, Lib.hid (Below.refl _ _)⟩
  case round =>
    obtain ⟨j, hj, rfl, HB⟩ := hrel
    by_cases hlt : j < n
    · have HJ := Lib.hid (show j + 1 ≤ n from hlt)
      obtain ⟨c, hc⟩ : ∃ c, cs[j]? = some c := ⟨_, List.getElem?_eq_getElem (by rw [HLN.out]; exact hlt)⟩
      obtain ⟨b, off, rfl, hbl, hrg⟩ := (HH.out.below HB.out).cells j c hc
      have HRG := Lib.hid hrg
      have HC := Lib.hid hc
      have HSM := Lib.hid (sort_small HSO.out c (List.mem_of_getElem? hc))
      have hok := okC_all HSO.out c (List.mem_of_getElem? hc)
      have HE := Lib.hid hok.2
      have HK := Lib.hid (fun W => key_any c.key hok.1 HSM.out.1 W)
      have HV := Lib.hid (fun W => val_any c.val HSM.out.2 W)
      have HX := Lib.hid (Has.fresh wr 53 (chC c))
      have x0 : (wr.alloc (.cells (chC c) 53)).cell? ⟨wr.heap.size, 0, none⟩ = some (.string c.key) := HX.out.at_ 0
      have x1 : (wr.alloc (.cells (chC c) 53)).cell? ⟨wr.heap.size, 1, none⟩ = some (.string c.val) := HX.out.at_ 1
      have x2 : (wr.alloc (.cells (chC c) 53)).cell? ⟨wr.heap.size, 2, none⟩ = some (.bool c.gone) := HX.out.at_ 2
      have hlti : (j : Int) < n := by omega
      have hn2 : (n : Int) ≤ 1000000 := by omega
      clear hrg hc hok
      cases hg : c.gone with
      | true =>
        rw [hg] at x2
        have hemp := HE.out hg
        have hemp2 : c.val.toList = [] := by simpa using hemp
        clear hg
        by_cases hp : 0 < j
        · obtain ⟨d, hd⟩ : ∃ d, cs[j - 1]? = some d := ⟨_, List.getElem?_eq_getElem (by have := HLN.out; omega)⟩
          obtain ⟨b3, off3, e3, hbl3, hrg3⟩ := (HH.out.below HB.out).cells (j - 1) d hd
          injection e3 with e3
          injection e3 with e4 e5 _
          subst e4 e5
          have HOK := Lib.hid (sort_at HSO.out (j := j - 1) hd (by rw [Nat.sub_add_cancel hp]; exact HC.out))
          have HLT := Lib.hid (less_total _ _ HOK.out.1 (fun e => by have h := HOK.out.2.1; rw [e] at h; simp at h))
          have HDS := Lib.hid (sort_small HSO.out d (List.mem_of_getElem? hd))
          have HL := Lib.hid (fun W => less_any d.key c.key (by have := HDS.out; omega) (by have := HSM.out; omega) W)
          have x3 : (wr.alloc (.cells (chC c) 53)).cell? ⟨b, off + (j - 1) * 3, none⟩ = some (.string d.key) := (Below.cell ((Below.refl wr.heap.size wr).alloc (Nat.le_refl _) (.cells (chC c) 53)) (p := ⟨b, off + (j - 1) * 3, none⟩) hbl3).trans (hrg3 0 _ rfl)
          have HS := Lib.hid (And.intro x0 (And.intro x1 (And.intro x2 x3)))
          have HB1 := Lib.hid (show Below w.heap.size w ((wr.alloc (.cells (chC c) 53)).drew) from (HB.out.alloc HB.out.size _).drew)
          have HSB := Lib.hid (fun (W : World) (hb : Below (wr.alloc (.cells (chC c) 53)).drew.heap.size (wr.alloc (.cells (chC c) 53)).drew W) => show W.cell? ⟨wr.heap.size, 0, none⟩ = some (.string c.key) ∧ W.cell? ⟨wr.heap.size, 1, none⟩ = some (.string c.val) ∧ W.cell? ⟨wr.heap.size, 2, none⟩ = some (.bool true) ∧ W.cell? ⟨b, off + (j - 1) * 3, none⟩ = some (.string d.key) from ⟨(Below.cell hb (p := ⟨wr.heap.size, 0, none⟩) (by show wr.heap.size < (wr.alloc _).heap.size; rw [World.size_alloc]; omega)).trans x0, (Below.cell hb (p := ⟨wr.heap.size, 1, none⟩) (by show wr.heap.size < (wr.alloc _).heap.size; rw [World.size_alloc]; omega)).trans x1, (Below.cell hb (p := ⟨wr.heap.size, 2, none⟩) (by show wr.heap.size < (wr.alloc _).heap.size; rw [World.size_alloc]; omega)).trans x2, (Below.cell hb (p := ⟨b, off + (j - 1) * 3, none⟩) (by show b < (wr.alloc _).heap.size; rw [World.size_alloc]; omega)).trans x3⟩)
          have j1 : IntKind.i64.wrap ((j : Int) - 1) = (j : Int) - 1 := by rw [IntKind.wrap_i64]; omega
          have j2 : ((j - 1 : Nat) : Int) = (j : Int) - 1 := by omega
          have j3 : ((j : Int) - 1).toNat = j - 1 := by omega
          have j4 : (0 : Int) < j := by omega
          have j5 : (0 : Int) ≤ (j : Int) - 1 := by omega
          have j6 : (j : Int) - 1 < n := by omega
          have j7 : (1 : Int) ≤ j := by omega
          clear hrg3 hbl3 hd
          go_wp2_with (first | ((with_reducible refine Who.wpList_loadC 53 (.tmp 10) rfl b (off + j * 3) (chC c) ?_); refine And.intro ⟨by rfl, by rfl, ⟨_, Try.underlying53, rfl⟩, info_ch⟩ (And.intro HRG.out ?_); (try simp only [Act.put, List.setIfInBounds_toArray, List.set_cons_zero, List.set_cons_succ])) | ((with_reducible refine wpList_storeNew 53 (.tmp 4) (.tmp 11) (chC ch0) (chC c) rfl ?_); refine And.intro ⟨rfl, rfl, rfl, rfl, info_ch, rfl, chC_one _⟩ ?_; (try simp only [Act.put, List.setIfInBounds_toArray, List.set_cons_zero, List.set_cons_succ])) | ((with_reducible refine Who.wpList_alloc 53 4 rfl rfl rfl (chC ch0) halc ?_); (try simp only [Act.put, List.setIfInBounds_toArray, List.set_cons_zero, List.set_cons_succ])))
          refine wp_region_held_drew (S := fun w' => w'.cell? ⟨wr.heap.size, 0, none⟩ = some (.string c.key) ∧ w'.cell? ⟨wr.heap.size, 1, none⟩ = some (.string c.val) ∧ w'.cell? ⟨wr.heap.size, 2, none⟩ = some (.bool true) ∧ w'.cell? ⟨b, off + (j - 1) * 3, none⟩ = some (.string d.key)) (by kernel_rfl) HS.out (fun hHeld => ?_)
          refine Vc.wpAnyH_read (i := 0) (d := some 12) (v := ?vz1) (by rfl) (by rfl) (by kernel_rfl) (by kernel_rfl) (by kernel_rfl) (fun _ _ _ h => h) (by rfl) ?hyz1 (by assumption) ?restz1
          case hyz1 =>
            intro w hSw
            obtain ⟨s0, s1, s2, s3⟩ := hSw
            go_simp
            try with_reducible rfl
          (try simp only [Act.put, List.setIfInBounds_toArray, List.set_cons_zero, List.set_cons_succ])
          refine Vc.wpAnyH_read (i := 1) (d := some 13) (v := ?vz2) (by rfl) (by rfl) (by kernel_rfl) (by kernel_rfl) (by kernel_rfl) (fun _ _ _ h => h) (by rfl) ?hyz2 (by assumption) ?restz2
          case hyz2 =>
            intro w hSw
            obtain ⟨s0, s1, s2, s3⟩ := hSw
            go_simp
            try with_reducible rfl
          (try simp only [Act.put, List.setIfInBounds_toArray, List.set_cons_zero, List.set_cons_succ])
          refine wpAnyH_ready (rs := [2]) (by kernel_rfl) (by simp) ?_
          refine AllReadyH.cons rfl (fun K hK => ?_) AllReadyH.nil
          go_simp
          go_at_call 43
          refine (HK.out _).mono ?_
          rintro e w2 ⟨rfl, rfl⟩
          refine hK.out _ _ HS.out (fun hHeld => ?_)
          clear hK K
          (try simp only [Act.put, List.setIfInBounds_toArray, List.set_cons_zero, List.set_cons_succ])
          refine Vc.wpAnyH_read (i := 3) (d := some 15) (v := ?vz3) (by rfl) (by rfl) (by kernel_rfl) (by kernel_rfl) (by kernel_rfl) (fun _ _ _ h => h) (by rfl) ?hyz3 (by assumption) ?restz3
          case hyz3 =>
            intro w hSw
            obtain ⟨s0, s1, s2, s3⟩ := hSw
            go_simp
            try with_reducible rfl
          (try simp only [Act.put, List.setIfInBounds_toArray, List.set_cons_zero, List.set_cons_succ])
          refine Vc.wpAnyH_read (i := 4) (d := some 16) (v := ?vz4) (by rfl) (by rfl) (by kernel_rfl) (by kernel_rfl) (by kernel_rfl) (fun _ _ _ h => h) (by rfl) ?hyz4 (by assumption) ?restz4
          case hyz4 =>
            intro w hSw
            obtain ⟨s0, s1, s2, s3⟩ := hSw
            go_simp
            try with_reducible rfl
          (try simp only [Act.put, List.setIfInBounds_toArray, List.set_cons_zero, List.set_cons_succ])
          refine Vc.wpAnyH_read (i := 5) (d := some 17) (v := ?vz5) (by rfl) (by rfl) (by kernel_rfl) (by kernel_rfl) (by kernel_rfl) (fun _ _ _ h => h) (by rfl) ?hyz5 (by assumption) ?restz5
          case hyz5 =>
            intro w hSw
            obtain ⟨s0, s1, s2, s3⟩ := hSw
            go_simp
            try with_reducible rfl
          (try simp only [Act.put, List.setIfInBounds_toArray, List.set_cons_zero, List.set_cons_succ])
          refine Vc.wpAnyH_read (i := 6) (d := some 18) (v := ?vz6) (by rfl) (by rfl) (by kernel_rfl) (by kernel_rfl) (by kernel_rfl) (fun _ _ _ h => h) (by rfl) ?hyz6 (by assumption) ?restz6
          case hyz6 =>
            intro w hSw
            obtain ⟨s0, s1, s2, s3⟩ := hSw
            go_simp
            try with_reducible rfl
          (try simp only [Act.put, List.setIfInBounds_toArray, List.set_cons_zero, List.set_cons_succ])
          refine wpAnyH_ready (rs := [7]) (by kernel_rfl) (by simp) ?_
          refine AllReadyH.cons rfl (fun K hK => ?_) AllReadyH.nil
          go_simp
          go_at_call 44
          refine (HV.out _).mono ?_
          rintro e w2 ⟨rfl, rfl⟩
          refine hK.out _ _ HS.out (fun hHeld => ?_)
          clear hK K
          (try simp only [Act.put, List.setIfInBounds_toArray, List.set_cons_zero, List.set_cons_succ])
          refine Vc.wpAnyH_read (i := 8) (d := some 20) (v := ?vz7) (by rfl) (by rfl) (by kernel_rfl) (by kernel_rfl) (by kernel_rfl) (fun _ _ _ h => h) (by rfl) ?hyz7 (by assumption) ?restz7
          case hyz7 =>
            intro w hSw
            obtain ⟨s0, s1, s2, s3⟩ := hSw
            go_simp
            try with_reducible rfl
          (try simp only [Act.put, List.setIfInBounds_toArray, List.set_cons_zero, List.set_cons_succ])
          refine Vc.wpAnyH_read (i := 9) (d := some 21) (v := ?vz8) (by rfl) (by rfl) (by kernel_rfl) (by kernel_rfl) (by kernel_rfl) (fun _ _ _ h => h) (by rfl) ?hyz8 (by assumption) ?restz8
          case hyz8 =>
            intro w hSw
            obtain ⟨s0, s1, s2, s3⟩ := hSw
            go_simp
            try with_reducible rfl
          (try simp only [Act.put, List.setIfInBounds_toArray, List.set_cons_zero, List.set_cons_succ])
          refine Vc.wpAnyH_read (i := 10) (d := some 22) (v := ?vz9) (by rfl) (by rfl) (by kernel_rfl) (by kernel_rfl) (by kernel_rfl) (fun _ _ _ h => h) (by rfl) ?hyz9 (by assumption) ?restz9
          case hyz9 =>
            intro w hSw
            obtain ⟨s0, s1, s2, s3⟩ := hSw
            go_simp
            try with_reducible rfl
          (try simp only [Act.put, List.setIfInBounds_toArray, List.set_cons_zero, List.set_cons_succ])
          refine Vc.wpAnyH_read (i := 11) (d := some 23) (v := ?vz10) (by rfl) (by rfl) (by kernel_rfl) (by kernel_rfl) (by kernel_rfl) (fun _ _ _ h => h) (by rfl) ?hyz10 (by assumption) ?restz10
          case hyz10 =>
            intro w hSw
            obtain ⟨s0, s1, s2, s3⟩ := hSw
            go_simp
            try with_reducible rfl
          (try simp only [Act.put, List.setIfInBounds_toArray, List.set_cons_zero, List.set_cons_succ])
          refine Vc.wpAnyH_read (i := 12) (d := some 24) (v := ?vz11) (by rfl) (by rfl) (by kernel_rfl) (by kernel_rfl) (by kernel_rfl) (fun _ _ _ h => h) (by rfl) ?hyz11 (by assumption) ?restz11
          case hyz11 =>
            intro w hSw
            obtain ⟨s0, s1, s2, s3⟩ := hSw
            go_simp
            try with_reducible rfl
          (try simp only [Act.put, List.setIfInBounds_toArray, List.set_cons_zero, List.set_cons_succ])
          refine Vc.wpAnyH_read (i := 13) (d := some 25) (v := ?vz12) (by rfl) (by rfl) (by kernel_rfl) (by kernel_rfl) (by kernel_rfl) (fun _ _ _ h => h) (by rfl) ?hyz12 (by assumption) ?restz12
          case hyz12 =>
            intro w hSw
            obtain ⟨s0, s1, s2, s3⟩ := hSw
            go_simp
            try with_reducible rfl
          (try simp only [Act.put, List.setIfInBounds_toArray, List.set_cons_zero, List.set_cons_succ])
          refine Vc.wpAnyH_read (i := 14) (d := some 26) (v := ?vz13) (by rfl) (by rfl) (by kernel_rfl) (by kernel_rfl) (by kernel_rfl) (fun _ _ _ h => h) (by rfl) ?hyz13 (by assumption) ?restz13
          case hyz13 =>
            intro w hSw
            obtain ⟨s0, s1, s2, s3⟩ := hSw
            go_simp
            try with_reducible rfl
          (try simp only [Act.put, List.setIfInBounds_toArray, List.set_cons_zero, List.set_cons_succ])
          refine Vc.wpAnyH_read (i := 15) (d := some 27) (v := ?vz14) (by rfl) (by rfl) (by kernel_rfl) (by kernel_rfl) (by kernel_rfl) (fun _ _ _ h => h) (by rfl) ?hyz14 (by assumption) ?restz14
          case hyz14 =>
            intro w hSw
            obtain ⟨s0, s1, s2, s3⟩ := hSw
            go_simp
            try with_reducible rfl
          (try simp only [Act.put, List.setIfInBounds_toArray, List.set_cons_zero, List.set_cons_succ])
          refine Vc.wpAnyH_read (i := 16) (d := some 28) (v := ?vz15) (by rfl) (by rfl) (by kernel_rfl) (by kernel_rfl) (by kernel_rfl) (fun _ _ _ h => h) (by rfl) ?hyz15 (by assumption) ?restz15
          case hyz15 =>
            intro w hSw
            obtain ⟨s0, s1, s2, s3⟩ := hSw
            go_simp
            try with_reducible rfl
          (try simp only [Act.put, List.setIfInBounds_toArray, List.set_cons_zero, List.set_cons_succ])
          refine Vc.wpAnyH_read (i := 17) (d := some 29) (v := ?vz16) (by rfl) (by rfl) (by kernel_rfl) (by kernel_rfl) (by kernel_rfl) (fun _ _ _ h => h) (by rfl) ?hyz16 (by assumption) ?restz16
          case hyz16 =>
            intro w hSw
            obtain ⟨s0, s1, s2, s3⟩ := hSw
            go_simp
            try with_reducible rfl
          (try simp only [Act.put, List.setIfInBounds_toArray, List.set_cons_zero, List.set_cons_succ])
          refine Vc.wpAnyH_read (i := 18) (d := some 30) (v := ?vz17) (by rfl) (by rfl) (by kernel_rfl) (by kernel_rfl) (by kernel_rfl) (fun _ _ _ h => h) (by rfl) ?hyz17 (by assumption) ?restz17
          case hyz17 =>
            intro w hSw
            obtain ⟨s0, s1, s2, s3⟩ := hSw
            go_simp
            try with_reducible rfl
          (try simp only [Act.put, List.setIfInBounds_toArray, List.set_cons_zero, List.set_cons_succ])
          refine Vc.wpAnyH_read (i := 19) (d := some 31) (v := ?vz18) (by rfl) (by rfl) (by kernel_rfl) (by kernel_rfl) (by kernel_rfl) (fun _ _ _ h => h) (by rfl) ?hyz18 (by assumption) ?restz18
          case hyz18 =>
            intro w hSw
            obtain ⟨s0, s1, s2, s3⟩ := hSw
            go_simp
            try with_reducible rfl
          (try simp only [Act.put, List.setIfInBounds_toArray, List.set_cons_zero, List.set_cons_succ])
          refine Vc.wpAnyH_read (i := 20) (d := some 32) (v := ?vz19) (by rfl) (by rfl) (by kernel_rfl) (by kernel_rfl) (by kernel_rfl) (fun _ _ _ h => h) (by rfl) ?hyz19 (by assumption) ?restz19
          case hyz19 =>
            intro w hSw
            obtain ⟨s0, s1, s2, s3⟩ := hSw
            go_simp
            try with_reducible rfl
          (try simp only [Act.put, List.setIfInBounds_toArray, List.set_cons_zero, List.set_cons_succ])
          refine Vc.wpAnyH_read (i := 21) (d := some 33) (v := ?vz20) (by rfl) (by rfl) (by kernel_rfl) (by kernel_rfl) (by kernel_rfl) (fun _ _ _ h => h) (by rfl) ?hyz20 (by assumption) ?restz20
          case hyz20 =>
            intro w hSw
            obtain ⟨s0, s1, s2, s3⟩ := hSw
            go_simp
            try with_reducible rfl
          (try simp only [Act.put, List.setIfInBounds_toArray, List.set_cons_zero, List.set_cons_succ])
          refine Vc.wpAnyH_read (i := 22) (d := some 34) (v := ?vz21) (by rfl) (by rfl) (by kernel_rfl) (by kernel_rfl) (by kernel_rfl) (fun _ _ _ h => h) (by rfl) ?hyz21 (by assumption) ?restz21
          case hyz21 =>
            intro w hSw
            obtain ⟨s0, s1, s2, s3⟩ := hSw
            go_simp
            try with_reducible rfl
          (try simp only [Act.put, List.setIfInBounds_toArray, List.set_cons_zero, List.set_cons_succ])
          refine Vc.wpAnyH_read (i := 23) (d := some 35) (v := ?vz22) (by rfl) (by rfl) (by kernel_rfl) (by kernel_rfl) (by kernel_rfl) (fun _ _ _ h => h) (by rfl) ?hyz22 (by assumption) ?restz22
          case hyz22 =>
            intro w hSw
            obtain ⟨s0, s1, s2, s3⟩ := hSw
            go_simp
            try with_reducible rfl
          (try simp only [Act.put, List.setIfInBounds_toArray, List.set_cons_zero, List.set_cons_succ])
          refine Vc.wpAnyH_read (i := 24) (d := some 36) (v := ?vz23) (by rfl) (by rfl) (by kernel_rfl) (by kernel_rfl) (by kernel_rfl) (fun _ _ _ h => h) (by rfl) ?hyz23 (by assumption) ?restz23
          case hyz23 =>
            intro w hSw
            obtain ⟨s0, s1, s2, s3⟩ := hSw
            go_simp
            try with_reducible rfl
          (try simp only [Act.put, List.setIfInBounds_toArray, List.set_cons_zero, List.set_cons_succ])
          refine Vc.wpAnyH_read (i := 25) (d := some 37) (v := ?vz24) (by rfl) (by rfl) (by kernel_rfl) (by kernel_rfl) (by kernel_rfl) (fun _ _ _ h => h) (by rfl) ?hyz24 (by assumption) ?restz24
          case hyz24 =>
            intro w hSw
            obtain ⟨s0, s1, s2, s3⟩ := hSw
            go_simp
            try with_reducible rfl
          (try simp only [Act.put, List.setIfInBounds_toArray, List.set_cons_zero, List.set_cons_succ])
          refine Vc.wpAnyH_read (i := 26) (d := some 38) (v := ?vz25) (by rfl) (by rfl) (by kernel_rfl) (by kernel_rfl) (by kernel_rfl) (fun _ _ _ h => h) (by rfl) ?hyz25 (by assumption) ?restz25
          case hyz25 =>
            intro w hSw
            obtain ⟨s0, s1, s2, s3⟩ := hSw
            go_simp
            try with_reducible rfl
          (try simp only [Act.put, List.setIfInBounds_toArray, List.set_cons_zero, List.set_cons_succ])
          refine Vc.wpAnyH_read (i := 27) (d := some 39) (v := ?vz26) (by rfl) (by rfl) (by kernel_rfl) (by kernel_rfl) (by kernel_rfl) (fun _ _ _ h => h) (by rfl) ?hyz26 (by assumption) ?restz26
          case hyz26 =>
            intro w hSw
            obtain ⟨s0, s1, s2, s3⟩ := hSw
            go_simp
            try with_reducible rfl
          (try simp only [Act.put, List.setIfInBounds_toArray, List.set_cons_zero, List.set_cons_succ])
          refine Vc.wpAnyH_read (i := 28) (d := some 40) (v := ?vz27) (by rfl) (by rfl) (by kernel_rfl) (by kernel_rfl) (by kernel_rfl) (fun _ _ _ h => h) (by rfl) ?hyz27 (by assumption) ?restz27
          case hyz27 =>
            intro w hSw
            obtain ⟨s0, s1, s2, s3⟩ := hSw
            go_simp
            try with_reducible rfl
          (try simp only [Act.put, List.setIfInBounds_toArray, List.set_cons_zero, List.set_cons_succ])
          refine Vc.wpAnyH_read (i := 29) (d := some 41) (v := ?vz28) (by rfl) (by rfl) (by kernel_rfl) (by kernel_rfl) (by kernel_rfl) (fun _ _ _ h => h) (by rfl) ?hyz28 (by assumption) ?restz28
          case hyz28 =>
            intro w hSw
            obtain ⟨s0, s1, s2, s3⟩ := hSw
            go_simp
            try with_reducible rfl
          (try simp only [Act.put, List.setIfInBounds_toArray, List.set_cons_zero, List.set_cons_succ])
          refine Vc.wpAnyH_read (i := 30) (d := some 42) (v := ?vz29) (by rfl) (by rfl) (by kernel_rfl) (by kernel_rfl) (by kernel_rfl) (fun _ _ _ h => h) (by rfl) ?hyz29 (by assumption) ?restz29
          case hyz29 =>
            intro w hSw
            obtain ⟨s0, s1, s2, s3⟩ := hSw
            go_simp
            try with_reducible rfl
          (try simp only [Act.put, List.setIfInBounds_toArray, List.set_cons_zero, List.set_cons_succ])
          refine wpAnyH_ready (rs := [31]) (by kernel_rfl) (by simp) ?_
          refine AllReadyH.cons rfl (fun K hK => ?_) AllReadyH.nil
          go_simp
          go_at_call 45
          refine (HL.out _).mono ?_
          rintro e w2 ⟨rfl, hb⟩
          rw [HLT.out]
          have HB2 := Lib.hid (HB1.out.trans (hb.mono HB1.out.size))
          have HS2 := Lib.hid (HSB.out _ hb)
          clear hb
          refine hK.out _ _ HS2.out (fun hHeld => ?_)
          clear hK K
          (try simp only [Act.put, List.setIfInBounds_toArray, List.set_cons_zero, List.set_cons_succ])
          refine Vc.wpAnyH_read (i := 32) (d := some 44) (v := ?vz30) (by rfl) (by rfl) (by kernel_rfl) (by kernel_rfl) (by kernel_rfl) (fun _ _ _ h => h) (by rfl) ?hyz30 (by assumption) ?restz30
          case hyz30 =>
            intro w hSw
            obtain ⟨s0, s1, s2, s3⟩ := hSw
            go_simp
            try with_reducible rfl
          (try simp only [Act.put, List.setIfInBounds_toArray, List.set_cons_zero, List.set_cons_succ])
          refine Vc.wpAnyH_read (i := 33) (d := some 45) (v := ?vz31) (by rfl) (by rfl) (by kernel_rfl) (by kernel_rfl) (by kernel_rfl) (fun _ _ _ h => h) (by rfl) ?hyz31 (by assumption) ?restz31
          case hyz31 =>
            intro w hSw
            obtain ⟨s0, s1, s2, s3⟩ := hSw
            go_simp
            try with_reducible rfl
          (try simp only [Act.put, List.setIfInBounds_toArray, List.set_cons_zero, List.set_cons_succ])
          refine Vc.wpAnyH_read (i := 34) (d := some 46) (v := ?vz32) (by rfl) (by rfl) (by kernel_rfl) (by kernel_rfl) (by kernel_rfl) (fun _ _ _ h => h) (by rfl) ?hyz32 (by assumption) ?restz32
          case hyz32 =>
            intro w hSw
            obtain ⟨s0, s1, s2, s3⟩ := hSw
            go_simp
            try with_reducible rfl
          (try simp only [Act.put, List.setIfInBounds_toArray, List.set_cons_zero, List.set_cons_succ])
          refine wpAnyH_done (by kernel_rfl) ?_ _
          go_wp2
          go_roundw
          case rel => exact ⟨j + 1, HJ.out, by go_num, HB2⟩
          case measure => have := HJ.out; simp [intOf]; omega
        · have hp0 : ¬ (0 : Int) < j := by omega
          have HS := Lib.hid (And.intro x0 (And.intro x1 (And.intro x2 trivial)))
          have HB1 := Lib.hid (show Below w.heap.size w ((wr.alloc (.cells (chC c) 53)).drew) from (HB.out.alloc HB.out.size _).drew)
          go_wp2_with (first | ((with_reducible refine Who.wpList_loadC 53 (.tmp 10) rfl b (off + j * 3) (chC c) ?_); refine And.intro ⟨by rfl, by rfl, ⟨_, Try.underlying53, rfl⟩, info_ch⟩ (And.intro HRG.out ?_); (try simp only [Act.put, List.setIfInBounds_toArray, List.set_cons_zero, List.set_cons_succ])) | ((with_reducible refine wpList_storeNew 53 (.tmp 4) (.tmp 11) (chC ch0) (chC c) rfl ?_); refine And.intro ⟨rfl, rfl, rfl, rfl, info_ch, rfl, chC_one _⟩ ?_; (try simp only [Act.put, List.setIfInBounds_toArray, List.set_cons_zero, List.set_cons_succ])) | ((with_reducible refine Who.wpList_alloc 53 4 rfl rfl rfl (chC ch0) halc ?_); (try simp only [Act.put, List.setIfInBounds_toArray, List.set_cons_zero, List.set_cons_succ])))
          refine wp_region_held_drew (S := fun w' => w'.cell? ⟨wr.heap.size, 0, none⟩ = some (.string c.key) ∧ w'.cell? ⟨wr.heap.size, 1, none⟩ = some (.string c.val) ∧ w'.cell? ⟨wr.heap.size, 2, none⟩ = some (.bool true) ∧ True) (by kernel_rfl) HS.out (fun hHeld => ?_)
          refine Vc.wpAnyH_read (i := 0) (d := some 12) (v := ?vz33) (by rfl) (by rfl) (by kernel_rfl) (by kernel_rfl) (by kernel_rfl) (fun _ _ _ h => h) (by rfl) ?hyz33 (by assumption) ?restz33
          case hyz33 =>
            intro w hSw
            obtain ⟨s0, s1, s2, s3⟩ := hSw
            go_simp
            try with_reducible rfl
          (try simp only [Act.put, List.setIfInBounds_toArray, List.set_cons_zero, List.set_cons_succ])
          refine Vc.wpAnyH_read (i := 1) (d := some 13) (v := ?vz34) (by rfl) (by rfl) (by kernel_rfl) (by kernel_rfl) (by kernel_rfl) (fun _ _ _ h => h) (by rfl) ?hyz34 (by assumption) ?restz34
          case hyz34 =>
            intro w hSw
            obtain ⟨s0, s1, s2, s3⟩ := hSw
            go_simp
            try with_reducible rfl
          (try simp only [Act.put, List.setIfInBounds_toArray, List.set_cons_zero, List.set_cons_succ])
          refine wpAnyH_ready (rs := [2]) (by kernel_rfl) (by simp) ?_
          refine AllReadyH.cons rfl (fun K hK => ?_) AllReadyH.nil
          go_simp
          go_at_call 43
          refine (HK.out _).mono ?_
          rintro e w2 ⟨rfl, rfl⟩
          refine hK.out _ _ HS.out (fun hHeld => ?_)
          clear hK K
          (try simp only [Act.put, List.setIfInBounds_toArray, List.set_cons_zero, List.set_cons_succ])
          refine Vc.wpAnyH_read (i := 3) (d := some 15) (v := ?vz35) (by rfl) (by rfl) (by kernel_rfl) (by kernel_rfl) (by kernel_rfl) (fun _ _ _ h => h) (by rfl) ?hyz35 (by assumption) ?restz35
          case hyz35 =>
            intro w hSw
            obtain ⟨s0, s1, s2, s3⟩ := hSw
            go_simp
            try with_reducible rfl
          (try simp only [Act.put, List.setIfInBounds_toArray, List.set_cons_zero, List.set_cons_succ])
          refine Vc.wpAnyH_read (i := 4) (d := some 16) (v := ?vz36) (by rfl) (by rfl) (by kernel_rfl) (by kernel_rfl) (by kernel_rfl) (fun _ _ _ h => h) (by rfl) ?hyz36 (by assumption) ?restz36
          case hyz36 =>
            intro w hSw
            obtain ⟨s0, s1, s2, s3⟩ := hSw
            go_simp
            try with_reducible rfl
          (try simp only [Act.put, List.setIfInBounds_toArray, List.set_cons_zero, List.set_cons_succ])
          refine Vc.wpAnyH_read (i := 5) (d := some 17) (v := ?vz37) (by rfl) (by rfl) (by kernel_rfl) (by kernel_rfl) (by kernel_rfl) (fun _ _ _ h => h) (by rfl) ?hyz37 (by assumption) ?restz37
          case hyz37 =>
            intro w hSw
            obtain ⟨s0, s1, s2, s3⟩ := hSw
            go_simp
            try with_reducible rfl
          (try simp only [Act.put, List.setIfInBounds_toArray, List.set_cons_zero, List.set_cons_succ])
          refine Vc.wpAnyH_read (i := 6) (d := some 18) (v := ?vz38) (by rfl) (by rfl) (by kernel_rfl) (by kernel_rfl) (by kernel_rfl) (fun _ _ _ h => h) (by rfl) ?hyz38 (by assumption) ?restz38
          case hyz38 =>
            intro w hSw
            obtain ⟨s0, s1, s2, s3⟩ := hSw
            go_simp
            try with_reducible rfl
          (try simp only [Act.put, List.setIfInBounds_toArray, List.set_cons_zero, List.set_cons_succ])
          refine wpAnyH_ready (rs := [7]) (by kernel_rfl) (by simp) ?_
          refine AllReadyH.cons rfl (fun K hK => ?_) AllReadyH.nil
          go_simp
          go_at_call 44
          refine (HV.out _).mono ?_
          rintro e w2 ⟨rfl, rfl⟩
          refine hK.out _ _ HS.out (fun hHeld => ?_)
          clear hK K
          (try simp only [Act.put, List.setIfInBounds_toArray, List.set_cons_zero, List.set_cons_succ])
          refine Vc.wpAnyH_read (i := 8) (d := some 20) (v := ?vz39) (by rfl) (by rfl) (by kernel_rfl) (by kernel_rfl) (by kernel_rfl) (fun _ _ _ h => h) (by rfl) ?hyz39 (by assumption) ?restz39
          case hyz39 =>
            intro w hSw
            obtain ⟨s0, s1, s2, s3⟩ := hSw
            go_simp
            try with_reducible rfl
          (try simp only [Act.put, List.setIfInBounds_toArray, List.set_cons_zero, List.set_cons_succ])
          refine Vc.wpAnyH_read (i := 9) (d := some 21) (v := ?vz40) (by rfl) (by rfl) (by kernel_rfl) (by kernel_rfl) (by kernel_rfl) (fun _ _ _ h => h) (by rfl) ?hyz40 (by assumption) ?restz40
          case hyz40 =>
            intro w hSw
            obtain ⟨s0, s1, s2, s3⟩ := hSw
            go_simp
            try with_reducible rfl
          (try simp only [Act.put, List.setIfInBounds_toArray, List.set_cons_zero, List.set_cons_succ])
          refine Vc.wpAnyH_read (i := 10) (d := some 22) (v := ?vz41) (by rfl) (by rfl) (by kernel_rfl) (by kernel_rfl) (by kernel_rfl) (fun _ _ _ h => h) (by rfl) ?hyz41 (by assumption) ?restz41
          case hyz41 =>
            intro w hSw
            obtain ⟨s0, s1, s2, s3⟩ := hSw
            go_simp
            try with_reducible rfl
          (try simp only [Act.put, List.setIfInBounds_toArray, List.set_cons_zero, List.set_cons_succ])
          refine Vc.wpAnyH_read (i := 11) (d := some 23) (v := ?vz42) (by rfl) (by rfl) (by kernel_rfl) (by kernel_rfl) (by kernel_rfl) (fun _ _ _ h => h) (by rfl) ?hyz42 (by assumption) ?restz42
          case hyz42 =>
            intro w hSw
            obtain ⟨s0, s1, s2, s3⟩ := hSw
            go_simp
            try with_reducible rfl
          (try simp only [Act.put, List.setIfInBounds_toArray, List.set_cons_zero, List.set_cons_succ])
          refine Vc.wpAnyH_read (i := 12) (d := some 24) (v := ?vz43) (by rfl) (by rfl) (by kernel_rfl) (by kernel_rfl) (by kernel_rfl) (fun _ _ _ h => h) (by rfl) ?hyz43 (by assumption) ?restz43
          case hyz43 =>
            intro w hSw
            obtain ⟨s0, s1, s2, s3⟩ := hSw
            go_simp
            try with_reducible rfl
          (try simp only [Act.put, List.setIfInBounds_toArray, List.set_cons_zero, List.set_cons_succ])
          refine Vc.wpAnyH_read (i := 13) (d := some 25) (v := ?vz44) (by rfl) (by rfl) (by kernel_rfl) (by kernel_rfl) (by kernel_rfl) (fun _ _ _ h => h) (by rfl) ?hyz44 (by assumption) ?restz44
          case hyz44 =>
            intro w hSw
            obtain ⟨s0, s1, s2, s3⟩ := hSw
            go_simp
            try with_reducible rfl
          (try simp only [Act.put, List.setIfInBounds_toArray, List.set_cons_zero, List.set_cons_succ])
          refine Vc.wpAnyH_read (i := 14) (d := some 26) (v := ?vz45) (by rfl) (by rfl) (by kernel_rfl) (by kernel_rfl) (by kernel_rfl) (fun _ _ _ h => h) (by rfl) ?hyz45 (by assumption) ?restz45
          case hyz45 =>
            intro w hSw
            obtain ⟨s0, s1, s2, s3⟩ := hSw
            go_simp
            try with_reducible rfl
          (try simp only [Act.put, List.setIfInBounds_toArray, List.set_cons_zero, List.set_cons_succ])
          refine Vc.wpAnyH_read (i := 15) (d := some 27) (v := ?vz46) (by rfl) (by rfl) (by kernel_rfl) (by kernel_rfl) (by kernel_rfl) (fun _ _ _ h => h) (by rfl) ?hyz46 (by assumption) ?restz46
          case hyz46 =>
            intro w hSw
            obtain ⟨s0, s1, s2, s3⟩ := hSw
            go_simp
            try with_reducible rfl
          (try simp only [Act.put, List.setIfInBounds_toArray, List.set_cons_zero, List.set_cons_succ])
          refine Vc.wpAnyH_read (i := 16) (d := some 28) (v := ?vz47) (by rfl) (by rfl) (by kernel_rfl) (by kernel_rfl) (by kernel_rfl) (fun _ _ _ h => h) (by rfl) ?hyz47 (by assumption) ?restz47
          case hyz47 =>
            intro w hSw
            obtain ⟨s0, s1, s2, s3⟩ := hSw
            go_simp
            try with_reducible rfl
          (try simp only [Act.put, List.setIfInBounds_toArray, List.set_cons_zero, List.set_cons_succ])
          refine Vc.wpAnyH_read (i := 17) (d := some 29) (v := ?vz48) (by rfl) (by rfl) (by kernel_rfl) (by kernel_rfl) (by kernel_rfl) (fun _ _ _ h => h) (by rfl) ?hyz48 (by assumption) ?restz48
          case hyz48 =>
            intro w hSw
            obtain ⟨s0, s1, s2, s3⟩ := hSw
            go_simp
            try with_reducible rfl
          (try simp only [Act.put, List.setIfInBounds_toArray, List.set_cons_zero, List.set_cons_succ])
          refine Vc.wpAnyH_read (i := 18) (d := some 30) (v := ?vz49) (by rfl) (by rfl) (by kernel_rfl) (by kernel_rfl) (by kernel_rfl) (fun _ _ _ h => h) (by rfl) ?hyz49 (by assumption) ?restz49
          case hyz49 =>
            intro w hSw
            obtain ⟨s0, s1, s2, s3⟩ := hSw
            go_simp
            try with_reducible rfl
          (try simp only [Act.put, List.setIfInBounds_toArray, List.set_cons_zero, List.set_cons_succ])
          refine Vc.wpAnyH_read (i := 19) (d := some 31) (v := ?vz50) (by rfl) (by rfl) (by kernel_rfl) (by kernel_rfl) (by kernel_rfl) (fun _ _ _ h => h) (by rfl) ?hyz50 (by assumption) ?restz50
          case hyz50 =>
            intro w hSw
            obtain ⟨s0, s1, s2, s3⟩ := hSw
            go_simp
            try with_reducible rfl
          (try simp only [Act.put, List.setIfInBounds_toArray, List.set_cons_zero, List.set_cons_succ])
          refine Vc.wpAnyH_read (i := 20) (d := some 32) (v := ?vz51) (by rfl) (by rfl) (by kernel_rfl) (by kernel_rfl) (by kernel_rfl) (fun _ _ _ h => h) (by rfl) ?hyz51 (by assumption) ?restz51
          case hyz51 =>
            intro w hSw
            obtain ⟨s0, s1, s2, s3⟩ := hSw
            go_simp
            try with_reducible rfl
          (try simp only [Act.put, List.setIfInBounds_toArray, List.set_cons_zero, List.set_cons_succ])
          refine Vc.wpAnyH_read (i := 21) (d := some 33) (v := ?vz52) (by rfl) (by rfl) (by kernel_rfl) (by kernel_rfl) (by kernel_rfl) (fun _ _ _ h => h) (by rfl) ?hyz52 (by assumption) ?restz52
          case hyz52 =>
            intro w hSw
            obtain ⟨s0, s1, s2, s3⟩ := hSw
            go_simp
            try with_reducible rfl
          (try simp only [Act.put, List.setIfInBounds_toArray, List.set_cons_zero, List.set_cons_succ])
          refine Vc.wpAnyH_read (i := 22) (d := some 34) (v := ?vz53) (by rfl) (by rfl) (by kernel_rfl) (by kernel_rfl) (by kernel_rfl) (fun _ _ _ h => h) (by rfl) ?hyz53 (by assumption) ?restz53
          case hyz53 =>
            intro w hSw
            obtain ⟨s0, s1, s2, s3⟩ := hSw
            go_simp
            try with_reducible rfl
          (try simp only [Act.put, List.setIfInBounds_toArray, List.set_cons_zero, List.set_cons_succ])
          refine Vc.wpAnyH_skip (i := 23) (d := some 35) (by rfl) (by rfl) (by kernel_rfl) (by kernel_rfl) (by kernel_rfl) (fun _ _ _ h => h) (by rfl) (by assumption) ?_
          (try simp only [Act.put, List.setIfInBounds_toArray, List.set_cons_zero, List.set_cons_succ])
          refine Vc.wpAnyH_skip (i := 24) (d := some 36) (by rfl) (by rfl) (by kernel_rfl) (by kernel_rfl) (by kernel_rfl) (fun _ _ _ h => h) (by rfl) (by assumption) ?_
          (try simp only [Act.put, List.setIfInBounds_toArray, List.set_cons_zero, List.set_cons_succ])
          refine Vc.wpAnyH_skip (i := 25) (d := some 37) (by rfl) (by rfl) (by kernel_rfl) (by kernel_rfl) (by kernel_rfl) (fun _ _ _ h => h) (by rfl) (by assumption) ?_
          (try simp only [Act.put, List.setIfInBounds_toArray, List.set_cons_zero, List.set_cons_succ])
          refine Vc.wpAnyH_skip (i := 26) (d := some 38) (by rfl) (by rfl) (by kernel_rfl) (by kernel_rfl) (by kernel_rfl) (fun _ _ _ h => h) (by rfl) (by assumption) ?_
          (try simp only [Act.put, List.setIfInBounds_toArray, List.set_cons_zero, List.set_cons_succ])
          refine Vc.wpAnyH_skip (i := 27) (d := some 39) (by rfl) (by rfl) (by kernel_rfl) (by kernel_rfl) (by kernel_rfl) (fun _ _ _ h => h) (by rfl) (by assumption) ?_
          (try simp only [Act.put, List.setIfInBounds_toArray, List.set_cons_zero, List.set_cons_succ])
          refine Vc.wpAnyH_skip (i := 28) (d := some 40) (by rfl) (by rfl) (by kernel_rfl) (by kernel_rfl) (by kernel_rfl) (fun _ _ _ h => h) (by rfl) (by assumption) ?_
          (try simp only [Act.put, List.setIfInBounds_toArray, List.set_cons_zero, List.set_cons_succ])
          refine Vc.wpAnyH_skip (i := 29) (d := some 41) (by rfl) (by rfl) (by kernel_rfl) (by kernel_rfl) (by kernel_rfl) (fun _ _ _ h => h) (by rfl) (by assumption) ?_
          (try simp only [Act.put, List.setIfInBounds_toArray, List.set_cons_zero, List.set_cons_succ])
          refine Vc.wpAnyH_skip (i := 30) (d := some 42) (by rfl) (by rfl) (by kernel_rfl) (by kernel_rfl) (by kernel_rfl) (fun _ _ _ h => h) (by rfl) (by assumption) ?_
          (try simp only [Act.put, List.setIfInBounds_toArray, List.set_cons_zero, List.set_cons_succ])
          refine Vc.wpAnyH_skip (i := 31) (d := some 43) (by rfl) (by rfl) (by kernel_rfl) (by kernel_rfl) (by kernel_rfl) (fun _ _ _ h => h) (by rfl) (by assumption) ?_
          (try simp only [Act.put, List.setIfInBounds_toArray, List.set_cons_zero, List.set_cons_succ])
          refine Vc.wpAnyH_skip (i := 32) (d := some 44) (by rfl) (by rfl) (by kernel_rfl) (by kernel_rfl) (by kernel_rfl) (fun _ _ _ h => h) (by rfl) (by assumption) ?_
          (try simp only [Act.put, List.setIfInBounds_toArray, List.set_cons_zero, List.set_cons_succ])
          refine Vc.wpAnyH_read (i := 33) (d := some 45) (v := ?vz54) (by rfl) (by rfl) (by kernel_rfl) (by kernel_rfl) (by kernel_rfl) (fun _ _ _ h => h) (by rfl) ?hyz54 (by assumption) ?restz54
          case hyz54 =>
            intro w hSw
            obtain ⟨s0, s1, s2, s3⟩ := hSw
            go_simp
            try with_reducible rfl
          (try simp only [Act.put, List.setIfInBounds_toArray, List.set_cons_zero, List.set_cons_succ])
          refine Vc.wpAnyH_read (i := 34) (d := some 46) (v := ?vz55) (by rfl) (by rfl) (by kernel_rfl) (by kernel_rfl) (by kernel_rfl) (fun _ _ _ h => h) (by rfl) ?hyz55 (by assumption) ?restz55
          case hyz55 =>
            intro w hSw
            obtain ⟨s0, s1, s2, s3⟩ := hSw
            go_simp
            try with_reducible rfl
          (try simp only [Act.put, List.setIfInBounds_toArray, List.set_cons_zero, List.set_cons_succ])
          refine wpAnyH_done (by kernel_rfl) ?_ _
          go_wp2
          go_roundw
          case rel => exact ⟨j + 1, HJ.out, by go_num, Lib.hid HB1.out⟩
          case measure => have := HJ.out; simp [intOf]; omega
      | false =>
        rw [hg] at x2
        clear hg
        by_cases hp : 0 < j
        · obtain ⟨d, hd⟩ : ∃ d, cs[j - 1]? = some d := ⟨_, List.getElem?_eq_getElem (by have := HLN.out; omega)⟩
          obtain ⟨b3, off3, e3, hbl3, hrg3⟩ := (HH.out.below HB.out).cells (j - 1) d hd
          injection e3 with e3
          injection e3 with e4 e5 _
          subst e4 e5
          have HOK := Lib.hid (sort_at HSO.out (j := j - 1) hd (by rw [Nat.sub_add_cancel hp]; exact HC.out))
          have HLT := Lib.hid (less_total _ _ HOK.out.1 (fun e => by have h := HOK.out.2.1; rw [e] at h; simp at h))
          have HDS := Lib.hid (sort_small HSO.out d (List.mem_of_getElem? hd))
          have HL := Lib.hid (fun W => less_any d.key c.key (by have := HDS.out; omega) (by have := HSM.out; omega) W)
          have x3 : (wr.alloc (.cells (chC c) 53)).cell? ⟨b, off + (j - 1) * 3, none⟩ = some (.string d.key) := (Below.cell ((Below.refl wr.heap.size wr).alloc (Nat.le_refl _) (.cells (chC c) 53)) (p := ⟨b, off + (j - 1) * 3, none⟩) hbl3).trans (hrg3 0 _ rfl)
          have HS := Lib.hid (And.intro x0 (And.intro x1 (And.intro x2 x3)))
          have HB1 := Lib.hid (show Below w.heap.size w ((wr.alloc (.cells (chC c) 53)).drew) from (HB.out.alloc HB.out.size _).drew)
          have HSB := Lib.hid (fun (W : World) (hb : Below (wr.alloc (.cells (chC c) 53)).drew.heap.size (wr.alloc (.cells (chC c) 53)).drew W) => show W.cell? ⟨wr.heap.size, 0, none⟩ = some (.string c.key) ∧ W.cell? ⟨wr.heap.size, 1, none⟩ = some (.string c.val) ∧ W.cell? ⟨wr.heap.size, 2, none⟩ = some (.bool false) ∧ W.cell? ⟨b, off + (j - 1) * 3, none⟩ = some (.string d.key) from ⟨(Below.cell hb (p := ⟨wr.heap.size, 0, none⟩) (by show wr.heap.size < (wr.alloc _).heap.size; rw [World.size_alloc]; omega)).trans x0, (Below.cell hb (p := ⟨wr.heap.size, 1, none⟩) (by show wr.heap.size < (wr.alloc _).heap.size; rw [World.size_alloc]; omega)).trans x1, (Below.cell hb (p := ⟨wr.heap.size, 2, none⟩) (by show wr.heap.size < (wr.alloc _).heap.size; rw [World.size_alloc]; omega)).trans x2, (Below.cell hb (p := ⟨b, off + (j - 1) * 3, none⟩) (by show b < (wr.alloc _).heap.size; rw [World.size_alloc]; omega)).trans x3⟩)
          have j1 : IntKind.i64.wrap ((j : Int) - 1) = (j : Int) - 1 := by rw [IntKind.wrap_i64]; omega
          have j2 : ((j - 1 : Nat) : Int) = (j : Int) - 1 := by omega
          have j3 : ((j : Int) - 1).toNat = j - 1 := by omega
          have j4 : (0 : Int) < j := by omega
          have j5 : (0 : Int) ≤ (j : Int) - 1 := by omega
          have j6 : (j : Int) - 1 < n := by omega
          have j7 : (1 : Int) ≤ j := by omega
          clear hrg3 hbl3 hd
          go_wp2_with (first | ((with_reducible refine Who.wpList_loadC 53 (.tmp 10) rfl b (off + j * 3) (chC c) ?_); refine And.intro ⟨by rfl, by rfl, ⟨_, Try.underlying53, rfl⟩, info_ch⟩ (And.intro HRG.out ?_); (try simp only [Act.put, List.setIfInBounds_toArray, List.set_cons_zero, List.set_cons_succ])) | ((with_reducible refine wpList_storeNew 53 (.tmp 4) (.tmp 11) (chC ch0) (chC c) rfl ?_); refine And.intro ⟨rfl, rfl, rfl, rfl, info_ch, rfl, chC_one _⟩ ?_; (try simp only [Act.put, List.setIfInBounds_toArray, List.set_cons_zero, List.set_cons_succ])) | ((with_reducible refine Who.wpList_alloc 53 4 rfl rfl rfl (chC ch0) halc ?_); (try simp only [Act.put, List.setIfInBounds_toArray, List.set_cons_zero, List.set_cons_succ])))
          refine wp_region_held_drew (S := fun w' => w'.cell? ⟨wr.heap.size, 0, none⟩ = some (.string c.key) ∧ w'.cell? ⟨wr.heap.size, 1, none⟩ = some (.string c.val) ∧ w'.cell? ⟨wr.heap.size, 2, none⟩ = some (.bool false) ∧ w'.cell? ⟨b, off + (j - 1) * 3, none⟩ = some (.string d.key)) (by kernel_rfl) HS.out (fun hHeld => ?_)
          refine Vc.wpAnyH_read (i := 0) (d := some 12) (v := ?vz56) (by rfl) (by rfl) (by kernel_rfl) (by kernel_rfl) (by kernel_rfl) (fun _ _ _ h => h) (by rfl) ?hyz56 (by assumption) ?restz56
          case hyz56 =>
            intro w hSw
            obtain ⟨s0, s1, s2, s3⟩ := hSw
            go_simp
            try with_reducible rfl
          (try simp only [Act.put, List.setIfInBounds_toArray, List.set_cons_zero, List.set_cons_succ])
          refine Vc.wpAnyH_read (i := 1) (d := some 13) (v := ?vz57) (by rfl) (by rfl) (by kernel_rfl) (by kernel_rfl) (by kernel_rfl) (fun _ _ _ h => h) (by rfl) ?hyz57 (by assumption) ?restz57
          case hyz57 =>
            intro w hSw
            obtain ⟨s0, s1, s2, s3⟩ := hSw
            go_simp
            try with_reducible rfl
          (try simp only [Act.put, List.setIfInBounds_toArray, List.set_cons_zero, List.set_cons_succ])
          refine wpAnyH_ready (rs := [2]) (by kernel_rfl) (by simp) ?_
          refine AllReadyH.cons rfl (fun K hK => ?_) AllReadyH.nil
          go_simp
          go_at_call 43
          refine (HK.out _).mono ?_
          rintro e w2 ⟨rfl, rfl⟩
          refine hK.out _ _ HS.out (fun hHeld => ?_)
          clear hK K
          (try simp only [Act.put, List.setIfInBounds_toArray, List.set_cons_zero, List.set_cons_succ])
          refine Vc.wpAnyH_read (i := 3) (d := some 15) (v := ?vz58) (by rfl) (by rfl) (by kernel_rfl) (by kernel_rfl) (by kernel_rfl) (fun _ _ _ h => h) (by rfl) ?hyz58 (by assumption) ?restz58
          case hyz58 =>
            intro w hSw
            obtain ⟨s0, s1, s2, s3⟩ := hSw
            go_simp
            try with_reducible rfl
          (try simp only [Act.put, List.setIfInBounds_toArray, List.set_cons_zero, List.set_cons_succ])
          refine Vc.wpAnyH_read (i := 4) (d := some 16) (v := ?vz59) (by rfl) (by rfl) (by kernel_rfl) (by kernel_rfl) (by kernel_rfl) (fun _ _ _ h => h) (by rfl) ?hyz59 (by assumption) ?restz59
          case hyz59 =>
            intro w hSw
            obtain ⟨s0, s1, s2, s3⟩ := hSw
            go_simp
            try with_reducible rfl
          (try simp only [Act.put, List.setIfInBounds_toArray, List.set_cons_zero, List.set_cons_succ])
          refine Vc.wpAnyH_read (i := 5) (d := some 17) (v := ?vz60) (by rfl) (by rfl) (by kernel_rfl) (by kernel_rfl) (by kernel_rfl) (fun _ _ _ h => h) (by rfl) ?hyz60 (by assumption) ?restz60
          case hyz60 =>
            intro w hSw
            obtain ⟨s0, s1, s2, s3⟩ := hSw
            go_simp
            try with_reducible rfl
          (try simp only [Act.put, List.setIfInBounds_toArray, List.set_cons_zero, List.set_cons_succ])
          refine Vc.wpAnyH_read (i := 6) (d := some 18) (v := ?vz61) (by rfl) (by rfl) (by kernel_rfl) (by kernel_rfl) (by kernel_rfl) (fun _ _ _ h => h) (by rfl) ?hyz61 (by assumption) ?restz61
          case hyz61 =>
            intro w hSw
            obtain ⟨s0, s1, s2, s3⟩ := hSw
            go_simp
            try with_reducible rfl
          (try simp only [Act.put, List.setIfInBounds_toArray, List.set_cons_zero, List.set_cons_succ])
          refine wpAnyH_ready (rs := [7]) (by kernel_rfl) (by simp) ?_
          refine AllReadyH.cons rfl (fun K hK => ?_) AllReadyH.nil
          go_simp
          go_at_call 44
          refine (HV.out _).mono ?_
          rintro e w2 ⟨rfl, rfl⟩
          refine hK.out _ _ HS.out (fun hHeld => ?_)
          clear hK K
          (try simp only [Act.put, List.setIfInBounds_toArray, List.set_cons_zero, List.set_cons_succ])
          refine Vc.wpAnyH_read (i := 8) (d := some 20) (v := ?vz62) (by rfl) (by rfl) (by kernel_rfl) (by kernel_rfl) (by kernel_rfl) (fun _ _ _ h => h) (by rfl) ?hyz62 (by assumption) ?restz62
          case hyz62 =>
            intro w hSw
            obtain ⟨s0, s1, s2, s3⟩ := hSw
            go_simp
            try with_reducible rfl
          (try simp only [Act.put, List.setIfInBounds_toArray, List.set_cons_zero, List.set_cons_succ])
          refine Vc.wpAnyH_read (i := 9) (d := some 21) (v := ?vz63) (by rfl) (by rfl) (by kernel_rfl) (by kernel_rfl) (by kernel_rfl) (fun _ _ _ h => h) (by rfl) ?hyz63 (by assumption) ?restz63
          case hyz63 =>
            intro w hSw
            obtain ⟨s0, s1, s2, s3⟩ := hSw
            go_simp
            try with_reducible rfl
          (try simp only [Act.put, List.setIfInBounds_toArray, List.set_cons_zero, List.set_cons_succ])
          refine Vc.wpAnyH_read (i := 10) (d := some 22) (v := ?vz64) (by rfl) (by rfl) (by kernel_rfl) (by kernel_rfl) (by kernel_rfl) (fun _ _ _ h => h) (by rfl) ?hyz64 (by assumption) ?restz64
          case hyz64 =>
            intro w hSw
            obtain ⟨s0, s1, s2, s3⟩ := hSw
            go_simp
            try with_reducible rfl
          (try simp only [Act.put, List.setIfInBounds_toArray, List.set_cons_zero, List.set_cons_succ])
          refine Vc.wpAnyH_read (i := 11) (d := some 23) (v := ?vz65) (by rfl) (by rfl) (by kernel_rfl) (by kernel_rfl) (by kernel_rfl) (fun _ _ _ h => h) (by rfl) ?hyz65 (by assumption) ?restz65
          case hyz65 =>
            intro w hSw
            obtain ⟨s0, s1, s2, s3⟩ := hSw
            go_simp
            try with_reducible rfl
          (try simp only [Act.put, List.setIfInBounds_toArray, List.set_cons_zero, List.set_cons_succ])
          refine Vc.wpAnyH_read (i := 12) (d := some 24) (v := ?vz66) (by rfl) (by rfl) (by kernel_rfl) (by kernel_rfl) (by kernel_rfl) (fun _ _ _ h => h) (by rfl) ?hyz66 (by assumption) ?restz66
          case hyz66 =>
            intro w hSw
            obtain ⟨s0, s1, s2, s3⟩ := hSw
            go_simp
            try with_reducible rfl
          (try simp only [Act.put, List.setIfInBounds_toArray, List.set_cons_zero, List.set_cons_succ])
          refine Vc.wpAnyH_read (i := 13) (d := some 25) (v := ?vz67) (by rfl) (by rfl) (by kernel_rfl) (by kernel_rfl) (by kernel_rfl) (fun _ _ _ h => h) (by rfl) ?hyz67 (by assumption) ?restz67
          case hyz67 =>
            intro w hSw
            obtain ⟨s0, s1, s2, s3⟩ := hSw
            go_simp
            try with_reducible rfl
          (try simp only [Act.put, List.setIfInBounds_toArray, List.set_cons_zero, List.set_cons_succ])
          refine Vc.wpAnyH_skip (i := 14) (d := some 26) (by rfl) (by rfl) (by kernel_rfl) (by kernel_rfl) (by kernel_rfl) (fun _ _ _ h => h) (by rfl) (by assumption) ?_
          (try simp only [Act.put, List.setIfInBounds_toArray, List.set_cons_zero, List.set_cons_succ])
          refine Vc.wpAnyH_skip (i := 15) (d := some 27) (by rfl) (by rfl) (by kernel_rfl) (by kernel_rfl) (by kernel_rfl) (fun _ _ _ h => h) (by rfl) (by assumption) ?_
          (try simp only [Act.put, List.setIfInBounds_toArray, List.set_cons_zero, List.set_cons_succ])
          refine Vc.wpAnyH_skip (i := 16) (d := some 28) (by rfl) (by rfl) (by kernel_rfl) (by kernel_rfl) (by kernel_rfl) (fun _ _ _ h => h) (by rfl) (by assumption) ?_
          (try simp only [Act.put, List.setIfInBounds_toArray, List.set_cons_zero, List.set_cons_succ])
          refine Vc.wpAnyH_read (i := 17) (d := some 29) (v := ?vz68) (by rfl) (by rfl) (by kernel_rfl) (by kernel_rfl) (by kernel_rfl) (fun _ _ _ h => h) (by rfl) ?hyz68 (by assumption) ?restz68
          case hyz68 =>
            intro w hSw
            obtain ⟨s0, s1, s2, s3⟩ := hSw
            go_simp
            try with_reducible rfl
          (try simp only [Act.put, List.setIfInBounds_toArray, List.set_cons_zero, List.set_cons_succ])
          refine Vc.wpAnyH_read (i := 18) (d := some 30) (v := ?vz69) (by rfl) (by rfl) (by kernel_rfl) (by kernel_rfl) (by kernel_rfl) (fun _ _ _ h => h) (by rfl) ?hyz69 (by assumption) ?restz69
          case hyz69 =>
            intro w hSw
            obtain ⟨s0, s1, s2, s3⟩ := hSw
            go_simp
            try with_reducible rfl
          (try simp only [Act.put, List.setIfInBounds_toArray, List.set_cons_zero, List.set_cons_succ])
          refine Vc.wpAnyH_read (i := 19) (d := some 31) (v := ?vz70) (by rfl) (by rfl) (by kernel_rfl) (by kernel_rfl) (by kernel_rfl) (fun _ _ _ h => h) (by rfl) ?hyz70 (by assumption) ?restz70
          case hyz70 =>
            intro w hSw
            obtain ⟨s0, s1, s2, s3⟩ := hSw
            go_simp
            try with_reducible rfl
          (try simp only [Act.put, List.setIfInBounds_toArray, List.set_cons_zero, List.set_cons_succ])
          refine Vc.wpAnyH_read (i := 20) (d := some 32) (v := ?vz71) (by rfl) (by rfl) (by kernel_rfl) (by kernel_rfl) (by kernel_rfl) (fun _ _ _ h => h) (by rfl) ?hyz71 (by assumption) ?restz71
          case hyz71 =>
            intro w hSw
            obtain ⟨s0, s1, s2, s3⟩ := hSw
            go_simp
            try with_reducible rfl
          (try simp only [Act.put, List.setIfInBounds_toArray, List.set_cons_zero, List.set_cons_succ])
          refine Vc.wpAnyH_read (i := 21) (d := some 33) (v := ?vz72) (by rfl) (by rfl) (by kernel_rfl) (by kernel_rfl) (by kernel_rfl) (fun _ _ _ h => h) (by rfl) ?hyz72 (by assumption) ?restz72
          case hyz72 =>
            intro w hSw
            obtain ⟨s0, s1, s2, s3⟩ := hSw
            go_simp
            try with_reducible rfl
          (try simp only [Act.put, List.setIfInBounds_toArray, List.set_cons_zero, List.set_cons_succ])
          refine Vc.wpAnyH_read (i := 22) (d := some 34) (v := ?vz73) (by rfl) (by rfl) (by kernel_rfl) (by kernel_rfl) (by kernel_rfl) (fun _ _ _ h => h) (by rfl) ?hyz73 (by assumption) ?restz73
          case hyz73 =>
            intro w hSw
            obtain ⟨s0, s1, s2, s3⟩ := hSw
            go_simp
            try with_reducible rfl
          (try simp only [Act.put, List.setIfInBounds_toArray, List.set_cons_zero, List.set_cons_succ])
          refine Vc.wpAnyH_read (i := 23) (d := some 35) (v := ?vz74) (by rfl) (by rfl) (by kernel_rfl) (by kernel_rfl) (by kernel_rfl) (fun _ _ _ h => h) (by rfl) ?hyz74 (by assumption) ?restz74
          case hyz74 =>
            intro w hSw
            obtain ⟨s0, s1, s2, s3⟩ := hSw
            go_simp
            try with_reducible rfl
          (try simp only [Act.put, List.setIfInBounds_toArray, List.set_cons_zero, List.set_cons_succ])
          refine Vc.wpAnyH_read (i := 24) (d := some 36) (v := ?vz75) (by rfl) (by rfl) (by kernel_rfl) (by kernel_rfl) (by kernel_rfl) (fun _ _ _ h => h) (by rfl) ?hyz75 (by assumption) ?restz75
          case hyz75 =>
            intro w hSw
            obtain ⟨s0, s1, s2, s3⟩ := hSw
            go_simp
            try with_reducible rfl
          (try simp only [Act.put, List.setIfInBounds_toArray, List.set_cons_zero, List.set_cons_succ])
          refine Vc.wpAnyH_read (i := 25) (d := some 37) (v := ?vz76) (by rfl) (by rfl) (by kernel_rfl) (by kernel_rfl) (by kernel_rfl) (fun _ _ _ h => h) (by rfl) ?hyz76 (by assumption) ?restz76
          case hyz76 =>
            intro w hSw
            obtain ⟨s0, s1, s2, s3⟩ := hSw
            go_simp
            try with_reducible rfl
          (try simp only [Act.put, List.setIfInBounds_toArray, List.set_cons_zero, List.set_cons_succ])
          refine Vc.wpAnyH_read (i := 26) (d := some 38) (v := ?vz77) (by rfl) (by rfl) (by kernel_rfl) (by kernel_rfl) (by kernel_rfl) (fun _ _ _ h => h) (by rfl) ?hyz77 (by assumption) ?restz77
          case hyz77 =>
            intro w hSw
            obtain ⟨s0, s1, s2, s3⟩ := hSw
            go_simp
            try with_reducible rfl
          (try simp only [Act.put, List.setIfInBounds_toArray, List.set_cons_zero, List.set_cons_succ])
          refine Vc.wpAnyH_read (i := 27) (d := some 39) (v := ?vz78) (by rfl) (by rfl) (by kernel_rfl) (by kernel_rfl) (by kernel_rfl) (fun _ _ _ h => h) (by rfl) ?hyz78 (by assumption) ?restz78
          case hyz78 =>
            intro w hSw
            obtain ⟨s0, s1, s2, s3⟩ := hSw
            go_simp
            try with_reducible rfl
          (try simp only [Act.put, List.setIfInBounds_toArray, List.set_cons_zero, List.set_cons_succ])
          refine Vc.wpAnyH_read (i := 28) (d := some 40) (v := ?vz79) (by rfl) (by rfl) (by kernel_rfl) (by kernel_rfl) (by kernel_rfl) (fun _ _ _ h => h) (by rfl) ?hyz79 (by assumption) ?restz79
          case hyz79 =>
            intro w hSw
            obtain ⟨s0, s1, s2, s3⟩ := hSw
            go_simp
            try with_reducible rfl
          (try simp only [Act.put, List.setIfInBounds_toArray, List.set_cons_zero, List.set_cons_succ])
          refine Vc.wpAnyH_read (i := 29) (d := some 41) (v := ?vz80) (by rfl) (by rfl) (by kernel_rfl) (by kernel_rfl) (by kernel_rfl) (fun _ _ _ h => h) (by rfl) ?hyz80 (by assumption) ?restz80
          case hyz80 =>
            intro w hSw
            obtain ⟨s0, s1, s2, s3⟩ := hSw
            go_simp
            try with_reducible rfl
          (try simp only [Act.put, List.setIfInBounds_toArray, List.set_cons_zero, List.set_cons_succ])
          refine Vc.wpAnyH_read (i := 30) (d := some 42) (v := ?vz81) (by rfl) (by rfl) (by kernel_rfl) (by kernel_rfl) (by kernel_rfl) (fun _ _ _ h => h) (by rfl) ?hyz81 (by assumption) ?restz81
          case hyz81 =>
            intro w hSw
            obtain ⟨s0, s1, s2, s3⟩ := hSw
            go_simp
            try with_reducible rfl
          (try simp only [Act.put, List.setIfInBounds_toArray, List.set_cons_zero, List.set_cons_succ])
          refine wpAnyH_ready (rs := [31]) (by kernel_rfl) (by simp) ?_
          refine AllReadyH.cons rfl (fun K hK => ?_) AllReadyH.nil
          go_simp
          go_at_call 45
          refine (HL.out _).mono ?_
          rintro e w2 ⟨rfl, hb⟩
          rw [HLT.out]
          have HB2 := Lib.hid (HB1.out.trans (hb.mono HB1.out.size))
          have HS2 := Lib.hid (HSB.out _ hb)
          clear hb
          refine hK.out _ _ HS2.out (fun hHeld => ?_)
          clear hK K
          (try simp only [Act.put, List.setIfInBounds_toArray, List.set_cons_zero, List.set_cons_succ])
          refine Vc.wpAnyH_read (i := 32) (d := some 44) (v := ?vz82) (by rfl) (by rfl) (by kernel_rfl) (by kernel_rfl) (by kernel_rfl) (fun _ _ _ h => h) (by rfl) ?hyz82 (by assumption) ?restz82
          case hyz82 =>
            intro w hSw
            obtain ⟨s0, s1, s2, s3⟩ := hSw
            go_simp
            try with_reducible rfl
          (try simp only [Act.put, List.setIfInBounds_toArray, List.set_cons_zero, List.set_cons_succ])
          refine Vc.wpAnyH_read (i := 33) (d := some 45) (v := ?vz83) (by rfl) (by rfl) (by kernel_rfl) (by kernel_rfl) (by kernel_rfl) (fun _ _ _ h => h) (by rfl) ?hyz83 (by assumption) ?restz83
          case hyz83 =>
            intro w hSw
            obtain ⟨s0, s1, s2, s3⟩ := hSw
            go_simp
            try with_reducible rfl
          (try simp only [Act.put, List.setIfInBounds_toArray, List.set_cons_zero, List.set_cons_succ])
          refine Vc.wpAnyH_read (i := 34) (d := some 46) (v := ?vz84) (by rfl) (by rfl) (by kernel_rfl) (by kernel_rfl) (by kernel_rfl) (fun _ _ _ h => h) (by rfl) ?hyz84 (by assumption) ?restz84
          case hyz84 =>
            intro w hSw
            obtain ⟨s0, s1, s2, s3⟩ := hSw
            go_simp
            try with_reducible rfl
          (try simp only [Act.put, List.setIfInBounds_toArray, List.set_cons_zero, List.set_cons_succ])
          refine wpAnyH_done (by kernel_rfl) ?_ _
          go_wp2
          go_roundw
          case rel => exact ⟨j + 1, HJ.out, by go_num, HB2⟩
          case measure => have := HJ.out; simp [intOf]; omega
        · have hp0 : ¬ (0 : Int) < j := by omega
          have HS := Lib.hid (And.intro x0 (And.intro x1 (And.intro x2 trivial)))
          have HB1 := Lib.hid (show Below w.heap.size w ((wr.alloc (.cells (chC c) 53)).drew) from (HB.out.alloc HB.out.size _).drew)
          go_wp2_with (first | ((with_reducible refine Who.wpList_loadC 53 (.tmp 10) rfl b (off + j * 3) (chC c) ?_); refine And.intro ⟨by rfl, by rfl, ⟨_, Try.underlying53, rfl⟩, info_ch⟩ (And.intro HRG.out ?_); (try simp only [Act.put, List.setIfInBounds_toArray, List.set_cons_zero, List.set_cons_succ])) | ((with_reducible refine wpList_storeNew 53 (.tmp 4) (.tmp 11) (chC ch0) (chC c) rfl ?_); refine And.intro ⟨rfl, rfl, rfl, rfl, info_ch, rfl, chC_one _⟩ ?_; (try simp only [Act.put, List.setIfInBounds_toArray, List.set_cons_zero, List.set_cons_succ])) | ((with_reducible refine Who.wpList_alloc 53 4 rfl rfl rfl (chC ch0) halc ?_); (try simp only [Act.put, List.setIfInBounds_toArray, List.set_cons_zero, List.set_cons_succ])))
          refine wp_region_held_drew (S := fun w' => w'.cell? ⟨wr.heap.size, 0, none⟩ = some (.string c.key) ∧ w'.cell? ⟨wr.heap.size, 1, none⟩ = some (.string c.val) ∧ w'.cell? ⟨wr.heap.size, 2, none⟩ = some (.bool false) ∧ True) (by kernel_rfl) HS.out (fun hHeld => ?_)
          refine Vc.wpAnyH_read (i := 0) (d := some 12) (v := ?vz85) (by rfl) (by rfl) (by kernel_rfl) (by kernel_rfl) (by kernel_rfl) (fun _ _ _ h => h) (by rfl) ?hyz85 (by assumption) ?restz85
          case hyz85 =>
            intro w hSw
            obtain ⟨s0, s1, s2, s3⟩ := hSw
            go_simp
            try with_reducible rfl
          (try simp only [Act.put, List.setIfInBounds_toArray, List.set_cons_zero, List.set_cons_succ])
          refine Vc.wpAnyH_read (i := 1) (d := some 13) (v := ?vz86) (by rfl) (by rfl) (by kernel_rfl) (by kernel_rfl) (by kernel_rfl) (fun _ _ _ h => h) (by rfl) ?hyz86 (by assumption) ?restz86
          case hyz86 =>
            intro w hSw
            obtain ⟨s0, s1, s2, s3⟩ := hSw
            go_simp
            try with_reducible rfl
          (try simp only [Act.put, List.setIfInBounds_toArray, List.set_cons_zero, List.set_cons_succ])
          refine wpAnyH_ready (rs := [2]) (by kernel_rfl) (by simp) ?_
          refine AllReadyH.cons rfl (fun K hK => ?_) AllReadyH.nil
          go_simp
          go_at_call 43
          refine (HK.out _).mono ?_
          rintro e w2 ⟨rfl, rfl⟩
          refine hK.out _ _ HS.out (fun hHeld => ?_)
          clear hK K
          (try simp only [Act.put, List.setIfInBounds_toArray, List.set_cons_zero, List.set_cons_succ])
          refine Vc.wpAnyH_read (i := 3) (d := some 15) (v := ?vz87) (by rfl) (by rfl) (by kernel_rfl) (by kernel_rfl) (by kernel_rfl) (fun _ _ _ h => h) (by rfl) ?hyz87 (by assumption) ?restz87
          case hyz87 =>
            intro w hSw
            obtain ⟨s0, s1, s2, s3⟩ := hSw
            go_simp
            try with_reducible rfl
          (try simp only [Act.put, List.setIfInBounds_toArray, List.set_cons_zero, List.set_cons_succ])
          refine Vc.wpAnyH_read (i := 4) (d := some 16) (v := ?vz88) (by rfl) (by rfl) (by kernel_rfl) (by kernel_rfl) (by kernel_rfl) (fun _ _ _ h => h) (by rfl) ?hyz88 (by assumption) ?restz88
          case hyz88 =>
            intro w hSw
            obtain ⟨s0, s1, s2, s3⟩ := hSw
            go_simp
            try with_reducible rfl
          (try simp only [Act.put, List.setIfInBounds_toArray, List.set_cons_zero, List.set_cons_succ])
          refine Vc.wpAnyH_read (i := 5) (d := some 17) (v := ?vz89) (by rfl) (by rfl) (by kernel_rfl) (by kernel_rfl) (by kernel_rfl) (fun _ _ _ h => h) (by rfl) ?hyz89 (by assumption) ?restz89
          case hyz89 =>
            intro w hSw
            obtain ⟨s0, s1, s2, s3⟩ := hSw
            go_simp
            try with_reducible rfl
          (try simp only [Act.put, List.setIfInBounds_toArray, List.set_cons_zero, List.set_cons_succ])
          refine Vc.wpAnyH_read (i := 6) (d := some 18) (v := ?vz90) (by rfl) (by rfl) (by kernel_rfl) (by kernel_rfl) (by kernel_rfl) (fun _ _ _ h => h) (by rfl) ?hyz90 (by assumption) ?restz90
          case hyz90 =>
            intro w hSw
            obtain ⟨s0, s1, s2, s3⟩ := hSw
            go_simp
            try with_reducible rfl
          (try simp only [Act.put, List.setIfInBounds_toArray, List.set_cons_zero, List.set_cons_succ])
          refine wpAnyH_ready (rs := [7]) (by kernel_rfl) (by simp) ?_
          refine AllReadyH.cons rfl (fun K hK => ?_) AllReadyH.nil
          go_simp
          go_at_call 44
          refine (HV.out _).mono ?_
          rintro e w2 ⟨rfl, rfl⟩
          refine hK.out _ _ HS.out (fun hHeld => ?_)
          clear hK K
          (try simp only [Act.put, List.setIfInBounds_toArray, List.set_cons_zero, List.set_cons_succ])
          refine Vc.wpAnyH_read (i := 8) (d := some 20) (v := ?vz91) (by rfl) (by rfl) (by kernel_rfl) (by kernel_rfl) (by kernel_rfl) (fun _ _ _ h => h) (by rfl) ?hyz91 (by assumption) ?restz91
          case hyz91 =>
            intro w hSw
            obtain ⟨s0, s1, s2, s3⟩ := hSw
            go_simp
            try with_reducible rfl
          (try simp only [Act.put, List.setIfInBounds_toArray, List.set_cons_zero, List.set_cons_succ])
          refine Vc.wpAnyH_read (i := 9) (d := some 21) (v := ?vz92) (by rfl) (by rfl) (by kernel_rfl) (by kernel_rfl) (by kernel_rfl) (fun _ _ _ h => h) (by rfl) ?hyz92 (by assumption) ?restz92
          case hyz92 =>
            intro w hSw
            obtain ⟨s0, s1, s2, s3⟩ := hSw
            go_simp
            try with_reducible rfl
          (try simp only [Act.put, List.setIfInBounds_toArray, List.set_cons_zero, List.set_cons_succ])
          refine Vc.wpAnyH_read (i := 10) (d := some 22) (v := ?vz93) (by rfl) (by rfl) (by kernel_rfl) (by kernel_rfl) (by kernel_rfl) (fun _ _ _ h => h) (by rfl) ?hyz93 (by assumption) ?restz93
          case hyz93 =>
            intro w hSw
            obtain ⟨s0, s1, s2, s3⟩ := hSw
            go_simp
            try with_reducible rfl
          (try simp only [Act.put, List.setIfInBounds_toArray, List.set_cons_zero, List.set_cons_succ])
          refine Vc.wpAnyH_read (i := 11) (d := some 23) (v := ?vz94) (by rfl) (by rfl) (by kernel_rfl) (by kernel_rfl) (by kernel_rfl) (fun _ _ _ h => h) (by rfl) ?hyz94 (by assumption) ?restz94
          case hyz94 =>
            intro w hSw
            obtain ⟨s0, s1, s2, s3⟩ := hSw
            go_simp
            try with_reducible rfl
          (try simp only [Act.put, List.setIfInBounds_toArray, List.set_cons_zero, List.set_cons_succ])
          refine Vc.wpAnyH_read (i := 12) (d := some 24) (v := ?vz95) (by rfl) (by rfl) (by kernel_rfl) (by kernel_rfl) (by kernel_rfl) (fun _ _ _ h => h) (by rfl) ?hyz95 (by assumption) ?restz95
          case hyz95 =>
            intro w hSw
            obtain ⟨s0, s1, s2, s3⟩ := hSw
            go_simp
            try with_reducible rfl
          (try simp only [Act.put, List.setIfInBounds_toArray, List.set_cons_zero, List.set_cons_succ])
          refine Vc.wpAnyH_read (i := 13) (d := some 25) (v := ?vz96) (by rfl) (by rfl) (by kernel_rfl) (by kernel_rfl) (by kernel_rfl) (fun _ _ _ h => h) (by rfl) ?hyz96 (by assumption) ?restz96
          case hyz96 =>
            intro w hSw
            obtain ⟨s0, s1, s2, s3⟩ := hSw
            go_simp
            try with_reducible rfl
          (try simp only [Act.put, List.setIfInBounds_toArray, List.set_cons_zero, List.set_cons_succ])
          refine Vc.wpAnyH_skip (i := 14) (d := some 26) (by rfl) (by rfl) (by kernel_rfl) (by kernel_rfl) (by kernel_rfl) (fun _ _ _ h => h) (by rfl) (by assumption) ?_
          (try simp only [Act.put, List.setIfInBounds_toArray, List.set_cons_zero, List.set_cons_succ])
          refine Vc.wpAnyH_skip (i := 15) (d := some 27) (by rfl) (by rfl) (by kernel_rfl) (by kernel_rfl) (by kernel_rfl) (fun _ _ _ h => h) (by rfl) (by assumption) ?_
          (try simp only [Act.put, List.setIfInBounds_toArray, List.set_cons_zero, List.set_cons_succ])
          refine Vc.wpAnyH_skip (i := 16) (d := some 28) (by rfl) (by rfl) (by kernel_rfl) (by kernel_rfl) (by kernel_rfl) (fun _ _ _ h => h) (by rfl) (by assumption) ?_
          (try simp only [Act.put, List.setIfInBounds_toArray, List.set_cons_zero, List.set_cons_succ])
          refine Vc.wpAnyH_read (i := 17) (d := some 29) (v := ?vz97) (by rfl) (by rfl) (by kernel_rfl) (by kernel_rfl) (by kernel_rfl) (fun _ _ _ h => h) (by rfl) ?hyz97 (by assumption) ?restz97
          case hyz97 =>
            intro w hSw
            obtain ⟨s0, s1, s2, s3⟩ := hSw
            go_simp
            try with_reducible rfl
          (try simp only [Act.put, List.setIfInBounds_toArray, List.set_cons_zero, List.set_cons_succ])
          refine Vc.wpAnyH_read (i := 18) (d := some 30) (v := ?vz98) (by rfl) (by rfl) (by kernel_rfl) (by kernel_rfl) (by kernel_rfl) (fun _ _ _ h => h) (by rfl) ?hyz98 (by assumption) ?restz98
          case hyz98 =>
            intro w hSw
            obtain ⟨s0, s1, s2, s3⟩ := hSw
            go_simp
            try with_reducible rfl
          (try simp only [Act.put, List.setIfInBounds_toArray, List.set_cons_zero, List.set_cons_succ])
          refine Vc.wpAnyH_read (i := 19) (d := some 31) (v := ?vz99) (by rfl) (by rfl) (by kernel_rfl) (by kernel_rfl) (by kernel_rfl) (fun _ _ _ h => h) (by rfl) ?hyz99 (by assumption) ?restz99
          case hyz99 =>
            intro w hSw
            obtain ⟨s0, s1, s2, s3⟩ := hSw
            go_simp
            try with_reducible rfl
          (try simp only [Act.put, List.setIfInBounds_toArray, List.set_cons_zero, List.set_cons_succ])
          refine Vc.wpAnyH_read (i := 20) (d := some 32) (v := ?vz100) (by rfl) (by rfl) (by kernel_rfl) (by kernel_rfl) (by kernel_rfl) (fun _ _ _ h => h) (by rfl) ?hyz100 (by assumption) ?restz100
          case hyz100 =>
            intro w hSw
            obtain ⟨s0, s1, s2, s3⟩ := hSw
            go_simp
            try with_reducible rfl
          (try simp only [Act.put, List.setIfInBounds_toArray, List.set_cons_zero, List.set_cons_succ])
          refine Vc.wpAnyH_read (i := 21) (d := some 33) (v := ?vz101) (by rfl) (by rfl) (by kernel_rfl) (by kernel_rfl) (by kernel_rfl) (fun _ _ _ h => h) (by rfl) ?hyz101 (by assumption) ?restz101
          case hyz101 =>
            intro w hSw
            obtain ⟨s0, s1, s2, s3⟩ := hSw
            go_simp
            try with_reducible rfl
          (try simp only [Act.put, List.setIfInBounds_toArray, List.set_cons_zero, List.set_cons_succ])
          refine Vc.wpAnyH_read (i := 22) (d := some 34) (v := ?vz102) (by rfl) (by rfl) (by kernel_rfl) (by kernel_rfl) (by kernel_rfl) (fun _ _ _ h => h) (by rfl) ?hyz102 (by assumption) ?restz102
          case hyz102 =>
            intro w hSw
            obtain ⟨s0, s1, s2, s3⟩ := hSw
            go_simp
            try with_reducible rfl
          (try simp only [Act.put, List.setIfInBounds_toArray, List.set_cons_zero, List.set_cons_succ])
          refine Vc.wpAnyH_skip (i := 23) (d := some 35) (by rfl) (by rfl) (by kernel_rfl) (by kernel_rfl) (by kernel_rfl) (fun _ _ _ h => h) (by rfl) (by assumption) ?_
          (try simp only [Act.put, List.setIfInBounds_toArray, List.set_cons_zero, List.set_cons_succ])
          refine Vc.wpAnyH_skip (i := 24) (d := some 36) (by rfl) (by rfl) (by kernel_rfl) (by kernel_rfl) (by kernel_rfl) (fun _ _ _ h => h) (by rfl) (by assumption) ?_
          (try simp only [Act.put, List.setIfInBounds_toArray, List.set_cons_zero, List.set_cons_succ])
          refine Vc.wpAnyH_skip (i := 25) (d := some 37) (by rfl) (by rfl) (by kernel_rfl) (by kernel_rfl) (by kernel_rfl) (fun _ _ _ h => h) (by rfl) (by assumption) ?_
          (try simp only [Act.put, List.setIfInBounds_toArray, List.set_cons_zero, List.set_cons_succ])
          refine Vc.wpAnyH_skip (i := 26) (d := some 38) (by rfl) (by rfl) (by kernel_rfl) (by kernel_rfl) (by kernel_rfl) (fun _ _ _ h => h) (by rfl) (by assumption) ?_
          (try simp only [Act.put, List.setIfInBounds_toArray, List.set_cons_zero, List.set_cons_succ])
          refine Vc.wpAnyH_skip (i := 27) (d := some 39) (by rfl) (by rfl) (by kernel_rfl) (by kernel_rfl) (by kernel_rfl) (fun _ _ _ h => h) (by rfl) (by assumption) ?_
          (try simp only [Act.put, List.setIfInBounds_toArray, List.set_cons_zero, List.set_cons_succ])
          refine Vc.wpAnyH_skip (i := 28) (d := some 40) (by rfl) (by rfl) (by kernel_rfl) (by kernel_rfl) (by kernel_rfl) (fun _ _ _ h => h) (by rfl) (by assumption) ?_
          (try simp only [Act.put, List.setIfInBounds_toArray, List.set_cons_zero, List.set_cons_succ])
          refine Vc.wpAnyH_skip (i := 29) (d := some 41) (by rfl) (by rfl) (by kernel_rfl) (by kernel_rfl) (by kernel_rfl) (fun _ _ _ h => h) (by rfl) (by assumption) ?_
          (try simp only [Act.put, List.setIfInBounds_toArray, List.set_cons_zero, List.set_cons_succ])
          refine Vc.wpAnyH_skip (i := 30) (d := some 42) (by rfl) (by rfl) (by kernel_rfl) (by kernel_rfl) (by kernel_rfl) (fun _ _ _ h => h) (by rfl) (by assumption) ?_
          (try simp only [Act.put, List.setIfInBounds_toArray, List.set_cons_zero, List.set_cons_succ])
          refine Vc.wpAnyH_skip (i := 31) (d := some 43) (by rfl) (by rfl) (by kernel_rfl) (by kernel_rfl) (by kernel_rfl) (fun _ _ _ h => h) (by rfl) (by assumption) ?_
          (try simp only [Act.put, List.setIfInBounds_toArray, List.set_cons_zero, List.set_cons_succ])
          refine Vc.wpAnyH_skip (i := 32) (d := some 44) (by rfl) (by rfl) (by kernel_rfl) (by kernel_rfl) (by kernel_rfl) (fun _ _ _ h => h) (by rfl) (by assumption) ?_
          (try simp only [Act.put, List.setIfInBounds_toArray, List.set_cons_zero, List.set_cons_succ])
          refine Vc.wpAnyH_read (i := 33) (d := some 45) (v := ?vz103) (by rfl) (by rfl) (by kernel_rfl) (by kernel_rfl) (by kernel_rfl) (fun _ _ _ h => h) (by rfl) ?hyz103 (by assumption) ?restz103
          case hyz103 =>
            intro w hSw
            obtain ⟨s0, s1, s2, s3⟩ := hSw
            go_simp
            try with_reducible rfl
          (try simp only [Act.put, List.setIfInBounds_toArray, List.set_cons_zero, List.set_cons_succ])
          refine Vc.wpAnyH_read (i := 34) (d := some 46) (v := ?vz104) (by rfl) (by rfl) (by kernel_rfl) (by kernel_rfl) (by kernel_rfl) (fun _ _ _ h => h) (by rfl) ?hyz104 (by assumption) ?restz104
          case hyz104 =>
            intro w hSw
            obtain ⟨s0, s1, s2, s3⟩ := hSw
            go_simp
            try with_reducible rfl
          (try simp only [Act.put, List.setIfInBounds_toArray, List.set_cons_zero, List.set_cons_succ])
          refine wpAnyH_done (by kernel_rfl) ?_ _
          go_wp2
          go_roundw
          case rel => exact ⟨j + 1, HJ.out, by go_num, Lib.hid HB1.out⟩
          case measure => have := HJ.out; simp [intOf]; omega
    · have hlti : ¬ (j : Int) < n := by omega
      obtain rfl : j = n := by omega
      go_wp2
      go_ret
      exact ⟨rfl, HB.out⟩
end Go.Proofs.Ytepnckglnciinaa.Sm
