/- What an event wrote of an inode: the program's parts, the document's line. -/
import Derived.Test.YtdbmnnmcelaehaaDoorSrB
namespace Go.Proofs.YtdbmnnmcelaehaaDoor.Sr
open Go.RowKit Go.Proofs.YtdbmnnmcelaehaaDoor.Mem Go.Proofs.YtdbmnnmcelaehaaDoor.Tx
open Go.Proofs.YtdbmnnmcelaehaaDoor.Fc (fitS NodeP LinkP NodeC PieceP XattrP nodeC linkC pieceC xattrC)
open Go.Proofs.YtdbmnnmcelaehaaDoor.Vc (vecC stC eq8 eqv neq_st)
set_option linter.unusedVariables false set_option linter.unusedSimpArgs false

theorem info_piece : (Tryd.prog.info? 83).map (·.size) = some 4 := by kernel_rfl
theorem info_xattr : (Tryd.prog.info? 85).map (·.size) = some 5 := by kernel_rfl
def zeroP : PieceP := ⟨0, (0, 0), ⟨#[]⟩⟩
def zeroX : XattrP := ⟨⟨#[]⟩, (0, 0), ⟨#[]⟩, false⟩
theorem alloc_piece (w : World) : (Instr.alloc 83 true (.tuple #[])).run Tryd.prog w = .ok (.pointer (some ⟨w.heap.size, 0, none⟩)) (w.alloc (.cells (pieceC zeroP) 83)) := by
  have hz := Tryd.zeroValue83
  go_simp
  rfl
theorem alloc_xattr (w : World) : (Instr.alloc 85 true (.tuple #[])).run Tryd.prog w = .ok (.pointer (some ⟨w.heap.size, 0, none⟩)) (w.alloc (.cells (xattrC zeroX) 85)) := by
  have hz := Tryd.zeroValue85
  go_simp
  rfl
theorem piece_one (p : PieceP) : (pieceC p).all (·.oneCell') = true := by simp [pieceC, Value.oneCell']
theorem xattr_one (p : XattrP) : (xattrC p).all (·.oneCell') = true := by simp [xattrC, Value.oneCell']
theorem nid_range {w : World} {g : Nat} {t : TypeId} {x : NodeC} (h : Has w g t (nodeC x)) : w.rangeAt g 0 (#[.int .i64 x.p.id.1, .int .i64 x.p.id.2]).toList := fun j v hv => by
  match j, hv with
  | 0, hv => exact (h.at_ 0).trans hv
  | 1, hv => exact (h.at_ 1).trans hv
  | j + 2, hv => simp at hv
theorem aat_range {w : World} {g : Nat} {t : TypeId} {x : NodeC} (h : Has w g t (nodeC x)) : w.rangeAt g 4 (#[.int .i64 x.p.aat.1, .int .i64 x.p.aat.2]).toList := fun j v hv => by
  match j, hv with
  | 0, hv => exact (h.at_ 4).trans hv
  | 1, hv => exact (h.at_ 5).trans hv
  | j + 2, hv => simp at hv
theorem sat_range {w : World} {g : Nat} {t : TypeId} {x : NodeC} (h : Has w g t (nodeC x)) : w.rangeAt g 8 (#[.int .i64 x.p.sat.1, .int .i64 x.p.sat.2]).toList := fun j v hv => by
  match j, hv with
  | 0, hv => exact (h.at_ 8).trans hv
  | 1, hv => exact (h.at_ 9).trans hv
  | j + 2, hv => simp at hv
def atW : ByteArray := ⟨#[97, 116, 116, 114]⟩
def kindA (k : Int) : List ByteArray := if k = 1 then [⟨#[102, 105, 108, 101]⟩] else []
def kindB (k : Int) : List ByteArray := if k = 1 then [⟨#[102, 105, 108, 101]⟩] else if k = 2 then [⟨#[100, 105, 114]⟩] else []
def kindL (k : Int) : List ByteArray := if k = 1 then [⟨#[102, 105, 108, 101]⟩] else if k = 2 then [⟨#[100, 105, 114]⟩] else if k = 3 then [⟨#[115, 121, 109]⟩] else []
theorem kA_no {k : Int} (h : ¬ k = 1) : kindA k = [] := if_neg h
theorem kB_no {k : Int} (h : ¬ k = 2) : kindB k = kindA k := by unfold kindB kindA; rw [if_neg h]
theorem kL_no {k : Int} (h : ¬ k = 3) : kindL k = kindB k := by unfold kindL kindB; rw [if_neg h]
theorem kA_len (k : Int) : (kindA k).length ≤ 4000000 := by unfold kindA; split <;> simp
theorem kB_len (k : Int) : (kindB k).length ≤ 4000000 := by unfold kindB; split <;> (try split) <;> simp
theorem kL_one (k : Int) : (kindL k).length ≤ 1 := by unfold kindL; split <;> (try split) <;> (try split) <;> simp
def atL (n : NodeP) : List ByteArray := if zeroS n.aat then [] else [atW]
def szL (n : NodeP) : List ByteArray := if zeroS n.sat then [] else [⟨#[115, 105, 122, 101, 58]⟩ ++ itoaB n.n]
def pieceB (p : PieceP) : ByteArray := ⟨#[112, 105, 101, 99, 101, 58]⟩ ++ itoaB p.i
def xattrB (p : XattrP) : ByteArray := if p.gone then ⟨#[100, 101, 108, 58]⟩ ++ p.name else ⟨#[115, 101, 116, 58]⟩ ++ p.name
def psL (n : NodeP) : List ByteArray := n.ps.map pieceB
def xsL (n : NodeP) : List ByteArray := n.xs.map xattrB
def partsN (n : NodeP) : List ByteArray := kindL n.kind ++ atL n ++ szL n ++ psL n ++ xsL n
theorem at_one (n : NodeP) : (atL n).length ≤ 1 := by unfold atL; split <;> simp
theorem sz_one (n : NodeP) : (szL n).length ≤ 1 := by unfold szL; split <;> simp
theorem l1_len (n : NodeP) : (kindL n.kind).length ≤ 4000000 := by have := kL_one n.kind; omega
theorem l2_len (n : NodeP) : (kindL n.kind ++ atL n).length ≤ 4000000 := by rw [List.length_append]; have := kL_one n.kind; have := at_one n; omega
theorem take_len {a b : List ByteArray} (h : a.length + b.length ≤ 4000000) (j : Nat) : (a ++ b.take j).length ≤ 4000000 := by rw [List.length_append, List.length_take]; omega
theorem psL_len {n : NodeP} (h : Fc.BndN 1048576 n) : (kindL n.kind ++ atL n ++ szL n).length + (psL n).length ≤ 4000000 := by
  have h1 := kL_one n.kind; have h2 := at_one n; have h3 := sz_one n; have h4 := h.1
  have h5 : (psL n).length = n.ps.length := by unfold psL; rw [List.length_map]
  rw [List.length_append, List.length_append]; omega
theorem xsL_len {n : NodeP} (h : Fc.BndN 1048576 n) : (kindL n.kind ++ atL n ++ szL n ++ psL n).length + (xsL n).length ≤ 4000000 := by
  have h1 := kL_one n.kind; have h2 := at_one n; have h3 := sz_one n; have h4 := h.1; have h6 := h.2.1
  have h5 : (psL n).length = n.ps.length := by unfold psL; rw [List.length_map]
  have h7 : (xsL n).length = n.xs.length := by unfold xsL; rw [List.length_map]
  rw [List.length_append, List.length_append, List.length_append]; omega
theorem ps_next (n : NodeP) (a : List ByteArray) (j : Nat) (h : j < n.ps.length) : a ++ (psL n).take (j + 1) = a ++ (psL n).take j ++ [pieceB n.ps[j]] := by
  unfold psL
  rw [List.append_assoc, List.take_succ_eq_append_getElem (by rw [List.length_map]; exact h), List.getElem_map]
theorem xs_next (n : NodeP) (a : List ByteArray) (j : Nat) (h : j < n.xs.length) : a ++ (xsL n).take (j + 1) = a ++ (xsL n).take j ++ [xattrB n.xs[j]] := by
  unfold xsL
  rw [List.append_assoc, List.take_succ_eq_append_getElem (by rw [List.length_map]; exact h), List.getElem_map]
theorem ps_all (n : NodeP) (a : List ByteArray) : a ++ (psL n).take n.ps.length = a ++ psL n := by
  rw [List.take_of_length_le (by unfold psL; rw [List.length_map]; exact Nat.le_refl _)]
theorem xs_all (n : NodeP) (a : List ByteArray) : a ++ (xsL n).take n.xs.length = a ++ xsL n := by
  rw [List.take_of_length_le (by unfold xsL; rw [List.length_map]; exact Nat.le_refl _)]
theorem partsN_small {n : NodeP} (hk : Fc.NumN n) (hn : Fc.BndN 1048576 n) : SmallP (partsN n) := by
  refine ⟨?_, fun p hp => ?_⟩
  · have h1 := kL_one n.kind; have h2 := at_one n; have h3 := sz_one n; have h4 := hn.1; have h6 := hn.2.1
    have h5 : (psL n).length = n.ps.length := by unfold psL; rw [List.length_map]
    have h7 : (xsL n).length = n.xs.length := by unfold xsL; rw [List.length_map]
    unfold partsN
    rw [List.length_append, List.length_append, List.length_append, List.length_append]; omega
  · unfold partsN at hp
    simp only [List.mem_append] at hp
    rcases hp with (((hp | hp) | hp) | hp) | hp
    · unfold kindL at hp
      split at hp
      · simp at hp; subst hp; exact of_decide_eq_true rfl
      · split at hp
        · simp at hp; subst hp; exact of_decide_eq_true rfl
        · split at hp
          · simp at hp; subst hp; exact of_decide_eq_true rfl
          · cases hp
    · unfold atL at hp
      split at hp
      · cases hp
      · simp at hp; subst hp; exact of_decide_eq_true rfl
    · unfold szL at hp
      split at hp
      · cases hp
      · simp at hp
        subst hp
        rw [ByteArray.size_append]
        have s1 := itoaB_size hk.2.2.2.1.2
        have z1 : (⟨#[115, 105, 122, 101, 58]⟩ : ByteArray).size = 5 := rfl
        omega
    · unfold psL at hp
      obtain ⟨q, hq, rfl⟩ := List.mem_map.1 hp
      unfold pieceB
      rw [ByteArray.size_append]
      have s1 := itoaB_size (hk.2.2.2.2.1 q hq).1
      have z1 : (⟨#[112, 105, 101, 99, 101, 58]⟩ : ByteArray).size = 6 := rfl
      omega
    · unfold xsL at hp
      obtain ⟨q, hq, rfl⟩ := List.mem_map.1 hp
      unfold xattrB
      have s1 := hn.2.2 q hq
      have z1 : (⟨#[115, 101, 116, 58]⟩ : ByteArray).size = 4 := rfl
      have z2 : (⟨#[100, 101, 108, 58]⟩ : ByteArray).size = 4 := rfl
      split <;> (rw [ByteArray.size_append]; omega)
set_option maxRecDepth 100000 in
set_option maxHeartbeats 4000000 in
theorem nodeParts_any (x : NodeC) (hk : Fc.NumN x.p) (hn : Fc.BndN 1048576 x.p) (w : World) (hx : Fc.NodeFit w x) (hT : Tabs w) : Calls Tryd.prog 26 #[.agg (nodeC x)] w fun e w' => ∃ u, e = .returned u ∧ OwnS w' (w.heap.size + 1) u (partsN x.p) ∧ Below w.heap.size w w' := by
  have H0 := Lib.hid (HasI.start w 62 (nodeC x))
  have HFX := Lib.hid (show ∀ V, Below w.heap.size w V → Fc.NodeFit V x from fun V h => hx.below h)
  have HTT := Lib.hid (show ∀ V, Below w.heap.size w V → Tabs V from fun V h => hT.self h)
  have HNS := Lib.hid (fun V (h : Tabs V) => itoa_any x.p.n hk.2.2.2.1.2 V h)
  clear hT
  have HK := Lib.hid hk
  have HBN := Lib.hid hn
  have HSM := Lib.hid (partsN_small hk hn)
  have s9 := itoaB_size hk.2.2.2.1.2
  have z9 : (⟨#[115, 105, 122, 101, 58]⟩ : ByteArray).size = 5 := rfl
  have a9 := fun W => run_string_add_sum (P := Tryd.prog) W ⟨#[115, 105, 122, 101, 58]⟩ (itoaB x.p.n) (by omega)
  obtain ⟨g9, e9⟩ : ∃ g9, g9 = (⟨#[115, 105, 122, 101, 58]⟩ : ByteArray) ++ itoaB x.p.n := ⟨_, rfl⟩
  rw [← e9] at a9
  have hz1 := fun W => neq_st x.p.aat.1 x.p.aat.2 0 0 W
  have HZ1 := Lib.hid (show zeroS x.p.aat = (x.p.aat.1 == 0 && x.p.aat.2 == 0) from rfl)
  rw [← HZ1.out] at hz1
  have hz2 := fun W => neq_st x.p.sat.1 x.p.sat.2 0 0 W
  have HZ2 := Lib.hid (show zeroS x.p.sat = (x.p.sat.1 == 0 && x.p.sat.2 == 0) from rfl)
  rw [← HZ2.out] at hz2
  unfold stC at hz1 hz2
  have HA := Lib.hid (show atL x.p = if zeroS x.p.aat then [] else [atW] from rfl)
  have HS := Lib.hid (show szL x.p = if zeroS x.p.sat then [] else [g9] by rw [e9]; rfl)
  have HN1 := Lib.hid (show x.n1 = x.p.ps.length from hx.ps.len.symm)
  have HN2 := Lib.hid (show x.n2 = x.p.xs.length from hx.xs.len.symm)
  have m1 := hx.m1
  have m2 := hx.m2
  obtain ⟨za, hza⟩ : ∃ za, za = zeroS x.p.aat := ⟨_, rfl⟩
  obtain ⟨zs, hzs⟩ : ∃ zs, zs = zeroS x.p.sat := ⟨_, rfl⟩
  rw [← hza] at hz1 HA
  rw [← hzs] at hz2 HS
  have q1 := fun V => is_any x.p.aat V
  rw [← hza] at q1
  have HI1 := Lib.hid q1
  have q2 := fun V => is_any x.p.sat V
  rw [← hzs] at q2
  have HI2 := Lib.hid q2
  clear q1 q2 hz1 hz2
  clear hk hn hx s9 z9 e9 hza hzs HZ1 HZ2
  go_enter Tryd.func26, Tryd.ntmps26
  repeat ((fail_if_success (with_reducible refine wp_seq_k (x := Code.seq _ _) (fun K0 hK0 => ?_))); go_step)
  with_reducible refine wp_seq_k (x := Code.seq _ _) (fun K1 hK1 => ?_)
  have HK1 : ∀ (v1x4 v1x5 v1x6 v1x7 v1x8 v1x9 v1x10 v1x11 v1x12 v1x13 v1x14 v1x15 v1x16 v1x17 v1x18 v1x19 v1x20 v1x21 v1x22 v1x23 v1x24 v1x25 v1x26 v1x27 v1x28 v1x29 v1x30 v1x31 v1x32 v1x33 v1x34 v1x35 v1x36 v1x37 v1x38 v1x39 v1x40 v1x41 v1x42 v1x43 v1x44 v1x45 v1x46 v1x47 v1x48 v1x49 v1x50 v1x51 v1x52 v1x53 v1x54 v1x55 v1x56 v1x57 v1x58 v1x59 v1x60 v1x61 v1x62 v1x63 v1x64 v1x65 v1x66 v1x67 v1x68 v1x69 v1x70 v1x71 v1x72 v1x73 v1x74 v1x75 v1x76 v1x77 : Value) (u : Value) (wr : World), HasI 62 (nodeC x) w wr u (kindL x.p.kind) → K1 { tmps := #[.agg (nodeC x), .pointer (some ⟨w.heap.size, 0, none⟩), .slice none 0 0, u, v1x4, v1x5, v1x6, v1x7, v1x8, v1x9, v1x10, v1x11, v1x12, v1x13, v1x14, v1x15, v1x16, v1x17, v1x18, v1x19, v1x20, v1x21, v1x22, v1x23, v1x24, v1x25, v1x26, v1x27, v1x28, v1x29, v1x30, v1x31, v1x32, v1x33, v1x34, v1x35, v1x36, v1x37, v1x38, v1x39, v1x40, v1x41, v1x42, v1x43, v1x44, v1x45, v1x46, v1x47, v1x48, v1x49, v1x50, v1x51, v1x52, v1x53, v1x54, v1x55, v1x56, v1x57, v1x58, v1x59, v1x60, v1x61, v1x62, v1x63, v1x64, v1x65, v1x66, v1x67, v1x68, v1x69, v1x70, v1x71, v1x72, v1x73, v1x74, v1x75, v1x76, v1x77], defers := [] } wr := by
    intro v1x4 v1x5 v1x6 v1x7 v1x8 v1x9 v1x10 v1x11 v1x12 v1x13 v1x14 v1x15 v1x16 v1x17 v1x18 v1x19 v1x20 v1x21 v1x22 v1x23 v1x24 v1x25 v1x26 v1x27 v1x28 v1x29 v1x30 v1x31 v1x32 v1x33 v1x34 v1x35 v1x36 v1x37 v1x38 v1x39 v1x40 v1x41 v1x42 v1x43 v1x44 v1x45 v1x46 v1x47 v1x48 v1x49 v1x50 v1x51 v1x52 v1x53 v1x54 v1x55 v1x56 v1x57 v1x58 v1x59 v1x60 v1x61 v1x62 v1x63 v1x64 v1x65 v1x66 v1x67 v1x68 v1x69 v1x70 v1x71 v1x72 v1x73 v1x74 v1x75 v1x76 v1x77 u wr HI
    have H := Lib.hid HI
    clear HI
    refine hK1 _ _ ?_
    clear hK1 K1
    repeat ((fail_if_success (with_reducible refine wp_seq_k (x := Code.seq _ _) (fun K0 hK0 => ?_))); go_step)
    with_reducible refine wp_seq_k (x := Code.seq _ _) (fun K2 hK2 => ?_)
    have HK2 : ∀ (v2x4 v2x5 v2x6 v2x7 v2x8 v2x9 v2x10 v2x11 v2x12 v2x13 v2x14 v2x15 v2x16 v2x17 v2x18 v2x19 v2x20 v2x21 v2x22 v2x23 v2x24 v2x25 v2x26 v2x27 v2x28 v2x29 v2x30 v2x31 v2x32 v2x33 v2x34 v2x35 v2x36 v2x37 v2x38 v2x39 v2x40 v2x41 v2x42 v2x43 v2x44 v2x45 v2x46 v2x47 v2x48 v2x49 v2x50 v2x51 v2x52 v2x53 v2x54 v2x55 v2x56 v2x57 v2x58 v2x59 v2x60 v2x61 v2x62 v2x63 v2x64 v2x65 v2x66 v2x67 v2x68 v2x69 v2x70 v2x71 v2x72 v2x73 v2x74 v2x75 v2x76 v2x77 : Value) (u : Value) (wr : World), HasI 62 (nodeC x) w wr u (kindL x.p.kind ++ atL x.p) → K2 { tmps := #[.agg (nodeC x), .pointer (some ⟨w.heap.size, 0, none⟩), .slice none 0 0, u, v2x4, v2x5, v2x6, v2x7, v2x8, v2x9, v2x10, v2x11, v2x12, v2x13, v2x14, v2x15, v2x16, v2x17, v2x18, v2x19, v2x20, v2x21, v2x22, v2x23, v2x24, v2x25, v2x26, v2x27, v2x28, v2x29, v2x30, v2x31, v2x32, v2x33, v2x34, v2x35, v2x36, v2x37, v2x38, v2x39, v2x40, v2x41, v2x42, v2x43, v2x44, v2x45, v2x46, v2x47, v2x48, v2x49, v2x50, v2x51, v2x52, v2x53, v2x54, v2x55, v2x56, v2x57, v2x58, v2x59, v2x60, v2x61, v2x62, v2x63, v2x64, v2x65, v2x66, v2x67, v2x68, v2x69, v2x70, v2x71, v2x72, v2x73, v2x74, v2x75, v2x76, v2x77], defers := [] } wr := by
      intro v2x4 v2x5 v2x6 v2x7 v2x8 v2x9 v2x10 v2x11 v2x12 v2x13 v2x14 v2x15 v2x16 v2x17 v2x18 v2x19 v2x20 v2x21 v2x22 v2x23 v2x24 v2x25 v2x26 v2x27 v2x28 v2x29 v2x30 v2x31 v2x32 v2x33 v2x34 v2x35 v2x36 v2x37 v2x38 v2x39 v2x40 v2x41 v2x42 v2x43 v2x44 v2x45 v2x46 v2x47 v2x48 v2x49 v2x50 v2x51 v2x52 v2x53 v2x54 v2x55 v2x56 v2x57 v2x58 v2x59 v2x60 v2x61 v2x62 v2x63 v2x64 v2x65 v2x66 v2x67 v2x68 v2x69 v2x70 v2x71 v2x72 v2x73 v2x74 v2x75 v2x76 v2x77 u wr HI
      have H := Lib.hid HI
      clear HI
      refine hK2 _ _ ?_
      clear hK2 K2
      repeat ((fail_if_success (with_reducible refine wp_seq_k (x := Code.seq _ _) (fun K0 hK0 => ?_))); go_step)
      with_reducible refine wp_seq_k (x := Code.seq _ _) (fun K3 hK3 => ?_)
      have HK3 : ∀ (v3x4 v3x5 v3x6 v3x7 v3x8 v3x9 v3x10 v3x11 v3x12 v3x13 v3x14 v3x15 v3x16 v3x17 v3x18 v3x19 v3x20 v3x21 v3x22 v3x23 v3x24 v3x25 v3x26 v3x27 v3x28 v3x29 v3x30 v3x31 v3x32 v3x33 v3x34 v3x35 v3x36 v3x37 v3x38 v3x39 v3x40 v3x41 v3x42 v3x43 v3x44 v3x45 v3x46 v3x47 v3x48 v3x49 v3x50 v3x51 v3x52 v3x53 v3x54 v3x55 v3x56 v3x57 v3x58 v3x59 v3x60 v3x61 v3x62 v3x63 v3x64 v3x65 v3x66 v3x67 v3x68 v3x69 v3x70 v3x71 v3x72 v3x73 v3x74 v3x75 v3x76 v3x77 : Value) (u : Value) (wr : World), HasI 62 (nodeC x) w wr u (kindL x.p.kind ++ atL x.p ++ szL x.p) → K3 { tmps := #[.agg (nodeC x), .pointer (some ⟨w.heap.size, 0, none⟩), .slice none 0 0, u, v3x4, v3x5, v3x6, v3x7, v3x8, v3x9, v3x10, v3x11, v3x12, v3x13, v3x14, v3x15, v3x16, v3x17, v3x18, v3x19, v3x20, v3x21, v3x22, v3x23, v3x24, v3x25, v3x26, v3x27, v3x28, v3x29, v3x30, v3x31, v3x32, v3x33, v3x34, v3x35, v3x36, v3x37, v3x38, v3x39, v3x40, v3x41, v3x42, v3x43, v3x44, v3x45, v3x46, v3x47, v3x48, v3x49, v3x50, v3x51, v3x52, v3x53, v3x54, v3x55, v3x56, v3x57, v3x58, v3x59, v3x60, v3x61, v3x62, v3x63, v3x64, v3x65, v3x66, v3x67, v3x68, v3x69, v3x70, v3x71, v3x72, v3x73, v3x74, v3x75, v3x76, v3x77], defers := [] } wr := by
        intro v3x4 v3x5 v3x6 v3x7 v3x8 v3x9 v3x10 v3x11 v3x12 v3x13 v3x14 v3x15 v3x16 v3x17 v3x18 v3x19 v3x20 v3x21 v3x22 v3x23 v3x24 v3x25 v3x26 v3x27 v3x28 v3x29 v3x30 v3x31 v3x32 v3x33 v3x34 v3x35 v3x36 v3x37 v3x38 v3x39 v3x40 v3x41 v3x42 v3x43 v3x44 v3x45 v3x46 v3x47 v3x48 v3x49 v3x50 v3x51 v3x52 v3x53 v3x54 v3x55 v3x56 v3x57 v3x58 v3x59 v3x60 v3x61 v3x62 v3x63 v3x64 v3x65 v3x66 v3x67 v3x68 v3x69 v3x70 v3x71 v3x72 v3x73 v3x74 v3x75 v3x76 v3x77 u wr HI
        have H := Lib.hid HI
        clear HI
        refine hK3 _ _ ?_
        clear hK3 K3
        have c5 : wr.cell? ⟨w.heap.size, 11, none⟩ = some (.slice x.A1 x.n1 x.c1) := H.out.has.at_ 11
        go_wp2
        go_loopw [3, 48] (fun a i wr => ∃ j : Nat, ∃ u : Value, j ≤ x.n1 ∧ i = .int .i64 j ∧ a = u ∧ Hid (HasI 62 (nodeC x) w wr u ((kindL x.p.kind ++ atL x.p ++ szL x.p) ++ (psL x.p).take j))) (fun _ i _ => x.n1 - (intOf i).toNat)
        case atStart => exact ⟨0, _, by omega, rfl, rfl, Lib.hid (by rw [List.take_zero, List.append_nil]; exact H.out)⟩
        case round =>
          clear c5 H
          obtain ⟨j, u, hj, rfl, rfl, HI⟩ := hrel
          obtain ⟨A, n, c, rfl⟩ := HI.out.sl
          by_cases hlt : j < x.n1
          · have hlti : (j : Int) < x.n1 := by omega
            have HJ := Lib.hid hlt
            obtain ⟨b, off, hA, hbl, hx1, mr⟩ := (HFX.out _ HI.out.below).ps.range hlt
            have HST := Lib.hid (ps_next x.p (kindL x.p.kind ++ atL x.p ++ szL x.p) j hx1)
            have HFI := Lib.hid (HK.out.2.2.2.2.1 _ (List.getElem_mem hx1)).1
            have HLE := Lib.hid (show (((kindL x.p.kind ++ atL x.p ++ szL x.p) ++ (psL x.p).take j)).length ≤ 4000000 from take_len (psL_len HBN.out) j)
            obtain ⟨p, hp⟩ : ∃ p, p = x.p.ps[j] := ⟨_, rfl⟩
            rw [← hp] at mr HST HFI
            have MR := Lib.hid mr
            obtain ⟨lq, hlq⟩ : ∃ lq, lq = (kindL x.p.kind ++ atL x.p ++ szL x.p) ++ (psL x.p).take j := ⟨_, rfl⟩
            rw [← hlq] at HI HST HLE
            have HNP := Lib.hid (fun V (h : Tabs V) => itoa_any p.i HFI.out V h)
            have s1 := itoaB_size HFI.out
            have z1 : (⟨#[112, 105, 101, 99, 101, 58]⟩ : ByteArray).size = 6 := rfl
            have a1 := fun W => run_string_add_sum (P := Tryd.prog) W ⟨#[112, 105, 101, 99, 101, 58]⟩ (itoaB p.i) (by omega)
            obtain ⟨g1, e1⟩ : ∃ g1, g1 = (⟨#[112, 105, 101, 99, 101, 58]⟩ : ByteArray) ++ itoaB p.i := ⟨_, rfl⟩
            rw [← e1] at a1
            have HG1 := Lib.hid (show g1 = pieceB p from e1)
            have HW := Lib.hid (HI.out.low ((Below.refl _ _).alloc (Nat.le_refl _) (.cells (pieceC p) 83)))
            have c0 : (wr.alloc (.cells (pieceC p) 83)).cell? ⟨wr.heap.size, 0, none⟩ = some (.int .i64 p.i) := (Has.fresh wr 83 (pieceC p)).at_ 0
            clear hj hlt hbl hx1 mr hp s1 z1 e1 hlq
            rw [hA]
            go_wp2_with (first | ((with_reducible refine Who.wpList_loadC 83 (.tmp 50) rfl b (off + j * 4) (pieceC p) ?_); refine And.intro ⟨by rfl, by rfl, ⟨_, Tryd.underlying83, rfl⟩, info_piece⟩ (And.intro (MR.out) ?_); (try simp only [Act.put, List.setIfInBounds_toArray, List.set_cons_zero, List.set_cons_succ])) | ((with_reducible refine Who.wpList_newC 83 5 (.tmp 51) rfl rfl rfl (pieceC zeroP) (pieceC p) ?_); refine And.intro ⟨rfl, rfl, rfl, alloc_piece, by rfl, by rfl, info_piece, rfl, piece_one _⟩ ?_; (try simp only [Act.put, List.setIfInBounds_toArray, List.set_cons_zero, List.set_cons_succ]); (try simp only [World.size_alloc])) | fail)
            refine (HNP.out _ (HTT.out _ HW.out.below)).mono ?_
            rintro e w1 ⟨rfl, hb⟩
            have HW1 := Lib.hid (HW.out.low hb)
            clear hb c0
            go_wp2_with (at_builtin; (with_reducible refine wpl_text (B := w.heap.size + 1) (u := .slice A n c) (l := lq) (.tmp 52) (.tmp 57) rfl rfl ?_); refine And.intro ⟨⟨by rfl, ⟨_, by rfl, by simp⟩⟩, HW1.out.row, HW1.out.big, HLE.out⟩ ?_)
            intro u2 w2 hg
            have HW2 := Lib.hid (HW1.out.grew hg)
            clear hg
            have HW3 := Lib.hid (show HasI 62 (nodeC x) w w2 u2 ((kindL x.p.kind ++ atL x.p ++ szL x.p) ++ (psL x.p).take (j + 1)) by rw [HST.out, ← HG1.out]; exact HW2.out)
            go_wp2
            go_roundw
            case rel => exact ⟨j + 1, _, HJ.out, by go_num, rfl, HW3⟩
            case measure => have := HJ.out; simp [intOf]; omega
          · obtain rfl : j = x.n1 := by omega
            have HE := Lib.hid (show HasI 62 (nodeC x) w wr (.slice A n c) (kindL x.p.kind ++ atL x.p ++ szL x.p ++ psL x.p) by have e := ps_all x.p (kindL x.p.kind ++ atL x.p ++ szL x.p); rw [← HN1.out] at e; rw [← e]; exact HI.out)
            have c6 : wr.cell? ⟨w.heap.size, 12, none⟩ = some (.slice x.A2 x.n2 x.c2) := HE.out.has.at_ 12
            clear HI hj hlt
            go_wp2
            go_loopw [3, 63] (fun a i wr => ∃ j : Nat, ∃ u : Value, j ≤ x.n2 ∧ i = .int .i64 j ∧ a = u ∧ Hid (HasI 62 (nodeC x) w wr u ((kindL x.p.kind ++ atL x.p ++ szL x.p ++ psL x.p) ++ (xsL x.p).take j))) (fun _ i _ => x.n2 - (intOf i).toNat)
            case atStart => exact ⟨0, _, by omega, rfl, rfl, Lib.hid (by rw [List.take_zero, List.append_nil]; exact HE.out)⟩
            case round =>
              clear c6 HE
              obtain ⟨j, u, hj, rfl, rfl, HI⟩ := hrel
              obtain ⟨A, n, c, rfl⟩ := HI.out.sl
              by_cases hlt : j < x.n2
              · have hlti : (j : Int) < x.n2 := by omega
                have HJ := Lib.hid hlt
                obtain ⟨b, off, hA, hbl, hx1, mr⟩ := (HFX.out _ HI.out.below).xs.range hlt
                have HST := Lib.hid (xs_next x.p (kindL x.p.kind ++ atL x.p ++ szL x.p ++ psL x.p) j hx1)
                have s1 := HBN.out.2.2 _ (List.getElem_mem hx1)
                have HLE := Lib.hid (show (((kindL x.p.kind ++ atL x.p ++ szL x.p ++ psL x.p) ++ (xsL x.p).take j)).length ≤ 4000000 from take_len (xsL_len HBN.out) j)
                obtain ⟨p, hp⟩ : ∃ p, p = x.p.xs[j] := ⟨_, rfl⟩
                rw [← hp] at mr HST s1
                have MR := Lib.hid mr
                obtain ⟨lq, hlq⟩ : ∃ lq, lq = (kindL x.p.kind ++ atL x.p ++ szL x.p ++ psL x.p) ++ (xsL x.p).take j := ⟨_, rfl⟩
                rw [← hlq] at HI HST HLE
                have z1 : (⟨#[115, 101, 116, 58]⟩ : ByteArray).size = 4 := rfl
                have z2 : (⟨#[100, 101, 108, 58]⟩ : ByteArray).size = 4 := rfl
                have a1 := fun W => run_string_add_sum (P := Tryd.prog) W ⟨#[115, 101, 116, 58]⟩ p.name (by omega)
                have a2 := fun W => run_string_add_sum (P := Tryd.prog) W ⟨#[100, 101, 108, 58]⟩ p.name (by omega)
                obtain ⟨g1, e1⟩ : ∃ g1, g1 = (⟨#[115, 101, 116, 58]⟩ : ByteArray) ++ p.name := ⟨_, rfl⟩
                obtain ⟨g2, e2⟩ : ∃ g2, g2 = (⟨#[100, 101, 108, 58]⟩ : ByteArray) ++ p.name := ⟨_, rfl⟩
                rw [← e1] at a1
                rw [← e2] at a2
                have HG1 := Lib.hid (show xattrB p = if p.gone then g2 else g1 by rw [e1, e2]; rfl)
                have HW := Lib.hid (HI.out.low ((Below.refl _ _).alloc (Nat.le_refl _) (.cells (xattrC p) 85)))
                have c0 : (wr.alloc (.cells (xattrC p) 85)).cell? ⟨wr.heap.size, 0, none⟩ = some (.string p.name) := (Has.fresh wr 85 (xattrC p)).at_ 0
                have c4 : (wr.alloc (.cells (xattrC p) 85)).cell? ⟨wr.heap.size, 4, none⟩ = some (.bool p.gone) := (Has.fresh wr 85 (xattrC p)).at_ 4
                have HCP := Lib.hid (show xattrC p = xattrC p from rfl)
                clear hj hlt hbl hx1 mr hp s1 z1 z2 e1 e2 hlq
                rw [hA]
                cases hgo : p.gone with
                | true =>
                  rw [hgo] at c4
                  have HG := Lib.hid (show xattrB p = g2 by rw [HG1.out, hgo]; rfl)
                  clear hgo HG1
                  go_wp2_with (first | ((with_reducible refine Who.wpList_loadC 85 (.tmp 65) rfl b (off + j * 5) (xattrC p) ?_); refine And.intro ⟨by rfl, by rfl, ⟨_, Tryd.underlying85, rfl⟩, info_xattr⟩ (And.intro (MR.out) ?_); (try simp only [Act.put, List.setIfInBounds_toArray, List.set_cons_zero, List.set_cons_succ])) | ((with_reducible refine Who.wpList_newC 85 7 (.tmp 66) rfl rfl rfl (xattrC zeroX) (xattrC p) ?_); refine And.intro ⟨rfl, rfl, rfl, alloc_xattr, by rfl, by rfl, info_xattr, rfl, xattr_one _⟩ ?_; (try simp only [Act.put, List.setIfInBounds_toArray, List.set_cons_zero, List.set_cons_succ]); (try simp only [World.size_alloc])) | (at_builtin; (with_reducible refine wpl_text (B := w.heap.size + 1) (u := .slice A n c) (l := lq) (.tmp 69) (.tmp 74) rfl rfl ?_); refine And.intro ⟨⟨by rfl, ⟨_, by rfl, by simp⟩⟩, HW.out.row, HW.out.big, HLE.out⟩ ?_))
                  intro u2 w2 hg
                  have HW2 := Lib.hid (HW.out.grew hg)
                  clear hg c0 c4
                  have HW3 := Lib.hid (show HasI 62 (nodeC x) w w2 u2 ((kindL x.p.kind ++ atL x.p ++ szL x.p ++ psL x.p) ++ (xsL x.p).take (j + 1)) by rw [HST.out, HG.out]; exact HW2.out)
                  go_wp2
                  go_roundw
                  case rel => exact ⟨j + 1, _, HJ.out, by go_num, rfl, HW3⟩
                  case measure => have := HJ.out; simp [intOf]; omega
                | false =>
                  rw [hgo] at c4
                  have HG := Lib.hid (show xattrB p = g1 by rw [HG1.out, hgo]; rfl)
                  clear hgo HG1
                  go_wp2_with (first | ((with_reducible refine Who.wpList_loadC 85 (.tmp 65) rfl b (off + j * 5) (xattrC p) ?_); refine And.intro ⟨by rfl, by rfl, ⟨_, Tryd.underlying85, rfl⟩, info_xattr⟩ (And.intro (MR.out) ?_); (try simp only [Act.put, List.setIfInBounds_toArray, List.set_cons_zero, List.set_cons_succ])) | ((with_reducible refine Who.wpList_newC 85 7 (.tmp 66) rfl rfl rfl (xattrC zeroX) (xattrC p) ?_); refine And.intro ⟨rfl, rfl, rfl, alloc_xattr, by rfl, by rfl, info_xattr, rfl, xattr_one _⟩ ?_; (try simp only [Act.put, List.setIfInBounds_toArray, List.set_cons_zero, List.set_cons_succ]); (try simp only [World.size_alloc])) | (at_builtin; (with_reducible refine wpl_text (B := w.heap.size + 1) (u := .slice A n c) (l := lq) (.tmp 69) (.tmp 74) rfl rfl ?_); refine And.intro ⟨⟨by rfl, ⟨_, by rfl, by simp⟩⟩, HW.out.row, HW.out.big, HLE.out⟩ ?_))
                  intro u2 w2 hg
                  have HW2 := Lib.hid (HW.out.grew hg)
                  clear hg c0 c4
                  have HW3 := Lib.hid (show HasI 62 (nodeC x) w w2 u2 ((kindL x.p.kind ++ atL x.p ++ szL x.p ++ psL x.p) ++ (xsL x.p).take (j + 1)) by rw [HST.out, HG.out]; exact HW2.out)
                  go_wp2
                  go_roundw
                  case rel => exact ⟨j + 1, _, HJ.out, by go_num, rfl, HW3⟩
                  case measure => have := HJ.out; simp [intOf]; omega
              · obtain rfl : j = x.n2 := by omega
                have HE := Lib.hid (show HasI 62 (nodeC x) w wr (.slice A n c) (partsN x.p) by have e := xs_all x.p (kindL x.p.kind ++ atL x.p ++ szL x.p ++ psL x.p); rw [← HN2.out] at e; show HasI _ _ _ _ _ (kindL x.p.kind ++ atL x.p ++ szL x.p ++ psL x.p ++ xsL x.p); rw [← e]; exact HI.out)
                clear HI hj hlt
                go_wp2
                refine bodyPost_ret (v := .slice A n c) (by simp [results, Tryd.results26, go_sem]) rfl ⟨_, rfl, HE.out.row, HE.out.below⟩
      have HH3 := Lib.hid HK3
      clear HK3 hK3
      go_wp2_with (first | ((with_reducible refine Who.wpList_loadC 23 (.tmp 34) rfl w.heap.size 8 (#[.int .i64 x.p.sat.1, .int .i64 x.p.sat.2]) ?_); refine And.intro ⟨by rfl, by rfl, ⟨_, Tryd.underlying23, rfl⟩, info_st⟩ (And.intro (sat_range H.out.has) ?_); (try simp only [Act.put, List.setIfInBounds_toArray, List.set_cons_zero, List.set_cons_succ])) | fail)
      refine (HI2.out _).mono ?_
      rintro e wi ⟨rfl, hb⟩
      have H := Lib.hid (H.out.low hb)
      clear hb
      have cn : wi.cell? ⟨w.heap.size, 10, none⟩ = some (.int .i64 x.p.n) := H.out.has.at_ 10
      cases zs with
      | true =>
        have HE := Lib.hid HS.out
        rw [if_pos rfl] at HE
        go_wp2
        exact HH3.out _ _ _ _ _ _ _ _ _ _ _ _ _ _ _ _ _ _ _ _ _ _ _ _ _ _ _ _ _ _ _ _ _ _ _ _ _ _ _ _ _ _ _ _ _ _ _ _ _ _ _ _ _ _ _ _ _ _ _ _ _ _ _ _ _ _ _ _ _ _ _ _ _ _ u _ (by rw [HE.out, List.append_nil]; exact H.out)
      | false =>
        have HE := Lib.hid HS.out
        rw [if_neg (by decide)] at HE
        obtain ⟨A, n, c, rfl⟩ := H.out.sl
        go_wp2_with fail
        refine (HNS.out _ (HTT.out _ H.out.below)).mono ?_
        rintro e w1 ⟨rfl, hb⟩
        have HW1 := Lib.hid (H.out.low hb)
        clear hb cn
        have HLE := Lib.hid (show (kindL x.p.kind ++ atL x.p).length ≤ 4000000 from l2_len x.p)
        go_wp2_with (at_builtin; (with_reducible refine wpl_text (B := w.heap.size + 1) (u := .slice A n c) (l := kindL x.p.kind ++ atL x.p) (.tmp 37) (.tmp 43) rfl rfl ?_); refine And.intro ⟨⟨by rfl, ⟨_, by rfl, by simp⟩⟩, HW1.out.row, HW1.out.big, HLE.out⟩ ?_)
        intro u2 w2 hg
        have HW2 := Lib.hid (HW1.out.grew hg)
        clear hg
        go_wp2
        exact HH3.out _ _ _ _ _ _ _ _ _ _ _ _ _ _ _ _ _ _ _ _ _ _ _ _ _ _ _ _ _ _ _ _ _ _ _ _ _ _ _ _ _ _ _ _ _ _ _ _ _ _ _ _ _ _ _ _ _ _ _ _ _ _ _ _ _ _ _ _ _ _ _ _ _ _ u2 w2 (by rw [HE.out]; exact HW2.out)
    have HH2 := Lib.hid HK2
    clear HK2 hK2
    go_wp2_with (first | ((with_reducible refine Who.wpList_loadC 23 (.tmp 27) rfl w.heap.size 4 (#[.int .i64 x.p.aat.1, .int .i64 x.p.aat.2]) ?_); refine And.intro ⟨by rfl, by rfl, ⟨_, Tryd.underlying23, rfl⟩, info_st⟩ (And.intro (aat_range H.out.has) ?_); (try simp only [Act.put, List.setIfInBounds_toArray, List.set_cons_zero, List.set_cons_succ])) | fail)
    refine (HI1.out _).mono ?_
    rintro e wi ⟨rfl, hb⟩
    have H := Lib.hid (H.out.low hb)
    clear hb
    cases za with
    | true =>
      have HE := Lib.hid HA.out
      rw [if_pos rfl] at HE
      go_wp2
      exact HH2.out _ _ _ _ _ _ _ _ _ _ _ _ _ _ _ _ _ _ _ _ _ _ _ _ _ _ _ _ _ _ _ _ _ _ _ _ _ _ _ _ _ _ _ _ _ _ _ _ _ _ _ _ _ _ _ _ _ _ _ _ _ _ _ _ _ _ _ _ _ _ _ _ _ _ u _ (by rw [HE.out, List.append_nil]; exact H.out)
    | false =>
      have HE := Lib.hid HA.out
      rw [if_neg (by decide)] at HE
      obtain ⟨A, n, c, rfl⟩ := H.out.sl
      have HLE := Lib.hid (show (kindL x.p.kind).length ≤ 4000000 from l1_len x.p)
      go_wp2_with (first | (at_builtin; (with_reducible refine wpl_text (B := w.heap.size + 1) (u := .slice A n c) (l := kindL x.p.kind) (.tmp 30) (.tmp 31) rfl rfl ?_); refine And.intro ⟨⟨by rfl, ⟨_, by rfl, by simp⟩⟩, H.out.row, H.out.big, HLE.out⟩ ?_))
      intro u2 w2 hg
      have HW2 := Lib.hid (H.out.grew hg)
      clear hg
      go_wp2
      exact HH2.out _ _ _ _ _ _ _ _ _ _ _ _ _ _ _ _ _ _ _ _ _ _ _ _ _ _ _ _ _ _ _ _ _ _ _ _ _ _ _ _ _ _ _ _ _ _ _ _ _ _ _ _ _ _ _ _ _ _ _ _ _ _ _ _ _ _ _ _ _ _ _ _ _ _ u2 w2 (by rw [HE.out]; exact HW2.out)
  have HH1 := Lib.hid HK1
  clear HK1 hK1
  have ck : (w.alloc (.cells (nodeC x) 62)).cell? ⟨w.heap.size, 2, none⟩ = some (.int .i64 x.p.kind) := H0.out.has.at_ 2
  by_cases k0 : x.p.kind = 1
  · have HE := Lib.hid (show kindL x.p.kind = [⟨#[102, 105, 108, 101]⟩] by rw [k0]; rfl)
    rw [k0] at ck
    clear k0
    go_wp2_with (at_builtin; (with_reducible refine wpl_text (B := w.heap.size + 1) (u := .slice none 0 0) (l := []) (.tmp 13) (.tmp 14) rfl rfl ?_); refine And.intro ⟨⟨by rfl, ⟨_, by rfl, by simp⟩⟩, H0.out.row, H0.out.big, Nat.zero_le _⟩ ?_)
    intro u2 w2 hg
    have HW2 := Lib.hid (H0.out.grew hg)
    clear hg
    go_wp2
    exact HH1.out _ _ _ _ _ _ _ _ _ _ _ _ _ _ _ _ _ _ _ _ _ _ _ _ _ _ _ _ _ _ _ _ _ _ _ _ _ _ _ _ _ _ _ _ _ _ _ _ _ _ _ _ _ _ _ _ _ _ _ _ _ _ _ _ _ _ _ _ _ _ _ _ _ _ u2 w2 (by rw [HE.out]; exact HW2.out)
  · have b0 : (x.p.kind == 1) = false := beq_eq_false_iff_ne.2 k0
    by_cases k1 : x.p.kind = 2
    · have HE := Lib.hid (show kindL x.p.kind = [⟨#[100, 105, 114]⟩] by rw [k1]; rfl)
      rw [k1] at ck
      clear k0 k1 b0
      go_wp2_with (at_builtin; (with_reducible refine wpl_text (B := w.heap.size + 1) (u := .slice none 0 0) (l := []) (.tmp 18) (.tmp 19) rfl rfl ?_); refine And.intro ⟨⟨by rfl, ⟨_, by rfl, by simp⟩⟩, H0.out.row, H0.out.big, Nat.zero_le _⟩ ?_)
      intro u2 w2 hg
      have HW2 := Lib.hid (H0.out.grew hg)
      clear hg
      go_wp2
      exact HH1.out _ _ _ _ _ _ _ _ _ _ _ _ _ _ _ _ _ _ _ _ _ _ _ _ _ _ _ _ _ _ _ _ _ _ _ _ _ _ _ _ _ _ _ _ _ _ _ _ _ _ _ _ _ _ _ _ _ _ _ _ _ _ _ _ _ _ _ _ _ _ _ _ _ _ u2 w2 (by rw [HE.out]; exact HW2.out)
    · have b1 : (x.p.kind == 2) = false := beq_eq_false_iff_ne.2 k1
      by_cases k2 : x.p.kind = 3
      · have HE := Lib.hid (show kindL x.p.kind = [⟨#[115, 121, 109]⟩] by rw [k2]; rfl)
        rw [k2] at ck
        clear k0 k1 k2 b0 b1
        go_wp2_with (at_builtin; (with_reducible refine wpl_text (B := w.heap.size + 1) (u := .slice none 0 0) (l := []) (.tmp 23) (.tmp 24) rfl rfl ?_); refine And.intro ⟨⟨by rfl, ⟨_, by rfl, by simp⟩⟩, H0.out.row, H0.out.big, Nat.zero_le _⟩ ?_)
        intro u2 w2 hg
        have HW2 := Lib.hid (H0.out.grew hg)
        clear hg
        go_wp2
        exact HH1.out _ _ _ _ _ _ _ _ _ _ _ _ _ _ _ _ _ _ _ _ _ _ _ _ _ _ _ _ _ _ _ _ _ _ _ _ _ _ _ _ _ _ _ _ _ _ _ _ _ _ _ _ _ _ _ _ _ _ _ _ _ _ _ _ _ _ _ _ _ _ _ _ _ _ u2 w2 (by rw [HE.out]; exact HW2.out)
      · have b2 : (x.p.kind == 3) = false := beq_eq_false_iff_ne.2 k2
        have HE := Lib.hid (show kindL x.p.kind = [] by unfold kindL; rw [if_neg k0, if_neg k1, if_neg k2])
        clear k0 k1 k2
        go_wp2
        exact HH1.out _ _ _ _ _ _ _ _ _ _ _ _ _ _ _ _ _ _ _ _ _ _ _ _ _ _ _ _ _ _ _ _ _ _ _ _ _ _ _ _ _ _ _ _ _ _ _ _ _ _ _ _ _ _ _ _ _ _ _ _ _ _ _ _ _ _ _ _ _ _ _ _ _ _ _ _ (by rw [HE.out]; exact H0.out)
set_option maxRecDepth 100000 in
set_option maxHeartbeats 4000000 in
theorem rinode_any (x : NodeC) (hk : Fc.NumN x.p) (hn : Fc.BndN 1048576 x.p) (w : World) (hx : Fc.NodeFit w x) : Calls Tryd.prog 30 #[.agg (nodeC x)] w fun e w' => e = .returned (.string (lineB ⟨#[105, 110, 111, 100, 101]⟩ x.p.id (partsN x.p))) ∧ Below w.heap.size w w' := by
  have H0 := Lib.hid (HasI.start w 62 (nodeC x))
  have HFX := Lib.hid (show ∀ V, Below w.heap.size w V → Fc.NodeFit V x from fun V h => hx.below h)
  have HNS := Lib.hid (fun V => digits_any x.p.n hk.2.2.2.1.2 V)
  have HSI := Lib.hid (fun V => rstamp_any x.p.id hk.1 V)
  have HK := Lib.hid hk
  have HBN := Lib.hid hn
  have HSM := Lib.hid (partsN_small hk hn)
  have s9 := itoaB_size hk.2.2.2.1.2
  have z9 : (⟨#[115, 105, 122, 101, 58]⟩ : ByteArray).size = 5 := rfl
  have a9 := fun W => run_string_add_sum (P := Tryd.prog) W ⟨#[115, 105, 122, 101, 58]⟩ (itoaB x.p.n) (by omega)
  obtain ⟨g9, e9⟩ : ∃ g9, g9 = (⟨#[115, 105, 122, 101, 58]⟩ : ByteArray) ++ itoaB x.p.n := ⟨_, rfl⟩
  rw [← e9] at a9
  have hz1 := fun W => neq_st x.p.aat.1 x.p.aat.2 0 0 W
  have HZ1 := Lib.hid (show zeroS x.p.aat = (x.p.aat.1 == 0 && x.p.aat.2 == 0) from rfl)
  rw [← HZ1.out] at hz1
  have hz2 := fun W => neq_st x.p.sat.1 x.p.sat.2 0 0 W
  have HZ2 := Lib.hid (show zeroS x.p.sat = (x.p.sat.1 == 0 && x.p.sat.2 == 0) from rfl)
  rw [← HZ2.out] at hz2
  unfold stC at hz1 hz2
  have HA := Lib.hid (show atL x.p = if zeroS x.p.aat then [] else [atW] from rfl)
  have HS := Lib.hid (show szL x.p = if zeroS x.p.sat then [] else [g9] by rw [e9]; rfl)
  have HN1 := Lib.hid (show x.n1 = x.p.ps.length from hx.ps.len.symm)
  have HN2 := Lib.hid (show x.n2 = x.p.xs.length from hx.xs.len.symm)
  have m1 := hx.m1
  have m2 := hx.m2
  have sI := stampB_size hk.1
  have zI : (⟨#[105, 110, 111, 100, 101, 32]⟩ : ByteArray).size = 6 := rfl
  have zJ : (⟨#[32]⟩ : ByteArray).size = 1 := rfl
  have sJ := joinC_size (partsN_small hk hn)
  obtain ⟨j1, ej1⟩ : ∃ j1 : ByteArray, j1 = (⟨#[105, 110, 111, 100, 101, 32]⟩ : ByteArray) ++ (stampB x.p.id) := ⟨_, rfl⟩
  have fj1 := congrArg ByteArray.size ej1
  rw [ByteArray.size_append] at fj1
  have aj1 := fun W => run_string_add_sum (P := Tryd.prog) W (⟨#[105, 110, 111, 100, 101, 32]⟩ : ByteArray) (stampB x.p.id) (by omega)
  rw [← ej1] at aj1
  obtain ⟨j2, ej2⟩ : ∃ j2 : ByteArray, j2 = j1 ++ (⟨#[32]⟩ : ByteArray) := ⟨_, rfl⟩
  have fj2 := congrArg ByteArray.size ej2
  rw [ByteArray.size_append] at fj2
  have aj2 := fun W => run_string_add_sum (P := Tryd.prog) W j1 (⟨#[32]⟩ : ByteArray) (by omega)
  rw [← ej2] at aj2
  obtain ⟨j3, ej3⟩ : ∃ j3 : ByteArray, j3 = j2 ++ (joinC (partsN x.p)) := ⟨_, rfl⟩
  have fj3 := congrArg ByteArray.size ej3
  rw [ByteArray.size_append] at fj3
  have aj3 := fun W => run_string_add_sum (P := Tryd.prog) W j2 (joinC (partsN x.p)) (by omega)
  rw [← ej3] at aj3
  have HJ3 := Lib.hid (show j3 = lineB ⟨#[105, 110, 111, 100, 101]⟩ x.p.id (partsN x.p) by unfold lineB; rw [ej3, ej2, ej1, show (⟨#[105, 110, 111, 100, 101, 32]⟩ : ByteArray) = ⟨#[105, 110, 111, 100, 101]⟩ ++ ⟨#[32]⟩ from rfl])
  clear sI zI zJ sJ fj1 fj2 fj3 ej1 ej2 ej3
  obtain ⟨za, hza⟩ : ∃ za, za = zeroS x.p.aat := ⟨_, rfl⟩
  obtain ⟨zs, hzs⟩ : ∃ zs, zs = zeroS x.p.sat := ⟨_, rfl⟩
  rw [← hza] at hz1 HA
  rw [← hzs] at hz2 HS
  clear hk hn hx s9 z9 e9 hza hzs HZ1 HZ2
  go_enter Tryd.func30, Tryd.ntmps30
  repeat ((fail_if_success (with_reducible refine wp_seq_k (x := Code.seq _ _) (fun K0 hK0 => ?_))); go_step)
  with_reducible refine wp_seq_k (x := Code.seq _ _) (fun K1 hK1 => ?_)
  have HK1 : ∀ (v1x4 v1x5 v1x6 v1x7 v1x8 v1x9 v1x10 v1x11 v1x12 v1x13 v1x14 v1x15 v1x16 v1x17 v1x18 v1x19 v1x20 v1x21 v1x22 v1x23 v1x24 v1x25 v1x26 v1x27 v1x28 v1x29 v1x30 v1x31 v1x32 v1x33 v1x34 v1x35 v1x36 v1x37 v1x38 v1x39 v1x40 v1x41 v1x42 v1x43 v1x44 v1x45 v1x46 v1x47 v1x48 v1x49 v1x50 v1x51 v1x52 v1x53 v1x54 v1x55 v1x56 v1x57 v1x58 v1x59 v1x60 v1x61 v1x62 v1x63 v1x64 v1x65 v1x66 v1x67 v1x68 v1x69 v1x70 v1x71 v1x72 v1x73 v1x74 v1x75 v1x76 v1x77 v1x78 v1x79 v1x80 v1x81 v1x82 v1x83 v1x84 v1x85 v1x86 v1x87 v1x88 v1x89 v1x90 v1x91 : Value) (u : Value) (wr : World), HasI 62 (nodeC x) w wr u (kindA x.p.kind) → K1 { tmps := #[.agg (nodeC x), .pointer (some ⟨w.heap.size, 0, none⟩), .string ⟨#[]⟩, u, v1x4, v1x5, v1x6, v1x7, v1x8, v1x9, v1x10, v1x11, v1x12, v1x13, v1x14, v1x15, v1x16, v1x17, v1x18, v1x19, v1x20, v1x21, v1x22, v1x23, v1x24, v1x25, v1x26, v1x27, v1x28, v1x29, v1x30, v1x31, v1x32, v1x33, v1x34, v1x35, v1x36, v1x37, v1x38, v1x39, v1x40, v1x41, v1x42, v1x43, v1x44, v1x45, v1x46, v1x47, v1x48, v1x49, v1x50, v1x51, v1x52, v1x53, v1x54, v1x55, v1x56, v1x57, v1x58, v1x59, v1x60, v1x61, v1x62, v1x63, v1x64, v1x65, v1x66, v1x67, v1x68, v1x69, v1x70, v1x71, v1x72, v1x73, v1x74, v1x75, v1x76, v1x77, v1x78, v1x79, v1x80, v1x81, v1x82, v1x83, v1x84, v1x85, v1x86, v1x87, v1x88, v1x89, v1x90, v1x91], defers := [] } wr := by
    intro v1x4 v1x5 v1x6 v1x7 v1x8 v1x9 v1x10 v1x11 v1x12 v1x13 v1x14 v1x15 v1x16 v1x17 v1x18 v1x19 v1x20 v1x21 v1x22 v1x23 v1x24 v1x25 v1x26 v1x27 v1x28 v1x29 v1x30 v1x31 v1x32 v1x33 v1x34 v1x35 v1x36 v1x37 v1x38 v1x39 v1x40 v1x41 v1x42 v1x43 v1x44 v1x45 v1x46 v1x47 v1x48 v1x49 v1x50 v1x51 v1x52 v1x53 v1x54 v1x55 v1x56 v1x57 v1x58 v1x59 v1x60 v1x61 v1x62 v1x63 v1x64 v1x65 v1x66 v1x67 v1x68 v1x69 v1x70 v1x71 v1x72 v1x73 v1x74 v1x75 v1x76 v1x77 v1x78 v1x79 v1x80 v1x81 v1x82 v1x83 v1x84 v1x85 v1x86 v1x87 v1x88 v1x89 v1x90 v1x91 u wr HI
    have H := Lib.hid HI
    clear HI
    refine hK1 _ _ ?_
    clear hK1 K1
    repeat ((fail_if_success (with_reducible refine wp_seq_k (x := Code.seq _ _) (fun K0 hK0 => ?_))); go_step)
    with_reducible refine wp_seq_k (x := Code.seq _ _) (fun K2 hK2 => ?_)
    have HK2 : ∀ (v2x4 v2x5 v2x6 v2x7 v2x8 v2x9 v2x10 v2x11 v2x12 v2x13 v2x14 v2x15 v2x16 v2x17 v2x18 v2x19 v2x20 v2x21 v2x22 v2x23 v2x24 v2x25 v2x26 v2x27 v2x28 v2x29 v2x30 v2x31 v2x32 v2x33 v2x34 v2x35 v2x36 v2x37 v2x38 v2x39 v2x40 v2x41 v2x42 v2x43 v2x44 v2x45 v2x46 v2x47 v2x48 v2x49 v2x50 v2x51 v2x52 v2x53 v2x54 v2x55 v2x56 v2x57 v2x58 v2x59 v2x60 v2x61 v2x62 v2x63 v2x64 v2x65 v2x66 v2x67 v2x68 v2x69 v2x70 v2x71 v2x72 v2x73 v2x74 v2x75 v2x76 v2x77 v2x78 v2x79 v2x80 v2x81 v2x82 v2x83 v2x84 v2x85 v2x86 v2x87 v2x88 v2x89 v2x90 v2x91 : Value) (u : Value) (wr : World), HasI 62 (nodeC x) w wr u (kindB x.p.kind) → K2 { tmps := #[.agg (nodeC x), .pointer (some ⟨w.heap.size, 0, none⟩), .string ⟨#[]⟩, u, v2x4, v2x5, v2x6, v2x7, v2x8, v2x9, v2x10, v2x11, v2x12, v2x13, v2x14, v2x15, v2x16, v2x17, v2x18, v2x19, v2x20, v2x21, v2x22, v2x23, v2x24, v2x25, v2x26, v2x27, v2x28, v2x29, v2x30, v2x31, v2x32, v2x33, v2x34, v2x35, v2x36, v2x37, v2x38, v2x39, v2x40, v2x41, v2x42, v2x43, v2x44, v2x45, v2x46, v2x47, v2x48, v2x49, v2x50, v2x51, v2x52, v2x53, v2x54, v2x55, v2x56, v2x57, v2x58, v2x59, v2x60, v2x61, v2x62, v2x63, v2x64, v2x65, v2x66, v2x67, v2x68, v2x69, v2x70, v2x71, v2x72, v2x73, v2x74, v2x75, v2x76, v2x77, v2x78, v2x79, v2x80, v2x81, v2x82, v2x83, v2x84, v2x85, v2x86, v2x87, v2x88, v2x89, v2x90, v2x91], defers := [] } wr := by
      intro v2x4 v2x5 v2x6 v2x7 v2x8 v2x9 v2x10 v2x11 v2x12 v2x13 v2x14 v2x15 v2x16 v2x17 v2x18 v2x19 v2x20 v2x21 v2x22 v2x23 v2x24 v2x25 v2x26 v2x27 v2x28 v2x29 v2x30 v2x31 v2x32 v2x33 v2x34 v2x35 v2x36 v2x37 v2x38 v2x39 v2x40 v2x41 v2x42 v2x43 v2x44 v2x45 v2x46 v2x47 v2x48 v2x49 v2x50 v2x51 v2x52 v2x53 v2x54 v2x55 v2x56 v2x57 v2x58 v2x59 v2x60 v2x61 v2x62 v2x63 v2x64 v2x65 v2x66 v2x67 v2x68 v2x69 v2x70 v2x71 v2x72 v2x73 v2x74 v2x75 v2x76 v2x77 v2x78 v2x79 v2x80 v2x81 v2x82 v2x83 v2x84 v2x85 v2x86 v2x87 v2x88 v2x89 v2x90 v2x91 u wr HI
      have H := Lib.hid HI
      clear HI
      refine hK2 _ _ ?_
      clear hK2 K2
      repeat ((fail_if_success (with_reducible refine wp_seq_k (x := Code.seq _ _) (fun K0 hK0 => ?_))); go_step)
      with_reducible refine wp_seq_k (x := Code.seq _ _) (fun K3 hK3 => ?_)
      have HK3 : ∀ (v3x4 v3x5 v3x6 v3x7 v3x8 v3x9 v3x10 v3x11 v3x12 v3x13 v3x14 v3x15 v3x16 v3x17 v3x18 v3x19 v3x20 v3x21 v3x22 v3x23 v3x24 v3x25 v3x26 v3x27 v3x28 v3x29 v3x30 v3x31 v3x32 v3x33 v3x34 v3x35 v3x36 v3x37 v3x38 v3x39 v3x40 v3x41 v3x42 v3x43 v3x44 v3x45 v3x46 v3x47 v3x48 v3x49 v3x50 v3x51 v3x52 v3x53 v3x54 v3x55 v3x56 v3x57 v3x58 v3x59 v3x60 v3x61 v3x62 v3x63 v3x64 v3x65 v3x66 v3x67 v3x68 v3x69 v3x70 v3x71 v3x72 v3x73 v3x74 v3x75 v3x76 v3x77 v3x78 v3x79 v3x80 v3x81 v3x82 v3x83 v3x84 v3x85 v3x86 v3x87 v3x88 v3x89 v3x90 v3x91 : Value) (u : Value) (wr : World), HasI 62 (nodeC x) w wr u (kindL x.p.kind) → K3 { tmps := #[.agg (nodeC x), .pointer (some ⟨w.heap.size, 0, none⟩), .string ⟨#[]⟩, u, v3x4, v3x5, v3x6, v3x7, v3x8, v3x9, v3x10, v3x11, v3x12, v3x13, v3x14, v3x15, v3x16, v3x17, v3x18, v3x19, v3x20, v3x21, v3x22, v3x23, v3x24, v3x25, v3x26, v3x27, v3x28, v3x29, v3x30, v3x31, v3x32, v3x33, v3x34, v3x35, v3x36, v3x37, v3x38, v3x39, v3x40, v3x41, v3x42, v3x43, v3x44, v3x45, v3x46, v3x47, v3x48, v3x49, v3x50, v3x51, v3x52, v3x53, v3x54, v3x55, v3x56, v3x57, v3x58, v3x59, v3x60, v3x61, v3x62, v3x63, v3x64, v3x65, v3x66, v3x67, v3x68, v3x69, v3x70, v3x71, v3x72, v3x73, v3x74, v3x75, v3x76, v3x77, v3x78, v3x79, v3x80, v3x81, v3x82, v3x83, v3x84, v3x85, v3x86, v3x87, v3x88, v3x89, v3x90, v3x91], defers := [] } wr := by
        intro v3x4 v3x5 v3x6 v3x7 v3x8 v3x9 v3x10 v3x11 v3x12 v3x13 v3x14 v3x15 v3x16 v3x17 v3x18 v3x19 v3x20 v3x21 v3x22 v3x23 v3x24 v3x25 v3x26 v3x27 v3x28 v3x29 v3x30 v3x31 v3x32 v3x33 v3x34 v3x35 v3x36 v3x37 v3x38 v3x39 v3x40 v3x41 v3x42 v3x43 v3x44 v3x45 v3x46 v3x47 v3x48 v3x49 v3x50 v3x51 v3x52 v3x53 v3x54 v3x55 v3x56 v3x57 v3x58 v3x59 v3x60 v3x61 v3x62 v3x63 v3x64 v3x65 v3x66 v3x67 v3x68 v3x69 v3x70 v3x71 v3x72 v3x73 v3x74 v3x75 v3x76 v3x77 v3x78 v3x79 v3x80 v3x81 v3x82 v3x83 v3x84 v3x85 v3x86 v3x87 v3x88 v3x89 v3x90 v3x91 u wr HI
        have H := Lib.hid HI
        clear HI
        refine hK3 _ _ ?_
        clear hK3 K3
        repeat ((fail_if_success (with_reducible refine wp_seq_k (x := Code.seq _ _) (fun K0 hK0 => ?_))); go_step)
        with_reducible refine wp_seq_k (x := Code.seq _ _) (fun K4 hK4 => ?_)
        have HK4 : ∀ (v4x4 v4x5 v4x6 v4x7 v4x8 v4x9 v4x10 v4x11 v4x12 v4x13 v4x14 v4x15 v4x16 v4x17 v4x18 v4x19 v4x20 v4x21 v4x22 v4x23 v4x24 v4x25 v4x26 v4x27 v4x28 v4x29 v4x30 v4x31 v4x32 v4x33 v4x34 v4x35 v4x36 v4x37 v4x38 v4x39 v4x40 v4x41 v4x42 v4x43 v4x44 v4x45 v4x46 v4x47 v4x48 v4x49 v4x50 v4x51 v4x52 v4x53 v4x54 v4x55 v4x56 v4x57 v4x58 v4x59 v4x60 v4x61 v4x62 v4x63 v4x64 v4x65 v4x66 v4x67 v4x68 v4x69 v4x70 v4x71 v4x72 v4x73 v4x74 v4x75 v4x76 v4x77 v4x78 v4x79 v4x80 v4x81 v4x82 v4x83 v4x84 v4x85 v4x86 v4x87 v4x88 v4x89 v4x90 v4x91 : Value) (u : Value) (wr : World), HasI 62 (nodeC x) w wr u (kindL x.p.kind ++ atL x.p) → K4 { tmps := #[.agg (nodeC x), .pointer (some ⟨w.heap.size, 0, none⟩), .string ⟨#[]⟩, u, v4x4, v4x5, v4x6, v4x7, v4x8, v4x9, v4x10, v4x11, v4x12, v4x13, v4x14, v4x15, v4x16, v4x17, v4x18, v4x19, v4x20, v4x21, v4x22, v4x23, v4x24, v4x25, v4x26, v4x27, v4x28, v4x29, v4x30, v4x31, v4x32, v4x33, v4x34, v4x35, v4x36, v4x37, v4x38, v4x39, v4x40, v4x41, v4x42, v4x43, v4x44, v4x45, v4x46, v4x47, v4x48, v4x49, v4x50, v4x51, v4x52, v4x53, v4x54, v4x55, v4x56, v4x57, v4x58, v4x59, v4x60, v4x61, v4x62, v4x63, v4x64, v4x65, v4x66, v4x67, v4x68, v4x69, v4x70, v4x71, v4x72, v4x73, v4x74, v4x75, v4x76, v4x77, v4x78, v4x79, v4x80, v4x81, v4x82, v4x83, v4x84, v4x85, v4x86, v4x87, v4x88, v4x89, v4x90, v4x91], defers := [] } wr := by
          intro v4x4 v4x5 v4x6 v4x7 v4x8 v4x9 v4x10 v4x11 v4x12 v4x13 v4x14 v4x15 v4x16 v4x17 v4x18 v4x19 v4x20 v4x21 v4x22 v4x23 v4x24 v4x25 v4x26 v4x27 v4x28 v4x29 v4x30 v4x31 v4x32 v4x33 v4x34 v4x35 v4x36 v4x37 v4x38 v4x39 v4x40 v4x41 v4x42 v4x43 v4x44 v4x45 v4x46 v4x47 v4x48 v4x49 v4x50 v4x51 v4x52 v4x53 v4x54 v4x55 v4x56 v4x57 v4x58 v4x59 v4x60 v4x61 v4x62 v4x63 v4x64 v4x65 v4x66 v4x67 v4x68 v4x69 v4x70 v4x71 v4x72 v4x73 v4x74 v4x75 v4x76 v4x77 v4x78 v4x79 v4x80 v4x81 v4x82 v4x83 v4x84 v4x85 v4x86 v4x87 v4x88 v4x89 v4x90 v4x91 u wr HI
          have H := Lib.hid HI
          clear HI
          refine hK4 _ _ ?_
          clear hK4 K4
          repeat ((fail_if_success (with_reducible refine wp_seq_k (x := Code.seq _ _) (fun K0 hK0 => ?_))); go_step)
          with_reducible refine wp_seq_k (x := Code.seq _ _) (fun K5 hK5 => ?_)
          have HK5 : ∀ (v5x4 v5x5 v5x6 v5x7 v5x8 v5x9 v5x10 v5x11 v5x12 v5x13 v5x14 v5x15 v5x16 v5x17 v5x18 v5x19 v5x20 v5x21 v5x22 v5x23 v5x24 v5x25 v5x26 v5x27 v5x28 v5x29 v5x30 v5x31 v5x32 v5x33 v5x34 v5x35 v5x36 v5x37 v5x38 v5x39 v5x40 v5x41 v5x42 v5x43 v5x44 v5x45 v5x46 v5x47 v5x48 v5x49 v5x50 v5x51 v5x52 v5x53 v5x54 v5x55 v5x56 v5x57 v5x58 v5x59 v5x60 v5x61 v5x62 v5x63 v5x64 v5x65 v5x66 v5x67 v5x68 v5x69 v5x70 v5x71 v5x72 v5x73 v5x74 v5x75 v5x76 v5x77 v5x78 v5x79 v5x80 v5x81 v5x82 v5x83 v5x84 v5x85 v5x86 v5x87 v5x88 v5x89 v5x90 v5x91 : Value) (u : Value) (wr : World), HasI 62 (nodeC x) w wr u (kindL x.p.kind ++ atL x.p ++ szL x.p) → K5 { tmps := #[.agg (nodeC x), .pointer (some ⟨w.heap.size, 0, none⟩), .string ⟨#[]⟩, u, v5x4, v5x5, v5x6, v5x7, v5x8, v5x9, v5x10, v5x11, v5x12, v5x13, v5x14, v5x15, v5x16, v5x17, v5x18, v5x19, v5x20, v5x21, v5x22, v5x23, v5x24, v5x25, v5x26, v5x27, v5x28, v5x29, v5x30, v5x31, v5x32, v5x33, v5x34, v5x35, v5x36, v5x37, v5x38, v5x39, v5x40, v5x41, v5x42, v5x43, v5x44, v5x45, v5x46, v5x47, v5x48, v5x49, v5x50, v5x51, v5x52, v5x53, v5x54, v5x55, v5x56, v5x57, v5x58, v5x59, v5x60, v5x61, v5x62, v5x63, v5x64, v5x65, v5x66, v5x67, v5x68, v5x69, v5x70, v5x71, v5x72, v5x73, v5x74, v5x75, v5x76, v5x77, v5x78, v5x79, v5x80, v5x81, v5x82, v5x83, v5x84, v5x85, v5x86, v5x87, v5x88, v5x89, v5x90, v5x91], defers := [] } wr := by
            intro v5x4 v5x5 v5x6 v5x7 v5x8 v5x9 v5x10 v5x11 v5x12 v5x13 v5x14 v5x15 v5x16 v5x17 v5x18 v5x19 v5x20 v5x21 v5x22 v5x23 v5x24 v5x25 v5x26 v5x27 v5x28 v5x29 v5x30 v5x31 v5x32 v5x33 v5x34 v5x35 v5x36 v5x37 v5x38 v5x39 v5x40 v5x41 v5x42 v5x43 v5x44 v5x45 v5x46 v5x47 v5x48 v5x49 v5x50 v5x51 v5x52 v5x53 v5x54 v5x55 v5x56 v5x57 v5x58 v5x59 v5x60 v5x61 v5x62 v5x63 v5x64 v5x65 v5x66 v5x67 v5x68 v5x69 v5x70 v5x71 v5x72 v5x73 v5x74 v5x75 v5x76 v5x77 v5x78 v5x79 v5x80 v5x81 v5x82 v5x83 v5x84 v5x85 v5x86 v5x87 v5x88 v5x89 v5x90 v5x91 u wr HI
            have H := Lib.hid HI
            clear HI
            refine hK5 _ _ ?_
            clear hK5 K5
            have c5 : wr.cell? ⟨w.heap.size, 11, none⟩ = some (.slice x.A1 x.n1 x.c1) := H.out.has.at_ 11
            go_wp2
            go_loopw [3, 50] (fun a i wr => ∃ j : Nat, ∃ u : Value, j ≤ x.n1 ∧ i = .int .i64 j ∧ a = u ∧ Hid (HasI 62 (nodeC x) w wr u ((kindL x.p.kind ++ atL x.p ++ szL x.p) ++ (psL x.p).take j))) (fun _ i _ => x.n1 - (intOf i).toNat)
            case atStart => exact ⟨0, _, by omega, rfl, rfl, Lib.hid (by rw [List.take_zero, List.append_nil]; exact H.out)⟩
            case round =>
              clear c5 H
              obtain ⟨j, u, hj, rfl, rfl, HI⟩ := hrel
              obtain ⟨A, n, c, rfl⟩ := HI.out.sl
              by_cases hlt : j < x.n1
              · have hlti : (j : Int) < x.n1 := by omega
                have HJ := Lib.hid hlt
                obtain ⟨b, off, hA, hbl, hx1, mr⟩ := (HFX.out _ HI.out.below).ps.range hlt
                have HST := Lib.hid (ps_next x.p (kindL x.p.kind ++ atL x.p ++ szL x.p) j hx1)
                have HFI := Lib.hid (HK.out.2.2.2.2.1 _ (List.getElem_mem hx1)).1
                have HLE := Lib.hid (show (((kindL x.p.kind ++ atL x.p ++ szL x.p) ++ (psL x.p).take j)).length ≤ 4000000 from take_len (psL_len HBN.out) j)
                obtain ⟨p, hp⟩ : ∃ p, p = x.p.ps[j] := ⟨_, rfl⟩
                rw [← hp] at mr HST HFI
                have MR := Lib.hid mr
                obtain ⟨lq, hlq⟩ : ∃ lq, lq = (kindL x.p.kind ++ atL x.p ++ szL x.p) ++ (psL x.p).take j := ⟨_, rfl⟩
                rw [← hlq] at HI HST HLE
                have HNP := Lib.hid (fun V => digits_any p.i HFI.out V)
                have s1 := itoaB_size HFI.out
                have z1 : (⟨#[112, 105, 101, 99, 101, 58]⟩ : ByteArray).size = 6 := rfl
                have a1 := fun W => run_string_add_sum (P := Tryd.prog) W ⟨#[112, 105, 101, 99, 101, 58]⟩ (itoaB p.i) (by omega)
                obtain ⟨g1, e1⟩ : ∃ g1, g1 = (⟨#[112, 105, 101, 99, 101, 58]⟩ : ByteArray) ++ itoaB p.i := ⟨_, rfl⟩
                rw [← e1] at a1
                have HG1 := Lib.hid (show g1 = pieceB p from e1)
                have HW := Lib.hid (HI.out.low ((Below.refl _ _).alloc (Nat.le_refl _) (.cells (pieceC p) 83)))
                have c0 : (wr.alloc (.cells (pieceC p) 83)).cell? ⟨wr.heap.size, 0, none⟩ = some (.int .i64 p.i) := (Has.fresh wr 83 (pieceC p)).at_ 0
                clear hj hlt hbl hx1 mr hp s1 z1 e1 hlq
                rw [hA]
                go_wp2_with (first | ((with_reducible refine Who.wpList_loadC 83 (.tmp 52) rfl b (off + j * 4) (pieceC p) ?_); refine And.intro ⟨by rfl, by rfl, ⟨_, Tryd.underlying83, rfl⟩, info_piece⟩ (And.intro (MR.out) ?_); (try simp only [Act.put, List.setIfInBounds_toArray, List.set_cons_zero, List.set_cons_succ])) | ((with_reducible refine Who.wpList_newC 83 5 (.tmp 53) rfl rfl rfl (pieceC zeroP) (pieceC p) ?_); refine And.intro ⟨rfl, rfl, rfl, alloc_piece, by rfl, by rfl, info_piece, rfl, piece_one _⟩ ?_; (try simp only [Act.put, List.setIfInBounds_toArray, List.set_cons_zero, List.set_cons_succ]); (try simp only [World.size_alloc])) | fail)
                refine (HNP.out _).mono ?_
                rintro e w1 ⟨rfl, hb⟩
                have HW1 := Lib.hid (HW.out.low hb)
                clear hb c0
                go_wp2_with (at_builtin; (with_reducible refine wpl_text (B := w.heap.size + 1) (u := .slice A n c) (l := lq) (.tmp 54) (.tmp 59) rfl rfl ?_); refine And.intro ⟨⟨by rfl, ⟨_, by rfl, by simp⟩⟩, HW1.out.row, HW1.out.big, HLE.out⟩ ?_)
                intro u2 w2 hg
                have HW2 := Lib.hid (HW1.out.grew hg)
                clear hg
                have HW3 := Lib.hid (show HasI 62 (nodeC x) w w2 u2 ((kindL x.p.kind ++ atL x.p ++ szL x.p) ++ (psL x.p).take (j + 1)) by rw [HST.out, ← HG1.out]; exact HW2.out)
                go_wp2
                go_roundw
                case rel => exact ⟨j + 1, _, HJ.out, by go_num, rfl, HW3⟩
                case measure => have := HJ.out; simp [intOf]; omega
              · obtain rfl : j = x.n1 := by omega
                have HE := Lib.hid (show HasI 62 (nodeC x) w wr (.slice A n c) (kindL x.p.kind ++ atL x.p ++ szL x.p ++ psL x.p) by have e := ps_all x.p (kindL x.p.kind ++ atL x.p ++ szL x.p); rw [← HN1.out] at e; rw [← e]; exact HI.out)
                have c6 : wr.cell? ⟨w.heap.size, 12, none⟩ = some (.slice x.A2 x.n2 x.c2) := HE.out.has.at_ 12
                clear HI hj hlt
                go_wp2
                go_loopw [3, 65] (fun a i wr => ∃ j : Nat, ∃ u : Value, j ≤ x.n2 ∧ i = .int .i64 j ∧ a = u ∧ Hid (HasI 62 (nodeC x) w wr u ((kindL x.p.kind ++ atL x.p ++ szL x.p ++ psL x.p) ++ (xsL x.p).take j))) (fun _ i _ => x.n2 - (intOf i).toNat)
                case atStart => exact ⟨0, _, by omega, rfl, rfl, Lib.hid (by rw [List.take_zero, List.append_nil]; exact HE.out)⟩
                case round =>
                  clear c6 HE
                  obtain ⟨j, u, hj, rfl, rfl, HI⟩ := hrel
                  obtain ⟨A, n, c, rfl⟩ := HI.out.sl
                  by_cases hlt : j < x.n2
                  · have hlti : (j : Int) < x.n2 := by omega
                    have HJ := Lib.hid hlt
                    obtain ⟨b, off, hA, hbl, hx1, mr⟩ := (HFX.out _ HI.out.below).xs.range hlt
                    have HST := Lib.hid (xs_next x.p (kindL x.p.kind ++ atL x.p ++ szL x.p ++ psL x.p) j hx1)
                    have s1 := HBN.out.2.2 _ (List.getElem_mem hx1)
                    have HLE := Lib.hid (show (((kindL x.p.kind ++ atL x.p ++ szL x.p ++ psL x.p) ++ (xsL x.p).take j)).length ≤ 4000000 from take_len (xsL_len HBN.out) j)
                    obtain ⟨p, hp⟩ : ∃ p, p = x.p.xs[j] := ⟨_, rfl⟩
                    rw [← hp] at mr HST s1
                    have MR := Lib.hid mr
                    obtain ⟨lq, hlq⟩ : ∃ lq, lq = (kindL x.p.kind ++ atL x.p ++ szL x.p ++ psL x.p) ++ (xsL x.p).take j := ⟨_, rfl⟩
                    rw [← hlq] at HI HST HLE
                    have z1 : (⟨#[115, 101, 116, 58]⟩ : ByteArray).size = 4 := rfl
                    have z2 : (⟨#[100, 101, 108, 58]⟩ : ByteArray).size = 4 := rfl
                    have a1 := fun W => run_string_add_sum (P := Tryd.prog) W ⟨#[115, 101, 116, 58]⟩ p.name (by omega)
                    have a2 := fun W => run_string_add_sum (P := Tryd.prog) W ⟨#[100, 101, 108, 58]⟩ p.name (by omega)
                    obtain ⟨g1, e1⟩ : ∃ g1, g1 = (⟨#[115, 101, 116, 58]⟩ : ByteArray) ++ p.name := ⟨_, rfl⟩
                    obtain ⟨g2, e2⟩ : ∃ g2, g2 = (⟨#[100, 101, 108, 58]⟩ : ByteArray) ++ p.name := ⟨_, rfl⟩
                    rw [← e1] at a1
                    rw [← e2] at a2
                    have HG1 := Lib.hid (show xattrB p = if p.gone then g2 else g1 by rw [e1, e2]; rfl)
                    have HW := Lib.hid (HI.out.low ((Below.refl _ _).alloc (Nat.le_refl _) (.cells (xattrC p) 85)))
                    have c0 : (wr.alloc (.cells (xattrC p) 85)).cell? ⟨wr.heap.size, 0, none⟩ = some (.string p.name) := (Has.fresh wr 85 (xattrC p)).at_ 0
                    have c4 : (wr.alloc (.cells (xattrC p) 85)).cell? ⟨wr.heap.size, 4, none⟩ = some (.bool p.gone) := (Has.fresh wr 85 (xattrC p)).at_ 4
                    have HCP := Lib.hid (show xattrC p = xattrC p from rfl)
                    clear hj hlt hbl hx1 mr hp s1 z1 z2 e1 e2 hlq
                    rw [hA]
                    cases hgo : p.gone with
                    | true =>
                      rw [hgo] at c4
                      have HG := Lib.hid (show xattrB p = g2 by rw [HG1.out, hgo]; rfl)
                      clear hgo HG1
                      go_wp2_with (first | ((with_reducible refine Who.wpList_loadC 85 (.tmp 67) rfl b (off + j * 5) (xattrC p) ?_); refine And.intro ⟨by rfl, by rfl, ⟨_, Tryd.underlying85, rfl⟩, info_xattr⟩ (And.intro (MR.out) ?_); (try simp only [Act.put, List.setIfInBounds_toArray, List.set_cons_zero, List.set_cons_succ])) | ((with_reducible refine Who.wpList_newC 85 7 (.tmp 68) rfl rfl rfl (xattrC zeroX) (xattrC p) ?_); refine And.intro ⟨rfl, rfl, rfl, alloc_xattr, by rfl, by rfl, info_xattr, rfl, xattr_one _⟩ ?_; (try simp only [Act.put, List.setIfInBounds_toArray, List.set_cons_zero, List.set_cons_succ]); (try simp only [World.size_alloc])) | (at_builtin; (with_reducible refine wpl_text (B := w.heap.size + 1) (u := .slice A n c) (l := lq) (.tmp 71) (.tmp 75) rfl rfl ?_); refine And.intro ⟨⟨by rfl, ⟨_, by rfl, by simp⟩⟩, HW.out.row, HW.out.big, HLE.out⟩ ?_))
                      intro u2 w2 hg
                      have HW2 := Lib.hid (HW.out.grew hg)
                      clear hg c0 c4
                      have HW3 := Lib.hid (show HasI 62 (nodeC x) w w2 u2 ((kindL x.p.kind ++ atL x.p ++ szL x.p ++ psL x.p) ++ (xsL x.p).take (j + 1)) by rw [HST.out, HG.out]; exact HW2.out)
                      go_wp2
                      go_roundw
                      case rel => exact ⟨j + 1, _, HJ.out, by go_num, rfl, HW3⟩
                      case measure => have := HJ.out; simp [intOf]; omega
                    | false =>
                      rw [hgo] at c4
                      have HG := Lib.hid (show xattrB p = g1 by rw [HG1.out, hgo]; rfl)
                      clear hgo HG1
                      go_wp2_with (first | ((with_reducible refine Who.wpList_loadC 85 (.tmp 67) rfl b (off + j * 5) (xattrC p) ?_); refine And.intro ⟨by rfl, by rfl, ⟨_, Tryd.underlying85, rfl⟩, info_xattr⟩ (And.intro (MR.out) ?_); (try simp only [Act.put, List.setIfInBounds_toArray, List.set_cons_zero, List.set_cons_succ])) | ((with_reducible refine Who.wpList_newC 85 7 (.tmp 68) rfl rfl rfl (xattrC zeroX) (xattrC p) ?_); refine And.intro ⟨rfl, rfl, rfl, alloc_xattr, by rfl, by rfl, info_xattr, rfl, xattr_one _⟩ ?_; (try simp only [Act.put, List.setIfInBounds_toArray, List.set_cons_zero, List.set_cons_succ]); (try simp only [World.size_alloc])) | (at_builtin; (with_reducible refine wpl_text (B := w.heap.size + 1) (u := .slice A n c) (l := lq) (.tmp 77) (.tmp 81) rfl rfl ?_); refine And.intro ⟨⟨by rfl, ⟨_, by rfl, by simp⟩⟩, HW.out.row, HW.out.big, HLE.out⟩ ?_))
                      intro u2 w2 hg
                      have HW2 := Lib.hid (HW.out.grew hg)
                      clear hg c0 c4
                      have HW3 := Lib.hid (show HasI 62 (nodeC x) w w2 u2 ((kindL x.p.kind ++ atL x.p ++ szL x.p ++ psL x.p) ++ (xsL x.p).take (j + 1)) by rw [HST.out, HG.out]; exact HW2.out)
                      go_wp2
                      go_roundw
                      case rel => exact ⟨j + 1, _, HJ.out, by go_num, rfl, HW3⟩
                      case measure => have := HJ.out; simp [intOf]; omega
                  · obtain rfl : j = x.n2 := by omega
                    have HE := Lib.hid (show HasI 62 (nodeC x) w wr (.slice A n c) (partsN x.p) by have e := xs_all x.p (kindL x.p.kind ++ atL x.p ++ szL x.p ++ psL x.p); rw [← HN2.out] at e; show HasI _ _ _ _ _ (kindL x.p.kind ++ atL x.p ++ szL x.p ++ psL x.p ++ xsL x.p); rw [← e]; exact HI.out)
                    clear HI hj hlt
                    go_wp2_with (first | ((with_reducible refine Who.wpList_loadC 23 (.tmp 84) rfl w.heap.size 0 (#[.int .i64 x.p.id.1, .int .i64 x.p.id.2]) ?_); refine And.intro ⟨by rfl, by rfl, ⟨_, Tryd.underlying23, rfl⟩, info_st⟩ (And.intro (nid_range HE.out.has) ?_); (try simp only [Act.put, List.setIfInBounds_toArray, List.set_cons_zero, List.set_cons_succ])) | fail)
                    refine (HSI.out _).mono ?_
                    rintro e wq ⟨rfl, hb⟩
                    have HQ := Lib.hid (HE.out.low hb)
                    clear hb
                    go_wp2_with fail
                    refine (rjoin_any _ _ (partsN x.p) HSM.out _ HQ.out.row).mono ?_
                    rintro e wr2 ⟨rfl, hb⟩
                    have HBZ := Lib.hid (HQ.out.below.trans (hb.mono HQ.out.below.size))
                    clear hb
                    go_wp2
                    go_ret
                    exact ⟨by rw [← HJ3.out]; rfl, HBZ.out⟩
          have HH5 := Lib.hid HK5
          clear HK5 hK5
          have cn : wr.cell? ⟨w.heap.size, 10, none⟩ = some (.int .i64 x.p.n) := H.out.has.at_ 10
          cases zs with
          | true =>
            have HE := Lib.hid HS.out
            rw [if_pos rfl] at HE
            go_wp2_with (first | ((with_reducible refine Who.wpList_loadC 23 (.tmp 35) rfl w.heap.size 8 (#[.int .i64 x.p.sat.1, .int .i64 x.p.sat.2]) ?_); refine And.intro ⟨by rfl, by rfl, ⟨_, Tryd.underlying23, rfl⟩, info_st⟩ (And.intro (sat_range H.out.has) ?_); (try simp only [Act.put, List.setIfInBounds_toArray, List.set_cons_zero, List.set_cons_succ])) | fail)
            exact HH5.out _ _ _ _ _ _ _ _ _ _ _ _ _ _ _ _ _ _ _ _ _ _ _ _ _ _ _ _ _ _ _ _ _ _ _ _ _ _ _ _ _ _ _ _ _ _ _ _ _ _ _ _ _ _ _ _ _ _ _ _ _ _ _ _ _ _ _ _ _ _ _ _ _ _ _ _ _ _ _ _ _ _ _ _ _ _ _ _ u _ (by rw [HE.out, List.append_nil]; exact H.out)
          | false =>
            have HE := Lib.hid HS.out
            rw [if_neg (by decide)] at HE
            obtain ⟨A, n, c, rfl⟩ := H.out.sl
            go_wp2_with (first | ((with_reducible refine Who.wpList_loadC 23 (.tmp 35) rfl w.heap.size 8 (#[.int .i64 x.p.sat.1, .int .i64 x.p.sat.2]) ?_); refine And.intro ⟨by rfl, by rfl, ⟨_, Tryd.underlying23, rfl⟩, info_st⟩ (And.intro (sat_range H.out.has) ?_); (try simp only [Act.put, List.setIfInBounds_toArray, List.set_cons_zero, List.set_cons_succ])) | fail)
            refine (HNS.out _).mono ?_
            rintro e w1 ⟨rfl, hb⟩
            have HW1 := Lib.hid (H.out.low hb)
            clear hb cn
            have HLE := Lib.hid (show (kindL x.p.kind ++ atL x.p).length ≤ 4000000 from l2_len x.p)
            go_wp2_with (at_builtin; (with_reducible refine wpl_text (B := w.heap.size + 1) (u := .slice A n c) (l := kindL x.p.kind ++ atL x.p) (.tmp 39) (.tmp 45) rfl rfl ?_); refine And.intro ⟨⟨by rfl, ⟨_, by rfl, by simp⟩⟩, HW1.out.row, HW1.out.big, HLE.out⟩ ?_)
            intro u2 w2 hg
            have HW2 := Lib.hid (HW1.out.grew hg)
            clear hg
            go_wp2
            exact HH5.out _ _ _ _ _ _ _ _ _ _ _ _ _ _ _ _ _ _ _ _ _ _ _ _ _ _ _ _ _ _ _ _ _ _ _ _ _ _ _ _ _ _ _ _ _ _ _ _ _ _ _ _ _ _ _ _ _ _ _ _ _ _ _ _ _ _ _ _ _ _ _ _ _ _ _ _ _ _ _ _ _ _ _ _ _ _ _ _ u2 w2 (by rw [HE.out]; exact HW2.out)
        have HH4 := Lib.hid HK4
        clear HK4 hK4
        cases za with
        | true =>
          have HE := Lib.hid HA.out
          rw [if_pos rfl] at HE
          go_wp2_with (first | ((with_reducible refine Who.wpList_loadC 23 (.tmp 27) rfl w.heap.size 4 (#[.int .i64 x.p.aat.1, .int .i64 x.p.aat.2]) ?_); refine And.intro ⟨by rfl, by rfl, ⟨_, Tryd.underlying23, rfl⟩, info_st⟩ (And.intro (aat_range H.out.has) ?_); (try simp only [Act.put, List.setIfInBounds_toArray, List.set_cons_zero, List.set_cons_succ])) | fail)
          exact HH4.out _ _ _ _ _ _ _ _ _ _ _ _ _ _ _ _ _ _ _ _ _ _ _ _ _ _ _ _ _ _ _ _ _ _ _ _ _ _ _ _ _ _ _ _ _ _ _ _ _ _ _ _ _ _ _ _ _ _ _ _ _ _ _ _ _ _ _ _ _ _ _ _ _ _ _ _ _ _ _ _ _ _ _ _ _ _ _ _ u _ (by rw [HE.out, List.append_nil]; exact H.out)
        | false =>
          have HE := Lib.hid HA.out
          rw [if_neg (by decide)] at HE
          obtain ⟨A, n, c, rfl⟩ := H.out.sl
          have HLE := Lib.hid (show (kindL x.p.kind).length ≤ 4000000 from l1_len x.p)
          go_wp2_with (first | ((with_reducible refine Who.wpList_loadC 23 (.tmp 27) rfl w.heap.size 4 (#[.int .i64 x.p.aat.1, .int .i64 x.p.aat.2]) ?_); refine And.intro ⟨by rfl, by rfl, ⟨_, Tryd.underlying23, rfl⟩, info_st⟩ (And.intro (aat_range H.out.has) ?_); (try simp only [Act.put, List.setIfInBounds_toArray, List.set_cons_zero, List.set_cons_succ])) | (at_builtin; (with_reducible refine wpl_text (B := w.heap.size + 1) (u := .slice A n c) (l := kindL x.p.kind) (.tmp 31) (.tmp 32) rfl rfl ?_); refine And.intro ⟨⟨by rfl, ⟨_, by rfl, by simp⟩⟩, H.out.row, H.out.big, HLE.out⟩ ?_))
          intro u2 w2 hg
          have HW2 := Lib.hid (H.out.grew hg)
          clear hg
          go_wp2
          exact HH4.out _ _ _ _ _ _ _ _ _ _ _ _ _ _ _ _ _ _ _ _ _ _ _ _ _ _ _ _ _ _ _ _ _ _ _ _ _ _ _ _ _ _ _ _ _ _ _ _ _ _ _ _ _ _ _ _ _ _ _ _ _ _ _ _ _ _ _ _ _ _ _ _ _ _ _ _ _ _ _ _ _ _ _ _ _ _ _ _ u2 w2 (by rw [HE.out]; exact HW2.out)
      have HH3 := Lib.hid HK3
      clear HK3 hK3
      have ck : wr.cell? ⟨w.heap.size, 2, none⟩ = some (.int .i64 x.p.kind) := H.out.has.at_ 2
      by_cases kq : x.p.kind = 3
      · have HE := Lib.hid (show kindL x.p.kind = kindB x.p.kind ++ [⟨#[115, 121, 109]⟩] by rw [kq]; rfl)
        rw [kq] at ck
        clear kq
        obtain ⟨A, n, c, rfl⟩ := H.out.sl
        have HLE := Lib.hid (show (kindB x.p.kind).length ≤ 4000000 from kB_len x.p.kind)
        go_wp2_with (at_builtin; (with_reducible refine wpl_text (B := w.heap.size + 1) (u := .slice A n c) (l := kindB x.p.kind) (.tmp 23) (.tmp 24) rfl rfl ?_); refine And.intro ⟨⟨by rfl, ⟨_, by rfl, by simp⟩⟩, H.out.row, H.out.big, HLE.out⟩ ?_)
        intro u2 w2 hg
        have HW2 := Lib.hid (H.out.grew hg)
        clear hg
        go_wp2
        exact HH3.out _ _ _ _ _ _ _ _ _ _ _ _ _ _ _ _ _ _ _ _ _ _ _ _ _ _ _ _ _ _ _ _ _ _ _ _ _ _ _ _ _ _ _ _ _ _ _ _ _ _ _ _ _ _ _ _ _ _ _ _ _ _ _ _ _ _ _ _ _ _ _ _ _ _ _ _ _ _ _ _ _ _ _ _ _ _ _ _ u2 w2 (by rw [HE.out]; exact HW2.out)
      · have HE := Lib.hid (show kindL x.p.kind = kindB x.p.kind from kL_no kq)
        have bq : (x.p.kind == 3) = false := beq_eq_false_iff_ne.2 kq
        clear kq
        go_wp2
        exact HH3.out _ _ _ _ _ _ _ _ _ _ _ _ _ _ _ _ _ _ _ _ _ _ _ _ _ _ _ _ _ _ _ _ _ _ _ _ _ _ _ _ _ _ _ _ _ _ _ _ _ _ _ _ _ _ _ _ _ _ _ _ _ _ _ _ _ _ _ _ _ _ _ _ _ _ _ _ _ _ _ _ _ _ _ _ _ _ _ _ u _ (by rw [HE.out]; exact H.out)
    have HH2 := Lib.hid HK2
    clear HK2 hK2
    have ck : wr.cell? ⟨w.heap.size, 2, none⟩ = some (.int .i64 x.p.kind) := H.out.has.at_ 2
    by_cases kq : x.p.kind = 2
    · have HE := Lib.hid (show kindB x.p.kind = kindA x.p.kind ++ [⟨#[100, 105, 114]⟩] by rw [kq]; rfl)
      rw [kq] at ck
      clear kq
      obtain ⟨A, n, c, rfl⟩ := H.out.sl
      have HLE := Lib.hid (show (kindA x.p.kind).length ≤ 4000000 from kA_len x.p.kind)
      go_wp2_with (at_builtin; (with_reducible refine wpl_text (B := w.heap.size + 1) (u := .slice A n c) (l := kindA x.p.kind) (.tmp 17) (.tmp 18) rfl rfl ?_); refine And.intro ⟨⟨by rfl, ⟨_, by rfl, by simp⟩⟩, H.out.row, H.out.big, HLE.out⟩ ?_)
      intro u2 w2 hg
      have HW2 := Lib.hid (H.out.grew hg)
      clear hg
      go_wp2
      exact HH2.out _ _ _ _ _ _ _ _ _ _ _ _ _ _ _ _ _ _ _ _ _ _ _ _ _ _ _ _ _ _ _ _ _ _ _ _ _ _ _ _ _ _ _ _ _ _ _ _ _ _ _ _ _ _ _ _ _ _ _ _ _ _ _ _ _ _ _ _ _ _ _ _ _ _ _ _ _ _ _ _ _ _ _ _ _ _ _ _ u2 w2 (by rw [HE.out]; exact HW2.out)
    · have HE := Lib.hid (show kindB x.p.kind = kindA x.p.kind from kB_no kq)
      have bq : (x.p.kind == 2) = false := beq_eq_false_iff_ne.2 kq
      clear kq
      go_wp2
      exact HH2.out _ _ _ _ _ _ _ _ _ _ _ _ _ _ _ _ _ _ _ _ _ _ _ _ _ _ _ _ _ _ _ _ _ _ _ _ _ _ _ _ _ _ _ _ _ _ _ _ _ _ _ _ _ _ _ _ _ _ _ _ _ _ _ _ _ _ _ _ _ _ _ _ _ _ _ _ _ _ _ _ _ _ _ _ _ _ _ _ u _ (by rw [HE.out]; exact H.out)
  have HH1 := Lib.hid HK1
  clear HK1 hK1
  have ck : (w.alloc (.cells (nodeC x) 62)).cell? ⟨w.heap.size, 2, none⟩ = some (.int .i64 x.p.kind) := H0.out.has.at_ 2
  by_cases kq : x.p.kind = 1
  · have HE := Lib.hid (show kindA x.p.kind = [] ++ [⟨#[102, 105, 108, 101]⟩] by rw [kq]; rfl)
    rw [kq] at ck
    clear kq
    go_wp2_with (at_builtin; (with_reducible refine wpl_text (B := w.heap.size + 1) (u := .slice none 0 0) (l := []) (.tmp 11) (.tmp 12) rfl rfl ?_); refine And.intro ⟨⟨by rfl, ⟨_, by rfl, by simp⟩⟩, H0.out.row, H0.out.big, Nat.zero_le _⟩ ?_)
    intro u2 w2 hg
    have HW2 := Lib.hid (H0.out.grew hg)
    clear hg
    go_wp2
    exact HH1.out _ _ _ _ _ _ _ _ _ _ _ _ _ _ _ _ _ _ _ _ _ _ _ _ _ _ _ _ _ _ _ _ _ _ _ _ _ _ _ _ _ _ _ _ _ _ _ _ _ _ _ _ _ _ _ _ _ _ _ _ _ _ _ _ _ _ _ _ _ _ _ _ _ _ _ _ _ _ _ _ _ _ _ _ _ _ _ _ u2 w2 (by rw [HE.out]; exact HW2.out)
  · have HE := Lib.hid (show kindA x.p.kind = [] from kA_no kq)
    have bq : (x.p.kind == 1) = false := beq_eq_false_iff_ne.2 kq
    clear kq
    go_wp2
    exact HH1.out _ _ _ _ _ _ _ _ _ _ _ _ _ _ _ _ _ _ _ _ _ _ _ _ _ _ _ _ _ _ _ _ _ _ _ _ _ _ _ _ _ _ _ _ _ _ _ _ _ _ _ _ _ _ _ _ _ _ _ _ _ _ _ _ _ _ _ _ _ _ _ _ _ _ _ _ _ _ _ _ _ _ _ _ _ _ _ _ _ _ (by rw [HE.out]; exact H0.out)
end Go.Proofs.YtdbmnnmcelaehaaDoor.Sr
