/- A store on a device that nothing befalls: what Format and Commit come to. -/
import Derived.Test.YtidkckapjelbmaaStV
namespace Go.Proofs.Ytidkckapjelbmaa.Sto
open Go.RowKit

/-- A device that is on, and whose power does not end. -/
structure Calm (d : Dv.St) : Prop where
  on : d.on = true
  fuse : d.fuse = -1
theorem act_calm {d : Dv.St} (h : Calm d) : Dv.act d = d ∧ Dv.actE d = 0 := by
  unfold Dv.act Dv.actE
  rw [h.fuse]
  exact ⟨by rw [if_neg (by decide), if_neg (by decide)], if_neg (by decide)⟩
theorem wr_calm {d : Dv.St} (h : Calm d) {i : Int} {s : ByteArray} (h0 : 0 ≤ i) (h1 : i < d.size) (hs : s.size ≤ 4096) : Dv.wrE d i s = 0 ∧ Dv.wrD d i s = Dv.putD d i s := by
  have hi : Dv.inside d i = true := by
    unfold Dv.inside
    simp [h0, h1]
  have e := act_calm h
  unfold Dv.wrE Dv.wrD Dv.writeD
  rw [if_neg (by rw [h.on]; decide), if_neg (by rw [hi]; intro k; rcases k with k | k; cases k; omega), if_pos ⟨h.on, hi, hs⟩, if_neg (by rw [h.fuse]; decide), e.1]
  exact ⟨e.2, rfl⟩
theorem Calm.put {d : Dv.St} (h : Calm d) (i : Int) (s : ByteArray) : Calm (Dv.putD d i s) := ⟨h.on, h.fuse⟩
def calmFl (d : Dv.St) : Dv.St := { d with kept := fun z => (d.dirty z).or (d.kept z), dirty := fun _ => none }
theorem fl_calm {d : Dv.St} (h : Calm d) : Dv.flE d = 0 ∧ Dv.flD d = calmFl d := by
  have e := act_calm h
  unfold Dv.flE Dv.flD Dv.flushD
  rw [if_pos h.on, if_pos h.on, if_neg (by rw [h.fuse]; decide), e.1]
  exact ⟨e.2, rfl⟩
theorem Calm.fl {d : Dv.St} (h : Calm d) : Calm (calmFl d) := ⟨h.on, h.fuse⟩
theorem rd_calm {d : Dv.St} (h : Calm d) {i : Int} (h0 : 0 ≤ i) (h1 : i < d.size) : Dv.rdE d i = 0 ∧ Dv.rdS d i = Dv.readS d i := by
  have hi : Dv.inside d i = true := by
    unfold Dv.inside
    simp [h0, h1]
  unfold Dv.rdE Dv.rdS
  rw [if_neg (by rw [h.on]; decide), if_neg (by rw [hi]; decide), if_pos ⟨h.on, hi⟩]
  exact ⟨rfl, rfl⟩
theorem beginB_size (g ro size : Int) (t : ByteArray) : (beginB g ro size t).size = t.size + 25 := by
  unfold beginB
  rw [CrcW.sealB_size, arr_size]
  unfold beginL
  simp only [List.length_append, numB_len, textL_len, List.length_cons, List.length_nil]
  omega
theorem lay_calm {d : Dv.St} (h : Calm d) (hs : 2 ≤ d.size) (g ro : Int) (t : ByteArray) (ht : t.size ≤ 3900) : layE d g ro t = 0 ∧ layD d g ro t = Dv.putD (calmFl d) (g % 2) (beginB g ro d.size t) := by
  obtain ⟨e1, e2⟩ := fl_calm h
  have e3 := wr_calm h.fl (i := g % 2) (s := beginB g ro d.size t) (by omega) (by show g % 2 < d.size; omega) (by rw [beginB_size]; omega)
  unfold layE layD
  rw [if_pos e1, if_pos e1, e2]
  exact e3
/-- What a new store's device holds. -/
def fmtZ (note : ByteArray) (d : Dv.St) : Dv.St := calmFl (Dv.putD (calmFl (Dv.putD (Dv.putD d 0 ⟨#[]⟩) 1 ⟨#[]⟩)) 1 (beginB 1 0 d.size note))
theorem fmt_calm {d : Dv.St} (h : Calm d) (hs : 2 ≤ d.size) (note : ByteArray) (hn : note.size ≤ 3900) : fmtV note d = (true, 0, fmtZ note d) := by
  obtain ⟨e1, e2⟩ := wr_calm h (i := 0) (s := ⟨#[]⟩) (by omega) (by omega) (by decide)
  obtain ⟨e3, e4⟩ := wr_calm (h.put 0 ⟨#[]⟩) (i := 1) (s := ⟨#[]⟩) (by omega) (by show (1 : Int) < d.size; omega) (by decide)
  obtain ⟨e5, e6⟩ := lay_calm ((h.put 0 ⟨#[]⟩).put 1 ⟨#[]⟩) hs 1 0 note hn
  obtain ⟨e7, e8⟩ := fl_calm (((h.put 0 ⟨#[]⟩).put 1 ⟨#[]⟩).fl.put 1 (beginB 1 0 d.size note))
  have ew : wipe [0, 1] d = (0, Dv.putD (Dv.putD d 0 ⟨#[]⟩) 1 ⟨#[]⟩) := by
    unfold wipe
    rw [if_pos e1, e2]
    unfold wipe
    rw [if_pos e3, e4]
    rfl
  unfold fmtV fmtWiped
  rw [ew, if_pos rfl]
  unfold fmtLaid
  rw [if_pos e5, e6]
  show (true, Dv.flE (Dv.putD (calmFl (Dv.putD (Dv.putD d 0 ⟨#[]⟩) 1 ⟨#[]⟩)) 1 (beginB 1 0 d.size note)), Dv.flD (Dv.putD (calmFl (Dv.putD (Dv.putD d 0 ⟨#[]⟩) 1 ⟨#[]⟩)) 1 (beginB 1 0 d.size note))) = _
  rw [e7, e8]
  rfl
theorem commit_calm {s : SV} (h : Calm s.dev) (hs : 2 ≤ s.dev.size) (ro : Int) (t : ByteArray) (ht : t.size ≤ 3900) :
    commitV s ro t = ⟨s.gen + 1, ro, t, s.nodes, keptOf s ro, calmFl (Dv.putD (calmFl s.dev) ((s.gen + 1) % 2) (beginB (s.gen + 1) ro s.dev.size t))⟩ ∧ commitE s ro t = 0 := by
  obtain ⟨e1, e2⟩ := lay_calm h hs (s.gen + 1) ro t ht
  obtain ⟨e3, e4⟩ := fl_calm (h.fl.put ((s.gen + 1) % 2) (beginB (s.gen + 1) ro s.dev.size t))
  have e5 : commitE s ro t = 0 := by
    unfold commitE
    rw [if_pos e1, e2]
    exact e3
  have e6 : commitD s ro t = calmFl (Dv.putD (calmFl s.dev) ((s.gen + 1) % 2) (beginB (s.gen + 1) ro s.dev.size t)) := by
    unfold commitD
    rw [if_pos e1, e2]
    exact e4
  refine ⟨?_, e5⟩
  unfold commitV
  rw [if_pos e5, e6]
end Go.Proofs.Ytidkckapjelbmaa.Sto
