/- What befalls a device: all that is asked of one that was made. -/
import Derived.Test.YthejlenafjnmkaaGreatDevD
namespace Go.Proofs.YthejlenafjnmkaaGreat.Dv
open Go.RowKit
open Mem
open Rws

def wrD (d : St) (i : Int) (s : ByteArray) : St := if d.on = true ∧ inside d i = true ∧ s.size ≤ 4096 then writeD d i s else d
def wrE (d : St) (i : Int) (s : ByteArray) : Int := if d.on = false then 5 else if inside d i = false ∨ 4096 < s.size then 22 else actE d
theorem write_all (p bk bd : Nat) (d : St) (i : Int) (s : ByteArray) (w : World) (h : DevIs w p bk bd d) :
    Calls Tryz.prog 24 #[.pointer (some ⟨p, 0, none⟩), .int .i64 i, .string s] w fun e w' => e = .returned (.int .i64 (wrE d i s)) ∧ DevIs w' p bk bd (wrD d i s) ∧ Chg (Own p bk bd) w w' := by
  cases ho : d.on with
  | false =>
    have e1 : wrD d i s = d := if_neg (fun k => by rw [ho] at k; cases k.1)
    have e2 : wrE d i s = 5 := if_pos ho
    rw [e1, e2]
    exact (write_off p bk bd d i s w h ho).mono fun e w' k => ⟨k.1, k.2 ▸ h, k.2 ▸ Chg.refl _ _⟩
  | true =>
    by_cases hb : inside d i = false ∨ 4096 < s.size
    · have e1 : wrD d i s = d := if_neg (fun k => by rcases hb with hb | hb; · rw [hb] at k; cases k.2.1
                                                     · omega)
      have e2 : wrE d i s = 22 := by unfold wrE; rw [if_neg (by rw [ho]; decide), if_pos hb]
      rw [e1, e2]
      exact (write_bad p bk bd d i s w h ho hb).mono fun e w' k => ⟨k.1, k.2 ▸ h, k.2 ▸ Chg.refl _ _⟩
    · have hi : inside d i = true := by
        cases hq : inside d i with
        | true => rfl
        | false => exact absurd (.inl hq) hb
      have hs : s.size ≤ 4096 := by
        rcases Nat.lt_or_ge 4096 s.size with k | k
        · exact absurd (.inr k) hb
        · exact k
      have e1 : wrD d i s = writeD d i s := if_pos ⟨ho, hi, hs⟩
      have e2 : wrE d i s = actE d := by unfold wrE; rw [if_neg (by rw [ho]; decide), if_neg hb]
      rw [e1, e2]
      exact (write_good p bk bd d i s w h ho hi hs).mono fun e w' k => ⟨k.1, k.2.1, k.2.2.1⟩
def flD (d : St) : St := if d.on = true then flushD d else d
def flE (d : St) : Int := if d.on = true then actE d else 5
theorem flush_all (p bk bd : Nat) (d : St) (w : World) (h : DevIs w p bk bd d) :
    Calls Tryz.prog 36 #[.pointer (some ⟨p, 0, none⟩)] w fun e w' => e = .returned (.int .i64 (flE d)) ∧ DevIs w' p bk bd (flD d) ∧ Chg (Own p bk bd) w w' := by
  cases ho : d.on with
  | false =>
    have e1 : flD d = d := if_neg (by rw [ho]; decide)
    have e2 : flE d = 5 := if_neg (by rw [ho]; decide)
    rw [e1, e2]
    exact (flush_off p bk bd d w h ho).mono fun e w' k => ⟨k.1, k.2 ▸ h, k.2 ▸ Chg.refl _ _⟩
  | true =>
    have e1 : flD d = flushD d := if_pos ho
    have e2 : flE d = actE d := if_pos ho
    rw [e1, e2]
    exact flush_on p bk bd d w h ho
def rdS (d : St) (i : Int) : ByteArray := if d.on = true ∧ inside d i = true then readS d i else ⟨#[]⟩
def rdE (d : St) (i : Int) : Int := if d.on = false then 5 else if inside d i = false then 22 else 0
theorem read_all (p bk bd : Nat) (d : St) (i : Int) (w : World) (h : DevIs w p bk bd d) :
    Calls Tryz.prog 83 #[.pointer (some ⟨p, 0, none⟩), .int .i64 i] w fun e w' => e = .returned (.tuple #[.string (rdS d i), .int .i64 (rdE d i)]) ∧ Below w.heap.size w w' := by
  cases ho : d.on with
  | false =>
    have e1 : rdS d i = ⟨#[]⟩ := if_neg (fun k => by rw [ho] at k; cases k.1)
    have e2 : rdE d i = 5 := if_pos ho
    rw [e1, e2]
    exact (read_off p bk bd d i w h ho).mono fun e w' k => ⟨k.1, k.2 ▸ Below.refl _ _⟩
  | true =>
    cases hi : inside d i with
    | false =>
      have e1 : rdS d i = ⟨#[]⟩ := if_neg (fun k => by rw [hi] at k; cases k.2)
      have e2 : rdE d i = 22 := by unfold rdE; rw [if_neg (by rw [ho]; decide), if_pos hi]
      rw [e1, e2]
      exact (read_bad p bk bd d i w h ho hi).mono fun e w' k => ⟨k.1, k.2 ▸ Below.refl _ _⟩
    | true =>
      have e1 : rdS d i = readS d i := if_pos ⟨ho, hi⟩
      have e2 : rdE d i = 0 := by unfold rdE; rw [if_neg (by rw [ho]; decide), if_neg (by rw [hi]; decide)]
      rw [e1, e2]
      exact read_good p bk bd d i w h ho hi
def fuD (d : St) (n : Int) : St := if d.on = true then fuseSt d n else d
def fuE (d : St) : Int := if d.on = true then 0 else 5
theorem fuse_all (p bk bd : Nat) (d : St) (n : Int) (hn : n ≤ 9223372036854775807) (w : World) (h : DevIs w p bk bd d) :
    Calls Tryz.prog 56 #[.pointer (some ⟨p, 0, none⟩), .int .i64 n] w fun e w' => e = .returned (.int .i64 (fuE d)) ∧ DevIs w' p bk bd (fuD d n) ∧ Chg (Own p bk bd) w w' := by
  cases ho : d.on with
  | false =>
    have e1 : fuD d n = d := if_neg (by rw [ho]; decide)
    have e2 : fuE d = 5 := if_neg (by rw [ho]; decide)
    rw [e1, e2]
    exact (fuse_off p bk bd d n w h ho).mono fun e w' k => ⟨k.1, k.2 ▸ h, k.2 ▸ Chg.refl _ _⟩
  | true =>
    have e1 : fuD d n = fuseSt d n := if_pos ho
    have e2 : fuE d = 0 := if_pos ho
    rw [e1, e2]
    exact (fuse_on p bk bd d n hn w h ho).mono fun e w' k => ⟨k.1, k.2.1, k.2.2.1.mono fun k hk => .inl hk⟩
/-- Something that befalls a device: which thing, a number, a text, numbers. -/
structure DoV where
  op : Int
  i : Int
  s : ByteArray
  ks : List Int
def opOf (k : DoV) : Int := bits .and .i64 k.op 7
def doD (d : St) (k : DoV) : St :=
  if opOf k = 0 ∨ opOf k = 1 ∨ opOf k = 2 then wrD d k.i k.s else if opOf k = 3 then flD d else if opOf k = 4 then d else if opOf k = 5 then fuD d k.i else if opOf k = 6 then crashD d k.ks else startD d
def doS (d : St) (k : DoV) : ByteArray := if opOf k = 4 then rdS d k.i else ⟨#[]⟩
def doE (d : St) (k : DoV) : Int :=
  if opOf k = 0 ∨ opOf k = 1 ∨ opOf k = 2 then wrE d k.i k.s else if opOf k = 3 then flE d else if opOf k = 4 then rdE d k.i else if opOf k = 5 then fuE d else 0
end Go.Proofs.YthejlenafjnmkaaGreat.Dv
