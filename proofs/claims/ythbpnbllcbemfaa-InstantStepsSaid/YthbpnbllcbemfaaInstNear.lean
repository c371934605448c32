/- Of a time that is near, the floor is a whole number within the integers. -/
import Derived.Test.YthbpnbllcbemfaaInstNea2
namespace Go.Proofs.Ythbpnbllcbemfaa.Inst
open Go.RowKit
open Ieee

theorem wh_near (b : Nat) (h : b % 9223372036854775808 ≤ 4845873199050653696) : ∃ n, wh b = some n := by
  obtain ⟨s, m, p, e, hm, hp⟩ := read_low b (by omega)
  have hp6 : p.toNat ≤ 1 := by omega
  have h1 := cut_le .down s (m <<< p.toNat) (-p).toNat
  have h2 := shl_le m p.toNat 1 hp6
  have hfl : fl b = double.nearest s (Toward.down.cut s (m <<< p.toNat) (-p).toNat) 0 := by unfold fl; rw [e]; simp only [Datum.integral, Format.write]
  have h3 := near_int s (Toward.down.cut s (m <<< p.toNat) (-p).toNat) (by omega)
  rw [← hfl] at h3
  obtain ⟨n, hn, hlo, hhi⟩ := int_small (fl b) h3
  refine ⟨n, ?_⟩
  unfold wh floatToIntVal
  have hd : (FloatKind.f64.decode (fl b)).toInt .zero = some n := hn
  rw [hd]
  have hmin : IntKind.i64.min = -9223372036854775808 := rfl
  have hmax : IntKind.i64.max = 9223372036854775807 := rfl
  simp only [hmin, hmax]
  rw [if_pos ⟨hlo, hhi⟩]
end Go.Proofs.Ythbpnbllcbemfaa.Inst
