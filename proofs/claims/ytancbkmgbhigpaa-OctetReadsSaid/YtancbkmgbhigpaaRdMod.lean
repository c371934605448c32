/- What a row of askings comes to: the model that the program's eye and the document's are held against. -/
import Derived.Test.YtancbkmgbhigpaaRdEye2
namespace Go.Proofs.Ytancbkmgbhigpaa.Vc
open Go.RowKit Go.Proofs.Ytancbkmgbhigpaa.Oct

/-- What one asking of an eye that is being looked by comes to. -/
inductive Ask where
  | num (v : Int) (r : ByteArray)
  | txt (t : ByteArray) (r : ByteArray)
  | still (r : ByteArray)
  | bad (r : ByteArray) (y : Int)
def Ask.of : Got → Ask
  | .num v r => .num v r
  | .txt t r => .txt t r
  | .bad r y => .bad r y
/-- The kind of an asking, as the code tells it. -/
def kind (op : Int) : Int := bits .and .i64 op 7
def ask (r : ByteArray) (op m : Int) : Ask :=
  if kind op == 0 then .of (gotNum r m) else if kind op == 1 then .of (gotText r m) else if kind op == 2 then .of (gotRaw r m)
  else if kind op == 3 then .num (r.size : Nat) r else if kind op == 4 then .bad r m else .still r
structure St where
  nums : List Int
  txts : List ByteArray
  rest : ByteArray
  why : Option Int
def adv (s : St) (k : Int × Int) : St :=
  match s.why with
  | some _ => s
  | none =>
    match ask s.rest k.1 k.2 with
    | .num v r => ⟨s.nums ++ [v], s.txts, r, none⟩
    | .txt t r => ⟨s.nums, s.txts ++ [t], r, none⟩
    | .still r => ⟨s.nums, s.txts, r, none⟩
    | .bad r y => ⟨s.nums, s.txts, r, some y⟩
/-- What all askings come to, one behind the other. -/
def asked (r : ByteArray) (xs : List (Int × Int)) : St := xs.foldl adv ⟨[], [], r, none⟩
theorem asked_snoc (r : ByteArray) (xs : List (Int × Int)) (j : Nat) (h : j < xs.length) : asked r (xs.take (j + 1)) = adv (asked r (xs.take j)) xs[j] := by
  unfold asked
  rw [List.take_succ_eq_append_getElem h, List.foldl_append]
  rfl
theorem adv_ended {s : St} {y : Int} (h : s.why = some y) (k : Int × Int) : adv s k = s := by
  unfold adv
  rw [h]
theorem fold_ended {s : St} {y : Int} (h : s.why = some y) : ∀ xs : List (Int × Int), xs.foldl adv s = s
  | [] => rfl
  | k :: xs => by
    rw [List.foldl_cons, adv_ended h k]
    exact fold_ended h xs
/-- Where looking has ended on the way, the rest tells no more. -/
theorem asked_ended {r : ByteArray} {xs : List (Int × Int)} {j : Nat} {y : Int} (h : (asked r (xs.take j)).why = some y) : asked r xs = asked r (xs.take j) := by
  have e : asked r xs = (xs.drop j).foldl adv (asked r (xs.take j)) := by
    unfold asked
    rw [← List.foldl_append, List.take_append_drop]
  rw [e]
  exact fold_ended h _
theorem adv_len (s : St) (k : Int × Int) : (adv s k).nums.length + (adv s k).txts.length ≤ s.nums.length + s.txts.length + 1 := by
  unfold adv
  split
  · omega
  · split <;> simp <;> omega
theorem asked_len (r : ByteArray) (xs : List (Int × Int)) : ∀ j, j ≤ xs.length → (asked r (xs.take j)).nums.length + (asked r (xs.take j)).txts.length ≤ j
  | 0, _ => by simp [asked]
  | j + 1, h => by
    have ih := asked_len r xs j (by omega)
    rw [asked_snoc r xs j h]
    have := adv_len (asked r (xs.take j)) xs[j]
    omega
end Go.Proofs.Ytancbkmgbhigpaa.Vc
