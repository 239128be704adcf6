/- Reading a quoted form: the plain function, and takeQuoted and Unquote. -/
import Derived.Test.YtkhggnfhhafkjaaDoorByte
import Derived.Lib.BufferRead
import Derived.Laws.IdiomStrings
import Derived.Laws.OwnMore
import Derived.Maps.AppendAt
namespace Go.Proofs
namespace YtkhggnfhhafkjaaDoor
open Go.RowKit

theorem hexV_le (c : Int) : hexV c ≤ 15 := (hexV_range c).2
theorem takeByteL_bound {l : List UInt8} {c : Int} {n : Nat} (h : takeByteL l = some (c, n)) (hl : 0 < l.length) : (0 ≤ c ∧ c < 256) ∧ 1 ≤ n ∧ n ≤ l.length := by
  unfold takeByteL at h
  split at h
  · simp only [Option.some.injEq, Prod.mk.injEq] at h
    obtain ⟨rfl, rfl⟩ := h
    exact ⟨g_range l 0, by omega, by omega⟩
  · split at h
    · cases h
    · rename_i hn
      split at h
      · simp only [Option.some.injEq, Prod.mk.injEq] at h
        obtain ⟨rfl, rfl⟩ := h
        refine ⟨?_, by omega, by omega⟩
        unfold meantZ
        repeat' split
        all_goals omega
      · unfold takeHexL at h
        split at h
        · rename_i h4
          simp only [Option.some.injEq, Prod.mk.injEq] at h
          obtain ⟨rfl, rfl⟩ := h
          have := hexV_le (g l 2)
          have := hexV_le (g l 3)
          exact ⟨by omega, by omega, h4.1⟩
        · cases h

/-- the rest of a quoted form, behind the first quote: the bytes, and how many were read, the closing quote too -/
def tq : Nat → List UInt8 → Option (List UInt8 × Nat)
  | 0, _ => none
  | _ + 1, [] => none
  | f + 1, c :: r => if c = 34 then some ([], 1) else
    match takeByteL (c :: r) with
    | none => none
    | some (b, n) => (tq f ((c :: r).drop n)).map fun p => (UInt8.ofNat b.toNat :: p.1, n + p.2)
theorem tq_fuel : ∀ (f : Nat) (l : List UInt8), l.length ≤ f → tq f l = tq l.length l
  | 0, [], _ => rfl
  | _ + 1, [], _ => rfl
  | f + 1, c :: r, h => by
    show tq (f + 1) (c :: r) = tq (r.length + 1) (c :: r)
    simp only [tq]
    split
    · rfl
    · cases ht : takeByteL (c :: r) with
      | none => rfl
      | some p =>
        obtain ⟨b, n⟩ := p
        have hb := (takeByteL_bound ht (by simp)).2
        have hd : ((c :: r).drop n).length ≤ r.length := by simp; omega
        simp only
        rw [tq_fuel f _ (by simp at h; omega), tq_fuel r.length _ hd]
def tqL (l : List UInt8) : Option (List UInt8 × Nat) := tq l.length l
theorem tqL_nil : tqL [] = none := rfl
theorem tqL_quote (r : List UInt8) : tqL (34 :: r) = some ([], 1) := by simp [tqL, tq]
theorem tqL_none {c : UInt8} {r : List UInt8} (hc : c ≠ 34) (h : takeByteL (c :: r) = none) : tqL (c :: r) = none := by simp [tqL, tq, hc, h]
theorem tqL_some {c : UInt8} {r : List UInt8} {b : Int} {n : Nat} (hc : c ≠ 34) (h : takeByteL (c :: r) = some (b, n)) :
    tqL (c :: r) = (tqL ((c :: r).drop n)).map fun p => (UInt8.ofNat b.toNat :: p.1, n + p.2) := by
  have hb := (takeByteL_bound h (by simp)).2
  simp only [tqL, List.length_cons, tq, hc, if_false, h]
  rw [tq_fuel r.length _ (by simp; omega)]
/-- a quoted form at the beginning: the string, and how many bytes it has -/
def takeQL (l : List UInt8) : Option (List UInt8 × Nat) :=
  match l with
  | 34 :: r => (tqL r).map fun p => (p.1, 1 + p.2)
  | _ => none

def bc (l : List UInt8) : List Value := l.map fun c => Value.int .u8 (c.toNat : Int)
theorem bc_snoc (l : List UInt8) (c : UInt8) : bc (l ++ [c]) = bc l ++ [.int .u8 (c.toNat : Int)] := by simp [bc]
theorem bc_append (l m : List UInt8) : bc (l ++ m) = bc l ++ bc m := by simp [bc]
theorem bc_length (l : List UInt8) : (bc l).length = l.length := by simp [bc]

theorem info5 : (Tryd.prog.info? 5).map (fun i => (i.zero, i.size, i.bytes)) = some (some (.int .u8 0), 1, 1) := by kernel_rfl

theorem string_of_row {W : World} {base : Nat} {v : Value} {l : List UInt8} (h : W.ownsRow base 5 1 v l.length (bc l)) : (convert 38 9 v).run Tryd.prog W = .ok (.string ⟨l.toArray⟩) W := by
  rcases h.2 with ⟨rfl, h0⟩ | ⟨gg, cap, cur, rfl, _, _, _, _, _, _⟩
  · have : l = [] := List.eq_nil_of_length_eq_zero h0
    subst this
    exact Lib.run_convert_nil_bytes W 38 9 5 0 Tryd.underlying38 Tryd.underlying5 Tryd.underlying9
  · refine run_convert_bytes_back W 38 9 5 ⟨gg, 0, none⟩ cap l Tryd.underlying38 Tryd.underlying5 Tryd.underlying9 (fun j hj => ?_)
    refine h.cells (g := gg) rfl j _ ?_
    simp [bc, hj]

def triS : Option (List UInt8 × Nat) → Value
  | some (t, n) => .tuple #[.string ⟨t.toArray⟩, .int .i64 n, .bool true]
  | none => .tuple #[.string ⟨#[]⟩, .int .i64 0, .bool false]
end YtkhggnfhhafkjaaDoor
end Go.Proofs
