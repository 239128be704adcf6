/- Laws on append to a slice of bytes that the call has made: some bytes that lie in a new row, and the bytes of a string. -/
import Derived.Test.YtkhggnfhhafkjaaDoorTake
import Derived.Lib.AppendStr
namespace Go.Proofs
namespace YtkhggnfhhafkjaaDoor
open Go.RowKit

/-- v is a slice of the call's own that holds the bytes l -/
def Row (B : Nat) (W : World) (v : Value) (l : List UInt8) : Prop := W.ownsRow B 5 1 v l.length (bc l)
theorem Row.nil (B : Nat) (W : World) : Row B W (.slice none 0 0) [] := World.ownsRow_nil _ _ _ _
theorem Row.below {B : Nat} {W W' : World} {v : Value} {l : List UInt8} (h : Row B W v l) (hb : Below W.heap.size W W') : Row B W' v l := own_below h hb

theorem push_new {ops : Array Oper} {rest : List Oper} {o : Oper} {a : Act} {Q : Exit → Act → World → Prop} {W W0 w : World} {B : Nat} {v : Value} {l : List UInt8} (hown : Row B W v l) (hB : Below B w W) (t : List UInt8) (hgd : o.guard = none) (s x : Operand)
    (ho : o.op = .call { callee := .builtin .append, args := #[s, x], argTypes := #[38, 38] }) (hs : a.eval s = v) (hx : a.eval x = .slice (some ⟨W.heap.size, 0, none⟩) t.length t.length)
    (hW : W0 = W.alloc (.cells (bc t).toArray 5)) (hBs : B ≤ w.heap.size) (hl : l.length + t.length ≤ 100000000000000)
    (h : ∀ v' W', Row B W' v' (l ++ t) → Below B w W' → wpList Tryd.prog ops Q rest (a.put o.dst v') W') : wpList Tryd.prog ops Q (o :: rest) a W0 := by
  subst hW
  obtain ⟨i0, hi, hz0, hz1, hz2⟩ := info_parts info5
  have hBW : B ≤ W.heap.size := Nat.le_trans hBs hB.size
  refine wpList_append_own _ hgd s x 38 ho B 5 i0 (.int .u8 0) 1 1 Tryd.underlying38 hi hz0 hz1 hz2 rfl (by decide) v l.length (bc l) hs (hown.alloc _) ⟨W.heap.size, 0, none⟩ t.length t.length (bc t) hx (by rw [bc_length, Nat.mul_one]) ?_ ?_ ?_ ?_ ?_ ?_
  · intro j u hj
    have e : (⟨W.heap.size, 0, none⟩ : Addr).add j = ⟨W.heap.size, j, none⟩ := by unfold Addr.add; split <;> simp_all
    rw [e, cell_of_row _ _ _ _ _ _ (heap_alloc_new W _)]
    simpa using hj
  · intro u hu
    simp only [bc, List.mem_map] at hu
    obtain ⟨c, _, rfl⟩ := hu
    rfl
  · unfold maxLen; omega
  · omega
  · simp; omega
  · intro v' W' h1 h2 _
    refine h v' W' ?_ ?_
    · unfold Row; rw [bc_append, List.length_append]; exact h1
    · exact (hB.alloc hBW _).grown h2 (by simp; omega) (fun k hk => (hown.lt k hk).1)

theorem push_text {ops : Array Oper} {rest : List Oper} {o : Oper} {a : Act} {Q : Exit → Act → World → Prop} {W w : World} {B : Nat} {v : Value} {l : List UInt8} (hown : Row B W v l) (hB : Below B w W) (t : List UInt8) (hgd : o.guard = none) (s x : Operand)
    (ho : o.op = .call { callee := .builtin .append, args := #[s, x], argTypes := #[38, 9] }) (hs : a.eval s = v) (hx : a.eval x = .string ⟨t.toArray⟩)
    (hBs : B ≤ w.heap.size) (hl : l.length + t.length ≤ 100000000000000)
    (h : ∀ v' W', Row B W' v' (l ++ t) → Below B w W' → wpList Tryd.prog ops Q rest (a.put o.dst v') W') : wpList Tryd.prog ops Q (o :: rest) a W := by
  obtain ⟨i0, hi, hz0, hz1, hz2⟩ := info_parts info5
  have hBW : B ≤ W.heap.size := Nat.le_trans hBs hB.size
  have hsz : (⟨t.toArray⟩ : ByteArray).size = t.length := by simp [ByteArray.size]
  refine Lib.wpList_append_own_string W hgd s x 38 9 ho B 5 i0 Tryd.underlying38 Tryd.underlying9 hi hz0 hz1 hz2 v l.length (bc l) hs hown ⟨t.toArray⟩ hx ?_ ?_ hBW ?_
  · rw [hsz]; unfold maxLen; omega
  · rw [hsz]; omega
  · intro v' W' h1 h2 _
    rw [hsz] at h1
    refine h v' W' ?_ ?_
    · unfold Row; rw [bc_append, List.length_append]; exact h1
    · exact hB.grown h2 hBW (fun k hk => (hown.lt k hk).1)
end YtkhggnfhhafkjaaDoor
end Go.Proofs
