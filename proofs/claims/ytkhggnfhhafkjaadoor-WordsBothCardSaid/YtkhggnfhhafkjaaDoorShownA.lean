/- The constants that the laws' one shown line is made of. -/
import Derived.Test.YtkhggnfhhafkjaaDoorSame
import Derived.Test.YtkhggnfhhafkjaaDoorList
import Derived.Test.YtkhggnfhhafkjaaDoorRIntW
namespace Go.Proofs
namespace YtkhggnfhhafkjaaDoor
open Go.RowKit
def shF : List Fld := [([103, 101, 116], false), ([47], false), ([97, 32, 98], true)]
theorem sh23 (w : World) (hE : EscLaid w) : Calls Tryd.prog 23 #[.string ⟨#[103, 101, 116, 32, 47, 32, 34, 97, 32, 98, 34]⟩] w fun e w' => ∃ v, e = .returned (.tuple #[v, .int .i64 0]) ∧ FAt w' v shF ∧ Below w.heap.size w w' := by
  have h := split23 ⟨#[103, 101, 116, 32, 47, 32, 34, 97, 32, 98, 34]⟩ w hE
  have e : splitF (ByteArray.mk #[103, 101, 116, 32, 47, 32, 34, 97, 32, 98, 34]).data.toList = (shF, 0) := by decide +kernel
  rw [e] at h
  exact h
theorem sh13 (w : World) (hL : Laid w) : Calls Tryd.prog 13 #[.string ⟨#[45, 49, 50]⟩, .int .i64 (-20), .int .i64 20] w fun e w' => e = .returned (.tuple #[.int .i64 (-12), .int .i64 0]) ∧ Below w.heap.size w w' := by
  have h := int13 ⟨#[45, 49, 50]⟩ (-20) 20 w hL (by decide)
  have e : intF (ByteArray.mk #[45, 49, 50]).data.toList (-20) 20 = (-12, 0) := by decide +kernel
  rw [e] at h
  exact h
theorem sh30 (n : Nat) (w : World) (hL : Laid w) (hn : n < w.heap.size) (hI : IntsAt w n 0 [1, 2, 3, 5, 8, 9]) : Calls Tryd.prog 30 #[.slice (some ⟨n, 0, none⟩) 6 6] w fun e w' => e = .returned (.tuple #[.string ⟨#[49, 45, 51, 44, 53, 44, 56, 45, 57]⟩, .int .i64 0]) ∧ Below w.heap.size w w' := by
  have h := list30 n 0 6 [1, 2, 3, 5, 8, 9] (by decide) (by decide) w hI (fun _ => hn) hL
  have e : listF [1, 2, 3, 5, 8, 9] = ([49, 45, 51, 44, 53, 44, 56, 45, 57], 0) := by decide +kernel
  rw [e] at h
  exact h
theorem sh19 (w : World) (hE : EscLaid w) : Calls Tryd.prog 19 #[.string ⟨#[34, 97, 92, 110, 92, 120, 48, 48, 92, 34, 34]⟩] w fun e w' => e = .returned (.tuple #[.string ⟨#[97, 10, 0, 34]⟩, .int .i64 0]) ∧ Below w.heap.size w w' := by
  have h := unq19 ⟨#[34, 97, 92, 110, 92, 120, 48, 48, 92, 34, 34]⟩ w hE (by decide)
  have e : unqL (ByteArray.mk #[34, 97, 92, 110, 92, 120, 48, 48, 92, 34, 34]).data.toList = some [97, 10, 0, 34] := by decide +kernel
  rw [e] at h
  exact h
theorem sh15 (w : World) : Calls Tryd.prog 15 #[.string ⟨#[119, 101, 98, 45, 49]⟩] w fun e w' => e = .returned (.bool true) ∧ w = w' := by
  have h := name15 ⟨#[119, 101, 98, 45, 49]⟩ w (by decide)
  have e : nameL (ByteArray.mk #[119, 101, 98, 45, 49]).data.toList = true := by decide +kernel
  rw [e] at h
  exact h
end YtkhggnfhhafkjaaDoor
end Go.Proofs
