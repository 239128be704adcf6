/- Set, Copy and Clear: plays of one operation. -/
import Derived.Test.YtmgoonahpndfoaaArQ
namespace Go.Proofs
namespace Ytmgoonahpndfoaa
open Go.RowKit

/-- what a change answers, said in memory -/
def CAns (w : World) (R : List Int × Int) (e : Ending) (w' : World) : Prop := ∃ v, e = .returned (.tuple #[v, .int .i64 R.2]) ∧ w'.ownsRow w.heap.size 42 1 v R.1.length (wc R.1) ∧ Below w.heap.size w w'
theorem own_mono {W : World} {B C e size n : Nat} {v : Value} {xs : List Value} (h : W.ownsRow C e size v n xs) (hBC : B ≤ C) : W.ownsRow B e size v n xs := by
  refine ⟨h.1, ?_⟩
  rcases h.2 with h | ⟨g, cap, cur, h1, h2, h3⟩
  · exact .inl h
  · exact .inr ⟨g, cap, cur, h1, by omega, h3⟩
set_option maxRecDepth 100000 in
set_option maxHeartbeats 1000000 in
theorem after77 (v : Value) (ws : List Int) (o : AOp) (w : World) (hv : WAt w v ws) (hm : ws.length ≤ 9223372036854775807) :
    Calls Try.prog 77 #[v, opV o] w fun e w' => CAns w (afterF ws o) e w' := by
  obtain ⟨kd, a, b, n, val⟩ := o
  unfold opV opC
  dsimp only
  have b1 := alloc_below w (.cells #[.int .i64 kd, .int .i64 a, .int .i64 b, .int .i64 n, .int .u64 val] 67)
  have b2 := alloc_below (w.alloc (.cells #[.int .i64 kd, .int .i64 a, .int .i64 b, .int .i64 n, .int .u64 val] 67)) (.cells #[.int .i64 kd, .int .i64 a, .int .i64 b, .int .i64 n, .int .u64 val] 67)
  have n2 := heap_alloc_new (w.alloc (.cells #[.int .i64 kd, .int .i64 a, .int .i64 b, .int .i64 n, .int .u64 val] 67)) (.cells #[.int .i64 kd, .int .i64 a, .int .i64 b, .int .i64 n, .int .u64 val] 67)
  have bb := below_end b1 b2
  have hO : OAt ((w.alloc (.cells #[.int .i64 kd, .int .i64 a, .int .i64 b, .int .i64 n, .int .u64 val] 67)).alloc (.cells #[.int .i64 kd, .int .i64 a, .int .i64 b, .int .i64 n, .int .u64 val] 67)) (.slice (some ⟨w.heap.size + 1, 0, none⟩) 1 1) [⟨kd, a, b, n, val⟩] := by
    refine ⟨_, 1, rfl, fun _ => ⟨w.heap.size + 1, 0, rfl, fun j u hu => ?_⟩⟩
    simp only [World.size_alloc] at n2
    rw [cell_of_row _ _ _ _ _ _ n2, Nat.zero_add]
    simpa [oc, opC] using hu
  have P := Lib.hid (play42 v _ ws _ _ (hv.below bb) hO hm (by simp))
  have BB := Lib.hid bb
  clear b1 b2 n2 bb hO
  unfold afterF
  obtain ⟨A, cap, rfl, -⟩ := hv
  go_enter Try.func77, Try.ntmps77
  go_wp2_with (go_at_call 42; refine P.out.mono ?_; rintro e w1 ⟨v1, v2, rfl, ho1, ho2, hb1⟩)
  have hB := below_end BB.out hb1
  refine bodyPost_ret (v := .tuple #[v1, .int .i64 (playF ws [⟨kd, a, b, n, val⟩]).e]) (by simp [results, Try.f77, go_sem]) rfl ⟨v1, rfl, own_mono (ho1.alloc _) BB.out.size, hB.alloc hB.size _⟩

theorem set68 (v : Value) (ws : List Int) (a z : Int) (w : World) (hv : WAt w v ws) (hm : ws.length ≤ 9223372036854775807) :
    Calls Try.prog 68 #[v, .int .i64 a, .int .u64 z] w fun e w' => CAns w (afterF ws ⟨2, a, 0, 0, z⟩) e w' := by
  have A := Lib.hid (after77 v ws ⟨2, a, 0, 0, z⟩ w hv hm)
  generalize afterF ws ⟨2, a, 0, 0, z⟩ = R at *
  obtain ⟨r, c⟩ := R
  unfold opV opC at A
  dsimp only at A
  go_enter Try.func68, Try.ntmps68
  go_wp2_with (go_at_call 77; refine A.out.mono ?_; rintro e w1 ⟨v1, rfl, ho1, hb1⟩)
  exact bodyPost_ret (v := .tuple #[v1, .int .i64 c]) (by simp [results, Try.f68, go_sem]) rfl ⟨v1, rfl, ho1, hb1⟩
end Ytmgoonahpndfoaa
end Go.Proofs
