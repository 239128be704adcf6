/- The laws' one shown line: shown answers true. -/
import Derived.Test.YtkhggnfhhafkjaaDoorShownA
namespace Go.Proofs
namespace YtkhggnfhhafkjaaDoor
open Go.RowKit

theorem FAt.built {W : World} {n : Nat} {cells : List Value} (fs : List Fld) (cap : Nat) (hc : fc fs = cells) (h : ∀ j u, cells[j]? = some u → W.cell? ⟨n, j, none⟩ = some u) : FAt W (.slice (some ⟨n, 0, none⟩) fs.length cap) fs :=
  ⟨_, cap, rfl, fun _ => ⟨n, 0, rfl, fun j u hu => by rw [Nat.zero_add]; exact h j u (hc ▸ hu)⟩⟩

theorem sh30a (w : World) (hL : Laid w) : Calls Tryd.prog 30 #[.slice (some ⟨w.heap.size, 0, none⟩) 6 6] (w.alloc (.cells #[.int .i64 1, .int .i64 2, .int .i64 3, .int .i64 5, .int .i64 8, .int .i64 9] 3)) fun e w' => e = .returned (.tuple #[.string ⟨#[49, 45, 51, 44, 53, 44, 56, 45, 57]⟩, .int .i64 0]) ∧ Below w.heap.size w w' := by
  have hB := (Below.refl w.heap.size w).alloc (Nat.le_refl _) (.cells #[.int .i64 1, .int .i64 2, .int .i64 3, .int .i64 5, .int .i64 8, .int .i64 9] 3)
  refine (sh30 w.heap.size _ (hL.self hB) (by simp) ?_).mono fun e w' h => ⟨h.1, hB.trans (h.2.mono (by simp))⟩
  intro k z hk
  rw [Nat.zero_add]
  match k, hk with
  | 0, hk | 1, hk | 2, hk | 3, hk | 4, hk | 5, hk => simp at hk; subst hk; simp
  | k + 6, hk => simp at hk

theorem sh25a (v : Value) (w : World) (hF : FAt w v shF) : Calls Tryd.prog 25 #[v, .slice (some ⟨w.heap.size, 0, none⟩) 3 3] (w.alloc (.cells #[.string ⟨#[103, 101, 116]⟩, .bool false, .string ⟨#[47]⟩, .bool false, .string ⟨#[97, 32, 98]⟩, .bool true] 50)) fun e w' => e = .returned (.bool true) ∧ Below w.heap.size w w' := by
  have hB := (Below.refl w.heap.size w).alloc (Nat.le_refl _) (.cells #[.string ⟨#[103, 101, 116]⟩, .bool false, .string ⟨#[47]⟩, .bool false, .string ⟨#[97, 32, 98]⟩, .bool true] 50)
  have h := same25 v (.slice (some ⟨w.heap.size, 0, none⟩) 3 3) shF shF (by decide) _ (hF.below hB) (FAt.built shF 3 (cells := [.string ⟨#[103, 101, 116]⟩, .bool false, .string ⟨#[47]⟩, .bool false, .string ⟨#[97, 32, 98]⟩, .bool true]) rfl (by
    intro j u hu
    match j, hu with
    | 0, hu | 1, hu | 2, hu | 3, hu | 4, hu | 5, hu => simp at hu; subst hu; simp
    | j + 6, hu => simp at hu))
  exact h.mono fun e w' h => ⟨by rw [h.1]; simp, hB.trans (h.2.mono (by simp))⟩

set_option maxRecDepth 100000 in
set_option maxHeartbeats 4000000 in
theorem shown12 (w : World) (hL : Laid w) : Calls Tryd.prog 12 #[] w fun e w' => e = .returned (.bool true) ∧ Below w.heap.size w w' := by
  have HL := Lib.hid hL
  clear hL
  go_enter Tryd.func12, Tryd.ntmps12
  go_wp2_with (first
    | (go_at_call 23; refine (sh23 _ HL.out.esc).mono ?_; rintro e w1 ⟨v, rfl, hF, hB1⟩)
    | (go_at_call 13; refine (sh13 _ (HL.out.self hB1)).mono ?_; rintro e w2 ⟨rfl, hB2⟩)
    | (go_at_call 30; refine (sh30a _ (HL.out.self (hB1.trans (hB2.mono hB1.size)))).mono ?_; rintro e w3 ⟨rfl, hB3⟩; have hC2 := hB1.trans (hB2.mono hB1.size); have hC3 := hC2.trans (hB3.mono hC2.size))
    | (go_at_call 19; refine (sh19 _ (HL.out.self hC3).esc).mono ?_; rintro e w4 ⟨rfl, hB4⟩; have hC4 := hC3.trans (hB4.mono hC3.size); have hG := ((hF.below hB2).below hB3).below hB4)
    | (go_at_call 25; refine (sh25a _ _ hG).mono ?_; rintro e w5 ⟨rfl, hB5⟩; have hC5 := hC4.trans (hB5.mono hC4.size))
    | (go_at_call 15; refine (sh15 _).mono ?_; rintro e w6 ⟨rfl, rfl⟩))
  exact bodyPost_ret (v := .bool true) (by simp [results, Tryd.f12, go_sem]) rfl ⟨rfl, hC5⟩
end YtkhggnfhhafkjaaDoor
end Go.Proofs
