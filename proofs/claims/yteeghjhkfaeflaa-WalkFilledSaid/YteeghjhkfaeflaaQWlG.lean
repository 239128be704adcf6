/- Clone, of words. -/
import Derived.Test.YteeghjhkfaeflaaQWlF
import Derived.Lib.LazyBuf
namespace Go.Proofs
namespace Yteeghjhkfaeflaa
open Go.RowKit

section
attribute [local go_sem ↓] fold_append
theorem info58' : (Try.prog.info? 58).map (fun i => (i.zero, i.size, i.bytes)) = some (some (.int .u64 0), 1, 8) := by kernel_rfl
theorem wc_len1 (xs : List Int) : (wc xs).length = xs.length * 1 := by simp [wc]
theorem wc_one' (xs : List Int) : ∀ u ∈ wc xs, u.oneCell' = true := by
  intro u hu
  simp only [wc, List.mem_map] at hu
  obtain ⟨p, _, rfl⟩ := hu
  rfl
set_option maxRecDepth 100000 in
set_option maxHeartbeats 1000000 in
theorem clone51 (v : Value) (ws : List Int) (w : World) (h : Ar w v ws) (h0 : 0 < ws.length) (hl : ws.length ≤ 1601) :
    Calls Try.prog 51 #[v] w fun e w' => ∃ u, e = .returned u ∧ w'.ownsRow w.heap.size 58 1 u ws.length (wc ws) ∧ Below w.heap.size w w' := by
  have HX := Lib.hid (show XAt w v ws.length (wc ws) from h.at_)
  obtain ⟨A, c, rfl, hA⟩ := h.at_
  obtain ⟨b, off, rfl, hc⟩ := hA h0
  have o0 := World.ownsRow_made (base := w.heap.size) (e := 58) (size := 1) w #[] 0 (Nat.le_refl _) (by unfold maxLen; omega) (by simp)
  have hb0 := alloc_below w (.cells #[] 58)
  obtain ⟨l', W', hr, ho, hg⟩ := app_any Try.underlying22 info58' rfl o0 (HX.out.below hb0) (wc_len1 ws) (wc_one' ws) (by omega) (by decide) (by decide) (by simp)
  have hb := Lib.hid (show Below w.heap.size w W' from hb0.grown hg (by simp) (fun k hk => (o0.lt k hk).1))
  rw [Nat.zero_add, List.nil_append] at ho
  obtain ⟨A2, c2, rfl⟩ := own_form ho
  have HO := Lib.hid ho
  have qe : (binOp .eql 22 (.slice (some ⟨b, off, none⟩) ws.length c) (.slice none 0 0)).run Try.prog w = .ok (.bool false) w := run_eql_slice_nil w 22 58 (some ⟨b, off, none⟩) ws.length c Try.underlying22
  clear h ho hA hc o0 hb0 hg HX h0 hl
  go_enter Try.func51, Try.ntmps51
  go_wp2
  exact bodyPost_ret (v := .slice A2 ws.length c2) (by simp [results, Try.f51, go_sem]) rfl ⟨_, rfl, HO.out, hb.out⟩
end
end Yteeghjhkfaeflaa
end Go.Proofs
