/- Zero, for every arena and every two numbers. -/
import Derived.Test.YtkffabochgmagaaArZ
namespace Go.Proofs
namespace Ytkffabochgmagaa
open Go.RowKit

theorem w64 (x : Int) : wrap64 x = IntKind.i64.wrap x := by
  simp [wrap64, IntKind.wrap, IntKind.signed, IntKind.bits]
  split <;> omega
set_option maxRecDepth 100000 in
theorem zero24_chk (v : Value) (zs : List Int) (a b : Int) (w : World) (h : WAt w v zs) (hm : zs.length ≤ 9223372036854775807) (hc : chkF zs ≠ 0) :
    Calls Try.prog 24 #[v, .int .i64 a, .int .i64 b] w fun e w' => e = .returned (.tuple #[.bool (zeroF zs a b).1, .int .i64 (zeroF zs a b).2]) ∧ w = w' := by
  have C14 := Lib.hid (check14 v zs w h hm)
  obtain ⟨A, cap, rfl, hA⟩ := h
  have q : (chkF zs != 0) = true := by simpa using hc
  have T := Lib.hid (show zeroF zs a b = (false, chkF zs) by unfold zeroF; rw [if_pos hc])
  clear hc hA
  generalize chkF zs = c at *
  go_enter Try.func24, Try.ntmps24
  go_wp2_with (go_at_call 14; refine C14.out.mono ?_; rintro e w' ⟨rfl, rfl⟩)
  exact bodyPost_ret (v := .tuple #[.bool false, .int .i64 c]) (by simp [results, Try.f24, go_sem]) rfl ⟨by rw [T.out], rfl⟩
set_option maxRecDepth 100000 in
set_option maxHeartbeats 400000 in
theorem zero24_off (v : Value) (zs : List Int) (a b : Int) (w : World) (h : WAt w v zs) (hc : chkF zs = 0) (h1 : -9223372036854775808 ≤ a) (h2 : a ≤ 9223372036854775807) (h3 : -9223372036854775808 ≤ b) (h4 : b ≤ 9223372036854775807) (hp : partB zs.length a (b - a) = false) :
    Calls Try.prog 24 #[v, .int .i64 a, .int .i64 b] w fun e w' => e = .returned (.tuple #[.bool (zeroF zs a b).1, .int .i64 (zeroF zs a b).2]) ∧ w = w' := by
  have hl : 1 ≤ zs.length ∧ zs.length ≤ 1601 := by
    apply Classical.byContradiction
    intro hn
    rw [chk_long (by omega)] at hc
    cases hc
  have T := Lib.hid (show zeroF zs a b = (false, 7) by unfold zeroF; rw [if_neg (by simp [hc]), hp]; rfl)
  have e14 := check14 v zs w h (by omega)
  rw [hc] at e14
  have C14 := Lib.hid e14
  obtain ⟨A, cap, rfl, hA⟩ := h
  have PX := Lib.hid (show ∀ (n : Int) (W : World), n = wrap64 (b - a) → Calls Try.prog 36 #[.slice A zs.length cap, .int .i64 a, .int .i64 n] W fun e w' => e = .returned (.bool false) ∧ W = w' from fun n W hn => by
    have e : n = IntKind.i64.wrap (b - a) := hn.trans (w64 _)
    have := part36 A zs.length cap a n W (by omega)
    rw [e, part_diff hl.2 h1 h2 h3 h4, hp] at this
    rw [e]
    exact this)
  clear e14 hc hA hp
  go_enter Try.func24, Try.ntmps24
  go_wp2_with (first
    | (go_at_call 14; refine C14.out.mono ?_; rintro e w' ⟨rfl, rfl⟩)
    | (go_at_call 36; refine (PX.out _ _ rfl).mono ?_; rintro e w' ⟨rfl, rfl⟩))
  exact bodyPost_ret (v := .tuple #[.bool false, .int .i64 7]) (by simp [results, Try.f24, go_sem]) rfl ⟨by rw [T.out], rfl⟩
set_option maxRecDepth 100000 in
set_option maxHeartbeats 400000 in
/-- the part that begins behind the last word: it has none -/
theorem zero24_end (A : Option Addr) (cap : Nat) (zs : List Int) (w : World) (h : WAt w (.slice A zs.length cap) zs) (hcap : zs.length < cap + 1) (hc : chkF zs = 0) :
    Calls Try.prog 24 #[.slice A zs.length cap, .int .i64 zs.length, .int .i64 zs.length] w fun e w' => e = .returned (.tuple #[.bool (zeroF zs zs.length zs.length).1, .int .i64 (zeroF zs zs.length zs.length).2]) ∧ w = w' := by
  have hl : 1 ≤ zs.length ∧ zs.length ≤ 1601 := by
    apply Classical.byContradiction
    intro hn
    rw [chk_long (by omega)] at hc
    cases hc
  have hp : partB zs.length zs.length ((zs.length : Int) - (zs.length : Int)) = true := partB_spec.2 (by omega)
  have T := Lib.hid (show zeroF zs zs.length zs.length = (true, 0) by
    unfold zeroF
    rw [if_neg (by simp [hc]), if_pos hp]
    have : (zs.take (zs.length : Int).toNat).drop (zs.length : Int).toNat = [] := List.drop_of_length_le (by simp)
    rw [this]
    rfl)
  have e14 := check14 _ zs w h (by omega)
  rw [hc] at e14
  have C14 := Lib.hid e14
  have PX := Lib.hid (show ∀ (n : Int) (W : World), n = 0 → Calls Try.prog 36 #[.slice A zs.length cap, .int .i64 (zs.length : Int), .int .i64 n] W fun e w' => e = .returned (.bool true) ∧ W = w' from fun n W hn => by
    have := part36 A zs.length cap zs.length n W (by omega)
    rw [hn, show partB zs.length zs.length 0 = true from partB_spec.2 (by omega)] at this
    rw [hn]
    exact this)
  obtain ⟨A', cap', e, hA⟩ := h
  simp only [Value.slice.injEq] at e
  obtain ⟨rfl, _, rfl⟩ := e
  obtain ⟨b, off, rfl, hcell⟩ := hA (by omega)
  clear e14 hc hp hA hcell
  generalize zs.length = n at *
  have hn : (0 : Int) ≤ (n : Int) := by omega
  rcases Nat.lt_or_ge n cap with hlt | hge
  · have h8 : (n : Int) < (cap : Int) := by omega
    go_enter Try.func24, Try.ntmps24
    go_wp2_with (first
      | (go_at_call 14; refine C14.out.mono ?_; rintro e w' ⟨rfl, rfl⟩)
      | (go_at_call 36; refine (PX.out _ _ (by first | rfl | simp)).mono ?_; rintro e w' ⟨rfl, rfl⟩))
    go_loopw [28] (fun i wr => i = .int .i64 0 ∧ Hid (w = wr)) (fun _ _ => 0)
    case atStart => exact ⟨rfl, Lib.hid rfl⟩
    case round =>
      obtain ⟨rfl, hw⟩ := hrel
      go_wp2
      exact bodyPost_ret (v := .tuple #[.bool true, .int .i64 0]) (by simp [results, Try.f24, go_sem]) rfl ⟨by rw [T.out], hw.out⟩
  · obtain rfl : n = cap := by omega
    go_enter Try.func24, Try.ntmps24
    go_wp2_with (first
      | (go_at_call 14; refine C14.out.mono ?_; rintro e w' ⟨rfl, rfl⟩)
      | (go_at_call 36; refine (PX.out _ _ (by first | rfl | simp)).mono ?_; rintro e w' ⟨rfl, rfl⟩))
    go_loopw [28] (fun i wr => i = .int .i64 0 ∧ Hid (w = wr)) (fun _ _ => 0)
    case atStart => exact ⟨rfl, Lib.hid rfl⟩
    case round =>
      obtain ⟨rfl, hw⟩ := hrel
      go_wp2
      exact bodyPost_ret (v := .tuple #[.bool true, .int .i64 0]) (by simp [results, Try.f24, go_sem]) rfl ⟨by rw [T.out], hw.out⟩
/-- Zero, for every arena and every two numbers -/
theorem zero24 (A : Option Addr) (cap : Nat) (zs : List Int) (a b : Int) (w : World) (h : WAt w (.slice A zs.length cap) zs) (hcap : zs.length < cap + 1) (hm : zs.length ≤ 9223372036854775807) (h1 : -9223372036854775808 ≤ a) (h2 : a ≤ 9223372036854775807) (h3 : -9223372036854775808 ≤ b) (h4 : b ≤ 9223372036854775807) :
    Calls Try.prog 24 #[.slice A zs.length cap, .int .i64 a, .int .i64 b] w fun e w' => e = .returned (.tuple #[.bool (zeroF zs a b).1, .int .i64 (zeroF zs a b).2]) ∧ w = w' := by
  by_cases hc : chkF zs = 0
  · cases hp : partB zs.length a (b - a) with
    | false => exact zero24_off _ zs a b w h hc h1 h2 h3 h4 hp
    | true =>
      obtain ⟨p1, p2, p3, p4⟩ := partB_spec.1 hp
      obtain ⟨k, rfl⟩ : ∃ k : Nat, a = (k : Int) := ⟨a.toNat, by omega⟩
      obtain ⟨l, rfl⟩ : ∃ l : Nat, b = (l : Int) := ⟨b.toNat, by omega⟩
      rcases Nat.lt_or_ge k zs.length with hlt | hge
      · exact zero24_ok A cap zs k l w h hcap hc (by omega) (by omega) (by omega) hlt
      · obtain rfl : k = zs.length := by omega
        obtain rfl : l = zs.length := by omega
        exact zero24_end A cap zs w h hcap hc
  · exact zero24_chk _ zs a b w h hm hc
end Ytkffabochgmagaa
end Go.Proofs
