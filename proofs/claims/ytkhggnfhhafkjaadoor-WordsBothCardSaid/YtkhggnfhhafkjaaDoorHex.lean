/- Reading one byte of a quoted form: takeHex and takeByte. -/
import Derived.Test.YtkhggnfhhafkjaaDoorEsc
import Derived.Test.YtkhggnfhhafkjaaDoorShelf
import Derived.BigQuiet
import Derived.Deep.QuietTactic
import Derived.WalkSpells
namespace Go.Proofs
namespace YtkhggnfhhafkjaaDoor
open Go.RowKit

def hexText : ByteArray := ⟨#[48, 49, 50, 51, 52, 53, 54, 55, 56, 57, 97, 98, 99, 100, 101, 102]⟩
def hexV (c : Int) : Int := if 48 ≤ c ∧ c ≤ 57 then c - 48 else if 97 ≤ c ∧ c ≤ 102 then c - 87 else -1
theorem hex_index : ∀ u : UInt8, Lib.indexByte [48, 49, 50, 51, 52, 53, 54, 55, 56, 57, 97, 98, 99, 100, 101, 102] u = hexV u.toNat := fun u => by
  have H : ∀ n : Fin 256, Lib.indexByte [48, 49, 50, 51, 52, 53, 54, 55, 56, 57, 97, 98, 99, 100, 101, 102] (UInt8.ofNat n.val) = hexV n.val := by decide +kernel
  have h := H ⟨u.toNat, UInt8.toNat_lt u⟩
  rwa [UInt8.ofNat_toNat] at h
theorem idx101 (u : UInt8) (w : World) : Calls Tryd.prog 101 #[.string ⟨#[48, 49, 50, 51, 52, 53, 54, 55, 56, 57, 97, 98, 99, 100, 101, 102]⟩, .int .u8 (u.toNat : Int)] w fun e w' => e = .returned (.int .i64 (hexV u.toNat)) ∧ w = w' :=
  (Tryd.strings_IndexByte _ _ w).mono fun e w' h => by
    obtain ⟨rfl, rfl⟩ := h
    refine ⟨?_, rfl⟩
    rw [Int.toNat_natCast, Nat.toUInt8_eq, UInt8.ofNat_toNat, hex_index]

theorem hexV_range (c : Int) : -1 ≤ hexV c ∧ hexV c ≤ 15 := by unfold hexV; split <;> (try split) <;> omega

/-- the byte at a place, as a number -/
def g (l : List UInt8) (i : Nat) : Int := ((l.getD i 0).toNat : Int)
theorem g_eq (s : ByteArray) (i : Nat) (h : i < s.size) : (s[i].toNat : Int) = g s.data.toList i := by
  unfold g
  rw [List.getD_eq_getElem?_getD, List.getElem?_eq_getElem (by simpa using h)]
  rfl
theorem g_range (l : List UInt8) (i : Nat) : 0 ≤ g l i ∧ g l i < 256 := by
  unfold g
  have := UInt8.toNat_lt (l.getD i 0)
  omega

def takeHexL (l : List UInt8) : Option (Int × Nat) :=
  if 4 ≤ l.length ∧ g l 1 = 120 ∧ 0 ≤ hexV (g l 2) ∧ 0 ≤ hexV (g l 3) ∧ letterQ (hexV (g l 2) * 16 + hexV (g l 3)) = false ∧ plainB (hexV (g l 2) * 16 + hexV (g l 3)) = false then
    some (hexV (g l 2) * 16 + hexV (g l 3), 4) else none
def takeByteL (l : List UInt8) : Option (Int × Nat) :=
  if plainB (g l 0) = true then some (g l 0, 1) else if g l 0 ≠ 92 ∨ l.length < 2 then none else if meantQ (g l 1) = true then some (meantZ (g l 1), 2) else takeHexL l
def tri : Option (Int × Nat) → Value
  | some (c, n) => .tuple #[.int .u8 c, .int .i64 n, .bool true]
  | none => .tuple #[.int .u8 0, .int .i64 0, .bool false]

theorem or_nibbles (h k : Int) (h0 : 0 ≤ h) (h1 : h ≤ 15) (k0 : 0 ≤ k) (k1 : k ≤ 15) : bits .or .i64 (h * 16) k % 256 = h * 16 + k := by
  have H : ∀ a b : Fin 16, bits .or .i64 ((a.val : Int) * 16) (b.val : Int) % 256 = (a.val : Int) * 16 + (b.val : Int) := by decide +kernel
  have e := H ⟨h.toNat, by omega⟩ ⟨k.toNat, by omega⟩
  simp only [Int.toNat_of_nonneg h0, Int.toNat_of_nonneg k0] at e
  exact e

theorem below_drewN {B : Nat} {a w : World} (h : Below B a w) (n : Nat) : Below B a (w.drewN n) := ⟨h.os, h.tape, h.output, h.size, h.block⟩
theorem below_undrawn {w w' : World} {n : Nat} (h : Below (w.drewN n).heap.size (w.drewN n) w') : Below w.heap.size w w' := ⟨h.os, h.tape, h.output, h.size, h.block⟩

set_option maxHeartbeats 400000 in
theorem hex93 (s : ByteArray) (w : World) (hE : EscLaid w) (hs : s.size ≤ maxLen) :
    Calls Tryd.prog 93 #[.string s] w fun e w' => e = .returned (tri (takeHexL s.data.toList)) ∧ Below w.heap.size w w' := by
  unfold maxLen at hs
  have hl := Lib.hid (show s.data.toList.length = s.size by simp)
  by_cases h4 : 4 ≤ s.size
  rotate_left
  · have T := Lib.hid (show takeHexL s.data.toList = none by unfold takeHexL; rw [if_neg (by rw [hl.out]; omega)])
    have q : decide ((s.size : Int) < 4) = true := by simp; omega
    go_enter Tryd.func93, Tryd.ntmps93
    go_wp2
    go_ret3
    exact ⟨by rw [T.out]; rfl, Below.refl _ _⟩
  have b1 : (1 : Int) < (s.size : Int) := by omega
  have b2 : (2 : Int) < (s.size : Int) := by omega
  have b3 : (3 : Int) < (s.size : Int) := by omega
  have q : decide ((s.size : Int) < 4) = false := by simp; omega
  have e1 := Lib.hid (g_eq s 1 (by omega))
  have e2 := Lib.hid (g_eq s 2 (by omega))
  have e3 := Lib.hid (g_eq s 3 (by omega))
  by_cases hx : (s[1].toNat : Int) = 120
  rotate_left
  · have T := Lib.hid (show takeHexL s.data.toList = none by unfold takeHexL; rw [if_neg (by rw [← e1.out]; intro h; exact hx h.2.1)])
    have hx' : ((s[1].toNat : Int) != 120) = true := by simp [hx]
    clear hx
    go_enter Tryd.func93, Tryd.ntmps93
    go_wp2
    go_ret3
    exact ⟨by rw [T.out]; rfl, Below.refl _ _⟩
  have hx' : ((s[1].toNat : Int) != 120) = false := by simp [hx]
  have Hx := Lib.hid hx
  clear hx
  have r2 := hexV_range s[2].toNat
  have r3 := hexV_range s[3].toNat
  have HE := Lib.hid hE
  clear hE
  by_cases h0 : (0 : Int) ≤ hexV s[2].toNat
  rotate_left
  · have T := Lib.hid (show takeHexL s.data.toList = none by unfold takeHexL; rw [if_neg (by rw [← e2.out]; intro h; exact h0 h.2.2.1)])
    go_enter Tryd.func93, Tryd.ntmps93
    go_wp2
    go_quiet ((go_at_call 101; exact Calls.quiet_of_same ((idx101 _ _).mono fun _ _ h => ⟨h.1, h.2.symm⟩)))
    go_wp2
    go_ret3
    exact ⟨by rw [T.out]; rfl, below_drewN (Below.refl _ _) _⟩
  by_cases h1 : (0 : Int) ≤ hexV s[3].toNat
  rotate_left
  · have T := Lib.hid (show takeHexL s.data.toList = none by unfold takeHexL; rw [if_neg (by rw [← e3.out]; intro h; exact h1 h.2.2.2.1)])
    go_enter Tryd.func93, Tryd.ntmps93
    go_wp2
    go_quiet ((go_at_call 101; exact Calls.quiet_of_same ((idx101 _ _).mono fun _ _ h => ⟨h.1, h.2.symm⟩)))
    go_wp2
    go_ret3
    exact ⟨by rw [T.out]; rfl, below_drewN (Below.refl _ _) _⟩
  have V := or_nibbles _ _ h0 r2.2 h1 r3.2
  by_cases hq : letterQ (hexV (s[2].toNat : Int) * (16 : Int) + hexV (s[3].toNat : Int)) = true
  · have T := Lib.hid (show takeHexL s.data.toList = none by unfold takeHexL; rw [if_neg (by rw [← e2.out, ← e3.out]; intro h; rw [hq] at h; exact absurd h.2.2.2.2.1 (by simp))])
    have HV := Lib.hid V
    clear V
    go_enter Tryd.func93, Tryd.ntmps93
    go_wp2
    go_quiet ((go_at_call 101; exact Calls.quiet_of_same ((idx101 _ _).mono fun _ _ h => ⟨h.1, h.2.symm⟩)))
    go_wp2_with fail
    rw [HV.out]
    refine (letter94 _ _ (by exact HE.out)).mono ?_
    rintro e w' ⟨rfl, hb⟩
    go_wp2
    go_ret3
    exact ⟨by rw [T.out]; rfl, below_undrawn hb⟩
  simp only [Bool.not_eq_true] at hq
  by_cases hp : plainB (hexV (s[2].toNat : Int) * (16 : Int) + hexV (s[3].toNat : Int)) = true
  · have T := Lib.hid (show takeHexL s.data.toList = none by unfold takeHexL; rw [if_neg (by rw [← e2.out, ← e3.out]; intro h; rw [hp] at h; exact absurd h.2.2.2.2.2 (by simp))])
    have HV := Lib.hid V
    clear V
    go_enter Tryd.func93, Tryd.ntmps93
    go_wp2
    go_quiet ((go_at_call 101; exact Calls.quiet_of_same ((idx101 _ _).mono fun _ _ h => ⟨h.1, h.2.symm⟩)))
    go_wp2_with fail
    rw [HV.out]
    refine (letter94 _ _ (by exact HE.out)).mono ?_
    rintro e w' ⟨rfl, hb⟩
    go_wp2_with (go_at_call 71; refine (plain71 _ _).mono ?_; rintro e w' ⟨rfl, rfl⟩)
    go_ret3
    exact ⟨by rw [T.out]; rfl, below_undrawn hb⟩
  simp only [Bool.not_eq_true] at hp
  have T := Lib.hid (show takeHexL s.data.toList = some (hexV (s[2].toNat : Int) * (16 : Int) + hexV (s[3].toNat : Int), 4) by
    unfold takeHexL
    rw [if_pos (by rw [← e1.out, ← e2.out, ← e3.out, hl.out]; exact ⟨h4, Hx.out, h0, h1, hq, hp⟩), ← e2.out, ← e3.out])
  have HV := Lib.hid V
  clear V
  go_enter Tryd.func93, Tryd.ntmps93
  go_wp2
  go_quiet ((go_at_call 101; exact Calls.quiet_of_same ((idx101 _ _).mono fun _ _ h => ⟨h.1, h.2.symm⟩)))
  go_wp2_with fail
  rw [HV.out]
  refine (letter94 _ _ (by exact HE.out)).mono ?_
  rintro e w' ⟨rfl, hb⟩
  go_wp2_with (go_at_call 71; refine (plain71 _ _).mono ?_; rintro e w' ⟨rfl, rfl⟩)
  go_ret3
  exact ⟨by rw [T.out]; rfl, below_undrawn hb⟩
end YtkhggnfhhafkjaaDoor
end Go.Proofs
