/- Reading one byte of a quoted form: takeByte. -/
import Derived.Test.YtkhggnfhhafkjaaDoorHex
namespace Go.Proofs
namespace YtkhggnfhhafkjaaDoor
open Go.RowKit

theorem tri_eq (r : Option (Int × Nat)) : tri r = .tuple #[.int .u8 ((r.map (·.1)).getD 0), .int .i64 ((((r.map (·.2)).getD 0 : Nat) : Int)), .bool r.isSome] := by
  cases r <;> rfl

set_option maxHeartbeats 400000 in
theorem byte65 (s : ByteArray) (w : World) (hE : EscLaid w) (hs : s.size ≤ maxLen) (hp : 0 < s.size) :
    Calls Tryd.prog 65 #[.string s] w fun e w' => e = .returned (tri (takeByteL s.data.toList)) ∧ Below w.heap.size w w' := by
  have HE := Lib.hid hE
  clear hE
  unfold maxLen at hs
  have hl := Lib.hid (show s.data.toList.length = s.size by simp)
  have e0 := Lib.hid (g_eq s 0 hp)
  have b0 : (0 : Int) < (s.size : Int) := by omega
  by_cases h1 : plainB (s[0].toNat : Int) = true
  · have T := Lib.hid (show takeByteL s.data.toList = some ((s[0].toNat : Int), 1) by unfold takeByteL; rw [← e0.out, if_pos h1])
    have H1 := Lib.hid h1
    clear h1
    go_enter Tryd.func65, Tryd.ntmps65
    go_wp2_with (go_at_call 71; refine (plain71 _ _).mono ?_; rintro e w' ⟨rfl, rfl⟩; rw [H1.out])
    go_ret3
    exact ⟨by rw [T.out]; rfl, Below.refl _ _⟩
  simp only [Bool.not_eq_true] at h1
  by_cases h2 : (s[0].toNat : Int) = 92
  rotate_left
  · have T := Lib.hid (show takeByteL s.data.toList = none by unfold takeByteL; rw [← e0.out, if_neg (by rw [h1]; simp), if_pos (Or.inl h2)])
    have H1 := Lib.hid h1
    clear h1
    have h2' : ((s[0].toNat : Int) != 92) = true := by simp [h2]
    clear h2
    go_enter Tryd.func65, Tryd.ntmps65
    go_wp2_with (go_at_call 71; refine (plain71 _ _).mono ?_; rintro e w' ⟨rfl, rfl⟩; rw [H1.out])
    go_ret3
    exact ⟨by rw [T.out]; rfl, Below.refl _ _⟩
  have h2' : ((s[0].toNat : Int) != 92) = false := by simp [h2]
  by_cases h3 : 2 ≤ s.size
  rotate_left
  · have T := Lib.hid (show takeByteL s.data.toList = none by unfold takeByteL; rw [← e0.out, if_neg (by rw [h1]; simp), if_pos (Or.inr (by rw [hl.out]; omega))])
    have H1 := Lib.hid h1
    clear h1 h2
    have q : decide ((s.size : Int) < 2) = true := by simp; omega
    go_enter Tryd.func65, Tryd.ntmps65
    go_wp2_with (go_at_call 71; refine (plain71 _ _).mono ?_; rintro e w' ⟨rfl, rfl⟩; rw [H1.out])
    go_ret3
    exact ⟨by rw [T.out]; rfl, Below.refl _ _⟩
  have b1 : (1 : Int) < (s.size : Int) := by omega
  have q : decide ((s.size : Int) < 2) = false := by simp; omega
  have e1 := Lib.hid (g_eq s 1 (by omega))
  by_cases h4 : meantQ (s[1].toNat : Int) = true
  · have T := Lib.hid (show takeByteL s.data.toList = some (meantZ (s[1].toNat : Int), 2) by unfold takeByteL; rw [← e0.out, ← e1.out, if_neg (by rw [h1]; simp), if_neg (by rw [hl.out]; omega), if_pos h4])
    have H1 := Lib.hid h1
    have H4 := Lib.hid h4
    clear h1 h4 h2
    go_enter Tryd.func65, Tryd.ntmps65
    go_wp2_with (first | (go_at_call 71; refine (plain71 _ _).mono ?_; rintro e w' ⟨rfl, rfl⟩; rw [H1.out]) | (go_at_call 92; refine (meant92 _ _ HE.out).mono ?_; rintro e w' ⟨rfl, hb⟩; rw [H4.out]))
    go_ret3
    exact ⟨by rw [T.out]; rfl, hb⟩
  simp only [Bool.not_eq_true] at h4
  have T := Lib.hid (show takeByteL s.data.toList = takeHexL s.data.toList by unfold takeByteL; rw [← e0.out, ← e1.out, if_neg (by rw [h1]; simp), if_neg (by rw [hl.out]; omega), if_neg (by rw [h4]; simp)])
  have H1 := Lib.hid h1
  have H4 := Lib.hid h4
  clear h1 h4 h2
  have HS : ∀ W : World, Hid (EscLaid W) → Calls Tryd.prog 93 #[.string s] W fun e w' => e = .returned (tri (takeHexL s.data.toList)) ∧ Below W.heap.size W w' := fun W h => hex93 s W h.out (by unfold maxLen; exact hs)
  have HS' := Lib.hid HS
  clear HS
  go_enter Tryd.func65, Tryd.ntmps65
  go_wp2_with (first | (go_at_call 71; refine (plain71 _ _).mono ?_; rintro e w' ⟨rfl, rfl⟩; rw [H1.out]) | (go_at_call 92; refine (meant92 _ _ HE.out).mono ?_; rintro e w' ⟨rfl, hb⟩; rw [H4.out]) | (go_at_call 93; refine (HS'.out _ (Lib.hid (HE.out.self hb))).mono ?_; rintro e w'' ⟨rfl, hb2⟩; rw [tri_eq]))
  go_ret3
  exact ⟨by rw [T.out, tri_eq]; rfl, hb.trans (hb2.mono hb.size)⟩
end YtkhggnfhhafkjaaDoor
end Go.Proofs
