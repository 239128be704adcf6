/- The reference's bare, and appending a field to a list of the call's own. -/
import Derived.Test.YtkhggnfhhafkjaaDoorTok
namespace Go.Proofs
namespace YtkhggnfhhafkjaaDoor
open Go.RowKit

theorem bareA_step (s : ByteArray) (k : Nat) (hk : k < s.size) : (s.data.toList.drop k).all bareC = (bareC s[k] && (s.data.toList.drop (k + 1)).all bareC) := by
  rw [List.drop_eq_getElem_cons (by simpa using hk), List.all_cons]; rfl

set_option maxHeartbeats 1000000 in
theorem rbare49 (s : ByteArray) (w : World) (hs : s.size ≤ 9223372036854775807) : Calls Tryd.prog 49 #[.string s] w fun e w' => e = .returned (.bool (bareA s.data.toList)) ∧ w = w' := by
  have hl := Lib.hid (show s.data.toList.length = s.size by simp)
  go_enter Tryd.func49, Tryd.ntmps49
  go_wp2
  go_loop [3] (fun i => ∃ k : Nat, k ≤ s.size ∧ i = .int .i64 k ∧ Hid (s.data.toList.all bareC = (s.data.toList.drop k).all bareC)) (fun i => s.size - (intOf i).toNat)
  case atStart => exact ⟨0, by omega, rfl, Lib.hid (by simp)⟩
  case round =>
    obtain ⟨k, hk, rfl, H⟩ := hrel
    by_cases hlt : k < s.size
    · have S := Lib.hid (bareA_step s k hlt)
      have hlt' : (k : Int) < (s.size : Int) := by omega
      cases hp : plainB (s[k].toNat : Int) with
      | false =>
        have HP := Lib.hid hp
        have T := Lib.hid (show bareA s.data.toList = false by unfold bareA; rw [H.out, S.out]; simp [bareC, hp])
        clear hp
        go_wp2_with (go_at_call 67; refine (plain67 _ _).mono ?_; rintro e w' ⟨rfl, rfl⟩; rw [HP.out])
        go_ret
        exact ⟨by rw [T.out]; rfl, rfl⟩
      | true =>
        have HP := Lib.hid hp
        by_cases h32 : (s[k].toNat : Int) = 32
        · have h32' : ((s[k].toNat : Int) == 32) = true := by simp [h32]
          have e32 : s[k] = 32 := by apply UInt8.toNat_inj.1; show s[k].toNat = 32; omega
          have T := Lib.hid (show bareA s.data.toList = false by unfold bareA; rw [H.out, S.out]; simp [bareC, e32])
          clear hp h32 e32
          go_wp2_with (go_at_call 67; refine (plain67 _ _).mono ?_; rintro e w' ⟨rfl, rfl⟩; rw [HP.out])
          go_ret
          exact ⟨by rw [T.out]; rfl, rfl⟩
        · have h32' : ((s[k].toNat : Int) == 32) = false := by simp [h32]
          have e32 : s[k] ≠ 32 := fun e => h32 (by rw [e]; rfl)
          have T := Lib.hid (show (s.data.toList.drop k).all bareC = (s.data.toList.drop (k + 1)).all bareC by rw [S.out]; simp [bareC, hp, e32])
          clear hp h32 e32
          go_wp2_with (go_at_call 67; refine (plain67 _ _).mono ?_; rintro e w' ⟨rfl, rfl⟩; rw [HP.out])
          go_round
          case rel => exact ⟨k + 1, by omega, by go_num, Lib.hid (by rw [H.out, T.out])⟩
          case measure => simp [intOf]; omega
    · have hks : k = s.size := by omega
      subst hks
      have T := Lib.hid (show bareA s.data.toList = decide (0 < s.size) by
        unfold bareA
        rw [H.out, List.drop_of_length_le (by simp)]
        simp only [List.all_nil, Bool.true_and, hl.out])
      go_wp2
      go_ret
      exact ⟨by rw [T.out]; rfl, rfl⟩

/-- v is a list of fields of the call's own -/
def FRow (B : Nat) (W : World) (v : Value) (fs : List Fld) : Prop := W.ownsRow B 50 2 v fs.length (fc fs)
theorem FRow.nil (B : Nat) (W : World) : FRow B W (.slice none 0 0) [] := World.ownsRow_nil _ _ _ _
theorem FRow.below {B : Nat} {W W' : World} {v : Value} {fs : List Fld} (h : FRow B W v fs) (hb : Below W.heap.size W W') : FRow B W' v fs := own_below h hb

theorem push_field {ops : Array Oper} {rest : List Oper} {o : Oper} {a : Act} {Q : Exit → Act → World → Prop} {W W0 w : World} {B : Nat} {v : Value} {fs : List Fld} (hown : FRow B W v fs) (hB : Below B w W) (f : Fld) (hgd : o.guard = none) (s x : Operand)
    (ho : o.op = .call { callee := .builtin .append, args := #[s, x], argTypes := #[32, 32] }) (hs : a.eval s = v) (H : Nat) (hx : a.eval x = .slice (some ⟨H, 0, none⟩) 1 1) (hH : H = W.heap.size)
    (hW : W0 = W.alloc (.cells #[.string ⟨f.1.toArray⟩, .bool f.2] 50)) (hBs : B ≤ w.heap.size) (hl : fs.length + 1 ≤ 1000000)
    (h : ∀ v' W', FRow B W' v' (fs ++ [f]) → Below B w W' → (W.alloc (.cells #[.string ⟨f.1.toArray⟩, .bool f.2] 50)).grownBy W' v.ownBlock → wpList Tryd.prog ops Q rest (a.put o.dst v') W') : wpList Tryd.prog ops Q (o :: rest) a W0 := by
  subst hW
  subst hH
  obtain ⟨i0, hi, hz0, hz1, hz2⟩ := info_parts info50
  have hBW : B ≤ W.heap.size := Nat.le_trans hBs hB.size
  refine wpList_append_own _ hgd s x 32 ho B 50 i0 _ 2 24 Tryd.underlying32 hi hz0 hz1 hz2 rfl (by decide) v fs.length (fc fs) hs (hown.alloc _) ⟨W.heap.size, 0, none⟩ 1 1 [.string ⟨f.1.toArray⟩, .bool f.2] hx rfl (two_new W _ _ _) ?_ ?_ ?_ ?_ ?_
  · simp [Value.oneCell']
  · unfold maxLen; omega
  · omega
  · simp; omega
  · intro v' W' h1 h2 _
    refine h v' W' ?_ ?_ h2
    · unfold FRow; rw [fc_snoc, List.length_append, List.length_singleton]; exact h1
    · exact (hB.alloc hBW _).grown h2 (by simp; omega) (fun k hk => (hown.lt k hk).1)
end YtkhggnfhhafkjaaDoor
end Go.Proofs
