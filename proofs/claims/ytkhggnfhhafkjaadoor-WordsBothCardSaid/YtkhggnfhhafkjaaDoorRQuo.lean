/- The reference's reading of a quoted form. -/
import Derived.Test.YtkhggnfhhafkjaaDoorPre
namespace Go.Proofs
namespace YtkhggnfhhafkjaaDoor
open Go.RowKit

def quoV : Option (List UInt8 × Nat) → Value
  | some (t, n) => .tuple #[.string ⟨t.toArray⟩, .int .i64 n]
  | none => .tuple #[.string ⟨#[]⟩, .int .i64 0]
theorem esc47g (n : Int) (h0 : 0 ≤ n) (h1 : n < 256) (w : World) : Calls Tryd.prog 47 #[.int .u8 n] w fun e w' => e = .returned (.string ⟨(escL (UInt8.ofNat n.toNat)).toArray⟩) ∧ Below w.heap.size w w' := by
  have e : (n : Int) = ((UInt8.ofNat n.toNat).toNat : Int) := by rw [UInt8.toNat_ofNat']; omega
  have h := esc47 (UInt8.ofNat n.toNat) w
  rw [← e] at h
  exact h
theorem takeQL_not {l : List UInt8} (h : l.head? ≠ some 34) : takeQL l = none := by
  unfold takeQL
  split
  · rename_i r; simp at h
  · rfl
theorem takeQL_head {l : List UInt8} (h : l.head? = some 34) : takeQL l = (tqL (l.drop 1)).map fun p => ([] ++ p.1, 1 + p.2) := by
  cases l with
  | nil => simp at h
  | cons c r =>
    simp only [List.head?_cons, Option.some.injEq] at h
    subst h
    rfl

theorem cut_eq (s : ByteArray) (k L : Nat) : (s.extract k (k + L)).toList = (s.data.toList.drop k).take L := by
  rw [ByteArray.toList_eq, ByteArray.data_extract, Array.toList_extract, List.extract_eq_take_drop]
  congr 1; omega
theorem pre_none {s : ByteArray} {k : Nat} {u : UInt8} (h : ∀ t, s.data.toList.drop k ≠ escL u ++ t) : ((s.extract k (k + (escL u).length)).toList == escL u) = false := by
  rw [cut_eq]
  cases hb : ((s.data.toList.drop k).take (escL u).length == escL u) with
  | false => rfl
  | true =>
    have e := beq_iff_eq.1 hb
    exact absurd ((List.take_append_drop (escL u).length (s.data.toList.drop k)).symm.trans (congrArg (· ++ (s.data.toList.drop k).drop (escL u).length) e)) (h ((s.data.toList.drop k).drop (escL u).length))
theorem pre_some {s : ByteArray} {k : Nat} {u : UInt8} {t : List UInt8} (h : s.data.toList.drop k = escL u ++ t) : ((s.extract k (k + (escL u).length)).toList == escL u) = true := by
  rw [cut_eq, h, List.take_left]
  simp

set_option maxRecDepth 100000 in
set_option maxHeartbeats 4000000 in
theorem rtake45 (s : ByteArray) (w : World) (hs : s.size ≤ 1000000) :
    Calls Tryd.prog 45 #[.string s] w fun e w' => e = .returned (quoV (takeQL s.data.toList)) ∧ Below w.heap.size w w' := by
  have hl := Lib.hid (show s.data.toList.length = s.size by simp)
  by_cases h0 : s.size = 0
  · have T := Lib.hid (show takeQL s.data.toList = none from takeQL_not (by rw [List.eq_nil_of_length_eq_zero (hl.out.trans h0)]; simp))
    go_enter Tryd.func45, Tryd.ntmps45
    go_wp2
    go_ret2
    exact ⟨by rw [T.out]; rfl, Below.refl _ _⟩
  have hp : 0 < s.size := by omega
  have q0 : ((s.size : Int) == 0) = false := beq_eq_false_iff_ne.2 (by omega)
  by_cases hh : (s[0].toNat : Int) = 34
  rotate_left
  · have T := Lib.hid (show takeQL s.data.toList = none from takeQL_not (by
      intro h
      apply hh
      rw [g_eq s 0 hp]
      unfold g
      cases hq : s.data.toList with
      | nil => rw [hq] at h; simp at h
      | cons c r => rw [hq] at h; simp at h; subst h; rfl))
    have n0 : ((s[0].toNat : Int) != 34) = true := by simp [hh]
    clear hh
    go_enter Tryd.func45, Tryd.ntmps45
    go_wp2
    go_ret2
    exact ⟨by rw [T.out]; rfl, Below.refl _ _⟩
  have T0 := Lib.hid (takeQL_head (l := s.data.toList) (by
    have e := g_eq s 0 hp
    unfold g at e
    cases hq : s.data.toList with
    | nil => rw [hq] at hl; have := hl.out; simp at this; omega
    | cons c r =>
      rw [hq] at e
      simp only [List.getD_cons_zero] at e
      rw [List.head?_cons]
      congr 1
      exact UInt8.toNat_inj.1 (show c.toNat = 34 by omega)))
  have n0 : ((s[0].toNat : Int) != 34) = false := by simp [hh]
  clear hh
  go_enter Tryd.func45, Tryd.ntmps45
  go_wp2
  go_loopw [4, 5] (fun b i wr => ∃ (k : Nat) (acc : List UInt8), 1 ≤ k ∧ k ≤ s.size ∧ i = .int .i64 k ∧ Row w.heap.size wr b acc ∧ acc.length ≤ k ∧ Below w.heap.size w wr ∧
      Hid (takeQL s.data.toList = (tqL (s.data.toList.drop k)).map fun p => (acc ++ p.1, k + p.2))) (fun _ i _ => s.size - (intOf i).toNat)
  case atStart => exact ⟨1, [], by omega, by omega, rfl, Row.nil _ _, by simp, Below.refl _ _, T0⟩
  case round =>
    obtain ⟨k, acc, hk1, hk2, rfl, hrow, hacc, hB, T⟩ := hrel
    by_cases hlt : k < s.size
    · have hc := Lib.hid (List.drop_eq_getElem_cons (l := s.data.toList) (i := k) (by rw [hl.out]; exact hlt))
      by_cases h34 : (s[k].toNat : Int) = 34
      · have hconv := string_of_row hrow
        have X := Lib.hid (show takeQL s.data.toList = some (acc, k + 1) by
          have e34 : s.data.toList[k]'(by rw [hl.out]; exact hlt) = 34 := by
            apply UInt8.toNat_inj.1
            show s[k].toNat = 34
            omega
          rw [T.out, hc.out, e34, tqL_quote]
          simp)
        have h34' : ((s[k].toNat : Int) != 34) = false := by simp [h34]
        clear h34
        go_wp2
        go_ret2
        exact ⟨by rw [X.out]; rfl, hB⟩
      · have e34 : s.data.toList[k]'(by rw [hl.out]; exact hlt) ≠ 34 := by
          intro h
          apply h34
          show ((s.data.toList[k]'(by rw [hl.out]; exact hlt)).toNat : Int) = 34
          rw [h]; rfl
        have h34' : ((s[k].toNat : Int) != 34) = true := by simp [h34]
        clear h34
        cases ht : takeByteL (s.data.toList.drop k) with
        | none =>
          have X := Lib.hid (show takeQL s.data.toList = none by
            rw [T.out, hc.out, tqL_none e34 (by rw [← hc.out]; exact ht)]; rfl)
          have Ht := Lib.hid ht
          clear ht
          go_wp2
          go_loopw [4, 5, 6, 7] (fun b i f c wr' => ∃ n : Nat, n ≤ 256 ∧ c = .int .i64 n ∧ b = u4 ∧ i = .int .i64 k ∧ f = .bool false ∧ Row w.heap.size wr' b acc ∧ Below w.heap.size w wr') (fun _ _ _ c _ => 256 - (intOf c).toNat)
          case atStart => exact ⟨0, by omega, rfl, rfl, rfl, rfl, hrow, hB⟩
          case round =>
            obtain ⟨n, hn, rfl, rfl, rfl, rfl, hrow', hB'⟩ := hrel
            by_cases hn2 : n < 256
            · have hE := pre_none (s := s) (k := k) (u := UInt8.ofNat n) (fun t ht => by
                have h1 := esc_take (UInt8.ofNat n) t
                rw [← ht, Ht.out] at h1
                cases h1)
              by_cases hf : (escL (UInt8.ofNat n)).length ≤ s.size - k
              · have hfi : (((escL (UInt8.ofNat n)).length : Nat) : Int) ≤ (s.size : Int) - (k : Int) := by omega
                go_wp2_with (go_at_call 47; refine (esc47g _ (by omega) (by omega) _).mono ?_; rintro e W2 ⟨rfl, hb2⟩; have hr2 := hrow'.below hb2; have hB2 := hB'.trans (hb2.mono hB'.size))
                go_roundw
                case rel => exact ⟨n + 1, by omega, by go_num, rfl, rfl, rfl, hr2, hB2⟩
                case measure => simp [intOf]; omega
              · have hfi : (s.size : Int) - (k : Int) < (((escL (UInt8.ofNat n)).length : Nat) : Int) := by omega
                go_wp2_with (go_at_call 47; refine (esc47g _ (by omega) (by omega) _).mono ?_; rintro e W2 ⟨rfl, hb2⟩; have hr2 := hrow'.below hb2; have hB2 := hB'.trans (hb2.mono hB'.size))
                go_roundw
                case rel => exact ⟨n + 1, by omega, by go_num, rfl, rfl, rfl, hr2, hB2⟩
                case measure => simp [intOf]; omega
            · have en : n = 256 := by omega
              subst en
              go_wp2
              go_ret2
              exact ⟨by rw [X.out]; rfl, hB'⟩
        | some p =>
          obtain ⟨b0, n0'⟩ := p
          obtain ⟨u, t, rfl, hdr, rfl⟩ := take_esc ht
          have hu : u.toNat < 256 := UInt8.toNat_lt u
          have hlen : k + (escL u).length ≤ s.size := by
            have := congrArg List.length hdr
            rw [List.length_drop, List.length_append, hl.out] at this
            omega
          have hlen1 := (escL_len u).1
          have X := Lib.hid (show takeQL s.data.toList = (tqL (s.data.toList.drop (k + (escL u).length))).map fun p => ((acc ++ [u]) ++ p.1, (k + (escL u).length) + p.2) by
            rw [T.out, hc.out, tqL_some e34 (by rw [← hc.out]; exact ht), ← hc.out, List.drop_drop]
            cases tqL (s.data.toList.drop (k + (escL u).length)) with
            | none => rfl
            | some p => simp [Nat.add_assoc])
          have HD := Lib.hid hdr
          have Ht := Lib.hid ht
          clear ht hdr
          go_wp2
          go_loopw [4, 5, 6, 7] (fun b i f c wr' => ∃ n : Nat, n ≤ 256 ∧ c = .int .i64 n ∧ Below w.heap.size w wr' ∧ ((n ≤ u.toNat ∧ i = .int .i64 k ∧ f = .bool false ∧ Row w.heap.size wr' b acc) ∨ (i = .int .i64 ((k + (escL u).length : Nat) : Int) ∧ f = .bool true ∧ Row w.heap.size wr' b (acc ++ [u])))) (fun _ _ _ c _ => 256 - (intOf c).toNat)
          case atStart => exact ⟨0, by omega, rfl, hB, .inl ⟨by omega, rfl, rfl, hrow⟩⟩
          case round =>
            obtain ⟨n, hn, rfl, hB', (⟨hnu, rfl, rfl, hrow'⟩ | ⟨rfl, rfl, hrow'⟩)⟩ := hrel
            · have hn2 : n < 256 := by omega
              by_cases hne : n = u.toNat
              · subst hne
                have hE := pre_some (s := s) (k := k) (u := u) HD.out
                have hfi : (((escL u).length : Nat) : Int) ≤ (s.size : Int) - (k : Int) := by omega
                go_wp2_with (first
                  | (go_at_call 47; refine (esc47 u _).mono ?_; rintro e W2 ⟨rfl, hb2⟩; have hr2 := hrow'.below hb2; have hB2 := hB'.trans (hb2.mono hB'.size))
                  | (at_builtin; refine push_new hr2 hB2 [u] rfl (.tmp 56) (.tmp 59) rfl rfl rfl rfl (Nat.le_refl _) (by simp; omega) ?_; intro v3 W3 hr3 hb3))
                go_roundw
                case rel => exact ⟨u.toNat + 1, by omega, by go_num, hb3, .inr ⟨by go_num, rfl, hr3⟩⟩
                case measure => simp [intOf]; omega
              · have hE := pre_none (s := s) (k := k) (u := UInt8.ofNat n) (fun t' ht' => by
                  have h1 := esc_take (UInt8.ofNat n) t'
                  rw [← ht', Ht.out] at h1
                  simp only [Option.some.injEq, Prod.mk.injEq] at h1
                  have h2 := h1.1
                  rw [UInt8.toNat_ofNat'] at h2
                  omega)
                by_cases hf : (escL (UInt8.ofNat n)).length ≤ s.size - k
                · have hfi : (((escL (UInt8.ofNat n)).length : Nat) : Int) ≤ (s.size : Int) - (k : Int) := by omega
                  go_wp2_with (go_at_call 47; refine (esc47g _ (by omega) (by omega) _).mono ?_; rintro e W2 ⟨rfl, hb2⟩; have hr2 := hrow'.below hb2; have hB2 := hB'.trans (hb2.mono hB'.size))
                  go_roundw
                  case rel => exact ⟨n + 1, by omega, by go_num, hB2, .inl ⟨by omega, rfl, rfl, hr2⟩⟩
                  case measure => simp [intOf]; omega
                · have hfi : (s.size : Int) - (k : Int) < (((escL (UInt8.ofNat n)).length : Nat) : Int) := by omega
                  go_wp2_with (go_at_call 47; refine (esc47g _ (by omega) (by omega) _).mono ?_; rintro e W2 ⟨rfl, hb2⟩; have hr2 := hrow'.below hb2; have hB2 := hB'.trans (hb2.mono hB'.size))
                  go_roundw
                  case rel => exact ⟨n + 1, by omega, by go_num, hB2, .inl ⟨by omega, rfl, rfl, hr2⟩⟩
                  case measure => simp [intOf]; omega
            · by_cases hn2 : n < 256
              · go_wp2
                go_roundw
                case rel => exact ⟨k + (escL u).length, acc ++ [u], by omega, by omega, by go_num, hrow', by simp; omega, hB', X⟩
                case measure => simp [intOf]; omega
              · have en : n = 256 := by omega
                subst en
                go_wp2
                go_roundw
                case rel => exact ⟨k + (escL u).length, acc ++ [u], by omega, by omega, by go_num, hrow', by simp; omega, hB', X⟩
                case measure => simp [intOf]; omega
    · have hk : k = s.size := by omega
      subst hk
      have X := Lib.hid (show takeQL s.data.toList = none by
        rw [T.out, List.drop_of_length_le (by rw [hl.out]; omega), tqL_nil]; rfl)
      go_wp2
      go_ret2
      exact ⟨by rw [X.out]; rfl, hB⟩
end YtkhggnfhhafkjaaDoor
end Go.Proofs
