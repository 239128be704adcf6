/- takeQuoted and Unquote. -/
import Derived.Test.YtkhggnfhhafkjaaDoorQuo
import Derived.Lib.Strings
import Derived.Lib.IndexBytes
namespace Go.Proofs
namespace YtkhggnfhhafkjaaDoor
open Go.RowKit

theorem drop_data (s : ByteArray) (k : Nat) : (s.extract k s.size).data.toList = s.data.toList.drop k := by
  rw [Lib.extract_data]
  rw [List.take_of_length_le (by simp)]
theorem byteAt (s : ByteArray) (k : Nat) (hk : k < s.size) (hs : s.size ≤ maxLen) (w : World) (hE : Hid (EscLaid w)) :
    Calls Tryd.prog 65 #[.string (s.extract k s.size)] w fun e w' => e = .returned (tri (takeByteL (s.data.toList.drop k))) ∧ Below w.heap.size w w' := by
  rw [← drop_data]
  have hsz : (s.extract k s.size).size = s.size - k := by simp
  exact byte65 _ w hE.out (by unfold maxLen at *; omega) (by omega)

theorem quote_prefix (s : ByteArray) : Lib.hasPrefix s.data.toList [34] = decide (s.data.toList.head? = some 34) := by
  unfold Lib.hasPrefix
  cases s.data.toList with
  | nil => rfl
  | cons c r =>
    by_cases h : c = 34
    · subst h; simp [List.isPrefixOf]
    · have h' : ¬ (34 : UInt8) = c := fun e => h e.symm
      simp [List.isPrefixOf, h, h']
theorem u8_val (c : Int) (h0 : 0 ≤ c) (h1 : c < 256) : Value.int .u8 c = .int .u8 ((UInt8.ofNat c.toNat).toNat : Int) := by
  rw [UInt8.toNat_ofNat']
  congr 1
  omega

theorem prefix64 (s : ByteArray) (w : World) : Calls Tryd.prog 64 #[.string s, .string ⟨#[34]⟩] w fun e w' => e = .returned (.bool (decide (s.data.toList.head? = some 34))) ∧ w = w' :=
  (Tryd.strings_HasPrefix s ⟨#[34]⟩ w).mono fun e w' h => by
    obtain ⟨rfl, rfl⟩ := h
    refine ⟨?_, rfl⟩
    rw [← quote_prefix]

theorem grown_of_below {a w : World} (h : Below a.heap.size a w) (row : Option Nat) : a.grownBy w row := ⟨h.os, h.tape, h.output, h.size, fun i hi _ => h.block i hi⟩
theorem own_below {w w' : World} {base size n : Nat} {e : TypeId} {v : Value} {xs : List Value} (h : w.ownsRow base e size v n xs) (hb : Below w.heap.size w w') : w'.ownsRow base e size v n xs :=
  h.kept (grown_of_below hb none) (by cases v.ownBlock <;> simp)

set_option maxRecDepth 100000 in
set_option maxHeartbeats 400000 in
theorem take44 (s : ByteArray) (w : World) (hE : EscLaid w) (hs : s.size ≤ 140737488351232) :
    Calls Tryd.prog 44 #[.string s] w fun e w' => e = .returned (triS (takeQL s.data.toList)) ∧ Below w.heap.size w w' := by
  have hm : s.size ≤ 9223372036854775807 := by omega
  have hl := Lib.hid (show s.data.toList.length = s.size by simp)
  have HE := Lib.hid hE
  clear hE
  by_cases hh : s.data.toList.head? = some 34
  rotate_left
  · have hd : decide (s.data.toList.head? = some 34) = false := by simp [hh]
    have T := Lib.hid (show takeQL s.data.toList = none by
      unfold takeQL
      split
      · rename_i r hr; rw [hr] at hh; simp at hh
      · rfl)
    have HD := Lib.hid hd
    clear hd hh
    go_enter Tryd.func44, Tryd.ntmps44
    go_wp2_with (go_at_call 64; refine (prefix64 _ _).mono ?_; rintro e w' ⟨rfl, rfl⟩; rw [HD.out])
    go_ret3
    exact ⟨by rw [T.out]; rfl, Below.refl _ _⟩
  have hd : decide (s.data.toList.head? = some 34) = true := by simp [hh]
  have hne : 0 < s.size := by
    rw [← hl.out]
    cases hq : s.data.toList with
    | nil => rw [hq] at hh; simp at hh
    | cons c r => simp
  have T0 := Lib.hid (show takeQL s.data.toList = (tqL (s.data.toList.drop 1)).map fun p => ([] ++ p.1, 1 + p.2) by
    cases hq : s.data.toList with
    | nil => rw [hq] at hh; simp at hh
    | cons c r =>
      rw [hq] at hh
      simp only [List.head?_cons, Option.some.injEq] at hh
      subst hh
      rfl)
  have HD := Lib.hid hd
  clear hd hh
  obtain ⟨i0, hi, hz0, hz1, hz2⟩ := info_parts info5
  go_enter Tryd.func44, Tryd.ntmps44
  go_wp2_with (go_at_call 64; refine (prefix64 _ _).mono ?_; rintro e w' ⟨rfl, rfl⟩; rw [HD.out])
  go_loopw [5, 6] (fun b i wr => ∃ (k : Nat) (acc : List UInt8), 1 ≤ k ∧ k ≤ s.size ∧ i = .int .i64 k ∧ wr.ownsRow w.heap.size 5 1 b acc.length (bc acc) ∧ acc.length ≤ k ∧ Hid (EscLaid wr) ∧ Below w.heap.size w wr ∧
      Hid (takeQL s.data.toList = (tqL (s.data.toList.drop k)).map fun p => (acc ++ p.1, k + p.2))) (fun _ i _ => s.size - (intOf i).toNat)
  case atStart => exact ⟨1, [], by omega, by omega, rfl, World.ownsRow_nil _ _ _ _, by simp, HE, Below.refl _ _, T0⟩
  case round =>
    obtain ⟨k, acc, hk1, hk2, rfl, hown, hacc, hE', hB, T⟩ := hrel
    by_cases hlt : k < s.size
    · have hc := Lib.hid (List.drop_eq_getElem_cons (l := s.data.toList) (i := k) (by rw [hl.out]; exact hlt))
      by_cases h34 : (s[k].toNat : Int) = 34
      · have hconv := string_of_row hown
        have X := Lib.hid (show takeQL s.data.toList = some (acc, k + 1) by
          have e34 : s.data.toList[k]'(by rw [hl.out]; exact hlt) = 34 := by
            apply UInt8.toNat_inj.1
            show s[k].toNat = 34
            omega
          rw [T.out, hc.out, e34, tqL_quote]
          simp)
        have h34' : ((s[k].toNat : Int) == 34) = true := by simp [h34]
        clear h34
        go_wp2
        go_ret3
        exact ⟨by rw [X.out]; rfl, hB⟩
      · have e34 : s.data.toList[k]'(by rw [hl.out]; exact hlt) ≠ 34 := by
          intro h
          apply h34
          show ((s.data.toList[k]'(by rw [hl.out]; exact hlt)).toNat : Int) = 34
          rw [h]; rfl
        have h34' : ((s[k].toNat : Int) == 34) = false := by simp [h34]
        clear h34
        cases ht : takeByteL (s.data.toList.drop k) with
        | none =>
          have X := Lib.hid (show takeQL s.data.toList = none by
            rw [T.out, hc.out, tqL_none e34 (by rw [← hc.out]; exact ht)]; rfl)
          have Ht := Lib.hid ht
          clear ht
          go_wp2_with (go_at_call 65; refine (byteAt s k hlt (by unfold maxLen; omega) _ hE').mono ?_; rintro e w' ⟨rfl, hb⟩; rw [Ht.out]; unfold tri)
          go_ret3
          exact ⟨by rw [X.out]; rfl, hB.trans (hb.mono hB.size)⟩
        | some p =>
          obtain ⟨c, n⟩ := p
          have hbd := takeByteL_bound ht (by simp; omega)
          have hn : n ≤ s.size - k := by have := hbd.2.2; simpa using this
          have X := Lib.hid (show takeQL s.data.toList = (tqL (s.data.toList.drop (k + n))).map fun p => ((acc ++ [UInt8.ofNat c.toNat]) ++ p.1, (k + n) + p.2) by
            rw [T.out, hc.out, tqL_some e34 (by rw [← hc.out]; exact ht), ← hc.out, List.drop_drop]
            cases tqL (s.data.toList.drop (k + n)) with
            | none => rfl
            | some p => simp [Nat.add_assoc])
          have hcv := u8_val c hbd.1.1 hbd.1.2
          have Ht := Lib.hid ht
          clear ht
          have Hcv := Lib.hid hcv
          clear hcv
          obtain ⟨⟨hc0, hc1⟩, hn1, _⟩ := hbd
          go_wp2_with (first
            | (go_at_call 65; refine (byteAt s k hlt (by unfold maxLen; omega) _ hE').mono ?_; rintro e w' ⟨rfl, hb⟩; rw [Ht.out]; unfold tri; have hown2 := own_below hown hb)
            | (at_builtin; refine wpList_append_own _ rfl _ _ 38 rfl w.heap.size 5 i0 (.int .u8 0) 1 1 Tryd.underlying38 hi hz0 hz1 hz2 rfl (by decide) _ _ _ rfl (hown2.alloc _) ⟨w'.heap.size, 0, none⟩ 1 1 [.int .u8 c] rfl rfl (cell_one_new _ _ _) ?c2 ?c3 ?c4 ?c5 ?_))
          case c2 => intro u hu; simp at hu; subst hu; rfl
          case c3 => unfold maxLen; omega
          case c4 => omega
          case c5 => have h1 := hB.size; have h2 := hb.size; simp; omega
          intro v' w1 hown' hgrow _
          have hB2 : Below w.heap.size w w1 := by
            refine ((hB.trans (hb.mono hB.size)).alloc ?_ _).grown hgrow ?_ ?_
            · have h1 := hB.size; have h2 := hb.size; omega
            · have h1 := hB.size; have h2 := hb.size; simp; omega
            · intro g hg; exact (hown2.lt g hg).1
          go_wp2
          go_roundw
          case rel => exact ⟨k + n, acc ++ [UInt8.ofNat c.toNat], by omega, by omega, by go_num, by rw [bc_snoc, ← Hcv.out, List.length_append]; exact hown', by simp; omega, Lib.hid (HE.out.below hB2 HE.out.lt), hB2, X⟩
          case measure => simp [intOf]; omega
    · have hk : k = s.size := by omega
      subst hk
      have X := Lib.hid (show takeQL s.data.toList = none by
        rw [T.out, List.drop_of_length_le (by rw [hl.out]; omega), tqL_nil]; rfl)
      go_wp2
      go_ret3
      exact ⟨by rw [X.out]; rfl, hB⟩

/-- the string whose quoted form it is -/
def unqL (l : List UInt8) : Option (List UInt8) :=
  match takeQL l with
  | some (t, n) => if n < l.length then none else some t
  | none => none
def unqV : Option (List UInt8) → Value
  | some t => .tuple #[.string ⟨t.toArray⟩, .int .i64 0]
  | none => .tuple #[.string ⟨#[]⟩, .int .i64 6]

set_option maxRecDepth 100000 in
theorem unq19 (s : ByteArray) (w : World) (hE : EscLaid w) (hs : s.size ≤ 140737488351232) :
    Calls Tryd.prog 19 #[.string s] w fun e w' => e = .returned (unqV (unqL s.data.toList)) ∧ Below w.heap.size w w' := by
  have hl := Lib.hid (show s.data.toList.length = s.size by simp)
  have HE := Lib.hid hE
  clear hE
  cases ht : takeQL s.data.toList with
  | none =>
    have T := Lib.hid (show unqL s.data.toList = none by unfold unqL; rw [ht])
    have Ht := Lib.hid ht
    clear ht
    go_enter Tryd.func19, Tryd.ntmps19
    go_wp2_with (go_at_call 44; refine (take44 _ _ HE.out hs).mono ?_; rintro e w' ⟨rfl, hb⟩; rw [Ht.out]; unfold triS)
    go_ret2
    exact ⟨by rw [T.out]; rfl, hb⟩
  | some p =>
    obtain ⟨t, n⟩ := p
    have Ht := Lib.hid ht
    by_cases hn : n < s.size
    · have T := Lib.hid (show unqL s.data.toList = none by unfold unqL; rw [ht]; simp only [hl.out, if_pos hn])
      clear ht
      have q : decide ((n : Int) < (s.size : Int)) = true := by simp; omega
      have q' : decide (n < s.size) = true := by simp; omega
      go_enter Tryd.func19, Tryd.ntmps19
      go_wp2_with (go_at_call 44; refine (take44 _ _ HE.out hs).mono ?_; rintro e w' ⟨rfl, hb⟩; rw [Ht.out]; unfold triS)
      go_ret2
      exact ⟨by rw [T.out]; rfl, hb⟩
    · have T := Lib.hid (show unqL s.data.toList = some t by unfold unqL; rw [ht]; simp only [hl.out, if_neg hn])
      clear ht
      have q : decide ((n : Int) < (s.size : Int)) = false := by simp; omega
      have q' : decide (n < s.size) = false := by simp; omega
      go_enter Tryd.func19, Tryd.ntmps19
      go_wp2_with (go_at_call 44; refine (take44 _ _ HE.out hs).mono ?_; rintro e w' ⟨rfl, hb⟩; rw [Ht.out]; unfold triS)
      go_ret2
      exact ⟨by rw [T.out]; rfl, hb⟩
end YtkhggnfhhafkjaaDoor
end Go.Proofs
