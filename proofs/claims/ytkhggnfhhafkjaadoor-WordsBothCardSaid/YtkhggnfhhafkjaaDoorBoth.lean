/- The law WordsBoth answers true, for every two lists of fields. Condition: the listed package-level variables lie as the program lays them. -/
import Derived.Test.YtkhggnfhhafkjaaDoorBothP
import Derived.Test.YtkhggnfhhafkjaaDoorJoins
namespace Go.Proofs
namespace YtkhggnfhhafkjaaDoor
open Go.RowKit

theorem fc_one (fs : List Fld) : ∀ u ∈ fc fs, u.oneCell' = true := by
  intro u hu
  unfold fc at hu
  rw [List.mem_flatMap] at hu
  obtain ⟨f, _, hf⟩ := hu
  simp only [List.mem_cons, List.not_mem_nil, or_false] at hf
  rcases hf with rfl | rfl <;> rfl
theorem fc_append (l m : List Fld) : fc (l ++ m) = fc l ++ fc m := by simp [fc]
theorem push_fields {ops : Array Oper} {rest : List Oper} {o : Oper} {a : Act} {Q : Exit → Act → World → Prop} {W w : World} {v vg : Value} {fs gs : List Fld} (hown : FRow w.heap.size W v fs) (hB : Below w.heap.size w W) (hg : FAt w vg gs) (hne : gs ≠ []) (hgd : o.guard = none) (s x : Operand)
    (ho : o.op = .call { callee := .builtin .append, args := #[s, x], argTypes := #[32, 32] }) (hs : a.eval s = v) (hx : a.eval x = vg) (hl : fs.length + gs.length ≤ 1000000)
    (h : ∀ v' W', FRow w.heap.size W' v' (fs ++ gs) → Below w.heap.size w W' → wpList Tryd.prog ops Q rest (a.put o.dst v') W') : wpList Tryd.prog ops Q (o :: rest) a W := by
  obtain ⟨i0, hi, hz0, hz1, hz2⟩ := info_parts info50
  obtain ⟨A, cap, rfl, hA⟩ := hg
  have hpos : 0 < gs.length := List.length_pos_iff.2 hne
  obtain ⟨b, off, rfl, hc⟩ := hA hpos
  refine wpList_append_own _ hgd s x 32 ho w.heap.size 50 i0 _ 2 24 Tryd.underlying32 hi hz0 hz1 hz2 rfl (by decide) v fs.length (fc fs) hs hown ⟨b, off, none⟩ gs.length cap (fc gs) hx (fc_length gs) ?_ (fc_one gs) ?_ ?_ ?_ ?_
  · intro j u hj
    have h1 := hc j u hj
    have e : (⟨b, off, none⟩ : Addr).add j = ⟨b, off + j, none⟩ := by simp [Addr.add]
    rw [e]
    exact (hB.cell (cell_lt h1)).trans h1
  · unfold maxLen; omega
  · omega
  · exact hB.size
  · intro v' W' h1 h2 _
    refine h v' W' ?_ ?_
    · unfold FRow; rw [fc_append, List.length_append]; exact h1
    · exact hB.grown h2 hB.size (fun k hk => (hown.lt k hk).1)
theorem empty_row {W w : World} (hB : Below w.heap.size w W) : FRow w.heap.size (W.alloc (.cells #[] 50)) (.slice (some ⟨W.heap.size, 0, none⟩) 0 0) [] := by
  refine ⟨rfl, .inr ⟨W.heap.size, 0, #[], rfl, hB.size, heap_alloc_new W _, Nat.le_refl _, by unfold maxLen; omega, by simp, rfl⟩⟩
theorem joinF_code (l : List Fld) : (joinF l).2 = 0 ∨ (joinF l).2 = 3 ∨ (joinF l).2 = 6 := by
  unfold joinF
  split
  · exact .inr (.inl rfl)
  · split
    · exact .inr (.inl rfl)
    · split
      · exact .inr (.inr rfl)
      · split
        · exact .inr (.inl rfl)
        · exact .inl rfl

theorem cat3 (a b : List UInt8) : ((⟨a.toArray⟩ : ByteArray) ++ (⟨#[32]⟩ : ByteArray) ++ (⟨b.toArray⟩ : ByteArray)).toList = a ++ 32 :: b := by
  rw [ByteArray.toList_eq]
  simp [ByteArray.data_append]
theorem side1 {l : List Fld} (h : l.length ≤ 70) : ([] : List Fld).length + l.length ≤ 1000000 := by simp only [List.length_nil]; omega
theorem side2 {l m : List Fld} (h : l.length ≤ 70) (h2 : m.length ≤ 70) : ([] ++ l).length + m.length ≤ 1000000 := by simp only [List.nil_append]; omega
/-- what a call of the law's far answers -/
structure FarIs (w : World) (v : Value) (b : Bool) : Prop where
  call : Calls Tryd.prog 26 #[v] w fun e w' => e = .returned (.bool b) ∧ w = w'
/-- what a call of Join answers -/
structure JoinAt (W : World) (v : Value) (t : List UInt8) (e : Int) : Prop where
  call : Calls Tryd.prog 27 #[v] W fun r w' => r = .returned (.tuple #[.string ⟨t.toArray⟩, .int .i64 e]) ∧ Below W.heap.size W w'
theorem JoinAt.of {W : World} {v : Value} {fs : List Fld} (hE : EscLaid W) (hF : FAt W v fs) (hsz : ∀ (j : Nat) (f : Fld), fs[j]? = some f → f.1.length ≤ 1000000) : JoinAt W v (joinF fs).1 (joinF fs).2 := ⟨join27 v fs W hE hF hsz⟩

set_option maxRecDepth 100000 in
set_option maxHeartbeats 8000000 in
theorem both10_fa (v1 v2 : Value) (l m : List Fld) (w : World) (h1 : FAt w v1 l) (h2 : FAt w v2 m) (m1 : l.length ≤ 9223372036854775807) (m2 : m.length ≤ 9223372036854775807) (hL : Laid w) (h : farB l = true) :
    Calls Tryd.prog 10 #[v1, v2] w fun e w' => e = .returned (.bool true) ∧ Below w.heap.size w w' := by
  have HL := Lib.hid hL
  have FA : FarIs w v1 (farB l) := ⟨far26 v1 l w h1 m1⟩
  have FB : FarIs w v2 (farB m) := ⟨far26 v2 m w h2 m2⟩
  obtain ⟨A1, c1, rfl, -⟩ := h1
  obtain ⟨A2, c2, rfl, -⟩ := h2
  clear hL
  rw [h] at FA
  clear h
  generalize l.length = n1 at *
  generalize m.length = n2 at *
  go_enter Tryd.func10, Tryd.ntmps10
  go_wp2_with (first
    | (go_at_call 26; refine (FarIs.call (by assumption)).mono ?_; rintro e w' ⟨rfl, rfl⟩)
    | (go_at_call 12; refine (shown12x w _ HL (Below.refl _ _)).mono ?_; rintro e w1 ⟨rfl, hB1⟩))
  exact bodyPost_ret (v := .bool true) (by simp [results, Tryd.f10, go_sem]) rfl ⟨rfl, hB1⟩
set_option maxRecDepth 100000 in
set_option maxHeartbeats 8000000 in
theorem both10_fb (v1 v2 : Value) (l m : List Fld) (w : World) (h1 : FAt w v1 l) (h2 : FAt w v2 m) (m1 : l.length ≤ 9223372036854775807) (m2 : m.length ≤ 9223372036854775807) (hL : Laid w) (ha : farB l = false) (h : farB m = true) :
    Calls Tryd.prog 10 #[v1, v2] w fun e w' => e = .returned (.bool true) ∧ Below w.heap.size w w' := by
  have HL := Lib.hid hL
  have FA : FarIs w v1 (farB l) := ⟨far26 v1 l w h1 m1⟩
  have FB : FarIs w v2 (farB m) := ⟨far26 v2 m w h2 m2⟩
  obtain ⟨A1, c1, rfl, -⟩ := h1
  obtain ⟨A2, c2, rfl, -⟩ := h2
  clear hL
  rw [ha] at FA
  rw [h] at FB
  clear h ha
  generalize l.length = n1 at *
  generalize m.length = n2 at *
  go_enter Tryd.func10, Tryd.ntmps10
  go_wp2_with (first
    | (go_at_call 26; refine (FarIs.call (by assumption)).mono ?_; rintro e w' ⟨rfl, rfl⟩)
    | (go_at_call 12; refine (shown12x w _ HL (Below.refl _ _)).mono ?_; rintro e w1 ⟨rfl, hB1⟩))
  exact bodyPost_ret (v := .bool true) (by simp [results, Tryd.f10, go_sem]) rfl ⟨rfl, hB1⟩
set_option maxRecDepth 100000 in
set_option maxHeartbeats 8000000 in
theorem both10_la (v1 v2 : Value) (l m : List Fld) (w : World) (h1 : FAt w v1 l) (h2 : FAt w v2 m) (m1 : l.length ≤ 9223372036854775807) (m2 : m.length ≤ 9223372036854775807) (hL : Laid w) (ha : farB l = false) (hb : farB m = false) (h : l.length = 0) :
    Calls Tryd.prog 10 #[v1, v2] w fun e w' => e = .returned (.bool true) ∧ Below w.heap.size w w' := by
  have HL := Lib.hid hL
  have FA : FarIs w v1 (farB l) := ⟨far26 v1 l w h1 m1⟩
  have FB : FarIs w v2 (farB m) := ⟨far26 v2 m w h2 m2⟩
  obtain ⟨A1, c1, rfl, -⟩ := h1
  obtain ⟨A2, c2, rfl, -⟩ := h2
  clear hL
  rw [ha] at FA
  rw [hb] at FB
  generalize l.length = n1 at *
  generalize m.length = n2 at *
  subst h
  clear hb ha
  go_enter Tryd.func10, Tryd.ntmps10
  go_wp2_with (first
    | (go_at_call 26; refine (FarIs.call (by assumption)).mono ?_; rintro e w' ⟨rfl, rfl⟩)
    | (go_at_call 12; refine (shown12x w _ HL (Below.refl _ _)).mono ?_; rintro e w1 ⟨rfl, hB1⟩))
  exact bodyPost_ret (v := .bool true) (by simp [results, Tryd.f10, go_sem]) rfl ⟨rfl, hB1⟩
set_option maxRecDepth 100000 in
set_option maxHeartbeats 8000000 in
theorem both10_lb (v1 v2 : Value) (l m : List Fld) (w : World) (h1 : FAt w v1 l) (h2 : FAt w v2 m) (m1 : l.length ≤ 9223372036854775807) (m2 : m.length ≤ 9223372036854775807) (hL : Laid w) (ha : farB l = false) (hb : farB m = false) (h0 : l.length ≠ 0) (h : m.length = 0) :
    Calls Tryd.prog 10 #[v1, v2] w fun e w' => e = .returned (.bool true) ∧ Below w.heap.size w w' := by
  have HL := Lib.hid hL
  have FA : FarIs w v1 (farB l) := ⟨far26 v1 l w h1 m1⟩
  have FB : FarIs w v2 (farB m) := ⟨far26 v2 m w h2 m2⟩
  obtain ⟨A1, c1, rfl, -⟩ := h1
  obtain ⟨A2, c2, rfl, -⟩ := h2
  clear hL
  rw [ha] at FA
  rw [hb] at FB
  generalize l.length = n1 at *
  generalize m.length = n2 at *
  subst h
  have q1 : ((n1 : Int) == 0) = false := beq_eq_false_iff_ne.2 (by omega)
  clear hb ha h0
  go_enter Tryd.func10, Tryd.ntmps10
  go_wp2_with (first
    | (go_at_call 26; refine (FarIs.call (by assumption)).mono ?_; rintro e w' ⟨rfl, rfl⟩)
    | (go_at_call 12; refine (shown12x w _ HL (Below.refl _ _)).mono ?_; rintro e w1 ⟨rfl, hB1⟩))
  exact bodyPost_ret (v := .bool true) (by simp [results, Tryd.f10, go_sem]) rfl ⟨rfl, hB1⟩
set_option maxRecDepth 100000 in
set_option maxHeartbeats 8000000 in
theorem both10_ea (v1 v2 : Value) (l m : List Fld) (w : World) (h1 : FAt w v1 l) (h2 : FAt w v2 m) (m1 : l.length ≤ 9223372036854775807) (m2 : m.length ≤ 9223372036854775807) (hL : Laid w) (hf1 : farB l = false) (hf2 : farB m = false) (hl0 : l ≠ []) (hm0 : m ≠ []) (hbad : (joinF l).2 ≠ 0) :
    Calls Tryd.prog 10 #[v1, v2] w fun e w' => e = .returned (.bool true) ∧ Below w.heap.size w w' := by
  have HL := Lib.hid hL
  have FA : FarIs w v1 (farB l) := ⟨far26 v1 l w h1 m1⟩
  have FB : FarIs w v2 (farB m) := ⟨far26 v2 m w h2 m2⟩
  rw [hf1] at FA
  rw [hf2] at FB
  have b1 := farB_false hf1
  have b2 := farB_false hf2
  have s1 : ∀ (j : Nat) (f : Fld), l[j]? = some f → f.1.length ≤ 1000000 := fun j f hj => Nat.le_trans (b1.2 j f hj) (by omega)
  have s2 : ∀ (j : Nat) (f : Fld), m[j]? = some f → f.1.length ≤ 1000000 := fun j f hj => Nat.le_trans (b2.2 j f hj) (by omega)
  have s3 : ∀ (j : Nat) (f : Fld), (l ++ m)[j]? = some f → f.1.length ≤ 1000000 := fun j f hj => by
    rcases List.mem_append.1 (List.mem_of_getElem? hj) with h | h
    · obtain ⟨k, hk⟩ := List.getElem?_of_mem h
      exact s1 k f hk
    · obtain ⟨k, hk⟩ := List.getElem?_of_mem h
      exact s2 k f hk
  have JA : JoinAt w v1 (joinF l).1 (joinF l).2 := JoinAt.of hL.esc h1 s1
  have JB := Lib.hid (fun (W : World) (h : Below w.heap.size w W) => (show JoinAt W v2 (joinF m).1 (joinF m).2 from JoinAt.of (hL.esc.self h) (h2.below h) s2))
  have JC := Lib.hid (fun (v : Value) (W : World) (h : Below w.heap.size w W) (hr : FRow w.heap.size W v (l ++ m)) => (show JoinAt W v (joinF (l ++ m)).1 (joinF (l ++ m)).2 from JoinAt.of (hL.esc.self h) (FAt.of_own hr) s3))
  have R1 := Lib.hid h1
  have R2 := Lib.hid h2
  have HL0 := Lib.hid hl0
  have HM0 := Lib.hid hm0
  have hlen := Lib.hid b1.1
  have hlen2 := Lib.hid b2.1
  have hp1 := Lib.hid (List.length_pos_iff.2 hl0)
  have hp2 := Lib.hid (List.length_pos_iff.2 hm0)
  have E0 := Lib.hid (both_err l m hl0 hm0)
  have E1 := Lib.hid (both_many l m hl0 hm0)
  have E2 := Lib.hid (both_fine l m hl0 hm0)
  obtain ⟨A1, c1, rfl, -⟩ := h1
  obtain ⟨A2, c2, rfl, -⟩ := h2
  have q1 : ((l.length : Int) == 0) = false := beq_eq_false_iff_ne.2 (by have := hp1.out; omega)
  have q2 : ((m.length : Int) == 0) = false := beq_eq_false_iff_ne.2 (by have := hp2.out; omega)
  clear hL hf1 hf2 b1 b2 s1 s2 s3 hl0 hm0 m1 m2
  skip
  generalize joinF l = P1 at *
  generalize joinF m = P2 at *
  generalize joinF (l ++ m) = P3 at *
  obtain ⟨t1, e1⟩ := P1
  obtain ⟨t2, e2⟩ := P2
  obtain ⟨t3, e3⟩ := P3
  dsimp only at JA JB JC
  have q3 : e3 ≠ 0 := E0.out (.inl hbad)
  have x1 : (e1 != 0) = true := by simpa using hbad
  have x2 : (e1 == 0) = false := by simpa using hbad
  have x3 : (e3 != 0) = true := by simpa using q3
  have x4 : (e3 == 0) = false := by simpa using q3
  clear hbad q3 E0 E1 E2
  go_enter Tryd.func10, Tryd.ntmps10
  go_wp2_with (first
    | (go_at_call 26; refine (FarIs.call (by assumption)).mono ?_; rintro e w' ⟨rfl, rfl⟩)
    | (go_at_call 27; refine (JoinAt.call (by assumption)).mono ?_; rintro e wx ⟨rfl, hbx⟩
       first
        | (have hB6 := below_end hB5 hbx)
        | (have hB2 := below_end hB1 hbx; have er := empty_row hB2; have hB3 := hB2.alloc hB2.size (.cells #[] 50))
        | (have hB1 : Below w.heap.size w wx := hbx; have J2 := JB.out _ hB1))
    | (at_builtin; first
        | (refine push_fields hr4 hB4 R2.out HM0.out rfl _ _ rfl rfl rfl (side2 hlen.out hlen2.out) ?_; intro v5 w5 hr5 hB5; have J3 := JC.out _ _ hB5 hr5)
        | (refine push_fields er hB3 R1.out HL0.out rfl _ _ rfl rfl rfl (side1 hlen.out) ?_; intro v4 w4 hr4 hB4))
    | (go_at_call 12; refine (shown12x w _ HL hB6).mono ?_; rintro e w7 ⟨rfl, hB7⟩))
  exact bodyPost_ret (v := .bool true) (by simp [results, Tryd.f10, go_sem]) rfl ⟨rfl, hB7⟩
set_option maxRecDepth 100000 in
set_option maxHeartbeats 8000000 in
theorem both10_eb (v1 v2 : Value) (l m : List Fld) (w : World) (h1 : FAt w v1 l) (h2 : FAt w v2 m) (m1 : l.length ≤ 9223372036854775807) (m2 : m.length ≤ 9223372036854775807) (hL : Laid w) (hf1 : farB l = false) (hf2 : farB m = false) (hl0 : l ≠ []) (hm0 : m ≠ []) (hz : (joinF l).2 = 0) (hbad : (joinF m).2 ≠ 0) :
    Calls Tryd.prog 10 #[v1, v2] w fun e w' => e = .returned (.bool true) ∧ Below w.heap.size w w' := by
  have HL := Lib.hid hL
  have FA : FarIs w v1 (farB l) := ⟨far26 v1 l w h1 m1⟩
  have FB : FarIs w v2 (farB m) := ⟨far26 v2 m w h2 m2⟩
  rw [hf1] at FA
  rw [hf2] at FB
  have b1 := farB_false hf1
  have b2 := farB_false hf2
  have s1 : ∀ (j : Nat) (f : Fld), l[j]? = some f → f.1.length ≤ 1000000 := fun j f hj => Nat.le_trans (b1.2 j f hj) (by omega)
  have s2 : ∀ (j : Nat) (f : Fld), m[j]? = some f → f.1.length ≤ 1000000 := fun j f hj => Nat.le_trans (b2.2 j f hj) (by omega)
  have s3 : ∀ (j : Nat) (f : Fld), (l ++ m)[j]? = some f → f.1.length ≤ 1000000 := fun j f hj => by
    rcases List.mem_append.1 (List.mem_of_getElem? hj) with h | h
    · obtain ⟨k, hk⟩ := List.getElem?_of_mem h
      exact s1 k f hk
    · obtain ⟨k, hk⟩ := List.getElem?_of_mem h
      exact s2 k f hk
  have JA : JoinAt w v1 (joinF l).1 (joinF l).2 := JoinAt.of hL.esc h1 s1
  have JB := Lib.hid (fun (W : World) (h : Below w.heap.size w W) => (show JoinAt W v2 (joinF m).1 (joinF m).2 from JoinAt.of (hL.esc.self h) (h2.below h) s2))
  have JC := Lib.hid (fun (v : Value) (W : World) (h : Below w.heap.size w W) (hr : FRow w.heap.size W v (l ++ m)) => (show JoinAt W v (joinF (l ++ m)).1 (joinF (l ++ m)).2 from JoinAt.of (hL.esc.self h) (FAt.of_own hr) s3))
  have R1 := Lib.hid h1
  have R2 := Lib.hid h2
  have HL0 := Lib.hid hl0
  have HM0 := Lib.hid hm0
  have hlen := Lib.hid b1.1
  have hlen2 := Lib.hid b2.1
  have hp1 := Lib.hid (List.length_pos_iff.2 hl0)
  have hp2 := Lib.hid (List.length_pos_iff.2 hm0)
  have E0 := Lib.hid (both_err l m hl0 hm0)
  have E1 := Lib.hid (both_many l m hl0 hm0)
  have E2 := Lib.hid (both_fine l m hl0 hm0)
  obtain ⟨A1, c1, rfl, -⟩ := h1
  obtain ⟨A2, c2, rfl, -⟩ := h2
  have q1 : ((l.length : Int) == 0) = false := beq_eq_false_iff_ne.2 (by have := hp1.out; omega)
  have q2 : ((m.length : Int) == 0) = false := beq_eq_false_iff_ne.2 (by have := hp2.out; omega)
  clear hL hf1 hf2 b1 b2 s1 s2 s3 hl0 hm0 m1 m2
  have HZ := Lib.hid hz
  clear hz
  generalize joinF l = P1 at *
  generalize joinF m = P2 at *
  generalize joinF (l ++ m) = P3 at *
  obtain ⟨t1, e1⟩ := P1
  obtain ⟨t2, e2⟩ := P2
  obtain ⟨t3, e3⟩ := P3
  dsimp only at JA JB JC
  have q3 : e3 ≠ 0 := E0.out (.inr hbad)
  obtain rfl : e1 = 0 := HZ.out
  have x1 : (e2 != 0) = true := by simpa using hbad
  have x2 : (e2 == 0) = false := by simpa using hbad
  have x3 : (e3 != 0) = true := by simpa using q3
  have x4 : (e3 == 0) = false := by simpa using q3
  clear hbad q3 E0 E1 E2
  go_enter Tryd.func10, Tryd.ntmps10
  go_wp2_with (first
    | (go_at_call 26; refine (FarIs.call (by assumption)).mono ?_; rintro e w' ⟨rfl, rfl⟩)
    | (go_at_call 27; refine (JoinAt.call (by assumption)).mono ?_; rintro e wx ⟨rfl, hbx⟩
       first
        | (have hB6 := below_end hB5 hbx)
        | (have hB2 := below_end hB1 hbx; have er := empty_row hB2; have hB3 := hB2.alloc hB2.size (.cells #[] 50))
        | (have hB1 : Below w.heap.size w wx := hbx; have J2 := JB.out _ hB1))
    | (at_builtin; first
        | (refine push_fields hr4 hB4 R2.out HM0.out rfl _ _ rfl rfl rfl (side2 hlen.out hlen2.out) ?_; intro v5 w5 hr5 hB5; have J3 := JC.out _ _ hB5 hr5)
        | (refine push_fields er hB3 R1.out HL0.out rfl _ _ rfl rfl rfl (side1 hlen.out) ?_; intro v4 w4 hr4 hB4))
    | (go_at_call 12; refine (shown12x w _ HL hB6).mono ?_; rintro e w7 ⟨rfl, hB7⟩))
  exact bodyPost_ret (v := .bool true) (by simp [results, Tryd.f10, go_sem]) rfl ⟨rfl, hB7⟩
set_option maxRecDepth 100000 in
set_option maxHeartbeats 8000000 in
theorem both10_64 (v1 v2 : Value) (l m : List Fld) (w : World) (h1 : FAt w v1 l) (h2 : FAt w v2 m) (m1 : l.length ≤ 9223372036854775807) (m2 : m.length ≤ 9223372036854775807) (hL : Laid w) (hf1 : farB l = false) (hf2 : farB m = false) (hl0 : l ≠ []) (hm0 : m ≠ []) (hz1 : (joinF l).2 = 0) (hz2 : (joinF m).2 = 0) (h64 : 64 < l.length + m.length) :
    Calls Tryd.prog 10 #[v1, v2] w fun e w' => e = .returned (.bool true) ∧ Below w.heap.size w w' := by
  have HL := Lib.hid hL
  have FA : FarIs w v1 (farB l) := ⟨far26 v1 l w h1 m1⟩
  have FB : FarIs w v2 (farB m) := ⟨far26 v2 m w h2 m2⟩
  rw [hf1] at FA
  rw [hf2] at FB
  have b1 := farB_false hf1
  have b2 := farB_false hf2
  have s1 : ∀ (j : Nat) (f : Fld), l[j]? = some f → f.1.length ≤ 1000000 := fun j f hj => Nat.le_trans (b1.2 j f hj) (by omega)
  have s2 : ∀ (j : Nat) (f : Fld), m[j]? = some f → f.1.length ≤ 1000000 := fun j f hj => Nat.le_trans (b2.2 j f hj) (by omega)
  have s3 : ∀ (j : Nat) (f : Fld), (l ++ m)[j]? = some f → f.1.length ≤ 1000000 := fun j f hj => by
    rcases List.mem_append.1 (List.mem_of_getElem? hj) with h | h
    · obtain ⟨k, hk⟩ := List.getElem?_of_mem h
      exact s1 k f hk
    · obtain ⟨k, hk⟩ := List.getElem?_of_mem h
      exact s2 k f hk
  have JA : JoinAt w v1 (joinF l).1 (joinF l).2 := JoinAt.of hL.esc h1 s1
  have JB := Lib.hid (fun (W : World) (h : Below w.heap.size w W) => (show JoinAt W v2 (joinF m).1 (joinF m).2 from JoinAt.of (hL.esc.self h) (h2.below h) s2))
  have JC := Lib.hid (fun (v : Value) (W : World) (h : Below w.heap.size w W) (hr : FRow w.heap.size W v (l ++ m)) => (show JoinAt W v (joinF (l ++ m)).1 (joinF (l ++ m)).2 from JoinAt.of (hL.esc.self h) (FAt.of_own hr) s3))
  have R1 := Lib.hid h1
  have R2 := Lib.hid h2
  have HL0 := Lib.hid hl0
  have HM0 := Lib.hid hm0
  have hlen := Lib.hid b1.1
  have hlen2 := Lib.hid b2.1
  have hp1 := Lib.hid (List.length_pos_iff.2 hl0)
  have hp2 := Lib.hid (List.length_pos_iff.2 hm0)
  have E0 := Lib.hid (both_err l m hl0 hm0)
  have E1 := Lib.hid (both_many l m hl0 hm0)
  have E2 := Lib.hid (both_fine l m hl0 hm0)
  obtain ⟨A1, c1, rfl, -⟩ := h1
  obtain ⟨A2, c2, rfl, -⟩ := h2
  have q1 : ((l.length : Int) == 0) = false := beq_eq_false_iff_ne.2 (by have := hp1.out; omega)
  have q2 : ((m.length : Int) == 0) = false := beq_eq_false_iff_ne.2 (by have := hp2.out; omega)
  clear hL hf1 hf2 b1 b2 s1 s2 s3 hl0 hm0 m1 m2
  have e3 := E1.out hz1 hz2 (.inl h64)
  rw [e3] at JC
  clear e3
  have tl1 : (joinF l).1.length ≤ 8192 := by obtain ⟨_, _, _, d, e⟩ := joinF_ok hz1; rw [e]; exact d
  have tl2 : (joinF m).1.length ≤ 8192 := by obtain ⟨_, _, _, d, e⟩ := joinF_ok hz2; rw [e]; exact d
  have HZ1 := Lib.hid hz1
  have HZ2 := Lib.hid hz2
  clear hz1 hz2
  generalize joinF l = P1 at *
  generalize joinF m = P2 at *
  obtain ⟨t1, e1⟩ := P1
  obtain ⟨t2, e2⟩ := P2
  dsimp only at JA JB JC
  obtain rfl : e1 = 0 := HZ1.out
  obtain rfl : e2 = 0 := HZ2.out
  have q4 : decide ((64 : Int) < (l.length : Int) + (m.length : Int)) = true := decide_eq_true (by omega)
  clear E0 E1 E2 h64
  have ll1 := hlen.out
  have ll2 := hlen2.out
  dsimp only at tl1 tl2
  go_enter Tryd.func10, Tryd.ntmps10
  go_wp2_with (first
    | (go_at_call 26; refine (FarIs.call (by assumption)).mono ?_; rintro e w' ⟨rfl, rfl⟩)
    | (go_at_call 27; refine (JoinAt.call (by assumption)).mono ?_; rintro e wx ⟨rfl, hbx⟩
       first
        | (have hB6 := below_end hB5 hbx)
        | (have hB2 := below_end hB1 hbx; have er := empty_row hB2; have hB3 := hB2.alloc hB2.size (.cells #[] 50))
        | (have hB1 : Below w.heap.size w wx := hbx; have J2 := JB.out _ hB1))
    | (at_builtin; first
        | (refine push_fields hr4 hB4 R2.out HM0.out rfl _ _ rfl rfl rfl (side2 hlen.out hlen2.out) ?_; intro v5 w5 hr5 hB5; have J3 := JC.out _ _ hB5 hr5)
        | (refine push_fields er hB3 R1.out HL0.out rfl _ _ rfl rfl rfl (side1 hlen.out) ?_; intro v4 w4 hr4 hB4))
    | (go_at_call 12; refine (shown12x w _ HL hB6).mono ?_; rintro e w7 ⟨rfl, hB7⟩))
  exact bodyPost_ret (v := .bool true) (by simp [results, Tryd.f10, go_sem]) rfl ⟨rfl, hB7⟩
set_option maxRecDepth 100000 in
set_option maxHeartbeats 8000000 in
theorem both10_long (v1 v2 : Value) (l m : List Fld) (w : World) (h1 : FAt w v1 l) (h2 : FAt w v2 m) (m1 : l.length ≤ 9223372036854775807) (m2 : m.length ≤ 9223372036854775807) (hL : Laid w) (hf1 : farB l = false) (hf2 : farB m = false) (hl0 : l ≠ []) (hm0 : m ≠ []) (hz1 : (joinF l).2 = 0) (hz2 : (joinF m).2 = 0) (h64 : ¬ 64 < l.length + m.length) (hlong : 8192 < (joinF l).1.length + 1 + (joinF m).1.length) :
    Calls Tryd.prog 10 #[v1, v2] w fun e w' => e = .returned (.bool true) ∧ Below w.heap.size w w' := by
  have HL := Lib.hid hL
  have FA : FarIs w v1 (farB l) := ⟨far26 v1 l w h1 m1⟩
  have FB : FarIs w v2 (farB m) := ⟨far26 v2 m w h2 m2⟩
  rw [hf1] at FA
  rw [hf2] at FB
  have b1 := farB_false hf1
  have b2 := farB_false hf2
  have s1 : ∀ (j : Nat) (f : Fld), l[j]? = some f → f.1.length ≤ 1000000 := fun j f hj => Nat.le_trans (b1.2 j f hj) (by omega)
  have s2 : ∀ (j : Nat) (f : Fld), m[j]? = some f → f.1.length ≤ 1000000 := fun j f hj => Nat.le_trans (b2.2 j f hj) (by omega)
  have s3 : ∀ (j : Nat) (f : Fld), (l ++ m)[j]? = some f → f.1.length ≤ 1000000 := fun j f hj => by
    rcases List.mem_append.1 (List.mem_of_getElem? hj) with h | h
    · obtain ⟨k, hk⟩ := List.getElem?_of_mem h
      exact s1 k f hk
    · obtain ⟨k, hk⟩ := List.getElem?_of_mem h
      exact s2 k f hk
  have JA : JoinAt w v1 (joinF l).1 (joinF l).2 := JoinAt.of hL.esc h1 s1
  have JB := Lib.hid (fun (W : World) (h : Below w.heap.size w W) => (show JoinAt W v2 (joinF m).1 (joinF m).2 from JoinAt.of (hL.esc.self h) (h2.below h) s2))
  have JC := Lib.hid (fun (v : Value) (W : World) (h : Below w.heap.size w W) (hr : FRow w.heap.size W v (l ++ m)) => (show JoinAt W v (joinF (l ++ m)).1 (joinF (l ++ m)).2 from JoinAt.of (hL.esc.self h) (FAt.of_own hr) s3))
  have R1 := Lib.hid h1
  have R2 := Lib.hid h2
  have HL0 := Lib.hid hl0
  have HM0 := Lib.hid hm0
  have hlen := Lib.hid b1.1
  have hlen2 := Lib.hid b2.1
  have hp1 := Lib.hid (List.length_pos_iff.2 hl0)
  have hp2 := Lib.hid (List.length_pos_iff.2 hm0)
  have E0 := Lib.hid (both_err l m hl0 hm0)
  have E1 := Lib.hid (both_many l m hl0 hm0)
  have E2 := Lib.hid (both_fine l m hl0 hm0)
  obtain ⟨A1, c1, rfl, -⟩ := h1
  obtain ⟨A2, c2, rfl, -⟩ := h2
  have q1 : ((l.length : Int) == 0) = false := beq_eq_false_iff_ne.2 (by have := hp1.out; omega)
  have q2 : ((m.length : Int) == 0) = false := beq_eq_false_iff_ne.2 (by have := hp2.out; omega)
  clear hL hf1 hf2 b1 b2 s1 s2 s3 hl0 hm0 m1 m2
  have e3 := E1.out hz1 hz2 (.inr hlong)
  rw [e3] at JC
  clear e3
  have tl1 : (joinF l).1.length ≤ 8192 := by obtain ⟨_, _, _, d, e⟩ := joinF_ok hz1; rw [e]; exact d
  have tl2 : (joinF m).1.length ≤ 8192 := by obtain ⟨_, _, _, d, e⟩ := joinF_ok hz2; rw [e]; exact d
  have HZ1 := Lib.hid hz1
  have HZ2 := Lib.hid hz2
  clear hz1 hz2
  generalize joinF l = P1 at *
  generalize joinF m = P2 at *
  obtain ⟨t1, e1⟩ := P1
  obtain ⟨t2, e2⟩ := P2
  dsimp only at JA JB JC
  obtain rfl : e1 = 0 := HZ1.out
  obtain rfl : e2 = 0 := HZ2.out
  simp only at hlong
  have q4 : decide ((64 : Int) < (l.length : Int) + (m.length : Int)) = false := decide_eq_false (by omega)
  have q5 : decide ((8192 : Int) < (t1.length : Int) + 1 + (t2.length : Int)) = true := decide_eq_true (by omega)
  clear E0 E1 E2 h64 hlong
  have ll1 := hlen.out
  have ll2 := hlen2.out
  dsimp only at tl1 tl2
  go_enter Tryd.func10, Tryd.ntmps10
  go_wp2_with (first
    | (go_at_call 26; refine (FarIs.call (by assumption)).mono ?_; rintro e w' ⟨rfl, rfl⟩)
    | (go_at_call 27; refine (JoinAt.call (by assumption)).mono ?_; rintro e wx ⟨rfl, hbx⟩
       first
        | (have hB6 := below_end hB5 hbx)
        | (have hB2 := below_end hB1 hbx; have er := empty_row hB2; have hB3 := hB2.alloc hB2.size (.cells #[] 50))
        | (have hB1 : Below w.heap.size w wx := hbx; have J2 := JB.out _ hB1))
    | (at_builtin; first
        | (refine push_fields hr4 hB4 R2.out HM0.out rfl _ _ rfl rfl rfl (side2 hlen.out hlen2.out) ?_; intro v5 w5 hr5 hB5; have J3 := JC.out _ _ hB5 hr5)
        | (refine push_fields er hB3 R1.out HL0.out rfl _ _ rfl rfl rfl (side1 hlen.out) ?_; intro v4 w4 hr4 hB4))
    | (go_at_call 12; refine (shown12x w _ HL hB6).mono ?_; rintro e w7 ⟨rfl, hB7⟩))
  exact bodyPost_ret (v := .bool true) (by simp [results, Tryd.f10, go_sem]) rfl ⟨rfl, hB7⟩
set_option maxRecDepth 100000 in
set_option maxHeartbeats 8000000 in
theorem both10_fine (v1 v2 : Value) (l m : List Fld) (w : World) (h1 : FAt w v1 l) (h2 : FAt w v2 m) (m1 : l.length ≤ 9223372036854775807) (m2 : m.length ≤ 9223372036854775807) (hL : Laid w) (hf1 : farB l = false) (hf2 : farB m = false) (hl0 : l ≠ []) (hm0 : m ≠ []) (hz1 : (joinF l).2 = 0) (hz2 : (joinF m).2 = 0) (h64 : ¬ 64 < l.length + m.length) (hlong : ¬ 8192 < (joinF l).1.length + 1 + (joinF m).1.length) :
    Calls Tryd.prog 10 #[v1, v2] w fun e w' => e = .returned (.bool true) ∧ Below w.heap.size w w' := by
  have HL := Lib.hid hL
  have FA : FarIs w v1 (farB l) := ⟨far26 v1 l w h1 m1⟩
  have FB : FarIs w v2 (farB m) := ⟨far26 v2 m w h2 m2⟩
  rw [hf1] at FA
  rw [hf2] at FB
  have b1 := farB_false hf1
  have b2 := farB_false hf2
  have s1 : ∀ (j : Nat) (f : Fld), l[j]? = some f → f.1.length ≤ 1000000 := fun j f hj => Nat.le_trans (b1.2 j f hj) (by omega)
  have s2 : ∀ (j : Nat) (f : Fld), m[j]? = some f → f.1.length ≤ 1000000 := fun j f hj => Nat.le_trans (b2.2 j f hj) (by omega)
  have s3 : ∀ (j : Nat) (f : Fld), (l ++ m)[j]? = some f → f.1.length ≤ 1000000 := fun j f hj => by
    rcases List.mem_append.1 (List.mem_of_getElem? hj) with h | h
    · obtain ⟨k, hk⟩ := List.getElem?_of_mem h
      exact s1 k f hk
    · obtain ⟨k, hk⟩ := List.getElem?_of_mem h
      exact s2 k f hk
  have JA : JoinAt w v1 (joinF l).1 (joinF l).2 := JoinAt.of hL.esc h1 s1
  have JB := Lib.hid (fun (W : World) (h : Below w.heap.size w W) => (show JoinAt W v2 (joinF m).1 (joinF m).2 from JoinAt.of (hL.esc.self h) (h2.below h) s2))
  have JC := Lib.hid (fun (v : Value) (W : World) (h : Below w.heap.size w W) (hr : FRow w.heap.size W v (l ++ m)) => (show JoinAt W v (joinF (l ++ m)).1 (joinF (l ++ m)).2 from JoinAt.of (hL.esc.self h) (FAt.of_own hr) s3))
  have R1 := Lib.hid h1
  have R2 := Lib.hid h2
  have HL0 := Lib.hid hl0
  have HM0 := Lib.hid hm0
  have hlen := Lib.hid b1.1
  have hlen2 := Lib.hid b2.1
  have hp1 := Lib.hid (List.length_pos_iff.2 hl0)
  have hp2 := Lib.hid (List.length_pos_iff.2 hm0)
  have E0 := Lib.hid (both_err l m hl0 hm0)
  have E1 := Lib.hid (both_many l m hl0 hm0)
  have E2 := Lib.hid (both_fine l m hl0 hm0)
  obtain ⟨A1, c1, rfl, -⟩ := h1
  obtain ⟨A2, c2, rfl, -⟩ := h2
  have q1 : ((l.length : Int) == 0) = false := beq_eq_false_iff_ne.2 (by have := hp1.out; omega)
  have q2 : ((m.length : Int) == 0) = false := beq_eq_false_iff_ne.2 (by have := hp2.out; omega)
  clear hL hf1 hf2 b1 b2 s1 s2 s3 hl0 hm0 m1 m2
  have e3 := E2.out hz1 hz2 (by omega)
  rw [e3] at JC
  clear e3
  have tl1 : (joinF l).1.length ≤ 8192 := by obtain ⟨_, _, _, d, e⟩ := joinF_ok hz1; rw [e]; exact d
  have tl2 : (joinF m).1.length ≤ 8192 := by obtain ⟨_, _, _, d, e⟩ := joinF_ok hz2; rw [e]; exact d
  have HZ1 := Lib.hid hz1
  have HZ2 := Lib.hid hz2
  clear hz1 hz2
  generalize joinF l = P1 at *
  generalize joinF m = P2 at *
  obtain ⟨t1, e1⟩ := P1
  obtain ⟨t2, e2⟩ := P2
  dsimp only at JA JB JC
  obtain rfl : e1 = 0 := HZ1.out
  obtain rfl : e2 = 0 := HZ2.out
  simp only at hlong
  have q4 : decide ((64 : Int) < (l.length : Int) + (m.length : Int)) = false := decide_eq_false (by omega)
  have q5 : decide ((8192 : Int) < (t1.length : Int) + 1 + (t2.length : Int)) = false := decide_eq_false (by omega)
  clear E0 E1 E2 h64 hlong
  have ll1 := hlen.out
  have ll2 := hlen2.out
  dsimp only at tl1 tl2
  have cat := cat3 t1 t2
  go_enter Tryd.func10, Tryd.ntmps10
  go_wp2_with (first
    | (go_at_call 26; refine (FarIs.call (by assumption)).mono ?_; rintro e w' ⟨rfl, rfl⟩)
    | (go_at_call 27; refine (JoinAt.call (by assumption)).mono ?_; rintro e wx ⟨rfl, hbx⟩
       first
        | (have hB6 := below_end hB5 hbx)
        | (have hB2 := below_end hB1 hbx; have er := empty_row hB2; have hB3 := hB2.alloc hB2.size (.cells #[] 50))
        | (have hB1 : Below w.heap.size w wx := hbx; have J2 := JB.out _ hB1))
    | (at_builtin; first
        | (refine push_fields hr4 hB4 R2.out HM0.out rfl _ _ rfl rfl rfl (side2 hlen.out hlen2.out) ?_; intro v5 w5 hr5 hB5; have J3 := JC.out _ _ hB5 hr5)
        | (refine push_fields er hB3 R1.out HL0.out rfl _ _ rfl rfl rfl (side1 hlen.out) ?_; intro v4 w4 hr4 hB4))
    | (go_at_call 12; refine (shown12x w _ HL hB6).mono ?_; rintro e w7 ⟨rfl, hB7⟩))
  exact bodyPost_ret (v := .bool true) (by simp [results, Tryd.f10, go_sem]) rfl ⟨rfl, hB7⟩
theorem both10 (v1 v2 : Value) (l m : List Fld) (w : World) (h1 : FAt w v1 l) (h2 : FAt w v2 m) (m1 : l.length ≤ 9223372036854775807) (m2 : m.length ≤ 9223372036854775807) (hL : Laid w) :
    Calls Tryd.prog 10 #[v1, v2] w fun e w' => e = .returned (.bool true) ∧ Below w.heap.size w w' := by
  by_cases ha : farB l = true
  · exact both10_fa v1 v2 l m w h1 h2 m1 m2 hL ha
  have ha : farB l = false := by simpa using ha
  by_cases hb : farB m = true
  · exact both10_fb v1 v2 l m w h1 h2 m1 m2 hL ha hb
  have hb : farB m = false := by simpa using hb
  by_cases hl : l.length = 0
  · exact both10_la v1 v2 l m w h1 h2 m1 m2 hL ha hb hl
  by_cases hm : m.length = 0
  · exact both10_lb v1 v2 l m w h1 h2 m1 m2 hL ha hb hl hm
  have hl0 : l ≠ [] := fun e => hl (by rw [e]; rfl)
  have hm0 : m ≠ [] := fun e => hm (by rw [e]; rfl)
  by_cases e1 : (joinF l).2 = 0
  · by_cases e2 : (joinF m).2 = 0
    · by_cases h64 : 64 < l.length + m.length
      · exact both10_64 v1 v2 l m w h1 h2 m1 m2 hL ha hb hl0 hm0 e1 e2 h64
      · by_cases hlong : 8192 < (joinF l).1.length + 1 + (joinF m).1.length
        · exact both10_long v1 v2 l m w h1 h2 m1 m2 hL ha hb hl0 hm0 e1 e2 h64 hlong
        · exact both10_fine v1 v2 l m w h1 h2 m1 m2 hL ha hb hl0 hm0 e1 e2 h64 hlong
    · exact both10_eb v1 v2 l m w h1 h2 m1 m2 hL ha hb hl0 hm0 e1 e2
  · exact both10_ea v1 v2 l m w h1 h2 m1 m2 hL ha hb hl0 hm0 e1
end YtkhggnfhhafkjaaDoor
end Go.Proofs
