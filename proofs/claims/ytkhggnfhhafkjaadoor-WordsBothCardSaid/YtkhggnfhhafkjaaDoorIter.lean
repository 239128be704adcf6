/- The iterator over the fields of a line. -/
import Derived.Test.YtkhggnfhhafkjaaDoorFldP
import Derived.Test.YtkhggnfhhafkjaaDoorRange
import Derived.RangeFuncNested
import Derived.Shelf.Abstract
import Derived.OwnWalkIn
import Derived.TacticsInMore
import Derived.LoopNIn
import Derived.LoopIn
import Derived.ScopeJumps
import Derived.Deep.Cut
namespace Go.Proofs
namespace YtkhggnfhhafkjaaDoor
open Go.RowKit

/-- As Q; by a goto: J at its label. -/
def jumpTo (J : Nat → Act → World → Prop) (Q : Exit → Act → World → Prop) : Exit → Act → World → Prop
  | .goto l, a, w => J l a w
  | e, a, w => Q e a w
/-- A scope whose labels are jumped to: what holds at each, and a measure that falls from jump to jump. -/
theorem scope_many {P : Program} {a : Act} {w : World} {Q : Exit → Act → World → Prop} {c : Code} (J : Nat → Act → World → Prop) (μ : Nat → Act → World → Nat) (first : c.wp P (jumpTo J Q) a w)
    (pass : ∀ l a w, J l a w → ∃ rest, findLabel c l = some rest ∧ rest.wp P (jumpTo (fun l' a' w' => J l' a' w' ∧ μ l' a' w' < μ l a w) Q) a w) : (Code.scope c).wp P Q a w := by
  intro b k cs
  have leave : ∀ (e : Exit) (a' : Act) (w' : World) (m : Machine), (∀ l, e ≠ .goto l) → Arrives P m b (.inScope c :: k) cs e a' w' → Arrives P m b k cs e a' w' := by
    intro e a' w' m he h
    cases e with
    | normal => exact Steps.trans h (.one step_inScope)
    | exit id => exact fun k' hk => h k' (by simp [exitTo, hk])
    | goto l => exact absurd rfl (he l)
    | ret => exact h
    | panic ch => exact h
    | outgrown => exact h
  have key : ∀ j l a w, μ l a w = j → J l a w → ∃ rest, findLabel c l = some rest ∧ ∃ e a' w', Q e a' w' ∧ Arrives P (lone (b.at a (.code rest :: .inScope c :: k)) cs w) b k cs e a' w' := by
    intro j
    induction j using Nat.strongRecOn with
    | _ j ih =>
      intro l a w hj hJ
      obtain ⟨rest, hf, hw⟩ := pass l a w hJ
      refine ⟨rest, hf, ?_⟩
      obtain ⟨e, a1, w1, hq, harr⟩ := hw b (.inScope c :: k) cs
      cases e with
      | goto l' =>
        obtain ⟨hJ', hlt⟩ := hq
        obtain ⟨rest', hf', e2, a2, w2, hq2, harr2⟩ := ih _ (by omega) l' a1 w1 rfl hJ'
        exact ⟨e2, a2, w2, hq2, .of_steps (harr _ (by simp [gotoIn, hf'])) harr2⟩
      | normal => exact ⟨_, a1, w1, hq, leave _ _ _ _ (by simp) harr⟩
      | exit id => exact ⟨_, a1, w1, hq, leave _ _ _ _ (by simp) harr⟩
      | ret => exact ⟨_, a1, w1, hq, leave _ _ _ _ (by simp) harr⟩
      | panic ch => exact ⟨_, a1, w1, hq, leave _ _ _ _ (by simp) harr⟩
      | outgrown => exact ⟨_, a1, w1, hq, leave _ _ _ _ (by simp) harr⟩
  obtain ⟨e, a1, w1, hq, harr⟩ := first b (.inScope c :: k) cs
  cases e with
  | goto l' =>
    obtain ⟨rest', hf', e2, a2, w2, hq2, harr2⟩ := key _ l' a1 w1 rfl hq
    exact ⟨e2, a2, w2, hq2, .of_steps (.head step_scope (harr _ (by simp [gotoIn, hf']))) harr2⟩
  | normal => exact ⟨_, a1, w1, hq, .of_steps (.one step_scope) (leave _ _ _ _ (by simp) harr)⟩
  | exit id => exact ⟨_, a1, w1, hq, .of_steps (.one step_scope) (leave _ _ _ _ (by simp) harr)⟩
  | ret => exact ⟨_, a1, w1, hq, .of_steps (.one step_scope) (leave _ _ _ _ (by simp) harr)⟩
  | panic ch => exact ⟨_, a1, w1, hq, .of_steps (.one step_scope) (leave _ _ _ _ (by simp) harr)⟩
  | outgrown => exact ⟨_, a1, w1, hq, .of_steps (.one step_scope) (leave _ _ _ _ (by simp) harr)⟩

def encI (x : Fld × Bool) : Array Value := #[.agg #[.string ⟨x.1.1.toArray⟩, .bool x.1.2], .bool x.2]
/-- the iterator's frame -/
def Fr (l Bl fb : Nat) (v4 v5 v6 : Value) (a : Act) : Prop := ∃ u2 u7 u8 u9 u10 u11 u12 u13 u14 u15 u16 u17 u18 u19 u20 u21 u22 u23 u24 u25 u26 u27 u28 u29 u30 u31 u32 u33 u34 u35 u36 u37 u38 u39 u40 u41 u42 u43 u44 u45 u46 u47 u48 u49 u50 u51 u52 u53 u54 u55 : Value, a = { tmps := #[.func (.yield l) #[] #[], .pointer (some ⟨Bl, 0, none⟩), u2, .pointer (some ⟨fb, 0, none⟩), v4, v5, v6, u7, u8, u9, u10, u11, u12, u13, u14, u15, u16, u17, u18, u19, u20, u21, u22, u23, u24, u25, u26, u27, u28, u29, u30, u31, u32, u33, u34, u35, u36, u37, u38, u39, u40, u41, u42, u43, u44, u45, u46, u47, u48, u49, u50, u51, u52, u53, u54, u55], defers := [] }
theorem Fr_mk {l Bl fb : Nat} {v4 v5 v6 u2 u7 u8 u9 u10 u11 u12 u13 u14 u15 u16 u17 u18 u19 u20 u21 u22 u23 u24 u25 u26 u27 u28 u29 u30 u31 u32 u33 u34 u35 u36 u37 u38 u39 u40 u41 u42 u43 u44 u45 u46 u47 u48 u49 u50 u51 u52 u53 u54 u55 : Value} : Fr l Bl fb v4 v5 v6 { tmps := #[.func (.yield l) #[] #[], .pointer (some ⟨Bl, 0, none⟩), u2, .pointer (some ⟨fb, 0, none⟩), v4, v5, v6, u7, u8, u9, u10, u11, u12, u13, u14, u15, u16, u17, u18, u19, u20, u21, u22, u23, u24, u25, u26, u27, u28, u29, u30, u31, u32, u33, u34, u35, u36, u37, u38, u39, u40, u41, u42, u43, u44, u45, u46, u47, u48, u49, u50, u51, u52, u53, u54, u55], defers := [] } := ⟨u2, u7, u8, u9, u10, u11, u12, u13, u14, u15, u16, u17, u18, u19, u20, u21, u22, u23, u24, u25, u26, u27, u28, u29, u30, u31, u32, u33, u34, u35, u36, u37, u38, u39, u40, u41, u42, u43, u44, u45, u46, u47, u48, u49, u50, u51, u52, u53, u54, u55, rfl⟩
def strSize : Value → Nat
  | .string t => t.size
  | _ => 0
def BoxIs (W : World) (fb : Nat) (c1 c2 : Value) : Prop := W.heap[fb]? = some (.cells #[c1, c2] 50 (0, 0))
theorem BoxIs.cells {W : World} {fb : Nat} {c1 c2 : Value} (h : BoxIs W fb c1 c2) : W.cell? ⟨fb, 0, none⟩ = some c1 ∧ W.cell? ⟨fb, 1, none⟩ = some c2 ∧ W.frozen? ⟨fb, 0, none⟩ = false ∧ W.frozen? ⟨fb, 1, none⟩ = false := by
  unfold BoxIs at h
  refine ⟨by rw [cell_of_row _ _ _ _ _ _ h]; rfl, by rw [cell_of_row _ _ _ _ _ _ h]; rfl, by simp [World.frozen?, h], by simp [World.frozen?, h]⟩
theorem BoxIs.set0 {W : World} {fb : Nat} {c1 c2 : Value} (v : Value) (h : BoxIs W fb c1 c2) : BoxIs (W.setCell ⟨fb, 0, none⟩ v) fb v c2 := by
  unfold BoxIs at *
  simp [World.setCell, Array.getElem?_modify, h]
theorem BoxIs.set1 {W : World} {fb : Nat} {c1 c2 : Value} (v : Value) (h : BoxIs W fb c1 c2) : BoxIs (W.setCell ⟨fb, 1, none⟩ v) fb c1 v := by
  unfold BoxIs at *
  simp [World.setCell, Array.getElem?_modify, h]
theorem BoxIs.below {W W' : World} {fb : Nat} {c1 c2 : Value} (h : BoxIs W fb c1 c2) (hb : Below W.heap.size W W') : BoxIs W' fb c1 c2 :=
  (hb.block fb (Array.getElem?_eq_some_iff.1 h).1).trans h
theorem grown_set (W : World) (fb i : Nat) (v : Value) : W.grownBy (W.setCell ⟨fb, i, none⟩ v) (some fb) :=
  ⟨rfl, rfl, rfl, by simp [World.setCell], fun k _ hk => Below.heap_setCell W ⟨fb, i, none⟩ v k (fun e => hk (by rw [e]))⟩

theorem ba_ext {a b : ByteArray} (h : a.data.toList = b.data.toList) : a = b := by
  obtain ⟨⟨a⟩⟩ := a
  obtain ⟨⟨b⟩⟩ := b
  simp only at h
  subst h
  rfl
theorem set_two {β : Type} {J : β → World → Prop} {fb : Nat} (hJ : ∀ pre W W', J pre W → W.grownBy W' (some fb) → J pre W') {pre : β} {W W1 : World} (h : J pre W) (hb : Below W.heap.size W W1) (v u : Value) :
    J pre ((W1.setCell ⟨fb, 0, none⟩ v).setCell ⟨fb, 1, none⟩ u) :=
  hJ _ _ _ (hJ _ _ _ (hJ _ _ _ h (grown_of_below hb (some fb))) (grown_set W1 fb 0 v)) (grown_set _ fb 1 u)
theorem set_one {β : Type} {J : β → World → Prop} {fb : Nat} (hJ : ∀ pre W W', J pre W → W.grownBy W' (some fb) → J pre W') {pre : β} {W : World} (h : J pre W) (i : Nat) (v : Value) :
    J pre (W.setCell ⟨fb, i, none⟩ v) := hJ _ _ _ h (grown_set W fb i v)
theorem size_set (W : World) (a : Addr) (v : Value) : (W.setCell a v).heap.size = W.heap.size := by simp [World.setCell]

/-- what holds between two yields -/
structure Com (items : List (Fld × Bool)) (J : List (Fld × Bool) → World → Prop) (N fb : Nat) (pre : List (Fld × Bool)) (t : ByteArray) (W : World) : Prop where
  inv : J pre W
  size : fb < W.heap.size
  box : ∃ c1 c2, BoxIs W fb c1 c2
  len : pre.length + t.size ≤ N
  rest : items = pre ++ fldsQ t.data.toList
def JJ (items : List (Fld × Bool)) (J : List (Fld × Bool) → World → Prop) (N l Bl fb : Nat) : Nat → Act → World → Prop
  | 1, a, W => ∃ pre t v4 v5, Fr l Bl fb v4 v5 (.string t) a ∧ Com items J N fb pre t W
  | 0, a, W => ∃ pre t v4 v5, Fr l Bl fb v4 v5 (.string t) a ∧ Com items J N fb pre t W ∧ t.data.toList.head? = some 34
  | 2, a, W => ∃ (pre : List (Fld × Bool)) (t : ByteArray) (S : List UInt8) (q : Bool) (n : Nat) (ok : Bool), Fr l Bl fb (.int .i64 n) (.bool ok) (.string t) a ∧ Com items J N fb pre t W ∧ BoxIs W fb (.string ⟨S.toArray⟩) (.bool q) ∧
      ((ok = true ∧ fieldAt t.data.toList = some ((S, q), t.data.toList.drop n) ∧ n ≤ t.size) ∨ (ok = false ∧ fieldAt t.data.toList = none ∧ n = 0))
  | _, _, _ => False
def mu (l : Nat) (a : Act) (_ : World) : Nat := 3 * strSize (a.tmps.getD 6 undef) + (if l = 1 then 2 else if l = 0 then 1 else 0)
theorem head_prefix (t : ByteArray) (w : World) : Calls Tryd.prog 64 #[.string t, .string ⟨#[34]⟩] w fun e w' => e = .returned (.bool (decide (t.data.toList.head? = some 34))) ∧ w = w' := prefix64 t w

set_option maxRecDepth 100000 in
set_option maxHeartbeats 4000000 in
theorem pass1 (P2 : Exit → Act → World → Prop) (items : List (Fld × Bool)) (J : List (Fld × Bool) → World → Prop) (N l Bl fb : Nat) (hN : N ≤ 1000000) (hJ : ∀ pre W W', J pre W → W.grownBy W' (some fb) → J pre W')
    (T1 : Code) (hT1 : findLabel (match Tryd.f69.body with | some (.scope c) => c | _ => .skip) 1 = some (.seq .skip T1)) (a : Act) (W : World) (h : JJ items J N l Bl fb 1 a W) :
    T1.wp Tryd.prog (jumpTo (fun l' a' w' => JJ items J N l Bl fb l' a' w' ∧ mu l' a' w' < mu 1 a W) P2) a W := by
  have hT3 : Code.seq .skip _ = Code.seq .skip T1 := Option.some.inj hT1
  injection hT3 with _ hT4
  subst hT4
  clear hT1
  obtain ⟨pre, t, v4, v5, ⟨u2, u7, u8, u9, u10, u11, u12, u13, u14, u15, u16, u17, u18, u19, u20, u21, u22, u23, u24, u25, u26, u27, u28, u29, u30, u31, u32, u33, u34, u35, u36, u37, u38, u39, u40, u41, u42, u43, u44, u45, u46, u47, u48, u49, u50, u51, u52, u53, u54, u55, rfl⟩, hc⟩ := h
  obtain ⟨hj, hsz, ⟨c1, c2, hbx⟩, hlen, hrest⟩ := hc
  have HR := Lib.hid hrest
  have HJ := Lib.hid hJ
  clear hrest hJ
  have ht : t.size ≤ 1000000 := by omega
  cases hp : decide (t.data.toList.head? = some 34) with
  | true =>
    have HP := Lib.hid hp
    clear hp
    go_wp2_with (go_at_call 64; refine (head_prefix _ _).mono ?_; rintro e w' ⟨rfl, rfl⟩; rw [HP.out])
    go_step3
    exact ⟨⟨pre, t, v4, v5, Fr_mk, ⟨hj, hsz, ⟨c1, c2, hbx⟩, hlen, HR.out⟩, of_decide_eq_true HP.out⟩, by simp [mu, strSize]⟩
  | false =>
    have HP := Lib.hid hp
    clear hp
    have hbn := bareN_le t.data.toList
    have hbn' : bareN t.data.toList ≤ t.size := by simpa using hbn
    have hcl := hbx.cells
    have F := Lib.hid (show fieldAt t.data.toList = if bareN t.data.toList = 0 then none else some ((t.data.toList.take (bareN t.data.toList), false), t.data.toList.drop (bareN t.data.toList)) by
      unfold fieldAt; rw [if_neg (of_decide_eq_false HP.out)])
    obtain ⟨m, hm⟩ : ∃ m, bareN t.data.toList = m := ⟨_, rfl⟩
    have B50 : ∀ w : World, Calls Tryd.prog 50 #[.string t] w fun e w' => e = .returned (.int .i64 (m : Int)) ∧ w = w' := fun w => by rw [← hm]; exact bare50 t w (by omega)
    rw [hm] at F hbn'
    have HB := Lib.hid B50
    clear hbn B50 hm
    have C70 : ∀ w : World, Calls Tryd.prog 70 #[.string (t.extract 0 m)] w fun e w' => e = .returned (.string ⟨(t.data.toList.take m).toArray⟩) ∧ Below w.heap.size w w' := fun w => by
      have e : t.extract 0 m = ⟨(t.data.toList.take m).toArray⟩ := ba_ext (by rw [Lib.extract_data]; simp)
      have hz : (t.extract 0 m).size ≤ 281474976710656 := by
        have : (t.extract 0 m).size ≤ t.size := by simp; omega
        omega
      rw [← e]
      exact clone70 _ w hz
    have HC := Lib.hid C70
    clear C70
    go_wp2_with (first
      | (go_at_call 64; refine (head_prefix _ _).mono ?_; rintro e w' ⟨rfl, rfl⟩; rw [HP.out])
      | (go_at_call 50; refine (HB.out _).mono ?_; rintro e w' ⟨rfl, rfl⟩)
      | (go_at_call 70; refine (HC.out _).mono ?_; rintro e W1 ⟨rfl, hb1⟩; have hbx1 := hbx.below hb1; have hc1 := hbx1.cells; have k1 := hc1.1; have k2 := hc1.2.1; have k3 := hc1.2.2.1; have k4 := hc1.2.2.2))
    go_step3
    refine ⟨⟨pre, t, t.data.toList.take m, false, m, decide (0 < m), Fr_mk, ⟨set_two HJ.out hj hb1 _ _, by rw [size_set, size_set]; exact Nat.lt_of_lt_of_le hsz hb1.size, ⟨_, _, (hbx1.set0 _).set1 _⟩, hlen, HR.out⟩, (hbx1.set0 _).set1 _, ?_⟩, by simp [mu, strSize]⟩
    by_cases hm0 : m = 0
    · exact .inr ⟨by simp [hm0], by rw [F.out, if_pos hm0], hm0⟩
    · exact .inl ⟨by simp; omega, by rw [F.out, if_neg hm0], hbn'⟩

set_option maxRecDepth 100000 in
set_option maxHeartbeats 4000000 in
theorem pass0 (P2 : Exit → Act → World → Prop) (items : List (Fld × Bool)) (J : List (Fld × Bool) → World → Prop) (N l Bl fb : Nat) (hN : N ≤ 1000000) (hJ : ∀ pre W W', J pre W → W.grownBy W' (some fb) → J pre W') (hG : ∀ pre W, J pre W → EscLaid W)
    (T2 : Code) (hT2 : findLabel (match Tryd.f69.body with | some (.scope c) => c | _ => .skip) 2 = some (.seq .skip T2)) (h2 : ∀ a W, JJ items J N l Bl fb 2 a W → T2.wp Tryd.prog (jumpTo (fun l' a' w' => JJ items J N l Bl fb l' a' w' ∧ mu l' a' w' < mu 2 a W) P2) a W)
    (a : Act) (W : World) (h : JJ items J N l Bl fb 0 a W) :
    ∃ rest, findLabel (match Tryd.f69.body with | some (.scope c) => c | _ => .skip) 0 = some rest ∧ rest.wp Tryd.prog (jumpTo (fun l' a' w' => JJ items J N l Bl fb l' a' w' ∧ mu l' a' w' < mu 0 a W) P2) a W := by
  obtain ⟨pre, t, v4, v5, ⟨u2, u7, u8, u9, u10, u11, u12, u13, u14, u15, u16, u17, u18, u19, u20, u21, u22, u23, u24, u25, u26, u27, u28, u29, u30, u31, u32, u33, u34, u35, u36, u37, u38, u39, u40, u41, u42, u43, u44, u45, u46, u47, u48, u49, u50, u51, u52, u53, u54, u55, rfl⟩, hc, hh⟩ := h
  obtain ⟨hj, hsz, ⟨c1, c2, hbx⟩, hlen, hrest⟩ := hc
  have hT3 : Code.seq .skip _ = Code.seq .skip T2 := Option.some.inj hT2
  injection hT3 with _ hT4
  subst hT4
  have HR := Lib.hid hrest
  have HJ := Lib.hid hJ
  have HE := Lib.hid (hG _ _ hj)
  have H2 := Lib.hid h2
  have HG := Lib.hid hG
  have HH := Lib.hid hh
  clear hrest hJ hh h2 hT2 hG
  have ht : t.size ≤ 1000000 := by omega
  have F := Lib.hid (show fieldAt t.data.toList = (takeQL t.data.toList).map fun p => ((p.1, true), t.data.toList.drop p.2) by unfold fieldAt; rw [if_pos HH.out])
  obtain ⟨k1, k2, k3, k4⟩ := hbx.cells
  refine ⟨_, rfl, ?_⟩
  cases hq : takeQL t.data.toList with
  | none =>
    have Q := Lib.hid hq
    clear hq
    have T44 : ∀ w : World, Hid (EscLaid w) → Calls Tryd.prog 44 #[.string t] w fun e w' => e = .returned (.tuple #[.string ⟨#[]⟩, .int .i64 0, .bool false]) ∧ Below w.heap.size w w' := fun w hw => by
      have := take44 t w hw.out (by omega)
      rw [Q.out] at this
      exact this
    have HT44 := Lib.hid T44
    clear T44
    have hw2 : ∀ v u : Value, Hid (EscLaid ((W.setCell ⟨fb, 0, none⟩ v).setCell ⟨fb, 1, none⟩ u)) := fun v u => Lib.hid (HG.out _ _ (set_two HJ.out hj (Below.refl _ _) v u))
    have HW2 := Lib.hid hw2
    clear hw2
    go_wp2_with (go_at_call 44; refine (HT44.out _ (HW2.out _ _)).mono ?_; rintro e W1 ⟨rfl, hb1⟩; have hbx1 := ((hbx.set0 _).set1 _).below hb1; have hc1 := hbx1.cells; have m1 := hc1.1; have m2 := hc1.2.1; have m3 := hc1.2.2.1; have m4 := hc1.2.2.2)
    go_step3
    rename_i hK
    have hj1 := HJ.out _ _ _ (set_two HJ.out hj (Below.refl _ _) _ _) (grown_of_below hb1 (some fb))
    refine hK _ _ ?_
    refine wp_mono (H2.out _ _ ?_) ?_
    refine ⟨pre, t, [], true, 0, false, Fr_mk, ⟨set_one HJ.out hj1 _ _, by rw [size_set]; exact Nat.lt_of_lt_of_le (by rw [size_set, size_set]; exact hsz) hb1.size, ⟨_, _, hbx1.set0 _⟩, hlen, HR.out⟩, hbx1.set0 _, .inr ⟨rfl, by rw [F.out, Q.out]; rfl, rfl⟩⟩
    intro e a' w' he
    cases e with
    | goto l' => exact ⟨he.1, Nat.lt_trans he.2 (by simp [mu, strSize])⟩
    | normal => exact he
    | exit id => exact he
    | ret => exact he
    | panic ch => exact he
    | outgrown => exact he
  | some p =>
    obtain ⟨S, n⟩ := p
    have hbd := takeQL_bound hq
    have hnt : n ≤ t.size := by have := hbd.2.1; simpa using this
    have Q := Lib.hid hq
    clear hq hbd
    have T44 : ∀ w : World, Hid (EscLaid w) → Calls Tryd.prog 44 #[.string t] w fun e w' => e = .returned (.tuple #[.string ⟨S.toArray⟩, .int .i64 (n : Int), .bool true]) ∧ Below w.heap.size w w' := fun w hw => by
      have := take44 t w hw.out (by omega)
      rw [Q.out] at this
      exact this
    have HT44 := Lib.hid T44
    clear T44
    have hw2 : ∀ v u : Value, Hid (EscLaid ((W.setCell ⟨fb, 0, none⟩ v).setCell ⟨fb, 1, none⟩ u)) := fun v u => Lib.hid (HG.out _ _ (set_two HJ.out hj (Below.refl _ _) v u))
    have HW2 := Lib.hid hw2
    clear hw2
    go_wp2_with (go_at_call 44; refine (HT44.out _ (HW2.out _ _)).mono ?_; rintro e W1 ⟨rfl, hb1⟩; have hbx1 := ((hbx.set0 _).set1 _).below hb1; have hc1 := hbx1.cells; have m1 := hc1.1; have m2 := hc1.2.1; have m3 := hc1.2.2.1; have m4 := hc1.2.2.2)
    go_step3
    rename_i hK
    have hj1 := HJ.out _ _ _ (set_two HJ.out hj (Below.refl _ _) _ _) (grown_of_below hb1 (some fb))
    refine hK _ _ ?_
    refine wp_mono (H2.out _ _ ?_) ?_
    refine ⟨pre, t, S, true, n, true, Fr_mk, ⟨set_one HJ.out hj1 _ _, by rw [size_set]; exact Nat.lt_of_lt_of_le (by rw [size_set, size_set]; exact hsz) hb1.size, ⟨_, _, hbx1.set0 _⟩, hlen, HR.out⟩, hbx1.set0 _, .inl ⟨rfl, by rw [F.out, Q.out]; rfl, hnt⟩⟩
    intro e a' w' he
    cases e with
    | goto l' => exact ⟨he.1, Nat.lt_trans he.2 (by simp [mu, strSize])⟩
    | normal => exact he
    | exit id => exact he
    | ret => exact he
    | panic ch => exact he
    | outgrown => exact he
end YtkhggnfhhafkjaaDoor
end Go.Proofs
