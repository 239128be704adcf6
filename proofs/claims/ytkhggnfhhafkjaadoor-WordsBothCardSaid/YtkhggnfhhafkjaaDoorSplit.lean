/- Split. -/
import Derived.Test.YtkhggnfhhafkjaaDoorSeq
import Derived.RangeFuncBox
import Derived.Maps.AppendAt
import Derived.Handy
namespace Go.Proofs
namespace YtkhggnfhhafkjaaDoor
open Go.RowKit
attribute [local go_sem] Oper.semAt_some

theorem fields48 (s : ByteArray) (w : World) : Calls Tryd.prog 48 #[.string s] w fun e w' => e = .returned (.func (.func 69) #[] #[.pointer (some ⟨w.heap.size, 0, none⟩)]) ∧ w' = w.alloc (.cells #[.string s] 9) := by
  go_enter Tryd.func48, Tryd.ntmps48
  go_wp2
  go_ret
  exact ⟨rfl, rfl⟩

theorem fields_iter (n : Nat) (hn : 1 ≤ n) (s : ByteArray) (hs : s.size ≤ 1000000) (Bl b : Nat) (W : World) (hb : W.heap.size = b) (hl : W.cell? ⟨Bl, 0, none⟩ = some (.string s)) :
    IterBox n Tryd.prog 69 #[.pointer (some ⟨Bl, 0, none⟩)] encI EscLaid (fun xs => xs = items s.data.toList) (fun pre => pre <+: items s.data.toList) (s.size + 1) b W := by
  subst hb
  intro l J Jx hG hJ _ hY h0
  refine callsIn_wide.2 ((iter69 n hn s hs Bl l J Jx W hl hG hJ (fun pre x W1 h1 h2 h3 => hY pre x W1 h1 h2 h3) h0).mono fun e W' h => ?_)
  obtain ⟨hv, h⟩ := h
  refine ⟨hv, ?_⟩
  rcases h with h | ⟨pre, hp, h⟩
  · exact .inl ⟨_, rfl, h⟩
  · exact .inr ⟨pre, hp, h⟩

def good (pre : List (Fld × Bool)) : List Fld := pre.map (·.1)
def longB (fs : List Fld) : Bool := fs.any fun f => decide (2000 < f.1.length)
def fc (fs : List Fld) : List Value := fs.flatMap fun f => [.string ⟨f.1.toArray⟩, .bool f.2]
theorem fc_snoc (fs : List Fld) (f : Fld) : fc (fs ++ [f]) = fc fs ++ [.string ⟨f.1.toArray⟩, .bool f.2] := by simp [fc]
theorem fc_length (fs : List Fld) : (fc fs).length = fs.length * 2 := by
  induction fs with
  | nil => rfl
  | cons f r ih => simp only [fc, List.flatMap_cons, List.length_append, List.length_cons, List.length_nil] at *; omega
/-- the fields of a line, and the error -/
def splitF (l : List UInt8) : List Fld × Int :=
  if 8192 < l.length then ([], 3) else if (items l).all (·.2) = true then (if longB (good (items l)) = true ∨ 64 < (items l).length then ([], 3) else (good (items l), 0)) else ([], 6)

theorem info50 : (Tryd.prog.info? 50).map (fun i => (i.zero, i.size, i.bytes)) = some (some (.agg #[.string ⟨#[]⟩, .bool false]), 2, 24) := by kernel_rfl

set_option maxRecDepth 100000 in
set_option maxHeartbeats 4000000 in
theorem split_long (s : ByteArray) (w : World) (hs : 8192 < s.size) :
    Calls Tryd.prog 23 #[.string s] w fun e w' => e = .returned (.tuple #[.slice none 0 0, .int .i64 3]) ∧ Below w.heap.size w w' := by
  have q : decide ((8192 : Int) < (s.size : Int)) = true := decide_eq_true (by omega)
  go_enter Tryd.func23, Tryd.ntmps23
  go_wp2
  refine bodyPost_ret (v := .tuple #[.slice none 0 0, .int .i64 3]) (by simp [results, Tryd.f23, go_sem]) rfl ⟨rfl, ?_⟩
  go_grown

theorem two_new (W : World) (x y : Value) (t : TypeId) : ∀ j u, [x, y][j]? = some u → (W.alloc (.cells #[x, y] t)).cell? ((⟨W.heap.size, 0, none⟩ : Addr).add j) = some u := by
  intro j u hj
  have e : (⟨W.heap.size, 0, none⟩ : Addr).add j = ⟨W.heap.size, j, none⟩ := by unfold Addr.add; split <;> simp_all
  rw [e, cell_of_row _ _ _ _ _ _ (heap_alloc_new W _)]
  simpa using hj
theorem Kept3.set {B : Nat} {W W1 : World} (h : Kept3 B W W1) {p : Addr} (hp : p.block < B ∨ B + 2 < p.block) (v : Value) : Kept3 B W (W1.setCell p v) :=
  ⟨by rw [size_set]; exact h.size, fun k h0 h1 h2 => (Below.heap_setCell W1 p v k (by omega)).trans (h.same k h0 h1 h2)⟩
theorem Kept3.grown {B : Nat} {W W1 W2 : World} {row : Option Nat} (h : Kept3 B W W1) (hg : W1.grownBy W2 row) (hr : ∀ k, row = some k → B + 2 < k) : Kept3 B W W2 :=
  ⟨Nat.le_trans h.size hg.size, fun k h0 h1 h2 => (hg.block k (Nat.lt_of_lt_of_le h2 h.size) (fun e => by have := hr k e.symm; omega)).trans (h.same k h0 h1 h2)⟩
theorem boxed_one {W : World} {B : Nat} {t : TypeId} {v v' : Value} (h : Boxed W B t v) (h' : Boxed W B t v') : v = v' := by
  have e := h.cell.symm.trans h'.cell
  injection e
theorem boxed_through {W w1 : World} {b n₀ e size k : Nat} {t : TypeId} {u v : Value} {xs : List Value} {o : Obj} (h : Boxed W b t u) (hb : b < n₀) (hr : W.ownsRow n₀ e size v k xs) (hg : (W.alloc o).grownBy w1 v.ownBlock) : Boxed w1 b t u :=
  (h.alloc o).kept hg (fun e => by have := (hr.lt b e.symm).1; omega)
theorem boxed_far {W : World} {B : Nat} {t : TypeId} {v : Value} (h : Boxed W B t v) {p : Addr} (hp : B ≠ p.block) (u : Value) : Boxed (W.setCell p u) B t v := (Below.heap_setCell W p u B hp).trans h
theorem own_form {W : World} {base size n : Nat} {e : TypeId} {v : Value} {xs : List Value} (h : W.ownsRow base e size v n xs) : ∃ A cap, v = .slice A n cap := by
  rcases h.2 with ⟨rfl, h0⟩ | ⟨gg, cap, cur, rfl, _⟩
  · rw [h0]; exact ⟨none, 0, rfl⟩
  · exact ⟨_, cap, rfl⟩
theorem boxed_put {W : World} {B D : Nat} {t : TypeId} {v : Value} {o : Obj} (h : Boxed W B t v) (hn : B ≠ D) : Boxed (W.putObj D o) B t v := (World.putObj_heap_other hn).trans h
theorem row_far {W : World} {base size n b : Nat} {e : TypeId} {v : Value} {xs : List Value} (h : W.ownsRow base e size v n xs) (hb : b < base) : v.ownBlock = none ∨ v.ownBlock ≠ some b := by
  cases ho : v.ownBlock with
  | none => exact .inl rfl
  | some k =>
    right
    have := (h.lt k ho).1
    intro e
    injection e with e
    omega
/-- a round's frame -/
def SFr (B Bx : Nat) (ok : Bool) (a : Act) : Prop := ∃ u0 u1 u8 u9 u10 u11 u12 u13 u14 u15 u16 u17 u18 u19 u20 u21 u22 u23 u24 u25 u26 u27 u28 u29 u30 u31 u32 u33 u34 : Value, a = { tmps := #[u0, u1, .pointer (some ⟨B, 0, none⟩), .pointer (some ⟨B + 1, 0, none⟩), .pointer (some ⟨B + 1 + 1, 0, none⟩), .pointer (some ⟨B + 1 + 1 + 1, 0, none⟩), .pointer (some ⟨Bx, 0, none⟩), .bool ok, u8, u9, u10, u11, u12, u13, u14, u15, u16, u17, u18, u19, u20, u21, u22, u23, u24, u25, u26, u27, u28, u29, u30, u31, u32, u33, u34], defers := [] }
/-- what holds between two rounds -/
structure SI (w : World) (pre : List (Fld × Bool)) (W : World) : Prop where
  all : pre.all (·.2) = true
  row : ∃ v, Boxed W (w.heap.size + 1 + 1) 32 v ∧ W.ownsRow (w.heap.size + 8) 50 2 v pre.length (fc (good pre))
  lng : Boxed W (w.heap.size + 1 + 1 + 1) 4 (.bool (longB (good pre)))
  res : Boxed W w.heap.size 32 (.slice none 0 0)
  err : Boxed W (w.heap.size + 1) 23 (.int .i64 0)
  below : Below w.heap.size w W
/-- what holds when a round has left -/
structure SX (w : World) (c : Code) (pre : List (Fld × Bool)) (W : World) : Prop where
  code : c = .ret
  bad : pre.all (·.2) = false
  res : Boxed W w.heap.size 32 (.slice none 0 0)
  err : Boxed W (w.heap.size + 1) 23 (.int .i64 6)
  below : Below w.heap.size w W
structure SI2 (w : World) (pre : List (Fld × Bool)) (x : Fld × Bool) (a : Act) (W : World) : Prop where
  si : SI w pre W
  box : ∃ Bx, w.heap.size + 8 ≤ Bx ∧ W.heap[Bx]? = some (.cells #[.string ⟨x.1.1.toArray⟩, .bool x.1.2] 50 (0, 0)) ∧ (∃ v, Boxed W (w.heap.size + 1 + 1) 32 v ∧ v.ownBlock ≠ some Bx) ∧ SFr w.heap.size Bx x.2 a

theorem SI.turn {w : World} {pre : List (Fld × Bool)} {W W' : World} {r : Nat} (h : SI w pre W) (h0 : w.heap.size + 5 ≤ r) (h1 : r < w.heap.size + 8) (hg : W.grownBy W' (some r)) : SI w pre W' := by
  obtain ⟨a1, ⟨v, a2, a3⟩, a4, a5, a6, a7⟩ := h
  refine ⟨a1, ⟨v, a2.kept hg (by simp; omega), a3.kept hg ?_⟩, a4.kept hg (by simp; omega), a5.kept hg (by simp; omega), a6.kept hg (by simp; omega), a7.grown hg a7.size (fun k e => by cases e; omega)⟩
  cases ho : v.ownBlock with
  | none => exact .inl rfl
  | some k =>
    right
    have := (a3.lt k ho).1
    intro e
    injection e with e
    omega
theorem SX.turn {w : World} {c : Code} {pre : List (Fld × Bool)} {W W' : World} {r : Nat} (h : SX w c pre W) (h0 : w.heap.size + 5 ≤ r) (hg : W.grownBy W' (some r)) : SX w c pre W' := by
  obtain ⟨a1, a2, a5, a6, a7⟩ := h
  exact ⟨a1, a2, a5.kept hg (by simp; omega), a6.kept hg (by simp; omega), a7.grown hg a7.size (fun k e => by cases e; omega)⟩
theorem SI2.turn {w : World} {pre : List (Fld × Bool)} {x : Fld × Bool} {a : Act} {W W' : World} {r : Nat} (h : SI2 w pre x a W) (h0 : w.heap.size + 5 ≤ r) (h1 : r < w.heap.size + 8) (hg : W.grownBy W' (some r)) : SI2 w pre x a W' := by
  obtain ⟨a1, Bx, b1, b2, ⟨v, b4, b5⟩, b3⟩ := h
  refine ⟨a1.turn h0 h1 hg, Bx, b1, (hg.block Bx (Array.getElem?_eq_some_iff.1 b2).1 ?_).trans b2, ⟨v, b4.kept hg (by simp; omega), b5⟩, b3⟩
  intro e
  injection e with e
  omega
theorem SI.alloc {w : World} {pre : List (Fld × Bool)} {W : World} (h : SI w pre W) (o : Obj) : SI w pre (W.alloc o) := by
  obtain ⟨a1, ⟨v, a2, a3⟩, a4, a5, a6, a7⟩ := h
  exact ⟨a1, ⟨v, a2.alloc o, a3.alloc o⟩, a4.alloc o, a5.alloc o, a6.alloc o, a7.alloc a7.size o⟩

set_option maxRecDepth 100000 in
set_option maxHeartbeats 4000000 in
theorem split_in (s : ByteArray) (w : World) (hs : s.size ≤ 8192) (hE : EscLaid w) :
    CallsIn Fence.wide 9 Tryd.prog 23 #[.string s] w fun e w' => ∃ v, e = .returned (.tuple #[v, .int .i64 (splitF s.data.toList).2]) ∧ w'.ownsRow (w.heap.size + 8) 50 2 v (splitF s.data.toList).1.length (fc (splitF s.data.toList).1) ∧ Below w.heap.size w w' := by
  have HE := Lib.hid hE
  have hl := Lib.hid (show s.data.toList.length = s.size by simp)
  clear hE
  have q : decide ((8192 : Int) < (s.size : Int)) = false := decide_eq_false (by omega)
  obtain ⟨i0, hi, hz0, hz1, hz2⟩ := info_parts info50
  refine callsIn_of_wp_marks Tryd.func23 rfl trivial ?_ rfl
  simp only [Tryd.ntmps23, List.size_toArray, List.length_cons, List.length_nil, Nat.reduceAdd, Nat.reduceSub, Array.replicate_succ, Array.replicate_zero, List.push_toArray, List.append_toArray, List.nil_append, List.cons_append]
  gi_wp2_with (refine ⟨trivial, ?_⟩; gi_at_call 48; refine (callsIn_wide.2 (fields48 _ _)).mono ?_; rintro e w' ⟨rfl, rfl⟩)
  have b0 := ((((Boxed.new w 32 (.slice none 0 0)).alloc (.cells #[.int .i64 0] 23)).alloc (.cells #[.slice none 0 0] 32)).alloc (.cells #[.bool false] 4)).alloc (.cells #[.string s] 9)
  have b1 := (((Boxed.new (w.alloc (.cells #[.slice none 0 0] 32)) 23 (.int .i64 0)).alloc (.cells #[.slice none 0 0] 32)).alloc (.cells #[.bool false] 4)).alloc (.cells #[.string s] 9)
  have b2 := ((Boxed.new ((w.alloc (.cells #[.slice none 0 0] 32)).alloc (.cells #[.int .i64 0] 23)) 32 (.slice none 0 0)).alloc (.cells #[.bool false] 4)).alloc (.cells #[.string s] 9)
  have b3 := (Boxed.new (((w.alloc (.cells #[.slice none 0 0] 32)).alloc (.cells #[.int .i64 0] 23)).alloc (.cells #[.slice none 0 0] 32)) 4 (.bool false)).alloc (.cells #[.string s] 9)
  have b4 := Boxed.new ((((w.alloc (.cells #[.slice none 0 0] 32)).alloc (.cells #[.int .i64 0] 23)).alloc (.cells #[.slice none 0 0] 32)).alloc (.cells #[.bool false] 4)) 9 (.string s)
  have hB0 : Below w.heap.size w (((((w.alloc (.cells #[.slice none 0 0] 32)).alloc (.cells #[.int .i64 0] 23)).alloc (.cells #[.slice none 0 0] 32)).alloc (.cells #[.bool false] 4)).alloc (.cells #[.string s] 9)) := by go_grown
  have hz : (((((w.alloc (.cells #[.slice none 0 0] 32)).alloc (.cells #[.int .i64 0] 23)).alloc (.cells #[.slice none 0 0] 32)).alloc (.cells #[.bool false] 4)).alloc (.cells #[.string s] 9)).heap.size = w.heap.size + 5 := by simp
  simp only [World.size_alloc] at b1 b2 b3 b4
  obtain ⟨W0, hW0⟩ : ∃ W0, (((((w.alloc (.cells #[.slice none 0 0] 32)).alloc (.cells #[.int .i64 0] 23)).alloc (.cells #[.slice none 0 0] 32)).alloc (.cells #[.bool false] 4)).alloc (.cells #[.string s] 9)) = W0 := ⟨_, rfl⟩
  rw [hW0] at b0 b1 b2 b3 b4 hB0 hz ⊢
  clear hW0
  have hEW : ∀ pre W, SI w pre W → EscLaid W := fun pre W h => HE.out.self h.below
  refine range_box (w := W0) (n := 9) (gf := 69) (lb := #[.pointer (some ⟨w.heap.size + 1 + 1 + 1 + 1, 0, none⟩)]) (by omega) rfl (enters_of Tryd.func69 (by kernel_rfl) rfl) (encs := encI) (G := EscLaid) (S := fun xs => xs = items s.data.toList) (Sp := fun pre => pre <+: items s.data.toList) (N := s.size + 1)
    (fun W1 hb hsz => fields_iter 8 (by omega) s (by omega) _ _ W1 hsz ((hb.cell (p := ⟨w.heap.size + 1 + 1 + 1 + 1, 0, none⟩) b4.lt).trans b4.cell)) (fun _ => rfl) (SI w) hEW (SX w) (SI2 w)
    (fun pre W W' r h1 h2 h hg => h.turn (by omega) (by omega) hg) (fun c pre W W' r h1 h2 h hg => h.turn (by omega) hg) (fun pre x a' u W W' r h1 h2 h hg => h.turn (by omega) (by omega) hg)
    (fun W1 hb => ⟨rfl, ⟨_, b2.kept (grown_of_below hb none) (by simp), World.ownsRow_nil _ _ _ _⟩, b3.kept (grown_of_below hb none) (by simp), b0.kept (grown_of_below hb none) (by simp), b1.kept (grown_of_below hb none) (by simp), hB0.trans (hb.mono (by omega))⟩) ?assign ?body ?done ?stop
  case assign =>
    intro l pre x W hI _ hsz
    have HI := Lib.hid hI
    clear hI
    dsimp only [encI]
    gi_wp2
    obtain ⟨v, hv1, hv2⟩ := HI.out.row
    refine ⟨⟨by simp, fun k _ _ hk => Below.heap_alloc W _ k hk⟩, ⟨HI.out.alloc _, _, by omega, heap_alloc_new W _, ⟨v, hv1.alloc _, ?_⟩, _, _, _, _, _, _, _, _, _, _, _, _, _, _, _, _, _, _, _, _, _, _, _, _, _, _, _, _, _, rfl⟩⟩
    intro e
    have := (hv2.lt _ e).2
    omega
  case body =>
    rintro l pre x a' W ⟨hI, Bx, hBx, hbx, ⟨v0, hv0, hv0n⟩, u0, u1, u8, u9, u10, u11, u12, u13, u14, u15, u16, u17, u18, u19, u20, u21, u22, u23, u24, u25, u26, u27, u28, u29, u30, u31, u32, u33, u34, rfl⟩ hlen hsz
    obtain ⟨a1, ⟨v, a2, a3⟩, a4, a5, a6, a7⟩ := hI
    obtain rfl : v0 = v := boxed_one hv0 a2
    obtain ⟨⟨S, qd⟩, ok⟩ := x
    have c2 := a2.cell
    have c3 := a4.cell
    have c0 := a5.cell
    have c1 := a6.cell
    have f2 := a2.frozen
    have f3 := a4.frozen
    have f0 := a5.frozen
    have f1 := a6.frozen
    have d0 := cell_of_row _ _ 0 _ _ _ hbx
    have d1 := cell_of_row _ _ 1 _ _ _ hbx
    simp only [List.getElem?_toArray, List.getElem?_cons_zero, List.getElem?_cons_succ] at d0 d1
    cases ok with
    | false =>
      gi_wp2
      refine ⟨((Kept3.refl _ W).set (by first | (simp; done) | (simp; omega)) _).set (by first | (simp; done) | (simp; omega)) _, rfl, by simp, ?_, ?_, (a7.setCell (p := ⟨w.heap.size, 0, none⟩) (Nat.le_refl _) _).setCell (p := ⟨w.heap.size + 1, 0, none⟩) (by simp) _⟩
      · exact boxed_far (a5.set _) (by simp) _
      · exact (boxed_far a6 (by simp) _).set _
    | true =>
      have hzz : w.heap.size + 8 ≤ W.heap.size := by omega
      have hgp : good (pre ++ [((S, qd), true)]) = good pre ++ [(S, qd)] := by simp [good]
      have hlp : longB (good (pre ++ [((S, qd), true)])) = (longB (good pre) || decide (2000 < S.length)) := by rw [hgp]; simp [longB]
      have HLP := Lib.hid hlp
      have HGP := Lib.hid hgp
      clear hgp hlp
      have hSz : (⟨S.toArray⟩ : ByteArray).size = S.length := by simp [ByteArray.size]
      have HSZ := Lib.hid hSz
      clear hSz
      have fin : ∀ (w1 : World) (g' cap' : Nat) (b : Bool), w1.ownsRow (w.heap.size + 8) 50 2 (.slice (some ⟨g', 0, none⟩) (pre.length + 1) cap') (pre.length + 1) (fc (good pre) ++ [.string ⟨S.toArray⟩, .bool qd]) →
          (W.alloc (.cells #[.string ⟨S.toArray⟩, .bool qd] 50)).grownBy w1 v0.ownBlock → b = (longB (good pre) || decide (2000 < S.length)) →
          Hid (bodyOut (w.heap.size + 5) (SI w) (SX w) (pre ++ [((S, qd), true)]) W .normal { tmps := #[], defers := [] }
            ((w1.setCell ⟨w.heap.size + 1 + 1, 0, none⟩ (.slice (some ⟨g', 0, none⟩) (pre.length + 1) cap')).setCell ⟨w.heap.size + 1 + 1 + 1, 0, none⟩ (.bool b))) := by
        intro w1 g' cap' b h1 h2 h3
        have hblk := (h1.lt g' rfl).1
        refine ⟨((((Kept3.refl _ W).grown (World.grownBy_alloc W _ none) (by simp)).grown h2 (fun k hk => by have := (a3.lt k hk).1; omega)).set (by first | (simp; done) | (simp; omega)) _).set (by first | (simp; done) | (simp; omega)) _, ?_⟩
        refine ⟨by rw [List.all_append, a1]; rfl, ⟨_, boxed_far ((boxed_through a2 (by omega) a3 h2).set _) (by simp) _, ?_⟩, ?_, boxed_far (boxed_far (boxed_through a5 (by omega) a3 h2) (by first | (simp; done) | (simp; omega)) _) (by simp; omega) _, boxed_far (boxed_far (boxed_through a6 (by omega) a3 h2) (by simp) _) (by simp) _, ?_⟩
        · rw [HGP.out, fc_snoc, List.length_append, List.length_singleton]
          refine World.ownsRow.kept (World.ownsRow.kept h1 (grown_set w1 _ 0 _) ?_) (grown_set _ _ 0 _) ?_
          · right; intro e; simp [Value.ownBlock] at e; omega
          · right; intro e; simp [Value.ownBlock] at e; omega
        · rw [HLP.out, ← h3]
          exact (boxed_far (boxed_through a4 (by omega) a3 h2) (by simp) _).set _
        · refine (Below.setCell (p := ⟨w.heap.size + 1 + 1 + 1, 0, none⟩) (Below.setCell (p := ⟨w.heap.size + 1 + 1, 0, none⟩) ((a7.alloc a7.size _).grown h2 (by simp; have := a7.size; omega) (fun k hk => by have := (a3.lt k hk).1; omega)) (by first | (simp; done) | (simp; omega)) _) (by first | (simp; done) | (simp; omega)) _)
      have FIN := Lib.hid fin
      clear fin
      cases hlg : longB (good pre) with
      | true =>
        rw [hlg] at c3
        have HLG := Lib.hid hlg
        clear hlg
        gi_wp2_with (gi_at_builtin; refine wpListIn_append_own _ rfl _ _ 32 rfl (w.heap.size + 8) 50 i0 _ 2 24 Tryd.underlying32 hi hz0 hz1 hz2 rfl (by decide) v0 pre.length (fc (good pre)) rfl (a3.alloc _) ⟨W.heap.size, 0, none⟩ 1 1 [.string ⟨S.toArray⟩, .bool qd] rfl rfl (two_new W _ _ _) (by simp [Value.oneCell']) (by unfold maxLen; omega) (by omega) (by simp; omega) ?_; intro v' w1 hown' hgrow _; obtain ⟨g', cap', rfl⟩ := ownsRow_succ hown'; have k2 := boxed_through a2 (by omega) a3 hgrow; have k3 := boxed_through a4 (by omega) a3 hgrow; have m2 := k2.cell; have m3 := k3.cell; have m4 := k2.frozen; have m5 := k3.frozen; rw [HLG.out] at m3)
        exact (FIN.out w1 g' cap' true hown' hgrow (by rw [HLG.out]; rfl)).out
      | false =>
        rw [hlg] at c3
        have HLG := Lib.hid hlg
        clear hlg
        have hbn : ∀ w1 : World, (W.alloc (.cells #[.string ⟨S.toArray⟩, .bool qd] 50)).grownBy w1 v0.ownBlock → w1.cell? ⟨Bx, 0, none⟩ = some (.string ⟨S.toArray⟩) := fun w1 hg => by
          have h1 : (W.alloc (.cells #[.string ⟨S.toArray⟩, .bool qd] 50)).heap[Bx]? = some (.cells #[.string ⟨S.toArray⟩, .bool qd] 50 (0, 0)) := (Below.heap_alloc W _ Bx (Array.getElem?_eq_some_iff.1 hbx).1).trans hbx
          have h2 := (hg.block Bx (Array.getElem?_eq_some_iff.1 h1).1 (fun e => hv0n e.symm)).trans h1
          rw [cell_of_row _ _ _ _ _ _ h2]; rfl
        have HBN := Lib.hid hbn
        clear hbn
        cases h2000 : decide (2000 < S.length) with
        | true =>
          have q2 : decide ((2000 : Int) < (S.length : Int)) = true := decide_eq_true (by have := of_decide_eq_true h2000; omega)
          have H2 := Lib.hid h2000
          gi_wp2_with (gi_at_builtin; refine wpListIn_append_own _ rfl _ _ 32 rfl (w.heap.size + 8) 50 i0 _ 2 24 Tryd.underlying32 hi hz0 hz1 hz2 rfl (by decide) v0 pre.length (fc (good pre)) rfl (a3.alloc _) ⟨W.heap.size, 0, none⟩ 1 1 [.string ⟨S.toArray⟩, .bool qd] rfl rfl (two_new W _ _ _) (by simp [Value.oneCell']) (by unfold maxLen; omega) (by omega) (by simp; omega) ?_; intro v' w1 hown' hgrow _; obtain ⟨g', cap', rfl⟩ := ownsRow_succ hown'; have k2 := boxed_through a2 (by omega) a3 hgrow; have k3 := boxed_through a4 (by omega) a3 hgrow; have m2 := k2.cell; have m3 := k3.cell; have m4 := k2.frozen; have m5 := k3.frozen; rw [HLG.out] at m3; have m6 := HBN.out _ hgrow)
          exact (FIN.out w1 g' cap' true hown' hgrow (by rw [HLG.out, H2.out]; rfl)).out
        | false =>
          have q2 : decide ((2000 : Int) < (S.length : Int)) = false := decide_eq_false (by have := of_decide_eq_false h2000; omega)
          have H2 := Lib.hid h2000
          gi_wp2_with (gi_at_builtin; refine wpListIn_append_own _ rfl _ _ 32 rfl (w.heap.size + 8) 50 i0 _ 2 24 Tryd.underlying32 hi hz0 hz1 hz2 rfl (by decide) v0 pre.length (fc (good pre)) rfl (a3.alloc _) ⟨W.heap.size, 0, none⟩ 1 1 [.string ⟨S.toArray⟩, .bool qd] rfl rfl (two_new W _ _ _) (by simp [Value.oneCell']) (by unfold maxLen; omega) (by omega) (by simp; omega) ?_; intro v' w1 hown' hgrow _; obtain ⟨g', cap', rfl⟩ := ownsRow_succ hown'; have k2 := boxed_through a2 (by omega) a3 hgrow; have k3 := boxed_through a4 (by omega) a3 hgrow; have m2 := k2.cell; have m3 := k3.cell; have m4 := k2.frozen; have m5 := k3.frozen; rw [HLG.out] at m3; have m6 := HBN.out _ hgrow)
          exact (FIN.out w1 g' cap' false hown' hgrow (by rw [HLG.out, H2.out]; rfl)).out
  case done =>
    rintro xs W rfl ⟨a1, ⟨v, a2, a3⟩, a4, a5, a6, a7⟩ hK
    rw [hz] at hK ⊢
    obtain ⟨Av, cv, rfl⟩ := own_form a3
    have c2 := a2.cell
    have c3 := a4.cell
    have c0 := a5.cell
    have c1 := a6.cell
    have f0 := a5.frozen
    have f1 := a6.frozen
    have A1 := Lib.hid a1
    have lenle : (items s.data.toList).length = (good (items s.data.toList)).length := by simp [good]
    have HLE := Lib.hid lenle
    clear a1 lenle
    cases hlg : longB (good (items s.data.toList)) with
    | true =>
      have T := Lib.hid (show splitF s.data.toList = ([], 3) by unfold splitF; rw [if_neg (by rw [hl.out]; omega), if_pos A1.out, if_pos (.inl hlg)])
      rw [hlg] at c3
      clear hlg
      gi_wp2
      have hK' : (((W.setCell ⟨w.heap.size, 0, none⟩ (.slice none 0 0)).setCell ⟨w.heap.size + 1, 0, none⟩ (.int .i64 3))).heap[w.heap.size + 5]? = some (.deferred (some [])) :=
        (Below.heap_setCell _ _ _ _ (by first | (simp; done) | (simp; omega))).trans ((Below.heap_setCell _ _ _ _ (by first | (simp; done) | (simp; omega))).trans hK)
      refine ⟨by simp, .inl ⟨_, _, rfl, run_takeDeferred hK', ?_⟩⟩
      have g0 := boxed_put (o := .deferred none) (D := (w.heap.size + 5)) (boxed_far (p := ⟨w.heap.size + 1, 0, none⟩) (a5.set (.slice none 0 0)) (by simp) (.int .i64 3)) (by omega)
      have g1 := boxed_put (o := .deferred none) (D := (w.heap.size + 5)) ((boxed_far (p := ⟨w.heap.size, 0, none⟩) a6 (by simp) (.slice none 0 0)).set (.int .i64 3)) (by omega)
      have h0 := g0.cell
      have h1 := g1.cell
      refine ⟨.tuple #[.slice none 0 0, .int .i64 3], ?_, .slice none 0 0, by rw [T.out], ?_, ?_⟩
      · simp [results, Tryd.f23, go_sem, h0, h1]
      · rw [T.out]; exact World.ownsRow_nil _ _ _ _
      · exact ((a7.setCell (p := ⟨w.heap.size, 0, none⟩) (Nat.le_refl _) _).setCell (p := ⟨w.heap.size + 1, 0, none⟩) (by simp) _).trans (belowK_b (w := w) (Nat.le_refl _) _ (w.heap.size + 5) _ _ (by omega) hK' rfl rfl)
    | false =>
      rw [hlg] at c3
      have HLG := Lib.hid hlg
      clear hlg
      cases h64 : decide (64 < (items s.data.toList).length) with
      | true =>
        have T := Lib.hid (show splitF s.data.toList = ([], 3) by unfold splitF; rw [if_neg (by rw [hl.out]; omega), if_pos A1.out, if_pos (.inr (of_decide_eq_true h64))])
        have q2 : decide ((64 : Int) < ((items s.data.toList).length : Int)) = true := decide_eq_true (by have := of_decide_eq_true h64; omega)
        gi_wp2
        have hK' : (((W.setCell ⟨w.heap.size, 0, none⟩ (.slice none 0 0)).setCell ⟨w.heap.size + 1, 0, none⟩ (.int .i64 3))).heap[w.heap.size + 5]? = some (.deferred (some [])) :=
          (Below.heap_setCell _ _ _ _ (by first | (simp; done) | (simp; omega))).trans ((Below.heap_setCell _ _ _ _ (by first | (simp; done) | (simp; omega))).trans hK)
        refine ⟨by simp, .inl ⟨_, _, rfl, run_takeDeferred hK', ?_⟩⟩
        have g0 := boxed_put (o := .deferred none) (D := (w.heap.size + 5)) (boxed_far (p := ⟨w.heap.size + 1, 0, none⟩) (a5.set (.slice none 0 0)) (by simp) (.int .i64 3)) (by omega)
        have g1 := boxed_put (o := .deferred none) (D := (w.heap.size + 5)) ((boxed_far (p := ⟨w.heap.size, 0, none⟩) a6 (by simp) (.slice none 0 0)).set (.int .i64 3)) (by omega)
        have h0 := g0.cell
        have h1 := g1.cell
        refine ⟨.tuple #[.slice none 0 0, .int .i64 3], ?_, .slice none 0 0, by rw [T.out], ?_, ?_⟩
        · simp [results, Tryd.f23, go_sem, h0, h1]
        · rw [T.out]; exact World.ownsRow_nil _ _ _ _
        · exact ((a7.setCell (p := ⟨w.heap.size, 0, none⟩) (Nat.le_refl _) _).setCell (p := ⟨w.heap.size + 1, 0, none⟩) (by simp) _).trans (belowK_b (w := w) (Nat.le_refl _) _ (w.heap.size + 5) _ _ (by omega) hK' rfl rfl)
      | false =>
        have T := Lib.hid (show splitF s.data.toList = (good (items s.data.toList), 0) by
          unfold splitF
          rw [if_neg (by rw [hl.out]; omega), if_pos A1.out, if_neg (by rw [HLG.out]; have := of_decide_eq_false h64; simpa using this)])
        have q2 : decide ((64 : Int) < ((items s.data.toList).length : Int)) = false := decide_eq_false (by have := of_decide_eq_false h64; omega)
        gi_wp2
        have hK' : (((W.setCell ⟨w.heap.size, 0, none⟩ (.slice Av (items s.data.toList).length cv)).setCell ⟨w.heap.size + 1, 0, none⟩ (.int .i64 0))).heap[w.heap.size + 5]? = some (.deferred (some [])) :=
          (Below.heap_setCell _ _ _ _ (by first | (simp; done) | (simp; omega))).trans ((Below.heap_setCell _ _ _ _ (by first | (simp; done) | (simp; omega))).trans hK)
        refine ⟨by simp, .inl ⟨_, _, rfl, run_takeDeferred hK', ?_⟩⟩
        have g0 := boxed_put (o := .deferred none) (D := (w.heap.size + 5)) (boxed_far (p := ⟨w.heap.size + 1, 0, none⟩) (a5.set (.slice Av (items s.data.toList).length cv)) (by simp) (.int .i64 0)) (by omega)
        have g1 := boxed_put (o := .deferred none) (D := (w.heap.size + 5)) ((boxed_far (p := ⟨w.heap.size, 0, none⟩) a6 (by simp) (.slice Av (items s.data.toList).length cv)).set (.int .i64 0)) (by omega)
        have h0 := g0.cell
        have h1 := g1.cell
        refine ⟨.tuple #[.slice Av (items s.data.toList).length cv, .int .i64 0], ?_, .slice Av (items s.data.toList).length cv, by rw [T.out], ?_, ?_⟩
        · simp [results, Tryd.f23, go_sem, h0, h1]
        · rw [T.out]; rw [← HLE.out]; exact ownsRow_putObj (World.ownsRow.kept (World.ownsRow.kept a3 (grown_set W _ 0 _) (row_far a3 (by omega))) (grown_set _ _ 0 _) (row_far a3 (by omega))) _ hK' rfl
        · exact ((a7.setCell (p := ⟨w.heap.size, 0, none⟩) (Nat.le_refl _) _).setCell (p := ⟨w.heap.size + 1, 0, none⟩) (by simp) _).trans (belowK_b (w := w) (Nat.le_refl _) _ (w.heap.size + 5) _ _ (by omega) hK' rfl rfl)
  case stop =>
    rintro c pre W hSp ⟨rfl, a1, a5, a6, a7⟩ hK
    rw [hz] at hK ⊢
    have T := Lib.hid (show splitF s.data.toList = ([], 6) by
      unfold splitF
      rw [if_neg (by rw [hl.out]; omega), if_neg]
      intro h
      obtain ⟨r, hr⟩ := hSp
      rw [← hr, List.all_append, a1] at h
      simp at h)
    gi_wp2
    refine ⟨by simp, .inl ⟨_, _, rfl, run_takeDeferred hK, ?_⟩⟩
    have g0 := boxed_put (o := .deferred none) (D := (w.heap.size + 5)) a5 (by omega)
    have g1 := boxed_put (o := .deferred none) (D := (w.heap.size + 5)) a6 (by omega)
    have h0 := g0.cell
    have h1 := g1.cell
    refine ⟨.tuple #[.slice none 0 0, .int .i64 6], ?_, .slice none 0 0, by rw [T.out], ?_, ?_⟩
    · simp [results, Tryd.f23, go_sem, h0, h1]
    · rw [T.out]; exact World.ownsRow_nil _ _ _ _
    · exact a7.trans (belowK_b (w := w) (Nat.le_refl _) _ (w.heap.size + 5) _ _ (by omega) hK rfl rfl)
end YtkhggnfhhafkjaaDoor
end Go.Proofs
