/- Quote: how a byte and a string are appended in their written form. -/
import Derived.Test.YtkhggnfhhafkjaaDoorEscQ
import Derived.Deep.RegionHeld3
import Derived.Deep.AppendLies
import Derived.Deep.DrawnRows
namespace Go.Proofs
namespace YtkhggnfhhafkjaaDoor
open Go.RowKit

theorem letterZ_range (c : Int) : 0 ≤ letterZ c ∧ letterZ c < 256 := by unfold letterZ; repeat (first | (split <;> try omega) | omega)

theorem step_push {ops : Array Oper} {o : Oper} {a : Act} {K : Act → World → Prop} {Q : Exit → Act → World → Prop} {E : Prop} {W w : World} {B H : Nat} {v : Value} {l : List UInt8} (hown : Row B W v l) (hB : Below B w W) (t : List UInt8) (fr : Nat × Nat)
    (hb : W.heap[H]? = some (.cells (bc t).toArray 5 fr)) (hgd : o.guard = none) (s x : Operand)
    (ho : o.op = .call { callee := .builtin .append, args := #[s, x], argTypes := #[38, 38] }) (hs : a.eval s = v) (hx : a.eval x = .slice (some ⟨H, 0, none⟩) t.length t.length)
    (hBW : B ≤ W.heap.size) (ht : 0 < t.length) (hl : l.length + t.length ≤ 100000000000000)
    (h : ∀ v' W', Row B W' v' (l ++ t) → Below B w W' → K (a.put o.dst v') W') :
    if Region.wanted o (yielded ops a.tmps) = true then Oper.wp Tryd.prog o a W K Q else E := by
  obtain ⟨i0, hi, hz0, hz1, hz2⟩ := info_parts info5
  refine step_append_lies W hgd s x 38 ho B 5 i0 (.int .u8 0) 1 1 Tryd.underlying38 hi hz0 hz1 hz2 rfl (by decide) v l.length (bc l) hs hown ⟨H, 0, none⟩ t.length t.length (bc t) hx (by rw [bc_length, Nat.mul_one]) ?_ ?_ ht ?_ ?_ hBW _ rfl ?_
  · simpa using World.news_of_block hb
  · intro u hu
    simp only [bc, List.mem_map] at hu
    obtain ⟨c, _, rfl⟩ := hu
    rfl
  · unfold maxLen; omega
  · omega
  · intro g cap W' h1 h2 _ _
    refine h _ W' ?_ ?_
    · unfold Row; rw [bc_append, List.length_append]; exact h1
    · exact hB.grown h2 hBW (fun k hk => (hown.lt k hk).1)

set_option maxRecDepth 100000 in
theorem app66_plain (w W : World) (v : Value) (l : List UInt8) (u : UInt8) (hp : plainB u.toNat = true) (hB : Below w.heap.size w W) (hown : Row w.heap.size W v l) (hl : l.length ≤ 90000000000000) :
    Calls Tryd.prog 66 #[v, .int .u8 (u.toNat : Int)] W fun e W' => ∃ v', e = .returned v' ∧ Row w.heap.size W' v' (l ++ escL u) ∧ Below w.heap.size w W' := by
  have T := Lib.hid (show escL u = [u] by simp [escL, hp])
  have HP := Lib.hid hp
  clear hp
  go_enter Tryd.func66, Tryd.ntmps66
  go_wp2_with (first
    | (go_at_call 71; refine (plain71 _ _).mono ?_; rintro e w' ⟨rfl, rfl⟩; rw [HP.out])
    | (at_builtin; refine push_new hown hB [u] rfl (.tmp 9) (.tmp 11) rfl rfl rfl rfl (Nat.le_refl _) (by simp; omega) ?_; intro v1 W1 hr1 hb1))
  exact bodyPost_ret (v := v1) (by simp [results, Tryd.f66, go_sem]) rfl ⟨v1, rfl, by rw [T.out]; exact hr1, hb1⟩

set_option maxRecDepth 100000 in
theorem app66_letter (w W : World) (v : Value) (l : List UInt8) (u : UInt8) (hp : plainB u.toNat = false) (hq : letterQ u.toNat = true) (hE : Hid (EscLaid w)) (hB : Below w.heap.size w W) (hown : Row w.heap.size W v l) (hl : l.length ≤ 90000000000000) :
    Calls Tryd.prog 66 #[v, .int .u8 (u.toNat : Int)] W fun e W' => ∃ v', e = .returned v' ∧ Row w.heap.size W' v' (l ++ escL u) ∧ Below w.heap.size w W' := by
  obtain ⟨x, hz, hT⟩ : ∃ x : UInt8, Value.int .u8 (letterZ u.toNat) = .int .u8 (x.toNat : Int) ∧ escL u = [92, x] := ⟨_, u8_val (letterZ u.toNat) (letterZ_range _).1 (letterZ_range _).2, by simp [escL, hp, hq]⟩
  have T := Lib.hid hT
  have HZ := Lib.hid hz
  clear hT hz
  have HP := Lib.hid hp
  have HQ := Lib.hid hq
  clear hp hq
  go_enter Tryd.func66, Tryd.ntmps66
  go_wp2_with (first
    | (go_at_call 71; refine (plain71 _ _).mono ?_; rintro e w' ⟨rfl, rfl⟩; rw [HP.out])
    | (go_at_call 94; refine (letter94 _ _ (hE.out.self hB)).mono ?_; rintro e w2 ⟨rfl, hb⟩; rw [HQ.out, HZ.out]; have hB2 := hB.trans (hb.mono hB.size); have hown2 := hown.below hb; clear hb hown hB)
    | (at_builtin; refine push_new hown2 hB2 [92, x] rfl (.tmp 19) (.tmp 21) rfl rfl rfl rfl (Nat.le_refl _) (by simp; omega) ?_; intro v1 W1 hr1 hb1))
  exact bodyPost_ret (v := v1) (by simp [results, Tryd.f66, go_sem]) rfl ⟨v1, rfl, by rw [T.out]; exact hr1, hb1⟩

theorem and15 (n : Nat) (hn : n < 256) : bits .and .u8 (n : Int) 15 = (n : Int) % 16 := by
  have H : ∀ k : Fin 256, bits .and .u8 ((k.val : Nat) : Int) 15 = (k.val : Int) % 16 := by decide +kernel
  exact H ⟨n, hn⟩
theorem hexAt (n : Nat) (hn : n < 16) (m : Int) (hm : m = n) (W : World) : (Instr.index 9 (.string ⟨#[48, 49, 50, 51, 52, 53, 54, 55, 56, 57, 97, 98, 99, 100, 101, 102]⟩) (.int .u8 m)).run Tryd.prog W = .ok (.int .u8 ((hexU n).toNat : Int)) W := by
  subst hm
  have H : ∀ j : Fin 16, (#[48, 49, 50, 51, 52, 53, 54, 55, 56, 57, 97, 98, 99, 100, 101, 102] : Array UInt8)[j.val] = hexU j.val := by decide
  have hk' : n < (⟨#[48, 49, 50, 51, 52, 53, 54, 55, 56, 57, 97, 98, 99, 100, 101, 102]⟩ : ByteArray).size := hn
  have e : (⟨#[48, 49, 50, 51, 52, 53, 54, 55, 56, 57, 97, 98, 99, 100, 101, 102]⟩ : ByteArray)[n]'hk' = hexU n := H ⟨n, hn⟩
  have hi : (n : Int) < 16 := by omega
  simp [go_sem]
  rw [dif_pos hi, e]
attribute [local go_sem ↓] Go.wp_at_zero Go.wp_at_succ
set_option maxRecDepth 100000 in
set_option maxHeartbeats 1000000 in
theorem app66_hex (w W : World) (v : Value) (l : List UInt8) (u : UInt8) (hp : plainB u.toNat = false) (hq : letterQ u.toNat = false) (hE : Hid (EscLaid w)) (hB : Below w.heap.size w W) (hown : Row w.heap.size W v l) (hl : l.length ≤ 90000000000000) :
    Calls Tryd.prog 66 #[v, .int .u8 (u.toNat : Int)] W fun e W' => ∃ v', e = .returned v' ∧ Row w.heap.size W' v' (l ++ escL u) ∧ Below w.heap.size w W' := by
  have T := Lib.hid (show escL u = [92, 120, hexU (u.toNat / 16), hexU (u.toNat % 16)] by simp [escL, hp, hq])
  have HP := Lib.hid hp
  have HQ := Lib.hid hq
  have hu : u.toNat < 256 := UInt8.toNat_lt u
  have A := and15 u.toNat hu
  have I1 := hexAt (u.toNat / 16) (by omega) ((u.toNat : Int) / 16) (by omega)
  have I2 := hexAt (u.toNat % 16) (by omega) ((u.toNat : Int) % 16) (by omega)
  clear hp hq
  go_enter Tryd.func66, Tryd.ntmps66
  go_wp2_with (first
    | (go_at_call 71; refine (plain71 _ _).mono ?_; rintro e w' ⟨rfl, rfl⟩; rw [HP.out])
    | (go_at_call 94; refine (letter94 _ _ (hE.out.self hB)).mono ?_; rintro e w2 ⟨rfl, hb⟩; rw [HQ.out]; have hB2 := hB.trans (hb.mono hB.size); have hown2 := hown.below hb; clear hb hown hB))
  go_region_held3 (fun _ => True) (trivial) ((refine step_push (B := w.heap.size) (w := w) (v := v) (l := l) (by exact hown2.below ((below_drewN (Below.refl _ _) 1).alloc (by simp) _)) (by exact (below_drewN hB2 1).alloc (by simp; exact hB2.size) _) [92, 120, hexU (u.toNat / 16), hexU (u.toNat % 16)] (0, 0) (by exact heap_alloc_new _ _) rfl (.tmp 23) (.tmp 30) (by rfl) (by rfl) (by rfl) (by have := hB2.size; simp; omega) (by simp) (by simp; omega) ?_; intro v1 W1 hr1 hb1))
  all_goals go_wp2
  all_goals exact bodyPost_ret (v := v1) (by simp [results, Tryd.f66, go_sem]) rfl ⟨v1, rfl, by rw [T.out]; exact hr1, hb1⟩

theorem app66 (w W : World) (v : Value) (l : List UInt8) (u : UInt8) (hE : Hid (EscLaid w)) (hB : Below w.heap.size w W) (hown : Row w.heap.size W v l) (hl : l.length ≤ 90000000000000) :
    Calls Tryd.prog 66 #[v, .int .u8 (u.toNat : Int)] W fun e W' => ∃ v', e = .returned v' ∧ Row w.heap.size W' v' (l ++ escL u) ∧ Below w.heap.size w W' := by
  cases hp : plainB u.toNat with
  | true => exact app66_plain w W v l u hp hB hown hl
  | false =>
    cases hq : letterQ u.toNat with
    | true => exact app66_letter w W v l u hp hq hE hB hown hl
    | false => exact app66_hex w W v l u hp hq hE hB hown hl
end YtkhggnfhhafkjaaDoor
end Go.Proofs
