/- The iterator over the fields of a line: the whole of it. -/
import Derived.Test.YtkhggnfhhafkjaaDoorPass
namespace Go.Proofs
namespace YtkhggnfhhafkjaaDoor
open Go.RowKit

theorem jump_mono {J J' : Nat → Act → World → Prop} {Q : Exit → Act → World → Prop} (h : ∀ l a w, J l a w → J' l a w) : ∀ e a w, jumpTo J Q e a w → jumpTo J' Q e a w := by
  intro e a w he
  cases e with
  | goto l => exact h _ _ _ he
  | normal => exact he
  | exit id => exact he
  | ret => exact he
  | panic ch => exact he
  | outgrown => exact he

set_option maxRecDepth 100000 in
set_option maxHeartbeats 4000000 in
theorem iter69 (n : Nat) (hn : 1 ≤ n) (s : ByteArray) (hs : s.size ≤ 1000000) (Bl l : Nat) (J Jx : List (Fld × Bool) → World → Prop) (w : World) (hl : w.cell? ⟨Bl, 0, none⟩ = some (.string s))
    (hG : ∀ pre W, J pre W → EscLaid W) (hJ : ∀ pre W W', J pre W → W.grownBy W' (some w.heap.size) → J pre W') (hY : Yields n l w.heap.size s.size J Jx) (h0 : J [] w) :
    Calls Tryd.prog 69 #[.func (.yield l) #[] #[], .pointer (some ⟨Bl, 0, none⟩)] w fun e W' => (∃ v, e = .returned v) ∧ Fin (items s.data.toList) J Jx W' := by
  have hlt : Bl < w.heap.size := by
    rcases Nat.lt_or_ge Bl w.heap.size with h | h
    · exact h
    · simp [World.cell?, Array.getElem?_eq_none h] at hl
  have hw1 : (w.alloc (.cells #[.string ⟨#[]⟩, .bool false] 50)).cell? ⟨Bl, 0, none⟩ = some (.string s) := by
    rw [World.cell?_alloc_lt w _ _ hlt]; exact hl
  have HJ1 : J [] (w.alloc (.cells #[.string ⟨#[]⟩, .bool false] 50)) := hJ _ _ _ h0 (World.grownBy_alloc w _ _)
  have hbx : BoxIs (w.alloc (.cells #[.string ⟨#[]⟩, .bool false] 50)) w.heap.size (.string ⟨#[]⟩) (.bool false) := heap_alloc_new w _
  have hsz : w.heap.size < (w.alloc (.cells #[.string ⟨#[]⟩, .bool false] 50)).heap.size := by simp
  have hG' := Lib.hid hG
  have hJ' := Lib.hid hJ
  have hY' := Lib.hid hY
  have HJ1' := Lib.hid HJ1
  have h0' := Lib.hid h0
  have hbx' := Lib.hid hbx
  have hsz' := Lib.hid hsz
  clear hG hJ hY HJ1 h0 hbx hsz hl
  by_cases hz : s.data.toList = []
  · have hne : s.toList.isEmpty = true := by rw [ByteArray.toList_eq, hz]; rfl
    have hne2 : s.toList = [] := by rw [ByteArray.toList_eq, hz]
    have I := Lib.hid (show items s.data.toList = [] by unfold items; rw [if_pos hz])
    clear hz
    go_enter Tryd.func69, Tryd.ntmps69
    go_wp2
    go_step3
    go_wp2
    rw [Exit.noGoto_ret]
    refine bodyPost_ret (results_none rfl _ _ _) rfl ?_
    exact ⟨⟨_, rfl⟩, .inl (by rw [I.out]; exact HJ1'.out)⟩
  have hne : s.toList.isEmpty = false := by rw [ByteArray.toList_eq]; simpa using hz
  have I := Lib.hid (show items s.data.toList = fldsQ s.data.toList by unfold items; rw [if_neg hz])
  clear hz
  go_enter Tryd.func69, Tryd.ntmps69
  go_wp2
  have hret : ∀ (tm : Array Value) W, Fin (items s.data.toList) J Jx W → bodyPost Tryd.prog Tryd.f69 (fun e W' => (∃ v, e = .returned v) ∧ Fin (items s.data.toList) J Jx W') .ret { tmps := tm, defers := [] } W :=
    fun tm W h => by
      refine bodyPost_ret (results_none rfl _ _ _) rfl ?_
      exact ⟨⟨_, rfl⟩, h⟩
  have p2 : ∀ a W, JJ (items s.data.toList) J s.size l Bl w.heap.size 2 a W → Code.wp Tryd.prog (match findLabel (match Tryd.f69.body with | some (.scope c) => c | _ => .skip) 2 with | some (.seq _ c) => c | _ => .skip)
      (jumpTo (fun l' a' w' => JJ (items s.data.toList) J s.size l Bl w.heap.size l' a' w' ∧ mu l' a' w' < mu 2 a W) (bodyPost Tryd.prog Tryd.f69 (fun e W' => (∃ v, e = .returned v) ∧ Fin (items s.data.toList) J Jx W'))) a W := by
    rintro a W ⟨pre, t, S, q, m, ok, hf, hc, hb, (⟨rfl, hfa, hmt⟩ | ⟨rfl, hfa, rfl⟩)⟩
    · cases hcr : t.data.toList.drop m with
      | nil =>
        rw [hcr] at hfa
        exact pass2_last n hn _ _ J Jx s.size l Bl _ hs hY'.out hret _ rfl a W pre t m S q hmt hcr hb hf hc.inv hc.size hc.len (by rw [hc.rest, fldsQ_last hfa])
      | cons c r =>
        rw [hcr] at hfa
        by_cases hc32 : c = 32
        · subst hc32
          exact pass2_more n hn _ _ J Jx s.size l Bl _ hs hY'.out hret _ rfl a W pre t m S q hmt r hcr hb hf hc.inv hc.size hc.len (by rw [hc.rest, fldsQ_more hfa])
        · exact pass2_wrong n hn _ _ J Jx s.size l Bl _ hs hY'.out hret _ rfl a W pre t m c r hmt hcr hc32 hf hc.inv hc.size hc.len (by rw [hc.rest, fldsQ_bad hfa hc32])
    · exact pass2_bad n hn _ _ J Jx s.size l Bl _ hs hY'.out hret _ rfl a W pre t hf hc.inv hc.size hc.len (by rw [hc.rest, fldsQ_none hfa])
  refine scope_many (JJ (items s.data.toList) J s.size l Bl w.heap.size) mu ?first ?pass
  case pass =>
    intro lb a W hj
    match lb, hj with
    | 1, hj => exact ⟨_, rfl, wp_seq (wp_skip (pass1 _ _ J s.size l Bl _ hs hJ'.out _ rfl a W hj))⟩
    | 0, hj => exact pass0 _ _ J s.size l Bl _ hs hJ'.out hG'.out _ rfl p2 a W hj
    | 2, hj => exact ⟨_, rfl, wp_seq (wp_skip (p2 a W hj))⟩
  case first =>
    have p1 := fun a W => pass1 (bodyPost Tryd.prog Tryd.f69 (fun e W' => (∃ v, e = .returned v) ∧ Fin (items s.data.toList) J Jx W')) (items s.data.toList) J s.size l Bl w.heap.size hs hJ'.out _ rfl a W
    have p1' := Lib.hid p1
    clear p1 p2 hret
    go_wp2
    go_step3
    rename_i hK
    refine hK _ _ ?_
    refine wp_mono (p1'.out _ _ ?_) (jump_mono fun _ _ _ h => h.1)
    exact ⟨[], s, _, _, Fr_mk, ⟨HJ1'.out, hsz'.out, ⟨_, _, hbx'.out⟩, by simp, by rw [I.out]; rfl⟩⟩
end YtkhggnfhhafkjaaDoor
end Go.Proofs
