/- What a row's list gives the walks, and a world that holds what the list says. -/
import Derived.Test.YtkhggnfhhafkjaaDoorRows
import Derived.Test.YtkhggnfhhafkjaaDoorInt
import Derived.Lib.LaidU8
import Derived.LaidLaws
namespace Go.Proofs
namespace YtkhggnfhhafkjaaDoor
set_option maxRecDepth 100000
open Go.ChangeShapes Go.WideShapes Go.ChangeAt Go.RowKit Go.Lib

theorem gEsc : Tryd.prog.globalNamed "shunter/words.escapes" = some 3 := by kernel_rfl
theorem gRng : Tryd.prog.globalNamed "strconv.ErrRange" = some 1 := by kernel_rfl
theorem gPow : Tryd.prog.globalNamed "internal/strconv.uint64pow10" = some 2 := by kernel_rfl
theorem tEsc : (Tryd.prog.globals[3]?).map (·.type) = some 131 := by kernel_rfl
theorem tRng : (Tryd.prog.globals[1]?).map (·.type) = some 53 := by kernel_rfl
theorem tPow : (Tryd.prog.globals[2]?).map (·.type) = some 124 := by kernel_rfl

theorem iface_of_trod {H : Type} {enc : TypeId × Value → H} {P : Program} {w : World} {sp : Nat → Bool} {fuel : Nat} {t : TypeId} {ms : Array (String × TypeId)} {cs : List Value} {nm : String} {d : DataW H} {p : List MemPlace}
    (hi : P.underlying t = some (.interface ms)) (h : DataW.trod enc P w 0 sp false fuel t cs = some (.iface nm d, p)) : ∃ u v, cs = [.iface u v] := by
  cases fuel with
  | zero => simp [DataW.trod] at h
  | succ fuel =>
    simp only [DataW.trod, hi] at h
    match cs, h with
    | [], h => simp at h
    | [v], h => cases v <;> simp at h <;> exact ⟨_, _, rfl⟩
    | _ :: _ :: _, h => simp at h

theorem pow_of {W : World} (h : VarReads Tryd.prog W "internal/strconv.uint64pow10" Rows.laid_internal_strconv_uint64pow10) : W.var? Tryd.prog "internal/strconv.uint64pow10" = some (Lib.pow10Tab.map fun z => Value.int .u64 z).toArray := by
  obtain ⟨g, t, cs, fuel, p, hg, ht, hv, hd⟩ := h
  obtain rfl := Option.some.inj (gPow.symm.trans hg)
  obtain rfl := Option.some.inj (tPow.symm.trans ht)
  have e : (Rows.laid_internal_strconv_uint64pow10 : DataW Unit) = tabData .u64 Lib.pow10Tab := by kernel_rfl
  rw [e] at hd
  rw [hv, ← cells_of_tab Tryd.underlying124 Tryd.underlying98 (by kernel_rfl) (by kernel_rfl) hd]

theorem rng_of {W : World} (h : VarReads Tryd.prog W "strconv.ErrRange" Rows.laid_strconv_ErrRange) : ∃ tp p, W.var? Tryd.prog "strconv.ErrRange" = some #[.iface tp p] := by
  obtain ⟨g, t, cs, fuel, p, hg, ht, hv, hd⟩ := h
  obtain rfl := Option.some.inj (gRng.symm.trans hg)
  obtain rfl := Option.some.inj (tRng.symm.trans ht)
  obtain ⟨u, v, e⟩ := iface_of_trod Tryd.underlying53 hd
  exact ⟨u, v, by rw [hv]; obtain ⟨l⟩ := cs; simp at e; rw [e]⟩

theorem esc_of {W : World} (h : VarReads Tryd.prog W "shunter/words.escapes" Rows.laid_shunter_words_escapes) : EscLaid W := by
  obtain ⟨g, t, cs, fuel, p, hg, ht, hv, hd⟩ := h
  obtain rfl := Option.some.inj (gEsc.symm.trans hg)
  obtain rfl := Option.some.inj (tEsc.symm.trans ht)
  have hc130 : Tryd.prog.cellsOf 130 = 2 := by kernel_rfl
  have hf : ∀ (i : Nat) (f : Field), (#[{ name := "meant", type := 5, offset := 0, embedded := false, tag := "", pkgPath := "shunter/words", byteOffset := 0 }, { name := "letter", type := 5, offset := 1, embedded := false, tag := "", pkgPath := "shunter/words", byteOffset := 1 }] : Array Field)[i]? = some f → Tryd.prog.underlying f.type = some (.int .u8) ∧ f.offset = i ∧ Tryd.prog.cellsOf f.type = 1 := by
    intro i f hf
    match i, hf with
    | 0, hf => simp at hf; subst hf; exact ⟨Tryd.underlying5, rfl, by kernel_rfl⟩
    | 1, hf => simp at hf; subst hf; exact ⟨Tryd.underlying5, rfl, by kernel_rfl⟩
    | i + 2, hf => simp at hf
  have hr : ∀ (k : Nat) (a b : Int), k < 5 → ([(34, 34), (92, 92), (10, 110), (13, 114), (9, 116)] : List (Int × Int))[k]? = some (a, b) → cs.toList[2 * k]? = some (.int .u8 a) ∧ cs.toList[2 * k + 1]? = some (.int .u8 b) := by
    intro k a b hk hab
    obtain ⟨fuel', d, q, hdk, hdt⟩ := array_elem Tryd.underlying131 hd k hk
    rw [hc130] at hdt
    have ed : d = .agg ([a, b].map fun z => .lit (.int .u8 z)) := by
      match k, hk, hab, hdk with
      | 0, _, hab, hdk | 1, _, hab, hdk | 2, _, hab, hdk | 3, _, hab, hdk | 4, _, hab, hdk => simp at hab hdk; obtain ⟨rfl, rfl⟩ := hab; rw [← hdk]; rfl
    rw [ed] at hdt
    have := ints_of_struct (zs := [a, b]) Tryd.underlying130 hf (by kernel_rfl) hdt
    constructor
    · have h0 := congrArg (·[0]?) this
      simpa [List.getElem?_take, List.getElem?_drop, Nat.mul_comm] using h0
    · have h0 := congrArg (·[1]?) this
      simpa [List.getElem?_take, List.getElem?_drop, Nat.mul_comm] using h0
  intro i z hz
  rw [World.var?_cell hg hv i]
  match i, hz with
  | 0, hz => simp [escTab] at hz; subst hz; simpa using (hr 0 34 34 (by omega) rfl).1
  | 1, hz => simp [escTab] at hz; subst hz; simpa using (hr 0 34 34 (by omega) rfl).2
  | 2, hz => simp [escTab] at hz; subst hz; simpa using (hr 1 92 92 (by omega) rfl).1
  | 3, hz => simp [escTab] at hz; subst hz; simpa using (hr 1 92 92 (by omega) rfl).2
  | 4, hz => simp [escTab] at hz; subst hz; simpa using (hr 2 10 110 (by omega) rfl).1
  | 5, hz => simp [escTab] at hz; subst hz; simpa using (hr 2 10 110 (by omega) rfl).2
  | 6, hz => simp [escTab] at hz; subst hz; simpa using (hr 3 13 114 (by omega) rfl).1
  | 7, hz => simp [escTab] at hz; subst hz; simpa using (hr 3 13 114 (by omega) rfl).2
  | 8, hz => simp [escTab] at hz; subst hz; simpa using (hr 4 9 116 (by omega) rfl).1
  | 9, hz => simp [escTab] at hz; subst hz; simpa using (hr 4 9 116 (by omega) rfl).2
  | i + 10, hz => simp [escTab] at hz

theorem laid_of {W : World} {l : List (String × DataW Unit)} (h : laidMet Tryd.prog l W) (h1 : ("shunter/words.escapes", Rows.laid_shunter_words_escapes) ∈ l) (h2 : ("strconv.ErrRange", Rows.laid_strconv_ErrRange) ∈ l) (h3 : ("internal/strconv.uint64pow10", Rows.laid_internal_strconv_uint64pow10) ∈ l) : Laid W :=
  ⟨esc_of (laidMet.reads h h1), rng_of (laidMet.reads h h2), pow_of (laidMet.reads h h3)⟩

/-! ### one world that holds what the lists say -/
def litV : DataW Unit → Value
  | .lit (.int k z) => .int k z
  | _ => .nilIface
def aggV : DataW Unit → Array Value
  | .agg ds => (ds.flatMap fun d => match d with
    | .agg es => es.map litV
    | d => [litV d]).toArray
  | _ => #[]
def rngText : ByteArray := ⟨#[118, 97, 108, 117, 101, 32, 111, 117, 116, 32, 111, 102, 32, 114, 97, 110, 103, 101]⟩
def synText : ByteArray := ⟨#[105, 110, 118, 97, 108, 105, 100, 32, 115, 121, 110, 116, 97, 120]⟩
noncomputable def low : Nat := (World.holding Tryd.prog default ⟨#[], #[], []⟩).heap.size
noncomputable def laidWorld (os : Os) : World :=
  let w0 := World.holding Tryd.prog os ⟨#[.cells #[.string rngText] 137, .cells #[.string synText] 137], #[], []⟩
  let put (h : Array Obj) (g : Nat) (cs : Array Value) : Array Obj := h.modify g fun
    | .cells _ t frozen => .cells cs t frozen
    | o => o
  let h0 := put w0.heap 0 #[.iface 135 (.pointer (some ⟨low + 1, 0, none⟩))]
  let h1 := put h0 1 #[.iface 135 (.pointer (some ⟨low, 0, none⟩))]
  let h2 := put h1 2 (aggV Rows.laid_internal_strconv_uint64pow10)
  let h3 := put h2 3 (aggV Rows.laid_shunter_words_escapes)
  let h5 := put h3 5 (aggV Rows.laid_math_bits_deBruijn32tab)
  let h6 := put h5 6 (aggV Rows.laid_math_bits_deBruijn64tab)
  { w0 with heap := h6 }
theorem laid_met (os : Os) (args : Array Value) : laidMet Tryd.prog Rows.wordsNamesRow.laid ((laidWorld os).forCall (fun _ _ => 0) ⟨#[], args, []⟩).memory :=
  laidMet_of_run' 8 (by kernel_rfl) (by kernel_rfl)
theorem laid_names {W : World} (h : laidMetH Tryd.prog Rows.wordsNamesRow.laid W) : Laid W :=
  laid_of (l := Rows.wordsNamesRow.laid) h (by simp [Rows.wordsNamesRow]) (by simp [Rows.wordsNamesRow]) (by simp [Rows.wordsNamesRow])
end YtkhggnfhhafkjaaDoor
end Go.Proofs
