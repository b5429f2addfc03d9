/- Arguments that are spans; the tables of chapter 4, from the rows' lists to the walks' facts; a world for the witness. -/
import Derived.Test.YtcelebblcjhpaaaDoorLift
import Derived.Test.YtcelebblcjhpaaaDoorTabs
import Derived.Test.YtcelebblcjhpaaaDoorSw1
import Derived.Deep.Strs
namespace Go.Proofs.YtcelebblcjhpaaaDoor
open Go.ChangeShapes Go.WideShapes Go.ChangeAt Go.RowKit

theorem r_span : Tryd.prog.readableRec 53 = true ∧ 53 < Tryd.prog.types.size := ⟨by kernel_rfl, of_decide_eq_true (by kernel_rfl)⟩
theorem cellsSpan : Tryd.prog.cellsOf 53 = 4 := by kernel_rfl
theorem cellsBits : Tryd.prog.cellsOf 51 = 2 := by kernel_rfl
theorem cellsInts : Tryd.prog.cellsOf 23 = 1 := by kernel_rfl
set_option maxRecDepth 100000 in
theorem span_of_arg {H : Type} {enc : TypeId × Value → H} {W : World} {base : Nat} {v : Value} {d : DataW H} {p : List MemPlace} (hval : Value.okWide Tryd.prog W .any base 53 v)
    (h : DataW.Trod enc Tryd.prog W 0 (fun _ => true) true 53 v d p) : ∃ (f c long : Int) (v' : Value) (zs : List Int), v = sp f c long v' ∧ (-9223372036854775808 ≤ long ∧ long ≤ 9223372036854775807) ∧ IntsAt W v' zs ∧ zs.length ≤ 9223372036854775807 := by
  obtain ⟨cs, rfl, hsz⟩ := okWide_struct Tryd.underlying53 hval
  obtain ⟨x0, x1, x2, x3, rfl⟩ := Joins.array4 (hsz.trans cellsSpan)
  obtain ⟨fuel, hf⟩ := h
  obtain ⟨y0, y1, y2, n, _, _, h0, h1, h2⟩ := Go.Deep.trod_struct3 Tryd.underlying53 hf
  simp only [Value.cells, cellsInt, cellsBits, List.drop_zero, List.drop_succ_cons, List.take_succ_cons, List.take_zero] at h0 h1 h2
  obtain ⟨f, hf0, _, _⟩ := DataW.trod_int Tryd.underlying3 h0
  simp only [List.cons.injEq, and_true] at hf0
  subst hf0
  obtain ⟨c, hc0, _, _⟩ := DataW.trod_int Tryd.underlying3 h1
  simp only [List.cons.injEq, and_true] at hc0
  subst hc0
  obtain ⟨y3, y4, m, _, _, h3, h4⟩ := trod_struct2 Tryd.underlying51 h2
  simp only [cellsInt, cellsInts, List.drop_zero, List.drop_succ_cons, List.take_succ_cons, List.take_zero] at h3 h4
  obtain ⟨long, hl, _, hw⟩ := DataW.trod_int Tryd.underlying3 h3
  simp only [List.cons.injEq, and_true] at hl
  subst hl
  rcases open_ints Tryd.underlying23 Tryd.underlying3 cellsInt h4 with ⟨hcs, hx⟩ | ⟨a, len, cap', zs, hcs, _, hl, hm, hz, hx, hcell, hwz⟩
  · simp only [List.cons.injEq, and_true] at hcs
    subst hcs
    exact ⟨f, c, long, _, [], rfl, bounds_i64 hw, ⟨none, 0, rfl, fun h => absurd h (by simp)⟩, by simp⟩
  · simp only [List.cons.injEq, and_true] at hcs
    subst hcs
    simp only [if_true] at hz
    have hlen : (zs.take len).length = len := by rw [List.length_take]; omega
    refine ⟨f, c, long, _, zs.take len, rfl, bounds_i64 hw, ⟨some a, cap', by rw [hlen], fun h0 => ?_⟩, by rw [hlen]; unfold maxLen at hm; omega⟩
    rw [hlen] at h0 ⊢
    obtain ⟨b, off, rfl, hc⟩ := ints_at hcell (by omega)
    refine ⟨b, off, rfl, fun i hi => ?_⟩
    rw [hc i (by omega)]
    simp [List.getD, hi]

theorem gTab : Tryd.prog.globalNamed "loop.example/g00627/impl.classSizes" = some 0 := by kernel_rfl
theorem gTabType : (Tryd.prog.globals[0]?).map (·.type) = some 86 := by kernel_rfl
theorem cellsTab : Tryd.prog.cellsOf 86 = 41 := by kernel_rfl
theorem gTabB : Tryd.prog.globalNamed "math/bits.deBruijn32tab" = some 1 := by kernel_rfl
theorem gTabTypeB : (Tryd.prog.globals[1]?).map (·.type) = some 120 := by kernel_rfl
theorem cellsTabB : Tryd.prog.cellsOf 120 = 32 := by kernel_rfl
theorem cellsU8 : Tryd.prog.cellsOf 5 = 1 := by kernel_rfl
def tabInts : List Int := Lib.deBruijn32tab.map (fun n : Nat => (n : Int))
theorem tabInts_at : ∀ k, k < 32 → tabInts.getD k 0 = ((Lib.deBruijn32tab.getD k 0 : Nat) : Int) := by decide
theorem factOf {W : World} (h : laidMetH Tryd.prog [("loop.example/g00627/impl.classSizes", Rows.laid_loop_example_g00627_impl_classSizes)] W) : TabW W := by
  have hh : Lib.TabIs Tryd.prog W "loop.example/g00627/impl.classSizes" .i64 Pl.tab := Lib.tabIs_of_head (rest := []) gTab gTabType Tryd.underlying86 Tryd.underlying3 cellsInt cellsTab h
  exact fun k hk => hh.cell gTab k (by rw [Pl.len]; exact hk)
theorem laid_tail {P : Program} {W : World} {x : String × DataW Unit} {rest : List (String × DataW Unit)} (h : laidMet P (x :: rest) W) : laidMet P rest W := by
  obtain ⟨ps, ⟨g', t', cs, fuel, p, q, hg', ht', hvar, hd, hr, hps⟩, hn, hc⟩ := h
  subst hps
  exact ⟨q, hr, (List.nodup_append.1 hn).2.1, fun b off hm => hc b off (List.mem_append_right _ hm)⟩
theorem factOf2 {W : World} (h : laidMetH Tryd.prog [("math/bits.deBruijn32tab", Rows.laid_math_bits_deBruijn32tab), ("loop.example/g00627/impl.classSizes", Rows.laid_loop_example_g00627_impl_classSizes)] W) : Tabs W := by
  refine ⟨factOf (laid_tail h), ?_⟩
  have hh : Lib.TabIs Tryd.prog W "math/bits.deBruijn32tab" .u8 tabInts := Lib.tabIs_of_head gTabB gTabTypeB Tryd.underlying120 Tryd.underlying5 cellsU8 cellsTabB h
  intro k hk
  have := hh.cell gTabB k (by show k < 32; exact hk)
  rw [this]
  rw [tabInts_at k hk]
theorem r_tab : Tryd.prog.readableRec 86 = true ∧ 86 < Tryd.prog.types.size := ⟨by kernel_rfl, of_decide_eq_true (by kernel_rfl)⟩
theorem hvsLaid : ∀ n ∈ ["loop.example/g00627/impl.classSizes"], ∀ g t, Tryd.prog.globalNamed n = some g → (Tryd.prog.globals[g]?).map (·.type) = some t → Tryd.prog.readableRec t = true ∧ t < Tryd.prog.types.size := by
  intro n hn g t h1 h2
  simp only [List.mem_singleton] at hn
  subst hn
  obtain rfl := Option.some.inj (gTab.symm.trans h1)
  obtain rfl := Option.some.inj (gTabType.symm.trans h2)
  exact r_tab
def laidPlaces : List MemPlace := MemPlace.row ⟨0, 0, none⟩ 41
def tabAggB : Array Value := (tabInts.map (Value.int .u8)).toArray
def putCells (cs : Array Value) : Obj → Obj
  | .cells _ t frozen => .cells cs t frozen
  | o => o
/-- A WORLD FOR THE WITNESS: the settled one, the tables holding what their initialisers lay. -/
noncomputable def laidWorld (os : Os) : World :=
  { World.holding Tryd.prog os ⟨#[], #[], []⟩ with heap := ((World.holding Tryd.prog os ⟨#[], #[], []⟩).heap.modify 0 (putCells tabAgg)).modify 1 (putCells tabAggB) }
end Go.Proofs.YtcelebblcjhpaaaDoor
