/- laws.FnExactGoodMarking: for every input the law answers true, and the input reads as it did. No condition. -/
import Derived.Test.YthanckifinfpiaaLift
import Derived.Test.YthanckifinfpiaaHl3
import Derived.Deep.Matrix
import Derived.Deep.Grids
import Derived.Test.YthanckifinfpiaaSA
import Derived.Test.YthanckifinfpiaaGb
namespace Go.Proofs.Ythanckifinfpiaa
open Go.ChangeShapes Go.WideShapes Go.ChangeAt Go.RowKit Ph

theorem r_heap : Try.prog.readableRec 65 = true ∧ 65 < Try.prog.types.size := ⟨by kernel_rfl, of_decide_eq_true (by kernel_rfl)⟩
theorem cellsIntsL : Try.prog.cellsOf 25 = 1 := by kernel_rfl
theorem cellsBool : Try.prog.cellsOf 4 = 1 := by kernel_rfl
theorem add_none (b off i : Nat) : (⟨b, off, none⟩ : Addr).add i = ⟨b, off + i, none⟩ := by simp [Addr.add]
theorem ints_cells {H : Type} {enc : TypeId × Value → H} {W : World} {fuel : Nat} {v : Value} {x : DataW H × List MemPlace} (h : DataW.trod enc Try.prog W 0 (fun _ => true) true fuel 25 [v] = some x) : ∃ zs, IntsAt W v zs ∧ zs.length ≤ 9223372036854775807 := by
  rcases open_ints Try.underlying25 Try.underlying3 cellsInt h with ⟨hcs, hx⟩ | ⟨a, len', cap', zs, hcs, _, hl, hm, hz, hx, hcell, hwz⟩
  · simp only [List.cons.injEq, and_true] at hcs
    subst hcs
    exact ⟨[], ⟨none, 0, rfl, fun h => absurd h (by simp)⟩, by simp⟩
  · simp only [List.cons.injEq, and_true] at hcs
    subst hcs
    simp only [if_true] at hz
    have hlen : (zs.take len').length = len' := by rw [List.length_take]; omega
    refine ⟨zs.take len', ⟨some a, cap', by rw [hlen], fun h0 => ?_⟩, by rw [hlen]; unfold maxLen at hm; omega⟩
    rw [hlen] at h0 ⊢
    obtain ⟨b, off, rfl, hc⟩ := ints_at hcell (by omega)
    refine ⟨b, off, rfl, fun i hi => ?_⟩
    rw [hc i (by omega)]
    simp [List.getD, hi]
theorem bools_cells {H : Type} {enc : TypeId × Value → H} {W : World} {fuel : Nat} {v : Value} {x : DataW H × List MemPlace} (h : DataW.trod enc Try.prog W 0 (fun _ => true) true fuel 24 [v] = some x) : ∃ bs, BoolsAt W v bs ∧ bs.length ≤ 9223372036854775807 := by
  rcases Deep.open_bools Try.underlying24 Try.underlying4 cellsBool h with ⟨hcs, hx⟩ | ⟨a, len, cap, B, hcs, _, hl, hm, hx, hcell⟩
  · simp only [List.cons.injEq, and_true] at hcs
    subst hcs
    exact ⟨[], ⟨none, 0, rfl, fun h => absurd h (by simp)⟩, by simp⟩
  · simp only [List.cons.injEq, and_true] at hcs
    subst hcs
    have hln : ((List.range len).map B).length = len := by simp
    refine ⟨(List.range len).map B, ⟨some a, cap, by rw [hln], fun h0 => ?_⟩, by rw [hln]; unfold maxLen at hm; omega⟩
    rw [hln] at h0 ⊢
    obtain ⟨b, off, spot⟩ := a
    have hspot : spot = none := by simpa [Addr.add] using World.cell?_spot (hcell 0 (by omega))
    subst hspot
    refine ⟨b, off, rfl, fun i hi => ?_⟩
    have h1 := hcell i (by omega)
    rw [add_none] at h1
    rw [h1]
    simp [List.getD, hi]
theorem rows_cells {H : Type} {enc : TypeId × Value → H} {W : World} {fuel : Nat} {v : Value} {x : DataW H × List MemPlace} (h : DataW.trod enc Try.prog W 0 (fun _ => true) true fuel 23 [v] = some x) : ∃ fs, RowsAt W v fs ∧ Fit fs ∧ fs.length ≤ 9223372036854775807 := by
  rcases Deep.open_int_rows Try.underlying23 Try.underlying25 Try.underlying3 cellsIntsL cellsInt h with ⟨hcs, hx⟩ | ⟨a, len, cap, A, L, C, Z, hcs, _, hl, hm, hx, hrow⟩
  · simp only [List.cons.injEq, and_true] at hcs
    subst hcs
    exact ⟨[], ⟨none, 0, rfl, fun h => absurd h (by simp)⟩, fun k hk => by simp at hk, by simp⟩
  · simp only [List.cons.injEq, and_true] at hcs
    subst hcs
    have hln : ((List.range len).map fun r => (Z r).take (L r)).length = len := by simp
    have hgd : ∀ i, i < len → ((List.range len).map fun r => (Z r).take (L r)).getD i [] = (Z i).take (L i) := fun i hi => by simp [List.getD, hi]
    have hlr : ∀ i, i < len → ((Z i).take (L i)).length = L i := fun i hi => by
      obtain ⟨_, h1, _, h2, _⟩ := hrow i (by omega)
      rw [List.length_take]; omega
    refine ⟨(List.range len).map fun r => (Z r).take (L r), ⟨some a, cap, by rw [hln], fun h0 => ?_⟩, fun k hk => ?_, by rw [hln]; unfold maxLen at hm; omega⟩
    · rw [hln] at h0 ⊢
      obtain ⟨b, off, spot⟩ := a
      have hspot : spot = none := by simpa [Addr.add] using World.cell?_spot (hrow 0 (by omega)).1
      subst hspot
      refine ⟨b, off, rfl, fun i hi => ?_⟩
      obtain ⟨q, h1, h2, h3, _, h5, h6⟩ := hrow i (by omega)
      rw [add_none] at q
      refine ⟨_, q, ?_⟩
      rw [hgd i hi]
      refine ⟨A i, C i, by rw [hlr i hi], fun hp => ?_⟩
      rw [hlr i hi] at hp ⊢
      cases hA : A i with
      | none => have := h5 hA; omega
      | some a' =>
        obtain ⟨_, hc⟩ := h6 a' hA
        obtain ⟨b', off', spot'⟩ := a'
        have hs' : spot' = none := by simpa [Addr.add] using World.cell?_spot (hc 0 (by omega))
        subst hs'
        refine ⟨b', off', rfl, fun j hj => ?_⟩
        have := hc j (by omega)
        rw [add_none] at this
        rw [this]
        simp [List.getD, hj]
    · rw [hln] at hk
      rw [hgd k hk, hlr k hk]
      obtain ⟨_, h1, h2, _⟩ := hrow k (by omega)
      unfold maxLen at h2; omega
set_option maxRecDepth 100000 in
theorem heap_of_arg {H : Type} {enc : TypeId × Value → H} {W : World} {base : Nat} {v : Value} {d : DataW H} {p : List MemPlace} (hval : Value.okWide Try.prog W .any base 65 v)
    (h : DataW.Trod enc Try.prog W 0 (fun _ => true) true 65 v d p) : ∃ (a b c : Value) (k : Ph.H), v = hv a b c ∧ HeapAt W a b c k ∧ FitH k := by
  obtain ⟨v0, v1, v2, y0, y1, y2, n, rfl, _, _, h0, h1, h2⟩ := Joins.open_agg3 Try.underlying65 (by kernel_rfl) (by kernel_rfl) hval h
  obtain ⟨fs, r1, r2, r3⟩ := rows_cells h0
  obtain ⟨bs, s1, s2⟩ := bools_cells h1
  obtain ⟨zs, t1, t2⟩ := ints_cells h2
  exact ⟨v0, v1, v2, ⟨fs, bs, zs⟩, rfl, ⟨r1, s1, t1⟩, ⟨r2, r3, s2, t2⟩⟩
set_option maxRecDepth 100000 in
theorem list_of_arg {H : Type} {enc : TypeId × Value → H} {W : World} {base : Nat} {v : Value} {d : DataW H} {p : List MemPlace} (hval : Value.okWide Try.prog W .any base 25 v)
    (h : DataW.Trod enc Try.prog W 0 (fun _ => true) true 25 v d p) : ∃ zs, IntsAt W v zs ∧ zs.length ≤ 9223372036854775807 := by
  obtain ⟨a0, len, cap, rfl⟩ := okWide_slice Try.underlying25 hval
  obtain ⟨fuel, hf⟩ := h
  exact ints_cells hf
end Go.Proofs.Ythanckifinfpiaa
namespace Go.Proofs.Ythanckifinfpiaa
open Go.RowKit Ph
abbrev mo (v : Mv) : Value := .agg #[.int .i64 v.k, .int .i64 v.a, .int .i64 v.b, .int .i64 v.t]
abbrev mo4 (v : Mv) : Array Value := #[.int .i64 v.k, .int .i64 v.a, .int .i64 v.b, .int .i64 v.t]
abbrev i64M (v : Mv) : Prop := (-9223372036854775808 ≤ v.k ∧ v.k ≤ 9223372036854775807) ∧ (-9223372036854775808 ≤ v.a ∧ v.a ≤ 9223372036854775807) ∧ (-9223372036854775808 ≤ v.b ∧ v.b ≤ 9223372036854775807) ∧ (-9223372036854775808 ≤ v.t ∧ v.t ≤ 9223372036854775807)
end Go.Proofs.Ythanckifinfpiaa
namespace Go.Proofs.Ythanckifinfpiaa
open Go.ChangeShapes Go.WideShapes Go.ChangeAt Go.RowKit Ph

theorem r_marking : Try.prog.readableRec 72 = true ∧ 72 < Try.prog.types.size := ⟨by kernel_rfl, of_decide_eq_true (by kernel_rfl)⟩
theorem cellsMarking : Try.prog.cellsOf 72 = 4 := by kernel_rfl
theorem cellsHeapL : Try.prog.cellsOf 65 = 3 := by kernel_rfl
theorem cellsRowsL : Try.prog.cellsOf 23 = 1 := by kernel_rfl
theorem cellsBoolsL : Try.prog.cellsOf 24 = 1 := by kernel_rfl
set_option maxRecDepth 100000 in
theorem marking_of_arg {H : Type} {enc : TypeId × Value → H} {W : World} {base : Nat} {v : Value} {d : DataW H} {p : List MemPlace} (hval : Value.okWide Try.prog W .any base 72 v)
    (h : DataW.Trod enc Try.prog W 0 (fun _ => true) true 72 v d p) : ∃ (a b c e : Value) (k : Ph.H) (cs : List Int), v = mv a b c e ∧ HeapAt W a b c k ∧ IntsAt W e cs ∧ FitH k ∧ cs.length ≤ 9223372036854775807 := by
  obtain ⟨cs, rfl, hsz⟩ := okWide_struct Try.underlying72 hval
  obtain ⟨x0, x1, x2, x3, rfl⟩ := Joins.array4 (hsz.trans cellsMarking)
  obtain ⟨fuel, hf⟩ := h
  obtain ⟨y0, y1, n, _, _, h0, h1⟩ := trod_struct2 Try.underlying72 hf
  simp only [Value.cells, cellsHeapL, cellsIntsL, List.drop_zero, List.drop_succ_cons, List.take_succ_cons, List.take_zero] at h0 h1
  obtain ⟨y2, y3, y4, m, _, _, h2, h3, h4⟩ := Go.Deep.trod_struct3 Try.underlying65 h0
  simp only [cellsRowsL, cellsBoolsL, cellsIntsL, List.drop_zero, List.drop_succ_cons, List.take_succ_cons, List.take_zero] at h2 h3 h4
  obtain ⟨fs, r1, r2, r3⟩ := rows_cells h2
  obtain ⟨bs, s1, s2⟩ := bools_cells h3
  obtain ⟨zs, t1, t2⟩ := ints_cells h4
  obtain ⟨us, u1, u2⟩ := ints_cells h1
  exact ⟨x0, x1, x2, x3, ⟨fs, bs, zs⟩, us, rfl, ⟨r1, s1, t1⟩, u1, ⟨r2, r3, s2, t2⟩, u2⟩

theorem r_move : Try.prog.readableRec 76 = true ∧ 76 < Try.prog.types.size := ⟨by kernel_rfl, of_decide_eq_true (by kernel_rfl)⟩
set_option maxRecDepth 100000 in
theorem move_of_arg {H : Type} {enc : TypeId × Value → H} {W : World} {base : Nat} {v : Value} {d : DataW H} {p : List MemPlace} (hval : Value.okWide Try.prog W .any base 76 v)
    (h : DataW.Trod enc Try.prog W 0 (fun _ => true) true 76 v d p) : ∃ r : Mv, v = mo r ∧ i64M r := by
  obtain ⟨v0, v1, v2, v3, y0, y1, y2, y3, n, rfl, _, _, h0, h1, h2, h3⟩ := Joins.open_agg4 Try.underlying76 (by kernel_rfl) (by kernel_rfl) hval h
  obtain ⟨x, e0, _, w0⟩ := DataW.trod_int Try.underlying3 h0
  obtain ⟨y, e1, _, w1⟩ := DataW.trod_int Try.underlying3 h1
  obtain ⟨z, e2, _, w2⟩ := DataW.trod_int Try.underlying3 h2
  obtain ⟨u, e3, _, w3⟩ := DataW.trod_int Try.underlying3 h3
  simp only [List.cons.injEq, and_true] at e0 e1 e2 e3
  subst e0; subst e1; subst e2; subst e3
  exact ⟨⟨x, y, z, u⟩, rfl, bounds_i64 w0, bounds_i64 w1, bounds_i64 w2, bounds_i64 w3⟩
end Go.Proofs.Ythanckifinfpiaa
namespace Go.Proofs.Ythanckifinfpiaa
open Go.RowKit Ph

set_option maxHeartbeats 12800000 in
set_option maxRecDepth 100000 in
theorem core_FnExactGoodMarking (ax bx cx dx : Value) (hx : H) (zx : List Int) (bb : Bool) (w : World) (hzx : HeapAt w ax bx cx hx) (hyx : IntsAt w dx zx) (hm : wtH hx + zx.length ≤ 1048576)
    (hS : ∀ (w : World) (ax bx cx dx : Value), HeapAt w ax bx cx hx → IntsAt w dx zx → Calls Try.prog 43 #[mv ax bx cx dx] w (fun e w' => e = .returned (.bool bb) ∧ Below w.heap.size w w'))
    (hI : ∀ (w : World) (ax bx cx dx : Value), HeapAt w ax bx cx hx → IntsAt w dx zx → Calls Try.prog 42 #[mv ax bx cx dx] w (fun e w' => e = .returned (.bool bb) ∧ Below w.heap.size w w')) :
    Calls Try.prog 7 #[mv ax bx cx dx] w fun e w' => e = .returned (.bool true) ∧ Below w.heap.size w w' := by
  have HZ := Lib.hid hzx; have HY := Lib.hid hyx
  have HS := Lib.hid hS; have HI := Lib.hid hI
  clear hS hI
  obtain ⟨paA, qaA, rfl⟩ := hzx.f.shape
  obtain ⟨pbA, qbA, rfl⟩ := hzx.l.shape
  obtain ⟨pcA, qcA, rfl⟩ := hzx.r.shape
  obtain ⟨pdA, qdA, rfl⟩ := hyx.shape
  clear hzx hyx
  have HSZ : Hid (szM hx ≤ 1048576 ∧ hx.f.length ≤ 1048576) := by unfold Hid szM; have := hm; unfold wtH wt at this; omega
  generalize hwt : wtH hx = wt at *
  have HWT := Lib.hid hwt; clear hwt
  generalize hnnf : hx.f.length = nf at *
  have HNnf := Lib.hid hnnf; clear hnnf
  generalize hnnl : hx.l.length = nl at *
  have HNnl := Lib.hid hnnl; clear hnnl
  generalize hnnr : hx.r.length = nr at *
  have HNnr := Lib.hid hnnr; clear hnnr
  generalize hnnc : zx.length = nc at *
  have HNnc := Lib.hid hnnc; clear hnnc
  generalize hsz : szM hx = sz at *
  have HSM := Lib.hid hsz; clear hsz
  have HM : Hid (wtH hx ≤ 1048576) := by unfold Hid; rw [HWT.out]; omega
  have HMC : Hid (zx.length ≤ 1048576) := by unfold Hid; rw [HNnc.out]; omega
  have hl0 : ¬ ((1048576 : Int) - (wt : Int) - (nc : Int)) < 0 := by omega
  have e1 : (bb != bb) = false := by simp
  have L := below1 w (.cells (m4 (.slice paA nf qaA) (.slice pbA nl qbA) (.slice pcA nr qcA) (.slice pdA nc qdA)) 72)
  have Rx : Row _ w.heap.size 72 (m4 (.slice paA nf qaA) (.slice pbA nl qbA) (.slice pcA nr qcA) (.slice pdA nc qdA)) := Row.new w _ _
  go_enter Try.func7, Try.ntmps7
  go_wp2_with fail
  refine (c_szMarking_yes (.slice paA nf qaA) (.slice pbA nl qbA) (.slice pcA nr qcA) (.slice pdA nc qdA) hx zx 1048576 _ (HeapAt.below HZ.out L) (IntsAt.below HY.out L) (by omega) (by rw [HWT.out, HNnc.out]; omega)).mono ?_
  rintro e ws ⟨rfl, hb⟩
  rw [HWT.out, HNnc.out]
  replace Rx := Row.below Rx hb
  have hs0 := hb.size
  try simp only [World.size_alloc] at hs0
  replace L := bst L hb L.size
  clear hb
  have c0x := Row.cell Rx 0
  have c1x := Row.cell Rx 1
  have c2x := Row.cell Rx 2
  have c3x := Row.cell Rx 3
  have ltx := Row.lt Rx
  go_wp2_with fail
  clear c0x c1x c2x c3x ltx
  refine (c_toMarking (.slice paA nf qaA) (.slice pbA nl qbA) (.slice pcA nr qcA) (.slice pdA nc qdA) hx zx _ (HeapAt.below HZ.out L) (IntsAt.below HY.out L) HM.out HMC.out).mono ?_
  rintro e wW0 ⟨aQ, bQ, cQ, dQ, rfl, ho, hb⟩
  try simp only [World.size_alloc] at ho
  have hsh := ho.shapes
  simp only [HNnf.out, HNnl.out, HNnr.out, HNnc.out] at hsh
  obtain ⟨⟨paQ, qaQ, rfl⟩, ⟨pbQ, qbQ, rfl⟩, ⟨pcQ, qcQ, rfl⟩, ⟨pdQ, qdQ, rfl⟩⟩ := hsh
  replace Rx := Row.below Rx hb
  have hs1 := hb.size
  try simp only [World.size_alloc] at hs1
  replace L := bst L hb L.size
  clear hb
  have OQ := ho
  clear ho
  have c0x := Row.cell Rx 0
  have c1x := Row.cell Rx 1
  have c2x := Row.cell Rx 2
  have c3x := Row.cell Rx 3
  have ltx := Row.lt Rx
  go_wp2_with fail
  clear c0x c1x c2x c3x ltx
  refine (HS.out _ (.slice paQ nf qaQ) (.slice pbQ nl qbQ) (.slice pcQ nr qcQ) (.slice pdQ nc qdQ) OQ.heap OQ.cols).mono ?_
  rintro e wW ⟨rfl, hb⟩
  replace Rx := Row.below Rx hb
  replace OQ := OwnM.below OQ hb
  have hs2 := hb.size
  try simp only [World.size_alloc] at hs2
  replace L := bst L hb L.size
  clear hb
  clear OQ
  have c0x := Row.cell Rx 0
  have c1x := Row.cell Rx 1
  have c2x := Row.cell Rx 2
  have c3x := Row.cell Rx 3
  have ltx := Row.lt Rx
  go_wp2_with fail
  clear c0x c1x c2x c3x ltx
  refine (c_toMarking (.slice paA nf qaA) (.slice pbA nl qbA) (.slice pcA nr qcA) (.slice pdA nc qdA) hx zx _ (HeapAt.below HZ.out L) (IntsAt.below HY.out L) HM.out HMC.out).mono ?_
  rintro e wX ⟨aX, bX, cX, dX, rfl, ho, hb⟩
  try simp only [World.size_alloc] at ho
  have hsh := ho.shapes
  simp only [HNnf.out, HNnl.out, HNnr.out, HNnc.out] at hsh
  obtain ⟨⟨paX, qaX, rfl⟩, ⟨pbX, qbX, rfl⟩, ⟨pcX, qcX, rfl⟩, ⟨pdX, qdX, rfl⟩⟩ := hsh
  replace Rx := Row.below Rx hb
  have hs3 := hb.size
  try simp only [World.size_alloc] at hs3
  replace L := bst L hb L.size
  clear hb
  have OX := ho
  clear ho
  have c0x := Row.cell Rx 0
  have c1x := Row.cell Rx 1
  have c2x := Row.cell Rx 2
  have c3x := Row.cell Rx 3
  have ltx := Row.lt Rx
  go_wp2_with fail
  clear c0x c1x c2x c3x ltx
  replace Rx := Row.alloc Rx (.cells (m4 (.slice paX nf qaX) (.slice pbX nl qbX) (.slice pcX nr qcX) (.slice pdX nc qdX)) 55)
  have RX := Row.new wX 55 (m4 (.slice paX nf qaX) (.slice pbX nl qbX) (.slice pcX nr qcX) (.slice pdX nc qdX))
  replace OX := OwnM.below OX (below1 _ (.cells (m4 (.slice paX nf qaX) (.slice pbX nl qbX) (.slice pcX nr qcX) (.slice pdX nc qdX)) 55))
  replace L := Below.alloc L L.size (.cells (m4 (.slice paX nf qaX) (.slice pbX nl qbX) (.slice pcX nr qcX) (.slice pdX nc qdX)) 55)
  refine (HI.out _ (.slice paX nf qaX) (.slice pbX nl qbX) (.slice pcX nr qcX) (.slice pdX nc qdX) OX.heap OX.cols).mono ?_
  rintro e wG ⟨rfl, hb⟩
  replace Rx := Row.below Rx hb
  replace RX := Row.below RX hb
  replace OX := OwnM.below OX hb
  have hs4 := hb.size
  try simp only [World.size_alloc] at hs4
  replace L := bst L hb L.size
  clear hb
  have c0x := Row.cell Rx 0
  have c1x := Row.cell Rx 1
  have c2x := Row.cell Rx 2
  have c3x := Row.cell Rx 3
  have ltx := Row.lt Rx
  have c0X := Row.cell RX 0
  have c1X := Row.cell RX 1
  have c2X := Row.cell RX 2
  have c3X := Row.cell RX 3
  have ltX := Row.lt RX
  go_wp2_with fail
  have RR0 : wG.drew.cell? ⟨w.heap.size, 0, none⟩ = some (.slice paA nf qaA) := Row.cell Rx 0
  have RR1 : wG.drew.cell? ⟨w.heap.size, 1, none⟩ = some (.slice pbA nl qbA) := Row.cell Rx 1
  have RR2 : wG.drew.cell? ⟨w.heap.size, 2, none⟩ = some (.slice pcA nr qcA) := Row.cell Rx 2
  have RR3 : wG.drew.cell? ⟨w.heap.size, 3, none⟩ = some (.slice pdA nc qdA) := Row.cell Rx 3
  have RX0 : wG.drew.cell? ⟨wX.heap.size, 0, none⟩ = some (.slice paX nf qaX) := Row.cell RX 0
  have RX1 : wG.drew.cell? ⟨wX.heap.size, 1, none⟩ = some (.slice pbX nl qbX) := Row.cell RX 1
  have RX2 : wG.drew.cell? ⟨wX.heap.size, 2, none⟩ = some (.slice pcX nr qcX) := Row.cell RX 2
  have RX3 : wG.drew.cell? ⟨wX.heap.size, 3, none⟩ = some (.slice pdX nc qdX) := Row.cell RX 3
  have BD := below_drew (Below.refl wG.heap.size wG)
  have IZ := Lib.hid (HeapAt.below HZ.out (below_drew L))
  have IY := Lib.hid (IntsAt.below HY.out (below_drew L))
  have IX := Lib.hid (OX.heap.below BD)
  have IC := Lib.hid (OX.cols.below BD)
  clear c0x c1x c2x c3x ltx c0X c1X c2X c3X ltX
  go_region_held3 (fun w' => w'.cell? ⟨w.heap.size, 0, none⟩ = some (.slice paA nf qaA) ∧ w'.cell? ⟨w.heap.size, 1, none⟩ = some (.slice pbA nl qbA) ∧ w'.cell? ⟨w.heap.size, 2, none⟩ = some (.slice pcA nr qcA) ∧ w'.cell? ⟨w.heap.size, 3, none⟩ = some (.slice pdA nc qdA) ∧ w'.cell? ⟨wX.heap.size, 0, none⟩ = some (.slice paX nf qaX) ∧ w'.cell? ⟨wX.heap.size, 1, none⟩ = some (.slice pbX nl qbX) ∧ w'.cell? ⟨wX.heap.size, 2, none⟩ = some (.slice pcX nr qcX) ∧ w'.cell? ⟨wX.heap.size, 3, none⟩ = some (.slice pdX nc qdX) ∧ Below wG.heap.size wG w')
    (first
      | (with_reducible exact ⟨RR0, RR1, RR2, RR3, RX0, RX1, RX2, RX3, BD⟩)
      | (go_split_ands
         exact ⟨cellBelow hbk (Nat.le_refl _) (by assumption), cellBelow hbk (Nat.le_refl _) (by assumption), cellBelow hbk (Nat.le_refl _) (by assumption), cellBelow hbk (Nat.le_refl _) (by assumption), cellBelow hbk (Nat.le_refl _) (by assumption), cellBelow hbk (Nat.le_refl _) (by assumption), cellBelow hbk (Nat.le_refl _) (by assumption), cellBelow hbk (Nat.le_refl _) (by assumption), bst (by assumption) hbk (Below.size (by assumption))⟩)
      | (go_split_ands; refine ⟨?_, ?_, ?_, ?_, ?_, ?_, ?_, ?_, ?_⟩ <;> assumption))
    (first
      | (go_at_call 56; refine (c_toMarking (.slice paA nf qaA) (.slice pbA nl qbA) (.slice pcA nr qcA) (.slice pdA nc qdA) hx zx _ IZ.out IY.out HM.out HMC.out).mono ?_; rintro e wxd1 ⟨aD, bD, cD, dD, rfl, hoD, hbk⟩; have OD := Lib.hid hoD.heap; have OE := Lib.hid hoD.cols; have XD := Lib.hid (IX.out.below hbk); have XE := Lib.hid (IC.out.below hbk); clear hoD)
      | (go_at_call 50; refine (c_eqMarking _ _ _ _ _ _ _ _ hx zx _ XD.out XE.out OD.out OE.out HM.out HMC.out).mono ?_; rintro e wxd2 ⟨rfl, hbk⟩))
  have hb : Below wG.heap.size wG wxd2 := by go_split_ands; assumption
  clear OD XD IZ IX OE XE IY IC RR0 RX0 RR1 RX1 RR2 RX2 RR3 RX3 BD
  replace Rx := Row.below Rx hb
  replace RX := Row.below RX hb
  replace OX := OwnM.below OX hb
  have hs5 := hb.size
  try simp only [World.size_alloc] at hs5
  replace L := bst L hb L.size
  clear hb
  have c0x := Row.cell Rx 0
  have c1x := Row.cell Rx 1
  have c2x := Row.cell Rx 2
  have c3x := Row.cell Rx 3
  have ltx := Row.lt Rx
  have c0X := Row.cell RX 0
  have c1X := Row.cell RX 1
  have c2X := Row.cell RX 2
  have c3X := Row.cell RX 3
  have ltX := Row.lt RX
  go_wp2
  go_ret
  exact ⟨rfl, L⟩
set_option maxHeartbeats 1600000 in
set_option maxRecDepth 100000 in
theorem walk_FnExactGoodMarking (ax bx cx dx : Value) (hx : H) (zx : List Int) (w : World) (hzx : HeapAt w ax bx cx hx) (hyx : IntsAt w dx zx) (hfx : FitH hx) (hnx : zx.length ≤ 9223372036854775807) : Calls Try.prog 7 #[mv ax bx cx dx] w fun e w' => e = .returned (.bool true) ∧ Below w.heap.size w w' := by
  by_cases hm : wtH hx + zx.length ≤ 1048576
  · exact core_FnExactGoodMarking ax bx cx dx hx zx (bothB hx zx) w hzx hyx hm (fun w a b c d h k => s_GoodMarking a b c d hx zx w h k) (fun w a b c d h k => c_GoodMarking a b c d hx zx w h k)
  · have HB0 := Lib.hid (below1 w (.cells (m4 ax bx cx dx) 72))
    have HA0 := Lib.hid (hzx.below HB0.out)
    have HF := Lib.hid hfx
    have HMM : Hid ((1048576 : Int) < (wtH hx : Int) + (zx.length : Int)) := by unfold Hid; omega
    have HY0 := Lib.hid (hyx.below HB0.out)
    have HNX := Lib.hid hnx
    obtain ⟨pdA, qdA, rfl⟩ := hyx.shape
    obtain ⟨paA, qaA, rfl⟩ := hzx.f.shape
    obtain ⟨pbA, qbA, rfl⟩ := hzx.l.shape
    obtain ⟨pcA, qcA, rfl⟩ := hzx.r.shape
    have HC := Lib.hid (c_szMarking_no _ _ _ _ hx zx 1048576 _ HA0.out HF.out HY0.out HNX.out (by omega) (by omega) HMM.out)
    clear hzx hyx hnx HNX HY0 HA0 hfx HF HMM hm
    generalize zx.length = nc at *
    generalize hx.f.length = nf at *
    generalize hx.l.length = nl at *
    generalize hx.r.length = nr at *
    go_enter Try.func7, Try.ntmps7
    go_wp2_with fail
    refine HC.out.mono ?_
    rintro e w1 ⟨rfl, hb1⟩
    have HB1 := Lib.hid (bst HB0.out hb1 HB0.out.size)
    clear hb1 HC
    go_wp2
    go_ret
    exact ⟨rfl, HB1.out⟩
end Go.Proofs.Ythanckifinfpiaa
namespace Go.Proofs.Ythanckifinfpiaa.xGoodMarking
open Go.ChangeShapes Go.WideShapes Go.ChangeAt Go.RowKit

set_option maxRecDepth 100000 in
theorem contract (H : Type) (enc : TypeId × Value → H) (W : World) (base : Nat) (args : Array Value) (ds gs : List (DataW H)) (before : List MemPlace)
    (hval : ∀ (j : Nat) t v, Try.f7.params[j]? = some t → args[j]? = some v → Value.okWide Try.prog W .any base t v)
    (hW : DataW.Whole enc Try.prog Try.f7.params.toList Rows.fnExactGoodMarkingSpec.vars false W args.toList ds gs before) :
    Calls Try.prog 7 args W fun e W' => ∃ v, e = .returned v ∧ Rows.fnExactGoodMarkingSpec.post enc Try.prog Try.f7 false true false false W args v W' := by
  have hW' := hW
  obtain ⟨p, q, hA0, hV, rfl, hfz, hnd⟩ := hW
  have hA : DataW.TrodAll enc Try.prog W 0 (fun _ => true) true Try.f7.params.toList args.toList ds p := hA0
  have hpar : ∀ t ∈ Try.f7.params.toList, Try.prog.readableRec t = true ∧ t < Try.prog.types.size := by
    rw [Try.params7]; intro t ht; simp at ht; subst ht; exact r_marking
  rw [Try.params7] at hA hval
  obtain ⟨v0, vs0, d0, ds0, p0, q0, hargs, rfl, rfl, h0, r0⟩ := trodAll_cons hA
  obtain ⟨rfl, rfl, rfl⟩ := trodAll_nil r0
  obtain rfl : args = #[v0] := by cases args; simp_all
  obtain ⟨rfl, rfl⟩ := trodVars_none hV
  obtain ⟨fa0, fb0, fc0, fd0, z0, y0, rfl, hz0, hy0, hn0, hm0⟩ := marking_of_arg (hval 0 72 v0 rfl rfl) h0
  refine (walk_FnExactGoodMarking fa0 fb0 fc0 fd0 z0 y0 W hz0 hy0 hn0 hm0).mono fun e W' ⟨he, hb⟩ => ?_
  subst he
  exact ⟨_, rfl, law_post laidOut hpar (fun n hn => by cases hn) hW' hb rfl (by kernel_rfl) Try.underlying4⟩

set_option maxRecDepth 100000 in
theorem lifted (os : Os) (started : os.Started) (H : Type) (enc : TypeId × Value → H) :
    ReturnsInHanded {} Try.checked os 7 .any (Rows.fnExactGoodMarkingSpec.pre6 enc Try.prog Try.f7 Rows.fnExactGoodMarkingRow.domain false) (Rows.fnExactGoodMarkingSpec.post enc Try.prog Try.f7 false true false false) := by
  refine returnsInHanded_of_change (C := Try.checked) own started (by kernel_rfl) Try.func7
    (ChangeSpec.witness6 (enc := enc) (C := Try.checked) false ⟨#[], #[.agg #[.slice none 0 0, .slice none 0 0, .slice none 0 0, .slice none 0 0]], []⟩ 8 (by kernel_rfl) (by kernel_rfl) (by kernel_rfl) (by kernel_rfl)) ?_
  intro W base args ds gs before hval hW _ _
  exact contract H enc W base args ds gs before hval hW
end Go.Proofs.Ythanckifinfpiaa.xGoodMarking
namespace Go.Proofs.Ythanckifinfpiaa
theorem xGoodMarking_said : Rows.FnExactGoodMarkingSaid :=
  OpenClaim.holds_of_wide 7 Try.f7 rfl rfl rfl rfl rfl rfl rfl ⟨rfl, rfl, rfl, rfl, rfl⟩ rfl rfl rfl rfl rfl (by kernel_rfl) Try.func7 (by kernel_rfl)
    (of_decide_eq_true (by kernel_rfl)) (by unfold Func.isWrapper; first | (rw [if_pos (by decide +kernel)]; kernel_rfl) | (rw [if_neg (by decide +kernel)]; exact ⟨rfl, rfl⟩))
    (fun os started H enc _ => xGoodMarking.lifted os started H enc)
end Go.Proofs.Ythanckifinfpiaa
