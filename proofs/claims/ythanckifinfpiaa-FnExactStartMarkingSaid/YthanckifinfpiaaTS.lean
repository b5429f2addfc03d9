/- laws.FnExactStartMarking: for every input the law answers true, and the input reads as it did. No condition. -/
import Derived.Test.YthanckifinfpiaaLift
import Derived.Test.YthanckifinfpiaaHl3
import Derived.Deep.Matrix
import Derived.Deep.Grids
import Derived.Test.YthanckifinfpiaaSA
import Derived.Test.YthanckifinfpiaaGb
namespace Go.Proofs.Ythanckifinfpiaa
open Go.ChangeShapes Go.WideShapes Go.ChangeAt Go.RowKit Ph

theorem r_heap : Try.prog.readableRec 65 = true ∧ 65 < Try.prog.types.size := ⟨by kernel_rfl, of_decide_eq_true (by kernel_rfl)⟩
theorem cellsIntsL : Try.prog.cellsOf 25 = 1 := by kernel_rfl
theorem cellsBool : Try.prog.cellsOf 4 = 1 := by kernel_rfl
theorem add_none (b off i : Nat) : (⟨b, off, none⟩ : Addr).add i = ⟨b, off + i, none⟩ := by simp [Addr.add]
theorem ints_cells {H : Type} {enc : TypeId × Value → H} {W : World} {fuel : Nat} {v : Value} {x : DataW H × List MemPlace} (h : DataW.trod enc Try.prog W 0 (fun _ => true) true fuel 25 [v] = some x) : ∃ zs, IntsAt W v zs ∧ zs.length ≤ 9223372036854775807 := by
  rcases open_ints Try.underlying25 Try.underlying3 cellsInt h with ⟨hcs, hx⟩ | ⟨a, len', cap', zs, hcs, _, hl, hm, hz, hx, hcell, hwz⟩
  · simp only [List.cons.injEq, and_true] at hcs
    subst hcs
    exact ⟨[], ⟨none, 0, rfl, fun h => absurd h (by simp)⟩, by simp⟩
  · simp only [List.cons.injEq, and_true] at hcs
    subst hcs
    simp only [if_true] at hz
    have hlen : (zs.take len').length = len' := by rw [List.length_take]; omega
    refine ⟨zs.take len', ⟨some a, cap', by rw [hlen], fun h0 => ?_⟩, by rw [hlen]; unfold maxLen at hm; omega⟩
    rw [hlen] at h0 ⊢
    obtain ⟨b, off, rfl, hc⟩ := ints_at hcell (by omega)
    refine ⟨b, off, rfl, fun i hi => ?_⟩
    rw [hc i (by omega)]
    simp [List.getD, hi]
theorem bools_cells {H : Type} {enc : TypeId × Value → H} {W : World} {fuel : Nat} {v : Value} {x : DataW H × List MemPlace} (h : DataW.trod enc Try.prog W 0 (fun _ => true) true fuel 24 [v] = some x) : ∃ bs, BoolsAt W v bs ∧ bs.length ≤ 9223372036854775807 := by
  rcases Deep.open_bools Try.underlying24 Try.underlying4 cellsBool h with ⟨hcs, hx⟩ | ⟨a, len, cap, B, hcs, _, hl, hm, hx, hcell⟩
  · simp only [List.cons.injEq, and_true] at hcs
    subst hcs
    exact ⟨[], ⟨none, 0, rfl, fun h => absurd h (by simp)⟩, by simp⟩
  · simp only [List.cons.injEq, and_true] at hcs
    subst hcs
    have hln : ((List.range len).map B).length = len := by simp
    refine ⟨(List.range len).map B, ⟨some a, cap, by rw [hln], fun h0 => ?_⟩, by rw [hln]; unfold maxLen at hm; omega⟩
    rw [hln] at h0 ⊢
    obtain ⟨b, off, spot⟩ := a
    have hspot : spot = none := by simpa [Addr.add] using World.cell?_spot (hcell 0 (by omega))
    subst hspot
    refine ⟨b, off, rfl, fun i hi => ?_⟩
    have h1 := hcell i (by omega)
    rw [add_none] at h1
    rw [h1]
    simp [List.getD, hi]
theorem rows_cells {H : Type} {enc : TypeId × Value → H} {W : World} {fuel : Nat} {v : Value} {x : DataW H × List MemPlace} (h : DataW.trod enc Try.prog W 0 (fun _ => true) true fuel 23 [v] = some x) : ∃ fs, RowsAt W v fs ∧ Fit fs ∧ fs.length ≤ 9223372036854775807 := by
  rcases Deep.open_int_rows Try.underlying23 Try.underlying25 Try.underlying3 cellsIntsL cellsInt h with ⟨hcs, hx⟩ | ⟨a, len, cap, A, L, C, Z, hcs, _, hl, hm, hx, hrow⟩
  · simp only [List.cons.injEq, and_true] at hcs
    subst hcs
    exact ⟨[], ⟨none, 0, rfl, fun h => absurd h (by simp)⟩, fun k hk => by simp at hk, by simp⟩
  · simp only [List.cons.injEq, and_true] at hcs
    subst hcs
    have hln : ((List.range len).map fun r => (Z r).take (L r)).length = len := by simp
    have hgd : ∀ i, i < len → ((List.range len).map fun r => (Z r).take (L r)).getD i [] = (Z i).take (L i) := fun i hi => by simp [List.getD, hi]
    have hlr : ∀ i, i < len → ((Z i).take (L i)).length = L i := fun i hi => by
      obtain ⟨_, h1, _, h2, _⟩ := hrow i (by omega)
      rw [List.length_take]; omega
    refine ⟨(List.range len).map fun r => (Z r).take (L r), ⟨some a, cap, by rw [hln], fun h0 => ?_⟩, fun k hk => ?_, by rw [hln]; unfold maxLen at hm; omega⟩
    · rw [hln] at h0 ⊢
      obtain ⟨b, off, spot⟩ := a
      have hspot : spot = none := by simpa [Addr.add] using World.cell?_spot (hrow 0 (by omega)).1
      subst hspot
      refine ⟨b, off, rfl, fun i hi => ?_⟩
      obtain ⟨q, h1, h2, h3, _, h5, h6⟩ := hrow i (by omega)
      rw [add_none] at q
      refine ⟨_, q, ?_⟩
      rw [hgd i hi]
      refine ⟨A i, C i, by rw [hlr i hi], fun hp => ?_⟩
      rw [hlr i hi] at hp ⊢
      cases hA : A i with
      | none => have := h5 hA; omega
      | some a' =>
        obtain ⟨_, hc⟩ := h6 a' hA
        obtain ⟨b', off', spot'⟩ := a'
        have hs' : spot' = none := by simpa [Addr.add] using World.cell?_spot (hc 0 (by omega))
        subst hs'
        refine ⟨b', off', rfl, fun j hj => ?_⟩
        have := hc j (by omega)
        rw [add_none] at this
        rw [this]
        simp [List.getD, hj]
    · rw [hln] at hk
      rw [hgd k hk, hlr k hk]
      obtain ⟨_, h1, h2, _⟩ := hrow k (by omega)
      unfold maxLen at h2; omega
set_option maxRecDepth 100000 in
theorem heap_of_arg {H : Type} {enc : TypeId × Value → H} {W : World} {base : Nat} {v : Value} {d : DataW H} {p : List MemPlace} (hval : Value.okWide Try.prog W .any base 65 v)
    (h : DataW.Trod enc Try.prog W 0 (fun _ => true) true 65 v d p) : ∃ (a b c : Value) (k : Ph.H), v = hv a b c ∧ HeapAt W a b c k ∧ FitH k := by
  obtain ⟨v0, v1, v2, y0, y1, y2, n, rfl, _, _, h0, h1, h2⟩ := Joins.open_agg3 Try.underlying65 (by kernel_rfl) (by kernel_rfl) hval h
  obtain ⟨fs, r1, r2, r3⟩ := rows_cells h0
  obtain ⟨bs, s1, s2⟩ := bools_cells h1
  obtain ⟨zs, t1, t2⟩ := ints_cells h2
  exact ⟨v0, v1, v2, ⟨fs, bs, zs⟩, rfl, ⟨r1, s1, t1⟩, ⟨r2, r3, s2, t2⟩⟩
set_option maxRecDepth 100000 in
theorem list_of_arg {H : Type} {enc : TypeId × Value → H} {W : World} {base : Nat} {v : Value} {d : DataW H} {p : List MemPlace} (hval : Value.okWide Try.prog W .any base 25 v)
    (h : DataW.Trod enc Try.prog W 0 (fun _ => true) true 25 v d p) : ∃ zs, IntsAt W v zs ∧ zs.length ≤ 9223372036854775807 := by
  obtain ⟨a0, len, cap, rfl⟩ := okWide_slice Try.underlying25 hval
  obtain ⟨fuel, hf⟩ := h
  exact ints_cells hf
end Go.Proofs.Ythanckifinfpiaa
namespace Go.Proofs.Ythanckifinfpiaa
open Go.RowKit Ph
abbrev mo (v : Mv) : Value := .agg #[.int .i64 v.k, .int .i64 v.a, .int .i64 v.b, .int .i64 v.t]
abbrev mo4 (v : Mv) : Array Value := #[.int .i64 v.k, .int .i64 v.a, .int .i64 v.b, .int .i64 v.t]
abbrev i64M (v : Mv) : Prop := (-9223372036854775808 ≤ v.k ∧ v.k ≤ 9223372036854775807) ∧ (-9223372036854775808 ≤ v.a ∧ v.a ≤ 9223372036854775807) ∧ (-9223372036854775808 ≤ v.b ∧ v.b ≤ 9223372036854775807) ∧ (-9223372036854775808 ≤ v.t ∧ v.t ≤ 9223372036854775807)
end Go.Proofs.Ythanckifinfpiaa
namespace Go.Proofs.Ythanckifinfpiaa
open Go.ChangeShapes Go.WideShapes Go.ChangeAt Go.RowKit Ph

theorem r_marking : Try.prog.readableRec 72 = true ∧ 72 < Try.prog.types.size := ⟨by kernel_rfl, of_decide_eq_true (by kernel_rfl)⟩
theorem cellsMarking : Try.prog.cellsOf 72 = 4 := by kernel_rfl
theorem cellsHeapL : Try.prog.cellsOf 65 = 3 := by kernel_rfl
theorem cellsRowsL : Try.prog.cellsOf 23 = 1 := by kernel_rfl
theorem cellsBoolsL : Try.prog.cellsOf 24 = 1 := by kernel_rfl
set_option maxRecDepth 100000 in
theorem marking_of_arg {H : Type} {enc : TypeId × Value → H} {W : World} {base : Nat} {v : Value} {d : DataW H} {p : List MemPlace} (hval : Value.okWide Try.prog W .any base 72 v)
    (h : DataW.Trod enc Try.prog W 0 (fun _ => true) true 72 v d p) : ∃ (a b c e : Value) (k : Ph.H) (cs : List Int), v = mv a b c e ∧ HeapAt W a b c k ∧ IntsAt W e cs ∧ FitH k ∧ cs.length ≤ 9223372036854775807 := by
  obtain ⟨cs, rfl, hsz⟩ := okWide_struct Try.underlying72 hval
  obtain ⟨x0, x1, x2, x3, rfl⟩ := Joins.array4 (hsz.trans cellsMarking)
  obtain ⟨fuel, hf⟩ := h
  obtain ⟨y0, y1, n, _, _, h0, h1⟩ := trod_struct2 Try.underlying72 hf
  simp only [Value.cells, cellsHeapL, cellsIntsL, List.drop_zero, List.drop_succ_cons, List.take_succ_cons, List.take_zero] at h0 h1
  obtain ⟨y2, y3, y4, m, _, _, h2, h3, h4⟩ := Go.Deep.trod_struct3 Try.underlying65 h0
  simp only [cellsRowsL, cellsBoolsL, cellsIntsL, List.drop_zero, List.drop_succ_cons, List.take_succ_cons, List.take_zero] at h2 h3 h4
  obtain ⟨fs, r1, r2, r3⟩ := rows_cells h2
  obtain ⟨bs, s1, s2⟩ := bools_cells h3
  obtain ⟨zs, t1, t2⟩ := ints_cells h4
  obtain ⟨us, u1, u2⟩ := ints_cells h1
  exact ⟨x0, x1, x2, x3, ⟨fs, bs, zs⟩, us, rfl, ⟨r1, s1, t1⟩, u1, ⟨r2, r3, s2, t2⟩, u2⟩

theorem r_move : Try.prog.readableRec 76 = true ∧ 76 < Try.prog.types.size := ⟨by kernel_rfl, of_decide_eq_true (by kernel_rfl)⟩
set_option maxRecDepth 100000 in
theorem move_of_arg {H : Type} {enc : TypeId × Value → H} {W : World} {base : Nat} {v : Value} {d : DataW H} {p : List MemPlace} (hval : Value.okWide Try.prog W .any base 76 v)
    (h : DataW.Trod enc Try.prog W 0 (fun _ => true) true 76 v d p) : ∃ r : Mv, v = mo r ∧ i64M r := by
  obtain ⟨v0, v1, v2, v3, y0, y1, y2, y3, n, rfl, _, _, h0, h1, h2, h3⟩ := Joins.open_agg4 Try.underlying76 (by kernel_rfl) (by kernel_rfl) hval h
  obtain ⟨x, e0, _, w0⟩ := DataW.trod_int Try.underlying3 h0
  obtain ⟨y, e1, _, w1⟩ := DataW.trod_int Try.underlying3 h1
  obtain ⟨z, e2, _, w2⟩ := DataW.trod_int Try.underlying3 h2
  obtain ⟨u, e3, _, w3⟩ := DataW.trod_int Try.underlying3 h3
  simp only [List.cons.injEq, and_true] at e0 e1 e2 e3
  subst e0; subst e1; subst e2; subst e3
  exact ⟨⟨x, y, z, u⟩, rfl, bounds_i64 w0, bounds_i64 w1, bounds_i64 w2, bounds_i64 w3⟩
end Go.Proofs.Ythanckifinfpiaa
namespace Go.Proofs.Ythanckifinfpiaa
open Go.RowKit Ph

set_option maxHeartbeats 12800000 in
set_option maxRecDepth 100000 in
theorem core_FnExactStartMarking (ax bx cx : Value) (hx : H) (gh : H) (gz : List Int) (ok : Bool) (w : World) (hzx : HeapAt w ax bx cx hx) (hm : wtH hx ≤ 1048576) (hrs : wtH gh + gz.length ≤ 2000)
    (hS : ∀ (w : World) (ax bx cx : Value), HeapAt w ax bx cx hx → Calls Try.prog 47 #[hv ax bx cx] w (EndM gh gz ok w))
    (hI : ∀ (w : World) (ax bx cx : Value), HeapAt w ax bx cx hx → Calls Try.prog 46 #[hv ax bx cx] w (EndM gh gz ok w)) :
    Calls Try.prog 6 #[hv ax bx cx] w fun e w' => e = .returned (.bool true) ∧ Below w.heap.size w w' := by
  have HZ := Lib.hid hzx
  have HS := Lib.hid hS; have HI := Lib.hid hI
  clear hS hI
  obtain ⟨paA, qaA, rfl⟩ := hzx.f.shape
  obtain ⟨pbA, qbA, rfl⟩ := hzx.l.shape
  obtain ⟨pcA, qcA, rfl⟩ := hzx.r.shape
  clear hzx
  have HSZ : Hid (szM hx ≤ 1048576 ∧ hx.f.length ≤ 1048576) := by unfold Hid szM; have := hm; unfold wtH wt at this; omega
  have HRS : Hid (wtH gh ≤ 1048576 ∧ gz.length ≤ 1048576) := by unfold Hid; omega
  have HRZ : Hid (szM gh ≤ 1048576 ∧ gh.f.length ≤ 1048576) := by unfold Hid szM; have := hrs; unfold wtH wt at this; omega
  clear hrs
  generalize hwt : wtH hx = wt at *
  have HWT := Lib.hid hwt; clear hwt
  generalize hnnf : hx.f.length = nf at *
  have HNnf := Lib.hid hnnf; clear hnnf
  generalize hnnl : hx.l.length = nl at *
  have HNnl := Lib.hid hnnl; clear hnnl
  generalize hnnr : hx.r.length = nr at *
  have HNnr := Lib.hid hnnr; clear hnnr
  generalize hsz : szM hx = sz at *
  have HSM := Lib.hid hsz; clear hsz
  have HM : Hid (wtH hx ≤ 1048576) := by unfold Hid; rw [HWT.out]; omega
  generalize hngf : gh.f.length = gf at *
  have HNgf := Lib.hid hngf; clear hngf
  generalize hngl : gh.l.length = gl at *
  have HNgl := Lib.hid hngl; clear hngl
  generalize hngr : gh.r.length = gr at *
  have HNgr := Lib.hid hngr; clear hngr
  generalize hngc : gz.length = gc at *
  have HNgc := Lib.hid hngc; clear hngc
  generalize hszg : szM gh = szg at *
  have HSMg := Lib.hid hszg; clear hszg
  have hl0 : ¬ ((1048576 : Int) - (wt : Int)) < 0 := by omega
  have e1 : (ok != ok) = false := by simp
  have L := below1 w (.cells (c3 (.slice paA nf qaA) (.slice pbA nl qbA) (.slice pcA nr qcA)) 65)
  have Rx : Row _ w.heap.size 65 (c3 (.slice paA nf qaA) (.slice pbA nl qbA) (.slice pcA nr qcA)) := Row.new w _ _
  go_enter Try.func6, Try.ntmps6
  go_wp2_with fail
  refine (c_szHeap_yes (.slice paA nf qaA) (.slice pbA nl qbA) (.slice pcA nr qcA) hx 1048576 _ (HeapAt.below HZ.out L) (by omega) (by rw [HWT.out]; omega)).mono ?_
  rintro e ws ⟨rfl, hb⟩
  rw [HWT.out]
  replace Rx := Row.below Rx hb
  have hs0 := hb.size
  try simp only [World.size_alloc] at hs0
  replace L := bst L hb L.size
  clear hb
  have c0x := Row.cell Rx 0
  have c1x := Row.cell Rx 1
  have c2x := Row.cell Rx 2
  have ltx := Row.lt Rx
  go_wp2_with fail
  clear c0x c1x c2x ltx
  refine (c_toHeap (.slice paA nf qaA) (.slice pbA nl qbA) (.slice pcA nr qcA) hx _ (HeapAt.below HZ.out L) HM.out).mono ?_
  rintro e wW0 ⟨aQ, bQ, cQ, rfl, ho, hb⟩
  try simp only [World.size_alloc] at ho
  have hsh := ho.shapes
  simp only [HNnf.out, HNnl.out, HNnr.out] at hsh
  obtain ⟨⟨paQ, qaQ, rfl⟩, ⟨pbQ, qbQ, rfl⟩, ⟨pcQ, qcQ, rfl⟩⟩ := hsh
  replace Rx := Row.below Rx hb
  have hs1 := hb.size
  try simp only [World.size_alloc] at hs1
  replace L := bst L hb L.size
  clear hb
  have OQ := ho
  clear ho
  have c0x := Row.cell Rx 0
  have c1x := Row.cell Rx 1
  have c2x := Row.cell Rx 2
  have ltx := Row.lt Rx
  go_wp2_with fail
  clear c0x c1x c2x ltx
  refine (HS.out _ (.slice paQ nf qaQ) (.slice pbQ nl qbQ) (.slice pcQ nr qcQ) OQ.reads).mono ?_
  rintro e wW ⟨aW, bW, cW, dW, rfl, ho, hb⟩
  try simp only [World.size_alloc] at ho
  have hsh := ho.shapes
  simp only [HNgf.out, HNgl.out, HNgr.out, HNgc.out] at hsh
  obtain ⟨⟨paW, qaW, rfl⟩, ⟨pbW, qbW, rfl⟩, ⟨pcW, qcW, rfl⟩, ⟨pdW, qdW, rfl⟩⟩ := hsh
  replace Rx := Row.below Rx hb
  replace OQ := OwnH.below OQ hb
  have hs2 := hb.size
  try simp only [World.size_alloc] at hs2
  replace L := bst L hb L.size
  clear hb
  have OW := ho
  clear ho
  clear OQ
  have c0x := Row.cell Rx 0
  have c1x := Row.cell Rx 1
  have c2x := Row.cell Rx 2
  have ltx := Row.lt Rx
  go_wp2_with fail
  clear c0x c1x c2x ltx
  replace Rx := Row.alloc Rx (.cells (m4 (.slice paW gf qaW) (.slice pbW gl qbW) (.slice pcW gr qcW) (.slice pdW gc qdW)) 55)
  have RW := Row.new wW 55 (m4 (.slice paW gf qaW) (.slice pbW gl qbW) (.slice pcW gr qcW) (.slice pdW gc qdW))
  replace OW := OwnM.below OW (below1 _ (.cells (m4 (.slice paW gf qaW) (.slice pbW gl qbW) (.slice pcW gr qcW) (.slice pdW gc qdW)) 55))
  replace L := Below.alloc L L.size (.cells (m4 (.slice paW gf qaW) (.slice pbW gl qbW) (.slice pcW gr qcW) (.slice pdW gc qdW)) 55)
  refine (c_toHeap (.slice paA nf qaA) (.slice pbA nl qbA) (.slice pcA nr qcA) hx _ (HeapAt.below HZ.out L) HM.out).mono ?_
  rintro e wX ⟨aX, bX, cX, rfl, ho, hb⟩
  try simp only [World.size_alloc] at ho
  have hsh := ho.shapes
  simp only [HNnf.out, HNnl.out, HNnr.out] at hsh
  obtain ⟨⟨paX, qaX, rfl⟩, ⟨pbX, qbX, rfl⟩, ⟨pcX, qcX, rfl⟩⟩ := hsh
  replace Rx := Row.below Rx hb
  replace RW := Row.below RW hb
  replace OW := OwnM.below OW hb
  have hs3 := hb.size
  try simp only [World.size_alloc] at hs3
  replace L := bst L hb L.size
  clear hb
  have OX := ho
  clear ho
  have c0x := Row.cell Rx 0
  have c1x := Row.cell Rx 1
  have c2x := Row.cell Rx 2
  have ltx := Row.lt Rx
  have c0W := Row.cell RW 0
  have c1W := Row.cell RW 1
  have c2W := Row.cell RW 2
  have c3W := Row.cell RW 3
  have ltW := Row.lt RW
  go_wp2_with fail
  clear c0x c1x c2x ltx c0W c1W c2W c3W ltW
  replace Rx := Row.alloc Rx (.cells (c3 (.slice paX nf qaX) (.slice pbX nl qbX) (.slice pcX nr qcX)) 27)
  replace RW := Row.alloc RW (.cells (c3 (.slice paX nf qaX) (.slice pbX nl qbX) (.slice pcX nr qcX)) 27)
  have RX := Row.new wX 27 (c3 (.slice paX nf qaX) (.slice pbX nl qbX) (.slice pcX nr qcX))
  replace OW := OwnM.below OW (below1 _ (.cells (c3 (.slice paX nf qaX) (.slice pbX nl qbX) (.slice pcX nr qcX)) 27))
  replace OX := OwnH.below OX (below1 _ (.cells (c3 (.slice paX nf qaX) (.slice pbX nl qbX) (.slice pcX nr qcX)) 27))
  replace L := Below.alloc L L.size (.cells (c3 (.slice paX nf qaX) (.slice pbX nl qbX) (.slice pcX nr qcX)) 27)
  refine (HI.out _ (.slice paX nf qaX) (.slice pbX nl qbX) (.slice pcX nr qcX) OX.reads).mono ?_
  rintro e wG ⟨aG, bG, cG, dG, rfl, ho, hb⟩
  try simp only [World.size_alloc] at ho
  have hsh := ho.shapes
  simp only [HNgf.out, HNgl.out, HNgr.out, HNgc.out] at hsh
  obtain ⟨⟨paG, qaG, rfl⟩, ⟨pbG, qbG, rfl⟩, ⟨pcG, qcG, rfl⟩, ⟨pdG, qdG, rfl⟩⟩ := hsh
  replace Rx := Row.below Rx hb
  replace RW := Row.below RW hb
  replace RX := Row.below RX hb
  replace OW := OwnM.below OW hb
  replace OX := OwnH.below OX hb
  have hs4 := hb.size
  try simp only [World.size_alloc] at hs4
  replace L := bst L hb L.size
  clear hb
  have OG := ho
  clear ho
  have c0x := Row.cell Rx 0
  have c1x := Row.cell Rx 1
  have c2x := Row.cell Rx 2
  have ltx := Row.lt Rx
  have c0W := Row.cell RW 0
  have c1W := Row.cell RW 1
  have c2W := Row.cell RW 2
  have c3W := Row.cell RW 3
  have ltW := Row.lt RW
  have c0X := Row.cell RX 0
  have c1X := Row.cell RX 1
  have c2X := Row.cell RX 2
  have ltX := Row.lt RX
  go_wp2_with fail
  clear c0x c1x c2x ltx c0W c1W c2W c3W ltW c0X c1X c2X ltX
  replace Rx := Row.alloc Rx (.cells (m4 (.slice paG gf qaG) (.slice pbG gl qbG) (.slice pcG gr qcG) (.slice pdG gc qdG)) 55)
  replace RW := Row.alloc RW (.cells (m4 (.slice paG gf qaG) (.slice pbG gl qbG) (.slice pcG gr qcG) (.slice pdG gc qdG)) 55)
  replace RX := Row.alloc RX (.cells (m4 (.slice paG gf qaG) (.slice pbG gl qbG) (.slice pcG gr qcG) (.slice pdG gc qdG)) 55)
  have RG := Row.new wG 55 (m4 (.slice paG gf qaG) (.slice pbG gl qbG) (.slice pcG gr qcG) (.slice pdG gc qdG))
  replace OW := OwnM.below OW (below1 _ (.cells (m4 (.slice paG gf qaG) (.slice pbG gl qbG) (.slice pcG gr qcG) (.slice pdG gc qdG)) 55))
  replace OX := OwnH.below OX (below1 _ (.cells (m4 (.slice paG gf qaG) (.slice pbG gl qbG) (.slice pcG gr qcG) (.slice pdG gc qdG)) 55))
  replace OG := OwnM.below OG (below1 _ (.cells (m4 (.slice paG gf qaG) (.slice pbG gl qbG) (.slice pcG gr qcG) (.slice pdG gc qdG)) 55))
  replace L := Below.alloc L L.size (.cells (m4 (.slice paG gf qaG) (.slice pbG gl qbG) (.slice pcG gr qcG) (.slice pdG gc qdG)) 55)
  refine (c_eqMarking (.slice paG gf qaG) (.slice pbG gl qbG) (.slice pcG gr qcG) (.slice pdG gc qdG) (.slice paW gf qaW) (.slice pbW gl qbW) (.slice pcW gr qcW) (.slice pdW gc qdW) gh gz _ OG.heap OG.cols OW.heap OW.cols HRS.out.1 (by rw [HNgc.out]; exact HRS.out.2)).mono ?_
  rintro e w1e ⟨rfl, hb⟩
  replace Rx := Row.below Rx hb
  replace RW := Row.below RW hb
  replace RX := Row.below RX hb
  replace RG := Row.below RG hb
  replace OW := OwnM.below OW hb
  replace OX := OwnH.below OX hb
  replace OG := OwnM.below OG hb
  have hs5 := hb.size
  try simp only [World.size_alloc] at hs5
  replace L := bst L hb L.size
  clear hb
  have c0x := Row.cell Rx 0
  have c1x := Row.cell Rx 1
  have c2x := Row.cell Rx 2
  have ltx := Row.lt Rx
  have c0W := Row.cell RW 0
  have c1W := Row.cell RW 1
  have c2W := Row.cell RW 2
  have c3W := Row.cell RW 3
  have ltW := Row.lt RW
  have c0X := Row.cell RX 0
  have c1X := Row.cell RX 1
  have c2X := Row.cell RX 2
  have ltX := Row.lt RX
  have c0G := Row.cell RG 0
  have c1G := Row.cell RG 1
  have c2G := Row.cell RG 2
  have c3G := Row.cell RG 3
  have ltG := Row.lt RG
  go_wp2_with fail
  have RR0 : w1e.drew.cell? ⟨w.heap.size, 0, none⟩ = some (.slice paA nf qaA) := Row.cell Rx 0
  have RR1 : w1e.drew.cell? ⟨w.heap.size, 1, none⟩ = some (.slice pbA nl qbA) := Row.cell Rx 1
  have RR2 : w1e.drew.cell? ⟨w.heap.size, 2, none⟩ = some (.slice pcA nr qcA) := Row.cell Rx 2
  have RX0 : w1e.drew.cell? ⟨wX.heap.size, 0, none⟩ = some (.slice paX nf qaX) := Row.cell RX 0
  have RX1 : w1e.drew.cell? ⟨wX.heap.size, 1, none⟩ = some (.slice pbX nl qbX) := Row.cell RX 1
  have RX2 : w1e.drew.cell? ⟨wX.heap.size, 2, none⟩ = some (.slice pcX nr qcX) := Row.cell RX 2
  have BD := below_drew (Below.refl w1e.heap.size w1e)
  have IZ := Lib.hid (HeapAt.below HZ.out (below_drew L))
  have IX := Lib.hid (OX.reads.below BD)
  clear c0x c1x c2x ltx c0W c1W c2W c3W ltW c0X c1X c2X ltX c0G c1G c2G c3G ltG
  go_region_held3 (fun w' => w'.cell? ⟨w.heap.size, 0, none⟩ = some (.slice paA nf qaA) ∧ w'.cell? ⟨w.heap.size, 1, none⟩ = some (.slice pbA nl qbA) ∧ w'.cell? ⟨w.heap.size, 2, none⟩ = some (.slice pcA nr qcA) ∧ w'.cell? ⟨wX.heap.size, 0, none⟩ = some (.slice paX nf qaX) ∧ w'.cell? ⟨wX.heap.size, 1, none⟩ = some (.slice pbX nl qbX) ∧ w'.cell? ⟨wX.heap.size, 2, none⟩ = some (.slice pcX nr qcX) ∧ Below w1e.heap.size w1e w')
    (first
      | (with_reducible exact ⟨RR0, RR1, RR2, RX0, RX1, RX2, BD⟩)
      | (go_split_ands
         exact ⟨cellBelow hbk (Nat.le_refl _) (by assumption), cellBelow hbk (Nat.le_refl _) (by assumption), cellBelow hbk (Nat.le_refl _) (by assumption), cellBelow hbk (Nat.le_refl _) (by assumption), cellBelow hbk (Nat.le_refl _) (by assumption), cellBelow hbk (Nat.le_refl _) (by assumption), bst (by assumption) hbk (Below.size (by assumption))⟩)
      | (go_split_ands; refine ⟨?_, ?_, ?_, ?_, ?_, ?_, ?_⟩ <;> assumption))
    (first
      | (go_at_call 49; refine (c_toHeap (.slice paA nf qaA) (.slice pbA nl qbA) (.slice pcA nr qcA) hx _ IZ.out HM.out).mono ?_; rintro e wxd1 ⟨aD, bD, cD, rfl, hoD, hbk⟩; have OD := Lib.hid hoD.reads; have XD := Lib.hid (IX.out.below hbk); clear hoD)
      | (go_at_call 51; refine (c_eqHeap _ _ _ _ _ _ hx _ XD.out OD.out HM.out).mono ?_; rintro e wxd2 ⟨rfl, hbk⟩))
  have hb : Below w1e.heap.size w1e wxd2 := by go_split_ands; assumption
  clear OD XD IZ IX RR0 RX0 RR1 RX1 RR2 RX2 BD
  replace Rx := Row.below Rx hb
  replace RW := Row.below RW hb
  replace RX := Row.below RX hb
  replace RG := Row.below RG hb
  replace OW := OwnM.below OW hb
  replace OX := OwnH.below OX hb
  replace OG := OwnM.below OG hb
  have hs6 := hb.size
  try simp only [World.size_alloc] at hs6
  replace L := bst L hb L.size
  clear hb
  have c0x := Row.cell Rx 0
  have c1x := Row.cell Rx 1
  have c2x := Row.cell Rx 2
  have ltx := Row.lt Rx
  have c0W := Row.cell RW 0
  have c1W := Row.cell RW 1
  have c2W := Row.cell RW 2
  have c3W := Row.cell RW 3
  have ltW := Row.lt RW
  have c0X := Row.cell RX 0
  have c1X := Row.cell RX 1
  have c2X := Row.cell RX 2
  have ltX := Row.lt RX
  have c0G := Row.cell RG 0
  have c1G := Row.cell RG 1
  have c2G := Row.cell RG 2
  have c3G := Row.cell RG 3
  have ltG := Row.lt RG
  go_wp2_with fail
  clear c0x c1x c2x ltx c0W c1W c2W c3W ltW c0X c1X c2X ltX c0G c1G c2G c3G ltG
  refine (c_markHeap _ _ (.slice paX nf qaX) (.slice pbX nl qbX) (.slice pcX nr qcX) hx 1 _ OX (by omega) (by rw [HSM.out]; have := HSZ.out.1; omega) (by rw [HNnf.out]; have := HSZ.out.2; omega) (by omega)).mono ?_
  rintro e wmx ⟨rfl, ho, hch⟩
  rw [HSM.out]
  replace Rx := Row.chg Rx hch (by omega)
  replace RW := Row.chg RW hch (by omega)
  replace RX := Row.chg RX hch (by omega)
  replace RG := Row.chg RG hch (by omega)
  replace OW := OwnM.chg OW hch (by omega)
  replace OG := OwnM.chg OG hch (by omega)
  have hs7 := hch.size
  replace L := below_chg L hch (by omega) L.size
  clear hch
  clear OX ho
  have c0x := Row.cell Rx 0
  have c1x := Row.cell Rx 1
  have c2x := Row.cell Rx 2
  have ltx := Row.lt Rx
  have c0W := Row.cell RW 0
  have c1W := Row.cell RW 1
  have c2W := Row.cell RW 2
  have c3W := Row.cell RW 3
  have ltW := Row.lt RW
  have c0X := Row.cell RX 0
  have c1X := Row.cell RX 1
  have c2X := Row.cell RX 2
  have ltX := Row.lt RX
  have c0G := Row.cell RG 0
  have c1G := Row.cell RG 1
  have c2G := Row.cell RG 2
  have c3G := Row.cell RG 3
  have ltG := Row.lt RG
  go_wp2_with fail
  clear c0x c1x c2x ltx c0W c1W c2W c3W ltW c0X c1X c2X ltX c0G c1G c2G c3G ltG
  refine (c_eqMarking (.slice paG gf qaG) (.slice pbG gl qbG) (.slice pcG gr qcG) (.slice pdG gc qdG) (.slice paW gf qaW) (.slice pbW gl qbW) (.slice pcW gr qcW) (.slice pdW gc qdW) gh gz _ OG.heap OG.cols OW.heap OW.cols HRS.out.1 (by rw [HNgc.out]; exact HRS.out.2)).mono ?_
  rintro e w2e ⟨rfl, hb⟩
  replace Rx := Row.below Rx hb
  replace RW := Row.below RW hb
  replace RX := Row.below RX hb
  replace RG := Row.below RG hb
  replace OW := OwnM.below OW hb
  replace OG := OwnM.below OG hb
  have hs8 := hb.size
  try simp only [World.size_alloc] at hs8
  replace L := bst L hb L.size
  clear hb
  have c0x := Row.cell Rx 0
  have c1x := Row.cell Rx 1
  have c2x := Row.cell Rx 2
  have ltx := Row.lt Rx
  have c0W := Row.cell RW 0
  have c1W := Row.cell RW 1
  have c2W := Row.cell RW 2
  have c3W := Row.cell RW 3
  have ltW := Row.lt RW
  have c0X := Row.cell RX 0
  have c1X := Row.cell RX 1
  have c2X := Row.cell RX 2
  have ltX := Row.lt RX
  have c0G := Row.cell RG 0
  have c1G := Row.cell RG 1
  have c2G := Row.cell RG 2
  have c3G := Row.cell RG 3
  have ltG := Row.lt RG
  go_wp2_with fail
  clear c0x c1x c2x ltx c0W c1W c2W c3W ltW c0X c1X c2X ltX c0G c1G c2G c3G ltG
  refine (c_markMarking _ _ (.slice paG gf qaG) (.slice pbG gl qbG) (.slice pcG gr qcG) (.slice pdG gc qdG) gh gz 1 _ OG (by omega) (by rw [HSMg.out, HNgc.out]; have := HRZ.out.1; have := HRS.out.2; omega) (by rw [HNgf.out]; have := HRZ.out.2; omega) (by omega)).mono ?_
  rintro e wmG ⟨rfl, ho, hch⟩
  rw [HSMg.out, HNgc.out] at ho ⊢
  replace Rx := Row.chg Rx hch (by omega)
  replace RW := Row.chg RW hch (by omega)
  replace RX := Row.chg RX hch (by omega)
  replace RG := Row.chg RG hch (by omega)
  replace OW := OwnM.chg OW hch (by omega)
  have hs9 := hch.size
  replace L := below_chg L hch (by omega) L.size
  clear hch
  replace OG := ho
  clear ho
  have c0x := Row.cell Rx 0
  have c1x := Row.cell Rx 1
  have c2x := Row.cell Rx 2
  have ltx := Row.lt Rx
  have c0W := Row.cell RW 0
  have c1W := Row.cell RW 1
  have c2W := Row.cell RW 2
  have c3W := Row.cell RW 3
  have ltW := Row.lt RW
  have c0X := Row.cell RX 0
  have c1X := Row.cell RX 1
  have c2X := Row.cell RX 2
  have ltX := Row.lt RX
  have c0G := Row.cell RG 0
  have c1G := Row.cell RG 1
  have c2G := Row.cell RG 2
  have c3G := Row.cell RG 3
  have ltG := Row.lt RG
  go_wp2_with fail
  clear c0x c1x c2x ltx c0W c1W c2W c3W ltW c0X c1X c2X ltX c0G c1G c2G c3G ltG
  refine (c_heldMarking (.slice paG gf qaG) (.slice pbG gl qbG) (.slice pcG gr qcG) (.slice pdG gc qdG) gh gc 1 _ OG.heap (by rw [HSMg.out]; exact OG.cols) (by omega) (by rw [HSMg.out]; have := HRZ.out.1; have := HRS.out.2; omega) (by rw [HNgf.out]; have := HRZ.out.2; omega)).mono ?_
  rintro e wh1 ⟨rfl, hb⟩
  rw [HSMg.out]
  replace Rx := Row.below Rx hb
  replace RW := Row.below RW hb
  replace RX := Row.below RX hb
  replace RG := Row.below RG hb
  replace OW := OwnM.below OW hb
  replace OG := OwnM.below OG hb
  have hs10 := hb.size
  try simp only [World.size_alloc] at hs10
  replace L := bst L hb L.size
  clear hb
  have c0x := Row.cell Rx 0
  have c1x := Row.cell Rx 1
  have c2x := Row.cell Rx 2
  have ltx := Row.lt Rx
  have c0W := Row.cell RW 0
  have c1W := Row.cell RW 1
  have c2W := Row.cell RW 2
  have c3W := Row.cell RW 3
  have ltW := Row.lt RW
  have c0X := Row.cell RX 0
  have c1X := Row.cell RX 1
  have c2X := Row.cell RX 2
  have ltX := Row.lt RX
  have c0G := Row.cell RG 0
  have c1G := Row.cell RG 1
  have c2G := Row.cell RG 2
  have c3G := Row.cell RG 3
  have ltG := Row.lt RG
  go_wp2_with fail
  clear c0x c1x c2x ltx c0W c1W c2W c3W ltW c0X c1X c2X ltX c0G c1G c2G c3G ltG
  refine (c_toHeap (.slice paA nf qaA) (.slice pbA nl qbA) (.slice pcA nr qcA) hx _ (HeapAt.below HZ.out L) HM.out).mono ?_
  rintro e wH0 ⟨aT, bT, cT, rfl, ho, hb⟩
  try simp only [World.size_alloc] at ho
  have hsh := ho.shapes
  simp only [HNnf.out, HNnl.out, HNnr.out] at hsh
  obtain ⟨⟨paT, qaT, rfl⟩, ⟨pbT, qbT, rfl⟩, ⟨pcT, qcT, rfl⟩⟩ := hsh
  replace Rx := Row.below Rx hb
  replace RW := Row.below RW hb
  replace RX := Row.below RX hb
  replace RG := Row.below RG hb
  replace OW := OwnM.below OW hb
  replace OG := OwnM.below OG hb
  have hs11 := hb.size
  try simp only [World.size_alloc] at hs11
  replace L := bst L hb L.size
  clear hb
  have OT := ho
  clear ho
  have c0x := Row.cell Rx 0
  have c1x := Row.cell Rx 1
  have c2x := Row.cell Rx 2
  have ltx := Row.lt Rx
  have c0W := Row.cell RW 0
  have c1W := Row.cell RW 1
  have c2W := Row.cell RW 2
  have c3W := Row.cell RW 3
  have ltW := Row.lt RW
  have c0X := Row.cell RX 0
  have c1X := Row.cell RX 1
  have c2X := Row.cell RX 2
  have ltX := Row.lt RX
  have c0G := Row.cell RG 0
  have c1G := Row.cell RG 1
  have c2G := Row.cell RG 2
  have c3G := Row.cell RG 3
  have ltG := Row.lt RG
  go_wp2_with fail
  clear c0x c1x c2x ltx c0W c1W c2W c3W ltW c0X c1X c2X ltX c0G c1G c2G c3G ltG
  refine (HI.out _ (.slice paT nf qaT) (.slice pbT nl qbT) (.slice pcT nr qcT) OT.reads).mono ?_
  rintro e wH ⟨aH, bH, cH, dH, rfl, ho, hb⟩
  try simp only [World.size_alloc] at ho
  have hsh := ho.shapes
  simp only [HNgf.out, HNgl.out, HNgr.out, HNgc.out] at hsh
  obtain ⟨⟨paH, qaH, rfl⟩, ⟨pbH, qbH, rfl⟩, ⟨pcH, qcH, rfl⟩, ⟨pdH, qdH, rfl⟩⟩ := hsh
  replace Rx := Row.below Rx hb
  replace RW := Row.below RW hb
  replace RX := Row.below RX hb
  replace RG := Row.below RG hb
  replace OW := OwnM.below OW hb
  replace OG := OwnM.below OG hb
  replace OT := OwnH.below OT hb
  have hs12 := hb.size
  try simp only [World.size_alloc] at hs12
  replace L := bst L hb L.size
  clear hb
  have OH := ho
  clear ho
  clear OT
  have c0x := Row.cell Rx 0
  have c1x := Row.cell Rx 1
  have c2x := Row.cell Rx 2
  have ltx := Row.lt Rx
  have c0W := Row.cell RW 0
  have c1W := Row.cell RW 1
  have c2W := Row.cell RW 2
  have c3W := Row.cell RW 3
  have ltW := Row.lt RW
  have c0X := Row.cell RX 0
  have c1X := Row.cell RX 1
  have c2X := Row.cell RX 2
  have ltX := Row.lt RX
  have c0G := Row.cell RG 0
  have c1G := Row.cell RG 1
  have c2G := Row.cell RG 2
  have c3G := Row.cell RG 3
  have ltG := Row.lt RG
  go_wp2_with fail
  clear c0x c1x c2x ltx c0W c1W c2W c3W ltW c0X c1X c2X ltX c0G c1G c2G c3G ltG
  replace Rx := Row.alloc Rx (.cells (m4 (.slice paH gf qaH) (.slice pbH gl qbH) (.slice pcH gr qcH) (.slice pdH gc qdH)) 55)
  replace RW := Row.alloc RW (.cells (m4 (.slice paH gf qaH) (.slice pbH gl qbH) (.slice pcH gr qcH) (.slice pdH gc qdH)) 55)
  replace RX := Row.alloc RX (.cells (m4 (.slice paH gf qaH) (.slice pbH gl qbH) (.slice pcH gr qcH) (.slice pdH gc qdH)) 55)
  replace RG := Row.alloc RG (.cells (m4 (.slice paH gf qaH) (.slice pbH gl qbH) (.slice pcH gr qcH) (.slice pdH gc qdH)) 55)
  have RH := Row.new wH 55 (m4 (.slice paH gf qaH) (.slice pbH gl qbH) (.slice pcH gr qcH) (.slice pdH gc qdH))
  replace OW := OwnM.below OW (below1 _ (.cells (m4 (.slice paH gf qaH) (.slice pbH gl qbH) (.slice pcH gr qcH) (.slice pdH gc qdH)) 55))
  replace OG := OwnM.below OG (below1 _ (.cells (m4 (.slice paH gf qaH) (.slice pbH gl qbH) (.slice pcH gr qcH) (.slice pdH gc qdH)) 55))
  replace OH := OwnM.below OH (below1 _ (.cells (m4 (.slice paH gf qaH) (.slice pbH gl qbH) (.slice pcH gr qcH) (.slice pdH gc qdH)) 55))
  replace L := Below.alloc L L.size (.cells (m4 (.slice paH gf qaH) (.slice pbH gl qbH) (.slice pcH gr qcH) (.slice pdH gc qdH)) 55)
  refine (c_eqMarking (.slice paH gf qaH) (.slice pbH gl qbH) (.slice pcH gr qcH) (.slice pdH gc qdH) (.slice paW gf qaW) (.slice pbW gl qbW) (.slice pcW gr qcW) (.slice pdW gc qdW) gh gz _ OH.heap OH.cols OW.heap OW.cols HRS.out.1 (by rw [HNgc.out]; exact HRS.out.2)).mono ?_
  rintro e w3e ⟨rfl, hb⟩
  replace Rx := Row.below Rx hb
  replace RW := Row.below RW hb
  replace RX := Row.below RX hb
  replace RG := Row.below RG hb
  replace RH := Row.below RH hb
  replace OW := OwnM.below OW hb
  replace OG := OwnM.below OG hb
  replace OH := OwnM.below OH hb
  have hs13 := hb.size
  try simp only [World.size_alloc] at hs13
  replace L := bst L hb L.size
  clear hb
  have c0x := Row.cell Rx 0
  have c1x := Row.cell Rx 1
  have c2x := Row.cell Rx 2
  have ltx := Row.lt Rx
  have c0W := Row.cell RW 0
  have c1W := Row.cell RW 1
  have c2W := Row.cell RW 2
  have c3W := Row.cell RW 3
  have ltW := Row.lt RW
  have c0X := Row.cell RX 0
  have c1X := Row.cell RX 1
  have c2X := Row.cell RX 2
  have ltX := Row.lt RX
  have c0G := Row.cell RG 0
  have c1G := Row.cell RG 1
  have c2G := Row.cell RG 2
  have c3G := Row.cell RG 3
  have ltG := Row.lt RG
  have c0H := Row.cell RH 0
  have c1H := Row.cell RH 1
  have c2H := Row.cell RH 2
  have c3H := Row.cell RH 3
  have ltH := Row.lt RH
  go_wp2_with fail
  clear c0x c1x c2x ltx c0W c1W c2W c3W ltW c0X c1X c2X ltX c0G c1G c2G c3G ltG c0H c1H c2H c3H ltH
  refine (c_heldMarking (.slice paG gf qaG) (.slice pbG gl qbG) (.slice pcG gr qcG) (.slice pdG gc qdG) gh gc 1 _ OG.heap (by rw [HSMg.out]; exact OG.cols) (by omega) (by rw [HSMg.out]; have := HRZ.out.1; have := HRS.out.2; omega) (by rw [HNgf.out]; have := HRZ.out.2; omega)).mono ?_
  rintro e wh2 ⟨rfl, hb⟩
  rw [HSMg.out]
  replace Rx := Row.below Rx hb
  replace RW := Row.below RW hb
  replace RX := Row.below RX hb
  replace RG := Row.below RG hb
  replace RH := Row.below RH hb
  replace OW := OwnM.below OW hb
  replace OG := OwnM.below OG hb
  replace OH := OwnM.below OH hb
  have hs14 := hb.size
  try simp only [World.size_alloc] at hs14
  replace L := bst L hb L.size
  clear hb
  have c0x := Row.cell Rx 0
  have c1x := Row.cell Rx 1
  have c2x := Row.cell Rx 2
  have ltx := Row.lt Rx
  have c0W := Row.cell RW 0
  have c1W := Row.cell RW 1
  have c2W := Row.cell RW 2
  have c3W := Row.cell RW 3
  have ltW := Row.lt RW
  have c0X := Row.cell RX 0
  have c1X := Row.cell RX 1
  have c2X := Row.cell RX 2
  have ltX := Row.lt RX
  have c0G := Row.cell RG 0
  have c1G := Row.cell RG 1
  have c2G := Row.cell RG 2
  have c3G := Row.cell RG 3
  have ltG := Row.lt RG
  have c0H := Row.cell RH 0
  have c1H := Row.cell RH 1
  have c2H := Row.cell RH 2
  have c3H := Row.cell RH 3
  have ltH := Row.lt RH
  go_wp2
  go_ret
  exact ⟨rfl, L⟩
set_option maxHeartbeats 1600000 in
set_option maxRecDepth 100000 in
theorem walk_FnExactStartMarking (ax bx cx : Value) (hx : H) (w : World) (hzx : HeapAt w ax bx cx hx) (hfx : FitH hx) : Calls Try.prog 6 #[hv ax bx cx] w fun e w' => e = .returned (.bool true) ∧ Below w.heap.size w w' := by
  by_cases hm : wtH hx ≤ 1048576
  · exact core_FnExactStartMarking ax bx cx hx (startH hx) (startR hx) (good hx) w hzx hm (startM_wt hx) (fun w a b c h => s_StartMarking a b c hx w h) (fun w a b c h => c_StartMarking a b c hx w h)
  · have HB0 := Lib.hid (below1 w (.cells (c3 ax bx cx) 65))
    have HA0 := Lib.hid (hzx.below HB0.out)
    have HF := Lib.hid hfx
    have HMM : Hid ((1048576 : Int) < (wtH hx : Int)) := by unfold Hid; omega
    obtain ⟨paA, qaA, rfl⟩ := hzx.f.shape
    obtain ⟨pbA, qbA, rfl⟩ := hzx.l.shape
    obtain ⟨pcA, qcA, rfl⟩ := hzx.r.shape
    have HC := Lib.hid (c_szHeap_no _ _ _ hx 1048576 _ HA0.out HF.out (by omega) (by omega) HMM.out)
    clear hzx HA0 hfx HF HMM hm
    generalize hx.f.length = nf at *
    generalize hx.l.length = nl at *
    generalize hx.r.length = nr at *
    go_enter Try.func6, Try.ntmps6
    go_wp2_with fail
    refine HC.out.mono ?_
    rintro e w1 ⟨rfl, hb1⟩
    have HB1 := Lib.hid (bst HB0.out hb1 HB0.out.size)
    clear hb1 HC
    go_wp2
    go_ret
    exact ⟨rfl, HB1.out⟩
end Go.Proofs.Ythanckifinfpiaa
namespace Go.Proofs.Ythanckifinfpiaa.xStartMarking
open Go.ChangeShapes Go.WideShapes Go.ChangeAt Go.RowKit

set_option maxRecDepth 100000 in
theorem contract (H : Type) (enc : TypeId × Value → H) (W : World) (base : Nat) (args : Array Value) (ds gs : List (DataW H)) (before : List MemPlace)
    (hval : ∀ (j : Nat) t v, Try.f6.params[j]? = some t → args[j]? = some v → Value.okWide Try.prog W .any base t v)
    (hW : DataW.Whole enc Try.prog Try.f6.params.toList Rows.fnExactStartMarkingSpec.vars false W args.toList ds gs before) :
    Calls Try.prog 6 args W fun e W' => ∃ v, e = .returned v ∧ Rows.fnExactStartMarkingSpec.post enc Try.prog Try.f6 false true false false W args v W' := by
  have hW' := hW
  obtain ⟨p, q, hA0, hV, rfl, hfz, hnd⟩ := hW
  have hA : DataW.TrodAll enc Try.prog W 0 (fun _ => true) true Try.f6.params.toList args.toList ds p := hA0
  have hpar : ∀ t ∈ Try.f6.params.toList, Try.prog.readableRec t = true ∧ t < Try.prog.types.size := by
    rw [Try.params6]; intro t ht; simp at ht; subst ht; exact r_heap
  rw [Try.params6] at hA hval
  obtain ⟨v0, vs0, d0, ds0, p0, q0, hargs, rfl, rfl, h0, r0⟩ := trodAll_cons hA
  obtain ⟨rfl, rfl, rfl⟩ := trodAll_nil r0
  obtain rfl : args = #[v0] := by cases args; simp_all
  obtain ⟨rfl, rfl⟩ := trodVars_none hV
  obtain ⟨fa0, fb0, fc0, z0, rfl, hz0, hn0⟩ := heap_of_arg (hval 0 65 v0 rfl rfl) h0
  refine (walk_FnExactStartMarking fa0 fb0 fc0 z0 W hz0 hn0).mono fun e W' ⟨he, hb⟩ => ?_
  subst he
  exact ⟨_, rfl, law_post laidOut hpar (fun n hn => by cases hn) hW' hb rfl (by kernel_rfl) Try.underlying4⟩

set_option maxRecDepth 100000 in
theorem lifted (os : Os) (started : os.Started) (H : Type) (enc : TypeId × Value → H) :
    ReturnsInHanded {} Try.checked os 6 .any (Rows.fnExactStartMarkingSpec.pre6 enc Try.prog Try.f6 Rows.fnExactStartMarkingRow.domain false) (Rows.fnExactStartMarkingSpec.post enc Try.prog Try.f6 false true false false) := by
  refine returnsInHanded_of_change (C := Try.checked) own started (by kernel_rfl) Try.func6
    (ChangeSpec.witness6 (enc := enc) (C := Try.checked) false ⟨#[], #[.agg #[.slice none 0 0, .slice none 0 0, .slice none 0 0]], []⟩ 8 (by kernel_rfl) (by kernel_rfl) (by kernel_rfl) (by kernel_rfl)) ?_
  intro W base args ds gs before hval hW _ _
  exact contract H enc W base args ds gs before hval hW
end Go.Proofs.Ythanckifinfpiaa.xStartMarking
namespace Go.Proofs.Ythanckifinfpiaa
theorem xStartMarking_said : Rows.FnExactStartMarkingSaid :=
  OpenClaim.holds_of_wide 6 Try.f6 rfl rfl rfl rfl rfl rfl rfl ⟨rfl, rfl, rfl, rfl, rfl⟩ rfl rfl rfl rfl rfl (by kernel_rfl) Try.func6 (by kernel_rfl)
    (of_decide_eq_true (by kernel_rfl)) (by unfold Func.isWrapper; first | (rw [if_pos (by decide +kernel)]; kernel_rfl) | (rw [if_neg (by decide +kernel)]; exact ⟨rfl, rfl⟩))
    (fun os started H enc _ => xStartMarking.lifted os started H enc)
end Go.Proofs.Ythanckifinfpiaa
