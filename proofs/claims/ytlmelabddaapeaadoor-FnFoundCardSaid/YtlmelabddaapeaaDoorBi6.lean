/- Contracts of chapter 2: two bitmaps. -/
import Derived.Test.YtlmelabddaapeaaDoorBi5
namespace Go.Proofs.YtlmelabddaapeaaDoor
open Go.RowKit Pb

theorem res_row_row_slot {P : Program} {fn : Func} {p p' q : Tmp} {ty ty' : TypeId} (h : fn.results = #[.cell p ty, .cell p' ty', .tmp q]) {tmps : Array Value} {w : World} {g g' : Nat} {t t' : TypeId} {cs cs' : Array Value} {d d' : TypeDesc} {v : Value} (hg : Row w g t cs) (hg' : Row w g' t' cs')
    (hp : tmps.getD p undef = .pointer (some ⟨g, 0, none⟩)) (hp' : tmps.getD p' undef = .pointer (some ⟨g', 0, none⟩)) (hq : tmps.getD q undef = v) (hu : P.underlying ty = some d) (hd : (match d with | .struct _ | .array _ _ => true | _ => false) = true) (hi : (P.info? ty).map (·.size) = some cs.size)
    (hu' : P.underlying ty' = some d') (hd' : (match d' with | .struct _ | .array _ _ => true | _ => false) = true) (hi' : (P.info? ty').map (·.size) = some cs'.size) :
    (results fn tmps).run P w = .ok (.tuple #[.agg cs, .agg cs', v]) w := by
  have e1 : tmps[p]?.getD undef = .pointer (some ⟨g, 0, none⟩) := by simpa using hp
  have e2 : tmps[p']?.getD undef = .pointer (some ⟨g', 0, none⟩) := by simpa using hp'
  have e3 : tmps[q]?.getD undef = v := by simpa using hq
  simp [results, h, e1, e2, e3, asAddr, run_loadVar_row w g t ty cs (0, 0) d hg hu hd hi, run_loadVar_row w g' t' ty' cs' (0, 0) d' hg' hu' hd' hi']

theorem row_six' {w : World} {g g' : Nat} {T : TypeId} {cs : Array Value} (h : Row w g T cs) (hn : g ≠ g') (F : Nat → Int) : Row (six w g' F) g T cs :=
  (((((Row.other h _ (by simp; omega) _).other _ (by simp; omega) _).other _ (by simp; omega) _).other _ (by simp; omega) _).other _ (by simp; omega) _).other _ (by simp; omega) _

set_option maxHeartbeats 1600000 in
theorem c_wordsOfPair_no (la lb : Int) (va vb : Value) (za zb : List Int) (w : World) (ha : IntsAt w va za) (hb : IntsAt w vb zb) (hB : ¬ (Bok la za ∧ Bok lb zb ∧ la = lb)) : Calls Tryd.prog 66 #[bm la va, bm lb vb] w fun e w' => e = .returned (.tuple #[a6 (fun _ => 0), a6 (fun _ => 0), .bool false]) ∧ Below w.heap.size w w' := by
  have HB := Lib.hid (((((Below.refl w.heap.size w).alloc (Nat.le_refl _) (.cells (cb la va) 25)).alloc (by simp) (.cells (cb lb vb) 25)).alloc (by simp; omega) (.cells (c6 fun _ => 0) 69)).alloc (by simp; omega) (.cells (c6 fun _ => 0) 69))
  have va' := Lib.hid (ha.below HB.out)
  have vb' := Lib.hid (hb.below HB.out)
  have ra : RowB ((((w.alloc (.cells (cb la va) 25)).alloc (.cells (cb lb vb) 25)).alloc (.cells (c6 fun _ => 0) 69)).alloc (.cells (c6 fun _ => 0) 69)) w.heap.size la va := (((Row.new w 25 (cb la va)).alloc _).alloc _).alloc _
  have rb : RowB ((((w.alloc (.cells (cb la va) 25)).alloc (.cells (cb lb vb) 25)).alloc (.cells (c6 fun _ => 0) 69)).alloc (.cells (c6 fun _ => 0) 69)) (w.heap.size + 1) lb vb := ((Row.new1 w _ 25 (cb lb vb)).alloc _).alloc _
  have s2 : Blk ((((w.alloc (.cells (cb la va) 25)).alloc (.cells (cb lb vb) 25)).alloc (.cells (c6 fun _ => 0) 69)).alloc (.cells (c6 fun _ => 0) 69)) (w.heap.size + 1 + 1) (fun _ => 0) := (Row.new2 w _ _ 69 _).alloc _
  have s3 : Blk ((((w.alloc (.cells (cb la va) 25)).alloc (.cells (cb lb vb) 25)).alloc (.cells (c6 fun _ => 0) 69)).alloc (.cells (c6 fun _ => 0) 69)) (w.heap.size + 1 + 1 + 1) (fun _ => 0) := Row.new3 w _ _ _ 69 _
  obtain ⟨fa, hfa⟩ : ∃ f : Nat → Int, f = fun k => za.getD k 0 := ⟨_, rfl⟩
  obtain ⟨fb, hfb⟩ : ∃ f : Nat → Int, f = fun k => zb.getD k 0 := ⟨_, rfl⟩
  have HFA := Lib.hid hfa; have HFB := Lib.hid hfb
  clear hfa hfb ha hb
  by_cases ga : Bok la za
  · by_cases gb : Bok lb zb
    · have hne : (la != lb) = true := by rw [bne_iff_ne]; exact fun e => hB ⟨ga, gb, e⟩
      clear hB
      go_enter Tryd.func66, Tryd.ntmps66
      go_wp2_with fail
      refine (c_wordsOf_yes la va za fa HFA.out _ va'.out ga).mono ?_
      rintro e w1 ⟨rfl, hb1⟩
      have ra1 := (Row.below ra hb1)
      have rb1 := (Row.below rb hb1)
      have s21 := (Row.below s2 hb1)
      have s31 := (Row.below s3 hb1)
      have B1 := bstep HB.out hb1 HB.out.size
      have hw3 : w.heap.size + 1 + 1 + 1 < w1.heap.size := Row.lt s31
      have hw2 : w.heap.size + 1 + 1 < w1.heap.size := by omega
      have hw1 : w.heap.size + 1 < w1.heap.size := by omega
      have hw0 : w.heap.size < w1.heap.size := by omega
      have qa0 := RowB.c0 ra1; have qa1 := RowB.c1 ra1; have qb0 := RowB.c0 rb1; have qb1 := RowB.c1 rb1
      have HB1 := Lib.hid B1
      have vb1 := Lib.hid (vb'.out.below hb1)
      clear ra rb s2 s3 hb1 B1
      go_wp2_with fail
      refine (c_wordsOf_yes lb vb zb fb HFB.out _ (vb1.out.below ((Below.refl _ _).alloc (Nat.le_refl _) _)) gb).mono ?_
      rintro e w2 ⟨rfl, hb2⟩
      have B2' := HB1.out.alloc HB1.out.size (.cells (c6 fa) 69)
      have b72 : Blk w2 w1.heap.size fa := Row.below (Row.new w1 _ (c6 fa)) hb2
      have ra2 := Row.below (ra1.alloc (.cells (c6 fa) 69)) hb2
      have rb2 := Row.below (rb1.alloc (.cells (c6 fa) 69)) hb2
      have s22 := Row.below (s21.alloc (.cells (c6 fa) 69)) hb2
      have s32 := Row.below (s31.alloc (.cells (c6 fa) 69)) hb2
      have HB2 := Lib.hid (bstep B2' hb2 B2'.size)
      have hx3 : w.heap.size + 1 + 1 + 1 < w2.heap.size := Row.lt s32
      have hx7 : w1.heap.size < w2.heap.size := Row.lt b72
      have hx1 : w.heap.size + 1 < w2.heap.size := by omega
      have hx0 : w.heap.size < w2.heap.size := by omega
      clear qa0 qa1 qb0 qb1 ra1 rb1 s21 s31 hb2 B2'
      have qa0 := RowB.c0 ra2; have qb0 := RowB.c0 rb2
      have HB3 := HB2.out.alloc HB2.out.size (.cells (c6 fb) 69)
      have s23 := s22.alloc (.cells (c6 fb) 69)
      have s33 := s32.alloc (.cells (c6 fb) 69)
      go_wp2_with (first
        | (refine wl_store6 rfl _ _ rfl (w.heap.size + 1 + 1) (fun _ => 0) _ s23 rfl rfl ?_)
        | (refine wl_store6 rfl _ _ rfl (w.heap.size + 1 + 1 + 1) (fun _ => 0) _ (Row.putOther s33 (c6 fun _ => 0) (by omega)) rfl rfl ?_))
      exact bodyPost_ret (res_row_row_slot Tryd.results66 (Row.putOther (Row.put s23 (c6 fun _ => 0)) (c6 fun _ => 0) (by omega)) (Row.put (Row.putOther s33 (c6 fun _ => 0) (by omega)) (c6 fun _ => 0)) rfl rfl rfl Tryd.underlying69 rfl info_bw Tryd.underlying69 rfl info_bw) rfl ⟨rfl, below_setRow (below_setRow HB3 (by omega) _) (by omega) _⟩
    · clear hB
      go_enter Tryd.func66, Tryd.ntmps66
      go_wp2_with fail
      refine (c_wordsOf_yes la va za fa HFA.out _ va'.out ga).mono ?_
      rintro e w1 ⟨rfl, hb1⟩
      have ra1 := (Row.below ra hb1)
      have rb1 := (Row.below rb hb1)
      have s21 := (Row.below s2 hb1)
      have s31 := (Row.below s3 hb1)
      have B1 := bstep HB.out hb1 HB.out.size
      have hw3 : w.heap.size + 1 + 1 + 1 < w1.heap.size := Row.lt s31
      have hw2 : w.heap.size + 1 + 1 < w1.heap.size := by omega
      have hw1 : w.heap.size + 1 < w1.heap.size := by omega
      have hw0 : w.heap.size < w1.heap.size := by omega
      have qa0 := RowB.c0 ra1; have qa1 := RowB.c1 ra1; have qb0 := RowB.c0 rb1; have qb1 := RowB.c1 rb1
      have HB1 := Lib.hid B1
      have vb1 := Lib.hid (vb'.out.below hb1)
      clear ra rb s2 s3 hb1 B1
      go_wp2_with fail
      refine (c_wordsOf_no lb vb zb _ (vb1.out.below ((Below.refl _ _).alloc (Nat.le_refl _) _)) gb).mono ?_
      rintro e w2 ⟨rfl, hb2⟩
      have B2' := HB1.out.alloc HB1.out.size (.cells (c6 fa) 69)
      have b72 : Blk w2 w1.heap.size fa := Row.below (Row.new w1 _ (c6 fa)) hb2
      have ra2 := Row.below (ra1.alloc (.cells (c6 fa) 69)) hb2
      have rb2 := Row.below (rb1.alloc (.cells (c6 fa) 69)) hb2
      have s22 := Row.below (s21.alloc (.cells (c6 fa) 69)) hb2
      have s32 := Row.below (s31.alloc (.cells (c6 fa) 69)) hb2
      have HB2 := Lib.hid (bstep B2' hb2 B2'.size)
      have hx3 : w.heap.size + 1 + 1 + 1 < w2.heap.size := Row.lt s32
      have hx7 : w1.heap.size < w2.heap.size := Row.lt b72
      have hx1 : w.heap.size + 1 < w2.heap.size := by omega
      have hx0 : w.heap.size < w2.heap.size := by omega
      clear qa0 qa1 qb0 qb1 ra1 rb1 s21 s31 hb2 B2'
      have qa0 := RowB.c0 ra2; have qb0 := RowB.c0 rb2
      have HB3 := HB2.out.alloc HB2.out.size (.cells (c6 fun _ => 0) 69)
      have s23 := s22.alloc (.cells (c6 fun _ => 0) 69)
      have s33 := s32.alloc (.cells (c6 fun _ => 0) 69)
      go_wp2_with (first
        | (refine wl_store6 rfl _ _ rfl (w.heap.size + 1 + 1) (fun _ => 0) _ s23 rfl rfl ?_)
        | (refine wl_store6 rfl _ _ rfl (w.heap.size + 1 + 1 + 1) (fun _ => 0) _ (Row.putOther s33 (c6 fun _ => 0) (by omega)) rfl rfl ?_))
      exact bodyPost_ret (res_row_row_slot Tryd.results66 (Row.putOther (Row.put s23 (c6 fun _ => 0)) (c6 fun _ => 0) (by omega)) (Row.put (Row.putOther s33 (c6 fun _ => 0) (by omega)) (c6 fun _ => 0)) rfl rfl rfl Tryd.underlying69 rfl info_bw Tryd.underlying69 rfl info_bw) rfl ⟨rfl, below_setRow (below_setRow HB3 (by omega) _) (by omega) _⟩
  · clear hB
    go_enter Tryd.func66, Tryd.ntmps66
    go_wp2_with fail
    refine (c_wordsOf_no la va za _ va'.out ga).mono ?_
    rintro e w1 ⟨rfl, hb1⟩
    have ra1 := (Row.below ra hb1)
    have rb1 := (Row.below rb hb1)
    have s21 := (Row.below s2 hb1)
    have s31 := (Row.below s3 hb1)
    have B1 := bstep HB.out hb1 HB.out.size
    have hw3 : w.heap.size + 1 + 1 + 1 < w1.heap.size := Row.lt s31
    have hw2 : w.heap.size + 1 + 1 < w1.heap.size := by omega
    have hw1 : w.heap.size + 1 < w1.heap.size := by omega
    have hw0 : w.heap.size < w1.heap.size := by omega
    have qa0 := RowB.c0 ra1; have qa1 := RowB.c1 ra1; have qb0 := RowB.c0 rb1; have qb1 := RowB.c1 rb1
    have HB1 := Lib.hid B1
    have vb1 := Lib.hid (vb'.out.below hb1)
    clear ra rb s2 s3 hb1 B1
    have HB3 := HB1.out.alloc HB1.out.size (.cells (c6 fun _ => 0) 69)
    have s23 := s21.alloc (.cells (c6 fun _ => 0) 69)
    have s33 := s31.alloc (.cells (c6 fun _ => 0) 69)
    go_wp2_with (first
      | (refine wl_store6 rfl _ _ rfl (w.heap.size + 1 + 1) (fun _ => 0) _ s23 rfl rfl ?_)
      | (refine wl_store6 rfl _ _ rfl (w.heap.size + 1 + 1 + 1) (fun _ => 0) _ (Row.putOther s33 (c6 fun _ => 0) (by omega)) rfl rfl ?_))
    exact bodyPost_ret (res_row_row_slot Tryd.results66 (Row.putOther (Row.put s23 (c6 fun _ => 0)) (c6 fun _ => 0) (by omega)) (Row.put (Row.putOther s33 (c6 fun _ => 0) (by omega)) (c6 fun _ => 0)) rfl rfl rfl Tryd.underlying69 rfl info_bw Tryd.underlying69 rfl info_bw) rfl ⟨rfl, below_setRow (below_setRow HB3 (by omega) _) (by omega) _⟩

set_option maxHeartbeats 1600000 in
theorem c_wordsOfPair_yes (la lb : Int) (va vb : Value) (za zb : List Int) (w : World) (ha : IntsAt w va za) (hb : IntsAt w vb zb) (fa fb : Nat → Int) (hfa : fa = fun k => za.getD k 0) (hfb : fb = fun k => zb.getD k 0) (ga : Bok la za) (gb : Bok lb zb) (hl : la = lb) : Calls Tryd.prog 66 #[bm la va, bm lb vb] w fun e w' => e = .returned (.tuple #[a6 fa, a6 fb, .bool true]) ∧ Below w.heap.size w w' := by
  subst hl
  have HB := Lib.hid (((((Below.refl w.heap.size w).alloc (Nat.le_refl _) (.cells (cb la va) 25)).alloc (by simp) (.cells (cb la vb) 25)).alloc (by simp; omega) (.cells (c6 fun _ => 0) 69)).alloc (by simp; omega) (.cells (c6 fun _ => 0) 69))
  have va' := Lib.hid (ha.below HB.out)
  have vb' := Lib.hid (hb.below HB.out)
  have ra : RowB ((((w.alloc (.cells (cb la va) 25)).alloc (.cells (cb la vb) 25)).alloc (.cells (c6 fun _ => 0) 69)).alloc (.cells (c6 fun _ => 0) 69)) w.heap.size la va := (((Row.new w 25 (cb la va)).alloc _).alloc _).alloc _
  have rb : RowB ((((w.alloc (.cells (cb la va) 25)).alloc (.cells (cb la vb) 25)).alloc (.cells (c6 fun _ => 0) 69)).alloc (.cells (c6 fun _ => 0) 69)) (w.heap.size + 1) la vb := ((Row.new1 w _ 25 (cb la vb)).alloc _).alloc _
  have s2 : Blk ((((w.alloc (.cells (cb la va) 25)).alloc (.cells (cb la vb) 25)).alloc (.cells (c6 fun _ => 0) 69)).alloc (.cells (c6 fun _ => 0) 69)) (w.heap.size + 1 + 1) (fun _ => 0) := (Row.new2 w _ _ 69 _).alloc _
  have s3 : Blk ((((w.alloc (.cells (cb la va) 25)).alloc (.cells (cb la vb) 25)).alloc (.cells (c6 fun _ => 0) 69)).alloc (.cells (c6 fun _ => 0) 69)) (w.heap.size + 1 + 1 + 1) (fun _ => 0) := Row.new3 w _ _ _ 69 _
  have HFA := Lib.hid hfa; have HFB := Lib.hid hfb
  clear hfa hfb ha hb
  go_enter Tryd.func66, Tryd.ntmps66
  go_wp2_with fail
  refine (c_wordsOf_yes la va za fa HFA.out _ va'.out ga).mono ?_
  rintro e w1 ⟨rfl, hb1⟩
  have ra1 := (Row.below ra hb1)
  have rb1 := (Row.below rb hb1)
  have s21 := (Row.below s2 hb1)
  have s31 := (Row.below s3 hb1)
  have B1 := bstep HB.out hb1 HB.out.size
  have hw3 : w.heap.size + 1 + 1 + 1 < w1.heap.size := Row.lt s31
  have hw2 : w.heap.size + 1 + 1 < w1.heap.size := by omega
  have hw1 : w.heap.size + 1 < w1.heap.size := by omega
  have hw0 : w.heap.size < w1.heap.size := by omega
  have qa0 := RowB.c0 ra1; have qa1 := RowB.c1 ra1; have qb0 := RowB.c0 rb1; have qb1 := RowB.c1 rb1
  have HB1 := Lib.hid B1
  have vb1 := Lib.hid (vb'.out.below hb1)
  clear ra rb s2 s3 hb1 B1
  go_wp2_with fail
  refine (c_wordsOf_yes la vb zb fb HFB.out _ (vb1.out.below ((Below.refl _ _).alloc (Nat.le_refl _) _)) gb).mono ?_
  rintro e w2 ⟨rfl, hb2⟩
  have B2' := HB1.out.alloc HB1.out.size (.cells (c6 fa) 69)
  have b72 : Blk w2 w1.heap.size fa := Row.below (Row.new w1 _ (c6 fa)) hb2
  have ra2 := Row.below (ra1.alloc (.cells (c6 fa) 69)) hb2
  have rb2 := Row.below (rb1.alloc (.cells (c6 fa) 69)) hb2
  have s22 := Row.below (s21.alloc (.cells (c6 fa) 69)) hb2
  have s32 := Row.below (s31.alloc (.cells (c6 fa) 69)) hb2
  have HB2 := Lib.hid (bstep B2' hb2 B2'.size)
  have hx3 : w.heap.size + 1 + 1 + 1 < w2.heap.size := Row.lt s32
  have hx7 : w1.heap.size < w2.heap.size := Row.lt b72
  have hx1 : w.heap.size + 1 < w2.heap.size := by omega
  have hx0 : w.heap.size < w2.heap.size := by omega
  clear qa0 qa1 qb0 qb1 ra1 rb1 s21 s31 hb2 B2'
  have qa0 := RowB.c0 ra2; have qb0 := RowB.c0 rb2
  have HB3 := HB2.out.alloc HB2.out.size (.cells (c6 fb) 69)
  have s23 := s22.alloc (.cells (c6 fb) 69)
  have s33 := s32.alloc (.cells (c6 fb) 69)
  have b73 : Blk (w2.alloc (.cells (c6 fb) 69)) w1.heap.size fa := Row.alloc b72 (.cells (c6 fb) 69)
  have b93 : Blk (w2.alloc (.cells (c6 fb) 69)) w2.heap.size fb := Row.new w2 _ _
  have p0 := b73.at (k := 0) (by omega)
  have p1 := b73.at (k := 1) (by omega)
  have p2 := b73.at (k := 2) (by omega)
  have p3 := b73.at (k := 3) (by omega)
  have p4 := b73.at (k := 4) (by omega)
  have p5 := b73.at (k := 5) (by omega)
  have r0 := b93.at (k := 0) (by omega)
  have r1 := b93.at (k := 1) (by omega)
  have r2 := b93.at (k := 2) (by omega)
  have r3 := b93.at (k := 3) (by omega)
  have r4 := b93.at (k := 4) (by omega)
  have r5 := b93.at (k := 5) (by omega)
  have s23' : Blk _ _ (fun _ => 0) := s23
  have s33' : Blk _ _ (fun _ => 0) := s33
  have a0 := s23'.at (k := 0) (by omega)
  have b0 := s33'.at (k := 0) (by omega)
  have u0 := Row.frozen s23 0
  have v0 := Row.frozen s33 0
  have a1 := s23'.at (k := 1) (by omega)
  have b1 := s33'.at (k := 1) (by omega)
  have u1 := Row.frozen s23 1
  have v1 := Row.frozen s33 1
  have a2 := s23'.at (k := 2) (by omega)
  have b2 := s33'.at (k := 2) (by omega)
  have u2 := Row.frozen s23 2
  have v2 := Row.frozen s33 2
  have a3 := s23'.at (k := 3) (by omega)
  have b3 := s33'.at (k := 3) (by omega)
  have u3 := Row.frozen s23 3
  have v3 := Row.frozen s33 3
  have a4 := s23'.at (k := 4) (by omega)
  have b4 := s33'.at (k := 4) (by omega)
  have u4 := Row.frozen s23 4
  have v4 := Row.frozen s33 4
  have a5 := s23'.at (k := 5) (by omega)
  have b5 := s33'.at (k := 5) (by omega)
  have u5 := Row.frozen s23 5
  have v5 := Row.frozen s33 5
  have HS2 := Lib.hid s23; have HS3 := Lib.hid s33; have HB4 := Lib.hid HB3
  clear s23 s33 HB3 s23' s33' b73 b93 s22 s32 ra2 rb2 b72
  have n1 : w1.heap.size ≠ w2.heap.size := by omega
  go_wp2_with fail
  clear qa0 qb0
  generalize hwx : w2.alloc (.cells (c6 fb) 69) = wx at *
  have HWX := Lib.hid hwx
  clear hwx
  go_region
  have X2 : Blk (six wx (w.heap.size + 1 + 1) fa) (w.heap.size + 1 + 1) fa := Blk.six HS2.out fa
  have X3 : Row (six wx (w.heap.size + 1 + 1) fa) (w.heap.size + 1 + 1 + 1) _ _ := row_six' HS3.out (by omega) fa
  have Y2 : Row (six (six wx (w.heap.size + 1 + 1) fa) (w.heap.size + 1 + 1 + 1) fb) (w.heap.size + 1 + 1) _ _ := row_six' X2 (by omega) fb
  have Y3 : Blk (six (six wx (w.heap.size + 1 + 1) fa) (w.heap.size + 1 + 1 + 1) fb) (w.heap.size + 1 + 1 + 1) fb := Blk.six X3 fb
  have Y4 := below_six (below_six HB4.out (show w.heap.size ≤ w.heap.size + 1 + 1 by omega) fa) (show w.heap.size ≤ w.heap.size + 1 + 1 + 1 by omega) fb
  change Exit.then _ _ Exit.normal _ (six (six wx (w.heap.size + 1 + 1) fa) (w.heap.size + 1 + 1 + 1) fb).drew
  generalize six (six wx (w.heap.size + 1 + 1) fa) (w.heap.size + 1 + 1 + 1) fb = w9 at *
  clear X2 X3
  go_wp2
  exact bodyPost_ret (res_row_row_slot Tryd.results66 (show Row w9.drew _ _ (c6 fa) from Y2) (show Row w9.drew _ _ (c6 fb) from Y3) rfl rfl rfl Tryd.underlying69 rfl info_bw Tryd.underlying69 rfl info_bw) rfl ⟨rfl, below_drew Y4⟩
end Go.Proofs.YtlmelabddaapeaaDoor
