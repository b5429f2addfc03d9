/- The walk. -/
import Derived.Test.YtkbphmnacdpdgaaRB6
namespace Go.Proofs.Ytkbphmnacdpdgaa
open Go.RowKit Ph Kw

set_option maxHeartbeats 12800000 in
set_option maxRecDepth 100000 in
theorem core_FnExactStepWork (a c : Value) (W : Wk) (sk sx sy : Int) (G : Wk) (ok : Bool) (w : World) (hzx : WorkAt w a c W) (hm : wtW W ≤ 1048576) (hrs : wtW G ≤ 2000) 
    (hS : ∀ (w : World) (a c : Value), WorkAt w a c W → Calls Try.prog 28 #[wkv a W.n c, stv sk sx sy] w (EndW G ok w))
    (hI : ∀ (w : World) (a c : Value), WorkC w a c W → Calls Try.prog 27 #[wkv a W.n c, stv sk sx sy] w (EndW G ok w)) :
    Calls Try.prog 7 #[wkv a W.n c, stv sk sx sy] w fun e w' => e = .returned (.bool true) ∧ Below w.heap.size w w' := by
  have HZ := Lib.hid hzx
  have HS := Lib.hid (fun w a c h => hS w a c h); have HI := Lib.hid (fun w a c h => hI w a c h)
  clear hS hI
  obtain ⟨paA, qaA, hpa⟩ := hzx.r.shape
  obtain ⟨pcA, qcA, hpc⟩ := hzx.d.shape
  clear hzx
  have HSZ : Hid (szMW W ≤ 1048576 ∧ W.r.length ≤ 1048576) := by unfold Hid szMW; have := hm; unfold wtW wt at this; omega
  have HRZ : Hid (szMW G ≤ 2000 ∧ G.r.length ≤ 2000 ∧ wtW G ≤ 1048576) := by
    have h1 : szMW G ≤ 2000 ∧ G.r.length ≤ 2000 := by unfold szMW; have := hrs; unfold wtW wt at this; omega
    exact ⟨h1.1, h1.2, by omega⟩
  clear hrs
  generalize hwt : wtW W = wt at *
  have HWT := Lib.hid hwt; clear hwt
  generalize hnnr : W.r.length = nr at *
  have HNnr := Lib.hid hnnr; clear hnnr
  generalize hnnd : W.d.length = nd at *
  have HNnd := Lib.hid hnnd; clear hnnd
  subst hpa
  subst hpc
  generalize hsz : szMW W = sz at *
  have HSM := Lib.hid hsz; clear hsz
  have HM : Hid (wtW W ≤ 1048576) := by unfold Hid; rw [HWT.out]; omega
  have hl0 : ¬ ((1048576 : Int) - (wt : Int)) < 0 := by omega
  generalize hngr : G.r.length = gr at *
  have HNgr := Lib.hid hngr; clear hngr
  generalize hngd : G.d.length = gd at *
  have HNgd := Lib.hid hngd; clear hngd
  generalize hszg : szMW G = szg at *
  have HSMg := Lib.hid hszg; clear hszg
  have e1 : (ok != ok) = false := by simp
  have L := Lib.hid (below1 w (.cells (w3 (.slice paA nr qaA) W.n (.slice pcA nd qcA)) 54))
  have Rx : Hid (Row (w.alloc (.cells (w3 (.slice paA nr qaA) W.n (.slice pcA nd qcA)) 54)) w.heap.size 54 (w3 (.slice paA nr qaA) W.n (.slice pcA nd qcA))) := Row.new w _ _
  replace L := Lib.hid (L.out.alloc (by simp) (.cells (s3c sk sx sy) 58))
  replace Rx : Hid (Row ((w.alloc (.cells (w3 (.slice paA nr qaA) W.n (.slice pcA nd qcA)) 54)).alloc (.cells (s3c sk sx sy) 58)) w.heap.size 54 (w3 (.slice paA nr qaA) W.n (.slice pcA nd qcA))) := Row.alloc Rx.out _
  have Rs : Hid (Row ((w.alloc (.cells (w3 (.slice paA nr qaA) W.n (.slice pcA nd qcA)) 54)).alloc (.cells (s3c sk sx sy) 58)) (w.heap.size + 1) 58 (s3c sk sx sy)) := Row.new1 w _ _ _
  have S1 : Hid (w.heap.size + 2 ≤ ((w.alloc (.cells (w3 (.slice paA nr qaA) W.n (.slice pcA nd qcA)) 54)).alloc (.cells (s3c sk sx sy) 58)).heap.size) := (by unfold Hid; simp)
  go_enter Try.func7, Try.ntmps7
  have c0x := Row.cell Rx.out 0
  have c1x := Row.cell Rx.out 1
  have c2x := Row.cell Rx.out 2
  have ltx := Row.lt Rx.out
  have c0s := Row.cell Rs.out 0
  have c1s := Row.cell Rs.out 1
  have c2s := Row.cell Rs.out 2
  have lts := Row.lt Rs.out
  go_wp2_with fail
  clear c0x c1x c2x ltx c0s c1s c2s lts
  refine (c_szWork_yes (.slice paA nr qaA) W.n (.slice pcA nd qcA) W 1048576 _ (HZ.out.below L.out) (by omega) (by rw [HWT.out]; omega)).mono ?_
  rintro e ys ⟨rfl, hb⟩
  rw [HWT.out]
  replace Rx := Lib.hid (Row.below Rx.out hb)
  replace Rs := Lib.hid (Row.below Rs.out hb)
  have S2 : Hid (((w.alloc (.cells (w3 (.slice paA nr qaA) W.n (.slice pcA nd qcA)) 54)).alloc (.cells (s3c sk sx sy) 58)).heap.size ≤ ys.heap.size) := hb.size
  replace L := Lib.hid (bst L.out hb L.out.size)
  clear hb
  have c0x := Row.cell Rx.out 0
  have c1x := Row.cell Rx.out 1
  have c2x := Row.cell Rx.out 2
  have ltx := Row.lt Rx.out
  have c0s := Row.cell Rs.out 0
  have c1s := Row.cell Rs.out 1
  have c2s := Row.cell Rs.out 2
  have lts := Row.lt Rs.out
  go_wp2_with fail
  clear c0x c1x c2x ltx c0s c1s c2s lts
  have KS : Hid (∀ Y, Below ys.heap.size ys Y → Y.cell? ⟨w.heap.size, 0, none⟩ = some (.slice paA nr qaA) ∧ Y.cell? ⟨w.heap.size, 1, none⟩ = some (.int .i64 W.n) ∧ Y.cell? ⟨w.heap.size, 2, none⟩ = some (.slice pcA nd qcA) ∧ Y.cell? ⟨w.heap.size + 1, 0, none⟩ = some (.int .i64 sk) ∧ Y.cell? ⟨w.heap.size + 1, 1, none⟩ = some (.int .i64 sx) ∧ Y.cell? ⟨w.heap.size + 1, 2, none⟩ = some (.int .i64 sy)) := fun Y hY => ⟨Row.cell (Row.below Rx.out hY) 0, Row.cell (Row.below Rx.out hY) 1, Row.cell (Row.below Rx.out hY) 2, Row.cell (Row.below Rs.out hY) 0, Row.cell (Row.below Rs.out hY) 1, Row.cell (Row.below Rs.out hY) 2⟩
  have IZ := Lib.hid (HZ.out.below L.out)
  go_cut [6, 7] from 16 (fun s1 s2 wz => ∃ (gB lo hi : Nat) (pa : Option Addr) (qa : Nat) (pc : Option Addr) (qc : Nat), s1 = .pointer (some ⟨gB, 0, none⟩) ∧ s2 = .bool ok ∧ Hid (Row wz (w.heap.size) 54 (w3 (.slice paA nr qaA) W.n (.slice pcA nd qcA))) ∧ Hid (Row wz (w.heap.size + 1) 58 (s3c sk sx sy)) ∧ Hid (Row wz gB 28 (w3 (.slice pa gr qa) G.n (.slice pc gd qc))) ∧ Hid (OwnW wz lo hi (.slice pa gr qa) (.slice pc gd qc) G) ∧ Hid (Below w.heap.size w wz) ∧ Hid (ys.heap.size ≤ lo) ∧ Hid (hi ≤ wz.heap.size) ∧ Hid (ys.heap.size ≤ gB) ∧ Hid (gB < wz.heap.size) ∧ Hid (gB < lo ∨ hi ≤ gB) ∧ Hid (ys.heap.size ≤ wz.heap.size) ∧ Hid (lo ≤ hi))
  case first =>
    have kb0 := below_drew (Below.refl ys.heap.size ys)
    refine wp_region_held_drew (S := (fun w' => w'.cell? ⟨w.heap.size, 0, none⟩ = some (.slice paA nr qaA) ∧ w'.cell? ⟨w.heap.size, 1, none⟩ = some (.int .i64 W.n) ∧ w'.cell? ⟨w.heap.size, 2, none⟩ = some (.slice pcA nd qcA) ∧ w'.cell? ⟨w.heap.size + 1, 0, none⟩ = some (.int .i64 sk) ∧ w'.cell? ⟨w.heap.size + 1, 1, none⟩ = some (.int .i64 sx) ∧ w'.cell? ⟨w.heap.size + 1, 2, none⟩ = some (.int .i64 sy))) (by kernel_rfl) (KS.out _ kb0) (fun hHeld => ?_)
    have x0z : ys.heap.size ≤ ys.drew.heap.size := kb0.size
    obtain ⟨x0, hx0⟩ : ∃ x, x = ys.drew := ⟨_, rfl⟩
    rw [← hx0] at kb0 x0z hHeld
    rw [← hx0]
    clear hx0
    refine wpAnyH_take (i := 0) (v := ?va0x1) rfl (by kernel_rfl) (by kernel_rfl) (by kernel_rfl) (fun _ _ _ h => h) (Or.inl ⟨by rfl, ?hy0x1⟩) (by assumption) ?rest0x1
    case hy0x1 => (intro w hSw; (try dsimp only at hSw); go_simp; try with_reducible rfl)
    (try simp only [Act.put, List.getElem_toArray, List.getElem_cons_zero, List.setIfInBounds_toArray, List.set_cons_zero, List.set_cons_succ])
    refine wpAnyH_take (i := 2) (v := ?va2x2) rfl (by kernel_rfl) (by kernel_rfl) (by kernel_rfl) (fun _ _ _ h => h) (Or.inl ⟨by rfl, ?hy2x2⟩) (by assumption) ?rest2x2
    case hy2x2 => (intro w hSw; (try dsimp only at hSw); go_simp; try with_reducible rfl)
    (try simp only [Act.put, List.getElem_toArray, List.getElem_cons_zero, List.getElem_cons_succ, List.setIfInBounds_toArray, List.set_cons_zero, List.set_cons_succ])
    refine wpAnyH_ready (rs := [1, 8]) (by kernel_rfl) (by simp) ?_
    refine AllReadyH.cons rfl (fun K hK => ?_) (AllReadyH.cons rfl (fun K hK => ?_) AllReadyH.nil)
    · clear hHeld
      go_simp
      refine (c_toWork (.slice paA nr qaA) (.slice pcA nd qcA) W _ (IZ.out.below kb0) HM.out).mono ?_
      rintro e x1 ⟨a1, c1, rfl, ho1, hb1⟩
      have kb1 := bst kb0 hb1 kb0.size
      have IA1 := ho1
      refine hK.out _ _ (KS.out _ kb1) (fun hHeld => ?_)
      clear hK K
      (try simp only [Act.put, List.getElem_toArray, List.getElem_cons_zero, List.getElem_cons_succ, List.setIfInBounds_toArray, List.set_cons_zero, List.set_cons_succ])
      refine wpAnyH_ready (rs := [3, 8]) (by kernel_rfl) (by simp) ?_
      refine AllReadyH.cons rfl (fun K hK => ?_) (AllReadyH.cons rfl (fun K hK => ?_) AllReadyH.nil)
      · clear hHeld
        go_simp
        refine (c_toWorkStep sk sx sy _).mono ?_
        rintro e x2 ⟨rfl, hb2⟩
        have kb2 := bst kb1 hb2 kb1.size
        have IA2 := OwnW.below IA1 hb2
        refine hK.out _ _ (KS.out _ kb2) (fun hHeld => ?_)
        clear hK K
        (try simp only [Act.put, List.getElem_toArray, List.getElem_cons_zero, List.getElem_cons_succ, List.setIfInBounds_toArray, List.set_cons_zero, List.set_cons_succ])
        refine wpAnyH_ready (rs := [4, 8]) (by kernel_rfl) (by simp) ?_
        refine AllReadyH.cons rfl (fun K hK => ?_) (AllReadyH.cons rfl (fun K hK => ?_) AllReadyH.nil)
        · clear hHeld
          go_simp
          refine (HS.out _ a1 c1 (IA2.reads)).mono ?_
          rintro e x3 ⟨a2, c2, rfl, ho3, hb3⟩
          have kb3 := bst kb2 hb3 kb2.size
          have IA3 := OwnW.below IA2 hb3
          have hsh := ho3.shapes
          simp only [HNgr.out, HNgd.out] at hsh
          obtain ⟨⟨pa, qa, rfl⟩, ⟨pc, qc, rfl⟩⟩ := hsh
          have OG3 := ho3
          have hq3 : x3.heap.size ≤ x3.heap.size := Nat.le_refl _
          have lz : ys.heap.size ≤ x2.heap.size := kb2.size
          have lh : x2.heap.size ≤ x3.heap.size := hb3.size
          refine hK.out _ _ (KS.out _ kb3) (fun hHeld => ?_)
          clear hK K
          (try simp only [Act.put, List.getElem_toArray, List.getElem_cons_zero, List.getElem_cons_succ, List.setIfInBounds_toArray, List.set_cons_zero, List.set_cons_succ])
          refine wpAnyH_take (i := 5) (v := ?va5x3) rfl (by kernel_rfl) (by kernel_rfl) (by kernel_rfl) (fun _ _ _ h => h) (Or.inl ⟨by rfl, ?hy5x3⟩) (by assumption) ?rest5x3
          case hy5x3 => (intro w hSw; (try dsimp only at hSw); go_simp; try with_reducible rfl)
          (try simp only [Act.put, List.getElem_toArray, List.getElem_cons_zero, List.getElem_cons_succ, List.setIfInBounds_toArray, List.set_cons_zero, List.set_cons_succ])
          refine wpAnyH_take (i := 6) (v := ?va6x4) rfl (by kernel_rfl) (by kernel_rfl) (by kernel_rfl) (fun _ _ _ h => h) (Or.inl ⟨by rfl, ?hy6x4⟩) (by assumption) ?rest6x4
          case hy6x4 => (intro w hSw; (try dsimp only at hSw); go_simp; try with_reducible rfl)
          (try simp only [Act.put, List.getElem_toArray, List.getElem_cons_zero, List.getElem_cons_succ, List.setIfInBounds_toArray, List.set_cons_zero, List.set_cons_succ])
          refine wpAnyH_take (i := 7) (v := ?va7x5) rfl (by kernel_rfl) (by kernel_rfl) (by kernel_rfl) (fun _ _ _ h => h) (Or.inl ⟨by rfl, ?hy7x5⟩) (by assumption) ?rest7x5
          case hy7x5 => (intro w hSw; (try dsimp only at hSw); go_simp; try with_reducible rfl)
          (try simp only [Act.put, List.getElem_toArray, List.getElem_cons_zero, List.getElem_cons_succ, List.setIfInBounds_toArray, List.set_cons_zero, List.set_cons_succ])
          refine wpAnyH_ready (rs := [8]) (by kernel_rfl) (by simp) ?_
          refine AllReadyH.cons rfl (fun K hK => ?_) AllReadyH.nil
          clear hHeld
          obtain ⟨x4, hx4⟩ : ∃ x, x = x3.alloc (.cells (w3 nilV 0 nilV) 28) := ⟨_, rfl⟩
          have hb4 : Below x3.heap.size x3 x4 := by rw [hx4]; exact below1 x3 (.cells (w3 nilV 0 nilV) 28)
          have kb4 := bst kb3 hb4 kb3.size
          have IA4 := OwnW.below IA3 hb4
          have OG4 := OwnW.below OG3 hb4
          have RV4 : Row x4 x3.heap.size 28 (w3 nilV 0 nilV) := by rw [hx4]; exact Row.new x3 _ _
          have gz4 : ys.heap.size ≤ x3.heap.size := kb3.size
          have gl4 : x3.heap.size < x4.heap.size := Row.lt RV4
          have gs4 : x3.heap.size ≤ x3.heap.size := hq3
          have hq4 : x3.heap.size ≤ x4.heap.size := Nat.le_trans hq3 hb4.size
          go_simp
          rw [← hx4]
          refine hK.out _ _ (KS.out _ kb4) (fun hHeld => ?_)
          clear hK K hb4 hx4
          (try simp only [Act.put, List.getElem_toArray, List.getElem_cons_zero, List.getElem_cons_succ, List.setIfInBounds_toArray, List.set_cons_zero, List.set_cons_succ])
          clear hHeld
          have kz := below_setRow kb4 (show ys.heap.size ≤ x3.heap.size from gz4) (w3 (.slice pa gr qa) G.n (.slice pc gd qc))
          have szz : (x4.setRow (x3.heap.size) (w3 (.slice pa gr qa) G.n (.slice pc gd qc))).heap.size = x4.heap.size := size_setRow _ _ _
          refine wpAnyH_ready (rs := [9]) (by kernel_rfl) (by simp) ?_
          refine AllReadyH.cons rfl (fun K hK => ?_) AllReadyH.nil
          rw [if_pos (by rfl)]
          refine wp_store_row 28 _ _ rfl (x3.heap.size) (w3 (.slice pa gr qa) G.n (.slice pc gd qc)) rfl rfl 28 (w3 nilV 0 nilV) RV4 info_work rfl (allW OG4) ?_
          refine hK.out _ _ (KS.out _ kz) (fun hHeld => ?_)
          clear hK K
          (try simp only [Act.put, List.getElem_toArray, List.getElem_cons_zero, List.getElem_cons_succ])
          refine wpAnyH_take (i := 10) (v := ?va10x6) rfl (by kernel_rfl) (by kernel_rfl) (by kernel_rfl) (fun _ _ _ h => h) (Or.inl ⟨by rfl, ?hy10x6⟩) (by assumption) ?rest10x6
          case hy10x6 => (intro w hSw; (try dsimp only at hSw); go_simp; try with_reducible rfl)
          (try simp only [Act.put, List.getElem_toArray, List.getElem_cons_zero, List.getElem_cons_succ, List.setIfInBounds_toArray, List.set_cons_zero, List.set_cons_succ])
          refine wpAnyH_done (by kernel_rfl) ?_ _
          clear hHeld
          go_wp2_with fail
          go_meet
          case rel => exact ⟨x3.heap.size, x2.heap.size, x3.heap.size, pa, qa, pc, qc, rfl, rfl, Row.below Rx.out kz, Row.below Rs.out kz, Row.put RV4 _, OwnW.wholeRow OG4 RV4 (w3 (.slice pa gr qa) G.n (.slice pc gd qc)), bst L.out kz L.out.size, lz, (by unfold Hid; rw [szz]; exact hq4), gz4, (by unfold Hid; rw [szz]; exact Row.lt RV4), (.inr gs4), (by unfold Hid; rw [szz]; exact kb4.size), lh⟩
        · clear hHeld
          obtain ⟨x5, hx5⟩ : ∃ x, x = x2.alloc (.cells (w3 nilV 0 nilV) 28) := ⟨_, rfl⟩
          have hb5 : Below x2.heap.size x2 x5 := by rw [hx5]; exact below1 x2 (.cells (w3 nilV 0 nilV) 28)
          have kb5 := bst kb2 hb5 kb2.size
          have IA5 := OwnW.below IA2 hb5
          have RV5 : Row x5 x2.heap.size 28 (w3 nilV 0 nilV) := by rw [hx5]; exact Row.new x2 _ _
          have gz5 : ys.heap.size ≤ x2.heap.size := kb2.size
          have gl5 : x2.heap.size < x5.heap.size := Row.lt RV5
          go_simp
          rw [← hx5]
          refine hK.out _ _ (KS.out _ kb5) (fun hHeld => ?_)
          clear hK K hb5 hx5
          (try simp only [Act.put, List.getElem_toArray, List.getElem_cons_zero, List.getElem_cons_succ, List.setIfInBounds_toArray, List.set_cons_zero, List.set_cons_succ])
          refine wpAnyH_ready (rs := [4]) (by kernel_rfl) (by simp) ?_
          refine AllReadyH.cons rfl (fun K hK => ?_) AllReadyH.nil
          clear hHeld
          go_simp
          refine (HS.out _ a1 c1 (IA5.reads)).mono ?_
          rintro e x6 ⟨a2, c2, rfl, ho6, hb6⟩
          have kb6 := bst kb5 hb6 kb5.size
          have RV6 : Row x6 (x2.heap.size) 28 (w3 nilV 0 nilV) := Row.below RV5 hb6
          have IA6 := OwnW.below IA5 hb6
          have hsh := ho6.shapes
          simp only [HNgr.out, HNgd.out] at hsh
          obtain ⟨⟨pa, qa, rfl⟩, ⟨pc, qc, rfl⟩⟩ := hsh
          have OG6 := ho6
          have hq6 : x6.heap.size ≤ x6.heap.size := Nat.le_refl _
          have lz : ys.heap.size ≤ x5.heap.size := kb5.size
          have lh : x5.heap.size ≤ x6.heap.size := hb6.size
          have GL : x2.heap.size < x5.heap.size := Row.lt RV5
          refine hK.out _ _ (KS.out _ kb6) (fun hHeld => ?_)
          clear hK K
          (try simp only [Act.put, List.getElem_toArray, List.getElem_cons_zero, List.getElem_cons_succ, List.setIfInBounds_toArray, List.set_cons_zero, List.set_cons_succ])
          refine wpAnyH_take (i := 5) (v := ?va5x7) rfl (by kernel_rfl) (by kernel_rfl) (by kernel_rfl) (fun _ _ _ h => h) (Or.inl ⟨by rfl, ?hy5x7⟩) (by assumption) ?rest5x7
          case hy5x7 => (intro w hSw; (try dsimp only at hSw); go_simp; try with_reducible rfl)
          (try simp only [Act.put, List.getElem_toArray, List.getElem_cons_zero, List.getElem_cons_succ, List.setIfInBounds_toArray, List.set_cons_zero, List.set_cons_succ])
          refine wpAnyH_take (i := 6) (v := ?va6x8) rfl (by kernel_rfl) (by kernel_rfl) (by kernel_rfl) (fun _ _ _ h => h) (Or.inl ⟨by rfl, ?hy6x8⟩) (by assumption) ?rest6x8
          case hy6x8 => (intro w hSw; (try dsimp only at hSw); go_simp; try with_reducible rfl)
          (try simp only [Act.put, List.getElem_toArray, List.getElem_cons_zero, List.getElem_cons_succ, List.setIfInBounds_toArray, List.set_cons_zero, List.set_cons_succ])
          refine wpAnyH_take (i := 7) (v := ?va7x9) rfl (by kernel_rfl) (by kernel_rfl) (by kernel_rfl) (fun _ _ _ h => h) (Or.inl ⟨by rfl, ?hy7x9⟩) (by assumption) ?rest7x9
          case hy7x9 => (intro w hSw; (try dsimp only at hSw); go_simp; try with_reducible rfl)
          (try simp only [Act.put, List.getElem_toArray, List.getElem_cons_zero, List.getElem_cons_succ, List.setIfInBounds_toArray, List.set_cons_zero, List.set_cons_succ])
          clear hHeld
          have kz := below_setRow kb6 (show ys.heap.size ≤ x2.heap.size from gz5) (w3 (.slice pa gr qa) G.n (.slice pc gd qc))
          have szz : (x6.setRow (x2.heap.size) (w3 (.slice pa gr qa) G.n (.slice pc gd qc))).heap.size = x6.heap.size := size_setRow _ _ _
          refine wpAnyH_ready (rs := [9]) (by kernel_rfl) (by simp) ?_
          refine AllReadyH.cons rfl (fun K hK => ?_) AllReadyH.nil
          rw [if_pos (by rfl)]
          refine wp_store_row 28 _ _ rfl (x2.heap.size) (w3 (.slice pa gr qa) G.n (.slice pc gd qc)) rfl rfl 28 (w3 nilV 0 nilV) RV6 info_work rfl (allW OG6) ?_
          refine hK.out _ _ (KS.out _ kz) (fun hHeld => ?_)
          clear hK K
          (try simp only [Act.put, List.getElem_toArray, List.getElem_cons_zero, List.getElem_cons_succ])
          refine wpAnyH_take (i := 10) (v := ?va10x10) rfl (by kernel_rfl) (by kernel_rfl) (by kernel_rfl) (fun _ _ _ h => h) (Or.inl ⟨by rfl, ?hy10x10⟩) (by assumption) ?rest10x10
          case hy10x10 => (intro w hSw; (try dsimp only at hSw); go_simp; try with_reducible rfl)
          (try simp only [Act.put, List.getElem_toArray, List.getElem_cons_zero, List.getElem_cons_succ, List.setIfInBounds_toArray, List.set_cons_zero, List.set_cons_succ])
          refine wpAnyH_done (by kernel_rfl) ?_ _
          clear hHeld
          go_wp2_with fail
          go_meet
          case rel => exact ⟨x2.heap.size, x5.heap.size, x6.heap.size, pa, qa, pc, qc, rfl, rfl, Row.below Rx.out kz, Row.below Rs.out kz, Row.put RV6 _, OwnW.wholeRow OG6 RV6 (w3 (.slice pa gr qa) G.n (.slice pc gd qc)), bst L.out kz L.out.size, lz, (by unfold Hid; rw [szz]; exact hq6), gz5, (by unfold Hid; rw [szz]; exact Row.lt RV6), (.inl GL), (by unfold Hid; rw [szz]; exact kb6.size), lh⟩
      · clear hHeld
        obtain ⟨x7, hx7⟩ : ∃ x, x = x1.alloc (.cells (w3 nilV 0 nilV) 28) := ⟨_, rfl⟩
        have hb7 : Below x1.heap.size x1 x7 := by rw [hx7]; exact below1 x1 (.cells (w3 nilV 0 nilV) 28)
        have kb7 := bst kb1 hb7 kb1.size
        have IA7 := OwnW.below IA1 hb7
        have RV7 : Row x7 x1.heap.size 28 (w3 nilV 0 nilV) := by rw [hx7]; exact Row.new x1 _ _
        have gz7 : ys.heap.size ≤ x1.heap.size := kb1.size
        have gl7 : x1.heap.size < x7.heap.size := Row.lt RV7
        go_simp
        rw [← hx7]
        refine hK.out _ _ (KS.out _ kb7) (fun hHeld => ?_)
        clear hK K hb7 hx7
        (try simp only [Act.put, List.getElem_toArray, List.getElem_cons_zero, List.getElem_cons_succ, List.setIfInBounds_toArray, List.set_cons_zero, List.set_cons_succ])
        refine wpAnyH_ready (rs := [3]) (by kernel_rfl) (by simp) ?_
        refine AllReadyH.cons rfl (fun K hK => ?_) AllReadyH.nil
        clear hHeld
        go_simp
        refine (c_toWorkStep sk sx sy _).mono ?_
        rintro e x8 ⟨rfl, hb8⟩
        have kb8 := bst kb7 hb8 kb7.size
        have RV8 : Row x8 (x1.heap.size) 28 (w3 nilV 0 nilV) := Row.below RV7 hb8
        have IA8 := OwnW.below IA7 hb8
        refine hK.out _ _ (KS.out _ kb8) (fun hHeld => ?_)
        clear hK K
        (try simp only [Act.put, List.getElem_toArray, List.getElem_cons_zero, List.getElem_cons_succ, List.setIfInBounds_toArray, List.set_cons_zero, List.set_cons_succ])
        refine wpAnyH_ready (rs := [4]) (by kernel_rfl) (by simp) ?_
        refine AllReadyH.cons rfl (fun K hK => ?_) AllReadyH.nil
        clear hHeld
        go_simp
        refine (HS.out _ a1 c1 (IA8.reads)).mono ?_
        rintro e x9 ⟨a2, c2, rfl, ho9, hb9⟩
        have kb9 := bst kb8 hb9 kb8.size
        have RV9 : Row x9 (x1.heap.size) 28 (w3 nilV 0 nilV) := Row.below RV8 hb9
        have IA9 := OwnW.below IA8 hb9
        have hsh := ho9.shapes
        simp only [HNgr.out, HNgd.out] at hsh
        obtain ⟨⟨pa, qa, rfl⟩, ⟨pc, qc, rfl⟩⟩ := hsh
        have OG9 := ho9
        have hq9 : x9.heap.size ≤ x9.heap.size := Nat.le_refl _
        have lz : ys.heap.size ≤ x8.heap.size := kb8.size
        have lh : x8.heap.size ≤ x9.heap.size := hb9.size
        have GL : x1.heap.size < x8.heap.size := Row.lt RV8
        refine hK.out _ _ (KS.out _ kb9) (fun hHeld => ?_)
        clear hK K
        (try simp only [Act.put, List.getElem_toArray, List.getElem_cons_zero, List.getElem_cons_succ, List.setIfInBounds_toArray, List.set_cons_zero, List.set_cons_succ])
        refine wpAnyH_take (i := 5) (v := ?va5x11) rfl (by kernel_rfl) (by kernel_rfl) (by kernel_rfl) (fun _ _ _ h => h) (Or.inl ⟨by rfl, ?hy5x11⟩) (by assumption) ?rest5x11
        case hy5x11 => (intro w hSw; (try dsimp only at hSw); go_simp; try with_reducible rfl)
        (try simp only [Act.put, List.getElem_toArray, List.getElem_cons_zero, List.getElem_cons_succ, List.setIfInBounds_toArray, List.set_cons_zero, List.set_cons_succ])
        refine wpAnyH_take (i := 6) (v := ?va6x12) rfl (by kernel_rfl) (by kernel_rfl) (by kernel_rfl) (fun _ _ _ h => h) (Or.inl ⟨by rfl, ?hy6x12⟩) (by assumption) ?rest6x12
        case hy6x12 => (intro w hSw; (try dsimp only at hSw); go_simp; try with_reducible rfl)
        (try simp only [Act.put, List.getElem_toArray, List.getElem_cons_zero, List.getElem_cons_succ, List.setIfInBounds_toArray, List.set_cons_zero, List.set_cons_succ])
        refine wpAnyH_take (i := 7) (v := ?va7x13) rfl (by kernel_rfl) (by kernel_rfl) (by kernel_rfl) (fun _ _ _ h => h) (Or.inl ⟨by rfl, ?hy7x13⟩) (by assumption) ?rest7x13
        case hy7x13 => (intro w hSw; (try dsimp only at hSw); go_simp; try with_reducible rfl)
        (try simp only [Act.put, List.getElem_toArray, List.getElem_cons_zero, List.getElem_cons_succ, List.setIfInBounds_toArray, List.set_cons_zero, List.set_cons_succ])
        clear hHeld
        have kz := below_setRow kb9 (show ys.heap.size ≤ x1.heap.size from gz7) (w3 (.slice pa gr qa) G.n (.slice pc gd qc))
        have szz : (x9.setRow (x1.heap.size) (w3 (.slice pa gr qa) G.n (.slice pc gd qc))).heap.size = x9.heap.size := size_setRow _ _ _
        refine wpAnyH_ready (rs := [9]) (by kernel_rfl) (by simp) ?_
        refine AllReadyH.cons rfl (fun K hK => ?_) AllReadyH.nil
        rw [if_pos (by rfl)]
        refine wp_store_row 28 _ _ rfl (x1.heap.size) (w3 (.slice pa gr qa) G.n (.slice pc gd qc)) rfl rfl 28 (w3 nilV 0 nilV) RV9 info_work rfl (allW OG9) ?_
        refine hK.out _ _ (KS.out _ kz) (fun hHeld => ?_)
        clear hK K
        (try simp only [Act.put, List.getElem_toArray, List.getElem_cons_zero, List.getElem_cons_succ])
        refine wpAnyH_take (i := 10) (v := ?va10x14) rfl (by kernel_rfl) (by kernel_rfl) (by kernel_rfl) (fun _ _ _ h => h) (Or.inl ⟨by rfl, ?hy10x14⟩) (by assumption) ?rest10x14
        case hy10x14 => (intro w hSw; (try dsimp only at hSw); go_simp; try with_reducible rfl)
        (try simp only [Act.put, List.getElem_toArray, List.getElem_cons_zero, List.getElem_cons_succ, List.setIfInBounds_toArray, List.set_cons_zero, List.set_cons_succ])
        refine wpAnyH_done (by kernel_rfl) ?_ _
        clear hHeld
        go_wp2_with fail
        go_meet
        case rel => exact ⟨x1.heap.size, x8.heap.size, x9.heap.size, pa, qa, pc, qc, rfl, rfl, Row.below Rx.out kz, Row.below Rs.out kz, Row.put RV9 _, OwnW.wholeRow OG9 RV9 (w3 (.slice pa gr qa) G.n (.slice pc gd qc)), bst L.out kz L.out.size, lz, (by unfold Hid; rw [szz]; exact hq9), gz7, (by unfold Hid; rw [szz]; exact Row.lt RV9), (.inl GL), (by unfold Hid; rw [szz]; exact kb9.size), lh⟩
    · clear hHeld
      obtain ⟨x10, hx10⟩ : ∃ x, x = x0.alloc (.cells (w3 nilV 0 nilV) 28) := ⟨_, rfl⟩
      have hb10 : Below x0.heap.size x0 x10 := by rw [hx10]; exact below1 x0 (.cells (w3 nilV 0 nilV) 28)
      have kb10 := bst kb0 hb10 kb0.size
      have RV10 : Row x10 x0.heap.size 28 (w3 nilV 0 nilV) := by rw [hx10]; exact Row.new x0 _ _
      have gz10 : ys.heap.size ≤ x0.heap.size := kb0.size
      have gl10 : x0.heap.size < x10.heap.size := Row.lt RV10
      go_simp
      rw [← hx10]
      refine hK.out _ _ (KS.out _ kb10) (fun hHeld => ?_)
      clear hK K hb10 hx10
      (try simp only [Act.put, List.getElem_toArray, List.getElem_cons_zero, List.getElem_cons_succ, List.setIfInBounds_toArray, List.set_cons_zero, List.set_cons_succ])
      refine wpAnyH_ready (rs := [1]) (by kernel_rfl) (by simp) ?_
      refine AllReadyH.cons rfl (fun K hK => ?_) AllReadyH.nil
      clear hHeld
      go_simp
      refine (c_toWork (.slice paA nr qaA) (.slice pcA nd qcA) W _ (IZ.out.below kb10) HM.out).mono ?_
      rintro e x11 ⟨a1, c1, rfl, ho11, hb11⟩
      have kb11 := bst kb10 hb11 kb10.size
      have RV11 : Row x11 (x0.heap.size) 28 (w3 nilV 0 nilV) := Row.below RV10 hb11
      have IA11 := ho11
      refine hK.out _ _ (KS.out _ kb11) (fun hHeld => ?_)
      clear hK K
      (try simp only [Act.put, List.getElem_toArray, List.getElem_cons_zero, List.getElem_cons_succ, List.setIfInBounds_toArray, List.set_cons_zero, List.set_cons_succ])
      refine wpAnyH_ready (rs := [3]) (by kernel_rfl) (by simp) ?_
      refine AllReadyH.cons rfl (fun K hK => ?_) AllReadyH.nil
      clear hHeld
      go_simp
      refine (c_toWorkStep sk sx sy _).mono ?_
      rintro e x12 ⟨rfl, hb12⟩
      have kb12 := bst kb11 hb12 kb11.size
      have RV12 : Row x12 (x0.heap.size) 28 (w3 nilV 0 nilV) := Row.below RV11 hb12
      have IA12 := OwnW.below IA11 hb12
      refine hK.out _ _ (KS.out _ kb12) (fun hHeld => ?_)
      clear hK K
      (try simp only [Act.put, List.getElem_toArray, List.getElem_cons_zero, List.getElem_cons_succ, List.setIfInBounds_toArray, List.set_cons_zero, List.set_cons_succ])
      refine wpAnyH_ready (rs := [4]) (by kernel_rfl) (by simp) ?_
      refine AllReadyH.cons rfl (fun K hK => ?_) AllReadyH.nil
      clear hHeld
      go_simp
      refine (HS.out _ a1 c1 (IA12.reads)).mono ?_
      rintro e x13 ⟨a2, c2, rfl, ho13, hb13⟩
      have kb13 := bst kb12 hb13 kb12.size
      have RV13 : Row x13 (x0.heap.size) 28 (w3 nilV 0 nilV) := Row.below RV12 hb13
      have IA13 := OwnW.below IA12 hb13
      have hsh := ho13.shapes
      simp only [HNgr.out, HNgd.out] at hsh
      obtain ⟨⟨pa, qa, rfl⟩, ⟨pc, qc, rfl⟩⟩ := hsh
      have OG13 := ho13
      have hq13 : x13.heap.size ≤ x13.heap.size := Nat.le_refl _
      have lz : ys.heap.size ≤ x12.heap.size := kb12.size
      have lh : x12.heap.size ≤ x13.heap.size := hb13.size
      have GL : x0.heap.size < x12.heap.size := Row.lt RV12
      refine hK.out _ _ (KS.out _ kb13) (fun hHeld => ?_)
      clear hK K
      (try simp only [Act.put, List.getElem_toArray, List.getElem_cons_zero, List.getElem_cons_succ, List.setIfInBounds_toArray, List.set_cons_zero, List.set_cons_succ])
      refine wpAnyH_take (i := 5) (v := ?va5x15) rfl (by kernel_rfl) (by kernel_rfl) (by kernel_rfl) (fun _ _ _ h => h) (Or.inl ⟨by rfl, ?hy5x15⟩) (by assumption) ?rest5x15
      case hy5x15 => (intro w hSw; (try dsimp only at hSw); go_simp; try with_reducible rfl)
      (try simp only [Act.put, List.getElem_toArray, List.getElem_cons_zero, List.getElem_cons_succ, List.setIfInBounds_toArray, List.set_cons_zero, List.set_cons_succ])
      refine wpAnyH_take (i := 6) (v := ?va6x16) rfl (by kernel_rfl) (by kernel_rfl) (by kernel_rfl) (fun _ _ _ h => h) (Or.inl ⟨by rfl, ?hy6x16⟩) (by assumption) ?rest6x16
      case hy6x16 => (intro w hSw; (try dsimp only at hSw); go_simp; try with_reducible rfl)
      (try simp only [Act.put, List.getElem_toArray, List.getElem_cons_zero, List.getElem_cons_succ, List.setIfInBounds_toArray, List.set_cons_zero, List.set_cons_succ])
      refine wpAnyH_take (i := 7) (v := ?va7x17) rfl (by kernel_rfl) (by kernel_rfl) (by kernel_rfl) (fun _ _ _ h => h) (Or.inl ⟨by rfl, ?hy7x17⟩) (by assumption) ?rest7x17
      case hy7x17 => (intro w hSw; (try dsimp only at hSw); go_simp; try with_reducible rfl)
      (try simp only [Act.put, List.getElem_toArray, List.getElem_cons_zero, List.getElem_cons_succ, List.setIfInBounds_toArray, List.set_cons_zero, List.set_cons_succ])
      clear hHeld
      have kz := below_setRow kb13 (show ys.heap.size ≤ x0.heap.size from gz10) (w3 (.slice pa gr qa) G.n (.slice pc gd qc))
      have szz : (x13.setRow (x0.heap.size) (w3 (.slice pa gr qa) G.n (.slice pc gd qc))).heap.size = x13.heap.size := size_setRow _ _ _
      refine wpAnyH_ready (rs := [9]) (by kernel_rfl) (by simp) ?_
      refine AllReadyH.cons rfl (fun K hK => ?_) AllReadyH.nil
      rw [if_pos (by rfl)]
      refine wp_store_row 28 _ _ rfl (x0.heap.size) (w3 (.slice pa gr qa) G.n (.slice pc gd qc)) rfl rfl 28 (w3 nilV 0 nilV) RV13 info_work rfl (allW OG13) ?_
      refine hK.out _ _ (KS.out _ kz) (fun hHeld => ?_)
      clear hK K
      (try simp only [Act.put, List.getElem_toArray, List.getElem_cons_zero, List.getElem_cons_succ])
      refine wpAnyH_take (i := 10) (v := ?va10x18) rfl (by kernel_rfl) (by kernel_rfl) (by kernel_rfl) (fun _ _ _ h => h) (Or.inl ⟨by rfl, ?hy10x18⟩) (by assumption) ?rest10x18
      case hy10x18 => (intro w hSw; (try dsimp only at hSw); go_simp; try with_reducible rfl)
      (try simp only [Act.put, List.getElem_toArray, List.getElem_cons_zero, List.getElem_cons_succ, List.setIfInBounds_toArray, List.set_cons_zero, List.set_cons_succ])
      refine wpAnyH_done (by kernel_rfl) ?_ _
      clear hHeld
      go_wp2_with fail
      go_meet
      case rel => exact ⟨x0.heap.size, x12.heap.size, x13.heap.size, pa, qa, pc, qc, rfl, rfl, Row.below Rx.out kz, Row.below Rs.out kz, Row.put RV13 _, OwnW.wholeRow OG13 RV13 (w3 (.slice pa gr qa) G.n (.slice pc gd qc)), bst L.out kz L.out.size, lz, (by unfold Hid; rw [szz]; exact hq13), gz10, (by unfold Hid; rw [szz]; exact Row.lt RV13), (.inl GL), (by unfold Hid; rw [szz]; exact kb13.size), lh⟩
  case rest =>
    clear KS IZ L Rx Rs 
    obtain ⟨gBW, loW, hiW, paW, qaW, pcW, qcW, rfl, rfl, Rx, Rs, RW, OW, L, S3, S4, S5, S6, S7, S8, S9⟩ := hcut
    obtain ⟨wy1, hwy⟩ : ∃ y, y = wc := ⟨_, rfl⟩
    subst hwy
    have c0x := Row.cell Rx.out 0
    have c1x := Row.cell Rx.out 1
    have c2x := Row.cell Rx.out 2
    have ltx := Row.lt Rx.out
    have c0s := Row.cell Rs.out 0
    have c1s := Row.cell Rs.out 1
    have c2s := Row.cell Rs.out 2
    have lts := Row.lt Rs.out
    have c0W := Row.cell RW.out 0
    have c1W := Row.cell RW.out 1
    have c2W := Row.cell RW.out 2
    have ltW := Row.lt RW.out
    go_wp2_with fail
    clear c0x c1x c2x ltx c0s c1s c2s lts c0W c1W c2W ltW
    refine (c_toWork (.slice paA nr qaA) (.slice pcA nd qcA) W _ (HZ.out.below L.out) HM.out).mono ?_
    rintro e yX ⟨a1, c1, rfl, ho, hb⟩
    have hsh := ho.shapes
    simp only [HNnr.out, HNnd.out] at hsh
    obtain ⟨⟨paX, qaX, rfl⟩, ⟨pcX, qcX, rfl⟩⟩ := hsh
    have OX : Hid (OwnW yX wy1.heap.size yX.heap.size (.slice paX nr qaX) (.slice pcX nd qcX) W) := ho
    clear ho
    replace Rx := Lib.hid (Row.below Rx.out hb)
    replace Rs := Lib.hid (Row.below Rs.out hb)
    replace RW := Lib.hid (Row.below RW.out hb)
    replace OW := Lib.hid (OwnW.below OW.out hb)
    have S10 : Hid (wy1.heap.size ≤ yX.heap.size) := hb.size
    replace L := Lib.hid (bst L.out hb L.out.size)
    clear hb
    have c0x := Row.cell Rx.out 0
    have c1x := Row.cell Rx.out 1
    have c2x := Row.cell Rx.out 2
    have ltx := Row.lt Rx.out
    have c0s := Row.cell Rs.out 0
    have c1s := Row.cell Rs.out 1
    have c2s := Row.cell Rs.out 2
    have lts := Row.lt Rs.out
    have c0W := Row.cell RW.out 0
    have c1W := Row.cell RW.out 1
    have c2W := Row.cell RW.out 2
    have ltW := Row.lt RW.out
    go_wp2_with fail
    clear c0x c1x c2x ltx c0s c1s c2s lts c0W c1W c2W ltW
    have hb := below1 yX (.cells (w3 (.slice paX nr qaX) W.n (.slice pcX nd qcX)) 28)
    have RN : Hid (Row (yX.alloc (.cells (w3 (.slice paX nr qaX) W.n (.slice pcX nd qcX)) 28)) yX.heap.size 28 (w3 (.slice paX nr qaX) W.n (.slice pcX nd qcX))) := Row.new yX _ _
    have S11 : Hid (yX.heap.size < (yX.alloc (.cells (w3 (.slice paX nr qaX) W.n (.slice pcX nd qcX)) 28)).heap.size) := (by unfold Hid; simp)
    replace Rx := Lib.hid (Row.below Rx.out hb)
    replace Rs := Lib.hid (Row.below Rs.out hb)
    replace RW := Lib.hid (Row.below RW.out hb)
    replace OW := Lib.hid (OwnW.below OW.out hb)
    replace OX := Lib.hid (OwnW.below OX.out hb)
    have S12 : Hid (yX.heap.size ≤ (yX.alloc (.cells (w3 (.slice paX nr qaX) W.n (.slice pcX nd qcX)) 28)).heap.size) := hb.size
    replace L := Lib.hid (bst L.out hb L.out.size)
    clear hb
    have RX := RN
    clear RN
    have c0x := Row.cell Rx.out 0
    have c1x := Row.cell Rx.out 1
    have c2x := Row.cell Rx.out 2
    have ltx := Row.lt Rx.out
    have c0s := Row.cell Rs.out 0
    have c1s := Row.cell Rs.out 1
    have c2s := Row.cell Rs.out 2
    have lts := Row.lt Rs.out
    have c0W := Row.cell RW.out 0
    have c1W := Row.cell RW.out 1
    have c2W := Row.cell RW.out 2
    have ltW := Row.lt RW.out
    have c0X := Row.cell RX.out 0
    have c1X := Row.cell RX.out 1
    have c2X := Row.cell RX.out 2
    have ltX := Row.lt RX.out
    go_wp2_with fail
    clear c0x c1x c2x ltx c0s c1s c2s lts c0W c1W c2W ltW c0X c1X c2X ltX
    have KS : Hid (∀ Y, Below (yX.alloc (.cells (w3 (.slice paX nr qaX) W.n (.slice pcX nd qcX)) 28)).heap.size (yX.alloc (.cells (w3 (.slice paX nr qaX) W.n (.slice pcX nd qcX)) 28)) Y → Y.cell? ⟨yX.heap.size, 0, none⟩ = some (.slice paX nr qaX) ∧ Y.cell? ⟨yX.heap.size, 1, none⟩ = some (.int .i64 W.n) ∧ Y.cell? ⟨yX.heap.size, 2, none⟩ = some (.slice pcX nd qcX) ∧ Y.cell? ⟨w.heap.size + 1, 0, none⟩ = some (.int .i64 sk) ∧ Y.cell? ⟨w.heap.size + 1, 1, none⟩ = some (.int .i64 sx) ∧ Y.cell? ⟨w.heap.size + 1, 2, none⟩ = some (.int .i64 sy)) := fun Y hY => ⟨Row.cell (Row.below RX.out hY) 0, Row.cell (Row.below RX.out hY) 1, Row.cell (Row.below RX.out hY) 2, Row.cell (Row.below Rs.out hY) 0, Row.cell (Row.below Rs.out hY) 1, Row.cell (Row.below Rs.out hY) 2⟩
    have IZ := Lib.hid (HZ.out.below L.out)
    go_cut [9, 10] from 16 (fun s1 s2 wz => ∃ (gB lo hi : Nat) (pa : Option Addr) (qa : Nat) (pc : Option Addr) (qc : Nat), s1 = .pointer (some ⟨gB, 0, none⟩) ∧ s2 = .bool ok ∧ Hid (Row wz (w.heap.size) 54 (w3 (.slice paA nr qaA) W.n (.slice pcA nd qcA))) ∧ Hid (Row wz (w.heap.size + 1) 58 (s3c sk sx sy)) ∧ Hid (Row wz (gBW) 28 (w3 (.slice paW gr qaW) G.n (.slice pcW gd qcW))) ∧ Hid (Row wz (yX.heap.size) 28 (w3 (.slice paX nr qaX) W.n (.slice pcX nd qcX))) ∧ Hid (Row wz gB 28 (w3 (.slice pa gr qa) G.n (.slice pc gd qc))) ∧ Hid (OwnW wz (loW) (hiW) (.slice paW gr qaW) (.slice pcW gd qcW) G) ∧ Hid (OwnW wz (wy1.heap.size) (yX.heap.size) (.slice paX nr qaX) (.slice pcX nd qcX) W) ∧ Hid (OwnW wz lo hi (.slice pa gr qa) (.slice pc gd qc) G) ∧ Hid (Below w.heap.size w wz) ∧ Hid ((yX.alloc (.cells (w3 (.slice paX nr qaX) W.n (.slice pcX nd qcX)) 28)).heap.size ≤ lo) ∧ Hid (hi ≤ wz.heap.size) ∧ Hid ((yX.alloc (.cells (w3 (.slice paX nr qaX) W.n (.slice pcX nd qcX)) 28)).heap.size ≤ gB) ∧ Hid (gB < wz.heap.size) ∧ Hid (gB < lo ∨ hi ≤ gB) ∧ Hid ((yX.alloc (.cells (w3 (.slice paX nr qaX) W.n (.slice pcX nd qcX)) 28)).heap.size ≤ wz.heap.size) ∧ Hid (lo ≤ hi))
    case first =>
      have kb0 := below_drew (Below.refl (yX.alloc (.cells (w3 (.slice paX nr qaX) W.n (.slice pcX nd qcX)) 28)).heap.size (yX.alloc (.cells (w3 (.slice paX nr qaX) W.n (.slice pcX nd qcX)) 28)))
      refine wp_region_held_drew (S := (fun w' => w'.cell? ⟨yX.heap.size, 0, none⟩ = some (.slice paX nr qaX) ∧ w'.cell? ⟨yX.heap.size, 1, none⟩ = some (.int .i64 W.n) ∧ w'.cell? ⟨yX.heap.size, 2, none⟩ = some (.slice pcX nd qcX) ∧ w'.cell? ⟨w.heap.size + 1, 0, none⟩ = some (.int .i64 sk) ∧ w'.cell? ⟨w.heap.size + 1, 1, none⟩ = some (.int .i64 sx) ∧ w'.cell? ⟨w.heap.size + 1, 2, none⟩ = some (.int .i64 sy))) (by kernel_rfl) (KS.out _ kb0) (fun hHeld => ?_)
      have x0z : (yX.alloc (.cells (w3 (.slice paX nr qaX) W.n (.slice pcX nd qcX)) 28)).heap.size ≤ (yX.alloc (.cells (w3 (.slice paX nr qaX) W.n (.slice pcX nd qcX)) 28)).drew.heap.size := kb0.size
      obtain ⟨x0, hx0⟩ : ∃ x, x = (yX.alloc (.cells (w3 (.slice paX nr qaX) W.n (.slice pcX nd qcX)) 28)).drew := ⟨_, rfl⟩
      rw [← hx0] at kb0 x0z hHeld
      rw [← hx0]
      clear hx0
      refine wpAnyH_take (i := 0) (v := ?va0x19) rfl (by kernel_rfl) (by kernel_rfl) (by kernel_rfl) (fun _ _ _ h => h) (Or.inl ⟨by rfl, ?hy0x19⟩) (by assumption) ?rest0x19
      case hy0x19 => (intro w hSw; (try dsimp only at hSw); go_simp; try with_reducible rfl)
      (try simp only [Act.put, List.getElem_toArray, List.getElem_cons_zero, List.setIfInBounds_toArray, List.set_cons_zero, List.set_cons_succ])
      refine wpAnyH_take (i := 1) (v := ?va1x20) rfl (by kernel_rfl) (by kernel_rfl) (by kernel_rfl) (fun _ _ _ h => h) (Or.inl ⟨by rfl, ?hy1x20⟩) (by assumption) ?rest1x20
      case hy1x20 => (intro w hSw; (try dsimp only at hSw); go_simp; try with_reducible rfl)
      (try simp only [Act.put, List.getElem_toArray, List.getElem_cons_zero, List.getElem_cons_succ, List.setIfInBounds_toArray, List.set_cons_zero, List.set_cons_succ])
      refine wpAnyH_ready (rs := [2, 7]) (by kernel_rfl) (by simp) ?_
      refine AllReadyH.cons rfl (fun K hK => ?_) (AllReadyH.cons rfl (fun K hK => ?_) AllReadyH.nil)
      · clear hHeld
        go_simp
        refine (c_toWorkStep sk sx sy _).mono ?_
        rintro e x1 ⟨rfl, hb1⟩
        have kb1 := bst kb0 hb1 kb0.size
        refine hK.out _ _ (KS.out _ kb1) (fun hHeld => ?_)
        clear hK K
        (try simp only [Act.put, List.getElem_toArray, List.getElem_cons_zero, List.getElem_cons_succ, List.setIfInBounds_toArray, List.set_cons_zero, List.set_cons_succ])
        refine wpAnyH_ready (rs := [3, 7]) (by kernel_rfl) (by simp) ?_
        refine AllReadyH.cons rfl (fun K hK => ?_) (AllReadyH.cons rfl (fun K hK => ?_) AllReadyH.nil)
        · clear hHeld
          go_simp
          refine (HI.out _ (.slice paX nr qaX) (.slice pcX nd qcX) (OwnW.readsC (OwnW.below OX.out kb1))).mono ?_
          rintro e x2 ⟨a2, c2, rfl, ho2, hb2⟩
          have kb2 := bst kb1 hb2 kb1.size
          have hsh := ho2.shapes
          simp only [HNgr.out, HNgd.out] at hsh
          obtain ⟨⟨pa, qa, rfl⟩, ⟨pc, qc, rfl⟩⟩ := hsh
          have OG2 := ho2
          have hq2 : x2.heap.size ≤ x2.heap.size := Nat.le_refl _
          have lz : (yX.alloc (.cells (w3 (.slice paX nr qaX) W.n (.slice pcX nd qcX)) 28)).heap.size ≤ x1.heap.size := kb1.size
          have lh : x1.heap.size ≤ x2.heap.size := hb2.size
          refine hK.out _ _ (KS.out _ kb2) (fun hHeld => ?_)
          clear hK K
          (try simp only [Act.put, List.getElem_toArray, List.getElem_cons_zero, List.getElem_cons_succ, List.setIfInBounds_toArray, List.set_cons_zero, List.set_cons_succ])
          refine wpAnyH_take (i := 4) (v := ?va4x21) rfl (by kernel_rfl) (by kernel_rfl) (by kernel_rfl) (fun _ _ _ h => h) (Or.inl ⟨by rfl, ?hy4x21⟩) (by assumption) ?rest4x21
          case hy4x21 => (intro w hSw; (try dsimp only at hSw); go_simp; try with_reducible rfl)
          (try simp only [Act.put, List.getElem_toArray, List.getElem_cons_zero, List.getElem_cons_succ, List.setIfInBounds_toArray, List.set_cons_zero, List.set_cons_succ])
          refine wpAnyH_take (i := 5) (v := ?va5x22) rfl (by kernel_rfl) (by kernel_rfl) (by kernel_rfl) (fun _ _ _ h => h) (Or.inl ⟨by rfl, ?hy5x22⟩) (by assumption) ?rest5x22
          case hy5x22 => (intro w hSw; (try dsimp only at hSw); go_simp; try with_reducible rfl)
          (try simp only [Act.put, List.getElem_toArray, List.getElem_cons_zero, List.getElem_cons_succ, List.setIfInBounds_toArray, List.set_cons_zero, List.set_cons_succ])
          refine wpAnyH_take (i := 6) (v := ?va6x23) rfl (by kernel_rfl) (by kernel_rfl) (by kernel_rfl) (fun _ _ _ h => h) (Or.inl ⟨by rfl, ?hy6x23⟩) (by assumption) ?rest6x23
          case hy6x23 => (intro w hSw; (try dsimp only at hSw); go_simp; try with_reducible rfl)
          (try simp only [Act.put, List.getElem_toArray, List.getElem_cons_zero, List.getElem_cons_succ, List.setIfInBounds_toArray, List.set_cons_zero, List.set_cons_succ])
          refine wpAnyH_ready (rs := [7]) (by kernel_rfl) (by simp) ?_
          refine AllReadyH.cons rfl (fun K hK => ?_) AllReadyH.nil
          clear hHeld
          obtain ⟨x3, hx3⟩ : ∃ x, x = x2.alloc (.cells (w3 nilV 0 nilV) 28) := ⟨_, rfl⟩
          have hb3 : Below x2.heap.size x2 x3 := by rw [hx3]; exact below1 x2 (.cells (w3 nilV 0 nilV) 28)
          have kb3 := bst kb2 hb3 kb2.size
          have OG3 := OwnW.below OG2 hb3
          have RV3 : Row x3 x2.heap.size 28 (w3 nilV 0 nilV) := by rw [hx3]; exact Row.new x2 _ _
          have gz3 : (yX.alloc (.cells (w3 (.slice paX nr qaX) W.n (.slice pcX nd qcX)) 28)).heap.size ≤ x2.heap.size := kb2.size
          have gl3 : x2.heap.size < x3.heap.size := Row.lt RV3
          have gs3 : x2.heap.size ≤ x2.heap.size := hq2
          have hq3 : x2.heap.size ≤ x3.heap.size := Nat.le_trans hq2 hb3.size
          go_simp
          rw [← hx3]
          refine hK.out _ _ (KS.out _ kb3) (fun hHeld => ?_)
          clear hK K hb3 hx3
          (try simp only [Act.put, List.getElem_toArray, List.getElem_cons_zero, List.getElem_cons_succ, List.setIfInBounds_toArray, List.set_cons_zero, List.set_cons_succ])
          clear hHeld
          have kz := below_setRow kb3 (show (yX.alloc (.cells (w3 (.slice paX nr qaX) W.n (.slice pcX nd qcX)) 28)).heap.size ≤ x2.heap.size from gz3) (w3 (.slice pa gr qa) G.n (.slice pc gd qc))
          have szz : (x3.setRow (x2.heap.size) (w3 (.slice pa gr qa) G.n (.slice pc gd qc))).heap.size = x3.heap.size := size_setRow _ _ _
          refine wpAnyH_ready (rs := [8]) (by kernel_rfl) (by simp) ?_
          refine AllReadyH.cons rfl (fun K hK => ?_) AllReadyH.nil
          rw [if_pos (by rfl)]
          refine wp_store_row 28 _ _ rfl (x2.heap.size) (w3 (.slice pa gr qa) G.n (.slice pc gd qc)) rfl rfl 28 (w3 nilV 0 nilV) RV3 info_work rfl (allW OG3) ?_
          refine hK.out _ _ (KS.out _ kz) (fun hHeld => ?_)
          clear hK K
          (try simp only [Act.put, List.getElem_toArray, List.getElem_cons_zero, List.getElem_cons_succ])
          refine wpAnyH_take (i := 9) (v := ?va9x24) rfl (by kernel_rfl) (by kernel_rfl) (by kernel_rfl) (fun _ _ _ h => h) (Or.inl ⟨by rfl, ?hy9x24⟩) (by assumption) ?rest9x24
          case hy9x24 => (intro w hSw; (try dsimp only at hSw); go_simp; try with_reducible rfl)
          (try simp only [Act.put, List.getElem_toArray, List.getElem_cons_zero, List.getElem_cons_succ, List.setIfInBounds_toArray, List.set_cons_zero, List.set_cons_succ])
          refine wpAnyH_done (by kernel_rfl) ?_ _
          clear hHeld
          go_wp2_with fail
          go_meet
          case rel => exact ⟨x2.heap.size, x1.heap.size, x2.heap.size, pa, qa, pc, qc, rfl, rfl, Row.below Rx.out kz, Row.below Rs.out kz, Row.below RW.out kz, Row.below RX.out kz, Row.put RV3 _, OwnW.below OW.out kz, OwnW.below OX.out kz, OwnW.wholeRow OG3 RV3 (w3 (.slice pa gr qa) G.n (.slice pc gd qc)), bst L.out kz L.out.size, lz, (by unfold Hid; rw [szz]; exact hq3), gz3, (by unfold Hid; rw [szz]; exact Row.lt RV3), (.inr gs3), (by unfold Hid; rw [szz]; exact kb3.size), lh⟩
        · clear hHeld
          obtain ⟨x4, hx4⟩ : ∃ x, x = x1.alloc (.cells (w3 nilV 0 nilV) 28) := ⟨_, rfl⟩
          have hb4 : Below x1.heap.size x1 x4 := by rw [hx4]; exact below1 x1 (.cells (w3 nilV 0 nilV) 28)
          have kb4 := bst kb1 hb4 kb1.size
          have RV4 : Row x4 x1.heap.size 28 (w3 nilV 0 nilV) := by rw [hx4]; exact Row.new x1 _ _
          have gz4 : (yX.alloc (.cells (w3 (.slice paX nr qaX) W.n (.slice pcX nd qcX)) 28)).heap.size ≤ x1.heap.size := kb1.size
          have gl4 : x1.heap.size < x4.heap.size := Row.lt RV4
          go_simp
          rw [← hx4]
          refine hK.out _ _ (KS.out _ kb4) (fun hHeld => ?_)
          clear hK K hb4 hx4
          (try simp only [Act.put, List.getElem_toArray, List.getElem_cons_zero, List.getElem_cons_succ, List.setIfInBounds_toArray, List.set_cons_zero, List.set_cons_succ])
          refine wpAnyH_ready (rs := [3]) (by kernel_rfl) (by simp) ?_
          refine AllReadyH.cons rfl (fun K hK => ?_) AllReadyH.nil
          clear hHeld
          go_simp
          refine (HI.out _ (.slice paX nr qaX) (.slice pcX nd qcX) (OwnW.readsC (OwnW.below OX.out kb4))).mono ?_
          rintro e x5 ⟨a2, c2, rfl, ho5, hb5⟩
          have kb5 := bst kb4 hb5 kb4.size
          have RV5 : Row x5 (x1.heap.size) 28 (w3 nilV 0 nilV) := Row.below RV4 hb5
          have hsh := ho5.shapes
          simp only [HNgr.out, HNgd.out] at hsh
          obtain ⟨⟨pa, qa, rfl⟩, ⟨pc, qc, rfl⟩⟩ := hsh
          have OG5 := ho5
          have hq5 : x5.heap.size ≤ x5.heap.size := Nat.le_refl _
          have lz : (yX.alloc (.cells (w3 (.slice paX nr qaX) W.n (.slice pcX nd qcX)) 28)).heap.size ≤ x4.heap.size := kb4.size
          have lh : x4.heap.size ≤ x5.heap.size := hb5.size
          have GL : x1.heap.size < x4.heap.size := Row.lt RV4
          refine hK.out _ _ (KS.out _ kb5) (fun hHeld => ?_)
          clear hK K
          (try simp only [Act.put, List.getElem_toArray, List.getElem_cons_zero, List.getElem_cons_succ, List.setIfInBounds_toArray, List.set_cons_zero, List.set_cons_succ])
          refine wpAnyH_take (i := 4) (v := ?va4x25) rfl (by kernel_rfl) (by kernel_rfl) (by kernel_rfl) (fun _ _ _ h => h) (Or.inl ⟨by rfl, ?hy4x25⟩) (by assumption) ?rest4x25
          case hy4x25 => (intro w hSw; (try dsimp only at hSw); go_simp; try with_reducible rfl)
          (try simp only [Act.put, List.getElem_toArray, List.getElem_cons_zero, List.getElem_cons_succ, List.setIfInBounds_toArray, List.set_cons_zero, List.set_cons_succ])
          refine wpAnyH_take (i := 5) (v := ?va5x26) rfl (by kernel_rfl) (by kernel_rfl) (by kernel_rfl) (fun _ _ _ h => h) (Or.inl ⟨by rfl, ?hy5x26⟩) (by assumption) ?rest5x26
          case hy5x26 => (intro w hSw; (try dsimp only at hSw); go_simp; try with_reducible rfl)
          (try simp only [Act.put, List.getElem_toArray, List.getElem_cons_zero, List.getElem_cons_succ, List.setIfInBounds_toArray, List.set_cons_zero, List.set_cons_succ])
          refine wpAnyH_take (i := 6) (v := ?va6x27) rfl (by kernel_rfl) (by kernel_rfl) (by kernel_rfl) (fun _ _ _ h => h) (Or.inl ⟨by rfl, ?hy6x27⟩) (by assumption) ?rest6x27
          case hy6x27 => (intro w hSw; (try dsimp only at hSw); go_simp; try with_reducible rfl)
          (try simp only [Act.put, List.getElem_toArray, List.getElem_cons_zero, List.getElem_cons_succ, List.setIfInBounds_toArray, List.set_cons_zero, List.set_cons_succ])
          clear hHeld
          have kz := below_setRow kb5 (show (yX.alloc (.cells (w3 (.slice paX nr qaX) W.n (.slice pcX nd qcX)) 28)).heap.size ≤ x1.heap.size from gz4) (w3 (.slice pa gr qa) G.n (.slice pc gd qc))
          have szz : (x5.setRow (x1.heap.size) (w3 (.slice pa gr qa) G.n (.slice pc gd qc))).heap.size = x5.heap.size := size_setRow _ _ _
          refine wpAnyH_ready (rs := [8]) (by kernel_rfl) (by simp) ?_
          refine AllReadyH.cons rfl (fun K hK => ?_) AllReadyH.nil
          rw [if_pos (by rfl)]
          refine wp_store_row 28 _ _ rfl (x1.heap.size) (w3 (.slice pa gr qa) G.n (.slice pc gd qc)) rfl rfl 28 (w3 nilV 0 nilV) RV5 info_work rfl (allW OG5) ?_
          refine hK.out _ _ (KS.out _ kz) (fun hHeld => ?_)
          clear hK K
          (try simp only [Act.put, List.getElem_toArray, List.getElem_cons_zero, List.getElem_cons_succ])
          refine wpAnyH_take (i := 9) (v := ?va9x28) rfl (by kernel_rfl) (by kernel_rfl) (by kernel_rfl) (fun _ _ _ h => h) (Or.inl ⟨by rfl, ?hy9x28⟩) (by assumption) ?rest9x28
          case hy9x28 => (intro w hSw; (try dsimp only at hSw); go_simp; try with_reducible rfl)
          (try simp only [Act.put, List.getElem_toArray, List.getElem_cons_zero, List.getElem_cons_succ, List.setIfInBounds_toArray, List.set_cons_zero, List.set_cons_succ])
          refine wpAnyH_done (by kernel_rfl) ?_ _
          clear hHeld
          go_wp2_with fail
          go_meet
          case rel => exact ⟨x1.heap.size, x4.heap.size, x5.heap.size, pa, qa, pc, qc, rfl, rfl, Row.below Rx.out kz, Row.below Rs.out kz, Row.below RW.out kz, Row.below RX.out kz, Row.put RV5 _, OwnW.below OW.out kz, OwnW.below OX.out kz, OwnW.wholeRow OG5 RV5 (w3 (.slice pa gr qa) G.n (.slice pc gd qc)), bst L.out kz L.out.size, lz, (by unfold Hid; rw [szz]; exact hq5), gz4, (by unfold Hid; rw [szz]; exact Row.lt RV5), (.inl GL), (by unfold Hid; rw [szz]; exact kb5.size), lh⟩
      · clear hHeld
        obtain ⟨x6, hx6⟩ : ∃ x, x = x0.alloc (.cells (w3 nilV 0 nilV) 28) := ⟨_, rfl⟩
        have hb6 : Below x0.heap.size x0 x6 := by rw [hx6]; exact below1 x0 (.cells (w3 nilV 0 nilV) 28)
        have kb6 := bst kb0 hb6 kb0.size
        have RV6 : Row x6 x0.heap.size 28 (w3 nilV 0 nilV) := by rw [hx6]; exact Row.new x0 _ _
        have gz6 : (yX.alloc (.cells (w3 (.slice paX nr qaX) W.n (.slice pcX nd qcX)) 28)).heap.size ≤ x0.heap.size := kb0.size
        have gl6 : x0.heap.size < x6.heap.size := Row.lt RV6
        go_simp
        rw [← hx6]
        refine hK.out _ _ (KS.out _ kb6) (fun hHeld => ?_)
        clear hK K hb6 hx6
        (try simp only [Act.put, List.getElem_toArray, List.getElem_cons_zero, List.getElem_cons_succ, List.setIfInBounds_toArray, List.set_cons_zero, List.set_cons_succ])
        refine wpAnyH_ready (rs := [2]) (by kernel_rfl) (by simp) ?_
        refine AllReadyH.cons rfl (fun K hK => ?_) AllReadyH.nil
        clear hHeld
        go_simp
        refine (c_toWorkStep sk sx sy _).mono ?_
        rintro e x7 ⟨rfl, hb7⟩
        have kb7 := bst kb6 hb7 kb6.size
        have RV7 : Row x7 (x0.heap.size) 28 (w3 nilV 0 nilV) := Row.below RV6 hb7
        refine hK.out _ _ (KS.out _ kb7) (fun hHeld => ?_)
        clear hK K
        (try simp only [Act.put, List.getElem_toArray, List.getElem_cons_zero, List.getElem_cons_succ, List.setIfInBounds_toArray, List.set_cons_zero, List.set_cons_succ])
        refine wpAnyH_ready (rs := [3]) (by kernel_rfl) (by simp) ?_
        refine AllReadyH.cons rfl (fun K hK => ?_) AllReadyH.nil
        clear hHeld
        go_simp
        refine (HI.out _ (.slice paX nr qaX) (.slice pcX nd qcX) (OwnW.readsC (OwnW.below OX.out kb7))).mono ?_
        rintro e x8 ⟨a2, c2, rfl, ho8, hb8⟩
        have kb8 := bst kb7 hb8 kb7.size
        have RV8 : Row x8 (x0.heap.size) 28 (w3 nilV 0 nilV) := Row.below RV7 hb8
        have hsh := ho8.shapes
        simp only [HNgr.out, HNgd.out] at hsh
        obtain ⟨⟨pa, qa, rfl⟩, ⟨pc, qc, rfl⟩⟩ := hsh
        have OG8 := ho8
        have hq8 : x8.heap.size ≤ x8.heap.size := Nat.le_refl _
        have lz : (yX.alloc (.cells (w3 (.slice paX nr qaX) W.n (.slice pcX nd qcX)) 28)).heap.size ≤ x7.heap.size := kb7.size
        have lh : x7.heap.size ≤ x8.heap.size := hb8.size
        have GL : x0.heap.size < x7.heap.size := Row.lt RV7
        refine hK.out _ _ (KS.out _ kb8) (fun hHeld => ?_)
        clear hK K
        (try simp only [Act.put, List.getElem_toArray, List.getElem_cons_zero, List.getElem_cons_succ, List.setIfInBounds_toArray, List.set_cons_zero, List.set_cons_succ])
        refine wpAnyH_take (i := 4) (v := ?va4x29) rfl (by kernel_rfl) (by kernel_rfl) (by kernel_rfl) (fun _ _ _ h => h) (Or.inl ⟨by rfl, ?hy4x29⟩) (by assumption) ?rest4x29
        case hy4x29 => (intro w hSw; (try dsimp only at hSw); go_simp; try with_reducible rfl)
        (try simp only [Act.put, List.getElem_toArray, List.getElem_cons_zero, List.getElem_cons_succ, List.setIfInBounds_toArray, List.set_cons_zero, List.set_cons_succ])
        refine wpAnyH_take (i := 5) (v := ?va5x30) rfl (by kernel_rfl) (by kernel_rfl) (by kernel_rfl) (fun _ _ _ h => h) (Or.inl ⟨by rfl, ?hy5x30⟩) (by assumption) ?rest5x30
        case hy5x30 => (intro w hSw; (try dsimp only at hSw); go_simp; try with_reducible rfl)
        (try simp only [Act.put, List.getElem_toArray, List.getElem_cons_zero, List.getElem_cons_succ, List.setIfInBounds_toArray, List.set_cons_zero, List.set_cons_succ])
        refine wpAnyH_take (i := 6) (v := ?va6x31) rfl (by kernel_rfl) (by kernel_rfl) (by kernel_rfl) (fun _ _ _ h => h) (Or.inl ⟨by rfl, ?hy6x31⟩) (by assumption) ?rest6x31
        case hy6x31 => (intro w hSw; (try dsimp only at hSw); go_simp; try with_reducible rfl)
        (try simp only [Act.put, List.getElem_toArray, List.getElem_cons_zero, List.getElem_cons_succ, List.setIfInBounds_toArray, List.set_cons_zero, List.set_cons_succ])
        clear hHeld
        have kz := below_setRow kb8 (show (yX.alloc (.cells (w3 (.slice paX nr qaX) W.n (.slice pcX nd qcX)) 28)).heap.size ≤ x0.heap.size from gz6) (w3 (.slice pa gr qa) G.n (.slice pc gd qc))
        have szz : (x8.setRow (x0.heap.size) (w3 (.slice pa gr qa) G.n (.slice pc gd qc))).heap.size = x8.heap.size := size_setRow _ _ _
        refine wpAnyH_ready (rs := [8]) (by kernel_rfl) (by simp) ?_
        refine AllReadyH.cons rfl (fun K hK => ?_) AllReadyH.nil
        rw [if_pos (by rfl)]
        refine wp_store_row 28 _ _ rfl (x0.heap.size) (w3 (.slice pa gr qa) G.n (.slice pc gd qc)) rfl rfl 28 (w3 nilV 0 nilV) RV8 info_work rfl (allW OG8) ?_
        refine hK.out _ _ (KS.out _ kz) (fun hHeld => ?_)
        clear hK K
        (try simp only [Act.put, List.getElem_toArray, List.getElem_cons_zero, List.getElem_cons_succ])
        refine wpAnyH_take (i := 9) (v := ?va9x32) rfl (by kernel_rfl) (by kernel_rfl) (by kernel_rfl) (fun _ _ _ h => h) (Or.inl ⟨by rfl, ?hy9x32⟩) (by assumption) ?rest9x32
        case hy9x32 => (intro w hSw; (try dsimp only at hSw); go_simp; try with_reducible rfl)
        (try simp only [Act.put, List.getElem_toArray, List.getElem_cons_zero, List.getElem_cons_succ, List.setIfInBounds_toArray, List.set_cons_zero, List.set_cons_succ])
        refine wpAnyH_done (by kernel_rfl) ?_ _
        clear hHeld
        go_wp2_with fail
        go_meet
        case rel => exact ⟨x0.heap.size, x7.heap.size, x8.heap.size, pa, qa, pc, qc, rfl, rfl, Row.below Rx.out kz, Row.below Rs.out kz, Row.below RW.out kz, Row.below RX.out kz, Row.put RV8 _, OwnW.below OW.out kz, OwnW.below OX.out kz, OwnW.wholeRow OG8 RV8 (w3 (.slice pa gr qa) G.n (.slice pc gd qc)), bst L.out kz L.out.size, lz, (by unfold Hid; rw [szz]; exact hq8), gz6, (by unfold Hid; rw [szz]; exact Row.lt RV8), (.inl GL), (by unfold Hid; rw [szz]; exact kb8.size), lh⟩
    case rest =>
      clear KS IZ L Rx Rs RW RX OW OX
      obtain ⟨gBG, loG, hiG, paG, qaG, pcG, qcG, rfl, rfl, Rx, Rs, RW, RX, RG, OW, OX, OG, L, S13, S14, S15, S16, S17, S18, S19⟩ := hcut
      obtain ⟨wy2, hwy⟩ : ∃ y, y = wc := ⟨_, rfl⟩
      subst hwy
      have c0x := Row.cell Rx.out 0
      have c1x := Row.cell Rx.out 1
      have c2x := Row.cell Rx.out 2
      have ltx := Row.lt Rx.out
      have c0s := Row.cell Rs.out 0
      have c1s := Row.cell Rs.out 1
      have c2s := Row.cell Rs.out 2
      have lts := Row.lt Rs.out
      have c0W := Row.cell RW.out 0
      have c1W := Row.cell RW.out 1
      have c2W := Row.cell RW.out 2
      have ltW := Row.lt RW.out
      have c0X := Row.cell RX.out 0
      have c1X := Row.cell RX.out 1
      have c2X := Row.cell RX.out 2
      have ltX := Row.lt RX.out
      have c0G := Row.cell RG.out 0
      have c1G := Row.cell RG.out 1
      have c2G := Row.cell RG.out 2
      have ltG := Row.lt RG.out
      go_wp2_with fail
      clear c0x c1x c2x ltx c0s c1s c2s lts c0W c1W c2W ltW c0X c1X c2X ltX c0G c1G c2G ltG
      refine (c_eqWork (.slice paG gr qaG) (.slice pcG gd qcG) (.slice paW gr qaW) (.slice pcW gd qcW) G _ OG.out.reads OW.out.reads HRZ.out.2.2).mono ?_
      rintro e ye ⟨rfl, hb⟩
      replace Rx := Lib.hid (Row.below Rx.out hb)
      replace Rs := Lib.hid (Row.below Rs.out hb)
      replace RW := Lib.hid (Row.below RW.out hb)
      replace RX := Lib.hid (Row.below RX.out hb)
      replace RG := Lib.hid (Row.below RG.out hb)
      replace OW := Lib.hid (OwnW.below OW.out hb)
      replace OX := Lib.hid (OwnW.below OX.out hb)
      replace OG := Lib.hid (OwnW.below OG.out hb)
      have S20 : Hid (wy2.heap.size ≤ ye.heap.size) := hb.size
      replace L := Lib.hid (bst L.out hb L.out.size)
      clear hb
      have c0x := Row.cell Rx.out 0
      have c1x := Row.cell Rx.out 1
      have c2x := Row.cell Rx.out 2
      have ltx := Row.lt Rx.out
      have c0s := Row.cell Rs.out 0
      have c1s := Row.cell Rs.out 1
      have c2s := Row.cell Rs.out 2
      have lts := Row.lt Rs.out
      have c0W := Row.cell RW.out 0
      have c1W := Row.cell RW.out 1
      have c2W := Row.cell RW.out 2
      have ltW := Row.lt RW.out
      have c0X := Row.cell RX.out 0
      have c1X := Row.cell RX.out 1
      have c2X := Row.cell RX.out 2
      have ltX := Row.lt RX.out
      have c0G := Row.cell RG.out 0
      have c1G := Row.cell RG.out 1
      have c2G := Row.cell RG.out 2
      have ltG := Row.lt RG.out
      go_wp2_with fail
      clear c0x c1x c2x ltx c0s c1s c2s lts c0W c1W c2W ltW c0X c1X c2X ltX c0G c1G c2G ltG
      have RR0 : ye.drew.cell? ⟨w.heap.size, 0, none⟩ = some (.slice paA nr qaA) := Row.cell Rx.out 0
      have RR1 : ye.drew.cell? ⟨w.heap.size, 1, none⟩ = some (.int .i64 W.n) := Row.cell Rx.out 1
      have RR2 : ye.drew.cell? ⟨w.heap.size, 2, none⟩ = some (.slice pcA nd qcA) := Row.cell Rx.out 2
      have RX0 : ye.drew.cell? ⟨yX.heap.size, 0, none⟩ = some (.slice paX nr qaX) := Row.cell RX.out 0
      have RX1 : ye.drew.cell? ⟨yX.heap.size, 1, none⟩ = some (.int .i64 W.n) := Row.cell RX.out 1
      have RX2 : ye.drew.cell? ⟨yX.heap.size, 2, none⟩ = some (.slice pcX nd qcX) := Row.cell RX.out 2
      have BD := below_drew (Below.refl ye.heap.size ye)
      have IZ := Lib.hid (HZ.out.below (below_drew L.out)); have IX := Lib.hid (OX.out.reads.below BD)
      go_region_held3 (fun w' => w'.cell? ⟨w.heap.size, 0, none⟩ = some (.slice paA nr qaA) ∧ w'.cell? ⟨w.heap.size, 1, none⟩ = some (.int .i64 W.n) ∧ w'.cell? ⟨w.heap.size, 2, none⟩ = some (.slice pcA nd qcA) ∧ w'.cell? ⟨yX.heap.size, 0, none⟩ = some (.slice paX nr qaX) ∧ w'.cell? ⟨yX.heap.size, 1, none⟩ = some (.int .i64 W.n) ∧ w'.cell? ⟨yX.heap.size, 2, none⟩ = some (.slice pcX nd qcX) ∧ Below ye.heap.size ye w')
        (first
          | (with_reducible exact ⟨RR0, RR1, RR2, RX0, RX1, RX2, BD⟩)
          | (go_split_ands
             exact ⟨cellBelow hbk (Nat.le_refl _) (by assumption), cellBelow hbk (Nat.le_refl _) (by assumption), cellBelow hbk (Nat.le_refl _) (by assumption), cellBelow hbk (Nat.le_refl _) (by assumption), cellBelow hbk (Nat.le_refl _) (by assumption), cellBelow hbk (Nat.le_refl _) (by assumption), bst (by assumption) hbk (Below.size (by assumption))⟩)
          | (go_split_ands; refine ⟨?_, ?_, ?_, ?_, ?_, ?_, ?_⟩ <;> assumption))
        (first
          | (go_at_call 40; refine (c_toWork (.slice paA nr qaA) (.slice pcA nd qcA) W _ IZ.out HM.out).mono ?_; rintro e wD1 ⟨aD, cD, rfl, hoD, hbk⟩; have OD := Lib.hid hoD.reads; have XD := Lib.hid (IX.out.below hbk); clear hoD)
          | (go_at_call 36; refine (c_eqWork _ _ _ _ W _ XD.out OD.out HM.out).mono ?_; rintro e wD2 ⟨rfl, hbk⟩))
      have hb : Below ye.heap.size ye wD2 := by go_split_ands; assumption
      clear OD XD IZ IX RR0 RX0 RR1 RX1 RR2 RX2 BD
      replace Rx := Lib.hid (Row.below Rx.out hb)
      replace Rs := Lib.hid (Row.below Rs.out hb)
      replace RW := Lib.hid (Row.below RW.out hb)
      replace RX := Lib.hid (Row.below RX.out hb)
      replace RG := Lib.hid (Row.below RG.out hb)
      replace OW := Lib.hid (OwnW.below OW.out hb)
      replace OX := Lib.hid (OwnW.below OX.out hb)
      replace OG := Lib.hid (OwnW.below OG.out hb)
      have S21 : Hid (ye.heap.size ≤ wD2.heap.size) := hb.size
      replace L := Lib.hid (bst L.out hb L.out.size)
      clear hb
      have c0x := Row.cell Rx.out 0
      have c1x := Row.cell Rx.out 1
      have c2x := Row.cell Rx.out 2
      have ltx := Row.lt Rx.out
      have c0s := Row.cell Rs.out 0
      have c1s := Row.cell Rs.out 1
      have c2s := Row.cell Rs.out 2
      have lts := Row.lt Rs.out
      have c0W := Row.cell RW.out 0
      have c1W := Row.cell RW.out 1
      have c2W := Row.cell RW.out 2
      have ltW := Row.lt RW.out
      have c0X := Row.cell RX.out 0
      have c1X := Row.cell RX.out 1
      have c2X := Row.cell RX.out 2
      have ltX := Row.lt RX.out
      have c0G := Row.cell RG.out 0
      have c1G := Row.cell RG.out 1
      have c2G := Row.cell RG.out 2
      have ltG := Row.lt RG.out
      go_wp2_with fail
      clear c0x c1x c2x ltx c0s c1s c2s lts c0W c1W c2W ltW c0X c1X c2X ltX c0G c1G c2G ltG
      refine (c_markWork wy1.heap.size yX.heap.size (.slice paX nr qaX) W.n (.slice pcX nd qcX) W 1 _ OX.out (by omega) (by rw [HSM.out]; have h9 := HSZ.out.1; omega) (by rw [HNnr.out]; have := HSZ.out.2; omega) (by have := S1.out; have := S2.out; have := S3.out; have := S4.out; have := S5.out; have := S6.out; have := S7.out; have := S8.out; have := S9.out; have := S10.out; have := S11.out; have := S12.out; have := S13.out; have := S14.out; have := S15.out; have := S16.out; have := S17.out; have := S18.out; have := S19.out; have := S20.out; have := S21.out; omega)).mono ?_
      rintro e wm1 ⟨rfl, ho, hch⟩
      rw [HSM.out]
      clear ho
      have Qx : Hid (w.heap.size < wD2.heap.size) := Row.lt Rx.out
      have Qs : Hid (w.heap.size + 1 < wD2.heap.size) := Row.lt Rs.out
      have QW : Hid (gBW < wD2.heap.size) := Row.lt RW.out
      have QX : Hid (yX.heap.size < wD2.heap.size) := Row.lt RX.out
      have QG : Hid (gBG < wD2.heap.size) := Row.lt RG.out
      replace Rx := Lib.hid (Row.chg Rx.out hch (by have := S1.out; have := S2.out; have := S3.out; have := S4.out; have := S5.out; have := S6.out; have := S7.out; have := S8.out; have := S9.out; have := S10.out; have := S11.out; have := S12.out; have := S13.out; have := S14.out; have := S15.out; have := S16.out; have := S17.out; have := S18.out; have := S19.out; have := S20.out; have := S21.out; have := Qx.out; omega))
      replace Rs := Lib.hid (Row.chg Rs.out hch (by have := S1.out; have := S2.out; have := S3.out; have := S4.out; have := S5.out; have := S6.out; have := S7.out; have := S8.out; have := S9.out; have := S10.out; have := S11.out; have := S12.out; have := S13.out; have := S14.out; have := S15.out; have := S16.out; have := S17.out; have := S18.out; have := S19.out; have := S20.out; have := S21.out; have := Qs.out; omega))
      replace RW := Lib.hid (Row.chg RW.out hch (by have := S1.out; have := S2.out; have := S3.out; have := S4.out; have := S5.out; have := S6.out; have := S7.out; have := S8.out; have := S9.out; have := S10.out; have := S11.out; have := S12.out; have := S13.out; have := S14.out; have := S15.out; have := S16.out; have := S17.out; have := S18.out; have := S19.out; have := S20.out; have := S21.out; have := QW.out; omega))
      replace RX := Lib.hid (Row.chg RX.out hch (by have := S1.out; have := S2.out; have := S3.out; have := S4.out; have := S5.out; have := S6.out; have := S7.out; have := S8.out; have := S9.out; have := S10.out; have := S11.out; have := S12.out; have := S13.out; have := S14.out; have := S15.out; have := S16.out; have := S17.out; have := S18.out; have := S19.out; have := S20.out; have := S21.out; have := QX.out; omega))
      replace RG := Lib.hid (Row.chg RG.out hch (by have := S1.out; have := S2.out; have := S3.out; have := S4.out; have := S5.out; have := S6.out; have := S7.out; have := S8.out; have := S9.out; have := S10.out; have := S11.out; have := S12.out; have := S13.out; have := S14.out; have := S15.out; have := S16.out; have := S17.out; have := S18.out; have := S19.out; have := S20.out; have := S21.out; have := QG.out; omega))
      replace OW := Lib.hid (OwnW.chg OW.out hch (by have := S1.out; have := S2.out; have := S3.out; have := S4.out; have := S5.out; have := S6.out; have := S7.out; have := S8.out; have := S9.out; have := S10.out; have := S11.out; have := S12.out; have := S13.out; have := S14.out; have := S15.out; have := S16.out; have := S17.out; have := S18.out; have := S19.out; have := S20.out; have := S21.out; omega))
      replace OG := Lib.hid (OwnW.chg OG.out hch (by have := S1.out; have := S2.out; have := S3.out; have := S4.out; have := S5.out; have := S6.out; have := S7.out; have := S8.out; have := S9.out; have := S10.out; have := S11.out; have := S12.out; have := S13.out; have := S14.out; have := S15.out; have := S16.out; have := S17.out; have := S18.out; have := S19.out; have := S20.out; have := S21.out; omega))
      replace L := Lib.hid (below_chg L.out hch (by have := S1.out; have := S2.out; have := S3.out; have := S4.out; have := S5.out; have := S6.out; have := S7.out; have := S8.out; have := S9.out; have := S10.out; have := S11.out; have := S12.out; have := S13.out; have := S14.out; have := S15.out; have := S16.out; have := S17.out; have := S18.out; have := S19.out; have := S20.out; have := S21.out; have := Qx.out; omega) L.out.size)
      have S22 : Hid (wD2.heap.size ≤ wm1.heap.size) := hch.size
      clear hch Qx Qs QW QX QG
      clear OX
      have c0x := Row.cell Rx.out 0
      have c1x := Row.cell Rx.out 1
      have c2x := Row.cell Rx.out 2
      have ltx := Row.lt Rx.out
      have c0s := Row.cell Rs.out 0
      have c1s := Row.cell Rs.out 1
      have c2s := Row.cell Rs.out 2
      have lts := Row.lt Rs.out
      have c0W := Row.cell RW.out 0
      have c1W := Row.cell RW.out 1
      have c2W := Row.cell RW.out 2
      have ltW := Row.lt RW.out
      have c0X := Row.cell RX.out 0
      have c1X := Row.cell RX.out 1
      have c2X := Row.cell RX.out 2
      have ltX := Row.lt RX.out
      have c0G := Row.cell RG.out 0
      have c1G := Row.cell RG.out 1
      have c2G := Row.cell RG.out 2
      have ltG := Row.lt RG.out
      go_wp2_with fail
      clear c0x c1x c2x ltx c0s c1s c2s lts c0W c1W c2W ltW c0X c1X c2X ltX c0G c1G c2G ltG
      refine (c_eqWork (.slice paG gr qaG) (.slice pcG gd qcG) (.slice paW gr qaW) (.slice pcW gd qcW) G _ OG.out.reads OW.out.reads HRZ.out.2.2).mono ?_
      rintro e yf ⟨rfl, hb⟩
      replace Rx := Lib.hid (Row.below Rx.out hb)
      replace Rs := Lib.hid (Row.below Rs.out hb)
      replace RW := Lib.hid (Row.below RW.out hb)
      replace RX := Lib.hid (Row.below RX.out hb)
      replace RG := Lib.hid (Row.below RG.out hb)
      replace OW := Lib.hid (OwnW.below OW.out hb)
      replace OG := Lib.hid (OwnW.below OG.out hb)
      have S23 : Hid (wm1.heap.size ≤ yf.heap.size) := hb.size
      replace L := Lib.hid (bst L.out hb L.out.size)
      clear hb
      have c0x := Row.cell Rx.out 0
      have c1x := Row.cell Rx.out 1
      have c2x := Row.cell Rx.out 2
      have ltx := Row.lt Rx.out
      have c0s := Row.cell Rs.out 0
      have c1s := Row.cell Rs.out 1
      have c2s := Row.cell Rs.out 2
      have lts := Row.lt Rs.out
      have c0W := Row.cell RW.out 0
      have c1W := Row.cell RW.out 1
      have c2W := Row.cell RW.out 2
      have ltW := Row.lt RW.out
      have c0X := Row.cell RX.out 0
      have c1X := Row.cell RX.out 1
      have c2X := Row.cell RX.out 2
      have ltX := Row.lt RX.out
      have c0G := Row.cell RG.out 0
      have c1G := Row.cell RG.out 1
      have c2G := Row.cell RG.out 2
      have ltG := Row.lt RG.out
      go_wp2_with fail
      clear c0x c1x c2x ltx c0s c1s c2s lts c0W c1W c2W ltW c0X c1X c2X ltX c0G c1G c2G ltG
      refine (c_markWork loG hiG (.slice paG gr qaG) G.n (.slice pcG gd qcG) G 1 _ OG.out (by omega) (by rw [HSMg.out]; have h9 := HRZ.out; omega) (by rw [HNgr.out]; have h9 := HRZ.out; omega) (by have := S1.out; have := S2.out; have := S3.out; have := S4.out; have := S5.out; have := S6.out; have := S7.out; have := S8.out; have := S9.out; have := S10.out; have := S11.out; have := S12.out; have := S13.out; have := S14.out; have := S15.out; have := S16.out; have := S17.out; have := S18.out; have := S19.out; have := S20.out; have := S21.out; have := S22.out; have := S23.out; omega)).mono ?_
      rintro e wm3 ⟨rfl, ho, hch⟩
      rw [HSMg.out]
      have Qx : Hid (w.heap.size < yf.heap.size) := Row.lt Rx.out
      have Qs : Hid (w.heap.size + 1 < yf.heap.size) := Row.lt Rs.out
      have QW : Hid (gBW < yf.heap.size) := Row.lt RW.out
      have QX : Hid (yX.heap.size < yf.heap.size) := Row.lt RX.out
      have QG : Hid (gBG < yf.heap.size) := Row.lt RG.out
      replace Rx := Lib.hid (Row.chg Rx.out hch (by have := S1.out; have := S2.out; have := S3.out; have := S4.out; have := S5.out; have := S6.out; have := S7.out; have := S8.out; have := S9.out; have := S10.out; have := S11.out; have := S12.out; have := S13.out; have := S14.out; have := S15.out; have := S16.out; have := S17.out; have := S18.out; have := S19.out; have := S20.out; have := S21.out; have := S22.out; have := S23.out; have := Qx.out; omega))
      replace Rs := Lib.hid (Row.chg Rs.out hch (by have := S1.out; have := S2.out; have := S3.out; have := S4.out; have := S5.out; have := S6.out; have := S7.out; have := S8.out; have := S9.out; have := S10.out; have := S11.out; have := S12.out; have := S13.out; have := S14.out; have := S15.out; have := S16.out; have := S17.out; have := S18.out; have := S19.out; have := S20.out; have := S21.out; have := S22.out; have := S23.out; have := Qs.out; omega))
      replace RW := Lib.hid (Row.chg RW.out hch (by have := S1.out; have := S2.out; have := S3.out; have := S4.out; have := S5.out; have := S6.out; have := S7.out; have := S8.out; have := S9.out; have := S10.out; have := S11.out; have := S12.out; have := S13.out; have := S14.out; have := S15.out; have := S16.out; have := S17.out; have := S18.out; have := S19.out; have := S20.out; have := S21.out; have := S22.out; have := S23.out; have := QW.out; omega))
      replace RX := Lib.hid (Row.chg RX.out hch (by have := S1.out; have := S2.out; have := S3.out; have := S4.out; have := S5.out; have := S6.out; have := S7.out; have := S8.out; have := S9.out; have := S10.out; have := S11.out; have := S12.out; have := S13.out; have := S14.out; have := S15.out; have := S16.out; have := S17.out; have := S18.out; have := S19.out; have := S20.out; have := S21.out; have := S22.out; have := S23.out; have := QX.out; omega))
      replace RG := Lib.hid (Row.chg RG.out hch (by have := S1.out; have := S2.out; have := S3.out; have := S4.out; have := S5.out; have := S6.out; have := S7.out; have := S8.out; have := S9.out; have := S10.out; have := S11.out; have := S12.out; have := S13.out; have := S14.out; have := S15.out; have := S16.out; have := S17.out; have := S18.out; have := S19.out; have := S20.out; have := S21.out; have := S22.out; have := S23.out; have := QG.out; omega))
      replace OW := Lib.hid (OwnW.chg OW.out hch (by have := S1.out; have := S2.out; have := S3.out; have := S4.out; have := S5.out; have := S6.out; have := S7.out; have := S8.out; have := S9.out; have := S10.out; have := S11.out; have := S12.out; have := S13.out; have := S14.out; have := S15.out; have := S16.out; have := S17.out; have := S18.out; have := S19.out; have := S20.out; have := S21.out; have := S22.out; have := S23.out; omega))
      replace L := Lib.hid (below_chg L.out hch (by have := S1.out; have := S2.out; have := S3.out; have := S4.out; have := S5.out; have := S6.out; have := S7.out; have := S8.out; have := S9.out; have := S10.out; have := S11.out; have := S12.out; have := S13.out; have := S14.out; have := S15.out; have := S16.out; have := S17.out; have := S18.out; have := S19.out; have := S20.out; have := S21.out; have := S22.out; have := S23.out; have := Qx.out; omega) L.out.size)
      have S24 : Hid (yf.heap.size ≤ wm3.heap.size) := hch.size
      clear hch Qx Qs QW QX QG
      replace OG := Lib.hid ho
      clear ho
      have c0x := Row.cell Rx.out 0
      have c1x := Row.cell Rx.out 1
      have c2x := Row.cell Rx.out 2
      have ltx := Row.lt Rx.out
      have c0s := Row.cell Rs.out 0
      have c1s := Row.cell Rs.out 1
      have c2s := Row.cell Rs.out 2
      have lts := Row.lt Rs.out
      have c0W := Row.cell RW.out 0
      have c1W := Row.cell RW.out 1
      have c2W := Row.cell RW.out 2
      have ltW := Row.lt RW.out
      have c0X := Row.cell RX.out 0
      have c1X := Row.cell RX.out 1
      have c2X := Row.cell RX.out 2
      have ltX := Row.lt RX.out
      have c0G := Row.cell RG.out 0
      have c1G := Row.cell RG.out 1
      have c2G := Row.cell RG.out 2
      have ltG := Row.lt RG.out
      go_wp2_with fail
      clear c0x c1x c2x ltx c0s c1s c2s lts c0W c1W c2W ltW c0X c1X c2X ltX c0G c1G c2G ltG
      refine (c_heldWork (.slice paG gr qaG) G.n (.slice pcG gd qcG) G 1 _ OG.out.reads (by omega) (by rw [HSMg.out]; have h9 := HRZ.out; omega) (by rw [HNgr.out]; have h9 := HRZ.out; omega)).mono ?_
      rintro e yh ⟨rfl, hb⟩
      rw [HSMg.out]
      replace Rx := Lib.hid (Row.below Rx.out hb)
      replace Rs := Lib.hid (Row.below Rs.out hb)
      replace RW := Lib.hid (Row.below RW.out hb)
      replace RX := Lib.hid (Row.below RX.out hb)
      replace RG := Lib.hid (Row.below RG.out hb)
      replace OW := Lib.hid (OwnW.below OW.out hb)
      replace OG := Lib.hid (OwnW.below OG.out hb)
      have S25 : Hid (wm3.heap.size ≤ yh.heap.size) := hb.size
      replace L := Lib.hid (bst L.out hb L.out.size)
      clear hb
      have c0x := Row.cell Rx.out 0
      have c1x := Row.cell Rx.out 1
      have c2x := Row.cell Rx.out 2
      have ltx := Row.lt Rx.out
      have c0s := Row.cell Rs.out 0
      have c1s := Row.cell Rs.out 1
      have c2s := Row.cell Rs.out 2
      have lts := Row.lt Rs.out
      have c0W := Row.cell RW.out 0
      have c1W := Row.cell RW.out 1
      have c2W := Row.cell RW.out 2
      have ltW := Row.lt RW.out
      have c0X := Row.cell RX.out 0
      have c1X := Row.cell RX.out 1
      have c2X := Row.cell RX.out 2
      have ltX := Row.lt RX.out
      have c0G := Row.cell RG.out 0
      have c1G := Row.cell RG.out 1
      have c2G := Row.cell RG.out 2
      have ltG := Row.lt RG.out
      go_wp2_with fail
      clear c0x c1x c2x ltx c0s c1s c2s lts c0W c1W c2W ltW c0X c1X c2X ltX c0G c1G c2G ltG
      have KS : Hid (∀ Y, Below yh.heap.size yh Y → Y.cell? ⟨w.heap.size, 0, none⟩ = some (.slice paA nr qaA) ∧ Y.cell? ⟨w.heap.size, 1, none⟩ = some (.int .i64 W.n) ∧ Y.cell? ⟨w.heap.size, 2, none⟩ = some (.slice pcA nd qcA) ∧ Y.cell? ⟨w.heap.size + 1, 0, none⟩ = some (.int .i64 sk) ∧ Y.cell? ⟨w.heap.size + 1, 1, none⟩ = some (.int .i64 sx) ∧ Y.cell? ⟨w.heap.size + 1, 2, none⟩ = some (.int .i64 sy)) := fun Y hY => ⟨Row.cell (Row.below Rx.out hY) 0, Row.cell (Row.below Rx.out hY) 1, Row.cell (Row.below Rx.out hY) 2, Row.cell (Row.below Rs.out hY) 0, Row.cell (Row.below Rs.out hY) 1, Row.cell (Row.below Rs.out hY) 2⟩
      have IZ := Lib.hid (HZ.out.below L.out)
      go_cut [14, 15] from 16 (fun s1 s2 wz => ∃ (gB lo hi : Nat) (pa : Option Addr) (qa : Nat) (pc : Option Addr) (qc : Nat), s1 = .pointer (some ⟨gB, 0, none⟩) ∧ s2 = .bool ok ∧ Hid (Row wz (w.heap.size) 54 (w3 (.slice paA nr qaA) W.n (.slice pcA nd qcA))) ∧ Hid (Row wz (w.heap.size + 1) 58 (s3c sk sx sy)) ∧ Hid (Row wz (gBW) 28 (w3 (.slice paW gr qaW) G.n (.slice pcW gd qcW))) ∧ Hid (Row wz (yX.heap.size) 28 (w3 (.slice paX nr qaX) W.n (.slice pcX nd qcX))) ∧ Hid (Row wz (gBG) 28 (w3 (.slice paG gr qaG) G.n (.slice pcG gd qcG))) ∧ Hid (Row wz gB 28 (w3 (.slice pa gr qa) G.n (.slice pc gd qc))) ∧ Hid (OwnW wz (loW) (hiW) (.slice paW gr qaW) (.slice pcW gd qcW) G) ∧ Hid (OwnW wz (loG) (hiG) (.slice paG gr qaG) (.slice pcG gd qcG) (markW 1 G)) ∧ Hid (OwnW wz lo hi (.slice pa gr qa) (.slice pc gd qc) G) ∧ Hid (Below w.heap.size w wz) ∧ Hid (yh.heap.size ≤ lo) ∧ Hid (hi ≤ wz.heap.size) ∧ Hid (yh.heap.size ≤ gB) ∧ Hid (gB < wz.heap.size) ∧ Hid (gB < lo ∨ hi ≤ gB) ∧ Hid (yh.heap.size ≤ wz.heap.size) ∧ Hid (lo ≤ hi))
      case first =>
        have kb0 := below_drew (Below.refl yh.heap.size yh)
        refine wp_region_held_drew (S := (fun w' => w'.cell? ⟨w.heap.size, 0, none⟩ = some (.slice paA nr qaA) ∧ w'.cell? ⟨w.heap.size, 1, none⟩ = some (.int .i64 W.n) ∧ w'.cell? ⟨w.heap.size, 2, none⟩ = some (.slice pcA nd qcA) ∧ w'.cell? ⟨w.heap.size + 1, 0, none⟩ = some (.int .i64 sk) ∧ w'.cell? ⟨w.heap.size + 1, 1, none⟩ = some (.int .i64 sx) ∧ w'.cell? ⟨w.heap.size + 1, 2, none⟩ = some (.int .i64 sy))) (by kernel_rfl) (KS.out _ kb0) (fun hHeld => ?_)
        have x0z : yh.heap.size ≤ yh.drew.heap.size := kb0.size
        obtain ⟨x0, hx0⟩ : ∃ x, x = yh.drew := ⟨_, rfl⟩
        rw [← hx0] at kb0 x0z hHeld
        rw [← hx0]
        clear hx0
        refine wpAnyH_take (i := 0) (v := ?va0x33) rfl (by kernel_rfl) (by kernel_rfl) (by kernel_rfl) (fun _ _ _ h => h) (Or.inl ⟨by rfl, ?hy0x33⟩) (by assumption) ?rest0x33
        case hy0x33 => (intro w hSw; (try dsimp only at hSw); go_simp; try with_reducible rfl)
        (try simp only [Act.put, List.getElem_toArray, List.getElem_cons_zero, List.setIfInBounds_toArray, List.set_cons_zero, List.set_cons_succ])
        refine wpAnyH_take (i := 2) (v := ?va2x34) rfl (by kernel_rfl) (by kernel_rfl) (by kernel_rfl) (fun _ _ _ h => h) (Or.inl ⟨by rfl, ?hy2x34⟩) (by assumption) ?rest2x34
        case hy2x34 => (intro w hSw; (try dsimp only at hSw); go_simp; try with_reducible rfl)
        (try simp only [Act.put, List.getElem_toArray, List.getElem_cons_zero, List.getElem_cons_succ, List.setIfInBounds_toArray, List.set_cons_zero, List.set_cons_succ])
        refine wpAnyH_ready (rs := [1, 8]) (by kernel_rfl) (by simp) ?_
        refine AllReadyH.cons rfl (fun K hK => ?_) (AllReadyH.cons rfl (fun K hK => ?_) AllReadyH.nil)
        · clear hHeld
          go_simp
          refine (c_toWork (.slice paA nr qaA) (.slice pcA nd qcA) W _ (IZ.out.below kb0) HM.out).mono ?_
          rintro e x1 ⟨a1, c1, rfl, ho1, hb1⟩
          have kb1 := bst kb0 hb1 kb0.size
          have IA1 := ho1
          refine hK.out _ _ (KS.out _ kb1) (fun hHeld => ?_)
          clear hK K
          (try simp only [Act.put, List.getElem_toArray, List.getElem_cons_zero, List.getElem_cons_succ, List.setIfInBounds_toArray, List.set_cons_zero, List.set_cons_succ])
          refine wpAnyH_ready (rs := [3, 8]) (by kernel_rfl) (by simp) ?_
          refine AllReadyH.cons rfl (fun K hK => ?_) (AllReadyH.cons rfl (fun K hK => ?_) AllReadyH.nil)
          · clear hHeld
            go_simp
            refine (c_toWorkStep sk sx sy _).mono ?_
            rintro e x2 ⟨rfl, hb2⟩
            have kb2 := bst kb1 hb2 kb1.size
            have IA2 := OwnW.below IA1 hb2
            refine hK.out _ _ (KS.out _ kb2) (fun hHeld => ?_)
            clear hK K
            (try simp only [Act.put, List.getElem_toArray, List.getElem_cons_zero, List.getElem_cons_succ, List.setIfInBounds_toArray, List.set_cons_zero, List.set_cons_succ])
            refine wpAnyH_ready (rs := [4, 8]) (by kernel_rfl) (by simp) ?_
            refine AllReadyH.cons rfl (fun K hK => ?_) (AllReadyH.cons rfl (fun K hK => ?_) AllReadyH.nil)
            · clear hHeld
              go_simp
              refine (HI.out _ a1 c1 (IA2.readsC)).mono ?_
              rintro e x3 ⟨a2, c2, rfl, ho3, hb3⟩
              have kb3 := bst kb2 hb3 kb2.size
              have IA3 := OwnW.below IA2 hb3
              have hsh := ho3.shapes
              simp only [HNgr.out, HNgd.out] at hsh
              obtain ⟨⟨pa, qa, rfl⟩, ⟨pc, qc, rfl⟩⟩ := hsh
              have OG3 := ho3
              have hq3 : x3.heap.size ≤ x3.heap.size := Nat.le_refl _
              have lz : yh.heap.size ≤ x2.heap.size := kb2.size
              have lh : x2.heap.size ≤ x3.heap.size := hb3.size
              refine hK.out _ _ (KS.out _ kb3) (fun hHeld => ?_)
              clear hK K
              (try simp only [Act.put, List.getElem_toArray, List.getElem_cons_zero, List.getElem_cons_succ, List.setIfInBounds_toArray, List.set_cons_zero, List.set_cons_succ])
              refine wpAnyH_take (i := 5) (v := ?va5x35) rfl (by kernel_rfl) (by kernel_rfl) (by kernel_rfl) (fun _ _ _ h => h) (Or.inl ⟨by rfl, ?hy5x35⟩) (by assumption) ?rest5x35
              case hy5x35 => (intro w hSw; (try dsimp only at hSw); go_simp; try with_reducible rfl)
              (try simp only [Act.put, List.getElem_toArray, List.getElem_cons_zero, List.getElem_cons_succ, List.setIfInBounds_toArray, List.set_cons_zero, List.set_cons_succ])
              refine wpAnyH_take (i := 6) (v := ?va6x36) rfl (by kernel_rfl) (by kernel_rfl) (by kernel_rfl) (fun _ _ _ h => h) (Or.inl ⟨by rfl, ?hy6x36⟩) (by assumption) ?rest6x36
              case hy6x36 => (intro w hSw; (try dsimp only at hSw); go_simp; try with_reducible rfl)
              (try simp only [Act.put, List.getElem_toArray, List.getElem_cons_zero, List.getElem_cons_succ, List.setIfInBounds_toArray, List.set_cons_zero, List.set_cons_succ])
              refine wpAnyH_take (i := 7) (v := ?va7x37) rfl (by kernel_rfl) (by kernel_rfl) (by kernel_rfl) (fun _ _ _ h => h) (Or.inl ⟨by rfl, ?hy7x37⟩) (by assumption) ?rest7x37
              case hy7x37 => (intro w hSw; (try dsimp only at hSw); go_simp; try with_reducible rfl)
              (try simp only [Act.put, List.getElem_toArray, List.getElem_cons_zero, List.getElem_cons_succ, List.setIfInBounds_toArray, List.set_cons_zero, List.set_cons_succ])
              refine wpAnyH_ready (rs := [8]) (by kernel_rfl) (by simp) ?_
              refine AllReadyH.cons rfl (fun K hK => ?_) AllReadyH.nil
              clear hHeld
              obtain ⟨x4, hx4⟩ : ∃ x, x = x3.alloc (.cells (w3 nilV 0 nilV) 28) := ⟨_, rfl⟩
              have hb4 : Below x3.heap.size x3 x4 := by rw [hx4]; exact below1 x3 (.cells (w3 nilV 0 nilV) 28)
              have kb4 := bst kb3 hb4 kb3.size
              have IA4 := OwnW.below IA3 hb4
              have OG4 := OwnW.below OG3 hb4
              have RV4 : Row x4 x3.heap.size 28 (w3 nilV 0 nilV) := by rw [hx4]; exact Row.new x3 _ _
              have gz4 : yh.heap.size ≤ x3.heap.size := kb3.size
              have gl4 : x3.heap.size < x4.heap.size := Row.lt RV4
              have gs4 : x3.heap.size ≤ x3.heap.size := hq3
              have hq4 : x3.heap.size ≤ x4.heap.size := Nat.le_trans hq3 hb4.size
              go_simp
              rw [← hx4]
              refine hK.out _ _ (KS.out _ kb4) (fun hHeld => ?_)
              clear hK K hb4 hx4
              (try simp only [Act.put, List.getElem_toArray, List.getElem_cons_zero, List.getElem_cons_succ, List.setIfInBounds_toArray, List.set_cons_zero, List.set_cons_succ])
              clear hHeld
              have kz := below_setRow kb4 (show yh.heap.size ≤ x3.heap.size from gz4) (w3 (.slice pa gr qa) G.n (.slice pc gd qc))
              have szz : (x4.setRow (x3.heap.size) (w3 (.slice pa gr qa) G.n (.slice pc gd qc))).heap.size = x4.heap.size := size_setRow _ _ _
              refine wpAnyH_ready (rs := [9]) (by kernel_rfl) (by simp) ?_
              refine AllReadyH.cons rfl (fun K hK => ?_) AllReadyH.nil
              rw [if_pos (by rfl)]
              refine wp_store_row 28 _ _ rfl (x3.heap.size) (w3 (.slice pa gr qa) G.n (.slice pc gd qc)) rfl rfl 28 (w3 nilV 0 nilV) RV4 info_work rfl (allW OG4) ?_
              refine hK.out _ _ (KS.out _ kz) (fun hHeld => ?_)
              clear hK K
              (try simp only [Act.put, List.getElem_toArray, List.getElem_cons_zero, List.getElem_cons_succ])
              refine wpAnyH_take (i := 10) (v := ?va10x38) rfl (by kernel_rfl) (by kernel_rfl) (by kernel_rfl) (fun _ _ _ h => h) (Or.inl ⟨by rfl, ?hy10x38⟩) (by assumption) ?rest10x38
              case hy10x38 => (intro w hSw; (try dsimp only at hSw); go_simp; try with_reducible rfl)
              (try simp only [Act.put, List.getElem_toArray, List.getElem_cons_zero, List.getElem_cons_succ, List.setIfInBounds_toArray, List.set_cons_zero, List.set_cons_succ])
              refine wpAnyH_done (by kernel_rfl) ?_ _
              clear hHeld
              go_wp2_with fail
              go_meet
              case rel => exact ⟨x3.heap.size, x2.heap.size, x3.heap.size, pa, qa, pc, qc, rfl, rfl, Row.below Rx.out kz, Row.below Rs.out kz, Row.below RW.out kz, Row.below RX.out kz, Row.below RG.out kz, Row.put RV4 _, OwnW.below OW.out kz, OwnW.below OG.out kz, OwnW.wholeRow OG4 RV4 (w3 (.slice pa gr qa) G.n (.slice pc gd qc)), bst L.out kz L.out.size, lz, (by unfold Hid; rw [szz]; exact hq4), gz4, (by unfold Hid; rw [szz]; exact Row.lt RV4), (.inr gs4), (by unfold Hid; rw [szz]; exact kb4.size), lh⟩
            · clear hHeld
              obtain ⟨x5, hx5⟩ : ∃ x, x = x2.alloc (.cells (w3 nilV 0 nilV) 28) := ⟨_, rfl⟩
              have hb5 : Below x2.heap.size x2 x5 := by rw [hx5]; exact below1 x2 (.cells (w3 nilV 0 nilV) 28)
              have kb5 := bst kb2 hb5 kb2.size
              have IA5 := OwnW.below IA2 hb5
              have RV5 : Row x5 x2.heap.size 28 (w3 nilV 0 nilV) := by rw [hx5]; exact Row.new x2 _ _
              have gz5 : yh.heap.size ≤ x2.heap.size := kb2.size
              have gl5 : x2.heap.size < x5.heap.size := Row.lt RV5
              go_simp
              rw [← hx5]
              refine hK.out _ _ (KS.out _ kb5) (fun hHeld => ?_)
              clear hK K hb5 hx5
              (try simp only [Act.put, List.getElem_toArray, List.getElem_cons_zero, List.getElem_cons_succ, List.setIfInBounds_toArray, List.set_cons_zero, List.set_cons_succ])
              refine wpAnyH_ready (rs := [4]) (by kernel_rfl) (by simp) ?_
              refine AllReadyH.cons rfl (fun K hK => ?_) AllReadyH.nil
              clear hHeld
              go_simp
              refine (HI.out _ a1 c1 (IA5.readsC)).mono ?_
              rintro e x6 ⟨a2, c2, rfl, ho6, hb6⟩
              have kb6 := bst kb5 hb6 kb5.size
              have RV6 : Row x6 (x2.heap.size) 28 (w3 nilV 0 nilV) := Row.below RV5 hb6
              have IA6 := OwnW.below IA5 hb6
              have hsh := ho6.shapes
              simp only [HNgr.out, HNgd.out] at hsh
              obtain ⟨⟨pa, qa, rfl⟩, ⟨pc, qc, rfl⟩⟩ := hsh
              have OG6 := ho6
              have hq6 : x6.heap.size ≤ x6.heap.size := Nat.le_refl _
              have lz : yh.heap.size ≤ x5.heap.size := kb5.size
              have lh : x5.heap.size ≤ x6.heap.size := hb6.size
              have GL : x2.heap.size < x5.heap.size := Row.lt RV5
              refine hK.out _ _ (KS.out _ kb6) (fun hHeld => ?_)
              clear hK K
              (try simp only [Act.put, List.getElem_toArray, List.getElem_cons_zero, List.getElem_cons_succ, List.setIfInBounds_toArray, List.set_cons_zero, List.set_cons_succ])
              refine wpAnyH_take (i := 5) (v := ?va5x39) rfl (by kernel_rfl) (by kernel_rfl) (by kernel_rfl) (fun _ _ _ h => h) (Or.inl ⟨by rfl, ?hy5x39⟩) (by assumption) ?rest5x39
              case hy5x39 => (intro w hSw; (try dsimp only at hSw); go_simp; try with_reducible rfl)
              (try simp only [Act.put, List.getElem_toArray, List.getElem_cons_zero, List.getElem_cons_succ, List.setIfInBounds_toArray, List.set_cons_zero, List.set_cons_succ])
              refine wpAnyH_take (i := 6) (v := ?va6x40) rfl (by kernel_rfl) (by kernel_rfl) (by kernel_rfl) (fun _ _ _ h => h) (Or.inl ⟨by rfl, ?hy6x40⟩) (by assumption) ?rest6x40
              case hy6x40 => (intro w hSw; (try dsimp only at hSw); go_simp; try with_reducible rfl)
              (try simp only [Act.put, List.getElem_toArray, List.getElem_cons_zero, List.getElem_cons_succ, List.setIfInBounds_toArray, List.set_cons_zero, List.set_cons_succ])
              refine wpAnyH_take (i := 7) (v := ?va7x41) rfl (by kernel_rfl) (by kernel_rfl) (by kernel_rfl) (fun _ _ _ h => h) (Or.inl ⟨by rfl, ?hy7x41⟩) (by assumption) ?rest7x41
              case hy7x41 => (intro w hSw; (try dsimp only at hSw); go_simp; try with_reducible rfl)
              (try simp only [Act.put, List.getElem_toArray, List.getElem_cons_zero, List.getElem_cons_succ, List.setIfInBounds_toArray, List.set_cons_zero, List.set_cons_succ])
              clear hHeld
              have kz := below_setRow kb6 (show yh.heap.size ≤ x2.heap.size from gz5) (w3 (.slice pa gr qa) G.n (.slice pc gd qc))
              have szz : (x6.setRow (x2.heap.size) (w3 (.slice pa gr qa) G.n (.slice pc gd qc))).heap.size = x6.heap.size := size_setRow _ _ _
              refine wpAnyH_ready (rs := [9]) (by kernel_rfl) (by simp) ?_
              refine AllReadyH.cons rfl (fun K hK => ?_) AllReadyH.nil
              rw [if_pos (by rfl)]
              refine wp_store_row 28 _ _ rfl (x2.heap.size) (w3 (.slice pa gr qa) G.n (.slice pc gd qc)) rfl rfl 28 (w3 nilV 0 nilV) RV6 info_work rfl (allW OG6) ?_
              refine hK.out _ _ (KS.out _ kz) (fun hHeld => ?_)
              clear hK K
              (try simp only [Act.put, List.getElem_toArray, List.getElem_cons_zero, List.getElem_cons_succ])
              refine wpAnyH_take (i := 10) (v := ?va10x42) rfl (by kernel_rfl) (by kernel_rfl) (by kernel_rfl) (fun _ _ _ h => h) (Or.inl ⟨by rfl, ?hy10x42⟩) (by assumption) ?rest10x42
              case hy10x42 => (intro w hSw; (try dsimp only at hSw); go_simp; try with_reducible rfl)
              (try simp only [Act.put, List.getElem_toArray, List.getElem_cons_zero, List.getElem_cons_succ, List.setIfInBounds_toArray, List.set_cons_zero, List.set_cons_succ])
              refine wpAnyH_done (by kernel_rfl) ?_ _
              clear hHeld
              go_wp2_with fail
              go_meet
              case rel => exact ⟨x2.heap.size, x5.heap.size, x6.heap.size, pa, qa, pc, qc, rfl, rfl, Row.below Rx.out kz, Row.below Rs.out kz, Row.below RW.out kz, Row.below RX.out kz, Row.below RG.out kz, Row.put RV6 _, OwnW.below OW.out kz, OwnW.below OG.out kz, OwnW.wholeRow OG6 RV6 (w3 (.slice pa gr qa) G.n (.slice pc gd qc)), bst L.out kz L.out.size, lz, (by unfold Hid; rw [szz]; exact hq6), gz5, (by unfold Hid; rw [szz]; exact Row.lt RV6), (.inl GL), (by unfold Hid; rw [szz]; exact kb6.size), lh⟩
          · clear hHeld
            obtain ⟨x7, hx7⟩ : ∃ x, x = x1.alloc (.cells (w3 nilV 0 nilV) 28) := ⟨_, rfl⟩
            have hb7 : Below x1.heap.size x1 x7 := by rw [hx7]; exact below1 x1 (.cells (w3 nilV 0 nilV) 28)
            have kb7 := bst kb1 hb7 kb1.size
            have IA7 := OwnW.below IA1 hb7
            have RV7 : Row x7 x1.heap.size 28 (w3 nilV 0 nilV) := by rw [hx7]; exact Row.new x1 _ _
            have gz7 : yh.heap.size ≤ x1.heap.size := kb1.size
            have gl7 : x1.heap.size < x7.heap.size := Row.lt RV7
            go_simp
            rw [← hx7]
            refine hK.out _ _ (KS.out _ kb7) (fun hHeld => ?_)
            clear hK K hb7 hx7
            (try simp only [Act.put, List.getElem_toArray, List.getElem_cons_zero, List.getElem_cons_succ, List.setIfInBounds_toArray, List.set_cons_zero, List.set_cons_succ])
            refine wpAnyH_ready (rs := [3]) (by kernel_rfl) (by simp) ?_
            refine AllReadyH.cons rfl (fun K hK => ?_) AllReadyH.nil
            clear hHeld
            go_simp
            refine (c_toWorkStep sk sx sy _).mono ?_
            rintro e x8 ⟨rfl, hb8⟩
            have kb8 := bst kb7 hb8 kb7.size
            have RV8 : Row x8 (x1.heap.size) 28 (w3 nilV 0 nilV) := Row.below RV7 hb8
            have IA8 := OwnW.below IA7 hb8
            refine hK.out _ _ (KS.out _ kb8) (fun hHeld => ?_)
            clear hK K
            (try simp only [Act.put, List.getElem_toArray, List.getElem_cons_zero, List.getElem_cons_succ, List.setIfInBounds_toArray, List.set_cons_zero, List.set_cons_succ])
            refine wpAnyH_ready (rs := [4]) (by kernel_rfl) (by simp) ?_
            refine AllReadyH.cons rfl (fun K hK => ?_) AllReadyH.nil
            clear hHeld
            go_simp
            refine (HI.out _ a1 c1 (IA8.readsC)).mono ?_
            rintro e x9 ⟨a2, c2, rfl, ho9, hb9⟩
            have kb9 := bst kb8 hb9 kb8.size
            have RV9 : Row x9 (x1.heap.size) 28 (w3 nilV 0 nilV) := Row.below RV8 hb9
            have IA9 := OwnW.below IA8 hb9
            have hsh := ho9.shapes
            simp only [HNgr.out, HNgd.out] at hsh
            obtain ⟨⟨pa, qa, rfl⟩, ⟨pc, qc, rfl⟩⟩ := hsh
            have OG9 := ho9
            have hq9 : x9.heap.size ≤ x9.heap.size := Nat.le_refl _
            have lz : yh.heap.size ≤ x8.heap.size := kb8.size
            have lh : x8.heap.size ≤ x9.heap.size := hb9.size
            have GL : x1.heap.size < x8.heap.size := Row.lt RV8
            refine hK.out _ _ (KS.out _ kb9) (fun hHeld => ?_)
            clear hK K
            (try simp only [Act.put, List.getElem_toArray, List.getElem_cons_zero, List.getElem_cons_succ, List.setIfInBounds_toArray, List.set_cons_zero, List.set_cons_succ])
            refine wpAnyH_take (i := 5) (v := ?va5x43) rfl (by kernel_rfl) (by kernel_rfl) (by kernel_rfl) (fun _ _ _ h => h) (Or.inl ⟨by rfl, ?hy5x43⟩) (by assumption) ?rest5x43
            case hy5x43 => (intro w hSw; (try dsimp only at hSw); go_simp; try with_reducible rfl)
            (try simp only [Act.put, List.getElem_toArray, List.getElem_cons_zero, List.getElem_cons_succ, List.setIfInBounds_toArray, List.set_cons_zero, List.set_cons_succ])
            refine wpAnyH_take (i := 6) (v := ?va6x44) rfl (by kernel_rfl) (by kernel_rfl) (by kernel_rfl) (fun _ _ _ h => h) (Or.inl ⟨by rfl, ?hy6x44⟩) (by assumption) ?rest6x44
            case hy6x44 => (intro w hSw; (try dsimp only at hSw); go_simp; try with_reducible rfl)
            (try simp only [Act.put, List.getElem_toArray, List.getElem_cons_zero, List.getElem_cons_succ, List.setIfInBounds_toArray, List.set_cons_zero, List.set_cons_succ])
            refine wpAnyH_take (i := 7) (v := ?va7x45) rfl (by kernel_rfl) (by kernel_rfl) (by kernel_rfl) (fun _ _ _ h => h) (Or.inl ⟨by rfl, ?hy7x45⟩) (by assumption) ?rest7x45
            case hy7x45 => (intro w hSw; (try dsimp only at hSw); go_simp; try with_reducible rfl)
            (try simp only [Act.put, List.getElem_toArray, List.getElem_cons_zero, List.getElem_cons_succ, List.setIfInBounds_toArray, List.set_cons_zero, List.set_cons_succ])
            clear hHeld
            have kz := below_setRow kb9 (show yh.heap.size ≤ x1.heap.size from gz7) (w3 (.slice pa gr qa) G.n (.slice pc gd qc))
            have szz : (x9.setRow (x1.heap.size) (w3 (.slice pa gr qa) G.n (.slice pc gd qc))).heap.size = x9.heap.size := size_setRow _ _ _
            refine wpAnyH_ready (rs := [9]) (by kernel_rfl) (by simp) ?_
            refine AllReadyH.cons rfl (fun K hK => ?_) AllReadyH.nil
            rw [if_pos (by rfl)]
            refine wp_store_row 28 _ _ rfl (x1.heap.size) (w3 (.slice pa gr qa) G.n (.slice pc gd qc)) rfl rfl 28 (w3 nilV 0 nilV) RV9 info_work rfl (allW OG9) ?_
            refine hK.out _ _ (KS.out _ kz) (fun hHeld => ?_)
            clear hK K
            (try simp only [Act.put, List.getElem_toArray, List.getElem_cons_zero, List.getElem_cons_succ])
            refine wpAnyH_take (i := 10) (v := ?va10x46) rfl (by kernel_rfl) (by kernel_rfl) (by kernel_rfl) (fun _ _ _ h => h) (Or.inl ⟨by rfl, ?hy10x46⟩) (by assumption) ?rest10x46
            case hy10x46 => (intro w hSw; (try dsimp only at hSw); go_simp; try with_reducible rfl)
            (try simp only [Act.put, List.getElem_toArray, List.getElem_cons_zero, List.getElem_cons_succ, List.setIfInBounds_toArray, List.set_cons_zero, List.set_cons_succ])
            refine wpAnyH_done (by kernel_rfl) ?_ _
            clear hHeld
            go_wp2_with fail
            go_meet
            case rel => exact ⟨x1.heap.size, x8.heap.size, x9.heap.size, pa, qa, pc, qc, rfl, rfl, Row.below Rx.out kz, Row.below Rs.out kz, Row.below RW.out kz, Row.below RX.out kz, Row.below RG.out kz, Row.put RV9 _, OwnW.below OW.out kz, OwnW.below OG.out kz, OwnW.wholeRow OG9 RV9 (w3 (.slice pa gr qa) G.n (.slice pc gd qc)), bst L.out kz L.out.size, lz, (by unfold Hid; rw [szz]; exact hq9), gz7, (by unfold Hid; rw [szz]; exact Row.lt RV9), (.inl GL), (by unfold Hid; rw [szz]; exact kb9.size), lh⟩
        · clear hHeld
          obtain ⟨x10, hx10⟩ : ∃ x, x = x0.alloc (.cells (w3 nilV 0 nilV) 28) := ⟨_, rfl⟩
          have hb10 : Below x0.heap.size x0 x10 := by rw [hx10]; exact below1 x0 (.cells (w3 nilV 0 nilV) 28)
          have kb10 := bst kb0 hb10 kb0.size
          have RV10 : Row x10 x0.heap.size 28 (w3 nilV 0 nilV) := by rw [hx10]; exact Row.new x0 _ _
          have gz10 : yh.heap.size ≤ x0.heap.size := kb0.size
          have gl10 : x0.heap.size < x10.heap.size := Row.lt RV10
          go_simp
          rw [← hx10]
          refine hK.out _ _ (KS.out _ kb10) (fun hHeld => ?_)
          clear hK K hb10 hx10
          (try simp only [Act.put, List.getElem_toArray, List.getElem_cons_zero, List.getElem_cons_succ, List.setIfInBounds_toArray, List.set_cons_zero, List.set_cons_succ])
          refine wpAnyH_ready (rs := [1]) (by kernel_rfl) (by simp) ?_
          refine AllReadyH.cons rfl (fun K hK => ?_) AllReadyH.nil
          clear hHeld
          go_simp
          refine (c_toWork (.slice paA nr qaA) (.slice pcA nd qcA) W _ (IZ.out.below kb10) HM.out).mono ?_
          rintro e x11 ⟨a1, c1, rfl, ho11, hb11⟩
          have kb11 := bst kb10 hb11 kb10.size
          have RV11 : Row x11 (x0.heap.size) 28 (w3 nilV 0 nilV) := Row.below RV10 hb11
          have IA11 := ho11
          refine hK.out _ _ (KS.out _ kb11) (fun hHeld => ?_)
          clear hK K
          (try simp only [Act.put, List.getElem_toArray, List.getElem_cons_zero, List.getElem_cons_succ, List.setIfInBounds_toArray, List.set_cons_zero, List.set_cons_succ])
          refine wpAnyH_ready (rs := [3]) (by kernel_rfl) (by simp) ?_
          refine AllReadyH.cons rfl (fun K hK => ?_) AllReadyH.nil
          clear hHeld
          go_simp
          refine (c_toWorkStep sk sx sy _).mono ?_
          rintro e x12 ⟨rfl, hb12⟩
          have kb12 := bst kb11 hb12 kb11.size
          have RV12 : Row x12 (x0.heap.size) 28 (w3 nilV 0 nilV) := Row.below RV11 hb12
          have IA12 := OwnW.below IA11 hb12
          refine hK.out _ _ (KS.out _ kb12) (fun hHeld => ?_)
          clear hK K
          (try simp only [Act.put, List.getElem_toArray, List.getElem_cons_zero, List.getElem_cons_succ, List.setIfInBounds_toArray, List.set_cons_zero, List.set_cons_succ])
          refine wpAnyH_ready (rs := [4]) (by kernel_rfl) (by simp) ?_
          refine AllReadyH.cons rfl (fun K hK => ?_) AllReadyH.nil
          clear hHeld
          go_simp
          refine (HI.out _ a1 c1 (IA12.readsC)).mono ?_
          rintro e x13 ⟨a2, c2, rfl, ho13, hb13⟩
          have kb13 := bst kb12 hb13 kb12.size
          have RV13 : Row x13 (x0.heap.size) 28 (w3 nilV 0 nilV) := Row.below RV12 hb13
          have IA13 := OwnW.below IA12 hb13
          have hsh := ho13.shapes
          simp only [HNgr.out, HNgd.out] at hsh
          obtain ⟨⟨pa, qa, rfl⟩, ⟨pc, qc, rfl⟩⟩ := hsh
          have OG13 := ho13
          have hq13 : x13.heap.size ≤ x13.heap.size := Nat.le_refl _
          have lz : yh.heap.size ≤ x12.heap.size := kb12.size
          have lh : x12.heap.size ≤ x13.heap.size := hb13.size
          have GL : x0.heap.size < x12.heap.size := Row.lt RV12
          refine hK.out _ _ (KS.out _ kb13) (fun hHeld => ?_)
          clear hK K
          (try simp only [Act.put, List.getElem_toArray, List.getElem_cons_zero, List.getElem_cons_succ, List.setIfInBounds_toArray, List.set_cons_zero, List.set_cons_succ])
          refine wpAnyH_take (i := 5) (v := ?va5x47) rfl (by kernel_rfl) (by kernel_rfl) (by kernel_rfl) (fun _ _ _ h => h) (Or.inl ⟨by rfl, ?hy5x47⟩) (by assumption) ?rest5x47
          case hy5x47 => (intro w hSw; (try dsimp only at hSw); go_simp; try with_reducible rfl)
          (try simp only [Act.put, List.getElem_toArray, List.getElem_cons_zero, List.getElem_cons_succ, List.setIfInBounds_toArray, List.set_cons_zero, List.set_cons_succ])
          refine wpAnyH_take (i := 6) (v := ?va6x48) rfl (by kernel_rfl) (by kernel_rfl) (by kernel_rfl) (fun _ _ _ h => h) (Or.inl ⟨by rfl, ?hy6x48⟩) (by assumption) ?rest6x48
          case hy6x48 => (intro w hSw; (try dsimp only at hSw); go_simp; try with_reducible rfl)
          (try simp only [Act.put, List.getElem_toArray, List.getElem_cons_zero, List.getElem_cons_succ, List.setIfInBounds_toArray, List.set_cons_zero, List.set_cons_succ])
          refine wpAnyH_take (i := 7) (v := ?va7x49) rfl (by kernel_rfl) (by kernel_rfl) (by kernel_rfl) (fun _ _ _ h => h) (Or.inl ⟨by rfl, ?hy7x49⟩) (by assumption) ?rest7x49
          case hy7x49 => (intro w hSw; (try dsimp only at hSw); go_simp; try with_reducible rfl)
          (try simp only [Act.put, List.getElem_toArray, List.getElem_cons_zero, List.getElem_cons_succ, List.setIfInBounds_toArray, List.set_cons_zero, List.set_cons_succ])
          clear hHeld
          have kz := below_setRow kb13 (show yh.heap.size ≤ x0.heap.size from gz10) (w3 (.slice pa gr qa) G.n (.slice pc gd qc))
          have szz : (x13.setRow (x0.heap.size) (w3 (.slice pa gr qa) G.n (.slice pc gd qc))).heap.size = x13.heap.size := size_setRow _ _ _
          refine wpAnyH_ready (rs := [9]) (by kernel_rfl) (by simp) ?_
          refine AllReadyH.cons rfl (fun K hK => ?_) AllReadyH.nil
          rw [if_pos (by rfl)]
          refine wp_store_row 28 _ _ rfl (x0.heap.size) (w3 (.slice pa gr qa) G.n (.slice pc gd qc)) rfl rfl 28 (w3 nilV 0 nilV) RV13 info_work rfl (allW OG13) ?_
          refine hK.out _ _ (KS.out _ kz) (fun hHeld => ?_)
          clear hK K
          (try simp only [Act.put, List.getElem_toArray, List.getElem_cons_zero, List.getElem_cons_succ])
          refine wpAnyH_take (i := 10) (v := ?va10x50) rfl (by kernel_rfl) (by kernel_rfl) (by kernel_rfl) (fun _ _ _ h => h) (Or.inl ⟨by rfl, ?hy10x50⟩) (by assumption) ?rest10x50
          case hy10x50 => (intro w hSw; (try dsimp only at hSw); go_simp; try with_reducible rfl)
          (try simp only [Act.put, List.getElem_toArray, List.getElem_cons_zero, List.getElem_cons_succ, List.setIfInBounds_toArray, List.set_cons_zero, List.set_cons_succ])
          refine wpAnyH_done (by kernel_rfl) ?_ _
          clear hHeld
          go_wp2_with fail
          go_meet
          case rel => exact ⟨x0.heap.size, x12.heap.size, x13.heap.size, pa, qa, pc, qc, rfl, rfl, Row.below Rx.out kz, Row.below Rs.out kz, Row.below RW.out kz, Row.below RX.out kz, Row.below RG.out kz, Row.put RV13 _, OwnW.below OW.out kz, OwnW.below OG.out kz, OwnW.wholeRow OG13 RV13 (w3 (.slice pa gr qa) G.n (.slice pc gd qc)), bst L.out kz L.out.size, lz, (by unfold Hid; rw [szz]; exact hq13), gz10, (by unfold Hid; rw [szz]; exact Row.lt RV13), (.inl GL), (by unfold Hid; rw [szz]; exact kb13.size), lh⟩
      case rest =>
        clear KS IZ L Rx Rs RW RX RG OW OG
        obtain ⟨gBH, loH, hiH, paH, qaH, pcH, qcH, rfl, rfl, Rx, Rs, RW, RX, RG, RH, OW, OG, OH, L, S26, S27, S28, S29, S30, S31, S32⟩ := hcut
        obtain ⟨wy3, hwy⟩ : ∃ y, y = wc := ⟨_, rfl⟩
        subst hwy
        have c0x := Row.cell Rx.out 0
        have c1x := Row.cell Rx.out 1
        have c2x := Row.cell Rx.out 2
        have ltx := Row.lt Rx.out
        have c0s := Row.cell Rs.out 0
        have c1s := Row.cell Rs.out 1
        have c2s := Row.cell Rs.out 2
        have lts := Row.lt Rs.out
        have c0W := Row.cell RW.out 0
        have c1W := Row.cell RW.out 1
        have c2W := Row.cell RW.out 2
        have ltW := Row.lt RW.out
        have c0X := Row.cell RX.out 0
        have c1X := Row.cell RX.out 1
        have c2X := Row.cell RX.out 2
        have ltX := Row.lt RX.out
        have c0G := Row.cell RG.out 0
        have c1G := Row.cell RG.out 1
        have c2G := Row.cell RG.out 2
        have ltG := Row.lt RG.out
        have c0H := Row.cell RH.out 0
        have c1H := Row.cell RH.out 1
        have c2H := Row.cell RH.out 2
        have ltH := Row.lt RH.out
        go_wp2_with fail
        clear c0x c1x c2x ltx c0s c1s c2s lts c0W c1W c2W ltW c0X c1X c2X ltX c0G c1G c2G ltG c0H c1H c2H ltH
        refine (c_eqWork (.slice paH gr qaH) (.slice pcH gd qcH) (.slice paW gr qaW) (.slice pcW gd qcW) G _ OH.out.reads OW.out.reads HRZ.out.2.2).mono ?_
        rintro e yg ⟨rfl, hb⟩
        replace Rx := Lib.hid (Row.below Rx.out hb)
        replace Rs := Lib.hid (Row.below Rs.out hb)
        replace RW := Lib.hid (Row.below RW.out hb)
        replace RX := Lib.hid (Row.below RX.out hb)
        replace RG := Lib.hid (Row.below RG.out hb)
        replace RH := Lib.hid (Row.below RH.out hb)
        replace OW := Lib.hid (OwnW.below OW.out hb)
        replace OG := Lib.hid (OwnW.below OG.out hb)
        replace OH := Lib.hid (OwnW.below OH.out hb)
        have S33 : Hid (wy3.heap.size ≤ yg.heap.size) := hb.size
        replace L := Lib.hid (bst L.out hb L.out.size)
        clear hb
        have c0x := Row.cell Rx.out 0
        have c1x := Row.cell Rx.out 1
        have c2x := Row.cell Rx.out 2
        have ltx := Row.lt Rx.out
        have c0s := Row.cell Rs.out 0
        have c1s := Row.cell Rs.out 1
        have c2s := Row.cell Rs.out 2
        have lts := Row.lt Rs.out
        have c0W := Row.cell RW.out 0
        have c1W := Row.cell RW.out 1
        have c2W := Row.cell RW.out 2
        have ltW := Row.lt RW.out
        have c0X := Row.cell RX.out 0
        have c1X := Row.cell RX.out 1
        have c2X := Row.cell RX.out 2
        have ltX := Row.lt RX.out
        have c0G := Row.cell RG.out 0
        have c1G := Row.cell RG.out 1
        have c2G := Row.cell RG.out 2
        have ltG := Row.lt RG.out
        have c0H := Row.cell RH.out 0
        have c1H := Row.cell RH.out 1
        have c2H := Row.cell RH.out 2
        have ltH := Row.lt RH.out
        go_wp2_with fail
        clear c0x c1x c2x ltx c0s c1s c2s lts c0W c1W c2W ltW c0X c1X c2X ltX c0G c1G c2G ltG c0H c1H c2H ltH
        refine (c_heldWork (.slice paG gr qaG) G.n (.slice pcG gd qcG) G 1 _ OG.out.reads (by omega) (by rw [HSMg.out]; have h9 := HRZ.out; omega) (by rw [HNgr.out]; have h9 := HRZ.out; omega)).mono ?_
        rintro e yi ⟨rfl, hb⟩
        rw [HSMg.out]
        replace Rx := Lib.hid (Row.below Rx.out hb)
        replace Rs := Lib.hid (Row.below Rs.out hb)
        replace RW := Lib.hid (Row.below RW.out hb)
        replace RX := Lib.hid (Row.below RX.out hb)
        replace RG := Lib.hid (Row.below RG.out hb)
        replace RH := Lib.hid (Row.below RH.out hb)
        replace OW := Lib.hid (OwnW.below OW.out hb)
        replace OG := Lib.hid (OwnW.below OG.out hb)
        replace OH := Lib.hid (OwnW.below OH.out hb)
        have S34 : Hid (yg.heap.size ≤ yi.heap.size) := hb.size
        replace L := Lib.hid (bst L.out hb L.out.size)
        clear hb
        have c0x := Row.cell Rx.out 0
        have c1x := Row.cell Rx.out 1
        have c2x := Row.cell Rx.out 2
        have ltx := Row.lt Rx.out
        have c0s := Row.cell Rs.out 0
        have c1s := Row.cell Rs.out 1
        have c2s := Row.cell Rs.out 2
        have lts := Row.lt Rs.out
        have c0W := Row.cell RW.out 0
        have c1W := Row.cell RW.out 1
        have c2W := Row.cell RW.out 2
        have ltW := Row.lt RW.out
        have c0X := Row.cell RX.out 0
        have c1X := Row.cell RX.out 1
        have c2X := Row.cell RX.out 2
        have ltX := Row.lt RX.out
        have c0G := Row.cell RG.out 0
        have c1G := Row.cell RG.out 1
        have c2G := Row.cell RG.out 2
        have ltG := Row.lt RG.out
        have c0H := Row.cell RH.out 0
        have c1H := Row.cell RH.out 1
        have c2H := Row.cell RH.out 2
        have ltH := Row.lt RH.out
        go_wp2_with fail
        clear c0x c1x c2x ltx c0s c1s c2s lts c0W c1W c2W ltW c0X c1X c2X ltX c0G c1G c2G ltG c0H c1H c2H ltH
        go_ret
        exact ⟨rfl, L.out⟩
set_option maxHeartbeats 1600000 in
set_option maxRecDepth 100000 in
theorem walk_FnExactStepWork (a c : Value) (W : Wk) (sk sx sy : Int) (w : World) (hzx : WorkAt w a c W) (hfx : FitW W) : Calls Try.prog 7 #[wkv a W.n c, stv sk sx sy] w fun e w' => e = .returned (.bool true) ∧ Below w.heap.size w w' := by
  by_cases hm : wtW W ≤ 1048576
  · have hd : W.d.length ≤ 1048576 := by unfold wtW at hm; omega
    exact core_FnExactStepWork a c W sk sx sy (stepW W (sk, sx, sy))  (goodB W && en W (sk, sx, sy)) w hzx hm (wt_step W (sk, sx, sy)) (fun w a c h => s_StepWork a c W sk sx sy w h (by omega)) (fun w a c h => c_StepWork a c W sk sx sy w h (by omega))
  · have HB0 := Lib.hid ((below1 w (.cells (w3 a W.n c) 54)).alloc (by simp) (.cells (s3c sk sx sy) 58))
    have HA0 := Lib.hid (hzx.below HB0.out)
    have HF := Lib.hid hfx
    have HMM : Hid ((1048576 : Int) < (wtW W : Int)) := by unfold Hid; omega
    have HC := Lib.hid (c_szWork_no a W.n c W 1048576 _ HA0.out HF.out (by omega) (by omega) HMM.out)
    clear hzx HA0 hfx HF HMM hm
    go_enter Try.func7, Try.ntmps7
    go_wp2_with fail
    refine HC.out.mono ?_
    rintro e w1 ⟨rfl, hb1⟩
    have HB1 := Lib.hid (bst HB0.out hb1 HB0.out.size)
    clear hb1 HC
    go_wp2
    go_ret
    exact ⟨rfl, HB1.out⟩
end Go.Proofs.Ytkbphmnacdpdgaa
