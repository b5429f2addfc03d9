/- The walk. -/
import Derived.Test.YtbmfkgfmibpkjaaPB9
namespace Go.Proofs.Ytbmfkgfmibpkjaa
open Go.RowKit Ph

set_option maxHeartbeats 25600000 in
set_option maxRecDepth 100000 in
theorem core_FnExactStepByPut (ax bx cx dx : Value) (hx : H) (zx : List Int) (v : Mv) (gh : H) (gz : List Int) (ok : Bool) (w : World) (hzx : HeapAt w ax bx cx hx) (hyx : IntsAt w dx zx) (hm : wtH hx + zx.length ≤ 1048576) (hrs : wtH gh + gz.length ≤ 2000)
    (hS : ∀ (w : World) (ax bx cx dx : Value), HeapAt w ax bx cx hx → IntsAt w dx zx → Calls Try.prog 23 #[mv ax bx cx dx, mo v] w (EndM gh gz ok w))
    (hI : ∀ (w : World) (ax bx cx dx : Value), HeapAt w ax bx cx hx → IntsAt w dx zx → Calls Try.prog 24 #[mv ax bx cx dx, mo v] w (EndM gh gz ok w)) :
    Calls Try.prog 4 #[mv ax bx cx dx, mo v] w fun e w' => e = .returned (.bool true) ∧ Below w.heap.size w w' := by
  have HZ := Lib.hid hzx; have HY := Lib.hid hyx
  have HS := Lib.hid hS; have HI := Lib.hid hI
  clear hS hI
  obtain ⟨paA, qaA, rfl⟩ := hzx.f.shape
  obtain ⟨pbA, qbA, rfl⟩ := hzx.l.shape
  obtain ⟨pcA, qcA, rfl⟩ := hzx.r.shape
  obtain ⟨pdA, qdA, rfl⟩ := hyx.shape
  clear hzx hyx
  have HSZ : Hid (szM hx ≤ 1048576 ∧ hx.f.length ≤ 1048576) := by unfold Hid szM; have := hm; unfold wtH wt at this; omega
  have HRZ : Hid (szM gh ≤ 2000 ∧ gh.f.length ≤ 1048576 ∧ wtH gh ≤ 1048576 ∧ gz.length ≤ 1048576) := by
    have h1 : szM gh ≤ 2000 ∧ gh.f.length ≤ 1048576 := by unfold szM; have := hrs; unfold wtH wt at this; omega
    exact ⟨h1.1, h1.2, by omega, by omega⟩
  clear hrs
  generalize hwt : wtH hx = wt at *
  have HWT := Lib.hid hwt; clear hwt
  generalize hnnf : hx.f.length = nf at *
  have HNnf := Lib.hid hnnf; clear hnnf
  generalize hnnl : hx.l.length = nl at *
  have HNnl := Lib.hid hnnl; clear hnnl
  generalize hnnr : hx.r.length = nr at *
  have HNnr := Lib.hid hnnr; clear hnnr
  generalize hnnc : zx.length = nc at *
  have HNnc := Lib.hid hnnc; clear hnnc
  generalize hngf : gh.f.length = gf at *
  have HNgf := Lib.hid hngf; clear hngf
  generalize hngl : gh.l.length = gl at *
  have HNgl := Lib.hid hngl; clear hngl
  generalize hngr : gh.r.length = gr at *
  have HNgr := Lib.hid hngr; clear hngr
  generalize hngc : gz.length = gc at *
  have HNgc := Lib.hid hngc; clear hngc
  generalize hsz : szM hx = sz at *
  have HSM := Lib.hid hsz; clear hsz
  generalize hszg : szM gh = szg at *
  have HSMg := Lib.hid hszg; clear hszg
  have HM : Hid (wtH hx ≤ 1048576) := by unfold Hid; rw [HWT.out]; omega
  have HMnc : Hid (zx.length ≤ 1048576) := by unfold Hid; rw [HNnc.out]; omega
  have hl0 : ¬ ((1048576 : Int) - (wt : Int) - (nc : Int)) < 0 := by omega
  have e1 : (ok != ok) = false := by simp
  obtain ⟨vk, va, vb, vt⟩ := v
  have L := Lib.hid ((below1 w (.cells (m4 (.slice paA nf qaA) (.slice pbA nl qbA) (.slice pcA nr qcA) (.slice pdA nc qdA)) 28)).alloc (by simp) (.cells (mo4 ⟨vk, va, vb, vt⟩) 30))
  have Rx : Hid (Row ((w.alloc (.cells (m4 (.slice paA nf qaA) (.slice pbA nl qbA) (.slice pcA nr qcA) (.slice pdA nc qdA)) 28)).alloc (.cells (mo4 ⟨vk, va, vb, vt⟩) 30)) w.heap.size 28 (m4 (.slice paA nf qaA) (.slice pbA nl qbA) (.slice pcA nr qcA) (.slice pdA nc qdA))) := (Row.new w _ _).alloc (.cells (mo4 ⟨vk, va, vb, vt⟩) 30)
  have Rv : Hid (Row ((w.alloc (.cells (m4 (.slice paA nf qaA) (.slice pbA nl qbA) (.slice pcA nr qcA) (.slice pdA nc qdA)) 28)).alloc (.cells (mo4 ⟨vk, va, vb, vt⟩) 30)) (w.heap.size + 1) 30 (mo4 ⟨vk, va, vb, vt⟩)) := Row.new1 w (.cells (m4 (.slice paA nf qaA) (.slice pbA nl qbA) (.slice pcA nr qcA) (.slice pdA nc qdA)) 28) 30 (mo4 ⟨vk, va, vb, vt⟩)
  have S1 : Hid (w.heap.size + 2 ≤ ((w.alloc (.cells (m4 (.slice paA nf qaA) (.slice pbA nl qbA) (.slice pcA nr qcA) (.slice pdA nc qdA)) 28)).alloc (.cells (mo4 ⟨vk, va, vb, vt⟩) 30)).heap.size) := (by unfold Hid; simp)
  go_enter Try.func4, Try.ntmps4
  have c0x := Row.cell Rx.out 0
  have c1x := Row.cell Rx.out 1
  have c2x := Row.cell Rx.out 2
  have c3x := Row.cell Rx.out 3
  have c0v := Row.cell Rv.out 0
  have c1v := Row.cell Rv.out 1
  have c2v := Row.cell Rv.out 2
  have c3v := Row.cell Rv.out 3
  go_wp2_with fail
  clear c0x c1x c2x c3x c0v c1v c2v c3v
  refine (c_szMarking_yes (.slice paA nf qaA) (.slice pbA nl qbA) (.slice pcA nr qcA) (.slice pdA nc qdA) hx zx 1048576 _ (HZ.out.below L.out) (HY.out.below L.out) (by omega) (by rw [HWT.out, HNnc.out]; omega)).mono ?_
  rintro e ws ⟨rfl, hb⟩
  rw [HWT.out, HNnc.out]
  replace Rx := Lib.hid (Row.below Rx.out hb)
  replace Rv := Lib.hid (Row.below Rv.out hb)
  have S2 : Hid (((w.alloc (.cells (m4 (.slice paA nf qaA) (.slice pbA nl qbA) (.slice pcA nr qcA) (.slice pdA nc qdA)) 28)).alloc (.cells (mo4 ⟨vk, va, vb, vt⟩) 30)).heap.size ≤ ws.heap.size) := hb.size
  replace L := Lib.hid (bst L.out hb L.out.size)
  clear hb
  have c0x := Row.cell Rx.out 0
  have c1x := Row.cell Rx.out 1
  have c2x := Row.cell Rx.out 2
  have c3x := Row.cell Rx.out 3
  have c0v := Row.cell Rv.out 0
  have c1v := Row.cell Rv.out 1
  have c2v := Row.cell Rv.out 2
  have c3v := Row.cell Rv.out 3
  go_wp2_with fail
  clear c0x c1x c2x c3x c0v c1v c2v c3v
  go_cut [6, 7] from 22 (fun s6 s7 wk => ∃ (gW loW hiW : Nat) (paW : Option Addr) (qaW : Nat) (pbW : Option Addr) (qbW : Nat) (pcW : Option Addr) (qcW : Nat) (pdW : Option Addr) (qdW : Nat), s6 = .pointer (some ⟨gW, 0, none⟩) ∧ s7 = .bool ok ∧ Hid (Row wk (w.heap.size) 28 (m4 (.slice paA nf qaA) (.slice pbA nl qbA) (.slice pcA nr qcA) (.slice pdA nc qdA))) ∧ Hid (Row wk (w.heap.size + 1) 30 (mo4 ⟨vk, va, vb, vt⟩)) ∧ Hid (Row wk gW 34 (m4 (.slice paW gf qaW) (.slice pbW gl qbW) (.slice pcW gr qcW) (.slice pdW gc qdW))) ∧ Hid (OwnM wk loW hiW (.slice paW gf qaW) (.slice pbW gl qbW) (.slice pcW gr qcW) (.slice pdW gc qdW) gh gz) ∧ Hid (Below w.heap.size w wk) ∧ Hid (ws.heap.size ≤ gW ∧ ws.heap.size ≤ loW ∧ loW ≤ hiW ∧ hiW ≤ wk.heap.size ∧ gW < wk.heap.size ∧ (gW < loW ∨ hiW ≤ gW)))
  case first =>
    have hbd : Below ws.heap.size ws ws.drew := below_drew (Below.refl _ _)
    replace Rx := Lib.hid (Row.below Rx.out hbd)
    replace Rv := Lib.hid (Row.below Rv.out hbd)
    have S3 : Hid (ws.heap.size ≤ ws.drew.heap.size) := hbd.size
    replace L := Lib.hid (bst L.out hbd L.out.size)
    clear hbd
    refine wp_region_held_drew (S := (fun w' => w'.cell? ⟨w.heap.size + 1, 0, none⟩ = some (.int .i64 vk) ∧ w'.cell? ⟨w.heap.size + 1, 1, none⟩ = some (.int .i64 va) ∧ w'.cell? ⟨w.heap.size + 1, 2, none⟩ = some (.int .i64 vb) ∧ w'.cell? ⟨w.heap.size + 1, 3, none⟩ = some (.int .i64 vt) ∧ w'.cell? ⟨w.heap.size, 0, none⟩ = some (.slice paA nf qaA) ∧ w'.cell? ⟨w.heap.size, 1, none⟩ = some (.slice pbA nl qbA) ∧ w'.cell? ⟨w.heap.size, 2, none⟩ = some (.slice pcA nr qcA) ∧ w'.cell? ⟨w.heap.size, 3, none⟩ = some (.slice pdA nc qdA))) (by kernel_rfl) (⟨Row.cell Rv.out 0, Row.cell Rv.out 1, Row.cell Rv.out 2, Row.cell Rv.out 3, Row.cell Rx.out 0, Row.cell Rx.out 1, Row.cell Rx.out 2, Row.cell Rx.out 3⟩) (fun hHeld => ?_)
    generalize ws.drew = d4 at *
    refine wpAnyH_take (i := 0) (v := ?va0x51) rfl (by kernel_rfl) (by kernel_rfl) (by kernel_rfl) (fun _ _ _ h => h) (Or.inl ⟨by rfl, ?hy0x51⟩) (by assumption) ?rest0x51
    case hy0x51 => (intro w hSw; (try dsimp only at hSw); go_simp; try with_reducible rfl)
    (try simp only [Act.put, List.getElem_toArray, List.getElem_cons_zero, List.setIfInBounds_toArray, List.set_cons_zero, List.set_cons_succ])
    refine wpAnyH_take (i := 2) (v := ?va2x52) rfl (by kernel_rfl) (by kernel_rfl) (by kernel_rfl) (fun _ _ _ h => h) (Or.inl ⟨by rfl, ?hy2x52⟩) (by assumption) ?rest2x52
    case hy2x52 => (intro w hSw; (try dsimp only at hSw); go_simp; try with_reducible rfl)
    (try simp only [Act.put, List.getElem_toArray, List.getElem_cons_zero, List.getElem_cons_succ, List.setIfInBounds_toArray, List.set_cons_zero, List.set_cons_succ])
    have Zx : Hid (w.heap.size < d4.heap.size) := Row.lt Rx.out
    have Zv : Hid (w.heap.size + 1 < d4.heap.size) := Row.lt Rv.out
    refine wpAnyH_ready (rs := [1, 8]) (by kernel_rfl) (by simp) ?_
    refine AllReadyH.cons rfl (fun K hK => ?_) (AllReadyH.cons rfl (fun K hK => ?_) (AllReadyH.nil))
    · skip
      go_simp
      refine (c_toMarking (.slice paA nf qaA) (.slice pbA nl qbA) (.slice pcA nr qcA) (.slice pdA nc qdA) hx zx _ (HZ.out.below L.out) (HY.out.below L.out) HM.out HMnc.out).mono ?_
      rintro e y5 ⟨aQ, bQ, cQ, dQ, rfl, ho, hb⟩
      have hsh := ho.shapes
      simp only [HNnf.out, HNnl.out, HNnr.out, HNnc.out] at hsh
      obtain ⟨⟨paQ, qaQ, rfl⟩, ⟨pbQ, qbQ, rfl⟩, ⟨pcQ, qcQ, rfl⟩, ⟨pdQ, qdQ, rfl⟩⟩ := hsh
      have OQ : Hid (OwnM y5 d4.heap.size y5.heap.size (.slice paQ nf qaQ) (.slice pbQ nl qbQ) (.slice pcQ nr qcQ) (.slice pdQ nc qdQ) hx zx) := ho
      clear ho
      replace Rx := Lib.hid (Row.below Rx.out hb)
      replace Rv := Lib.hid (Row.below Rv.out hb)
      have S6 : Hid (d4.heap.size ≤ y5.heap.size) := hb.size
      replace L := Lib.hid (bst L.out hb L.out.size)
      clear hb
      refine hK.out _ _ ⟨Row.cell Rv.out 0, Row.cell Rv.out 1, Row.cell Rv.out 2, Row.cell Rv.out 3, Row.cell Rx.out 0, Row.cell Rx.out 1, Row.cell Rx.out 2, Row.cell Rx.out 3⟩ (fun hHeld => ?_)
      clear hK K
      (try simp only [Act.put, List.getElem_toArray, List.getElem_cons_zero, List.getElem_cons_succ, List.setIfInBounds_toArray, List.set_cons_zero, List.set_cons_succ])
      refine wpAnyH_ready (rs := [3, 8]) (by kernel_rfl) (by simp) ?_
      refine AllReadyH.cons rfl (fun K hK => ?_) (AllReadyH.cons rfl (fun K hK => ?_) (AllReadyH.nil))
      · skip
        go_simp
        refine (c_toMove ⟨vk, va, vb, vt⟩ _).mono ?_
        rintro e y7 ⟨rfl, hb⟩
        replace Rx := Lib.hid (Row.below Rx.out hb)
        replace Rv := Lib.hid (Row.below Rv.out hb)
        replace OQ := Lib.hid (OwnM.below OQ.out hb)
        have S8 : Hid (y5.heap.size ≤ y7.heap.size) := hb.size
        replace L := Lib.hid (bst L.out hb L.out.size)
        clear hb
        refine hK.out _ _ ⟨Row.cell Rv.out 0, Row.cell Rv.out 1, Row.cell Rv.out 2, Row.cell Rv.out 3, Row.cell Rx.out 0, Row.cell Rx.out 1, Row.cell Rx.out 2, Row.cell Rx.out 3⟩ (fun hHeld => ?_)
        clear hK K
        (try simp only [Act.put, List.getElem_toArray, List.getElem_cons_zero, List.getElem_cons_succ, List.setIfInBounds_toArray, List.set_cons_zero, List.set_cons_succ])
        refine wpAnyH_ready (rs := [4, 8]) (by kernel_rfl) (by simp) ?_
        refine AllReadyH.cons rfl (fun K hK => ?_) (AllReadyH.cons rfl (fun K hK => ?_) (AllReadyH.nil))
        · skip
          go_simp
          refine (HS.out _ (.slice paQ nf qaQ) (.slice pbQ nl qbQ) (.slice pcQ nr qcQ) (.slice pdQ nc qdQ) OQ.out.heap OQ.out.cols).mono ?_
          rintro e y9 ⟨aW, bW, cW, dW, rfl, ho, hb⟩
          have hsh := ho.shapes
          simp only [HNgf.out, HNgl.out, HNgr.out, HNgc.out] at hsh
          obtain ⟨⟨paW, qaW, rfl⟩, ⟨pbW, qbW, rfl⟩, ⟨pcW, qcW, rfl⟩, ⟨pdW, qdW, rfl⟩⟩ := hsh
          have OW : Hid (OwnM y9 y7.heap.size y9.heap.size (.slice paW gf qaW) (.slice pbW gl qbW) (.slice pcW gr qcW) (.slice pdW gc qdW) gh gz) := ho
          clear ho
          replace Rx := Lib.hid (Row.below Rx.out hb)
          replace Rv := Lib.hid (Row.below Rv.out hb)
          replace OQ := Lib.hid (OwnM.below OQ.out hb)
          have S10 : Hid (y7.heap.size ≤ y9.heap.size) := hb.size
          replace L := Lib.hid (bst L.out hb L.out.size)
          clear hb
          clear OQ
          refine hK.out _ _ ⟨Row.cell Rv.out 0, Row.cell Rv.out 1, Row.cell Rv.out 2, Row.cell Rv.out 3, Row.cell Rx.out 0, Row.cell Rx.out 1, Row.cell Rx.out 2, Row.cell Rx.out 3⟩ (fun hHeld => ?_)
          clear hK K
          (try simp only [Act.put, List.getElem_toArray, List.getElem_cons_zero, List.getElem_cons_succ, List.setIfInBounds_toArray, List.set_cons_zero, List.set_cons_succ])
          refine wpAnyH_take (i := 5) (v := ?va5x53) rfl (by kernel_rfl) (by kernel_rfl) (by kernel_rfl) (fun _ _ _ h => h) (Or.inl ⟨by rfl, ?hy5x53⟩) (by assumption) ?rest5x53
          case hy5x53 => (intro w hSw; (try dsimp only at hSw); go_simp; try with_reducible rfl)
          (try simp only [Act.put, List.getElem_toArray, List.getElem_cons_zero, List.getElem_cons_succ, List.setIfInBounds_toArray, List.set_cons_zero, List.set_cons_succ])
          refine wpAnyH_take (i := 6) (v := ?va6x54) rfl (by kernel_rfl) (by kernel_rfl) (by kernel_rfl) (fun _ _ _ h => h) (Or.inl ⟨by rfl, ?hy6x54⟩) (by assumption) ?rest6x54
          case hy6x54 => (intro w hSw; (try dsimp only at hSw); go_simp; try with_reducible rfl)
          (try simp only [Act.put, List.getElem_toArray, List.getElem_cons_zero, List.getElem_cons_succ, List.setIfInBounds_toArray, List.set_cons_zero, List.set_cons_succ])
          refine wpAnyH_take (i := 7) (v := ?va7x55) rfl (by kernel_rfl) (by kernel_rfl) (by kernel_rfl) (fun _ _ _ h => h) (Or.inl ⟨by rfl, ?hy7x55⟩) (by assumption) ?rest7x55
          case hy7x55 => (intro w hSw; (try dsimp only at hSw); go_simp; try with_reducible rfl)
          (try simp only [Act.put, List.getElem_toArray, List.getElem_cons_zero, List.getElem_cons_succ, List.setIfInBounds_toArray, List.set_cons_zero, List.set_cons_succ])
          refine wpAnyH_ready (rs := [8]) (by kernel_rfl) (by simp) ?_
          refine AllReadyH.cons rfl (fun K hK => ?_) (AllReadyH.nil)
          have hb := below1 y9 (.cells (m4 nilS nilS nilS nilS) 34)
          have RN : Hid (Row (y9.alloc (.cells (m4 nilS nilS nilS nilS) 34)) y9.heap.size 34 (m4 nilS nilS nilS nilS)) := Row.new y9 _ _
          have S12 : Hid (y9.heap.size < (y9.alloc (.cells (m4 nilS nilS nilS nilS) 34)).heap.size) := (by unfold Hid; simp)
          replace Rx := Lib.hid (Row.below Rx.out hb)
          replace Rv := Lib.hid (Row.below Rv.out hb)
          replace OW := Lib.hid (OwnM.below OW.out hb)
          have S13 : Hid (y9.heap.size ≤ (y9.alloc (.cells (m4 nilS nilS nilS nilS) 34)).heap.size) := hb.size
          replace L := Lib.hid (bst L.out hb L.out.size)
          clear hb
          have RW := RN
          clear RN
          go_simp
          refine hK.out _ _ ⟨Row.cell Rv.out 0, Row.cell Rv.out 1, Row.cell Rv.out 2, Row.cell Rv.out 3, Row.cell Rx.out 0, Row.cell Rx.out 1, Row.cell Rx.out 2, Row.cell Rx.out 3⟩ (fun hHeld => ?_)
          clear hK K
          (try simp only [Act.put, List.getElem_toArray, List.getElem_cons_zero, List.getElem_cons_succ, List.setIfInBounds_toArray, List.set_cons_zero, List.set_cons_succ])
          have hgg : ∃ g : Nat, Hid (y9.heap.size = g) := ⟨_, rfl⟩
          obtain ⟨gg14, Hgg14⟩ := hgg
          have hgq := Hgg14.out
          rw [hgq] at RW ⊢
          clear hgq
          generalize y9.alloc (.cells (m4 nilS nilS nilS nilS) 34) = y11 at *
          refine wpAnyH_ready (rs := [9]) (by kernel_rfl) (by simp) ?_
          refine AllReadyH.cons rfl (fun K hK => ?_) AllReadyH.nil
          have Qx : Hid (w.heap.size < y11.heap.size) := Row.lt Rx.out
          have Qv : Hid (w.heap.size + 1 < y11.heap.size) := Row.lt Rv.out
          have QW : Hid (gg14 < y11.heap.size) := Row.lt RW.out
          have Nx : ¬ gg14 = w.heap.size := (by have := S1.out; have := S2.out; have := S3.out; have := S6.out; have := S8.out; have := S10.out; have := S12.out; have := S13.out; have := Hgg14.out; have := Zx.out; omega)
          have Nv : ¬ gg14 = w.heap.size + 1 := (by have := S1.out; have := S2.out; have := S3.out; have := S6.out; have := S8.out; have := S10.out; have := S12.out; have := S13.out; have := Hgg14.out; have := Zv.out; omega)
          replace Rx := Lib.hid (Row.putOther Rx.out (m4 (.slice paW gf qaW) (.slice pbW gl qbW) (.slice pcW gr qcW) (.slice pdW gc qdW)) (fun q => Nx q.symm))
          replace Rv := Lib.hid (Row.putOther Rv.out (m4 (.slice paW gf qaW) (.slice pbW gl qbW) (.slice pcW gr qcW) (.slice pdW gc qdW)) (fun q => Nv q.symm))
          replace OW := Lib.hid (OW.out.rowOut gg14 (m4 (.slice paW gf qaW) (.slice pbW gl qbW) (.slice pcW gr qcW) (.slice pdW gc qdW)) (by have := S1.out; have := S2.out; have := S3.out; have := S6.out; have := S8.out; have := S10.out; have := S12.out; have := S13.out; have := Hgg14.out; have := QW.out; omega))
          replace L := Lib.hid (below_setRow L.out (show w.heap.size ≤ gg14 from (by have := S1.out; have := S2.out; have := S3.out; have := S6.out; have := S8.out; have := S10.out; have := S12.out; have := S13.out; have := Hgg14.out; have := Zx.out; omega)) (m4 (.slice paW gf qaW) (.slice pbW gl qbW) (.slice pcW gr qcW) (.slice pdW gc qdW)))
          have RP := Lib.hid (Row.put RW.out (m4 (.slice paW gf qaW) (.slice pbW gl qbW) (.slice pcW gr qcW) (.slice pdW gc qdW)))
          refine wp_store_row 34 _ _ rfl gg14 (m4 (.slice paW gf qaW) (.slice pbW gl qbW) (.slice pcW gr qcW) (.slice pdW gc qdW)) rfl rfl 34 _ RW.out info_marking rfl (by simp [Value.oneCell']) ?_
          refine hK.out _ _ ⟨Row.cell Rv.out 0, Row.cell Rv.out 1, Row.cell Rv.out 2, Row.cell Rv.out 3, Row.cell Rx.out 0, Row.cell Rx.out 1, Row.cell Rx.out 2, Row.cell Rx.out 3⟩ (fun hHeld => ?_)
          clear hK K
          (try simp only [Act.put, List.getElem_toArray, List.getElem_cons_zero, List.getElem_cons_succ])
          refine wpAnyH_take (i := 10) (v := ?va10x56) rfl (by kernel_rfl) (by kernel_rfl) (by kernel_rfl) (fun _ _ _ h => h) (Or.inl ⟨by rfl, ?hy10x56⟩) (by assumption) ?rest10x56
          case hy10x56 => (intro w hSw; (try dsimp only at hSw); go_simp; try with_reducible rfl)
          (try simp only [Act.put, List.getElem_toArray, List.getElem_cons_zero, List.getElem_cons_succ, List.setIfInBounds_toArray, List.set_cons_zero, List.set_cons_succ])
          refine wpAnyH_done (by kernel_rfl) ?_ _
          go_wp2_with fail
          go_meet
          case rel => exact ⟨gg14, y7.heap.size, y9.heap.size, paW, qaW, pbW, qbW, pcW, qcW, pdW, qdW, rfl, rfl, Rx, Rv, RP, OW, L, (by unfold Hid; rw [size_setRow]; have := S1.out; have := S2.out; have := S3.out; have := S6.out; have := S8.out; have := S10.out; have := S12.out; have := S13.out; have := Hgg14.out; have := QW.out; refine ⟨?_, ?_, ?_, ?_, ?_, ?_⟩ <;> omega)⟩
        · skip
          have hb := below1 y7 (.cells (m4 nilS nilS nilS nilS) 34)
          have RN : Hid (Row (y7.alloc (.cells (m4 nilS nilS nilS nilS) 34)) y7.heap.size 34 (m4 nilS nilS nilS nilS)) := Row.new y7 _ _
          have S16 : Hid (y7.heap.size < (y7.alloc (.cells (m4 nilS nilS nilS nilS) 34)).heap.size) := (by unfold Hid; simp)
          replace Rx := Lib.hid (Row.below Rx.out hb)
          replace Rv := Lib.hid (Row.below Rv.out hb)
          replace OQ := Lib.hid (OwnM.below OQ.out hb)
          have S17 : Hid (y7.heap.size ≤ (y7.alloc (.cells (m4 nilS nilS nilS nilS) 34)).heap.size) := hb.size
          replace L := Lib.hid (bst L.out hb L.out.size)
          clear hb
          have RW := RN
          clear RN
          go_simp
          refine hK.out _ _ ⟨Row.cell Rv.out 0, Row.cell Rv.out 1, Row.cell Rv.out 2, Row.cell Rv.out 3, Row.cell Rx.out 0, Row.cell Rx.out 1, Row.cell Rx.out 2, Row.cell Rx.out 3⟩ (fun hHeld => ?_)
          clear hK K
          (try simp only [Act.put, List.getElem_toArray, List.getElem_cons_zero, List.getElem_cons_succ, List.setIfInBounds_toArray, List.set_cons_zero, List.set_cons_succ])
          have hgg : ∃ g : Nat, Hid (y7.heap.size = g) := ⟨_, rfl⟩
          obtain ⟨gg18, Hgg18⟩ := hgg
          have hgq := Hgg18.out
          rw [hgq] at RW ⊢
          clear hgq
          generalize y7.alloc (.cells (m4 nilS nilS nilS nilS) 34) = y15 at *
          refine wpAnyH_ready (rs := [4]) (by kernel_rfl) (by simp) ?_
          refine AllReadyH.cons rfl (fun K hK => ?_) (AllReadyH.nil)
          go_simp
          refine (HS.out _ (.slice paQ nf qaQ) (.slice pbQ nl qbQ) (.slice pcQ nr qcQ) (.slice pdQ nc qdQ) OQ.out.heap OQ.out.cols).mono ?_
          rintro e y19 ⟨aW, bW, cW, dW, rfl, ho, hb⟩
          have hsh := ho.shapes
          simp only [HNgf.out, HNgl.out, HNgr.out, HNgc.out] at hsh
          obtain ⟨⟨paW, qaW, rfl⟩, ⟨pbW, qbW, rfl⟩, ⟨pcW, qcW, rfl⟩, ⟨pdW, qdW, rfl⟩⟩ := hsh
          have OW : Hid (OwnM y19 y15.heap.size y19.heap.size (.slice paW gf qaW) (.slice pbW gl qbW) (.slice pcW gr qcW) (.slice pdW gc qdW) gh gz) := ho
          clear ho
          replace Rx := Lib.hid (Row.below Rx.out hb)
          replace Rv := Lib.hid (Row.below Rv.out hb)
          replace RW := Lib.hid (Row.below RW.out hb)
          replace OQ := Lib.hid (OwnM.below OQ.out hb)
          have S20 : Hid (y15.heap.size ≤ y19.heap.size) := hb.size
          replace L := Lib.hid (bst L.out hb L.out.size)
          clear hb
          clear OQ
          refine hK.out _ _ ⟨Row.cell Rv.out 0, Row.cell Rv.out 1, Row.cell Rv.out 2, Row.cell Rv.out 3, Row.cell Rx.out 0, Row.cell Rx.out 1, Row.cell Rx.out 2, Row.cell Rx.out 3⟩ (fun hHeld => ?_)
          clear hK K
          (try simp only [Act.put, List.getElem_toArray, List.getElem_cons_zero, List.getElem_cons_succ, List.setIfInBounds_toArray, List.set_cons_zero, List.set_cons_succ])
          refine wpAnyH_take (i := 5) (v := ?va5x57) rfl (by kernel_rfl) (by kernel_rfl) (by kernel_rfl) (fun _ _ _ h => h) (Or.inl ⟨by rfl, ?hy5x57⟩) (by assumption) ?rest5x57
          case hy5x57 => (intro w hSw; (try dsimp only at hSw); go_simp; try with_reducible rfl)
          (try simp only [Act.put, List.getElem_toArray, List.getElem_cons_zero, List.getElem_cons_succ, List.setIfInBounds_toArray, List.set_cons_zero, List.set_cons_succ])
          refine wpAnyH_take (i := 6) (v := ?va6x58) rfl (by kernel_rfl) (by kernel_rfl) (by kernel_rfl) (fun _ _ _ h => h) (Or.inl ⟨by rfl, ?hy6x58⟩) (by assumption) ?rest6x58
          case hy6x58 => (intro w hSw; (try dsimp only at hSw); go_simp; try with_reducible rfl)
          (try simp only [Act.put, List.getElem_toArray, List.getElem_cons_zero, List.getElem_cons_succ, List.setIfInBounds_toArray, List.set_cons_zero, List.set_cons_succ])
          refine wpAnyH_take (i := 7) (v := ?va7x59) rfl (by kernel_rfl) (by kernel_rfl) (by kernel_rfl) (fun _ _ _ h => h) (Or.inl ⟨by rfl, ?hy7x59⟩) (by assumption) ?rest7x59
          case hy7x59 => (intro w hSw; (try dsimp only at hSw); go_simp; try with_reducible rfl)
          (try simp only [Act.put, List.getElem_toArray, List.getElem_cons_zero, List.getElem_cons_succ, List.setIfInBounds_toArray, List.set_cons_zero, List.set_cons_succ])
          refine wpAnyH_ready (rs := [9]) (by kernel_rfl) (by simp) ?_
          refine AllReadyH.cons rfl (fun K hK => ?_) AllReadyH.nil
          have Qx : Hid (w.heap.size < y19.heap.size) := Row.lt Rx.out
          have Qv : Hid (w.heap.size + 1 < y19.heap.size) := Row.lt Rv.out
          have QW : Hid (gg18 < y19.heap.size) := Row.lt RW.out
          have Nx : ¬ gg18 = w.heap.size := (by have := S1.out; have := S2.out; have := S3.out; have := S6.out; have := S8.out; have := S16.out; have := S17.out; have := Hgg18.out; have := S20.out; have := Zx.out; omega)
          have Nv : ¬ gg18 = w.heap.size + 1 := (by have := S1.out; have := S2.out; have := S3.out; have := S6.out; have := S8.out; have := S16.out; have := S17.out; have := Hgg18.out; have := S20.out; have := Zv.out; omega)
          replace Rx := Lib.hid (Row.putOther Rx.out (m4 (.slice paW gf qaW) (.slice pbW gl qbW) (.slice pcW gr qcW) (.slice pdW gc qdW)) (fun q => Nx q.symm))
          replace Rv := Lib.hid (Row.putOther Rv.out (m4 (.slice paW gf qaW) (.slice pbW gl qbW) (.slice pcW gr qcW) (.slice pdW gc qdW)) (fun q => Nv q.symm))
          replace OW := Lib.hid (OW.out.rowOut gg18 (m4 (.slice paW gf qaW) (.slice pbW gl qbW) (.slice pcW gr qcW) (.slice pdW gc qdW)) (by have := S1.out; have := S2.out; have := S3.out; have := S6.out; have := S8.out; have := S16.out; have := S17.out; have := Hgg18.out; have := S20.out; have := QW.out; omega))
          replace L := Lib.hid (below_setRow L.out (show w.heap.size ≤ gg18 from (by have := S1.out; have := S2.out; have := S3.out; have := S6.out; have := S8.out; have := S16.out; have := S17.out; have := Hgg18.out; have := S20.out; have := Zx.out; omega)) (m4 (.slice paW gf qaW) (.slice pbW gl qbW) (.slice pcW gr qcW) (.slice pdW gc qdW)))
          have RP := Lib.hid (Row.put RW.out (m4 (.slice paW gf qaW) (.slice pbW gl qbW) (.slice pcW gr qcW) (.slice pdW gc qdW)))
          refine wp_store_row 34 _ _ rfl gg18 (m4 (.slice paW gf qaW) (.slice pbW gl qbW) (.slice pcW gr qcW) (.slice pdW gc qdW)) rfl rfl 34 _ RW.out info_marking rfl (by simp [Value.oneCell']) ?_
          refine hK.out _ _ ⟨Row.cell Rv.out 0, Row.cell Rv.out 1, Row.cell Rv.out 2, Row.cell Rv.out 3, Row.cell Rx.out 0, Row.cell Rx.out 1, Row.cell Rx.out 2, Row.cell Rx.out 3⟩ (fun hHeld => ?_)
          clear hK K
          (try simp only [Act.put, List.getElem_toArray, List.getElem_cons_zero, List.getElem_cons_succ])
          refine wpAnyH_take (i := 10) (v := ?va10x60) rfl (by kernel_rfl) (by kernel_rfl) (by kernel_rfl) (fun _ _ _ h => h) (Or.inl ⟨by rfl, ?hy10x60⟩) (by assumption) ?rest10x60
          case hy10x60 => (intro w hSw; (try dsimp only at hSw); go_simp; try with_reducible rfl)
          (try simp only [Act.put, List.getElem_toArray, List.getElem_cons_zero, List.getElem_cons_succ, List.setIfInBounds_toArray, List.set_cons_zero, List.set_cons_succ])
          refine wpAnyH_done (by kernel_rfl) ?_ _
          go_wp2_with fail
          go_meet
          case rel => exact ⟨gg18, y15.heap.size, y19.heap.size, paW, qaW, pbW, qbW, pcW, qcW, pdW, qdW, rfl, rfl, Rx, Rv, RP, OW, L, (by unfold Hid; rw [size_setRow]; have := S1.out; have := S2.out; have := S3.out; have := S6.out; have := S8.out; have := S16.out; have := S17.out; have := Hgg18.out; have := S20.out; have := QW.out; refine ⟨?_, ?_, ?_, ?_, ?_, ?_⟩ <;> omega)⟩
      · skip
        have hb := below1 y5 (.cells (m4 nilS nilS nilS nilS) 34)
        have RN : Hid (Row (y5.alloc (.cells (m4 nilS nilS nilS nilS) 34)) y5.heap.size 34 (m4 nilS nilS nilS nilS)) := Row.new y5 _ _
        have S22 : Hid (y5.heap.size < (y5.alloc (.cells (m4 nilS nilS nilS nilS) 34)).heap.size) := (by unfold Hid; simp)
        replace Rx := Lib.hid (Row.below Rx.out hb)
        replace Rv := Lib.hid (Row.below Rv.out hb)
        replace OQ := Lib.hid (OwnM.below OQ.out hb)
        have S23 : Hid (y5.heap.size ≤ (y5.alloc (.cells (m4 nilS nilS nilS nilS) 34)).heap.size) := hb.size
        replace L := Lib.hid (bst L.out hb L.out.size)
        clear hb
        have RW := RN
        clear RN
        go_simp
        refine hK.out _ _ ⟨Row.cell Rv.out 0, Row.cell Rv.out 1, Row.cell Rv.out 2, Row.cell Rv.out 3, Row.cell Rx.out 0, Row.cell Rx.out 1, Row.cell Rx.out 2, Row.cell Rx.out 3⟩ (fun hHeld => ?_)
        clear hK K
        (try simp only [Act.put, List.getElem_toArray, List.getElem_cons_zero, List.getElem_cons_succ, List.setIfInBounds_toArray, List.set_cons_zero, List.set_cons_succ])
        have hgg : ∃ g : Nat, Hid (y5.heap.size = g) := ⟨_, rfl⟩
        obtain ⟨gg24, Hgg24⟩ := hgg
        have hgq := Hgg24.out
        rw [hgq] at RW ⊢
        clear hgq
        generalize y5.alloc (.cells (m4 nilS nilS nilS nilS) 34) = y21 at *
        refine wpAnyH_ready (rs := [3]) (by kernel_rfl) (by simp) ?_
        refine AllReadyH.cons rfl (fun K hK => ?_) (AllReadyH.nil)
        go_simp
        refine (c_toMove ⟨vk, va, vb, vt⟩ _).mono ?_
        rintro e y25 ⟨rfl, hb⟩
        replace Rx := Lib.hid (Row.below Rx.out hb)
        replace Rv := Lib.hid (Row.below Rv.out hb)
        replace RW := Lib.hid (Row.below RW.out hb)
        replace OQ := Lib.hid (OwnM.below OQ.out hb)
        have S26 : Hid (y21.heap.size ≤ y25.heap.size) := hb.size
        replace L := Lib.hid (bst L.out hb L.out.size)
        clear hb
        refine hK.out _ _ ⟨Row.cell Rv.out 0, Row.cell Rv.out 1, Row.cell Rv.out 2, Row.cell Rv.out 3, Row.cell Rx.out 0, Row.cell Rx.out 1, Row.cell Rx.out 2, Row.cell Rx.out 3⟩ (fun hHeld => ?_)
        clear hK K
        (try simp only [Act.put, List.getElem_toArray, List.getElem_cons_zero, List.getElem_cons_succ, List.setIfInBounds_toArray, List.set_cons_zero, List.set_cons_succ])
        refine wpAnyH_ready (rs := [4]) (by kernel_rfl) (by simp) ?_
        refine AllReadyH.cons rfl (fun K hK => ?_) (AllReadyH.nil)
        go_simp
        refine (HS.out _ (.slice paQ nf qaQ) (.slice pbQ nl qbQ) (.slice pcQ nr qcQ) (.slice pdQ nc qdQ) OQ.out.heap OQ.out.cols).mono ?_
        rintro e y27 ⟨aW, bW, cW, dW, rfl, ho, hb⟩
        have hsh := ho.shapes
        simp only [HNgf.out, HNgl.out, HNgr.out, HNgc.out] at hsh
        obtain ⟨⟨paW, qaW, rfl⟩, ⟨pbW, qbW, rfl⟩, ⟨pcW, qcW, rfl⟩, ⟨pdW, qdW, rfl⟩⟩ := hsh
        have OW : Hid (OwnM y27 y25.heap.size y27.heap.size (.slice paW gf qaW) (.slice pbW gl qbW) (.slice pcW gr qcW) (.slice pdW gc qdW) gh gz) := ho
        clear ho
        replace Rx := Lib.hid (Row.below Rx.out hb)
        replace Rv := Lib.hid (Row.below Rv.out hb)
        replace RW := Lib.hid (Row.below RW.out hb)
        replace OQ := Lib.hid (OwnM.below OQ.out hb)
        have S28 : Hid (y25.heap.size ≤ y27.heap.size) := hb.size
        replace L := Lib.hid (bst L.out hb L.out.size)
        clear hb
        clear OQ
        refine hK.out _ _ ⟨Row.cell Rv.out 0, Row.cell Rv.out 1, Row.cell Rv.out 2, Row.cell Rv.out 3, Row.cell Rx.out 0, Row.cell Rx.out 1, Row.cell Rx.out 2, Row.cell Rx.out 3⟩ (fun hHeld => ?_)
        clear hK K
        (try simp only [Act.put, List.getElem_toArray, List.getElem_cons_zero, List.getElem_cons_succ, List.setIfInBounds_toArray, List.set_cons_zero, List.set_cons_succ])
        refine wpAnyH_take (i := 5) (v := ?va5x61) rfl (by kernel_rfl) (by kernel_rfl) (by kernel_rfl) (fun _ _ _ h => h) (Or.inl ⟨by rfl, ?hy5x61⟩) (by assumption) ?rest5x61
        case hy5x61 => (intro w hSw; (try dsimp only at hSw); go_simp; try with_reducible rfl)
        (try simp only [Act.put, List.getElem_toArray, List.getElem_cons_zero, List.getElem_cons_succ, List.setIfInBounds_toArray, List.set_cons_zero, List.set_cons_succ])
        refine wpAnyH_take (i := 6) (v := ?va6x62) rfl (by kernel_rfl) (by kernel_rfl) (by kernel_rfl) (fun _ _ _ h => h) (Or.inl ⟨by rfl, ?hy6x62⟩) (by assumption) ?rest6x62
        case hy6x62 => (intro w hSw; (try dsimp only at hSw); go_simp; try with_reducible rfl)
        (try simp only [Act.put, List.getElem_toArray, List.getElem_cons_zero, List.getElem_cons_succ, List.setIfInBounds_toArray, List.set_cons_zero, List.set_cons_succ])
        refine wpAnyH_take (i := 7) (v := ?va7x63) rfl (by kernel_rfl) (by kernel_rfl) (by kernel_rfl) (fun _ _ _ h => h) (Or.inl ⟨by rfl, ?hy7x63⟩) (by assumption) ?rest7x63
        case hy7x63 => (intro w hSw; (try dsimp only at hSw); go_simp; try with_reducible rfl)
        (try simp only [Act.put, List.getElem_toArray, List.getElem_cons_zero, List.getElem_cons_succ, List.setIfInBounds_toArray, List.set_cons_zero, List.set_cons_succ])
        refine wpAnyH_ready (rs := [9]) (by kernel_rfl) (by simp) ?_
        refine AllReadyH.cons rfl (fun K hK => ?_) AllReadyH.nil
        have Qx : Hid (w.heap.size < y27.heap.size) := Row.lt Rx.out
        have Qv : Hid (w.heap.size + 1 < y27.heap.size) := Row.lt Rv.out
        have QW : Hid (gg24 < y27.heap.size) := Row.lt RW.out
        have Nx : ¬ gg24 = w.heap.size := (by have := S1.out; have := S2.out; have := S3.out; have := S6.out; have := S22.out; have := S23.out; have := Hgg24.out; have := S26.out; have := S28.out; have := Zx.out; omega)
        have Nv : ¬ gg24 = w.heap.size + 1 := (by have := S1.out; have := S2.out; have := S3.out; have := S6.out; have := S22.out; have := S23.out; have := Hgg24.out; have := S26.out; have := S28.out; have := Zv.out; omega)
        replace Rx := Lib.hid (Row.putOther Rx.out (m4 (.slice paW gf qaW) (.slice pbW gl qbW) (.slice pcW gr qcW) (.slice pdW gc qdW)) (fun q => Nx q.symm))
        replace Rv := Lib.hid (Row.putOther Rv.out (m4 (.slice paW gf qaW) (.slice pbW gl qbW) (.slice pcW gr qcW) (.slice pdW gc qdW)) (fun q => Nv q.symm))
        replace OW := Lib.hid (OW.out.rowOut gg24 (m4 (.slice paW gf qaW) (.slice pbW gl qbW) (.slice pcW gr qcW) (.slice pdW gc qdW)) (by have := S1.out; have := S2.out; have := S3.out; have := S6.out; have := S22.out; have := S23.out; have := Hgg24.out; have := S26.out; have := S28.out; have := QW.out; omega))
        replace L := Lib.hid (below_setRow L.out (show w.heap.size ≤ gg24 from (by have := S1.out; have := S2.out; have := S3.out; have := S6.out; have := S22.out; have := S23.out; have := Hgg24.out; have := S26.out; have := S28.out; have := Zx.out; omega)) (m4 (.slice paW gf qaW) (.slice pbW gl qbW) (.slice pcW gr qcW) (.slice pdW gc qdW)))
        have RP := Lib.hid (Row.put RW.out (m4 (.slice paW gf qaW) (.slice pbW gl qbW) (.slice pcW gr qcW) (.slice pdW gc qdW)))
        refine wp_store_row 34 _ _ rfl gg24 (m4 (.slice paW gf qaW) (.slice pbW gl qbW) (.slice pcW gr qcW) (.slice pdW gc qdW)) rfl rfl 34 _ RW.out info_marking rfl (by simp [Value.oneCell']) ?_
        refine hK.out _ _ ⟨Row.cell Rv.out 0, Row.cell Rv.out 1, Row.cell Rv.out 2, Row.cell Rv.out 3, Row.cell Rx.out 0, Row.cell Rx.out 1, Row.cell Rx.out 2, Row.cell Rx.out 3⟩ (fun hHeld => ?_)
        clear hK K
        (try simp only [Act.put, List.getElem_toArray, List.getElem_cons_zero, List.getElem_cons_succ])
        refine wpAnyH_take (i := 10) (v := ?va10x64) rfl (by kernel_rfl) (by kernel_rfl) (by kernel_rfl) (fun _ _ _ h => h) (Or.inl ⟨by rfl, ?hy10x64⟩) (by assumption) ?rest10x64
        case hy10x64 => (intro w hSw; (try dsimp only at hSw); go_simp; try with_reducible rfl)
        (try simp only [Act.put, List.getElem_toArray, List.getElem_cons_zero, List.getElem_cons_succ, List.setIfInBounds_toArray, List.set_cons_zero, List.set_cons_succ])
        refine wpAnyH_done (by kernel_rfl) ?_ _
        go_wp2_with fail
        go_meet
        case rel => exact ⟨gg24, y25.heap.size, y27.heap.size, paW, qaW, pbW, qbW, pcW, qcW, pdW, qdW, rfl, rfl, Rx, Rv, RP, OW, L, (by unfold Hid; rw [size_setRow]; have := S1.out; have := S2.out; have := S3.out; have := S6.out; have := S22.out; have := S23.out; have := Hgg24.out; have := S26.out; have := S28.out; have := QW.out; refine ⟨?_, ?_, ?_, ?_, ?_, ?_⟩ <;> omega)⟩
    · skip
      have hb := below1 d4 (.cells (m4 nilS nilS nilS nilS) 34)
      have RN : Hid (Row (d4.alloc (.cells (m4 nilS nilS nilS nilS) 34)) d4.heap.size 34 (m4 nilS nilS nilS nilS)) := Row.new d4 _ _
      have S30 : Hid (d4.heap.size < (d4.alloc (.cells (m4 nilS nilS nilS nilS) 34)).heap.size) := (by unfold Hid; simp)
      replace Rx := Lib.hid (Row.below Rx.out hb)
      replace Rv := Lib.hid (Row.below Rv.out hb)
      have S31 : Hid (d4.heap.size ≤ (d4.alloc (.cells (m4 nilS nilS nilS nilS) 34)).heap.size) := hb.size
      replace L := Lib.hid (bst L.out hb L.out.size)
      clear hb
      have RW := RN
      clear RN
      go_simp
      refine hK.out _ _ ⟨Row.cell Rv.out 0, Row.cell Rv.out 1, Row.cell Rv.out 2, Row.cell Rv.out 3, Row.cell Rx.out 0, Row.cell Rx.out 1, Row.cell Rx.out 2, Row.cell Rx.out 3⟩ (fun hHeld => ?_)
      clear hK K
      (try simp only [Act.put, List.getElem_toArray, List.getElem_cons_zero, List.getElem_cons_succ, List.setIfInBounds_toArray, List.set_cons_zero, List.set_cons_succ])
      have hgg : ∃ g : Nat, Hid (d4.heap.size = g) := ⟨_, rfl⟩
      obtain ⟨gg32, Hgg32⟩ := hgg
      have hgq := Hgg32.out
      rw [hgq] at RW ⊢
      clear hgq
      generalize d4.alloc (.cells (m4 nilS nilS nilS nilS) 34) = y29 at *
      refine wpAnyH_ready (rs := [1]) (by kernel_rfl) (by simp) ?_
      refine AllReadyH.cons rfl (fun K hK => ?_) (AllReadyH.nil)
      go_simp
      refine (c_toMarking (.slice paA nf qaA) (.slice pbA nl qbA) (.slice pcA nr qcA) (.slice pdA nc qdA) hx zx _ (HZ.out.below L.out) (HY.out.below L.out) HM.out HMnc.out).mono ?_
      rintro e y33 ⟨aQ, bQ, cQ, dQ, rfl, ho, hb⟩
      have hsh := ho.shapes
      simp only [HNnf.out, HNnl.out, HNnr.out, HNnc.out] at hsh
      obtain ⟨⟨paQ, qaQ, rfl⟩, ⟨pbQ, qbQ, rfl⟩, ⟨pcQ, qcQ, rfl⟩, ⟨pdQ, qdQ, rfl⟩⟩ := hsh
      have OQ : Hid (OwnM y33 y29.heap.size y33.heap.size (.slice paQ nf qaQ) (.slice pbQ nl qbQ) (.slice pcQ nr qcQ) (.slice pdQ nc qdQ) hx zx) := ho
      clear ho
      replace Rx := Lib.hid (Row.below Rx.out hb)
      replace Rv := Lib.hid (Row.below Rv.out hb)
      replace RW := Lib.hid (Row.below RW.out hb)
      have S34 : Hid (y29.heap.size ≤ y33.heap.size) := hb.size
      replace L := Lib.hid (bst L.out hb L.out.size)
      clear hb
      refine hK.out _ _ ⟨Row.cell Rv.out 0, Row.cell Rv.out 1, Row.cell Rv.out 2, Row.cell Rv.out 3, Row.cell Rx.out 0, Row.cell Rx.out 1, Row.cell Rx.out 2, Row.cell Rx.out 3⟩ (fun hHeld => ?_)
      clear hK K
      (try simp only [Act.put, List.getElem_toArray, List.getElem_cons_zero, List.getElem_cons_succ, List.setIfInBounds_toArray, List.set_cons_zero, List.set_cons_succ])
      refine wpAnyH_ready (rs := [3]) (by kernel_rfl) (by simp) ?_
      refine AllReadyH.cons rfl (fun K hK => ?_) (AllReadyH.nil)
      go_simp
      refine (c_toMove ⟨vk, va, vb, vt⟩ _).mono ?_
      rintro e y35 ⟨rfl, hb⟩
      replace Rx := Lib.hid (Row.below Rx.out hb)
      replace Rv := Lib.hid (Row.below Rv.out hb)
      replace RW := Lib.hid (Row.below RW.out hb)
      replace OQ := Lib.hid (OwnM.below OQ.out hb)
      have S36 : Hid (y33.heap.size ≤ y35.heap.size) := hb.size
      replace L := Lib.hid (bst L.out hb L.out.size)
      clear hb
      refine hK.out _ _ ⟨Row.cell Rv.out 0, Row.cell Rv.out 1, Row.cell Rv.out 2, Row.cell Rv.out 3, Row.cell Rx.out 0, Row.cell Rx.out 1, Row.cell Rx.out 2, Row.cell Rx.out 3⟩ (fun hHeld => ?_)
      clear hK K
      (try simp only [Act.put, List.getElem_toArray, List.getElem_cons_zero, List.getElem_cons_succ, List.setIfInBounds_toArray, List.set_cons_zero, List.set_cons_succ])
      refine wpAnyH_ready (rs := [4]) (by kernel_rfl) (by simp) ?_
      refine AllReadyH.cons rfl (fun K hK => ?_) (AllReadyH.nil)
      go_simp
      refine (HS.out _ (.slice paQ nf qaQ) (.slice pbQ nl qbQ) (.slice pcQ nr qcQ) (.slice pdQ nc qdQ) OQ.out.heap OQ.out.cols).mono ?_
      rintro e y37 ⟨aW, bW, cW, dW, rfl, ho, hb⟩
      have hsh := ho.shapes
      simp only [HNgf.out, HNgl.out, HNgr.out, HNgc.out] at hsh
      obtain ⟨⟨paW, qaW, rfl⟩, ⟨pbW, qbW, rfl⟩, ⟨pcW, qcW, rfl⟩, ⟨pdW, qdW, rfl⟩⟩ := hsh
      have OW : Hid (OwnM y37 y35.heap.size y37.heap.size (.slice paW gf qaW) (.slice pbW gl qbW) (.slice pcW gr qcW) (.slice pdW gc qdW) gh gz) := ho
      clear ho
      replace Rx := Lib.hid (Row.below Rx.out hb)
      replace Rv := Lib.hid (Row.below Rv.out hb)
      replace RW := Lib.hid (Row.below RW.out hb)
      replace OQ := Lib.hid (OwnM.below OQ.out hb)
      have S38 : Hid (y35.heap.size ≤ y37.heap.size) := hb.size
      replace L := Lib.hid (bst L.out hb L.out.size)
      clear hb
      clear OQ
      refine hK.out _ _ ⟨Row.cell Rv.out 0, Row.cell Rv.out 1, Row.cell Rv.out 2, Row.cell Rv.out 3, Row.cell Rx.out 0, Row.cell Rx.out 1, Row.cell Rx.out 2, Row.cell Rx.out 3⟩ (fun hHeld => ?_)
      clear hK K
      (try simp only [Act.put, List.getElem_toArray, List.getElem_cons_zero, List.getElem_cons_succ, List.setIfInBounds_toArray, List.set_cons_zero, List.set_cons_succ])
      refine wpAnyH_take (i := 5) (v := ?va5x65) rfl (by kernel_rfl) (by kernel_rfl) (by kernel_rfl) (fun _ _ _ h => h) (Or.inl ⟨by rfl, ?hy5x65⟩) (by assumption) ?rest5x65
      case hy5x65 => (intro w hSw; (try dsimp only at hSw); go_simp; try with_reducible rfl)
      (try simp only [Act.put, List.getElem_toArray, List.getElem_cons_zero, List.getElem_cons_succ, List.setIfInBounds_toArray, List.set_cons_zero, List.set_cons_succ])
      refine wpAnyH_take (i := 6) (v := ?va6x66) rfl (by kernel_rfl) (by kernel_rfl) (by kernel_rfl) (fun _ _ _ h => h) (Or.inl ⟨by rfl, ?hy6x66⟩) (by assumption) ?rest6x66
      case hy6x66 => (intro w hSw; (try dsimp only at hSw); go_simp; try with_reducible rfl)
      (try simp only [Act.put, List.getElem_toArray, List.getElem_cons_zero, List.getElem_cons_succ, List.setIfInBounds_toArray, List.set_cons_zero, List.set_cons_succ])
      refine wpAnyH_take (i := 7) (v := ?va7x67) rfl (by kernel_rfl) (by kernel_rfl) (by kernel_rfl) (fun _ _ _ h => h) (Or.inl ⟨by rfl, ?hy7x67⟩) (by assumption) ?rest7x67
      case hy7x67 => (intro w hSw; (try dsimp only at hSw); go_simp; try with_reducible rfl)
      (try simp only [Act.put, List.getElem_toArray, List.getElem_cons_zero, List.getElem_cons_succ, List.setIfInBounds_toArray, List.set_cons_zero, List.set_cons_succ])
      refine wpAnyH_ready (rs := [9]) (by kernel_rfl) (by simp) ?_
      refine AllReadyH.cons rfl (fun K hK => ?_) AllReadyH.nil
      have Qx : Hid (w.heap.size < y37.heap.size) := Row.lt Rx.out
      have Qv : Hid (w.heap.size + 1 < y37.heap.size) := Row.lt Rv.out
      have QW : Hid (gg32 < y37.heap.size) := Row.lt RW.out
      have Nx : ¬ gg32 = w.heap.size := (by have := S1.out; have := S2.out; have := S3.out; have := S30.out; have := S31.out; have := Hgg32.out; have := S34.out; have := S36.out; have := S38.out; have := Zx.out; omega)
      have Nv : ¬ gg32 = w.heap.size + 1 := (by have := S1.out; have := S2.out; have := S3.out; have := S30.out; have := S31.out; have := Hgg32.out; have := S34.out; have := S36.out; have := S38.out; have := Zv.out; omega)
      replace Rx := Lib.hid (Row.putOther Rx.out (m4 (.slice paW gf qaW) (.slice pbW gl qbW) (.slice pcW gr qcW) (.slice pdW gc qdW)) (fun q => Nx q.symm))
      replace Rv := Lib.hid (Row.putOther Rv.out (m4 (.slice paW gf qaW) (.slice pbW gl qbW) (.slice pcW gr qcW) (.slice pdW gc qdW)) (fun q => Nv q.symm))
      replace OW := Lib.hid (OW.out.rowOut gg32 (m4 (.slice paW gf qaW) (.slice pbW gl qbW) (.slice pcW gr qcW) (.slice pdW gc qdW)) (by have := S1.out; have := S2.out; have := S3.out; have := S30.out; have := S31.out; have := Hgg32.out; have := S34.out; have := S36.out; have := S38.out; have := QW.out; omega))
      replace L := Lib.hid (below_setRow L.out (show w.heap.size ≤ gg32 from (by have := S1.out; have := S2.out; have := S3.out; have := S30.out; have := S31.out; have := Hgg32.out; have := S34.out; have := S36.out; have := S38.out; have := Zx.out; omega)) (m4 (.slice paW gf qaW) (.slice pbW gl qbW) (.slice pcW gr qcW) (.slice pdW gc qdW)))
      have RP := Lib.hid (Row.put RW.out (m4 (.slice paW gf qaW) (.slice pbW gl qbW) (.slice pcW gr qcW) (.slice pdW gc qdW)))
      refine wp_store_row 34 _ _ rfl gg32 (m4 (.slice paW gf qaW) (.slice pbW gl qbW) (.slice pcW gr qcW) (.slice pdW gc qdW)) rfl rfl 34 _ RW.out info_marking rfl (by simp [Value.oneCell']) ?_
      refine hK.out _ _ ⟨Row.cell Rv.out 0, Row.cell Rv.out 1, Row.cell Rv.out 2, Row.cell Rv.out 3, Row.cell Rx.out 0, Row.cell Rx.out 1, Row.cell Rx.out 2, Row.cell Rx.out 3⟩ (fun hHeld => ?_)
      clear hK K
      (try simp only [Act.put, List.getElem_toArray, List.getElem_cons_zero, List.getElem_cons_succ])
      refine wpAnyH_take (i := 10) (v := ?va10x68) rfl (by kernel_rfl) (by kernel_rfl) (by kernel_rfl) (fun _ _ _ h => h) (Or.inl ⟨by rfl, ?hy10x68⟩) (by assumption) ?rest10x68
      case hy10x68 => (intro w hSw; (try dsimp only at hSw); go_simp; try with_reducible rfl)
      (try simp only [Act.put, List.getElem_toArray, List.getElem_cons_zero, List.getElem_cons_succ, List.setIfInBounds_toArray, List.set_cons_zero, List.set_cons_succ])
      refine wpAnyH_done (by kernel_rfl) ?_ _
      go_wp2_with fail
      go_meet
      case rel => exact ⟨gg32, y35.heap.size, y37.heap.size, paW, qaW, pbW, qbW, pcW, qcW, pdW, qdW, rfl, rfl, Rx, Rv, RP, OW, L, (by unfold Hid; rw [size_setRow]; have := S1.out; have := S2.out; have := S3.out; have := S30.out; have := S31.out; have := Hgg32.out; have := S34.out; have := S36.out; have := S38.out; have := QW.out; refine ⟨?_, ?_, ?_, ?_, ?_, ?_⟩ <;> omega)⟩
  case rest =>
    clear Rx Rv L
    obtain ⟨gW, loW, hiW, paW, qaW, pbW, qbW, pcW, qcW, pdW, qdW, rfl, rfl, Rx, Rv, RW, OW, L, BW⟩ := hcut
    generalize wc = z39 at *
    have c0x := Row.cell Rx.out 0
    have c1x := Row.cell Rx.out 1
    have c2x := Row.cell Rx.out 2
    have c3x := Row.cell Rx.out 3
    have c0v := Row.cell Rv.out 0
    have c1v := Row.cell Rv.out 1
    have c2v := Row.cell Rv.out 2
    have c3v := Row.cell Rv.out 3
    have c0W := Row.cell RW.out 0
    have c1W := Row.cell RW.out 1
    have c2W := Row.cell RW.out 2
    have c3W := Row.cell RW.out 3
    go_wp2_with fail
    clear c0x c1x c2x c3x c0v c1v c2v c3v c0W c1W c2W c3W
    refine (c_toMarking (.slice paA nf qaA) (.slice pbA nl qbA) (.slice pcA nr qcA) (.slice pdA nc qdA) hx zx _ (HZ.out.below L.out) (HY.out.below L.out) HM.out HMnc.out).mono ?_
    rintro e wX ⟨aX, bX, cX, dX, rfl, ho, hb⟩
    have hsh := ho.shapes
    simp only [HNnf.out, HNnl.out, HNnr.out, HNnc.out] at hsh
    obtain ⟨⟨paX, qaX, rfl⟩, ⟨pbX, qbX, rfl⟩, ⟨pcX, qcX, rfl⟩, ⟨pdX, qdX, rfl⟩⟩ := hsh
    have OX : Hid (OwnM wX z39.heap.size wX.heap.size (.slice paX nf qaX) (.slice pbX nl qbX) (.slice pcX nr qcX) (.slice pdX nc qdX) hx zx) := ho
    clear ho
    replace Rx := Lib.hid (Row.below Rx.out hb)
    replace Rv := Lib.hid (Row.below Rv.out hb)
    replace RW := Lib.hid (Row.below RW.out hb)
    replace OW := Lib.hid (OwnM.below OW.out hb)
    have S40 : Hid (z39.heap.size ≤ wX.heap.size) := hb.size
    replace L := Lib.hid (bst L.out hb L.out.size)
    clear hb
    have c0x := Row.cell Rx.out 0
    have c1x := Row.cell Rx.out 1
    have c2x := Row.cell Rx.out 2
    have c3x := Row.cell Rx.out 3
    have c0v := Row.cell Rv.out 0
    have c1v := Row.cell Rv.out 1
    have c2v := Row.cell Rv.out 2
    have c3v := Row.cell Rv.out 3
    have c0W := Row.cell RW.out 0
    have c1W := Row.cell RW.out 1
    have c2W := Row.cell RW.out 2
    have c3W := Row.cell RW.out 3
    go_wp2_with fail
    clear c0x c1x c2x c3x c0v c1v c2v c3v c0W c1W c2W c3W
    have hb := below1 wX (.cells (m4 (.slice paX nf qaX) (.slice pbX nl qbX) (.slice pcX nr qcX) (.slice pdX nc qdX)) 34)
    have RN : Hid (Row (wX.alloc (.cells (m4 (.slice paX nf qaX) (.slice pbX nl qbX) (.slice pcX nr qcX) (.slice pdX nc qdX)) 34)) wX.heap.size 34 (m4 (.slice paX nf qaX) (.slice pbX nl qbX) (.slice pcX nr qcX) (.slice pdX nc qdX))) := Row.new wX _ _
    have S41 : Hid (wX.heap.size < (wX.alloc (.cells (m4 (.slice paX nf qaX) (.slice pbX nl qbX) (.slice pcX nr qcX) (.slice pdX nc qdX)) 34)).heap.size) := (by unfold Hid; simp)
    replace Rx := Lib.hid (Row.below Rx.out hb)
    replace Rv := Lib.hid (Row.below Rv.out hb)
    replace RW := Lib.hid (Row.below RW.out hb)
    replace OW := Lib.hid (OwnM.below OW.out hb)
    replace OX := Lib.hid (OwnM.below OX.out hb)
    have S42 : Hid (wX.heap.size ≤ (wX.alloc (.cells (m4 (.slice paX nf qaX) (.slice pbX nl qbX) (.slice pcX nr qcX) (.slice pdX nc qdX)) 34)).heap.size) := hb.size
    replace L := Lib.hid (bst L.out hb L.out.size)
    clear hb
    have RX := RN
    clear RN
    go_cut [9, 10] from 32 (fun s9 s10 wk => ∃ (gG loG hiG : Nat) (paG : Option Addr) (qaG : Nat) (pbG : Option Addr) (qbG : Nat) (pcG : Option Addr) (qcG : Nat) (pdG : Option Addr) (qdG : Nat), s9 = .pointer (some ⟨gG, 0, none⟩) ∧ s10 = .bool ok ∧ Hid (Row wk (w.heap.size) 28 (m4 (.slice paA nf qaA) (.slice pbA nl qbA) (.slice pcA nr qcA) (.slice pdA nc qdA))) ∧ Hid (Row wk (w.heap.size + 1) 30 (mo4 ⟨vk, va, vb, vt⟩)) ∧ Hid (Row wk (gW) 34 (m4 (.slice paW gf qaW) (.slice pbW gl qbW) (.slice pcW gr qcW) (.slice pdW gc qdW))) ∧ Hid (Row wk (wX.heap.size) 34 (m4 (.slice paX nf qaX) (.slice pbX nl qbX) (.slice pcX nr qcX) (.slice pdX nc qdX))) ∧ Hid (OwnM wk (loW) (hiW) (.slice paW gf qaW) (.slice pbW gl qbW) (.slice pcW gr qcW) (.slice pdW gc qdW) gh gz) ∧ Hid (OwnM wk (z39.heap.size) (wX.heap.size) (.slice paX nf qaX) (.slice pbX nl qbX) (.slice pcX nr qcX) (.slice pdX nc qdX) hx zx) ∧ Hid (Row wk gG 34 (m4 (.slice paG gf qaG) (.slice pbG gl qbG) (.slice pcG gr qcG) (.slice pdG gc qdG))) ∧ Hid (OwnM wk loG hiG (.slice paG gf qaG) (.slice pbG gl qbG) (.slice pcG gr qcG) (.slice pdG gc qdG) gh gz) ∧ Hid (Below w.heap.size w wk) ∧ Hid ((wX.alloc (.cells (m4 (.slice paX nf qaX) (.slice pbX nl qbX) (.slice pcX nr qcX) (.slice pdX nc qdX)) 34)).heap.size ≤ gG ∧ (wX.alloc (.cells (m4 (.slice paX nf qaX) (.slice pbX nl qbX) (.slice pcX nr qcX) (.slice pdX nc qdX)) 34)).heap.size ≤ loG ∧ loG ≤ hiG ∧ hiG ≤ wk.heap.size ∧ gG < wk.heap.size ∧ (gG < loG ∨ hiG ≤ gG)))
    case first =>
      have hbd : Below (wX.alloc (.cells (m4 (.slice paX nf qaX) (.slice pbX nl qbX) (.slice pcX nr qcX) (.slice pdX nc qdX)) 34)).heap.size (wX.alloc (.cells (m4 (.slice paX nf qaX) (.slice pbX nl qbX) (.slice pcX nr qcX) (.slice pdX nc qdX)) 34)) (wX.alloc (.cells (m4 (.slice paX nf qaX) (.slice pbX nl qbX) (.slice pcX nr qcX) (.slice pdX nc qdX)) 34)).drew := below_drew (Below.refl _ _)
      replace Rx := Lib.hid (Row.below Rx.out hbd)
      replace Rv := Lib.hid (Row.below Rv.out hbd)
      replace RW := Lib.hid (Row.below RW.out hbd)
      replace RX := Lib.hid (Row.below RX.out hbd)
      replace OW := Lib.hid (OwnM.below OW.out hbd)
      replace OX := Lib.hid (OwnM.below OX.out hbd)
      have S43 : Hid ((wX.alloc (.cells (m4 (.slice paX nf qaX) (.slice pbX nl qbX) (.slice pcX nr qcX) (.slice pdX nc qdX)) 34)).heap.size ≤ (wX.alloc (.cells (m4 (.slice paX nf qaX) (.slice pbX nl qbX) (.slice pcX nr qcX) (.slice pdX nc qdX)) 34)).drew.heap.size) := hbd.size
      replace L := Lib.hid (bst L.out hbd L.out.size)
      clear hbd
      refine wp_region_held_drew (S := (fun w' => w'.cell? ⟨w.heap.size + 1, 0, none⟩ = some (.int .i64 vk) ∧ w'.cell? ⟨w.heap.size + 1, 1, none⟩ = some (.int .i64 va) ∧ w'.cell? ⟨w.heap.size + 1, 2, none⟩ = some (.int .i64 vb) ∧ w'.cell? ⟨w.heap.size + 1, 3, none⟩ = some (.int .i64 vt) ∧ w'.cell? ⟨wX.heap.size, 0, none⟩ = some (.slice paX nf qaX) ∧ w'.cell? ⟨wX.heap.size, 1, none⟩ = some (.slice pbX nl qbX) ∧ w'.cell? ⟨wX.heap.size, 2, none⟩ = some (.slice pcX nr qcX) ∧ w'.cell? ⟨wX.heap.size, 3, none⟩ = some (.slice pdX nc qdX))) (by kernel_rfl) (⟨Row.cell Rv.out 0, Row.cell Rv.out 1, Row.cell Rv.out 2, Row.cell Rv.out 3, Row.cell RX.out 0, Row.cell RX.out 1, Row.cell RX.out 2, Row.cell RX.out 3⟩) (fun hHeld => ?_)
      generalize (wX.alloc (.cells (m4 (.slice paX nf qaX) (.slice pbX nl qbX) (.slice pcX nr qcX) (.slice pdX nc qdX)) 34)).drew = d44 at *
      refine wpAnyH_take (i := 0) (v := ?va0x69) rfl (by kernel_rfl) (by kernel_rfl) (by kernel_rfl) (fun _ _ _ h => h) (Or.inl ⟨by rfl, ?hy0x69⟩) (by assumption) ?rest0x69
      case hy0x69 => (intro w hSw; (try dsimp only at hSw); go_simp; try with_reducible rfl)
      (try simp only [Act.put, List.getElem_toArray, List.getElem_cons_zero, List.setIfInBounds_toArray, List.set_cons_zero, List.set_cons_succ])
      refine wpAnyH_take (i := 1) (v := ?va1x70) rfl (by kernel_rfl) (by kernel_rfl) (by kernel_rfl) (fun _ _ _ h => h) (Or.inl ⟨by rfl, ?hy1x70⟩) (by assumption) ?rest1x70
      case hy1x70 => (intro w hSw; (try dsimp only at hSw); go_simp; try with_reducible rfl)
      (try simp only [Act.put, List.getElem_toArray, List.getElem_cons_zero, List.getElem_cons_succ, List.setIfInBounds_toArray, List.set_cons_zero, List.set_cons_succ])
      have Zx : Hid (w.heap.size < d44.heap.size) := Row.lt Rx.out
      have Zv : Hid (w.heap.size + 1 < d44.heap.size) := Row.lt Rv.out
      have ZW : Hid (gW < d44.heap.size) := Row.lt RW.out
      have ZX : Hid (wX.heap.size < d44.heap.size) := Row.lt RX.out
      refine wpAnyH_ready (rs := [2, 7]) (by kernel_rfl) (by simp) ?_
      refine AllReadyH.cons rfl (fun K hK => ?_) (AllReadyH.cons rfl (fun K hK => ?_) (AllReadyH.nil))
      · skip
        go_simp
        refine (c_toMove ⟨vk, va, vb, vt⟩ _).mono ?_
        rintro e y45 ⟨rfl, hb⟩
        replace Rx := Lib.hid (Row.below Rx.out hb)
        replace Rv := Lib.hid (Row.below Rv.out hb)
        replace RW := Lib.hid (Row.below RW.out hb)
        replace RX := Lib.hid (Row.below RX.out hb)
        replace OW := Lib.hid (OwnM.below OW.out hb)
        replace OX := Lib.hid (OwnM.below OX.out hb)
        have S46 : Hid (d44.heap.size ≤ y45.heap.size) := hb.size
        replace L := Lib.hid (bst L.out hb L.out.size)
        clear hb
        refine hK.out _ _ ⟨Row.cell Rv.out 0, Row.cell Rv.out 1, Row.cell Rv.out 2, Row.cell Rv.out 3, Row.cell RX.out 0, Row.cell RX.out 1, Row.cell RX.out 2, Row.cell RX.out 3⟩ (fun hHeld => ?_)
        clear hK K
        (try simp only [Act.put, List.getElem_toArray, List.getElem_cons_zero, List.getElem_cons_succ, List.setIfInBounds_toArray, List.set_cons_zero, List.set_cons_succ])
        refine wpAnyH_ready (rs := [3, 7]) (by kernel_rfl) (by simp) ?_
        refine AllReadyH.cons rfl (fun K hK => ?_) (AllReadyH.cons rfl (fun K hK => ?_) (AllReadyH.nil))
        · skip
          go_simp
          refine (HI.out _ (.slice paX nf qaX) (.slice pbX nl qbX) (.slice pcX nr qcX) (.slice pdX nc qdX) OX.out.heap OX.out.cols).mono ?_
          rintro e y47 ⟨aG, bG, cG, dG, rfl, ho, hb⟩
          have hsh := ho.shapes
          simp only [HNgf.out, HNgl.out, HNgr.out, HNgc.out] at hsh
          obtain ⟨⟨paG, qaG, rfl⟩, ⟨pbG, qbG, rfl⟩, ⟨pcG, qcG, rfl⟩, ⟨pdG, qdG, rfl⟩⟩ := hsh
          have OG : Hid (OwnM y47 y45.heap.size y47.heap.size (.slice paG gf qaG) (.slice pbG gl qbG) (.slice pcG gr qcG) (.slice pdG gc qdG) gh gz) := ho
          clear ho
          replace Rx := Lib.hid (Row.below Rx.out hb)
          replace Rv := Lib.hid (Row.below Rv.out hb)
          replace RW := Lib.hid (Row.below RW.out hb)
          replace RX := Lib.hid (Row.below RX.out hb)
          replace OW := Lib.hid (OwnM.below OW.out hb)
          replace OX := Lib.hid (OwnM.below OX.out hb)
          have S48 : Hid (y45.heap.size ≤ y47.heap.size) := hb.size
          replace L := Lib.hid (bst L.out hb L.out.size)
          clear hb
          refine hK.out _ _ ⟨Row.cell Rv.out 0, Row.cell Rv.out 1, Row.cell Rv.out 2, Row.cell Rv.out 3, Row.cell RX.out 0, Row.cell RX.out 1, Row.cell RX.out 2, Row.cell RX.out 3⟩ (fun hHeld => ?_)
          clear hK K
          (try simp only [Act.put, List.getElem_toArray, List.getElem_cons_zero, List.getElem_cons_succ, List.setIfInBounds_toArray, List.set_cons_zero, List.set_cons_succ])
          refine wpAnyH_take (i := 4) (v := ?va4x71) rfl (by kernel_rfl) (by kernel_rfl) (by kernel_rfl) (fun _ _ _ h => h) (Or.inl ⟨by rfl, ?hy4x71⟩) (by assumption) ?rest4x71
          case hy4x71 => (intro w hSw; (try dsimp only at hSw); go_simp; try with_reducible rfl)
          (try simp only [Act.put, List.getElem_toArray, List.getElem_cons_zero, List.getElem_cons_succ, List.setIfInBounds_toArray, List.set_cons_zero, List.set_cons_succ])
          refine wpAnyH_take (i := 5) (v := ?va5x72) rfl (by kernel_rfl) (by kernel_rfl) (by kernel_rfl) (fun _ _ _ h => h) (Or.inl ⟨by rfl, ?hy5x72⟩) (by assumption) ?rest5x72
          case hy5x72 => (intro w hSw; (try dsimp only at hSw); go_simp; try with_reducible rfl)
          (try simp only [Act.put, List.getElem_toArray, List.getElem_cons_zero, List.getElem_cons_succ, List.setIfInBounds_toArray, List.set_cons_zero, List.set_cons_succ])
          refine wpAnyH_take (i := 6) (v := ?va6x73) rfl (by kernel_rfl) (by kernel_rfl) (by kernel_rfl) (fun _ _ _ h => h) (Or.inl ⟨by rfl, ?hy6x73⟩) (by assumption) ?rest6x73
          case hy6x73 => (intro w hSw; (try dsimp only at hSw); go_simp; try with_reducible rfl)
          (try simp only [Act.put, List.getElem_toArray, List.getElem_cons_zero, List.getElem_cons_succ, List.setIfInBounds_toArray, List.set_cons_zero, List.set_cons_succ])
          refine wpAnyH_ready (rs := [7]) (by kernel_rfl) (by simp) ?_
          refine AllReadyH.cons rfl (fun K hK => ?_) (AllReadyH.nil)
          have hb := below1 y47 (.cells (m4 nilS nilS nilS nilS) 34)
          have RN : Hid (Row (y47.alloc (.cells (m4 nilS nilS nilS nilS) 34)) y47.heap.size 34 (m4 nilS nilS nilS nilS)) := Row.new y47 _ _
          have S50 : Hid (y47.heap.size < (y47.alloc (.cells (m4 nilS nilS nilS nilS) 34)).heap.size) := (by unfold Hid; simp)
          replace Rx := Lib.hid (Row.below Rx.out hb)
          replace Rv := Lib.hid (Row.below Rv.out hb)
          replace RW := Lib.hid (Row.below RW.out hb)
          replace RX := Lib.hid (Row.below RX.out hb)
          replace OW := Lib.hid (OwnM.below OW.out hb)
          replace OX := Lib.hid (OwnM.below OX.out hb)
          replace OG := Lib.hid (OwnM.below OG.out hb)
          have S51 : Hid (y47.heap.size ≤ (y47.alloc (.cells (m4 nilS nilS nilS nilS) 34)).heap.size) := hb.size
          replace L := Lib.hid (bst L.out hb L.out.size)
          clear hb
          have RG := RN
          clear RN
          go_simp
          refine hK.out _ _ ⟨Row.cell Rv.out 0, Row.cell Rv.out 1, Row.cell Rv.out 2, Row.cell Rv.out 3, Row.cell RX.out 0, Row.cell RX.out 1, Row.cell RX.out 2, Row.cell RX.out 3⟩ (fun hHeld => ?_)
          clear hK K
          (try simp only [Act.put, List.getElem_toArray, List.getElem_cons_zero, List.getElem_cons_succ, List.setIfInBounds_toArray, List.set_cons_zero, List.set_cons_succ])
          have hgg : ∃ g : Nat, Hid (y47.heap.size = g) := ⟨_, rfl⟩
          obtain ⟨gg52, Hgg52⟩ := hgg
          have hgq := Hgg52.out
          rw [hgq] at RG ⊢
          clear hgq
          generalize y47.alloc (.cells (m4 nilS nilS nilS nilS) 34) = y49 at *
          refine wpAnyH_ready (rs := [8]) (by kernel_rfl) (by simp) ?_
          refine AllReadyH.cons rfl (fun K hK => ?_) AllReadyH.nil
          have Qx : Hid (w.heap.size < y49.heap.size) := Row.lt Rx.out
          have Qv : Hid (w.heap.size + 1 < y49.heap.size) := Row.lt Rv.out
          have QW : Hid (gW < y49.heap.size) := Row.lt RW.out
          have QX : Hid (wX.heap.size < y49.heap.size) := Row.lt RX.out
          have QG : Hid (gg52 < y49.heap.size) := Row.lt RG.out
          have Nx : ¬ gg52 = w.heap.size := (by have := S1.out; have := S2.out; have := S40.out; have := S41.out; have := S42.out; have := S43.out; have := S46.out; have := S48.out; have := S50.out; have := S51.out; have := Hgg52.out; have := BW.out; have := Zx.out; omega)
          have Nv : ¬ gg52 = w.heap.size + 1 := (by have := S1.out; have := S2.out; have := S40.out; have := S41.out; have := S42.out; have := S43.out; have := S46.out; have := S48.out; have := S50.out; have := S51.out; have := Hgg52.out; have := BW.out; have := Zv.out; omega)
          have NW : ¬ gg52 = gW := (by have := S1.out; have := S2.out; have := S40.out; have := S41.out; have := S42.out; have := S43.out; have := S46.out; have := S48.out; have := S50.out; have := S51.out; have := Hgg52.out; have := BW.out; have := ZW.out; omega)
          have NX : ¬ gg52 = wX.heap.size := (by have := S1.out; have := S2.out; have := S40.out; have := S41.out; have := S42.out; have := S43.out; have := S46.out; have := S48.out; have := S50.out; have := S51.out; have := Hgg52.out; have := BW.out; have := ZX.out; omega)
          replace Rx := Lib.hid (Row.putOther Rx.out (m4 (.slice paG gf qaG) (.slice pbG gl qbG) (.slice pcG gr qcG) (.slice pdG gc qdG)) (fun q => Nx q.symm))
          replace Rv := Lib.hid (Row.putOther Rv.out (m4 (.slice paG gf qaG) (.slice pbG gl qbG) (.slice pcG gr qcG) (.slice pdG gc qdG)) (fun q => Nv q.symm))
          replace RW := Lib.hid (Row.putOther RW.out (m4 (.slice paG gf qaG) (.slice pbG gl qbG) (.slice pcG gr qcG) (.slice pdG gc qdG)) (fun q => NW q.symm))
          replace RX := Lib.hid (Row.putOther RX.out (m4 (.slice paG gf qaG) (.slice pbG gl qbG) (.slice pcG gr qcG) (.slice pdG gc qdG)) (fun q => NX q.symm))
          replace OW := Lib.hid (OW.out.rowOut gg52 (m4 (.slice paG gf qaG) (.slice pbG gl qbG) (.slice pcG gr qcG) (.slice pdG gc qdG)) (by have := S1.out; have := S2.out; have := S40.out; have := S41.out; have := S42.out; have := S43.out; have := S46.out; have := S48.out; have := S50.out; have := S51.out; have := Hgg52.out; have := BW.out; have := QG.out; omega))
          replace OX := Lib.hid (OX.out.rowOut gg52 (m4 (.slice paG gf qaG) (.slice pbG gl qbG) (.slice pcG gr qcG) (.slice pdG gc qdG)) (by have := S1.out; have := S2.out; have := S40.out; have := S41.out; have := S42.out; have := S43.out; have := S46.out; have := S48.out; have := S50.out; have := S51.out; have := Hgg52.out; have := BW.out; have := QG.out; omega))
          replace OG := Lib.hid (OG.out.rowOut gg52 (m4 (.slice paG gf qaG) (.slice pbG gl qbG) (.slice pcG gr qcG) (.slice pdG gc qdG)) (by have := S1.out; have := S2.out; have := S40.out; have := S41.out; have := S42.out; have := S43.out; have := S46.out; have := S48.out; have := S50.out; have := S51.out; have := Hgg52.out; have := BW.out; have := QG.out; omega))
          replace L := Lib.hid (below_setRow L.out (show w.heap.size ≤ gg52 from (by have := S1.out; have := S2.out; have := S40.out; have := S41.out; have := S42.out; have := S43.out; have := S46.out; have := S48.out; have := S50.out; have := S51.out; have := Hgg52.out; have := BW.out; have := Zx.out; omega)) (m4 (.slice paG gf qaG) (.slice pbG gl qbG) (.slice pcG gr qcG) (.slice pdG gc qdG)))
          have RP := Lib.hid (Row.put RG.out (m4 (.slice paG gf qaG) (.slice pbG gl qbG) (.slice pcG gr qcG) (.slice pdG gc qdG)))
          refine wp_store_row 34 _ _ rfl gg52 (m4 (.slice paG gf qaG) (.slice pbG gl qbG) (.slice pcG gr qcG) (.slice pdG gc qdG)) rfl rfl 34 _ RG.out info_marking rfl (by simp [Value.oneCell']) ?_
          refine hK.out _ _ ⟨Row.cell Rv.out 0, Row.cell Rv.out 1, Row.cell Rv.out 2, Row.cell Rv.out 3, Row.cell RX.out 0, Row.cell RX.out 1, Row.cell RX.out 2, Row.cell RX.out 3⟩ (fun hHeld => ?_)
          clear hK K
          (try simp only [Act.put, List.getElem_toArray, List.getElem_cons_zero, List.getElem_cons_succ])
          refine wpAnyH_take (i := 9) (v := ?va9x74) rfl (by kernel_rfl) (by kernel_rfl) (by kernel_rfl) (fun _ _ _ h => h) (Or.inl ⟨by rfl, ?hy9x74⟩) (by assumption) ?rest9x74
          case hy9x74 => (intro w hSw; (try dsimp only at hSw); go_simp; try with_reducible rfl)
          (try simp only [Act.put, List.getElem_toArray, List.getElem_cons_zero, List.getElem_cons_succ, List.setIfInBounds_toArray, List.set_cons_zero, List.set_cons_succ])
          refine wpAnyH_done (by kernel_rfl) ?_ _
          go_wp2_with fail
          go_meet
          case rel => exact ⟨gg52, y45.heap.size, y47.heap.size, paG, qaG, pbG, qbG, pcG, qcG, pdG, qdG, rfl, rfl, Rx, Rv, RW, RX, OW, OX, RP, OG, L, (by unfold Hid; rw [size_setRow]; have := S1.out; have := S2.out; have := S40.out; have := S41.out; have := S42.out; have := S43.out; have := S46.out; have := S48.out; have := S50.out; have := S51.out; have := Hgg52.out; have := BW.out; have := QG.out; refine ⟨?_, ?_, ?_, ?_, ?_, ?_⟩ <;> omega)⟩
        · skip
          have hb := below1 y45 (.cells (m4 nilS nilS nilS nilS) 34)
          have RN : Hid (Row (y45.alloc (.cells (m4 nilS nilS nilS nilS) 34)) y45.heap.size 34 (m4 nilS nilS nilS nilS)) := Row.new y45 _ _
          have S54 : Hid (y45.heap.size < (y45.alloc (.cells (m4 nilS nilS nilS nilS) 34)).heap.size) := (by unfold Hid; simp)
          replace Rx := Lib.hid (Row.below Rx.out hb)
          replace Rv := Lib.hid (Row.below Rv.out hb)
          replace RW := Lib.hid (Row.below RW.out hb)
          replace RX := Lib.hid (Row.below RX.out hb)
          replace OW := Lib.hid (OwnM.below OW.out hb)
          replace OX := Lib.hid (OwnM.below OX.out hb)
          have S55 : Hid (y45.heap.size ≤ (y45.alloc (.cells (m4 nilS nilS nilS nilS) 34)).heap.size) := hb.size
          replace L := Lib.hid (bst L.out hb L.out.size)
          clear hb
          have RG := RN
          clear RN
          go_simp
          refine hK.out _ _ ⟨Row.cell Rv.out 0, Row.cell Rv.out 1, Row.cell Rv.out 2, Row.cell Rv.out 3, Row.cell RX.out 0, Row.cell RX.out 1, Row.cell RX.out 2, Row.cell RX.out 3⟩ (fun hHeld => ?_)
          clear hK K
          (try simp only [Act.put, List.getElem_toArray, List.getElem_cons_zero, List.getElem_cons_succ, List.setIfInBounds_toArray, List.set_cons_zero, List.set_cons_succ])
          have hgg : ∃ g : Nat, Hid (y45.heap.size = g) := ⟨_, rfl⟩
          obtain ⟨gg56, Hgg56⟩ := hgg
          have hgq := Hgg56.out
          rw [hgq] at RG ⊢
          clear hgq
          generalize y45.alloc (.cells (m4 nilS nilS nilS nilS) 34) = y53 at *
          refine wpAnyH_ready (rs := [3]) (by kernel_rfl) (by simp) ?_
          refine AllReadyH.cons rfl (fun K hK => ?_) (AllReadyH.nil)
          go_simp
          refine (HI.out _ (.slice paX nf qaX) (.slice pbX nl qbX) (.slice pcX nr qcX) (.slice pdX nc qdX) OX.out.heap OX.out.cols).mono ?_
          rintro e y57 ⟨aG, bG, cG, dG, rfl, ho, hb⟩
          have hsh := ho.shapes
          simp only [HNgf.out, HNgl.out, HNgr.out, HNgc.out] at hsh
          obtain ⟨⟨paG, qaG, rfl⟩, ⟨pbG, qbG, rfl⟩, ⟨pcG, qcG, rfl⟩, ⟨pdG, qdG, rfl⟩⟩ := hsh
          have OG : Hid (OwnM y57 y53.heap.size y57.heap.size (.slice paG gf qaG) (.slice pbG gl qbG) (.slice pcG gr qcG) (.slice pdG gc qdG) gh gz) := ho
          clear ho
          replace Rx := Lib.hid (Row.below Rx.out hb)
          replace Rv := Lib.hid (Row.below Rv.out hb)
          replace RW := Lib.hid (Row.below RW.out hb)
          replace RX := Lib.hid (Row.below RX.out hb)
          replace RG := Lib.hid (Row.below RG.out hb)
          replace OW := Lib.hid (OwnM.below OW.out hb)
          replace OX := Lib.hid (OwnM.below OX.out hb)
          have S58 : Hid (y53.heap.size ≤ y57.heap.size) := hb.size
          replace L := Lib.hid (bst L.out hb L.out.size)
          clear hb
          refine hK.out _ _ ⟨Row.cell Rv.out 0, Row.cell Rv.out 1, Row.cell Rv.out 2, Row.cell Rv.out 3, Row.cell RX.out 0, Row.cell RX.out 1, Row.cell RX.out 2, Row.cell RX.out 3⟩ (fun hHeld => ?_)
          clear hK K
          (try simp only [Act.put, List.getElem_toArray, List.getElem_cons_zero, List.getElem_cons_succ, List.setIfInBounds_toArray, List.set_cons_zero, List.set_cons_succ])
          refine wpAnyH_take (i := 4) (v := ?va4x75) rfl (by kernel_rfl) (by kernel_rfl) (by kernel_rfl) (fun _ _ _ h => h) (Or.inl ⟨by rfl, ?hy4x75⟩) (by assumption) ?rest4x75
          case hy4x75 => (intro w hSw; (try dsimp only at hSw); go_simp; try with_reducible rfl)
          (try simp only [Act.put, List.getElem_toArray, List.getElem_cons_zero, List.getElem_cons_succ, List.setIfInBounds_toArray, List.set_cons_zero, List.set_cons_succ])
          refine wpAnyH_take (i := 5) (v := ?va5x76) rfl (by kernel_rfl) (by kernel_rfl) (by kernel_rfl) (fun _ _ _ h => h) (Or.inl ⟨by rfl, ?hy5x76⟩) (by assumption) ?rest5x76
          case hy5x76 => (intro w hSw; (try dsimp only at hSw); go_simp; try with_reducible rfl)
          (try simp only [Act.put, List.getElem_toArray, List.getElem_cons_zero, List.getElem_cons_succ, List.setIfInBounds_toArray, List.set_cons_zero, List.set_cons_succ])
          refine wpAnyH_take (i := 6) (v := ?va6x77) rfl (by kernel_rfl) (by kernel_rfl) (by kernel_rfl) (fun _ _ _ h => h) (Or.inl ⟨by rfl, ?hy6x77⟩) (by assumption) ?rest6x77
          case hy6x77 => (intro w hSw; (try dsimp only at hSw); go_simp; try with_reducible rfl)
          (try simp only [Act.put, List.getElem_toArray, List.getElem_cons_zero, List.getElem_cons_succ, List.setIfInBounds_toArray, List.set_cons_zero, List.set_cons_succ])
          refine wpAnyH_ready (rs := [8]) (by kernel_rfl) (by simp) ?_
          refine AllReadyH.cons rfl (fun K hK => ?_) AllReadyH.nil
          have Qx : Hid (w.heap.size < y57.heap.size) := Row.lt Rx.out
          have Qv : Hid (w.heap.size + 1 < y57.heap.size) := Row.lt Rv.out
          have QW : Hid (gW < y57.heap.size) := Row.lt RW.out
          have QX : Hid (wX.heap.size < y57.heap.size) := Row.lt RX.out
          have QG : Hid (gg56 < y57.heap.size) := Row.lt RG.out
          have Nx : ¬ gg56 = w.heap.size := (by have := S1.out; have := S2.out; have := S40.out; have := S41.out; have := S42.out; have := S43.out; have := S46.out; have := S54.out; have := S55.out; have := Hgg56.out; have := S58.out; have := BW.out; have := Zx.out; omega)
          have Nv : ¬ gg56 = w.heap.size + 1 := (by have := S1.out; have := S2.out; have := S40.out; have := S41.out; have := S42.out; have := S43.out; have := S46.out; have := S54.out; have := S55.out; have := Hgg56.out; have := S58.out; have := BW.out; have := Zv.out; omega)
          have NW : ¬ gg56 = gW := (by have := S1.out; have := S2.out; have := S40.out; have := S41.out; have := S42.out; have := S43.out; have := S46.out; have := S54.out; have := S55.out; have := Hgg56.out; have := S58.out; have := BW.out; have := ZW.out; omega)
          have NX : ¬ gg56 = wX.heap.size := (by have := S1.out; have := S2.out; have := S40.out; have := S41.out; have := S42.out; have := S43.out; have := S46.out; have := S54.out; have := S55.out; have := Hgg56.out; have := S58.out; have := BW.out; have := ZX.out; omega)
          replace Rx := Lib.hid (Row.putOther Rx.out (m4 (.slice paG gf qaG) (.slice pbG gl qbG) (.slice pcG gr qcG) (.slice pdG gc qdG)) (fun q => Nx q.symm))
          replace Rv := Lib.hid (Row.putOther Rv.out (m4 (.slice paG gf qaG) (.slice pbG gl qbG) (.slice pcG gr qcG) (.slice pdG gc qdG)) (fun q => Nv q.symm))
          replace RW := Lib.hid (Row.putOther RW.out (m4 (.slice paG gf qaG) (.slice pbG gl qbG) (.slice pcG gr qcG) (.slice pdG gc qdG)) (fun q => NW q.symm))
          replace RX := Lib.hid (Row.putOther RX.out (m4 (.slice paG gf qaG) (.slice pbG gl qbG) (.slice pcG gr qcG) (.slice pdG gc qdG)) (fun q => NX q.symm))
          replace OW := Lib.hid (OW.out.rowOut gg56 (m4 (.slice paG gf qaG) (.slice pbG gl qbG) (.slice pcG gr qcG) (.slice pdG gc qdG)) (by have := S1.out; have := S2.out; have := S40.out; have := S41.out; have := S42.out; have := S43.out; have := S46.out; have := S54.out; have := S55.out; have := Hgg56.out; have := S58.out; have := BW.out; have := QG.out; omega))
          replace OX := Lib.hid (OX.out.rowOut gg56 (m4 (.slice paG gf qaG) (.slice pbG gl qbG) (.slice pcG gr qcG) (.slice pdG gc qdG)) (by have := S1.out; have := S2.out; have := S40.out; have := S41.out; have := S42.out; have := S43.out; have := S46.out; have := S54.out; have := S55.out; have := Hgg56.out; have := S58.out; have := BW.out; have := QG.out; omega))
          replace OG := Lib.hid (OG.out.rowOut gg56 (m4 (.slice paG gf qaG) (.slice pbG gl qbG) (.slice pcG gr qcG) (.slice pdG gc qdG)) (by have := S1.out; have := S2.out; have := S40.out; have := S41.out; have := S42.out; have := S43.out; have := S46.out; have := S54.out; have := S55.out; have := Hgg56.out; have := S58.out; have := BW.out; have := QG.out; omega))
          replace L := Lib.hid (below_setRow L.out (show w.heap.size ≤ gg56 from (by have := S1.out; have := S2.out; have := S40.out; have := S41.out; have := S42.out; have := S43.out; have := S46.out; have := S54.out; have := S55.out; have := Hgg56.out; have := S58.out; have := BW.out; have := Zx.out; omega)) (m4 (.slice paG gf qaG) (.slice pbG gl qbG) (.slice pcG gr qcG) (.slice pdG gc qdG)))
          have RP := Lib.hid (Row.put RG.out (m4 (.slice paG gf qaG) (.slice pbG gl qbG) (.slice pcG gr qcG) (.slice pdG gc qdG)))
          refine wp_store_row 34 _ _ rfl gg56 (m4 (.slice paG gf qaG) (.slice pbG gl qbG) (.slice pcG gr qcG) (.slice pdG gc qdG)) rfl rfl 34 _ RG.out info_marking rfl (by simp [Value.oneCell']) ?_
          refine hK.out _ _ ⟨Row.cell Rv.out 0, Row.cell Rv.out 1, Row.cell Rv.out 2, Row.cell Rv.out 3, Row.cell RX.out 0, Row.cell RX.out 1, Row.cell RX.out 2, Row.cell RX.out 3⟩ (fun hHeld => ?_)
          clear hK K
          (try simp only [Act.put, List.getElem_toArray, List.getElem_cons_zero, List.getElem_cons_succ])
          refine wpAnyH_take (i := 9) (v := ?va9x78) rfl (by kernel_rfl) (by kernel_rfl) (by kernel_rfl) (fun _ _ _ h => h) (Or.inl ⟨by rfl, ?hy9x78⟩) (by assumption) ?rest9x78
          case hy9x78 => (intro w hSw; (try dsimp only at hSw); go_simp; try with_reducible rfl)
          (try simp only [Act.put, List.getElem_toArray, List.getElem_cons_zero, List.getElem_cons_succ, List.setIfInBounds_toArray, List.set_cons_zero, List.set_cons_succ])
          refine wpAnyH_done (by kernel_rfl) ?_ _
          go_wp2_with fail
          go_meet
          case rel => exact ⟨gg56, y53.heap.size, y57.heap.size, paG, qaG, pbG, qbG, pcG, qcG, pdG, qdG, rfl, rfl, Rx, Rv, RW, RX, OW, OX, RP, OG, L, (by unfold Hid; rw [size_setRow]; have := S1.out; have := S2.out; have := S40.out; have := S41.out; have := S42.out; have := S43.out; have := S46.out; have := S54.out; have := S55.out; have := Hgg56.out; have := S58.out; have := BW.out; have := QG.out; refine ⟨?_, ?_, ?_, ?_, ?_, ?_⟩ <;> omega)⟩
      · skip
        have hb := below1 d44 (.cells (m4 nilS nilS nilS nilS) 34)
        have RN : Hid (Row (d44.alloc (.cells (m4 nilS nilS nilS nilS) 34)) d44.heap.size 34 (m4 nilS nilS nilS nilS)) := Row.new d44 _ _
        have S60 : Hid (d44.heap.size < (d44.alloc (.cells (m4 nilS nilS nilS nilS) 34)).heap.size) := (by unfold Hid; simp)
        replace Rx := Lib.hid (Row.below Rx.out hb)
        replace Rv := Lib.hid (Row.below Rv.out hb)
        replace RW := Lib.hid (Row.below RW.out hb)
        replace RX := Lib.hid (Row.below RX.out hb)
        replace OW := Lib.hid (OwnM.below OW.out hb)
        replace OX := Lib.hid (OwnM.below OX.out hb)
        have S61 : Hid (d44.heap.size ≤ (d44.alloc (.cells (m4 nilS nilS nilS nilS) 34)).heap.size) := hb.size
        replace L := Lib.hid (bst L.out hb L.out.size)
        clear hb
        have RG := RN
        clear RN
        go_simp
        refine hK.out _ _ ⟨Row.cell Rv.out 0, Row.cell Rv.out 1, Row.cell Rv.out 2, Row.cell Rv.out 3, Row.cell RX.out 0, Row.cell RX.out 1, Row.cell RX.out 2, Row.cell RX.out 3⟩ (fun hHeld => ?_)
        clear hK K
        (try simp only [Act.put, List.getElem_toArray, List.getElem_cons_zero, List.getElem_cons_succ, List.setIfInBounds_toArray, List.set_cons_zero, List.set_cons_succ])
        have hgg : ∃ g : Nat, Hid (d44.heap.size = g) := ⟨_, rfl⟩
        obtain ⟨gg62, Hgg62⟩ := hgg
        have hgq := Hgg62.out
        rw [hgq] at RG ⊢
        clear hgq
        generalize d44.alloc (.cells (m4 nilS nilS nilS nilS) 34) = y59 at *
        refine wpAnyH_ready (rs := [2]) (by kernel_rfl) (by simp) ?_
        refine AllReadyH.cons rfl (fun K hK => ?_) (AllReadyH.nil)
        go_simp
        refine (c_toMove ⟨vk, va, vb, vt⟩ _).mono ?_
        rintro e y63 ⟨rfl, hb⟩
        replace Rx := Lib.hid (Row.below Rx.out hb)
        replace Rv := Lib.hid (Row.below Rv.out hb)
        replace RW := Lib.hid (Row.below RW.out hb)
        replace RX := Lib.hid (Row.below RX.out hb)
        replace RG := Lib.hid (Row.below RG.out hb)
        replace OW := Lib.hid (OwnM.below OW.out hb)
        replace OX := Lib.hid (OwnM.below OX.out hb)
        have S64 : Hid (y59.heap.size ≤ y63.heap.size) := hb.size
        replace L := Lib.hid (bst L.out hb L.out.size)
        clear hb
        refine hK.out _ _ ⟨Row.cell Rv.out 0, Row.cell Rv.out 1, Row.cell Rv.out 2, Row.cell Rv.out 3, Row.cell RX.out 0, Row.cell RX.out 1, Row.cell RX.out 2, Row.cell RX.out 3⟩ (fun hHeld => ?_)
        clear hK K
        (try simp only [Act.put, List.getElem_toArray, List.getElem_cons_zero, List.getElem_cons_succ, List.setIfInBounds_toArray, List.set_cons_zero, List.set_cons_succ])
        refine wpAnyH_ready (rs := [3]) (by kernel_rfl) (by simp) ?_
        refine AllReadyH.cons rfl (fun K hK => ?_) (AllReadyH.nil)
        go_simp
        refine (HI.out _ (.slice paX nf qaX) (.slice pbX nl qbX) (.slice pcX nr qcX) (.slice pdX nc qdX) OX.out.heap OX.out.cols).mono ?_
        rintro e y65 ⟨aG, bG, cG, dG, rfl, ho, hb⟩
        have hsh := ho.shapes
        simp only [HNgf.out, HNgl.out, HNgr.out, HNgc.out] at hsh
        obtain ⟨⟨paG, qaG, rfl⟩, ⟨pbG, qbG, rfl⟩, ⟨pcG, qcG, rfl⟩, ⟨pdG, qdG, rfl⟩⟩ := hsh
        have OG : Hid (OwnM y65 y63.heap.size y65.heap.size (.slice paG gf qaG) (.slice pbG gl qbG) (.slice pcG gr qcG) (.slice pdG gc qdG) gh gz) := ho
        clear ho
        replace Rx := Lib.hid (Row.below Rx.out hb)
        replace Rv := Lib.hid (Row.below Rv.out hb)
        replace RW := Lib.hid (Row.below RW.out hb)
        replace RX := Lib.hid (Row.below RX.out hb)
        replace RG := Lib.hid (Row.below RG.out hb)
        replace OW := Lib.hid (OwnM.below OW.out hb)
        replace OX := Lib.hid (OwnM.below OX.out hb)
        have S66 : Hid (y63.heap.size ≤ y65.heap.size) := hb.size
        replace L := Lib.hid (bst L.out hb L.out.size)
        clear hb
        refine hK.out _ _ ⟨Row.cell Rv.out 0, Row.cell Rv.out 1, Row.cell Rv.out 2, Row.cell Rv.out 3, Row.cell RX.out 0, Row.cell RX.out 1, Row.cell RX.out 2, Row.cell RX.out 3⟩ (fun hHeld => ?_)
        clear hK K
        (try simp only [Act.put, List.getElem_toArray, List.getElem_cons_zero, List.getElem_cons_succ, List.setIfInBounds_toArray, List.set_cons_zero, List.set_cons_succ])
        refine wpAnyH_take (i := 4) (v := ?va4x79) rfl (by kernel_rfl) (by kernel_rfl) (by kernel_rfl) (fun _ _ _ h => h) (Or.inl ⟨by rfl, ?hy4x79⟩) (by assumption) ?rest4x79
        case hy4x79 => (intro w hSw; (try dsimp only at hSw); go_simp; try with_reducible rfl)
        (try simp only [Act.put, List.getElem_toArray, List.getElem_cons_zero, List.getElem_cons_succ, List.setIfInBounds_toArray, List.set_cons_zero, List.set_cons_succ])
        refine wpAnyH_take (i := 5) (v := ?va5x80) rfl (by kernel_rfl) (by kernel_rfl) (by kernel_rfl) (fun _ _ _ h => h) (Or.inl ⟨by rfl, ?hy5x80⟩) (by assumption) ?rest5x80
        case hy5x80 => (intro w hSw; (try dsimp only at hSw); go_simp; try with_reducible rfl)
        (try simp only [Act.put, List.getElem_toArray, List.getElem_cons_zero, List.getElem_cons_succ, List.setIfInBounds_toArray, List.set_cons_zero, List.set_cons_succ])
        refine wpAnyH_take (i := 6) (v := ?va6x81) rfl (by kernel_rfl) (by kernel_rfl) (by kernel_rfl) (fun _ _ _ h => h) (Or.inl ⟨by rfl, ?hy6x81⟩) (by assumption) ?rest6x81
        case hy6x81 => (intro w hSw; (try dsimp only at hSw); go_simp; try with_reducible rfl)
        (try simp only [Act.put, List.getElem_toArray, List.getElem_cons_zero, List.getElem_cons_succ, List.setIfInBounds_toArray, List.set_cons_zero, List.set_cons_succ])
        refine wpAnyH_ready (rs := [8]) (by kernel_rfl) (by simp) ?_
        refine AllReadyH.cons rfl (fun K hK => ?_) AllReadyH.nil
        have Qx : Hid (w.heap.size < y65.heap.size) := Row.lt Rx.out
        have Qv : Hid (w.heap.size + 1 < y65.heap.size) := Row.lt Rv.out
        have QW : Hid (gW < y65.heap.size) := Row.lt RW.out
        have QX : Hid (wX.heap.size < y65.heap.size) := Row.lt RX.out
        have QG : Hid (gg62 < y65.heap.size) := Row.lt RG.out
        have Nx : ¬ gg62 = w.heap.size := (by have := S1.out; have := S2.out; have := S40.out; have := S41.out; have := S42.out; have := S43.out; have := S60.out; have := S61.out; have := Hgg62.out; have := S64.out; have := S66.out; have := BW.out; have := Zx.out; omega)
        have Nv : ¬ gg62 = w.heap.size + 1 := (by have := S1.out; have := S2.out; have := S40.out; have := S41.out; have := S42.out; have := S43.out; have := S60.out; have := S61.out; have := Hgg62.out; have := S64.out; have := S66.out; have := BW.out; have := Zv.out; omega)
        have NW : ¬ gg62 = gW := (by have := S1.out; have := S2.out; have := S40.out; have := S41.out; have := S42.out; have := S43.out; have := S60.out; have := S61.out; have := Hgg62.out; have := S64.out; have := S66.out; have := BW.out; have := ZW.out; omega)
        have NX : ¬ gg62 = wX.heap.size := (by have := S1.out; have := S2.out; have := S40.out; have := S41.out; have := S42.out; have := S43.out; have := S60.out; have := S61.out; have := Hgg62.out; have := S64.out; have := S66.out; have := BW.out; have := ZX.out; omega)
        replace Rx := Lib.hid (Row.putOther Rx.out (m4 (.slice paG gf qaG) (.slice pbG gl qbG) (.slice pcG gr qcG) (.slice pdG gc qdG)) (fun q => Nx q.symm))
        replace Rv := Lib.hid (Row.putOther Rv.out (m4 (.slice paG gf qaG) (.slice pbG gl qbG) (.slice pcG gr qcG) (.slice pdG gc qdG)) (fun q => Nv q.symm))
        replace RW := Lib.hid (Row.putOther RW.out (m4 (.slice paG gf qaG) (.slice pbG gl qbG) (.slice pcG gr qcG) (.slice pdG gc qdG)) (fun q => NW q.symm))
        replace RX := Lib.hid (Row.putOther RX.out (m4 (.slice paG gf qaG) (.slice pbG gl qbG) (.slice pcG gr qcG) (.slice pdG gc qdG)) (fun q => NX q.symm))
        replace OW := Lib.hid (OW.out.rowOut gg62 (m4 (.slice paG gf qaG) (.slice pbG gl qbG) (.slice pcG gr qcG) (.slice pdG gc qdG)) (by have := S1.out; have := S2.out; have := S40.out; have := S41.out; have := S42.out; have := S43.out; have := S60.out; have := S61.out; have := Hgg62.out; have := S64.out; have := S66.out; have := BW.out; have := QG.out; omega))
        replace OX := Lib.hid (OX.out.rowOut gg62 (m4 (.slice paG gf qaG) (.slice pbG gl qbG) (.slice pcG gr qcG) (.slice pdG gc qdG)) (by have := S1.out; have := S2.out; have := S40.out; have := S41.out; have := S42.out; have := S43.out; have := S60.out; have := S61.out; have := Hgg62.out; have := S64.out; have := S66.out; have := BW.out; have := QG.out; omega))
        replace OG := Lib.hid (OG.out.rowOut gg62 (m4 (.slice paG gf qaG) (.slice pbG gl qbG) (.slice pcG gr qcG) (.slice pdG gc qdG)) (by have := S1.out; have := S2.out; have := S40.out; have := S41.out; have := S42.out; have := S43.out; have := S60.out; have := S61.out; have := Hgg62.out; have := S64.out; have := S66.out; have := BW.out; have := QG.out; omega))
        replace L := Lib.hid (below_setRow L.out (show w.heap.size ≤ gg62 from (by have := S1.out; have := S2.out; have := S40.out; have := S41.out; have := S42.out; have := S43.out; have := S60.out; have := S61.out; have := Hgg62.out; have := S64.out; have := S66.out; have := BW.out; have := Zx.out; omega)) (m4 (.slice paG gf qaG) (.slice pbG gl qbG) (.slice pcG gr qcG) (.slice pdG gc qdG)))
        have RP := Lib.hid (Row.put RG.out (m4 (.slice paG gf qaG) (.slice pbG gl qbG) (.slice pcG gr qcG) (.slice pdG gc qdG)))
        refine wp_store_row 34 _ _ rfl gg62 (m4 (.slice paG gf qaG) (.slice pbG gl qbG) (.slice pcG gr qcG) (.slice pdG gc qdG)) rfl rfl 34 _ RG.out info_marking rfl (by simp [Value.oneCell']) ?_
        refine hK.out _ _ ⟨Row.cell Rv.out 0, Row.cell Rv.out 1, Row.cell Rv.out 2, Row.cell Rv.out 3, Row.cell RX.out 0, Row.cell RX.out 1, Row.cell RX.out 2, Row.cell RX.out 3⟩ (fun hHeld => ?_)
        clear hK K
        (try simp only [Act.put, List.getElem_toArray, List.getElem_cons_zero, List.getElem_cons_succ])
        refine wpAnyH_take (i := 9) (v := ?va9x82) rfl (by kernel_rfl) (by kernel_rfl) (by kernel_rfl) (fun _ _ _ h => h) (Or.inl ⟨by rfl, ?hy9x82⟩) (by assumption) ?rest9x82
        case hy9x82 => (intro w hSw; (try dsimp only at hSw); go_simp; try with_reducible rfl)
        (try simp only [Act.put, List.getElem_toArray, List.getElem_cons_zero, List.getElem_cons_succ, List.setIfInBounds_toArray, List.set_cons_zero, List.set_cons_succ])
        refine wpAnyH_done (by kernel_rfl) ?_ _
        go_wp2_with fail
        go_meet
        case rel => exact ⟨gg62, y63.heap.size, y65.heap.size, paG, qaG, pbG, qbG, pcG, qcG, pdG, qdG, rfl, rfl, Rx, Rv, RW, RX, OW, OX, RP, OG, L, (by unfold Hid; rw [size_setRow]; have := S1.out; have := S2.out; have := S40.out; have := S41.out; have := S42.out; have := S43.out; have := S60.out; have := S61.out; have := Hgg62.out; have := S64.out; have := S66.out; have := BW.out; have := QG.out; refine ⟨?_, ?_, ?_, ?_, ?_, ?_⟩ <;> omega)⟩
    case rest =>
      clear Rx Rv RW RX OW OX L
      obtain ⟨gG, loG, hiG, paG, qaG, pbG, qbG, pcG, qcG, pdG, qdG, rfl, rfl, Rx, Rv, RW, RX, OW, OX, RG, OG, L, BG⟩ := hcut
      generalize wc = z67 at *
      have c0x := Row.cell Rx.out 0
      have c1x := Row.cell Rx.out 1
      have c2x := Row.cell Rx.out 2
      have c3x := Row.cell Rx.out 3
      have c0v := Row.cell Rv.out 0
      have c1v := Row.cell Rv.out 1
      have c2v := Row.cell Rv.out 2
      have c3v := Row.cell Rv.out 3
      have c0W := Row.cell RW.out 0
      have c1W := Row.cell RW.out 1
      have c2W := Row.cell RW.out 2
      have c3W := Row.cell RW.out 3
      have c0X := Row.cell RX.out 0
      have c1X := Row.cell RX.out 1
      have c2X := Row.cell RX.out 2
      have c3X := Row.cell RX.out 3
      have c0G := Row.cell RG.out 0
      have c1G := Row.cell RG.out 1
      have c2G := Row.cell RG.out 2
      have c3G := Row.cell RG.out 3
      go_wp2_with fail
      clear c0x c1x c2x c3x c0v c1v c2v c3v c0W c1W c2W c3W c0X c1X c2X c3X c0G c1G c2G c3G
      refine (c_eqMarking (.slice paG gf qaG) (.slice pbG gl qbG) (.slice pcG gr qcG) (.slice pdG gc qdG) (.slice paW gf qaW) (.slice pbW gl qbW) (.slice pcW gr qcW) (.slice pdW gc qdW) gh gz _ OG.out.heap OG.out.cols OW.out.heap OW.out.cols HRZ.out.2.2.1 (by rw [HNgc.out]; exact HRZ.out.2.2.2)).mono ?_
      rintro e w1e ⟨rfl, hb⟩
      replace Rx := Lib.hid (Row.below Rx.out hb)
      replace Rv := Lib.hid (Row.below Rv.out hb)
      replace RW := Lib.hid (Row.below RW.out hb)
      replace RX := Lib.hid (Row.below RX.out hb)
      replace RG := Lib.hid (Row.below RG.out hb)
      replace OW := Lib.hid (OwnM.below OW.out hb)
      replace OX := Lib.hid (OwnM.below OX.out hb)
      replace OG := Lib.hid (OwnM.below OG.out hb)
      have S68 : Hid (z67.heap.size ≤ w1e.heap.size) := hb.size
      replace L := Lib.hid (bst L.out hb L.out.size)
      clear hb
      have c0x := Row.cell Rx.out 0
      have c1x := Row.cell Rx.out 1
      have c2x := Row.cell Rx.out 2
      have c3x := Row.cell Rx.out 3
      have c0v := Row.cell Rv.out 0
      have c1v := Row.cell Rv.out 1
      have c2v := Row.cell Rv.out 2
      have c3v := Row.cell Rv.out 3
      have c0W := Row.cell RW.out 0
      have c1W := Row.cell RW.out 1
      have c2W := Row.cell RW.out 2
      have c3W := Row.cell RW.out 3
      have c0X := Row.cell RX.out 0
      have c1X := Row.cell RX.out 1
      have c2X := Row.cell RX.out 2
      have c3X := Row.cell RX.out 3
      have c0G := Row.cell RG.out 0
      have c1G := Row.cell RG.out 1
      have c2G := Row.cell RG.out 2
      have c3G := Row.cell RG.out 3
      go_wp2_with fail
      clear c0x c1x c2x c3x c0v c1v c2v c3v c0W c1W c2W c3W c0X c1X c2X c3X c0G c1G c2G c3G
      have RR0 : w1e.drew.cell? ⟨w.heap.size, 0, none⟩ = some (.slice paA nf qaA) := Row.cell Rx.out 0
      have RR1 : w1e.drew.cell? ⟨w.heap.size, 1, none⟩ = some (.slice pbA nl qbA) := Row.cell Rx.out 1
      have RR2 : w1e.drew.cell? ⟨w.heap.size, 2, none⟩ = some (.slice pcA nr qcA) := Row.cell Rx.out 2
      have RR3 : w1e.drew.cell? ⟨w.heap.size, 3, none⟩ = some (.slice pdA nc qdA) := Row.cell Rx.out 3
      have RX0 : w1e.drew.cell? ⟨wX.heap.size, 0, none⟩ = some (.slice paX nf qaX) := Row.cell RX.out 0
      have RX1 : w1e.drew.cell? ⟨wX.heap.size, 1, none⟩ = some (.slice pbX nl qbX) := Row.cell RX.out 1
      have RX2 : w1e.drew.cell? ⟨wX.heap.size, 2, none⟩ = some (.slice pcX nr qcX) := Row.cell RX.out 2
      have RX3 : w1e.drew.cell? ⟨wX.heap.size, 3, none⟩ = some (.slice pdX nc qdX) := Row.cell RX.out 3
      have BD := below_drew (Below.refl w1e.heap.size w1e)
      have IZ := Lib.hid (HeapAt.below HZ.out (below_drew L.out))
      have IY := Lib.hid (IntsAt.below HY.out (below_drew L.out))
      have IX := Lib.hid (OX.out.heap.below BD)
      have JX := Lib.hid (OX.out.cols.below BD)
      go_region_held3 (fun w' => w'.cell? ⟨w.heap.size, 0, none⟩ = some (.slice paA nf qaA) ∧ w'.cell? ⟨w.heap.size, 1, none⟩ = some (.slice pbA nl qbA) ∧ w'.cell? ⟨w.heap.size, 2, none⟩ = some (.slice pcA nr qcA) ∧ w'.cell? ⟨w.heap.size, 3, none⟩ = some (.slice pdA nc qdA) ∧ w'.cell? ⟨wX.heap.size, 0, none⟩ = some (.slice paX nf qaX) ∧ w'.cell? ⟨wX.heap.size, 1, none⟩ = some (.slice pbX nl qbX) ∧ w'.cell? ⟨wX.heap.size, 2, none⟩ = some (.slice pcX nr qcX) ∧ w'.cell? ⟨wX.heap.size, 3, none⟩ = some (.slice pdX nc qdX) ∧ Below w1e.heap.size w1e w')
        (first
          | (with_reducible exact ⟨RR0, RR1, RR2, RR3, RX0, RX1, RX2, RX3, BD⟩)
          | (go_split_ands
             exact ⟨cellBelow hbk (Nat.le_refl _) (by assumption), cellBelow hbk (Nat.le_refl _) (by assumption), cellBelow hbk (Nat.le_refl _) (by assumption), cellBelow hbk (Nat.le_refl _) (by assumption), cellBelow hbk (Nat.le_refl _) (by assumption), cellBelow hbk (Nat.le_refl _) (by assumption), cellBelow hbk (Nat.le_refl _) (by assumption), cellBelow hbk (Nat.le_refl _) (by assumption), bst (by assumption) hbk (Below.size (by assumption))⟩)
          | (go_split_ands; refine ⟨?_, ?_, ?_, ?_, ?_, ?_, ?_, ?_, ?_⟩ <;> assumption))
        (first
          | (go_at_call 17; refine (c_toMarking (.slice paA nf qaA) (.slice pbA nl qbA) (.slice pcA nr qcA) (.slice pdA nc qdA) hx zx _ IZ.out IY.out HM.out HMnc.out).mono ?_; rintro e wD1 ⟨aD, bD, cD, dD, rfl, hoD, hbk⟩; have DIX := Lib.hid hoD.heap; have EIX := Lib.hid (IX.out.below hbk); have DJX := Lib.hid hoD.cols; have EJX := Lib.hid (JX.out.below hbk); clear hoD)
          | (go_at_call 20; refine (c_eqMarking _ _ _ _ _ _ _ _ hx zx _ EIX.out EJX.out DIX.out DJX.out HM.out HMnc.out).mono ?_; rintro e wD2 ⟨rfl, hbk⟩))
      have hb : Below w1e.heap.size w1e wD2 := by go_split_ands; assumption
      clear DIX EIX IX DJX EJX JX IZ IY RR0 RX0 RR1 RX1 RR2 RX2 RR3 RX3 BD
      replace Rx := Lib.hid (Row.below Rx.out hb)
      replace Rv := Lib.hid (Row.below Rv.out hb)
      replace RW := Lib.hid (Row.below RW.out hb)
      replace RX := Lib.hid (Row.below RX.out hb)
      replace RG := Lib.hid (Row.below RG.out hb)
      replace OW := Lib.hid (OwnM.below OW.out hb)
      replace OX := Lib.hid (OwnM.below OX.out hb)
      replace OG := Lib.hid (OwnM.below OG.out hb)
      have S69 : Hid (w1e.heap.size ≤ wD2.heap.size) := hb.size
      replace L := Lib.hid (bst L.out hb L.out.size)
      clear hb
      have c0x := Row.cell Rx.out 0
      have c1x := Row.cell Rx.out 1
      have c2x := Row.cell Rx.out 2
      have c3x := Row.cell Rx.out 3
      have c0v := Row.cell Rv.out 0
      have c1v := Row.cell Rv.out 1
      have c2v := Row.cell Rv.out 2
      have c3v := Row.cell Rv.out 3
      have c0W := Row.cell RW.out 0
      have c1W := Row.cell RW.out 1
      have c2W := Row.cell RW.out 2
      have c3W := Row.cell RW.out 3
      have c0X := Row.cell RX.out 0
      have c1X := Row.cell RX.out 1
      have c2X := Row.cell RX.out 2
      have c3X := Row.cell RX.out 3
      have c0G := Row.cell RG.out 0
      have c1G := Row.cell RG.out 1
      have c2G := Row.cell RG.out 2
      have c3G := Row.cell RG.out 3
      go_wp2_with fail
      clear c0x c1x c2x c3x c0v c1v c2v c3v c0W c1W c2W c3W c0X c1X c2X c3X c0G c1G c2G c3G
      refine (c_markMarking z39.heap.size wX.heap.size (.slice paX nf qaX) (.slice pbX nl qbX) (.slice pcX nr qcX) (.slice pdX nc qdX) hx zx 1 _ OX.out (by omega) (by have := HMnc.out; rw [HSM.out]; have h9 := HSZ.out.1; omega) (by rw [HNnf.out]; have := HSZ.out.2; omega) (by have := S1.out; have := S2.out; have := S40.out; have := S41.out; have := S42.out; have := S68.out; have := S69.out; have := BW.out; have := BG.out; omega)).mono ?_
      rintro e wmx ⟨rfl, ho, hch⟩
      rw [HSM.out, HNnc.out]
      have Qx : Hid (w.heap.size < wD2.heap.size) := Row.lt Rx.out
      have Qv : Hid (w.heap.size + 1 < wD2.heap.size) := Row.lt Rv.out
      have QW : Hid (gW < wD2.heap.size) := Row.lt RW.out
      have QX : Hid (wX.heap.size < wD2.heap.size) := Row.lt RX.out
      have QG : Hid (gG < wD2.heap.size) := Row.lt RG.out
      replace Rx := Lib.hid (Row.chg Rx.out hch (by have := S1.out; have := S2.out; have := S40.out; have := S41.out; have := S42.out; have := S68.out; have := S69.out; have := BW.out; have := BG.out; have := Qx.out; omega))
      replace Rv := Lib.hid (Row.chg Rv.out hch (by have := S1.out; have := S2.out; have := S40.out; have := S41.out; have := S42.out; have := S68.out; have := S69.out; have := BW.out; have := BG.out; have := Qv.out; omega))
      replace RW := Lib.hid (Row.chg RW.out hch (by have := S1.out; have := S2.out; have := S40.out; have := S41.out; have := S42.out; have := S68.out; have := S69.out; have := BW.out; have := BG.out; have := QW.out; omega))
      replace RX := Lib.hid (Row.chg RX.out hch (by have := S1.out; have := S2.out; have := S40.out; have := S41.out; have := S42.out; have := S68.out; have := S69.out; have := BW.out; have := BG.out; have := QX.out; omega))
      replace RG := Lib.hid (Row.chg RG.out hch (by have := S1.out; have := S2.out; have := S40.out; have := S41.out; have := S42.out; have := S68.out; have := S69.out; have := BW.out; have := BG.out; have := QG.out; omega))
      replace OW := Lib.hid (OW.out.chg hch (by have := S1.out; have := S2.out; have := S40.out; have := S41.out; have := S42.out; have := S68.out; have := S69.out; have := BW.out; have := BG.out; omega))
      replace OG := Lib.hid (OG.out.chg hch (by have := S1.out; have := S2.out; have := S40.out; have := S41.out; have := S42.out; have := S68.out; have := S69.out; have := BW.out; have := BG.out; omega))
      replace L := Lib.hid (below_chg L.out hch (by have := S1.out; have := S2.out; have := S40.out; have := S41.out; have := S42.out; have := S68.out; have := S69.out; have := BW.out; have := BG.out; have := Qx.out; omega) L.out.size)
      have S70 : Hid (wD2.heap.size ≤ wmx.heap.size) := hch.size
      clear hch Qx Qv QW QX QG
      clear OX ho
      have c0x := Row.cell Rx.out 0
      have c1x := Row.cell Rx.out 1
      have c2x := Row.cell Rx.out 2
      have c3x := Row.cell Rx.out 3
      have c0v := Row.cell Rv.out 0
      have c1v := Row.cell Rv.out 1
      have c2v := Row.cell Rv.out 2
      have c3v := Row.cell Rv.out 3
      have c0W := Row.cell RW.out 0
      have c1W := Row.cell RW.out 1
      have c2W := Row.cell RW.out 2
      have c3W := Row.cell RW.out 3
      have c0X := Row.cell RX.out 0
      have c1X := Row.cell RX.out 1
      have c2X := Row.cell RX.out 2
      have c3X := Row.cell RX.out 3
      have c0G := Row.cell RG.out 0
      have c1G := Row.cell RG.out 1
      have c2G := Row.cell RG.out 2
      have c3G := Row.cell RG.out 3
      go_wp2_with fail
      clear c0x c1x c2x c3x c0v c1v c2v c3v c0W c1W c2W c3W c0X c1X c2X c3X c0G c1G c2G c3G
      refine (c_eqMarking (.slice paG gf qaG) (.slice pbG gl qbG) (.slice pcG gr qcG) (.slice pdG gc qdG) (.slice paW gf qaW) (.slice pbW gl qbW) (.slice pcW gr qcW) (.slice pdW gc qdW) gh gz _ OG.out.heap OG.out.cols OW.out.heap OW.out.cols HRZ.out.2.2.1 (by rw [HNgc.out]; exact HRZ.out.2.2.2)).mono ?_
      rintro e w2e ⟨rfl, hb⟩
      replace Rx := Lib.hid (Row.below Rx.out hb)
      replace Rv := Lib.hid (Row.below Rv.out hb)
      replace RW := Lib.hid (Row.below RW.out hb)
      replace RX := Lib.hid (Row.below RX.out hb)
      replace RG := Lib.hid (Row.below RG.out hb)
      replace OW := Lib.hid (OwnM.below OW.out hb)
      replace OG := Lib.hid (OwnM.below OG.out hb)
      have S71 : Hid (wmx.heap.size ≤ w2e.heap.size) := hb.size
      replace L := Lib.hid (bst L.out hb L.out.size)
      clear hb
      have c0x := Row.cell Rx.out 0
      have c1x := Row.cell Rx.out 1
      have c2x := Row.cell Rx.out 2
      have c3x := Row.cell Rx.out 3
      have c0v := Row.cell Rv.out 0
      have c1v := Row.cell Rv.out 1
      have c2v := Row.cell Rv.out 2
      have c3v := Row.cell Rv.out 3
      have c0W := Row.cell RW.out 0
      have c1W := Row.cell RW.out 1
      have c2W := Row.cell RW.out 2
      have c3W := Row.cell RW.out 3
      have c0X := Row.cell RX.out 0
      have c1X := Row.cell RX.out 1
      have c2X := Row.cell RX.out 2
      have c3X := Row.cell RX.out 3
      have c0G := Row.cell RG.out 0
      have c1G := Row.cell RG.out 1
      have c2G := Row.cell RG.out 2
      have c3G := Row.cell RG.out 3
      go_wp2_with fail
      clear c0x c1x c2x c3x c0v c1v c2v c3v c0W c1W c2W c3W c0X c1X c2X c3X c0G c1G c2G c3G
      refine (c_markMarking loG hiG (.slice paG gf qaG) (.slice pbG gl qbG) (.slice pcG gr qcG) (.slice pdG gc qdG) gh gz 1 _ OG.out (by omega) (by have := HRZ.out.2.2.2; rw [HSMg.out, HNgc.out]; have h9 := HRZ.out.1; omega) (by rw [HNgf.out]; have := HRZ.out.2.1; omega) (by have := S1.out; have := S2.out; have := S40.out; have := S41.out; have := S42.out; have := S68.out; have := S69.out; have := S70.out; have := S71.out; have := BW.out; have := BG.out; omega)).mono ?_
      rintro e wmG ⟨rfl, ho, hch⟩
      rw [HSMg.out, HNgc.out] at ho ⊢
      have Qx : Hid (w.heap.size < w2e.heap.size) := Row.lt Rx.out
      have Qv : Hid (w.heap.size + 1 < w2e.heap.size) := Row.lt Rv.out
      have QW : Hid (gW < w2e.heap.size) := Row.lt RW.out
      have QX : Hid (wX.heap.size < w2e.heap.size) := Row.lt RX.out
      have QG : Hid (gG < w2e.heap.size) := Row.lt RG.out
      replace Rx := Lib.hid (Row.chg Rx.out hch (by have := S1.out; have := S2.out; have := S40.out; have := S41.out; have := S42.out; have := S68.out; have := S69.out; have := S70.out; have := S71.out; have := BW.out; have := BG.out; have := Qx.out; omega))
      replace Rv := Lib.hid (Row.chg Rv.out hch (by have := S1.out; have := S2.out; have := S40.out; have := S41.out; have := S42.out; have := S68.out; have := S69.out; have := S70.out; have := S71.out; have := BW.out; have := BG.out; have := Qv.out; omega))
      replace RW := Lib.hid (Row.chg RW.out hch (by have := S1.out; have := S2.out; have := S40.out; have := S41.out; have := S42.out; have := S68.out; have := S69.out; have := S70.out; have := S71.out; have := BW.out; have := BG.out; have := QW.out; omega))
      replace RX := Lib.hid (Row.chg RX.out hch (by have := S1.out; have := S2.out; have := S40.out; have := S41.out; have := S42.out; have := S68.out; have := S69.out; have := S70.out; have := S71.out; have := BW.out; have := BG.out; have := QX.out; omega))
      replace RG := Lib.hid (Row.chg RG.out hch (by have := S1.out; have := S2.out; have := S40.out; have := S41.out; have := S42.out; have := S68.out; have := S69.out; have := S70.out; have := S71.out; have := BW.out; have := BG.out; have := QG.out; omega))
      replace OW := Lib.hid (OW.out.chg hch (by have := S1.out; have := S2.out; have := S40.out; have := S41.out; have := S42.out; have := S68.out; have := S69.out; have := S70.out; have := S71.out; have := BW.out; have := BG.out; omega))
      replace L := Lib.hid (below_chg L.out hch (by have := S1.out; have := S2.out; have := S40.out; have := S41.out; have := S42.out; have := S68.out; have := S69.out; have := S70.out; have := S71.out; have := BW.out; have := BG.out; have := Qx.out; omega) L.out.size)
      have S72 : Hid (w2e.heap.size ≤ wmG.heap.size) := hch.size
      clear hch Qx Qv QW QX QG
      replace OG := Lib.hid ho
      clear ho
      have c0x := Row.cell Rx.out 0
      have c1x := Row.cell Rx.out 1
      have c2x := Row.cell Rx.out 2
      have c3x := Row.cell Rx.out 3
      have c0v := Row.cell Rv.out 0
      have c1v := Row.cell Rv.out 1
      have c2v := Row.cell Rv.out 2
      have c3v := Row.cell Rv.out 3
      have c0W := Row.cell RW.out 0
      have c1W := Row.cell RW.out 1
      have c2W := Row.cell RW.out 2
      have c3W := Row.cell RW.out 3
      have c0X := Row.cell RX.out 0
      have c1X := Row.cell RX.out 1
      have c2X := Row.cell RX.out 2
      have c3X := Row.cell RX.out 3
      have c0G := Row.cell RG.out 0
      have c1G := Row.cell RG.out 1
      have c2G := Row.cell RG.out 2
      have c3G := Row.cell RG.out 3
      go_wp2_with fail
      clear c0x c1x c2x c3x c0v c1v c2v c3v c0W c1W c2W c3W c0X c1X c2X c3X c0G c1G c2G c3G
      refine (c_heldMarking (.slice paG gf qaG) (.slice pbG gl qbG) (.slice pcG gr qcG) (.slice pdG gc qdG) gh gc 1 _ OG.out.heap (by rw [HSMg.out]; exact OG.out.cols) (by omega) (by rw [HSMg.out]; have h9 := HRZ.out.1; have := HRZ.out.2.2.2; omega) (by rw [HNgf.out]; have := HRZ.out.2.1; omega)).mono ?_
      rintro e wh1 ⟨rfl, hb⟩
      rw [HSMg.out]
      replace Rx := Lib.hid (Row.below Rx.out hb)
      replace Rv := Lib.hid (Row.below Rv.out hb)
      replace RW := Lib.hid (Row.below RW.out hb)
      replace RX := Lib.hid (Row.below RX.out hb)
      replace RG := Lib.hid (Row.below RG.out hb)
      replace OW := Lib.hid (OwnM.below OW.out hb)
      replace OG := Lib.hid (OwnM.below OG.out hb)
      have S73 : Hid (wmG.heap.size ≤ wh1.heap.size) := hb.size
      replace L := Lib.hid (bst L.out hb L.out.size)
      clear hb
      have c0x := Row.cell Rx.out 0
      have c1x := Row.cell Rx.out 1
      have c2x := Row.cell Rx.out 2
      have c3x := Row.cell Rx.out 3
      have c0v := Row.cell Rv.out 0
      have c1v := Row.cell Rv.out 1
      have c2v := Row.cell Rv.out 2
      have c3v := Row.cell Rv.out 3
      have c0W := Row.cell RW.out 0
      have c1W := Row.cell RW.out 1
      have c2W := Row.cell RW.out 2
      have c3W := Row.cell RW.out 3
      have c0X := Row.cell RX.out 0
      have c1X := Row.cell RX.out 1
      have c2X := Row.cell RX.out 2
      have c3X := Row.cell RX.out 3
      have c0G := Row.cell RG.out 0
      have c1G := Row.cell RG.out 1
      have c2G := Row.cell RG.out 2
      have c3G := Row.cell RG.out 3
      go_wp2_with fail
      clear c0x c1x c2x c3x c0v c1v c2v c3v c0W c1W c2W c3W c0X c1X c2X c3X c0G c1G c2G c3G
      go_cut [14, 15] from 80 (fun s14 s15 wk => ∃ (gH loH hiH : Nat) (paH : Option Addr) (qaH : Nat) (pbH : Option Addr) (qbH : Nat) (pcH : Option Addr) (qcH : Nat) (pdH : Option Addr) (qdH : Nat), s14 = .pointer (some ⟨gH, 0, none⟩) ∧ s15 = .bool ok ∧ Hid (Row wk (w.heap.size) 28 (m4 (.slice paA nf qaA) (.slice pbA nl qbA) (.slice pcA nr qcA) (.slice pdA nc qdA))) ∧ Hid (Row wk (w.heap.size + 1) 30 (mo4 ⟨vk, va, vb, vt⟩)) ∧ Hid (Row wk (gW) 34 (m4 (.slice paW gf qaW) (.slice pbW gl qbW) (.slice pcW gr qcW) (.slice pdW gc qdW))) ∧ Hid (Row wk (wX.heap.size) 34 (m4 (.slice paX nf qaX) (.slice pbX nl qbX) (.slice pcX nr qcX) (.slice pdX nc qdX))) ∧ Hid (Row wk (gG) 34 (m4 (.slice paG gf qaG) (.slice pbG gl qbG) (.slice pcG gr qcG) (.slice pdG gc qdG))) ∧ Hid (OwnM wk (loW) (hiW) (.slice paW gf qaW) (.slice pbW gl qbW) (.slice pcW gr qcW) (.slice pdW gc qdW) gh gz) ∧ Hid (OwnM wk (loG) (hiG) (.slice paG gf qaG) (.slice pbG gl qbG) (.slice pcG gr qcG) (.slice pdG gc qdG) (markH 1 gh) (upFrom (1 + (szg : Int)) gc)) ∧ Hid (Row wk gH 34 (m4 (.slice paH gf qaH) (.slice pbH gl qbH) (.slice pcH gr qcH) (.slice pdH gc qdH))) ∧ Hid (OwnM wk loH hiH (.slice paH gf qaH) (.slice pbH gl qbH) (.slice pcH gr qcH) (.slice pdH gc qdH) gh gz) ∧ Hid (Below w.heap.size w wk) ∧ Hid (wh1.heap.size ≤ gH ∧ wh1.heap.size ≤ loH ∧ loH ≤ hiH ∧ hiH ≤ wk.heap.size ∧ gH < wk.heap.size ∧ (gH < loH ∨ hiH ≤ gH)))
      case first =>
        have hbd : Below wh1.heap.size wh1 wh1.drew := below_drew (Below.refl _ _)
        replace Rx := Lib.hid (Row.below Rx.out hbd)
        replace Rv := Lib.hid (Row.below Rv.out hbd)
        replace RW := Lib.hid (Row.below RW.out hbd)
        replace RX := Lib.hid (Row.below RX.out hbd)
        replace RG := Lib.hid (Row.below RG.out hbd)
        replace OW := Lib.hid (OwnM.below OW.out hbd)
        replace OG := Lib.hid (OwnM.below OG.out hbd)
        have S74 : Hid (wh1.heap.size ≤ wh1.drew.heap.size) := hbd.size
        replace L := Lib.hid (bst L.out hbd L.out.size)
        clear hbd
        refine wp_region_held_drew (S := (fun w' => w'.cell? ⟨w.heap.size + 1, 0, none⟩ = some (.int .i64 vk) ∧ w'.cell? ⟨w.heap.size + 1, 1, none⟩ = some (.int .i64 va) ∧ w'.cell? ⟨w.heap.size + 1, 2, none⟩ = some (.int .i64 vb) ∧ w'.cell? ⟨w.heap.size + 1, 3, none⟩ = some (.int .i64 vt) ∧ w'.cell? ⟨w.heap.size, 0, none⟩ = some (.slice paA nf qaA) ∧ w'.cell? ⟨w.heap.size, 1, none⟩ = some (.slice pbA nl qbA) ∧ w'.cell? ⟨w.heap.size, 2, none⟩ = some (.slice pcA nr qcA) ∧ w'.cell? ⟨w.heap.size, 3, none⟩ = some (.slice pdA nc qdA))) (by kernel_rfl) (⟨Row.cell Rv.out 0, Row.cell Rv.out 1, Row.cell Rv.out 2, Row.cell Rv.out 3, Row.cell Rx.out 0, Row.cell Rx.out 1, Row.cell Rx.out 2, Row.cell Rx.out 3⟩) (fun hHeld => ?_)
        generalize wh1.drew = d75 at *
        refine wpAnyH_take (i := 0) (v := ?va0x83) rfl (by kernel_rfl) (by kernel_rfl) (by kernel_rfl) (fun _ _ _ h => h) (Or.inl ⟨by rfl, ?hy0x83⟩) (by assumption) ?rest0x83
        case hy0x83 => (intro w hSw; (try dsimp only at hSw); go_simp; try with_reducible rfl)
        (try simp only [Act.put, List.getElem_toArray, List.getElem_cons_zero, List.setIfInBounds_toArray, List.set_cons_zero, List.set_cons_succ])
        refine wpAnyH_take (i := 2) (v := ?va2x84) rfl (by kernel_rfl) (by kernel_rfl) (by kernel_rfl) (fun _ _ _ h => h) (Or.inl ⟨by rfl, ?hy2x84⟩) (by assumption) ?rest2x84
        case hy2x84 => (intro w hSw; (try dsimp only at hSw); go_simp; try with_reducible rfl)
        (try simp only [Act.put, List.getElem_toArray, List.getElem_cons_zero, List.getElem_cons_succ, List.setIfInBounds_toArray, List.set_cons_zero, List.set_cons_succ])
        have Zx : Hid (w.heap.size < d75.heap.size) := Row.lt Rx.out
        have Zv : Hid (w.heap.size + 1 < d75.heap.size) := Row.lt Rv.out
        have ZW : Hid (gW < d75.heap.size) := Row.lt RW.out
        have ZX : Hid (wX.heap.size < d75.heap.size) := Row.lt RX.out
        have ZG : Hid (gG < d75.heap.size) := Row.lt RG.out
        refine wpAnyH_ready (rs := [1, 8]) (by kernel_rfl) (by simp) ?_
        refine AllReadyH.cons rfl (fun K hK => ?_) (AllReadyH.cons rfl (fun K hK => ?_) (AllReadyH.nil))
        · skip
          go_simp
          refine (c_toMarking (.slice paA nf qaA) (.slice pbA nl qbA) (.slice pcA nr qcA) (.slice pdA nc qdA) hx zx _ (HZ.out.below L.out) (HY.out.below L.out) HM.out HMnc.out).mono ?_
          rintro e y76 ⟨aT, bT, cT, dT, rfl, ho, hb⟩
          have hsh := ho.shapes
          simp only [HNnf.out, HNnl.out, HNnr.out, HNnc.out] at hsh
          obtain ⟨⟨paT, qaT, rfl⟩, ⟨pbT, qbT, rfl⟩, ⟨pcT, qcT, rfl⟩, ⟨pdT, qdT, rfl⟩⟩ := hsh
          have OT : Hid (OwnM y76 d75.heap.size y76.heap.size (.slice paT nf qaT) (.slice pbT nl qbT) (.slice pcT nr qcT) (.slice pdT nc qdT) hx zx) := ho
          clear ho
          replace Rx := Lib.hid (Row.below Rx.out hb)
          replace Rv := Lib.hid (Row.below Rv.out hb)
          replace RW := Lib.hid (Row.below RW.out hb)
          replace RX := Lib.hid (Row.below RX.out hb)
          replace RG := Lib.hid (Row.below RG.out hb)
          replace OW := Lib.hid (OwnM.below OW.out hb)
          replace OG := Lib.hid (OwnM.below OG.out hb)
          have S77 : Hid (d75.heap.size ≤ y76.heap.size) := hb.size
          replace L := Lib.hid (bst L.out hb L.out.size)
          clear hb
          refine hK.out _ _ ⟨Row.cell Rv.out 0, Row.cell Rv.out 1, Row.cell Rv.out 2, Row.cell Rv.out 3, Row.cell Rx.out 0, Row.cell Rx.out 1, Row.cell Rx.out 2, Row.cell Rx.out 3⟩ (fun hHeld => ?_)
          clear hK K
          (try simp only [Act.put, List.getElem_toArray, List.getElem_cons_zero, List.getElem_cons_succ, List.setIfInBounds_toArray, List.set_cons_zero, List.set_cons_succ])
          refine wpAnyH_ready (rs := [3, 8]) (by kernel_rfl) (by simp) ?_
          refine AllReadyH.cons rfl (fun K hK => ?_) (AllReadyH.cons rfl (fun K hK => ?_) (AllReadyH.nil))
          · skip
            go_simp
            refine (c_toMove ⟨vk, va, vb, vt⟩ _).mono ?_
            rintro e y78 ⟨rfl, hb⟩
            replace Rx := Lib.hid (Row.below Rx.out hb)
            replace Rv := Lib.hid (Row.below Rv.out hb)
            replace RW := Lib.hid (Row.below RW.out hb)
            replace RX := Lib.hid (Row.below RX.out hb)
            replace RG := Lib.hid (Row.below RG.out hb)
            replace OW := Lib.hid (OwnM.below OW.out hb)
            replace OG := Lib.hid (OwnM.below OG.out hb)
            replace OT := Lib.hid (OwnM.below OT.out hb)
            have S79 : Hid (y76.heap.size ≤ y78.heap.size) := hb.size
            replace L := Lib.hid (bst L.out hb L.out.size)
            clear hb
            refine hK.out _ _ ⟨Row.cell Rv.out 0, Row.cell Rv.out 1, Row.cell Rv.out 2, Row.cell Rv.out 3, Row.cell Rx.out 0, Row.cell Rx.out 1, Row.cell Rx.out 2, Row.cell Rx.out 3⟩ (fun hHeld => ?_)
            clear hK K
            (try simp only [Act.put, List.getElem_toArray, List.getElem_cons_zero, List.getElem_cons_succ, List.setIfInBounds_toArray, List.set_cons_zero, List.set_cons_succ])
            refine wpAnyH_ready (rs := [4, 8]) (by kernel_rfl) (by simp) ?_
            refine AllReadyH.cons rfl (fun K hK => ?_) (AllReadyH.cons rfl (fun K hK => ?_) (AllReadyH.nil))
            · skip
              go_simp
              refine (HI.out _ (.slice paT nf qaT) (.slice pbT nl qbT) (.slice pcT nr qcT) (.slice pdT nc qdT) OT.out.heap OT.out.cols).mono ?_
              rintro e y80 ⟨aH, bH, cH, dH, rfl, ho, hb⟩
              have hsh := ho.shapes
              simp only [HNgf.out, HNgl.out, HNgr.out, HNgc.out] at hsh
              obtain ⟨⟨paH, qaH, rfl⟩, ⟨pbH, qbH, rfl⟩, ⟨pcH, qcH, rfl⟩, ⟨pdH, qdH, rfl⟩⟩ := hsh
              have OH : Hid (OwnM y80 y78.heap.size y80.heap.size (.slice paH gf qaH) (.slice pbH gl qbH) (.slice pcH gr qcH) (.slice pdH gc qdH) gh gz) := ho
              clear ho
              replace Rx := Lib.hid (Row.below Rx.out hb)
              replace Rv := Lib.hid (Row.below Rv.out hb)
              replace RW := Lib.hid (Row.below RW.out hb)
              replace RX := Lib.hid (Row.below RX.out hb)
              replace RG := Lib.hid (Row.below RG.out hb)
              replace OW := Lib.hid (OwnM.below OW.out hb)
              replace OG := Lib.hid (OwnM.below OG.out hb)
              replace OT := Lib.hid (OwnM.below OT.out hb)
              have S81 : Hid (y78.heap.size ≤ y80.heap.size) := hb.size
              replace L := Lib.hid (bst L.out hb L.out.size)
              clear hb
              clear OT
              refine hK.out _ _ ⟨Row.cell Rv.out 0, Row.cell Rv.out 1, Row.cell Rv.out 2, Row.cell Rv.out 3, Row.cell Rx.out 0, Row.cell Rx.out 1, Row.cell Rx.out 2, Row.cell Rx.out 3⟩ (fun hHeld => ?_)
              clear hK K
              (try simp only [Act.put, List.getElem_toArray, List.getElem_cons_zero, List.getElem_cons_succ, List.setIfInBounds_toArray, List.set_cons_zero, List.set_cons_succ])
              refine wpAnyH_take (i := 5) (v := ?va5x85) rfl (by kernel_rfl) (by kernel_rfl) (by kernel_rfl) (fun _ _ _ h => h) (Or.inl ⟨by rfl, ?hy5x85⟩) (by assumption) ?rest5x85
              case hy5x85 => (intro w hSw; (try dsimp only at hSw); go_simp; try with_reducible rfl)
              (try simp only [Act.put, List.getElem_toArray, List.getElem_cons_zero, List.getElem_cons_succ, List.setIfInBounds_toArray, List.set_cons_zero, List.set_cons_succ])
              refine wpAnyH_take (i := 6) (v := ?va6x86) rfl (by kernel_rfl) (by kernel_rfl) (by kernel_rfl) (fun _ _ _ h => h) (Or.inl ⟨by rfl, ?hy6x86⟩) (by assumption) ?rest6x86
              case hy6x86 => (intro w hSw; (try dsimp only at hSw); go_simp; try with_reducible rfl)
              (try simp only [Act.put, List.getElem_toArray, List.getElem_cons_zero, List.getElem_cons_succ, List.setIfInBounds_toArray, List.set_cons_zero, List.set_cons_succ])
              refine wpAnyH_take (i := 7) (v := ?va7x87) rfl (by kernel_rfl) (by kernel_rfl) (by kernel_rfl) (fun _ _ _ h => h) (Or.inl ⟨by rfl, ?hy7x87⟩) (by assumption) ?rest7x87
              case hy7x87 => (intro w hSw; (try dsimp only at hSw); go_simp; try with_reducible rfl)
              (try simp only [Act.put, List.getElem_toArray, List.getElem_cons_zero, List.getElem_cons_succ, List.setIfInBounds_toArray, List.set_cons_zero, List.set_cons_succ])
              refine wpAnyH_ready (rs := [8]) (by kernel_rfl) (by simp) ?_
              refine AllReadyH.cons rfl (fun K hK => ?_) (AllReadyH.nil)
              have hb := below1 y80 (.cells (m4 nilS nilS nilS nilS) 34)
              have RN : Hid (Row (y80.alloc (.cells (m4 nilS nilS nilS nilS) 34)) y80.heap.size 34 (m4 nilS nilS nilS nilS)) := Row.new y80 _ _
              have S83 : Hid (y80.heap.size < (y80.alloc (.cells (m4 nilS nilS nilS nilS) 34)).heap.size) := (by unfold Hid; simp)
              replace Rx := Lib.hid (Row.below Rx.out hb)
              replace Rv := Lib.hid (Row.below Rv.out hb)
              replace RW := Lib.hid (Row.below RW.out hb)
              replace RX := Lib.hid (Row.below RX.out hb)
              replace RG := Lib.hid (Row.below RG.out hb)
              replace OW := Lib.hid (OwnM.below OW.out hb)
              replace OG := Lib.hid (OwnM.below OG.out hb)
              replace OH := Lib.hid (OwnM.below OH.out hb)
              have S84 : Hid (y80.heap.size ≤ (y80.alloc (.cells (m4 nilS nilS nilS nilS) 34)).heap.size) := hb.size
              replace L := Lib.hid (bst L.out hb L.out.size)
              clear hb
              have RH := RN
              clear RN
              go_simp
              refine hK.out _ _ ⟨Row.cell Rv.out 0, Row.cell Rv.out 1, Row.cell Rv.out 2, Row.cell Rv.out 3, Row.cell Rx.out 0, Row.cell Rx.out 1, Row.cell Rx.out 2, Row.cell Rx.out 3⟩ (fun hHeld => ?_)
              clear hK K
              (try simp only [Act.put, List.getElem_toArray, List.getElem_cons_zero, List.getElem_cons_succ, List.setIfInBounds_toArray, List.set_cons_zero, List.set_cons_succ])
              have hgg : ∃ g : Nat, Hid (y80.heap.size = g) := ⟨_, rfl⟩
              obtain ⟨gg85, Hgg85⟩ := hgg
              have hgq := Hgg85.out
              rw [hgq] at RH ⊢
              clear hgq
              generalize y80.alloc (.cells (m4 nilS nilS nilS nilS) 34) = y82 at *
              refine wpAnyH_ready (rs := [9]) (by kernel_rfl) (by simp) ?_
              refine AllReadyH.cons rfl (fun K hK => ?_) AllReadyH.nil
              have Qx : Hid (w.heap.size < y82.heap.size) := Row.lt Rx.out
              have Qv : Hid (w.heap.size + 1 < y82.heap.size) := Row.lt Rv.out
              have QW : Hid (gW < y82.heap.size) := Row.lt RW.out
              have QX : Hid (wX.heap.size < y82.heap.size) := Row.lt RX.out
              have QG : Hid (gG < y82.heap.size) := Row.lt RG.out
              have QH : Hid (gg85 < y82.heap.size) := Row.lt RH.out
              have Nx : ¬ gg85 = w.heap.size := (by have := S1.out; have := S2.out; have := S40.out; have := S41.out; have := S42.out; have := S68.out; have := S69.out; have := S70.out; have := S71.out; have := S72.out; have := S73.out; have := S74.out; have := S77.out; have := S79.out; have := S81.out; have := S83.out; have := S84.out; have := Hgg85.out; have := BW.out; have := BG.out; have := Zx.out; omega)
              have Nv : ¬ gg85 = w.heap.size + 1 := (by have := S1.out; have := S2.out; have := S40.out; have := S41.out; have := S42.out; have := S68.out; have := S69.out; have := S70.out; have := S71.out; have := S72.out; have := S73.out; have := S74.out; have := S77.out; have := S79.out; have := S81.out; have := S83.out; have := S84.out; have := Hgg85.out; have := BW.out; have := BG.out; have := Zv.out; omega)
              have NW : ¬ gg85 = gW := (by have := S1.out; have := S2.out; have := S40.out; have := S41.out; have := S42.out; have := S68.out; have := S69.out; have := S70.out; have := S71.out; have := S72.out; have := S73.out; have := S74.out; have := S77.out; have := S79.out; have := S81.out; have := S83.out; have := S84.out; have := Hgg85.out; have := BW.out; have := BG.out; have := ZW.out; omega)
              have NX : ¬ gg85 = wX.heap.size := (by have := S1.out; have := S2.out; have := S40.out; have := S41.out; have := S42.out; have := S68.out; have := S69.out; have := S70.out; have := S71.out; have := S72.out; have := S73.out; have := S74.out; have := S77.out; have := S79.out; have := S81.out; have := S83.out; have := S84.out; have := Hgg85.out; have := BW.out; have := BG.out; have := ZX.out; omega)
              have NG : ¬ gg85 = gG := (by have := S1.out; have := S2.out; have := S40.out; have := S41.out; have := S42.out; have := S68.out; have := S69.out; have := S70.out; have := S71.out; have := S72.out; have := S73.out; have := S74.out; have := S77.out; have := S79.out; have := S81.out; have := S83.out; have := S84.out; have := Hgg85.out; have := BW.out; have := BG.out; have := ZG.out; omega)
              replace Rx := Lib.hid (Row.putOther Rx.out (m4 (.slice paH gf qaH) (.slice pbH gl qbH) (.slice pcH gr qcH) (.slice pdH gc qdH)) (fun q => Nx q.symm))
              replace Rv := Lib.hid (Row.putOther Rv.out (m4 (.slice paH gf qaH) (.slice pbH gl qbH) (.slice pcH gr qcH) (.slice pdH gc qdH)) (fun q => Nv q.symm))
              replace RW := Lib.hid (Row.putOther RW.out (m4 (.slice paH gf qaH) (.slice pbH gl qbH) (.slice pcH gr qcH) (.slice pdH gc qdH)) (fun q => NW q.symm))
              replace RX := Lib.hid (Row.putOther RX.out (m4 (.slice paH gf qaH) (.slice pbH gl qbH) (.slice pcH gr qcH) (.slice pdH gc qdH)) (fun q => NX q.symm))
              replace RG := Lib.hid (Row.putOther RG.out (m4 (.slice paH gf qaH) (.slice pbH gl qbH) (.slice pcH gr qcH) (.slice pdH gc qdH)) (fun q => NG q.symm))
              replace OW := Lib.hid (OW.out.rowOut gg85 (m4 (.slice paH gf qaH) (.slice pbH gl qbH) (.slice pcH gr qcH) (.slice pdH gc qdH)) (by have := S1.out; have := S2.out; have := S40.out; have := S41.out; have := S42.out; have := S68.out; have := S69.out; have := S70.out; have := S71.out; have := S72.out; have := S73.out; have := S74.out; have := S77.out; have := S79.out; have := S81.out; have := S83.out; have := S84.out; have := Hgg85.out; have := BW.out; have := BG.out; have := QH.out; omega))
              replace OG := Lib.hid (OG.out.rowOut gg85 (m4 (.slice paH gf qaH) (.slice pbH gl qbH) (.slice pcH gr qcH) (.slice pdH gc qdH)) (by have := S1.out; have := S2.out; have := S40.out; have := S41.out; have := S42.out; have := S68.out; have := S69.out; have := S70.out; have := S71.out; have := S72.out; have := S73.out; have := S74.out; have := S77.out; have := S79.out; have := S81.out; have := S83.out; have := S84.out; have := Hgg85.out; have := BW.out; have := BG.out; have := QH.out; omega))
              replace OH := Lib.hid (OH.out.rowOut gg85 (m4 (.slice paH gf qaH) (.slice pbH gl qbH) (.slice pcH gr qcH) (.slice pdH gc qdH)) (by have := S1.out; have := S2.out; have := S40.out; have := S41.out; have := S42.out; have := S68.out; have := S69.out; have := S70.out; have := S71.out; have := S72.out; have := S73.out; have := S74.out; have := S77.out; have := S79.out; have := S81.out; have := S83.out; have := S84.out; have := Hgg85.out; have := BW.out; have := BG.out; have := QH.out; omega))
              replace L := Lib.hid (below_setRow L.out (show w.heap.size ≤ gg85 from (by have := S1.out; have := S2.out; have := S40.out; have := S41.out; have := S42.out; have := S68.out; have := S69.out; have := S70.out; have := S71.out; have := S72.out; have := S73.out; have := S74.out; have := S77.out; have := S79.out; have := S81.out; have := S83.out; have := S84.out; have := Hgg85.out; have := BW.out; have := BG.out; have := Zx.out; omega)) (m4 (.slice paH gf qaH) (.slice pbH gl qbH) (.slice pcH gr qcH) (.slice pdH gc qdH)))
              have RP := Lib.hid (Row.put RH.out (m4 (.slice paH gf qaH) (.slice pbH gl qbH) (.slice pcH gr qcH) (.slice pdH gc qdH)))
              refine wp_store_row 34 _ _ rfl gg85 (m4 (.slice paH gf qaH) (.slice pbH gl qbH) (.slice pcH gr qcH) (.slice pdH gc qdH)) rfl rfl 34 _ RH.out info_marking rfl (by simp [Value.oneCell']) ?_
              refine hK.out _ _ ⟨Row.cell Rv.out 0, Row.cell Rv.out 1, Row.cell Rv.out 2, Row.cell Rv.out 3, Row.cell Rx.out 0, Row.cell Rx.out 1, Row.cell Rx.out 2, Row.cell Rx.out 3⟩ (fun hHeld => ?_)
              clear hK K
              (try simp only [Act.put, List.getElem_toArray, List.getElem_cons_zero, List.getElem_cons_succ])
              refine wpAnyH_take (i := 10) (v := ?va10x88) rfl (by kernel_rfl) (by kernel_rfl) (by kernel_rfl) (fun _ _ _ h => h) (Or.inl ⟨by rfl, ?hy10x88⟩) (by assumption) ?rest10x88
              case hy10x88 => (intro w hSw; (try dsimp only at hSw); go_simp; try with_reducible rfl)
              (try simp only [Act.put, List.getElem_toArray, List.getElem_cons_zero, List.getElem_cons_succ, List.setIfInBounds_toArray, List.set_cons_zero, List.set_cons_succ])
              refine wpAnyH_done (by kernel_rfl) ?_ _
              go_wp2_with fail
              go_meet
              case rel => exact ⟨gg85, y78.heap.size, y80.heap.size, paH, qaH, pbH, qbH, pcH, qcH, pdH, qdH, rfl, rfl, Rx, Rv, RW, RX, RG, OW, OG, RP, OH, L, (by unfold Hid; rw [size_setRow]; have := S1.out; have := S2.out; have := S40.out; have := S41.out; have := S42.out; have := S68.out; have := S69.out; have := S70.out; have := S71.out; have := S72.out; have := S73.out; have := S74.out; have := S77.out; have := S79.out; have := S81.out; have := S83.out; have := S84.out; have := Hgg85.out; have := BW.out; have := BG.out; have := QH.out; refine ⟨?_, ?_, ?_, ?_, ?_, ?_⟩ <;> omega)⟩
            · skip
              have hb := below1 y78 (.cells (m4 nilS nilS nilS nilS) 34)
              have RN : Hid (Row (y78.alloc (.cells (m4 nilS nilS nilS nilS) 34)) y78.heap.size 34 (m4 nilS nilS nilS nilS)) := Row.new y78 _ _
              have S87 : Hid (y78.heap.size < (y78.alloc (.cells (m4 nilS nilS nilS nilS) 34)).heap.size) := (by unfold Hid; simp)
              replace Rx := Lib.hid (Row.below Rx.out hb)
              replace Rv := Lib.hid (Row.below Rv.out hb)
              replace RW := Lib.hid (Row.below RW.out hb)
              replace RX := Lib.hid (Row.below RX.out hb)
              replace RG := Lib.hid (Row.below RG.out hb)
              replace OW := Lib.hid (OwnM.below OW.out hb)
              replace OG := Lib.hid (OwnM.below OG.out hb)
              replace OT := Lib.hid (OwnM.below OT.out hb)
              have S88 : Hid (y78.heap.size ≤ (y78.alloc (.cells (m4 nilS nilS nilS nilS) 34)).heap.size) := hb.size
              replace L := Lib.hid (bst L.out hb L.out.size)
              clear hb
              have RH := RN
              clear RN
              go_simp
              refine hK.out _ _ ⟨Row.cell Rv.out 0, Row.cell Rv.out 1, Row.cell Rv.out 2, Row.cell Rv.out 3, Row.cell Rx.out 0, Row.cell Rx.out 1, Row.cell Rx.out 2, Row.cell Rx.out 3⟩ (fun hHeld => ?_)
              clear hK K
              (try simp only [Act.put, List.getElem_toArray, List.getElem_cons_zero, List.getElem_cons_succ, List.setIfInBounds_toArray, List.set_cons_zero, List.set_cons_succ])
              have hgg : ∃ g : Nat, Hid (y78.heap.size = g) := ⟨_, rfl⟩
              obtain ⟨gg89, Hgg89⟩ := hgg
              have hgq := Hgg89.out
              rw [hgq] at RH ⊢
              clear hgq
              generalize y78.alloc (.cells (m4 nilS nilS nilS nilS) 34) = y86 at *
              refine wpAnyH_ready (rs := [4]) (by kernel_rfl) (by simp) ?_
              refine AllReadyH.cons rfl (fun K hK => ?_) (AllReadyH.nil)
              go_simp
              refine (HI.out _ (.slice paT nf qaT) (.slice pbT nl qbT) (.slice pcT nr qcT) (.slice pdT nc qdT) OT.out.heap OT.out.cols).mono ?_
              rintro e y90 ⟨aH, bH, cH, dH, rfl, ho, hb⟩
              have hsh := ho.shapes
              simp only [HNgf.out, HNgl.out, HNgr.out, HNgc.out] at hsh
              obtain ⟨⟨paH, qaH, rfl⟩, ⟨pbH, qbH, rfl⟩, ⟨pcH, qcH, rfl⟩, ⟨pdH, qdH, rfl⟩⟩ := hsh
              have OH : Hid (OwnM y90 y86.heap.size y90.heap.size (.slice paH gf qaH) (.slice pbH gl qbH) (.slice pcH gr qcH) (.slice pdH gc qdH) gh gz) := ho
              clear ho
              replace Rx := Lib.hid (Row.below Rx.out hb)
              replace Rv := Lib.hid (Row.below Rv.out hb)
              replace RW := Lib.hid (Row.below RW.out hb)
              replace RX := Lib.hid (Row.below RX.out hb)
              replace RG := Lib.hid (Row.below RG.out hb)
              replace RH := Lib.hid (Row.below RH.out hb)
              replace OW := Lib.hid (OwnM.below OW.out hb)
              replace OG := Lib.hid (OwnM.below OG.out hb)
              replace OT := Lib.hid (OwnM.below OT.out hb)
              have S91 : Hid (y86.heap.size ≤ y90.heap.size) := hb.size
              replace L := Lib.hid (bst L.out hb L.out.size)
              clear hb
              clear OT
              refine hK.out _ _ ⟨Row.cell Rv.out 0, Row.cell Rv.out 1, Row.cell Rv.out 2, Row.cell Rv.out 3, Row.cell Rx.out 0, Row.cell Rx.out 1, Row.cell Rx.out 2, Row.cell Rx.out 3⟩ (fun hHeld => ?_)
              clear hK K
              (try simp only [Act.put, List.getElem_toArray, List.getElem_cons_zero, List.getElem_cons_succ, List.setIfInBounds_toArray, List.set_cons_zero, List.set_cons_succ])
              refine wpAnyH_take (i := 5) (v := ?va5x89) rfl (by kernel_rfl) (by kernel_rfl) (by kernel_rfl) (fun _ _ _ h => h) (Or.inl ⟨by rfl, ?hy5x89⟩) (by assumption) ?rest5x89
              case hy5x89 => (intro w hSw; (try dsimp only at hSw); go_simp; try with_reducible rfl)
              (try simp only [Act.put, List.getElem_toArray, List.getElem_cons_zero, List.getElem_cons_succ, List.setIfInBounds_toArray, List.set_cons_zero, List.set_cons_succ])
              refine wpAnyH_take (i := 6) (v := ?va6x90) rfl (by kernel_rfl) (by kernel_rfl) (by kernel_rfl) (fun _ _ _ h => h) (Or.inl ⟨by rfl, ?hy6x90⟩) (by assumption) ?rest6x90
              case hy6x90 => (intro w hSw; (try dsimp only at hSw); go_simp; try with_reducible rfl)
              (try simp only [Act.put, List.getElem_toArray, List.getElem_cons_zero, List.getElem_cons_succ, List.setIfInBounds_toArray, List.set_cons_zero, List.set_cons_succ])
              refine wpAnyH_take (i := 7) (v := ?va7x91) rfl (by kernel_rfl) (by kernel_rfl) (by kernel_rfl) (fun _ _ _ h => h) (Or.inl ⟨by rfl, ?hy7x91⟩) (by assumption) ?rest7x91
              case hy7x91 => (intro w hSw; (try dsimp only at hSw); go_simp; try with_reducible rfl)
              (try simp only [Act.put, List.getElem_toArray, List.getElem_cons_zero, List.getElem_cons_succ, List.setIfInBounds_toArray, List.set_cons_zero, List.set_cons_succ])
              refine wpAnyH_ready (rs := [9]) (by kernel_rfl) (by simp) ?_
              refine AllReadyH.cons rfl (fun K hK => ?_) AllReadyH.nil
              have Qx : Hid (w.heap.size < y90.heap.size) := Row.lt Rx.out
              have Qv : Hid (w.heap.size + 1 < y90.heap.size) := Row.lt Rv.out
              have QW : Hid (gW < y90.heap.size) := Row.lt RW.out
              have QX : Hid (wX.heap.size < y90.heap.size) := Row.lt RX.out
              have QG : Hid (gG < y90.heap.size) := Row.lt RG.out
              have QH : Hid (gg89 < y90.heap.size) := Row.lt RH.out
              have Nx : ¬ gg89 = w.heap.size := (by have := S1.out; have := S2.out; have := S40.out; have := S41.out; have := S42.out; have := S68.out; have := S69.out; have := S70.out; have := S71.out; have := S72.out; have := S73.out; have := S74.out; have := S77.out; have := S79.out; have := S87.out; have := S88.out; have := Hgg89.out; have := S91.out; have := BW.out; have := BG.out; have := Zx.out; omega)
              have Nv : ¬ gg89 = w.heap.size + 1 := (by have := S1.out; have := S2.out; have := S40.out; have := S41.out; have := S42.out; have := S68.out; have := S69.out; have := S70.out; have := S71.out; have := S72.out; have := S73.out; have := S74.out; have := S77.out; have := S79.out; have := S87.out; have := S88.out; have := Hgg89.out; have := S91.out; have := BW.out; have := BG.out; have := Zv.out; omega)
              have NW : ¬ gg89 = gW := (by have := S1.out; have := S2.out; have := S40.out; have := S41.out; have := S42.out; have := S68.out; have := S69.out; have := S70.out; have := S71.out; have := S72.out; have := S73.out; have := S74.out; have := S77.out; have := S79.out; have := S87.out; have := S88.out; have := Hgg89.out; have := S91.out; have := BW.out; have := BG.out; have := ZW.out; omega)
              have NX : ¬ gg89 = wX.heap.size := (by have := S1.out; have := S2.out; have := S40.out; have := S41.out; have := S42.out; have := S68.out; have := S69.out; have := S70.out; have := S71.out; have := S72.out; have := S73.out; have := S74.out; have := S77.out; have := S79.out; have := S87.out; have := S88.out; have := Hgg89.out; have := S91.out; have := BW.out; have := BG.out; have := ZX.out; omega)
              have NG : ¬ gg89 = gG := (by have := S1.out; have := S2.out; have := S40.out; have := S41.out; have := S42.out; have := S68.out; have := S69.out; have := S70.out; have := S71.out; have := S72.out; have := S73.out; have := S74.out; have := S77.out; have := S79.out; have := S87.out; have := S88.out; have := Hgg89.out; have := S91.out; have := BW.out; have := BG.out; have := ZG.out; omega)
              replace Rx := Lib.hid (Row.putOther Rx.out (m4 (.slice paH gf qaH) (.slice pbH gl qbH) (.slice pcH gr qcH) (.slice pdH gc qdH)) (fun q => Nx q.symm))
              replace Rv := Lib.hid (Row.putOther Rv.out (m4 (.slice paH gf qaH) (.slice pbH gl qbH) (.slice pcH gr qcH) (.slice pdH gc qdH)) (fun q => Nv q.symm))
              replace RW := Lib.hid (Row.putOther RW.out (m4 (.slice paH gf qaH) (.slice pbH gl qbH) (.slice pcH gr qcH) (.slice pdH gc qdH)) (fun q => NW q.symm))
              replace RX := Lib.hid (Row.putOther RX.out (m4 (.slice paH gf qaH) (.slice pbH gl qbH) (.slice pcH gr qcH) (.slice pdH gc qdH)) (fun q => NX q.symm))
              replace RG := Lib.hid (Row.putOther RG.out (m4 (.slice paH gf qaH) (.slice pbH gl qbH) (.slice pcH gr qcH) (.slice pdH gc qdH)) (fun q => NG q.symm))
              replace OW := Lib.hid (OW.out.rowOut gg89 (m4 (.slice paH gf qaH) (.slice pbH gl qbH) (.slice pcH gr qcH) (.slice pdH gc qdH)) (by have := S1.out; have := S2.out; have := S40.out; have := S41.out; have := S42.out; have := S68.out; have := S69.out; have := S70.out; have := S71.out; have := S72.out; have := S73.out; have := S74.out; have := S77.out; have := S79.out; have := S87.out; have := S88.out; have := Hgg89.out; have := S91.out; have := BW.out; have := BG.out; have := QH.out; omega))
              replace OG := Lib.hid (OG.out.rowOut gg89 (m4 (.slice paH gf qaH) (.slice pbH gl qbH) (.slice pcH gr qcH) (.slice pdH gc qdH)) (by have := S1.out; have := S2.out; have := S40.out; have := S41.out; have := S42.out; have := S68.out; have := S69.out; have := S70.out; have := S71.out; have := S72.out; have := S73.out; have := S74.out; have := S77.out; have := S79.out; have := S87.out; have := S88.out; have := Hgg89.out; have := S91.out; have := BW.out; have := BG.out; have := QH.out; omega))
              replace OH := Lib.hid (OH.out.rowOut gg89 (m4 (.slice paH gf qaH) (.slice pbH gl qbH) (.slice pcH gr qcH) (.slice pdH gc qdH)) (by have := S1.out; have := S2.out; have := S40.out; have := S41.out; have := S42.out; have := S68.out; have := S69.out; have := S70.out; have := S71.out; have := S72.out; have := S73.out; have := S74.out; have := S77.out; have := S79.out; have := S87.out; have := S88.out; have := Hgg89.out; have := S91.out; have := BW.out; have := BG.out; have := QH.out; omega))
              replace L := Lib.hid (below_setRow L.out (show w.heap.size ≤ gg89 from (by have := S1.out; have := S2.out; have := S40.out; have := S41.out; have := S42.out; have := S68.out; have := S69.out; have := S70.out; have := S71.out; have := S72.out; have := S73.out; have := S74.out; have := S77.out; have := S79.out; have := S87.out; have := S88.out; have := Hgg89.out; have := S91.out; have := BW.out; have := BG.out; have := Zx.out; omega)) (m4 (.slice paH gf qaH) (.slice pbH gl qbH) (.slice pcH gr qcH) (.slice pdH gc qdH)))
              have RP := Lib.hid (Row.put RH.out (m4 (.slice paH gf qaH) (.slice pbH gl qbH) (.slice pcH gr qcH) (.slice pdH gc qdH)))
              refine wp_store_row 34 _ _ rfl gg89 (m4 (.slice paH gf qaH) (.slice pbH gl qbH) (.slice pcH gr qcH) (.slice pdH gc qdH)) rfl rfl 34 _ RH.out info_marking rfl (by simp [Value.oneCell']) ?_
              refine hK.out _ _ ⟨Row.cell Rv.out 0, Row.cell Rv.out 1, Row.cell Rv.out 2, Row.cell Rv.out 3, Row.cell Rx.out 0, Row.cell Rx.out 1, Row.cell Rx.out 2, Row.cell Rx.out 3⟩ (fun hHeld => ?_)
              clear hK K
              (try simp only [Act.put, List.getElem_toArray, List.getElem_cons_zero, List.getElem_cons_succ])
              refine wpAnyH_take (i := 10) (v := ?va10x92) rfl (by kernel_rfl) (by kernel_rfl) (by kernel_rfl) (fun _ _ _ h => h) (Or.inl ⟨by rfl, ?hy10x92⟩) (by assumption) ?rest10x92
              case hy10x92 => (intro w hSw; (try dsimp only at hSw); go_simp; try with_reducible rfl)
              (try simp only [Act.put, List.getElem_toArray, List.getElem_cons_zero, List.getElem_cons_succ, List.setIfInBounds_toArray, List.set_cons_zero, List.set_cons_succ])
              refine wpAnyH_done (by kernel_rfl) ?_ _
              go_wp2_with fail
              go_meet
              case rel => exact ⟨gg89, y86.heap.size, y90.heap.size, paH, qaH, pbH, qbH, pcH, qcH, pdH, qdH, rfl, rfl, Rx, Rv, RW, RX, RG, OW, OG, RP, OH, L, (by unfold Hid; rw [size_setRow]; have := S1.out; have := S2.out; have := S40.out; have := S41.out; have := S42.out; have := S68.out; have := S69.out; have := S70.out; have := S71.out; have := S72.out; have := S73.out; have := S74.out; have := S77.out; have := S79.out; have := S87.out; have := S88.out; have := Hgg89.out; have := S91.out; have := BW.out; have := BG.out; have := QH.out; refine ⟨?_, ?_, ?_, ?_, ?_, ?_⟩ <;> omega)⟩
          · skip
            have hb := below1 y76 (.cells (m4 nilS nilS nilS nilS) 34)
            have RN : Hid (Row (y76.alloc (.cells (m4 nilS nilS nilS nilS) 34)) y76.heap.size 34 (m4 nilS nilS nilS nilS)) := Row.new y76 _ _
            have S93 : Hid (y76.heap.size < (y76.alloc (.cells (m4 nilS nilS nilS nilS) 34)).heap.size) := (by unfold Hid; simp)
            replace Rx := Lib.hid (Row.below Rx.out hb)
            replace Rv := Lib.hid (Row.below Rv.out hb)
            replace RW := Lib.hid (Row.below RW.out hb)
            replace RX := Lib.hid (Row.below RX.out hb)
            replace RG := Lib.hid (Row.below RG.out hb)
            replace OW := Lib.hid (OwnM.below OW.out hb)
            replace OG := Lib.hid (OwnM.below OG.out hb)
            replace OT := Lib.hid (OwnM.below OT.out hb)
            have S94 : Hid (y76.heap.size ≤ (y76.alloc (.cells (m4 nilS nilS nilS nilS) 34)).heap.size) := hb.size
            replace L := Lib.hid (bst L.out hb L.out.size)
            clear hb
            have RH := RN
            clear RN
            go_simp
            refine hK.out _ _ ⟨Row.cell Rv.out 0, Row.cell Rv.out 1, Row.cell Rv.out 2, Row.cell Rv.out 3, Row.cell Rx.out 0, Row.cell Rx.out 1, Row.cell Rx.out 2, Row.cell Rx.out 3⟩ (fun hHeld => ?_)
            clear hK K
            (try simp only [Act.put, List.getElem_toArray, List.getElem_cons_zero, List.getElem_cons_succ, List.setIfInBounds_toArray, List.set_cons_zero, List.set_cons_succ])
            have hgg : ∃ g : Nat, Hid (y76.heap.size = g) := ⟨_, rfl⟩
            obtain ⟨gg95, Hgg95⟩ := hgg
            have hgq := Hgg95.out
            rw [hgq] at RH ⊢
            clear hgq
            generalize y76.alloc (.cells (m4 nilS nilS nilS nilS) 34) = y92 at *
            refine wpAnyH_ready (rs := [3]) (by kernel_rfl) (by simp) ?_
            refine AllReadyH.cons rfl (fun K hK => ?_) (AllReadyH.nil)
            go_simp
            refine (c_toMove ⟨vk, va, vb, vt⟩ _).mono ?_
            rintro e y96 ⟨rfl, hb⟩
            replace Rx := Lib.hid (Row.below Rx.out hb)
            replace Rv := Lib.hid (Row.below Rv.out hb)
            replace RW := Lib.hid (Row.below RW.out hb)
            replace RX := Lib.hid (Row.below RX.out hb)
            replace RG := Lib.hid (Row.below RG.out hb)
            replace RH := Lib.hid (Row.below RH.out hb)
            replace OW := Lib.hid (OwnM.below OW.out hb)
            replace OG := Lib.hid (OwnM.below OG.out hb)
            replace OT := Lib.hid (OwnM.below OT.out hb)
            have S97 : Hid (y92.heap.size ≤ y96.heap.size) := hb.size
            replace L := Lib.hid (bst L.out hb L.out.size)
            clear hb
            refine hK.out _ _ ⟨Row.cell Rv.out 0, Row.cell Rv.out 1, Row.cell Rv.out 2, Row.cell Rv.out 3, Row.cell Rx.out 0, Row.cell Rx.out 1, Row.cell Rx.out 2, Row.cell Rx.out 3⟩ (fun hHeld => ?_)
            clear hK K
            (try simp only [Act.put, List.getElem_toArray, List.getElem_cons_zero, List.getElem_cons_succ, List.setIfInBounds_toArray, List.set_cons_zero, List.set_cons_succ])
            refine wpAnyH_ready (rs := [4]) (by kernel_rfl) (by simp) ?_
            refine AllReadyH.cons rfl (fun K hK => ?_) (AllReadyH.nil)
            go_simp
            refine (HI.out _ (.slice paT nf qaT) (.slice pbT nl qbT) (.slice pcT nr qcT) (.slice pdT nc qdT) OT.out.heap OT.out.cols).mono ?_
            rintro e y98 ⟨aH, bH, cH, dH, rfl, ho, hb⟩
            have hsh := ho.shapes
            simp only [HNgf.out, HNgl.out, HNgr.out, HNgc.out] at hsh
            obtain ⟨⟨paH, qaH, rfl⟩, ⟨pbH, qbH, rfl⟩, ⟨pcH, qcH, rfl⟩, ⟨pdH, qdH, rfl⟩⟩ := hsh
            have OH : Hid (OwnM y98 y96.heap.size y98.heap.size (.slice paH gf qaH) (.slice pbH gl qbH) (.slice pcH gr qcH) (.slice pdH gc qdH) gh gz) := ho
            clear ho
            replace Rx := Lib.hid (Row.below Rx.out hb)
            replace Rv := Lib.hid (Row.below Rv.out hb)
            replace RW := Lib.hid (Row.below RW.out hb)
            replace RX := Lib.hid (Row.below RX.out hb)
            replace RG := Lib.hid (Row.below RG.out hb)
            replace RH := Lib.hid (Row.below RH.out hb)
            replace OW := Lib.hid (OwnM.below OW.out hb)
            replace OG := Lib.hid (OwnM.below OG.out hb)
            replace OT := Lib.hid (OwnM.below OT.out hb)
            have S99 : Hid (y96.heap.size ≤ y98.heap.size) := hb.size
            replace L := Lib.hid (bst L.out hb L.out.size)
            clear hb
            clear OT
            refine hK.out _ _ ⟨Row.cell Rv.out 0, Row.cell Rv.out 1, Row.cell Rv.out 2, Row.cell Rv.out 3, Row.cell Rx.out 0, Row.cell Rx.out 1, Row.cell Rx.out 2, Row.cell Rx.out 3⟩ (fun hHeld => ?_)
            clear hK K
            (try simp only [Act.put, List.getElem_toArray, List.getElem_cons_zero, List.getElem_cons_succ, List.setIfInBounds_toArray, List.set_cons_zero, List.set_cons_succ])
            refine wpAnyH_take (i := 5) (v := ?va5x93) rfl (by kernel_rfl) (by kernel_rfl) (by kernel_rfl) (fun _ _ _ h => h) (Or.inl ⟨by rfl, ?hy5x93⟩) (by assumption) ?rest5x93
            case hy5x93 => (intro w hSw; (try dsimp only at hSw); go_simp; try with_reducible rfl)
            (try simp only [Act.put, List.getElem_toArray, List.getElem_cons_zero, List.getElem_cons_succ, List.setIfInBounds_toArray, List.set_cons_zero, List.set_cons_succ])
            refine wpAnyH_take (i := 6) (v := ?va6x94) rfl (by kernel_rfl) (by kernel_rfl) (by kernel_rfl) (fun _ _ _ h => h) (Or.inl ⟨by rfl, ?hy6x94⟩) (by assumption) ?rest6x94
            case hy6x94 => (intro w hSw; (try dsimp only at hSw); go_simp; try with_reducible rfl)
            (try simp only [Act.put, List.getElem_toArray, List.getElem_cons_zero, List.getElem_cons_succ, List.setIfInBounds_toArray, List.set_cons_zero, List.set_cons_succ])
            refine wpAnyH_take (i := 7) (v := ?va7x95) rfl (by kernel_rfl) (by kernel_rfl) (by kernel_rfl) (fun _ _ _ h => h) (Or.inl ⟨by rfl, ?hy7x95⟩) (by assumption) ?rest7x95
            case hy7x95 => (intro w hSw; (try dsimp only at hSw); go_simp; try with_reducible rfl)
            (try simp only [Act.put, List.getElem_toArray, List.getElem_cons_zero, List.getElem_cons_succ, List.setIfInBounds_toArray, List.set_cons_zero, List.set_cons_succ])
            refine wpAnyH_ready (rs := [9]) (by kernel_rfl) (by simp) ?_
            refine AllReadyH.cons rfl (fun K hK => ?_) AllReadyH.nil
            have Qx : Hid (w.heap.size < y98.heap.size) := Row.lt Rx.out
            have Qv : Hid (w.heap.size + 1 < y98.heap.size) := Row.lt Rv.out
            have QW : Hid (gW < y98.heap.size) := Row.lt RW.out
            have QX : Hid (wX.heap.size < y98.heap.size) := Row.lt RX.out
            have QG : Hid (gG < y98.heap.size) := Row.lt RG.out
            have QH : Hid (gg95 < y98.heap.size) := Row.lt RH.out
            have Nx : ¬ gg95 = w.heap.size := (by have := S1.out; have := S2.out; have := S40.out; have := S41.out; have := S42.out; have := S68.out; have := S69.out; have := S70.out; have := S71.out; have := S72.out; have := S73.out; have := S74.out; have := S77.out; have := S93.out; have := S94.out; have := Hgg95.out; have := S97.out; have := S99.out; have := BW.out; have := BG.out; have := Zx.out; omega)
            have Nv : ¬ gg95 = w.heap.size + 1 := (by have := S1.out; have := S2.out; have := S40.out; have := S41.out; have := S42.out; have := S68.out; have := S69.out; have := S70.out; have := S71.out; have := S72.out; have := S73.out; have := S74.out; have := S77.out; have := S93.out; have := S94.out; have := Hgg95.out; have := S97.out; have := S99.out; have := BW.out; have := BG.out; have := Zv.out; omega)
            have NW : ¬ gg95 = gW := (by have := S1.out; have := S2.out; have := S40.out; have := S41.out; have := S42.out; have := S68.out; have := S69.out; have := S70.out; have := S71.out; have := S72.out; have := S73.out; have := S74.out; have := S77.out; have := S93.out; have := S94.out; have := Hgg95.out; have := S97.out; have := S99.out; have := BW.out; have := BG.out; have := ZW.out; omega)
            have NX : ¬ gg95 = wX.heap.size := (by have := S1.out; have := S2.out; have := S40.out; have := S41.out; have := S42.out; have := S68.out; have := S69.out; have := S70.out; have := S71.out; have := S72.out; have := S73.out; have := S74.out; have := S77.out; have := S93.out; have := S94.out; have := Hgg95.out; have := S97.out; have := S99.out; have := BW.out; have := BG.out; have := ZX.out; omega)
            have NG : ¬ gg95 = gG := (by have := S1.out; have := S2.out; have := S40.out; have := S41.out; have := S42.out; have := S68.out; have := S69.out; have := S70.out; have := S71.out; have := S72.out; have := S73.out; have := S74.out; have := S77.out; have := S93.out; have := S94.out; have := Hgg95.out; have := S97.out; have := S99.out; have := BW.out; have := BG.out; have := ZG.out; omega)
            replace Rx := Lib.hid (Row.putOther Rx.out (m4 (.slice paH gf qaH) (.slice pbH gl qbH) (.slice pcH gr qcH) (.slice pdH gc qdH)) (fun q => Nx q.symm))
            replace Rv := Lib.hid (Row.putOther Rv.out (m4 (.slice paH gf qaH) (.slice pbH gl qbH) (.slice pcH gr qcH) (.slice pdH gc qdH)) (fun q => Nv q.symm))
            replace RW := Lib.hid (Row.putOther RW.out (m4 (.slice paH gf qaH) (.slice pbH gl qbH) (.slice pcH gr qcH) (.slice pdH gc qdH)) (fun q => NW q.symm))
            replace RX := Lib.hid (Row.putOther RX.out (m4 (.slice paH gf qaH) (.slice pbH gl qbH) (.slice pcH gr qcH) (.slice pdH gc qdH)) (fun q => NX q.symm))
            replace RG := Lib.hid (Row.putOther RG.out (m4 (.slice paH gf qaH) (.slice pbH gl qbH) (.slice pcH gr qcH) (.slice pdH gc qdH)) (fun q => NG q.symm))
            replace OW := Lib.hid (OW.out.rowOut gg95 (m4 (.slice paH gf qaH) (.slice pbH gl qbH) (.slice pcH gr qcH) (.slice pdH gc qdH)) (by have := S1.out; have := S2.out; have := S40.out; have := S41.out; have := S42.out; have := S68.out; have := S69.out; have := S70.out; have := S71.out; have := S72.out; have := S73.out; have := S74.out; have := S77.out; have := S93.out; have := S94.out; have := Hgg95.out; have := S97.out; have := S99.out; have := BW.out; have := BG.out; have := QH.out; omega))
            replace OG := Lib.hid (OG.out.rowOut gg95 (m4 (.slice paH gf qaH) (.slice pbH gl qbH) (.slice pcH gr qcH) (.slice pdH gc qdH)) (by have := S1.out; have := S2.out; have := S40.out; have := S41.out; have := S42.out; have := S68.out; have := S69.out; have := S70.out; have := S71.out; have := S72.out; have := S73.out; have := S74.out; have := S77.out; have := S93.out; have := S94.out; have := Hgg95.out; have := S97.out; have := S99.out; have := BW.out; have := BG.out; have := QH.out; omega))
            replace OH := Lib.hid (OH.out.rowOut gg95 (m4 (.slice paH gf qaH) (.slice pbH gl qbH) (.slice pcH gr qcH) (.slice pdH gc qdH)) (by have := S1.out; have := S2.out; have := S40.out; have := S41.out; have := S42.out; have := S68.out; have := S69.out; have := S70.out; have := S71.out; have := S72.out; have := S73.out; have := S74.out; have := S77.out; have := S93.out; have := S94.out; have := Hgg95.out; have := S97.out; have := S99.out; have := BW.out; have := BG.out; have := QH.out; omega))
            replace L := Lib.hid (below_setRow L.out (show w.heap.size ≤ gg95 from (by have := S1.out; have := S2.out; have := S40.out; have := S41.out; have := S42.out; have := S68.out; have := S69.out; have := S70.out; have := S71.out; have := S72.out; have := S73.out; have := S74.out; have := S77.out; have := S93.out; have := S94.out; have := Hgg95.out; have := S97.out; have := S99.out; have := BW.out; have := BG.out; have := Zx.out; omega)) (m4 (.slice paH gf qaH) (.slice pbH gl qbH) (.slice pcH gr qcH) (.slice pdH gc qdH)))
            have RP := Lib.hid (Row.put RH.out (m4 (.slice paH gf qaH) (.slice pbH gl qbH) (.slice pcH gr qcH) (.slice pdH gc qdH)))
            refine wp_store_row 34 _ _ rfl gg95 (m4 (.slice paH gf qaH) (.slice pbH gl qbH) (.slice pcH gr qcH) (.slice pdH gc qdH)) rfl rfl 34 _ RH.out info_marking rfl (by simp [Value.oneCell']) ?_
            refine hK.out _ _ ⟨Row.cell Rv.out 0, Row.cell Rv.out 1, Row.cell Rv.out 2, Row.cell Rv.out 3, Row.cell Rx.out 0, Row.cell Rx.out 1, Row.cell Rx.out 2, Row.cell Rx.out 3⟩ (fun hHeld => ?_)
            clear hK K
            (try simp only [Act.put, List.getElem_toArray, List.getElem_cons_zero, List.getElem_cons_succ])
            refine wpAnyH_take (i := 10) (v := ?va10x96) rfl (by kernel_rfl) (by kernel_rfl) (by kernel_rfl) (fun _ _ _ h => h) (Or.inl ⟨by rfl, ?hy10x96⟩) (by assumption) ?rest10x96
            case hy10x96 => (intro w hSw; (try dsimp only at hSw); go_simp; try with_reducible rfl)
            (try simp only [Act.put, List.getElem_toArray, List.getElem_cons_zero, List.getElem_cons_succ, List.setIfInBounds_toArray, List.set_cons_zero, List.set_cons_succ])
            refine wpAnyH_done (by kernel_rfl) ?_ _
            go_wp2_with fail
            go_meet
            case rel => exact ⟨gg95, y96.heap.size, y98.heap.size, paH, qaH, pbH, qbH, pcH, qcH, pdH, qdH, rfl, rfl, Rx, Rv, RW, RX, RG, OW, OG, RP, OH, L, (by unfold Hid; rw [size_setRow]; have := S1.out; have := S2.out; have := S40.out; have := S41.out; have := S42.out; have := S68.out; have := S69.out; have := S70.out; have := S71.out; have := S72.out; have := S73.out; have := S74.out; have := S77.out; have := S93.out; have := S94.out; have := Hgg95.out; have := S97.out; have := S99.out; have := BW.out; have := BG.out; have := QH.out; refine ⟨?_, ?_, ?_, ?_, ?_, ?_⟩ <;> omega)⟩
        · skip
          have hb := below1 d75 (.cells (m4 nilS nilS nilS nilS) 34)
          have RN : Hid (Row (d75.alloc (.cells (m4 nilS nilS nilS nilS) 34)) d75.heap.size 34 (m4 nilS nilS nilS nilS)) := Row.new d75 _ _
          have S101 : Hid (d75.heap.size < (d75.alloc (.cells (m4 nilS nilS nilS nilS) 34)).heap.size) := (by unfold Hid; simp)
          replace Rx := Lib.hid (Row.below Rx.out hb)
          replace Rv := Lib.hid (Row.below Rv.out hb)
          replace RW := Lib.hid (Row.below RW.out hb)
          replace RX := Lib.hid (Row.below RX.out hb)
          replace RG := Lib.hid (Row.below RG.out hb)
          replace OW := Lib.hid (OwnM.below OW.out hb)
          replace OG := Lib.hid (OwnM.below OG.out hb)
          have S102 : Hid (d75.heap.size ≤ (d75.alloc (.cells (m4 nilS nilS nilS nilS) 34)).heap.size) := hb.size
          replace L := Lib.hid (bst L.out hb L.out.size)
          clear hb
          have RH := RN
          clear RN
          go_simp
          refine hK.out _ _ ⟨Row.cell Rv.out 0, Row.cell Rv.out 1, Row.cell Rv.out 2, Row.cell Rv.out 3, Row.cell Rx.out 0, Row.cell Rx.out 1, Row.cell Rx.out 2, Row.cell Rx.out 3⟩ (fun hHeld => ?_)
          clear hK K
          (try simp only [Act.put, List.getElem_toArray, List.getElem_cons_zero, List.getElem_cons_succ, List.setIfInBounds_toArray, List.set_cons_zero, List.set_cons_succ])
          have hgg : ∃ g : Nat, Hid (d75.heap.size = g) := ⟨_, rfl⟩
          obtain ⟨gg103, Hgg103⟩ := hgg
          have hgq := Hgg103.out
          rw [hgq] at RH ⊢
          clear hgq
          generalize d75.alloc (.cells (m4 nilS nilS nilS nilS) 34) = y100 at *
          refine wpAnyH_ready (rs := [1]) (by kernel_rfl) (by simp) ?_
          refine AllReadyH.cons rfl (fun K hK => ?_) (AllReadyH.nil)
          go_simp
          refine (c_toMarking (.slice paA nf qaA) (.slice pbA nl qbA) (.slice pcA nr qcA) (.slice pdA nc qdA) hx zx _ (HZ.out.below L.out) (HY.out.below L.out) HM.out HMnc.out).mono ?_
          rintro e y104 ⟨aT, bT, cT, dT, rfl, ho, hb⟩
          have hsh := ho.shapes
          simp only [HNnf.out, HNnl.out, HNnr.out, HNnc.out] at hsh
          obtain ⟨⟨paT, qaT, rfl⟩, ⟨pbT, qbT, rfl⟩, ⟨pcT, qcT, rfl⟩, ⟨pdT, qdT, rfl⟩⟩ := hsh
          have OT : Hid (OwnM y104 y100.heap.size y104.heap.size (.slice paT nf qaT) (.slice pbT nl qbT) (.slice pcT nr qcT) (.slice pdT nc qdT) hx zx) := ho
          clear ho
          replace Rx := Lib.hid (Row.below Rx.out hb)
          replace Rv := Lib.hid (Row.below Rv.out hb)
          replace RW := Lib.hid (Row.below RW.out hb)
          replace RX := Lib.hid (Row.below RX.out hb)
          replace RG := Lib.hid (Row.below RG.out hb)
          replace RH := Lib.hid (Row.below RH.out hb)
          replace OW := Lib.hid (OwnM.below OW.out hb)
          replace OG := Lib.hid (OwnM.below OG.out hb)
          have S105 : Hid (y100.heap.size ≤ y104.heap.size) := hb.size
          replace L := Lib.hid (bst L.out hb L.out.size)
          clear hb
          refine hK.out _ _ ⟨Row.cell Rv.out 0, Row.cell Rv.out 1, Row.cell Rv.out 2, Row.cell Rv.out 3, Row.cell Rx.out 0, Row.cell Rx.out 1, Row.cell Rx.out 2, Row.cell Rx.out 3⟩ (fun hHeld => ?_)
          clear hK K
          (try simp only [Act.put, List.getElem_toArray, List.getElem_cons_zero, List.getElem_cons_succ, List.setIfInBounds_toArray, List.set_cons_zero, List.set_cons_succ])
          refine wpAnyH_ready (rs := [3]) (by kernel_rfl) (by simp) ?_
          refine AllReadyH.cons rfl (fun K hK => ?_) (AllReadyH.nil)
          go_simp
          refine (c_toMove ⟨vk, va, vb, vt⟩ _).mono ?_
          rintro e y106 ⟨rfl, hb⟩
          replace Rx := Lib.hid (Row.below Rx.out hb)
          replace Rv := Lib.hid (Row.below Rv.out hb)
          replace RW := Lib.hid (Row.below RW.out hb)
          replace RX := Lib.hid (Row.below RX.out hb)
          replace RG := Lib.hid (Row.below RG.out hb)
          replace RH := Lib.hid (Row.below RH.out hb)
          replace OW := Lib.hid (OwnM.below OW.out hb)
          replace OG := Lib.hid (OwnM.below OG.out hb)
          replace OT := Lib.hid (OwnM.below OT.out hb)
          have S107 : Hid (y104.heap.size ≤ y106.heap.size) := hb.size
          replace L := Lib.hid (bst L.out hb L.out.size)
          clear hb
          refine hK.out _ _ ⟨Row.cell Rv.out 0, Row.cell Rv.out 1, Row.cell Rv.out 2, Row.cell Rv.out 3, Row.cell Rx.out 0, Row.cell Rx.out 1, Row.cell Rx.out 2, Row.cell Rx.out 3⟩ (fun hHeld => ?_)
          clear hK K
          (try simp only [Act.put, List.getElem_toArray, List.getElem_cons_zero, List.getElem_cons_succ, List.setIfInBounds_toArray, List.set_cons_zero, List.set_cons_succ])
          refine wpAnyH_ready (rs := [4]) (by kernel_rfl) (by simp) ?_
          refine AllReadyH.cons rfl (fun K hK => ?_) (AllReadyH.nil)
          go_simp
          refine (HI.out _ (.slice paT nf qaT) (.slice pbT nl qbT) (.slice pcT nr qcT) (.slice pdT nc qdT) OT.out.heap OT.out.cols).mono ?_
          rintro e y108 ⟨aH, bH, cH, dH, rfl, ho, hb⟩
          have hsh := ho.shapes
          simp only [HNgf.out, HNgl.out, HNgr.out, HNgc.out] at hsh
          obtain ⟨⟨paH, qaH, rfl⟩, ⟨pbH, qbH, rfl⟩, ⟨pcH, qcH, rfl⟩, ⟨pdH, qdH, rfl⟩⟩ := hsh
          have OH : Hid (OwnM y108 y106.heap.size y108.heap.size (.slice paH gf qaH) (.slice pbH gl qbH) (.slice pcH gr qcH) (.slice pdH gc qdH) gh gz) := ho
          clear ho
          replace Rx := Lib.hid (Row.below Rx.out hb)
          replace Rv := Lib.hid (Row.below Rv.out hb)
          replace RW := Lib.hid (Row.below RW.out hb)
          replace RX := Lib.hid (Row.below RX.out hb)
          replace RG := Lib.hid (Row.below RG.out hb)
          replace RH := Lib.hid (Row.below RH.out hb)
          replace OW := Lib.hid (OwnM.below OW.out hb)
          replace OG := Lib.hid (OwnM.below OG.out hb)
          replace OT := Lib.hid (OwnM.below OT.out hb)
          have S109 : Hid (y106.heap.size ≤ y108.heap.size) := hb.size
          replace L := Lib.hid (bst L.out hb L.out.size)
          clear hb
          clear OT
          refine hK.out _ _ ⟨Row.cell Rv.out 0, Row.cell Rv.out 1, Row.cell Rv.out 2, Row.cell Rv.out 3, Row.cell Rx.out 0, Row.cell Rx.out 1, Row.cell Rx.out 2, Row.cell Rx.out 3⟩ (fun hHeld => ?_)
          clear hK K
          (try simp only [Act.put, List.getElem_toArray, List.getElem_cons_zero, List.getElem_cons_succ, List.setIfInBounds_toArray, List.set_cons_zero, List.set_cons_succ])
          refine wpAnyH_take (i := 5) (v := ?va5x97) rfl (by kernel_rfl) (by kernel_rfl) (by kernel_rfl) (fun _ _ _ h => h) (Or.inl ⟨by rfl, ?hy5x97⟩) (by assumption) ?rest5x97
          case hy5x97 => (intro w hSw; (try dsimp only at hSw); go_simp; try with_reducible rfl)
          (try simp only [Act.put, List.getElem_toArray, List.getElem_cons_zero, List.getElem_cons_succ, List.setIfInBounds_toArray, List.set_cons_zero, List.set_cons_succ])
          refine wpAnyH_take (i := 6) (v := ?va6x98) rfl (by kernel_rfl) (by kernel_rfl) (by kernel_rfl) (fun _ _ _ h => h) (Or.inl ⟨by rfl, ?hy6x98⟩) (by assumption) ?rest6x98
          case hy6x98 => (intro w hSw; (try dsimp only at hSw); go_simp; try with_reducible rfl)
          (try simp only [Act.put, List.getElem_toArray, List.getElem_cons_zero, List.getElem_cons_succ, List.setIfInBounds_toArray, List.set_cons_zero, List.set_cons_succ])
          refine wpAnyH_take (i := 7) (v := ?va7x99) rfl (by kernel_rfl) (by kernel_rfl) (by kernel_rfl) (fun _ _ _ h => h) (Or.inl ⟨by rfl, ?hy7x99⟩) (by assumption) ?rest7x99
          case hy7x99 => (intro w hSw; (try dsimp only at hSw); go_simp; try with_reducible rfl)
          (try simp only [Act.put, List.getElem_toArray, List.getElem_cons_zero, List.getElem_cons_succ, List.setIfInBounds_toArray, List.set_cons_zero, List.set_cons_succ])
          refine wpAnyH_ready (rs := [9]) (by kernel_rfl) (by simp) ?_
          refine AllReadyH.cons rfl (fun K hK => ?_) AllReadyH.nil
          have Qx : Hid (w.heap.size < y108.heap.size) := Row.lt Rx.out
          have Qv : Hid (w.heap.size + 1 < y108.heap.size) := Row.lt Rv.out
          have QW : Hid (gW < y108.heap.size) := Row.lt RW.out
          have QX : Hid (wX.heap.size < y108.heap.size) := Row.lt RX.out
          have QG : Hid (gG < y108.heap.size) := Row.lt RG.out
          have QH : Hid (gg103 < y108.heap.size) := Row.lt RH.out
          have Nx : ¬ gg103 = w.heap.size := (by have := S1.out; have := S2.out; have := S40.out; have := S41.out; have := S42.out; have := S68.out; have := S69.out; have := S70.out; have := S71.out; have := S72.out; have := S73.out; have := S74.out; have := S101.out; have := S102.out; have := Hgg103.out; have := S105.out; have := S107.out; have := S109.out; have := BW.out; have := BG.out; have := Zx.out; omega)
          have Nv : ¬ gg103 = w.heap.size + 1 := (by have := S1.out; have := S2.out; have := S40.out; have := S41.out; have := S42.out; have := S68.out; have := S69.out; have := S70.out; have := S71.out; have := S72.out; have := S73.out; have := S74.out; have := S101.out; have := S102.out; have := Hgg103.out; have := S105.out; have := S107.out; have := S109.out; have := BW.out; have := BG.out; have := Zv.out; omega)
          have NW : ¬ gg103 = gW := (by have := S1.out; have := S2.out; have := S40.out; have := S41.out; have := S42.out; have := S68.out; have := S69.out; have := S70.out; have := S71.out; have := S72.out; have := S73.out; have := S74.out; have := S101.out; have := S102.out; have := Hgg103.out; have := S105.out; have := S107.out; have := S109.out; have := BW.out; have := BG.out; have := ZW.out; omega)
          have NX : ¬ gg103 = wX.heap.size := (by have := S1.out; have := S2.out; have := S40.out; have := S41.out; have := S42.out; have := S68.out; have := S69.out; have := S70.out; have := S71.out; have := S72.out; have := S73.out; have := S74.out; have := S101.out; have := S102.out; have := Hgg103.out; have := S105.out; have := S107.out; have := S109.out; have := BW.out; have := BG.out; have := ZX.out; omega)
          have NG : ¬ gg103 = gG := (by have := S1.out; have := S2.out; have := S40.out; have := S41.out; have := S42.out; have := S68.out; have := S69.out; have := S70.out; have := S71.out; have := S72.out; have := S73.out; have := S74.out; have := S101.out; have := S102.out; have := Hgg103.out; have := S105.out; have := S107.out; have := S109.out; have := BW.out; have := BG.out; have := ZG.out; omega)
          replace Rx := Lib.hid (Row.putOther Rx.out (m4 (.slice paH gf qaH) (.slice pbH gl qbH) (.slice pcH gr qcH) (.slice pdH gc qdH)) (fun q => Nx q.symm))
          replace Rv := Lib.hid (Row.putOther Rv.out (m4 (.slice paH gf qaH) (.slice pbH gl qbH) (.slice pcH gr qcH) (.slice pdH gc qdH)) (fun q => Nv q.symm))
          replace RW := Lib.hid (Row.putOther RW.out (m4 (.slice paH gf qaH) (.slice pbH gl qbH) (.slice pcH gr qcH) (.slice pdH gc qdH)) (fun q => NW q.symm))
          replace RX := Lib.hid (Row.putOther RX.out (m4 (.slice paH gf qaH) (.slice pbH gl qbH) (.slice pcH gr qcH) (.slice pdH gc qdH)) (fun q => NX q.symm))
          replace RG := Lib.hid (Row.putOther RG.out (m4 (.slice paH gf qaH) (.slice pbH gl qbH) (.slice pcH gr qcH) (.slice pdH gc qdH)) (fun q => NG q.symm))
          replace OW := Lib.hid (OW.out.rowOut gg103 (m4 (.slice paH gf qaH) (.slice pbH gl qbH) (.slice pcH gr qcH) (.slice pdH gc qdH)) (by have := S1.out; have := S2.out; have := S40.out; have := S41.out; have := S42.out; have := S68.out; have := S69.out; have := S70.out; have := S71.out; have := S72.out; have := S73.out; have := S74.out; have := S101.out; have := S102.out; have := Hgg103.out; have := S105.out; have := S107.out; have := S109.out; have := BW.out; have := BG.out; have := QH.out; omega))
          replace OG := Lib.hid (OG.out.rowOut gg103 (m4 (.slice paH gf qaH) (.slice pbH gl qbH) (.slice pcH gr qcH) (.slice pdH gc qdH)) (by have := S1.out; have := S2.out; have := S40.out; have := S41.out; have := S42.out; have := S68.out; have := S69.out; have := S70.out; have := S71.out; have := S72.out; have := S73.out; have := S74.out; have := S101.out; have := S102.out; have := Hgg103.out; have := S105.out; have := S107.out; have := S109.out; have := BW.out; have := BG.out; have := QH.out; omega))
          replace OH := Lib.hid (OH.out.rowOut gg103 (m4 (.slice paH gf qaH) (.slice pbH gl qbH) (.slice pcH gr qcH) (.slice pdH gc qdH)) (by have := S1.out; have := S2.out; have := S40.out; have := S41.out; have := S42.out; have := S68.out; have := S69.out; have := S70.out; have := S71.out; have := S72.out; have := S73.out; have := S74.out; have := S101.out; have := S102.out; have := Hgg103.out; have := S105.out; have := S107.out; have := S109.out; have := BW.out; have := BG.out; have := QH.out; omega))
          replace L := Lib.hid (below_setRow L.out (show w.heap.size ≤ gg103 from (by have := S1.out; have := S2.out; have := S40.out; have := S41.out; have := S42.out; have := S68.out; have := S69.out; have := S70.out; have := S71.out; have := S72.out; have := S73.out; have := S74.out; have := S101.out; have := S102.out; have := Hgg103.out; have := S105.out; have := S107.out; have := S109.out; have := BW.out; have := BG.out; have := Zx.out; omega)) (m4 (.slice paH gf qaH) (.slice pbH gl qbH) (.slice pcH gr qcH) (.slice pdH gc qdH)))
          have RP := Lib.hid (Row.put RH.out (m4 (.slice paH gf qaH) (.slice pbH gl qbH) (.slice pcH gr qcH) (.slice pdH gc qdH)))
          refine wp_store_row 34 _ _ rfl gg103 (m4 (.slice paH gf qaH) (.slice pbH gl qbH) (.slice pcH gr qcH) (.slice pdH gc qdH)) rfl rfl 34 _ RH.out info_marking rfl (by simp [Value.oneCell']) ?_
          refine hK.out _ _ ⟨Row.cell Rv.out 0, Row.cell Rv.out 1, Row.cell Rv.out 2, Row.cell Rv.out 3, Row.cell Rx.out 0, Row.cell Rx.out 1, Row.cell Rx.out 2, Row.cell Rx.out 3⟩ (fun hHeld => ?_)
          clear hK K
          (try simp only [Act.put, List.getElem_toArray, List.getElem_cons_zero, List.getElem_cons_succ])
          refine wpAnyH_take (i := 10) (v := ?va10x100) rfl (by kernel_rfl) (by kernel_rfl) (by kernel_rfl) (fun _ _ _ h => h) (Or.inl ⟨by rfl, ?hy10x100⟩) (by assumption) ?rest10x100
          case hy10x100 => (intro w hSw; (try dsimp only at hSw); go_simp; try with_reducible rfl)
          (try simp only [Act.put, List.getElem_toArray, List.getElem_cons_zero, List.getElem_cons_succ, List.setIfInBounds_toArray, List.set_cons_zero, List.set_cons_succ])
          refine wpAnyH_done (by kernel_rfl) ?_ _
          go_wp2_with fail
          go_meet
          case rel => exact ⟨gg103, y106.heap.size, y108.heap.size, paH, qaH, pbH, qbH, pcH, qcH, pdH, qdH, rfl, rfl, Rx, Rv, RW, RX, RG, OW, OG, RP, OH, L, (by unfold Hid; rw [size_setRow]; have := S1.out; have := S2.out; have := S40.out; have := S41.out; have := S42.out; have := S68.out; have := S69.out; have := S70.out; have := S71.out; have := S72.out; have := S73.out; have := S74.out; have := S101.out; have := S102.out; have := Hgg103.out; have := S105.out; have := S107.out; have := S109.out; have := BW.out; have := BG.out; have := QH.out; refine ⟨?_, ?_, ?_, ?_, ?_, ?_⟩ <;> omega)⟩
      case rest =>
        clear Rx Rv RW RX RG OW OG L
        obtain ⟨gH, loH, hiH, paH, qaH, pbH, qbH, pcH, qcH, pdH, qdH, rfl, rfl, Rx, Rv, RW, RX, RG, OW, OG, RH, OH, L, BH⟩ := hcut
        generalize wc = z110 at *
        have c0x := Row.cell Rx.out 0
        have c1x := Row.cell Rx.out 1
        have c2x := Row.cell Rx.out 2
        have c3x := Row.cell Rx.out 3
        have c0v := Row.cell Rv.out 0
        have c1v := Row.cell Rv.out 1
        have c2v := Row.cell Rv.out 2
        have c3v := Row.cell Rv.out 3
        have c0W := Row.cell RW.out 0
        have c1W := Row.cell RW.out 1
        have c2W := Row.cell RW.out 2
        have c3W := Row.cell RW.out 3
        have c0X := Row.cell RX.out 0
        have c1X := Row.cell RX.out 1
        have c2X := Row.cell RX.out 2
        have c3X := Row.cell RX.out 3
        have c0G := Row.cell RG.out 0
        have c1G := Row.cell RG.out 1
        have c2G := Row.cell RG.out 2
        have c3G := Row.cell RG.out 3
        have c0H := Row.cell RH.out 0
        have c1H := Row.cell RH.out 1
        have c2H := Row.cell RH.out 2
        have c3H := Row.cell RH.out 3
        go_wp2_with fail
        clear c0x c1x c2x c3x c0v c1v c2v c3v c0W c1W c2W c3W c0X c1X c2X c3X c0G c1G c2G c3G c0H c1H c2H c3H
        refine (c_eqMarking (.slice paH gf qaH) (.slice pbH gl qbH) (.slice pcH gr qcH) (.slice pdH gc qdH) (.slice paW gf qaW) (.slice pbW gl qbW) (.slice pcW gr qcW) (.slice pdW gc qdW) gh gz _ OH.out.heap OH.out.cols OW.out.heap OW.out.cols HRZ.out.2.2.1 (by rw [HNgc.out]; exact HRZ.out.2.2.2)).mono ?_
        rintro e w3e ⟨rfl, hb⟩
        replace Rx := Lib.hid (Row.below Rx.out hb)
        replace Rv := Lib.hid (Row.below Rv.out hb)
        replace RW := Lib.hid (Row.below RW.out hb)
        replace RX := Lib.hid (Row.below RX.out hb)
        replace RG := Lib.hid (Row.below RG.out hb)
        replace RH := Lib.hid (Row.below RH.out hb)
        replace OW := Lib.hid (OwnM.below OW.out hb)
        replace OG := Lib.hid (OwnM.below OG.out hb)
        replace OH := Lib.hid (OwnM.below OH.out hb)
        have S111 : Hid (z110.heap.size ≤ w3e.heap.size) := hb.size
        replace L := Lib.hid (bst L.out hb L.out.size)
        clear hb
        have c0x := Row.cell Rx.out 0
        have c1x := Row.cell Rx.out 1
        have c2x := Row.cell Rx.out 2
        have c3x := Row.cell Rx.out 3
        have c0v := Row.cell Rv.out 0
        have c1v := Row.cell Rv.out 1
        have c2v := Row.cell Rv.out 2
        have c3v := Row.cell Rv.out 3
        have c0W := Row.cell RW.out 0
        have c1W := Row.cell RW.out 1
        have c2W := Row.cell RW.out 2
        have c3W := Row.cell RW.out 3
        have c0X := Row.cell RX.out 0
        have c1X := Row.cell RX.out 1
        have c2X := Row.cell RX.out 2
        have c3X := Row.cell RX.out 3
        have c0G := Row.cell RG.out 0
        have c1G := Row.cell RG.out 1
        have c2G := Row.cell RG.out 2
        have c3G := Row.cell RG.out 3
        have c0H := Row.cell RH.out 0
        have c1H := Row.cell RH.out 1
        have c2H := Row.cell RH.out 2
        have c3H := Row.cell RH.out 3
        go_wp2_with fail
        clear c0x c1x c2x c3x c0v c1v c2v c3v c0W c1W c2W c3W c0X c1X c2X c3X c0G c1G c2G c3G c0H c1H c2H c3H
        refine (c_heldMarking (.slice paG gf qaG) (.slice pbG gl qbG) (.slice pcG gr qcG) (.slice pdG gc qdG) gh gc 1 _ OG.out.heap (by rw [HSMg.out]; exact OG.out.cols) (by omega) (by rw [HSMg.out]; have h9 := HRZ.out.1; have := HRZ.out.2.2.2; omega) (by rw [HNgf.out]; have := HRZ.out.2.1; omega)).mono ?_
        rintro e wh2 ⟨rfl, hb⟩
        rw [HSMg.out]
        replace Rx := Lib.hid (Row.below Rx.out hb)
        replace Rv := Lib.hid (Row.below Rv.out hb)
        replace RW := Lib.hid (Row.below RW.out hb)
        replace RX := Lib.hid (Row.below RX.out hb)
        replace RG := Lib.hid (Row.below RG.out hb)
        replace RH := Lib.hid (Row.below RH.out hb)
        replace OW := Lib.hid (OwnM.below OW.out hb)
        replace OG := Lib.hid (OwnM.below OG.out hb)
        replace OH := Lib.hid (OwnM.below OH.out hb)
        have S112 : Hid (w3e.heap.size ≤ wh2.heap.size) := hb.size
        replace L := Lib.hid (bst L.out hb L.out.size)
        clear hb
        have c0x := Row.cell Rx.out 0
        have c1x := Row.cell Rx.out 1
        have c2x := Row.cell Rx.out 2
        have c3x := Row.cell Rx.out 3
        have c0v := Row.cell Rv.out 0
        have c1v := Row.cell Rv.out 1
        have c2v := Row.cell Rv.out 2
        have c3v := Row.cell Rv.out 3
        have c0W := Row.cell RW.out 0
        have c1W := Row.cell RW.out 1
        have c2W := Row.cell RW.out 2
        have c3W := Row.cell RW.out 3
        have c0X := Row.cell RX.out 0
        have c1X := Row.cell RX.out 1
        have c2X := Row.cell RX.out 2
        have c3X := Row.cell RX.out 3
        have c0G := Row.cell RG.out 0
        have c1G := Row.cell RG.out 1
        have c2G := Row.cell RG.out 2
        have c3G := Row.cell RG.out 3
        have c0H := Row.cell RH.out 0
        have c1H := Row.cell RH.out 1
        have c2H := Row.cell RH.out 2
        have c3H := Row.cell RH.out 3
        go_wp2_with fail
        clear c0x c1x c2x c3x c0v c1v c2v c3v c0W c1W c2W c3W c0X c1X c2X c3X c0G c1G c2G c3G c0H c1H c2H c3H
        go_ret
        exact ⟨rfl, L.out⟩
set_option maxHeartbeats 1600000 in
set_option maxRecDepth 100000 in
theorem walk_FnExactStepByPut (ax bx cx dx : Value) (hx : H) (zx : List Int) (v : Mv) (w : World) (hzx : HeapAt w ax bx cx hx) (hyx : IntsAt w dx zx) (hfx : FitH hx) (hnx : zx.length ≤ 9223372036854775807) : Calls Try.prog 4 #[mv ax bx cx dx, mo v] w fun e w' => e = .returned (.bool true) ∧ Below w.heap.size w w' := by
  by_cases hm : wtH hx + zx.length ≤ 1048576
  · exact core_FnExactStepByPut ax bx cx dx hx zx v (outH (stepA hx zx v) (stepH hx v)) (outC (stepA hx zx v) (stepC hx zx v true)) (stepA hx zx v) w hzx hyx hm (step_wt hx zx v true) (fun w a b c d h k => s_StepByPut a b c d hx zx v w h k) (fun w a b c d h k => c_StepByPut a b c d hx zx v w h k)
  · have HB0 := Lib.hid ((below1 w (.cells (m4 ax bx cx dx) 28)).alloc (by simp) (.cells (mo4 v) 30))
    have HA0 := Lib.hid (hzx.below HB0.out)
    have HF := Lib.hid hfx
    have HMM : Hid ((1048576 : Int) < (wtH hx : Int) + (zx.length : Int)) := by unfold Hid; omega
    have HY0 := Lib.hid (hyx.below HB0.out)
    have HNX := Lib.hid hnx
    obtain ⟨vk, va, vb, vt⟩ := v
    have HC := Lib.hid (c_szMarking_no _ _ _ _ hx zx 1048576 _ HA0.out HF.out HY0.out HNX.out (by omega) (by omega) HMM.out)
    clear hzx hyx hnx HNX HY0 HA0 hfx HF HMM hm
    go_enter Try.func4, Try.ntmps4
    go_wp2_with fail
    refine HC.out.mono ?_
    rintro e w1 ⟨rfl, hb1⟩
    have HB1 := Lib.hid (bst HB0.out hb1 HB0.out.size)
    clear hb1 HC
    go_wp2
    go_ret
    exact ⟨rfl, HB1.out⟩
end Go.Proofs.Ytbmfkgfmibpkjaa
