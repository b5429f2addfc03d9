/- The walk of laws.FnSpans. -/
import Derived.Test.YtcelebblcjhpaaaDoorDs3
import Derived.Test.YtcelebblcjhpaaaDoorDh4
namespace Go.Proofs.YtcelebblcjhpaaaDoor
open Go.RowKit Pb

set_option maxHeartbeats 12800000 in
set_option maxRecDepth 100000 in
theorem walk_FnSpans (v0 : Value) (z0 : List Int) (v1 : Value) (z1 : List Int) (w : World) (hz0 : BytesAt w v0 z0) (hz1 : BytesAt w v1 z1) (hT : Tabs w) : Calls Tryd.prog 3 #[v0, v1] w fun e w' => e = .returned (.bool true) ∧ Below w.heap.size w w' := by
  have HZ := Lib.hid hz0; have HZ2 := Lib.hid hz1
  have HT := Lib.hid hT; clear hT
  obtain ⟨_, _, a, ca, hv, _⟩ := hz0
  obtain ⟨_, _, a2, ca2, hv2, _⟩ := hz1
  subst hv
  subst hv2
  generalize hn : z0.length = n at *
  generalize hn2 : z1.length = n2 at *
  clear hn hn2
  by_cases hm : 1048576 < Go.RowKit.wrap64 ((n : Int) + (n2 : Int))
  · go_enter Tryd.func3, Tryd.ntmps3
    go_wp2
    go_ret
    exact ⟨rfl, Below.refl _ _⟩
  · have L := Below.refl w.heap.size w
    go_enter Tryd.func3, Tryd.ntmps3
    go_wp2_with fail
    refine (c_DrawTakeSlot _ z0 _ HZ.out).mono ?_
    rintro e w1 ⟨f, k, l, vs, zs, hSB, rfl, ho, hb⟩
    obtain ⟨gs, cs, hvs, _⟩ := ho.shape
    subst hvs
    obtain ⟨fr, cr, lr, rs, pp, ok, hrl, hI, hS, hK⟩ := take_facts f k l zs
    obtain ⟨gd, hgi, hgs⟩ := good_facts f k l zs
    have HI := Lib.hid hI; have HS := Lib.hid hS; have HK := Lib.hid hK; have HGI := Lib.hid hgi; have HGS := Lib.hid hgs; have HRL : Hid (∀ X, X = rs → X.length ≤ 1000) := fun X hX => by rw [hX]; exact hrl
    have HZL : Hid (∀ X, X = zs → X.length ≤ 6) := fun X hX => by rw [hX]; exact hSB.2.2
    clear hI hS hK hgi hgs hrl hSB
    obtain ⟨nr, hnr⟩ : ∃ n, n = rs.length := ⟨_, rfl⟩
    have HNR : Hid (rs.length = nr) := hnr.symm
    clear hnr
    have e2 : (ok != ok) = false := by simp
    have e3 : (pp != pp) = false := by simp
    have e4 : (gd != gd) = false := by simp
    generalize hns : zs.length = ns at *
    have HNs := Lib.hid hns; clear hns
    have hU := World.ownsRow.lt ho
    try simp only [World.size_alloc] at hU
    have Us := Lib.hid hU
    clear hU
    have hs0 := hb.size
    try simp only [World.size_alloc] at hs0
    replace L := bst L hb L.size
    clear hb
    have Os := ho
    clear ho
    go_wp2_with fail
    have Rs := Row.new w1 27 (c4 f k l (.slice gs ns cs))
    replace Os := Own.below Os ((Below.refl _ _).alloc (Nat.le_refl _) (.cells (c4 f k l (.slice gs ns cs)) 27))
    replace L := Below.alloc L L.size (.cells (c4 f k l (.slice gs ns cs)) 27)
    refine (HI.out _ (.slice gs ns cs) Os.ints (HT.out.below L)).mono ?_
    rintro e w2 ⟨vT, rfl, ho, hb⟩
    have hU := World.ownsRow.lt ho
    try simp only [World.size_alloc] at hU
    have UT := Lib.hid hU
    clear hU
    obtain ⟨gT, cT, hvs, _⟩ := ho.shape
    rw [HNR.out] at hvs
    subst hvs
    replace Rs := Row.below Rs hb
    replace Os := Own.below Os hb
    have hs1 := hb.size
    try simp only [World.size_alloc] at hs1
    replace L := bst L hb L.size
    clear hb
    have OT := ho
    clear ho
    have c0s := Row.cell Rs 0
    have c1s := Row.cell Rs 1
    have c2s := Row.cell Rs 2
    have c3s := Row.cell Rs 3
    have lts := Row.lt Rs
    go_wp2_with fail
    clear c0s c1s c2s c3s lts
    replace Rs := Row.alloc Rs (.cells (c4 fr cr lr (.slice gT nr cT)) 27)
    have RT := Row.new w2 27 (c4 fr cr lr (.slice gT nr cT))
    replace Os := Own.below Os ((Below.refl _ _).alloc (Nat.le_refl _) (.cells (c4 fr cr lr (.slice gT nr cT)) 27))
    replace OT := Own.below OT ((Below.refl _ _).alloc (Nat.le_refl _) (.cells (c4 fr cr lr (.slice gT nr cT)) 27))
    replace L := Below.alloc L L.size (.cells (c4 fr cr lr (.slice gT nr cT)) 27)
    refine (HS.out _ (.slice gs ns cs) Os.ints).mono ?_
    rintro e w3 ⟨vV, rfl, ho, hb⟩
    have hU := World.ownsRow.lt ho
    try simp only [World.size_alloc] at hU
    have UV := Lib.hid hU
    clear hU
    obtain ⟨gV, cV, hvs, _⟩ := ho.shape
    rw [HNR.out] at hvs
    subst hvs
    replace Rs := Row.below Rs hb
    replace RT := Row.below RT hb
    replace Os := Own.below Os hb
    replace OT := Own.below OT hb
    have hs2 := hb.size
    try simp only [World.size_alloc] at hs2
    replace L := bst L hb L.size
    clear hb
    have OV := ho
    clear ho
    have c0s := Row.cell Rs 0
    have c1s := Row.cell Rs 1
    have c2s := Row.cell Rs 2
    have c3s := Row.cell Rs 3
    have lts := Row.lt Rs
    have c0T := Row.cell RT 0
    have c1T := Row.cell RT 1
    have c2T := Row.cell RT 2
    have c3T := Row.cell RT 3
    have ltT := Row.lt RT
    go_wp2_with fail
    clear c0s c1s c2s c3s lts c0T c1T c2T c3T ltT
    replace Rs := Row.alloc Rs (.cells (c4 fr cr lr (.slice gV nr cV)) 27)
    replace RT := Row.alloc RT (.cells (c4 fr cr lr (.slice gV nr cV)) 27)
    have RV := Row.new w3 27 (c4 fr cr lr (.slice gV nr cV))
    replace Os := Own.below Os ((Below.refl _ _).alloc (Nat.le_refl _) (.cells (c4 fr cr lr (.slice gV nr cV)) 27))
    replace OT := Own.below OT ((Below.refl _ _).alloc (Nat.le_refl _) (.cells (c4 fr cr lr (.slice gV nr cV)) 27))
    replace OV := Own.below OV ((Below.refl _ _).alloc (Nat.le_refl _) (.cells (c4 fr cr lr (.slice gV nr cV)) 27))
    replace L := Below.alloc L L.size (.cells (c4 fr cr lr (.slice gV nr cV)) 27)
    have hwx : ∃ X, X = (w3.alloc (.cells (c4 fr cr lr (.slice gV nr cV)) 27)) := ⟨_, rfl⟩
    obtain ⟨wx, hwx⟩ := hwx
    rw [← hwx] at Rs RT RV Os OT OV L ⊢
    clear hwx
    have KS : Hid (∀ X, Below wx.heap.size wx X → X.cell? ⟨w1.heap.size, 0, none⟩ = some (.int .i64 f) ∧ X.cell? ⟨w1.heap.size, 1, none⟩ = some (.int .i64 k) ∧ X.cell? ⟨w1.heap.size, 2, none⟩ = some (.int .i64 l) ∧ X.cell? ⟨w1.heap.size, 3, none⟩ = some (.slice gs ns cs) ∧ X.cell? ⟨w2.heap.size, 0, none⟩ = some (.int .i64 fr) ∧ X.cell? ⟨w2.heap.size, 1, none⟩ = some (.int .i64 cr) ∧ X.cell? ⟨w2.heap.size, 2, none⟩ = some (.int .i64 lr) ∧ X.cell? ⟨w2.heap.size, 3, none⟩ = some (.slice gT nr cT) ∧ X.cell? ⟨w3.heap.size, 0, none⟩ = some (.int .i64 fr) ∧ X.cell? ⟨w3.heap.size, 1, none⟩ = some (.int .i64 cr) ∧ X.cell? ⟨w3.heap.size, 2, none⟩ = some (.int .i64 lr) ∧ X.cell? ⟨w3.heap.size, 3, none⟩ = some (.slice gV nr cV) ∧ Below wx.heap.size wx X) := fun X hX => ⟨Row.cell (Row.below Rs hX) 0, Row.cell (Row.below Rs hX) 1, Row.cell (Row.below Rs hX) 2, Row.cell (Row.below Rs hX) 3, Row.cell (Row.below RT hX) 0, Row.cell (Row.below RT hX) 1, Row.cell (Row.below RT hX) 2, Row.cell (Row.below RT hX) 3, Row.cell (Row.below RV hX) 0, Row.cell (Row.below RV hX) 1, Row.cell (Row.below RV hX) 2, Row.cell (Row.below RV hX) 3, hX⟩
    have BD := below_drew (Below.refl wx.heap.size wx)
    refine wp_region_noPanic ?_
    refine wp_region_held_drew (S := (fun w' => w'.cell? ⟨w1.heap.size, 0, none⟩ = some (.int .i64 f) ∧ w'.cell? ⟨w1.heap.size, 1, none⟩ = some (.int .i64 k) ∧ w'.cell? ⟨w1.heap.size, 2, none⟩ = some (.int .i64 l) ∧ w'.cell? ⟨w1.heap.size, 3, none⟩ = some (.slice gs ns cs) ∧ w'.cell? ⟨w2.heap.size, 0, none⟩ = some (.int .i64 fr) ∧ w'.cell? ⟨w2.heap.size, 1, none⟩ = some (.int .i64 cr) ∧ w'.cell? ⟨w2.heap.size, 2, none⟩ = some (.int .i64 lr) ∧ w'.cell? ⟨w2.heap.size, 3, none⟩ = some (.slice gT nr cT) ∧ w'.cell? ⟨w3.heap.size, 0, none⟩ = some (.int .i64 fr) ∧ w'.cell? ⟨w3.heap.size, 1, none⟩ = some (.int .i64 cr) ∧ w'.cell? ⟨w3.heap.size, 2, none⟩ = some (.int .i64 lr) ∧ w'.cell? ⟨w3.heap.size, 3, none⟩ = some (.slice gV nr cV) ∧ Below wx.heap.size wx w')) (by kernel_rfl) (KS.out _ BD) (fun hHeld => ?_)
    refine wpAnyH_take (i := 0) (v := ?va0x1) rfl (by kernel_rfl) (by kernel_rfl) (by kernel_rfl) (fun _ _ _ h => h) (Or.inl ⟨by rfl, ?hy0x1⟩) (by assumption) ?rest0x1
    case hy0x1 => (intro w hSw; (try dsimp only at hSw); go_simp; try with_reducible rfl)
    (try simp only [Act.put, List.getElem_toArray, List.getElem_cons_zero, List.setIfInBounds_toArray, List.set_cons_zero, List.set_cons_succ])
    refine wpAnyH_take (i := 1) (v := ?va1x2) rfl (by kernel_rfl) (by kernel_rfl) (by kernel_rfl) (fun _ _ _ h => h) (Or.inl ⟨by rfl, ?hy1x2⟩) (by assumption) ?rest1x2
    case hy1x2 => (intro w hSw; (try dsimp only at hSw); go_simp; try with_reducible rfl)
    (try simp only [Act.put, List.getElem_toArray, List.getElem_cons_zero, List.getElem_cons_succ, List.setIfInBounds_toArray, List.set_cons_zero, List.set_cons_succ])
    refine wpAnyH_take (i := 2) (v := ?va2x3) rfl (by kernel_rfl) (by kernel_rfl) (by kernel_rfl) (fun _ _ _ h => h) (Or.inl ⟨by rfl, ?hy2x3⟩) (by assumption) ?rest2x3
    case hy2x3 => (intro w hSw; (try dsimp only at hSw); go_simp; try with_reducible rfl)
    (try simp only [Act.put, List.getElem_toArray, List.getElem_cons_zero, List.getElem_cons_succ, List.setIfInBounds_toArray, List.set_cons_zero, List.set_cons_succ])
    refine wpAnyH_take (i := 3) (v := ?va3x4) rfl (by kernel_rfl) (by kernel_rfl) (by kernel_rfl) (fun _ _ _ h => h) (Or.inl ⟨by rfl, ?hy3x4⟩) (by assumption) ?rest3x4
    case hy3x4 => (intro w hSw; (try dsimp only at hSw); go_simp; try with_reducible rfl)
    (try simp only [Act.put, List.getElem_toArray, List.getElem_cons_zero, List.getElem_cons_succ, List.setIfInBounds_toArray, List.set_cons_zero, List.set_cons_succ])
    refine wpAnyH_take (i := 4) (v := ?va4x5) rfl (by kernel_rfl) (by kernel_rfl) (by kernel_rfl) (fun _ _ _ h => h) (Or.inl ⟨by rfl, ?hy4x5⟩) (by assumption) ?rest4x5
    case hy4x5 => (intro w hSw; (try dsimp only at hSw); go_simp; try with_reducible rfl)
    (try simp only [Act.put, List.getElem_toArray, List.getElem_cons_zero, List.getElem_cons_succ, List.setIfInBounds_toArray, List.set_cons_zero, List.set_cons_succ])
    refine wpAnyH_take (i := 5) (v := ?va5x6) rfl (by kernel_rfl) (by kernel_rfl) (by kernel_rfl) (fun _ _ _ h => h) (Or.inl ⟨by rfl, ?hy5x6⟩) (by assumption) ?rest5x6
    case hy5x6 => (intro w hSw; (try dsimp only at hSw); go_simp; try with_reducible rfl)
    (try simp only [Act.put, List.getElem_toArray, List.getElem_cons_zero, List.getElem_cons_succ, List.setIfInBounds_toArray, List.set_cons_zero, List.set_cons_succ])
    refine wpAnyH_take (i := 6) (v := ?va6x7) rfl (by kernel_rfl) (by kernel_rfl) (by kernel_rfl) (fun _ _ _ h => h) (Or.inl ⟨by rfl, ?hy6x7⟩) (by assumption) ?rest6x7
    case hy6x7 => (intro w hSw; (try dsimp only at hSw); go_simp; try with_reducible rfl)
    (try simp only [Act.put, List.getElem_toArray, List.getElem_cons_zero, List.getElem_cons_succ, List.setIfInBounds_toArray, List.set_cons_zero, List.set_cons_succ])
    refine wpAnyH_take (i := 7) (v := ?va7x8) rfl (by kernel_rfl) (by kernel_rfl) (by kernel_rfl) (fun _ _ _ h => h) (Or.inl ⟨by rfl, ?hy7x8⟩) (by assumption) ?rest7x8
    case hy7x8 => (intro w hSw; (try dsimp only at hSw); go_simp; try with_reducible rfl)
    (try simp only [Act.put, List.getElem_toArray, List.getElem_cons_zero, List.getElem_cons_succ, List.setIfInBounds_toArray, List.set_cons_zero, List.set_cons_succ])
    refine wpAnyH_take (i := 8) (v := ?va8x9) rfl (by kernel_rfl) (by kernel_rfl) (by kernel_rfl) (fun _ _ _ h => h) (Or.inl ⟨by rfl, ?hy8x9⟩) (by assumption) ?rest8x9
    case hy8x9 => (intro w hSw; (try dsimp only at hSw); go_simp; try with_reducible rfl)
    (try simp only [Act.put, List.getElem_toArray, List.getElem_cons_zero, List.getElem_cons_succ, List.setIfInBounds_toArray, List.set_cons_zero, List.set_cons_succ])
    refine wpAnyH_take (i := 9) (v := ?va9x10) rfl (by kernel_rfl) (by kernel_rfl) (by kernel_rfl) (fun _ _ _ h => h) (Or.inl ⟨by rfl, ?hy9x10⟩) (by assumption) ?rest9x10
    case hy9x10 => (intro w hSw; (try dsimp only at hSw); go_simp; try with_reducible rfl)
    (try simp only [Act.put, List.getElem_toArray, List.getElem_cons_zero, List.getElem_cons_succ, List.setIfInBounds_toArray, List.set_cons_zero, List.set_cons_succ])
    refine wpAnyH_take (i := 10) (v := ?va10x11) rfl (by kernel_rfl) (by kernel_rfl) (by kernel_rfl) (fun _ _ _ h => h) (Or.inl ⟨by rfl, ?hy10x11⟩) (by assumption) ?rest10x11
    case hy10x11 => (intro w hSw; (try dsimp only at hSw); go_simp; try with_reducible rfl)
    (try simp only [Act.put, List.getElem_toArray, List.getElem_cons_zero, List.getElem_cons_succ, List.setIfInBounds_toArray, List.set_cons_zero, List.set_cons_succ])
    refine wpAnyH_ready (rs := [11]) (by kernel_rfl) (by simp) ?_
    refine AllReadyH.cons rfl (fun K hK => ?_) AllReadyH.nil
    go_simp
    refine Ans.go (c_sameSpan fr cr lr (.slice gT nr cT) (.slice gV nr cV) rs _ (OT.ints.below BD) (OV.ints.below BD) (by have := HRL.out _ rfl; omega)) fun q1 hbk => ?_
    have kb1 := bst BD hbk BD.size
    refine hK.out _ _ (KS.out _ kb1) (fun hHeld => ?_)
    clear hK K
    (try simp only [Act.put, List.getElem_toArray, List.getElem_cons_zero, List.getElem_cons_succ, List.setIfInBounds_toArray, List.set_cons_zero, List.set_cons_succ])
    refine wpAnyH_take (i := 12) (v := ?va12x12) rfl (by kernel_rfl) (by kernel_rfl) (by kernel_rfl) (fun _ _ _ h => h) (Or.inl ⟨by rfl, ?hy12x12⟩) (by assumption) ?rest12x12
    case hy12x12 => (intro w hSw; (try dsimp only at hSw); go_simp; try with_reducible rfl)
    (try simp only [Act.put, List.getElem_toArray, List.getElem_cons_zero, List.getElem_cons_succ, List.setIfInBounds_toArray, List.set_cons_zero, List.set_cons_succ])
    refine wpAnyH_take (i := 13) (v := ?va13x13) rfl (by kernel_rfl) (by kernel_rfl) (by kernel_rfl) (fun _ _ _ h => h) (Or.inl ⟨by rfl, ?hy13x13⟩) (by assumption) ?rest13x13
    case hy13x13 => (intro w hSw; (try dsimp only at hSw); go_simp; try with_reducible rfl)
    (try simp only [Act.put, List.getElem_toArray, List.getElem_cons_zero, List.getElem_cons_succ, List.setIfInBounds_toArray, List.set_cons_zero, List.set_cons_succ])
    refine wpAnyH_take (i := 14) (v := ?va14x14) rfl (by kernel_rfl) (by kernel_rfl) (by kernel_rfl) (fun _ _ _ h => h) (Or.inl ⟨by rfl, ?hy14x14⟩) (by assumption) ?rest14x14
    case hy14x14 => (intro w hSw; (try dsimp only at hSw); go_simp; try with_reducible rfl)
    (try simp only [Act.put, List.getElem_toArray, List.getElem_cons_zero, List.getElem_cons_succ, List.setIfInBounds_toArray, List.set_cons_zero, List.set_cons_succ])
    refine wpAnyH_take (i := 15) (v := ?va15x15) rfl (by kernel_rfl) (by kernel_rfl) (by kernel_rfl) (fun _ _ _ h => h) (Or.inl ⟨by rfl, ?hy15x15⟩) (by assumption) ?rest15x15
    case hy15x15 => (intro w hSw; (try dsimp only at hSw); go_simp; try with_reducible rfl)
    (try simp only [Act.put, List.getElem_toArray, List.getElem_cons_zero, List.getElem_cons_succ, List.setIfInBounds_toArray, List.set_cons_zero, List.set_cons_succ])
    refine wpAnyH_take (i := 17) (v := ?va17x16) rfl (by kernel_rfl) (by kernel_rfl) (by kernel_rfl) (fun _ _ _ h => h) (Or.inl ⟨by rfl, ?hy17x16⟩) (by assumption) ?rest17x16
    case hy17x16 => (intro w hSw; (try dsimp only at hSw); go_simp; try with_reducible rfl)
    (try simp only [Act.put, List.getElem_toArray, List.getElem_cons_zero, List.getElem_cons_succ, List.setIfInBounds_toArray, List.set_cons_zero, List.set_cons_succ])
    refine wpAnyH_ready (rs := [16]) (by kernel_rfl) (by simp) ?_
    refine AllReadyH.cons rfl (fun K hK => ?_) AllReadyH.nil
    go_simp
    refine Ans.go (HGI.out _ (.slice gs ns cs) (Os.ints.below kb1) ((HT.out.below (bst L kb1 L.size)).1)) fun q2 hbk2 => ?_
    have kb2 := bst kb1 hbk2 kb1.size
    refine hK.out _ _ (KS.out _ kb2) (fun hHeld => ?_)
    clear hK K
    (try simp only [Act.put, List.getElem_toArray, List.getElem_cons_zero, List.getElem_cons_succ, List.setIfInBounds_toArray, List.set_cons_zero, List.set_cons_succ])
    refine wpAnyH_ready (rs := [18]) (by kernel_rfl) (by simp) ?_
    refine AllReadyH.cons rfl (fun K hK => ?_) AllReadyH.nil
    go_simp
    refine Ans.go (HGS.out _ (.slice gs ns cs) (Os.ints.below kb2)) fun q3 hbk3 => ?_
    have kb3 := bst kb2 hbk3 kb2.size
    refine hK.out _ _ (KS.out _ kb3) (fun hHeld => ?_)
    clear hK K
    (try simp only [Act.put, List.getElem_toArray, List.getElem_cons_zero, List.getElem_cons_succ, List.setIfInBounds_toArray, List.set_cons_zero, List.set_cons_succ])
    refine wpAnyH_take (i := 19) (v := ?va19x17) rfl (by kernel_rfl) (by kernel_rfl) (by kernel_rfl) (fun _ _ _ h => h) (Or.inl ⟨by rfl, ?hy19x17⟩) (by assumption) ?rest19x17
    case hy19x17 => (intro w hSw; (try dsimp only at hSw); go_simp; try with_reducible rfl)
    (try simp only [Act.put, List.getElem_toArray, List.getElem_cons_zero, List.getElem_cons_succ, List.setIfInBounds_toArray, List.set_cons_zero, List.set_cons_succ])
    refine wpAnyH_take (i := 20) (v := ?va20x18) rfl (by kernel_rfl) (by kernel_rfl) (by kernel_rfl) (fun _ _ _ h => h) (Or.inl ⟨by rfl, ?hy20x18⟩) (by assumption) ?rest20x18
    case hy20x18 => (intro w hSw; (try dsimp only at hSw); go_simp; try with_reducible rfl)
    (try simp only [Act.put, List.getElem_toArray, List.getElem_cons_zero, List.getElem_cons_succ, List.setIfInBounds_toArray, List.set_cons_zero, List.set_cons_succ])
    refine wpAnyH_done (by kernel_rfl) ?_ _
    refine NoPanic.normal ?_
    have hsx := Below.size L
    replace Rs := Row.below Rs kb3
    replace RT := Row.below RT kb3
    replace RV := Row.below RV kb3
    replace Os := Own.below Os kb3
    replace OT := Own.below OT kb3
    replace OV := Own.below OV kb3
    have hsx2 := kb3.size
    replace L := bst L kb3 L.size
    clear KS BD kb1 kb2 kb3 hbk hbk2 hbk3 hHeld
    generalize w1.heap.size = bs at *
    generalize w2.heap.size = bT at *
    generalize w3.heap.size = bV at *
    clear RV OV UV
    cases ok with
    | false =>
      clear HK
      clear Rs Os Us
      clear RT OT UT
      try clear HI HS HGI HGS HRL HZL
      go_wp2_with fail
      refine (c_DrawThingAt _ z1 _ (HZ2.out.below L)).mono ?_
      rintro e w21 ⟨f2, k2, l2, vu, zs2, x2, hSB2, hx2, rfl, ho, hb⟩
      obtain ⟨gu, cu, hvs, _⟩ := ho.shape
      subst hvs
      obtain ⟨y2, ok2, hti, hts⟩ := thing_facts f2 k2 l2 zs2 x2 (by omega)
      have HTI := Lib.hid hti; have HTS := Lib.hid hts; clear hti hts hSB2
      generalize hnu : zs2.length = nu at *
      have HNu := Lib.hid hnu; clear hnu
      have hU := World.ownsRow.lt ho
      try simp only [World.size_alloc] at hU
      have Uu := Lib.hid hU
      clear hU
      have hs3 := hb.size
      try simp only [World.size_alloc] at hs3
      replace L := bst L hb L.size
      clear hb
      have Ou := ho
      clear ho
      go_wp2_with fail
      have Ru := Row.new w21 27 (c4 f2 k2 l2 (.slice gu nu cu))
      replace Ou := Own.below Ou ((Below.refl _ _).alloc (Nat.le_refl _) (.cells (c4 f2 k2 l2 (.slice gu nu cu)) 27))
      replace L := Below.alloc L L.size (.cells (c4 f2 k2 l2 (.slice gu nu cu)) 27)
      refine Ans.go (HTI.out _ (.slice gu nu cu) Ou.ints (HT.out.below L).1) fun w22 hb => ?_
      replace Ru := Row.below Ru hb
      replace Ou := Own.below Ou hb
      have hs4 := hb.size
      try simp only [World.size_alloc] at hs4
      replace L := bst L hb L.size
      clear hb
      have c0u := Row.cell Ru 0
      have c1u := Row.cell Ru 1
      have c2u := Row.cell Ru 2
      have c3u := Row.cell Ru 3
      have ltu := Row.lt Ru
      go_wp2_with fail
      clear c0u c1u c2u c3u ltu
      refine Ans.go (HTS.out _ (.slice gu nu cu) Ou.ints) fun w23 hb => ?_
      replace Ru := Row.below Ru hb
      replace Ou := Own.below Ou hb
      have hs5 := hb.size
      try simp only [World.size_alloc] at hs5
      replace L := bst L hb L.size
      clear hb
      clear Ru Ou Uu
      go_wp2_with fail
      refine (c_DrawFreeSlot _ z1 _ (HZ2.out.below L)).mono ?_
      rintro e w24 ⟨f3, k3, l3, vx, zs3, x3, hSB3, hx3, rfl, ho, hb⟩
      obtain ⟨gx, cx, hvs, _⟩ := ho.shape
      subst hvs
      obtain ⟨fa, ka, la, ra, ok3, hra, hfi, hfs⟩ := free4_facts f3 k3 l3 zs3 x3
      obtain ⟨y3, ok4, hwi, hws⟩ := word_facts f3 k3 l3 zs3 x3
      have HFI := Lib.hid hfi; have HFS := Lib.hid hfs; have HWI := Lib.hid hwi; have HWS := Lib.hid hws; have HRA : Hid (∀ X, X = ra → X.length ≤ 1000) := fun X hX => by rw [hX]; exact hra
      obtain ⟨na, hna⟩ : ∃ n, n = ra.length := ⟨_, rfl⟩
      have HNA : Hid (ra.length = na) := hna.symm
      clear hfi hfs hwi hws hSB3 hra hna
      generalize hnx : zs3.length = nx at *
      have HNx := Lib.hid hnx; clear hnx
      have hU := World.ownsRow.lt ho
      try simp only [World.size_alloc] at hU
      have Ux := Lib.hid hU
      clear hU
      have hs6 := hb.size
      try simp only [World.size_alloc] at hs6
      replace L := bst L hb L.size
      clear hb
      have Ox := ho
      clear ho
      go_wp2_with fail
      have Rx := Row.new w24 27 (c4 f3 k3 l3 (.slice gx nx cx))
      replace Ox := Own.below Ox ((Below.refl _ _).alloc (Nat.le_refl _) (.cells (c4 f3 k3 l3 (.slice gx nx cx)) 27))
      replace L := Below.alloc L L.size (.cells (c4 f3 k3 l3 (.slice gx nx cx)) 27)
      refine (HFI.out _ (.slice gx nx cx) Ox.ints (HT.out.below L).1).mono ?_
      rintro e w25 ⟨vF, rfl, ho, hb⟩
      have hU := World.ownsRow.lt ho
      try simp only [World.size_alloc] at hU
      have UF := Lib.hid hU
      clear hU
      obtain ⟨gF, cF, hvs, _⟩ := ho.shape
      rw [HNA.out] at hvs
      subst hvs
      replace Rx := Row.below Rx hb
      replace Ox := Own.below Ox hb
      have hs7 := hb.size
      try simp only [World.size_alloc] at hs7
      replace L := bst L hb L.size
      clear hb
      have OF := ho
      clear ho
      have c0x := Row.cell Rx 0
      have c1x := Row.cell Rx 1
      have c2x := Row.cell Rx 2
      have c3x := Row.cell Rx 3
      have ltx := Row.lt Rx
      go_wp2_with fail
      clear c0x c1x c2x c3x ltx
      replace Rx := Row.alloc Rx (.cells (c4 fa ka la (.slice gF na cF)) 27)
      have RF := Row.new w25 27 (c4 fa ka la (.slice gF na cF))
      replace Ox := Own.below Ox ((Below.refl _ _).alloc (Nat.le_refl _) (.cells (c4 fa ka la (.slice gF na cF)) 27))
      replace OF := Own.below OF ((Below.refl _ _).alloc (Nat.le_refl _) (.cells (c4 fa ka la (.slice gF na cF)) 27))
      replace L := Below.alloc L L.size (.cells (c4 fa ka la (.slice gF na cF)) 27)
      refine (HFS.out _ (.slice gx nx cx) Ox.ints).mono ?_
      rintro e w26 ⟨vE, rfl, ho, hb⟩
      have hU := World.ownsRow.lt ho
      try simp only [World.size_alloc] at hU
      have UE := Lib.hid hU
      clear hU
      obtain ⟨gE, cE, hvs, _⟩ := ho.shape
      rw [HNA.out] at hvs
      subst hvs
      replace Rx := Row.below Rx hb
      replace RF := Row.below RF hb
      replace Ox := Own.below Ox hb
      replace OF := Own.below OF hb
      have hs8 := hb.size
      try simp only [World.size_alloc] at hs8
      replace L := bst L hb L.size
      clear hb
      have OE := ho
      clear ho
      have c0x := Row.cell Rx 0
      have c1x := Row.cell Rx 1
      have c2x := Row.cell Rx 2
      have c3x := Row.cell Rx 3
      have ltx := Row.lt Rx
      have c0F := Row.cell RF 0
      have c1F := Row.cell RF 1
      have c2F := Row.cell RF 2
      have c3F := Row.cell RF 3
      have ltF := Row.lt RF
      go_wp2_with fail
      clear c0x c1x c2x c3x ltx c0F c1F c2F c3F ltF
      replace Rx := Row.alloc Rx (.cells (c4 fa ka la (.slice gE na cE)) 27)
      replace RF := Row.alloc RF (.cells (c4 fa ka la (.slice gE na cE)) 27)
      have RE := Row.new w26 27 (c4 fa ka la (.slice gE na cE))
      replace Ox := Own.below Ox ((Below.refl _ _).alloc (Nat.le_refl _) (.cells (c4 fa ka la (.slice gE na cE)) 27))
      replace OF := Own.below OF ((Below.refl _ _).alloc (Nat.le_refl _) (.cells (c4 fa ka la (.slice gE na cE)) 27))
      replace OE := Own.below OE ((Below.refl _ _).alloc (Nat.le_refl _) (.cells (c4 fa ka la (.slice gE na cE)) 27))
      replace L := Below.alloc L L.size (.cells (c4 fa ka la (.slice gE na cE)) 27)
      refine Ans.go (HWI.out _ (.slice gx nx cx) Ox.ints (HT.out.below L).1) fun w27 hb => ?_
      replace Rx := Row.below Rx hb
      replace RF := Row.below RF hb
      replace RE := Row.below RE hb
      replace Ox := Own.below Ox hb
      replace OF := Own.below OF hb
      replace OE := Own.below OE hb
      have hs9 := hb.size
      try simp only [World.size_alloc] at hs9
      replace L := bst L hb L.size
      clear hb
      have c0x := Row.cell Rx 0
      have c1x := Row.cell Rx 1
      have c2x := Row.cell Rx 2
      have c3x := Row.cell Rx 3
      have ltx := Row.lt Rx
      have c0F := Row.cell RF 0
      have c1F := Row.cell RF 1
      have c2F := Row.cell RF 2
      have c3F := Row.cell RF 3
      have ltF := Row.lt RF
      have c0E := Row.cell RE 0
      have c1E := Row.cell RE 1
      have c2E := Row.cell RE 2
      have c3E := Row.cell RE 3
      have ltE := Row.lt RE
      go_wp2_with fail
      clear c0x c1x c2x c3x ltx c0F c1F c2F c3F ltF c0E c1E c2E c3E ltE
      refine Ans.go (HWS.out _ (.slice gx nx cx) Ox.ints) fun w28 hb => ?_
      replace Rx := Row.below Rx hb
      replace RF := Row.below RF hb
      replace RE := Row.below RE hb
      replace Ox := Own.below Ox hb
      replace OF := Own.below OF hb
      replace OE := Own.below OE hb
      have hs10 := hb.size
      try simp only [World.size_alloc] at hs10
      replace L := bst L hb L.size
      clear hb
      clear Rx Ox Ux
      have c0F := Row.cell RF 0
      have c1F := Row.cell RF 1
      have c2F := Row.cell RF 2
      have c3F := Row.cell RF 3
      have ltF := Row.lt RF
      have c0E := Row.cell RE 0
      have c1E := Row.cell RE 1
      have c2E := Row.cell RE 2
      have c3E := Row.cell RE 3
      have ltE := Row.lt RE
      go_wp2_with fail
      clear c0F c1F c2F c3F ltF c0E c1E c2E c3E ltE
      refine (c_DrawNewSpan _ z1 _ (HZ2.out.below L)).mono ?_
      rintro e w29 ⟨x4, y4, rfl, hb⟩
      replace RF := Row.below RF hb
      replace RE := Row.below RE hb
      replace OF := Own.below OF hb
      replace OE := Own.below OE hb
      have hs11 := hb.size
      try simp only [World.size_alloc] at hs11
      replace L := bst L hb L.size
      clear hb
      obtain ⟨fb, kb, lb, rb, ok5, hrb, hni, hns⟩ := new4_facts x4 y4
      have HNI := Lib.hid hni; have HNS2 := Lib.hid hns; have HRB : Hid (∀ X, X = rb → X.length ≤ 1000) := fun X hX => by rw [hX]; exact hrb
      obtain ⟨nb, hnb⟩ : ∃ n, n = rb.length := ⟨_, rfl⟩
      have HNB : Hid (rb.length = nb) := hnb.symm
      clear hni hns hrb hnb
      have c0F := Row.cell RF 0
      have c1F := Row.cell RF 1
      have c2F := Row.cell RF 2
      have c3F := Row.cell RF 3
      have ltF := Row.lt RF
      have c0E := Row.cell RE 0
      have c1E := Row.cell RE 1
      have c2E := Row.cell RE 2
      have c3E := Row.cell RE 3
      have ltE := Row.lt RE
      go_wp2_with fail
      clear c0F c1F c2F c3F ltF c0E c1E c2E c3E ltE
      refine (HNI.out _ (HT.out.below L).1).mono ?_
      rintro e w30 ⟨vM, rfl, ho, hb⟩
      have hU := World.ownsRow.lt ho
      try simp only [World.size_alloc] at hU
      have UM := Lib.hid hU
      clear hU
      obtain ⟨gM, cM, hvs, _⟩ := ho.shape
      rw [HNB.out] at hvs
      subst hvs
      replace RF := Row.below RF hb
      replace RE := Row.below RE hb
      replace OF := Own.below OF hb
      replace OE := Own.below OE hb
      have hs12 := hb.size
      try simp only [World.size_alloc] at hs12
      replace L := bst L hb L.size
      clear hb
      have OM := ho
      clear ho
      have c0F := Row.cell RF 0
      have c1F := Row.cell RF 1
      have c2F := Row.cell RF 2
      have c3F := Row.cell RF 3
      have ltF := Row.lt RF
      have c0E := Row.cell RE 0
      have c1E := Row.cell RE 1
      have c2E := Row.cell RE 2
      have c3E := Row.cell RE 3
      have ltE := Row.lt RE
      go_wp2_with fail
      clear c0F c1F c2F c3F ltF c0E c1E c2E c3E ltE
      replace RF := Row.alloc RF (.cells (c4 fb kb lb (.slice gM nb cM)) 27)
      replace RE := Row.alloc RE (.cells (c4 fb kb lb (.slice gM nb cM)) 27)
      have RM := Row.new w30 27 (c4 fb kb lb (.slice gM nb cM))
      replace OF := Own.below OF ((Below.refl _ _).alloc (Nat.le_refl _) (.cells (c4 fb kb lb (.slice gM nb cM)) 27))
      replace OE := Own.below OE ((Below.refl _ _).alloc (Nat.le_refl _) (.cells (c4 fb kb lb (.slice gM nb cM)) 27))
      replace OM := Own.below OM ((Below.refl _ _).alloc (Nat.le_refl _) (.cells (c4 fb kb lb (.slice gM nb cM)) 27))
      replace L := Below.alloc L L.size (.cells (c4 fb kb lb (.slice gM nb cM)) 27)
      refine (HNS2.out _).mono ?_
      rintro e w31 ⟨vD, rfl, ho, hb⟩
      have hU := World.ownsRow.lt ho
      try simp only [World.size_alloc] at hU
      have UD := Lib.hid hU
      clear hU
      obtain ⟨gD, cD, hvs, _⟩ := ho.shape
      rw [HNB.out] at hvs
      subst hvs
      replace RF := Row.below RF hb
      replace RE := Row.below RE hb
      replace RM := Row.below RM hb
      replace OF := Own.below OF hb
      replace OE := Own.below OE hb
      replace OM := Own.below OM hb
      have hs13 := hb.size
      try simp only [World.size_alloc] at hs13
      replace L := bst L hb L.size
      clear hb
      have OD := ho
      clear ho
      have j2 : (ok2 == ok2) = true := by simp
      have j3 : (y2 == y2) = true := by simp
      have j4 : (ok3 == ok3) = true := by simp
      have j5 : (ok4 == ok4) = true := by simp
      have j6 : (y3 == y3) = true := by simp
      have j7 : (ok5 == ok5) = true := by simp
      have c0F := Row.cell RF 0
      have c1F := Row.cell RF 1
      have c2F := Row.cell RF 2
      have c3F := Row.cell RF 3
      have ltF := Row.lt RF
      have c0E := Row.cell RE 0
      have c1E := Row.cell RE 1
      have c2E := Row.cell RE 2
      have c3E := Row.cell RE 3
      have ltE := Row.lt RE
      have c0M := Row.cell RM 0
      have c1M := Row.cell RM 1
      have c2M := Row.cell RM 2
      have c3M := Row.cell RM 3
      have ltM := Row.lt RM
      go_wp2_with fail
      clear c0F c1F c2F c3F ltF c0E c1E c2E c3E ltE c0M c1M c2M c3M ltM
      replace RF := Row.alloc RF (.cells (c4 fb kb lb (.slice gD nb cD)) 27)
      replace RE := Row.alloc RE (.cells (c4 fb kb lb (.slice gD nb cD)) 27)
      replace RM := Row.alloc RM (.cells (c4 fb kb lb (.slice gD nb cD)) 27)
      have RD := Row.new w31 27 (c4 fb kb lb (.slice gD nb cD))
      replace OF := Own.below OF ((Below.refl _ _).alloc (Nat.le_refl _) (.cells (c4 fb kb lb (.slice gD nb cD)) 27))
      replace OE := Own.below OE ((Below.refl _ _).alloc (Nat.le_refl _) (.cells (c4 fb kb lb (.slice gD nb cD)) 27))
      replace OM := Own.below OM ((Below.refl _ _).alloc (Nat.le_refl _) (.cells (c4 fb kb lb (.slice gD nb cD)) 27))
      replace OD := Own.below OD ((Below.refl _ _).alloc (Nat.le_refl _) (.cells (c4 fb kb lb (.slice gD nb cD)) 27))
      replace L := Below.alloc L L.size (.cells (c4 fb kb lb (.slice gD nb cD)) 27)
      refine Ans.go (c_sameSpan fa ka la (.slice gF na cF) (.slice gE na cE) ra _ OF.ints OE.ints (by have := HRA.out _ rfl; omega)) fun w32 hb => ?_
      replace RF := Row.below RF hb
      replace RE := Row.below RE hb
      replace RM := Row.below RM hb
      replace RD := Row.below RD hb
      replace OF := Own.below OF hb
      replace OE := Own.below OE hb
      replace OM := Own.below OM hb
      replace OD := Own.below OD hb
      have hs14 := hb.size
      try simp only [World.size_alloc] at hs14
      replace L := bst L hb L.size
      clear hb
      have c0F := Row.cell RF 0
      have c1F := Row.cell RF 1
      have c2F := Row.cell RF 2
      have c3F := Row.cell RF 3
      have ltF := Row.lt RF
      have c0E := Row.cell RE 0
      have c1E := Row.cell RE 1
      have c2E := Row.cell RE 2
      have c3E := Row.cell RE 3
      have ltE := Row.lt RE
      have c0M := Row.cell RM 0
      have c1M := Row.cell RM 1
      have c2M := Row.cell RM 2
      have c3M := Row.cell RM 3
      have ltM := Row.lt RM
      have c0D := Row.cell RD 0
      have c1D := Row.cell RD 1
      have c2D := Row.cell RD 2
      have c3D := Row.cell RD 3
      have ltD := Row.lt RD
      go_wp2_with fail
      clear c0F c1F c2F c3F ltF c0E c1E c2E c3E ltE c0M c1M c2M c3M ltM c0D c1D c2D c3D ltD
      refine Ans.go (c_sameSpan fb kb lb (.slice gM nb cM) (.slice gD nb cD) rb _ OM.ints OD.ints (by have := HRB.out _ rfl; omega)) fun w33 hb => ?_
      replace RF := Row.below RF hb
      replace RE := Row.below RE hb
      replace RM := Row.below RM hb
      replace RD := Row.below RD hb
      replace OF := Own.below OF hb
      replace OE := Own.below OE hb
      replace OM := Own.below OM hb
      replace OD := Own.below OD hb
      have hs15 := hb.size
      try simp only [World.size_alloc] at hs15
      replace L := bst L hb L.size
      clear hb
      have c0F := Row.cell RF 0
      have c1F := Row.cell RF 1
      have c2F := Row.cell RF 2
      have c3F := Row.cell RF 3
      have ltF := Row.lt RF
      have c0E := Row.cell RE 0
      have c1E := Row.cell RE 1
      have c2E := Row.cell RE 2
      have c3E := Row.cell RE 3
      have ltE := Row.lt RE
      have c0M := Row.cell RM 0
      have c1M := Row.cell RM 1
      have c2M := Row.cell RM 2
      have c3M := Row.cell RM 3
      have ltM := Row.lt RM
      have c0D := Row.cell RD 0
      have c1D := Row.cell RD 1
      have c2D := Row.cell RD 2
      have c3D := Row.cell RD 3
      have ltD := Row.lt RD
      go_wp2
      go_ret
      exact ⟨rfl, L⟩
    | true =>
      obtain ⟨hkb, z, wd, y, five, hz, hzb, hpb, hwb, hwo, hfo, hto, hgo, hla, hlb⟩ := HK.out rfl
      have HWO := Lib.hid hwo; have HFO := Lib.hid hfo; have HTO := Lib.hid hto; have HGO := Lib.hid hgo; have HLA := Lib.hid hla; have HLB := Lib.hid hlb; have HZZ := Lib.hid hz
      clear hwo hfo hto hgo hla hlb HK hz
      obtain ⟨b3, b4⟩ := hkb
      have hix : k.toNat < 41 := by omega
      have hz0 : ¬ z = 0 := by omega
      have c0s := Row.cell Rs 0
      have c1s := Row.cell Rs 1
      have c2s := Row.cell Rs 2
      have c3s := Row.cell Rs 3
      have lts := Row.lt Rs
      have c0T := Row.cell RT 0
      have c1T := Row.cell RT 1
      have c2T := Row.cell RT 2
      have c3T := Row.cell RT 3
      have ltT := Row.lt RT
      go_wp2_with fail
      clear c0s c1s c2s c3s lts c0T c1T c2T c3T ltT
      have q1s : q3.drew.cell? ⟨bs, 1, none⟩ = some (.int .i64 k) := Row.cell Rs 1
      refine wp_region_noPanic ?_
      refine wp_region_held_drew (S := (fun w' => w'.cell? ⟨bs, 1, none⟩ = some (.int .i64 k) ∧ Below q3.heap.size q3 w')) (by kernel_rfl) (⟨q1s, below_drew (Below.refl _ _)⟩) (fun hHeld => ?_)
      refine wpAnyH_take (i := 1) (v := ?va1x19) rfl (by kernel_rfl) (by kernel_rfl) (by kernel_rfl) (fun _ _ _ h => h) (Or.inl ⟨by rfl, ?hy1x19⟩) (by assumption) ?rest1x19
      case hy1x19 => (intro w hSw; (try dsimp only at hSw); go_simp; try with_reducible rfl)
      (try simp only [Act.put, List.getElem_toArray, List.getElem_cons_zero, List.getElem_cons_succ, List.setIfInBounds_toArray, List.set_cons_zero, List.set_cons_succ])
      refine wpAnyH_take (i := 2) (v := ?va2x20) rfl (by kernel_rfl) (by kernel_rfl) (by kernel_rfl) (fun _ _ _ h => h) (Or.inl ⟨by rfl, ?hy2x20⟩) (by assumption) ?rest2x20
      case hy2x20 => (intro w hSw; (try dsimp only at hSw); go_simp; try with_reducible rfl)
      (try simp only [Act.put, List.getElem_toArray, List.getElem_cons_zero, List.getElem_cons_succ, List.setIfInBounds_toArray, List.set_cons_zero, List.set_cons_succ])
      refine wpAnyH_ready (rs := [0]) (by kernel_rfl) (by simp) ?_
      refine AllReadyH.cons rfl (fun K hK => ?_) AllReadyH.nil
      go_simp
      refine (c_implClassesOf _ ((HT.out.below (below_drew L)).1)).mono ?_
      rintro e wc ⟨vv, rfl, hown, hbk⟩
      obtain ⟨gc, capc, rfl, hcc⟩ := row_shape hown
      have qz : wc.cell? ⟨gc, k.toNat, none⟩ = some (.int .i64 z) := by rw [hcc k.toNat hix, ← HZZ.out]; rfl
      clear hown hcc
      obtain ⟨k0, kbb⟩ := hHeld
      refine hK.out _ _ (⟨cellBelow hbk k0, bst kbb hbk kbb.size⟩) (fun hHeld => ?_)
      clear hK K
      (try simp only [Act.put, List.getElem_toArray, List.getElem_cons_zero, List.setIfInBounds_toArray, List.set_cons_zero, List.set_cons_succ])
      refine wpAnyH_take (i := 3) (v := ?va3x21) rfl (by kernel_rfl) (by kernel_rfl) (by kernel_rfl) (fun _ _ _ h => h) (Or.inl ⟨by rfl, ?hy3x21⟩) (by assumption) ?rest3x21
      case hy3x21 => (intro w hSw; (try dsimp only at hSw); go_simp; try with_reducible rfl)
      (try simp only [Act.put, List.getElem_toArray, List.getElem_cons_zero, List.getElem_cons_succ, List.setIfInBounds_toArray, List.set_cons_zero, List.set_cons_succ])
      refine wpAnyH_ready (rs := [4]) (by kernel_rfl) (by simp) ?_
      refine AllReadyH.cons rfl (fun K hK => ?_) AllReadyH.nil
      go_simp
      refine hK.out _ _ (hHeld) (fun hHeld => ?_)
      clear hK K
      (try simp only [Act.put, List.getElem_toArray, List.getElem_cons_zero, List.getElem_cons_succ, List.setIfInBounds_toArray, List.set_cons_zero, List.set_cons_succ])
      refine wpAnyH_take (i := 5) (v := ?va5x22) rfl (by kernel_rfl) (by kernel_rfl) (by kernel_rfl) (fun _ _ _ h => h) (Or.inl ⟨by rfl, ?hy5x22⟩) (by assumption) ?rest5x22
      case hy5x22 => (intro w hSw; (try dsimp only at hSw); go_simp; try with_reducible rfl)
      (try simp only [Act.put, List.getElem_toArray, List.getElem_cons_zero, List.getElem_cons_succ, List.setIfInBounds_toArray, List.set_cons_zero, List.set_cons_succ])
      refine wpAnyH_done (by kernel_rfl) ?_ _
      refine NoPanic.normal ?_
      obtain ⟨_, hb⟩ := hHeld
      clear q1s kbb k0 hbk
      replace Rs := Row.below Rs hb
      replace RT := Row.below RT hb
      replace Os := Own.below Os hb
      replace OT := Own.below OT hb
      have hs3 := hb.size
      try simp only [World.size_alloc] at hs3
      replace L := bst L hb L.size
      clear hb
      try clear qz
      have c0s := Row.cell Rs 0
      have c1s := Row.cell Rs 1
      have c2s := Row.cell Rs 2
      have c3s := Row.cell Rs 3
      have lts := Row.lt Rs
      have c0T := Row.cell RT 0
      have c1T := Row.cell RT 1
      have c2T := Row.cell RT 2
      have c3T := Row.cell RT 3
      have ltT := Row.lt RT
      go_wp2_with fail
      clear c0s c1s c2s c3s lts c0T c1T c2T c3T ltT
      refine Ans.go (HWO.out _ (.slice gT nr cT) OT.ints (HT.out.below L).1) fun w6 hb => ?_
      replace Rs := Row.below Rs hb
      replace RT := Row.below RT hb
      replace Os := Own.below Os hb
      replace OT := Own.below OT hb
      have hs4 := hb.size
      try simp only [World.size_alloc] at hs4
      replace L := bst L hb L.size
      clear hb
      clear HWO
      have c0s := Row.cell Rs 0
      have c1s := Row.cell Rs 1
      have c2s := Row.cell Rs 2
      have c3s := Row.cell Rs 3
      have lts := Row.lt Rs
      have c0T := Row.cell RT 0
      have c1T := Row.cell RT 1
      have c2T := Row.cell RT 2
      have c3T := Row.cell RT 3
      have ltT := Row.lt RT
      go_wp2_with fail
      clear c0s c1s c2s c3s lts c0T c1T c2T c3T ltT
      refine (HFO.out _ (.slice gT nr cT) OT.ints (HT.out.below L).1).mono ?_
      rintro e w7 ⟨vB, rfl, ho, hb⟩
      have hU := World.ownsRow.lt ho
      try simp only [World.size_alloc] at hU
      have UB := Lib.hid hU
      clear hU
      obtain ⟨gB, cB, hvs, _⟩ := ho.shape
      rw [HNs.out] at hvs
      subst hvs
      replace Rs := Row.below Rs hb
      replace RT := Row.below RT hb
      replace Os := Own.below Os hb
      replace OT := Own.below OT hb
      have hs5 := hb.size
      try simp only [World.size_alloc] at hs5
      replace L := bst L hb L.size
      clear hb
      have OB := ho
      clear ho
      have c0s := Row.cell Rs 0
      have c1s := Row.cell Rs 1
      have c2s := Row.cell Rs 2
      have c3s := Row.cell Rs 3
      have lts := Row.lt Rs
      have c0T := Row.cell RT 0
      have c1T := Row.cell RT 1
      have c2T := Row.cell RT 2
      have c3T := Row.cell RT 3
      have ltT := Row.lt RT
      go_wp2_with fail
      clear c0s c1s c2s c3s lts c0T c1T c2T c3T ltT
      replace Rs := Row.alloc Rs (.cells (c4 f k l (.slice gB ns cB)) 27)
      replace RT := Row.alloc RT (.cells (c4 f k l (.slice gB ns cB)) 27)
      have RB := Row.new w7 27 (c4 f k l (.slice gB ns cB))
      replace Os := Own.below Os ((Below.refl _ _).alloc (Nat.le_refl _) (.cells (c4 f k l (.slice gB ns cB)) 27))
      replace OT := Own.below OT ((Below.refl _ _).alloc (Nat.le_refl _) (.cells (c4 f k l (.slice gB ns cB)) 27))
      replace OB := Own.below OB ((Below.refl _ _).alloc (Nat.le_refl _) (.cells (c4 f k l (.slice gB ns cB)) 27))
      replace L := Below.alloc L L.size (.cells (c4 f k l (.slice gB ns cB)) 27)
      refine (c_numberOf _ z1 _ (HZ2.out.below L)).mono ?_
      rintro e w8 ⟨nb0, hnb0, rfl, rfl⟩
      obtain ⟨kk, hkk⟩ : ∃ kk, kk = nb0 % z := ⟨_, rfl⟩
      have hk0 : 0 ≤ kk := by rw [hkk]; exact Int.emod_nonneg _ hz0
      have hk1 : kk < z := by rw [hkk]; exact Int.emod_lt_of_pos _ (by omega)
      have m1 : nb0 % z = kk := hkk.symm
      have m2 : Int.tmod nb0 z = kk := by rw [hkk]; exact Int.tmod_eq_emod_of_nonneg hnb0.1
      have m3 : IntKind.i64.wrap kk = kk := IntWalk.i64_in _ (by omega)
      have m4 : IntKind.i64.wrap (wd + kk) = wd + kk := IntWalk.i64_in _ (by omega)
      have m5 : IntKind.i64.wrap (wd + z) = wd + z := IntWalk.i64_in _ (by omega)
      have m6 : IntKind.i64.wrap (pp + 1) = pp + 1 := IntWalk.i64_in _ (by omega)
      clear hkk
      obtain ⟨ht1, ht2⟩ := HTO.out kk hk0 hk1
      have HT1 := Lib.hid ht1; have HT2 := Lib.hid ht2; clear ht1 ht2 HTO
      generalize hw7a : w7.alloc (.cells (c4 f k l (.slice gB ns cB)) 27) = w7a at *
      clear hw7a
      generalize w7.heap.size = bB at *
      have c0s := Row.cell Rs 0
      have c1s := Row.cell Rs 1
      have c2s := Row.cell Rs 2
      have c3s := Row.cell Rs 3
      have lts := Row.lt Rs
      have c0T := Row.cell RT 0
      have c1T := Row.cell RT 1
      have c2T := Row.cell RT 2
      have c3T := Row.cell RT 3
      have ltT := Row.lt RT
      have c0B := Row.cell RB 0
      have c1B := Row.cell RB 1
      have c2B := Row.cell RB 2
      have c3B := Row.cell RB 3
      have ltB := Row.lt RB
      go_wp2_with fail
      clear c0s c1s c2s c3s lts c0T c1T c2T c3T ltT c0B c1B c2B c3B ltB
      refine Ans.go (HT1.out _ (.slice gT nr cT) OT.ints (HT.out.below L).1) fun w9 hb => ?_
      replace Rs := Row.below Rs hb
      replace RT := Row.below RT hb
      replace RB := Row.below RB hb
      replace Os := Own.below Os hb
      replace OT := Own.below OT hb
      replace OB := Own.below OB hb
      have hs6 := hb.size
      try simp only [World.size_alloc] at hs6
      replace L := bst L hb L.size
      clear hb
      have c0s := Row.cell Rs 0
      have c1s := Row.cell Rs 1
      have c2s := Row.cell Rs 2
      have c3s := Row.cell Rs 3
      have lts := Row.lt Rs
      have c0T := Row.cell RT 0
      have c1T := Row.cell RT 1
      have c2T := Row.cell RT 2
      have c3T := Row.cell RT 3
      have ltT := Row.lt RT
      have c0B := Row.cell RB 0
      have c1B := Row.cell RB 1
      have c2B := Row.cell RB 2
      have c3B := Row.cell RB 3
      have ltB := Row.lt RB
      go_wp2_with fail
      clear c0s c1s c2s c3s lts c0T c1T c2T c3T ltT c0B c1B c2B c3B ltB
      refine Ans.go (HT2.out _ (.slice gs ns cs) Os.ints (HT.out.below L).1) fun w10 hb => ?_
      replace Rs := Row.below Rs hb
      replace RT := Row.below RT hb
      replace RB := Row.below RB hb
      replace Os := Own.below Os hb
      replace OT := Own.below OT hb
      replace OB := Own.below OB hb
      have hs7 := hb.size
      try simp only [World.size_alloc] at hs7
      replace L := bst L hb L.size
      clear hb
      have c0s := Row.cell Rs 0
      have c1s := Row.cell Rs 1
      have c2s := Row.cell Rs 2
      have c3s := Row.cell Rs 3
      have lts := Row.lt Rs
      have c0T := Row.cell RT 0
      have c1T := Row.cell RT 1
      have c2T := Row.cell RT 2
      have c3T := Row.cell RT 3
      have ltT := Row.lt RT
      have c0B := Row.cell RB 0
      have c1B := Row.cell RB 1
      have c2B := Row.cell RB 2
      have c3B := Row.cell RB 3
      have ltB := Row.lt RB
      go_wp2_with fail
      clear c0s c1s c2s c3s lts c0T c1T c2T c3T ltT c0B c1B c2B c3B ltB
      refine Ans.go (HGO.out _ (.slice gT nr cT) OT.ints (HT.out.below L).1) fun w11 hb => ?_
      replace Rs := Row.below Rs hb
      replace RT := Row.below RT hb
      replace RB := Row.below RB hb
      replace Os := Own.below Os hb
      replace OT := Own.below OT hb
      replace OB := Own.below OB hb
      have hs8 := hb.size
      try simp only [World.size_alloc] at hs8
      replace L := bst L hb L.size
      clear hb
      have c0s := Row.cell Rs 0
      have c1s := Row.cell Rs 1
      have c2s := Row.cell Rs 2
      have c3s := Row.cell Rs 3
      have lts := Row.lt Rs
      have c0T := Row.cell RT 0
      have c1T := Row.cell RT 1
      have c2T := Row.cell RT 2
      have c3T := Row.cell RT 3
      have ltT := Row.lt RT
      have c0B := Row.cell RB 0
      have c1B := Row.cell RB 1
      have c2B := Row.cell RB 2
      have c3B := Row.cell RB 3
      have ltB := Row.lt RB
      go_wp2_with fail
      clear c0s c1s c2s c3s lts c0T c1T c2T c3T ltT c0B c1B c2B c3B ltB
      refine Ans.go (c_sameSpan f k l (.slice gB ns cB) (.slice gs ns cs) zs _ OB.ints Os.ints (by have := HZL.out _ rfl; omega)) fun w12 hb => ?_
      replace Rs := Row.below Rs hb
      replace RT := Row.below RT hb
      replace RB := Row.below RB hb
      replace Os := Own.below Os hb
      replace OT := Own.below OT hb
      replace OB := Own.below OB hb
      have hs9 := hb.size
      try simp only [World.size_alloc] at hs9
      replace L := bst L hb L.size
      clear hb
      have c0s := Row.cell Rs 0
      have c1s := Row.cell Rs 1
      have c2s := Row.cell Rs 2
      have c3s := Row.cell Rs 3
      have lts := Row.lt Rs
      have c0T := Row.cell RT 0
      have c1T := Row.cell RT 1
      have c2T := Row.cell RT 2
      have c3T := Row.cell RT 3
      have ltT := Row.lt RT
      have c0B := Row.cell RB 0
      have c1B := Row.cell RB 1
      have c2B := Row.cell RB 2
      have c3B := Row.cell RB 3
      have ltB := Row.lt RB
      go_wp2_with fail
      clear c0s c1s c2s c3s lts c0T c1T c2T c3T ltT c0B c1B c2B c3B ltB
      refine Ans.go (HLA.out _ (.slice gT nr cT) OT.ints (HT.out.below L).1) fun w13 hb => ?_
      replace Rs := Row.below Rs hb
      replace RT := Row.below RT hb
      replace RB := Row.below RB hb
      replace Os := Own.below Os hb
      replace OT := Own.below OT hb
      replace OB := Own.below OB hb
      have hs10 := hb.size
      try simp only [World.size_alloc] at hs10
      replace L := bst L hb L.size
      clear hb
      clear m1 m2 m3 m4 m5 HT1 HT2 HGO HLA HFO
      cases five with
      | false =>
        clear Rs Os Us
        clear RT OT UT
        clear RB OB UB
        try clear HI HS HGI HGS HRL HZL
        go_wp2_with fail
        refine (c_DrawThingAt _ z1 _ (HZ2.out.below L)).mono ?_
        rintro e w21 ⟨f2, k2, l2, vu, zs2, x2, hSB2, hx2, rfl, ho, hb⟩
        obtain ⟨gu, cu, hvs, _⟩ := ho.shape
        subst hvs
        obtain ⟨y2, ok2, hti, hts⟩ := thing_facts f2 k2 l2 zs2 x2 (by omega)
        have HTI := Lib.hid hti; have HTS := Lib.hid hts; clear hti hts hSB2
        generalize hnu : zs2.length = nu at *
        have HNu := Lib.hid hnu; clear hnu
        have hU := World.ownsRow.lt ho
        try simp only [World.size_alloc] at hU
        have Uu := Lib.hid hU
        clear hU
        have hs11 := hb.size
        try simp only [World.size_alloc] at hs11
        replace L := bst L hb L.size
        clear hb
        have Ou := ho
        clear ho
        go_wp2_with fail
        have Ru := Row.new w21 27 (c4 f2 k2 l2 (.slice gu nu cu))
        replace Ou := Own.below Ou ((Below.refl _ _).alloc (Nat.le_refl _) (.cells (c4 f2 k2 l2 (.slice gu nu cu)) 27))
        replace L := Below.alloc L L.size (.cells (c4 f2 k2 l2 (.slice gu nu cu)) 27)
        refine Ans.go (HTI.out _ (.slice gu nu cu) Ou.ints (HT.out.below L).1) fun w22 hb => ?_
        replace Ru := Row.below Ru hb
        replace Ou := Own.below Ou hb
        have hs12 := hb.size
        try simp only [World.size_alloc] at hs12
        replace L := bst L hb L.size
        clear hb
        have c0u := Row.cell Ru 0
        have c1u := Row.cell Ru 1
        have c2u := Row.cell Ru 2
        have c3u := Row.cell Ru 3
        have ltu := Row.lt Ru
        go_wp2_with fail
        clear c0u c1u c2u c3u ltu
        refine Ans.go (HTS.out _ (.slice gu nu cu) Ou.ints) fun w23 hb => ?_
        replace Ru := Row.below Ru hb
        replace Ou := Own.below Ou hb
        have hs13 := hb.size
        try simp only [World.size_alloc] at hs13
        replace L := bst L hb L.size
        clear hb
        clear Ru Ou Uu
        go_wp2_with fail
        refine (c_DrawFreeSlot _ z1 _ (HZ2.out.below L)).mono ?_
        rintro e w24 ⟨f3, k3, l3, vx, zs3, x3, hSB3, hx3, rfl, ho, hb⟩
        obtain ⟨gx, cx, hvs, _⟩ := ho.shape
        subst hvs
        obtain ⟨fa, ka, la, ra, ok3, hra, hfi, hfs⟩ := free4_facts f3 k3 l3 zs3 x3
        obtain ⟨y3, ok4, hwi, hws⟩ := word_facts f3 k3 l3 zs3 x3
        have HFI := Lib.hid hfi; have HFS := Lib.hid hfs; have HWI := Lib.hid hwi; have HWS := Lib.hid hws; have HRA : Hid (∀ X, X = ra → X.length ≤ 1000) := fun X hX => by rw [hX]; exact hra
        obtain ⟨na, hna⟩ : ∃ n, n = ra.length := ⟨_, rfl⟩
        have HNA : Hid (ra.length = na) := hna.symm
        clear hfi hfs hwi hws hSB3 hra hna
        generalize hnx : zs3.length = nx at *
        have HNx := Lib.hid hnx; clear hnx
        have hU := World.ownsRow.lt ho
        try simp only [World.size_alloc] at hU
        have Ux := Lib.hid hU
        clear hU
        have hs14 := hb.size
        try simp only [World.size_alloc] at hs14
        replace L := bst L hb L.size
        clear hb
        have Ox := ho
        clear ho
        go_wp2_with fail
        have Rx := Row.new w24 27 (c4 f3 k3 l3 (.slice gx nx cx))
        replace Ox := Own.below Ox ((Below.refl _ _).alloc (Nat.le_refl _) (.cells (c4 f3 k3 l3 (.slice gx nx cx)) 27))
        replace L := Below.alloc L L.size (.cells (c4 f3 k3 l3 (.slice gx nx cx)) 27)
        refine (HFI.out _ (.slice gx nx cx) Ox.ints (HT.out.below L).1).mono ?_
        rintro e w25 ⟨vF, rfl, ho, hb⟩
        have hU := World.ownsRow.lt ho
        try simp only [World.size_alloc] at hU
        have UF := Lib.hid hU
        clear hU
        obtain ⟨gF, cF, hvs, _⟩ := ho.shape
        rw [HNA.out] at hvs
        subst hvs
        replace Rx := Row.below Rx hb
        replace Ox := Own.below Ox hb
        have hs15 := hb.size
        try simp only [World.size_alloc] at hs15
        replace L := bst L hb L.size
        clear hb
        have OF := ho
        clear ho
        have c0x := Row.cell Rx 0
        have c1x := Row.cell Rx 1
        have c2x := Row.cell Rx 2
        have c3x := Row.cell Rx 3
        have ltx := Row.lt Rx
        go_wp2_with fail
        clear c0x c1x c2x c3x ltx
        replace Rx := Row.alloc Rx (.cells (c4 fa ka la (.slice gF na cF)) 27)
        have RF := Row.new w25 27 (c4 fa ka la (.slice gF na cF))
        replace Ox := Own.below Ox ((Below.refl _ _).alloc (Nat.le_refl _) (.cells (c4 fa ka la (.slice gF na cF)) 27))
        replace OF := Own.below OF ((Below.refl _ _).alloc (Nat.le_refl _) (.cells (c4 fa ka la (.slice gF na cF)) 27))
        replace L := Below.alloc L L.size (.cells (c4 fa ka la (.slice gF na cF)) 27)
        refine (HFS.out _ (.slice gx nx cx) Ox.ints).mono ?_
        rintro e w26 ⟨vE, rfl, ho, hb⟩
        have hU := World.ownsRow.lt ho
        try simp only [World.size_alloc] at hU
        have UE := Lib.hid hU
        clear hU
        obtain ⟨gE, cE, hvs, _⟩ := ho.shape
        rw [HNA.out] at hvs
        subst hvs
        replace Rx := Row.below Rx hb
        replace RF := Row.below RF hb
        replace Ox := Own.below Ox hb
        replace OF := Own.below OF hb
        have hs16 := hb.size
        try simp only [World.size_alloc] at hs16
        replace L := bst L hb L.size
        clear hb
        have OE := ho
        clear ho
        have c0x := Row.cell Rx 0
        have c1x := Row.cell Rx 1
        have c2x := Row.cell Rx 2
        have c3x := Row.cell Rx 3
        have ltx := Row.lt Rx
        have c0F := Row.cell RF 0
        have c1F := Row.cell RF 1
        have c2F := Row.cell RF 2
        have c3F := Row.cell RF 3
        have ltF := Row.lt RF
        go_wp2_with fail
        clear c0x c1x c2x c3x ltx c0F c1F c2F c3F ltF
        replace Rx := Row.alloc Rx (.cells (c4 fa ka la (.slice gE na cE)) 27)
        replace RF := Row.alloc RF (.cells (c4 fa ka la (.slice gE na cE)) 27)
        have RE := Row.new w26 27 (c4 fa ka la (.slice gE na cE))
        replace Ox := Own.below Ox ((Below.refl _ _).alloc (Nat.le_refl _) (.cells (c4 fa ka la (.slice gE na cE)) 27))
        replace OF := Own.below OF ((Below.refl _ _).alloc (Nat.le_refl _) (.cells (c4 fa ka la (.slice gE na cE)) 27))
        replace OE := Own.below OE ((Below.refl _ _).alloc (Nat.le_refl _) (.cells (c4 fa ka la (.slice gE na cE)) 27))
        replace L := Below.alloc L L.size (.cells (c4 fa ka la (.slice gE na cE)) 27)
        refine Ans.go (HWI.out _ (.slice gx nx cx) Ox.ints (HT.out.below L).1) fun w27 hb => ?_
        replace Rx := Row.below Rx hb
        replace RF := Row.below RF hb
        replace RE := Row.below RE hb
        replace Ox := Own.below Ox hb
        replace OF := Own.below OF hb
        replace OE := Own.below OE hb
        have hs17 := hb.size
        try simp only [World.size_alloc] at hs17
        replace L := bst L hb L.size
        clear hb
        have c0x := Row.cell Rx 0
        have c1x := Row.cell Rx 1
        have c2x := Row.cell Rx 2
        have c3x := Row.cell Rx 3
        have ltx := Row.lt Rx
        have c0F := Row.cell RF 0
        have c1F := Row.cell RF 1
        have c2F := Row.cell RF 2
        have c3F := Row.cell RF 3
        have ltF := Row.lt RF
        have c0E := Row.cell RE 0
        have c1E := Row.cell RE 1
        have c2E := Row.cell RE 2
        have c3E := Row.cell RE 3
        have ltE := Row.lt RE
        go_wp2_with fail
        clear c0x c1x c2x c3x ltx c0F c1F c2F c3F ltF c0E c1E c2E c3E ltE
        refine Ans.go (HWS.out _ (.slice gx nx cx) Ox.ints) fun w28 hb => ?_
        replace Rx := Row.below Rx hb
        replace RF := Row.below RF hb
        replace RE := Row.below RE hb
        replace Ox := Own.below Ox hb
        replace OF := Own.below OF hb
        replace OE := Own.below OE hb
        have hs18 := hb.size
        try simp only [World.size_alloc] at hs18
        replace L := bst L hb L.size
        clear hb
        clear Rx Ox Ux
        have c0F := Row.cell RF 0
        have c1F := Row.cell RF 1
        have c2F := Row.cell RF 2
        have c3F := Row.cell RF 3
        have ltF := Row.lt RF
        have c0E := Row.cell RE 0
        have c1E := Row.cell RE 1
        have c2E := Row.cell RE 2
        have c3E := Row.cell RE 3
        have ltE := Row.lt RE
        go_wp2_with fail
        clear c0F c1F c2F c3F ltF c0E c1E c2E c3E ltE
        refine (c_DrawNewSpan _ z1 _ (HZ2.out.below L)).mono ?_
        rintro e w29 ⟨x4, y4, rfl, hb⟩
        replace RF := Row.below RF hb
        replace RE := Row.below RE hb
        replace OF := Own.below OF hb
        replace OE := Own.below OE hb
        have hs19 := hb.size
        try simp only [World.size_alloc] at hs19
        replace L := bst L hb L.size
        clear hb
        obtain ⟨fb, kb, lb, rb, ok5, hrb, hni, hns⟩ := new4_facts x4 y4
        have HNI := Lib.hid hni; have HNS2 := Lib.hid hns; have HRB : Hid (∀ X, X = rb → X.length ≤ 1000) := fun X hX => by rw [hX]; exact hrb
        obtain ⟨nb, hnb⟩ : ∃ n, n = rb.length := ⟨_, rfl⟩
        have HNB : Hid (rb.length = nb) := hnb.symm
        clear hni hns hrb hnb
        have c0F := Row.cell RF 0
        have c1F := Row.cell RF 1
        have c2F := Row.cell RF 2
        have c3F := Row.cell RF 3
        have ltF := Row.lt RF
        have c0E := Row.cell RE 0
        have c1E := Row.cell RE 1
        have c2E := Row.cell RE 2
        have c3E := Row.cell RE 3
        have ltE := Row.lt RE
        go_wp2_with fail
        clear c0F c1F c2F c3F ltF c0E c1E c2E c3E ltE
        refine (HNI.out _ (HT.out.below L).1).mono ?_
        rintro e w30 ⟨vM, rfl, ho, hb⟩
        have hU := World.ownsRow.lt ho
        try simp only [World.size_alloc] at hU
        have UM := Lib.hid hU
        clear hU
        obtain ⟨gM, cM, hvs, _⟩ := ho.shape
        rw [HNB.out] at hvs
        subst hvs
        replace RF := Row.below RF hb
        replace RE := Row.below RE hb
        replace OF := Own.below OF hb
        replace OE := Own.below OE hb
        have hs20 := hb.size
        try simp only [World.size_alloc] at hs20
        replace L := bst L hb L.size
        clear hb
        have OM := ho
        clear ho
        have c0F := Row.cell RF 0
        have c1F := Row.cell RF 1
        have c2F := Row.cell RF 2
        have c3F := Row.cell RF 3
        have ltF := Row.lt RF
        have c0E := Row.cell RE 0
        have c1E := Row.cell RE 1
        have c2E := Row.cell RE 2
        have c3E := Row.cell RE 3
        have ltE := Row.lt RE
        go_wp2_with fail
        clear c0F c1F c2F c3F ltF c0E c1E c2E c3E ltE
        replace RF := Row.alloc RF (.cells (c4 fb kb lb (.slice gM nb cM)) 27)
        replace RE := Row.alloc RE (.cells (c4 fb kb lb (.slice gM nb cM)) 27)
        have RM := Row.new w30 27 (c4 fb kb lb (.slice gM nb cM))
        replace OF := Own.below OF ((Below.refl _ _).alloc (Nat.le_refl _) (.cells (c4 fb kb lb (.slice gM nb cM)) 27))
        replace OE := Own.below OE ((Below.refl _ _).alloc (Nat.le_refl _) (.cells (c4 fb kb lb (.slice gM nb cM)) 27))
        replace OM := Own.below OM ((Below.refl _ _).alloc (Nat.le_refl _) (.cells (c4 fb kb lb (.slice gM nb cM)) 27))
        replace L := Below.alloc L L.size (.cells (c4 fb kb lb (.slice gM nb cM)) 27)
        refine (HNS2.out _).mono ?_
        rintro e w31 ⟨vD, rfl, ho, hb⟩
        have hU := World.ownsRow.lt ho
        try simp only [World.size_alloc] at hU
        have UD := Lib.hid hU
        clear hU
        obtain ⟨gD, cD, hvs, _⟩ := ho.shape
        rw [HNB.out] at hvs
        subst hvs
        replace RF := Row.below RF hb
        replace RE := Row.below RE hb
        replace RM := Row.below RM hb
        replace OF := Own.below OF hb
        replace OE := Own.below OE hb
        replace OM := Own.below OM hb
        have hs21 := hb.size
        try simp only [World.size_alloc] at hs21
        replace L := bst L hb L.size
        clear hb
        have OD := ho
        clear ho
        have j2 : (ok2 == ok2) = true := by simp
        have j3 : (y2 == y2) = true := by simp
        have j4 : (ok3 == ok3) = true := by simp
        have j5 : (ok4 == ok4) = true := by simp
        have j6 : (y3 == y3) = true := by simp
        have j7 : (ok5 == ok5) = true := by simp
        have c0F := Row.cell RF 0
        have c1F := Row.cell RF 1
        have c2F := Row.cell RF 2
        have c3F := Row.cell RF 3
        have ltF := Row.lt RF
        have c0E := Row.cell RE 0
        have c1E := Row.cell RE 1
        have c2E := Row.cell RE 2
        have c3E := Row.cell RE 3
        have ltE := Row.lt RE
        have c0M := Row.cell RM 0
        have c1M := Row.cell RM 1
        have c2M := Row.cell RM 2
        have c3M := Row.cell RM 3
        have ltM := Row.lt RM
        go_wp2_with fail
        clear c0F c1F c2F c3F ltF c0E c1E c2E c3E ltE c0M c1M c2M c3M ltM
        replace RF := Row.alloc RF (.cells (c4 fb kb lb (.slice gD nb cD)) 27)
        replace RE := Row.alloc RE (.cells (c4 fb kb lb (.slice gD nb cD)) 27)
        replace RM := Row.alloc RM (.cells (c4 fb kb lb (.slice gD nb cD)) 27)
        have RD := Row.new w31 27 (c4 fb kb lb (.slice gD nb cD))
        replace OF := Own.below OF ((Below.refl _ _).alloc (Nat.le_refl _) (.cells (c4 fb kb lb (.slice gD nb cD)) 27))
        replace OE := Own.below OE ((Below.refl _ _).alloc (Nat.le_refl _) (.cells (c4 fb kb lb (.slice gD nb cD)) 27))
        replace OM := Own.below OM ((Below.refl _ _).alloc (Nat.le_refl _) (.cells (c4 fb kb lb (.slice gD nb cD)) 27))
        replace OD := Own.below OD ((Below.refl _ _).alloc (Nat.le_refl _) (.cells (c4 fb kb lb (.slice gD nb cD)) 27))
        replace L := Below.alloc L L.size (.cells (c4 fb kb lb (.slice gD nb cD)) 27)
        refine Ans.go (c_sameSpan fa ka la (.slice gF na cF) (.slice gE na cE) ra _ OF.ints OE.ints (by have := HRA.out _ rfl; omega)) fun w32 hb => ?_
        replace RF := Row.below RF hb
        replace RE := Row.below RE hb
        replace RM := Row.below RM hb
        replace RD := Row.below RD hb
        replace OF := Own.below OF hb
        replace OE := Own.below OE hb
        replace OM := Own.below OM hb
        replace OD := Own.below OD hb
        have hs22 := hb.size
        try simp only [World.size_alloc] at hs22
        replace L := bst L hb L.size
        clear hb
        have c0F := Row.cell RF 0
        have c1F := Row.cell RF 1
        have c2F := Row.cell RF 2
        have c3F := Row.cell RF 3
        have ltF := Row.lt RF
        have c0E := Row.cell RE 0
        have c1E := Row.cell RE 1
        have c2E := Row.cell RE 2
        have c3E := Row.cell RE 3
        have ltE := Row.lt RE
        have c0M := Row.cell RM 0
        have c1M := Row.cell RM 1
        have c2M := Row.cell RM 2
        have c3M := Row.cell RM 3
        have ltM := Row.lt RM
        have c0D := Row.cell RD 0
        have c1D := Row.cell RD 1
        have c2D := Row.cell RD 2
        have c3D := Row.cell RD 3
        have ltD := Row.lt RD
        go_wp2_with fail
        clear c0F c1F c2F c3F ltF c0E c1E c2E c3E ltE c0M c1M c2M c3M ltM c0D c1D c2D c3D ltD
        refine Ans.go (c_sameSpan fb kb lb (.slice gM nb cM) (.slice gD nb cD) rb _ OM.ints OD.ints (by have := HRB.out _ rfl; omega)) fun w33 hb => ?_
        replace RF := Row.below RF hb
        replace RE := Row.below RE hb
        replace RM := Row.below RM hb
        replace RD := Row.below RD hb
        replace OF := Own.below OF hb
        replace OE := Own.below OE hb
        replace OM := Own.below OM hb
        replace OD := Own.below OD hb
        have hs23 := hb.size
        try simp only [World.size_alloc] at hs23
        replace L := bst L hb L.size
        clear hb
        have c0F := Row.cell RF 0
        have c1F := Row.cell RF 1
        have c2F := Row.cell RF 2
        have c3F := Row.cell RF 3
        have ltF := Row.lt RF
        have c0E := Row.cell RE 0
        have c1E := Row.cell RE 1
        have c2E := Row.cell RE 2
        have c3E := Row.cell RE 3
        have ltE := Row.lt RE
        have c0M := Row.cell RM 0
        have c1M := Row.cell RM 1
        have c2M := Row.cell RM 2
        have c3M := Row.cell RM 3
        have ltM := Row.lt RM
        have c0D := Row.cell RD 0
        have c1D := Row.cell RD 1
        have c2D := Row.cell RD 2
        have c3D := Row.cell RD 3
        have ltD := Row.lt RD
        go_wp2
        go_ret
        exact ⟨rfl, L⟩
      | true =>
        obtain rfl := HLB.out rfl
        have e7 : ((pp + 1) != (pp + 1)) = false := by simp
        clear Rs Os Us
        clear RT OT UT
        clear RB OB UB
        try clear HI HS HGI HGS HRL HZL
        go_wp2_with fail
        refine (c_DrawThingAt _ z1 _ (HZ2.out.below L)).mono ?_
        rintro e w21 ⟨f2, k2, l2, vu, zs2, x2, hSB2, hx2, rfl, ho, hb⟩
        obtain ⟨gu, cu, hvs, _⟩ := ho.shape
        subst hvs
        obtain ⟨y2, ok2, hti, hts⟩ := thing_facts f2 k2 l2 zs2 x2 (by omega)
        have HTI := Lib.hid hti; have HTS := Lib.hid hts; clear hti hts hSB2
        generalize hnu : zs2.length = nu at *
        have HNu := Lib.hid hnu; clear hnu
        have hU := World.ownsRow.lt ho
        try simp only [World.size_alloc] at hU
        have Uu := Lib.hid hU
        clear hU
        have hs11 := hb.size
        try simp only [World.size_alloc] at hs11
        replace L := bst L hb L.size
        clear hb
        have Ou := ho
        clear ho
        go_wp2_with fail
        have Ru := Row.new w21 27 (c4 f2 k2 l2 (.slice gu nu cu))
        replace Ou := Own.below Ou ((Below.refl _ _).alloc (Nat.le_refl _) (.cells (c4 f2 k2 l2 (.slice gu nu cu)) 27))
        replace L := Below.alloc L L.size (.cells (c4 f2 k2 l2 (.slice gu nu cu)) 27)
        refine Ans.go (HTI.out _ (.slice gu nu cu) Ou.ints (HT.out.below L).1) fun w22 hb => ?_
        replace Ru := Row.below Ru hb
        replace Ou := Own.below Ou hb
        have hs12 := hb.size
        try simp only [World.size_alloc] at hs12
        replace L := bst L hb L.size
        clear hb
        have c0u := Row.cell Ru 0
        have c1u := Row.cell Ru 1
        have c2u := Row.cell Ru 2
        have c3u := Row.cell Ru 3
        have ltu := Row.lt Ru
        go_wp2_with fail
        clear c0u c1u c2u c3u ltu
        refine Ans.go (HTS.out _ (.slice gu nu cu) Ou.ints) fun w23 hb => ?_
        replace Ru := Row.below Ru hb
        replace Ou := Own.below Ou hb
        have hs13 := hb.size
        try simp only [World.size_alloc] at hs13
        replace L := bst L hb L.size
        clear hb
        clear Ru Ou Uu
        go_wp2_with fail
        refine (c_DrawFreeSlot _ z1 _ (HZ2.out.below L)).mono ?_
        rintro e w24 ⟨f3, k3, l3, vx, zs3, x3, hSB3, hx3, rfl, ho, hb⟩
        obtain ⟨gx, cx, hvs, _⟩ := ho.shape
        subst hvs
        obtain ⟨fa, ka, la, ra, ok3, hra, hfi, hfs⟩ := free4_facts f3 k3 l3 zs3 x3
        obtain ⟨y3, ok4, hwi, hws⟩ := word_facts f3 k3 l3 zs3 x3
        have HFI := Lib.hid hfi; have HFS := Lib.hid hfs; have HWI := Lib.hid hwi; have HWS := Lib.hid hws; have HRA : Hid (∀ X, X = ra → X.length ≤ 1000) := fun X hX => by rw [hX]; exact hra
        obtain ⟨na, hna⟩ : ∃ n, n = ra.length := ⟨_, rfl⟩
        have HNA : Hid (ra.length = na) := hna.symm
        clear hfi hfs hwi hws hSB3 hra hna
        generalize hnx : zs3.length = nx at *
        have HNx := Lib.hid hnx; clear hnx
        have hU := World.ownsRow.lt ho
        try simp only [World.size_alloc] at hU
        have Ux := Lib.hid hU
        clear hU
        have hs14 := hb.size
        try simp only [World.size_alloc] at hs14
        replace L := bst L hb L.size
        clear hb
        have Ox := ho
        clear ho
        go_wp2_with fail
        have Rx := Row.new w24 27 (c4 f3 k3 l3 (.slice gx nx cx))
        replace Ox := Own.below Ox ((Below.refl _ _).alloc (Nat.le_refl _) (.cells (c4 f3 k3 l3 (.slice gx nx cx)) 27))
        replace L := Below.alloc L L.size (.cells (c4 f3 k3 l3 (.slice gx nx cx)) 27)
        refine (HFI.out _ (.slice gx nx cx) Ox.ints (HT.out.below L).1).mono ?_
        rintro e w25 ⟨vF, rfl, ho, hb⟩
        have hU := World.ownsRow.lt ho
        try simp only [World.size_alloc] at hU
        have UF := Lib.hid hU
        clear hU
        obtain ⟨gF, cF, hvs, _⟩ := ho.shape
        rw [HNA.out] at hvs
        subst hvs
        replace Rx := Row.below Rx hb
        replace Ox := Own.below Ox hb
        have hs15 := hb.size
        try simp only [World.size_alloc] at hs15
        replace L := bst L hb L.size
        clear hb
        have OF := ho
        clear ho
        have c0x := Row.cell Rx 0
        have c1x := Row.cell Rx 1
        have c2x := Row.cell Rx 2
        have c3x := Row.cell Rx 3
        have ltx := Row.lt Rx
        go_wp2_with fail
        clear c0x c1x c2x c3x ltx
        replace Rx := Row.alloc Rx (.cells (c4 fa ka la (.slice gF na cF)) 27)
        have RF := Row.new w25 27 (c4 fa ka la (.slice gF na cF))
        replace Ox := Own.below Ox ((Below.refl _ _).alloc (Nat.le_refl _) (.cells (c4 fa ka la (.slice gF na cF)) 27))
        replace OF := Own.below OF ((Below.refl _ _).alloc (Nat.le_refl _) (.cells (c4 fa ka la (.slice gF na cF)) 27))
        replace L := Below.alloc L L.size (.cells (c4 fa ka la (.slice gF na cF)) 27)
        refine (HFS.out _ (.slice gx nx cx) Ox.ints).mono ?_
        rintro e w26 ⟨vE, rfl, ho, hb⟩
        have hU := World.ownsRow.lt ho
        try simp only [World.size_alloc] at hU
        have UE := Lib.hid hU
        clear hU
        obtain ⟨gE, cE, hvs, _⟩ := ho.shape
        rw [HNA.out] at hvs
        subst hvs
        replace Rx := Row.below Rx hb
        replace RF := Row.below RF hb
        replace Ox := Own.below Ox hb
        replace OF := Own.below OF hb
        have hs16 := hb.size
        try simp only [World.size_alloc] at hs16
        replace L := bst L hb L.size
        clear hb
        have OE := ho
        clear ho
        have c0x := Row.cell Rx 0
        have c1x := Row.cell Rx 1
        have c2x := Row.cell Rx 2
        have c3x := Row.cell Rx 3
        have ltx := Row.lt Rx
        have c0F := Row.cell RF 0
        have c1F := Row.cell RF 1
        have c2F := Row.cell RF 2
        have c3F := Row.cell RF 3
        have ltF := Row.lt RF
        go_wp2_with fail
        clear c0x c1x c2x c3x ltx c0F c1F c2F c3F ltF
        replace Rx := Row.alloc Rx (.cells (c4 fa ka la (.slice gE na cE)) 27)
        replace RF := Row.alloc RF (.cells (c4 fa ka la (.slice gE na cE)) 27)
        have RE := Row.new w26 27 (c4 fa ka la (.slice gE na cE))
        replace Ox := Own.below Ox ((Below.refl _ _).alloc (Nat.le_refl _) (.cells (c4 fa ka la (.slice gE na cE)) 27))
        replace OF := Own.below OF ((Below.refl _ _).alloc (Nat.le_refl _) (.cells (c4 fa ka la (.slice gE na cE)) 27))
        replace OE := Own.below OE ((Below.refl _ _).alloc (Nat.le_refl _) (.cells (c4 fa ka la (.slice gE na cE)) 27))
        replace L := Below.alloc L L.size (.cells (c4 fa ka la (.slice gE na cE)) 27)
        refine Ans.go (HWI.out _ (.slice gx nx cx) Ox.ints (HT.out.below L).1) fun w27 hb => ?_
        replace Rx := Row.below Rx hb
        replace RF := Row.below RF hb
        replace RE := Row.below RE hb
        replace Ox := Own.below Ox hb
        replace OF := Own.below OF hb
        replace OE := Own.below OE hb
        have hs17 := hb.size
        try simp only [World.size_alloc] at hs17
        replace L := bst L hb L.size
        clear hb
        have c0x := Row.cell Rx 0
        have c1x := Row.cell Rx 1
        have c2x := Row.cell Rx 2
        have c3x := Row.cell Rx 3
        have ltx := Row.lt Rx
        have c0F := Row.cell RF 0
        have c1F := Row.cell RF 1
        have c2F := Row.cell RF 2
        have c3F := Row.cell RF 3
        have ltF := Row.lt RF
        have c0E := Row.cell RE 0
        have c1E := Row.cell RE 1
        have c2E := Row.cell RE 2
        have c3E := Row.cell RE 3
        have ltE := Row.lt RE
        go_wp2_with fail
        clear c0x c1x c2x c3x ltx c0F c1F c2F c3F ltF c0E c1E c2E c3E ltE
        refine Ans.go (HWS.out _ (.slice gx nx cx) Ox.ints) fun w28 hb => ?_
        replace Rx := Row.below Rx hb
        replace RF := Row.below RF hb
        replace RE := Row.below RE hb
        replace Ox := Own.below Ox hb
        replace OF := Own.below OF hb
        replace OE := Own.below OE hb
        have hs18 := hb.size
        try simp only [World.size_alloc] at hs18
        replace L := bst L hb L.size
        clear hb
        clear Rx Ox Ux
        have c0F := Row.cell RF 0
        have c1F := Row.cell RF 1
        have c2F := Row.cell RF 2
        have c3F := Row.cell RF 3
        have ltF := Row.lt RF
        have c0E := Row.cell RE 0
        have c1E := Row.cell RE 1
        have c2E := Row.cell RE 2
        have c3E := Row.cell RE 3
        have ltE := Row.lt RE
        go_wp2_with fail
        clear c0F c1F c2F c3F ltF c0E c1E c2E c3E ltE
        refine (c_DrawNewSpan _ z1 _ (HZ2.out.below L)).mono ?_
        rintro e w29 ⟨x4, y4, rfl, hb⟩
        replace RF := Row.below RF hb
        replace RE := Row.below RE hb
        replace OF := Own.below OF hb
        replace OE := Own.below OE hb
        have hs19 := hb.size
        try simp only [World.size_alloc] at hs19
        replace L := bst L hb L.size
        clear hb
        obtain ⟨fb, kb, lb, rb, ok5, hrb, hni, hns⟩ := new4_facts x4 y4
        have HNI := Lib.hid hni; have HNS2 := Lib.hid hns; have HRB : Hid (∀ X, X = rb → X.length ≤ 1000) := fun X hX => by rw [hX]; exact hrb
        obtain ⟨nb, hnb⟩ : ∃ n, n = rb.length := ⟨_, rfl⟩
        have HNB : Hid (rb.length = nb) := hnb.symm
        clear hni hns hrb hnb
        have c0F := Row.cell RF 0
        have c1F := Row.cell RF 1
        have c2F := Row.cell RF 2
        have c3F := Row.cell RF 3
        have ltF := Row.lt RF
        have c0E := Row.cell RE 0
        have c1E := Row.cell RE 1
        have c2E := Row.cell RE 2
        have c3E := Row.cell RE 3
        have ltE := Row.lt RE
        go_wp2_with fail
        clear c0F c1F c2F c3F ltF c0E c1E c2E c3E ltE
        refine (HNI.out _ (HT.out.below L).1).mono ?_
        rintro e w30 ⟨vM, rfl, ho, hb⟩
        have hU := World.ownsRow.lt ho
        try simp only [World.size_alloc] at hU
        have UM := Lib.hid hU
        clear hU
        obtain ⟨gM, cM, hvs, _⟩ := ho.shape
        rw [HNB.out] at hvs
        subst hvs
        replace RF := Row.below RF hb
        replace RE := Row.below RE hb
        replace OF := Own.below OF hb
        replace OE := Own.below OE hb
        have hs20 := hb.size
        try simp only [World.size_alloc] at hs20
        replace L := bst L hb L.size
        clear hb
        have OM := ho
        clear ho
        have c0F := Row.cell RF 0
        have c1F := Row.cell RF 1
        have c2F := Row.cell RF 2
        have c3F := Row.cell RF 3
        have ltF := Row.lt RF
        have c0E := Row.cell RE 0
        have c1E := Row.cell RE 1
        have c2E := Row.cell RE 2
        have c3E := Row.cell RE 3
        have ltE := Row.lt RE
        go_wp2_with fail
        clear c0F c1F c2F c3F ltF c0E c1E c2E c3E ltE
        replace RF := Row.alloc RF (.cells (c4 fb kb lb (.slice gM nb cM)) 27)
        replace RE := Row.alloc RE (.cells (c4 fb kb lb (.slice gM nb cM)) 27)
        have RM := Row.new w30 27 (c4 fb kb lb (.slice gM nb cM))
        replace OF := Own.below OF ((Below.refl _ _).alloc (Nat.le_refl _) (.cells (c4 fb kb lb (.slice gM nb cM)) 27))
        replace OE := Own.below OE ((Below.refl _ _).alloc (Nat.le_refl _) (.cells (c4 fb kb lb (.slice gM nb cM)) 27))
        replace OM := Own.below OM ((Below.refl _ _).alloc (Nat.le_refl _) (.cells (c4 fb kb lb (.slice gM nb cM)) 27))
        replace L := Below.alloc L L.size (.cells (c4 fb kb lb (.slice gM nb cM)) 27)
        refine (HNS2.out _).mono ?_
        rintro e w31 ⟨vD, rfl, ho, hb⟩
        have hU := World.ownsRow.lt ho
        try simp only [World.size_alloc] at hU
        have UD := Lib.hid hU
        clear hU
        obtain ⟨gD, cD, hvs, _⟩ := ho.shape
        rw [HNB.out] at hvs
        subst hvs
        replace RF := Row.below RF hb
        replace RE := Row.below RE hb
        replace RM := Row.below RM hb
        replace OF := Own.below OF hb
        replace OE := Own.below OE hb
        replace OM := Own.below OM hb
        have hs21 := hb.size
        try simp only [World.size_alloc] at hs21
        replace L := bst L hb L.size
        clear hb
        have OD := ho
        clear ho
        have j2 : (ok2 == ok2) = true := by simp
        have j3 : (y2 == y2) = true := by simp
        have j4 : (ok3 == ok3) = true := by simp
        have j5 : (ok4 == ok4) = true := by simp
        have j6 : (y3 == y3) = true := by simp
        have j7 : (ok5 == ok5) = true := by simp
        have c0F := Row.cell RF 0
        have c1F := Row.cell RF 1
        have c2F := Row.cell RF 2
        have c3F := Row.cell RF 3
        have ltF := Row.lt RF
        have c0E := Row.cell RE 0
        have c1E := Row.cell RE 1
        have c2E := Row.cell RE 2
        have c3E := Row.cell RE 3
        have ltE := Row.lt RE
        have c0M := Row.cell RM 0
        have c1M := Row.cell RM 1
        have c2M := Row.cell RM 2
        have c3M := Row.cell RM 3
        have ltM := Row.lt RM
        go_wp2_with fail
        clear c0F c1F c2F c3F ltF c0E c1E c2E c3E ltE c0M c1M c2M c3M ltM
        replace RF := Row.alloc RF (.cells (c4 fb kb lb (.slice gD nb cD)) 27)
        replace RE := Row.alloc RE (.cells (c4 fb kb lb (.slice gD nb cD)) 27)
        replace RM := Row.alloc RM (.cells (c4 fb kb lb (.slice gD nb cD)) 27)
        have RD := Row.new w31 27 (c4 fb kb lb (.slice gD nb cD))
        replace OF := Own.below OF ((Below.refl _ _).alloc (Nat.le_refl _) (.cells (c4 fb kb lb (.slice gD nb cD)) 27))
        replace OE := Own.below OE ((Below.refl _ _).alloc (Nat.le_refl _) (.cells (c4 fb kb lb (.slice gD nb cD)) 27))
        replace OM := Own.below OM ((Below.refl _ _).alloc (Nat.le_refl _) (.cells (c4 fb kb lb (.slice gD nb cD)) 27))
        replace OD := Own.below OD ((Below.refl _ _).alloc (Nat.le_refl _) (.cells (c4 fb kb lb (.slice gD nb cD)) 27))
        replace L := Below.alloc L L.size (.cells (c4 fb kb lb (.slice gD nb cD)) 27)
        refine Ans.go (c_sameSpan fa ka la (.slice gF na cF) (.slice gE na cE) ra _ OF.ints OE.ints (by have := HRA.out _ rfl; omega)) fun w32 hb => ?_
        replace RF := Row.below RF hb
        replace RE := Row.below RE hb
        replace RM := Row.below RM hb
        replace RD := Row.below RD hb
        replace OF := Own.below OF hb
        replace OE := Own.below OE hb
        replace OM := Own.below OM hb
        replace OD := Own.below OD hb
        have hs22 := hb.size
        try simp only [World.size_alloc] at hs22
        replace L := bst L hb L.size
        clear hb
        have c0F := Row.cell RF 0
        have c1F := Row.cell RF 1
        have c2F := Row.cell RF 2
        have c3F := Row.cell RF 3
        have ltF := Row.lt RF
        have c0E := Row.cell RE 0
        have c1E := Row.cell RE 1
        have c2E := Row.cell RE 2
        have c3E := Row.cell RE 3
        have ltE := Row.lt RE
        have c0M := Row.cell RM 0
        have c1M := Row.cell RM 1
        have c2M := Row.cell RM 2
        have c3M := Row.cell RM 3
        have ltM := Row.lt RM
        have c0D := Row.cell RD 0
        have c1D := Row.cell RD 1
        have c2D := Row.cell RD 2
        have c3D := Row.cell RD 3
        have ltD := Row.lt RD
        go_wp2_with fail
        clear c0F c1F c2F c3F ltF c0E c1E c2E c3E ltE c0M c1M c2M c3M ltM c0D c1D c2D c3D ltD
        refine Ans.go (c_sameSpan fb kb lb (.slice gM nb cM) (.slice gD nb cD) rb _ OM.ints OD.ints (by have := HRB.out _ rfl; omega)) fun w33 hb => ?_
        replace RF := Row.below RF hb
        replace RE := Row.below RE hb
        replace RM := Row.below RM hb
        replace RD := Row.below RD hb
        replace OF := Own.below OF hb
        replace OE := Own.below OE hb
        replace OM := Own.below OM hb
        replace OD := Own.below OD hb
        have hs23 := hb.size
        try simp only [World.size_alloc] at hs23
        replace L := bst L hb L.size
        clear hb
        have c0F := Row.cell RF 0
        have c1F := Row.cell RF 1
        have c2F := Row.cell RF 2
        have c3F := Row.cell RF 3
        have ltF := Row.lt RF
        have c0E := Row.cell RE 0
        have c1E := Row.cell RE 1
        have c2E := Row.cell RE 2
        have c3E := Row.cell RE 3
        have ltE := Row.lt RE
        have c0M := Row.cell RM 0
        have c1M := Row.cell RM 1
        have c2M := Row.cell RM 2
        have c3M := Row.cell RM 3
        have ltM := Row.lt RM
        have c0D := Row.cell RD 0
        have c1D := Row.cell RD 1
        have c2D := Row.cell RD 2
        have c3D := Row.cell RD 3
        have ltD := Row.lt RD
        go_wp2
        go_ret
        exact ⟨rfl, L⟩
end Go.Proofs.YtcelebblcjhpaaaDoor
