/- The walk of laws.FnSwept. -/
import Derived.Test.YtcelebblcjhpaaaDoorDs3
import Derived.Test.YtcelebblcjhpaaaDoorDh4
namespace Go.Proofs.YtcelebblcjhpaaaDoor
open Go.RowKit Pb

set_option maxHeartbeats 12800000 in
set_option maxRecDepth 100000 in
theorem walk_FnSwept (v0 : Value) (z0 : List Int) (v1 : Value) (z1 : List Int) (w : World) (hz0 : BytesAt w v0 z0) (hz1 : BytesAt w v1 z1) (hT : Tabs w) : Calls Tryd.prog 4 #[v0, v1] w fun e w' => e = .returned (.bool true) ∧ Below w.heap.size w w' := by
  obtain ⟨_, _, a, ca, hv, _⟩ := id hz0
  obtain ⟨_, _, a2, ca2, hv2, _⟩ := id hz1
  have HZ := Lib.hid hz0; clear hz0 hz1
  have HT := Lib.hid hT; clear hT
  subst hv
  subst hv2
  generalize hn : z0.length = n at *
  generalize hn2 : z1.length = n2 at *
  clear hn hn2
  by_cases hm : 1048576 < Go.RowKit.wrap64 ((n : Int) + (n2 : Int))
  · go_enter Tryd.func4, Tryd.ntmps4
    go_wp2
    go_ret
    exact ⟨rfl, Below.refl _ _⟩
  · have L := Below.refl w.heap.size w
    go_enter Tryd.func4, Tryd.ntmps4
    go_wp2_with fail
    refine (c_DrawSweepSpan _ z0 _ HZ.out).mono ?_
    rintro e w1 ⟨f, k, l, vs, zs, m, vm, ys, hSB, hy6, rfl, hos, hom, hb⟩
    obtain ⟨gs, cs, hvs, _⟩ := hos.shape
    subst hvs
    obtain ⟨gm, cm, hvm, _⟩ := hom.shape
    subst hvm
    obtain ⟨fr, cr, lr, rs, nn, ok, hrl, hI, hS, hK⟩ := sweep_facts f k l m zs ys
    have HI := Lib.hid hI; have HS := Lib.hid hS; have HK := Lib.hid hK; have HRL : Hid (∀ X, X = rs → X.length ≤ 1000) := fun X hX => by rw [hX]; exact hrl
    have HZ6 : Hid (∀ X, X = zs → X.length ≤ 6) := fun X hX => by rw [hX]; exact hSB.2.2
    clear hI hS hK hrl hSB
    generalize hns : zs.length = ns at *
    generalize hnm : ys.length = nm at *
    have HNS := Lib.hid hns; have HNM := Lib.hid hnm; clear hns hnm hy6
    obtain ⟨nr, hnr⟩ : ∃ n, n = rs.length := ⟨_, rfl⟩
    have HNR : Hid (rs.length = nr) := hnr.symm
    clear hnr
    have hs0 := hb.size
    try simp only [World.size_alloc] at hs0
    replace L := bst L hb L.size
    clear hb
    have Os := hos; have Om := hom; clear hos hom
    have hs90 : w1.heap.size < (w1.alloc (.cells (c4 f k l (.slice gs ns cs)) 27)).heap.size := by simp
    have Rs := Row.new w1 27 (c4 f k l (.slice gs ns cs))
    replace Os := Own.below Os ((Below.refl _ _).alloc (Nat.le_refl _) (.cells (c4 f k l (.slice gs ns cs)) 27))
    replace Om := Own.below Om ((Below.refl _ _).alloc (Nat.le_refl _) (.cells (c4 f k l (.slice gs ns cs)) 27))
    replace L := Below.alloc L L.size (.cells (c4 f k l (.slice gs ns cs)) 27)
    have e2 : (ok != ok) = false := by simp
    have e3 : (nn != nn) = false := by simp
    have c0s := Row.cell Rs 0
    have c1s := Row.cell Rs 1
    have c2s := Row.cell Rs 2
    have c3s := Row.cell Rs 3
    have lts := Row.lt Rs
    go_wp2_with fail
    clear c0s c1s c2s c3s lts
    replace Rs := Row.alloc Rs (.cells (cb m (.slice gm nm cm)) 25)
    have Rm := Row.new (w1.alloc (.cells (c4 f k l (.slice gs ns cs)) 27)) 25 (cb m (.slice gm nm cm))
    replace Os := Own.below Os ((Below.refl _ _).alloc (Nat.le_refl _) (.cells (cb m (.slice gm nm cm)) 25))
    replace Om := Own.below Om ((Below.refl _ _).alloc (Nat.le_refl _) (.cells (cb m (.slice gm nm cm)) 25))
    replace L := Below.alloc L L.size (.cells (cb m (.slice gm nm cm)) 25)
    refine (HI.out _ (.slice gs ns cs) (.slice gm nm cm) Os.ints Om.ints (HT.out.below L).1).mono ?_
    rintro e w2 ⟨vW, rfl, ho, hb⟩
    rw [World.size_alloc] at Rm
    have hU := World.ownsRow.lt ho
    try simp only [World.size_alloc] at hU
    have UW := Lib.hid hU
    clear hU
    obtain ⟨gW, cW, hvs, _⟩ := ho.shape
    rw [HNR.out] at hvs
    subst hvs
    replace Rs := Row.below Rs hb
    replace Rm := Row.below Rm hb
    replace Os := Own.below Os hb
    replace Om := Own.below Om hb
    have hs1 := hb.size
    try simp only [World.size_alloc] at hs1
    replace L := bst L hb L.size
    clear hb
    have OW := ho
    clear ho
    have c0s := Row.cell Rs 0
    have c1s := Row.cell Rs 1
    have c2s := Row.cell Rs 2
    have c3s := Row.cell Rs 3
    have lts := Row.lt Rs
    have c0m := Row.cell Rm 0
    have c1m := Row.cell Rm 1
    have ltm := Row.lt Rm
    go_wp2_with fail
    clear c0s c1s c2s c3s lts c0m c1m ltm
    replace Rs := Row.alloc Rs (.cells (c4 fr cr lr (.slice gW nr cW)) 27)
    replace Rm := Row.alloc Rm (.cells (c4 fr cr lr (.slice gW nr cW)) 27)
    have RW := Row.new w2 27 (c4 fr cr lr (.slice gW nr cW))
    replace Os := Own.below Os ((Below.refl _ _).alloc (Nat.le_refl _) (.cells (c4 fr cr lr (.slice gW nr cW)) 27))
    replace Om := Own.below Om ((Below.refl _ _).alloc (Nat.le_refl _) (.cells (c4 fr cr lr (.slice gW nr cW)) 27))
    replace OW := Own.below OW ((Below.refl _ _).alloc (Nat.le_refl _) (.cells (c4 fr cr lr (.slice gW nr cW)) 27))
    replace L := Below.alloc L L.size (.cells (c4 fr cr lr (.slice gW nr cW)) 27)
    refine (HS.out _ (.slice gs ns cs) (.slice gm nm cm) Os.ints Om.ints).mono ?_
    rintro e w3 ⟨vV, rfl, ho, hb⟩
    have hU := World.ownsRow.lt ho
    try simp only [World.size_alloc] at hU
    have UV := Lib.hid hU
    clear hU
    obtain ⟨gV, cV, hvs, _⟩ := ho.shape
    rw [HNR.out] at hvs
    subst hvs
    replace Rs := Row.below Rs hb
    replace Rm := Row.below Rm hb
    replace RW := Row.below RW hb
    replace Os := Own.below Os hb
    replace Om := Own.below Om hb
    replace OW := Own.below OW hb
    have hs2 := hb.size
    try simp only [World.size_alloc] at hs2
    replace L := bst L hb L.size
    clear hb
    have OV := ho
    clear ho
    have c0s := Row.cell Rs 0
    have c1s := Row.cell Rs 1
    have c2s := Row.cell Rs 2
    have c3s := Row.cell Rs 3
    have lts := Row.lt Rs
    have c0m := Row.cell Rm 0
    have c1m := Row.cell Rm 1
    have ltm := Row.lt Rm
    have c0W := Row.cell RW 0
    have c1W := Row.cell RW 1
    have c2W := Row.cell RW 2
    have c3W := Row.cell RW 3
    have ltW := Row.lt RW
    go_wp2_with fail
    clear c0s c1s c2s c3s lts c0m c1m ltm c0W c1W c2W c3W ltW
    replace Rs := Row.alloc Rs (.cells (c4 fr cr lr (.slice gV nr cV)) 27)
    replace Rm := Row.alloc Rm (.cells (c4 fr cr lr (.slice gV nr cV)) 27)
    replace RW := Row.alloc RW (.cells (c4 fr cr lr (.slice gV nr cV)) 27)
    have RV := Row.new w3 27 (c4 fr cr lr (.slice gV nr cV))
    replace Os := Own.below Os ((Below.refl _ _).alloc (Nat.le_refl _) (.cells (c4 fr cr lr (.slice gV nr cV)) 27))
    replace Om := Own.below Om ((Below.refl _ _).alloc (Nat.le_refl _) (.cells (c4 fr cr lr (.slice gV nr cV)) 27))
    replace OW := Own.below OW ((Below.refl _ _).alloc (Nat.le_refl _) (.cells (c4 fr cr lr (.slice gV nr cV)) 27))
    replace OV := Own.below OV ((Below.refl _ _).alloc (Nat.le_refl _) (.cells (c4 fr cr lr (.slice gV nr cV)) 27))
    replace L := Below.alloc L L.size (.cells (c4 fr cr lr (.slice gV nr cV)) 27)
    refine Ans.go (c_sameSpan fr cr lr (.slice gW nr cW) (.slice gV nr cV) rs _ OW.ints OV.ints (by have := HRL.out _ rfl; omega)) fun w4 hb => ?_
    replace Rs := Row.below Rs hb
    replace Rm := Row.below Rm hb
    replace RW := Row.below RW hb
    replace RV := Row.below RV hb
    replace Os := Own.below Os hb
    replace Om := Own.below Om hb
    replace OW := Own.below OW hb
    replace OV := Own.below OV hb
    have hs3 := hb.size
    try simp only [World.size_alloc] at hs3
    replace L := bst L hb L.size
    clear hb
    clear RV OV UV
    cases ok with
    | false =>
      go_wp2
      go_ret
      exact ⟨rfl, L⟩
    | true =>
      obtain ⟨A, B, C, hA96, hB96, hC96, hnb, hlA, hlB, hlC, hgd, hag, hsum, hmem⟩ := HK.out rfl
      have HLA := Lib.hid hlA; have HLB := Lib.hid hlB; have HLC := Lib.hid hlC; have HGD := Lib.hid hgd; have HAG := Lib.hid hag; have MEM := Lib.hid hmem
      have LB : Hid (∀ X, X = B → X.length ≤ 1000) := fun X hX => by rw [hX]; omega
      have LC : Hid (∀ X, X = C → X.length ≤ 1000) := fun X hX => by rw [hX]; omega
      clear hlA hlB hlC hgd hag hmem HK
      generalize hnA : A.length = nA at *
      have HNA := Lib.hid hnA; clear hnA
      generalize hnB : B.length = nB at *
      have HNB := Lib.hid hnB; clear hnB
      generalize hnC : C.length = nC at *
      have HNC := Lib.hid hnC; clear hnC
      have c0s := Row.cell Rs 0
      have c1s := Row.cell Rs 1
      have c2s := Row.cell Rs 2
      have c3s := Row.cell Rs 3
      have lts := Row.lt Rs
      have c0m := Row.cell Rm 0
      have c1m := Row.cell Rm 1
      have ltm := Row.lt Rm
      have c0W := Row.cell RW 0
      have c1W := Row.cell RW 1
      have c2W := Row.cell RW 2
      have c3W := Row.cell RW 3
      have ltW := Row.lt RW
      go_wp2_with fail
      clear c0s c1s c2s c3s lts c0m c1m ltm c0W c1W c2W c3W ltW
      refine (HLA.out _ (.slice gs ns cs) Os.ints (HT.out.below L).2).mono ?_
      rintro e w5 ⟨vA, rfl, ho, hb⟩
      obtain ⟨gA, cA, hvs, _⟩ := ho.shape
      rw [HNA.out] at hvs
      subst hvs
      replace Rs := Row.below Rs hb
      replace Rm := Row.below Rm hb
      replace RW := Row.below RW hb
      replace Os := Own.below Os hb
      replace Om := Own.below Om hb
      replace OW := Own.below OW hb
      have hs4 := hb.size
      try simp only [World.size_alloc] at hs4
      replace L := bst L hb L.size
      clear hb
      have OA := ho
      clear ho
      have c0s := Row.cell Rs 0
      have c1s := Row.cell Rs 1
      have c2s := Row.cell Rs 2
      have c3s := Row.cell Rs 3
      have lts := Row.lt Rs
      have c0m := Row.cell Rm 0
      have c1m := Row.cell Rm 1
      have ltm := Row.lt Rm
      have c0W := Row.cell RW 0
      have c1W := Row.cell RW 1
      have c2W := Row.cell RW 2
      have c3W := Row.cell RW 3
      have ltW := Row.lt RW
      go_wp2_with fail
      clear c0s c1s c2s c3s lts c0m c1m ltm c0W c1W c2W c3W ltW
      refine (HLB.out _ (.slice gW nr cW) OW.ints (HT.out.below L).2).mono ?_
      rintro e w6 ⟨vB, rfl, ho, hb⟩
      obtain ⟨gB, cB, hvs, _⟩ := ho.shape
      rw [HNB.out] at hvs
      subst hvs
      replace Rs := Row.below Rs hb
      replace Rm := Row.below Rm hb
      replace RW := Row.below RW hb
      replace Os := Own.below Os hb
      replace Om := Own.below Om hb
      replace OW := Own.below OW hb
      replace OA := Own.below OA hb
      have hs5 := hb.size
      try simp only [World.size_alloc] at hs5
      replace L := bst L hb L.size
      clear hb
      have OB := ho
      clear ho
      have c0s := Row.cell Rs 0
      have c1s := Row.cell Rs 1
      have c2s := Row.cell Rs 2
      have c3s := Row.cell Rs 3
      have lts := Row.lt Rs
      have c0m := Row.cell Rm 0
      have c1m := Row.cell Rm 1
      have ltm := Row.lt Rm
      have c0W := Row.cell RW 0
      have c1W := Row.cell RW 1
      have c2W := Row.cell RW 2
      have c3W := Row.cell RW 3
      have ltW := Row.lt RW
      go_wp2_with fail
      clear c0s c1s c2s c3s lts c0m c1m ltm c0W c1W c2W c3W ltW
      refine (HLC.out _ (.slice gm nm cm) Om.ints (HT.out.below L).2).mono ?_
      rintro e w7 ⟨vC, rfl, ho, hb⟩
      obtain ⟨gC, cC, hvs, _⟩ := ho.shape
      rw [HNC.out] at hvs
      subst hvs
      replace Rs := Row.below Rs hb
      replace Rm := Row.below Rm hb
      replace RW := Row.below RW hb
      replace Os := Own.below Os hb
      replace Om := Own.below Om hb
      replace OW := Own.below OW hb
      replace OA := Own.below OA hb
      replace OB := Own.below OB hb
      have hs6 := hb.size
      try simp only [World.size_alloc] at hs6
      replace L := bst L hb L.size
      clear hb
      have OC := ho
      clear ho
      have c0s := Row.cell Rs 0
      have c1s := Row.cell Rs 1
      have c2s := Row.cell Rs 2
      have c3s := Row.cell Rs 3
      have lts := Row.lt Rs
      have c0m := Row.cell Rm 0
      have c1m := Row.cell Rm 1
      have ltm := Row.lt Rm
      have c0W := Row.cell RW 0
      have c1W := Row.cell RW 1
      have c2W := Row.cell RW 2
      have c3W := Row.cell RW 3
      have ltW := Row.lt RW
      go_wp2_with fail
      clear c0s c1s c2s c3s lts c0m c1m ltm c0W c1W c2W c3W ltW
      refine (HAG.out _ (.slice gW nr cW) (.slice gm nm cm) OW.ints Om.ints (HT.out.below L).1).mono ?_
      rintro e w8 ⟨vX, rfl, ho, hb⟩
      have hU := World.ownsRow.lt ho
      try simp only [World.size_alloc] at hU
      have UX := Lib.hid hU
      clear hU
      obtain ⟨gX, cX, hvs, _⟩ := ho.shape
      rw [HNR.out] at hvs
      subst hvs
      replace Rs := Row.below Rs hb
      replace Rm := Row.below Rm hb
      replace RW := Row.below RW hb
      replace Os := Own.below Os hb
      replace Om := Own.below Om hb
      replace OW := Own.below OW hb
      replace OA := Own.below OA hb
      replace OB := Own.below OB hb
      replace OC := Own.below OC hb
      have hs7 := hb.size
      try simp only [World.size_alloc] at hs7
      replace L := bst L hb L.size
      clear hb
      have OX := ho
      clear ho
      have c0s := Row.cell Rs 0
      have c1s := Row.cell Rs 1
      have c2s := Row.cell Rs 2
      have c3s := Row.cell Rs 3
      have lts := Row.lt Rs
      have c0m := Row.cell Rm 0
      have c1m := Row.cell Rm 1
      have ltm := Row.lt Rm
      have c0W := Row.cell RW 0
      have c1W := Row.cell RW 1
      have c2W := Row.cell RW 2
      have c3W := Row.cell RW 3
      have ltW := Row.lt RW
      go_wp2_with fail
      clear c0s c1s c2s c3s lts c0m c1m ltm c0W c1W c2W c3W ltW
      replace Rs := Row.alloc Rs (.cells (c4 fr cr lr (.slice gX nr cX)) 27)
      replace Rm := Row.alloc Rm (.cells (c4 fr cr lr (.slice gX nr cX)) 27)
      replace RW := Row.alloc RW (.cells (c4 fr cr lr (.slice gX nr cX)) 27)
      have RX := Row.new w8 27 (c4 fr cr lr (.slice gX nr cX))
      replace Os := Own.below Os ((Below.refl _ _).alloc (Nat.le_refl _) (.cells (c4 fr cr lr (.slice gX nr cX)) 27))
      replace Om := Own.below Om ((Below.refl _ _).alloc (Nat.le_refl _) (.cells (c4 fr cr lr (.slice gX nr cX)) 27))
      replace OW := Own.below OW ((Below.refl _ _).alloc (Nat.le_refl _) (.cells (c4 fr cr lr (.slice gX nr cX)) 27))
      replace OA := Own.below OA ((Below.refl _ _).alloc (Nat.le_refl _) (.cells (c4 fr cr lr (.slice gX nr cX)) 27))
      replace OB := Own.below OB ((Below.refl _ _).alloc (Nat.le_refl _) (.cells (c4 fr cr lr (.slice gX nr cX)) 27))
      replace OC := Own.below OC ((Below.refl _ _).alloc (Nat.le_refl _) (.cells (c4 fr cr lr (.slice gX nr cX)) 27))
      replace OX := Own.below OX ((Below.refl _ _).alloc (Nat.le_refl _) (.cells (c4 fr cr lr (.slice gX nr cX)) 27))
      replace L := Below.alloc L L.size (.cells (c4 fr cr lr (.slice gX nr cX)) 27)
      refine Ans.go (HGD.out _ (.slice gW nr cW) OW.ints (HT.out.below L).1) fun w9 hb => ?_
      replace Rs := Row.below Rs hb
      replace Rm := Row.below Rm hb
      replace RW := Row.below RW hb
      replace RX := Row.below RX hb
      replace Os := Own.below Os hb
      replace Om := Own.below Om hb
      replace OW := Own.below OW hb
      replace OA := Own.below OA hb
      replace OB := Own.below OB hb
      replace OC := Own.below OC hb
      replace OX := Own.below OX hb
      have hs8 := hb.size
      try simp only [World.size_alloc] at hs8
      replace L := bst L hb L.size
      clear hb
      have i1 : IntKind.i64.wrap ((nA : Int) - nn) = (nA : Int) - nn := IntWalk.i64_in _ (by omega)
      have i2 : ((nB : Int) != (nA : Int) - nn) = false := by rw [hsum]; simp
      have c0s := Row.cell Rs 0
      have c1s := Row.cell Rs 1
      have c2s := Row.cell Rs 2
      have c3s := Row.cell Rs 3
      have lts := Row.lt Rs
      have c0m := Row.cell Rm 0
      have c1m := Row.cell Rm 1
      have ltm := Row.lt Rm
      have c0W := Row.cell RW 0
      have c1W := Row.cell RW 1
      have c2W := Row.cell RW 2
      have c3W := Row.cell RW 3
      have ltW := Row.lt RW
      have c0X := Row.cell RX 0
      have c1X := Row.cell RX 1
      have c2X := Row.cell RX 2
      have c3X := Row.cell RX 3
      have ltX := Row.lt RX
      go_wp2_with fail
      clear c0s c1s c2s c3s lts c0m c1m ltm c0W c1W c2W c3W ltW c0X c1X c2X c3X ltX
      refine Ans.go (c_sameSpan fr cr lr (.slice gX nr cX) (.slice gW nr cW) rs _ OX.ints OW.ints (by have := HRL.out _ rfl; omega)) fun w10 hb => ?_
      replace Rs := Row.below Rs hb
      replace Rm := Row.below Rm hb
      replace RW := Row.below RW hb
      replace RX := Row.below RX hb
      replace Os := Own.below Os hb
      replace Om := Own.below Om hb
      replace OW := Own.below OW hb
      replace OA := Own.below OA hb
      replace OB := Own.below OB hb
      replace OC := Own.below OC hb
      replace OX := Own.below OX hb
      have hs9 := hb.size
      try simp only [World.size_alloc] at hs9
      replace L := bst L hb L.size
      clear hb
      have HA := Lib.hid OA.holds; have IB := Lib.hid OB.ints; have IC := Lib.hid OC.ints; have BB := Lib.hid L
      clear Os Om OW OX OA OB OC Rs Rm RW RX L UW UX
      go_wp2_with fail
      clear i1 i2 hsum
      go_loopw [128] (fun i wr => ∃ k : Nat, k ≤ nA ∧ i = .int .i64 k ∧ wr = w10) (fun i _ => nA - (intOf i).toNat)
      case atStart => exact ⟨0, Nat.zero_le _, rfl, rfl⟩
      case round =>
        obtain ⟨k, hk, rfl, rfl⟩ := hrel
        by_cases hlt : k < nA
        · obtain ⟨bA, oA, rfl, hca⟩ := HA.out (by omega)
          have q1 := hca k hlt
          have i1 : (k : Int) < (nA : Int) := by omega
          have f1 := MEM.out k hlt
          generalize A.getD k 0 = y at q1 f1
          generalize ht : decide (y ∈ C) = t at f1
          have HT1 := Lib.hid ht; have F1 := Lib.hid f1
          clear hca ht f1
          go_wp2_with fail
          refine (c_has _ B y _ IB.out (LB.out _ rfl)).mono ?_
          rintro e w' ⟨rfl, rfl⟩
          rw [F1.out]
          go_wp2_with fail
          refine (c_has _ C y _ IC.out (LC.out _ rfl)).mono ?_
          rintro e w' ⟨rfl, rfl⟩
          rw [HT1.out]
          have e5 : (t != t) = false := by simp
          go_wp2
          go_roundw
          case rel => exact ⟨k + 1, by omega, by go_num, trivial⟩
          case measure => simp [intOf]; omega
        · have i1 : ¬ (k : Int) < (nA : Int) := by omega
          go_wp2
          go_ret
          exact ⟨rfl, BB.out⟩
end Go.Proofs.YtcelebblcjhpaaaDoor
