/- The walk of laws.FnFound. -/
import Derived.Test.YtlmelabddaapeaaDoorDg
namespace Go.Proofs.YtlmelabddaapeaaDoor
open Go.RowKit Pb

set_option maxHeartbeats 6400000 in
set_option maxRecDepth 100000 in
theorem walk_FnFound (v0 : Value) (z0 : List Int) (v1 : Value) (z1 : List Int) (w : World) (hz0 : BytesAt w v0 z0) (hz1 : BytesAt w v1 z1) (hT : TabB w) : Calls Tryd.prog 4 #[v0, v1] w fun e w' => e = .returned (.bool true) ∧ Below w.heap.size w w' := by
  obtain ⟨_, _, a, ca, hv, _⟩ := id hz0
  obtain ⟨_, _, a2, ca2, hv2, _⟩ := id hz1
  have HZ := Lib.hid hz0; have HZ2 := Lib.hid hz1; clear hz0 hz1
  have HT := Lib.hid hT; clear hT
  subst hv
  subst hv2
  generalize hn : z0.length = n at *
  generalize hn2 : z1.length = n2 at *
  clear hn hn2
  by_cases hm : 1048576 < wrap64 ((n : Int) + (n2 : Int))
  · go_enter Tryd.func4, Tryd.ntmps4
    go_wp2
    go_ret
    exact ⟨rfl, Below.refl _ _⟩
  · go_enter Tryd.func4, Tryd.ntmps4
    go_wp2_with fail
    refine (c_DrawNextFree _ z0 _ HZ.out).mono ?_
    rintro e w1 ⟨long, vb, zs, p, hl6, hlr, hp, rfl, ho1, b1⟩
    obtain ⟨c, ok, hc, hS, hI, hK⟩ := free_facts long zs p
    have HS := Lib.hid hS; have HI := Lib.hid hI; have HK := Lib.hid hK; clear hS hI hK
    obtain ⟨vg, vc, hvs, _⟩ := ho1.shape
    subst hvs
    have B := Lib.hid (b1.alloc b1.size (.cells (cb long (.slice vg zs.length vc)) 25))
    have x_b : RowB (w1.alloc (.cells (cb long (.slice vg zs.length vc)) 25)) w1.heap.size long (.slice vg zs.length vc) := Row.new w1 _ _
    have O_b := Lib.hid (ho1.below ((Below.refl _ _).alloc (Nat.le_refl _) (.cells (cb long (.slice vg zs.length vc)) 25)))
    clear ho1 b1
    generalize hnn : zs.length = nn at *
    have HN := Lib.hid hnn; clear hnn
    have e1 : (c != c) = false := by simp
    have e2 : (ok != ok) = false := by simp
    go_wp2_with (refine wl_loadB rfl _ rfl w1.heap.size long (.slice vg nn vc) x_b rfl ?_)
    refine Ans.go (HI.out _ _ O_b.out.ints (HT.out.below B.out)) fun w2 b2 => ?_
    replace x_b := Row.below x_b b2
    replace O_b := Lib.hid (O_b.out.below b2)
    replace B := Lib.hid (bst B.out b2 B.out.size)
    clear b2
    generalize w1.heap.size = gb at *
    go_wp2_with (refine wl_loadB rfl _ rfl gb long (.slice vg nn vc) x_b rfl ?_)
    refine Ans.go (HS.out _ _ O_b.out.ints) fun w3 b3 => ?_
    replace x_b := Row.below x_b b3
    replace O_b := Lib.hid (O_b.out.below b3)
    replace B := Lib.hid (bst B.out b3 B.out.size)
    clear b3
    cases ok
    · skip
      go_wp2_with fail
      clear e1 e2 HK HI HS hlr hp hc HN hl6
      clear x_b O_b
      refine (c_DrawBothBits _ z1 _ (HZ2.out.below B.out)).mono ?_
      rintro e w4 ⟨la, va, za, lb, vb', zb, hla, hlb, hra, hrb, rfl, oa, ob, b6⟩
      obtain ⟨lr, rp, rq, ok, hrp, hrq, hp1, hp2, hq1, hq2, hK⟩ := pair_facts la lb za zb
      have HP1 := Lib.hid hp1; have HP2 := Lib.hid hp2; have HQ1 := Lib.hid hq1; have HQ2 := Lib.hid hq2; have HK := Lib.hid hK
      clear hp1 hp2 hq1 hq2 hK
      obtain ⟨ga, ca', hva, _⟩ := oa.shape
      obtain ⟨gb', cb', hvb, _⟩ := ob.shape
      subst hva; subst hvb
      have B6 := bst B.out b6 B.out.size
      clear B b6
      have LP : Hid (∀ X : List Int, X = rp → X.length ≤ 9223372036854775806) := fun X hX => by rw [hX]; omega
      have LQ : Hid (∀ X : List Int, X = rq → X.length ≤ 9223372036854775806) := fun X hX => by rw [hX]; omega
      clear hla hlb hrp hrq
      generalize hna : za.length = na at *
      generalize hnb : zb.length = nb at *
      have HNA := Lib.hid hna; have HNB := Lib.hid hnb; clear hna hnb
      have ra : RowB ((w4.alloc (.cells (cb 0 (.slice none 0 0)) 25)).alloc (.cells (cb 0 (.slice none 0 0)) 25)) w4.heap.size 0 (.slice none 0 0) := (Row.new w4 25 (cb 0 (.slice none 0 0))).alloc _
      have rb : RowB ((w4.alloc (.cells (cb 0 (.slice none 0 0)) 25)).alloc (.cells (cb 0 (.slice none 0 0)) 25)) (w4.heap.size + 1) 0 (.slice none 0 0) := Row.new1 w4 _ 25 (cb 0 (.slice none 0 0))
      have al : Below w4.heap.size w4 ((w4.alloc (.cells (cb 0 (.slice none 0 0)) 25)).alloc (.cells (cb 0 (.slice none 0 0)) 25)) := ((Below.refl w4.heap.size w4).alloc (Nat.le_refl _) _).alloc (by simp) _
      have B7 := bst B6 al B6.size
      have rb2 := Row.putOther rb (cb la (.slice ga na ca')) (show w4.heap.size + 1 ≠ w4.heap.size by omega)
      have oa2 := oa.below al
      have ob2 := ob.below al
      have O_x := Lib.hid (own_putRow (own_putRow oa2 w4.heap.size (cb la (.slice ga na ca')) (own_row_ne oa2 ra)) (w4.heap.size + 1) (cb lb (.slice gb' nb cb')) (own_row_ne oa2 rb))
      have O_y := Lib.hid (own_putRow (own_putRow ob2 w4.heap.size (cb la (.slice ga na ca')) (own_row_ne ob2 ra)) (w4.heap.size + 1) (cb lb (.slice gb' nb cb')) (own_row_ne ob2 rb))
      have x_x : RowB ((((w4.alloc (.cells (cb 0 (.slice none 0 0)) 25)).alloc (.cells (cb 0 (.slice none 0 0)) 25)).setRow w4.heap.size (cb la (.slice ga na ca'))).setRow (w4.heap.size + 1) (cb lb (.slice gb' nb cb'))) w4.heap.size la (.slice ga na ca') := Row.putOther (Row.put ra (cb la (.slice ga na ca'))) (cb lb (.slice gb' nb cb')) (by omega)
      have x_y : RowB ((((w4.alloc (.cells (cb 0 (.slice none 0 0)) 25)).alloc (.cells (cb 0 (.slice none 0 0)) 25)).setRow w4.heap.size (cb la (.slice ga na ca'))).setRow (w4.heap.size + 1) (cb lb (.slice gb' nb cb'))) (w4.heap.size + 1) lb (.slice gb' nb cb') := Row.put rb2 (cb lb (.slice gb' nb cb'))
      have B := Lib.hid (below_setRow (below_setRow B7 B6.size (cb la (.slice ga na ca'))) (Nat.le_trans B6.size (Nat.le_succ _)) (cb lb (.slice gb' nb cb')))
      clear oa ob oa2 ob2 al B6 B7
      go_wp2_with (first
        | (refine wl_loadB rfl _ rfl w4.heap.size la (.slice ga na ca') x_x rfl ?_)
        | (refine wl_loadB rfl _ rfl (w4.heap.size + 1) lb (.slice gb' nb cb') x_y rfl ?_)
        | (refine wl_storeB rfl _ _ rfl w4.heap.size la (.slice ga na ca') _ _ ra rfl rfl rfl ?_)
        | (refine wl_storeB rfl _ _ rfl (w4.heap.size + 1) lb (.slice gb' nb cb') _ _ rb2 rfl rfl rfl ?_))
      refine Calls.mono (HP1.out _ _ _ O_x.out.ints O_y.out.ints) ?_
      rintro e w5 ⟨v_p, rfl, o_p, b5⟩
      obtain ⟨g_p, c_p, hv_p, _⟩ := o_p.shape
      subst hv_p
      generalize hn_p : rp.length = n_p at *
      have N_p := Lib.hid hn_p; clear hn_p
      clear ra rb rb2
      have O_p := Lib.hid (o_p.below ((Below.refl _ _).alloc (Nat.le_refl _) (.cells (cb lr (.slice g_p n_p c_p)) 25)))
      clear o_p
      replace x_x := Row.alloc (Row.below x_x b5) (.cells (cb lr (.slice g_p n_p c_p)) 25)
      replace x_y := Row.alloc (Row.below x_y b5) (.cells (cb lr (.slice g_p n_p c_p)) 25)
      replace O_x := Lib.hid ((O_x.out.below b5).below ((Below.refl _ _).alloc (Nat.le_refl _) (.cells (cb lr (.slice g_p n_p c_p)) 25)))
      replace O_y := Lib.hid ((O_y.out.below b5).below ((Below.refl _ _).alloc (Nat.le_refl _) (.cells (cb lr (.slice g_p n_p c_p)) 25)))
      have BB := bst B.out b5 B.out.size
      replace B := Lib.hid (BB.alloc BB.size (.cells (cb lr (.slice g_p n_p c_p)) 25))
      clear BB
      clear b5
      have x_p : RowB (w5.alloc (.cells (cb lr (.slice g_p n_p c_p)) 25)) w5.heap.size lr (.slice g_p n_p c_p) := Row.new w5 _ _
      go_wp2_with (first
        | (refine wl_loadB rfl _ rfl w4.heap.size la (.slice ga na ca') x_x rfl ?_)
        | (refine wl_loadB rfl _ rfl (w4.heap.size + 1) lb (.slice gb' nb cb') x_y rfl ?_))
      refine Calls.mono (HP2.out _ _ _ O_x.out.ints O_y.out.ints) ?_
      rintro e w6 ⟨v_both, rfl, o_both, b6⟩
      obtain ⟨g_both, c_both, hv_both, _⟩ := o_both.shape
      subst hv_both
      generalize hn_both : rp.length = n_both at *
      have N_both := Lib.hid hn_both; clear hn_both
      have O_both := Lib.hid (o_both.below ((Below.refl _ _).alloc (Nat.le_refl _) (.cells (cb lr (.slice g_both n_both c_both)) 25)))
      clear o_both
      replace x_x := Row.alloc (Row.below x_x b6) (.cells (cb lr (.slice g_both n_both c_both)) 25)
      replace x_y := Row.alloc (Row.below x_y b6) (.cells (cb lr (.slice g_both n_both c_both)) 25)
      replace x_p := Row.alloc (Row.below x_p b6) (.cells (cb lr (.slice g_both n_both c_both)) 25)
      replace O_x := Lib.hid ((O_x.out.below b6).below ((Below.refl _ _).alloc (Nat.le_refl _) (.cells (cb lr (.slice g_both n_both c_both)) 25)))
      replace O_y := Lib.hid ((O_y.out.below b6).below ((Below.refl _ _).alloc (Nat.le_refl _) (.cells (cb lr (.slice g_both n_both c_both)) 25)))
      replace O_p := Lib.hid ((O_p.out.below b6).below ((Below.refl _ _).alloc (Nat.le_refl _) (.cells (cb lr (.slice g_both n_both c_both)) 25)))
      have BB := bst B.out b6 B.out.size
      replace B := Lib.hid (BB.alloc BB.size (.cells (cb lr (.slice g_both n_both c_both)) 25))
      clear BB
      clear b6
      have x_both : RowB (w6.alloc (.cells (cb lr (.slice g_both n_both c_both)) 25)) w6.heap.size lr (.slice g_both n_both c_both) := Row.new w6 _ _
      go_wp2_with (first
        | (refine wl_loadB rfl _ rfl w4.heap.size la (.slice ga na ca') x_x rfl ?_)
        | (refine wl_loadB rfl _ rfl (w4.heap.size + 1) lb (.slice gb' nb cb') x_y rfl ?_))
      refine Calls.mono (HQ1.out _ _ _ O_x.out.ints O_y.out.ints) ?_
      rintro e w7 ⟨v_q, rfl, o_q, b7⟩
      obtain ⟨g_q, c_q, hv_q, _⟩ := o_q.shape
      subst hv_q
      generalize hn_q : rq.length = n_q at *
      have N_q := Lib.hid hn_q; clear hn_q
      have O_q := Lib.hid (o_q.below ((Below.refl _ _).alloc (Nat.le_refl _) (.cells (cb lr (.slice g_q n_q c_q)) 25)))
      clear o_q
      replace x_x := Row.alloc (Row.below x_x b7) (.cells (cb lr (.slice g_q n_q c_q)) 25)
      replace x_y := Row.alloc (Row.below x_y b7) (.cells (cb lr (.slice g_q n_q c_q)) 25)
      replace x_p := Row.alloc (Row.below x_p b7) (.cells (cb lr (.slice g_q n_q c_q)) 25)
      replace x_both := Row.alloc (Row.below x_both b7) (.cells (cb lr (.slice g_q n_q c_q)) 25)
      replace O_x := Lib.hid ((O_x.out.below b7).below ((Below.refl _ _).alloc (Nat.le_refl _) (.cells (cb lr (.slice g_q n_q c_q)) 25)))
      replace O_y := Lib.hid ((O_y.out.below b7).below ((Below.refl _ _).alloc (Nat.le_refl _) (.cells (cb lr (.slice g_q n_q c_q)) 25)))
      replace O_p := Lib.hid ((O_p.out.below b7).below ((Below.refl _ _).alloc (Nat.le_refl _) (.cells (cb lr (.slice g_q n_q c_q)) 25)))
      replace O_both := Lib.hid ((O_both.out.below b7).below ((Below.refl _ _).alloc (Nat.le_refl _) (.cells (cb lr (.slice g_q n_q c_q)) 25)))
      have BB := bst B.out b7 B.out.size
      replace B := Lib.hid (BB.alloc BB.size (.cells (cb lr (.slice g_q n_q c_q)) 25))
      clear BB
      clear b7
      have x_q : RowB (w7.alloc (.cells (cb lr (.slice g_q n_q c_q)) 25)) w7.heap.size lr (.slice g_q n_q c_q) := Row.new w7 _ _
      go_wp2_with (first
        | (refine wl_loadB rfl _ rfl w4.heap.size la (.slice ga na ca') x_x rfl ?_)
        | (refine wl_loadB rfl _ rfl (w4.heap.size + 1) lb (.slice gb' nb cb') x_y rfl ?_))
      refine Calls.mono (HQ2.out _ _ _ O_x.out.ints O_y.out.ints) ?_
      rintro e w8 ⟨v_without, rfl, o_without, b8⟩
      obtain ⟨g_without, c_without, hv_without, _⟩ := o_without.shape
      subst hv_without
      generalize hn_without : rq.length = n_without at *
      have N_without := Lib.hid hn_without; clear hn_without
      have O_without := Lib.hid (o_without.below ((Below.refl _ _).alloc (Nat.le_refl _) (.cells (cb lr (.slice g_without n_without c_without)) 25)))
      clear o_without
      replace x_x := Row.alloc (Row.below x_x b8) (.cells (cb lr (.slice g_without n_without c_without)) 25)
      replace x_y := Row.alloc (Row.below x_y b8) (.cells (cb lr (.slice g_without n_without c_without)) 25)
      replace x_p := Row.alloc (Row.below x_p b8) (.cells (cb lr (.slice g_without n_without c_without)) 25)
      replace x_both := Row.alloc (Row.below x_both b8) (.cells (cb lr (.slice g_without n_without c_without)) 25)
      replace x_q := Row.alloc (Row.below x_q b8) (.cells (cb lr (.slice g_without n_without c_without)) 25)
      replace O_x := Lib.hid ((O_x.out.below b8).below ((Below.refl _ _).alloc (Nat.le_refl _) (.cells (cb lr (.slice g_without n_without c_without)) 25)))
      replace O_y := Lib.hid ((O_y.out.below b8).below ((Below.refl _ _).alloc (Nat.le_refl _) (.cells (cb lr (.slice g_without n_without c_without)) 25)))
      replace O_p := Lib.hid ((O_p.out.below b8).below ((Below.refl _ _).alloc (Nat.le_refl _) (.cells (cb lr (.slice g_without n_without c_without)) 25)))
      replace O_both := Lib.hid ((O_both.out.below b8).below ((Below.refl _ _).alloc (Nat.le_refl _) (.cells (cb lr (.slice g_without n_without c_without)) 25)))
      replace O_q := Lib.hid ((O_q.out.below b8).below ((Below.refl _ _).alloc (Nat.le_refl _) (.cells (cb lr (.slice g_without n_without c_without)) 25)))
      have BB := bst B.out b8 B.out.size
      replace B := Lib.hid (BB.alloc BB.size (.cells (cb lr (.slice g_without n_without c_without)) 25))
      clear BB
      clear b8
      have x_without : RowB (w8.alloc (.cells (cb lr (.slice g_without n_without c_without)) 25)) w8.heap.size lr (.slice g_without n_without c_without) := Row.new w8 _ _
      have e2 : (ok != ok) = false := by simp
      have q0_p := RowB.c0 x_p; have q1_p := RowB.c1 x_p
      have q0_both := RowB.c0 x_both; have q1_both := RowB.c1 x_both
      go_wp2_with fail
      clear q0_p q1_p
      clear q0_both q1_both
      refine Ans.go (same_true lr _ _ rp _ O_p.out.ints O_both.out.ints (LP.out _ rfl)) fun w9 b9 => ?_
      replace x_x := Row.below x_x b9
      replace x_y := Row.below x_y b9
      replace x_p := Row.below x_p b9
      replace x_both := Row.below x_both b9
      replace x_q := Row.below x_q b9
      replace x_without := Row.below x_without b9
      replace O_x := Lib.hid (O_x.out.below b9)
      replace O_y := Lib.hid (O_y.out.below b9)
      replace O_p := Lib.hid (O_p.out.below b9)
      replace O_both := Lib.hid (O_both.out.below b9)
      replace O_q := Lib.hid (O_q.out.below b9)
      replace O_without := Lib.hid (O_without.out.below b9)
      replace B := Lib.hid (bst B.out b9 B.out.size)
      clear b9
      generalize w5.heap.size = p_p at *
      generalize w6.heap.size = p_both at *
      generalize w7.heap.size = p_q at *
      generalize w8.heap.size = p_without at *
      clear x_both O_both
      have q0_q := RowB.c0 x_q; have q1_q := RowB.c1 x_q
      have q0_without := RowB.c0 x_without; have q1_without := RowB.c1 x_without
      go_wp2_with fail
      clear q0_q q1_q
      clear q0_without q1_without
      refine Ans.go (same_true lr _ _ rq _ O_q.out.ints O_without.out.ints (LQ.out _ rfl)) fun w10 b10 => ?_
      replace x_x := Row.below x_x b10
      replace x_y := Row.below x_y b10
      replace x_p := Row.below x_p b10
      replace x_q := Row.below x_q b10
      replace x_without := Row.below x_without b10
      replace O_x := Lib.hid (O_x.out.below b10)
      replace O_y := Lib.hid (O_y.out.below b10)
      replace O_p := Lib.hid (O_p.out.below b10)
      replace O_q := Lib.hid (O_q.out.below b10)
      replace O_without := Lib.hid (O_without.out.below b10)
      replace B := Lib.hid (bst B.out b10 B.out.size)
      clear b10
      clear x_without O_without
      cases ok
      · go_wp2
        go_ret
        exact ⟨rfl, B.out⟩
      · clear e2
        obtain ⟨A, C, D, E, lA, lC, lD, lE, sA, sC, sD, sE, gP, gQ, sum, mem⟩ := HK.out rfl
        have SA := Lib.hid sA; have SC := Lib.hid sC; have SD := Lib.hid sD; have SE := Lib.hid sE; have GP := Lib.hid gP; have GQ := Lib.hid gQ; have MEM := Lib.hid mem
        have LC : Hid (∀ X : List Int, X = C → X.length ≤ 1000) := fun X hX => by rw [hX]; omega
        have LD : Hid (∀ X : List Int, X = D → X.length ≤ 1000) := fun X hX => by rw [hX]; omega
        have LE : Hid (∀ X : List Int, X = E → X.length ≤ 1000) := fun X hX => by rw [hX]; omega
        clear sA sC sD sE gP gQ mem HK
        go_wp2_with (refine wl_loadB rfl _ rfl w4.heap.size la (.slice ga na ca') x_x rfl ?_)
        refine Calls.mono (SA.out _ _ O_x.out.ints (HT.out.below B.out)) ?_
        rintro e w11 ⟨v_A, rfl, o_A, b11⟩
        obtain ⟨g_A, c_A, hv_A, _⟩ := o_A.shape
        subst hv_A
        generalize hn_A : A.length = n_A at *
        have N_A := Lib.hid hn_A; clear hn_A
        replace x_x := Row.below x_x b11
        replace x_y := Row.below x_y b11
        replace x_p := Row.below x_p b11
        replace x_q := Row.below x_q b11
        replace O_x := Lib.hid (O_x.out.below b11)
        replace O_y := Lib.hid (O_y.out.below b11)
        replace O_p := Lib.hid (O_p.out.below b11)
        replace O_q := Lib.hid (O_q.out.below b11)
        replace B := Lib.hid (bst B.out b11 B.out.size)
        clear b11
        have O_A := Lib.hid o_A; clear o_A
        clear x_x O_x
        go_wp2_with (refine wl_loadB rfl _ rfl p_p lr (.slice g_p n_p c_p) x_p rfl ?_)
        refine Calls.mono (SC.out _ _ O_p.out.ints (HT.out.below B.out)) ?_
        rintro e w12 ⟨v_C, rfl, o_C, b12⟩
        obtain ⟨g_C, c_C, hv_C, _⟩ := o_C.shape
        subst hv_C
        generalize hn_C : C.length = n_C at *
        have N_C := Lib.hid hn_C; clear hn_C
        replace x_y := Row.below x_y b12
        replace x_p := Row.below x_p b12
        replace x_q := Row.below x_q b12
        replace O_y := Lib.hid (O_y.out.below b12)
        replace O_p := Lib.hid (O_p.out.below b12)
        replace O_q := Lib.hid (O_q.out.below b12)
        replace O_A := Lib.hid (O_A.out.below b12)
        replace B := Lib.hid (bst B.out b12 B.out.size)
        clear b12
        have O_C := Lib.hid o_C; clear o_C
        go_wp2_with (refine wl_loadB rfl _ rfl p_q lr (.slice g_q n_q c_q) x_q rfl ?_)
        refine Calls.mono (SD.out _ _ O_q.out.ints (HT.out.below B.out)) ?_
        rintro e w13 ⟨v_D, rfl, o_D, b13⟩
        obtain ⟨g_D, c_D, hv_D, _⟩ := o_D.shape
        subst hv_D
        generalize hn_D : D.length = n_D at *
        have N_D := Lib.hid hn_D; clear hn_D
        replace x_y := Row.below x_y b13
        replace x_p := Row.below x_p b13
        replace x_q := Row.below x_q b13
        replace O_y := Lib.hid (O_y.out.below b13)
        replace O_p := Lib.hid (O_p.out.below b13)
        replace O_q := Lib.hid (O_q.out.below b13)
        replace O_A := Lib.hid (O_A.out.below b13)
        replace O_C := Lib.hid (O_C.out.below b13)
        replace B := Lib.hid (bst B.out b13 B.out.size)
        clear b13
        have O_D := Lib.hid o_D; clear o_D
        go_wp2_with (refine wl_loadB rfl _ rfl (w4.heap.size + 1) lb (.slice gb' nb cb') x_y rfl ?_)
        refine Calls.mono (SE.out _ _ O_y.out.ints (HT.out.below B.out)) ?_
        rintro e w14 ⟨v_E, rfl, o_E, b14⟩
        obtain ⟨g_E, c_E, hv_E, _⟩ := o_E.shape
        subst hv_E
        generalize hn_E : E.length = n_E at *
        have N_E := Lib.hid hn_E; clear hn_E
        replace x_y := Row.below x_y b14
        replace x_p := Row.below x_p b14
        replace x_q := Row.below x_q b14
        replace O_y := Lib.hid (O_y.out.below b14)
        replace O_p := Lib.hid (O_p.out.below b14)
        replace O_q := Lib.hid (O_q.out.below b14)
        replace O_A := Lib.hid (O_A.out.below b14)
        replace O_C := Lib.hid (O_C.out.below b14)
        replace O_D := Lib.hid (O_D.out.below b14)
        replace B := Lib.hid (bst B.out b14 B.out.size)
        clear b14
        have O_E := Lib.hid o_E; clear o_E
        clear x_y O_y
        go_wp2_with (refine wl_loadB rfl _ rfl p_p lr (.slice g_p n_p c_p) x_p rfl ?_)
        refine Ans.go (GP.out _ _ O_p.out.ints) fun w15 b15 => ?_
        replace x_p := Row.below x_p b15
        replace x_q := Row.below x_q b15
        replace O_p := Lib.hid (O_p.out.below b15)
        replace O_q := Lib.hid (O_q.out.below b15)
        replace O_A := Lib.hid (O_A.out.below b15)
        replace O_C := Lib.hid (O_C.out.below b15)
        replace O_D := Lib.hid (O_D.out.below b15)
        replace O_E := Lib.hid (O_E.out.below b15)
        replace B := Lib.hid (bst B.out b15 B.out.size)
        clear b15
        have q0_q := RowB.c0 x_q; have q1_q := RowB.c1 x_q
        go_wp2_with fail
        clear q0_q q1_q
        refine Ans.go (GQ.out _ _ O_q.out.ints) fun w16 b16 => ?_
        replace x_p := Row.below x_p b16
        replace x_q := Row.below x_q b16
        replace O_p := Lib.hid (O_p.out.below b16)
        replace O_q := Lib.hid (O_q.out.below b16)
        replace O_A := Lib.hid (O_A.out.below b16)
        replace O_C := Lib.hid (O_C.out.below b16)
        replace O_D := Lib.hid (O_D.out.below b16)
        replace O_E := Lib.hid (O_E.out.below b16)
        replace B := Lib.hid (bst B.out b16 B.out.size)
        clear b16
        clear x_p O_p
        clear x_q O_q
        have i1 : wrap64 ((n_C : Int) + (n_D : Int)) = (n_A : Int) := by rw [sum]; simp only [RowKit.wrap64]; omega
        have i2 : ((n_A : Int) != (n_A : Int)) = false := by simp
        have HA := Lib.hid O_A.out.holds
        have IC := Lib.hid O_C.out.ints; have ID := Lib.hid O_D.out.ints; have IE := Lib.hid O_E.out.ints
        clear O_A O_C O_D O_E
        go_wp2_with fail
        clear i1 i2 sum
        go_loopw [202] (fun i wr => ∃ k : Nat, k ≤ n_A ∧ i = .int .i64 k ∧ wr = w16) (fun i _ => n_A - (intOf i).toNat)
        case atStart => exact ⟨0, Nat.zero_le _, rfl, rfl⟩
        case round =>
          obtain ⟨k, hk, rfl, rfl⟩ := hrel
          by_cases hlt : k < n_A
          · obtain ⟨bA, oA, rfl, hca⟩ := HA.out (by omega)
            have q1 := hca k hlt
            have i1 : (k : Int) < (n_A : Int) := by omega
            obtain ⟨f1, f2⟩ := MEM.out k hlt
            generalize A.getD k 0 = y at q1 f1 f2
            generalize ht : decide (y ∈ E) = t at f1 f2
            have HT1 := Lib.hid ht; have F1 := Lib.hid f1; have F2 := Lib.hid f2
            clear hca ht f1 f2
            go_wp2_with fail
            refine (c_has _ C y _ IC.out (LC.out _ rfl)).mono ?_
            rintro e w' ⟨rfl, rfl⟩
            rw [F1.out]
            go_wp2_with fail
            refine (c_has _ E y _ IE.out (LE.out _ rfl)).mono ?_
            rintro e w' ⟨rfl, rfl⟩
            rw [HT1.out]
            have e5 : (t != t) = false := by simp
            have e6 : ((!t) == t) = false := by simp
            go_wp2_with fail
            refine (c_has _ D y _ ID.out (LD.out _ rfl)).mono ?_
            rintro e w' ⟨rfl, rfl⟩
            rw [F2.out]
            go_wp2_with fail
            refine (c_has _ E y _ IE.out (LE.out _ rfl)).mono ?_
            rintro e w' ⟨rfl, rfl⟩
            rw [HT1.out]
            go_wp2
            go_roundw
            case rel => exact ⟨k + 1, by omega, by go_num, trivial⟩
            case measure => simp [intOf]; omega
          · have i1 : ¬ (k : Int) < (n_A : Int) := by omega
            go_wp2
            go_ret
            exact ⟨rfl, B.out⟩
    · skip
      obtain ⟨hK1, hK2⟩ := HK.out rfl
      have HK1 := Lib.hid hK1; have HK2 := Lib.hid hK2; clear hK1 hK2 HK
      go_wp2_with (refine wl_loadB rfl _ rfl gb long (.slice vg nn vc) x_b rfl ?_)
      refine Ans.go (HK1.out _ _ O_b.out.ints) fun w4 b4 => ?_
      replace x_b := Row.below x_b b4
      replace O_b := Lib.hid (O_b.out.below b4)
      replace B := Lib.hid (bst B.out b4 B.out.size)
      clear b4
      go_wp2_with (refine wl_loadB rfl _ rfl gb long (.slice vg nn vc) x_b rfl ?_)
      refine Ans.go (HK2.out _ _ O_b.out.ints) fun w5 b5 => ?_
      replace x_b := Row.below x_b b5
      replace O_b := Lib.hid (O_b.out.below b5)
      replace B := Lib.hid (bst B.out b5 B.out.size)
      clear b5
      have e3 : (c - p != c - p) = false := by simp
      have e4 : IntKind.i64.wrap (c - p) = c - p := IntWalk.i64_in _ (by omega)
      go_wp2_with fail
      clear HK1 HK2 e1 e2 e3 e4 HI HS hlr hp hc HN hl6
      clear x_b O_b
      refine (c_DrawBothBits _ z1 _ (HZ2.out.below B.out)).mono ?_
      rintro e w6 ⟨la, va, za, lb, vb', zb, hla, hlb, hra, hrb, rfl, oa, ob, b6⟩
      obtain ⟨lr, rp, rq, ok, hrp, hrq, hp1, hp2, hq1, hq2, hK⟩ := pair_facts la lb za zb
      have HP1 := Lib.hid hp1; have HP2 := Lib.hid hp2; have HQ1 := Lib.hid hq1; have HQ2 := Lib.hid hq2; have HK := Lib.hid hK
      clear hp1 hp2 hq1 hq2 hK
      obtain ⟨ga, ca', hva, _⟩ := oa.shape
      obtain ⟨gb', cb', hvb, _⟩ := ob.shape
      subst hva; subst hvb
      have B6 := bst B.out b6 B.out.size
      clear B b6
      have LP : Hid (∀ X : List Int, X = rp → X.length ≤ 9223372036854775806) := fun X hX => by rw [hX]; omega
      have LQ : Hid (∀ X : List Int, X = rq → X.length ≤ 9223372036854775806) := fun X hX => by rw [hX]; omega
      clear hla hlb hrp hrq
      generalize hna : za.length = na at *
      generalize hnb : zb.length = nb at *
      have HNA := Lib.hid hna; have HNB := Lib.hid hnb; clear hna hnb
      have ra : RowB ((w6.alloc (.cells (cb 0 (.slice none 0 0)) 25)).alloc (.cells (cb 0 (.slice none 0 0)) 25)) w6.heap.size 0 (.slice none 0 0) := (Row.new w6 25 (cb 0 (.slice none 0 0))).alloc _
      have rb : RowB ((w6.alloc (.cells (cb 0 (.slice none 0 0)) 25)).alloc (.cells (cb 0 (.slice none 0 0)) 25)) (w6.heap.size + 1) 0 (.slice none 0 0) := Row.new1 w6 _ 25 (cb 0 (.slice none 0 0))
      have al : Below w6.heap.size w6 ((w6.alloc (.cells (cb 0 (.slice none 0 0)) 25)).alloc (.cells (cb 0 (.slice none 0 0)) 25)) := ((Below.refl w6.heap.size w6).alloc (Nat.le_refl _) _).alloc (by simp) _
      have B7 := bst B6 al B6.size
      have rb2 := Row.putOther rb (cb la (.slice ga na ca')) (show w6.heap.size + 1 ≠ w6.heap.size by omega)
      have oa2 := oa.below al
      have ob2 := ob.below al
      have O_x := Lib.hid (own_putRow (own_putRow oa2 w6.heap.size (cb la (.slice ga na ca')) (own_row_ne oa2 ra)) (w6.heap.size + 1) (cb lb (.slice gb' nb cb')) (own_row_ne oa2 rb))
      have O_y := Lib.hid (own_putRow (own_putRow ob2 w6.heap.size (cb la (.slice ga na ca')) (own_row_ne ob2 ra)) (w6.heap.size + 1) (cb lb (.slice gb' nb cb')) (own_row_ne ob2 rb))
      have x_x : RowB ((((w6.alloc (.cells (cb 0 (.slice none 0 0)) 25)).alloc (.cells (cb 0 (.slice none 0 0)) 25)).setRow w6.heap.size (cb la (.slice ga na ca'))).setRow (w6.heap.size + 1) (cb lb (.slice gb' nb cb'))) w6.heap.size la (.slice ga na ca') := Row.putOther (Row.put ra (cb la (.slice ga na ca'))) (cb lb (.slice gb' nb cb')) (by omega)
      have x_y : RowB ((((w6.alloc (.cells (cb 0 (.slice none 0 0)) 25)).alloc (.cells (cb 0 (.slice none 0 0)) 25)).setRow w6.heap.size (cb la (.slice ga na ca'))).setRow (w6.heap.size + 1) (cb lb (.slice gb' nb cb'))) (w6.heap.size + 1) lb (.slice gb' nb cb') := Row.put rb2 (cb lb (.slice gb' nb cb'))
      have B := Lib.hid (below_setRow (below_setRow B7 B6.size (cb la (.slice ga na ca'))) (Nat.le_trans B6.size (Nat.le_succ _)) (cb lb (.slice gb' nb cb')))
      clear oa ob oa2 ob2 al B6 B7
      go_wp2_with (first
        | (refine wl_loadB rfl _ rfl w6.heap.size la (.slice ga na ca') x_x rfl ?_)
        | (refine wl_loadB rfl _ rfl (w6.heap.size + 1) lb (.slice gb' nb cb') x_y rfl ?_)
        | (refine wl_storeB rfl _ _ rfl w6.heap.size la (.slice ga na ca') _ _ ra rfl rfl rfl ?_)
        | (refine wl_storeB rfl _ _ rfl (w6.heap.size + 1) lb (.slice gb' nb cb') _ _ rb2 rfl rfl rfl ?_))
      refine Calls.mono (HP1.out _ _ _ O_x.out.ints O_y.out.ints) ?_
      rintro e w7 ⟨v_p, rfl, o_p, b7⟩
      obtain ⟨g_p, c_p, hv_p, _⟩ := o_p.shape
      subst hv_p
      generalize hn_p : rp.length = n_p at *
      have N_p := Lib.hid hn_p; clear hn_p
      clear ra rb rb2
      have O_p := Lib.hid (o_p.below ((Below.refl _ _).alloc (Nat.le_refl _) (.cells (cb lr (.slice g_p n_p c_p)) 25)))
      clear o_p
      replace x_x := Row.alloc (Row.below x_x b7) (.cells (cb lr (.slice g_p n_p c_p)) 25)
      replace x_y := Row.alloc (Row.below x_y b7) (.cells (cb lr (.slice g_p n_p c_p)) 25)
      replace O_x := Lib.hid ((O_x.out.below b7).below ((Below.refl _ _).alloc (Nat.le_refl _) (.cells (cb lr (.slice g_p n_p c_p)) 25)))
      replace O_y := Lib.hid ((O_y.out.below b7).below ((Below.refl _ _).alloc (Nat.le_refl _) (.cells (cb lr (.slice g_p n_p c_p)) 25)))
      have BB := bst B.out b7 B.out.size
      replace B := Lib.hid (BB.alloc BB.size (.cells (cb lr (.slice g_p n_p c_p)) 25))
      clear BB
      clear b7
      have x_p : RowB (w7.alloc (.cells (cb lr (.slice g_p n_p c_p)) 25)) w7.heap.size lr (.slice g_p n_p c_p) := Row.new w7 _ _
      go_wp2_with (first
        | (refine wl_loadB rfl _ rfl w6.heap.size la (.slice ga na ca') x_x rfl ?_)
        | (refine wl_loadB rfl _ rfl (w6.heap.size + 1) lb (.slice gb' nb cb') x_y rfl ?_))
      refine Calls.mono (HP2.out _ _ _ O_x.out.ints O_y.out.ints) ?_
      rintro e w8 ⟨v_both, rfl, o_both, b8⟩
      obtain ⟨g_both, c_both, hv_both, _⟩ := o_both.shape
      subst hv_both
      generalize hn_both : rp.length = n_both at *
      have N_both := Lib.hid hn_both; clear hn_both
      have O_both := Lib.hid (o_both.below ((Below.refl _ _).alloc (Nat.le_refl _) (.cells (cb lr (.slice g_both n_both c_both)) 25)))
      clear o_both
      replace x_x := Row.alloc (Row.below x_x b8) (.cells (cb lr (.slice g_both n_both c_both)) 25)
      replace x_y := Row.alloc (Row.below x_y b8) (.cells (cb lr (.slice g_both n_both c_both)) 25)
      replace x_p := Row.alloc (Row.below x_p b8) (.cells (cb lr (.slice g_both n_both c_both)) 25)
      replace O_x := Lib.hid ((O_x.out.below b8).below ((Below.refl _ _).alloc (Nat.le_refl _) (.cells (cb lr (.slice g_both n_both c_both)) 25)))
      replace O_y := Lib.hid ((O_y.out.below b8).below ((Below.refl _ _).alloc (Nat.le_refl _) (.cells (cb lr (.slice g_both n_both c_both)) 25)))
      replace O_p := Lib.hid ((O_p.out.below b8).below ((Below.refl _ _).alloc (Nat.le_refl _) (.cells (cb lr (.slice g_both n_both c_both)) 25)))
      have BB := bst B.out b8 B.out.size
      replace B := Lib.hid (BB.alloc BB.size (.cells (cb lr (.slice g_both n_both c_both)) 25))
      clear BB
      clear b8
      have x_both : RowB (w8.alloc (.cells (cb lr (.slice g_both n_both c_both)) 25)) w8.heap.size lr (.slice g_both n_both c_both) := Row.new w8 _ _
      go_wp2_with (first
        | (refine wl_loadB rfl _ rfl w6.heap.size la (.slice ga na ca') x_x rfl ?_)
        | (refine wl_loadB rfl _ rfl (w6.heap.size + 1) lb (.slice gb' nb cb') x_y rfl ?_))
      refine Calls.mono (HQ1.out _ _ _ O_x.out.ints O_y.out.ints) ?_
      rintro e w9 ⟨v_q, rfl, o_q, b9⟩
      obtain ⟨g_q, c_q, hv_q, _⟩ := o_q.shape
      subst hv_q
      generalize hn_q : rq.length = n_q at *
      have N_q := Lib.hid hn_q; clear hn_q
      have O_q := Lib.hid (o_q.below ((Below.refl _ _).alloc (Nat.le_refl _) (.cells (cb lr (.slice g_q n_q c_q)) 25)))
      clear o_q
      replace x_x := Row.alloc (Row.below x_x b9) (.cells (cb lr (.slice g_q n_q c_q)) 25)
      replace x_y := Row.alloc (Row.below x_y b9) (.cells (cb lr (.slice g_q n_q c_q)) 25)
      replace x_p := Row.alloc (Row.below x_p b9) (.cells (cb lr (.slice g_q n_q c_q)) 25)
      replace x_both := Row.alloc (Row.below x_both b9) (.cells (cb lr (.slice g_q n_q c_q)) 25)
      replace O_x := Lib.hid ((O_x.out.below b9).below ((Below.refl _ _).alloc (Nat.le_refl _) (.cells (cb lr (.slice g_q n_q c_q)) 25)))
      replace O_y := Lib.hid ((O_y.out.below b9).below ((Below.refl _ _).alloc (Nat.le_refl _) (.cells (cb lr (.slice g_q n_q c_q)) 25)))
      replace O_p := Lib.hid ((O_p.out.below b9).below ((Below.refl _ _).alloc (Nat.le_refl _) (.cells (cb lr (.slice g_q n_q c_q)) 25)))
      replace O_both := Lib.hid ((O_both.out.below b9).below ((Below.refl _ _).alloc (Nat.le_refl _) (.cells (cb lr (.slice g_q n_q c_q)) 25)))
      have BB := bst B.out b9 B.out.size
      replace B := Lib.hid (BB.alloc BB.size (.cells (cb lr (.slice g_q n_q c_q)) 25))
      clear BB
      clear b9
      have x_q : RowB (w9.alloc (.cells (cb lr (.slice g_q n_q c_q)) 25)) w9.heap.size lr (.slice g_q n_q c_q) := Row.new w9 _ _
      go_wp2_with (first
        | (refine wl_loadB rfl _ rfl w6.heap.size la (.slice ga na ca') x_x rfl ?_)
        | (refine wl_loadB rfl _ rfl (w6.heap.size + 1) lb (.slice gb' nb cb') x_y rfl ?_))
      refine Calls.mono (HQ2.out _ _ _ O_x.out.ints O_y.out.ints) ?_
      rintro e w10 ⟨v_without, rfl, o_without, b10⟩
      obtain ⟨g_without, c_without, hv_without, _⟩ := o_without.shape
      subst hv_without
      generalize hn_without : rq.length = n_without at *
      have N_without := Lib.hid hn_without; clear hn_without
      have O_without := Lib.hid (o_without.below ((Below.refl _ _).alloc (Nat.le_refl _) (.cells (cb lr (.slice g_without n_without c_without)) 25)))
      clear o_without
      replace x_x := Row.alloc (Row.below x_x b10) (.cells (cb lr (.slice g_without n_without c_without)) 25)
      replace x_y := Row.alloc (Row.below x_y b10) (.cells (cb lr (.slice g_without n_without c_without)) 25)
      replace x_p := Row.alloc (Row.below x_p b10) (.cells (cb lr (.slice g_without n_without c_without)) 25)
      replace x_both := Row.alloc (Row.below x_both b10) (.cells (cb lr (.slice g_without n_without c_without)) 25)
      replace x_q := Row.alloc (Row.below x_q b10) (.cells (cb lr (.slice g_without n_without c_without)) 25)
      replace O_x := Lib.hid ((O_x.out.below b10).below ((Below.refl _ _).alloc (Nat.le_refl _) (.cells (cb lr (.slice g_without n_without c_without)) 25)))
      replace O_y := Lib.hid ((O_y.out.below b10).below ((Below.refl _ _).alloc (Nat.le_refl _) (.cells (cb lr (.slice g_without n_without c_without)) 25)))
      replace O_p := Lib.hid ((O_p.out.below b10).below ((Below.refl _ _).alloc (Nat.le_refl _) (.cells (cb lr (.slice g_without n_without c_without)) 25)))
      replace O_both := Lib.hid ((O_both.out.below b10).below ((Below.refl _ _).alloc (Nat.le_refl _) (.cells (cb lr (.slice g_without n_without c_without)) 25)))
      replace O_q := Lib.hid ((O_q.out.below b10).below ((Below.refl _ _).alloc (Nat.le_refl _) (.cells (cb lr (.slice g_without n_without c_without)) 25)))
      have BB := bst B.out b10 B.out.size
      replace B := Lib.hid (BB.alloc BB.size (.cells (cb lr (.slice g_without n_without c_without)) 25))
      clear BB
      clear b10
      have x_without : RowB (w10.alloc (.cells (cb lr (.slice g_without n_without c_without)) 25)) w10.heap.size lr (.slice g_without n_without c_without) := Row.new w10 _ _
      have e2 : (ok != ok) = false := by simp
      have q0_p := RowB.c0 x_p; have q1_p := RowB.c1 x_p
      have q0_both := RowB.c0 x_both; have q1_both := RowB.c1 x_both
      go_wp2_with fail
      clear q0_p q1_p
      clear q0_both q1_both
      refine Ans.go (same_true lr _ _ rp _ O_p.out.ints O_both.out.ints (LP.out _ rfl)) fun w11 b11 => ?_
      replace x_x := Row.below x_x b11
      replace x_y := Row.below x_y b11
      replace x_p := Row.below x_p b11
      replace x_both := Row.below x_both b11
      replace x_q := Row.below x_q b11
      replace x_without := Row.below x_without b11
      replace O_x := Lib.hid (O_x.out.below b11)
      replace O_y := Lib.hid (O_y.out.below b11)
      replace O_p := Lib.hid (O_p.out.below b11)
      replace O_both := Lib.hid (O_both.out.below b11)
      replace O_q := Lib.hid (O_q.out.below b11)
      replace O_without := Lib.hid (O_without.out.below b11)
      replace B := Lib.hid (bst B.out b11 B.out.size)
      clear b11
      generalize w7.heap.size = p_p at *
      generalize w8.heap.size = p_both at *
      generalize w9.heap.size = p_q at *
      generalize w10.heap.size = p_without at *
      clear x_both O_both
      have q0_q := RowB.c0 x_q; have q1_q := RowB.c1 x_q
      have q0_without := RowB.c0 x_without; have q1_without := RowB.c1 x_without
      go_wp2_with fail
      clear q0_q q1_q
      clear q0_without q1_without
      refine Ans.go (same_true lr _ _ rq _ O_q.out.ints O_without.out.ints (LQ.out _ rfl)) fun w12 b12 => ?_
      replace x_x := Row.below x_x b12
      replace x_y := Row.below x_y b12
      replace x_p := Row.below x_p b12
      replace x_q := Row.below x_q b12
      replace x_without := Row.below x_without b12
      replace O_x := Lib.hid (O_x.out.below b12)
      replace O_y := Lib.hid (O_y.out.below b12)
      replace O_p := Lib.hid (O_p.out.below b12)
      replace O_q := Lib.hid (O_q.out.below b12)
      replace O_without := Lib.hid (O_without.out.below b12)
      replace B := Lib.hid (bst B.out b12 B.out.size)
      clear b12
      clear x_without O_without
      cases ok
      · go_wp2
        go_ret
        exact ⟨rfl, B.out⟩
      · clear e2
        obtain ⟨A, C, D, E, lA, lC, lD, lE, sA, sC, sD, sE, gP, gQ, sum, mem⟩ := HK.out rfl
        have SA := Lib.hid sA; have SC := Lib.hid sC; have SD := Lib.hid sD; have SE := Lib.hid sE; have GP := Lib.hid gP; have GQ := Lib.hid gQ; have MEM := Lib.hid mem
        have LC : Hid (∀ X : List Int, X = C → X.length ≤ 1000) := fun X hX => by rw [hX]; omega
        have LD : Hid (∀ X : List Int, X = D → X.length ≤ 1000) := fun X hX => by rw [hX]; omega
        have LE : Hid (∀ X : List Int, X = E → X.length ≤ 1000) := fun X hX => by rw [hX]; omega
        clear sA sC sD sE gP gQ mem HK
        go_wp2_with (refine wl_loadB rfl _ rfl w6.heap.size la (.slice ga na ca') x_x rfl ?_)
        refine Calls.mono (SA.out _ _ O_x.out.ints (HT.out.below B.out)) ?_
        rintro e w13 ⟨v_A, rfl, o_A, b13⟩
        obtain ⟨g_A, c_A, hv_A, _⟩ := o_A.shape
        subst hv_A
        generalize hn_A : A.length = n_A at *
        have N_A := Lib.hid hn_A; clear hn_A
        replace x_x := Row.below x_x b13
        replace x_y := Row.below x_y b13
        replace x_p := Row.below x_p b13
        replace x_q := Row.below x_q b13
        replace O_x := Lib.hid (O_x.out.below b13)
        replace O_y := Lib.hid (O_y.out.below b13)
        replace O_p := Lib.hid (O_p.out.below b13)
        replace O_q := Lib.hid (O_q.out.below b13)
        replace B := Lib.hid (bst B.out b13 B.out.size)
        clear b13
        have O_A := Lib.hid o_A; clear o_A
        clear x_x O_x
        go_wp2_with (refine wl_loadB rfl _ rfl p_p lr (.slice g_p n_p c_p) x_p rfl ?_)
        refine Calls.mono (SC.out _ _ O_p.out.ints (HT.out.below B.out)) ?_
        rintro e w14 ⟨v_C, rfl, o_C, b14⟩
        obtain ⟨g_C, c_C, hv_C, _⟩ := o_C.shape
        subst hv_C
        generalize hn_C : C.length = n_C at *
        have N_C := Lib.hid hn_C; clear hn_C
        replace x_y := Row.below x_y b14
        replace x_p := Row.below x_p b14
        replace x_q := Row.below x_q b14
        replace O_y := Lib.hid (O_y.out.below b14)
        replace O_p := Lib.hid (O_p.out.below b14)
        replace O_q := Lib.hid (O_q.out.below b14)
        replace O_A := Lib.hid (O_A.out.below b14)
        replace B := Lib.hid (bst B.out b14 B.out.size)
        clear b14
        have O_C := Lib.hid o_C; clear o_C
        go_wp2_with (refine wl_loadB rfl _ rfl p_q lr (.slice g_q n_q c_q) x_q rfl ?_)
        refine Calls.mono (SD.out _ _ O_q.out.ints (HT.out.below B.out)) ?_
        rintro e w15 ⟨v_D, rfl, o_D, b15⟩
        obtain ⟨g_D, c_D, hv_D, _⟩ := o_D.shape
        subst hv_D
        generalize hn_D : D.length = n_D at *
        have N_D := Lib.hid hn_D; clear hn_D
        replace x_y := Row.below x_y b15
        replace x_p := Row.below x_p b15
        replace x_q := Row.below x_q b15
        replace O_y := Lib.hid (O_y.out.below b15)
        replace O_p := Lib.hid (O_p.out.below b15)
        replace O_q := Lib.hid (O_q.out.below b15)
        replace O_A := Lib.hid (O_A.out.below b15)
        replace O_C := Lib.hid (O_C.out.below b15)
        replace B := Lib.hid (bst B.out b15 B.out.size)
        clear b15
        have O_D := Lib.hid o_D; clear o_D
        go_wp2_with (refine wl_loadB rfl _ rfl (w6.heap.size + 1) lb (.slice gb' nb cb') x_y rfl ?_)
        refine Calls.mono (SE.out _ _ O_y.out.ints (HT.out.below B.out)) ?_
        rintro e w16 ⟨v_E, rfl, o_E, b16⟩
        obtain ⟨g_E, c_E, hv_E, _⟩ := o_E.shape
        subst hv_E
        generalize hn_E : E.length = n_E at *
        have N_E := Lib.hid hn_E; clear hn_E
        replace x_y := Row.below x_y b16
        replace x_p := Row.below x_p b16
        replace x_q := Row.below x_q b16
        replace O_y := Lib.hid (O_y.out.below b16)
        replace O_p := Lib.hid (O_p.out.below b16)
        replace O_q := Lib.hid (O_q.out.below b16)
        replace O_A := Lib.hid (O_A.out.below b16)
        replace O_C := Lib.hid (O_C.out.below b16)
        replace O_D := Lib.hid (O_D.out.below b16)
        replace B := Lib.hid (bst B.out b16 B.out.size)
        clear b16
        have O_E := Lib.hid o_E; clear o_E
        clear x_y O_y
        go_wp2_with (refine wl_loadB rfl _ rfl p_p lr (.slice g_p n_p c_p) x_p rfl ?_)
        refine Ans.go (GP.out _ _ O_p.out.ints) fun w17 b17 => ?_
        replace x_p := Row.below x_p b17
        replace x_q := Row.below x_q b17
        replace O_p := Lib.hid (O_p.out.below b17)
        replace O_q := Lib.hid (O_q.out.below b17)
        replace O_A := Lib.hid (O_A.out.below b17)
        replace O_C := Lib.hid (O_C.out.below b17)
        replace O_D := Lib.hid (O_D.out.below b17)
        replace O_E := Lib.hid (O_E.out.below b17)
        replace B := Lib.hid (bst B.out b17 B.out.size)
        clear b17
        have q0_q := RowB.c0 x_q; have q1_q := RowB.c1 x_q
        go_wp2_with fail
        clear q0_q q1_q
        refine Ans.go (GQ.out _ _ O_q.out.ints) fun w18 b18 => ?_
        replace x_p := Row.below x_p b18
        replace x_q := Row.below x_q b18
        replace O_p := Lib.hid (O_p.out.below b18)
        replace O_q := Lib.hid (O_q.out.below b18)
        replace O_A := Lib.hid (O_A.out.below b18)
        replace O_C := Lib.hid (O_C.out.below b18)
        replace O_D := Lib.hid (O_D.out.below b18)
        replace O_E := Lib.hid (O_E.out.below b18)
        replace B := Lib.hid (bst B.out b18 B.out.size)
        clear b18
        clear x_p O_p
        clear x_q O_q
        have i1 : wrap64 ((n_C : Int) + (n_D : Int)) = (n_A : Int) := by rw [sum]; simp only [RowKit.wrap64]; omega
        have i2 : ((n_A : Int) != (n_A : Int)) = false := by simp
        have HA := Lib.hid O_A.out.holds
        have IC := Lib.hid O_C.out.ints; have ID := Lib.hid O_D.out.ints; have IE := Lib.hid O_E.out.ints
        clear O_A O_C O_D O_E
        go_wp2_with fail
        clear i1 i2 sum
        go_loopw [202] (fun i wr => ∃ k : Nat, k ≤ n_A ∧ i = .int .i64 k ∧ wr = w18) (fun i _ => n_A - (intOf i).toNat)
        case atStart => exact ⟨0, Nat.zero_le _, rfl, rfl⟩
        case round =>
          obtain ⟨k, hk, rfl, rfl⟩ := hrel
          by_cases hlt : k < n_A
          · obtain ⟨bA, oA, rfl, hca⟩ := HA.out (by omega)
            have q1 := hca k hlt
            have i1 : (k : Int) < (n_A : Int) := by omega
            obtain ⟨f1, f2⟩ := MEM.out k hlt
            generalize A.getD k 0 = y at q1 f1 f2
            generalize ht : decide (y ∈ E) = t at f1 f2
            have HT1 := Lib.hid ht; have F1 := Lib.hid f1; have F2 := Lib.hid f2
            clear hca ht f1 f2
            go_wp2_with fail
            refine (c_has _ C y _ IC.out (LC.out _ rfl)).mono ?_
            rintro e w' ⟨rfl, rfl⟩
            rw [F1.out]
            go_wp2_with fail
            refine (c_has _ E y _ IE.out (LE.out _ rfl)).mono ?_
            rintro e w' ⟨rfl, rfl⟩
            rw [HT1.out]
            have e5 : (t != t) = false := by simp
            have e6 : ((!t) == t) = false := by simp
            go_wp2_with fail
            refine (c_has _ D y _ ID.out (LD.out _ rfl)).mono ?_
            rintro e w' ⟨rfl, rfl⟩
            rw [F2.out]
            go_wp2_with fail
            refine (c_has _ E y _ IE.out (LE.out _ rfl)).mono ?_
            rintro e w' ⟨rfl, rfl⟩
            rw [HT1.out]
            go_wp2
            go_roundw
            case rel => exact ⟨k + 1, by omega, by go_num, trivial⟩
            case measure => simp [intOf]; omega
          · have i1 : ¬ (k : Int) < (n_A : Int) := by omega
            go_wp2
            go_ret
            exact ⟨rfl, B.out⟩
end Go.Proofs.YtlmelabddaapeaaDoor
