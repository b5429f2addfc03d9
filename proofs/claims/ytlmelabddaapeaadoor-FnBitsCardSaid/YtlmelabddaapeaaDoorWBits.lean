/- The walk of laws.FnBits. -/
import Derived.Test.YtlmelabddaapeaaDoorDg
namespace Go.Proofs.YtlmelabddaapeaaDoor
open Go.RowKit Pb

theorem cellBelow' {w w' : World} {a : Addr} {x : Value} (hb : Below w.heap.size w w') (h : w.cell? a = some x) : w'.cell? a = some x := (hb.cell (block_lt_of_cell h)).trans h
set_option maxHeartbeats 12800000 in
set_option maxRecDepth 100000 in
theorem walk_FnBits (v0 : Value) (z0 : List Int) (v1 : Value) (z1 : List Int) (w : World) (hz0 : BytesAt w v0 z0) (hz1 : BytesAt w v1 z1) (hT : TabB w) : Calls Tryd.prog 3 #[v0, v1] w fun e w' => e = .returned (.bool true) ∧ Below w.heap.size w w' := by
  obtain ⟨_, _, a0, ca, hv, _⟩ := id hz0
  obtain ⟨_, _, a2, ca2, hv2, _⟩ := id hz1
  have HZ := Lib.hid hz0; have HZ2 := Lib.hid hz1; clear hz0 hz1
  have HT := Lib.hid hT; clear hT
  subst hv
  subst hv2
  generalize hn : z0.length = n at *
  generalize hn2 : z1.length = n2 at *
  clear hn hn2
  by_cases hm : 1048576 < wrap64 ((n : Int) + (n2 : Int))
  · go_enter Tryd.func3, Tryd.ntmps3
    go_wp2
    go_ret
    exact ⟨rfl, Below.refl _ _⟩
  · have B := Lib.hid (Below.refl w.heap.size w)
    go_enter Tryd.func3, Tryd.ntmps3
    go_wp2_with fail
    refine Calls.mono (c_DrawSetRun _ z0 _ HZ.out) ?_
    rintro e w1 ⟨long, v_b, zs, a, b, on, hl6, hlr, ha, hb, rfl, o_b, b1⟩
    obtain ⟨lr, rs, ok, hrs, hI, hS, hK⟩ := run_facts long zs a b on
    obtain ⟨g, hgS, hgI⟩ := good_facts long zs
    have HS := Lib.hid hS; have HI := Lib.hid hI; have HK := Lib.hid hK; have GS := Lib.hid hgS; have GI := Lib.hid hgI; clear hS hI hK hgS hgI
    have LR : Hid (∀ X : List Int, X = rs → X.length ≤ 9223372036854775806) := fun X hX => by rw [hX]; omega
    clear hl6 hrs
    obtain ⟨g_b, c_b, hv_b, _⟩ := o_b.shape
    subst hv_b
    generalize hn_b : zs.length = n_b at *
    have N_b := Lib.hid hn_b; clear hn_b
    have O_b := Lib.hid (o_b.below ((Below.refl _ _).alloc (Nat.le_refl _) (.cells (cb long (.slice g_b n_b c_b)) 25)))
    replace O_b := Lib.hid O_b.out.ints
    clear o_b
    have BB := bst B.out b1 B.out.size
    replace B := Lib.hid (BB.alloc BB.size (.cells (cb long (.slice g_b n_b c_b)) 25))
    clear BB
    clear b1
    have x_b : RowB (w1.alloc (.cells (cb long (.slice g_b n_b c_b)) 25)) w1.heap.size long (.slice g_b n_b c_b) := Row.new w1 _ _
    go_wp2_with (refine wl_loadB rfl _ rfl w1.heap.size long (.slice g_b n_b c_b) x_b rfl ?_)
    refine Calls.mono (HI.out _ _ O_b.out) ?_
    rintro e w2 ⟨v_s, rfl, o_s, b2⟩
    obtain ⟨g_s, c_s, hv_s, _⟩ := o_s.shape
    subst hv_s
    generalize hn_s : rs.length = n_s at *
    have N_s := Lib.hid hn_s; clear hn_s
    have O_s := Lib.hid (o_s.below ((Below.refl _ _).alloc (Nat.le_refl _) (.cells (cb lr (.slice g_s n_s c_s)) 25)))
    replace O_s := Lib.hid O_s.out.ints
    clear o_s
    replace x_b := Row.alloc (Row.below x_b b2) (.cells (cb lr (.slice g_s n_s c_s)) 25)
    replace O_b := Lib.hid ((O_b.out.below b2).below ((Below.refl _ _).alloc (Nat.le_refl _) (.cells (cb lr (.slice g_s n_s c_s)) 25)))
    have BB := bst B.out b2 B.out.size
    replace B := Lib.hid (BB.alloc BB.size (.cells (cb lr (.slice g_s n_s c_s)) 25))
    clear BB
    clear b2
    have x_s : RowB (w2.alloc (.cells (cb lr (.slice g_s n_s c_s)) 25)) w2.heap.size lr (.slice g_s n_s c_s) := Row.new w2 _ _
    generalize w1.heap.size = p_b at *
    go_wp2_with (refine wl_loadB rfl _ rfl p_b long (.slice g_b n_b c_b) x_b rfl ?_)
    refine Calls.mono (HS.out _ _ O_b.out) ?_
    rintro e w3 ⟨v_want, rfl, o_want, b3⟩
    obtain ⟨g_want, c_want, hv_want, _⟩ := o_want.shape
    subst hv_want
    generalize hn_want : rs.length = n_want at *
    have N_want := Lib.hid hn_want; clear hn_want
    have O_want := Lib.hid (o_want.below ((Below.refl _ _).alloc (Nat.le_refl _) (.cells (cb lr (.slice g_want n_want c_want)) 25)))
    replace O_want := Lib.hid O_want.out.ints
    clear o_want
    replace x_b := Row.alloc (Row.below x_b b3) (.cells (cb lr (.slice g_want n_want c_want)) 25)
    replace x_s := Row.alloc (Row.below x_s b3) (.cells (cb lr (.slice g_want n_want c_want)) 25)
    replace O_b := Lib.hid ((O_b.out.below b3).below ((Below.refl _ _).alloc (Nat.le_refl _) (.cells (cb lr (.slice g_want n_want c_want)) 25)))
    replace O_s := Lib.hid ((O_s.out.below b3).below ((Below.refl _ _).alloc (Nat.le_refl _) (.cells (cb lr (.slice g_want n_want c_want)) 25)))
    have BB := bst B.out b3 B.out.size
    replace B := Lib.hid (BB.alloc BB.size (.cells (cb lr (.slice g_want n_want c_want)) 25))
    clear BB
    clear b3
    have x_want : RowB (w3.alloc (.cells (cb lr (.slice g_want n_want c_want)) 25)) w3.heap.size lr (.slice g_want n_want c_want) := Row.new w3 _ _
    generalize w2.heap.size = p_s at *
    have e2 : (ok != ok) = false := by simp
    have e3 : (g != g) = false := by simp
    go_wp2_with fail
    generalize w3.heap.size = p_want at *
    generalize w3.alloc (.cells (cb lr (.slice g_want n_want c_want)) 25) = cur at *
    replace x_b : RowB cur.drew p_b long (.slice g_b n_b c_b) := x_b
    have q0_b := RowB.c0 x_b; have q1_b := RowB.c1 x_b
    have J_b : IntsAt cur.drew (.slice g_b n_b c_b) zs := O_b.out
    replace x_s : RowB cur.drew p_s lr (.slice g_s n_s c_s) := x_s
    have q0_s := RowB.c0 x_s; have q1_s := RowB.c1 x_s
    have J_s : IntsAt cur.drew (.slice g_s n_s c_s) rs := O_s.out
    replace x_want : RowB cur.drew p_want lr (.slice g_want n_want c_want) := x_want
    have q0_want := RowB.c0 x_want; have q1_want := RowB.c1 x_want
    have J_want : IntsAt cur.drew (.slice g_want n_want c_want) rs := O_want.out
    have L5 := below_drew B.out
    clear O_b
    clear O_s
    clear O_want
    clear B
    go_region_held3 (fun w' => RowB w' p_b long (.slice g_b n_b c_b) ∧ RowB w' p_s lr (.slice g_s n_s c_s) ∧ RowB w' p_want lr (.slice g_want n_want c_want) ∧ w'.cell? ⟨p_b, 0, none⟩ = some (.int .i64 long) ∧ w'.cell? ⟨p_b, 1, none⟩ = some (.slice g_b n_b c_b) ∧ w'.cell? ⟨p_s, 0, none⟩ = some (.int .i64 lr) ∧ w'.cell? ⟨p_s, 1, none⟩ = some (.slice g_s n_s c_s) ∧ w'.cell? ⟨p_want, 0, none⟩ = some (.int .i64 lr) ∧ w'.cell? ⟨p_want, 1, none⟩ = some (.slice g_want n_want c_want) ∧ IntsAt w' (.slice g_b n_b c_b) zs ∧ IntsAt w' (.slice g_s n_s c_s) rs ∧ IntsAt w' (.slice g_want n_want c_want) rs ∧ Below w.heap.size w w')
      (first
        | (with_reducible exact ⟨x_b, x_s, x_want, q0_b, q1_b, q0_s, q1_s, q0_want, q1_want, J_b, J_s, J_want, L5⟩)
        | (go_split_ands
           exact ⟨Row.below (by assumption) hbk, Row.below (by assumption) hbk, Row.below (by assumption) hbk, cellBelow' hbk (by assumption), cellBelow' hbk (by assumption), cellBelow' hbk (by assumption), cellBelow' hbk (by assumption), cellBelow' hbk (by assumption), cellBelow' hbk (by assumption), IntsAt.below (by assumption) hbk, IntsAt.below (by assumption) hbk, IntsAt.below (by assumption) hbk, bst (by assumption) hbk (Below.size (by assumption))⟩)
        | (go_split_ands; refine ⟨?_, ?_, ?_, ?_, ?_, ?_, ?_, ?_, ?_, ?_, ?_, ?_, ?_⟩ <;> assumption))
      (first
        | (go_at_call 10; go_split_ands; refine Ans.go (same_true lr _ _ rs _ (by assumption) (by assumption) (LR.out _ rfl)) fun w6 hbk => ?_)
        | (go_at_call 11; go_split_ands; refine Ans.go (GI.out _ _ (by assumption)) fun w7 hbk => ?_)
        | (go_at_call 12; go_split_ands; refine Ans.go (GS.out _ _ (by assumption)) fun w8 hbk => ?_))
    rename_i hfin
    obtain ⟨x_b, x_s, _, _, _, _, _, _, _, J_b, J_s, _, hB⟩ := hfin
    generalize w8 = cur9 at *
    have O_b := Lib.hid J_b; have O_s := Lib.hid J_s; have B := Lib.hid hB
    clear J_b J_s hB e2 e3 GS GI HS HI LR
    cases ok
    · skip
      clear HK
      clear x_b O_b
      clear x_s O_s
      go_wp2_with fail
      refine Calls.mono (c_DrawCountSet _ z1 _ (HZ2.out.below B.out)) ?_
      rintro e w4 ⟨lu, v_u, zu, ua, ub, _, _, _, _, rfl, o_u, b4⟩
      obtain ⟨cn, cok, hcS, hcI⟩ := count_facts lu zu ua ub
      have HcS := Lib.hid hcS; have HcI := Lib.hid hcI; clear hcS hcI
      obtain ⟨g_u, c_u, hv_u, _⟩ := o_u.shape
      subst hv_u
      generalize hn_u : zu.length = n_u at *
      have N_u := Lib.hid hn_u; clear hn_u
      have O_u := Lib.hid (o_u.below ((Below.refl _ _).alloc (Nat.le_refl _) (.cells (cb lu (.slice g_u n_u c_u)) 25)))
      replace O_u := Lib.hid O_u.out.ints
      clear o_u
      have BB := bst B.out b4 B.out.size
      replace B := Lib.hid (BB.alloc BB.size (.cells (cb lu (.slice g_u n_u c_u)) 25))
      clear BB
      clear b4
      have x_u : RowB (w4.alloc (.cells (cb lu (.slice g_u n_u c_u)) 25)) w4.heap.size lu (.slice g_u n_u c_u) := Row.new w4 _ _
      go_wp2_with (refine wl_loadB rfl _ rfl w4.heap.size lu (.slice g_u n_u c_u) x_u rfl ?_)
      refine Ans.go (HcI.out _ _ O_u.out) fun w5 b5 => ?_
      replace x_u := Row.below x_u b5
      replace O_u := Lib.hid (O_u.out.below b5)
      replace B := Lib.hid (bst B.out b5 B.out.size)
      clear b5
      generalize w4.heap.size = p_u at *
      go_wp2_with (refine wl_loadB rfl _ rfl p_u lu (.slice g_u n_u c_u) x_u rfl ?_)
      refine Ans.go (HcS.out _ _ O_u.out) fun w6 b6 => ?_
      replace x_u := Row.below x_u b6
      replace O_u := Lib.hid (O_u.out.below b6)
      replace B := Lib.hid (bst B.out b6 B.out.size)
      clear b6
      clear x_u O_u
      go_wp2_with fail
      refine Calls.mono (c_DrawIsSet _ z1 _ (HZ2.out.below B.out)) ?_
      rintro e w7 ⟨lv, v_v, zv, va, _, _, _, rfl, o_v, b7⟩
      obtain ⟨ix, iok, hiS, hiI⟩ := isset_facts lv zv va
      have HiS := Lib.hid hiS; have HiI := Lib.hid hiI; clear hiS hiI
      obtain ⟨g_v, c_v, hv_v, _⟩ := o_v.shape
      subst hv_v
      generalize hn_v : zv.length = n_v at *
      have N_v := Lib.hid hn_v; clear hn_v
      have O_v := Lib.hid (o_v.below ((Below.refl _ _).alloc (Nat.le_refl _) (.cells (cb lv (.slice g_v n_v c_v)) 25)))
      replace O_v := Lib.hid O_v.out.ints
      clear o_v
      have BB := bst B.out b7 B.out.size
      replace B := Lib.hid (BB.alloc BB.size (.cells (cb lv (.slice g_v n_v c_v)) 25))
      clear BB
      clear b7
      have x_v : RowB (w7.alloc (.cells (cb lv (.slice g_v n_v c_v)) 25)) w7.heap.size lv (.slice g_v n_v c_v) := Row.new w7 _ _
      go_wp2_with (refine wl_loadB rfl _ rfl w7.heap.size lv (.slice g_v n_v c_v) x_v rfl ?_)
      refine Ans.go (HiI.out _ _ O_v.out) fun w8 b8 => ?_
      replace x_v := Row.below x_v b8
      replace O_v := Lib.hid (O_v.out.below b8)
      replace B := Lib.hid (bst B.out b8 B.out.size)
      clear b8
      generalize w7.heap.size = p_v at *
      go_wp2_with (refine wl_loadB rfl _ rfl p_v lv (.slice g_v n_v c_v) x_v rfl ?_)
      refine Ans.go (HiS.out _ _ O_v.out) fun w9 b9 => ?_
      replace x_v := Row.below x_v b9
      replace O_v := Lib.hid (O_v.out.below b9)
      replace B := Lib.hid (bst B.out b9 B.out.size)
      clear b9
      clear x_v O_v
      go_wp2_with fail
      refine Calls.mono (c_DrawSetList _ z1 _ (HZ2.out.below B.out)) ?_
      rintro e w10 ⟨lw, v_w, zw, _, _, rfl, o_w, b10⟩
      obtain ⟨lz, lok, hll, hlS, hlI⟩ := list_facts lw zw
      have HlS := Lib.hid hlS; have HlI := Lib.hid hlI; clear hlS hlI
      have LZ : Hid (∀ X : List Int, X = lz → X.length ≤ 9223372036854775806) := fun X hX => by rw [hX]; omega
      clear hll
      obtain ⟨g_w, c_w, hv_w, _⟩ := o_w.shape
      subst hv_w
      generalize hn_w : zw.length = n_w at *
      have N_w := Lib.hid hn_w; clear hn_w
      have O_w := Lib.hid (o_w.below ((Below.refl _ _).alloc (Nat.le_refl _) (.cells (cb lw (.slice g_w n_w c_w)) 25)))
      replace O_w := Lib.hid O_w.out.ints
      clear o_w
      have BB := bst B.out b10 B.out.size
      replace B := Lib.hid (BB.alloc BB.size (.cells (cb lw (.slice g_w n_w c_w)) 25))
      clear BB
      clear b10
      have x_w : RowB (w10.alloc (.cells (cb lw (.slice g_w n_w c_w)) 25)) w10.heap.size lw (.slice g_w n_w c_w) := Row.new w10 _ _
      go_wp2_with (refine wl_loadB rfl _ rfl w10.heap.size lw (.slice g_w n_w c_w) x_w rfl ?_)
      refine Calls.mono (HlI.out _ _ O_w.out (HT.out.below B.out)) ?_
      rintro e w11 ⟨v_l1, rfl, o_l1, b11⟩
      obtain ⟨g_l1, c_l1, hv_l1, _⟩ := o_l1.shape
      subst hv_l1
      generalize hn_l1 : lz.length = n_l1 at *
      have N_l1 := Lib.hid hn_l1; clear hn_l1
      replace x_w := Row.below x_w b11
      replace O_w := Lib.hid (O_w.out.below b11)
      replace B := Lib.hid (bst B.out b11 B.out.size)
      clear b11
      have O_l1 := Lib.hid o_l1.ints; clear o_l1
      generalize w10.heap.size = p_w at *
      go_wp2_with (refine wl_loadB rfl _ rfl p_w lw (.slice g_w n_w c_w) x_w rfl ?_)
      refine Calls.mono (HlS.out _ _ O_w.out) ?_
      rintro e w12 ⟨v_l2, rfl, o_l2, b12⟩
      obtain ⟨g_l2, c_l2, hv_l2, _⟩ := o_l2.shape
      subst hv_l2
      generalize hn_l2 : lz.length = n_l2 at *
      have N_l2 := Lib.hid hn_l2; clear hn_l2
      replace x_w := Row.below x_w b12
      replace O_w := Lib.hid (O_w.out.below b12)
      replace O_l1 := Lib.hid (O_l1.out.below b12)
      replace B := Lib.hid (bst B.out b12 B.out.size)
      clear b12
      have O_l2 := Lib.hid o_l2.ints; clear o_l2
      clear x_w O_w
      go_wp2_with fail
      refine Calls.mono (c_DrawNewBits _ z1 _ (HZ2.out.below B.out)) ?_
      rintro e w13 ⟨kk, _, rfl, b13⟩
      replace O_l1 := Lib.hid (O_l1.out.below b13)
      replace O_l2 := Lib.hid (O_l2.out.below b13)
      replace B := Lib.hid (bst B.out b13 B.out.size)
      clear b13
      obtain ⟨nl, nz, nok, hnl, hnS, hnI⟩ := new_facts kk
      have HnS := Lib.hid hnS; have HnI := Lib.hid hnI; clear hnS hnI
      have LN : Hid (∀ X : List Int, X = nz → X.length ≤ 9223372036854775806) := fun X hX => by rw [hX]; omega
      clear hnl
      go_wp2_with fail
      refine Calls.mono (HnI.out _) ?_
      rintro e w14 ⟨v_x, rfl, o_x, b14⟩
      obtain ⟨g_x, c_x, hv_x, _⟩ := o_x.shape
      subst hv_x
      generalize hn_x : nz.length = n_x at *
      have N_x := Lib.hid hn_x; clear hn_x
      have O_x := Lib.hid (o_x.below ((Below.refl _ _).alloc (Nat.le_refl _) (.cells (cb nl (.slice g_x n_x c_x)) 25)))
      replace O_x := Lib.hid O_x.out.ints
      clear o_x
      replace O_l1 := Lib.hid ((O_l1.out.below b14).below ((Below.refl _ _).alloc (Nat.le_refl _) (.cells (cb nl (.slice g_x n_x c_x)) 25)))
      replace O_l2 := Lib.hid ((O_l2.out.below b14).below ((Below.refl _ _).alloc (Nat.le_refl _) (.cells (cb nl (.slice g_x n_x c_x)) 25)))
      have BB := bst B.out b14 B.out.size
      replace B := Lib.hid (BB.alloc BB.size (.cells (cb nl (.slice g_x n_x c_x)) 25))
      clear BB
      clear b14
      have x_x : RowB (w14.alloc (.cells (cb nl (.slice g_x n_x c_x)) 25)) w14.heap.size nl (.slice g_x n_x c_x) := Row.new w14 _ _
      go_wp2_with fail
      refine Calls.mono (HnS.out _) ?_
      rintro e w15 ⟨v_made, rfl, o_made, b15⟩
      obtain ⟨g_made, c_made, hv_made, _⟩ := o_made.shape
      subst hv_made
      generalize hn_made : nz.length = n_made at *
      have N_made := Lib.hid hn_made; clear hn_made
      have O_made := Lib.hid (o_made.below ((Below.refl _ _).alloc (Nat.le_refl _) (.cells (cb nl (.slice g_made n_made c_made)) 25)))
      replace O_made := Lib.hid O_made.out.ints
      clear o_made
      replace x_x := Row.alloc (Row.below x_x b15) (.cells (cb nl (.slice g_made n_made c_made)) 25)
      replace O_l1 := Lib.hid ((O_l1.out.below b15).below ((Below.refl _ _).alloc (Nat.le_refl _) (.cells (cb nl (.slice g_made n_made c_made)) 25)))
      replace O_l2 := Lib.hid ((O_l2.out.below b15).below ((Below.refl _ _).alloc (Nat.le_refl _) (.cells (cb nl (.slice g_made n_made c_made)) 25)))
      replace O_x := Lib.hid ((O_x.out.below b15).below ((Below.refl _ _).alloc (Nat.le_refl _) (.cells (cb nl (.slice g_made n_made c_made)) 25)))
      have BB := bst B.out b15 B.out.size
      replace B := Lib.hid (BB.alloc BB.size (.cells (cb nl (.slice g_made n_made c_made)) 25))
      clear BB
      clear b15
      have x_made : RowB (w15.alloc (.cells (cb nl (.slice g_made n_made c_made)) 25)) w15.heap.size nl (.slice g_made n_made c_made) := Row.new w15 _ _
      generalize w14.heap.size = p_x at *
      have t1 : (cok == cok) = true := by simp
      have t2 : (cn == cn) = true := by simp
      have t3 : (iok == iok) = true := by simp
      have t4 : (ix == ix) = true := by simp
      have t5 : (lok == lok) = true := by simp
      have t6 : (nok == nok) = true := by simp
      go_wp2_with fail
      refine Ans.go (same_ints _ _ lz _ O_l1.out O_l2.out (LZ.out _ rfl)) fun w16 b16 => ?_
      replace x_x := Row.below x_x b16
      replace x_made := Row.below x_made b16
      replace O_l1 := Lib.hid (O_l1.out.below b16)
      replace O_l2 := Lib.hid (O_l2.out.below b16)
      replace O_x := Lib.hid (O_x.out.below b16)
      replace O_made := Lib.hid (O_made.out.below b16)
      replace B := Lib.hid (bst B.out b16 B.out.size)
      clear b16
      generalize w15.heap.size = p_made at *
      have q0_x := RowB.c0 x_x; have q1_x := RowB.c1 x_x
      have q0_made := RowB.c0 x_made; have q1_made := RowB.c1 x_made
      go_wp2_with fail
      clear q0_x q1_x
      clear q0_made q1_made
      refine Ans.go (same_true nl _ _ nz _ O_x.out O_made.out (LN.out _ rfl)) fun w17 b17 => ?_
      replace x_x := Row.below x_x b17
      replace x_made := Row.below x_made b17
      replace O_l1 := Lib.hid (O_l1.out.below b17)
      replace O_l2 := Lib.hid (O_l2.out.below b17)
      replace O_x := Lib.hid (O_x.out.below b17)
      replace O_made := Lib.hid (O_made.out.below b17)
      replace B := Lib.hid (bst B.out b17 B.out.size)
      clear b17
      go_wp2
      go_ret
      exact ⟨rfl, B.out⟩
    · skip
      obtain ⟨hll, hab, nS, l, hl96, hat, hcnt, hlst, hall, hgood, hnS⟩ := HK.out rfl
      subst hll
      have HAT := Lib.hid hat; have HCNT := Lib.hid hcnt; have HLST := Lib.hid hlst; have HALL := Lib.hid hall; have HGOOD := Lib.hid hgood; have HNS := Lib.hid hnS
      clear hnS hat hcnt hlst hall hgood HK
      go_wp2_with fail
      go_loopw [13] (fun i wr => ∃ k : Nat, (k : Int) ≤ lr ∧ i = .int .i64 k ∧ RowB wr p_b lr (.slice g_b n_b c_b) ∧ RowB wr p_s lr (.slice g_s n_s c_s) ∧ IntsAt wr (.slice g_b n_b c_b) zs ∧ IntsAt wr (.slice g_s n_s c_s) rs ∧ Below w.heap.size w wr) (fun i _ => lr.toNat - (intOf i).toNat)
      case atStart => exact ⟨0, by omega, rfl, x_b, x_s, O_b.out, O_s.out, B.out⟩
      case round =>
        clear x_b x_s O_b O_s B
        obtain ⟨k, hk, rfl, x_b, x_s, J_b, J_s, hB⟩ := hrel
        have q0 := RowB.c0 x_b
        have O_b := Lib.hid J_b; have O_s := Lib.hid J_s; have B := Lib.hid hB
        clear J_b J_s hB
        by_cases hlt : (k : Int) < lr
        · obtain ⟨x, y, hx, hy, hin, hout⟩ := HAT.out k (by omega) hlt
          have HX := Lib.hid hx; have HY := Lib.hid hy; clear hx hy
          go_wp2_with (refine wl_loadB rfl _ rfl p_b lr (.slice g_b n_b c_b) x_b rfl ?_)
          refine Ans.go (HX.out _ _ O_b.out) fun w4 b4 => ?_
          replace x_b := Row.below x_b b4
          replace x_s := Row.below x_s b4
          replace O_b := Lib.hid (O_b.out.below b4)
          replace O_s := Lib.hid (O_s.out.below b4)
          replace B := Lib.hid (bst B.out b4 B.out.size)
          clear b4
          clear q0
          go_wp2_with (refine wl_loadB rfl _ rfl p_s lr (.slice g_s n_s c_s) x_s rfl ?_)
          refine Ans.go (HY.out _ _ O_s.out) fun w5 b5 => ?_
          replace x_b := Row.below x_b b5
          replace x_s := Row.below x_s b5
          replace O_b := Lib.hid (O_b.out.below b5)
          replace O_s := Lib.hid (O_s.out.below b5)
          replace B := Lib.hid (bst B.out b5 B.out.size)
          clear b5
          have ee : (on != on) = false := by simp
          have ey : (y != y) = false := by simp
          by_cases h1 : a ≤ (k : Int)
          · by_cases h2 : (k : Int) < b
            · obtain rfl := hin ⟨h1, h2⟩
              clear hin hout
              go_wp2
              go_roundw
              case rel => exact ⟨k + 1, by omega, by go_num, x_b, x_s, O_b.out, O_s.out, B.out⟩
              case measure => simp [intOf]; omega
            · obtain rfl := hout (fun h => h2 h.2)
              clear hin hout
              go_wp2
              go_roundw
              case rel => exact ⟨k + 1, by omega, by go_num, x_b, x_s, O_b.out, O_s.out, B.out⟩
              case measure => simp [intOf]; omega
          · obtain rfl := hout (fun h => h1 h.1)
            clear hin hout
            go_wp2
            go_roundw
            case rel => exact ⟨k + 1, by omega, by go_num, x_b, x_s, O_b.out, O_s.out, B.out⟩
            case measure => simp [intOf]; omega
        · skip
          go_wp2_with (refine wl_loadB rfl _ rfl p_s lr (.slice g_s n_s c_s) x_s rfl ?_)
          refine Ans.go (HCNT.out _ _ O_s.out) fun w6 b6 => ?_
          replace x_b := Row.below x_b b6
          replace x_s := Row.below x_s b6
          replace O_b := Lib.hid (O_b.out.below b6)
          replace O_s := Lib.hid (O_s.out.below b6)
          replace B := Lib.hid (bst B.out b6 B.out.size)
          clear b6
          clear q0 HAT hk hlt
          clear x_b O_b
          go_wp2_with (refine wl_loadB rfl _ rfl p_s lr (.slice g_s n_s c_s) x_s rfl ?_)
          refine Calls.mono (HLST.out _ _ O_s.out (HT.out.below B.out)) ?_
          rintro e w7 ⟨v_ll, rfl, o_ll, b7⟩
          obtain ⟨g_ll, c_ll, hv_ll, _⟩ := o_ll.shape
          subst hv_ll
          generalize hn_ll : l.length = n_ll at *
          have N_ll := Lib.hid hn_ll; clear hn_ll
          replace x_s := Row.below x_s b7
          replace O_s := Lib.hid (O_s.out.below b7)
          replace B := Lib.hid (bst B.out b7 B.out.size)
          clear b7
          have O_ll := Lib.hid o_ll.ints; clear o_ll
          have q0 := RowB.c0 x_s
          go_wp2_with (refine wl_loadB rfl _ rfl p_s lr (.slice g_s n_s c_s) x_s rfl ?_)
          refine Ans.go (HALL.out _ _ O_s.out) fun w8 b8 => ?_
          replace x_s := Row.below x_s b8
          replace O_s := Lib.hid (O_s.out.below b8)
          replace O_ll := Lib.hid (O_ll.out.below b8)
          replace B := Lib.hid (bst B.out b8 B.out.size)
          clear b8
          clear q0
          go_wp2_with (refine wl_loadB rfl _ rfl p_s lr (.slice g_s n_s c_s) x_s rfl ?_)
          refine Ans.go (HGOOD.out _ _ O_s.out) fun w9 b9 => ?_
          replace x_s := Row.below x_s b9
          replace O_s := Lib.hid (O_s.out.below b9)
          replace O_ll := Lib.hid (O_ll.out.below b9)
          replace B := Lib.hid (bst B.out b9 B.out.size)
          clear b9
          clear x_s O_s
          have y1 : ((n_ll : Int) != (n_ll : Int)) = false := by simp
          have y2 : RowKit.wrap64 (b - a) = b - a := by simp only [RowKit.wrap64]; omega
          have y3 : (b - a != b - a) = false := by simp
          cases on
          · skip
            have hn0 : nS = 0 := HNS.out
            subst hn0
            clear HNS
            clear O_ll
            go_wp2_with fail
            refine Calls.mono (c_DrawCountSet _ z1 _ (HZ2.out.below B.out)) ?_
            rintro e w10 ⟨lu, v_u, zu, ua, ub, _, _, _, _, rfl, o_u, b10⟩
            obtain ⟨cn, cok, hcS, hcI⟩ := count_facts lu zu ua ub
            have HcS := Lib.hid hcS; have HcI := Lib.hid hcI; clear hcS hcI
            obtain ⟨g_u, c_u, hv_u, _⟩ := o_u.shape
            subst hv_u
            generalize hn_u : zu.length = n_u at *
            have N_u := Lib.hid hn_u; clear hn_u
            have O_u := Lib.hid (o_u.below ((Below.refl _ _).alloc (Nat.le_refl _) (.cells (cb lu (.slice g_u n_u c_u)) 25)))
            replace O_u := Lib.hid O_u.out.ints
            clear o_u
            have BB := bst B.out b10 B.out.size
            replace B := Lib.hid (BB.alloc BB.size (.cells (cb lu (.slice g_u n_u c_u)) 25))
            clear BB
            clear b10
            have x_u : RowB (w10.alloc (.cells (cb lu (.slice g_u n_u c_u)) 25)) w10.heap.size lu (.slice g_u n_u c_u) := Row.new w10 _ _
            go_wp2_with (refine wl_loadB rfl _ rfl w10.heap.size lu (.slice g_u n_u c_u) x_u rfl ?_)
            refine Ans.go (HcI.out _ _ O_u.out) fun w11 b11 => ?_
            replace x_u := Row.below x_u b11
            replace O_u := Lib.hid (O_u.out.below b11)
            replace B := Lib.hid (bst B.out b11 B.out.size)
            clear b11
            generalize w10.heap.size = p_u at *
            go_wp2_with (refine wl_loadB rfl _ rfl p_u lu (.slice g_u n_u c_u) x_u rfl ?_)
            refine Ans.go (HcS.out _ _ O_u.out) fun w12 b12 => ?_
            replace x_u := Row.below x_u b12
            replace O_u := Lib.hid (O_u.out.below b12)
            replace B := Lib.hid (bst B.out b12 B.out.size)
            clear b12
            clear x_u O_u
            go_wp2_with fail
            refine Calls.mono (c_DrawIsSet _ z1 _ (HZ2.out.below B.out)) ?_
            rintro e w13 ⟨lv, v_v, zv, va, _, _, _, rfl, o_v, b13⟩
            obtain ⟨ix, iok, hiS, hiI⟩ := isset_facts lv zv va
            have HiS := Lib.hid hiS; have HiI := Lib.hid hiI; clear hiS hiI
            obtain ⟨g_v, c_v, hv_v, _⟩ := o_v.shape
            subst hv_v
            generalize hn_v : zv.length = n_v at *
            have N_v := Lib.hid hn_v; clear hn_v
            have O_v := Lib.hid (o_v.below ((Below.refl _ _).alloc (Nat.le_refl _) (.cells (cb lv (.slice g_v n_v c_v)) 25)))
            replace O_v := Lib.hid O_v.out.ints
            clear o_v
            have BB := bst B.out b13 B.out.size
            replace B := Lib.hid (BB.alloc BB.size (.cells (cb lv (.slice g_v n_v c_v)) 25))
            clear BB
            clear b13
            have x_v : RowB (w13.alloc (.cells (cb lv (.slice g_v n_v c_v)) 25)) w13.heap.size lv (.slice g_v n_v c_v) := Row.new w13 _ _
            go_wp2_with (refine wl_loadB rfl _ rfl w13.heap.size lv (.slice g_v n_v c_v) x_v rfl ?_)
            refine Ans.go (HiI.out _ _ O_v.out) fun w14 b14 => ?_
            replace x_v := Row.below x_v b14
            replace O_v := Lib.hid (O_v.out.below b14)
            replace B := Lib.hid (bst B.out b14 B.out.size)
            clear b14
            generalize w13.heap.size = p_v at *
            go_wp2_with (refine wl_loadB rfl _ rfl p_v lv (.slice g_v n_v c_v) x_v rfl ?_)
            refine Ans.go (HiS.out _ _ O_v.out) fun w15 b15 => ?_
            replace x_v := Row.below x_v b15
            replace O_v := Lib.hid (O_v.out.below b15)
            replace B := Lib.hid (bst B.out b15 B.out.size)
            clear b15
            clear x_v O_v
            go_wp2_with fail
            refine Calls.mono (c_DrawSetList _ z1 _ (HZ2.out.below B.out)) ?_
            rintro e w16 ⟨lw, v_w, zw, _, _, rfl, o_w, b16⟩
            obtain ⟨lz, lok, hll, hlS, hlI⟩ := list_facts lw zw
            have HlS := Lib.hid hlS; have HlI := Lib.hid hlI; clear hlS hlI
            have LZ : Hid (∀ X : List Int, X = lz → X.length ≤ 9223372036854775806) := fun X hX => by rw [hX]; omega
            clear hll
            obtain ⟨g_w, c_w, hv_w, _⟩ := o_w.shape
            subst hv_w
            generalize hn_w : zw.length = n_w at *
            have N_w := Lib.hid hn_w; clear hn_w
            have O_w := Lib.hid (o_w.below ((Below.refl _ _).alloc (Nat.le_refl _) (.cells (cb lw (.slice g_w n_w c_w)) 25)))
            replace O_w := Lib.hid O_w.out.ints
            clear o_w
            have BB := bst B.out b16 B.out.size
            replace B := Lib.hid (BB.alloc BB.size (.cells (cb lw (.slice g_w n_w c_w)) 25))
            clear BB
            clear b16
            have x_w : RowB (w16.alloc (.cells (cb lw (.slice g_w n_w c_w)) 25)) w16.heap.size lw (.slice g_w n_w c_w) := Row.new w16 _ _
            go_wp2_with (refine wl_loadB rfl _ rfl w16.heap.size lw (.slice g_w n_w c_w) x_w rfl ?_)
            refine Calls.mono (HlI.out _ _ O_w.out (HT.out.below B.out)) ?_
            rintro e w17 ⟨v_l1, rfl, o_l1, b17⟩
            obtain ⟨g_l1, c_l1, hv_l1, _⟩ := o_l1.shape
            subst hv_l1
            generalize hn_l1 : lz.length = n_l1 at *
            have N_l1 := Lib.hid hn_l1; clear hn_l1
            replace x_w := Row.below x_w b17
            replace O_w := Lib.hid (O_w.out.below b17)
            replace B := Lib.hid (bst B.out b17 B.out.size)
            clear b17
            have O_l1 := Lib.hid o_l1.ints; clear o_l1
            generalize w16.heap.size = p_w at *
            go_wp2_with (refine wl_loadB rfl _ rfl p_w lw (.slice g_w n_w c_w) x_w rfl ?_)
            refine Calls.mono (HlS.out _ _ O_w.out) ?_
            rintro e w18 ⟨v_l2, rfl, o_l2, b18⟩
            obtain ⟨g_l2, c_l2, hv_l2, _⟩ := o_l2.shape
            subst hv_l2
            generalize hn_l2 : lz.length = n_l2 at *
            have N_l2 := Lib.hid hn_l2; clear hn_l2
            replace x_w := Row.below x_w b18
            replace O_w := Lib.hid (O_w.out.below b18)
            replace O_l1 := Lib.hid (O_l1.out.below b18)
            replace B := Lib.hid (bst B.out b18 B.out.size)
            clear b18
            have O_l2 := Lib.hid o_l2.ints; clear o_l2
            clear x_w O_w
            go_wp2_with fail
            refine Calls.mono (c_DrawNewBits _ z1 _ (HZ2.out.below B.out)) ?_
            rintro e w19 ⟨kk, _, rfl, b19⟩
            replace O_l1 := Lib.hid (O_l1.out.below b19)
            replace O_l2 := Lib.hid (O_l2.out.below b19)
            replace B := Lib.hid (bst B.out b19 B.out.size)
            clear b19
            obtain ⟨nl, nz, nok, hnl, hnS, hnI⟩ := new_facts kk
            have HnS := Lib.hid hnS; have HnI := Lib.hid hnI; clear hnS hnI
            have LN : Hid (∀ X : List Int, X = nz → X.length ≤ 9223372036854775806) := fun X hX => by rw [hX]; omega
            clear hnl
            go_wp2_with fail
            refine Calls.mono (HnI.out _) ?_
            rintro e w20 ⟨v_x, rfl, o_x, b20⟩
            obtain ⟨g_x, c_x, hv_x, _⟩ := o_x.shape
            subst hv_x
            generalize hn_x : nz.length = n_x at *
            have N_x := Lib.hid hn_x; clear hn_x
            have O_x := Lib.hid (o_x.below ((Below.refl _ _).alloc (Nat.le_refl _) (.cells (cb nl (.slice g_x n_x c_x)) 25)))
            replace O_x := Lib.hid O_x.out.ints
            clear o_x
            replace O_l1 := Lib.hid ((O_l1.out.below b20).below ((Below.refl _ _).alloc (Nat.le_refl _) (.cells (cb nl (.slice g_x n_x c_x)) 25)))
            replace O_l2 := Lib.hid ((O_l2.out.below b20).below ((Below.refl _ _).alloc (Nat.le_refl _) (.cells (cb nl (.slice g_x n_x c_x)) 25)))
            have BB := bst B.out b20 B.out.size
            replace B := Lib.hid (BB.alloc BB.size (.cells (cb nl (.slice g_x n_x c_x)) 25))
            clear BB
            clear b20
            have x_x : RowB (w20.alloc (.cells (cb nl (.slice g_x n_x c_x)) 25)) w20.heap.size nl (.slice g_x n_x c_x) := Row.new w20 _ _
            go_wp2_with fail
            refine Calls.mono (HnS.out _) ?_
            rintro e w21 ⟨v_made, rfl, o_made, b21⟩
            obtain ⟨g_made, c_made, hv_made, _⟩ := o_made.shape
            subst hv_made
            generalize hn_made : nz.length = n_made at *
            have N_made := Lib.hid hn_made; clear hn_made
            have O_made := Lib.hid (o_made.below ((Below.refl _ _).alloc (Nat.le_refl _) (.cells (cb nl (.slice g_made n_made c_made)) 25)))
            replace O_made := Lib.hid O_made.out.ints
            clear o_made
            replace x_x := Row.alloc (Row.below x_x b21) (.cells (cb nl (.slice g_made n_made c_made)) 25)
            replace O_l1 := Lib.hid ((O_l1.out.below b21).below ((Below.refl _ _).alloc (Nat.le_refl _) (.cells (cb nl (.slice g_made n_made c_made)) 25)))
            replace O_l2 := Lib.hid ((O_l2.out.below b21).below ((Below.refl _ _).alloc (Nat.le_refl _) (.cells (cb nl (.slice g_made n_made c_made)) 25)))
            replace O_x := Lib.hid ((O_x.out.below b21).below ((Below.refl _ _).alloc (Nat.le_refl _) (.cells (cb nl (.slice g_made n_made c_made)) 25)))
            have BB := bst B.out b21 B.out.size
            replace B := Lib.hid (BB.alloc BB.size (.cells (cb nl (.slice g_made n_made c_made)) 25))
            clear BB
            clear b21
            have x_made : RowB (w21.alloc (.cells (cb nl (.slice g_made n_made c_made)) 25)) w21.heap.size nl (.slice g_made n_made c_made) := Row.new w21 _ _
            generalize w20.heap.size = p_x at *
            have t1 : (cok == cok) = true := by simp
            have t2 : (cn == cn) = true := by simp
            have t3 : (iok == iok) = true := by simp
            have t4 : (ix == ix) = true := by simp
            have t5 : (lok == lok) = true := by simp
            have t6 : (nok == nok) = true := by simp
            go_wp2_with fail
            refine Ans.go (same_ints _ _ lz _ O_l1.out O_l2.out (LZ.out _ rfl)) fun w22 b22 => ?_
            replace x_x := Row.below x_x b22
            replace x_made := Row.below x_made b22
            replace O_l1 := Lib.hid (O_l1.out.below b22)
            replace O_l2 := Lib.hid (O_l2.out.below b22)
            replace O_x := Lib.hid (O_x.out.below b22)
            replace O_made := Lib.hid (O_made.out.below b22)
            replace B := Lib.hid (bst B.out b22 B.out.size)
            clear b22
            generalize w21.heap.size = p_made at *
            have q0_x := RowB.c0 x_x; have q1_x := RowB.c1 x_x
            have q0_made := RowB.c0 x_made; have q1_made := RowB.c1 x_made
            go_wp2_with fail
            clear q0_x q1_x
            clear q0_made q1_made
            refine Ans.go (same_true nl _ _ nz _ O_x.out O_made.out (LN.out _ rfl)) fun w23 b23 => ?_
            replace x_x := Row.below x_x b23
            replace x_made := Row.below x_made b23
            replace O_l1 := Lib.hid (O_l1.out.below b23)
            replace O_l2 := Lib.hid (O_l2.out.below b23)
            replace O_x := Lib.hid (O_x.out.below b23)
            replace O_made := Lib.hid (O_made.out.below b23)
            replace B := Lib.hid (bst B.out b23 B.out.size)
            clear b23
            go_wp2
            go_ret
            exact ⟨rfl, B.out⟩
          · skip
            have hn0 : nS = b - a := HNS.out
            subst hn0
            clear HNS
            clear O_ll
            go_wp2_with fail
            refine Calls.mono (c_DrawCountSet _ z1 _ (HZ2.out.below B.out)) ?_
            rintro e w10 ⟨lu, v_u, zu, ua, ub, _, _, _, _, rfl, o_u, b10⟩
            obtain ⟨cn, cok, hcS, hcI⟩ := count_facts lu zu ua ub
            have HcS := Lib.hid hcS; have HcI := Lib.hid hcI; clear hcS hcI
            obtain ⟨g_u, c_u, hv_u, _⟩ := o_u.shape
            subst hv_u
            generalize hn_u : zu.length = n_u at *
            have N_u := Lib.hid hn_u; clear hn_u
            have O_u := Lib.hid (o_u.below ((Below.refl _ _).alloc (Nat.le_refl _) (.cells (cb lu (.slice g_u n_u c_u)) 25)))
            replace O_u := Lib.hid O_u.out.ints
            clear o_u
            have BB := bst B.out b10 B.out.size
            replace B := Lib.hid (BB.alloc BB.size (.cells (cb lu (.slice g_u n_u c_u)) 25))
            clear BB
            clear b10
            have x_u : RowB (w10.alloc (.cells (cb lu (.slice g_u n_u c_u)) 25)) w10.heap.size lu (.slice g_u n_u c_u) := Row.new w10 _ _
            go_wp2_with (refine wl_loadB rfl _ rfl w10.heap.size lu (.slice g_u n_u c_u) x_u rfl ?_)
            refine Ans.go (HcI.out _ _ O_u.out) fun w11 b11 => ?_
            replace x_u := Row.below x_u b11
            replace O_u := Lib.hid (O_u.out.below b11)
            replace B := Lib.hid (bst B.out b11 B.out.size)
            clear b11
            generalize w10.heap.size = p_u at *
            go_wp2_with (refine wl_loadB rfl _ rfl p_u lu (.slice g_u n_u c_u) x_u rfl ?_)
            refine Ans.go (HcS.out _ _ O_u.out) fun w12 b12 => ?_
            replace x_u := Row.below x_u b12
            replace O_u := Lib.hid (O_u.out.below b12)
            replace B := Lib.hid (bst B.out b12 B.out.size)
            clear b12
            clear x_u O_u
            go_wp2_with fail
            refine Calls.mono (c_DrawIsSet _ z1 _ (HZ2.out.below B.out)) ?_
            rintro e w13 ⟨lv, v_v, zv, va, _, _, _, rfl, o_v, b13⟩
            obtain ⟨ix, iok, hiS, hiI⟩ := isset_facts lv zv va
            have HiS := Lib.hid hiS; have HiI := Lib.hid hiI; clear hiS hiI
            obtain ⟨g_v, c_v, hv_v, _⟩ := o_v.shape
            subst hv_v
            generalize hn_v : zv.length = n_v at *
            have N_v := Lib.hid hn_v; clear hn_v
            have O_v := Lib.hid (o_v.below ((Below.refl _ _).alloc (Nat.le_refl _) (.cells (cb lv (.slice g_v n_v c_v)) 25)))
            replace O_v := Lib.hid O_v.out.ints
            clear o_v
            have BB := bst B.out b13 B.out.size
            replace B := Lib.hid (BB.alloc BB.size (.cells (cb lv (.slice g_v n_v c_v)) 25))
            clear BB
            clear b13
            have x_v : RowB (w13.alloc (.cells (cb lv (.slice g_v n_v c_v)) 25)) w13.heap.size lv (.slice g_v n_v c_v) := Row.new w13 _ _
            go_wp2_with (refine wl_loadB rfl _ rfl w13.heap.size lv (.slice g_v n_v c_v) x_v rfl ?_)
            refine Ans.go (HiI.out _ _ O_v.out) fun w14 b14 => ?_
            replace x_v := Row.below x_v b14
            replace O_v := Lib.hid (O_v.out.below b14)
            replace B := Lib.hid (bst B.out b14 B.out.size)
            clear b14
            generalize w13.heap.size = p_v at *
            go_wp2_with (refine wl_loadB rfl _ rfl p_v lv (.slice g_v n_v c_v) x_v rfl ?_)
            refine Ans.go (HiS.out _ _ O_v.out) fun w15 b15 => ?_
            replace x_v := Row.below x_v b15
            replace O_v := Lib.hid (O_v.out.below b15)
            replace B := Lib.hid (bst B.out b15 B.out.size)
            clear b15
            clear x_v O_v
            go_wp2_with fail
            refine Calls.mono (c_DrawSetList _ z1 _ (HZ2.out.below B.out)) ?_
            rintro e w16 ⟨lw, v_w, zw, _, _, rfl, o_w, b16⟩
            obtain ⟨lz, lok, hll, hlS, hlI⟩ := list_facts lw zw
            have HlS := Lib.hid hlS; have HlI := Lib.hid hlI; clear hlS hlI
            have LZ : Hid (∀ X : List Int, X = lz → X.length ≤ 9223372036854775806) := fun X hX => by rw [hX]; omega
            clear hll
            obtain ⟨g_w, c_w, hv_w, _⟩ := o_w.shape
            subst hv_w
            generalize hn_w : zw.length = n_w at *
            have N_w := Lib.hid hn_w; clear hn_w
            have O_w := Lib.hid (o_w.below ((Below.refl _ _).alloc (Nat.le_refl _) (.cells (cb lw (.slice g_w n_w c_w)) 25)))
            replace O_w := Lib.hid O_w.out.ints
            clear o_w
            have BB := bst B.out b16 B.out.size
            replace B := Lib.hid (BB.alloc BB.size (.cells (cb lw (.slice g_w n_w c_w)) 25))
            clear BB
            clear b16
            have x_w : RowB (w16.alloc (.cells (cb lw (.slice g_w n_w c_w)) 25)) w16.heap.size lw (.slice g_w n_w c_w) := Row.new w16 _ _
            go_wp2_with (refine wl_loadB rfl _ rfl w16.heap.size lw (.slice g_w n_w c_w) x_w rfl ?_)
            refine Calls.mono (HlI.out _ _ O_w.out (HT.out.below B.out)) ?_
            rintro e w17 ⟨v_l1, rfl, o_l1, b17⟩
            obtain ⟨g_l1, c_l1, hv_l1, _⟩ := o_l1.shape
            subst hv_l1
            generalize hn_l1 : lz.length = n_l1 at *
            have N_l1 := Lib.hid hn_l1; clear hn_l1
            replace x_w := Row.below x_w b17
            replace O_w := Lib.hid (O_w.out.below b17)
            replace B := Lib.hid (bst B.out b17 B.out.size)
            clear b17
            have O_l1 := Lib.hid o_l1.ints; clear o_l1
            generalize w16.heap.size = p_w at *
            go_wp2_with (refine wl_loadB rfl _ rfl p_w lw (.slice g_w n_w c_w) x_w rfl ?_)
            refine Calls.mono (HlS.out _ _ O_w.out) ?_
            rintro e w18 ⟨v_l2, rfl, o_l2, b18⟩
            obtain ⟨g_l2, c_l2, hv_l2, _⟩ := o_l2.shape
            subst hv_l2
            generalize hn_l2 : lz.length = n_l2 at *
            have N_l2 := Lib.hid hn_l2; clear hn_l2
            replace x_w := Row.below x_w b18
            replace O_w := Lib.hid (O_w.out.below b18)
            replace O_l1 := Lib.hid (O_l1.out.below b18)
            replace B := Lib.hid (bst B.out b18 B.out.size)
            clear b18
            have O_l2 := Lib.hid o_l2.ints; clear o_l2
            clear x_w O_w
            go_wp2_with fail
            refine Calls.mono (c_DrawNewBits _ z1 _ (HZ2.out.below B.out)) ?_
            rintro e w19 ⟨kk, _, rfl, b19⟩
            replace O_l1 := Lib.hid (O_l1.out.below b19)
            replace O_l2 := Lib.hid (O_l2.out.below b19)
            replace B := Lib.hid (bst B.out b19 B.out.size)
            clear b19
            obtain ⟨nl, nz, nok, hnl, hnS, hnI⟩ := new_facts kk
            have HnS := Lib.hid hnS; have HnI := Lib.hid hnI; clear hnS hnI
            have LN : Hid (∀ X : List Int, X = nz → X.length ≤ 9223372036854775806) := fun X hX => by rw [hX]; omega
            clear hnl
            go_wp2_with fail
            refine Calls.mono (HnI.out _) ?_
            rintro e w20 ⟨v_x, rfl, o_x, b20⟩
            obtain ⟨g_x, c_x, hv_x, _⟩ := o_x.shape
            subst hv_x
            generalize hn_x : nz.length = n_x at *
            have N_x := Lib.hid hn_x; clear hn_x
            have O_x := Lib.hid (o_x.below ((Below.refl _ _).alloc (Nat.le_refl _) (.cells (cb nl (.slice g_x n_x c_x)) 25)))
            replace O_x := Lib.hid O_x.out.ints
            clear o_x
            replace O_l1 := Lib.hid ((O_l1.out.below b20).below ((Below.refl _ _).alloc (Nat.le_refl _) (.cells (cb nl (.slice g_x n_x c_x)) 25)))
            replace O_l2 := Lib.hid ((O_l2.out.below b20).below ((Below.refl _ _).alloc (Nat.le_refl _) (.cells (cb nl (.slice g_x n_x c_x)) 25)))
            have BB := bst B.out b20 B.out.size
            replace B := Lib.hid (BB.alloc BB.size (.cells (cb nl (.slice g_x n_x c_x)) 25))
            clear BB
            clear b20
            have x_x : RowB (w20.alloc (.cells (cb nl (.slice g_x n_x c_x)) 25)) w20.heap.size nl (.slice g_x n_x c_x) := Row.new w20 _ _
            go_wp2_with fail
            refine Calls.mono (HnS.out _) ?_
            rintro e w21 ⟨v_made, rfl, o_made, b21⟩
            obtain ⟨g_made, c_made, hv_made, _⟩ := o_made.shape
            subst hv_made
            generalize hn_made : nz.length = n_made at *
            have N_made := Lib.hid hn_made; clear hn_made
            have O_made := Lib.hid (o_made.below ((Below.refl _ _).alloc (Nat.le_refl _) (.cells (cb nl (.slice g_made n_made c_made)) 25)))
            replace O_made := Lib.hid O_made.out.ints
            clear o_made
            replace x_x := Row.alloc (Row.below x_x b21) (.cells (cb nl (.slice g_made n_made c_made)) 25)
            replace O_l1 := Lib.hid ((O_l1.out.below b21).below ((Below.refl _ _).alloc (Nat.le_refl _) (.cells (cb nl (.slice g_made n_made c_made)) 25)))
            replace O_l2 := Lib.hid ((O_l2.out.below b21).below ((Below.refl _ _).alloc (Nat.le_refl _) (.cells (cb nl (.slice g_made n_made c_made)) 25)))
            replace O_x := Lib.hid ((O_x.out.below b21).below ((Below.refl _ _).alloc (Nat.le_refl _) (.cells (cb nl (.slice g_made n_made c_made)) 25)))
            have BB := bst B.out b21 B.out.size
            replace B := Lib.hid (BB.alloc BB.size (.cells (cb nl (.slice g_made n_made c_made)) 25))
            clear BB
            clear b21
            have x_made : RowB (w21.alloc (.cells (cb nl (.slice g_made n_made c_made)) 25)) w21.heap.size nl (.slice g_made n_made c_made) := Row.new w21 _ _
            generalize w20.heap.size = p_x at *
            have t1 : (cok == cok) = true := by simp
            have t2 : (cn == cn) = true := by simp
            have t3 : (iok == iok) = true := by simp
            have t4 : (ix == ix) = true := by simp
            have t5 : (lok == lok) = true := by simp
            have t6 : (nok == nok) = true := by simp
            go_wp2_with fail
            refine Ans.go (same_ints _ _ lz _ O_l1.out O_l2.out (LZ.out _ rfl)) fun w22 b22 => ?_
            replace x_x := Row.below x_x b22
            replace x_made := Row.below x_made b22
            replace O_l1 := Lib.hid (O_l1.out.below b22)
            replace O_l2 := Lib.hid (O_l2.out.below b22)
            replace O_x := Lib.hid (O_x.out.below b22)
            replace O_made := Lib.hid (O_made.out.below b22)
            replace B := Lib.hid (bst B.out b22 B.out.size)
            clear b22
            generalize w21.heap.size = p_made at *
            have q0_x := RowB.c0 x_x; have q1_x := RowB.c1 x_x
            have q0_made := RowB.c0 x_made; have q1_made := RowB.c1 x_made
            go_wp2_with fail
            clear q0_x q1_x
            clear q0_made q1_made
            refine Ans.go (same_true nl _ _ nz _ O_x.out O_made.out (LN.out _ rfl)) fun w23 b23 => ?_
            replace x_x := Row.below x_x b23
            replace x_made := Row.below x_made b23
            replace O_l1 := Lib.hid (O_l1.out.below b23)
            replace O_l2 := Lib.hid (O_l2.out.below b23)
            replace O_x := Lib.hid (O_x.out.below b23)
            replace O_made := Lib.hid (O_made.out.below b23)
            replace B := Lib.hid (bst B.out b23 B.out.size)
            clear b23
            go_wp2
            go_ret
            exact ⟨rfl, B.out⟩
end Go.Proofs.YtlmelabddaapeaaDoor
