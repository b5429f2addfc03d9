/- The reference's SameReached. -/
import Derived.Test.YtcjkkbbinieblaaHm3
namespace Go.Proofs.Ytcjkkbbinieblaa.Ph
noncomputable def smO (a b : H) (k : Nat) : Bool := ((reachL a.f a.r).getD k false == (reachL b.f b.r).getD k false) && (!((reachL a.f a.r).getD k false) || @decide (a.f.getD k [] = b.f.getD k []) (Classical.propDecidable _))
noncomputable def smB (a b : H) (n : Nat) : Bool := (List.range n).all (smO a b)
theorem smB_succ {a b : H} {n : Nat} : smB a b (n + 1) = (smB a b n && smO a b n) := by simp [smB, List.range_succ]
theorem smB_same {a b : H} (ga : Ph.Good a) (hr : a.r = b.r) {n : Nat} (h1 : a.f.length ≤ n) (hs : smB a b n = true) : sameP a b = true := by
  refine sameP_iff.2 (same_of hr fun k hk => ?_)
  have hl := reach_live ga hk
  have h3 := (List.all_eq_true.1 hs) k (by simp; omega)
  unfold smO at h3
  rw [reachL_getD.2 ⟨hl.2, hk⟩] at h3
  simp only [Bool.not_true, Bool.false_or, Bool.and_eq_true, decide_eq_true_eq] at h3
  exact h3.2
theorem sm_false {a b : H} (ga : Ph.Good a) (gb : Ph.Good b) {k : Nat} (hn : smO a b k = false) : sameP a b = false := by
  refine sameP_false fun ⟨hr, hs⟩ => ?_
  have : smO a b k = true := by
    unfold smO
    by_cases hq : (reachL a.f a.r).getD k false = true
    · have h1 := (reachL_getD.1 hq).2
      have h3 := (hs k).1.1 h1
      rw [hq, reachL_getD.2 ⟨(reach_live gb h3).2, h3⟩]; simp only [Bool.not_true, Bool.false_or, Bool.and_eq_true, decide_eq_true_eq]; exact ⟨rfl, (hs k).2 h1⟩
    · have hq' : (reachL a.f a.r).getD k false = false := by simpa using hq
      by_cases h2 : (reachL b.f b.r).getD k false = true
      · have h3 := (hs k).1.2 (reachL_getD.1 h2).2
        exact absurd (reachL_getD.2 ⟨(reach_live ga h3).2, h3⟩) hq
      · have h2' : (reachL b.f b.r).getD k false = false := by simpa using h2
        rw [hq', h2']; rfl
  rw [hn] at this; cases this
theorem smO_ne {a b : H} {k : Nat} (h : (reachL a.f a.r).getD k false ≠ (reachL b.f b.r).getD k false) : smO a b k = false := by
  unfold smO
  have : ((reachL a.f a.r).getD k false == (reachL b.f b.r).getD k false) = false := by simpa using h
  rw [this]; rfl
theorem smO_no {a b : H} {k : Nat} (h1 : (reachL a.f a.r).getD k false = false) (h2 : (reachL b.f b.r).getD k false = false) : smO a b k = true := by unfold smO; rw [h1, h2]; rfl
theorem smO_yes {a b : H} {k : Nat} (h1 : (reachL a.f a.r).getD k false = true) (h2 : (reachL b.f b.r).getD k false = true) : smO a b k = @decide (a.f.getD k [] = b.f.getD k []) (Classical.propDecidable _) := by unfold smO; rw [h1, h2]; rfl
end Go.Proofs.Ytcjkkbbinieblaa.Ph
namespace Go.Proofs.Ytcjkkbbinieblaa
open Go.RowKit Ph

set_option maxRecDepth 100000 in
set_option maxHeartbeats 6400000 in
theorem s_l5Same (a1 b1 c1 a2 b2 c2 : Value) (x y : H) (w : World) (hA : HeapAt w a1 b1 c1 x) (hB : HeapAt w a2 b2 c2 y) (hgx : Ph.Good x) (hgy : Ph.Good y) :
    Calls Try.prog 61 #[hv a1 b1 c1, hv a2 b2 c2] w fun e w' => e = .returned (.bool (sameP x y)) ∧ Below w.heap.size w w' := by
  have hb0 := (below1 w (.cells (c3 a1 b1 c1) 27)).alloc (by simp) (.cells (c3 a2 b2 c2) 27)
  have A0 := Lib.hid (hA.below hb0); have B0 := Lib.hid (hB.below hb0)
  have HB := Lib.hid hb0
  have P0 := Lib.hid (show RowH _ _ a1 b1 c1 from (Row.new w 27 (c3 a1 b1 c1)).alloc (.cells (c3 a2 b2 c2) 27))
  have Q0 := Lib.hid (show RowH _ (w.heap.size + 1) a2 b2 c2 from Row.new1 w (.cells (c3 a1 b1 c1) 27) 27 (c3 a2 b2 c2))
  have GX := Lib.hid hgx; have GY := Lib.hid hgy
  obtain ⟨fa, fc, rfl⟩ := hA.f.shape
  obtain ⟨ra, rc, rfl⟩ := hA.r.shape
  obtain ⟨ga, gc, rfl⟩ := hB.f.shape
  obtain ⟨sa, sc, rfl⟩ := hB.r.shape
  have hn12 := hgx.n
  have hm12 := hgy.n
  clear hA hB hgx hgy hb0
  have p0 := P0.out.c0
  have p1 := P0.out.c1
  have p2 := P0.out.c2
  go_enter Try.func61, Try.ntmps61
  go_wp2_with fail
  refine (s_l5Reached _ _ _ x _ A0.out GX.out).mono ?_
  rintro e w1 ⟨k1, rfl, ho1, hb1⟩
  obtain ⟨u1, v1, hk1⟩ := (owns_bools ho1).shape
  rw [reachL_length] at hk1
  subst hk1
  have X1 := Lib.hid (A0.out.below hb1); have Y1 := Lib.hid (B0.out.below hb1); have P1 := Lib.hid (P0.out.below hb1); have Q1 := Lib.hid (Q0.out.below hb1); have L1 := Lib.hid (bst HB.out hb1 HB.out.size); have K1 := Lib.hid (owns_bools ho1)
  clear ho1 hb1 p0 p1 p2
  have q0 := Q1.out.c0
  have q1 := Q1.out.c1
  have q2 := Q1.out.c2
  go_wp2_with fail
  refine (s_l5Reached _ _ _ y _ Y1.out GY.out).mono ?_
  rintro e w2 ⟨k2, rfl, ho2, hb2⟩
  obtain ⟨u2, v2, hk2⟩ := (owns_bools ho2).shape
  rw [reachL_length] at hk2
  subst hk2
  have X2 := Lib.hid (X1.out.below hb2); have Y2 := Lib.hid (Y1.out.below hb2); have P2 := Lib.hid (P1.out.below hb2); have Q2 := Lib.hid (Q1.out.below hb2); have L2 := Lib.hid (bst L1.out hb2 L1.out.size); have K2 := Lib.hid (owns_bools ho2); have K12 := Lib.hid (K1.out.below hb2)
  clear ho2 hb2 q0 q1 q2
  have HRS := Lib.hid (s_l1Same (.slice ra x.r.length rc) (.slice sa y.r.length sc) x.r y.r w2 X2.out.r Y2.out.r (by have := GX.out.rn; omega))
  have HSN : Hid (¬ x.r = y.r → sameP x y = false) := sameP_roots
  have c0 := P2.out.c2
  have d0 := Q2.out.c2
  by_cases hxy : ¬ x.r = y.r
  · have hd : decide (x.r = y.r) = false := decide_eq_false hxy
    have HSP := Lib.hid (HSN.out hxy)
    rw [hd] at HRS
    clear hd hxy
    go_wp2_with (go_at_call 88; refine HRS.out.mono ?_; rintro e w3 ⟨rfl, nd, rfl⟩)
    go_ret
    exact ⟨r_b HSP.out.symm, below_drewN L2.out nd⟩
  replace hxy := Classical.not_not.1 hxy
  have hd : decide (x.r = y.r) = true := decide_eq_true hxy
  have HXY := Lib.hid hxy
  rw [hd] at HRS
  clear hd hxy
  go_wp2_with (go_at_call 88; refine HRS.out.mono ?_; rintro e w3 ⟨rfl, nd, rfl⟩)
  clear c0 d0
  have B3 : Below w2.heap.size w2 (w2.drewN nd) := below_drewN (Below.refl _ _) nd
  have X3 := Lib.hid (X2.out.below B3); have Y3 := Lib.hid (Y2.out.below B3); have P3 := Lib.hid (P2.out.below B3); have Q3 := Lib.hid (Q2.out.below B3); have L3 := Lib.hid (bst L2.out B3 L2.out.size); have K13 := Lib.hid (K12.out.below B3); have K23 := Lib.hid (K2.out.below B3)
  clear B3
  generalize w2.drewN nd = w3 at *
  generalize hn : x.f.length = n at *
  generalize hm : y.f.length = m at *
  have HN := Lib.hid hn; have HM := Lib.hid hm
  clear hn hm
  go_loopw [7] (fun i wr => ∃ k : Nat, (k ≤ n ∨ k ≤ m) ∧ i = .int .i64 k ∧ Hid (smB x y k = true) ∧ ∃ nd, wr = w3.drewN nd) (fun i _ => n + m - (intOf i).toNat)
  case atStart => exact ⟨0, .inl (Nat.zero_le _), rfl, by simp [Hid, smB], drewN_refl _⟩
  case round =>
    obtain ⟨k, hk, rfl, ht, nr, rfl⟩ := hrel
    have hp : (w3.drewN nr).cell? ⟨w.heap.size, 0, none⟩ = some (.slice fa n fc) := P3.out.c0
    have hq : (w3.drewN nr).cell? ⟨w.heap.size + 1, 0, none⟩ = some (.slice ga m gc) := Q3.out.c0
    have hfx : ∀ b, (reachL x.f x.r).getD k false = b → b = true → k < n := fun b h1 h2 => by rw [h2] at h1; have := (reachL_getD.1 h1).1; rw [HN.out] at this; exact this
    have hfy : ∀ b, (reachL y.f y.r).getD k false = b → b = true → k < m := fun b h1 h2 => by rw [h2] at h1; have := (reachL_getD.1 h1).1; rw [HM.out] at this; exact this
    have hSU := smB_succ (a := x) (b := y) (n := k)
    rw [ht.out, Bool.true_and] at hSU
    have HSU := Lib.hid hSU
    have hne := smO_ne (a := x) (b := y) (k := k)
    have hno := smO_no (a := x) (b := y) (k := k)
    have hye := smO_yes (a := x) (b := y) (k := k)
    have HNE : Hid ((reachL x.f x.r).getD k false ≠ (reachL y.f y.r).getD k false → sameP x y = false) := fun h => sm_false GX.out GY.out (hne h)
    have HNO : Hid ((reachL x.f x.r).getD k false = false → (reachL y.f y.r).getD k false = false → smB x y (k + 1) = true) := fun h1 h2 => hSU.trans (hno h1 h2)
    have HYE : Hid ((reachL x.f x.r).getD k false = true → (reachL y.f y.r).getD k false = true → ((x.f.getD k [] = y.f.getD k [] → smB x y (k + 1) = true) ∧ (¬ x.f.getD k [] = y.f.getD k [] → sameP x y = false))) := fun h1 h2 => ⟨fun h3 => hSU.trans ((hye h1 h2).trans (by simpa using h3)), fun h3 => sm_false GX.out GY.out ((hye h1 h2).trans (by simpa using h3))⟩
    clear hSU hne hno hye
    have j1 : (0 : Int) ≤ (k : Int) := by omega
    have kb : k ≤ 12 := by omega
    have QX : Hid (k < n → ∃ b o, u1 = some ⟨b, o, none⟩ ∧ (w3.drewN nr).cell? ⟨b, o + k, none⟩ = some (.bool ((reachL x.f x.r).getD k false))) := fun h => by
      obtain ⟨b, o, hb, hc⟩ := K13.out.at' (by omega)
      exact ⟨b, o, hb, hc k h⟩
    have QY : Hid (k < m → ∃ b o, u2 = some ⟨b, o, none⟩ ∧ (w3.drewN nr).cell? ⟨b, o + k, none⟩ = some (.bool ((reachL y.f y.r).getD k false))) := fun h => by
      obtain ⟨b, o, hb, hc⟩ := K23.out.at' (by omega)
      exact ⟨b, o, hb, hc k h⟩
    have FX : Hid (k < n → ∃ b o u c, fa = some ⟨b, o, none⟩ ∧ (w3.drewN nr).cell? ⟨b, o + k, none⟩ = some (.slice u (x.f.getD k []).length c) ∧ IntsAt w3 (.slice u (x.f.getD k []).length c) (x.f.getD k [])) := fun h => by
      obtain ⟨b, o, hb, hc⟩ := X3.out.f.at' (by omega)
      obtain ⟨u, h1, h2⟩ := hc k h
      obtain ⟨p, c, rfl⟩ := h2.shape
      exact ⟨b, o, p, c, hb, h1, h2⟩
    have FY : Hid (k < m → ∃ b o u c, ga = some ⟨b, o, none⟩ ∧ (w3.drewN nr).cell? ⟨b, o + k, none⟩ = some (.slice u (y.f.getD k []).length c) ∧ IntsAt w3 (.slice u (y.f.getD k []).length c) (y.f.getD k [])) := fun h => by
      obtain ⟨b, o, hb, hc⟩ := Y3.out.f.at' (by omega)
      obtain ⟨u, h1, h2⟩ := hc k h
      obtain ⟨p, c, rfl⟩ := h2.shape
      exact ⟨b, o, p, c, hb, h1, h2⟩
    have HLX : Hid (k < n → (x.f.getD k []).length ≤ 3) := fun h => (GX.out.row k (by rw [HN.out]; exact h)).1
    generalize hpx : (reachL x.f x.r).getD k false = p at *
    generalize hpy : (reachL y.f y.r).getD k false = q at *
    have hpn : p = true → k < n := hfx p rfl
    have hqm : q = true → k < m := hfy q rfl
    have HPX := Lib.hid hpx; have HPY := Lib.hid hpy
    clear hpx hpy hfx hfy
    by_cases hx : k < n
    · obtain ⟨bx, ox, rfl, qx⟩ := QX.out hx
      have i1 : (k : Int) < (n : Int) := by omega
      by_cases hy : k < m
      · obtain ⟨bz, oy, rfl, qy⟩ := QY.out hy
        have i2 : (k : Int) < (m : Int) := by omega
        clear QX QY hpn hqm
        cases p
        · cases q
          · skip
            have HE := Lib.hid (HNO.out rfl rfl)
            go_wp2_with fail
            go_quiet (fail)
            go_wp2_with fail
            go_roundw
            case rel => exact ⟨k + 1, by omega, by go_num, HE, nr + nq, by simp⟩
            case measure => simp [intOf]; omega
          · skip
            have HE := Lib.hid (HNE.out (by simp))
            go_wp2_with fail
            go_quiet (fail)
            go_wp2_with fail
            go_ret
            exact ⟨r_b HE.out.symm, below_drewN (below_drewN L3.out _) _⟩
        · cases q
          · skip
            have HE := Lib.hid (HNE.out (by simp))
            go_wp2_with fail
            go_quiet (fail)
            go_wp2_with fail
            go_ret
            exact ⟨r_b HE.out.symm, below_drewN (below_drewN L3.out _) _⟩
          · skip
            have hye := HYE.out rfl rfl
            obtain ⟨fb, fo, fu, fw, rfl, qf, hf⟩ := FX.out hx
            obtain ⟨gb, go, gu, gw, rfl, qg, hg⟩ := FY.out hy
            have HCQ : Hid (∀ mm, Calls Try.prog 88 #[.slice fu (x.f.getD k []).length fw, .slice gu (y.f.getD k []).length gw] ((w3.drewN nr).drewN mm) fun e w' => e = .returned (.bool (decide (x.f.getD k [] = y.f.getD k []))) ∧ ∃ n, w' = ((w3.drewN nr).drewN mm).drewN n) := fun mm => s_l1Same _ _ _ _ _ ((hf.drewN nr).drewN mm) ((hg.drewN nr).drewN mm) (by have := HLX.out hx; omega)
            have HY1 := Lib.hid hye.1; have HY2 := Lib.hid hye.2
            clear hye hf hg
            generalize (x.f.getD k []).length = lx at *
            generalize (y.f.getD k []).length = ly at *
            by_cases hfe : x.f.getD k [] = y.f.getD k []
            · have HE := Lib.hid (HY1.out hfe)
              have hdq : decide (x.f.getD k [] = y.f.getD k []) = true := decide_eq_true hfe
              rw [hdq] at HCQ
              clear hdq hfe
              go_wp2_with fail
              generalize hwd : w3.drewN nr = wd at *
              have HWD := Lib.hid hwd; clear hwd
              go_quiet ((go_at_call 88; exact Calls.quiet_of (HCQ.out _)))
              go_wp2_with fail
              go_roundw
              case rel => exact ⟨k + 1, by omega, by go_num, HE, nr + nq, by rw [← HWD.out]; simp⟩
              case measure => simp [intOf]; omega
            · have HE := Lib.hid (HY2.out hfe)
              have hdq : decide (x.f.getD k [] = y.f.getD k []) = false := decide_eq_false hfe
              rw [hdq] at HCQ
              clear hdq hfe
              go_wp2_with fail
              generalize hwd : w3.drewN nr = wd at *
              have HWD := Lib.hid hwd; clear hwd
              go_quiet ((go_at_call 88; exact Calls.quiet_of (HCQ.out _)))
              go_wp2_with fail
              go_ret
              exact ⟨r_b HE.out.symm, by rw [← HWD.out]; exact below_drewN (below_drewN L3.out _) _⟩
      · have i2 : ¬ (k : Int) < (m : Int) := by omega
        cases q
        · clear QX QY hpn hqm
          cases p
          · skip
            have HE := Lib.hid (HNO.out rfl rfl)
            go_wp2_with fail
            go_quiet (fail)
            go_wp2_with fail
            go_roundw
            case rel => exact ⟨k + 1, by omega, by go_num, HE, nr + nq, by simp⟩
            case measure => simp [intOf]; omega
          · skip
            have HE := Lib.hid (HNE.out (by simp))
            go_wp2_with fail
            go_quiet (fail)
            go_wp2_with fail
            go_ret
            exact ⟨r_b HE.out.symm, below_drewN (below_drewN L3.out _) _⟩
        · exact absurd (hqm rfl) hy
    · have i1 : ¬ (k : Int) < (n : Int) := by omega
      cases p
      · by_cases hy : k < m
        · obtain ⟨bz, oy, rfl, qy⟩ := QY.out hy
          have i2 : (k : Int) < (m : Int) := by omega
          clear QX QY hpn hqm
          cases q
          · skip
            have HE := Lib.hid (HNO.out rfl rfl)
            go_wp2_with fail
            go_quiet (fail)
            go_wp2_with fail
            go_roundw
            case rel => exact ⟨k + 1, by omega, by go_num, HE, nr + nq, by simp⟩
            case measure => simp [intOf]; omega
          · skip
            have HE := Lib.hid (HNE.out (by simp))
            go_wp2_with fail
            go_quiet (fail)
            go_wp2_with fail
            go_ret
            exact ⟨r_b HE.out.symm, below_drewN (below_drewN L3.out _) _⟩
        · have i2 : ¬ (k : Int) < (m : Int) := by omega
          have HE := Lib.hid (smB_same GX.out HXY.out (by rw [HN.out]; omega) ht.out)
          go_wp2_with fail
          go_ret
          exact ⟨r_b HE.out.symm, below_drewN L3.out _⟩
      · exact absurd (hpn rfl) hx
end Go.Proofs.Ytcjkkbbinieblaa
