/- The walk of laws.FnPlayed. -/
import Derived.Test.YtdiejmebodpjeaaPq
namespace Go.Proofs.Ytdiejmebodpjeaa
open Go.RowKit Pr

set_option maxRecDepth 100000 in
set_option maxHeartbeats 12800000 in
theorem walk_FnPlayed (v0 : Value) (zc : List Int) (v1 : Value) (zm : List Int) (w : World) (hc : BytesAt w v0 zc) (hm : BytesAt w v1 zm) :
    Calls Try.prog 4 #[v0, v1] w fun e w' => e = .returned (.bool true) ∧ Below w.heap.size w w' := by
  have HC := Lib.hid hc; have HM := Lib.hid hm
  obtain ⟨_, _, a0, c0, rfl, _⟩ := hc
  obtain ⟨_, _, a1, c1, rfl, _⟩ := hm
  generalize zc.length = nc at *
  generalize zm.length = nm at *
  by_cases hs : 1048576 < wrap64 ((nc : Int) + (nm : Int))
  · go_enter Try.func4, Try.ntmps4
    go_wp2
    go_ret
    exact ⟨rfl, Below.refl _ _⟩
  · go_enter Try.func4, Try.ntmps4
    go_wp2_with fail
    refine (c_DrawPlayRuns _ zc _ HC.out).mono ?_
    rintro e wd ⟨v_s, ss, rfl, hl, hsm, ho, hb⟩
    have O_s := Lib.hid ho; have B := Lib.hid hb; have HSB := Lib.hid hsm.bnd
    clear ho hb hsm
    by_cases h40 : ss.length ≤ 40
    · have HI : Hid (∀ w v, RunsAt w v ss → Calls Try.prog 24 #[v] w (EndP (playTo ss).1 (playTo ss).2 true w)) := fun w v h => c_PlayRuns_yes v ss w h HSB.out h40
      have HS : Hid (∀ w v, RunsAt w v ss → Calls Try.prog 25 #[v] w (EndP (playTo ss).1 (playTo ss).2 true w)) := fun w v h => s_PlayRuns_yes v ss w h HSB.out h40
      have hp := playTo_good ss ss.length (Nat.le_refl _)
      rw [List.take_length] at hp
      have HPG := Lib.hid hp.1; have HPL := Lib.hid hp.2
      clear hp
      go_wp2_with fail
      refine (HI.out _ _ O_s.out.runs).mono ?_
      rintro e w1 ⟨v_l, v_lt, rfl, ho, hot, _, hb⟩
      have hbs := B.out.size
      replace O_s := Lib.hid (O_s.out.below hb)
      replace B := Lib.hid (bst B.out hb B.out.size)
      clear hb
      have O_l := Lib.hid (ho.mono hbs)
      have O_lt := Lib.hid (hot.mono hbs)
      clear ho hot hbs
      go_wp2_with fail
      refine (HS.out _ _ O_s.out.runs).mono ?_
      rintro e w2 ⟨v_w, v_wt, rfl, ho, hot, _, hb⟩
      have hbs := B.out.size
      replace O_s := Lib.hid (O_s.out.below hb)
      replace O_l := Lib.hid (O_l.out.below hb)
      replace O_lt := Lib.hid (O_lt.out.below hb)
      replace B := Lib.hid (bst B.out hb B.out.size)
      clear hb
      have O_w := Lib.hid (ho.mono hbs)
      have O_wt := Lib.hid (hot.mono hbs)
      clear ho hot hbs
      go_wp2_with fail
      refine (c_sameI v_lt v_wt (playTo ss).2 _ O_lt.out.ints O_wt.out.ints (by have := HPL.out; omega)).mono ?_
      rintro e w3 ⟨rfl, hb⟩
      replace O_s := Lib.hid (O_s.out.below hb)
      replace O_l := Lib.hid (O_l.out.below hb)
      replace O_lt := Lib.hid (O_lt.out.below hb)
      replace O_w := Lib.hid (O_w.out.below hb)
      replace O_wt := Lib.hid (O_wt.out.below hb)
      replace B := Lib.hid (bst B.out hb B.out.size)
      clear hb
      go_wp2_with fail
      refine (c_sameRuns v_l v_w (playTo ss).1 _ O_l.out.runs O_w.out.runs (by have := good_len16 HPG.out; omega)).mono ?_
      rintro e w4 ⟨rfl, hb⟩
      replace O_s := Lib.hid (O_s.out.below hb)
      replace O_l := Lib.hid (O_l.out.below hb)
      replace O_lt := Lib.hid (O_lt.out.below hb)
      replace O_w := Lib.hid (O_w.out.below hb)
      replace O_wt := Lib.hid (O_wt.out.below hb)
      replace B := Lib.hid (bst B.out hb B.out.size)
      clear hb
      clear O_w O_wt HI HS
      obtain ⟨i0, hi, hz0, hz1, hz2⟩ := info_parts info_bool
      obtain ⟨aS, cS, hvs, hSC⟩ := id O_s.out.runs
      obtain ⟨aT, cT, hvt, hTC⟩ := id O_lt.out.ints
      subst hvs
      subst hvt
      rw [HPL.out] at hTC ⊢
      have HN0 : Hid (∀ k, k < ss.length → (playTo ss).2.getD k 0 = (stepL (playTo (ss.take k)).1 (ss.getD k (0, 0))).2) := fun k hk => told_at hk
      have HGD : Hid (∀ k, k ≤ ss.length → good 0 (playTo (ss.take k)).1 = true) := fun k hk => (playTo_good ss k hk).1
      generalize hns : ss.length = ns at *
      have HNS := Lib.hid hns; clear hns
      have HSC := Lib.hid hSC; have HTC := Lib.hid hTC
      clear hSC hTC O_s O_lt
      go_wp2_with (first
        | (at_make; refine wpList_make_full _ rfl _ _ 44 rfl w4.heap.size 4 i0 (.bool false) 1 Try.underlying44 hi hz0 hz1 .i64 .i64 _ _ 32 rfl rfl rfl rfl (by rw [hz2]; omega) (by unfold maxLen; omega) (Nat.le_refl _) ?_; intro w5 hown5 hgr5; rw [made_bools] at hown5; have HO5 := Lib.hid hown5; have HB5 := Lib.hid ((Below.refl w4.heap.size w4).grown hgr5 (Nat.le_refl _) (fun k hk => by cases hk)); clear hown5 hgr5)
        | go_in)
      have HOL := O_l; have HBW := B
      clear O_l B
      go_loopw [72] (fun i wr => ∃ k : Nat, k ≤ 32 ∧ i = .int .i64 k ∧ OwnB wr w4.heap.size w4.heap.size (bl fun p => decide (p < k)) ∧ Below w4.heap.size w4 wr) (fun i _ => 32 - (intOf i).toNat)
      case atStart => exact ⟨0, Nat.zero_le _, rfl, by rw [bl_congr (g := fun _ => false) (fun p _ => by simp)]; exact HO5.out, HB5.out⟩
      case round =>
        obtain ⟨k, hk, rfl, hown, hbr⟩ := hrel
        by_cases hlt : k < 32
        · obtain ⟨d0, d1⟩ := hown.cell (p := k) hlt
          obtain ⟨s1, s2⟩ := hown.stored k true
          have S1 := Lib.hid s1
          have SB := Lib.hid (hbr.grown s2 hbr.size (fun j hj => by cases hj; exact Nat.le_refl _))
          have i1 : (k : Int) < 32 := by omega
          generalize decide (k < k) = ob at d0
          clear s1 s2 hown hbr
          go_wp2
          go_roundw
          case rel => exact ⟨k + 1, by omega, by go_num, by rw [bl_congr (g := fun p => if p = k then true else decide (p < k)) (fun p _ => by by_cases e : p = k; (subst e; simp); (simp only [e, if_false]; apply decide_eq_decide.2; omega))]; exact S1.out, SB.out⟩
          case measure => simp [intOf]; omega
        · obtain rfl : k = 32 := by omega
          have HO6 : Hid (OwnB wr w4.heap.size w4.heap.size (bl (pgB (playTo (ss.take 0)).1))) := by
            unfold Hid
            rw [bl_congr (g := fun p => decide (p < 32)) (fun p hp => by rw [decide_eq_true hp]; exact (pgB_iff _ _).2 ⟨(0, 32), by simp [playTo], by simp only []; omega, by simp only []; omega⟩)]
            exact hown
          have HB6 := Lib.hid hbr
          clear hown hbr HO5 HB5
          go_wp2
          go_loopw [81] (fun i wr => ∃ k : Nat, k ≤ ns ∧ i = .int .i64 k ∧ OwnB wr w4.heap.size w4.heap.size (bl (pgB (playTo (ss.take k)).1)) ∧ Below w4.heap.size w4 wr) (fun i _ => ns - (intOf i).toNat)
          case atStart => exact ⟨0, Nat.zero_le _, rfl, HO6.out, HB6.out⟩
          case round =>
            obtain ⟨k, hk, rfl, hown, hbr⟩ := hrel
            by_cases hlt : k < ns
            · obtain ⟨bs, os, rfl, hcc⟩ := HSC.out (by omega)
              obtain ⟨p0, p1⟩ := hcc k hlt
              have y0 := cellBelow' hbr p0
              have y1 := cellBelow' hbr p1
              clear p0 p1 hcc
              obtain ⟨bt, ot, rfl, htt⟩ := HTC.out (by omega)
              have y2 := cellBelow' hbr (htt k hlt)
              clear htt
              have hkl : k < ss.length := by rw [HNS.out]; exact hlt
              rw [HN0.out k hlt] at y2
              have hsu := playTo_take_succ hkl
              have hgd := HGD.out k (by omega)
              have hsi := HSB.out.at k
              have i1 : (k : Int) < (ns : Int) := by omega
              generalize ss.getD k (0, 0) = s at y0 y1 y2 hsu hsi
              generalize (playTo (ss.take k)).1 = l at *
              obtain ⟨s1, s2⟩ := s
              simp only [] at y0 y1
              have HB7 := Lib.hid (below_up hbr (below1 wr (.cells (cr (s1, s2)) 33)))
              have HO7 := Lib.hid (hown.below (below1 wr (.cells (cr (s1, s2)) 33)))
              have HR7 := Lib.hid (Row.new wr 33 (cr (s1, s2)))
              have hgw : w4.heap.size < wr.heap.size := (World.ownsRow.lt hown w4.heap.size rfl).2
              cases hst : stepO l (s1, s2) with
              | none =>
                have hv : stepL l (s1, s2) = (l, -1) := by simp [stepL, hst]
                rw [hv] at y2 hsu
                simp only [] at y2 hsu
                have y3 : (wr.alloc (.cells #[.int .i64 s1, .int .i64 s2] 33)).cell? ⟨bt, ot + k, none⟩ = some (.int .i64 (-1)) := cellBelow' (below1 wr _) y2
                have HSU : Hid ((playTo (ss.take (k + 1))).1 = l) := by unfold Hid; rw [hsu]
                clear hown hbr hsu hv hst hkl
                go_wp2
                go_roundw
                case rel => exact ⟨k + 1, by omega, by go_num, by rw [HSU.out]; exact HO7.out, HB7.out⟩
                case measure => simp [intOf]; omega
              | some x =>
                obtain ⟨ts, p⟩ := x
                have hpp := stepO_good hst
                obtain ⟨a, n, ha, hn, han, hfr, haf⟩ := step_pages hgd hst
                have hv : stepL l (s1, s2) = (ts, p) := by simp [stepL, hst]
                rw [hv] at y2 hsu
                simp only [] at y2 hsu hn ha hfr haf
                subst hn
                have HSU : Hid ((playTo (ss.take (k + 1))).1 = ts) := by unfold Hid; rw [hsu]
                have HFR := Lib.hid hfr; have HAF := Lib.hid haf
                have y3 : (wr.alloc (.cells #[.int .i64 s1, .int .i64 n] 33)).cell? ⟨bt, ot + k, none⟩ = some (.int .i64 p) := cellBelow' (below1 wr _) y2
                have hp0 : ¬ p < 0 := by omega
                have hpb := hpp.2
                clear hown hbr hsu hv hst hkl hpp hfr haf
                by_cases c : s1 < 0
                · rw [if_pos c] at ha
                  subst ha
                  have cd : decide (s1 < 0) = true := decide_eq_true c
                  rw [cd] at HFR HAF
                  have c2 : ¬ s1 ≥ 0 := by omega
                  have c3 : decide (0 ≤ s1) = false := decide_eq_false (by omega)
                  go_wp2
                  generalize wr.heap.size = gr at *
                  go_loopw [17] (fun x wr => ∃ q : Nat, a ≤ q ∧ q ≤ a + n ∧ x = .int .i64 q ∧ OwnB wr w4.heap.size w4.heap.size (bl fun z => if a ≤ z ∧ z < q then false else pgB l z) ∧ Row wr gr 33 (cr (s1, n)) ∧ Below w4.heap.size w4 wr) (fun x _ => a + n - (intOf x).toNat)
                  case atStart => exact ⟨a, Nat.le_refl _, by omega, rfl, by rw [bl_congr (g := pgB l) (fun z _ => by rw [if_neg (by omega)])]; exact HO7.out, HR7.out, HB7.out⟩
                  case round =>
                    obtain ⟨q, hq1, hq2, rfl, hown, hrow, hbr⟩ := hrel
                    have c0 : wr.cell? ⟨gr, 0, none⟩ = some (.int .i64 (s1)) := hrow.cell 0
                    have c1 : wr.cell? ⟨gr, 0 + 1, none⟩ = some (.int .i64 n) := hrow.cell 1
                    by_cases hlt2 : q < a + n
                    · obtain ⟨d0, d1⟩ := hown.cell (p := q) (by omega)
                      rw [if_neg (by omega), HFR.out q hq1 hlt2] at d0
                      obtain ⟨t1, t2⟩ := hown.stored q false
                      have j1 : (q : Int) < (a : Int) + (n : Int) := by omega
                      have j2 : (q : Int) < 32 := by omega
                      have S1 := Lib.hid t1
                      have SB := Lib.hid (hbr.grown t2 hbr.size (fun j hj => by cases hj; exact Nat.le_refl _))
                      have SR := Lib.hid (Row.grownBy hrow t2 (by intro e; cases e; omega))
                      clear t1 t2 hown hrow hbr
                      go_wp2
                      go_quiet (fail)
                      go_wp2
                      go_roundw
                      case rel => exact ⟨q + 1, by omega, by omega, by go_num, by rw [bl_congr (g := fun z => if z = q then false else if a ≤ z ∧ z < q then false else pgB l z) (fun z _ => by by_cases e : z = q; (subst e; rw [if_pos (by omega), if_pos rfl]); (rw [if_neg e]; congr 1; apply propext; omega))]; exact S1.out, SR.out, below_drewN SB.out _⟩
                      case measure => simp [intOf]; omega
                    · obtain rfl : q = a + n := by omega
                      have j1 : ¬ ((a + n : Nat) : Int) < (a : Int) + (n : Int) := by omega
                      have HOE : Hid (OwnB wr w4.heap.size w4.heap.size (bl (pgB ts))) := by
                        unfold Hid
                        rw [bl_congr (g := fun z => if a ≤ z ∧ z < a + n then false else pgB l z) (fun z hz => by rw [HAF.out z hz]; rfl)]
                        exact hown
                      clear hown
                      go_wp2
                      go_roundw
                      case rel => exact ⟨u4, .int .i64 k, .pointer (some ⟨gr, 0, none⟩), .int .i64 a, .int .i64 ((a : Int) + (n : Int)), .int .i64 ((k : Int) + 1), ⟨k + 1, by omega, by go_num, by rw [HSU.out]; exact HOE.out⟩, rfl, rfl, rfl, rfl, rfl, rfl⟩
                      case measure => simp [intOf]; omega
                · rw [if_neg c] at ha
                  subst ha
                  have cd : decide ((a : Int) < 0) = false := decide_eq_false c
                  rw [cd] at HFR HAF
                  have c2 : (a : Int) ≥ 0 := by omega
                  go_wp2
                  generalize wr.heap.size = gr at *
                  go_loopw [17] (fun x wr => ∃ q : Nat, a ≤ q ∧ q ≤ a + n ∧ x = .int .i64 q ∧ OwnB wr w4.heap.size w4.heap.size (bl fun z => if a ≤ z ∧ z < q then true else pgB l z) ∧ Row wr gr 33 (cr (a, n)) ∧ Below w4.heap.size w4 wr) (fun x _ => a + n - (intOf x).toNat)
                  case atStart => exact ⟨a, Nat.le_refl _, by omega, rfl, by rw [bl_congr (g := pgB l) (fun z _ => by rw [if_neg (by omega)])]; exact HO7.out, HR7.out, HB7.out⟩
                  case round =>
                    obtain ⟨q, hq1, hq2, rfl, hown, hrow, hbr⟩ := hrel
                    have c0 : wr.cell? ⟨gr, 0, none⟩ = some (.int .i64 (a)) := hrow.cell 0
                    have c1 : wr.cell? ⟨gr, 0 + 1, none⟩ = some (.int .i64 n) := hrow.cell 1
                    by_cases hlt2 : q < a + n
                    · obtain ⟨d0, d1⟩ := hown.cell (p := q) (by omega)
                      rw [if_neg (by omega), HFR.out q hq1 hlt2] at d0
                      obtain ⟨t1, t2⟩ := hown.stored q true
                      have j1 : (q : Int) < (a : Int) + (n : Int) := by omega
                      have j2 : (q : Int) < 32 := by omega
                      have S1 := Lib.hid t1
                      have SB := Lib.hid (hbr.grown t2 hbr.size (fun j hj => by cases hj; exact Nat.le_refl _))
                      have SR := Lib.hid (Row.grownBy hrow t2 (by intro e; cases e; omega))
                      clear t1 t2 hown hrow hbr
                      go_wp2
                      go_quiet (fail)
                      go_wp2
                      go_roundw
                      case rel => exact ⟨q + 1, by omega, by omega, by go_num, by rw [bl_congr (g := fun z => if z = q then true else if a ≤ z ∧ z < q then true else pgB l z) (fun z _ => by by_cases e : z = q; (subst e; rw [if_pos (by omega), if_pos rfl]); (rw [if_neg e]; congr 1; apply propext; omega))]; exact S1.out, SR.out, below_drewN SB.out _⟩
                      case measure => simp [intOf]; omega
                    · obtain rfl : q = a + n := by omega
                      have j1 : ¬ ((a + n : Nat) : Int) < (a : Int) + (n : Int) := by omega
                      have HOE : Hid (OwnB wr w4.heap.size w4.heap.size (bl (pgB ts))) := by
                        unfold Hid
                        rw [bl_congr (g := fun z => if a ≤ z ∧ z < a + n then true else pgB l z) (fun z hz => by rw [HAF.out z hz]; rfl)]
                        exact hown
                      clear hown
                      go_wp2
                      go_roundw
                      case rel => exact ⟨u4, .int .i64 k, .pointer (some ⟨gr, 0, none⟩), .int .i64 a, .int .i64 ((a : Int) + (n : Int)), .int .i64 ((k : Int) + 1), ⟨k + 1, by omega, by go_num, by rw [HSU.out]; exact HOE.out⟩, rfl, rfl, rfl, rfl, rfl, rfl⟩
                      case measure => simp [intOf]; omega
            · obtain rfl : k = ns := by omega
              have HE : Hid (ss.take k = ss) := by unfold Hid; exact List.take_of_length_le (by rw [HNS.out]; omega)
              rw [HE.out] at hown
              have HO8 := Lib.hid hown; have HB8 := Lib.hid hbr
              clear hown hbr HO6 HB6
              go_wp2
              go_loop [18, 126] (fun c i => ∃ k : Nat, k ≤ 32 ∧ i = .int .i64 k ∧ c = .int .i64 (cnt (pgB (playTo ss).1) k)) (fun _ i => 32 - (intOf i).toNat)
              case atStart => exact ⟨0, Nat.zero_le _, rfl, rfl⟩
              case round =>
                obtain ⟨q, hq, rfl, rfl⟩ := hrel
                have hcb := cnt_bound (pgB (playTo ss).1) q
                by_cases hlt3 : q < 32
                · obtain ⟨d0, _⟩ := HO8.out.cell (p := q) hlt3
                  have hcs : cnt (pgB (playTo ss).1) (q + 1) = cnt (pgB (playTo ss).1) q + (if pgB (playTo ss).1 q then 1 else 0) := rfl
                  have i3 : (q : Int) < 32 := by omega
                  cases hbq : pgB (playTo ss).1 q with
                  | false =>
                    rw [hbq] at d0 hcs
                    have HCS : Hid (cnt (pgB (playTo ss).1) (q + 1) = cnt (pgB (playTo ss).1) q) := by unfold Hid; rw [hcs]; simp
                    generalize cnt (pgB (playTo ss).1) q = cq at *
                    clear hcs
                    go_wp2
                    go_round
                    case rel => exact ⟨q + 1, by omega, by go_num, by rw [HCS.out]⟩
                    case measure => simp [intOf]; omega
                  | true =>
                    rw [hbq] at d0 hcs
                    have HCS : Hid (cnt (pgB (playTo ss).1) (q + 1) = cnt (pgB (playTo ss).1) q + 1) := by unfold Hid; rw [hcs]; simp
                    generalize cnt (pgB (playTo ss).1) q = cq at *
                    clear hcs
                    go_wp2
                    go_round
                    case rel => exact ⟨q + 1, by omega, by go_num, by rw [HCS.out]⟩
                    case measure => simp [intOf]; omega
                · obtain rfl : q = 32 := by omega
                  have hcp := cnt_pages HPG.out
                  rw [hcp] at hcb ⊢
                  have B := Lib.hid (below_up HBW.out HB8.out)
                  have O_l := Lib.hid (HOL.out.below HB8.out)
                  clear HO8 HB8
                  have hse : (sumR (playTo ss).1 != sumR (playTo ss).1) = false := by simp
                  go_wp2_with fail
                  refine (c_FreeIn_yes v_l (playTo ss).1 _ O_l.out.runs HPG.out).mono ?_
                  rintro e w11 ⟨rfl, hb⟩
                  replace O_l := Lib.hid (O_l.out.below hb)
                  replace B := Lib.hid (bst B.out hb B.out.size)
                  clear hb
                  go_wp2_with fail
                  have HCG := Lib.hid (c_GoodRuns v_l (playTo ss).1 w11 O_l.out.runs (Bnd.good HPG.out) (by have := good_len16 HPG.out; omega))
                  rw [HPG.out] at HCG
                  refine HCG.out.mono ?_
                  rintro e w12 ⟨rfl, hb⟩
                  replace O_l := Lib.hid (O_l.out.below hb)
                  replace B := Lib.hid (bst B.out hb B.out.size)
                  clear hb
                  clear O_l HCG
                  go_wp2_with fail
                  refine (c_DrawFreeIn _ zm _ (HM.out.below B.out)).mono ?_
                  rintro e x1 ⟨v_u, us, rfl, hul, hus, ho, hb⟩
                  have hbs := B.out.size
                  replace B := Lib.hid (bst B.out hb B.out.size)
                  clear hb
                  have O_u := Lib.hid (ho.mono hbs)
                  have HUS := Lib.hid hus.bnd; have HUL := Lib.hid hul
                  clear ho hbs hus hul
                  go_wp2_with fail
                  refine (c_FreeIn v_u us _ O_u.out.runs HUS.out (by have := HUL.out; omega)).mono ?_
                  rintro e x2 ⟨rfl, hb⟩
                  replace O_u := Lib.hid (O_u.out.below hb)
                  replace B := Lib.hid (bst B.out hb B.out.size)
                  clear hb
                  go_wp2_with fail
                  refine (s_FreeIn v_u us _ O_u.out.runs HUS.out (by have := HUL.out; omega)).mono ?_
                  rintro e x3 ⟨rfl, hb⟩
                  replace O_u := Lib.hid (O_u.out.below hb)
                  replace B := Lib.hid (bst B.out hb B.out.size)
                  clear hb
                  clear O_u
                  go_wp2_with fail
                  refine (c_DrawLongestIn _ zm _ (HM.out.below B.out)).mono ?_
                  rintro e x4 ⟨v_y, ys, rfl, hyl, hys, ho, hb⟩
                  have hbs := B.out.size
                  replace B := Lib.hid (bst B.out hb B.out.size)
                  clear hb
                  have O_y := Lib.hid (ho.mono hbs)
                  have HYS := Lib.hid hys.bnd; have HYL := Lib.hid hyl
                  clear ho hbs hys hyl
                  go_wp2_with fail
                  refine (c_LongestIn v_y ys _ O_y.out.runs HYS.out (by have := HYL.out; omega)).mono ?_
                  rintro e x5 ⟨rfl, hb⟩
                  replace O_y := Lib.hid (O_y.out.below hb)
                  replace B := Lib.hid (bst B.out hb B.out.size)
                  clear hb
                  go_wp2_with fail
                  refine (s_LongestIn v_y ys _ O_y.out.runs HYS.out (by have := HYL.out; omega)).mono ?_
                  rintro e x6 ⟨rfl, hb⟩
                  replace O_y := Lib.hid (O_y.out.below hb)
                  replace B := Lib.hid (bst B.out hb B.out.size)
                  clear hb
                  clear O_y
                  generalize freeV us = f1
                  generalize good 0 us = g1
                  generalize longV ys = f2
                  generalize good 0 ys = g2
                  have t1 : (f1 == f1) = true := by simp
                  have t2 : (g1 == g1) = true := by simp
                  have t3 : (f2 == f2) = true := by simp
                  have t4 : (g2 == g2) = true := by simp
                  go_wp2_with fail
                  refine (c_AllFree _).mono ?_
                  rintro e x7 ⟨v_a, rfl, ho, hb⟩
                  have hbs := B.out.size
                  replace B := Lib.hid (bst B.out hb B.out.size)
                  clear hb
                  have O_a := Lib.hid (ho.mono hbs)
                  clear ho hbs
                  go_wp2_with fail
                  refine (s_AllFree _).mono ?_
                  rintro e x8 ⟨v_b, rfl, ho, hb⟩
                  have hbs := B.out.size
                  replace O_a := Lib.hid (O_a.out.below hb)
                  replace B := Lib.hid (bst B.out hb B.out.size)
                  clear hb
                  have O_b := Lib.hid (ho.mono hbs)
                  clear ho hbs
                  go_wp2_with fail
                  refine (c_sameRuns v_a v_b [(0, 32)] _ O_a.out.runs O_b.out.runs (by simp)).mono ?_
                  rintro e x9 ⟨rfl, hb⟩
                  replace O_a := Lib.hid (O_a.out.below hb)
                  replace O_b := Lib.hid (O_b.out.below hb)
                  replace B := Lib.hid (bst B.out hb B.out.size)
                  clear hb
                  go_wp2
                  go_ret
                  exact ⟨rfl, B.out⟩
    · have HI : Hid (∀ w v, RunsAt w v ss → Calls Try.prog 24 #[v] w (EndP [] [] false w)) := fun w v h => c_PlayRuns_no v ss w h h40
      have HS : Hid (∀ w v, RunsAt w v ss → Calls Try.prog 25 #[v] w (EndP [] [] false w)) := fun w v h => s_PlayRuns_no v ss w h h40
      go_wp2_with fail
      refine (HI.out _ _ O_s.out.runs).mono ?_
      rintro e w1 ⟨v_l, v_lt, rfl, ho, hot, _, hb⟩
      have hbs := B.out.size
      replace O_s := Lib.hid (O_s.out.below hb)
      replace B := Lib.hid (bst B.out hb B.out.size)
      clear hb
      have O_l := Lib.hid (ho.mono hbs)
      have O_lt := Lib.hid (hot.mono hbs)
      clear ho hot hbs
      go_wp2_with fail
      refine (HS.out _ _ O_s.out.runs).mono ?_
      rintro e w2 ⟨v_w, v_wt, rfl, ho, hot, _, hb⟩
      have hbs := B.out.size
      replace O_s := Lib.hid (O_s.out.below hb)
      replace O_l := Lib.hid (O_l.out.below hb)
      replace O_lt := Lib.hid (O_lt.out.below hb)
      replace B := Lib.hid (bst B.out hb B.out.size)
      clear hb
      have O_w := Lib.hid (ho.mono hbs)
      have O_wt := Lib.hid (hot.mono hbs)
      clear ho hot hbs
      go_wp2_with fail
      refine (c_sameI v_lt v_wt [] _ O_lt.out.ints O_wt.out.ints (by simp)).mono ?_
      rintro e w3 ⟨rfl, hb⟩
      replace O_s := Lib.hid (O_s.out.below hb)
      replace O_l := Lib.hid (O_l.out.below hb)
      replace O_lt := Lib.hid (O_lt.out.below hb)
      replace O_w := Lib.hid (O_w.out.below hb)
      replace O_wt := Lib.hid (O_wt.out.below hb)
      replace B := Lib.hid (bst B.out hb B.out.size)
      clear hb
      go_wp2_with fail
      refine (c_sameRuns v_l v_w [] _ O_l.out.runs O_w.out.runs (by simp)).mono ?_
      rintro e w4 ⟨rfl, hb⟩
      replace O_s := Lib.hid (O_s.out.below hb)
      replace O_l := Lib.hid (O_l.out.below hb)
      replace O_lt := Lib.hid (O_lt.out.below hb)
      replace O_w := Lib.hid (O_w.out.below hb)
      replace O_wt := Lib.hid (O_wt.out.below hb)
      replace B := Lib.hid (bst B.out hb B.out.size)
      clear hb
      clear O_s O_l O_lt O_w O_wt HI HS
      go_wp2_with fail
      refine (c_DrawFreeIn _ zm _ (HM.out.below B.out)).mono ?_
      rintro e x1 ⟨v_u, us, rfl, hul, hus, ho, hb⟩
      have hbs := B.out.size
      replace B := Lib.hid (bst B.out hb B.out.size)
      clear hb
      have O_u := Lib.hid (ho.mono hbs)
      have HUS := Lib.hid hus.bnd; have HUL := Lib.hid hul
      clear ho hbs hus hul
      go_wp2_with fail
      refine (c_FreeIn v_u us _ O_u.out.runs HUS.out (by have := HUL.out; omega)).mono ?_
      rintro e x2 ⟨rfl, hb⟩
      replace O_u := Lib.hid (O_u.out.below hb)
      replace B := Lib.hid (bst B.out hb B.out.size)
      clear hb
      go_wp2_with fail
      refine (s_FreeIn v_u us _ O_u.out.runs HUS.out (by have := HUL.out; omega)).mono ?_
      rintro e x3 ⟨rfl, hb⟩
      replace O_u := Lib.hid (O_u.out.below hb)
      replace B := Lib.hid (bst B.out hb B.out.size)
      clear hb
      clear O_u
      go_wp2_with fail
      refine (c_DrawLongestIn _ zm _ (HM.out.below B.out)).mono ?_
      rintro e x4 ⟨v_y, ys, rfl, hyl, hys, ho, hb⟩
      have hbs := B.out.size
      replace B := Lib.hid (bst B.out hb B.out.size)
      clear hb
      have O_y := Lib.hid (ho.mono hbs)
      have HYS := Lib.hid hys.bnd; have HYL := Lib.hid hyl
      clear ho hbs hys hyl
      go_wp2_with fail
      refine (c_LongestIn v_y ys _ O_y.out.runs HYS.out (by have := HYL.out; omega)).mono ?_
      rintro e x5 ⟨rfl, hb⟩
      replace O_y := Lib.hid (O_y.out.below hb)
      replace B := Lib.hid (bst B.out hb B.out.size)
      clear hb
      go_wp2_with fail
      refine (s_LongestIn v_y ys _ O_y.out.runs HYS.out (by have := HYL.out; omega)).mono ?_
      rintro e x6 ⟨rfl, hb⟩
      replace O_y := Lib.hid (O_y.out.below hb)
      replace B := Lib.hid (bst B.out hb B.out.size)
      clear hb
      clear O_y
      generalize freeV us = f1
      generalize good 0 us = g1
      generalize longV ys = f2
      generalize good 0 ys = g2
      have t1 : (f1 == f1) = true := by simp
      have t2 : (g1 == g1) = true := by simp
      have t3 : (f2 == f2) = true := by simp
      have t4 : (g2 == g2) = true := by simp
      go_wp2_with fail
      refine (c_AllFree _).mono ?_
      rintro e x7 ⟨v_a, rfl, ho, hb⟩
      have hbs := B.out.size
      replace B := Lib.hid (bst B.out hb B.out.size)
      clear hb
      have O_a := Lib.hid (ho.mono hbs)
      clear ho hbs
      go_wp2_with fail
      refine (s_AllFree _).mono ?_
      rintro e x8 ⟨v_b, rfl, ho, hb⟩
      have hbs := B.out.size
      replace O_a := Lib.hid (O_a.out.below hb)
      replace B := Lib.hid (bst B.out hb B.out.size)
      clear hb
      have O_b := Lib.hid (ho.mono hbs)
      clear ho hbs
      go_wp2_with fail
      refine (c_sameRuns v_a v_b [(0, 32)] _ O_a.out.runs O_b.out.runs (by simp)).mono ?_
      rintro e x9 ⟨rfl, hb⟩
      replace O_a := Lib.hid (O_a.out.below hb)
      replace O_b := Lib.hid (O_b.out.below hb)
      replace B := Lib.hid (bst B.out hb B.out.size)
      clear hb
      go_wp2
      go_ret
      exact ⟨rfl, B.out⟩
end Go.Proofs.Ytdiejmebodpjeaa
