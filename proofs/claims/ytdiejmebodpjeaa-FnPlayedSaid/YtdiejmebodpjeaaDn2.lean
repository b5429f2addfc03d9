/- What the laws of chapter 3 draw: lists of runs. -/
import Derived.Test.YtdiejmebodpjeaaDn1
import Derived.Test.YtdiejmebodpjeaaSp6
namespace Go.Proofs.Ytdiejmebodpjeaa
open Go.RowKit Pr

theorem Sm.good {l : List R} (h : good 0 l = true) : Sm l := fun r hr => by have := (okR_iff _).1 (good_mem h r hr).1; omega

set_option maxRecDepth 100000 in
set_option maxHeartbeats 6400000 in
theorem c_runs (c n : Nat) (w : World) (hc : CurIs w c n) (hn : n ≤ 999980000) :
    Calls Try.prog 42 #[.pointer (some ⟨c, 0, none⟩)] w fun e w' => ∃ (v : Value) (rs : List R), e = .returned v ∧ rs.length ≤ 16 ∧ Sm rs ∧ OwnR w' w.heap.size v rs ∧ CurIs w' c (n + 700) ∧ w.grownBy w' (some c) := by
  have hcw := hc.lt
  have HD := Lib.hid (Dw.start hc)
  clear hc
  go_enter Try.func42, Try.ntmps42
  go_wp2_with fail
  refine (c_runSteps c n _ HD.out.1 (by omega)).mono ?_
  rintro e w1 ⟨v1, ss, rfl, hl1, hsm, ho1, hc1, hg1⟩
  have HD1 := Lib.hid (HD.out.step hc1 hg1)
  have HR1 := Lib.hid ho1.runs
  have HI1 := Lib.hid hsm.bnd
  have hs1 := hg1.size
  clear hc1 hg1 ho1 hsm
  by_cases h40 : ss.length ≤ 40
  · have hp := playTo_good ss ss.length (Nat.le_refl _)
    rw [List.take_length] at hp
    have HPG := Lib.hid hp.1
    clear hp
    go_wp2_with fail
    refine (s_PlayRuns_yes v1 ss _ HR1.out HI1.out h40).mono ?_
    rintro e w4 ⟨v4, u4, rfl, ho4, hou4, _, hb4⟩
    have HD4 : Hid (Dw w c (n + 600) w4) := HD1.out.app (row := none) (grown_of_below hb4 none) (fun k hk => by cases hk)
    have HO4 := Lib.hid (ho4.mono hs1)
    have HSM := Lib.hid (Sm.good HPG.out)
    have HL := Lib.hid (good_len16 HPG.out)
    clear ho4 hou4 hb4 HPG
    generalize (playTo ss).1 = l at *
    rcases hvs : HO4.out.2 with ⟨hv4, hl0⟩ | ⟨g, cap, cur4, hv4, hgB, hrest⟩
    · subst hv4
      clear hvs
      go_wp2
      go_ret
      exact ⟨_, l, rfl, HL.out, HSM.out, HO4.out, HD4.out.1.mono (by omega), HD4.out.2.1⟩
    · subst hv4
      clear hvs hrest
      by_cases h0 : l.length = 0
      · have h00 : ¬ (l.length : Int) > 0 := by omega
        generalize hll : l.length = ll at *
        have HLL := Lib.hid hll; clear hll
        subst h0
        go_wp2
        go_ret
        exact ⟨_, l, rfl, (by rw [HLL.out]; exact HL.out), HSM.out, HO4.out, HD4.out.1.mono (by omega), HD4.out.2.1⟩
      · have h00 : (l.length : Int) > 0 := by omega
        have h16 := HL.out
        obtain ⟨q0, q1, f0, f1⟩ := HO4.out.cells rfl (j := 0) (by omega)
        generalize hll : l.length = ll at *
        have HLL := Lib.hid hll; clear hll
        have h0' : (0 : Int) < (ll : Int) := by omega
        go_wp2_with fail
        refine (c_one c (n + 600) 20 _ HD4.out.1 (by omega) (by omega) (by omega)).mono ?_
        rintro e w5 ⟨b5, rfl, hc5, hg5⟩
        have HD5 := Lib.hid (HD4.out.step hc5 hg5)
        have HO5 := Lib.hid (HO4.out.stepC hcw hg5)
        clear hc5 hg5 q0 q1 f0 f1
        cases b5 with
        | false =>
          go_wp2
          go_ret
          exact ⟨_, l, rfl, (by rw [HLL.out]; exact HL.out), HSM.out, HO5.out, HD5.out.1.mono (by omega), HD5.out.2.1⟩
        | true =>
          go_wp2_with fail
          refine (c_pick c (n + 600 + 2) 34 _ HD5.out.1 (by omega) (by omega) (by omega)).mono ?_
          rintro e w6 ⟨x6, hx6, rfl, hc6, hg6⟩
          have HD6 := Lib.hid (HD5.out.step hc6 hg6)
          have HO6 := Lib.hid (HO5.out.stepC hcw hg6)
          clear hc6 hg6
          go_wp2_with fail
          refine (c_pick c (n + 600 + 2 + 2) 4 _ HD6.out.1 (by omega) (by omega) (by omega)).mono ?_
          rintro e w7 ⟨y7, hy7, rfl, hc7, hg7⟩
          have HD7 := Lib.hid (((HD6.out.step hc7 hg7).set (g := g) hgB 0 (.int .i64 (x6 - 1))).set (g := g) hgB (0 + 1) (.int .i64 y7))
          have O7 := HO6.out.stepC hcw hg7
          obtain ⟨q0, q1, f0, f1⟩ := O7.cells HLL.out (j := 0) (by omega)
          obtain ⟨s1, _⟩ := O7.store2 HLL.out (j := 0) (by omega) (x6 - 1) y7
          simp only [Nat.zero_mul] at q0 q1 f0 f1 s1
          have S1 := Lib.hid s1
          have HSM2 : Hid (Sm (l.set 0 (x6 - 1, y7))) := fun r hr => by
            rcases List.mem_or_eq_of_mem_set hr with h | h
            · exact HSM.out r h
            · rw [h]; exact ⟨by simp only []; omega, by simp only []; omega⟩
          generalize (l.getD 0 (0, 0)).1 = o1 at q0
          generalize (l.getD 0 (0, 0)).2 = o2 at q1
          clear hc7 hg7 O7 s1
          go_wp2
          go_ret
          exact ⟨_, l.set 0 (x6 - 1, y7), rfl, by rw [List.length_set, HLL.out]; exact HL.out, HSM2.out, S1.out, HD7.out.1.mono (by omega), HD7.out.2.1⟩
  · go_wp2_with fail
    refine (s_PlayRuns_no v1 ss _ HR1.out h40).mono ?_
    rintro e w3 ⟨v3, u3, rfl, ho3, hou3, _, hb3⟩
    have HD3 : Hid (Dw w c (n + 600) w3) := HD1.out.app (row := none) (grown_of_below hb3 none) (fun k hk => by cases hk)
    have hs3 := hb3.size
    clear ho3 hou3 hb3
    go_wp2_with fail
    refine (s_AllFree w3).mono ?_
    rintro e w4 ⟨v4, rfl, ho4, hb4⟩
    have HD4 : Hid (Dw w c (n + 600) w4) := HD3.out.app (row := none) (grown_of_below hb4 none) (fun k hk => by cases hk)
    have HO4 := Lib.hid (ho4.mono (show w.heap.size ≤ w3.heap.size by omega))
    have HSM : Hid (Sm [(0, 32)]) := Sm.good rfl
    have HL : Hid (([(0, 32)] : List R).length ≤ 16) := by unfold Hid; decide
    clear ho4 hb4
    generalize ([(0, 32)] : List R) = l at *
    rcases hvs : HO4.out.2 with ⟨hv4, hl0⟩ | ⟨g, cap, cur4, hv4, hgB, hrest⟩
    · subst hv4
      clear hvs
      go_wp2
      go_ret
      exact ⟨_, l, rfl, HL.out, HSM.out, HO4.out, HD4.out.1.mono (by omega), HD4.out.2.1⟩
    · subst hv4
      clear hvs hrest
      by_cases h0 : l.length = 0
      · have h00 : ¬ (l.length : Int) > 0 := by omega
        generalize hll : l.length = ll at *
        have HLL := Lib.hid hll; clear hll
        subst h0
        go_wp2
        go_ret
        exact ⟨_, l, rfl, (by rw [HLL.out]; exact HL.out), HSM.out, HO4.out, HD4.out.1.mono (by omega), HD4.out.2.1⟩
      · have h00 : (l.length : Int) > 0 := by omega
        have h16 := HL.out
        obtain ⟨q0, q1, f0, f1⟩ := HO4.out.cells rfl (j := 0) (by omega)
        generalize hll : l.length = ll at *
        have HLL := Lib.hid hll; clear hll
        have h0' : (0 : Int) < (ll : Int) := by omega
        go_wp2_with fail
        refine (c_one c (n + 600) 20 _ HD4.out.1 (by omega) (by omega) (by omega)).mono ?_
        rintro e w5 ⟨b5, rfl, hc5, hg5⟩
        have HD5 := Lib.hid (HD4.out.step hc5 hg5)
        have HO5 := Lib.hid (HO4.out.stepC hcw hg5)
        clear hc5 hg5 q0 q1 f0 f1
        cases b5 with
        | false =>
          go_wp2
          go_ret
          exact ⟨_, l, rfl, (by rw [HLL.out]; exact HL.out), HSM.out, HO5.out, HD5.out.1.mono (by omega), HD5.out.2.1⟩
        | true =>
          go_wp2_with fail
          refine (c_pick c (n + 600 + 2) 34 _ HD5.out.1 (by omega) (by omega) (by omega)).mono ?_
          rintro e w6 ⟨x6, hx6, rfl, hc6, hg6⟩
          have HD6 := Lib.hid (HD5.out.step hc6 hg6)
          have HO6 := Lib.hid (HO5.out.stepC hcw hg6)
          clear hc6 hg6
          go_wp2_with fail
          refine (c_pick c (n + 600 + 2 + 2) 4 _ HD6.out.1 (by omega) (by omega) (by omega)).mono ?_
          rintro e w7 ⟨y7, hy7, rfl, hc7, hg7⟩
          have HD7 := Lib.hid (((HD6.out.step hc7 hg7).set (g := g) hgB 0 (.int .i64 (x6 - 1))).set (g := g) hgB (0 + 1) (.int .i64 y7))
          have O7 := HO6.out.stepC hcw hg7
          obtain ⟨q0, q1, f0, f1⟩ := O7.cells HLL.out (j := 0) (by omega)
          obtain ⟨s1, _⟩ := O7.store2 HLL.out (j := 0) (by omega) (x6 - 1) y7
          simp only [Nat.zero_mul] at q0 q1 f0 f1 s1
          have S1 := Lib.hid s1
          have HSM2 : Hid (Sm (l.set 0 (x6 - 1, y7))) := fun r hr => by
            rcases List.mem_or_eq_of_mem_set hr with h | h
            · exact HSM.out r h
            · rw [h]; exact ⟨by simp only []; omega, by simp only []; omega⟩
          generalize (l.getD 0 (0, 0)).1 = o1 at q0
          generalize (l.getD 0 (0, 0)).2 = o2 at q1
          clear hc7 hg7 O7 s1
          go_wp2
          go_ret
          exact ⟨_, l.set 0 (x6 - 1, y7), rfl, by rw [List.length_set, HLL.out]; exact HL.out, HSM2.out, S1.out, HD7.out.1.mono (by omega), HD7.out.2.1⟩

/-- A drawn list of runs, seen from outside. -/
def RunsOut (w : World) (e : Ending) (w' : World) : Prop := ∃ (v : Value) (rs : List R), e = .returned v ∧ rs.length ≤ 16 ∧ Sm rs ∧ OwnR w' w.heap.size v rs ∧ Below w.heap.size w w'
set_option maxHeartbeats 800000 in
theorem c_DrawGoodRuns (v : Value) (zs : List Int) (w : World) (h : BytesAt w v zs) : Calls Try.prog 57 #[v] w (RunsOut w) := by
  have HC := Lib.hid (cur_new h)
  obtain ⟨_, _, a, cap, rfl, _⟩ := h
  generalize zs.length = m at *
  go_enter Try.func57, Try.ntmps57
  go_wp2_with fail
  refine (c_runs w.heap.size 0 _ HC.out (by omega)).mono ?_
  rintro e w1 ⟨v1, rs, rfl, hl, hs, ho, _, hg⟩
  have HO := Lib.hid (ho.mono (show w.heap.size ≤ _ by simp))
  clear ho
  go_wp2
  go_ret
  exact ⟨_, rs, rfl, hl, hs, HO.out, below_of_cur hg⟩
theorem c_DrawFreeIn (v : Value) (zs : List Int) (w : World) (h : BytesAt w v zs) : Calls Try.prog 27 #[v] w (RunsOut w) := by
  have HC := Lib.hid (c_DrawGoodRuns v zs w h)
  clear h
  go_enter Try.func27, Try.ntmps27
  go_wp2_with fail
  refine HC.out.mono ?_
  rintro e w1 ⟨v1, rs, rfl, hl, hs, ho, hb⟩
  have HO := Lib.hid ho
  clear ho
  go_wp2
  go_ret
  exact ⟨_, rs, rfl, hl, hs, HO.out, hb⟩
theorem c_DrawLongestIn (v : Value) (zs : List Int) (w : World) (h : BytesAt w v zs) : Calls Try.prog 29 #[v] w (RunsOut w) := by
  have HC := Lib.hid (c_DrawGoodRuns v zs w h)
  clear h
  go_enter Try.func29, Try.ntmps29
  go_wp2_with fail
  refine HC.out.mono ?_
  rintro e w1 ⟨v1, rs, rfl, hl, hs, ho, hb⟩
  have HO := Lib.hid ho
  clear ho
  go_wp2
  go_ret
  exact ⟨_, rs, rfl, hl, hs, HO.out, hb⟩
set_option maxHeartbeats 800000 in
theorem c_DrawPlayRuns (v : Value) (zs : List Int) (w : World) (h : BytesAt w v zs) : Calls Try.prog 23 #[v] w fun e w' => ∃ (v : Value) (ss : List R), e = .returned v ∧ ss.length ≤ 41 ∧ Sm ss ∧ OwnR w' w.heap.size v ss ∧ Below w.heap.size w w' := by
  have HC := Lib.hid (cur_new h)
  obtain ⟨_, _, a, cap, rfl, _⟩ := h
  generalize zs.length = m at *
  go_enter Try.func23, Try.ntmps23
  go_wp2_with fail
  refine (c_runSteps w.heap.size 0 _ HC.out (by omega)).mono ?_
  rintro e w1 ⟨v1, rs, rfl, hl, hs, ho, _, hg⟩
  have HO := Lib.hid (ho.mono (show w.heap.size ≤ _ by simp))
  clear ho
  go_wp2
  go_ret
  exact ⟨_, rs, rfl, hl, hs, HO.out, below_of_cur hg⟩
theorem own_ints7 (w : World) (B : Nat) (hB : B ≤ w.heap.size) : Own (w.alloc (.cells #[.int .i64 0, .int .i64 1, .int .i64 2, .int .i64 5, .int .i64 16, .int .i64 32, .int .i64 33] 3)) B (.slice (some ⟨w.heap.size, 0, none⟩) 7 7) [0, 1, 2, 5, 16, 32, 33] :=
  ⟨rfl, .inr ⟨w.heap.size, 7, _, rfl, hB, heap_alloc_new _ _, Nat.le_refl _, by decide, rfl, rfl⟩⟩
set_option maxHeartbeats 800000 in
theorem c_DrawTakeRun (v : Value) (zs : List Int) (w : World) (h : BytesAt w v zs) : Calls Try.prog 12 #[v] w fun e w' => ∃ (v : Value) (rs : List R) (x : Int), e = .returned (.tuple #[v, .int .i64 x]) ∧ (0 ≤ x ∧ x ≤ 33) ∧ rs.length ≤ 16 ∧ Sm rs ∧ OwnR w' w.heap.size v rs ∧ Below w.heap.size w w' := by
  have HC := Lib.hid (cur_new h)
  obtain ⟨_, _, a, cap, rfl, _⟩ := h
  generalize zs.length = m at *
  go_enter Try.func12, Try.ntmps12
  go_wp2_with fail
  refine (c_runs w.heap.size 0 _ HC.out (by omega)).mono ?_
  rintro e w1 ⟨v1, rs, rfl, hl, hs, ho, hc1, hg⟩
  have HD1 := Lib.hid ((Dw.start HC.out).step hc1 hg)
  have HO := Lib.hid ho
  have hlt := HC.out.lt
  have hs1 := hg.size
  have HB := Lib.hid (below_of_cur hg)
  clear ho hc1 hg
  go_wp2_with fail
  refine (c_among w.heap.size (0 + 700) _ [0, 1, 2, 5, 16, 32, 33] 0 33 _ (HD1.out.alloc _).1 (by omega) (own_ints7 w1 (w.heap.size + 1) (by omega)) (by simp) (by simp) (by intro z hz; simp at hz; omega)).mono ?_
  rintro e w2 ⟨x, hx, rfl, hc2, hg2⟩
  have HO2 := Lib.hid (((HO.out.below (below1 w1 (.cells #[.int .i64 0, .int .i64 1, .int .i64 2, .int .i64 5, .int .i64 16, .int .i64 32, .int .i64 33] 3))).stepC hlt hg2).mono (show w.heap.size ≤ _ by omega))
  have HB2 := Lib.hid ((HB.out.alloc HB.out.size (.cells #[.int .i64 0, .int .i64 1, .int .i64 2, .int .i64 5, .int .i64 16, .int .i64 32, .int .i64 33] 3)).grown hg2 (by have := HB.out.size; simp; omega) (fun k hk => by cases hk; exact Nat.le_refl _))
  clear hc2 hg2
  go_wp2
  go_ret2
  exact ⟨_, rs, x, rfl, hx, hl, hs, HO2.out, HB2.out⟩
theorem res_slot_row {P : Program} {fn : Func} {p q : Tmp} {ty : TypeId} (h : fn.results = #[.tmp q, .cell p ty]) {tmps : Array Value} {w : World} {g : Nat} {t : TypeId} {cs : Array Value} {d : TypeDesc} {v : Value} (hg : Row w g t cs)
    (hp : tmps.getD p undef = .pointer (some ⟨g, 0, none⟩)) (hq : tmps.getD q undef = v) (hu : P.underlying ty = some d) (hd : (match d with | .struct _ | .array _ _ => true | _ => false) = true) (hi : (P.info? ty).map (·.size) = some cs.size) :
    (results fn tmps).run P w = .ok (.tuple #[v, .agg cs]) w := by
  have hp' : tmps[p]?.getD undef = .pointer (some ⟨g, 0, none⟩) := by simpa using hp
  have hq' : tmps[q]?.getD undef = v := by simpa using hq
  simp [results, h, hp', hq', asAddr, run_loadVar_row w g t ty cs (0, 0) d hg hu hd hi]
set_option maxHeartbeats 1600000 in
theorem c_DrawGiveRun (v : Value) (zs : List Int) (w : World) (h : BytesAt w v zs) : Calls Try.prog 21 #[v] w fun e w' => ∃ (v : Value) (rs : List R) (r : R), e = .returned (.tuple #[v, rn r]) ∧ i64R r ∧ rs.length ≤ 16 ∧ Sm rs ∧ OwnR w' w.heap.size v rs ∧ Below w.heap.size w w' := by
  have hB0 := below1 w (.cells (cr (0, 0)) 33)
  have hc0 := cur_new (h.below hB0)
  have hsz : (w.alloc (.cells (cr (0, 0)) 33)).heap.size = w.heap.size + 1 := by simp
  rw [hsz] at hc0
  have HC := Lib.hid hc0
  have HB1 := Lib.hid (hB0.alloc (by rw [hsz]; omega) (.cells #[v, .int .i64 0, .int .u64 0] 60))
  have HR1 := Lib.hid (Row.alloc (Row.new w 33 (cr (0, 0))) (.cells #[v, .int .i64 0, .int .u64 0] 60))
  have HSZ : Hid (((w.alloc (.cells (cr (0, 0)) 33)).alloc (.cells #[v, .int .i64 0, .int .u64 0] 60)).heap.size = w.heap.size + 2) := by unfold Hid; simp
  obtain ⟨_, _, a, cap, rfl, _⟩ := h
  generalize zs.length = m at *
  clear hB0 hc0 hsz
  go_enter Try.func21, Try.ntmps21
  go_wp2_with fail
  refine (c_runs (w.heap.size + 1) 0 _ HC.out (by omega)).mono ?_
  rintro e w1 ⟨v1, rs, rfl, hl, hs, ho, hc1, hg1⟩
  have hs1 := hg1.size
  rw [HSZ.out] at hs1
  have HO1 := Lib.hid (ho.mono (show w.heap.size + 2 ≤ _ by rw [HSZ.out]; exact Nat.le_refl _))
  have HR2 := Lib.hid (Row.grownBy HR1.out hg1 (by simp))
  have HB2 := Lib.hid (HB1.out.grown hg1 HB1.out.size (fun k hk => by cases hk; omega))
  clear ho hg1
  go_wp2_with fail
  refine (c_pick (w.heap.size + 1) (0 + 700) 18 _ hc1 (by omega) (by omega) (by omega)).mono ?_
  rintro e w2 ⟨x, hx, rfl, hc2, hg2⟩
  have HO2 := Lib.hid (HO1.out.stepC (by omega) hg2)
  have HR3 := Lib.hid (Row.grownBy HR2.out hg2 (by simp))
  have HB3 := Lib.hid (HB2.out.grown hg2 HB2.out.size (fun k hk => by cases hk; omega))
  clear hc1 hg2
  go_wp2_with fail
  refine (c_pick (w.heap.size + 1) (0 + 700 + 2) 5 _ hc2 (by omega) (by omega) (by omega)).mono ?_
  rintro e w3 ⟨y, hy, rfl, hc3, hg3⟩
  have O3 := HO2.out.stepC (c := w.heap.size + 1) (by omega) hg3
  have R4 := Row.grownBy HR3.out hg3 (by simp)
  have B4 := HB3.out.grown hg3 HB3.out.size (fun k hk => by cases hk; omega)
  have q0 : w3.cell? ⟨w.heap.size, 0, none⟩ = some (.int .i64 0) := R4.cell 0
  have q1 : w3.cell? ⟨w.heap.size, 0 + 1, none⟩ = some (.int .i64 0) := R4.cell 1
  have f0 : w3.frozen? ⟨w.heap.size, 0, none⟩ = false := R4.frozen 0
  have f1 : w3.frozen? ⟨w.heap.size, 0 + 1, none⟩ = false := R4.frozen 1
  have hvn : v1.ownBlock ≠ some w.heap.size := fun e => by have := (World.ownsRow.lt O3 _ e).1; omega
  have HO3 := Lib.hid (((O3.setO hvn 0 (.int .i64 (x - 1))).setO hvn (0 + 1) (.int .i64 y)).mono (show w.heap.size ≤ w.heap.size + 2 by omega))
  have HR4 : Hid (Row ((w3.setCell ⟨w.heap.size, 0, none⟩ (.int .i64 (x - 1))).setCell ⟨w.heap.size, 0 + 1, none⟩ (.int .i64 y)) w.heap.size 33 (cr (x - 1, y))) := (R4.set 0 (.int .i64 (x - 1))).set 1 (.int .i64 y)
  have HB4 := Lib.hid ((B4.setCell (p := ⟨w.heap.size, 0, none⟩) (Nat.le_refl _) (.int .i64 (x - 1))).setCell (p := ⟨w.heap.size, 0 + 1, none⟩) (Nat.le_refl _) (.int .i64 y))
  clear hc2 hg3 O3 R4 B4 hc3
  go_wp2
  refine bodyPost_ret (res_slot_row Try.results21 HR4.out rfl rfl Try.underlying33 rfl info_run) rfl ⟨_, rs, (x - 1, y), rfl, ?_, hl, hs, HO3.out, HB4.out⟩
  unfold i64R
  simp only []
  omega
end Go.Proofs.Ytdiejmebodpjeaa
