/- What the laws rest on, part 2. -/
import Derived.Test.YtkbphmnacdpdgaaRB1
import Derived.Deep.Cut
import Derived.Laws.StructEq
import Derived.Shelf.Sort.Plain
import Derived.Test.YtkbphmnacdpdgaaProg
import Derived.Lib.AppendZerosOnto
import Derived.Shelf.Slices.In.SortNone
import Derived.Sort.OwnSortedInts
namespace Go.Proofs.Ytkbphmnacdpdgaa
open Go.RowKit Ph Kw

theorem RowC.other {w : World} {g : Nat} {f : Nat → Value} {n : Int} {d : Value} (h : RowC w g f n d) (p : Addr) (hp : p.block ≠ g) (x : Value) : RowC (w.setCell p x) g f n d := Row.other h p (fun e => hp e.symm) x
set_option maxHeartbeats 1600000 in
theorem c_push_no (f : Nat → Value) (d : Value) (W : Wk) (k : Nat) (w : World) (hA : CrewAt w f d W) (hk : k < 3) (hn : W.n ≤ 100) (h : ¬ (W.n < 100 ∧ (row W k).length < 12)) (w0 : World) (P : Nat → Prop) (W' : Wk) : Calls Try.prog 83 #[crv f W.n d, .int .i64 k] w (EndC w0 P W' false w) := by
  have hb0 := (below1 w (.cells (cr5 f W.n d) 76)).alloc (by simp) (.cells (cr5 nF 0 nilV) 76)
  have rc0 : RowC ((w.alloc (.cells (cr5 f W.n d) 76)).alloc (.cells (cr5 nF 0 nilV) 76)) w.heap.size f W.n d := Row.alloc (Row.new w 76 (cr5 f W.n d)) _
  have rr0 : RowC ((w.alloc (.cells (cr5 f W.n d) 76)).alloc (.cells (cr5 nF 0 nilV) 76)) (w.heap.size + 1) nF 0 nilV := Row.new1 w _ 76 (cr5 nF 0 nilV)
  have hsz : ((w.alloc (.cells (cr5 f W.n d) 76)).alloc (.cells (cr5 nF 0 nilV) 76)).heap.size = w.heap.size + 2 := by simp
  obtain ⟨p, c, hf, hc⟩ := (hA.r k hk).shape
  have RR := Lib.hid rr0; have RC := Lib.hid rc0; have HB := Lib.hid hb0
  have q := rc0.nn
  have HW := Lib.hid hA
  clear rc0 rr0 hb0 hA hc
  by_cases hn1 : W.n = 100
  · have e : (W.n == 100) = true := by rw [hn1]; decide
    clear h hn1 hn hf hk
    go_enter Try.func83, Try.ntmps83
    go_wp2_with (refine wl_storeC rfl _ _ rfl (w.heap.size + 1) nF 0 nilV _ _ _ RR.out rfl rfl rfl rfl rfl rfl ?_)
    refine bodyPost_ret (res_row_slot Try.results83 (Row.put RR.out (cr5 nF 0 nilV)) rfl rfl Try.underlying76 rfl info_crew) rfl (endC_no (below_setRow HB.out (by omega) _))
  · have e : (W.n == 100) = false := by simp; omega
    have hm : ¬ (row W k).length < 12 := fun h' => h ⟨by omega, h'⟩
    have HM : Hid (decide ((row W k).length < 12) = false) := decide_eq_false hm
    have HF := Lib.hid hf
    have HK := Lib.hid hk
    clear h hm hf hk hn1 hn
    go_enter Try.func83, Try.ntmps83
    go_wp2_with (first
      | (refine wl_loadC rfl _ rfl w.heap.size f W.n d RC.out rfl ?_)
      | (go_at_call 91; refine (c_hasRoom f W.n d k p _ c _ HK.out HF.out).mono ?_; rintro e w1 ⟨rfl, hb1⟩; rw [HM.out]; replace RR := Lib.hid (RowC.below RR.out hb1); replace HB := Lib.hid (bst HB.out hb1 HB.out.size); clear hb1)
      | (refine wl_storeC rfl _ _ rfl (w.heap.size + 1) nF 0 nilV _ _ _ RR.out rfl rfl rfl rfl rfl rfl ?_))
    refine bodyPost_ret (res_row_slot Try.results83 (Row.put RR.out (cr5 nF 0 nilV)) rfl rfl Try.underlying76 rfl info_crew) rfl (endC_no (below_setRow HB.out (by omega) _))
set_option maxHeartbeats 3200000 in
theorem c_push_yes (f : Nat → Value) (d : Value) (W : Wk) (k : Nat) (w : World) (hA : CrewAt w f d W) (w0 : World) (P : Nat → Prop) (hSp : Sep w0 P w f d W) (hLL : ∀ i, w.heap.size ≤ i → P i) (hs : Sm W) (hk : k < 3) (hn : W.n < 100) (h : (row W k).length < 12) : Calls Try.prog 83 #[crv f W.n d, .int .i64 k] w (EndC w0 P (push W k) true w) := by
  have hb0 := (below1 w (.cells (cr5 f W.n d) 76)).alloc (by simp) (.cells (cr5 nF 0 nilV) 76)
  have rc0 : RowC ((w.alloc (.cells (cr5 f W.n d) 76)).alloc (.cells (cr5 nF 0 nilV) 76)) w.heap.size f W.n d := Row.alloc (Row.new w 76 (cr5 f W.n d)) _
  have rr0 : RowC ((w.alloc (.cells (cr5 f W.n d) 76)).alloc (.cells (cr5 nF 0 nilV) 76)) (w.heap.size + 1) nF 0 nilV := Row.new1 w _ 76 (cr5 nF 0 nilV)
  have hsz : ((w.alloc (.cells (cr5 f W.n d) 76)).alloc (.cells (cr5 nF 0 nilV) 76)).heap.size = w.heap.size + 2 := by simp
  have HSP := Lib.hid hSp; have HLV := Lib.hid hLL; clear hSp hLL
  obtain ⟨p, c, hf, hc⟩ := (hA.r k hk).shape
  have q0 := rc0.nn
  have hX := (hA.r k hk).below hb0
  have RR := Lib.hid rr0; have RC := Lib.hid rc0; have HB := Lib.hid hb0
  have HW := Lib.hid hA
  have n0 := hs.n0
  have HS := Lib.hid hs
  have HSZ := Lib.hid hsz
  have fr3 := Row.frozen rc0 3
  clear rc0 rr0 hb0 hA hc hs hsz
  have e : (W.n == 100) = false := by simp; omega
  have e1 : IntKind.i64.wrap (W.n + 1) = W.n + 1 := IntWalk.i64_in _ (by omega)
  have HM : Hid (decide ((row W k).length < 12) = true) := decide_eq_true h
  have HL := Lib.hid h
  have HF := Lib.hid hf
  have HK := Lib.hid hk
  have HN := Lib.hid hn
  clear h hk
  have i0 : (0 : Int) ≤ (k : Int) := by omega
  have i1 : (k : Int) < 3 := by have := HK.out; omega
  have HX := Lib.hid hX
  clear hX
  go_enter Try.func83, Try.ntmps83
  go_wp2_with (first
    | (refine wl_loadC rfl _ rfl w.heap.size f W.n d RC.out rfl ?_)
    | (go_at_call 91; refine (c_hasRoom f W.n d k p _ c _ HK.out HF.out).mono ?_; rintro e w1 ⟨rfl, hb1⟩; rw [HM.out]; replace RR := Lib.hid (RowC.below RR.out hb1); replace RC := Lib.hid (RowC.below RC.out hb1); replace HX := Lib.hid (IntsC.below HX.out hb1); replace HB := Lib.hid (bst HB.out hb1 HB.out.size); have q0' := RowC.nn RC.out; have fr3' := Row.frozen RC.out 3; clear hb1))
  have RC2 := Lib.hid (RowC.setN RC.out (W.n + 1))
  have RR2 := Lib.hid (RowC.other RR.out ⟨w.heap.size, 3, none⟩ (by simp) (.int .i64 (W.n + 1)))
  have B2 := Lib.hid (HB.out.setCell (p := ⟨w.heap.size, 3, none⟩) (Nat.le_refl _) (.int .i64 (W.n + 1)))
  have HSZ1 : Hid (w.heap.size + 2 ≤ (w1.setCell ⟨w.heap.size, 3, none⟩ (.int .i64 (W.n + 1))).heap.size) := by unfold Hid; rw [World.size_setCell]; have := Row.lt RR.out; omega
  generalize w1.setCell ⟨w.heap.size, 3, none⟩ (.int .i64 (W.n + 1)) = w2 at *
  clear q0 fr3 q0' fr3' RC RR HB HX
  replace RC2 : Hid (RowC w2.drew w.heap.size f (W.n + 1) d) := RC2
  replace RR2 : Hid (RowC w2.drew (w.heap.size + 1) nF 0 nilV) := RR2
  replace B2 : Hid (Below w.heap.size w w2.drew) := below_drew B2.out
  replace HSZ1 : Hid (w.heap.size + 2 ≤ w2.drew.heap.size) := HSZ1
  have q3 : w2.drew.cell? ⟨w.heap.size, 3, none⟩ = some (.int .i64 (W.n + 1)) := RowC.nn RC2.out
  have qk : w2.drew.cell? ⟨w.heap.size, k, none⟩ = some (f k) := RowC.row RC2.out HK.out
  rw [HF.out] at qk
  have HX : Hid (IntsC w2.drew (.slice p (row W k).length c) (row W k)) := by have := (HW.out.r k HK.out).below B2.out; rw [HF.out] at this; exact this
  generalize hm : (row W k).length = m at *
  have HMM := Lib.hid hm; clear hm
  refine wp_region_held_drew (S := (fun w' => w'.cell? ⟨w.heap.size, 3, none⟩ = some (.int .i64 (W.n + 1)))) (by kernel_rfl) (q3) (fun hHeld => ?_)
  refine wpAnyH_take (i := 0) (v := ?va0x1) rfl (by kernel_rfl) (by kernel_rfl) (by kernel_rfl) (fun _ _ _ h => h) (Or.inl ⟨by rfl, ?hy0x1⟩) (by assumption) ?rest0x1
  case hy0x1 => (intro w hSw; (try dsimp only at hSw); go_simp; try with_reducible rfl)
  (try simp only [Act.put, List.getElem_toArray, List.getElem_cons_zero, List.setIfInBounds_toArray, List.set_cons_zero, List.set_cons_succ])
  refine wpAnyH_take (i := 1) (v := ?va1x2) rfl (by kernel_rfl) (by kernel_rfl) (by kernel_rfl) (fun _ _ _ h => h) (Or.inl ⟨by rfl, ?hy1x2⟩) (by assumption) ?rest1x2
  case hy1x2 => (intro w hSw; (try dsimp only at hSw); go_simp; try with_reducible rfl)
  (try simp only [Act.put, List.getElem_toArray, List.getElem_cons_zero, List.getElem_cons_succ, List.setIfInBounds_toArray, List.set_cons_zero, List.set_cons_succ])
  refine wpAnyH_take (i := 2) (v := ?va2x3) rfl (by kernel_rfl) (by kernel_rfl) (by kernel_rfl) (fun _ _ _ h => h) (Or.inl ⟨by rfl, ?hy2x3⟩) (by assumption) ?rest2x3
  case hy2x3 => (intro w hSw; (try dsimp only at hSw); go_simp; try with_reducible rfl)
  (try simp only [Act.put, List.getElem_toArray, List.getElem_cons_zero, List.getElem_cons_succ, List.setIfInBounds_toArray, List.set_cons_zero, List.set_cons_succ])
  refine wpAnyH_take (i := 3) (v := ?va3x4) rfl (by kernel_rfl) (by kernel_rfl) (by kernel_rfl) (fun _ _ _ h => h) (Or.inl ⟨by rfl, ?hy3x4⟩) (by assumption) ?rest3x4
  case hy3x4 => (intro w hSw; (try dsimp only at hSw); go_simp; try with_reducible rfl)
  (try simp only [Act.put, List.getElem_toArray, List.getElem_cons_zero, List.getElem_cons_succ, List.setIfInBounds_toArray, List.set_cons_zero, List.set_cons_succ])
  refine wpAnyH_take (i := 5) (v := ?va5x5) rfl (by kernel_rfl) (by kernel_rfl) (by kernel_rfl) (fun _ _ _ h => h) (Or.inl ⟨by rfl, ?hy5x5⟩) (by assumption) ?rest5x5
  case hy5x5 => (intro w hSw; (try dsimp only at hSw); go_simp; try with_reducible rfl)
  (try simp only [Act.put, List.getElem_toArray, List.getElem_cons_zero, List.getElem_cons_succ, List.setIfInBounds_toArray, List.set_cons_zero, List.set_cons_succ])
  refine wpAnyH_take (i := 6) (v := ?va6x6) rfl (by kernel_rfl) (by kernel_rfl) (by kernel_rfl) (fun _ _ _ h => h) (Or.inl ⟨by rfl, ?hy6x6⟩) (by assumption) ?rest6x6
  case hy6x6 => (intro w hSw; (try dsimp only at hSw); go_simp; try with_reducible rfl)
  (try simp only [Act.put, List.getElem_toArray, List.getElem_cons_zero, List.getElem_cons_succ, List.setIfInBounds_toArray, List.set_cons_zero, List.set_cons_succ])
  refine wpAnyH_take (i := 8) (v := ?va8x7) rfl (by kernel_rfl) (by kernel_rfl) (by kernel_rfl) (fun _ _ _ h => h) (Or.inl ⟨by rfl, ?hy8x7⟩) (by assumption) ?rest8x7
  case hy8x7 => (intro w hSw; (try dsimp only at hSw); go_simp; try with_reducible rfl)
  (try simp only [Act.put, List.getElem_toArray, List.getElem_cons_zero, List.getElem_cons_succ, List.setIfInBounds_toArray, List.set_cons_zero, List.set_cons_succ])
  refine wpAnyH_ready (rs := [4]) (by kernel_rfl) (by simp) ?_
  refine AllReadyH.cons rfl (fun K hK => ?_) AllReadyH.nil
  go_simp
  refine hK.out _ _ (q3) (fun hHeld => ?_)
  clear hK K
  (try simp only [Act.put, List.getElem_toArray, List.getElem_cons_zero, List.getElem_cons_succ, List.setIfInBounds_toArray, List.set_cons_zero, List.set_cons_succ])
  refine wpAnyH_ready (rs := [7]) (by kernel_rfl) (by simp) ?_
  refine AllReadyH.cons rfl (fun K hK => ?_) AllReadyH.nil
  go_simp
  refine (c_withLast _ (row W k) (W.n + 1) _ HX.out (by have := HL.out; have := HMM.out; omega)).mono ?_
  rintro e w4 ⟨v4, rfl, ho4, hb4⟩
  have q4 := RowC.nn (RowC.below RC2.out hb4)
  have C4 := Lib.hid (RowC.below RC2.out hb4)
  have R4 := Lib.hid (RowC.below RR2.out hb4)
  have B4 := Lib.hid (bst B2.out hb4 B2.out.size)
  have O4 := Lib.hid ho4
  have f4 := Row.frozen C4.out k
  have c4 := RowC.row C4.out HK.out
  obtain ⟨p4, x4, hv4⟩ := ho4.ints.shape
  generalize (row W k ++ [W.n + 1]).length = m4 at hv4
  subst hv4
  clear hb4 ho4
  refine hK.out _ _ (q4) (fun hHeld => ?_)
  clear hK K
  (try simp only [Act.put, List.getElem_toArray, List.getElem_cons_zero, List.getElem_cons_succ, List.setIfInBounds_toArray, List.set_cons_zero, List.set_cons_succ])
  refine wpAnyH_take (i := 9) (v := ?va9x8) rfl (by kernel_rfl) (by kernel_rfl) (by kernel_rfl) (fun _ _ _ h => h) (Or.inl ⟨by rfl, ?hy9x8⟩) (by assumption) ?rest9x8
  case hy9x8 => (intro w hSw; (try dsimp only at hSw); go_simp; try with_reducible rfl)
  (try simp only [Act.put, List.getElem_toArray, List.getElem_cons_zero, List.getElem_cons_succ, List.setIfInBounds_toArray, List.set_cons_zero, List.set_cons_succ])
  refine wpAnyH_ready (rs := [10]) (by kernel_rfl) (by simp) ?_
  refine AllReadyH.cons rfl (fun K hK => ?_) AllReadyH.nil
  go_simp
  refine hK.out _ _ (RowC.nn (RowC.setR C4.out HK.out _)) (fun hHeld => ?_)
  clear hK K
  (try simp only [Act.put, List.getElem_toArray, List.getElem_cons_zero, List.getElem_cons_succ, List.setIfInBounds_toArray, List.set_cons_zero, List.set_cons_succ])
  refine wpAnyH_done (by kernel_rfl) ?_ _
  clear hHeld
  have RC5 := Lib.hid (RowC.setR C4.out HK.out (.slice p4 m4 x4))
  have RR5 := Lib.hid (RowC.other R4.out ⟨w.heap.size, k, none⟩ (by simp) (.slice p4 m4 x4))
  have B5 := Lib.hid (B4.out.setCell (p := ⟨w.heap.size, k, none⟩) (Nat.le_refl _) (.slice p4 m4 x4))
  have O5 := Lib.hid (Own.cell O4.out ⟨w.heap.size, k, none⟩ (show w.heap.size < w2.drew.heap.size by have := HSZ1.out; omega) (.slice p4 m4 x4))
  generalize w4.setCell ⟨w.heap.size, k, none⟩ (.slice p4 m4 x4) = w5 at *
  clear c4 f4 q4 q3 qk C4 R4 B4 O4 RC2 RR2 B2 HX
  have ON : Hid (∀ j, j < 3 → (upd f k (.slice p4 m4 x4) j).oneCell' = true) := fun j hj => by
    by_cases e : j = k
    · subst e; rw [upd_same]; rfl
    · rw [upd_other _ _ e]; exact (HW.out.r j hj).one
  have ONE : Hid ((upd f k (.slice p4 m4 x4) 0).oneCell' = true ∧ (upd f k (.slice p4 m4 x4) 1).oneCell' = true ∧ (upd f k (.slice p4 m4 x4) 2).oneCell' = true ∧ d.oneCell' = true) := ⟨ON.out 0 (by omega), ON.out 1 (by omega), ON.out 2 (by omega), HW.out.d.one⟩
  clear ON
  go_wp2_with (first
    | (refine wl_loadC rfl _ rfl w.heap.size (upd f k (.slice p4 m4 x4)) (W.n + 1) d RC5.out rfl ?_)
    | (refine wl_storeC rfl _ _ rfl (w.heap.size + 1) (upd f k (.slice p4 m4 x4)) (W.n + 1) d _ _ _ RR5.out rfl rfl ONE.out.1 ONE.out.2.1 ONE.out.2.2.1 ONE.out.2.2.2 ?_))
  have BE := below_setRow B5.out (show w.heap.size ≤ w.heap.size + 1 by omega) (cr5 (upd f k (.slice p4 m4 x4)) (W.n + 1) d)
  refine bodyPost_ret (res_row_slot Try.results83 (Row.put RR5.out (cr5 (upd f k (.slice p4 m4 x4)) (W.n + 1) d)) rfl rfl Try.underlying76 rfl info_crew) rfl (endC_yes (W := push W k) ONE.out (sepPush HSP.out BE HS.out.len HK.out (Own.whole O5.out (w.heap.size + 1) (show w.heap.size + 1 < w2.drew.heap.size by have := HSZ1.out; omega) _) (fun i (hi : w2.drew.heap.size ≤ i) => HLV.out i (by have := HSZ1.out; omega))) BE)
end Go.Proofs.Ytkbphmnacdpdgaa
namespace Go.Proofs.Ytkbphmnacdpdgaa
open Go.RowKit Ph Kw
set_option maxHeartbeats 1600000 in
theorem c_pop_no (f : Nat → Value) (d : Value) (W : Wk) (k : Nat) (w : World) (hA : CrewAt w f d W) (hk : k < 3) (h : (row W k).length = 0) (w0 : World) (P : Nat → Prop) (W' : Wk) : Calls Try.prog 59 #[crv f W.n d, .int .i64 k] w (EndC w0 P W' false w) := by
  have hb0 := (below1 w (.cells (cr5 f W.n d) 76)).alloc (by simp) (.cells (cr5 nF 0 nilV) 76)
  have rc0 : RowC ((w.alloc (.cells (cr5 f W.n d) 76)).alloc (.cells (cr5 nF 0 nilV) 76)) w.heap.size f W.n d := Row.alloc (Row.new w 76 (cr5 f W.n d)) _
  have rr0 : RowC ((w.alloc (.cells (cr5 f W.n d) 76)).alloc (.cells (cr5 nF 0 nilV) 76)) (w.heap.size + 1) nF 0 nilV := Row.new1 w _ 76 (cr5 nF 0 nilV)
  have hsz : ((w.alloc (.cells (cr5 f W.n d) 76)).alloc (.cells (cr5 nF 0 nilV) 76)).heap.size = w.heap.size + 2 := by simp
  obtain ⟨p, c, hf, hc⟩ := (hA.r k hk).shape
  have RR := Lib.hid rr0; have HB := Lib.hid hb0
  have q := rc0.row hk
  rw [hf, h] at q
  have i0 : (0 : Int) ≤ (k : Int) := by omega
  have i1 : (k : Int) < 3 := by omega
  clear rc0 rr0 hb0 hA hc h hf hk
  go_enter Try.func59, Try.ntmps59
  go_wp2_with (refine wl_storeC rfl _ _ rfl (w.heap.size + 1) nF 0 nilV _ _ _ RR.out rfl rfl rfl rfl rfl rfl ?_)
  refine bodyPost_ret (res_row_slot Try.results59 (Row.put RR.out (cr5 nF 0 nilV)) rfl rfl Try.underlying76 rfl info_crew) rfl (endC_no (below_setRow HB.out (by omega) _))
set_option maxHeartbeats 3200000 in
set_option maxRecDepth 100000 in
theorem c_pop_yes (f : Nat → Value) (d : Value) (W : Wk) (k : Nat) (w : World) (hA : CrewAt w f d W) (w0 : World) (P : Nat → Prop) (hSp : Sep w0 P w f d W) (hLL : ∀ i, w.heap.size ≤ i → P i) (hs : Sm W) (hk : k < 3) (h : 0 < (row W k).length) : Calls Try.prog 59 #[crv f W.n d, .int .i64 k] w (EndC w0 P (pop W k) true w) := by
  have hb0 := (below1 w (.cells (cr5 f W.n d) 76)).alloc (by simp) (.cells (cr5 nF 0 nilV) 76)
  have rc0 : RowC ((w.alloc (.cells (cr5 f W.n d) 76)).alloc (.cells (cr5 nF 0 nilV) 76)) w.heap.size f W.n d := Row.alloc (Row.new w 76 (cr5 f W.n d)) _
  have rr0 : RowC ((w.alloc (.cells (cr5 f W.n d) 76)).alloc (.cells (cr5 nF 0 nilV) 76)) (w.heap.size + 1) nF 0 nilV := Row.new1 w _ 76 (cr5 nF 0 nilV)
  have hsz : ((w.alloc (.cells (cr5 f W.n d) 76)).alloc (.cells (cr5 nF 0 nilV) 76)).heap.size = w.heap.size + 2 := by simp
  have HSP := Lib.hid hSp; have HLV := Lib.hid hLL; clear hSp hLL
  obtain ⟨p, c, hf, hc⟩ := (hA.r k hk).shape
  have RR := Lib.hid rr0; have RC := Lib.hid rc0; have HB := Lib.hid hb0
  have q := rc0.row hk
  rw [hf] at q
  have HX := (hA.r k hk).below hb0
  rw [hf] at HX
  replace HX := Lib.hid HX
  have HL := Lib.hid (hs.rows k hk)
  have HD : Hid (W.d.length ≤ 100) := by unfold Hid; have := hs.tot; unfold tot at this; have := hs.n1; have := hs.n0; omega
  have HS := Lib.hid hs
  have HW := Lib.hid hA; have HF := Lib.hid hf; have HK := Lib.hid hk
  have h1 : (((row W k).length : Int) == 0) = false := by rw [beq_eq_false_iff_ne]; omega
  have H0 := Lib.hid h
  have i0 : (0 : Int) ≤ (k : Int) := by omega
  have i1 : (k : Int) < 3 := by omega
  clear rc0 rr0 hb0 hA hc h hf hk hs hsz
  generalize hm : (row W k).length = m at *
  have HM := Lib.hid hm; clear hm
  go_enter Try.func59, Try.ntmps59
  go_wp2_with fail
  refine (c_takeLast _ (row W k) _ HX.out (by rw [HM.out]; exact H0.out) (by have := HL.out; rw [HM.out]; omega)).mono ?_
  rintro e w1 ⟨v1, rfl, ⟨p1, c1, hv1⟩, htr, nd, hw2⟩
  rw [HM.out] at hv1 htr ⊢
  subst hv1
  have TR := Lib.hid htr; clear htr
  generalize hz : (row W k).getD (m - 1) 0 = z
  have HZ := Lib.hid hz; clear hz
  replace RC : Hid (RowC w1 w.heap.size f W.n d) := by rw [hw2]; exact RC
  replace RR : Hid (RowC w1 (w.heap.size + 1) nF 0 nilV) := by rw [hw2]; exact RR
  replace HB : Hid (Below w.heap.size w w1) := by rw [hw2]; exact below_drewN HB.out nd
  clear q h1 HX hw2
  generalize w1 = w2 at *
  have q := RowC.row RC.out HK.out
  rw [HF.out] at q
  have fr := Row.frozen RC.out k
  have d4 := RowC.dd RC.out
  go_upto_region 5 with fail
  replace RC := Lib.hid (RowC.setR RC.out HK.out (.slice p1 (m - 1) c1))
  replace RR := Lib.hid (RowC.other RR.out ⟨w.heap.size, k, none⟩ (by simp) (.slice p1 (m - 1) c1))
  replace HB := Lib.hid (HB.out.setCell (p := ⟨w.heap.size, k, none⟩) (Nat.le_refl _) (.slice p1 (m - 1) c1))
  generalize w2.setCell ⟨w.heap.size, k, none⟩ (.slice p1 (m - 1) c1) = w3 at *
  clear q fr d4
  have HGE : Hid (w.heap.size + 2 ≤ w3.heap.size) := by unfold Hid; have := Row.lt RR.out; omega
  have d4 := RowC.dd RC.out
  go_wp2_with fail
  refine (c_withLast _ W.d z _ (HW.out.d.below HB.out) (by have := HD.out; omega)).mono ?_
  rintro e w4 ⟨v4, rfl, ho4, hb4⟩
  clear d4
  replace RC := Lib.hid (RowC.below RC.out hb4)
  replace RR := Lib.hid (RowC.below RR.out hb4)
  replace HB := Lib.hid (bst HB.out hb4 HB.out.size)
  have O4 := Lib.hid ho4
  obtain ⟨p4, x4, hv4⟩ := ho4.ints.shape
  generalize (W.d ++ [z]).length = m4 at hv4
  subst hv4
  have d4 := RowC.dd RC.out
  have fr := Row.frozen RC.out 4
  clear hb4 ho4
  go_upto_region 6 with fail
  replace RC := Lib.hid (RowC.setD RC.out (.slice p4 m4 x4))
  replace RR := Lib.hid (RowC.other RR.out ⟨w.heap.size, 4, none⟩ (by simp) (.slice p4 m4 x4))
  replace HB := Lib.hid (HB.out.setCell (p := ⟨w.heap.size, 4, none⟩) (Nat.le_refl _) (.slice p4 m4 x4))
  replace O4 := Lib.hid (Own.cell O4.out ⟨w.heap.size, 4, none⟩ (show w.heap.size < w3.heap.size by have := HGE.out; omega) (.slice p4 m4 x4))
  generalize w4.setCell ⟨w.heap.size, 4, none⟩ (.slice p4 m4 x4) = w5 at *
  clear d4 fr
  have ON : Hid (∀ j, j < 3 → (upd f k (.slice p1 (m - 1) c1) j).oneCell' = true) := fun j hj => by
    by_cases e : j = k
    · subst e; rw [upd_same]; rfl
    · rw [upd_other _ _ e]; exact (HW.out.r j hj).one
  have ONE : Hid ((upd f k (.slice p1 (m - 1) c1) 0).oneCell' = true ∧ (upd f k (.slice p1 (m - 1) c1) 1).oneCell' = true ∧ (upd f k (.slice p1 (m - 1) c1) 2).oneCell' = true ∧ (Value.slice p4 m4 x4).oneCell' = true) := ⟨ON.out 0 (by omega), ON.out 1 (by omega), ON.out 2 (by omega), rfl⟩
  clear ON
  go_wp2_with (first
    | (refine wl_loadC rfl _ rfl w.heap.size (upd f k (.slice p1 (m - 1) c1)) W.n (.slice p4 m4 x4) RC.out rfl ?_)
    | (refine wl_storeC rfl _ _ rfl (w.heap.size + 1) (upd f k (.slice p1 (m - 1) c1)) W.n (.slice p4 m4 x4) _ _ _ RR.out rfl rfl ONE.out.1 ONE.out.2.1 ONE.out.2.2.1 ONE.out.2.2.2 ?_))
  have BE := below_setRow HB.out (show w.heap.size ≤ w.heap.size + 1 by omega) (cr5 (upd f k (.slice p1 (m - 1) c1)) W.n (.slice p4 m4 x4))
  refine bodyPost_ret (res_row_slot Try.results59 (Row.put RR.out (cr5 (upd f k (.slice p1 (m - 1) c1)) W.n (.slice p4 m4 x4))) rfl rfl Try.underlying76 rfl info_crew) rfl (endC_yes (W := pop W k) ONE.out (sepPop HSP.out BE HS.out.len HK.out HM.out HZ.out (fun w2 h => TR.out w2 (by rw [HF.out] at h; exact h)) (Own.whole O4.out (w.heap.size + 1) (show w.heap.size + 1 < w3.heap.size by have := HGE.out; omega) _) (fun i (hi : w3.heap.size ≤ i) => HLV.out i (by have := HGE.out; omega))) BE)
set_option maxHeartbeats 3200000 in
set_option maxRecDepth 100000 in
theorem c_steal_no (f : Nat → Value) (d : Value) (W : Wk) (k : Nat) (b : Int) (w : World) (hA : CrewAt w f d W) (hk : k < 3) (h : ¬ (0 ≤ b ∧ b < 3 ∧ b ≠ k ∧ 0 < (row W b.toNat).length ∧ (row W k).length < 12)) (w0 : World) (P : Nat → Prop) (W' : Wk) : Calls Try.prog 68 #[crv f W.n d, .int .i64 k, .int .i64 b] w (EndC w0 P W' false w) := by
  have hb0 := (below1 w (.cells (cr5 f W.n d) 76)).alloc (by simp) (.cells (cr5 nF 0 nilV) 76)
  have rc0 : RowC ((w.alloc (.cells (cr5 f W.n d) 76)).alloc (.cells (cr5 nF 0 nilV) 76)) w.heap.size f W.n d := Row.alloc (Row.new w 76 (cr5 f W.n d)) _
  have rr0 : RowC ((w.alloc (.cells (cr5 f W.n d) 76)).alloc (.cells (cr5 nF 0 nilV) 76)) (w.heap.size + 1) nF 0 nilV := Row.new1 w _ 76 (cr5 nF 0 nilV)
  have hsz : ((w.alloc (.cells (cr5 f W.n d) 76)).alloc (.cells (cr5 nF 0 nilV) 76)).heap.size = w.heap.size + 2 := by simp
  have RR := Lib.hid rr0; have RC := Lib.hid rc0; have HB := Lib.hid hb0
  obtain ⟨p, c, hf, hc⟩ := (hA.r k hk).shape
  have HK := Lib.hid hk; have HF := Lib.hid hf
  by_cases hb : 0 ≤ b ∧ b < 3
  · have HJ : Hid (isW b = true) := isW_iff.2 ⟨hb.1, by omega⟩
    obtain ⟨j, rfl⟩ : ∃ j : Nat, b = j := ⟨b.toNat, by omega⟩
    have hj : j < 3 := by omega
    by_cases hjk : j = k
    · subst hjk
      have e : ((j : Int) == (j : Int)) = true := by simp
      clear rc0 rr0 hb0 hA hc h hf hk hb hj hsz
      go_enter Try.func68, Try.ntmps68
      go_wp2_with (first
        | (go_at_call 82; refine (c_isWorker _ _).mono ?_; rintro e w1 ⟨rfl, rfl⟩; rw [HJ.out])
        | (refine wl_storeC rfl _ _ rfl (w.heap.size + 1) nF 0 nilV _ _ _ RR.out rfl rfl rfl rfl rfl rfl ?_))
      refine bodyPost_ret (res_row_slot Try.results68 (Row.put RR.out (cr5 nF 0 nilV)) rfl rfl Try.underlying76 rfl info_crew) rfl (endC_no (below_setRow HB.out (by omega) _))
    · have e : ((j : Int) == (k : Int)) = false := by simp; omega
      obtain ⟨p2, c2, hf2, hc2⟩ := (hA.r j hj).shape
      have q := rc0.row hj
      rw [hf2] at q
      have i0 : (0 : Int) ≤ (j : Int) := by omega
      have i1 : (j : Int) < 3 := by omega
      by_cases h0 : (row W j).length = 0
      · rw [h0] at q
        clear rc0 rr0 hb0 hA hc h hf hk hb hj hsz hf2 hc2 h0 hjk
        go_enter Try.func68, Try.ntmps68
        go_wp2_with (first
          | (go_at_call 82; refine (c_isWorker _ _).mono ?_; rintro e w1 ⟨rfl, rfl⟩; rw [HJ.out])
          | (refine wl_storeC rfl _ _ rfl (w.heap.size + 1) nF 0 nilV _ _ _ RR.out rfl rfl rfl rfl rfl rfl ?_))
        refine bodyPost_ret (res_row_slot Try.results68 (Row.put RR.out (cr5 nF 0 nilV)) rfl rfl Try.underlying76 rfl info_crew) rfl (endC_no (below_setRow HB.out (by omega) _))
      · have h1 : (((row W j).length : Int) == 0) = false := by rw [beq_eq_false_iff_ne]; omega
        have HM : Hid (decide ((row W k).length < 12) = false) := decide_eq_false fun h' => h ⟨by omega, by omega, by omega, by simp; omega, h'⟩
        clear rc0 rr0 hb0 hA hc h hf hk hb hj hsz hf2 hc2 h0 hjk
        go_enter Try.func68, Try.ntmps68
        go_wp2_with (first
          | (refine wl_loadC rfl _ rfl w.heap.size f W.n d RC.out rfl ?_)
          | (go_at_call 82; refine (c_isWorker _ _).mono ?_; rintro e w1 ⟨rfl, rfl⟩; rw [HJ.out])
          | (go_at_call 91; refine (c_hasRoom f W.n d k p _ c _ HK.out HF.out).mono ?_; rintro e w1 ⟨rfl, hb1⟩; rw [HM.out]; replace RR := Lib.hid (RowC.below RR.out hb1); replace HB := Lib.hid (bst HB.out hb1 HB.out.size); clear hb1)
          | (refine wl_storeC rfl _ _ rfl (w.heap.size + 1) nF 0 nilV _ _ _ RR.out rfl rfl rfl rfl rfl rfl ?_))
        refine bodyPost_ret (res_row_slot Try.results68 (Row.put RR.out (cr5 nF 0 nilV)) rfl rfl Try.underlying76 rfl info_crew) rfl (endC_no (below_setRow HB.out (by omega) _))
  · have HJ : Hid (isW b = false) := by unfold Hid isW; simp; omega
    clear rc0 rr0 hb0 hA hc h hf hk hb hsz
    go_enter Try.func68, Try.ntmps68
    go_wp2_with (first
      | (go_at_call 82; refine (c_isWorker _ _).mono ?_; rintro e w1 ⟨rfl, rfl⟩; rw [HJ.out])
      | (refine wl_storeC rfl _ _ rfl (w.heap.size + 1) nF 0 nilV _ _ _ RR.out rfl rfl rfl rfl rfl rfl ?_))
    refine bodyPost_ret (res_row_slot Try.results68 (Row.put RR.out (cr5 nF 0 nilV)) rfl rfl Try.underlying76 rfl info_crew) rfl (endC_no (below_setRow HB.out (by omega) _))
set_option maxHeartbeats 3200000 in
set_option maxRecDepth 100000 in
theorem c_steal_yes (f : Nat → Value) (d : Value) (W : Wk) (k j : Nat) (w : World) (hA : CrewAt w f d W) (w0 : World) (P : Nat → Prop) (hSp : Sep w0 P w f d W) (hLL : ∀ i, w.heap.size ≤ i → P i) (hs : Sm W) (hk : k < 3) (hj : j < 3) (hjk : j ≠ k) (h : 0 < (row W j).length) (h12 : (row W k).length < 12) : Calls Try.prog 68 #[crv f W.n d, .int .i64 k, .int .i64 j] w (EndC w0 P (steal W k j) true w) := by
  have hb0 := (below1 w (.cells (cr5 f W.n d) 76)).alloc (by simp) (.cells (cr5 nF 0 nilV) 76)
  have rc0 : RowC ((w.alloc (.cells (cr5 f W.n d) 76)).alloc (.cells (cr5 nF 0 nilV) 76)) w.heap.size f W.n d := Row.alloc (Row.new w 76 (cr5 f W.n d)) _
  have rr0 : RowC ((w.alloc (.cells (cr5 f W.n d) 76)).alloc (.cells (cr5 nF 0 nilV) 76)) (w.heap.size + 1) nF 0 nilV := Row.new1 w _ 76 (cr5 nF 0 nilV)
  have hsz : ((w.alloc (.cells (cr5 f W.n d) 76)).alloc (.cells (cr5 nF 0 nilV) 76)).heap.size = w.heap.size + 2 := by simp
  have RR := Lib.hid rr0; have RC := Lib.hid rc0; have HB := Lib.hid hb0
  have HSP := Lib.hid hSp; have HLV := Lib.hid hLL; clear hSp hLL
  obtain ⟨p, c, hf, hc⟩ := (hA.r k hk).shape
  obtain ⟨p2, c2, hf2, hc2⟩ := (hA.r j hj).shape
  have HK := Lib.hid hk; have HF := Lib.hid hf; have HKJ := Lib.hid hj; have HF2 := Lib.hid hf2; have HNE := Lib.hid hjk
  have HJ : Hid (isW (j : Int) = true) := isW_iff.2 ⟨by omega, by omega⟩
  have e : ((j : Int) == (k : Int)) = false := by simp; omega
  have q := rc0.row hj
  rw [hf2] at q
  have i0 : (0 : Int) ≤ (j : Int) := by omega
  have i1 : (j : Int) < 3 := by omega
  have i2 : (0 : Int) ≤ (k : Int) := by omega
  have i3 : (k : Int) < 3 := by omega
  have h1 : (((row W j).length : Int) == 0) = false := by rw [beq_eq_false_iff_ne]; omega
  have HM : Hid (decide ((row W k).length < 12) = true) := decide_eq_true h12
  have HL := Lib.hid (hs.rows j hj); have HLK := Lib.hid h12
  have HS := Lib.hid hs; have HW := Lib.hid hA; have H0 := Lib.hid h
  clear rc0 rr0 hb0 hA hc h hf hk hj hsz hf2 hc2 hjk hs h12
  generalize hm : (row W j).length = m at *
  have HMM := Lib.hid hm; clear hm
  go_enter Try.func68, Try.ntmps68
  go_upto_region 3 with (first
    | (refine wl_loadC rfl _ rfl w.heap.size f W.n d RC.out rfl ?_)
    | (go_at_call 82; refine (c_isWorker _ _).mono ?_; rintro e w1 ⟨rfl, rfl⟩; rw [HJ.out])
    | (go_at_call 91; refine (c_hasRoom f W.n d k p _ c _ HK.out HF.out).mono ?_; rintro e w1 ⟨rfl, hb1⟩; rw [HM.out]; replace RR := Lib.hid (RowC.below RR.out hb1); replace RC := Lib.hid (RowC.below RC.out hb1); replace HB := Lib.hid (bst HB.out hb1 HB.out.size); clear hb1 q; have q := RowC.row RC.out HKJ.out; rw [HF2.out] at q))
  have HX := (HW.out.r j HKJ.out).below HB.out
  rw [HF2.out] at HX
  replace HX := Lib.hid HX
  go_wp2_with fail
  refine (c_takeFirst _ (row W j) _ HX.out (by rw [HMM.out]; exact H0.out) (by have := HL.out; rw [HMM.out]; omega)).mono ?_
  rintro e w1 ⟨v1, rfl, ⟨p1, c1, hv1⟩, htr, nd, hw2⟩
  rw [HMM.out] at hv1
  subst hv1
  have TR := Lib.hid htr; clear htr
  generalize hz : (row W j).getD 0 0 = z
  have HZ := Lib.hid hz; clear hz
  replace RC : Hid (RowC w1 w.heap.size f W.n d) := by rw [hw2]; exact RC
  replace RR : Hid (RowC w1 (w.heap.size + 1) nF 0 nilV) := by rw [hw2]; exact RR
  replace HB : Hid (Below w.heap.size w w1) := by rw [hw2]; exact below_drewN HB.out nd
  clear q h1 HX hw2
  generalize w1 = w2 at *
  have q := RowC.row RC.out HKJ.out
  rw [HF2.out] at q
  have fr := Row.frozen RC.out j
  go_upto_region 5 with fail
  replace RC := Lib.hid (RowC.setR RC.out HKJ.out (.slice p1 (m - 1) c1))
  replace RR := Lib.hid (RowC.other RR.out ⟨w.heap.size, j, none⟩ (by simp) (.slice p1 (m - 1) c1))
  replace HB := Lib.hid (HB.out.setCell (p := ⟨w.heap.size, j, none⟩) (Nat.le_refl _) (.slice p1 (m - 1) c1))
  generalize w2.setCell ⟨w.heap.size, j, none⟩ (.slice p1 (m - 1) c1) = w3 at *
  clear q fr
  have HGE : Hid (w.heap.size + 2 ≤ w3.heap.size) := by unfold Hid; have := Row.lt RR.out; omega
  have q := RowC.row RC.out HK.out
  rw [upd_other _ _ (show k ≠ j from fun e => HNE.out e.symm), HF.out] at q
  have HX := (HW.out.r k HK.out).below HB.out
  rw [HF.out] at HX
  replace HX := Lib.hid HX
  go_wp2_with fail
  refine (c_withLast _ (row W k) z _ HX.out (by have := HLK.out; omega)).mono ?_
  rintro e w4 ⟨v4, rfl, ho4, hb4⟩
  clear q HX
  replace RC := Lib.hid (RowC.below RC.out hb4)
  replace RR := Lib.hid (RowC.below RR.out hb4)
  replace HB := Lib.hid (bst HB.out hb4 HB.out.size)
  have O4 := Lib.hid ho4
  obtain ⟨p4, x4, hv4⟩ := ho4.ints.shape
  generalize (row W k ++ [z]).length = m4 at hv4
  subst hv4
  have q := RowC.row RC.out HK.out
  have fr := Row.frozen RC.out k
  clear hb4 ho4
  go_upto_region 6 with fail
  replace RC := Lib.hid (RowC.setR RC.out HK.out (.slice p4 m4 x4))
  replace RR := Lib.hid (RowC.other RR.out ⟨w.heap.size, k, none⟩ (by simp) (.slice p4 m4 x4))
  replace HB := Lib.hid (HB.out.setCell (p := ⟨w.heap.size, k, none⟩) (Nat.le_refl _) (.slice p4 m4 x4))
  replace O4 := Lib.hid (Own.cell O4.out ⟨w.heap.size, k, none⟩ (show w.heap.size < w3.heap.size by have := HGE.out; omega) (.slice p4 m4 x4))
  generalize w4.setCell ⟨w.heap.size, k, none⟩ (.slice p4 m4 x4) = w5 at *
  clear q fr
  have ON : Hid (∀ i, i < 3 → (upd (upd f j (.slice p1 (m - 1) c1)) k (.slice p4 m4 x4) i).oneCell' = true) := fun i hi => by
    by_cases e : i = k
    · subst e; rw [upd_same]; rfl
    · rw [upd_other _ _ e]
      by_cases e : i = j
      · subst e; rw [upd_same]; rfl
      · rw [upd_other _ _ e]; exact (HW.out.r i hi).one
  have ONE : Hid ((upd (upd f j (.slice p1 (m - 1) c1)) k (.slice p4 m4 x4) 0).oneCell' = true ∧ (upd (upd f j (.slice p1 (m - 1) c1)) k (.slice p4 m4 x4) 1).oneCell' = true ∧ (upd (upd f j (.slice p1 (m - 1) c1)) k (.slice p4 m4 x4) 2).oneCell' = true ∧ d.oneCell' = true) := ⟨ON.out 0 (by omega), ON.out 1 (by omega), ON.out 2 (by omega), HW.out.d.one⟩
  clear ON
  go_wp2_with (first
    | (refine wl_loadC rfl _ rfl w.heap.size (upd (upd f j (.slice p1 (m - 1) c1)) k (.slice p4 m4 x4)) W.n d RC.out rfl ?_)
    | (refine wl_storeC rfl _ _ rfl (w.heap.size + 1) (upd (upd f j (.slice p1 (m - 1) c1)) k (.slice p4 m4 x4)) W.n d _ _ _ RR.out rfl rfl ONE.out.1 ONE.out.2.1 ONE.out.2.2.1 ONE.out.2.2.2 ?_))
  have BE := below_setRow HB.out (show w.heap.size ≤ w.heap.size + 1 by omega) (cr5 (upd (upd f j (.slice p1 (m - 1) c1)) k (.slice p4 m4 x4)) W.n d)
  refine bodyPost_ret (res_row_slot Try.results68 (Row.put RR.out (cr5 (upd (upd f j (.slice p1 (m - 1) c1)) k (.slice p4 m4 x4)) W.n d)) rfl rfl Try.underlying76 rfl info_crew) rfl (endC_yes (W := steal W k j) ONE.out (sepSteal HSP.out BE HS.out.len HK.out HKJ.out HZ.out (fun w2 h => TR.out w2 (by rw [HF2.out] at h; exact h)) (Own.whole O4.out (w.heap.size + 1) (show w.heap.size + 1 < w3.heap.size by have := HGE.out; omega) _) (fun i (hi : w3.heap.size ≤ i) => HLV.out i (by have := HGE.out; omega))) BE)
end Go.Proofs.Ytkbphmnacdpdgaa
namespace Go.Proofs.Ytkbphmnacdpdgaa
open Go.RowKit Ph Kw

abbrev stv (k a b : Int) : Value := .agg #[.int .i64 k, .int .i64 a, .int .i64 b]
abbrev s3c (k a b : Int) : Array Value := #[.int .i64 k, .int .i64 a, .int .i64 b]
set_option maxRecDepth 100000 in
theorem eq_step (w : World) (k a b k' a' b' : Int) : (Op.equalIn 10000 44 (.agg #[.int .i64 k, .int .i64 a, .int .i64 b]) (.agg #[.int .i64 k', .int .i64 a', .int .i64 b'])).run Try.prog w = .ok (decide (k = k') && (decide (a = a') && decide (b = b'))) w := by
  have hf : Try.prog.fieldsOf 44 = (match Try.prog.underlying 44 with | some (.struct fs) => fs | _ => #[]) := rfl
  rw [run_equalIn_struct w 9999 44 _ _ (by rw [hf, Try.underlying44]) (by kernel_rfl), hf, Try.underlying44]
  have hagg : (isAgg 3).run Try.prog w = .ok false w := by
    unfold isAgg
    rw [Sem.run_bind, run_underlying Try.underlying3 w]
    simp
  have he : ∀ x y : Int, (Op.equalIn 9999 3 (.int .i64 x) (.int .i64 y)).run Try.prog w = .ok (decide (x = y)) w := fun x y => by
    rw [run_equalIn_int w 9998 3 .i64 .i64 x y Try.underlying3]
    by_cases e : x = y <;> simp [e]
  by_cases h1 : k = k'
  · by_cases h2 : a = a'
    · by_cases h3 : b = b' <;> simp [Op.eqFields, Go.part, hagg, he, h1, h2, h3]
    · simp [Op.eqFields, Go.part, hagg, he, h1, h2]
  · simp [Op.eqFields, Go.part, hagg, he, h1]
theorem en_no {W : Wk} {s : S3} (h : isW s.2.1 = false) : en W s = false := by unfold en; rw [h]; rfl
theorem en_push {W : Wk} {s : S3} (h : isW s.2.1 = true) (h1 : s.1 = 1) (h2 : s.2.2 = 0) : en W s = (decide (W.n < 100) && decide ((row W s.2.1.toNat).length < 12)) := by
  unfold en enPush enPop enSteal; rw [h, h1, h2]; simp
theorem en_pop {W : Wk} {s : S3} (h : isW s.2.1 = true) (h1 : s.1 = 2) (h2 : s.2.2 = 0) : en W s = decide (0 < (row W s.2.1.toNat).length) := by
  unfold en enPush enPop enSteal; rw [h, h1, h2]; simp
theorem en_steal {W : Wk} {s : S3} (h : isW s.2.1 = true) (h1 : s.1 = 3) : en W s = (isW s.2.2 && (decide (s.2.2 ≠ s.2.1) && (decide (0 < (row W s.2.2.toNat).length) && decide ((row W s.2.1.toNat).length < 12)))) := by
  unfold en enPush enPop enSteal; rw [h, h1]; simp [Bool.and_assoc]
theorem en_none {W : Wk} {s : S3} (h1 : ¬ (s.1 = 1 ∧ s.2.2 = 0)) (h2 : ¬ (s.1 = 2 ∧ s.2.2 = 0)) (h3 : s.1 ≠ 3) : en W s = false := by
  unfold en enPush enPop enSteal
  have a : (decide (s.1 = 1) && decide (s.2.2 = 0)) = false := by simpa using h1
  have b : (decide (s.1 = 2) && decide (s.2.2 = 0)) = false := by simpa using h2
  rw [a, b]; simp [h3]
set_option maxHeartbeats 6400000 in
set_option maxRecDepth 100000 in
theorem c_step (f : Nat → Value) (d : Value) (W : Wk) (k a b : Int) (w : World) (hA : CrewAt w f d W) (hs : Sm W) (w0 : World) (P : Nat → Prop) (hSp : Sep w0 P w f d W) (hP : ∀ i, w.heap.size ≤ i → P i) : Calls Try.prog 53 #[crv f W.n d, stv k a b] w (EndC w0 P (act W (k, a, b)) (en W (k, a, b)) w) := by
  have hsz : (((w.alloc (.cells (cr5 f W.n d) 76)).alloc (.cells (s3c k a b) 44)).alloc (.cells (cr5 nF 0 nilV) 76)).heap.size = w.heap.size + 3 := by simp
  have hQ : ∀ i, (((w.alloc (.cells (cr5 f W.n d) 76)).alloc (.cells (s3c k a b) 44)).alloc (.cells (cr5 nF 0 nilV) 76)).heap.size ≤ i → (P i ∧ i ≠ w.heap.size + 1 + 1) := fun i hi => by rw [hsz] at hi; exact ⟨hP i (by omega), by omega⟩
  have hb0 := ((below1 w (.cells (cr5 f W.n d) 76)).alloc (by simp) (.cells (s3c k a b) 44)).alloc (by simp; omega) (.cells (cr5 nF 0 nilV) 76)
  have rc0 : RowC (((w.alloc (.cells (cr5 f W.n d) 76)).alloc (.cells (s3c k a b) 44)).alloc (.cells (cr5 nF 0 nilV) 76)) w.heap.size f W.n d := Row.alloc (Row.alloc (Row.new w 76 (cr5 f W.n d)) _) _
  have rs0 : Row (((w.alloc (.cells (cr5 f W.n d) 76)).alloc (.cells (s3c k a b) 44)).alloc (.cells (cr5 nF 0 nilV) 76)) (w.heap.size + 1) 44 (s3c k a b) := Row.alloc (Row.new1 w _ 44 (s3c k a b)) _
  have rr0 : RowC (((w.alloc (.cells (cr5 f W.n d) 76)).alloc (.cells (s3c k a b) 44)).alloc (.cells (cr5 nF 0 nilV) 76)) (w.heap.size + 1 + 1) nF 0 nilV := Row.new2 w _ _ 76 (cr5 nF 0 nilV)
  have hA0 := hA.below hb0
  have q0 := Row.cell rs0 0
  have q1 := Row.cell rs0 1
  have q2 := Row.cell rs0 2
  have RC := Lib.hid rc0; have RR := Lib.hid rr0; have HB := Lib.hid hb0; have HA := Lib.hid hA0; have HS := Lib.hid hs
  clear rc0 rs0 rr0 hb0 hA0 hA hs
  have HSP := Lib.hid (Sep.turn (Q := fun i => P i ∧ i ≠ w.heap.size + 1 + 1) hSp HB.out (fun i hi hp => ⟨hp, by omega⟩))
  have HPQ := Lib.hid hQ
  clear hSp hQ hsz hP
  by_cases ha : isW a = true
  · have HJ := Lib.hid ha
    obtain ⟨ha0, ha2⟩ := isW_iff.1 ha
    obtain ⟨j, rfl⟩ : ∃ j : Nat, a = j := ⟨a.toNat, by omega⟩
    have hj : j < 3 := by omega
    have HJ3 := Lib.hid hj
    have ejj : ((j : Int)).toNat = j := by omega
    by_cases h1 : k = 1 ∧ b = 0
    · obtain ⟨rfl, rfl⟩ := h1
      have heq := fun w => eq_step w 1 j 0 1 j 0
      simp only [decide_true, Bool.and_self] at heq
      have hen := en_push (W := W) (s := (1, (j : Int), 0)) ha rfl rfl
      have hact : act W (1, (j : Int), 0) = push W j := by unfold act; rw [if_pos rfl]; simp only [ejj]
      simp only [ejj] at hen
      have HQ := Lib.hid hact.symm
      by_cases hc : W.n < 100 ∧ (row W j).length < 12
      · have HE : Hid (true = en W (1, (j : Int), 0)) := by unfold Hid; rw [hen]; simp [hc.1, hc.2]
        have HC := Lib.hid hc
        clear ha ha0 ha2 hj ejj hen hact hc
        go_enter Try.func53, Try.ntmps53
        go_wp2_with (first
          | (go_at_call 82; refine (c_isWorker _ _).mono ?_; rintro e w1 ⟨rfl, rfl⟩; rw [HJ.out])
          | (refine wl_loadC rfl _ rfl w.heap.size f W.n d RC.out rfl ?_)
          | (go_at_call 83; refine (c_push_yes f d W j _ HA.out w0 _ HSP.out HPQ.out HS.out HJ3.out HC.out.1 HC.out.2).mono ?_; rintro e w1 ⟨f1, n1, d1, rfl, hone, hcr, hb1⟩; have ONE := Lib.hid hone; have HCR := Lib.hid (hcr rfl); replace RR := Lib.hid (RowC.below RR.out hb1); replace HB := Lib.hid (bst HB.out hb1 HB.out.size); clear hb1 hone hcr)
          | (refine wl_storeC rfl _ _ rfl (w.heap.size + 1 + 1) f1 n1 d1 _ _ _ RR.out rfl rfl ONE.out.1 ONE.out.2.1 ONE.out.2.2.1 ONE.out.2.2.2 ?_))
        refine bodyPost_ret (res_row_slot Try.results53 (Row.put RR.out (cr5 f1 n1 d1)) rfl rfl Try.underlying76 rfl info_crew) rfl ?_
        refine EndC.mono (W := push W j) ⟨f1, n1, d1, rfl, ONE.out, fun _ => ⟨HCR.out.1, ?_⟩, below_setRow HB.out (by omega) _⟩ HE.out (fun h => HQ.out)
        exact (HCR.out.2.whole (w.heap.size + 1 + 1) (fun h => h.2 rfl) _).turn (Below.refl _ _) (fun i _ h => h.1)
      · have HE : Hid (false = en W (1, (j : Int), 0)) := by
          unfold Hid
          rw [hen]
          cases hq : decide (W.n < 100) && decide ((row W j).length < 12) with
          | false => rfl
          | true => rw [Bool.and_eq_true, decide_eq_true_eq, decide_eq_true_eq] at hq; exact absurd hq hc
        have HC := Lib.hid hc
        clear ha ha0 ha2 hj ejj hen hact hc
        go_enter Try.func53, Try.ntmps53
        go_wp2_with (first
          | (go_at_call 82; refine (c_isWorker _ _).mono ?_; rintro e w1 ⟨rfl, rfl⟩; rw [HJ.out])
          | (refine wl_loadC rfl _ rfl w.heap.size f W.n d RC.out rfl ?_)
          | (go_at_call 83; refine (c_push_no f d W j _ HA.out HJ3.out HS.out.n1 HC.out w0 P (push W j)).mono ?_; rintro e w1 ⟨f1, n1, d1, rfl, hone, hcr, hb1⟩; have ONE := Lib.hid hone; have HCR := Lib.hid (hone); replace RR := Lib.hid (RowC.below RR.out hb1); replace HB := Lib.hid (bst HB.out hb1 HB.out.size); clear hb1 hone hcr)
          | (refine wl_storeC rfl _ _ rfl (w.heap.size + 1 + 1) f1 n1 d1 _ _ _ RR.out rfl rfl ONE.out.1 ONE.out.2.1 ONE.out.2.2.1 ONE.out.2.2.2 ?_))
        refine bodyPost_ret (res_row_slot Try.results53 (Row.put RR.out (cr5 f1 n1 d1)) rfl rfl Try.underlying76 rfl info_crew) rfl ?_
        refine EndC.mono (W := push W j) ⟨f1, n1, d1, rfl, ONE.out, fun h => absurd h (by decide), below_setRow HB.out (by omega) _⟩ HE.out (fun h => HQ.out)
    · by_cases h2 : k = 2 ∧ b = 0
      · obtain ⟨rfl, rfl⟩ := h2
        have heq1 := fun w => eq_step w 2 j 0 1 j 0
        have heq2 := fun w => eq_step w 2 j 0 2 j 0
        simp only [decide_true, Bool.and_self] at heq2
        rw [show decide ((2 : Int) = 1) = false from rfl] at heq1
        simp only [Bool.false_and] at heq1
        have hen := en_pop (W := W) (s := (2, (j : Int), 0)) ha rfl rfl
        have hact : act W (2, (j : Int), 0) = pop W j := by unfold act; rw [if_neg (show ¬ (2 : Int) = 1 by decide), if_pos rfl]; simp only [ejj]
        simp only [ejj] at hen
        have HQ := Lib.hid hact.symm
        by_cases hc : 0 < (row W j).length
        · have HE : Hid (true = en W (2, (j : Int), 0)) := by unfold Hid; rw [hen]; simp only [hc, decide_true]
          have HC := Lib.hid hc
          clear ha ha0 ha2 hj ejj hen hact hc h1
          go_enter Try.func53, Try.ntmps53
          go_wp2_with (first
            | (go_at_call 82; refine (c_isWorker _ _).mono ?_; rintro e w1 ⟨rfl, rfl⟩; rw [HJ.out])
            | (refine wl_loadC rfl _ rfl w.heap.size f W.n d RC.out rfl ?_)
            | (go_at_call 59; refine (c_pop_yes f d W j _ HA.out w0 _ HSP.out HPQ.out HS.out HJ3.out HC.out).mono ?_; rintro e w1 ⟨f1, n1, d1, rfl, hone, hcr, hb1⟩; have ONE := Lib.hid hone; have HCR := Lib.hid (hcr rfl); replace RR := Lib.hid (RowC.below RR.out hb1); replace HB := Lib.hid (bst HB.out hb1 HB.out.size); clear hb1 hone hcr)
            | (refine wl_storeC rfl _ _ rfl (w.heap.size + 1 + 1) f1 n1 d1 _ _ _ RR.out rfl rfl ONE.out.1 ONE.out.2.1 ONE.out.2.2.1 ONE.out.2.2.2 ?_))
          refine bodyPost_ret (res_row_slot Try.results53 (Row.put RR.out (cr5 f1 n1 d1)) rfl rfl Try.underlying76 rfl info_crew) rfl ?_
          refine EndC.mono (W := pop W j) ⟨f1, n1, d1, rfl, ONE.out, fun _ => ⟨HCR.out.1, ?_⟩, below_setRow HB.out (by omega) _⟩ HE.out (fun h => HQ.out)
          exact (HCR.out.2.whole (w.heap.size + 1 + 1) (fun h => h.2 rfl) _).turn (Below.refl _ _) (fun i _ h => h.1)
        · have HE : Hid (false = en W (2, (j : Int), 0)) := by unfold Hid; rw [hen, decide_eq_false hc]
          have HC : Hid ((row W j).length = 0) := by unfold Hid; omega
          clear ha ha0 ha2 hj ejj hen hact hc h1
          go_enter Try.func53, Try.ntmps53
          go_wp2_with (first
            | (go_at_call 82; refine (c_isWorker _ _).mono ?_; rintro e w1 ⟨rfl, rfl⟩; rw [HJ.out])
            | (refine wl_loadC rfl _ rfl w.heap.size f W.n d RC.out rfl ?_)
            | (go_at_call 59; refine (c_pop_no f d W j _ HA.out HJ3.out HC.out w0 P (pop W j)).mono ?_; rintro e w1 ⟨f1, n1, d1, rfl, hone, hcr, hb1⟩; have ONE := Lib.hid hone; have HCR := Lib.hid (hone); replace RR := Lib.hid (RowC.below RR.out hb1); replace HB := Lib.hid (bst HB.out hb1 HB.out.size); clear hb1 hone hcr)
            | (refine wl_storeC rfl _ _ rfl (w.heap.size + 1 + 1) f1 n1 d1 _ _ _ RR.out rfl rfl ONE.out.1 ONE.out.2.1 ONE.out.2.2.1 ONE.out.2.2.2 ?_))
          refine bodyPost_ret (res_row_slot Try.results53 (Row.put RR.out (cr5 f1 n1 d1)) rfl rfl Try.underlying76 rfl info_crew) rfl ?_
          refine EndC.mono (W := pop W j) ⟨f1, n1, d1, rfl, ONE.out, fun h => absurd h (by decide), below_setRow HB.out (by omega) _⟩ HE.out (fun h => HQ.out)
      · have heq1 : ∀ w, (Op.equalIn 10000 44 (.agg #[.int .i64 k, .int .i64 j, .int .i64 b]) (.agg #[.int .i64 1, .int .i64 j, .int .i64 0])).run Try.prog w = .ok false w := fun w => by
          rw [eq_step]
          cases hq : decide (k = 1) && (decide ((j : Int) = j) && decide (b = 0)) with
          | false => rfl
          | true => simp at hq; exact absurd hq h1
        have heq2 : ∀ w, (Op.equalIn 10000 44 (.agg #[.int .i64 k, .int .i64 j, .int .i64 b]) (.agg #[.int .i64 2, .int .i64 j, .int .i64 0])).run Try.prog w = .ok false w := fun w => by
          rw [eq_step]
          cases hq : decide (k = 2) && (decide ((j : Int) = j) && decide (b = 0)) with
          | false => rfl
          | true => simp at hq; exact absurd hq h2
        by_cases h3 : k = 3
        · subst h3
          have heq3 := fun w => eq_step w 3 j b 3 j b
          simp only [decide_true, Bool.and_self] at heq3
          have hen := en_steal (W := W) (s := (3, (j : Int), b)) ha rfl
          have hact : act W (3, (j : Int), b) = steal W j b.toNat := by unfold act; rw [if_neg (show ¬ (3 : Int) = 1 by decide), if_neg (show ¬ (3 : Int) = 2 by decide)]; simp only [ejj]
          simp only [ejj] at hen
          have HQ := Lib.hid hact.symm
          by_cases hc : 0 ≤ b ∧ b < 3 ∧ b ≠ j ∧ 0 < (row W b.toNat).length ∧ (row W j).length < 12
          · obtain ⟨i, rfl⟩ : ∃ i : Nat, b = i := ⟨b.toNat, by omega⟩
            have eii : ((i : Int)).toNat = i := by omega
            rw [eii] at hc hen
            simp only [eii] at HQ
            have HE : Hid (true = en W (3, (j : Int), (i : Int))) := by
              unfold Hid
              rw [hen, isW_iff.2 ⟨by omega, by omega⟩, decide_eq_true hc.2.2.1, decide_eq_true hc.2.2.2.1, decide_eq_true hc.2.2.2.2]; rfl
            have HC : Hid (i < 3 ∧ i ≠ j ∧ 0 < (row W i).length ∧ (row W j).length < 12) := ⟨by omega, by omega, hc.2.2.2.1, hc.2.2.2.2⟩
            clear ha ha0 ha2 hj ejj hen hact hc h1 h2 eii
            go_enter Try.func53, Try.ntmps53
            go_wp2_with (first
              | (go_at_call 82; refine (c_isWorker _ _).mono ?_; rintro e w1 ⟨rfl, rfl⟩; rw [HJ.out])
              | (refine wl_loadC rfl _ rfl w.heap.size f W.n d RC.out rfl ?_)
              | (go_at_call 68; refine (c_steal_yes f d W j i _ HA.out w0 _ HSP.out HPQ.out HS.out HJ3.out HC.out.1 HC.out.2.1 HC.out.2.2.1 HC.out.2.2.2).mono ?_; rintro e w1 ⟨f1, n1, d1, rfl, hone, hcr, hb1⟩; have ONE := Lib.hid hone; have HCR := Lib.hid (hcr rfl); replace RR := Lib.hid (RowC.below RR.out hb1); replace HB := Lib.hid (bst HB.out hb1 HB.out.size); clear hb1 hone hcr)
              | (refine wl_storeC rfl _ _ rfl (w.heap.size + 1 + 1) f1 n1 d1 _ _ _ RR.out rfl rfl ONE.out.1 ONE.out.2.1 ONE.out.2.2.1 ONE.out.2.2.2 ?_))
            refine bodyPost_ret (res_row_slot Try.results53 (Row.put RR.out (cr5 f1 n1 d1)) rfl rfl Try.underlying76 rfl info_crew) rfl ?_
            refine EndC.mono (W := steal W j i) ⟨f1, n1, d1, rfl, ONE.out, fun _ => ⟨HCR.out.1, ?_⟩, below_setRow HB.out (by omega) _⟩ HE.out (fun h => HQ.out)
            exact (HCR.out.2.whole (w.heap.size + 1 + 1) (fun h => h.2 rfl) _).turn (Below.refl _ _) (fun i _ h => h.1)
          · have HE : Hid (false = en W (3, (j : Int), b)) := by
              unfold Hid
              rw [hen]
              cases hq : isW b && (decide (b ≠ (j : Int)) && (decide (0 < (row W b.toNat).length) && decide ((row W j).length < 12))) with
              | false => rfl
              | true =>
                rw [Bool.and_eq_true, Bool.and_eq_true, Bool.and_eq_true, isW_iff, decide_eq_true_eq, decide_eq_true_eq, decide_eq_true_eq] at hq
                exact absurd ⟨hq.1.1, by omega, hq.2.1, hq.2.2.1, hq.2.2.2⟩ hc
            have HC := Lib.hid hc
            clear ha ha0 ha2 hj ejj hen hact hc h1 h2
            go_enter Try.func53, Try.ntmps53
            go_wp2_with (first
              | (go_at_call 82; refine (c_isWorker _ _).mono ?_; rintro e w1 ⟨rfl, rfl⟩; rw [HJ.out])
              | (refine wl_loadC rfl _ rfl w.heap.size f W.n d RC.out rfl ?_)
              | (go_at_call 68; refine (c_steal_no f d W j b _ HA.out HJ3.out HC.out w0 P (steal W j b.toNat)).mono ?_; rintro e w1 ⟨f1, n1, d1, rfl, hone, hcr, hb1⟩; have ONE := Lib.hid hone; have HCR := Lib.hid (hone); replace RR := Lib.hid (RowC.below RR.out hb1); replace HB := Lib.hid (bst HB.out hb1 HB.out.size); clear hb1 hone hcr)
              | (refine wl_storeC rfl _ _ rfl (w.heap.size + 1 + 1) f1 n1 d1 _ _ _ RR.out rfl rfl ONE.out.1 ONE.out.2.1 ONE.out.2.2.1 ONE.out.2.2.2 ?_))
            refine bodyPost_ret (res_row_slot Try.results53 (Row.put RR.out (cr5 f1 n1 d1)) rfl rfl Try.underlying76 rfl info_crew) rfl ?_
            refine EndC.mono (W := steal W j b.toNat) ⟨f1, n1, d1, rfl, ONE.out, fun h => absurd h (by decide), below_setRow HB.out (by omega) _⟩ HE.out (fun h => HQ.out)
        · have heq3 : ∀ w, (Op.equalIn 10000 44 (.agg #[.int .i64 k, .int .i64 j, .int .i64 b]) (.agg #[.int .i64 3, .int .i64 j, .int .i64 b])).run Try.prog w = .ok false w := fun w => by
            rw [eq_step, decide_eq_false h3]; rfl
          have HE : Hid (false = en W (k, (j : Int), b)) := (en_none h1 h2 h3).symm
          clear ha ha0 ha2 hj ejj h1 h2 h3
          go_enter Try.func53, Try.ntmps53
          go_wp2_with (first
            | (go_at_call 82; refine (c_isWorker _ _).mono ?_; rintro e w1 ⟨rfl, rfl⟩; rw [HJ.out])
            | (refine wl_storeC rfl _ _ rfl (w.heap.size + 1 + 1) nF 0 nilV _ _ _ RR.out rfl rfl rfl rfl rfl rfl ?_))
          refine bodyPost_ret (res_row_slot Try.results53 (Row.put RR.out (cr5 nF 0 nilV)) rfl rfl Try.underlying76 rfl info_crew) rfl ((endC_no (W := W) (below_setRow HB.out (by omega) _)).mono HE.out (fun h => absurd h (by decide)))
  · have HJ : Hid (isW a = false) := by unfold Hid; simpa using ha
    have HE : Hid (false = en W (k, a, b)) := (en_no HJ.out).symm
    clear ha
    go_enter Try.func53, Try.ntmps53
    go_wp2_with (first
      | (go_at_call 82; refine (c_isWorker _ _).mono ?_; rintro e w1 ⟨rfl, rfl⟩; rw [HJ.out])
      | (refine wl_storeC rfl _ _ rfl (w.heap.size + 1 + 1) nF 0 nilV _ _ _ RR.out rfl rfl rfl rfl rfl rfl ?_))
    refine bodyPost_ret (res_row_slot Try.results53 (Row.put RR.out (cr5 nF 0 nilV)) rfl rfl Try.underlying76 rfl info_crew) rfl ((endC_no (W := W) (below_setRow HB.out (by omega) _)).mono HE.out (fun h => absurd h (by decide)))
end Go.Proofs.Ytkbphmnacdpdgaa
namespace Go.Proofs
open Go.Shelf
def Try.lays189_ren : Go.Shelf.Ren := ⟨fun | 189 => 86 | 125 => 95 | 257 => 94 | 128 => 106 | 129 => 107 | 294 => 97 | 295 => 98 | 296 => 99 | 297 => 100 | 298 => 101 | 299 => 102 | 216 => 103 | 300 => 104 | 301 => 105 | 328 => 108 | 329 => 109 | 330 => 110 | 331 => 111 | 332 => 112 | 215 => 113 | 343 => 114 | n => n, fun | 28 => 26 | 3 => 3 | 46 => 104 | 0 => 0 | 51 => 115 | 53 => 70 | 4 => 4 | 183 => 107 | 182 => 106 | 131 => 112 | 5 => 5 | 9 => 9 | 218 => 117 | 222 => 121 | 228 => 123 | 229 => 124 | n => n, fun | n => n⟩
theorem Try.lays189 : Go.Proofs.Lays.n189 Try.prog Try.lays189_ren := {
  mixed := by kernel_rfl
  f125 := Try.func95.trans (congrArg some (by kernel_rfl))
  f128 := Try.func106.trans (congrArg some (by kernel_rfl))
  f129 := Try.func107.trans (congrArg some (by kernel_rfl))
  f189 := Try.func86.trans (congrArg some (by kernel_rfl))
  f215 := Try.func113.trans (congrArg some (by kernel_rfl))
  f216 := Try.func103.trans (congrArg some (by kernel_rfl))
  f257 := Try.func94.trans (congrArg some (by kernel_rfl))
  f294 := Try.func97.trans (congrArg some (by kernel_rfl))
  f295 := Try.func98.trans (congrArg some (by kernel_rfl))
  f296 := Try.func99.trans (congrArg some (by kernel_rfl))
  f297 := Try.func100.trans (congrArg some (by kernel_rfl))
  f298 := Try.func101.trans (congrArg some (by kernel_rfl))
  f299 := Try.func102.trans (congrArg some (by kernel_rfl))
  f300 := Try.func104.trans (congrArg some (by kernel_rfl))
  f301 := Try.func105.trans (congrArg some (by kernel_rfl))
  f328 := Try.func108.trans (congrArg some (by kernel_rfl))
  f329 := Try.func109.trans (congrArg some (by kernel_rfl))
  f330 := Try.func110.trans (congrArg some (by kernel_rfl))
  f331 := Try.func111.trans (congrArg some (by kernel_rfl))
  f332 := Try.func112.trans (congrArg some (by kernel_rfl))
  f343 := Try.func114.trans (congrArg some (by kernel_rfl))
  t0 := Try.underlying0
  a0 := Try.isAgg0
  z0 := Try.sizeOf0
  v0 := Try.zeroValue0
  t3 := Try.underlying3
  a3 := Try.isAgg3
  z3 := Try.sizeOf3
  v3 := Try.zeroValue3
  t4 := Try.underlying4
  a4 := Try.isAgg4
  z4 := Try.sizeOf4
  v4 := Try.zeroValue4
  t5 := Try.underlying5
  a5 := Try.isAgg5
  z5 := Try.sizeOf5
  v5 := Try.zeroValue5
  t9 := Try.underlying9
  a9 := Try.isAgg9
  z9 := Try.sizeOf9
  v9 := Try.zeroValue9
  t28 := Try.underlying26
  a28 := Try.isAgg26
  z28 := Try.sizeOf26
  v28 := Try.zeroValue26
  t46 := Try.underlying104
  a46 := Try.isAgg104
  z46 := Try.sizeOf104
  v46 := Try.zeroValue104
  t51 := Try.underlying115
  a51 := Try.isAgg115
  z51 := Try.sizeOf115
  v51 := Try.zeroValue115
  t53 := Try.underlying70
  a53 := Try.isAgg70
  z53 := Try.sizeOf70
  v53 := Try.zeroValue70
  t131 := Try.underlying112
  a131 := Try.isAgg112
  z131 := Try.sizeOf112
  v131 := Try.zeroValue112
  t182 := Try.underlying106
  a182 := Try.isAgg106
  z182 := Try.sizeOf106
  v182 := Try.zeroValue106
  t183 := Try.underlying107
  a183 := Try.isAgg107
  z183 := Try.sizeOf107
  v183 := Try.zeroValue107
  t218 := Try.underlying117
  a218 := Try.isAgg117
  z218 := Try.sizeOf117
  v218 := Try.zeroValue117
  t222 := Try.underlying121
  a222 := Try.isAgg121
  z222 := Try.sizeOf121
  v222 := Try.zeroValue121
  t228 := Try.underlying123
  a228 := Try.isAgg123
  z228 := Try.sizeOf123
  v228 := Try.zeroValue123
  t229 := Try.underlying124
  a229 := Try.isAgg124
  z229 := Try.sizeOf124
  v229 := Try.zeroValue124 }
open Go.Sort Go.RowKit in
theorem Try.slices_Sort_int (blk off cap : Nat) (zs : List Int) (w : World) (hH : Holds (Value.int .i64) w blk off zs.toArray) (hblk : blk < w.heap.size) (hsz : zs.length < 4611686018427387904) :
    Calls Try.prog 86 #[.slice (some ⟨blk, off, none⟩) zs.length cap] w fun e w' =>
      e = .returned (.tuple #[]) ∧ ∃ n os, w' = grow (putRow (Value.int .i64) (Sort.ahead w n) blk off (zs.mergeSort fun x y => decide (x ≤ y)).toArray) os := Any.slices_Sort_int Try.lays189 blk off cap zs w hH hblk hsz
end Go.Proofs
namespace Go.Proofs.Ytkbphmnacdpdgaa
open Go.RowKit Ph Kw Go.Sort

set_option maxHeartbeats 1600000 in
theorem c_itemsTo (n : Nat) (w : World) (hn : n ≤ 100) : Calls Try.prog 71 #[.int .i64 n] w fun e w' => ∃ v, e = .returned v ∧ Own w' w.heap.size v (upTo n) ∧ Below w.heap.size w w' := by
  obtain ⟨i0, hi, hz0, hz1, hz2⟩ := info_parts info_int
  have HN : Hid ((upTo n).length = n) := upTo_length n
  have HG : Hid (∀ j, j < n → (upTo n).getD j 0 = (j : Int) + 1) := fun j hj => upTo_getD hj
  have HLE := Lib.hid hn
  go_enter Try.func71, Try.ntmps71
  generalize upTo n = zs at *
  go_wp2_with (refine wpList_make_full _ rfl _ _ 26 rfl w.heap.size 3 i0 (.int .i64 0) 1 Try.underlying26 hi hz0 hz1 .i64 .i64 _ _ n rfl rfl rfl rfl (by rw [hz2]; omega) (by unfold maxLen; omega) (Nat.le_refl _) ?_; intro w1 hown hgr; rw [Nat.mul_one, show (Value.int .i64 0).cells = #[.int .i64 0] from rfl, toList_madeCells_one] at hown; have hb := (Below.refl w.heap.size w).grown hgr (Nat.le_refl _) (fun k hk => by cases hk); have HO := Lib.hid hown; clear hown hgr)
  go_loopw [9] (fun i wr => ∃ j : Nat, j ≤ n ∧ i = .int .i64 j ∧ Own wr w.heap.size (.slice (some ⟨w.heap.size, 0, none⟩) n n) (fillTo zs j) ∧ Below w.heap.size w wr) (fun i _ => n - (intOf i).toNat)
  case atStart =>
    refine ⟨0, Nat.zero_le _, rfl, ?_, hb⟩
    unfold Own
    rw [fillTo_length zs (Nat.zero_le _), HN.out, fillTo_zero, HN.out, List.map_replicate]
    exact HO.out
  case round =>
    obtain ⟨j, hj, rfl, hown, hbr⟩ := hrel
    by_cases hlt : j < n
    · have hlen := fillTo_length zs (j := j) (by rw [HN.out]; exact hj)
      have hown' : wr.ownsRow w.heap.size 3 1 (.slice (some ⟨w.heap.size, 0, none⟩) n n) n ((fillTo zs j).map (Value.int .i64)) := by
        have := hown; unfold Own at this; rwa [hlen, HN.out] at this
      have hfr := hown'.frozenAt j
      obtain ⟨x, hx⟩ : ∃ x, wr.cell? ⟨w.heap.size, j, none⟩ = some x := by
        rw [hown'.cellAt j (by omega), List.getElem?_map, List.getElem?_eq_getElem (by rw [hlen, HN.out]; exact hlt)]
        exact ⟨_, rfl⟩
      obtain ⟨s1, s2⟩ := hown'.stored j (.int .i64 (zs.getD j 0))
      have S1 : Hid (Own (wr.setCell ⟨w.heap.size, j, none⟩ (.int .i64 (zs.getD j 0))) w.heap.size (.slice (some ⟨w.heap.size, 0, none⟩) n n) (fillTo zs (j + 1))) := by
        unfold Hid Own
        rw [fillTo_length zs (by rw [HN.out]; omega), HN.out, ← fillTo_set zs (by rw [HN.out]; exact hlt), List.map_set]
        exact s1
      have S2 := Lib.hid (hbr.setCell (p := ⟨w.heap.size, j, none⟩) (Nat.le_refl _) (.int .i64 (zs.getD j 0)))
      rw [HG.out j hlt] at S1 S2
      have i1 : IntKind.i64.wrap ((j : Int) + 1) = (j : Int) + 1 := IntWalk.i64_in _ (by omega)
      clear s1 s2 hown hown' hlen
      go_wp2
      go_roundw
      case rel => exact ⟨j + 1, by omega, by go_num, S1.out, S2.out⟩
      case measure => simp [intOf]; omega
    · obtain rfl : j = n := by omega
      go_wp2
      go_ret
      refine ⟨_, rfl, ?_, hbr⟩
      have := hown
      rw [← HN.out, fillTo_all, HN.out] at this
      exact this
/-- A list sorted where it lies. -/
theorem c_sortOwn (v : Value) (zs : List Int) (B : Nat) (w : World) (ho : Own w B v zs) (hm : zs.length ≤ 4000000) : Calls Try.prog 86 #[v] w fun e w' => e = .returned (.tuple #[]) ∧ Own w' B v (srt zs) ∧ w.grownBy w' v.ownBlock := by
  have ho' := ho
  rcases ho.2 with ⟨rfl, h0⟩ | ⟨g, cap, cur, rfl, hbase, hb, h1, h2, h3, h4⟩
  · have e0 : zs = [] := List.eq_nil_of_length_eq_zero h0
    subst e0
    refine (Any.slices_Sort_int_none Try.lays189 none 0 w).mono ?_
    rintro e w' ⟨rfl, rfl⟩
    exact ⟨rfl, by rw [show srt [] = [] from List.mergeSort_nil]; exact ho', World.grownBy.refl _ _⟩
  · have hH : Holds (Value.int .i64) w g 0 zs.toArray := holds_of_blockI hb (by simpa using h4)
    have hgl : g < w.heap.size := (Array.getElem?_eq_some_iff.1 hb).1
    refine (Try.slices_Sort_int g 0 cap zs w hH hgl (by omega)).mono ?_
    rintro e w' ⟨rfl, nn, os, rfl⟩
    refine ⟨rfl, ?_, grownBy_sortedI _⟩
    have := ownsRow_sortedI (n := nn) (os := os) (ss := zs) (ts := srt zs) (srt_length zs) hbase hb h1 h2 h3
    unfold Own
    rw [srt_length]
    exact this
set_option maxRecDepth 100000 in
set_option maxHeartbeats 1600000 in
theorem c_growNil (n : Nat) (w : World) (hn : n ≤ 4000000) : Calls Try.prog 96 #[.slice none 0 0, .int .i64 n] w fun e w' => ∃ v, e = .returned v ∧ Own w' w.heap.size v [] ∧ w.grownBy w' none := by
  obtain ⟨i0, hi, hz0, hz1, hz2⟩ := info_parts info_int
  have h1 : ¬ ((n : Int) < 0) := by omega
  have h3 : IntKind.i64.wrap ((n : Int) - 0) = (n : Int) := by rw [Int.sub_zero]; exact IntWalk.i64_in _ (by omega)
  by_cases h0 : n = 0
  · subst h0
    go_enter Try.func96, Try.ntmps96
    go_wp2
    go_ret
    exact ⟨_, rfl, Own.nil _ _, World.grownBy.refl _ _⟩
  · have h4 : (n : Int) > 0 := by omega
    have hrun := fun ty => Lib.run_append_grow_zeros (P := Try.prog) w 26 3 ty 3 i0 (.int .i64 0) .i64 .i64 Try.underlying26 Try.underlying3 hi hz0 none 0 0 [] (run_firstCells_none w.drew i0.size 0 0 0) n (by omega) (by rw [hz1]; omega) (by omega) (by omega) (by rw [hz2]; omega)
      (growslice_fits (by omega) (by rw [hz2]; omega))
    simp only [Nat.zero_add] at hrun
    have hGn : n ≤ grownCap w n 0 3 := grownCap_ge w _ _ _
    have hGm : grownCap w n 0 3 ≤ maxLen := grownCap_le_maxLen w n 0 3 (by unfold maxLen; omega)
    generalize grownCap w n 0 3 = G at *
    have HGM := Lib.hid hGm; have HGN := Lib.hid hGn
    clear hGm h0
    go_enter Try.func96, Try.ntmps96
    go_wp2_with (at_builtin; refine Lib.wpList_append_run _ rfl _ _ _ _ rfl _ _ rfl rfl _ _ (hrun _) ?_)
    go_ret
    refine ⟨_, rfl, ⟨rfl, .inr ⟨w.heap.size, G, _, rfl, Nat.le_refl _, heap_alloc_new w.drew _, Nat.zero_le _, HGM.out, ?_, rfl⟩⟩, ⟨rfl, rfl, rfl, by simp, fun k hk _ => heap_alloc_old w.drew _ hk⟩⟩
    have := HGN.out
    simp [size_zeroCells]
    omega
theorem flat_succ {fs : List (List Int)} {k : Nat} (h : k < fs.length) : (fs.take (k + 1)).flatten = (fs.take k).flatten ++ fs.getD k [] := by
  rw [List.take_succ_eq_append_getElem h, List.flatten_append]
  simp [List.getD, h]
theorem flat_len : ∀ {fs : List (List Int)} {k : Nat}, k ≤ fs.length → (fs.take k).flatten.length = sumL fs k
  | _, 0, _ => by simp [sumL]
  | fs, k + 1, h => by
    rw [flat_succ (by omega), sumL_succ (by omega), List.length_append, flat_len (by omega)]
set_option maxRecDepth 100000 in
set_option maxHeartbeats 1600000 in
theorem c_concat (v : Value) (fs : List (List Int)) (w : World) (hA : RowsAt w v fs) (hl : fs.length ≤ 1000) (hm : sumL fs fs.length ≤ 1000000) : Calls Try.prog 88 #[v] w fun e w' => ∃ v', e = .returned v' ∧ Own w' w.heap.size v' fs.flatten ∧ Below w.heap.size w w' := by
  obtain ⟨i0, hi, hz0, hz1, hz2⟩ := info_parts info_int
  have HLE := Lib.hid (fun k => sumL_mono fs (j := k) (k := fs.length))
  have HSU := Lib.hid (fun k hk => sumL_succ (fs := fs) (k := k) hk)
  have HFL := Lib.hid (fun k hk => flat_succ (fs := fs) (k := k) hk)
  have HFN := Lib.hid (fun k hk => flat_len (fs := fs) (k := k) hk)
  have HTK := Lib.hid (show fs.take fs.length = fs from List.take_length)
  obtain ⟨a, c, rfl, hc⟩ := hA
  generalize hn : fs.length = n at *
  have HN := Lib.hid hn; have HC := Lib.hid hc; have HMM := Lib.hid hm
  clear hn hc hm
  go_enter Try.func88, Try.ntmps88
  go_wp2_with fail
  go_loopw [3, 11] (fun s i wr => ∃ k : Nat, k ≤ n ∧ i = .int .i64 k ∧ s = .int .i64 (sumL fs k) ∧ wr = w) (fun _ i _ => n - (intOf i).toNat)
  case atStart => exact ⟨0, Nat.zero_le _, rfl, by rw [sumL_zero]; rfl, rfl⟩
  case round =>
    obtain ⟨k, hk, rfl, rfl, hw⟩ := hrel
    replace hw := hw.symm
    subst hw
    by_cases hlt : k < n
    · obtain ⟨b, off, rfl, hcc⟩ := HC.out (by omega)
      obtain ⟨u, q, hu⟩ := hcc k hlt
      obtain ⟨p, cp, rfl⟩ := hu.shape
      have e1 := HSU.out k hlt
      have e2 := HLE.out (k + 1) (by omega)
      have e3 := HMM.out
      have i1 : IntKind.i64.wrap (((sumL fs k : Nat) : Int) + ((fs.getD k []).length : Int)) = ((sumL fs (k + 1) : Nat) : Int) := by rw [IntWalk.i64_in _ (by omega), e1]; omega
      have i2 : ¬ ((sumL fs (k + 1) : Nat) : Int) < 0 := by omega
      have i3 : (k : Int) < (n : Int) := by omega
      clear hcc hu e1 e2 e3
      generalize (fs.getD k []).length = m at *
      generalize hs1 : sumL fs (k + 1) = s1 at *
      have HS1 := Lib.hid hs1; clear hs1
      generalize sumL fs k = s0 at *
      go_wp2_with fail
      go_roundw
      case rel => exact ⟨k + 1, by omega, by go_num, by rw [HS1.out], by first | rfl | trivial⟩
      case measure => simp [intOf]; omega
    · obtain rfl : k = n := by omega
      go_wp2_with (go_at_call 96; refine (c_growNil (sumL fs k) _ (by have := HMM.out; omega)).mono ?_; rintro e w1 ⟨v1, rfl, ho1, hg1⟩; have O1 := Lib.hid ho1; have B1 := Lib.hid ((Below.refl w.heap.size w).grown hg1 (Nat.le_refl _) (fun k hk => by cases hk)); clear ho1 hg1)
      go_loopw [6, 27] (fun s i wr => ∃ j : Nat, j ≤ k ∧ i = .int .i64 j ∧ Hid (Own wr w.heap.size s (fs.take j).flatten) ∧ Hid (Below w.heap.size w wr)) (fun _ i _ => k - (intOf i).toNat)
      case atStart => exact ⟨0, Nat.zero_le _, rfl, by rw [List.take_zero]; exact O1, B1⟩
      case round =>
        obtain ⟨j, hj, rfl, how, hbw⟩ := hrel
        by_cases hlt : j < k
        · obtain ⟨b, off, rfl, hcc⟩ := HC.out (by omega)
          obtain ⟨u, q0, hu⟩ := hcc j hlt
          have q := cellBelow hbw.out (Nat.le_refl _) q0
          have hsrc := Lib.hid (hu.below hbw.out).src
          have e1 := HFL.out j hlt
          have e2 := HFN.out j (by omega)
          have e3 := HFN.out (j + 1) (by omega)
          have e4 := HLE.out (j + 1) (by omega)
          rw [e1] at e3
          have HE1 := Lib.hid e1
          have HLN : Hid ((fs.take j).flatten.length + ((fs.getD j []).map (Value.int .i64)).length ≤ 1000000) := by
            unfold Hid; rw [List.length_map, ← List.length_append, e3]; exact Nat.le_trans e4 HMM.out
          have i3 : (j : Int) < (k : Int) := by omega
          have hws := hbw.out.size
          clear hcc hu q0 e1 e2 e3 e4
          generalize (fs.take j).flatten = ys at *
          generalize fs.getD j [] = zs at *
          go_wp2_with (at_builtin; refine wl_appOwn _ rfl _ _ 26 rfl w.heap.size 3 i0 (.int .i64 0) 8 Try.underlying26 hi hz0 hz1 hz2 rfl u6 ys.length (ys.map (Value.int .i64)) rfl how.out u (zs.map (Value.int .i64)) rfl hsrc.out (by have := HLN.out; unfold maxLen; omega) (by have := HLN.out; omega) hws ?_; intro v2 w2 ho hg hbl; have O2 := Lib.hid ho; have G2 := Lib.hid hg; clear ho hg hbl)
          go_roundw
          case rel =>
            refine ⟨j + 1, by omega, by go_num, ?_, ?_⟩
            · have h := O2.out
              unfold Hid
              rw [HE1.out]
              unfold Own
              rw [List.length_append, List.map_append]
              rw [List.length_map] at h
              exact h
            · exact hbw.out.grown G2.out hws (fun g hg => (owns_lt how.out hg).1)
          case measure => simp [intOf]; omega
        · obtain rfl : j = k := by omega
          go_wp2_with fail
          go_ret
          refine ⟨_, rfl, ?_, hbw.out⟩
          have h := how.out
          rw [HTK.out] at h
          exact h
end Go.Proofs.Ytkbphmnacdpdgaa
namespace Go.Proofs.Ytkbphmnacdpdgaa
open Go.RowKit Ph

set_option maxHeartbeats 800000 in
theorem s_l1In (z lo hi : Int) (w : World) : Calls Try.prog 63 #[.int .i64 z, .int .i64 lo, .int .i64 hi] w fun e w' => e = .returned (.bool (decide (lo ≤ z) && decide (z ≤ hi))) ∧ w = w' := by
  generalize hx : (decide (lo ≤ z) && decide (z ≤ hi)) = x
  by_cases h1 : lo ≤ z
  · by_cases h2 : z ≤ hi
    · have HE : Hid (x = true) := by unfold Hid; rw [← hx]; simp [h1, h2]
      clear hx
      go_enter Try.func63, Try.ntmps63
      go_wp2
      go_ret
      exact ⟨r_b HE.out.symm, rfl⟩
    · have HE : Hid (x = false) := by unfold Hid; rw [← hx]; simp [h2]
      clear hx
      go_enter Try.func63, Try.ntmps63
      go_wp2
      go_ret
      exact ⟨r_b HE.out.symm, rfl⟩
  · have HE : Hid (x = false) := by unfold Hid; rw [← hx]; simp [h1]
    clear hx
    go_enter Try.func63, Try.ntmps63
    go_wp2
    go_ret
    exact ⟨r_b HE.out.symm, rfl⟩
theorem in_yes {z lo hi : Int} (h1 : lo ≤ z) (h2 : z ≤ hi) : (decide (lo ≤ z) && decide (z ≤ hi)) = true := by simp [h1, h2]
theorem in_lo {z lo hi : Int} (h1 : z < lo) : (decide (lo ≤ z) && decide (z ≤ hi)) = false := by simp; omega
theorem in_hi {z lo hi : Int} (h1 : hi < z) : (decide (lo ≤ z) && decide (z ≤ hi)) = false := by simp; omega
theorem s_l1In_yes (z lo hi : Int) (w : World) (h1 : lo ≤ z) (h2 : z ≤ hi) : Calls Try.prog 63 #[.int .i64 z, .int .i64 lo, .int .i64 hi] w fun e w' => e = .returned (.bool true) ∧ w = w' :=
  (s_l1In z lo hi w).mono fun _ _ ⟨he, hw⟩ => ⟨he.trans (r_b (in_yes h1 h2)), hw⟩
theorem s_l1In_no (z lo hi : Int) (w : World) (h : z < lo ∨ hi < z) : Calls Try.prog 63 #[.int .i64 z, .int .i64 lo, .int .i64 hi] w fun e w' => e = .returned (.bool false) ∧ w = w' :=
  (s_l1In z lo hi w).mono fun _ _ ⟨he, hw⟩ => ⟨he.trans (r_b (h.elim in_lo in_hi)), hw⟩
end Go.Proofs.Ytkbphmnacdpdgaa
namespace Go.Proofs.Ytkbphmnacdpdgaa
open Go.RowKit Ph

set_option maxHeartbeats 400000 in
theorem c_slEqual (va vb : Value) (za zb : List Int) (w : World) (hA : IntsAt w va za) (hB : IntsAt w vb zb) (hm : za.length ≤ 9223372036854775806) :
    Calls Try.prog 87 #[va, vb] w fun e w' => e = .returned (.bool (decide (za = zb))) ∧ ∃ n, w' = w.drewN n := by
  obtain ⟨a, ca, rfl, hA⟩ := hA
  obtain ⟨b, cb, rfl, hB⟩ := hB
  by_cases hl : za.length = zb.length
  · rw [← hl] at hB ⊢
    generalize hn : za.length = n at *
    have HN := Lib.hid hn; have HL := Lib.hid hl; clear hn hl
    have hbq : ((n : Int) != (n : Int)) = false := by simp
    by_cases h0 : n = 0
    · subst h0
      obtain rfl : za = [] := List.eq_nil_of_length_eq_zero HN.out
      obtain rfl : zb = [] := List.eq_nil_of_length_eq_zero HL.out.symm
      clear hA hB
      go_enter Try.func87, Try.ntmps87
      go_wp2
      refine wp_loop_rounds 1 ?_
      rw [rounds_succ]
      go_wp2
      go_ret
      exact ⟨rfl, drewN_refl _⟩
    · obtain ⟨ba, oa, rfl, hca⟩ := hA (by omega)
      obtain ⟨bb, ob, rfl, hcb⟩ := hB (by omega)
      clear hA hB
      have HCA := Lib.hid hca; have HCB := Lib.hid hcb; clear hca hcb
      go_enter Try.func87, Try.ntmps87
      go_wp2
      go_loopw [13] (fun i wr => ∃ k : Nat, k ≤ n ∧ i = .int .i64 k ∧ Hid (za.take k = zb.take k) ∧ ∃ n, wr = w.drewN n) (fun i _ => n - (intOf i).toNat)
      case atStart => exact ⟨0, Nat.zero_le _, rfl, by simp [Hid], drewN_refl _⟩
      case round =>
        obtain ⟨k, hk, rfl, ht, nd, rfl⟩ := hrel
        by_cases hlt : k < n
        · have q1 := HCA.out k hlt
          have q2 := HCB.out k hlt
          have i1 : (k : Int) < (n : Int) := by omega
          generalize hx : za.getD k 0 = x at q1
          generalize hy : zb.getD k 0 = y at q2
          have HX := Lib.hid hx; have HY := Lib.hid hy; clear hx hy
          by_cases exy : x = y
          · subst exy
            go_wp2
            go_quiet (fail)
            go_wp2
            go_roundw
            case rel => exact ⟨k + 1, by omega, by go_num, take_eq_succ ht.out (by rw [HN.out]; exact hlt) (by rw [← HL.out]; exact hlt) (HX.out.trans HY.out.symm), nd + nq, by simp⟩
            case measure => simp [intOf]; omega
          · have hne : (x != y) = true := by rw [bne_iff_ne]; exact exy
            have HNE : Hid (decide (za = zb) = false) := decide_eq_false (ne_of_getD (k := k) (by rw [HX.out, HY.out]; exact exy))
            clear exy
            go_wp2
            go_quiet (fail)
            go_wp2
            go_ret
            exact ⟨r_b HNE.out.symm, nd + nq, by simp⟩
        · have HE : Hid (decide (za = zb) = true) := decide_eq_true (take_all_eq (n := k) (by rw [HN.out]; omega) (by rw [← HL.out]; omega) ht.out)
          go_wp2
          go_ret
          exact ⟨r_b HE.out.symm, _, rfl⟩
  · generalize hna : za.length = na at *
    generalize hnb : zb.length = nb at *
    have hbq : ((na : Int) != (nb : Int)) = true := by rw [bne_iff_ne]; omega
    have HN : Hid (decide (za = zb) = false) := decide_eq_false (fun h => hl (by rw [← hna, ← hnb, h]))
    clear hl hA hB hna hnb
    go_enter Try.func87, Try.ntmps87
    go_wp2
    go_ret
    exact ⟨r_b HN.out.symm, drewN_refl _⟩
end Go.Proofs.Ytkbphmnacdpdgaa
namespace Go.Proofs.Ytkbphmnacdpdgaa
open Go.RowKit Ph

theorem op_app {P : Program} {o : Oper} {q : Act} {w w' : World} {K : Act → World → Prop} {Q : Exit → Act → World → Prop} {vs vx v' : Value} (s x : Operand) (t : TypeId) (hop : o.op = Op.call { callee := Callee.builtin Builtin.append, args := #[s, x], argTypes := #[t, t] }) (hs : q.eval s = vs) (hx : q.eval x = vx)
    (hrun : (Builtin.append_ #[t, t] o.type #[vs, vx]).run P w = .ok v' w') (h : K (q.put o.dst v') w') : Oper.wp P o q w K Q := by
  unfold Oper.wp
  simp [execOp, hop, resolve, invoke, builtin, hs, hx, hrun, Result.andThen]
  exact h
section
variable {w W : World} {fa la ra vA vB : Value} {lA : List Bool} {rB : List Int}
theorem own_empty (W : World) (T : TypeId) : (W.alloc (.cells #[] T)).ownsRow W.heap.size T 1 (.slice (some ⟨W.heap.size, 0, none⟩) 0 0) 0 [] := ⟨rfl, .inr ⟨W.heap.size, 0, #[], rfl, Nat.le_refl _, heap_alloc_new _ _, Nat.le_refl _, by unfold maxLen; omega, rfl, rfl⟩⟩
end
end Go.Proofs.Ytkbphmnacdpdgaa
namespace Go.Proofs.Ytkbphmnacdpdgaa
open Go.RowKit Ph Kw

/-- Work whose deques may be cut. -/
def RowsC (w : World) (v : Value) (fs : List (List Int)) : Prop :=
  ∃ a cap, v = .slice a fs.length cap ∧ (0 < fs.length → ∃ b off, a = some ⟨b, off, none⟩ ∧ ∀ i, i < fs.length → ∃ u, w.cell? ⟨b, off + i, none⟩ = some u ∧ IntsC w u (fs.getD i []))
structure WorkC (w : World) (a c : Value) (W : Wk) : Prop where
  r : RowsC w a W.r
  d : IntsC w c W.d
theorem RowsC.below {w w' : World} {v : Value} {fs : List (List Int)} (h : RowsC w v fs) (hb : Below w.heap.size w w') : RowsC w' v fs := by
  obtain ⟨a, cap, hv, hc⟩ := h
  refine ⟨a, cap, hv, fun h0 => ?_⟩
  obtain ⟨b, off, ha, hc⟩ := hc h0
  refine ⟨b, off, ha, fun i hi => ?_⟩
  obtain ⟨u, h1, h2⟩ := hc i hi
  exact ⟨u, cellBelow hb (Nat.le_refl _) h1, h2.below hb⟩
theorem WorkC.below {w w' : World} {a c : Value} {W : Wk} (h : WorkC w a c W) (hb : Below w.heap.size w w') : WorkC w' a c W := ⟨h.r.below hb, h.d.below hb⟩
theorem OwnW.readsC {w : World} {lo hi : Nat} {a c : Value} {W : Wk} (k : OwnW w lo hi a c W) : WorkC w a c W := by
  obtain ⟨us, k⟩ := k
  refine ⟨?_, k.roots.intsC⟩
  rcases k.shape with ⟨h1, h2⟩ | ⟨g, cap, h1⟩
  · have h2 : W.r = [] := h2
    exact ⟨none, 0, by rw [h1, h2]; rfl, fun h => by rw [h2] at h; simp at h⟩
  · exact ⟨_, cap, h1, fun _ => ⟨g, 0, rfl, fun i hi => ⟨us i, by rw [Nat.zero_add]; exact (k.cell h1 hi).1, (k.row hi).intsC⟩⟩⟩
theorem rows_us {w : World} {a : Option Addr} {n c : Nat} {fs : List (List Int)} (h : RowsC w (.slice a n c) fs) (hn : n = 3) : ∃ b off, ∃ us : Nat → Value, a = some ⟨b, off, none⟩ ∧ fs.length = 3 ∧ ∀ i, i < 3 → w.cell? ⟨b, off + i, none⟩ = some (us i) ∧ IntsC w (us i) (fs.getD i []) := by
  obtain ⟨a', c', e, hc⟩ := h
  cases e
  obtain ⟨b, off, ha, hcc⟩ := hc (by omega)
  rw [hn] at hcc
  refine ⟨b, off, fun i => if h : i < 3 then Classical.choose (hcc i h) else nilV, ha, hn, fun i hi => ?_⟩
  have := Classical.choose_spec (hcc i hi)
  simp only [dif_pos hi]
  exact this
theorem srt_own_len (W : Wk) (s : W.r.length = 3) (h : ∀ k, k < 3 → (row W k).length ≤ 12) : (leftL W).length ≤ 36 ∧ sumL W.r W.r.length ≤ 36 := by
  obtain ⟨x, y, z, e⟩ := three s
  have a := h 0 (by omega)
  have b := h 1 (by omega)
  have c := h 2 (by omega)
  unfold row at a b c
  unfold leftL sumL
  rw [srt_length]
  rw [e] at a b c ⊢
  simp at a b c ⊢
  omega
set_option maxRecDepth 100000 in
set_option maxHeartbeats 1600000 in
theorem c_left (f : Nat → Value) (n : Int) (d : Value) (W : Wk) (w : World) (hA : ∀ k, k < 3 → IntsC w (f k) (row W k)) (hl : W.r.length = 3) (hr : ∀ k, k < 3 → (row W k).length ≤ 12) : Calls Try.prog 58 #[crv f n d] w fun e w' => ∃ v, e = .returned v ∧ Own w' w.heap.size v (leftL W) ∧ Below w.heap.size w w' := by
  have hb0 := below1 w (.cells (cr5 f n d) 76)
  have rc0 : RowC (w.alloc (.cells (cr5 f n d) 76)) w.heap.size f n d := Row.new w _ _
  have hR : RowsAt (w.alloc (.cells (cr5 f n d) 76)) (.slice (some ⟨w.heap.size, 0, none⟩) 3 3) W.r :=
    ⟨some ⟨w.heap.size, 0, none⟩, 3, by rw [hl], fun _ => ⟨w.heap.size, 0, rfl, fun i hi => ⟨f i, by rw [Nat.zero_add]; exact rc0.row (by omega), ((hA i (by omega)).1.below hb0)⟩⟩⟩
  have HSL := Lib.hid (srt_own_len W hl hr)
  have HB := Lib.hid hb0; have HR := Lib.hid hR; have HL3 : Hid (W.r.length ≤ 1000) := by unfold Hid; omega
  have HFL : Hid (W.r.flatten.length ≤ 4000000) := by
    have := HSL.out.1; unfold leftL at this; rw [srt_length] at this; unfold Hid; omega
  clear rc0 hb0 hR hA hl hr
  go_enter Try.func58, Try.ntmps58
  go_wp2_with (first
    | (go_at_call 88; refine (c_concat _ W.r _ HR.out HL3.out (by have := HSL.out.2; omega)).mono ?_; rintro e w1 ⟨v1, rfl, ho1, hb1⟩; have O1 := Lib.hid (owns_mono ho1 (B' := w.heap.size) fun g hg => by have h := (owns_lt ho1 hg).1; have h2 := HB.out.size; first | omega | (simp at h h2; omega)); replace HB := Lib.hid (bst HB.out hb1 HB.out.size); clear hb1 ho1)
    | (go_at_call 86; refine (c_sortOwn _ W.r.flatten w.heap.size _ O1.out HFL.out).mono ?_; rintro e w2 ⟨rfl, ho2, hg2⟩; have O2 := Lib.hid ho2; replace HB := Lib.hid (HB.out.grown hg2 HB.out.size (fun g hg => (owns_lt O1.out hg).1)); clear ho2 hg2))
  go_ret
  exact ⟨_, rfl, O2.out, HB.out⟩
/-- The first k rows are in place. -/
abbrev fk (us : Nat → Value) (k : Nat) : Nat → Value := fun j => if j < k then us j else nilV
theorem fk_succ (us : Nat → Value) (k : Nat) : upd (fk us k) k (us k) = fk us (k + 1) := by
  funext j
  unfold upd fk
  by_cases e : j = k
  · subst e; simp
  · rw [if_neg e]
    by_cases h : j < k
    · rw [if_pos h, if_pos (by omega)]
    · rw [if_neg h, if_neg (by omega)]
theorem fk_zero (us : Nat → Value) : fk us 0 = nF := by funext j; simp [fk]
theorem c_itemsZ (n : Int) (w : World) (h0 : 0 ≤ n) (hn : n ≤ 100) : Calls Try.prog 71 #[.int .i64 n] w fun e w' => ∃ v, e = .returned v ∧ Own w' w.heap.size v (upTo n.toNat) ∧ Below w.heap.size w w' := by
  have := c_itemsTo n.toNat w (by omega)
  rw [show (n.toNat : Int) = n by omega] at this
  exact this
theorem not_good_row {W : Wk} {k : Nat} (hk : k < 3) (h : ¬ (row W k).length ≤ 12) : goodB W = false := goodB_false fun g => h (g.rows k hk)
theorem not_good_len {W : Wk} (h : ¬ W.r.length = 3) : goodB W = false := goodB_false fun g => h g.len
theorem not_good_n {W : Wk} (h : isCnt W.n = false) : goodB W = false := goodB_false fun g => by rw [isCnt_iff.2 ⟨g.n0, g.n1⟩] at h; cases h
set_option maxRecDepth 100000 in
set_option maxHeartbeats 6400000 in
theorem c_crewOf (a c : Value) (W : Wk) (w0 w : World) (hA0 : WorkC w0 a c W) (hb00 : Below w0.heap.size w0 w) (hd : W.d.length ≤ 1048576) (P : Nat → Prop) : Calls Try.prog 57 #[wkv a W.n c] w (EndC w0 P W (goodB W) w) := by
  obtain ⟨i0, hi, hz0, hz1, hz2⟩ := info_parts info_int
  have hA := hA0.below hb00
  have hb0 := (below1 w (.cells (w3 a W.n c) 28)).alloc (by simp) (.cells (cr5 nF 0 nilV) 76)
  have ra0 : RowW ((w.alloc (.cells (w3 a W.n c) 28)).alloc (.cells (cr5 nF 0 nilV) 76)) w.heap.size a W.n c := Row.alloc (Row.new w 28 (w3 a W.n c)) _
  have rr0 : RowC ((w.alloc (.cells (w3 a W.n c) 28)).alloc (.cells (cr5 nF 0 nilV) 76)) (w.heap.size + 1) nF 0 nilV := Row.new1 w _ 76 (cr5 nF 0 nilV)
  have hsz : ((w.alloc (.cells (w3 a W.n c) 28)).alloc (.cells (cr5 nF 0 nilV) 76)).heap.size = w.heap.size + 2 := by simp
  obtain ⟨pa, qa, nr, rfl, hnr⟩ : ∃ p q n, a = .slice p n q ∧ W.r.length = n := by obtain ⟨p, q, h, _⟩ := hA.r; exact ⟨p, q, _, h, rfl⟩
  have HNR := Lib.hid hnr; clear hnr
  obtain ⟨pc, qc, rfl, _⟩ := hA.d.shape
  have RR := Lib.hid rr0; have HB := Lib.hid hb0; have HW := Lib.hid hA; have HWZ := Lib.hid hA0; have HD := Lib.hid hA.d; have HB00 := Lib.hid hb00
  have q0 := ra0.c0
  have q1 := ra0.c1
  have q2 := ra0.c2
  have RA0 := Lib.hid ra0
  have HSZ2 := Lib.hid hsz
  have HDL := Lib.hid hd
  clear ra0 rr0 hb0 hA hA0 hb00 hsz hd
  by_cases hl : nr = 3
  · subst hl
    have e1 : (((3 : Nat) : Int) != 3) = false := rfl
    by_cases hc : isCnt W.n = true
    · have HCN := Lib.hid hc
      have HN1 := Lib.hid (isCnt_iff.1 hc)
      obtain ⟨b, off, us, rfl, hl3, hus⟩ := rows_us HWZ.out.r rfl
      have HUS0 := Lib.hid hus
      have HUS : Hid (∀ i, i < 3 → w.cell? ⟨b, off + i, none⟩ = some (us i) ∧ IntsC w (us i) (row W i)) := fun i hi => ⟨cellBelow HB00.out (Nat.le_refl _) (hus i hi).1, (hus i hi).2.below HB00.out⟩
      have HL3 := Lib.hid hl3
      have ONE : Hid ((us 0).oneCell' = true ∧ (us 1).oneCell' = true ∧ (us 2).oneCell' = true ∧ (Value.slice pc W.d.length qc).oneCell' = true) := ⟨(hus 0 (by omega)).2.one, (hus 1 (by omega)).2.one, (hus 2 (by omega)).2.one, rfl⟩
      clear hus hc hl3 HW
      go_enter Try.func57, Try.ntmps57
      go_upto_region 4 with (first
        | (go_at_call 70; refine (c_isItemCount _ _).mono ?_; rintro e w1 ⟨rfl, rfl⟩; rw [HCN.out]))
      have hw2 : ((w.alloc (.cells (w3 (.slice (some ⟨b, off, none⟩) 3 qa) W.n (.slice pc W.d.length qc)) 28)).alloc (.cells (cr5 nF 0 nilV) 76)).heap.size = w.heap.size + 2 := HSZ2.out
      have rc3 : RowC (((w.alloc (.cells (w3 (.slice (some ⟨b, off, none⟩) 3 qa) W.n (.slice pc W.d.length qc)) 28)).alloc (.cells (cr5 nF 0 nilV) 76)).alloc (.cells (cr5 nF W.n (.slice pc W.d.length qc)) 76)) (w.heap.size + 1 + 1) nF W.n (.slice pc W.d.length qc) := Row.new2 w _ _ 76 _
      have rr3 : RowC (((w.alloc (.cells (w3 (.slice (some ⟨b, off, none⟩) 3 qa) W.n (.slice pc W.d.length qc)) 28)).alloc (.cells (cr5 nF 0 nilV) 76)).alloc (.cells (cr5 nF W.n (.slice pc W.d.length qc)) 76)) (w.heap.size + 1) nF 0 nilV := Row.alloc RR.out _
      have ra3 : RowW (((w.alloc (.cells (w3 (.slice (some ⟨b, off, none⟩) 3 qa) W.n (.slice pc W.d.length qc)) 28)).alloc (.cells (cr5 nF 0 nilV) 76)).alloc (.cells (cr5 nF W.n (.slice pc W.d.length qc)) 76)) w.heap.size (.slice (some ⟨b, off, none⟩) 3 qa) W.n (.slice pc W.d.length qc) := Row.alloc RA0.out _
      have hb3 := HB.out.alloc (by rw [hw2]; omega) (.cells (cr5 nF W.n (.slice pc W.d.length qc)) 76)
      have RC3 := Lib.hid rc3; have RR3 := Lib.hid rr3; have RA3 := Lib.hid ra3; have HB3 := Lib.hid hb3
      clear rc3 rr3 hb3 hw2 RR HB RA0 q0 q1 q2 HSZ2
      have q0 := ra3.c0
      clear ra3
      go_wp2_with fail
      go_loopw [27] (fun i wr => ∃ k : Nat, k ≤ 3 ∧ i = .int .i64 k ∧ Hid (RowC wr (w.heap.size + 1 + 1) (fk us k) W.n (.slice pc W.d.length qc)) ∧ Hid (RowC wr (w.heap.size + 1) nF 0 nilV) ∧ Hid (RowW wr w.heap.size (.slice (some ⟨b, off, none⟩) 3 qa) W.n (.slice pc W.d.length qc)) ∧ Hid (Below w.heap.size w wr) ∧ Hid (∀ j, j < k → (row W j).length ≤ 12)) (fun i _ => 3 - (intOf i).toNat)
      case atStart => exact ⟨0, by omega, rfl, by rw [fk_zero]; exact RC3, RR3, RA3, HB3, fun j hj => by omega⟩
      case round =>
        obtain ⟨k, hk, rfl, hrc, hrr, hra, hbw, hr12⟩ := hrel
        by_cases hlt : k < 3
        · obtain ⟨pu, cu, hu, _⟩ := (HUS.out k hlt).2.shape
          have q := cellBelow hbw.out (Nat.le_refl _) (HUS.out k hlt).1
          rw [hu] at q
          have ck := RowC.row hrc.out hlt
          have fr := Row.frozen hrc.out k
          have i1 : (k : Int) < 3 := by omega
          have i0 : (0 : Int) ≤ (k : Int) := by omega
          by_cases hm : (row W k).length ≤ 12
          · have j1 : ¬ ((row W k).length : Int) > 12 := by omega
            have HF : Hid (upd (fk us k) k (.slice pu (row W k).length cu) = fk us (k + 1)) := by rw [← hu]; exact fk_succ us k
            have S1 := Lib.hid (RowC.setR hrc.out hlt (.slice pu (row W k).length cu))
            have S2 := Lib.hid (RowC.other hrr.out ⟨w.heap.size + 1 + 1, k, none⟩ (by simp) (.slice pu (row W k).length cu))
            have S3 : Hid (RowW _ w.heap.size (.slice (some ⟨b, off, none⟩) 3 qa) W.n (.slice pc W.d.length qc)) := Row.other hra.out ⟨w.heap.size + 1 + 1, k, none⟩ (by simp; omega) (.slice pu (row W k).length cu)
            have S4 := Lib.hid (hbw.out.setCell (p := ⟨w.heap.size + 1 + 1, k, none⟩) (by simp; omega) (.slice pu (row W k).length cu))
            have S5 : Hid (∀ j, j < k + 1 → (row W j).length ≤ 12) := fun j hj => by
              by_cases e : j = k
              · subst e; exact hm
              · exact hr12.out j (by omega)
            rw [HF.out] at S1
            clear hu hm hrc hrr hra hbw hr12 HF
            generalize (row W k).length = m at *
            go_wp2_with fail
            go_roundw
            case rel => exact ⟨k + 1, by omega, by go_num, S1, S2, S3, S4, S5⟩
            case measure => simp [intOf]; omega
          · have HE : Hid (false = goodB W) := (not_good_row hlt hm).symm
            have j1 : ((row W k).length : Int) > 12 := by omega
            clear hu hm ck fr
            generalize (row W k).length = m at *
            go_wp2_with (refine wl_storeC rfl _ _ rfl (w.heap.size + 1) nF 0 nilV _ _ _ hrr.out rfl rfl rfl rfl rfl rfl ?_)
            refine bodyPost_ret (res_row_slot Try.results57 (Row.put hrr.out (cr5 nF 0 nilV)) rfl rfl Try.underlying76 rfl info_crew) rfl ((endC_no (W := W) (below_setRow hbw.out (by omega) _)).mono HE.out (fun h => absurd h (by decide)))
        · obtain rfl : k = 3 := by omega
          have HR12 := Lib.hid hr12.out
          have HGS := Lib.hid (good_srt HL3.out HN1.out.1 HN1.out.2 HR12.out)
          have HLEN : Hid ((leftL W).length + W.d.length ≤ 1048612) := by unfold Hid; have := (srt_own_len W HL3.out HR12.out).1; have := HDL.out; omega
          have C0 : Hid (RowC wr.drew (w.heap.size + 1 + 1) us W.n (.slice pc W.d.length qc)) := hrc.out
          have R0 : Hid (RowC wr.drew (w.heap.size + 1) nF 0 nilV) := hrr.out
          have A0 : Hid (RowW wr.drew w.heap.size (.slice (some ⟨b, off, none⟩) 3 qa) W.n (.slice pc W.d.length qc)) := hra.out
          have HBD : Hid (Below w.heap.size w wr.drew) := below_drew hbw.out
          have HSZ : Hid (w.heap.size + 3 ≤ wr.drew.heap.size) := Row.lt C0.out
          clear hrc hrr hra hbw hr12
          go_upto_region 11 with fail
          have HNB := HBD
          refine wp_region_held_drew (S := (fun w' => w'.cell? ⟨w.heap.size + 1 + 1, 0, none⟩ = some (us 0) ∧ w'.cell? ⟨w.heap.size + 1 + 1, 1, none⟩ = some (us 1) ∧ w'.cell? ⟨w.heap.size + 1 + 1, 2, none⟩ = some (us 2) ∧ w'.cell? ⟨w.heap.size + 1 + 1, 3, none⟩ = some (.int .i64 W.n) ∧ w'.cell? ⟨w.heap.size + 1 + 1, 4, none⟩ = some (.slice pc W.d.length qc))) (by kernel_rfl) (⟨RowC.row C0.out (by omega : 0 < 3), RowC.row C0.out (by omega : 1 < 3), RowC.row C0.out (by omega : 2 < 3), RowC.nn C0.out, RowC.dd C0.out⟩) (fun hHeld => ?_)
          refine wpAnyH_take (i := 0) (v := ?va0x1) rfl (by kernel_rfl) (by kernel_rfl) (by kernel_rfl) (fun _ _ _ h => h) (Or.inl ⟨by rfl, ?hy0x1⟩) (by assumption) ?rest0x1
          case hy0x1 => (intro w hSw; (try dsimp only at hSw); go_simp; try with_reducible rfl)
          (try simp only [Act.put, List.getElem_toArray, List.getElem_cons_zero, List.setIfInBounds_toArray, List.set_cons_zero, List.set_cons_succ])
          refine wpAnyH_take (i := 2) (v := ?va2x2) rfl (by kernel_rfl) (by kernel_rfl) (by kernel_rfl) (fun _ _ _ h => h) (Or.inl ⟨by rfl, ?hy2x2⟩) (by assumption) ?rest2x2
          case hy2x2 => (intro w hSw; (try dsimp only at hSw); go_simp; try with_reducible rfl)
          (try simp only [Act.put, List.getElem_toArray, List.getElem_cons_zero, List.getElem_cons_succ, List.setIfInBounds_toArray, List.set_cons_zero, List.set_cons_succ])
          refine wpAnyH_take (i := 3) (v := ?va3x3) rfl (by kernel_rfl) (by kernel_rfl) (by kernel_rfl) (fun _ _ _ h => h) (Or.inl ⟨by rfl, ?hy3x3⟩) (by assumption) ?rest3x3
          case hy3x3 => (intro w hSw; (try dsimp only at hSw); go_simp; try with_reducible rfl)
          (try simp only [Act.put, List.getElem_toArray, List.getElem_cons_zero, List.getElem_cons_succ, List.setIfInBounds_toArray, List.set_cons_zero, List.set_cons_succ])
          refine wpAnyH_ready (rs := [1]) (by kernel_rfl) (by simp) ?_
          refine AllReadyH.cons rfl (fun K hK => ?_) AllReadyH.nil
          go_simp
          refine (c_left us W.n (.slice pc W.d.length qc) W _ (fun k hk => (HUS.out k hk).2.below HBD.out) HL3.out HR12.out).mono ?_
          rintro e w4 ⟨v4, rfl, ho4, hb4⟩
          have C4 := Lib.hid (RowC.below C0.out hb4); have R4 := Lib.hid (RowC.below R0.out hb4); have A4 := Lib.hid (RowW.below A0.out hb4); have B4 := Lib.hid (bst HBD.out hb4 HBD.out.size)
          obtain ⟨v5, w5, hrun, ho5, hg5, hbl5⟩ := run_appOwn (P := Try.prog) w4 _ 26 26 3 i0 (.int .i64 0) 8 Try.underlying26 hi hz0 hz1 hz2 rfl v4 _ _ ho4 (.slice pc W.d.length qc) _ ((HD.out.below B4.out).1.src) (by have := HLEN.out; rw [List.length_map]; unfold maxLen; omega) (by have := HLEN.out; rw [List.length_map]; omega) hb4.size
          have O4 := Lib.hid ho4
          have HNE : Hid (∀ g, v4.ownBlock = some g → w.heap.size + 3 ≤ g) := fun g hg => Nat.le_trans HSZ.out (owns_lt ho4 hg).1
          have HS4 : Hid (_ ≤ w4.heap.size) := hb4.size
          clear hb4 ho4
          refine hK.out _ _ (⟨RowC.row C4.out (by omega : 0 < 3), RowC.row C4.out (by omega : 1 < 3), RowC.row C4.out (by omega : 2 < 3), RowC.nn C4.out, RowC.dd C4.out⟩) (fun hHeld => ?_)
          clear hK K
          (try simp only [Act.put, List.getElem_toArray, List.getElem_cons_zero, List.getElem_cons_succ, List.setIfInBounds_toArray, List.set_cons_zero, List.set_cons_succ])
          refine wpAnyH_ready (rs := [4]) (by kernel_rfl) (by simp) ?_
          refine AllReadyH.cons rfl (fun K hK => ?_) AllReadyH.nil
          rw [if_pos (by rfl)]
          refine op_app _ _ _ rfl rfl rfl hrun ?_
          have hne1 : v4.ownBlock ≠ some (w.heap.size + 1 + 1) := fun e => by have := HNE.out _ e; omega
          have hne2 : v4.ownBlock ≠ some (w.heap.size + 1) := fun e => by have := HNE.out _ e; omega
          have hne3 : v4.ownBlock ≠ some w.heap.size := fun e => by have := HNE.out _ e; omega
          have C5 : Hid (RowC w5 (w.heap.size + 1 + 1) us W.n (.slice pc W.d.length qc)) := Row.grownBy C4.out hg5 hne1
          have R5 : Hid (RowC w5 (w.heap.size + 1) nF 0 nilV) := Row.grownBy R4.out hg5 hne2
          have A5 : Hid (RowW w5 w.heap.size (.slice (some ⟨b, off, none⟩) 3 qa) W.n (.slice pc W.d.length qc)) := Row.grownBy A4.out hg5 hne3
          have BD5 := Lib.hid (B4.out.grown hg5 B4.out.size (fun g hg => by have := HNE.out _ hg; omega))
          have O5 : Hid (Own w5 (w.heap.size + 3) v5 (leftL W ++ W.d)) := by
            have h := ho5
            rw [List.length_map, ← List.map_append, ← List.length_append] at h
            exact owns_mono h fun g hg => by
              rcases hbl5 with e | e
              · exact HNE.out g (by rw [← e]; exact hg)
              · rw [e] at hg; cases hg; exact Nat.le_trans HSZ.out HS4.out
          refine hK.out _ _ ⟨RowC.row C5.out (by omega : 0 < 3), RowC.row C5.out (by omega : 1 < 3), RowC.row C5.out (by omega : 2 < 3), RowC.nn C5.out, RowC.dd C5.out⟩ (fun hHeld => ?_)
          clear hK K hrun ho5 hg5 hbl5 hne1 hne2 hne3
          (try simp only [Act.put, List.getElem_toArray, List.getElem_cons_zero, List.getElem_cons_succ, List.setIfInBounds_toArray, List.set_cons_zero, List.set_cons_succ])
          refine wpAnyH_take (i := 5) (v := ?va5x4) rfl (by kernel_rfl) (by kernel_rfl) (by kernel_rfl) (fun _ _ _ h => h) (Or.inl ⟨by rfl, ?hy5x4⟩) (by assumption) ?rest5x4
          case hy5x4 => (intro w hSw; (try dsimp only at hSw); go_simp; try with_reducible rfl)
          (try simp only [Act.put, List.getElem_toArray, List.getElem_cons_zero, List.getElem_cons_succ, List.setIfInBounds_toArray, List.set_cons_zero, List.set_cons_succ])
          refine wpAnyH_done (by kernel_rfl) ?_ _
          have C5' := C5
          go_upto_region 13 with (go_at_call 86; refine (c_sortOwn v5 (leftL W ++ W.d) (w.heap.size + 3) _ O5.out (by have := HLEN.out; rw [List.length_append]; omega)).mono ?_; rintro e w6 ⟨rfl, ho6, hg6⟩; have O6 := Lib.hid ho6; have hv5 : ∀ g, v5.ownBlock = some g → w.heap.size + 3 ≤ g := fun g hg => (owns_lt O5.out hg).1; have C6 : Hid (RowC w6 (w.heap.size + 1 + 1) us W.n (.slice pc W.d.length qc)) := Row.grownBy C5.out hg6 (fun e => by have := hv5 _ e; omega); have R6 : Hid (RowC w6 (w.heap.size + 1) nF 0 nilV) := Row.grownBy R5.out hg6 (fun e => by have := hv5 _ e; omega); have A6 : Hid (RowW w6 w.heap.size (.slice (some ⟨b, off, none⟩) 3 qa) W.n (.slice pc W.d.length qc)) := Row.grownBy A5.out hg6 (fun e => by have := hv5 _ e; omega); have B6 := Lib.hid (BD5.out.grown hg6 BD5.out.size (fun g hg => by have := hv5 _ hg; omega)); clear ho6 hg6 hv5)
          have C7 : Hid (RowC w6.drew (w.heap.size + 1 + 1) us W.n (.slice pc W.d.length qc)) := C6.out
          have R7 : Hid (RowC w6.drew (w.heap.size + 1) nF 0 nilV) := R6.out
          have A7 : Hid (RowW w6.drew w.heap.size (.slice (some ⟨b, off, none⟩) 3 qa) W.n (.slice pc W.d.length qc)) := A6.out
          have B7 : Hid (Below w.heap.size w w6.drew) := below_drew B6.out
          have O7 : Hid (Own w6.drew (w.heap.size + 3) v5 (srt (leftL W ++ W.d))) := O6.out
          have hnn : (W.n.toNat : Int) = W.n := by have := HN1.out; omega
          have HNN := Lib.hid hnn
          clear hnn
          refine wp_region_held_drew (S := (fun w' => w'.cell? ⟨w.heap.size + 1 + 1, 0, none⟩ = some (us 0) ∧ w'.cell? ⟨w.heap.size + 1 + 1, 1, none⟩ = some (us 1) ∧ w'.cell? ⟨w.heap.size + 1 + 1, 2, none⟩ = some (us 2) ∧ w'.cell? ⟨w.heap.size + 1 + 1, 3, none⟩ = some (.int .i64 W.n) ∧ w'.cell? ⟨w.heap.size + 1 + 1, 4, none⟩ = some (.slice pc W.d.length qc) ∧ w'.cell? ⟨w.heap.size, 1, none⟩ = some (.int .i64 W.n))) (by kernel_rfl) (⟨RowC.row C7.out (by omega : 0 < 3), RowC.row C7.out (by omega : 1 < 3), RowC.row C7.out (by omega : 2 < 3), RowC.nn C7.out, RowC.dd C7.out, RowW.c1 A7.out⟩) (fun hHeld => ?_)
          refine wpAnyH_take (i := 0) (v := ?va0x5) rfl (by kernel_rfl) (by kernel_rfl) (by kernel_rfl) (fun _ _ _ h => h) (Or.inl ⟨by rfl, ?hy0x5⟩) (by assumption) ?rest0x5
          case hy0x5 => (intro w hSw; (try dsimp only at hSw); go_simp; try with_reducible rfl)
          (try simp only [Act.put, List.getElem_toArray, List.getElem_cons_zero, List.setIfInBounds_toArray, List.set_cons_zero, List.set_cons_succ])
          refine wpAnyH_take (i := 1) (v := ?va1x6) rfl (by kernel_rfl) (by kernel_rfl) (by kernel_rfl) (fun _ _ _ h => h) (Or.inl ⟨by rfl, ?hy1x6⟩) (by assumption) ?rest1x6
          case hy1x6 => (intro w hSw; (try dsimp only at hSw); go_simp; try with_reducible rfl)
          (try simp only [Act.put, List.getElem_toArray, List.getElem_cons_zero, List.getElem_cons_succ, List.setIfInBounds_toArray, List.set_cons_zero, List.set_cons_succ])
          refine wpAnyH_take (i := 2) (v := ?va2x7) rfl (by kernel_rfl) (by kernel_rfl) (by kernel_rfl) (fun _ _ _ h => h) (Or.inl ⟨by rfl, ?hy2x7⟩) (by assumption) ?rest2x7
          case hy2x7 => (intro w hSw; (try dsimp only at hSw); go_simp; try with_reducible rfl)
          (try simp only [Act.put, List.getElem_toArray, List.getElem_cons_zero, List.getElem_cons_succ, List.setIfInBounds_toArray, List.set_cons_zero, List.set_cons_succ])
          refine wpAnyH_take (i := 3) (v := ?va3x8) rfl (by kernel_rfl) (by kernel_rfl) (by kernel_rfl) (fun _ _ _ h => h) (Or.inl ⟨by rfl, ?hy3x8⟩) (by assumption) ?rest3x8
          case hy3x8 => (intro w hSw; (try dsimp only at hSw); go_simp; try with_reducible rfl)
          (try simp only [Act.put, List.getElem_toArray, List.getElem_cons_zero, List.getElem_cons_succ, List.setIfInBounds_toArray, List.set_cons_zero, List.set_cons_succ])
          refine wpAnyH_ready (rs := [4]) (by kernel_rfl) (by simp) ?_
          refine AllReadyH.cons rfl (fun K hK => ?_) AllReadyH.nil
          go_simp
          refine (c_itemsZ W.n _ HN1.out.1 HN1.out.2).mono ?_
          rintro e w8 ⟨v8, rfl, ho8, hb8⟩
          have C8 := Lib.hid (RowC.below C7.out hb8); have R8 := Lib.hid (RowC.below R7.out hb8); have A8 := Lib.hid (RowW.below A7.out hb8); have B8 := Lib.hid (bst B7.out hb8 B7.out.size)
          have O8 := Lib.hid (Own.below O7.out hb8); have Q8 := Lib.hid ho8
          clear hb8 ho8
          refine hK.out _ _ (⟨RowC.row C8.out (by omega : 0 < 3), RowC.row C8.out (by omega : 1 < 3), RowC.row C8.out (by omega : 2 < 3), RowC.nn C8.out, RowC.dd C8.out, RowW.c1 A8.out⟩) (fun hHeld => ?_)
          clear hK K
          (try simp only [Act.put, List.getElem_toArray, List.getElem_cons_zero, List.getElem_cons_succ, List.setIfInBounds_toArray, List.set_cons_zero, List.set_cons_succ])
          refine wpAnyH_ready (rs := [5]) (by kernel_rfl) (by simp) ?_
          refine AllReadyH.cons rfl (fun K hK => ?_) AllReadyH.nil
          go_simp
          refine (c_slEqual v5 v8 (srt (leftL W ++ W.d)) (upTo W.n.toNat) _ O8.out.ints Q8.out.ints (by have := HLEN.out; rw [srt_length, List.length_append]; omega)).mono ?_
          rintro e w9 ⟨rfl, n9, hw9⟩
          rw [← HGS.out]
          have C9 : Hid (RowC w9 (w.heap.size + 1 + 1) us W.n (.slice pc W.d.length qc)) := by rw [hw9]; exact C8
          have R9 : Hid (RowC w9 (w.heap.size + 1) nF 0 nilV) := by rw [hw9]; exact R8
          have A9 : Hid (RowW w9 w.heap.size (.slice (some ⟨b, off, none⟩) 3 qa) W.n (.slice pc W.d.length qc)) := by rw [hw9]; exact A8
          have B9 : Hid (Below w.heap.size w w9) := by rw [hw9]; exact below_drewN B8.out n9
          clear hw9
          refine hK.out _ _ (⟨RowC.row C9.out (by omega : 0 < 3), RowC.row C9.out (by omega : 1 < 3), RowC.row C9.out (by omega : 2 < 3), RowC.nn C9.out, RowC.dd C9.out, RowW.c1 A9.out⟩) (fun hHeld => ?_)
          clear hK K
          (try simp only [Act.put, List.getElem_toArray, List.getElem_cons_zero, List.getElem_cons_succ, List.setIfInBounds_toArray, List.set_cons_zero, List.set_cons_succ])
          have hg12 : w.heap.size + 1 + 1 ≠ w.heap.size + 1 := by omega
          have hg01 : w.heap.size ≠ w.heap.size + 1 := by omega
          have CA : Hid (RowC (w9.setRow (w.heap.size + 1) (cr5 us W.n (.slice pc W.d.length qc))) (w.heap.size + 1 + 1) us W.n (.slice pc W.d.length qc)) := Row.putOther C9.out _ hg12
          have AA : Hid (RowW (w9.setRow (w.heap.size + 1) (cr5 us W.n (.slice pc W.d.length qc))) w.heap.size (.slice (some ⟨b, off, none⟩) 3 qa) W.n (.slice pc W.d.length qc)) := Row.putOther A9.out _ hg01
          have RA : Hid (RowC (w9.setRow (w.heap.size + 1) (cr5 us W.n (.slice pc W.d.length qc))) (w.heap.size + 1) us W.n (.slice pc W.d.length qc)) := Row.put R9.out _
          have BA := Lib.hid (below_setRow B9.out (show w.heap.size ≤ w.heap.size + 1 by omega) (cr5 us W.n (.slice pc W.d.length qc)))
          refine wpAnyH_ready (rs := [6]) (by kernel_rfl) (by simp) ?_
          refine AllReadyH.cons rfl (fun K hK => ?_) AllReadyH.nil
          rw [if_pos (by rfl)]
          refine wp_store_row 76 _ _ rfl (w.heap.size + 1) (cr5 us W.n (.slice pc W.d.length qc)) rfl rfl 76 (cr5 nF 0 nilV) R9.out info_crew rfl (by obtain ⟨o1, o2, o3, o4⟩ := ONE.out; simp [o1, o2, o3]; exact ⟨rfl, o4⟩) ?_
          refine hK.out _ _ ⟨RowC.row CA.out (by omega : 0 < 3), RowC.row CA.out (by omega : 1 < 3), RowC.row CA.out (by omega : 2 < 3), RowC.nn CA.out, RowC.dd CA.out, RowW.c1 AA.out⟩ (fun hHeld => ?_)
          clear hK K
          (try simp only [Act.put, List.getElem_toArray, List.getElem_cons_zero, List.getElem_cons_succ])
          refine wpAnyH_take (i := 7) (v := ?va7x9) rfl (by kernel_rfl) (by kernel_rfl) (by kernel_rfl) (fun _ _ _ h => h) (Or.inl ⟨by rfl, ?hy7x9⟩) (by assumption) ?rest7x9
          case hy7x9 => (intro w hSw; (try dsimp only at hSw); go_simp; try with_reducible rfl)
          (try simp only [Act.put, List.getElem_toArray, List.getElem_cons_zero, List.getElem_cons_succ, List.setIfInBounds_toArray, List.set_cons_zero, List.set_cons_succ])
          refine wpAnyH_done (by kernel_rfl) ?_ _
          go_wp2_with fail
          refine bodyPost_ret (res_row_slot Try.results57 RA.out rfl rfl Try.underlying76 rfl info_crew) rfl ⟨us, W.n, (.slice pc W.d.length qc), rfl, ONE.out, fun _ => ⟨rfl, Sep.start ⟨fun k hk => (HUS0.out k hk).2, HWZ.out.d⟩ _ P⟩, BA.out⟩
    · have HCN : Hid (isCnt W.n = false) := by unfold Hid; simpa using hc
      have HE : Hid (false = goodB W) := (not_good_n HCN.out).symm
      clear hc HW HWZ HD RA0
      go_enter Try.func57, Try.ntmps57
      go_wp2_with (first
        | (go_at_call 70; refine (c_isItemCount _ _).mono ?_; rintro e w1 ⟨rfl, rfl⟩; rw [HCN.out])
        | (refine wl_storeC rfl _ _ rfl (w.heap.size + 1) nF 0 nilV _ _ _ RR.out rfl rfl rfl rfl rfl rfl ?_))
      refine bodyPost_ret (res_row_slot Try.results57 (Row.put RR.out (cr5 nF 0 nilV)) rfl rfl Try.underlying76 rfl info_crew) rfl ((endC_no (W := W) (below_setRow HB.out (by omega) _)).mono HE.out (fun h => absurd h (by decide)))
  · have e1 : ((nr : Int) != 3) = true := by rw [bne_iff_ne]; omega
    have HE : Hid (false = goodB W) := (not_good_len (by rw [HNR.out]; exact hl)).symm
    have HCN : Hid True := trivial
    clear hl HW HWZ HD RA0
    go_enter Try.func57, Try.ntmps57
    go_wp2_with (first
      | (go_at_call 70; refine (c_isItemCount _ _).mono ?_; rintro e w1 ⟨rfl, rfl⟩; rw [HCN.out])
      | (refine wl_storeC rfl _ _ rfl (w.heap.size + 1) nF 0 nilV _ _ _ RR.out rfl rfl rfl rfl rfl rfl ?_))
    refine bodyPost_ret (res_row_slot Try.results57 (Row.put RR.out (cr5 nF 0 nilV)) rfl rfl Try.underlying76 rfl info_crew) rfl ((endC_no (W := W) (below_setRow HB.out (by omega) _)).mono HE.out (fun h => absurd h (by decide)))
end Go.Proofs.Ytkbphmnacdpdgaa
namespace Go.Proofs.Ytkbphmnacdpdgaa
open Go.RowKit
theorem op_make {P : Program} {o : Oper} {q : Act} {w : World} {K : Act → World → Prop} {Q : Exit → Act → World → Prop} (l c : Operand) (t : TypeId) (hop : o.op = Op.makeSlice t l c) (base : Nat) (e : TypeId) (i : TypeInfo) (z : Value) (size : Nat) (h1 : P.underlying t = some (.slice e)) (h2 : P.info? e = some i) (h3 : i.zero = some z) (h4 : i.size = size)
    (kl kc : IntKind) (n : Nat) (hl : q.eval l = .int kl (n : Int)) (hc : q.eval c = .int kc (n : Int)) (b2 : i.bytes * n ≤ 281474976710656) (b3 : n ≤ maxLen) (b4 : base ≤ w.heap.size)
    (hK : ∀ w', w'.ownsRow base e size (.slice (some ⟨w.heap.size, 0, none⟩) n n) n (madeCells z.cells (n * size)).toList → w.grownBy w' none → K (q.put o.dst (.slice (some ⟨w.heap.size, 0, none⟩) n n)) w') : Oper.wp P o q w K Q := by
  obtain ⟨w', hrun, r1, r2⟩ := run_make_full (P := P) w base t e i z size h1 h2 h3 h4 kl kc n b2 b3 b4
  unfold Oper.wp
  simp [execOp, hop, hl, hc, hrun, Result.andThen]
  exact hK w' r1 r2
end Go.Proofs.Ytkbphmnacdpdgaa
