/- What the laws of chapter 3 draw: steps. -/
import Derived.Test.YtdiejmebodpjeaaCur
import Derived.Test.YtdiejmebodpjeaaMw8
namespace Go.Proofs.Ytdiejmebodpjeaa
open Go.RowKit Pr

/-- A draw under way: the reader's block c alone has turned of what was there. -/
def Dw (w : World) (c m : Nat) (X : World) : Prop := CurIs X c m ∧ w.grownBy X (some c) ∧ c < w.heap.size
theorem Dw.start {w : World} {c m : Nat} (h : CurIs w c m) : Dw w c m w := ⟨h, World.grownBy.refl _ _, h.lt⟩
theorem Dw.step {w X Y : World} {c m m' : Nat} (h : Dw w c m X) (hc : CurIs Y c m') (hg : X.grownBy Y (some c)) : Dw w c m' Y := ⟨hc, grownBy_trans h.2.1 hg, h.2.2⟩
theorem Dw.mono {w X : World} {c m m' : Nat} (h : Dw w c m X) (hm : m ≤ m') : Dw w c m' X := ⟨h.1.mono hm, h.2⟩
theorem Dw.app {w X Y : World} {c m : Nat} {row : Option Nat} (h : Dw w c m X) (hg : X.grownBy Y row) (hr : ∀ k, row = some k → w.heap.size ≤ k) : Dw w c m Y :=
  ⟨h.1.kept (fun k hk => hg.block k (by have := h.2.1.size; have := h.2.2; omega) (fun e => by have := hr k e.symm; have := h.2.2; omega)), h.2.1.andThen hg (fun j hj => .inl (hr j hj)), h.2.2⟩
theorem Dw.alloc {w X : World} {c m : Nat} (h : Dw w c m X) (o : Obj) : Dw w c m (X.alloc o) := h.app (World.grownBy_alloc X o none) (fun k hk => by cases hk)
theorem grown_set (X : World) (g k : Nat) (x : Value) : X.grownBy (X.setCell ⟨g, k, none⟩ x) (some g) :=
  ⟨rfl, rfl, rfl, by simp [World.setCell], fun i _ hne => heap_setCell_other X ⟨g, k, none⟩ i x (fun e => hne (by rw [e]))⟩
theorem Dw.set {w X : World} {c m : Nat} (h : Dw w c m X) {g : Nat} (hg : w.heap.size ≤ g) (k : Nat) (x : Value) : Dw w c m (X.setCell ⟨g, k, none⟩ x) := h.app (grown_set X g k x) (fun j hj => by cases hj; exact hg)
theorem OwnR.stepC {X Y : World} {B c : Nat} {v : Value} {ss : List R} (h : OwnR X B v ss) (hB : c < B) (hg : X.grownBy Y (some c)) : OwnR Y B v ss := h.kept hg (.inr (fun e => by have := (World.ownsRow.lt h _ e).1; omega))
theorem OwnR.setO {X : World} {B : Nat} {v : Value} {ss : List R} (h : OwnR X B v ss) {g : Nat} (hne : v.ownBlock ≠ some g) (k : Nat) (x : Value) : OwnR (X.setCell ⟨g, k, none⟩ x) B v ss := h.kept (grown_set X g k x) (.inr hne)
/-- Small numbers. -/
def Sm (ss : List R) : Prop := ∀ r ∈ ss, (-1 ≤ r.1 ∧ r.1 ≤ 40) ∧ (-1 ≤ r.2 ∧ r.2 ≤ 40)
theorem Sm.nil : Sm [] := fun r hr => by simp at hr
theorem Sm.snoc {ss : List R} (h : Sm ss) {a b : Int} (ha : -1 ≤ a ∧ a ≤ 40) (hb : -1 ≤ b ∧ b ≤ 40) : Sm (ss ++ [(a, b)]) := fun r hr => by
  rcases List.mem_append.1 hr with hr | hr
  · exact h r hr
  · simp at hr; subst hr; exact ⟨ha, hb⟩
theorem Sm.bnd {ss : List R} (h : Sm ss) : Bnd ss := fun r hr => by have := h r hr; unfold i64R; omega
theorem own_ints4 (w : World) (B : Nat) (hB : B ≤ w.heap.size) : Own (w.alloc (.cells #[.int .i64 (-1), .int .i64 0, .int .i64 32, .int .i64 33] 3)) B (.slice (some ⟨w.heap.size, 0, none⟩) 4 4) [-1, 0, 32, 33] :=
  ⟨rfl, .inr ⟨w.heap.size, 4, _, rfl, hB, heap_alloc_new _ _, Nat.le_refl _, by decide, rfl, rfl⟩⟩

set_option maxRecDepth 100000 in
set_option maxHeartbeats 12800000 in
theorem c_runSteps (c n : Nat) (w : World) (hc : CurIs w c n) (hn : n ≤ 999990000) :
    Calls Try.prog 55 #[.pointer (some ⟨c, 0, none⟩)] w fun e w' => ∃ (v : Value) (ss : List R), e = .returned v ∧ ss.length ≤ 41 ∧ Sm ss ∧ OwnR w' w.heap.size v ss ∧ CurIs w' c (n + 600) ∧ w.grownBy w' (some c) := by
  have hD := Dw.start hc
  have hcw := hc.lt
  have HD := Lib.hid hD
  clear hc hD
  go_enter Try.func55, Try.ntmps55
  go_wp2_with fail
  refine (c_pick c n 16 _ HD.out.1 (by omega) (by omega) (by omega)).mono ?_
  rintro e w1 ⟨x, hx, rfl, hc1, hg1⟩
  have HD1 := Lib.hid (HD.out.step hc1 hg1)
  clear hc1 hg1
  go_wp2_with fail
  refine (c_one c (n + 2) 20 _ HD1.out.1 (by omega) (by omega) (by omega)).mono ?_
  rintro e w2 ⟨bo, rfl, hc2, hg2⟩
  have HD2 := Lib.hid (HD1.out.step hc2 hg2)
  clear hc2 hg2
  cases bo with
  | false =>
    obtain ⟨N, rfl⟩ := Int.eq_ofNat_of_zero_le hx.1
    have hN : N ≤ 41 := by omega
    have HDL := Lib.hid (HD2.out.mono (show n + 2 + 2 ≤ n + 6 by omega))
    clear hx
    go_wp2
    go_loopw [3, 4] (fun l x wr => ∃ (ss : List R) (j : Nat), x = .int .i64 j ∧ ss.length + j ≤ 41 ∧ Sm ss ∧ OwnR wr w.heap.size l ss ∧ Dw w c (n + 6 + 12 * ss.length) wr) (fun _ x _ => (intOf x).toNat)
    case atStart => exact ⟨[], N, by rfl, by simp; omega, Sm.nil, OwnR.nil _ _, HDL.out⟩
    case round =>
      obtain ⟨ss, j, rfl, hlen, hsm, hown, hDr⟩ := hrel
      have HD0 := Lib.hid hDr; have HO0 := Lib.hid hown; have HSM := Lib.hid hsm
      have HU := Lib.hid (World.ownsRow.lt hown)
      have hws : w.heap.size ≤ wr.heap.size := hDr.2.1.size
      clear hDr hsm
      by_cases hj : 0 < j
      · clear hown
        go_wp2_with fail
        refine (c_pick c (n + 6 + 12 * ss.length) 8 _ HD0.out.1 (by omega) (by omega) (by omega)).mono ?_
        rintro e w3 ⟨x3, hx3, rfl, hc3, hg3⟩
        have hs3 := hg3.size
        have HD3 := Lib.hid ((HD0.out.step hc3 hg3).alloc (.cells (cr (-1, 1 + x3)) 33))
        have HO3 := Lib.hid ((HO0.out.stepC hcw hg3).below (below1 w3 (.cells (cr (-1, 1 + x3)) 33)))
        have HR3 := Lib.hid (Row.new w3 33 (cr (-1, 1 + x3)))
        have hgw : w.heap.size ≤ w3.heap.size := by omega
        clear hc3 hg3
        go_wp2_with fail
        refine (c_one c (n + 6 + 12 * ss.length + 2) 3 _ HD3.out.1 (by omega) (by omega) (by omega)).mono ?_
        rintro e w4 ⟨b4, rfl, hc4, hg4⟩
        have HD4 := Lib.hid (HD3.out.step hc4 hg4)
        have HO4 := Lib.hid (HO3.out.stepC hcw hg4)
        have HR4 := Lib.hid (Row.grownBy HR3.out hg4 (fun e => by cases e; omega))
        have hvg : Value.ownBlock u3 ≠ some w3.heap.size := fun e => by have := (HU.out _ e).2; omega
        clear hc4 hg4 HD3 HO3 HR3 HD0 HO0
        generalize w3.heap.size = g at *
        cases b4 with
        | false =>
          go_wp2_with fail
          refine (c_one c (n + 6 + 12 * ss.length + 2 + 2) 20 _ HD4.out.1 (by omega) (by omega) (by omega)).mono ?_
          rintro e w6 ⟨b6, rfl, hc6, hg6⟩
          have HD6 := Lib.hid (HD4.out.step hc6 hg6)
          have HO6 := Lib.hid (HO4.out.stepC hcw hg6)
          have HR6 := Lib.hid (Row.grownBy HR4.out hg6 (fun e => by cases e; omega))
          clear hc6 hg6
          cases b6 with
          | false =>
            have a0 : w6.cell? ⟨g, 0, none⟩ = some (.int .i64 (-1)) := HR6.out.cell 0
            have a1 : w6.cell? ⟨g, 0 + 1, none⟩ = some (.int .i64 (1 + x3)) := HR6.out.cell 1
            have hb9 : w.heap.size ≤ w6.heap.size := HD6.out.2.1.size
            go_wp2_with (first
              | (at_builtin; refine wl_appR (w := w6) rfl _ _ rfl w.heap.size u3 ss (-1) (1 + x3) rfl HO6.out rfl (by omega) hb9 ?_; intro v9 w9 hown9 hg9 _; go_frame)
              | go_in)
            have D9 := (HD6.out.alloc (.cells #[.int .i64 (-1), .int .i64 (1 + x3)] 33)).app hg9 (fun k hk => (HU.out k hk).1)
            go_roundw
            case rel => exact ⟨ss ++ [(-1, 1 + x3)], j - 1, by go_num, by simp; omega, HSM.out.snoc (by omega) (by omega), hown9, D9.mono (by simp; omega)⟩
            case measure => simp [intOf]; omega
          | true =>
            have hb6 : w.heap.size ≤ w6.heap.size := HD6.out.2.1.size
            have hg6' := HR6.out.lt
            go_wp2_with fail
            refine (c_among c (n + 6 + 12 * ss.length + 2 + 2 + 2) _ [-1, 0, 32, 33] (-1) 33 _ (HD6.out.alloc _).1 (by omega) (own_ints4 w6 (c + 1) (by omega)) (by simp) (by simp) (by intro z hz; simp at hz; omega)).mono ?_
            rintro e w7 ⟨q, hq, rfl, hc7, hg7⟩
            have HD7 := Lib.hid (((HD6.out.alloc (.cells #[.int .i64 (-1), .int .i64 0, .int .i64 32, .int .i64 33] 3)).step hc7 hg7).set (g := g) hgw (0 + 1) (.int .i64 q))
            have HO7 := Lib.hid (((HO6.out.below (below1 w6 (.cells #[.int .i64 (-1), .int .i64 0, .int .i64 32, .int .i64 33] 3))).stepC hcw hg7).setO (g := g) hvg (0 + 1) (.int .i64 q))
            have R7 := Row.grownBy (Row.alloc HR6.out (.cells #[.int .i64 (-1), .int .i64 0, .int .i64 32, .int .i64 33] 3)) hg7 (fun e => by cases e; omega)
            have b0 : w7.cell? ⟨g, 0, none⟩ = some (.int .i64 (-1)) := R7.cell 0
            have b1 : w7.cell? ⟨g, 0 + 1, none⟩ = some (.int .i64 (1 + x3)) := R7.cell 1
            have f1 : w7.frozen? ⟨g, 0 + 1, none⟩ = false := R7.frozen 1
            have HR7 : Hid (Row (w7.setCell ⟨g, 0 + 1, none⟩ (.int .i64 q)) g 33 (cr (-1, q))) := R7.set 1 (.int .i64 q)
            clear hc7 hg7 R7
            have a0 : (w7.setCell ⟨g, 0 + 1, none⟩ (.int .i64 q)).cell? ⟨g, 0, none⟩ = some (.int .i64 (-1)) := HR7.out.cell 0
            have a1 : (w7.setCell ⟨g, 0 + 1, none⟩ (.int .i64 q)).cell? ⟨g, 0 + 1, none⟩ = some (.int .i64 (q)) := HR7.out.cell 1
            have hb9 : w.heap.size ≤ (w7.setCell ⟨g, 0 + 1, none⟩ (.int .i64 q)).heap.size := HD7.out.2.1.size
            go_wp2_with (first
              | (at_builtin; refine wl_appRg (w := (w7.setCell ⟨g, 0 + 1, none⟩ (.int .i64 q))) rfl _ _ rfl w.heap.size w7.heap.size (by simp [World.setCell]) u3 ss (-1) (q) rfl HO7.out rfl (by omega) hb9 ?_; intro v9 w9 hown9 hg9 _; go_frame)
              | go_in)
            have D9 := (HD7.out.alloc (.cells #[.int .i64 (-1), .int .i64 (q)] 33)).app hg9 (fun k hk => (HU.out k hk).1)
            go_roundw
            case rel => exact ⟨ss ++ [(-1, q)], j - 1, by go_num, by simp; omega, HSM.out.snoc (by omega) (by omega), hown9, D9.mono (by simp; omega)⟩
            case measure => simp [intOf]; omega
        | true =>
          go_wp2_with fail
          refine (c_pick c (n + 6 + 12 * ss.length + 2 + 2) 16 _ HD4.out.1 (by omega) (by omega) (by omega)).mono ?_
          rintro e w5 ⟨y5, hy5, rfl, hc5, hg5⟩
          have HD5 := Lib.hid (HD4.out.step hc5 hg5)
          have HO5 := Lib.hid (HO4.out.stepC hcw hg5)
          have HR5 := Lib.hid (Row.grownBy HR4.out hg5 (fun e => by cases e; omega))
          clear hc5 hg5 HD4 HO4 HR4
          go_wp2_with fail
          refine (c_pick c (n + 6 + 12 * ss.length + 2 + 2 + 2) 4 _ HD5.out.1 (by omega) (by omega) (by omega)).mono ?_
          rintro e w8 ⟨z8, hz8, rfl, hc8, hg8⟩
          have HD8 := Lib.hid (((HD5.out.step hc8 hg8).set (g := g) hgw 0 (.int .i64 y5)).set (g := g) hgw (0 + 1) (.int .i64 (1 + z8)))
          have HO8 := Lib.hid (((HO5.out.stepC hcw hg8).setO (g := g) hvg 0 (.int .i64 y5)).setO (g := g) hvg (0 + 1) (.int .i64 (1 + z8)))
          have R8 := Row.grownBy HR5.out hg8 (fun e => by cases e; omega)
          have b0 : w8.cell? ⟨g, 0, none⟩ = some (.int .i64 (-1)) := R8.cell 0
          have b1 : w8.cell? ⟨g, 0 + 1, none⟩ = some (.int .i64 (1 + x3)) := R8.cell 1
          have f0 : w8.frozen? ⟨g, 0, none⟩ = false := R8.frozen 0
          have f1 : w8.frozen? ⟨g, 0 + 1, none⟩ = false := R8.frozen 1
          have HR8 : Hid (Row ((w8.setCell ⟨g, 0, none⟩ (.int .i64 y5)).setCell ⟨g, 0 + 1, none⟩ (.int .i64 (1 + z8))) g 33 (cr (y5, 1 + z8))) := (R8.set 0 (.int .i64 y5)).set 1 (.int .i64 (1 + z8))
          clear hc8 hg8 R8 HD5 HO5 HR5
          go_wp2_with fail
          refine (c_one c (n + 6 + 12 * ss.length + 2 + 2 + 2 + 2) 20 _ HD8.out.1 (by omega) (by omega) (by omega)).mono ?_
          rintro e w6 ⟨b6, rfl, hc6, hg6⟩
          have HD6 := Lib.hid (HD8.out.step hc6 hg6)
          have HO6 := Lib.hid (HO8.out.stepC hcw hg6)
          have HR6 := Lib.hid (Row.grownBy HR8.out hg6 (fun e => by cases e; omega))
          clear hc6 hg6
          cases b6 with
          | false =>
            have a0 : w6.cell? ⟨g, 0, none⟩ = some (.int .i64 (y5)) := HR6.out.cell 0
            have a1 : w6.cell? ⟨g, 0 + 1, none⟩ = some (.int .i64 (1 + z8)) := HR6.out.cell 1
            have hb9 : w.heap.size ≤ w6.heap.size := HD6.out.2.1.size
            go_wp2_with (first
              | (at_builtin; refine wl_appR (w := w6) rfl _ _ rfl w.heap.size u3 ss (y5) (1 + z8) rfl HO6.out rfl (by omega) hb9 ?_; intro v9 w9 hown9 hg9 _; go_frame)
              | go_in)
            have D9 := (HD6.out.alloc (.cells #[.int .i64 (y5), .int .i64 (1 + z8)] 33)).app hg9 (fun k hk => (HU.out k hk).1)
            go_roundw
            case rel => exact ⟨ss ++ [(y5, 1 + z8)], j - 1, by go_num, by simp; omega, HSM.out.snoc (by omega) (by omega), hown9, D9.mono (by simp; omega)⟩
            case measure => simp [intOf]; omega
          | true =>
            have hb6 : w.heap.size ≤ w6.heap.size := HD6.out.2.1.size
            have hg6' := HR6.out.lt
            go_wp2_with fail
            refine (c_among c (n + 6 + 12 * ss.length + 2 + 2 + 2 + 2 + 2) _ [-1, 0, 32, 33] (-1) 33 _ (HD6.out.alloc _).1 (by omega) (own_ints4 w6 (c + 1) (by omega)) (by simp) (by simp) (by intro z hz; simp at hz; omega)).mono ?_
            rintro e w7 ⟨q, hq, rfl, hc7, hg7⟩
            have HD7 := Lib.hid (((HD6.out.alloc (.cells #[.int .i64 (-1), .int .i64 0, .int .i64 32, .int .i64 33] 3)).step hc7 hg7).set (g := g) hgw (0 + 1) (.int .i64 q))
            have HO7 := Lib.hid (((HO6.out.below (below1 w6 (.cells #[.int .i64 (-1), .int .i64 0, .int .i64 32, .int .i64 33] 3))).stepC hcw hg7).setO (g := g) hvg (0 + 1) (.int .i64 q))
            have R7 := Row.grownBy (Row.alloc HR6.out (.cells #[.int .i64 (-1), .int .i64 0, .int .i64 32, .int .i64 33] 3)) hg7 (fun e => by cases e; omega)
            have b0 : w7.cell? ⟨g, 0, none⟩ = some (.int .i64 (y5)) := R7.cell 0
            have b1 : w7.cell? ⟨g, 0 + 1, none⟩ = some (.int .i64 (1 + z8)) := R7.cell 1
            have f1 : w7.frozen? ⟨g, 0 + 1, none⟩ = false := R7.frozen 1
            have HR7 : Hid (Row (w7.setCell ⟨g, 0 + 1, none⟩ (.int .i64 q)) g 33 (cr (y5, q))) := R7.set 1 (.int .i64 q)
            clear hc7 hg7 R7
            have a0 : (w7.setCell ⟨g, 0 + 1, none⟩ (.int .i64 q)).cell? ⟨g, 0, none⟩ = some (.int .i64 (y5)) := HR7.out.cell 0
            have a1 : (w7.setCell ⟨g, 0 + 1, none⟩ (.int .i64 q)).cell? ⟨g, 0 + 1, none⟩ = some (.int .i64 (q)) := HR7.out.cell 1
            have hb9 : w.heap.size ≤ (w7.setCell ⟨g, 0 + 1, none⟩ (.int .i64 q)).heap.size := HD7.out.2.1.size
            go_wp2_with (first
              | (at_builtin; refine wl_appRg (w := (w7.setCell ⟨g, 0 + 1, none⟩ (.int .i64 q))) rfl _ _ rfl w.heap.size w7.heap.size (by simp [World.setCell]) u3 ss (y5) (q) rfl HO7.out rfl (by omega) hb9 ?_; intro v9 w9 hown9 hg9 _; go_frame)
              | go_in)
            have D9 := (HD7.out.alloc (.cells #[.int .i64 (y5), .int .i64 (q)] 33)).app hg9 (fun k hk => (HU.out k hk).1)
            go_roundw
            case rel => exact ⟨ss ++ [(y5, q)], j - 1, by go_num, by simp; omega, HSM.out.snoc (by omega) (by omega), hown9, D9.mono (by simp; omega)⟩
            case measure => simp [intOf]; omega
      · obtain rfl : j = 0 := by omega
        go_wp2
        go_ret
        exact ⟨_, ss, rfl, by omega, HSM.out, hown, HD0.out.1.mono (by omega), HD0.out.2.1⟩
  | true =>
    go_wp2_with fail
    refine (c_pick c (n + 4) 3 _ HD2.out.1 (by omega) (by omega) (by omega)).mono ?_
    rintro e w3 ⟨y, hy, rfl, hc3, hg3⟩
    have HDL := Lib.hid (HD2.out.step hc3 hg3)
    obtain ⟨Y, rfl⟩ := Int.eq_ofNat_of_zero_le hy.1
    have hN : 39 + Y ≤ 41 := by omega
    clear hc3 hg3 hy
    go_wp2
    go_loopw [3, 4] (fun l x wr => ∃ (ss : List R) (j : Nat), x = .int .i64 j ∧ ss.length + j ≤ 41 ∧ Sm ss ∧ OwnR wr w.heap.size l ss ∧ Dw w c (n + 6 + 12 * ss.length) wr) (fun _ x _ => (intOf x).toNat)
    case atStart => exact ⟨[], (39 + Y), by go_num, by simp; omega, Sm.nil, OwnR.nil _ _, HDL.out⟩
    case round =>
      obtain ⟨ss, j, rfl, hlen, hsm, hown, hDr⟩ := hrel
      have HD0 := Lib.hid hDr; have HO0 := Lib.hid hown; have HSM := Lib.hid hsm
      have HU := Lib.hid (World.ownsRow.lt hown)
      have hws : w.heap.size ≤ wr.heap.size := hDr.2.1.size
      clear hDr hsm
      by_cases hj : 0 < j
      · clear hown
        go_wp2_with fail
        refine (c_pick c (n + 6 + 12 * ss.length) 8 _ HD0.out.1 (by omega) (by omega) (by omega)).mono ?_
        rintro e w3 ⟨x3, hx3, rfl, hc3, hg3⟩
        have hs3 := hg3.size
        have HD3 := Lib.hid ((HD0.out.step hc3 hg3).alloc (.cells (cr (-1, 1 + x3)) 33))
        have HO3 := Lib.hid ((HO0.out.stepC hcw hg3).below (below1 w3 (.cells (cr (-1, 1 + x3)) 33)))
        have HR3 := Lib.hid (Row.new w3 33 (cr (-1, 1 + x3)))
        have hgw : w.heap.size ≤ w3.heap.size := by omega
        clear hc3 hg3
        go_wp2_with fail
        refine (c_one c (n + 6 + 12 * ss.length + 2) 3 _ HD3.out.1 (by omega) (by omega) (by omega)).mono ?_
        rintro e w4 ⟨b4, rfl, hc4, hg4⟩
        have HD4 := Lib.hid (HD3.out.step hc4 hg4)
        have HO4 := Lib.hid (HO3.out.stepC hcw hg4)
        have HR4 := Lib.hid (Row.grownBy HR3.out hg4 (fun e => by cases e; omega))
        have hvg : Value.ownBlock u3 ≠ some w3.heap.size := fun e => by have := (HU.out _ e).2; omega
        clear hc4 hg4 HD3 HO3 HR3 HD0 HO0
        generalize w3.heap.size = g at *
        cases b4 with
        | false =>
          go_wp2_with fail
          refine (c_one c (n + 6 + 12 * ss.length + 2 + 2) 20 _ HD4.out.1 (by omega) (by omega) (by omega)).mono ?_
          rintro e w6 ⟨b6, rfl, hc6, hg6⟩
          have HD6 := Lib.hid (HD4.out.step hc6 hg6)
          have HO6 := Lib.hid (HO4.out.stepC hcw hg6)
          have HR6 := Lib.hid (Row.grownBy HR4.out hg6 (fun e => by cases e; omega))
          clear hc6 hg6
          cases b6 with
          | false =>
            have a0 : w6.cell? ⟨g, 0, none⟩ = some (.int .i64 (-1)) := HR6.out.cell 0
            have a1 : w6.cell? ⟨g, 0 + 1, none⟩ = some (.int .i64 (1 + x3)) := HR6.out.cell 1
            have hb9 : w.heap.size ≤ w6.heap.size := HD6.out.2.1.size
            go_wp2_with (first
              | (at_builtin; refine wl_appR (w := w6) rfl _ _ rfl w.heap.size u3 ss (-1) (1 + x3) rfl HO6.out rfl (by omega) hb9 ?_; intro v9 w9 hown9 hg9 _; go_frame)
              | go_in)
            have D9 := (HD6.out.alloc (.cells #[.int .i64 (-1), .int .i64 (1 + x3)] 33)).app hg9 (fun k hk => (HU.out k hk).1)
            go_roundw
            case rel => exact ⟨ss ++ [(-1, 1 + x3)], j - 1, by go_num, by simp; omega, HSM.out.snoc (by omega) (by omega), hown9, D9.mono (by simp; omega)⟩
            case measure => simp [intOf]; omega
          | true =>
            have hb6 : w.heap.size ≤ w6.heap.size := HD6.out.2.1.size
            have hg6' := HR6.out.lt
            go_wp2_with fail
            refine (c_among c (n + 6 + 12 * ss.length + 2 + 2 + 2) _ [-1, 0, 32, 33] (-1) 33 _ (HD6.out.alloc _).1 (by omega) (own_ints4 w6 (c + 1) (by omega)) (by simp) (by simp) (by intro z hz; simp at hz; omega)).mono ?_
            rintro e w7 ⟨q, hq, rfl, hc7, hg7⟩
            have HD7 := Lib.hid (((HD6.out.alloc (.cells #[.int .i64 (-1), .int .i64 0, .int .i64 32, .int .i64 33] 3)).step hc7 hg7).set (g := g) hgw (0 + 1) (.int .i64 q))
            have HO7 := Lib.hid (((HO6.out.below (below1 w6 (.cells #[.int .i64 (-1), .int .i64 0, .int .i64 32, .int .i64 33] 3))).stepC hcw hg7).setO (g := g) hvg (0 + 1) (.int .i64 q))
            have R7 := Row.grownBy (Row.alloc HR6.out (.cells #[.int .i64 (-1), .int .i64 0, .int .i64 32, .int .i64 33] 3)) hg7 (fun e => by cases e; omega)
            have b0 : w7.cell? ⟨g, 0, none⟩ = some (.int .i64 (-1)) := R7.cell 0
            have b1 : w7.cell? ⟨g, 0 + 1, none⟩ = some (.int .i64 (1 + x3)) := R7.cell 1
            have f1 : w7.frozen? ⟨g, 0 + 1, none⟩ = false := R7.frozen 1
            have HR7 : Hid (Row (w7.setCell ⟨g, 0 + 1, none⟩ (.int .i64 q)) g 33 (cr (-1, q))) := R7.set 1 (.int .i64 q)
            clear hc7 hg7 R7
            have a0 : (w7.setCell ⟨g, 0 + 1, none⟩ (.int .i64 q)).cell? ⟨g, 0, none⟩ = some (.int .i64 (-1)) := HR7.out.cell 0
            have a1 : (w7.setCell ⟨g, 0 + 1, none⟩ (.int .i64 q)).cell? ⟨g, 0 + 1, none⟩ = some (.int .i64 (q)) := HR7.out.cell 1
            have hb9 : w.heap.size ≤ (w7.setCell ⟨g, 0 + 1, none⟩ (.int .i64 q)).heap.size := HD7.out.2.1.size
            go_wp2_with (first
              | (at_builtin; refine wl_appRg (w := (w7.setCell ⟨g, 0 + 1, none⟩ (.int .i64 q))) rfl _ _ rfl w.heap.size w7.heap.size (by simp [World.setCell]) u3 ss (-1) (q) rfl HO7.out rfl (by omega) hb9 ?_; intro v9 w9 hown9 hg9 _; go_frame)
              | go_in)
            have D9 := (HD7.out.alloc (.cells #[.int .i64 (-1), .int .i64 (q)] 33)).app hg9 (fun k hk => (HU.out k hk).1)
            go_roundw
            case rel => exact ⟨ss ++ [(-1, q)], j - 1, by go_num, by simp; omega, HSM.out.snoc (by omega) (by omega), hown9, D9.mono (by simp; omega)⟩
            case measure => simp [intOf]; omega
        | true =>
          go_wp2_with fail
          refine (c_pick c (n + 6 + 12 * ss.length + 2 + 2) 16 _ HD4.out.1 (by omega) (by omega) (by omega)).mono ?_
          rintro e w5 ⟨y5, hy5, rfl, hc5, hg5⟩
          have HD5 := Lib.hid (HD4.out.step hc5 hg5)
          have HO5 := Lib.hid (HO4.out.stepC hcw hg5)
          have HR5 := Lib.hid (Row.grownBy HR4.out hg5 (fun e => by cases e; omega))
          clear hc5 hg5 HD4 HO4 HR4
          go_wp2_with fail
          refine (c_pick c (n + 6 + 12 * ss.length + 2 + 2 + 2) 4 _ HD5.out.1 (by omega) (by omega) (by omega)).mono ?_
          rintro e w8 ⟨z8, hz8, rfl, hc8, hg8⟩
          have HD8 := Lib.hid (((HD5.out.step hc8 hg8).set (g := g) hgw 0 (.int .i64 y5)).set (g := g) hgw (0 + 1) (.int .i64 (1 + z8)))
          have HO8 := Lib.hid (((HO5.out.stepC hcw hg8).setO (g := g) hvg 0 (.int .i64 y5)).setO (g := g) hvg (0 + 1) (.int .i64 (1 + z8)))
          have R8 := Row.grownBy HR5.out hg8 (fun e => by cases e; omega)
          have b0 : w8.cell? ⟨g, 0, none⟩ = some (.int .i64 (-1)) := R8.cell 0
          have b1 : w8.cell? ⟨g, 0 + 1, none⟩ = some (.int .i64 (1 + x3)) := R8.cell 1
          have f0 : w8.frozen? ⟨g, 0, none⟩ = false := R8.frozen 0
          have f1 : w8.frozen? ⟨g, 0 + 1, none⟩ = false := R8.frozen 1
          have HR8 : Hid (Row ((w8.setCell ⟨g, 0, none⟩ (.int .i64 y5)).setCell ⟨g, 0 + 1, none⟩ (.int .i64 (1 + z8))) g 33 (cr (y5, 1 + z8))) := (R8.set 0 (.int .i64 y5)).set 1 (.int .i64 (1 + z8))
          clear hc8 hg8 R8 HD5 HO5 HR5
          go_wp2_with fail
          refine (c_one c (n + 6 + 12 * ss.length + 2 + 2 + 2 + 2) 20 _ HD8.out.1 (by omega) (by omega) (by omega)).mono ?_
          rintro e w6 ⟨b6, rfl, hc6, hg6⟩
          have HD6 := Lib.hid (HD8.out.step hc6 hg6)
          have HO6 := Lib.hid (HO8.out.stepC hcw hg6)
          have HR6 := Lib.hid (Row.grownBy HR8.out hg6 (fun e => by cases e; omega))
          clear hc6 hg6
          cases b6 with
          | false =>
            have a0 : w6.cell? ⟨g, 0, none⟩ = some (.int .i64 (y5)) := HR6.out.cell 0
            have a1 : w6.cell? ⟨g, 0 + 1, none⟩ = some (.int .i64 (1 + z8)) := HR6.out.cell 1
            have hb9 : w.heap.size ≤ w6.heap.size := HD6.out.2.1.size
            go_wp2_with (first
              | (at_builtin; refine wl_appR (w := w6) rfl _ _ rfl w.heap.size u3 ss (y5) (1 + z8) rfl HO6.out rfl (by omega) hb9 ?_; intro v9 w9 hown9 hg9 _; go_frame)
              | go_in)
            have D9 := (HD6.out.alloc (.cells #[.int .i64 (y5), .int .i64 (1 + z8)] 33)).app hg9 (fun k hk => (HU.out k hk).1)
            go_roundw
            case rel => exact ⟨ss ++ [(y5, 1 + z8)], j - 1, by go_num, by simp; omega, HSM.out.snoc (by omega) (by omega), hown9, D9.mono (by simp; omega)⟩
            case measure => simp [intOf]; omega
          | true =>
            have hb6 : w.heap.size ≤ w6.heap.size := HD6.out.2.1.size
            have hg6' := HR6.out.lt
            go_wp2_with fail
            refine (c_among c (n + 6 + 12 * ss.length + 2 + 2 + 2 + 2 + 2) _ [-1, 0, 32, 33] (-1) 33 _ (HD6.out.alloc _).1 (by omega) (own_ints4 w6 (c + 1) (by omega)) (by simp) (by simp) (by intro z hz; simp at hz; omega)).mono ?_
            rintro e w7 ⟨q, hq, rfl, hc7, hg7⟩
            have HD7 := Lib.hid (((HD6.out.alloc (.cells #[.int .i64 (-1), .int .i64 0, .int .i64 32, .int .i64 33] 3)).step hc7 hg7).set (g := g) hgw (0 + 1) (.int .i64 q))
            have HO7 := Lib.hid (((HO6.out.below (below1 w6 (.cells #[.int .i64 (-1), .int .i64 0, .int .i64 32, .int .i64 33] 3))).stepC hcw hg7).setO (g := g) hvg (0 + 1) (.int .i64 q))
            have R7 := Row.grownBy (Row.alloc HR6.out (.cells #[.int .i64 (-1), .int .i64 0, .int .i64 32, .int .i64 33] 3)) hg7 (fun e => by cases e; omega)
            have b0 : w7.cell? ⟨g, 0, none⟩ = some (.int .i64 (y5)) := R7.cell 0
            have b1 : w7.cell? ⟨g, 0 + 1, none⟩ = some (.int .i64 (1 + z8)) := R7.cell 1
            have f1 : w7.frozen? ⟨g, 0 + 1, none⟩ = false := R7.frozen 1
            have HR7 : Hid (Row (w7.setCell ⟨g, 0 + 1, none⟩ (.int .i64 q)) g 33 (cr (y5, q))) := R7.set 1 (.int .i64 q)
            clear hc7 hg7 R7
            have a0 : (w7.setCell ⟨g, 0 + 1, none⟩ (.int .i64 q)).cell? ⟨g, 0, none⟩ = some (.int .i64 (y5)) := HR7.out.cell 0
            have a1 : (w7.setCell ⟨g, 0 + 1, none⟩ (.int .i64 q)).cell? ⟨g, 0 + 1, none⟩ = some (.int .i64 (q)) := HR7.out.cell 1
            have hb9 : w.heap.size ≤ (w7.setCell ⟨g, 0 + 1, none⟩ (.int .i64 q)).heap.size := HD7.out.2.1.size
            go_wp2_with (first
              | (at_builtin; refine wl_appRg (w := (w7.setCell ⟨g, 0 + 1, none⟩ (.int .i64 q))) rfl _ _ rfl w.heap.size w7.heap.size (by simp [World.setCell]) u3 ss (y5) (q) rfl HO7.out rfl (by omega) hb9 ?_; intro v9 w9 hown9 hg9 _; go_frame)
              | go_in)
            have D9 := (HD7.out.alloc (.cells #[.int .i64 (y5), .int .i64 (q)] 33)).app hg9 (fun k hk => (HU.out k hk).1)
            go_roundw
            case rel => exact ⟨ss ++ [(y5, q)], j - 1, by go_num, by simp; omega, HSM.out.snoc (by omega) (by omega), hown9, D9.mono (by simp; omega)⟩
            case measure => simp [intOf]; omega
      · obtain rfl : j = 0 := by omega
        go_wp2
        go_ret
        exact ⟨_, ss, rfl, by omega, HSM.out, hown, HD0.out.1.mono (by omega), HD0.out.2.1⟩
end Go.Proofs.Ytdiejmebodpjeaa
