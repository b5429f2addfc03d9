/- The project's spans: slots taken and freed; a sweep. -/
import Derived.Test.YtcelebblcjhpaaaDoorSw5
import Derived.Test.YtcelebblcjhpaaaDoorBd1
namespace Go.Proofs.YtcelebblcjhpaaaDoor
open Go.RowKit Pb

/-- The words of a state, stored one by one. -/
def six4 (w : World) (g : Nat) (F : Nat → Int) : World := (((((w.setCell ⟨g, 4, none⟩ (.int .u16 (F 0))).setCell ⟨g, 5, none⟩ (.int .u16 (F 1))).setCell ⟨g, 6, none⟩ (.int .u16 (F 2))).setCell ⟨g, 7, none⟩ (.int .u16 (F 3))).setCell ⟨g, 8, none⟩ (.int .u16 (F 4))).setCell ⟨g, 9, none⟩ (.int .u16 (F 5))
theorem RowT.six4 {w : World} {g : Nat} {f c z n : Int} {F0 : Nat → Int} (h : RowT w g f c z n F0) (F : Nat → Int) : RowT (six4 w g F) g f c z n F :=
  (Row.set (Row.set (Row.set (Row.set (Row.set (Row.set h 4 _) 5 _) 6 _) 7 _) 8 _) 9 _).trans rfl
theorem Row.six4 {w : World} {g g' : Nat} {T : TypeId} {cs : Array Value} (h : Row w g T cs) (hn : g ≠ g') (F : Nat → Int) : Row (six4 w g' F) g T cs :=
  Row.other (Row.other (Row.other (Row.other (Row.other (Row.other h ⟨g', 4, none⟩ hn _) ⟨g', 5, none⟩ hn _) ⟨g', 6, none⟩ hn _) ⟨g', 7, none⟩ hn _) ⟨g', 8, none⟩ hn _) ⟨g', 9, none⟩ hn _
theorem below_six4 {B g : Nat} {w0 w : World} (h : Below B w0 w) (hg : B ≤ g) (F : Nat → Int) : Below B w0 (six4 w g F) :=
  (((((h.setCell (p := ⟨g, 4, none⟩) hg _).setCell (p := ⟨g, 5, none⟩) hg _).setCell (p := ⟨g, 6, none⟩) hg _).setCell (p := ⟨g, 7, none⟩) hg _).setCell (p := ⟨g, 8, none⟩) hg _).setCell (p := ⟨g, 9, none⟩) hg _
theorem res_row_slot2 {P : Program} {fn : Func} {p q r : Tmp} {ty : TypeId} (h : fn.results = #[.cell p ty, .tmp q, .tmp r]) {tmps : Array Value} {w : World} {g : Nat} {t : TypeId} {cs : Array Value} {d : TypeDesc} {v u : Value} (hg : Row w g t cs)
    (hp : tmps.getD p undef = .pointer (some ⟨g, 0, none⟩)) (hq : tmps.getD q undef = v) (hr : tmps.getD r undef = u) (hu : P.underlying ty = some d) (hd : (match d with | .struct _ | .array _ _ => true | _ => false) = true) (hi : (P.info? ty).map (·.size) = some cs.size) :
    (results fn tmps).run P w = .ok (.tuple #[.agg cs, v, u]) w := by
  have hp' : tmps[p]?.getD undef = .pointer (some ⟨g, 0, none⟩) := by simpa using hp
  have hq' : tmps[q]?.getD undef = v := by simpa using hq
  have hr' : tmps[r]?.getD undef = u := by simpa using hr
  simp [results, h, hp', hq', hr', asAddr, run_loadVar_row w g t ty cs (0, 0) d hg hu hd hi]
theorem sok_two {f c l : Int} {zs : List Int} (h : Sok f c l zs) : ((l + 15) / 16).toNat = zs.length := by have := h.2.2.2.2.2.1; omega
theorem w16_two {x : Int} (h : W16 x) : 0 ≤ x ∧ x ≤ 65535 := h


theorem c_allSlots_eq (f c z n : Int) (G : Nat → Int) (hG : G = fun k : Nat => lowW (n - (k : Int) * 16)) (w : World) (h0 : 0 ≤ n) (h1 : n ≤ 96) : Calls Tryd.prog 47 #[ly f c z n] w fun e w' => e = .returned (a6 G) ∧ Below w.heap.size w w' := by subst hG; exact c_allSlots f c z n w h0 h1
theorem c_first_none (f : Nat → Int) (w : World) (hf : ∀ k, k < 6 → W16 (f k)) (hT : TabB w) (h : findP (bitF f) 0 96 = none) : Calls Tryd.prog 49 #[a6 f] w fun e w' => e = .returned (.tuple #[.int .i64 0, .bool false]) ∧ Below w.heap.size w w' :=
  (c_first f w hf hT).mono fun e w' ⟨he, hb⟩ => ⟨by rw [he, h]; rfl, hb⟩
theorem c_first_some (f : Nat → Int) (w : World) (hf : ∀ k, k < 6 → W16 (f k)) (hT : TabB w) (j : Nat) (h : findP (bitF f) 0 96 = some j) : Calls Tryd.prog 49 #[a6 f] w fun e w' => e = .returned (.tuple #[.int .i64 (j : Int), .bool true]) ∧ Below w.heap.size w w' :=
  (c_first f w hf hT).mono fun e w' ⟨he, hb⟩ => ⟨by rw [he, h]; rfl, hb⟩
set_option maxHeartbeats 1600000 in
theorem c_iTakeSlot_bad (f c l : Int) (v : Value) (zs : List Int) (w : World) (hT : TabW w) (hv : IntsAt w v zs) (hS : ¬ Sok f c l zs) : Calls Tryd.prog 13 #[sp f c l v] w fun e w' => e = .returned (.tuple #[sp 0 0 0 (.slice none 0 0), .int .i64 0, .bool false]) ∧ Below w.heap.size w w' := by
  have HB := Lib.hid (((Below.refl w.heap.size w).alloc (Nat.le_refl _) (.cells (c4 f c l v) 27)).alloc (by simp) (.cells (c4 0 0 0 (.slice none 0 0)) 27))
  have s0 : RowS ((w.alloc (.cells (c4 f c l v) 27)).alloc (.cells (c4 0 0 0 (.slice none 0 0)) 27)) (w.heap.size + 1) 0 0 0 (.slice none 0 0) := Row.new1 w _ _ _
  have hT1 := Lib.hid (hT.below HB.out hT.pos)
  have hv1 := Lib.hid (hv.below HB.out)
  clear hT hv
  go_enter Tryd.func13, Tryd.ntmps13
  go_wp2_with fail
  refine (c_stateOf_no f c l v zs _ hT1.out hv1.out hS).mono ?_
  rintro e w1 ⟨rfl, hb1⟩
  have B0 := bst HB.out hb1 HB.out.size
  have B1 := Lib.hid (B0.alloc B0.size (.cells (c10 0 0 0 0 fun _ => 0) 71))
  have s1 := (Row.below s0 hb1).alloc (.cells (c10 0 0 0 0 fun _ => 0) 71)
  clear hb1 B0 hT1 hv1 s0
  go_wp2_with (refine wl_storeS rfl _ _ rfl (w.heap.size + 1) 0 0 0 (.slice none 0 0) _ _ _ _ s1 rfl rfl rfl ?_)
  exact bodyPost_ret (res_row_slot2 Tryd.results13 (Row.put s1 (c4 0 0 0 (.slice none 0 0))) rfl rfl rfl Tryd.underlying27 rfl info_span) rfl ⟨rfl, below_setRow B1.out (by omega) _⟩

set_option maxHeartbeats 3200000 in
theorem c_iTakeSlot_full (f c l : Int) (v : Value) (zs : List Int) (w : World) (hT : TabW w) (hTB : TabB w) (hv : IntsAt w v zs) (hS : Sok f c l zs) (L : Nat) (hL : l = L) (hfp : findP (fun k => !bitL zs k) 0 L = none) : Calls Tryd.prog 13 #[sp f c l v] w fun e w' => e = .returned (.tuple #[sp 0 0 0 (.slice none 0 0), .int .i64 0, .bool false]) ∧ Below w.heap.size w w' := by
  have HTB := Lib.hid hTB; clear hTB
  have HB := Lib.hid (((Below.refl w.heap.size w).alloc (Nat.le_refl _) (.cells (c4 f c l v) 27)).alloc (by simp) (.cells (c4 0 0 0 (.slice none 0 0)) 27))
  have s0 : RowS ((w.alloc (.cells (c4 f c l v) 27)).alloc (.cells (c4 0 0 0 (.slice none 0 0)) 27)) (w.heap.size + 1) 0 0 0 (.slice none 0 0) := Row.new1 w _ _ _
  have hT1 := Lib.hid (hT.below HB.out hT.pos)
  have hv1 := Lib.hid (hv.below HB.out)
  clear hT hv
  obtain ⟨F, hF⟩ : ∃ F : Nat → Int, F = fun k => zs.getD k 0 := ⟨_, rfl⟩
  have HF := Lib.hid hF
  have hFW : Hid (∀ k, W16 (F k)) := fun k => by rw [hF]; exact hS.2.2.2.w k
  clear hF
  have hSB := Lib.hid hS.2.2.2
  have hll := hS.long
  have HS := Lib.hid hS
  generalize hz : Pl.szOf c = z
  have HZ := Lib.hid hz
  have HLEN := Lib.hid (sok_two hS)
  clear hz hS
  obtain ⟨A, hA⟩ : ∃ A : Nat → Int, A = fun k : Nat => lowW (l - (k : Int) * 16) := ⟨_, rfl⟩
  obtain ⟨D, hD⟩ : ∃ D : Nat → Int, D = fun k => bits .andNot .u16 (A k) (F k) := ⟨_, rfl⟩
  have HA := Lib.hid hA; have HD := Lib.hid hD
  have DW : Hid (∀ k, k < 6 → W16 (D k)) := fun k _ => by rw [hD]; exact w_andNot _ _
  have HFN : Hid (findP (bitF D) 0 96 = none) := by
    unfold Hid
    rw [hD, hA, HF.out]
    exact (slots_eq hSB.out hL).trans hfp
  clear hA hD hfp
  clear hL
  go_enter Tryd.func13, Tryd.ntmps13
  go_wp2_with fail
  refine (c_stateOf_yes f c l v zs F HF.out _ hT1.out hv1.out HS.out).mono ?_
  rintro e w1 ⟨rfl, hb1⟩
  rw [HZ.out]
  have B0 := bst HB.out hb1 HB.out.size
  have B1 := Lib.hid (B0.alloc B0.size (.cells (c10 f c z l F) 71))
  have t1 : RowT (w1.alloc (.cells (c10 f c z l F) 71)) w1.heap.size f c z l F := Row.new w1 _ _
  have s1 := (Row.below s0 hb1).alloc (.cells (c10 f c z l F) 71)
  have hlt : w.heap.size + 1 < w1.heap.size := Row.lt (Row.below s0 hb1)
  clear hb1 B0 hT1 hv1 s0
  go_wp2_with fail
  have BD := Lib.hid (below_drew B1.out)
  generalize w1.heap.size = g at *
  generalize w1.alloc (.cells (c10 f c z l F) 71) = wa at *
  have k0 : wa.drew.cell? ⟨g, 0, none⟩ = some (.int .i64 f) := Row.cell t1 0
  have k1 : wa.drew.cell? ⟨g, 1, none⟩ = some (.int .i64 c) := Row.cell t1 1
  have k2 : wa.drew.cell? ⟨g, 2, none⟩ = some (.int .i64 z) := Row.cell t1 2
  have k3 : wa.drew.cell? ⟨g, 3, none⟩ = some (.int .i64 l) := Row.cell t1 3
  have k4 : wa.drew.cell? ⟨g, 4, none⟩ = some (.int .u16 (F 0)) := Row.cell t1 4
  have k5 : wa.drew.cell? ⟨g, 5, none⟩ = some (.int .u16 (F 1)) := Row.cell t1 5
  have k6 : wa.drew.cell? ⟨g, 6, none⟩ = some (.int .u16 (F 2)) := Row.cell t1 6
  have k7 : wa.drew.cell? ⟨g, 7, none⟩ = some (.int .u16 (F 3)) := Row.cell t1 7
  have k8 : wa.drew.cell? ⟨g, 8, none⟩ = some (.int .u16 (F 4)) := Row.cell t1 8
  have k9 : wa.drew.cell? ⟨g, 9, none⟩ = some (.int .u16 (F 5)) := Row.cell t1 9
  have SD : RowS wa.drew (w.heap.size + 1) 0 0 0 (.slice none 0 0) := s1
  go_region_held3 (fun w' => w'.cell? ⟨g, 0, none⟩ = some (.int .i64 f) ∧ w'.cell? ⟨g, 1, none⟩ = some (.int .i64 c) ∧ w'.cell? ⟨g, 2, none⟩ = some (.int .i64 z) ∧ w'.cell? ⟨g, 3, none⟩ = some (.int .i64 l) ∧ w'.cell? ⟨g, 4, none⟩ = some (.int .u16 (F 0)) ∧ w'.cell? ⟨g, 5, none⟩ = some (.int .u16 (F 1)) ∧ w'.cell? ⟨g, 6, none⟩ = some (.int .u16 (F 2)) ∧ w'.cell? ⟨g, 7, none⟩ = some (.int .u16 (F 3)) ∧ w'.cell? ⟨g, 8, none⟩ = some (.int .u16 (F 4)) ∧ w'.cell? ⟨g, 9, none⟩ = some (.int .u16 (F 5)) ∧ RowT w' g f c z l F ∧ RowS w' (w.heap.size + 1) 0 0 0 (.slice none 0 0) ∧ Below w.heap.size w w')
    (first
      | (with_reducible exact ⟨k0, k1, k2, k3, k4, k5, k6, k7, k8, k9, t1, SD, BD.out⟩)
      | (go_split_ands
         exact ⟨cellBelow hbk (by assumption), cellBelow hbk (by assumption), cellBelow hbk (by assumption), cellBelow hbk (by assumption), cellBelow hbk (by assumption), cellBelow hbk (by assumption), cellBelow hbk (by assumption), cellBelow hbk (by assumption), cellBelow hbk (by assumption), cellBelow hbk (by assumption), Row.below (by assumption) hbk, Row.below (by assumption) hbk, bst (by assumption) hbk (Below.size (by assumption))⟩)
      | (go_split_ands; refine ⟨?_, ?_, ?_, ?_, ?_, ?_, ?_, ?_, ?_, ?_, ?_, ?_, ?_⟩ <;> assumption))
    (first
      | (go_at_call 47; refine (c_allSlots_eq f c z l A HA.out _ (by omega) (by omega)).mono ?_; rintro e w2 ⟨rfl, hbk⟩)
      | (go_at_call 48; refine (c_without_eq A F D HD.out _).mono ?_; rintro e w3 ⟨rfl, hbk⟩)
      | (go_at_call 49; go_split_ands; refine (c_first_none D _ DW.out (HTB.out.below (by assumption)) HFN.out).mono ?_; rintro e w4 ⟨rfl, hbk⟩))
  rename_i hfin
  obtain ⟨_, _, _, _, _, _, _, _, _, _, t4, s4, b4⟩ := hfin
  have B4 := Lib.hid b4
  clear k0 k1 k2 k3 k4 k5 k6 k7 k8 k9 t1 SD BD b4 B1 s1
  go_wp2_with (refine wl_storeS rfl _ _ rfl (w.heap.size + 1) 0 0 0 (.slice none 0 0) _ _ _ _ s4 rfl rfl rfl ?_)
  exact bodyPost_ret (res_row_slot2 Tryd.results13 (Row.put s4 (c4 0 0 0 (.slice none 0 0))) rfl rfl rfl Tryd.underlying27 rfl info_span) rfl ⟨rfl, below_setRow B4.out (by omega) _⟩

set_option maxHeartbeats 6400000 in
theorem c_iTakeSlot_yes (f c l : Int) (v : Value) (zs : List Int) (w : World) (hT : TabW w) (hTB : TabB w) (hv : IntsAt w v zs) (hS : Sok f c l zs) (L : Nat) (hL : l = L) (p : Nat) (on : Bool) (hon : on = true) (hfp : findP (fun k => !bitL zs k) 0 L = some p) : Calls Tryd.prog 13 #[sp f c l v] w fun e w' => ∃ v', e = .returned (.tuple #[sp f c l v', .int .i64 p, .bool true]) ∧ Own w' w.heap.size v' (setBit zs p on) ∧ Below w.heap.size w w' := by
  have HTB := Lib.hid hTB; clear hTB
  have HB := Lib.hid (((Below.refl w.heap.size w).alloc (Nat.le_refl _) (.cells (c4 f c l v) 27)).alloc (by simp) (.cells (c4 0 0 0 (.slice none 0 0)) 27))
  have s0 : RowS ((w.alloc (.cells (c4 f c l v) 27)).alloc (.cells (c4 0 0 0 (.slice none 0 0)) 27)) (w.heap.size + 1) 0 0 0 (.slice none 0 0) := Row.new1 w _ _ _
  have hT1 := Lib.hid (hT.below HB.out hT.pos)
  have hv1 := Lib.hid (hv.below HB.out)
  clear hT hv
  obtain ⟨F, hF⟩ : ∃ F : Nat → Int, F = fun k => zs.getD k 0 := ⟨_, rfl⟩
  have HF := Lib.hid hF
  have hFW : Hid (∀ k, W16 (F k)) := fun k => by rw [hF]; exact hS.2.2.2.w k
  clear hF
  have hSB := Lib.hid hS.2.2.2
  have hll := hS.long
  have HS := Lib.hid hS
  generalize hz : Pl.szOf c = z
  have HZ := Lib.hid hz
  have HLEN := Lib.hid (sok_two hS)
  clear hz hS
  obtain ⟨A, hA⟩ : ∃ A : Nat → Int, A = fun k : Nat => lowW (l - (k : Int) * 16) := ⟨_, rfl⟩
  obtain ⟨D, hD⟩ : ∃ D : Nat → Int, D = fun k => bits .andNot .u16 (A k) (F k) := ⟨_, rfl⟩
  have HA := Lib.hid hA; have HD := Lib.hid hD
  have DW : Hid (∀ k, k < 6 → W16 (D k)) := fun k _ => by rw [hD]; exact w_andNot _ _
  have hp : (p : Int) < l := by have := (findP_some hfp).2.1; omega
  have HFN : Hid (findP (bitF D) 0 96 = some p) := by
    unfold Hid
    rw [hD, hA, HF.out]
    exact (slots_eq hSB.out hL).trans hfp
  clear hA hD hfp
  obtain ⟨G, hG⟩ : ∃ G : Nat → Int, G = fun k => bits .or .u16 (F k) (runW (p : Int) ((p : Int) + 1) k) := ⟨_, rfl⟩
  have HGD := Lib.hid hG
  have HGB : Hid (∀ k, k < 6 → 0 ≤ G k ∧ G k ≤ 65535) := fun k _ => by rw [hG]; exact w16_two (w_or _ _)
  have HG : Hid (wl zs.length G = setBit zs p on) := by
    unfold Hid
    rw [hG, HF.out, hon]
    exact take_eq hSB.out hp
  clear hG hon
  clear hL
  go_enter Tryd.func13, Tryd.ntmps13
  go_wp2_with fail
  refine (c_stateOf_yes f c l v zs F HF.out _ hT1.out hv1.out HS.out).mono ?_
  rintro e w1 ⟨rfl, hb1⟩
  rw [HZ.out]
  have B0 := bst HB.out hb1 HB.out.size
  have B1 := Lib.hid (B0.alloc B0.size (.cells (c10 f c z l F) 71))
  have t1 : RowT (w1.alloc (.cells (c10 f c z l F) 71)) w1.heap.size f c z l F := Row.new w1 _ _
  have s1 := (Row.below s0 hb1).alloc (.cells (c10 f c z l F) 71)
  have hlt : w.heap.size + 1 < w1.heap.size := Row.lt (Row.below s0 hb1)
  clear hb1 B0 hT1 hv1 s0
  go_wp2_with fail
  have BD := Lib.hid (below_drew B1.out)
  generalize w1.heap.size = g at *
  generalize w1.alloc (.cells (c10 f c z l F) 71) = wa at *
  have k0 : wa.drew.cell? ⟨g, 0, none⟩ = some (.int .i64 f) := Row.cell t1 0
  have k1 : wa.drew.cell? ⟨g, 1, none⟩ = some (.int .i64 c) := Row.cell t1 1
  have k2 : wa.drew.cell? ⟨g, 2, none⟩ = some (.int .i64 z) := Row.cell t1 2
  have k3 : wa.drew.cell? ⟨g, 3, none⟩ = some (.int .i64 l) := Row.cell t1 3
  have k4 : wa.drew.cell? ⟨g, 4, none⟩ = some (.int .u16 (F 0)) := Row.cell t1 4
  have k5 : wa.drew.cell? ⟨g, 5, none⟩ = some (.int .u16 (F 1)) := Row.cell t1 5
  have k6 : wa.drew.cell? ⟨g, 6, none⟩ = some (.int .u16 (F 2)) := Row.cell t1 6
  have k7 : wa.drew.cell? ⟨g, 7, none⟩ = some (.int .u16 (F 3)) := Row.cell t1 7
  have k8 : wa.drew.cell? ⟨g, 8, none⟩ = some (.int .u16 (F 4)) := Row.cell t1 8
  have k9 : wa.drew.cell? ⟨g, 9, none⟩ = some (.int .u16 (F 5)) := Row.cell t1 9
  have SD : RowS wa.drew (w.heap.size + 1) 0 0 0 (.slice none 0 0) := s1
  go_region_held3 (fun w' => w'.cell? ⟨g, 0, none⟩ = some (.int .i64 f) ∧ w'.cell? ⟨g, 1, none⟩ = some (.int .i64 c) ∧ w'.cell? ⟨g, 2, none⟩ = some (.int .i64 z) ∧ w'.cell? ⟨g, 3, none⟩ = some (.int .i64 l) ∧ w'.cell? ⟨g, 4, none⟩ = some (.int .u16 (F 0)) ∧ w'.cell? ⟨g, 5, none⟩ = some (.int .u16 (F 1)) ∧ w'.cell? ⟨g, 6, none⟩ = some (.int .u16 (F 2)) ∧ w'.cell? ⟨g, 7, none⟩ = some (.int .u16 (F 3)) ∧ w'.cell? ⟨g, 8, none⟩ = some (.int .u16 (F 4)) ∧ w'.cell? ⟨g, 9, none⟩ = some (.int .u16 (F 5)) ∧ RowT w' g f c z l F ∧ RowS w' (w.heap.size + 1) 0 0 0 (.slice none 0 0) ∧ Below w.heap.size w w')
    (first
      | (with_reducible exact ⟨k0, k1, k2, k3, k4, k5, k6, k7, k8, k9, t1, SD, BD.out⟩)
      | (go_split_ands
         exact ⟨cellBelow hbk (by assumption), cellBelow hbk (by assumption), cellBelow hbk (by assumption), cellBelow hbk (by assumption), cellBelow hbk (by assumption), cellBelow hbk (by assumption), cellBelow hbk (by assumption), cellBelow hbk (by assumption), cellBelow hbk (by assumption), cellBelow hbk (by assumption), Row.below (by assumption) hbk, Row.below (by assumption) hbk, bst (by assumption) hbk (Below.size (by assumption))⟩)
      | (go_split_ands; refine ⟨?_, ?_, ?_, ?_, ?_, ?_, ?_, ?_, ?_, ?_, ?_, ?_, ?_⟩ <;> assumption))
    (first
      | (go_at_call 47; refine (c_allSlots_eq f c z l A HA.out _ (by omega) (by omega)).mono ?_; rintro e w2 ⟨rfl, hbk⟩)
      | (go_at_call 48; refine (c_without_eq A F D HD.out _).mono ?_; rintro e w3 ⟨rfl, hbk⟩)
      | (go_at_call 49; go_split_ands; refine (c_first_some D _ DW.out (HTB.out.below (by assumption)) p HFN.out).mono ?_; rintro e w4 ⟨rfl, hbk⟩))
  rename_i hfin
  obtain ⟨_, _, _, _, _, _, _, _, _, _, t4, s4, b4⟩ := hfin
  have B4 := Lib.hid b4
  clear k0 k1 k2 k3 k4 k5 k6 k7 k8 k9 t1 SD BD b4 B1 s1
  have TD : RowT w4.drew g f c z l F := t4
  have SD : RowS w4.drew (w.heap.size + 1) 0 0 0 (.slice none 0 0) := s4
  have LD : Below w.heap.size w w4.drew := below_drew B4.out
  have p0 : w4.drew.cell? ⟨g, 4, none⟩ = some (.int .u16 (F 0)) := RowT.cw t4 (k := 0) (by omega)
  have p1 : w4.drew.cell? ⟨g, 5, none⟩ = some (.int .u16 (F 1)) := RowT.cw t4 (k := 1) (by omega)
  have p2 : w4.drew.cell? ⟨g, 6, none⟩ = some (.int .u16 (F 2)) := RowT.cw t4 (k := 2) (by omega)
  have p3 : w4.drew.cell? ⟨g, 7, none⟩ = some (.int .u16 (F 3)) := RowT.cw t4 (k := 3) (by omega)
  have p4 : w4.drew.cell? ⟨g, 8, none⟩ = some (.int .u16 (F 4)) := RowT.cw t4 (k := 4) (by omega)
  have p5 : w4.drew.cell? ⟨g, 9, none⟩ = some (.int .u16 (F 5)) := RowT.cw t4 (k := 5) (by omega)
  go_wp2_with fail
  go_region_with (first
    | (go_at_call 51; refine (c_slotBit (p : Int) _ (by omega) (by omega)).mono ?_; rintro e w7 ⟨rfl, hbk⟩; have TT : RowT w7 g f c z l F := Row.below (by assumption) hbk; have SS : RowS w7 (w.heap.size + 1) 0 0 0 (.slice none 0 0) := Row.below (by assumption) hbk; have LL : Below w.heap.size w w7 := bst (by assumption) hbk (Below.size (by assumption)); have p0 := RowT.cw TT (k := 0) (by omega); have p1 := RowT.cw TT (k := 1) (by omega); have p2 := RowT.cw TT (k := 2) (by omega); have p3 := RowT.cw TT (k := 3) (by omega); have p4 := RowT.cw TT (k := 4) (by omega); have p5 := RowT.cw TT (k := 5) (by omega); have z0 := Row.frozen TT 4;  have z1 := Row.frozen TT 5;  have z2 := Row.frozen TT 6;  have z3 := Row.frozen TT 7;  have z4 := Row.frozen TT 8;  have z5 := Row.frozen TT 9; clear hbk)
    | (go_at_call 50; refine (c_with_eq F (runW (p : Int) ((p : Int) + 1)) G HGD.out _).mono ?_; rintro e w8 ⟨rfl, hbk⟩; have TT : RowT w8 g f c z l F := Row.below (by assumption) hbk; have SS : RowS w8 (w.heap.size + 1) 0 0 0 (.slice none 0 0) := Row.below (by assumption) hbk; have LL : Below w.heap.size w w8 := bst (by assumption) hbk (Below.size (by assumption)); have p0 := RowT.cw TT (k := 0) (by omega); have p1 := RowT.cw TT (k := 1) (by omega); have p2 := RowT.cw TT (k := 2) (by omega); have p3 := RowT.cw TT (k := 3) (by omega); have p4 := RowT.cw TT (k := 4) (by omega); have p5 := RowT.cw TT (k := 5) (by omega); have z0 := Row.frozen TT 4;  have z1 := Row.frozen TT 5;  have z2 := Row.frozen TT 6;  have z3 := Row.frozen TT 7;  have z4 := Row.frozen TT 8;  have z5 := Row.frozen TT 9; clear hbk))
  all_goals
    have t5 := RowT.six4 TT G
    have s5 := Row.six4 SS (show w.heap.size + 1 ≠ g by omega) G
    have B5 := Lib.hid (below_six4 LL (show w.heap.size ≤ g by omega) G)
    change Exit.then _ _ Exit.normal _ (six4 w8 g G)
    generalize six4 w8 g G = w5 at *
    clear p0 z0 p1 z1 p2 z2 p3 z3 p4 z4 p5 z5 TT SS LL TD SD LD t4 s4 B4
    go_wp2_with (refine wl_loadT rfl _ rfl g f c z l G t5 rfl ?_)
    refine (c_span f c z l G _ (by omega) (by omega) HGB.out).mono ?_
    rintro e w6 ⟨v6, rfl, ho, hb6⟩
    rw [HLEN.out, HG.out] at ho
    have B6 := Lib.hid (bst B5.out hb6 B5.out.size)
    have s6 := Row.below s5 hb6
    have HO := Lib.hid (ho.mono B5.out.size)
    obtain ⟨vg, vc, hvs, _⟩ := ho.shape
    clear ho hb6 t5 s5 B5
    subst hvs
    have HNE := Lib.hid (own_row_ne' HO.out s6)
    generalize hnr : (setBit zs p on).length = nr at *
    clear hnr
    go_wp2_with (refine wl_storeS rfl _ _ rfl (w.heap.size + 1) f c l (.slice vg nr vc) _ _ _ _ s6 rfl rfl rfl ?_)
    exact bodyPost_ret (res_row_slot2 Tryd.results13 (Row.put s6 (c4 f c l (.slice vg nr vc))) rfl rfl rfl Tryd.underlying27 rfl info_span) rfl ⟨_, rfl, Own.put HO.out _ _ HNE.out, below_setRow B6.out (by omega) _⟩


set_option maxHeartbeats 1600000 in
theorem c_iFreeSlot_bad (f c l : Int) (v : Value) (zs : List Int) (s : Int) (w : World) (hT : TabW w) (hv : IntsAt w v zs) (hS : ¬ Sok f c l zs) : Calls Tryd.prog 20 #[sp f c l v, .int .i64 s] w fun e w' => e = .returned (.tuple #[sp 0 0 0 (.slice none 0 0), .bool false]) ∧ Below w.heap.size w w' := by
  have HB := Lib.hid (((Below.refl w.heap.size w).alloc (Nat.le_refl _) (.cells (c4 f c l v) 27)).alloc (by simp) (.cells (c4 0 0 0 (.slice none 0 0)) 27))
  have s0 : RowS ((w.alloc (.cells (c4 f c l v) 27)).alloc (.cells (c4 0 0 0 (.slice none 0 0)) 27)) (w.heap.size + 1) 0 0 0 (.slice none 0 0) := Row.new1 w _ _ _
  have hT1 := Lib.hid (hT.below HB.out hT.pos)
  have hv1 := Lib.hid (hv.below HB.out)
  clear hT hv
  go_enter Tryd.func20, Tryd.ntmps20
  go_wp2_with fail
  refine (c_stateOf_no f c l v zs _ hT1.out hv1.out hS).mono ?_
  rintro e w1 ⟨rfl, hb1⟩
  have B0 := bst HB.out hb1 HB.out.size
  have B1 := Lib.hid (B0.alloc B0.size (.cells (c10 0 0 0 0 fun _ => 0) 71))
  have s1 := (Row.below s0 hb1).alloc (.cells (c10 0 0 0 0 fun _ => 0) 71)
  clear hb1 B0 hT1 hv1 s0
  go_wp2_with (refine wl_storeS rfl _ _ rfl (w.heap.size + 1) 0 0 0 (.slice none 0 0) _ _ _ _ s1 rfl rfl rfl ?_)
  exact bodyPost_ret (res_row_slot Tryd.results20 (Row.put s1 (c4 0 0 0 (.slice none 0 0))) rfl rfl Tryd.underlying27 rfl info_span) rfl ⟨rfl, below_setRow B1.out (by omega) _⟩

set_option maxHeartbeats 1600000 in
theorem c_iFreeSlot_out (f c l : Int) (v : Value) (zs : List Int) (s : Int) (w : World) (hT : TabW w) (hv : IntsAt w v zs) (hS : Sok f c l zs) (hs : ¬ (0 ≤ s ∧ s < l)) : Calls Tryd.prog 20 #[sp f c l v, .int .i64 s] w fun e w' => e = .returned (.tuple #[sp 0 0 0 (.slice none 0 0), .bool false]) ∧ Below w.heap.size w w' := by
  have HB := Lib.hid (((Below.refl w.heap.size w).alloc (Nat.le_refl _) (.cells (c4 f c l v) 27)).alloc (by simp) (.cells (c4 0 0 0 (.slice none 0 0)) 27))
  have s0 : RowS ((w.alloc (.cells (c4 f c l v) 27)).alloc (.cells (c4 0 0 0 (.slice none 0 0)) 27)) (w.heap.size + 1) 0 0 0 (.slice none 0 0) := Row.new1 w _ _ _
  have hT1 := Lib.hid (hT.below HB.out hT.pos)
  have hv1 := Lib.hid (hv.below HB.out)
  clear hT hv
  obtain ⟨F, hF⟩ : ∃ F : Nat → Int, F = fun k => zs.getD k 0 := ⟨_, rfl⟩
  have HF := Lib.hid hF
  have hFW : Hid (∀ k, W16 (F k)) := fun k => by rw [hF]; exact hS.2.2.2.w k
  clear hF
  have hSB := Lib.hid hS.2.2.2
  have hll := hS.long
  have HS := Lib.hid hS
  generalize hz : Pl.szOf c = z
  have HZ := Lib.hid hz
  have HLEN := Lib.hid (sok_two hS)
  clear hz hS
  have HH := Lib.hid hs; clear hs
  go_enter Tryd.func20, Tryd.ntmps20
  go_wp2_with fail
  refine (c_stateOf_yes f c l v zs F HF.out _ hT1.out hv1.out HS.out).mono ?_
  rintro e w1 ⟨rfl, hb1⟩
  rw [HZ.out]
  have B0 := bst HB.out hb1 HB.out.size
  have B1 := Lib.hid (B0.alloc B0.size (.cells (c10 f c z l F) 71))
  have t1 : RowT (w1.alloc (.cells (c10 f c z l F) 71)) w1.heap.size f c z l F := Row.new w1 _ _
  have s1 := (Row.below s0 hb1).alloc (.cells (c10 f c z l F) 71)
  have hlt : w.heap.size + 1 < w1.heap.size := Row.lt (Row.below s0 hb1)
  clear hb1 B0 hT1 hv1 s0
  go_wp2_with fail
  refine (c_isInUse_out f c z l F s HH.out _).mono ?_
  rintro e w2 ⟨rfl, hb2⟩
  skip
  have B2 := Lib.hid (bst B1.out hb2 B1.out.size)
  have s2 := Row.below s1 hb2
  clear hb2 t1 s1
  go_wp2_with (refine wl_storeS rfl _ _ rfl (w.heap.size + 1) 0 0 0 (.slice none 0 0) _ _ _ _ s2 rfl rfl rfl ?_)
  exact bodyPost_ret (res_row_slot Tryd.results20 (Row.put s2 (c4 0 0 0 (.slice none 0 0))) rfl rfl Tryd.underlying27 rfl info_span) rfl ⟨rfl, below_setRow B2.out (by omega) _⟩

set_option maxHeartbeats 1600000 in
theorem c_iFreeSlot_unused (f c l : Int) (v : Value) (zs : List Int) (s : Int) (w : World) (hT : TabW w) (hv : IntsAt w v zs) (hS : Sok f c l zs) (hs0 : 0 ≤ s) (hs1 : s < l) (hu : bitL zs s.toNat = false) : Calls Tryd.prog 20 #[sp f c l v, .int .i64 s] w fun e w' => e = .returned (.tuple #[sp 0 0 0 (.slice none 0 0), .bool false]) ∧ Below w.heap.size w w' := by
  have HB := Lib.hid (((Below.refl w.heap.size w).alloc (Nat.le_refl _) (.cells (c4 f c l v) 27)).alloc (by simp) (.cells (c4 0 0 0 (.slice none 0 0)) 27))
  have s0 : RowS ((w.alloc (.cells (c4 f c l v) 27)).alloc (.cells (c4 0 0 0 (.slice none 0 0)) 27)) (w.heap.size + 1) 0 0 0 (.slice none 0 0) := Row.new1 w _ _ _
  have hT1 := Lib.hid (hT.below HB.out hT.pos)
  have hv1 := Lib.hid (hv.below HB.out)
  clear hT hv
  obtain ⟨F, hF⟩ : ∃ F : Nat → Int, F = fun k => zs.getD k 0 := ⟨_, rfl⟩
  have HF := Lib.hid hF
  have hFW : Hid (∀ k, W16 (F k)) := fun k => by rw [hF]; exact hS.2.2.2.w k
  clear hF
  have hSB := Lib.hid hS.2.2.2
  have hll := hS.long
  have HS := Lib.hid hS
  generalize hz : Pl.szOf c = z
  have HZ := Lib.hid hz
  have HLEN := Lib.hid (sok_two hS)
  clear hz hS
  have HU := Lib.hid hu; clear hu
  go_enter Tryd.func20, Tryd.ntmps20
  go_wp2_with fail
  refine (c_stateOf_yes f c l v zs F HF.out _ hT1.out hv1.out HS.out).mono ?_
  rintro e w1 ⟨rfl, hb1⟩
  rw [HZ.out]
  have B0 := bst HB.out hb1 HB.out.size
  have B1 := Lib.hid (B0.alloc B0.size (.cells (c10 f c z l F) 71))
  have t1 : RowT (w1.alloc (.cells (c10 f c z l F) 71)) w1.heap.size f c z l F := Row.new w1 _ _
  have s1 := (Row.below s0 hb1).alloc (.cells (c10 f c z l F) 71)
  have hlt : w.heap.size + 1 < w1.heap.size := Row.lt (Row.below s0 hb1)
  clear hb1 B0 hT1 hv1 s0
  go_wp2_with fail
  refine (c_isInUse_in f c z l zs F HF.out hSB.out s hs0 hs1 _).mono ?_
  rintro e w2 ⟨rfl, hb2⟩
  rw [HU.out]
  have B2 := Lib.hid (bst B1.out hb2 B1.out.size)
  have s2 := Row.below s1 hb2
  clear hb2 t1 s1
  go_wp2_with (refine wl_storeS rfl _ _ rfl (w.heap.size + 1) 0 0 0 (.slice none 0 0) _ _ _ _ s2 rfl rfl rfl ?_)
  exact bodyPost_ret (res_row_slot Tryd.results20 (Row.put s2 (c4 0 0 0 (.slice none 0 0))) rfl rfl Tryd.underlying27 rfl info_span) rfl ⟨rfl, below_setRow B2.out (by omega) _⟩

set_option maxHeartbeats 6400000 in
theorem c_iFreeSlot_yes (f c l : Int) (v : Value) (zs : List Int) (p : Nat) (w : World) (hT : TabW w) (hv : IntsAt w v zs) (hS : Sok f c l zs) (hp : (p : Int) < l) (hu : bitL zs p = true) (on : Bool) (hon : on = false) : Calls Tryd.prog 20 #[sp f c l v, .int .i64 p] w fun e w' => ∃ v', e = .returned (.tuple #[sp f c l v', .bool true]) ∧ Own w' w.heap.size v' (setBit zs p on) ∧ Below w.heap.size w w' := by
  have HB := Lib.hid (((Below.refl w.heap.size w).alloc (Nat.le_refl _) (.cells (c4 f c l v) 27)).alloc (by simp) (.cells (c4 0 0 0 (.slice none 0 0)) 27))
  have s0 : RowS ((w.alloc (.cells (c4 f c l v) 27)).alloc (.cells (c4 0 0 0 (.slice none 0 0)) 27)) (w.heap.size + 1) 0 0 0 (.slice none 0 0) := Row.new1 w _ _ _
  have hT1 := Lib.hid (hT.below HB.out hT.pos)
  have hv1 := Lib.hid (hv.below HB.out)
  clear hT hv
  obtain ⟨F, hF⟩ : ∃ F : Nat → Int, F = fun k => zs.getD k 0 := ⟨_, rfl⟩
  have HF := Lib.hid hF
  have hFW : Hid (∀ k, W16 (F k)) := fun k => by rw [hF]; exact hS.2.2.2.w k
  clear hF
  have hSB := Lib.hid hS.2.2.2
  have hll := hS.long
  have HS := Lib.hid hS
  generalize hz : Pl.szOf c = z
  have HZ := Lib.hid hz
  have HLEN := Lib.hid (sok_two hS)
  clear hz hS
  have HU : Hid (bitL zs (p : Int).toNat = true) := by unfold Hid; rw [Int.toNat_natCast]; exact hu
  clear hu
  obtain ⟨G, hG⟩ : ∃ G : Nat → Int, G = fun k => bits .andNot .u16 (F k) (runW (p : Int) ((p : Int) + 1) k) := ⟨_, rfl⟩
  have HGD := Lib.hid hG
  have HGB : Hid (∀ k, k < 6 → 0 ≤ G k ∧ G k ≤ 65535) := fun k _ => by rw [hG]; exact w16_two (w_andNot _ _)
  have HG : Hid (wl zs.length G = setBit zs p on) := by
    unfold Hid
    rw [hG, HF.out, hon]
    exact free1_eq hSB.out hp
  clear hG hon
  go_enter Tryd.func20, Tryd.ntmps20
  go_wp2_with fail
  refine (c_stateOf_yes f c l v zs F HF.out _ hT1.out hv1.out HS.out).mono ?_
  rintro e w1 ⟨rfl, hb1⟩
  rw [HZ.out]
  have B0 := bst HB.out hb1 HB.out.size
  have B1 := Lib.hid (B0.alloc B0.size (.cells (c10 f c z l F) 71))
  have t1 : RowT (w1.alloc (.cells (c10 f c z l F) 71)) w1.heap.size f c z l F := Row.new w1 _ _
  have s1 := (Row.below s0 hb1).alloc (.cells (c10 f c z l F) 71)
  have hlt : w.heap.size + 1 < w1.heap.size := Row.lt (Row.below s0 hb1)
  clear hb1 B0 hT1 hv1 s0
  go_wp2_with fail
  refine (c_isInUse_in f c z l zs F HF.out hSB.out (p : Int) (by omega) hp _).mono ?_
  rintro e w4 ⟨rfl, hb4⟩
  rw [HU.out]
  have B4 := Lib.hid (bst B1.out hb4 B1.out.size)
  have s4 := Row.below s1 hb4
  have t4 := Row.below t1 hb4
  generalize w1.heap.size = g at *
  clear hb4 t1 s1 B1
  have TD : RowT w4.drew g f c z l F := t4
  have SD : RowS w4.drew (w.heap.size + 1) 0 0 0 (.slice none 0 0) := s4
  have LD : Below w.heap.size w w4.drew := below_drew B4.out
  have p0 : w4.drew.cell? ⟨g, 4, none⟩ = some (.int .u16 (F 0)) := RowT.cw t4 (k := 0) (by omega)
  have p1 : w4.drew.cell? ⟨g, 5, none⟩ = some (.int .u16 (F 1)) := RowT.cw t4 (k := 1) (by omega)
  have p2 : w4.drew.cell? ⟨g, 6, none⟩ = some (.int .u16 (F 2)) := RowT.cw t4 (k := 2) (by omega)
  have p3 : w4.drew.cell? ⟨g, 7, none⟩ = some (.int .u16 (F 3)) := RowT.cw t4 (k := 3) (by omega)
  have p4 : w4.drew.cell? ⟨g, 8, none⟩ = some (.int .u16 (F 4)) := RowT.cw t4 (k := 4) (by omega)
  have p5 : w4.drew.cell? ⟨g, 9, none⟩ = some (.int .u16 (F 5)) := RowT.cw t4 (k := 5) (by omega)
  go_wp2_with fail
  go_region_with (first
    | (go_at_call 51; refine (c_slotBit (p : Int) _ (by omega) (by omega)).mono ?_; rintro e w7 ⟨rfl, hbk⟩; have TT : RowT w7 g f c z l F := Row.below (by assumption) hbk; have SS : RowS w7 (w.heap.size + 1) 0 0 0 (.slice none 0 0) := Row.below (by assumption) hbk; have LL : Below w.heap.size w w7 := bst (by assumption) hbk (Below.size (by assumption)); have p0 := RowT.cw TT (k := 0) (by omega); have p1 := RowT.cw TT (k := 1) (by omega); have p2 := RowT.cw TT (k := 2) (by omega); have p3 := RowT.cw TT (k := 3) (by omega); have p4 := RowT.cw TT (k := 4) (by omega); have p5 := RowT.cw TT (k := 5) (by omega); have z0 := Row.frozen TT 4;  have z1 := Row.frozen TT 5;  have z2 := Row.frozen TT 6;  have z3 := Row.frozen TT 7;  have z4 := Row.frozen TT 8;  have z5 := Row.frozen TT 9; clear hbk)
    | (go_at_call 48; refine (c_without_eq F (runW (p : Int) ((p : Int) + 1)) G HGD.out _).mono ?_; rintro e w8 ⟨rfl, hbk⟩; have TT : RowT w8 g f c z l F := Row.below (by assumption) hbk; have SS : RowS w8 (w.heap.size + 1) 0 0 0 (.slice none 0 0) := Row.below (by assumption) hbk; have LL : Below w.heap.size w w8 := bst (by assumption) hbk (Below.size (by assumption)); have p0 := RowT.cw TT (k := 0) (by omega); have p1 := RowT.cw TT (k := 1) (by omega); have p2 := RowT.cw TT (k := 2) (by omega); have p3 := RowT.cw TT (k := 3) (by omega); have p4 := RowT.cw TT (k := 4) (by omega); have p5 := RowT.cw TT (k := 5) (by omega); have z0 := Row.frozen TT 4;  have z1 := Row.frozen TT 5;  have z2 := Row.frozen TT 6;  have z3 := Row.frozen TT 7;  have z4 := Row.frozen TT 8;  have z5 := Row.frozen TT 9; clear hbk))
  all_goals
    have t5 := RowT.six4 TT G
    have s5 := Row.six4 SS (show w.heap.size + 1 ≠ g by omega) G
    have B5 := Lib.hid (below_six4 LL (show w.heap.size ≤ g by omega) G)
    change Exit.then _ _ Exit.normal _ (six4 w8 g G)
    generalize six4 w8 g G = w5 at *
    clear p0 z0 p1 z1 p2 z2 p3 z3 p4 z4 p5 z5 TT SS LL TD SD LD t4 s4 B4
    go_wp2_with (refine wl_loadT rfl _ rfl g f c z l G t5 rfl ?_)
    refine (c_span f c z l G _ (by omega) (by omega) HGB.out).mono ?_
    rintro e w6 ⟨v6, rfl, ho, hb6⟩
    rw [HLEN.out, HG.out] at ho
    have B6 := Lib.hid (bst B5.out hb6 B5.out.size)
    have s6 := Row.below s5 hb6
    have HO := Lib.hid (ho.mono B5.out.size)
    obtain ⟨vg, vc, hvs, _⟩ := ho.shape
    clear ho hb6 t5 s5 B5
    subst hvs
    have HNE := Lib.hid (own_row_ne' HO.out s6)
    generalize hnr : (setBit zs p on).length = nr at *
    clear hnr
    go_wp2_with (refine wl_storeS rfl _ _ rfl (w.heap.size + 1) f c l (.slice vg nr vc) _ _ _ _ s6 rfl rfl rfl ?_)
    exact bodyPost_ret (res_row_slot Tryd.results20 (Row.put s6 (c4 f c l (.slice vg nr vc))) rfl rfl Tryd.underlying27 rfl info_span) rfl ⟨_, rfl, Own.put HO.out _ _ HNE.out, below_setRow B6.out (by omega) _⟩

end Go.Proofs.YtcelebblcjhpaaaDoor
