/- Contracts of chapter 2: the words of a bitmap. -/
import Derived.Test.YtcelebblcjhpaaaDoorBw3
import Derived.Test.YtcelebblcjhpaaaDoorBw4
import Derived.ChangeKeysEq
namespace Go.Proofs.YtcelebblcjhpaaaDoor
open Go.RowKit Pb

theorem quiet_same {P : Program} {f : FuncId} {args : Array Value} {w : World} {n : Nat} {v : Value}
    (h : Calls P f args (w.drewN n) fun e w' => e = .returned v ∧ w.drewN n = w') : Calls P f args (w.drewN n) fun e w'' => e = .returned v ∧ ∃ m, w'' = w.drewN m :=
  h.mono fun _ _ ⟨he, hm⟩ => ⟨he, n, hm.symm⟩
theorem c_isBitLength_yes (n : Int) (w : World) (h0 : 0 ≤ n) (h1 : n ≤ 96) : Calls Tryd.prog 104 #[.int .i64 n] w fun e w' => e = .returned (.bool true) ∧ w = w' :=
  (c_isBitLength n w).mono fun _ _ ⟨he, hw⟩ => ⟨he.trans (r_b (by simp [h0, h1])), hw⟩
theorem c_isBitLength_no (n : Int) (w : World) (h : ¬ (0 ≤ n ∧ n ≤ 96)) : Calls Tryd.prog 104 #[.int .i64 n] w fun e w' => e = .returned (.bool false) ∧ w = w' :=
  (c_isBitLength n w).mono fun _ _ ⟨he, hw⟩ => ⟨he.trans (r_b (by rw [← Bool.decide_and]; exact decide_eq_false h)), hw⟩
theorem cellBelow {w w' : World} {g k : Nat} {v : Value} (hb : Below w.heap.size w w') (h : w.cell? ⟨g, k, none⟩ = some v) : w'.cell? ⟨g, k, none⟩ = some v :=
  (hb.cell (p := ⟨g, k, none⟩) (block_lt_of_cell h)).trans h
theorem res_row_slot_c {P : Program} {fn : Func} {p q : Tmp} {ty : TypeId} (h : fn.results = #[.cell p ty, .tmp q]) {tmps : Array Value} {w : World} {g : Nat} {t : TypeId} {cs : Array Value} {d : TypeDesc} {v : Value} (hg : Row w g t cs)
    (hp : tmps.getD p undef = .pointer (some ⟨g, 0, none⟩)) (hq : tmps.getD q undef = v) (hu : P.underlying ty = some d) (hd : (match d with | .struct _ | .array _ _ => true | _ => false) = true) (hi : (P.info? ty).map (·.size) = some cs.size) :
    (results fn tmps).run P w = .ok (.tuple #[.agg cs, v]) w := res_row_slot h hg hp hq hu hd hi

theorem bstep {B : Nat} {w w1 w2 : World} (h : Below B w w1) (k : Below w1.heap.size w1 w2) (hB : B ≤ w1.heap.size) : Below B w w2 := h.trans (k.mono hB)
theorem eq_items {P : Program} (w : World) {e : TypeId} {i : TypeInfo} {k : IntKind} (he : P.underlying e = some (.int k)) (hi : P.info? e = some i) (hs : i.size = 1) (d : Nat) (f g : Nat → Int) (xs ys : Array Value) : ∀ is : List Nat, (∀ j ∈ is, xs[j]? = some (.int k (f j)) ∧ ys[j]? = some (.int k (g j))) →
    (Op.eqItems (d + 1) e (P.cellsOf e) xs ys is).run P w = .ok (is.all fun j => f j == g j) w
  | [], _ => by simp [Op.eqItems]
  | j :: is, h => by
    have hagg : (isAgg e).run P w = .ok false w := by
      unfold isAgg
      rw [Sem.run_bind, run_underlying he w]
      simp
    have hc : P.cellsOf e = 1 := by simp [Program.cellsOf, hi, hs]
    obtain ⟨h1, h2⟩ := h j (by simp)
    have ih := eq_items w he hi hs d f g xs ys is (fun j hj => h j (by simp [hj]))
    rw [hc] at ih ⊢
    have p1 : (Go.part e xs (j * 1)).run P w = .ok (.int k (f j)) w := by simp [Go.part, hagg, h1]
    have p2 : (Go.part e ys (j * 1)).run P w = .ok (.int k (g j)) w := by simp [Go.part, hagg, h2]
    simp only [Op.eqItems, Sem.run_bind, p1, p2, Result.andThen_ok, run_equalIn_int w d e k k (f j) (g j) he]
    cases hq : (f j == g j)
    · simp [hq]
    · simp [hq, ih]
theorem eq6_run (w : World) (f g : Nat → Int) : (Op.equalIn 10000 69 (a6 f) (a6 g)).run Tryd.prog w = .ok ((List.range 6).all fun j => f j == g j) w := by
  cases hq : Tryd.prog.info? 67 with
  | none => exact absurd (show (Tryd.prog.info? 67).isSome = true by kernel_rfl) (by simp [hq])
  | some i =>
    have hs : i.size = 1 := by
      have : (Tryd.prog.info? 67).map (·.size) = some 1 := by kernel_rfl
      simpa [hq] using this
    rw [run_equalIn_array w 9999 _ _ Tryd.underlying69 hq]
    exact eq_items w Tryd.underlying67 hq hs 9998 f g _ _ _ (fun j hj => by
      have hj' : j < 6 := by simpa using hj
      exact ⟨c6_get f hj', c6_get g hj'⟩)
theorem eq6_yes {f g : Nat → Int} (h : ∀ k, k < 6 → f k = g k) (w : World) : (Op.equalIn 10000 69 (a6 f) (a6 g)).run Tryd.prog w = .ok true w := by
  rw [eq6_run]
  congr 1
  rw [List.all_eq_true]
  intro j hj
  have hj' : j < 6 := by simpa using hj
  simp [h j hj']
theorem eq6_no {f g : Nat → Int} (h : ¬ ∀ k, k < 6 → f k = g k) (w : World) : (Op.equalIn 10000 69 (a6 f) (a6 g)).run Tryd.prog w = .ok false w := by
  rw [eq6_run]
  congr 1
  rw [← Bool.not_eq_true, List.all_eq_true]
  intro h'
  exact h (fun k hk => by simpa using h' k (by simpa using hk))

/-- What wordsOf answers. -/
def WordsEnd (long : Int) (zs : List Int) (w : World) (e : Ending) (w' : World) : Prop :=
  ((Bok long zs ∧ e = .returned (.tuple #[a6 (fun k => zs.getD k 0), .bool true])) ∨ (¬ Bok long zs ∧ e = .returned (.tuple #[a6 (fun _ => 0), .bool false]))) ∧ Below w.heap.size w w'

set_option maxHeartbeats 800000 in
theorem c_wordsOf_out (long : Int) (v : Value) (zs : List Int) (w : World) (hv : IntsAt w v zs) (hn : ¬ (0 ≤ long ∧ long ≤ 96)) : Calls Tryd.prog 76 #[bm long v] w (WordsEnd long zs w) := by
  obtain ⟨a, ca, rfl, _⟩ := hv
  have hG : ¬ Bok long zs := fun h => hn ⟨h.1, h.2.1⟩
  generalize zs.length = n at *
  go_enter Tryd.func76, Tryd.ntmps76
  go_wp2_with fail
  go_quiet ((go_at_call 104; exact quiet_same (c_isBitLength_no _ _ hn)))
  have hb1 : Blk (((w.alloc (.cells (cb long (.slice a n ca)) 25)).alloc (.cells (c6 fun _ => 0) 69)).drewN nq) (w.heap.size + 1) (fun _ => 0) := Row.new1 w _ _ (c6 fun _ => 0)
  have B1 : Below w.heap.size w (((w.alloc (.cells (cb long (.slice a n ca)) 25)).alloc (.cells (c6 fun _ => 0) 69)).drewN nq) := below_drewN (((Below.refl _ _).alloc (Nat.le_refl _) _).alloc (by simp) _) _
  go_wp2_with (refine wl_store6 rfl _ _ rfl (w.heap.size + 1) (fun _ => 0) _ hb1 rfl rfl ?_)
  exact bodyPost_ret (res_row_slot Tryd.results76 (Row.put hb1 (c6 fun _ => 0)) rfl rfl Tryd.underlying69 rfl info_bw) rfl ⟨.inr ⟨hG, rfl⟩, below_setRow B1 (by omega) _⟩
set_option maxHeartbeats 800000 in
theorem c_wordsOf_len (long : Int) (v : Value) (zs : List Int) (w : World) (hv : IntsAt w v zs) (hn : 0 ≤ long ∧ long ≤ 96) (hl : (zs.length : Int) ≠ (long + 15) / 16) : Calls Tryd.prog 76 #[bm long v] w (WordsEnd long zs w) := by
  obtain ⟨a, ca, rfl, hv⟩ := hv
  clear hv
  have hG : ¬ Bok long zs := fun h => hl h.2.2.1
  generalize zs.length = n at *
  have hne : ((n : Int) != (long + 15) / 16) = true := by rw [bne_iff_ne]; exact hl
  clear hl
  obtain ⟨hn0, hn1⟩ := hn
  go_enter Tryd.func76, Tryd.ntmps76
  go_wp2_with fail
  go_quiet ((first | (go_at_call 104; exact quiet_same (c_isBitLength_yes _ _ hn0 hn1)) | (go_at_call 105; exact quiet_same (c_wordCount _ _ hn0 (by omega)))))
  have hb1 : Blk (((w.alloc (.cells (cb long (.slice a n ca)) 25)).alloc (.cells (c6 fun _ => 0) 69)).drewN nq) (w.heap.size + 1) (fun _ => 0) := Row.new1 w _ _ (c6 fun _ => 0)
  have B1 : Below w.heap.size w (((w.alloc (.cells (cb long (.slice a n ca)) 25)).alloc (.cells (c6 fun _ => 0) 69)).drewN nq) := below_drewN (((Below.refl _ _).alloc (Nat.le_refl _) _).alloc (by simp) _) _
  go_wp2_with (refine wl_store6 rfl _ _ rfl (w.heap.size + 1) (fun _ => 0) _ hb1 rfl rfl ?_)
  exact bodyPost_ret (res_row_slot Tryd.results76 (Row.put hb1 (c6 fun _ => 0)) rfl rfl Tryd.underlying69 rfl info_bw) rfl ⟨.inr ⟨hG, rfl⟩, below_setRow B1 (by omega) _⟩

set_option maxHeartbeats 1600000 in
theorem c_wordsOf_in (long : Int) (v : Value) (zs : List Int) (w : World) (hv : IntsAt w v zs) (hn : 0 ≤ long ∧ long ≤ 96) (hl : (zs.length : Int) = (long + 15) / 16) : Calls Tryd.prog 76 #[bm long v] w (WordsEnd long zs w) := by
  obtain ⟨a, ca, rfl, hv⟩ := hv
  obtain ⟨hn0, hn1⟩ := hn
  have HV := Lib.hid hv; clear hv
  generalize hzl : zs.length = n at *
  have HZ := Lib.hid hzl; have HL := Lib.hid hl; clear hzl
  have hn6 : n ≤ 6 := by omega
  have hne : ((n : Int) != (long + 15) / 16) = false := by rw [hl]; simp
  clear hl
  go_enter Tryd.func76, Tryd.ntmps76
  go_wp2_with fail
  go_quiet ((first | (go_at_call 104; exact quiet_same (c_isBitLength_yes _ _ hn0 hn1)) | (go_at_call 105; exact quiet_same (c_wordCount _ _ hn0 (by omega)))))
  go_wp2
  clear hne
  go_loopw [24] (fun i wr => ∃ k : Nat, k ≤ n ∧ i = .int .i64 k ∧ Hid (∀ j, j < k → W16 (zs.getD j 0)) ∧ RowB wr w.heap.size long (.slice a n ca) ∧ Blk wr (w.heap.size + 1) (fun _ => 0) ∧ Blk wr (w.heap.size + 1 + 1) (part (fun k => zs.getD k 0) (fun _ => 0) k) ∧ Below w.heap.size w wr) (fun i _ => n - (intOf i).toNat)
  case atStart => exact ⟨0, by omega, rfl, fun j hj => by omega, ((Row.new w _ _).alloc _).alloc _, (Row.new1 w _ _ (c6 fun _ => 0)).alloc _, by rw [part_zero]; exact Row.new2 w _ _ _ (c6 fun _ => 0), below_drewN ((((Below.refl _ _).alloc (Nat.le_refl _) _).alloc (by simp) _).alloc (by simp; omega) _) _⟩
  case round =>
    obtain ⟨k, hk, rfl, hw, hb0, hb1, hb2, hb⟩ := hrel
    by_cases hlt : k < n
    · obtain ⟨b, off, rfl, hc⟩ := HV.out (by omega)
      have q := hc k hlt
      replace q : wr.cell? ⟨b, off + k, none⟩ = some (.int .i64 (zs.getD k 0)) := (hb.cell (p := ⟨b, off + k, none⟩) (block_lt_of_cell q)).trans q
      clear hc
      have i1 : (k : Int) < (n : Int) := by omega
      have i2 : (k : Int) < 6 := by omega
      by_cases hx : W16 (zs.getD k 0)
      · have f2 := Row.frozen hb2 k
        have q2 := hb2.at (show k < 6 by omega)
        have HB2 := Lib.hid (hb2.set (show k < 6 by omega) (zs.getD k 0))
        have HB0 := Lib.hid (Row.other hb0 ⟨w.heap.size + 1 + 1, k, none⟩ (by simp; omega) (.int .u16 (zs.getD k 0)))
        have HB1 := Lib.hid (Row.other hb1 ⟨w.heap.size + 1 + 1, k, none⟩ (by simp) (.int .u16 (zs.getD k 0)))
        have HB := Lib.hid (hb.setCell (p := ⟨w.heap.size + 1 + 1, k, none⟩) (by simp; omega) (.int .u16 (zs.getD k 0)))
        have HW : Hid (∀ j, j < k + 1 → W16 (zs.getD j 0)) := fun j hj => by
          by_cases e : j = k
          · rw [e]; exact hx
          · exact hw.out j (by omega)
        have x1 := hx.1
        have x2 := hx.2
        have HP : Hid (upd (part (fun k => zs.getD k 0) (fun _ => 0) k) k (zs.getD k 0) = part (fun k => zs.getD k 0) (fun _ => 0) (k + 1)) := part_step (fun k => zs.getD k 0) (fun _ => 0) k
        clear hb0 hb1 hb2 hb hx hw HV
        generalize zs.getD k 0 = x at *
        go_wp2
        go_roundw
        case rel => exact ⟨k + 1, by omega, by go_num, HW.out, HB0.out, HB1.out, by rw [← HP.out]; exact HB2.out, HB.out⟩
        case measure => simp [intOf]; omega
      · have hG : ¬ Bok long zs := fun h => hx (h.2.2.2.1 k (by rw [HZ.out]; exact hlt))
        have hx' : zs.getD k 0 < 0 ∨ 65535 < zs.getD k 0 := by unfold W16 at hx; omega
        clear hx hw HV
        generalize zs.getD k 0 = x at *
        by_cases hx0 : x < 0
        all_goals
          go_wp2_with (refine wl_store6 rfl _ _ rfl (w.heap.size + 1) (fun _ => 0) _ hb1 rfl rfl ?_)
          exact bodyPost_ret (res_row_slot Tryd.results76 (Row.put hb1 (c6 fun _ => 0)) rfl rfl Tryd.underlying69 rfl info_bw) rfl ⟨.inr ⟨hG, rfl⟩, below_setRow hb (by omega) _⟩
    · obtain rfl : k = n := by omega
      have hz6 : c6 (part (fun k => zs.getD k 0) (fun _ => 0) k) = c6 (fun k => zs.getD k 0) := c6_congr (fun j _ => by
        unfold part
        by_cases h : j < k
        · rw [if_pos h]
        · rw [if_neg h, getD_end (by rw [HZ.out]; omega)])
      rw [Blk, hz6] at hb2
      clear hz6
      have HW : Hid (∀ j, j < zs.length → W16 (zs.getD j 0)) := fun j hj => hw.out j (by rw [HZ.out] at hj; exact hj)
      have HM : Hid (_ ↔ Bok long zs) := mask_iff hn0 hn1 (by rw [HZ.out]; exact HL.out) HW.out
      clear hw HV
      obtain ⟨f, hf⟩ : ∃ f : Nat → Int, f = fun k => zs.getD k 0 := ⟨_, rfl⟩
      have hb2' : Blk wr (w.heap.size + 1 + 1) f := by rw [hf]; exact hb2
      have hww : ∀ k, W16 (f k) := by rw [hf]; exact w_getD HW.out
      have HM' : Hid ((∀ k : Nat, k < 6 → f k = bits .and .u16 (f k) (lowW (long - k * 16))) ↔ Bok long zs) := by rw [hf]; exact HM.out
      have HF := Lib.hid hf
      clear hb2 HM hf
      have q0 := hb0.c0
      have p0 := hb2'.at (k := 0) (by omega)
      have p1 := hb2'.at (k := 1) (by omega)
      have p2 := hb2'.at (k := 2) (by omega)
      have p3 := hb2'.at (k := 3) (by omega)
      have p4 := hb2'.at (k := 4) (by omega)
      have p5 := hb2'.at (k := 5) (by omega)
      have HWW := Lib.hid hww; clear hww
      clear HW hlt hk
      by_cases hB : Bok long zs
      · have hE : ∀ w, (Op.equalIn 10000 69 (.agg #[.int .u16 (f 0), .int .u16 (f 1), .int .u16 (f 2), .int .u16 (f 3), .int .u16 (f 4), .int .u16 (f 5)]) (.agg #[.int .u16 (bits .and .u16 (f 0) (lowW long)), .int .u16 (bits .and .u16 (f 1) (lowW (long - 16))), .int .u16 (bits .and .u16 (f 2) (lowW (long - 32))), .int .u16 (bits .and .u16 (f 3) (lowW (long - 48))), .int .u16 (bits .and .u16 (f 4) (lowW (long - 64))), .int .u16 (bits .and .u16 (f 5) (lowW (long - 80)))])).run Tryd.prog w = .ok true w := fun w => by
          have := eq6_yes (HM'.out.2 hB) w
          simpa [a6] using this
        clear HM'
        go_wp2_with fail
        go_region_held3 (fun w' => w'.cell? ⟨w.heap.size, 0, none⟩ = some (.int .i64 long) ∧ w'.cell? ⟨w.heap.size + 1 + 1, 0, none⟩ = some (.int .u16 (f 0)) ∧ w'.cell? ⟨w.heap.size + 1 + 1, 1, none⟩ = some (.int .u16 (f 1)) ∧ w'.cell? ⟨w.heap.size + 1 + 1, 2, none⟩ = some (.int .u16 (f 2)) ∧ w'.cell? ⟨w.heap.size + 1 + 1, 3, none⟩ = some (.int .u16 (f 3)) ∧ w'.cell? ⟨w.heap.size + 1 + 1, 4, none⟩ = some (.int .u16 (f 4)) ∧ w'.cell? ⟨w.heap.size + 1 + 1, 5, none⟩ = some (.int .u16 (f 5)) ∧ Blk w' (w.heap.size + 1) (fun _ => 0) ∧ Blk w' (w.heap.size + 1 + 1) f ∧ Below w.heap.size w w')
          (first
            | exact ⟨q0, p0, p1, p2, p3, p4, p5, hb1, hb2', below_drew hb⟩
            | (go_split_ands
               exact ⟨cellBelow hbk (by assumption), cellBelow hbk (by assumption), cellBelow hbk (by assumption), cellBelow hbk (by assumption), cellBelow hbk (by assumption), cellBelow hbk (by assumption), cellBelow hbk (by assumption), Row.below (by assumption) hbk, Row.below (by assumption) hbk, bstep (by assumption) hbk (Below.size (by assumption))⟩)
            | (go_split_ands; refine ⟨?_, ?_, ?_, ?_, ?_, ?_, ?_, ?_, ?_, ?_⟩ <;> assumption))
          (first
            | (go_at_call 87; refine (c_firstBits _ _ (by omega) (by omega)).mono ?_; rintro e w1 ⟨rfl, hbk⟩)
            | (go_at_call 78; refine (c_both f (fun k => lowW (long - k * 16)) _).mono ?_; rintro e w1 ⟨rfl, hbk⟩))
        clear hb1 hb2' hb q0 p0 p1 p2 p3 p4 p5
        go_split_ands
        go_wp2_with (first
          | (refine wl_load6 rfl _ rfl (w.heap.size + 1 + 1) f (by assumption) rfl ?_)
          | (refine wl_store6 rfl _ _ rfl (w.heap.size + 1) f (fun _ => 0) (by assumption) rfl rfl ?_))
        exact bodyPost_ret (res_row_slot Tryd.results76 (Row.put (show Blk _ (w.heap.size + 1) (fun _ => 0) by assumption) (c6 f)) rfl rfl Tryd.underlying69 rfl info_bw) rfl ⟨.inl ⟨hB, by rw [HF.out]; rfl⟩, below_setRow (by assumption) (by omega) _⟩
      · have hE : ∀ w, (Op.equalIn 10000 69 (.agg #[.int .u16 (f 0), .int .u16 (f 1), .int .u16 (f 2), .int .u16 (f 3), .int .u16 (f 4), .int .u16 (f 5)]) (.agg #[.int .u16 (bits .and .u16 (f 0) (lowW long)), .int .u16 (bits .and .u16 (f 1) (lowW (long - 16))), .int .u16 (bits .and .u16 (f 2) (lowW (long - 32))), .int .u16 (bits .and .u16 (f 3) (lowW (long - 48))), .int .u16 (bits .and .u16 (f 4) (lowW (long - 64))), .int .u16 (bits .and .u16 (f 5) (lowW (long - 80)))])).run Tryd.prog w = .ok false w := fun w => by
          have := eq6_no (fun h => hB (HM'.out.1 h)) w
          simpa [a6] using this
        clear HM'
        go_wp2_with fail
        go_region_held3 (fun w' => w'.cell? ⟨w.heap.size, 0, none⟩ = some (.int .i64 long) ∧ w'.cell? ⟨w.heap.size + 1 + 1, 0, none⟩ = some (.int .u16 (f 0)) ∧ w'.cell? ⟨w.heap.size + 1 + 1, 1, none⟩ = some (.int .u16 (f 1)) ∧ w'.cell? ⟨w.heap.size + 1 + 1, 2, none⟩ = some (.int .u16 (f 2)) ∧ w'.cell? ⟨w.heap.size + 1 + 1, 3, none⟩ = some (.int .u16 (f 3)) ∧ w'.cell? ⟨w.heap.size + 1 + 1, 4, none⟩ = some (.int .u16 (f 4)) ∧ w'.cell? ⟨w.heap.size + 1 + 1, 5, none⟩ = some (.int .u16 (f 5)) ∧ Blk w' (w.heap.size + 1) (fun _ => 0) ∧ Blk w' (w.heap.size + 1 + 1) f ∧ Below w.heap.size w w')
          (first
            | exact ⟨q0, p0, p1, p2, p3, p4, p5, hb1, hb2', below_drew hb⟩
            | (go_split_ands
               exact ⟨cellBelow hbk (by assumption), cellBelow hbk (by assumption), cellBelow hbk (by assumption), cellBelow hbk (by assumption), cellBelow hbk (by assumption), cellBelow hbk (by assumption), cellBelow hbk (by assumption), Row.below (by assumption) hbk, Row.below (by assumption) hbk, bstep (by assumption) hbk (Below.size (by assumption))⟩)
            | (go_split_ands; refine ⟨?_, ?_, ?_, ?_, ?_, ?_, ?_, ?_, ?_, ?_⟩ <;> assumption))
          (first
            | (go_at_call 87; refine (c_firstBits _ _ (by omega) (by omega)).mono ?_; rintro e w1 ⟨rfl, hbk⟩)
            | (go_at_call 78; refine (c_both f (fun k => lowW (long - k * 16)) _).mono ?_; rintro e w1 ⟨rfl, hbk⟩))
        clear hb1 hb2' hb q0 p0 p1 p2 p3 p4 p5
        go_split_ands
        go_wp2_with (refine wl_store6 rfl _ _ rfl (w.heap.size + 1) (fun _ => 0) (fun _ => 0) (by assumption) rfl rfl ?_)
        exact bodyPost_ret (res_row_slot Tryd.results76 (Row.put (show Blk _ (w.heap.size + 1) (fun _ => 0) by assumption) (c6 fun _ => 0)) rfl rfl Tryd.underlying69 rfl info_bw) rfl ⟨.inr ⟨hB, rfl⟩, below_setRow (by assumption) (by omega) _⟩

theorem c_wordsOf (long : Int) (v : Value) (zs : List Int) (w : World) (hv : IntsAt w v zs) : Calls Tryd.prog 76 #[bm long v] w (WordsEnd long zs w) := by
  by_cases hn : 0 ≤ long ∧ long ≤ 96
  · by_cases hl : (zs.length : Int) = (long + 15) / 16
    · exact c_wordsOf_in long v zs w hv hn hl
    · exact c_wordsOf_len long v zs w hv hn hl
  · exact c_wordsOf_out long v zs w hv hn
theorem c_wordsOf_yes (long : Int) (v : Value) (zs : List Int) (f : Nat → Int) (hf : f = fun k => zs.getD k 0) (w : World) (hv : IntsAt w v zs) (hB : Bok long zs) : Calls Tryd.prog 76 #[bm long v] w fun e w' => e = .returned (.tuple #[a6 f, .bool true]) ∧ Below w.heap.size w w' :=
  (c_wordsOf long v zs w hv).mono fun _ _ ⟨h, hb⟩ => ⟨by subst hf; rcases h with ⟨_, h⟩ | ⟨h, _⟩; (exact h); exact absurd hB h, hb⟩
theorem c_wordsOf_no (long : Int) (v : Value) (zs : List Int) (w : World) (hv : IntsAt w v zs) (hB : ¬ Bok long zs) : Calls Tryd.prog 76 #[bm long v] w fun e w' => e = .returned (.tuple #[a6 (fun _ => 0), .bool false]) ∧ Below w.heap.size w w' :=
  (c_wordsOf long v zs w hv).mono fun _ _ ⟨h, hb⟩ => ⟨by rcases h with ⟨h, _⟩ | ⟨_, h⟩; (exact absurd h hB); exact h, hb⟩
end Go.Proofs.YtcelebblcjhpaaaDoor
