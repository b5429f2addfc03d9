/- What the laws rest on, part 3. -/
import Derived.Test.YtkbphmnacdpdgaaRD2
import Derived.Deep.Cut
namespace Go.Proofs.Ytkbphmnacdpdgaa
open Go.RowKit Ph Kw

theorem src_oneV (W : World) (y : Value) (hy : y.oneCell' = true) : SrcAt (W.alloc (.cells #[y] 26)) (.slice (some ⟨W.heap.size, 0, none⟩) 1 1) [y] :=
  ⟨some ⟨W.heap.size, 0, none⟩, 1, rfl, fun u hu => by simp at hu; subst hu; exact hy, fun _ => ⟨W.heap.size, 0, rfl, fun j hj => by
    match j, hj with
    | 0, _ => exact Row.cell (Row.new W 26 #[y]) 0⟩⟩
theorem own_emptyLo (W : World) (T : TypeId) {B : Nat} (hB : B ≤ W.heap.size) : (W.alloc (.cells #[] T)).ownsRow B T 1 (.slice (some ⟨W.heap.size, 0, none⟩) 0 0) 0 [] := ⟨rfl, .inr ⟨W.heap.size, 0, #[], rfl, hB, heap_alloc_new _ _, Nat.le_refl _, by unfold maxLen; omega, rfl, rfl⟩⟩
/-- No deque yet, and a list. -/
theorem famNone {w : World} {lo hi : Nat} {v : Value} {zs : List Int} (h2 : Own w lo v zs) (hv : ∀ g, v.ownBlock = some g → g < hi) : FamH w lo hi nilV nilV v (fun _ => nilV) ⟨[], [], zs⟩ := by
  refine ⟨fun k hk => ?_, fun k hk g hg => ?_, fun j k hj hk hjk => ?_⟩
  · match k, hk with
    | 0, _ => exact ⟨rfl, .inl ⟨rfl, rfl⟩⟩
    | 1, _ => exact ⟨rfl, .inl ⟨rfl, rfl⟩⟩
    | 2, _ => simp only [tyH, vH, cH, List.length_map]; exact h2
  · match k, hk with
    | 0, _ => cases hg
    | 1, _ => cases hg
    | 2, _ => exact hv g hg
  · match j, hj, k, hk with
    | 0, _, _, _ => exact .inl rfl
    | 1, _, _, _ => exact .inl rfl
    | 2, _, 2, _ => exact absurd rfl hjk
    | 2, _, 0, _ =>
      cases e : v.ownBlock with
      | none => exact .inl e
      | some g => exact .inr fun h => by have h2 : v.ownBlock = none := h; rw [e] at h2; cases h2
    | 2, _, 1, _ =>
      cases e : v.ownBlock with
      | none => exact .inl e
      | some g => exact .inr fun h => by have h2 : v.ownBlock = none := h; rw [e] at h2; cases h2
set_option maxRecDepth 100000 in
set_option maxHeartbeats 6400000 in
theorem s_l10Own (a c : Value) (W : Wk) (w : World) (hA : WorkAt w a c W) (hl : W.r.length ≤ 1000) (hr : ∀ k, k < W.r.length → (row W k).length ≤ 1048576) (hd : W.d.length ≤ 1048576) : Calls Try.prog 56 #[wkv a W.n c] w fun e w' => ∃ a c, e = .returned (wkv a W.n c) ∧ OwnW w' w.heap.size w'.heap.size a c W ∧ Below w.heap.size w w' := by
  obtain ⟨i0, hi, hz0, hz1, hz2⟩ := info_parts info_int
  obtain ⟨j0, hji, hjz0, hjz1, hjz2⟩ := info_parts info_ints
  obtain ⟨pa, qa, hpa⟩ := hA.r.shape
  obtain ⟨pd, qd, hpd⟩ := hA.d.shape
  generalize hnr : W.r.length = nr at *
  generalize hmd : W.d.length = md at *
  generalize hdd : W.d = d at *
  subst hpa
  subst hpd
  have hb0 := (below1 w (.cells (w3 (.slice pa nr qa) W.n (.slice pd md qd)) 28)).alloc (by simp) (.cells (w3 nilV 0 nilV) 28)
  have rp0 : RowW ((w.alloc (.cells (w3 (.slice pa nr qa) W.n (.slice pd md qd)) 28)).alloc (.cells (w3 nilV 0 nilV) 28)) w.heap.size (.slice pa nr qa) W.n (.slice pd md qd) := Row.alloc (Row.new w 28 _) _
  have rr0 : RowW ((w.alloc (.cells (w3 (.slice pa nr qa) W.n (.slice pd md qd)) 28)).alloc (.cells (w3 nilV 0 nilV) 28)) (w.heap.size + 1) nilV 0 nilV := Row.new1 w _ 28 _
  have hsz : ((w.alloc (.cells (w3 (.slice pa nr qa) W.n (.slice pd md qd)) 28)).alloc (.cells (w3 nilV 0 nilV) 28)).heap.size = w.heap.size + 2 := by simp
  have HA := Lib.hid hA
  have HD : Hid (IntsAt w (.slice pd md qd) d) := by have := hA.d; rw [hdd] at this; exact this
  have HR := Lib.hid hr; have HNR := Lib.hid hnr; have HDL := Lib.hid hd; have HMD := Lib.hid hmd; have HDD := Lib.hid hdd
  have HL1 := Lib.hid hl
  have RC := Lib.hid rp0; have RR := Lib.hid rr0; have HB := Lib.hid hb0
  have HZ := Lib.hid (Nat.le_of_eq hsz.symm)
  clear rp0 rr0 hb0 hsz hA hr hl hd hmd hnr hdd
  go_enter Try.func56, Try.ntmps56
  go_upto_region 1 with fail
  generalize ((w.alloc (.cells (w3 (.slice pa nr qa) W.n (.slice pd md qd)) 28)).alloc (.cells (w3 nilV 0 nilV) 28)) = wa at *
  have P1 : Hid (RowW wa.drew w.heap.size (.slice pa nr qa) W.n (.slice pd md qd)) := RC
  have R1 : Hid (RowW wa.drew (w.heap.size + 1) nilV 0 nilV) := RR
  have B1 : Hid (Below w.heap.size w wa.drew) := below_drew HB.out
  have Z1 : Hid (w.heap.size + 2 ≤ wa.drew.heap.size) := HZ
  clear RC RR HB HZ
  go_cut [3] from 6 (fun s3 wz => ∃ (gV : Nat) (pv : Option Addr) (qv : Nat), s3 = .pointer (some ⟨gV, 0, none⟩) ∧ Hid (FamH wz w.heap.size wz.heap.size nilV nilV (.slice pv md qv) (fun _ => nilV) ⟨[], [], d⟩) ∧ Hid (RowW wz gV nilV W.n (.slice pv md qv)) ∧ Hid (RowW wz (w.heap.size + 1) nilV 0 nilV) ∧ Hid (RowW wz w.heap.size (.slice pa nr qa) W.n (.slice pd md qd)) ∧ Hid (Below w.heap.size w wz) ∧ Hid (w.heap.size + 2 ≤ gV))
  case first =>
    refine wp_region_held_drew (S := (fun w' => w'.cell? ⟨w.heap.size, 1, none⟩ = some (.int .i64 W.n) ∧ w'.cell? ⟨w.heap.size, 2, none⟩ = some (.slice pd md qd))) (by kernel_rfl) (⟨RowW.c1 P1.out, RowW.c2 P1.out⟩) (fun hHeld => ?_)
    refine wpAnyH_take (i := 0) (v := ?va0x1) rfl (by kernel_rfl) (by kernel_rfl) (by kernel_rfl) (fun _ _ _ h => h) (Or.inl ⟨by rfl, ?hy0x1⟩) (by assumption) ?rest0x1
    case hy0x1 => (intro w hSw; (try dsimp only at hSw); go_simp; try with_reducible rfl)
    (try simp only [Act.put, List.getElem_toArray, List.getElem_cons_zero, List.setIfInBounds_toArray, List.set_cons_zero, List.set_cons_succ])
    refine wpAnyH_take (i := 1) (v := ?va1x2) rfl (by kernel_rfl) (by kernel_rfl) (by kernel_rfl) (fun _ _ _ h => h) (Or.inl ⟨by rfl, ?hy1x2⟩) (by assumption) ?rest1x2
    case hy1x2 => (intro w hSw; (try dsimp only at hSw); go_simp; try with_reducible rfl)
    (try simp only [Act.put, List.getElem_toArray, List.getElem_cons_zero, List.getElem_cons_succ, List.setIfInBounds_toArray, List.set_cons_zero, List.set_cons_succ])
    refine wpAnyH_take (i := 3) (v := ?va3x3) rfl (by kernel_rfl) (by kernel_rfl) (by kernel_rfl) (fun _ _ _ h => h) (Or.inl ⟨by rfl, ?hy3x3⟩) (by assumption) ?rest3x3
    case hy3x3 => (intro w hSw; (try dsimp only at hSw); go_simp; try with_reducible rfl)
    (try simp only [Act.put, List.getElem_toArray, List.getElem_cons_zero, List.getElem_cons_succ, List.setIfInBounds_toArray, List.set_cons_zero, List.set_cons_succ])
    refine wpAnyH_take (i := 4) (v := ?va4x4) rfl (by kernel_rfl) (by kernel_rfl) (by kernel_rfl) (fun _ _ _ h => h) (Or.inl ⟨by rfl, ?hy4x4⟩) (by assumption) ?rest4x4
    case hy4x4 => (intro w hSw; (try dsimp only at hSw); go_simp; try with_reducible rfl)
    (try simp only [Act.put, List.getElem_toArray, List.getElem_cons_zero, List.getElem_cons_succ, List.setIfInBounds_toArray, List.set_cons_zero, List.set_cons_succ])
    generalize wa.drew = x0 at *
    refine wpAnyH_ready (rs := [2, 7]) (by kernel_rfl) (by simp) ?_
    refine AllReadyH.cons rfl (fun K hK => ?_) (AllReadyH.cons rfl (fun K hK => ?_) AllReadyH.nil)
    · skip
      clear hHeld
      obtain ⟨x11, hx11⟩ : ∃ x, x = x0.alloc (.cells #[] 3) := ⟨_, rfl⟩
      have hb11 : Below x0.heap.size x0 x11 := by rw [hx11]; exact below1 x0 (.cells #[] 3)
      have P11 := Lib.hid (RowW.below P1.out hb11)
      have R11 := Lib.hid (RowW.below R1.out hb11)
      have B11 := Lib.hid (bst B1.out hb11 B1.out.size)
      have Z11 : Hid (w.heap.size + 2 ≤ x11.heap.size) := Nat.le_trans Z1.out hb11.size
      have EM11 : Hid (x11.ownsRow w.heap.size 3 1 (.slice (some ⟨x0.heap.size, 0, none⟩) 0 0) 0 []) := by rw [hx11]; exact own_emptyLo x0 3 (by have := Z1.out; omega)
      go_simp
      rw [← hx11]
      refine hK.out _ _ ⟨RowW.c1 P11.out, RowW.c2 P11.out⟩ (fun hHeld => ?_)
      clear hK K hb11 hx11
      (try simp only [Act.put, List.getElem_toArray, List.getElem_cons_zero, List.getElem_cons_succ, List.setIfInBounds_toArray, List.set_cons_zero, List.set_cons_succ])
      refine wpAnyH_ready (rs := [5, 7]) (by kernel_rfl) (by simp) ?_
      refine AllReadyH.cons rfl (fun K hK => ?_) (AllReadyH.cons rfl (fun K hK => ?_) AllReadyH.nil)
      · skip
        clear hHeld
        obtain ⟨vd, x12, hrun12, ho12, hg12, hbl12⟩ := run_appOwn (P := Try.prog) x11 w.heap.size 26 26 3 i0 (.int .i64 0) 8 Try.underlying26 hi hz0 hz1 hz2 rfl (.slice (some ⟨x0.heap.size, 0, none⟩) 0 0) 0 [] EM11.out (.slice pd md qd) (d.map (Value.int .i64)) (HD.out.below B11.out).src (by have := HDL.out; have := HMD.out; rw [List.length_map]; unfold maxLen; omega) (by have := HDL.out; have := HMD.out; rw [List.length_map]; omega) (by have := Z11.out; omega)
        have neP12 := owns_ne_rowT EM11.out P11.out (by decide) rfl
        have P12 : Hid (RowW x12 _ _ _ _) := Row.grownBy P11.out hg12 (fun e => neP12 (Option.some.inj e))
        have neR12 := owns_ne_rowT EM11.out R11.out (by decide) rfl
        have R12 : Hid (RowW x12 _ _ _ _) := Row.grownBy R11.out hg12 (fun e => neR12 (Option.some.inj e))
        have B12 := Lib.hid (B11.out.grown hg12 B11.out.size (fun g hg => (owns_lt EM11.out hg).1))
        have Z12 : Hid (w.heap.size + 2 ≤ x12.heap.size) := Nat.le_trans Z11.out hg12.size
        have O12 : Hid (Own x12 w.heap.size vd d) := by have h := ho12; rw [Nat.zero_add, List.nil_append, List.length_map] at h; exact h
        obtain ⟨pv, qv, hvd⟩ := O12.out.ints.shape
        rw [HMD.out] at hvd
        subst hvd
        rw [if_pos (by rfl)]
        refine op_app _ _ _ rfl rfl rfl hrun12 ?_
        refine hK.out _ _ ⟨RowW.c1 P12.out, RowW.c2 P12.out⟩ (fun hHeld => ?_)
        clear hK K hrun12 ho12 hg12 hbl12
        (try simp only [Act.put, List.getElem_toArray, List.getElem_cons_zero, List.getElem_cons_succ, List.setIfInBounds_toArray, List.set_cons_zero, List.set_cons_succ])
        refine wpAnyH_take (i := 6) (v := ?va6x5) rfl (by kernel_rfl) (by kernel_rfl) (by kernel_rfl) (fun _ _ _ h => h) (Or.inl ⟨by rfl, ?hy6x5⟩) (by assumption) ?rest6x5
        case hy6x5 => (intro w hSw; (try dsimp only at hSw); go_simp; try with_reducible rfl)
        (try simp only [Act.put, List.getElem_toArray, List.getElem_cons_zero, List.getElem_cons_succ, List.setIfInBounds_toArray, List.set_cons_zero, List.set_cons_succ])
        refine wpAnyH_ready (rs := [7]) (by kernel_rfl) (by simp) ?_
        refine AllReadyH.cons rfl (fun K hK => ?_) AllReadyH.nil
        clear hHeld
        obtain ⟨x13, hx13⟩ : ∃ x, x = x12.alloc (.cells (w3 nilV 0 nilV) 28) := ⟨_, rfl⟩
        have hb13 : Below x12.heap.size x12 x13 := by rw [hx13]; exact below1 x12 (.cells (w3 nilV 0 nilV) 28)
        have P13 := Lib.hid (RowW.below P12.out hb13)
        have R13 := Lib.hid (RowW.below R12.out hb13)
        have B13 := Lib.hid (bst B12.out hb13 B12.out.size)
        have O13 : Hid (Own _ w.heap.size (.slice pv md qv) d) := Own.below O12.out hb13
        have Z13 : Hid (w.heap.size + 2 ≤ x13.heap.size) := Nat.le_trans Z12.out hb13.size
        have V13 : Hid (RowW x13 x12.heap.size nilV 0 nilV) := by rw [hx13]; exact Row.new x12 _ _
        go_simp
        rw [← hx13]
        refine hK.out _ _ ⟨RowW.c1 P13.out, RowW.c2 P13.out⟩ (fun hHeld => ?_)
        clear hK K hb13 hx13
        (try simp only [Act.put, List.getElem_toArray, List.getElem_cons_zero, List.getElem_cons_succ, List.setIfInBounds_toArray, List.set_cons_zero, List.set_cons_succ])
        have FM := famNone (hi := x13.heap.size) O13.out (fun g hg => (owns_lt O13.out hg).2)
        have FM2 : Hid (FamH (x13.setRow (x12.heap.size) (w3 nilV W.n (.slice pv md qv))) w.heap.size x13.heap.size nilV nilV (.slice pv md qv) (fun _ => nilV) ⟨[], [], d⟩) := FM.keepRowW V13.out fun i hi _ => setRow_other x13 (x12.heap.size) i _ hi
        clear FM
        have hg1 : w.heap.size + 1 ≠ x12.heap.size := by have := Z12.out; omega
        have hg0 : w.heap.size ≠ x12.heap.size := by have := Z12.out; omega
        have V9 : Hid (RowW (x13.setRow (x12.heap.size) (w3 nilV W.n (.slice pv md qv))) (x12.heap.size) nilV W.n (.slice pv md qv)) := Row.put V13.out _
        have R9 : Hid (RowW (x13.setRow (x12.heap.size) (w3 nilV W.n (.slice pv md qv))) (w.heap.size + 1) nilV 0 nilV) := Row.putOther R13.out _ hg1
        have C9 : Hid (RowW (x13.setRow (x12.heap.size) (w3 nilV W.n (.slice pv md qv))) w.heap.size (.slice pa nr qa) W.n (.slice pd md qd)) := Row.putOther P13.out _ hg0
        have B9 := Lib.hid (below_setRow B13.out (show w.heap.size ≤ x12.heap.size by have := Z12.out; omega) (w3 nilV W.n (.slice pv md qv)))
        have S9 : Hid ((x13.setRow (x12.heap.size) (w3 nilV W.n (.slice pv md qv))).heap.size = x13.heap.size) := size_setRow _ _ _
        clear hHeld
        refine wpAnyH_ready (rs := [8]) (by kernel_rfl) (by simp) ?_
        refine AllReadyH.cons rfl (fun K hK => ?_) AllReadyH.nil
        rw [if_pos (by rfl)]
        refine wp_store_row 28 _ _ rfl (x12.heap.size) (w3 nilV W.n (.slice pv md qv)) rfl rfl 28 (w3 nilV 0 nilV) V13.out info_work rfl (by simp [Value.oneCell']) ?_
        refine hK.out _ _ ⟨RowW.c1 C9.out, RowW.c2 C9.out⟩ (fun hHeld => ?_)
        clear hK K
        (try simp only [Act.put, List.getElem_toArray, List.getElem_cons_zero, List.getElem_cons_succ])
        refine wpAnyH_done (by kernel_rfl) ?_ _
        clear hHeld
        go_wp2_with fail
        go_meet
        case rel => exact ⟨x12.heap.size, pv, qv, rfl, (by unfold Hid; rw [S9.out]; exact FM2.out), V9, R9, C9, B9, Z12⟩
      · skip
        clear hHeld
        obtain ⟨x14, hx14⟩ : ∃ x, x = x11.alloc (.cells (w3 nilV 0 nilV) 28) := ⟨_, rfl⟩
        have hb14 : Below x11.heap.size x11 x14 := by rw [hx14]; exact below1 x11 (.cells (w3 nilV 0 nilV) 28)
        have P14 := Lib.hid (RowW.below P11.out hb14)
        have R14 := Lib.hid (RowW.below R11.out hb14)
        have B14 := Lib.hid (bst B11.out hb14 B11.out.size)
        have M14 : Hid (World.ownsRow _ w.heap.size 3 1 (.slice (some ⟨x0.heap.size, 0, none⟩) 0 0) 0 []) := owns_block EM11.out fun g hg => hb14.block g (owns_lt EM11.out hg).2
        have Z14 : Hid (w.heap.size + 2 ≤ x14.heap.size) := Nat.le_trans Z11.out hb14.size
        have V14 : Hid (RowW x14 x11.heap.size nilV 0 nilV) := by rw [hx14]; exact Row.new x11 _ _
        go_simp
        rw [← hx14]
        refine hK.out _ _ ⟨RowW.c1 P14.out, RowW.c2 P14.out⟩ (fun hHeld => ?_)
        clear hK K hb14 hx14
        (try simp only [Act.put, List.getElem_toArray, List.getElem_cons_zero, List.getElem_cons_succ, List.setIfInBounds_toArray, List.set_cons_zero, List.set_cons_succ])
        refine wpAnyH_ready (rs := [5]) (by kernel_rfl) (by simp) ?_
        refine AllReadyH.cons rfl (fun K hK => ?_) AllReadyH.nil
        clear hHeld
        obtain ⟨vd, x15, hrun15, ho15, hg15, hbl15⟩ := run_appOwn (P := Try.prog) x14 w.heap.size 26 26 3 i0 (.int .i64 0) 8 Try.underlying26 hi hz0 hz1 hz2 rfl (.slice (some ⟨x0.heap.size, 0, none⟩) 0 0) 0 [] M14.out (.slice pd md qd) (d.map (Value.int .i64)) (HD.out.below B14.out).src (by have := HDL.out; have := HMD.out; rw [List.length_map]; unfold maxLen; omega) (by have := HDL.out; have := HMD.out; rw [List.length_map]; omega) (by have := Z14.out; omega)
        have neP15 := owns_ne_rowT M14.out P14.out (by decide) rfl
        have P15 : Hid (RowW x15 _ _ _ _) := Row.grownBy P14.out hg15 (fun e => neP15 (Option.some.inj e))
        have neR15 := owns_ne_rowT M14.out R14.out (by decide) rfl
        have R15 : Hid (RowW x15 _ _ _ _) := Row.grownBy R14.out hg15 (fun e => neR15 (Option.some.inj e))
        have B15 := Lib.hid (B14.out.grown hg15 B14.out.size (fun g hg => (owns_lt M14.out hg).1))
        have neV15 := owns_ne_rowT M14.out V14.out (by decide) rfl
        have V15 : Hid (RowW x15 _ _ _ _) := Row.grownBy V14.out hg15 (fun e => neV15 (Option.some.inj e))
        have Z15 : Hid (w.heap.size + 2 ≤ x15.heap.size) := Nat.le_trans Z14.out hg15.size
        have O15 : Hid (Own x15 w.heap.size vd d) := by have h := ho15; rw [Nat.zero_add, List.nil_append, List.length_map] at h; exact h
        obtain ⟨pv, qv, hvd⟩ := O15.out.ints.shape
        rw [HMD.out] at hvd
        subst hvd
        rw [if_pos (by rfl)]
        refine op_app _ _ _ rfl rfl rfl hrun15 ?_
        refine hK.out _ _ ⟨RowW.c1 P15.out, RowW.c2 P15.out⟩ (fun hHeld => ?_)
        clear hK K hrun15 ho15 hg15 hbl15
        (try simp only [Act.put, List.getElem_toArray, List.getElem_cons_zero, List.getElem_cons_succ, List.setIfInBounds_toArray, List.set_cons_zero, List.set_cons_succ])
        refine wpAnyH_take (i := 6) (v := ?va6x6) rfl (by kernel_rfl) (by kernel_rfl) (by kernel_rfl) (fun _ _ _ h => h) (Or.inl ⟨by rfl, ?hy6x6⟩) (by assumption) ?rest6x6
        case hy6x6 => (intro w hSw; (try dsimp only at hSw); go_simp; try with_reducible rfl)
        (try simp only [Act.put, List.getElem_toArray, List.getElem_cons_zero, List.getElem_cons_succ, List.setIfInBounds_toArray, List.set_cons_zero, List.set_cons_succ])
        have FM := famNone (hi := x15.heap.size) O15.out (fun g hg => (owns_lt O15.out hg).2)
        have FM2 : Hid (FamH (x15.setRow (x11.heap.size) (w3 nilV W.n (.slice pv md qv))) w.heap.size x15.heap.size nilV nilV (.slice pv md qv) (fun _ => nilV) ⟨[], [], d⟩) := FM.keepRowW V15.out fun i hi _ => setRow_other x15 (x11.heap.size) i _ hi
        clear FM
        have hg1 : w.heap.size + 1 ≠ x11.heap.size := by have := Z11.out; omega
        have hg0 : w.heap.size ≠ x11.heap.size := by have := Z11.out; omega
        have V9 : Hid (RowW (x15.setRow (x11.heap.size) (w3 nilV W.n (.slice pv md qv))) (x11.heap.size) nilV W.n (.slice pv md qv)) := Row.put V15.out _
        have R9 : Hid (RowW (x15.setRow (x11.heap.size) (w3 nilV W.n (.slice pv md qv))) (w.heap.size + 1) nilV 0 nilV) := Row.putOther R15.out _ hg1
        have C9 : Hid (RowW (x15.setRow (x11.heap.size) (w3 nilV W.n (.slice pv md qv))) w.heap.size (.slice pa nr qa) W.n (.slice pd md qd)) := Row.putOther P15.out _ hg0
        have B9 := Lib.hid (below_setRow B15.out (show w.heap.size ≤ x11.heap.size by have := Z11.out; omega) (w3 nilV W.n (.slice pv md qv)))
        have S9 : Hid ((x15.setRow (x11.heap.size) (w3 nilV W.n (.slice pv md qv))).heap.size = x15.heap.size) := size_setRow _ _ _
        clear hHeld
        refine wpAnyH_ready (rs := [8]) (by kernel_rfl) (by simp) ?_
        refine AllReadyH.cons rfl (fun K hK => ?_) AllReadyH.nil
        rw [if_pos (by rfl)]
        refine wp_store_row 28 _ _ rfl (x11.heap.size) (w3 nilV W.n (.slice pv md qv)) rfl rfl 28 (w3 nilV 0 nilV) V15.out info_work rfl (by simp [Value.oneCell']) ?_
        refine hK.out _ _ ⟨RowW.c1 C9.out, RowW.c2 C9.out⟩ (fun hHeld => ?_)
        clear hK K
        (try simp only [Act.put, List.getElem_toArray, List.getElem_cons_zero, List.getElem_cons_succ])
        refine wpAnyH_done (by kernel_rfl) ?_ _
        clear hHeld
        go_wp2_with fail
        go_meet
        case rel => exact ⟨x11.heap.size, pv, qv, rfl, (by unfold Hid; rw [S9.out]; exact FM2.out), V9, R9, C9, B9, Z11⟩
    · skip
      clear hHeld
      obtain ⟨x16, hx16⟩ : ∃ x, x = x0.alloc (.cells (w3 nilV 0 nilV) 28) := ⟨_, rfl⟩
      have hb16 : Below x0.heap.size x0 x16 := by rw [hx16]; exact below1 x0 (.cells (w3 nilV 0 nilV) 28)
      have P16 := Lib.hid (RowW.below P1.out hb16)
      have R16 := Lib.hid (RowW.below R1.out hb16)
      have B16 := Lib.hid (bst B1.out hb16 B1.out.size)
      have Z16 : Hid (w.heap.size + 2 ≤ x16.heap.size) := Nat.le_trans Z1.out hb16.size
      have V16 : Hid (RowW x16 x0.heap.size nilV 0 nilV) := by rw [hx16]; exact Row.new x0 _ _
      go_simp
      rw [← hx16]
      refine hK.out _ _ ⟨RowW.c1 P16.out, RowW.c2 P16.out⟩ (fun hHeld => ?_)
      clear hK K hb16 hx16
      (try simp only [Act.put, List.getElem_toArray, List.getElem_cons_zero, List.getElem_cons_succ, List.setIfInBounds_toArray, List.set_cons_zero, List.set_cons_succ])
      refine wpAnyH_ready (rs := [2]) (by kernel_rfl) (by simp) ?_
      refine AllReadyH.cons rfl (fun K hK => ?_) AllReadyH.nil
      clear hHeld
      obtain ⟨x17, hx17⟩ : ∃ x, x = x16.alloc (.cells #[] 3) := ⟨_, rfl⟩
      have hb17 : Below x16.heap.size x16 x17 := by rw [hx17]; exact below1 x16 (.cells #[] 3)
      have P17 := Lib.hid (RowW.below P16.out hb17)
      have R17 := Lib.hid (RowW.below R16.out hb17)
      have B17 := Lib.hid (bst B16.out hb17 B16.out.size)
      have V17 := Lib.hid (RowW.below V16.out hb17)
      have Z17 : Hid (w.heap.size + 2 ≤ x17.heap.size) := Nat.le_trans Z16.out hb17.size
      have EM17 : Hid (x17.ownsRow w.heap.size 3 1 (.slice (some ⟨x16.heap.size, 0, none⟩) 0 0) 0 []) := by rw [hx17]; exact own_emptyLo x16 3 (by have := Z16.out; omega)
      go_simp
      rw [← hx17]
      refine hK.out _ _ ⟨RowW.c1 P17.out, RowW.c2 P17.out⟩ (fun hHeld => ?_)
      clear hK K hb17 hx17
      (try simp only [Act.put, List.getElem_toArray, List.getElem_cons_zero, List.getElem_cons_succ, List.setIfInBounds_toArray, List.set_cons_zero, List.set_cons_succ])
      refine wpAnyH_ready (rs := [5]) (by kernel_rfl) (by simp) ?_
      refine AllReadyH.cons rfl (fun K hK => ?_) AllReadyH.nil
      clear hHeld
      obtain ⟨vd, x18, hrun18, ho18, hg18, hbl18⟩ := run_appOwn (P := Try.prog) x17 w.heap.size 26 26 3 i0 (.int .i64 0) 8 Try.underlying26 hi hz0 hz1 hz2 rfl (.slice (some ⟨x16.heap.size, 0, none⟩) 0 0) 0 [] EM17.out (.slice pd md qd) (d.map (Value.int .i64)) (HD.out.below B17.out).src (by have := HDL.out; have := HMD.out; rw [List.length_map]; unfold maxLen; omega) (by have := HDL.out; have := HMD.out; rw [List.length_map]; omega) (by have := Z17.out; omega)
      have neP18 := owns_ne_rowT EM17.out P17.out (by decide) rfl
      have P18 : Hid (RowW x18 _ _ _ _) := Row.grownBy P17.out hg18 (fun e => neP18 (Option.some.inj e))
      have neR18 := owns_ne_rowT EM17.out R17.out (by decide) rfl
      have R18 : Hid (RowW x18 _ _ _ _) := Row.grownBy R17.out hg18 (fun e => neR18 (Option.some.inj e))
      have B18 := Lib.hid (B17.out.grown hg18 B17.out.size (fun g hg => (owns_lt EM17.out hg).1))
      have neV18 := owns_ne_rowT EM17.out V17.out (by decide) rfl
      have V18 : Hid (RowW x18 _ _ _ _) := Row.grownBy V17.out hg18 (fun e => neV18 (Option.some.inj e))
      have Z18 : Hid (w.heap.size + 2 ≤ x18.heap.size) := Nat.le_trans Z17.out hg18.size
      have O18 : Hid (Own x18 w.heap.size vd d) := by have h := ho18; rw [Nat.zero_add, List.nil_append, List.length_map] at h; exact h
      obtain ⟨pv, qv, hvd⟩ := O18.out.ints.shape
      rw [HMD.out] at hvd
      subst hvd
      rw [if_pos (by rfl)]
      refine op_app _ _ _ rfl rfl rfl hrun18 ?_
      refine hK.out _ _ ⟨RowW.c1 P18.out, RowW.c2 P18.out⟩ (fun hHeld => ?_)
      clear hK K hrun18 ho18 hg18 hbl18
      (try simp only [Act.put, List.getElem_toArray, List.getElem_cons_zero, List.getElem_cons_succ, List.setIfInBounds_toArray, List.set_cons_zero, List.set_cons_succ])
      refine wpAnyH_take (i := 6) (v := ?va6x7) rfl (by kernel_rfl) (by kernel_rfl) (by kernel_rfl) (fun _ _ _ h => h) (Or.inl ⟨by rfl, ?hy6x7⟩) (by assumption) ?rest6x7
      case hy6x7 => (intro w hSw; (try dsimp only at hSw); go_simp; try with_reducible rfl)
      (try simp only [Act.put, List.getElem_toArray, List.getElem_cons_zero, List.getElem_cons_succ, List.setIfInBounds_toArray, List.set_cons_zero, List.set_cons_succ])
      have FM := famNone (hi := x18.heap.size) O18.out (fun g hg => (owns_lt O18.out hg).2)
      have FM2 : Hid (FamH (x18.setRow (x0.heap.size) (w3 nilV W.n (.slice pv md qv))) w.heap.size x18.heap.size nilV nilV (.slice pv md qv) (fun _ => nilV) ⟨[], [], d⟩) := FM.keepRowW V18.out fun i hi _ => setRow_other x18 (x0.heap.size) i _ hi
      clear FM
      have hg1 : w.heap.size + 1 ≠ x0.heap.size := by have := Z1.out; omega
      have hg0 : w.heap.size ≠ x0.heap.size := by have := Z1.out; omega
      have V9 : Hid (RowW (x18.setRow (x0.heap.size) (w3 nilV W.n (.slice pv md qv))) (x0.heap.size) nilV W.n (.slice pv md qv)) := Row.put V18.out _
      have R9 : Hid (RowW (x18.setRow (x0.heap.size) (w3 nilV W.n (.slice pv md qv))) (w.heap.size + 1) nilV 0 nilV) := Row.putOther R18.out _ hg1
      have C9 : Hid (RowW (x18.setRow (x0.heap.size) (w3 nilV W.n (.slice pv md qv))) w.heap.size (.slice pa nr qa) W.n (.slice pd md qd)) := Row.putOther P18.out _ hg0
      have B9 := Lib.hid (below_setRow B18.out (show w.heap.size ≤ x0.heap.size by have := Z1.out; omega) (w3 nilV W.n (.slice pv md qv)))
      have S9 : Hid ((x18.setRow (x0.heap.size) (w3 nilV W.n (.slice pv md qv))).heap.size = x18.heap.size) := size_setRow _ _ _
      clear hHeld
      refine wpAnyH_ready (rs := [8]) (by kernel_rfl) (by simp) ?_
      refine AllReadyH.cons rfl (fun K hK => ?_) AllReadyH.nil
      rw [if_pos (by rfl)]
      refine wp_store_row 28 _ _ rfl (x0.heap.size) (w3 nilV W.n (.slice pv md qv)) rfl rfl 28 (w3 nilV 0 nilV) V18.out info_work rfl (by simp [Value.oneCell']) ?_
      refine hK.out _ _ ⟨RowW.c1 C9.out, RowW.c2 C9.out⟩ (fun hHeld => ?_)
      clear hK K
      (try simp only [Act.put, List.getElem_toArray, List.getElem_cons_zero, List.getElem_cons_succ])
      refine wpAnyH_done (by kernel_rfl) ?_ _
      clear hHeld
      go_wp2_with fail
      go_meet
      case rel => exact ⟨x0.heap.size, pv, qv, rfl, (by unfold Hid; rw [S9.out]; exact FM2.out), V9, R9, C9, B9, Z1⟩
  case rest =>
    obtain ⟨gV, pv, qv, rfl, hfam0, hV0, hR0, hP0, hB0, hGV⟩ := hcut
    have q0 := RowW.c0 hP0.out
    go_wp2_with fail
    clear q0
    go_loopw [16] (fun i wr => ∃ k : Nat, k ≤ nr ∧ i = .int .i64 k ∧ Hid (∃ s us, FamH wr w.heap.size wr.heap.size s nilV (.slice pv md qv) us ⟨W.r.take k, [], d⟩ ∧ RowW wr gV s W.n (.slice pv md qv)) ∧ Hid (RowW wr (w.heap.size + 1) nilV 0 nilV) ∧ Hid (Below w.heap.size w wr)) (fun i _ => nr - (intOf i).toNat)
    case atStart => exact ⟨0, Nat.zero_le _, rfl, ⟨nilV, _, by rw [List.take_zero]; exact hfam0.out, hV0.out⟩, hR0, hB0⟩
    case round =>
      obtain ⟨k, hk, rfl, hfam, hR, hB⟩ := hrel
      obtain ⟨s, us, hf, hv⟩ := hfam.out
      clear hfam
      by_cases hlt : k < nr
      · obtain ⟨b, off, rfl, hcc⟩ := HA.out.r.at' (by omega)
        obtain ⟨u, q0, hu⟩ := hcc k hlt
        have q := cellBelow hB.out (Nat.le_refl _) q0
        have HU := Lib.hid (show IntsAt w u (row W k) from hu)
        have HRL := Lib.hid (HR.out k hlt)
        have HTL : Hid ((W.r.take k).length = k) := by unfold Hid; rw [List.length_take, HNR.out]; omega
        have HTS : Hid (W.r.take (k + 1) = W.r.take k ++ [row W k]) := by
          unfold Hid
          have hkl : k < W.r.length := by rw [HNR.out]; exact hlt
          rw [List.take_succ_eq_append_getElem hkl]
          simp [row, List.getD, hkl]
        obtain ⟨pu, cu, rfl⟩ := hu.shape
        have hrk : (W.r.getD k []).length = (row W k).length := rfl
        rw [hrk] at q HU
        clear hrk
        have i1 : (k : Int) < (nr : Int) := by omega
        have hkb : k < 1000 := by have := HL1.out; omega
        clear hcc q0 hu
        have HF := Lib.hid hf; have HV := Lib.hid hv
        clear hf hv
        generalize hzl : (row W k).length = zl at *
        have HZL := Lib.hid hzl; clear hzl
        go_upto_region 5 with fail
        replace HF : Hid (FamH wr.drew w.heap.size wr.heap.size s nilV (.slice pv md qv) us ⟨W.r.take k, [], d⟩) := Fam.below HF.out (below_drew (Below.refl wr.heap.size wr))
        replace HV : Hid (RowW wr.drew gV s W.n (.slice pv md qv)) := HV
        replace hR : Hid (RowW wr.drew (w.heap.size + 1) nilV 0 nilV) := hR
        replace hB : Hid (Below w.heap.size w wr.drew) := below_drew hB.out
        have HHI : Hid (wr.heap.size ≤ wr.drew.heap.size) := Nat.le_refl _
        have HLO0 : Hid (w.heap.size ≤ wr.heap.size) := hB.out.size
        generalize wr.heap.size = hi0 at *

        refine wp_region_held_drew (S := (fun _ => True)) (by kernel_rfl) (trivial) (fun hHeld => ?_)
        refine wpAnyH_take (i := 0) (v := ?va0x8) rfl (by kernel_rfl) (by kernel_rfl) (by kernel_rfl) (fun _ _ _ h => h) (Or.inl ⟨by rfl, ?hy0x8⟩) (by assumption) ?rest0x8
        case hy0x8 => (intro w hSw; (try dsimp only at hSw); go_simp; try with_reducible rfl)
        (try simp only [Act.put, List.getElem_toArray, List.getElem_cons_zero, List.setIfInBounds_toArray, List.set_cons_zero, List.set_cons_succ])
        refine wpAnyH_take (i := 3) (v := ?va3x9) rfl (by kernel_rfl) (by kernel_rfl) (by kernel_rfl) (fun _ _ _ h => h) (Or.inl ⟨by rfl, ?hy3x9⟩) (by assumption) ?rest3x9
        case hy3x9 => (intro w hSw; (try dsimp only at hSw); go_simp; try with_reducible rfl)
        (try simp only [Act.put, List.getElem_toArray, List.getElem_cons_zero, List.getElem_cons_succ, List.setIfInBounds_toArray, List.set_cons_zero, List.set_cons_succ])
        generalize wr.drew = x0 at *
        have HLO : Hid (w.heap.size ≤ hi0) := HLO0.out
        refine wpAnyH_ready (rs := [1, 2]) (by kernel_rfl) (by simp) ?_
        refine AllReadyH.cons rfl (fun K hK => ?_) (AllReadyH.cons rfl (fun K hK => ?_) AllReadyH.nil)
        · skip
          clear hHeld
          have c19 := RowW.c0 HV.out
          go_simp
          refine hK.out _ _ trivial (fun hHeld => ?_)
          clear hK K c19
          (try simp only [Act.put, List.getElem_toArray, List.getElem_cons_zero, List.getElem_cons_succ, List.setIfInBounds_toArray, List.set_cons_zero, List.set_cons_succ])
          refine wpAnyH_ready (rs := [2]) (by kernel_rfl) (by simp) ?_
          refine AllReadyH.cons rfl (fun K hK => ?_) AllReadyH.nil
          clear hHeld
          obtain ⟨x20, hx20⟩ : ∃ x, x = x0.alloc (.cells #[] 3) := ⟨_, rfl⟩
          have hb20 : Below x0.heap.size x0 x20 := by rw [hx20]; exact below1 x0 (.cells #[] 3)
          have F20 : Hid (FamH x20 w.heap.size hi0 s nilV (.slice pv md qv) us ⟨W.r.take k, [], d⟩) := Fam.below HF.out hb20
          have V20 := Lib.hid (RowW.below HV.out hb20); have R20 := Lib.hid (RowW.below hR.out hb20); have B20 := Lib.hid (bst hB.out hb20 hB.out.size); have H20 : Hid (hi0 ≤ x20.heap.size) := Nat.le_trans HHI.out hb20.size
          have E20 : Hid (x20.ownsRow hi0 3 1 (Value.slice (some ⟨x0.heap.size, 0, none⟩) 0 0) 0 []) := by rw [hx20]; exact own_emptyLo x0 3 HHI.out
          go_simp
          rw [← hx20]
          refine hK.out _ _ trivial (fun hHeld => ?_)
          clear hK K hb20 hx20
          (try simp only [Act.put, List.getElem_toArray, List.getElem_cons_zero, List.getElem_cons_succ, List.setIfInBounds_toArray, List.set_cons_zero, List.set_cons_succ])
          refine wpAnyH_ready (rs := [4]) (by kernel_rfl) (by simp) ?_
          refine AllReadyH.cons rfl (fun K hK => ?_) AllReadyH.nil
          clear hHeld
          obtain ⟨u2, x21, hrun21, ho21, hg21, hbl21⟩ := run_appOwn (P := Try.prog) x20 hi0 26 26 3 i0 (.int .i64 0) 8 Try.underlying26 hi hz0 hz1 hz2 rfl (Value.slice (some ⟨x0.heap.size, 0, none⟩) 0 0) 0 [] E20.out (.slice pu zl cu) ((row W k).map (Value.int .i64)) (HU.out.below B20.out).src (by have := HRL.out; have := HZL.out; rw [List.length_map]; unfold maxLen; omega) (by have := HRL.out; have := HZL.out; rw [List.length_map]; omega) H20.out
          have hlo21 : ∀ g, (Value.slice (some ⟨x0.heap.size, 0, none⟩) 0 0).ownBlock = some g → hi0 ≤ g := fun g hg => (owns_lt E20.out hg).1
          have F21 : Hid (FamH x21 w.heap.size hi0 s nilV (.slice pv md qv) us ⟨W.r.take k, [], d⟩) := Fam.keep F20.out (fun g h1 h2 h3 => hg21.block g h3 (fun e => by have := hlo21 g e.symm; omega))
          have V21 : Hid (RowW x21 gV s W.n (.slice pv md qv)) := Row.grownBy V20.out hg21 (fun e => owns_ne_rowT E20.out V20.out (by decide) e rfl)
          have R21 : Hid (RowW x21 (w.heap.size + 1) nilV 0 nilV) := Row.grownBy R20.out hg21 (fun e => owns_ne_rowT E20.out R20.out (by decide) e rfl)
          have B21 := Lib.hid (B20.out.grown hg21 B20.out.size (fun g hg => Nat.le_trans HLO.out (hlo21 g hg)))
          have H21 : Hid (hi0 ≤ x21.heap.size) := Nat.le_trans H20.out hg21.size
          have E21 : Hid (Own x21 hi0 u2 (row W k)) := by have h := ho21; rw [Nat.zero_add, List.nil_append, List.length_map] at h; exact h
          obtain ⟨pu2, cu2, hpu2⟩ := E21.out.ints.shape
          rw [HZL.out] at hpu2
          subst hpu2
          rw [if_pos (by rfl)]
          refine op_app _ _ _ rfl rfl rfl hrun21 ?_
          refine hK.out _ _ trivial (fun hHeld => ?_)
          clear hK K hrun21 ho21 hg21 hbl21 hlo21
          (try simp only [Act.put, List.getElem_toArray, List.getElem_cons_zero, List.getElem_cons_succ, List.setIfInBounds_toArray, List.set_cons_zero, List.set_cons_succ])
          refine wpAnyH_ready (rs := [5]) (by kernel_rfl) (by simp) ?_
          refine AllReadyH.cons rfl (fun K hK => ?_) AllReadyH.nil
          clear hHeld
          obtain ⟨x22, hx22⟩ : ∃ x, x = x21.alloc (.cells #[.slice pu2 zl cu2] 26) := ⟨_, rfl⟩
          have hb22 : Below x21.heap.size x21 x22 := by rw [hx22]; exact below1 x21 (.cells #[.slice pu2 zl cu2] 26)
          have F22 : Hid (FamH x22 w.heap.size hi0 s nilV (.slice pv md qv) us ⟨W.r.take k, [], d⟩) := Fam.below F21.out hb22
          have V22 := Lib.hid (RowW.below V21.out hb22); have R22 := Lib.hid (RowW.below R21.out hb22); have B22 := Lib.hid (bst B21.out hb22 B21.out.size); have H22 : Hid (hi0 ≤ x22.heap.size) := Nat.le_trans H21.out hb22.size
          have E22 : Hid (Own x22 hi0 (.slice pu2 zl cu2) (row W k)) := Own.below E21.out hb22
          have Y22 : Hid (SrcAt x22 (Value.slice (some ⟨x21.heap.size, 0, none⟩) 1 1) [.slice pu2 zl cu2]) := by rw [hx22]; exact src_oneV x21 _ rfl
          go_simp
          rw [← hx22]
          refine hK.out _ _ trivial (fun hHeld => ?_)
          clear hK K hb22 hx22
          (try simp only [Act.put, List.getElem_toArray, List.getElem_cons_zero, List.getElem_cons_succ, List.setIfInBounds_toArray, List.set_cons_zero, List.set_cons_succ])
          refine wpAnyH_ready (rs := [6]) (by kernel_rfl) (by simp) ?_
          refine AllReadyH.cons rfl (fun K hK => ?_) AllReadyH.nil
          clear hHeld
          have hou := F22.out.outer
          simp only [HTL.out] at hou
          obtain ⟨s2, x23, hrun23, ho23, hg23, hbl23⟩ := run_appOwn (P := Try.prog) x22 w.heap.size 25 25 26 j0 (.slice none 0 0) 24 Try.underlying25 hji hjz0 hjz1 hjz2 rfl s k ((List.range k).map us) hou (Value.slice (some ⟨x21.heap.size, 0, none⟩) 1 1) [.slice pu2 zl cu2] Y22.out (by have := HL1.out; simp only [List.length_singleton]; unfold maxLen; omega) (by have := HL1.out; simp only [List.length_singleton]; omega) B22.out.size
          have F23 := FamH.growRow F22.out (hi1 := x22.heap.size) (hi' := x23.heap.size) (zs := row W k) (Own.mono E22.out HLO.out) (fun g hg => owns_lt E22.out hg) H22.out hg23 (by simp only [HTL.out]; simp only [List.length_singleton] at ho23; exact ho23) hg23.size (fun g hg => by
            rcases hbl23 with h | h
            · exact .inr (by rw [← h]; exact hg)
            · rw [h] at hg; cases hg; refine .inl ⟨Nat.le_refl _, ?_⟩; have h5 := (owns_lt ho23 h).2; exact h5)
          have FF23 : Hid (FamH x23 w.heap.size x23.heap.size s2 nilV (.slice pv md qv) (upd us k (.slice pu2 zl cu2)) ⟨W.r.take (k + 1), [], d⟩) := by unfold Hid; rw [HTS.out]; simp only [HTL.out] at F23; exact F23
          have V23 : Hid (RowW x23 gV s W.n (.slice pv md qv)) := Row.grownBy V22.out hg23 (fun e => owns_ne_rowT hou V22.out (by decide) e rfl)
          have R23 : Hid (RowW x23 (w.heap.size + 1) nilV 0 nilV) := Row.grownBy R22.out hg23 (fun e => owns_ne_rowT hou R22.out (by decide) e rfl)
          have B23 := Lib.hid (B22.out.grown hg23 B22.out.size (fun g hg => (owns_lt hou hg).1))
          obtain ⟨ps, cs, hps⟩ : ∃ p c, s2 = .slice p (k + 1) c := by obtain ⟨p, c, h⟩ := FF23.out.reads.f.shape; refine ⟨p, c, ?_⟩; rw [h]; simp only [HTS.out, List.length_append, HTL.out, List.length_singleton]
          subst hps
          rw [if_pos (by rfl)]
          refine op_app _ _ _ rfl rfl rfl hrun23 ?_
          refine hK.out _ _ trivial (fun hHeld => ?_)
          clear hK K hrun23 ho23 hg23 hbl23 F23 hou
          (try simp only [Act.put, List.getElem_toArray, List.getElem_cons_zero, List.getElem_cons_succ, List.setIfInBounds_toArray, List.set_cons_zero, List.set_cons_succ])
          refine wpAnyH_take (i := 7) (v := ?va7x10) rfl (by kernel_rfl) (by kernel_rfl) (by kernel_rfl) (fun _ _ _ h => h) (Or.inl ⟨by rfl, ?hy7x10⟩) (by assumption) ?rest7x10
          case hy7x10 => (intro w hSw; (try dsimp only at hSw); go_simp; try with_reducible rfl)
          (try simp only [Act.put, List.getElem_toArray, List.getElem_cons_zero, List.getElem_cons_succ, List.setIfInBounds_toArray, List.set_cons_zero, List.set_cons_succ])
          have z0 := RowW.c0 V23.out
          have f0 := Row.frozen V23.out 0
          have v1 : RowW (x23.setCell ⟨gV, 0, none⟩ (.slice ps (k + 1) cs)) gV (.slice ps (k + 1) cs) W.n (.slice pv md qv) := RowW.set0 V23.out (.slice ps (k + 1) cs)
          have v2 : FamH (x23.setCell ⟨gV, 0, none⟩ (.slice ps (k + 1) cs)) w.heap.size (x23.setCell ⟨gV, 0, none⟩ (.slice ps (k + 1) cs)).heap.size (.slice ps (k + 1) cs) nilV (.slice pv md qv) (upd us k (.slice pu2 zl cu2)) ⟨W.r.take (k + 1), [], d⟩ := by rw [World.size_setCell]; exact FF23.out.keepRowW V23.out fun i hi _ => heap_setCell_other x23 ⟨gV, 0, none⟩ i _ hi
          have v3 : Hid (RowW (x23.setCell ⟨gV, 0, none⟩ (.slice ps (k + 1) cs)) (w.heap.size + 1) nilV 0 nilV) := Row.other R23.out ⟨gV, 0, none⟩ (by have := hGV.out; show w.heap.size + 1 ≠ gV; omega) (.slice ps (k + 1) cs)
          have v4 := Lib.hid (B23.out.setCell (p := ⟨gV, 0, none⟩) (by have := hGV.out; show w.heap.size ≤ gV; omega) (.slice ps (k + 1) cs))
          have vv := Lib.hid (And.intro v2 v1)
          clear v1 v2
          clear hHeld
          refine wpAnyH_ready (rs := [8]) (by kernel_rfl) (by simp) ?_
          refine AllReadyH.cons rfl (fun K hK => ?_) AllReadyH.nil
          generalize hs0 : s = s0 at z0
          go_simp
          refine hK.out _ _ trivial (fun hHeld => ?_)
          clear hK K z0 f0
          (try simp only [Act.put, List.getElem_toArray, List.getElem_cons_zero, List.getElem_cons_succ])
          refine wpAnyH_done (by kernel_rfl) ?_ _
          clear hHeld
          go_wp2_with fail
          go_roundw
          case rel => exact ⟨k + 1, by omega, by go_num, ⟨_, _, vv.out.1, vv.out.2⟩, v3, v4⟩
          case measure => simp [intOf]; omega
        · skip
          clear hHeld
          obtain ⟨x24, hx24⟩ : ∃ x, x = x0.alloc (.cells #[] 3) := ⟨_, rfl⟩
          have hb24 : Below x0.heap.size x0 x24 := by rw [hx24]; exact below1 x0 (.cells #[] 3)
          have F24 : Hid (FamH x24 w.heap.size hi0 s nilV (.slice pv md qv) us ⟨W.r.take k, [], d⟩) := Fam.below HF.out hb24
          have V24 := Lib.hid (RowW.below HV.out hb24); have R24 := Lib.hid (RowW.below hR.out hb24); have B24 := Lib.hid (bst hB.out hb24 hB.out.size); have H24 : Hid (hi0 ≤ x24.heap.size) := Nat.le_trans HHI.out hb24.size
          have E24 : Hid (x24.ownsRow hi0 3 1 (Value.slice (some ⟨x0.heap.size, 0, none⟩) 0 0) 0 []) := by rw [hx24]; exact own_emptyLo x0 3 HHI.out
          go_simp
          rw [← hx24]
          refine hK.out _ _ trivial (fun hHeld => ?_)
          clear hK K hb24 hx24
          (try simp only [Act.put, List.getElem_toArray, List.getElem_cons_zero, List.getElem_cons_succ, List.setIfInBounds_toArray, List.set_cons_zero, List.set_cons_succ])
          refine wpAnyH_ready (rs := [1, 4]) (by kernel_rfl) (by simp) ?_
          refine AllReadyH.cons rfl (fun K hK => ?_) (AllReadyH.cons rfl (fun K hK => ?_) AllReadyH.nil)
          · skip
            clear hHeld
            have c25 := RowW.c0 V24.out
            go_simp
            refine hK.out _ _ trivial (fun hHeld => ?_)
            clear hK K c25
            (try simp only [Act.put, List.getElem_toArray, List.getElem_cons_zero, List.getElem_cons_succ, List.setIfInBounds_toArray, List.set_cons_zero, List.set_cons_succ])
            refine wpAnyH_ready (rs := [4]) (by kernel_rfl) (by simp) ?_
            refine AllReadyH.cons rfl (fun K hK => ?_) AllReadyH.nil
            clear hHeld
            obtain ⟨u2, x26, hrun26, ho26, hg26, hbl26⟩ := run_appOwn (P := Try.prog) x24 hi0 26 26 3 i0 (.int .i64 0) 8 Try.underlying26 hi hz0 hz1 hz2 rfl (Value.slice (some ⟨x0.heap.size, 0, none⟩) 0 0) 0 [] E24.out (.slice pu zl cu) ((row W k).map (Value.int .i64)) (HU.out.below B24.out).src (by have := HRL.out; have := HZL.out; rw [List.length_map]; unfold maxLen; omega) (by have := HRL.out; have := HZL.out; rw [List.length_map]; omega) H24.out
            have hlo26 : ∀ g, (Value.slice (some ⟨x0.heap.size, 0, none⟩) 0 0).ownBlock = some g → hi0 ≤ g := fun g hg => (owns_lt E24.out hg).1
            have F26 : Hid (FamH x26 w.heap.size hi0 s nilV (.slice pv md qv) us ⟨W.r.take k, [], d⟩) := Fam.keep F24.out (fun g h1 h2 h3 => hg26.block g h3 (fun e => by have := hlo26 g e.symm; omega))
            have V26 : Hid (RowW x26 gV s W.n (.slice pv md qv)) := Row.grownBy V24.out hg26 (fun e => owns_ne_rowT E24.out V24.out (by decide) e rfl)
            have R26 : Hid (RowW x26 (w.heap.size + 1) nilV 0 nilV) := Row.grownBy R24.out hg26 (fun e => owns_ne_rowT E24.out R24.out (by decide) e rfl)
            have B26 := Lib.hid (B24.out.grown hg26 B24.out.size (fun g hg => Nat.le_trans HLO.out (hlo26 g hg)))
            have H26 : Hid (hi0 ≤ x26.heap.size) := Nat.le_trans H24.out hg26.size
            have E26 : Hid (Own x26 hi0 u2 (row W k)) := by have h := ho26; rw [Nat.zero_add, List.nil_append, List.length_map] at h; exact h
            obtain ⟨pu2, cu2, hpu2⟩ := E26.out.ints.shape
            rw [HZL.out] at hpu2
            subst hpu2
            rw [if_pos (by rfl)]
            refine op_app _ _ _ rfl rfl rfl hrun26 ?_
            refine hK.out _ _ trivial (fun hHeld => ?_)
            clear hK K hrun26 ho26 hg26 hbl26 hlo26
            (try simp only [Act.put, List.getElem_toArray, List.getElem_cons_zero, List.getElem_cons_succ, List.setIfInBounds_toArray, List.set_cons_zero, List.set_cons_succ])
            refine wpAnyH_ready (rs := [5]) (by kernel_rfl) (by simp) ?_
            refine AllReadyH.cons rfl (fun K hK => ?_) AllReadyH.nil
            clear hHeld
            obtain ⟨x27, hx27⟩ : ∃ x, x = x26.alloc (.cells #[.slice pu2 zl cu2] 26) := ⟨_, rfl⟩
            have hb27 : Below x26.heap.size x26 x27 := by rw [hx27]; exact below1 x26 (.cells #[.slice pu2 zl cu2] 26)
            have F27 : Hid (FamH x27 w.heap.size hi0 s nilV (.slice pv md qv) us ⟨W.r.take k, [], d⟩) := Fam.below F26.out hb27
            have V27 := Lib.hid (RowW.below V26.out hb27); have R27 := Lib.hid (RowW.below R26.out hb27); have B27 := Lib.hid (bst B26.out hb27 B26.out.size); have H27 : Hid (hi0 ≤ x27.heap.size) := Nat.le_trans H26.out hb27.size
            have E27 : Hid (Own x27 hi0 (.slice pu2 zl cu2) (row W k)) := Own.below E26.out hb27
            have Y27 : Hid (SrcAt x27 (Value.slice (some ⟨x26.heap.size, 0, none⟩) 1 1) [.slice pu2 zl cu2]) := by rw [hx27]; exact src_oneV x26 _ rfl
            go_simp
            rw [← hx27]
            refine hK.out _ _ trivial (fun hHeld => ?_)
            clear hK K hb27 hx27
            (try simp only [Act.put, List.getElem_toArray, List.getElem_cons_zero, List.getElem_cons_succ, List.setIfInBounds_toArray, List.set_cons_zero, List.set_cons_succ])
            refine wpAnyH_ready (rs := [6]) (by kernel_rfl) (by simp) ?_
            refine AllReadyH.cons rfl (fun K hK => ?_) AllReadyH.nil
            clear hHeld
            have hou := F27.out.outer
            simp only [HTL.out] at hou
            obtain ⟨s2, x28, hrun28, ho28, hg28, hbl28⟩ := run_appOwn (P := Try.prog) x27 w.heap.size 25 25 26 j0 (.slice none 0 0) 24 Try.underlying25 hji hjz0 hjz1 hjz2 rfl s k ((List.range k).map us) hou (Value.slice (some ⟨x26.heap.size, 0, none⟩) 1 1) [.slice pu2 zl cu2] Y27.out (by have := HL1.out; simp only [List.length_singleton]; unfold maxLen; omega) (by have := HL1.out; simp only [List.length_singleton]; omega) B27.out.size
            have F28 := FamH.growRow F27.out (hi1 := x27.heap.size) (hi' := x28.heap.size) (zs := row W k) (Own.mono E27.out HLO.out) (fun g hg => owns_lt E27.out hg) H27.out hg28 (by simp only [HTL.out]; simp only [List.length_singleton] at ho28; exact ho28) hg28.size (fun g hg => by
              rcases hbl28 with h | h
              · exact .inr (by rw [← h]; exact hg)
              · rw [h] at hg; cases hg; refine .inl ⟨Nat.le_refl _, ?_⟩; have h5 := (owns_lt ho28 h).2; exact h5)
            have FF28 : Hid (FamH x28 w.heap.size x28.heap.size s2 nilV (.slice pv md qv) (upd us k (.slice pu2 zl cu2)) ⟨W.r.take (k + 1), [], d⟩) := by unfold Hid; rw [HTS.out]; simp only [HTL.out] at F28; exact F28
            have V28 : Hid (RowW x28 gV s W.n (.slice pv md qv)) := Row.grownBy V27.out hg28 (fun e => owns_ne_rowT hou V27.out (by decide) e rfl)
            have R28 : Hid (RowW x28 (w.heap.size + 1) nilV 0 nilV) := Row.grownBy R27.out hg28 (fun e => owns_ne_rowT hou R27.out (by decide) e rfl)
            have B28 := Lib.hid (B27.out.grown hg28 B27.out.size (fun g hg => (owns_lt hou hg).1))
            obtain ⟨ps, cs, hps⟩ : ∃ p c, s2 = .slice p (k + 1) c := by obtain ⟨p, c, h⟩ := FF28.out.reads.f.shape; refine ⟨p, c, ?_⟩; rw [h]; simp only [HTS.out, List.length_append, HTL.out, List.length_singleton]
            subst hps
            rw [if_pos (by rfl)]
            refine op_app _ _ _ rfl rfl rfl hrun28 ?_
            refine hK.out _ _ trivial (fun hHeld => ?_)
            clear hK K hrun28 ho28 hg28 hbl28 F28 hou
            (try simp only [Act.put, List.getElem_toArray, List.getElem_cons_zero, List.getElem_cons_succ, List.setIfInBounds_toArray, List.set_cons_zero, List.set_cons_succ])
            refine wpAnyH_take (i := 7) (v := ?va7x11) rfl (by kernel_rfl) (by kernel_rfl) (by kernel_rfl) (fun _ _ _ h => h) (Or.inl ⟨by rfl, ?hy7x11⟩) (by assumption) ?rest7x11
            case hy7x11 => (intro w hSw; (try dsimp only at hSw); go_simp; try with_reducible rfl)
            (try simp only [Act.put, List.getElem_toArray, List.getElem_cons_zero, List.getElem_cons_succ, List.setIfInBounds_toArray, List.set_cons_zero, List.set_cons_succ])
            have z0 := RowW.c0 V28.out
            have f0 := Row.frozen V28.out 0
            have v1 : RowW (x28.setCell ⟨gV, 0, none⟩ (.slice ps (k + 1) cs)) gV (.slice ps (k + 1) cs) W.n (.slice pv md qv) := RowW.set0 V28.out (.slice ps (k + 1) cs)
            have v2 : FamH (x28.setCell ⟨gV, 0, none⟩ (.slice ps (k + 1) cs)) w.heap.size (x28.setCell ⟨gV, 0, none⟩ (.slice ps (k + 1) cs)).heap.size (.slice ps (k + 1) cs) nilV (.slice pv md qv) (upd us k (.slice pu2 zl cu2)) ⟨W.r.take (k + 1), [], d⟩ := by rw [World.size_setCell]; exact FF28.out.keepRowW V28.out fun i hi _ => heap_setCell_other x28 ⟨gV, 0, none⟩ i _ hi
            have v3 : Hid (RowW (x28.setCell ⟨gV, 0, none⟩ (.slice ps (k + 1) cs)) (w.heap.size + 1) nilV 0 nilV) := Row.other R28.out ⟨gV, 0, none⟩ (by have := hGV.out; show w.heap.size + 1 ≠ gV; omega) (.slice ps (k + 1) cs)
            have v4 := Lib.hid (B28.out.setCell (p := ⟨gV, 0, none⟩) (by have := hGV.out; show w.heap.size ≤ gV; omega) (.slice ps (k + 1) cs))
            have vv := Lib.hid (And.intro v2 v1)
            clear v1 v2
            clear hHeld
            refine wpAnyH_ready (rs := [8]) (by kernel_rfl) (by simp) ?_
            refine AllReadyH.cons rfl (fun K hK => ?_) AllReadyH.nil
            generalize hs0 : s = s0 at z0
            go_simp
            refine hK.out _ _ trivial (fun hHeld => ?_)
            clear hK K z0 f0
            (try simp only [Act.put, List.getElem_toArray, List.getElem_cons_zero, List.getElem_cons_succ])
            refine wpAnyH_done (by kernel_rfl) ?_ _
            clear hHeld
            go_wp2_with fail
            go_roundw
            case rel => exact ⟨k + 1, by omega, by go_num, ⟨_, _, vv.out.1, vv.out.2⟩, v3, v4⟩
            case measure => simp [intOf]; omega
          · skip
            clear hHeld
            obtain ⟨u2, x29, hrun29, ho29, hg29, hbl29⟩ := run_appOwn (P := Try.prog) x24 hi0 26 26 3 i0 (.int .i64 0) 8 Try.underlying26 hi hz0 hz1 hz2 rfl (Value.slice (some ⟨x0.heap.size, 0, none⟩) 0 0) 0 [] E24.out (.slice pu zl cu) ((row W k).map (Value.int .i64)) (HU.out.below B24.out).src (by have := HRL.out; have := HZL.out; rw [List.length_map]; unfold maxLen; omega) (by have := HRL.out; have := HZL.out; rw [List.length_map]; omega) H24.out
            have hlo29 : ∀ g, (Value.slice (some ⟨x0.heap.size, 0, none⟩) 0 0).ownBlock = some g → hi0 ≤ g := fun g hg => (owns_lt E24.out hg).1
            have F29 : Hid (FamH x29 w.heap.size hi0 s nilV (.slice pv md qv) us ⟨W.r.take k, [], d⟩) := Fam.keep F24.out (fun g h1 h2 h3 => hg29.block g h3 (fun e => by have := hlo29 g e.symm; omega))
            have V29 : Hid (RowW x29 gV s W.n (.slice pv md qv)) := Row.grownBy V24.out hg29 (fun e => owns_ne_rowT E24.out V24.out (by decide) e rfl)
            have R29 : Hid (RowW x29 (w.heap.size + 1) nilV 0 nilV) := Row.grownBy R24.out hg29 (fun e => owns_ne_rowT E24.out R24.out (by decide) e rfl)
            have B29 := Lib.hid (B24.out.grown hg29 B24.out.size (fun g hg => Nat.le_trans HLO.out (hlo29 g hg)))
            have H29 : Hid (hi0 ≤ x29.heap.size) := Nat.le_trans H24.out hg29.size
            have E29 : Hid (Own x29 hi0 u2 (row W k)) := by have h := ho29; rw [Nat.zero_add, List.nil_append, List.length_map] at h; exact h
            obtain ⟨pu2, cu2, hpu2⟩ := E29.out.ints.shape
            rw [HZL.out] at hpu2
            subst hpu2
            rw [if_pos (by rfl)]
            refine op_app _ _ _ rfl rfl rfl hrun29 ?_
            refine hK.out _ _ trivial (fun hHeld => ?_)
            clear hK K hrun29 ho29 hg29 hbl29 hlo29
            (try simp only [Act.put, List.getElem_toArray, List.getElem_cons_zero, List.getElem_cons_succ, List.setIfInBounds_toArray, List.set_cons_zero, List.set_cons_succ])
            refine wpAnyH_ready (rs := [1, 5]) (by kernel_rfl) (by simp) ?_
            refine AllReadyH.cons rfl (fun K hK => ?_) (AllReadyH.cons rfl (fun K hK => ?_) AllReadyH.nil)
            · skip
              clear hHeld
              have c30 := RowW.c0 V29.out
              go_simp
              refine hK.out _ _ trivial (fun hHeld => ?_)
              clear hK K c30
              (try simp only [Act.put, List.getElem_toArray, List.getElem_cons_zero, List.getElem_cons_succ, List.setIfInBounds_toArray, List.set_cons_zero, List.set_cons_succ])
              refine wpAnyH_ready (rs := [5]) (by kernel_rfl) (by simp) ?_
              refine AllReadyH.cons rfl (fun K hK => ?_) AllReadyH.nil
              clear hHeld
              obtain ⟨x31, hx31⟩ : ∃ x, x = x29.alloc (.cells #[.slice pu2 zl cu2] 26) := ⟨_, rfl⟩
              have hb31 : Below x29.heap.size x29 x31 := by rw [hx31]; exact below1 x29 (.cells #[.slice pu2 zl cu2] 26)
              have F31 : Hid (FamH x31 w.heap.size hi0 s nilV (.slice pv md qv) us ⟨W.r.take k, [], d⟩) := Fam.below F29.out hb31
              have V31 := Lib.hid (RowW.below V29.out hb31); have R31 := Lib.hid (RowW.below R29.out hb31); have B31 := Lib.hid (bst B29.out hb31 B29.out.size); have H31 : Hid (hi0 ≤ x31.heap.size) := Nat.le_trans H29.out hb31.size
              have E31 : Hid (Own x31 hi0 (.slice pu2 zl cu2) (row W k)) := Own.below E29.out hb31
              have Y31 : Hid (SrcAt x31 (Value.slice (some ⟨x29.heap.size, 0, none⟩) 1 1) [.slice pu2 zl cu2]) := by rw [hx31]; exact src_oneV x29 _ rfl
              go_simp
              rw [← hx31]
              refine hK.out _ _ trivial (fun hHeld => ?_)
              clear hK K hb31 hx31
              (try simp only [Act.put, List.getElem_toArray, List.getElem_cons_zero, List.getElem_cons_succ, List.setIfInBounds_toArray, List.set_cons_zero, List.set_cons_succ])
              refine wpAnyH_ready (rs := [6]) (by kernel_rfl) (by simp) ?_
              refine AllReadyH.cons rfl (fun K hK => ?_) AllReadyH.nil
              clear hHeld
              have hou := F31.out.outer
              simp only [HTL.out] at hou
              obtain ⟨s2, x32, hrun32, ho32, hg32, hbl32⟩ := run_appOwn (P := Try.prog) x31 w.heap.size 25 25 26 j0 (.slice none 0 0) 24 Try.underlying25 hji hjz0 hjz1 hjz2 rfl s k ((List.range k).map us) hou (Value.slice (some ⟨x29.heap.size, 0, none⟩) 1 1) [.slice pu2 zl cu2] Y31.out (by have := HL1.out; simp only [List.length_singleton]; unfold maxLen; omega) (by have := HL1.out; simp only [List.length_singleton]; omega) B31.out.size
              have F32 := FamH.growRow F31.out (hi1 := x31.heap.size) (hi' := x32.heap.size) (zs := row W k) (Own.mono E31.out HLO.out) (fun g hg => owns_lt E31.out hg) H31.out hg32 (by simp only [HTL.out]; simp only [List.length_singleton] at ho32; exact ho32) hg32.size (fun g hg => by
                rcases hbl32 with h | h
                · exact .inr (by rw [← h]; exact hg)
                · rw [h] at hg; cases hg; refine .inl ⟨Nat.le_refl _, ?_⟩; have h5 := (owns_lt ho32 h).2; exact h5)
              have FF32 : Hid (FamH x32 w.heap.size x32.heap.size s2 nilV (.slice pv md qv) (upd us k (.slice pu2 zl cu2)) ⟨W.r.take (k + 1), [], d⟩) := by unfold Hid; rw [HTS.out]; simp only [HTL.out] at F32; exact F32
              have V32 : Hid (RowW x32 gV s W.n (.slice pv md qv)) := Row.grownBy V31.out hg32 (fun e => owns_ne_rowT hou V31.out (by decide) e rfl)
              have R32 : Hid (RowW x32 (w.heap.size + 1) nilV 0 nilV) := Row.grownBy R31.out hg32 (fun e => owns_ne_rowT hou R31.out (by decide) e rfl)
              have B32 := Lib.hid (B31.out.grown hg32 B31.out.size (fun g hg => (owns_lt hou hg).1))
              obtain ⟨ps, cs, hps⟩ : ∃ p c, s2 = .slice p (k + 1) c := by obtain ⟨p, c, h⟩ := FF32.out.reads.f.shape; refine ⟨p, c, ?_⟩; rw [h]; simp only [HTS.out, List.length_append, HTL.out, List.length_singleton]
              subst hps
              rw [if_pos (by rfl)]
              refine op_app _ _ _ rfl rfl rfl hrun32 ?_
              refine hK.out _ _ trivial (fun hHeld => ?_)
              clear hK K hrun32 ho32 hg32 hbl32 F32 hou
              (try simp only [Act.put, List.getElem_toArray, List.getElem_cons_zero, List.getElem_cons_succ, List.setIfInBounds_toArray, List.set_cons_zero, List.set_cons_succ])
              refine wpAnyH_take (i := 7) (v := ?va7x12) rfl (by kernel_rfl) (by kernel_rfl) (by kernel_rfl) (fun _ _ _ h => h) (Or.inl ⟨by rfl, ?hy7x12⟩) (by assumption) ?rest7x12
              case hy7x12 => (intro w hSw; (try dsimp only at hSw); go_simp; try with_reducible rfl)
              (try simp only [Act.put, List.getElem_toArray, List.getElem_cons_zero, List.getElem_cons_succ, List.setIfInBounds_toArray, List.set_cons_zero, List.set_cons_succ])
              have z0 := RowW.c0 V32.out
              have f0 := Row.frozen V32.out 0
              have v1 : RowW (x32.setCell ⟨gV, 0, none⟩ (.slice ps (k + 1) cs)) gV (.slice ps (k + 1) cs) W.n (.slice pv md qv) := RowW.set0 V32.out (.slice ps (k + 1) cs)
              have v2 : FamH (x32.setCell ⟨gV, 0, none⟩ (.slice ps (k + 1) cs)) w.heap.size (x32.setCell ⟨gV, 0, none⟩ (.slice ps (k + 1) cs)).heap.size (.slice ps (k + 1) cs) nilV (.slice pv md qv) (upd us k (.slice pu2 zl cu2)) ⟨W.r.take (k + 1), [], d⟩ := by rw [World.size_setCell]; exact FF32.out.keepRowW V32.out fun i hi _ => heap_setCell_other x32 ⟨gV, 0, none⟩ i _ hi
              have v3 : Hid (RowW (x32.setCell ⟨gV, 0, none⟩ (.slice ps (k + 1) cs)) (w.heap.size + 1) nilV 0 nilV) := Row.other R32.out ⟨gV, 0, none⟩ (by have := hGV.out; show w.heap.size + 1 ≠ gV; omega) (.slice ps (k + 1) cs)
              have v4 := Lib.hid (B32.out.setCell (p := ⟨gV, 0, none⟩) (by have := hGV.out; show w.heap.size ≤ gV; omega) (.slice ps (k + 1) cs))
              have vv := Lib.hid (And.intro v2 v1)
              clear v1 v2
              clear hHeld
              refine wpAnyH_ready (rs := [8]) (by kernel_rfl) (by simp) ?_
              refine AllReadyH.cons rfl (fun K hK => ?_) AllReadyH.nil
              generalize hs0 : s = s0 at z0
              go_simp
              refine hK.out _ _ trivial (fun hHeld => ?_)
              clear hK K z0 f0
              (try simp only [Act.put, List.getElem_toArray, List.getElem_cons_zero, List.getElem_cons_succ])
              refine wpAnyH_done (by kernel_rfl) ?_ _
              clear hHeld
              go_wp2_with fail
              go_roundw
              case rel => exact ⟨k + 1, by omega, by go_num, ⟨_, _, vv.out.1, vv.out.2⟩, v3, v4⟩
              case measure => simp [intOf]; omega
            · skip
              clear hHeld
              obtain ⟨x33, hx33⟩ : ∃ x, x = x29.alloc (.cells #[.slice pu2 zl cu2] 26) := ⟨_, rfl⟩
              have hb33 : Below x29.heap.size x29 x33 := by rw [hx33]; exact below1 x29 (.cells #[.slice pu2 zl cu2] 26)
              have F33 : Hid (FamH x33 w.heap.size hi0 s nilV (.slice pv md qv) us ⟨W.r.take k, [], d⟩) := Fam.below F29.out hb33
              have V33 := Lib.hid (RowW.below V29.out hb33); have R33 := Lib.hid (RowW.below R29.out hb33); have B33 := Lib.hid (bst B29.out hb33 B29.out.size); have H33 : Hid (hi0 ≤ x33.heap.size) := Nat.le_trans H29.out hb33.size
              have E33 : Hid (Own x33 hi0 (.slice pu2 zl cu2) (row W k)) := Own.below E29.out hb33
              have Y33 : Hid (SrcAt x33 (Value.slice (some ⟨x29.heap.size, 0, none⟩) 1 1) [.slice pu2 zl cu2]) := by rw [hx33]; exact src_oneV x29 _ rfl
              go_simp
              rw [← hx33]
              refine hK.out _ _ trivial (fun hHeld => ?_)
              clear hK K hb33 hx33
              (try simp only [Act.put, List.getElem_toArray, List.getElem_cons_zero, List.getElem_cons_succ, List.setIfInBounds_toArray, List.set_cons_zero, List.set_cons_succ])
              refine wpAnyH_ready (rs := [1]) (by kernel_rfl) (by simp) ?_
              refine AllReadyH.cons rfl (fun K hK => ?_) AllReadyH.nil
              clear hHeld
              have c34 := RowW.c0 V33.out
              go_simp
              refine hK.out _ _ trivial (fun hHeld => ?_)
              clear hK K c34
              (try simp only [Act.put, List.getElem_toArray, List.getElem_cons_zero, List.getElem_cons_succ, List.setIfInBounds_toArray, List.set_cons_zero, List.set_cons_succ])
              refine wpAnyH_ready (rs := [6]) (by kernel_rfl) (by simp) ?_
              refine AllReadyH.cons rfl (fun K hK => ?_) AllReadyH.nil
              clear hHeld
              have hou := F33.out.outer
              simp only [HTL.out] at hou
              obtain ⟨s2, x35, hrun35, ho35, hg35, hbl35⟩ := run_appOwn (P := Try.prog) x33 w.heap.size 25 25 26 j0 (.slice none 0 0) 24 Try.underlying25 hji hjz0 hjz1 hjz2 rfl s k ((List.range k).map us) hou (Value.slice (some ⟨x29.heap.size, 0, none⟩) 1 1) [.slice pu2 zl cu2] Y33.out (by have := HL1.out; simp only [List.length_singleton]; unfold maxLen; omega) (by have := HL1.out; simp only [List.length_singleton]; omega) B33.out.size
              have F35 := FamH.growRow F33.out (hi1 := x33.heap.size) (hi' := x35.heap.size) (zs := row W k) (Own.mono E33.out HLO.out) (fun g hg => owns_lt E33.out hg) H33.out hg35 (by simp only [HTL.out]; simp only [List.length_singleton] at ho35; exact ho35) hg35.size (fun g hg => by
                rcases hbl35 with h | h
                · exact .inr (by rw [← h]; exact hg)
                · rw [h] at hg; cases hg; refine .inl ⟨Nat.le_refl _, ?_⟩; have h5 := (owns_lt ho35 h).2; exact h5)
              have FF35 : Hid (FamH x35 w.heap.size x35.heap.size s2 nilV (.slice pv md qv) (upd us k (.slice pu2 zl cu2)) ⟨W.r.take (k + 1), [], d⟩) := by unfold Hid; rw [HTS.out]; simp only [HTL.out] at F35; exact F35
              have V35 : Hid (RowW x35 gV s W.n (.slice pv md qv)) := Row.grownBy V33.out hg35 (fun e => owns_ne_rowT hou V33.out (by decide) e rfl)
              have R35 : Hid (RowW x35 (w.heap.size + 1) nilV 0 nilV) := Row.grownBy R33.out hg35 (fun e => owns_ne_rowT hou R33.out (by decide) e rfl)
              have B35 := Lib.hid (B33.out.grown hg35 B33.out.size (fun g hg => (owns_lt hou hg).1))
              obtain ⟨ps, cs, hps⟩ : ∃ p c, s2 = .slice p (k + 1) c := by obtain ⟨p, c, h⟩ := FF35.out.reads.f.shape; refine ⟨p, c, ?_⟩; rw [h]; simp only [HTS.out, List.length_append, HTL.out, List.length_singleton]
              subst hps
              rw [if_pos (by rfl)]
              refine op_app _ _ _ rfl rfl rfl hrun35 ?_
              refine hK.out _ _ trivial (fun hHeld => ?_)
              clear hK K hrun35 ho35 hg35 hbl35 F35 hou
              (try simp only [Act.put, List.getElem_toArray, List.getElem_cons_zero, List.getElem_cons_succ, List.setIfInBounds_toArray, List.set_cons_zero, List.set_cons_succ])
              refine wpAnyH_take (i := 7) (v := ?va7x13) rfl (by kernel_rfl) (by kernel_rfl) (by kernel_rfl) (fun _ _ _ h => h) (Or.inl ⟨by rfl, ?hy7x13⟩) (by assumption) ?rest7x13
              case hy7x13 => (intro w hSw; (try dsimp only at hSw); go_simp; try with_reducible rfl)
              (try simp only [Act.put, List.getElem_toArray, List.getElem_cons_zero, List.getElem_cons_succ, List.setIfInBounds_toArray, List.set_cons_zero, List.set_cons_succ])
              have z0 := RowW.c0 V35.out
              have f0 := Row.frozen V35.out 0
              have v1 : RowW (x35.setCell ⟨gV, 0, none⟩ (.slice ps (k + 1) cs)) gV (.slice ps (k + 1) cs) W.n (.slice pv md qv) := RowW.set0 V35.out (.slice ps (k + 1) cs)
              have v2 : FamH (x35.setCell ⟨gV, 0, none⟩ (.slice ps (k + 1) cs)) w.heap.size (x35.setCell ⟨gV, 0, none⟩ (.slice ps (k + 1) cs)).heap.size (.slice ps (k + 1) cs) nilV (.slice pv md qv) (upd us k (.slice pu2 zl cu2)) ⟨W.r.take (k + 1), [], d⟩ := by rw [World.size_setCell]; exact FF35.out.keepRowW V35.out fun i hi _ => heap_setCell_other x35 ⟨gV, 0, none⟩ i _ hi
              have v3 : Hid (RowW (x35.setCell ⟨gV, 0, none⟩ (.slice ps (k + 1) cs)) (w.heap.size + 1) nilV 0 nilV) := Row.other R35.out ⟨gV, 0, none⟩ (by have := hGV.out; show w.heap.size + 1 ≠ gV; omega) (.slice ps (k + 1) cs)
              have v4 := Lib.hid (B35.out.setCell (p := ⟨gV, 0, none⟩) (by have := hGV.out; show w.heap.size ≤ gV; omega) (.slice ps (k + 1) cs))
              have vv := Lib.hid (And.intro v2 v1)
              clear v1 v2
              clear hHeld
              refine wpAnyH_ready (rs := [8]) (by kernel_rfl) (by simp) ?_
              refine AllReadyH.cons rfl (fun K hK => ?_) AllReadyH.nil
              generalize hs0 : s = s0 at z0
              go_simp
              refine hK.out _ _ trivial (fun hHeld => ?_)
              clear hK K z0 f0
              (try simp only [Act.put, List.getElem_toArray, List.getElem_cons_zero, List.getElem_cons_succ])
              refine wpAnyH_done (by kernel_rfl) ?_ _
              clear hHeld
              go_wp2_with fail
              go_roundw
              case rel => exact ⟨k + 1, by omega, by go_num, ⟨_, _, vv.out.1, vv.out.2⟩, v3, v4⟩
              case measure => simp [intOf]; omega
      · obtain rfl : k = nr := by omega
        have HTT : Hid (W.r.take k = W.r) := by unfold Hid; rw [← HNR.out]; exact List.take_length
        have HOW : Hid (OwnW wr w.heap.size wr.heap.size s (.slice pv md qv) W) := ⟨us, by have h := hf; rw [HTT.out] at h; show FamH _ _ _ _ _ _ _ ⟨W.r, [], W.d⟩; rw [HDD.out]; exact h⟩
        obtain ⟨⟨ps, cs, hps⟩, _⟩ := HOW.out.shapes
        generalize W.r.length = ns at hps
        subst hps
        have HV := Lib.hid hv
        clear hf hv
        go_wp2_with (first
          | (refine wl_loadW rfl _ rfl gV _ _ _ HV.out rfl ?_)
          | (refine wl_storeW rfl _ _ rfl (w.heap.size + 1) (.slice ps ns cs) W.n (.slice pv md qv) _ _ _ hR.out rfl rfl rfl rfl ?_))
        refine bodyPost_ret (res_row Try.results56 (Row.put hR.out (w3 (.slice ps ns cs) W.n (.slice pv md qv))) rfl Try.underlying28 rfl info_work) rfl ⟨_, _, rfl, ?_, below_setRow hB.out (by omega) _⟩
        have := HOW.out.wholeRow hR.out (w3 (.slice ps ns cs) W.n (.slice pv md qv))
        rw [size_setRow]
        exact this

end Go.Proofs.Ytkbphmnacdpdgaa
namespace Go.Proofs.Ytkbphmnacdpdgaa
open Go.RowKit Ph Kw

/-- A row is changed where it lies or moves; its place is stored. -/
theorem FamH.turnRow {w w' : World} {lo hi : Nat} {a b c : Value} {us : Nat → Value} {h : H} (k : FamH w lo hi a b c us h) {i : Nat} (hi0 : i < h.f.length) {u : Value} {zs : List Int} (hg : w.grownBy w' (us i).ownBlock) (ho : Own w' lo u zs) {hi' : Nat} (hh : hi ≤ hi') (hu : ∀ g, u.ownBlock = some g → (hi ≤ g ∧ g < hi') ∨ (us i).ownBlock = some g) {g cap : Nat} (ha : a = .slice (some ⟨g, 0, none⟩) h.f.length cap) :
    FamH (w'.setCell ⟨g, i, none⟩ u) lo hi' a b c (upd us i u) ⟨h.f.set i zs, h.l, h.r⟩ ∧ w'.grownBy (w'.setCell ⟨g, i, none⟩ u) (some g) := by
  subst ha
  have k1 := Fam.turn k (k := i + 3) (by omega) (u := u) (ds := zs.map (Value.int .i64)) hg (by simp only [tyH, List.length_map]; exact ho) hh hu
  have o1 : w'.ownsRow lo 26 1 (.slice (some ⟨g, 0, none⟩) h.f.length cap) h.f.length ((List.range h.f.length).map us) := by
    have := k1.own 0 (by omega)
    rw [upd_other _ _ (by omega), upd_other _ _ (by omega)] at this
    simp only [tyH, vH, cH, List.length_map, List.length_range] at this
    exact this
  obtain ⟨s1, s2⟩ := o1.stored i u
  refine ⟨?_, s2⟩
  have k2 := Fam.set k1 (k := 0) (by omega) (ds := (List.range h.f.length).map (upd us i u)) (w' := w'.setCell ⟨g, i, none⟩ u) (by rw [upd_other _ _ (by omega)]; exact s2) (by rw [upd_other _ _ (by omega)]; simp only [tyH, vH, List.length_map, List.length_range]; rw [← range_set]; exact s1)
  unfold FamH
  rw [List.length_set]
  refine k2.congr (fun j hj => ?_) fun j hj => ?_
  · match j with
    | 0 => rw [upd_other _ _ (by omega)]; rfl
    | 1 => rw [upd_other _ _ (by omega)]; rfl
    | 2 => rw [upd_other _ _ (by omega)]; rfl
    | j + 3 =>
      by_cases e : j = i
      · subst e; rw [upd_same]; simp only [vH]; rw [upd_same]
      · rw [upd_other _ _ (by omega)]; simp only [vH]; rw [upd_other _ _ e]
  · match j with
    | 0 => rw [upd_same]; simp [cH]
    | 1 => rw [upd_other _ _ (by omega), upd_other _ _ (by omega)]; rfl
    | 2 => rw [upd_other _ _ (by omega), upd_other _ _ (by omega)]; rfl
    | j + 3 =>
      rw [upd_other _ _ (by omega)]
      by_cases e : j = i
      · subst e; rw [upd_same]; simp only [cH]; rw [getD_setL hi0, if_pos rfl]
      · rw [upd_other _ _ (by omega)]; simp only [cH]; rw [getD_setL hi0, if_neg e]
section
variable {w0 w w' : World} {lo hi : Nat}
theorem Chg.newRow (h : Chg lo hi w0 w) (g : Nat) (hg : w0.heap.size ≤ g) (cs : Array Value) : Chg lo hi w0 (w.setRow g cs) := ⟨h.os, h.tape, h.output, by rw [size_setRow]; exact h.size, fun i hi hr => (setRow_other w g i cs (by omega)).trans (h.block i hi hr)⟩
theorem Chg.newCell (h : Chg lo hi w0 w) (p : Addr) (hg : w0.heap.size ≤ p.block) (x : Value) : Chg lo hi w0 (w.setCell p x) := ⟨h.os, h.tape, h.output, by rw [World.size_setCell]; exact h.size, fun i hi hr => (heap_setCell_other w p i _ (by omega)).trans (h.block i hi hr)⟩
theorem Chg.then (h : Chg lo hi w0 w) (hb : Below w.heap.size w w') : Chg lo hi w0 w' := h.trans (Chg.of_below hb)
theorem Chg.own (h : Chg lo hi w0 w) {r : Option Nat} (hg : w.grownBy w' r) (hr : ∀ g, r = some g → lo ≤ g ∧ g < hi) : Chg lo hi w0 w' := h.trans (Chg.of_grown hg hr)
end
theorem ownOne {w : World} {lo : Nat} {u : Value} {zs : List Int} (h : Own w lo u zs) (h0 : 0 < zs.length) : ∃ g c, u = .slice (some ⟨g, 0, none⟩) zs.length c := by
  rcases h.shape' with ⟨_, e⟩ | h
  · rw [e] at h0; simp at h0
  · exact h
theorem ownCell {w : World} {lo g n c i : Nat} {zs : List Int} (h : Own w lo (.slice (some ⟨g, 0, none⟩) n c) zs) (hn : zs.length = n) (hi : i < n) : w.cell? ⟨g, i, none⟩ = some (.int .i64 (zs.getD i 0)) := by
  subst hn
  unfold Own at h
  rw [h.cellAt i (show i < zs.length * 1 by omega)]
  rw [List.getElem?_map, List.getElem?_eq_getElem (by omega)]
  simp [List.getD, List.getElem?_eq_getElem (show i < zs.length by omega)]
theorem ownCut {w : World} {lo g n c m : Nat} {zs : List Int} (h : Own w lo (.slice (some ⟨g, 0, none⟩) n c) zs) (hn : zs.length = n) (hm : m ≤ n) : Own w lo (.slice (some ⟨g, 0, none⟩) m c) (zs.take m) := by
  have hl : (zs.take m).length = m := by rw [List.length_take, hn]; omega
  rcases h.2 with ⟨h1, _⟩ | ⟨g', cap, cur, h1, h2, h3, h4, h5, h6, h7⟩
  · cases h1
  · cases h1
    refine ⟨by rw [hl, List.length_map, hl, Nat.mul_one], .inr ⟨g, c, cur, by rw [hl], h2, h3, by rw [hl]; omega, h5, h6, ?_⟩⟩
    rw [hl, Nat.mul_one, List.map_take, ← h7, List.take_take, hn]
    congr 1
    omega
/-- A work that lies in a block of its own stays. -/
def KeepW (w w' : World) : Prop := ∀ g cs, Row w g 28 cs → Row w' g 28 cs
section
variable {w0 w w' : World}
theorem KeepW.of_below (hb : Below w.heap.size w w') : KeepW w w' := fun _ _ hr => Row.below hr hb
theorem KeepW.below (h : KeepW w0 w) (hb : Below w.heap.size w w') : KeepW w0 w' := fun g cs hr => Row.below (h g cs hr) hb
theorem KeepW.newRow (h : KeepW w0 w) (g0 : Nat) (hg : w0.heap.size ≤ g0) (cs : Array Value) : KeepW w0 (w.setRow g0 cs) := fun g ds hr => Row.putOther (h g ds hr) cs (by have := Row.lt hr; omega)
theorem KeepW.newCell (h : KeepW w0 w) (p : Addr) (hp : w0.heap.size ≤ p.block) (x : Value) : KeepW w0 (w.setCell p x) := fun g ds hr => Row.other (h g ds hr) p (by have := Row.lt hr; omega) x
theorem KeepW.grown {B n : Nat} {T : TypeId} {v : Value} {xs : List Value} (h : KeepW w0 w) (hg : w.grownBy w' v.ownBlock) (ho : w.ownsRow B T 1 v n xs) (hT : T ≠ 28) : KeepW w0 w' := fun g cs hr => Row.grownBy (h g cs hr) hg (fun e => owns_ne_rowT ho (h g cs hr) hT e rfl)
theorem KeepW.cell {B n g0 : Nat} {T : TypeId} {v : Value} {xs : List Value} (h : KeepW w0 w) (ho : w.ownsRow B T 1 v n xs) (hv : v.ownBlock = some g0) (hT : T ≠ 28) (j : Nat) (x : Value) : KeepW w0 (w.setCell ⟨g0, j, none⟩ x) := fun g cs hr => Row.other (h g cs hr) ⟨g0, j, none⟩ (fun e => owns_ne_rowT ho (h g cs hr) hT hv e.symm) x
end
def EndS (a : Value) (W : Wk) (s : S3) (lo hi : Nat) (w : World) (e : Ending) (w' : World) : Prop := ∃ c', e = .returned (.tuple #[wkv a (stp W s).n c', .bool (en W s)]) ∧ OwnW w' lo w'.heap.size a c' (stp W s) ∧ Chg lo hi w w' ∧ KeepW w w' ∧ (en W s = false → ∀ x, OwnW w lo hi a x W → OwnW w' lo w'.heap.size a x W)
theorem stp_no {W : Wk} {s : S3} (h : en W s = false) : stp W s = W := by unfold stp; rw [h]; rfl
theorem stp_yes {W : Wk} {s : S3} (h : en W s = true) : stp W s = act W s := by unfold stp; rw [h]; rfl
end Go.Proofs.Ytkbphmnacdpdgaa
namespace Go.Proofs.Ytkbphmnacdpdgaa
open Go.RowKit Ph Kw
set_option maxRecDepth 100000 in
set_option maxHeartbeats 12800000 in
theorem s_step_no (a c : Value) (W : Wk) (k x y : Int) (w : World) (lo hi : Nat) (hO : OwnW w lo hi a c W) (hs : Sm W) (hh : hi ≤ w.heap.size) (hen : en W (k, x, y) = false) : Calls Try.prog 55 #[wkv a W.n c, stv k x y] w (EndS a W (k, x, y) lo hi w) := by
  have hl3 := hs.len
  obtain ⟨us, hF0⟩ := hO
  obtain ⟨ga, qa, rfl⟩ : ∃ g q, a = .slice (some ⟨g, 0, none⟩) 3 q := by
    rcases hF0.shape with ⟨_, h2⟩ | ⟨g, q, h2⟩
    · have h2 : W.r = [] := h2
      rw [h2] at hl3; simp at hl3
    · have h2 : a = .slice (some ⟨g, 0, none⟩) W.r.length q := h2
      rw [hl3] at h2; exact ⟨g, q, h2⟩
  obtain ⟨pc, qc, hpc⟩ := (FamH.roots hF0).ints.shape
  have hpc : c = .slice pc W.d.length qc := hpc
  have hdl := (sm_len hs).2
  have hr12 := hs.rows
  have hn100 := hs.n1
  have hn0 := hs.n0
  generalize hnd : W.d.length = nd at *
  subst hpc
  have hb0 := ((below1 w (.cells (w3 (.slice (some ⟨ga, 0, none⟩) 3 qa) W.n (.slice pc nd qc)) 28)).alloc (by simp) (.cells (s3c k x y) 44)).alloc (by simp; omega) (.cells (w3 nilV 0 nilV) 28)
  have RW0 := Lib.hid (show RowW (((w.alloc (.cells (w3 (.slice (some ⟨ga, 0, none⟩) 3 qa) W.n (.slice pc nd qc)) 28)).alloc (.cells (s3c k x y) 44)).alloc (.cells (w3 nilV 0 nilV) 28)) w.heap.size (.slice (some ⟨ga, 0, none⟩) 3 qa) W.n (.slice pc nd qc) from Row.alloc (Row.alloc (Row.new w 28 _) _) _)
  have RS0 := Lib.hid (show Row (((w.alloc (.cells (w3 (.slice (some ⟨ga, 0, none⟩) 3 qa) W.n (.slice pc nd qc)) 28)).alloc (.cells (s3c k x y) 44)).alloc (.cells (w3 nilV 0 nilV) 28)) (w.heap.size + 1) 44 (s3c k x y) from Row.alloc (Row.new1 w _ 44 (s3c k x y)) _)
  have RR0 := Lib.hid (show RowW (((w.alloc (.cells (w3 (.slice (some ⟨ga, 0, none⟩) 3 qa) W.n (.slice pc nd qc)) 28)).alloc (.cells (s3c k x y) 44)).alloc (.cells (w3 nilV 0 nilV) 28)) (w.heap.size + 1 + 1) nilV 0 nilV from Row.new2 w _ _ 28 (w3 nilV 0 nilV))
  have HB := Lib.hid hb0
  have HF : Hid (FamH (((w.alloc (.cells (w3 (.slice (some ⟨ga, 0, none⟩) 3 qa) W.n (.slice pc nd qc)) 28)).alloc (.cells (s3c k x y) 44)).alloc (.cells (w3 nilV 0 nilV) 28)) lo hi (.slice (some ⟨ga, 0, none⟩) 3 qa) nilV (.slice pc nd qc) us (wh W)) := Fam.below hF0 hb0
  have HH := Lib.hid hh; have HL3 := Lib.hid hl3; have HND := Lib.hid hnd; have HDL := Lib.hid hdl; have HR12 := Lib.hid hr12
  have HN := Lib.hid (And.intro hn0 hn100)
  have HOW := Lib.hid (show OwnW w lo hi (.slice (some ⟨ga, 0, none⟩) 3 qa) (.slice pc nd qc) W from ⟨us, hF0⟩)
  have hcell := fun i (h : i < 3) => (HF.out.cell (g := ga) (cap := qa) (i := i) (by show _ = Value.slice _ W.r.length _; rw [hl3]) (by show i < W.r.length; omega)).1
  have HCE := Lib.hid hcell
  have q0 := RowW.c0 RW0.out
  have q1 := RowW.c1 RW0.out
  have q2 := RowW.c2 RW0.out
  have s0 := Row.cell RS0.out 0
  have s1 := Row.cell RS0.out 1
  have s2 := Row.cell RS0.out 2
  clear hb0 hF0 hh hl3 hnd hdl hr12 hcell hn100 hn0
  have HEN := Lib.hid hen
  by_cases hw : isW x = true
  · have HJ := Lib.hid hw
    obtain ⟨hx0, hx2⟩ := isW_iff.1 hw
    obtain ⟨j, rfl⟩ : ∃ j : Nat, x = j := ⟨x.toNat, by omega⟩
    have hj : j < 3 := by omega
    have ejj : ((j : Int)).toNat = j := by omega
    have hjc := HCE.out j hj
    have hrow : Own _ lo (us j) (row W j) := HF.out.row (i := j) (by show j < W.r.length; rw [HL3.out]; omega)
    obtain ⟨pj, cj, hpj⟩ := hrow.ints.shape
    rw [hpj] at hjc
    have i1 : (j : Int) < 3 := by omega
    clear hrow hpj
    have HJ2 : Hid True := trivial
    by_cases k1 : k = 1 ∧ y = 0
    · obtain ⟨rfl, rfl⟩ := k1
      have hc := en_push (W := W) (s := (1, (j : Int), 0)) hw rfl rfl
      rw [hen] at hc
      simp only [ejj] at hc
      generalize hm : (row W j).length = m at *
      by_cases h1 : W.n < 100
      · have h2 : ¬ m < 12 := fun h => by rw [decide_eq_true h1, decide_eq_true h] at hc; cases hc
        have h3 : ¬ (m : Int) < 12 := by omega
        clear hw hx0 hx2 hj ejj hc hm hen
        go_enter Try.func55, Try.ntmps55
        go_upto_region 4 with (go_at_call 85; refine (s_l10Who _ _).mono ?_; rintro e w1 ⟨rfl, rfl⟩; first | rw [HJ.out] | rw [HJ2.out])
        go_wp2_with (first
          | (refine wl_loadW rfl _ rfl w.heap.size (.slice (some ⟨ga, 0, none⟩) 3 qa) W.n (.slice pc nd qc) RW0.out rfl ?_)
          | (refine wl_storeW rfl _ _ rfl (w.heap.size + 1 + 1) (.slice (some ⟨ga, 0, none⟩) 3 qa) W.n (.slice pc nd qc) nilV 0 nilV RR0.out rfl rfl rfl rfl ?_))
        refine bodyPost_ret (res_row_slot Try.results55 (Row.put RR0.out (w3 (.slice (some ⟨ga, 0, none⟩) 3 qa) W.n (.slice pc nd qc))) rfl rfl Try.underlying28 rfl info_work) rfl ?_
        refine ⟨(.slice pc nd qc), by rw [HEN.out, stp_no HEN.out]; rfl, ?_, (Chg.of_below HB.out).newRow (w.heap.size + 1 + 1) (by omega) _, (KeepW.of_below HB.out).newRow (w.heap.size + 1 + 1) (by omega) _, fun _ x hx => (OwnW.below hx (below_setRow HB.out (show w.heap.size ≤ w.heap.size + 1 + 1 by omega) (w3 (.slice (some ⟨ga, 0, none⟩) 3 qa) W.n (.slice pc nd qc)))).wide (Nat.le_refl _) (Nat.le_trans HH.out (by rw [size_setRow]; exact HB.out.size))⟩
        rw [stp_no HEN.out]
        have h5 := OwnW.below HOW.out (below_setRow HB.out (show w.heap.size ≤ w.heap.size + 1 + 1 by omega) (w3 (.slice (some ⟨ga, 0, none⟩) 3 qa) W.n (.slice pc nd qc)))
        exact h5.wide (Nat.le_refl _) (Nat.le_trans HH.out (by rw [size_setRow]; exact HB.out.size))
      · clear hw hx0 hx2 hj ejj hc hm hen
        go_enter Try.func55, Try.ntmps55
        go_upto_region 4 with (go_at_call 85; refine (s_l10Who _ _).mono ?_; rintro e w1 ⟨rfl, rfl⟩; first | rw [HJ.out] | rw [HJ2.out])
        go_wp2_with (first
          | (refine wl_loadW rfl _ rfl w.heap.size (.slice (some ⟨ga, 0, none⟩) 3 qa) W.n (.slice pc nd qc) RW0.out rfl ?_)
          | (refine wl_storeW rfl _ _ rfl (w.heap.size + 1 + 1) (.slice (some ⟨ga, 0, none⟩) 3 qa) W.n (.slice pc nd qc) nilV 0 nilV RR0.out rfl rfl rfl rfl ?_))
        refine bodyPost_ret (res_row_slot Try.results55 (Row.put RR0.out (w3 (.slice (some ⟨ga, 0, none⟩) 3 qa) W.n (.slice pc nd qc))) rfl rfl Try.underlying28 rfl info_work) rfl ?_
        refine ⟨(.slice pc nd qc), by rw [HEN.out, stp_no HEN.out]; rfl, ?_, (Chg.of_below HB.out).newRow (w.heap.size + 1 + 1) (by omega) _, (KeepW.of_below HB.out).newRow (w.heap.size + 1 + 1) (by omega) _, fun _ x hx => (OwnW.below hx (below_setRow HB.out (show w.heap.size ≤ w.heap.size + 1 + 1 by omega) (w3 (.slice (some ⟨ga, 0, none⟩) 3 qa) W.n (.slice pc nd qc)))).wide (Nat.le_refl _) (Nat.le_trans HH.out (by rw [size_setRow]; exact HB.out.size))⟩
        rw [stp_no HEN.out]
        have h5 := OwnW.below HOW.out (below_setRow HB.out (show w.heap.size ≤ w.heap.size + 1 + 1 by omega) (w3 (.slice (some ⟨ga, 0, none⟩) 3 qa) W.n (.slice pc nd qc)))
        exact h5.wide (Nat.le_refl _) (Nat.le_trans HH.out (by rw [size_setRow]; exact HB.out.size))
    · by_cases k2 : k = 2 ∧ y = 0
      · obtain ⟨rfl, rfl⟩ := k2
        have hc := en_pop (W := W) (s := (2, (j : Int), 0)) hw rfl rfl
        rw [hen] at hc
        simp only [ejj] at hc
        generalize hm : (row W j).length = m at *
        have h2 : m = 0 := by
          by_cases h : 0 < m
          · rw [decide_eq_true h] at hc; cases hc
          · omega
        have h3 : ¬ (m : Int) > 0 := by omega
        clear hw hx0 hx2 hj ejj hc hm hen k1 h2
        go_enter Try.func55, Try.ntmps55
        go_upto_region 4 with (go_at_call 85; refine (s_l10Who _ _).mono ?_; rintro e w1 ⟨rfl, rfl⟩; first | rw [HJ.out] | rw [HJ2.out])
        go_wp2_with (first
          | (refine wl_loadW rfl _ rfl w.heap.size (.slice (some ⟨ga, 0, none⟩) 3 qa) W.n (.slice pc nd qc) RW0.out rfl ?_)
          | (refine wl_storeW rfl _ _ rfl (w.heap.size + 1 + 1) (.slice (some ⟨ga, 0, none⟩) 3 qa) W.n (.slice pc nd qc) nilV 0 nilV RR0.out rfl rfl rfl rfl ?_))
        refine bodyPost_ret (res_row_slot Try.results55 (Row.put RR0.out (w3 (.slice (some ⟨ga, 0, none⟩) 3 qa) W.n (.slice pc nd qc))) rfl rfl Try.underlying28 rfl info_work) rfl ?_
        refine ⟨(.slice pc nd qc), by rw [HEN.out, stp_no HEN.out]; rfl, ?_, (Chg.of_below HB.out).newRow (w.heap.size + 1 + 1) (by omega) _, (KeepW.of_below HB.out).newRow (w.heap.size + 1 + 1) (by omega) _, fun _ x hx => (OwnW.below hx (below_setRow HB.out (show w.heap.size ≤ w.heap.size + 1 + 1 by omega) (w3 (.slice (some ⟨ga, 0, none⟩) 3 qa) W.n (.slice pc nd qc)))).wide (Nat.le_refl _) (Nat.le_trans HH.out (by rw [size_setRow]; exact HB.out.size))⟩
        rw [stp_no HEN.out]
        have h5 := OwnW.below HOW.out (below_setRow HB.out (show w.heap.size ≤ w.heap.size + 1 + 1 by omega) (w3 (.slice (some ⟨ga, 0, none⟩) 3 qa) W.n (.slice pc nd qc)))
        exact h5.wide (Nat.le_refl _) (Nat.le_trans HH.out (by rw [size_setRow]; exact HB.out.size))
      · have e1 : k = 1 → (y == 0) = false := fun h => by rw [beq_eq_false_iff_ne]; exact fun h2 => k1 ⟨h, h2⟩
        have e2 : k = 2 → (y == 0) = false := fun h => by rw [beq_eq_false_iff_ne]; exact fun h2 => k2 ⟨h, h2⟩
        generalize hm : (row W j).length = m at *
        by_cases h1 : k = 1
        · subst h1
          have f1 := e1 rfl
          clear hw hx0 hx2 hj ejj hen k1 k2 e1 e2 hm
          go_enter Try.func55, Try.ntmps55
          go_upto_region 4 with (go_at_call 85; refine (s_l10Who _ _).mono ?_; rintro e w1 ⟨rfl, rfl⟩; first | rw [HJ.out] | rw [HJ2.out])
          go_wp2_with (first
            | (refine wl_loadW rfl _ rfl w.heap.size (.slice (some ⟨ga, 0, none⟩) 3 qa) W.n (.slice pc nd qc) RW0.out rfl ?_)
            | (refine wl_storeW rfl _ _ rfl (w.heap.size + 1 + 1) (.slice (some ⟨ga, 0, none⟩) 3 qa) W.n (.slice pc nd qc) nilV 0 nilV RR0.out rfl rfl rfl rfl ?_))
          refine bodyPost_ret (res_row_slot Try.results55 (Row.put RR0.out (w3 (.slice (some ⟨ga, 0, none⟩) 3 qa) W.n (.slice pc nd qc))) rfl rfl Try.underlying28 rfl info_work) rfl ?_
          refine ⟨(.slice pc nd qc), by rw [HEN.out, stp_no HEN.out]; rfl, ?_, (Chg.of_below HB.out).newRow (w.heap.size + 1 + 1) (by omega) _, (KeepW.of_below HB.out).newRow (w.heap.size + 1 + 1) (by omega) _, fun _ x hx => (OwnW.below hx (below_setRow HB.out (show w.heap.size ≤ w.heap.size + 1 + 1 by omega) (w3 (.slice (some ⟨ga, 0, none⟩) 3 qa) W.n (.slice pc nd qc)))).wide (Nat.le_refl _) (Nat.le_trans HH.out (by rw [size_setRow]; exact HB.out.size))⟩
          rw [stp_no HEN.out]
          have h5 := OwnW.below HOW.out (below_setRow HB.out (show w.heap.size ≤ w.heap.size + 1 + 1 by omega) (w3 (.slice (some ⟨ga, 0, none⟩) 3 qa) W.n (.slice pc nd qc)))
          exact h5.wide (Nat.le_refl _) (Nat.le_trans HH.out (by rw [size_setRow]; exact HB.out.size))
        · by_cases h2 : k = 2
          · subst h2
            have f1 := e2 rfl
            clear hw hx0 hx2 hj ejj hen k1 k2 e1 e2 hm h1
            go_enter Try.func55, Try.ntmps55
            go_upto_region 4 with (go_at_call 85; refine (s_l10Who _ _).mono ?_; rintro e w1 ⟨rfl, rfl⟩; first | rw [HJ.out] | rw [HJ2.out])
            go_wp2_with (first
              | (refine wl_loadW rfl _ rfl w.heap.size (.slice (some ⟨ga, 0, none⟩) 3 qa) W.n (.slice pc nd qc) RW0.out rfl ?_)
              | (refine wl_storeW rfl _ _ rfl (w.heap.size + 1 + 1) (.slice (some ⟨ga, 0, none⟩) 3 qa) W.n (.slice pc nd qc) nilV 0 nilV RR0.out rfl rfl rfl rfl ?_))
            refine bodyPost_ret (res_row_slot Try.results55 (Row.put RR0.out (w3 (.slice (some ⟨ga, 0, none⟩) 3 qa) W.n (.slice pc nd qc))) rfl rfl Try.underlying28 rfl info_work) rfl ?_
            refine ⟨(.slice pc nd qc), by rw [HEN.out, stp_no HEN.out]; rfl, ?_, (Chg.of_below HB.out).newRow (w.heap.size + 1 + 1) (by omega) _, (KeepW.of_below HB.out).newRow (w.heap.size + 1 + 1) (by omega) _, fun _ x hx => (OwnW.below hx (below_setRow HB.out (show w.heap.size ≤ w.heap.size + 1 + 1 by omega) (w3 (.slice (some ⟨ga, 0, none⟩) 3 qa) W.n (.slice pc nd qc)))).wide (Nat.le_refl _) (Nat.le_trans HH.out (by rw [size_setRow]; exact HB.out.size))⟩
            rw [stp_no HEN.out]
            have h5 := OwnW.below HOW.out (below_setRow HB.out (show w.heap.size ≤ w.heap.size + 1 + 1 by omega) (w3 (.slice (some ⟨ga, 0, none⟩) 3 qa) W.n (.slice pc nd qc)))
            exact h5.wide (Nat.le_refl _) (Nat.le_trans HH.out (by rw [size_setRow]; exact HB.out.size))
          · have f1 : (k == 1) = false := by rw [beq_eq_false_iff_ne]; exact h1
            have f2 : (k == 2) = false := by rw [beq_eq_false_iff_ne]; exact h2
            by_cases h3 : k = 3
            · subst h3
              have hc := en_steal (W := W) (s := (3, (j : Int), y)) hw rfl
              rw [hen] at hc
              simp only [ejj] at hc
              clear f1 f2 h1 h2 k1 k2 e1 e2
              by_cases g1 : isW y = true
              · replace HJ2 := Lib.hid g1
                obtain ⟨hy0, hy2⟩ := isW_iff.1 g1
                obtain ⟨i, rfl⟩ : ∃ i : Nat, y = i := ⟨y.toNat, by omega⟩
                have hi3 : i < 3 := by omega
                have eii : ((i : Int)).toNat = i := by omega
                simp only [eii] at hc
                by_cases g2 : i = j
                · subst g2
                  have f2 : ((i : Int) != (i : Int)) = false := by simp
                  clear hw hx0 hx2 hj ejj hen hm hc g1 hy0 hy2 hi3 eii
                  go_enter Try.func55, Try.ntmps55
                  go_upto_region 4 with (go_at_call 85; refine (s_l10Who _ _).mono ?_; rintro e w1 ⟨rfl, rfl⟩; first | rw [HJ.out] | rw [HJ2.out])
                  go_wp2_with (first
                    | (refine wl_loadW rfl _ rfl w.heap.size (.slice (some ⟨ga, 0, none⟩) 3 qa) W.n (.slice pc nd qc) RW0.out rfl ?_)
                    | (refine wl_storeW rfl _ _ rfl (w.heap.size + 1 + 1) (.slice (some ⟨ga, 0, none⟩) 3 qa) W.n (.slice pc nd qc) nilV 0 nilV RR0.out rfl rfl rfl rfl ?_))
                  refine bodyPost_ret (res_row_slot Try.results55 (Row.put RR0.out (w3 (.slice (some ⟨ga, 0, none⟩) 3 qa) W.n (.slice pc nd qc))) rfl rfl Try.underlying28 rfl info_work) rfl ?_
                  refine ⟨(.slice pc nd qc), by rw [HEN.out, stp_no HEN.out]; rfl, ?_, (Chg.of_below HB.out).newRow (w.heap.size + 1 + 1) (by omega) _, (KeepW.of_below HB.out).newRow (w.heap.size + 1 + 1) (by omega) _, fun _ x hx => (OwnW.below hx (below_setRow HB.out (show w.heap.size ≤ w.heap.size + 1 + 1 by omega) (w3 (.slice (some ⟨ga, 0, none⟩) 3 qa) W.n (.slice pc nd qc)))).wide (Nat.le_refl _) (Nat.le_trans HH.out (by rw [size_setRow]; exact HB.out.size))⟩
                  rw [stp_no HEN.out]
                  have h5 := OwnW.below HOW.out (below_setRow HB.out (show w.heap.size ≤ w.heap.size + 1 + 1 by omega) (w3 (.slice (some ⟨ga, 0, none⟩) 3 qa) W.n (.slice pc nd qc)))
                  exact h5.wide (Nat.le_refl _) (Nat.le_trans HH.out (by rw [size_setRow]; exact HB.out.size))
                · have f2 : ((i : Int) != (j : Int)) = true := by rw [bne_iff_ne]; omega
                  have hic := HCE.out i hi3
                  have hrow2 : Own _ lo (us i) (row W i) := HF.out.row (i := i) (by show i < W.r.length; rw [HL3.out]; omega)
                  obtain ⟨pi, ci, hpi⟩ := hrow2.ints.shape
                  rw [hpi] at hic
                  clear hrow2 hpi
                  generalize hmi : (row W i).length = mi at *
                  have i2 : (i : Int) < 3 := by omega
                  by_cases g3 : 0 < mi
                  · have h4 : ¬ (m : Int) < 12 := by simp [g1, g3] at hc; omega
                    have h5 : (mi : Int) > 0 := by omega
                    clear hw hx0 hx2 hj ejj hen hm hc g1 hy0 hy2 hi3 eii g2 g3 hmi
                    go_enter Try.func55, Try.ntmps55
                    go_upto_region 4 with (go_at_call 85; refine (s_l10Who _ _).mono ?_; rintro e w1 ⟨rfl, rfl⟩; first | rw [HJ.out] | rw [HJ2.out])
                    go_wp2_with (first
                      | (refine wl_loadW rfl _ rfl w.heap.size (.slice (some ⟨ga, 0, none⟩) 3 qa) W.n (.slice pc nd qc) RW0.out rfl ?_)
                      | (refine wl_storeW rfl _ _ rfl (w.heap.size + 1 + 1) (.slice (some ⟨ga, 0, none⟩) 3 qa) W.n (.slice pc nd qc) nilV 0 nilV RR0.out rfl rfl rfl rfl ?_))
                    refine bodyPost_ret (res_row_slot Try.results55 (Row.put RR0.out (w3 (.slice (some ⟨ga, 0, none⟩) 3 qa) W.n (.slice pc nd qc))) rfl rfl Try.underlying28 rfl info_work) rfl ?_
                    refine ⟨(.slice pc nd qc), by rw [HEN.out, stp_no HEN.out]; rfl, ?_, (Chg.of_below HB.out).newRow (w.heap.size + 1 + 1) (by omega) _, (KeepW.of_below HB.out).newRow (w.heap.size + 1 + 1) (by omega) _, fun _ x hx => (OwnW.below hx (below_setRow HB.out (show w.heap.size ≤ w.heap.size + 1 + 1 by omega) (w3 (.slice (some ⟨ga, 0, none⟩) 3 qa) W.n (.slice pc nd qc)))).wide (Nat.le_refl _) (Nat.le_trans HH.out (by rw [size_setRow]; exact HB.out.size))⟩
                    rw [stp_no HEN.out]
                    have h5 := OwnW.below HOW.out (below_setRow HB.out (show w.heap.size ≤ w.heap.size + 1 + 1 by omega) (w3 (.slice (some ⟨ga, 0, none⟩) 3 qa) W.n (.slice pc nd qc)))
                    exact h5.wide (Nat.le_refl _) (Nat.le_trans HH.out (by rw [size_setRow]; exact HB.out.size))
                  · have h5 : ¬ (mi : Int) > 0 := by omega
                    clear hw hx0 hx2 hj ejj hen hm hc g1 hy0 hy2 hi3 eii g2 g3 hmi
                    go_enter Try.func55, Try.ntmps55
                    go_upto_region 4 with (go_at_call 85; refine (s_l10Who _ _).mono ?_; rintro e w1 ⟨rfl, rfl⟩; first | rw [HJ.out] | rw [HJ2.out])
                    go_wp2_with (first
                      | (refine wl_loadW rfl _ rfl w.heap.size (.slice (some ⟨ga, 0, none⟩) 3 qa) W.n (.slice pc nd qc) RW0.out rfl ?_)
                      | (refine wl_storeW rfl _ _ rfl (w.heap.size + 1 + 1) (.slice (some ⟨ga, 0, none⟩) 3 qa) W.n (.slice pc nd qc) nilV 0 nilV RR0.out rfl rfl rfl rfl ?_))
                    refine bodyPost_ret (res_row_slot Try.results55 (Row.put RR0.out (w3 (.slice (some ⟨ga, 0, none⟩) 3 qa) W.n (.slice pc nd qc))) rfl rfl Try.underlying28 rfl info_work) rfl ?_
                    refine ⟨(.slice pc nd qc), by rw [HEN.out, stp_no HEN.out]; rfl, ?_, (Chg.of_below HB.out).newRow (w.heap.size + 1 + 1) (by omega) _, (KeepW.of_below HB.out).newRow (w.heap.size + 1 + 1) (by omega) _, fun _ x hx => (OwnW.below hx (below_setRow HB.out (show w.heap.size ≤ w.heap.size + 1 + 1 by omega) (w3 (.slice (some ⟨ga, 0, none⟩) 3 qa) W.n (.slice pc nd qc)))).wide (Nat.le_refl _) (Nat.le_trans HH.out (by rw [size_setRow]; exact HB.out.size))⟩
                    rw [stp_no HEN.out]
                    have h5 := OwnW.below HOW.out (below_setRow HB.out (show w.heap.size ≤ w.heap.size + 1 + 1 by omega) (w3 (.slice (some ⟨ga, 0, none⟩) 3 qa) W.n (.slice pc nd qc)))
                    exact h5.wide (Nat.le_refl _) (Nat.le_trans HH.out (by rw [size_setRow]; exact HB.out.size))
              · replace HJ2 : Hid (isW y = false) := by unfold Hid; simpa using g1
                clear hw hx0 hx2 hj ejj hen hm hc g1
                go_enter Try.func55, Try.ntmps55
                go_upto_region 4 with (go_at_call 85; refine (s_l10Who _ _).mono ?_; rintro e w1 ⟨rfl, rfl⟩; first | rw [HJ.out] | rw [HJ2.out])
                go_wp2_with (first
                  | (refine wl_loadW rfl _ rfl w.heap.size (.slice (some ⟨ga, 0, none⟩) 3 qa) W.n (.slice pc nd qc) RW0.out rfl ?_)
                  | (refine wl_storeW rfl _ _ rfl (w.heap.size + 1 + 1) (.slice (some ⟨ga, 0, none⟩) 3 qa) W.n (.slice pc nd qc) nilV 0 nilV RR0.out rfl rfl rfl rfl ?_))
                refine bodyPost_ret (res_row_slot Try.results55 (Row.put RR0.out (w3 (.slice (some ⟨ga, 0, none⟩) 3 qa) W.n (.slice pc nd qc))) rfl rfl Try.underlying28 rfl info_work) rfl ?_
                refine ⟨(.slice pc nd qc), by rw [HEN.out, stp_no HEN.out]; rfl, ?_, (Chg.of_below HB.out).newRow (w.heap.size + 1 + 1) (by omega) _, (KeepW.of_below HB.out).newRow (w.heap.size + 1 + 1) (by omega) _, fun _ x hx => (OwnW.below hx (below_setRow HB.out (show w.heap.size ≤ w.heap.size + 1 + 1 by omega) (w3 (.slice (some ⟨ga, 0, none⟩) 3 qa) W.n (.slice pc nd qc)))).wide (Nat.le_refl _) (Nat.le_trans HH.out (by rw [size_setRow]; exact HB.out.size))⟩
                rw [stp_no HEN.out]
                have h5 := OwnW.below HOW.out (below_setRow HB.out (show w.heap.size ≤ w.heap.size + 1 + 1 by omega) (w3 (.slice (some ⟨ga, 0, none⟩) 3 qa) W.n (.slice pc nd qc)))
                exact h5.wide (Nat.le_refl _) (Nat.le_trans HH.out (by rw [size_setRow]; exact HB.out.size))
            · have f3 : (k == 3) = false := by rw [beq_eq_false_iff_ne]; exact h3
              clear hw hx0 hx2 hj ejj hen k1 k2 e1 e2 hm h1 h2 h3
              go_enter Try.func55, Try.ntmps55
              go_upto_region 4 with (go_at_call 85; refine (s_l10Who _ _).mono ?_; rintro e w1 ⟨rfl, rfl⟩; first | rw [HJ.out] | rw [HJ2.out])
              go_wp2_with (first
                | (refine wl_loadW rfl _ rfl w.heap.size (.slice (some ⟨ga, 0, none⟩) 3 qa) W.n (.slice pc nd qc) RW0.out rfl ?_)
                | (refine wl_storeW rfl _ _ rfl (w.heap.size + 1 + 1) (.slice (some ⟨ga, 0, none⟩) 3 qa) W.n (.slice pc nd qc) nilV 0 nilV RR0.out rfl rfl rfl rfl ?_))
              refine bodyPost_ret (res_row_slot Try.results55 (Row.put RR0.out (w3 (.slice (some ⟨ga, 0, none⟩) 3 qa) W.n (.slice pc nd qc))) rfl rfl Try.underlying28 rfl info_work) rfl ?_
              refine ⟨(.slice pc nd qc), by rw [HEN.out, stp_no HEN.out]; rfl, ?_, (Chg.of_below HB.out).newRow (w.heap.size + 1 + 1) (by omega) _, (KeepW.of_below HB.out).newRow (w.heap.size + 1 + 1) (by omega) _, fun _ x hx => (OwnW.below hx (below_setRow HB.out (show w.heap.size ≤ w.heap.size + 1 + 1 by omega) (w3 (.slice (some ⟨ga, 0, none⟩) 3 qa) W.n (.slice pc nd qc)))).wide (Nat.le_refl _) (Nat.le_trans HH.out (by rw [size_setRow]; exact HB.out.size))⟩
              rw [stp_no HEN.out]
              have h5 := OwnW.below HOW.out (below_setRow HB.out (show w.heap.size ≤ w.heap.size + 1 + 1 by omega) (w3 (.slice (some ⟨ga, 0, none⟩) 3 qa) W.n (.slice pc nd qc)))
              exact h5.wide (Nat.le_refl _) (Nat.le_trans HH.out (by rw [size_setRow]; exact HB.out.size))
  · have HJ : Hid (isW x = false) := by unfold Hid; simpa using hw
    have HJ2 : Hid True := trivial
    clear hw hen
    go_enter Try.func55, Try.ntmps55
    go_upto_region 2 with (go_at_call 85; refine (s_l10Who _ _).mono ?_; rintro e w1 ⟨rfl, rfl⟩; first | rw [HJ.out] | rw [HJ2.out])
    go_wp2_with (first
      | (refine wl_loadW rfl _ rfl w.heap.size (.slice (some ⟨ga, 0, none⟩) 3 qa) W.n (.slice pc nd qc) RW0.out rfl ?_)
      | (refine wl_storeW rfl _ _ rfl (w.heap.size + 1 + 1) (.slice (some ⟨ga, 0, none⟩) 3 qa) W.n (.slice pc nd qc) nilV 0 nilV RR0.out rfl rfl rfl rfl ?_))
    refine bodyPost_ret (res_row_slot Try.results55 (Row.put RR0.out (w3 (.slice (some ⟨ga, 0, none⟩) 3 qa) W.n (.slice pc nd qc))) rfl rfl Try.underlying28 rfl info_work) rfl ?_
    refine ⟨(.slice pc nd qc), by rw [HEN.out, stp_no HEN.out]; rfl, ?_, (Chg.of_below HB.out).newRow (w.heap.size + 1 + 1) (by omega) _, (KeepW.of_below HB.out).newRow (w.heap.size + 1 + 1) (by omega) _, fun _ x hx => (OwnW.below hx (below_setRow HB.out (show w.heap.size ≤ w.heap.size + 1 + 1 by omega) (w3 (.slice (some ⟨ga, 0, none⟩) 3 qa) W.n (.slice pc nd qc)))).wide (Nat.le_refl _) (Nat.le_trans HH.out (by rw [size_setRow]; exact HB.out.size))⟩
    rw [stp_no HEN.out]
    have h5 := OwnW.below HOW.out (below_setRow HB.out (show w.heap.size ≤ w.heap.size + 1 + 1 by omega) (w3 (.slice (some ⟨ga, 0, none⟩) 3 qa) W.n (.slice pc nd qc)))
    exact h5.wide (Nat.le_refl _) (Nat.le_trans HH.out (by rw [size_setRow]; exact HB.out.size))
end Go.Proofs.Ytkbphmnacdpdgaa
namespace Go.Proofs.Ytkbphmnacdpdgaa
open Go.RowKit Ph Kw
section
variable {w0 w w' : World} {lo hi : Nat} {a b c : Value} {us : Nat → Value} {h : H}
theorem Chg.grow (k : Chg lo hi w0 w) {r : Option Nat} (hg : w.grownBy w' r) (hr : ∀ g, r = some g → (lo ≤ g ∧ g < hi) ∨ w0.heap.size ≤ g) : Chg lo hi w0 w' := ⟨hg.os.trans k.os, hg.tape.trans k.tape, hg.output.trans k.output, Nat.le_trans k.size hg.size, fun i hi hx => (hg.block i (Nat.lt_of_lt_of_le hi k.size) (fun e => by have := hr i e.symm; omega)).trans (k.block i hi hx)⟩
/-- What an append to row i leaves of the list of rows. -/
theorem FamH.midOuter (k : FamH w lo hi a b c us h) {i : Nat} (hi0 : i < h.f.length) (hg : w.grownBy w' (us i).ownBlock) : w'.ownsRow lo 26 1 a h.f.length ((List.range h.f.length).map us) := by
  refine owns_block k.outer fun g hjg => hg.block g (owns_lt k.outer hjg).2 fun e => ?_
  rcases Fam.ap k 0 (i + 3) (by omega) (by omega) (by omega) with h1 | h1
  · have h1 : a.ownBlock = none := h1
    rw [hjg] at h1; cases h1
  · have h1 : a.ownBlock ≠ (us i).ownBlock := h1
    exact h1 (by rw [hjg, ← e])
theorem FamH.midCell (k : FamH w lo hi a b c us h) {i : Nat} (hi0 : i < h.f.length) (hg : w.grownBy w' (us i).ownBlock) {g cap j : Nat} (ha : a = .slice (some ⟨g, 0, none⟩) h.f.length cap) (hj : j < h.f.length) : w'.cell? ⟨g, j, none⟩ = some (us j) ∧ w'.frozen? ⟨g, j, none⟩ = false := by
  have o := k.midOuter hi0 hg
  subst ha
  refine ⟨?_, o.frozenAt j⟩
  rw [o.cellAt j (by omega)]
  simp [hj]
theorem FamH.midRow (k : FamH w lo hi a b c us h) {i j : Nat} (hi0 : i < h.f.length) (hj : j < h.f.length) (hne : j ≠ i) (hg : w.grownBy w' (us i).ownBlock) : Own w' lo (us j) (h.f.getD j []) := by
  have o := k.row hj
  refine owns_block o fun g hjg => hg.block g (owns_lt o hjg).2 fun e => ?_
  rcases Fam.ap k (j + 3) (i + 3) (by omega) (by omega) (by omega) with h1 | h1
  · have h1 : (us j).ownBlock = none := h1
    rw [hjg] at h1; cases h1
  · have h1 : (us j).ownBlock ≠ (us i).ownBlock := h1
    exact h1 (by rw [hjg, ← e])
theorem FamH.rowBlk (k : FamH w lo hi a b c us h) {i g : Nat} (hi0 : i < h.f.length) (hg : (us i).ownBlock = some g) : lo ≤ g ∧ g < hi := by
  have := Fam.blk k (k := i + 3) (g := g) (by omega) hg
  exact ⟨this.1, this.2.1⟩
theorem FamH.outBlk (k : FamH w lo hi a b c us h) {g n cap : Nat} (ha : a = .slice (some ⟨g, 0, none⟩) n cap) : lo ≤ g ∧ g < hi := by
  have := Fam.blk k (k := 0) (g := g) (by omega) (by show a.ownBlock = _; rw [ha]; rfl)
  exact ⟨this.1, this.2.1⟩
theorem FamH.donBlk (k : FamH w lo hi a b c us h) {g : Nat} (hg : c.ownBlock = some g) : lo ≤ g ∧ g < hi := by
  have := Fam.blk k (k := 2) (g := g) (by omega) hg
  exact ⟨this.1, this.2.1⟩
end
end Go.Proofs.Ytkbphmnacdpdgaa
namespace Go.Proofs.Ytkbphmnacdpdgaa
open Go.RowKit Ph Kw
set_option maxRecDepth 100000 in
set_option maxHeartbeats 12800000 in
theorem s_step_push (a c : Value) (W : Wk) (j : Nat) (w : World) (lo hi : Nat) (hO : OwnW w lo hi a c W) (hs : Sm W) (hh : hi ≤ w.heap.size) (hj : j < 3) (hlt : W.n < 100) (hm : (row W j).length < 12) : Calls Try.prog 55 #[wkv a W.n c, stv 1 (j : Int) 0] w (EndS a W (1, (j : Int), 0) lo hi w) := by
  obtain ⟨i0, hinf, hz0, hz1, hz2⟩ := info_parts info_int
  have hwj : isW (j : Int) = true := isW_iff.2 ⟨by omega, by omega⟩
  have HEN : Hid (en W (1, (j : Int), 0) = true) := by
    unfold Hid; rw [en_push (W := W) (s := (1, (j : Int), 0)) hwj rfl rfl]
    show (decide (W.n < 100) && decide ((row W (j : Int).toNat).length < 12)) = true
    rw [show (j : Int).toNat = j by omega, decide_eq_true hlt, decide_eq_true hm]; rfl
  have HACT : Hid (act W (1, (j : Int), 0) = push W j) := by
    unfold Hid act; rw [if_pos rfl]; show push W (j : Int).toNat = _; rw [show (j : Int).toNat = j by omega]
  have hl3 := hs.len
  obtain ⟨us, hF0⟩ := hO
  obtain ⟨ga, qa, rfl⟩ : ∃ g q, a = .slice (some ⟨g, 0, none⟩) 3 q := by
    rcases hF0.shape with ⟨_, h2⟩ | ⟨g, q, h2⟩
    · have h2 : W.r = [] := h2
      rw [h2] at hl3; simp at hl3
    · have h2 : a = .slice (some ⟨g, 0, none⟩) W.r.length q := h2
      rw [hl3] at h2; exact ⟨g, q, h2⟩
  obtain ⟨pc, qc, hpc⟩ := (FamH.roots hF0).ints.shape
  have hpc : c = .slice pc W.d.length qc := hpc
  have hdl := (sm_len hs).2
  have hr12 := hs.rows
  have hn100 := hs.n1
  have hn0 := hs.n0
  generalize hnd : W.d.length = nd at *
  subst hpc
  have hb0 := ((below1 w (.cells (w3 (.slice (some ⟨ga, 0, none⟩) 3 qa) W.n (.slice pc nd qc)) 28)).alloc (by simp) (.cells (s3c 1 (j : Int) 0) 44)).alloc (by simp; omega) (.cells (w3 nilV 0 nilV) 28)
  have RW0 := Lib.hid (show RowW (((w.alloc (.cells (w3 (.slice (some ⟨ga, 0, none⟩) 3 qa) W.n (.slice pc nd qc)) 28)).alloc (.cells (s3c 1 (j : Int) 0) 44)).alloc (.cells (w3 nilV 0 nilV) 28)) w.heap.size (.slice (some ⟨ga, 0, none⟩) 3 qa) W.n (.slice pc nd qc) from Row.alloc (Row.alloc (Row.new w 28 _) _) _)
  have RS0 := Lib.hid (show Row (((w.alloc (.cells (w3 (.slice (some ⟨ga, 0, none⟩) 3 qa) W.n (.slice pc nd qc)) 28)).alloc (.cells (s3c 1 (j : Int) 0) 44)).alloc (.cells (w3 nilV 0 nilV) 28)) (w.heap.size + 1) 44 (s3c 1 (j : Int) 0) from Row.alloc (Row.new1 w _ 44 (s3c 1 (j : Int) 0)) _)
  have RR0 := Lib.hid (show RowW (((w.alloc (.cells (w3 (.slice (some ⟨ga, 0, none⟩) 3 qa) W.n (.slice pc nd qc)) 28)).alloc (.cells (s3c 1 (j : Int) 0) 44)).alloc (.cells (w3 nilV 0 nilV) 28)) (w.heap.size + 1 + 1) nilV 0 nilV from Row.new2 w _ _ 28 (w3 nilV 0 nilV))
  have HB := Lib.hid hb0
  have HF : Hid (FamH (((w.alloc (.cells (w3 (.slice (some ⟨ga, 0, none⟩) 3 qa) W.n (.slice pc nd qc)) 28)).alloc (.cells (s3c 1 (j : Int) 0) 44)).alloc (.cells (w3 nilV 0 nilV) 28)) lo hi (.slice (some ⟨ga, 0, none⟩) 3 qa) nilV (.slice pc nd qc) us (wh W)) := Fam.below hF0 hb0
  have HH := Lib.hid hh; have HL3 := Lib.hid hl3; have HND := Lib.hid hnd; have HDL := Lib.hid hdl; have HR12 := Lib.hid hr12
  have HN := Lib.hid (And.intro hn0 hn100)
  have HOW := Lib.hid (show OwnW w lo hi (.slice (some ⟨ga, 0, none⟩) 3 qa) (.slice pc nd qc) W from ⟨us, hF0⟩)
  have hcell := fun i (h : i < 3) => (HF.out.cell (g := ga) (cap := qa) (i := i) (by show _ = Value.slice _ W.r.length _; rw [hl3]) (by show i < W.r.length; omega)).1
  have HCE := Lib.hid hcell
  have q0 := RowW.c0 RW0.out
  have q1 := RowW.c1 RW0.out
  have q2 := RowW.c2 RW0.out
  have s0 := Row.cell RS0.out 0
  have s1 := Row.cell RS0.out 1
  have s2 := Row.cell RS0.out 2
  clear hb0 hF0 hh hl3 hnd hdl hr12 hcell hn100 hn0
  have HJ := Lib.hid hwj
  have HJ2 : Hid True := trivial
  have HJJ := Lib.hid hj
  have hjf : j < (wh W).f.length := by show j < W.r.length; rw [HL3.out]; exact hj
  have HJF := Lib.hid hjf
  have HGA := Lib.hid (FamH.outBlk HF.out rfl)
  have HUB := Lib.hid (fun g hg => FamH.rowBlk (g := g) HF.out hjf hg)
  have hjc := HCE.out j hj
  obtain ⟨pj, cj, hpj⟩ : ∃ p q, us j = .slice p (row W j).length q := (FamH.row HF.out hjf).ints.shape
  rw [hpj] at hjc
  have HPJ := Lib.hid hpj
  have HM := Lib.hid hm
  have i1 : (j : Int) < 3 := by omega
  have e1 : IntKind.i64.wrap (W.n + 1) = W.n + 1 := IntWalk.i64_in _ (by have := HN.out; omega)
  have fr1 := Row.frozen RW0.out 1
  have h1 : W.n < 100 := hlt
  have h3 : ((row W j).length : Int) < 12 := by omega
  have HZ0 : Hid (w.heap.size + 3 ≤ (((w.alloc (.cells (w3 (.slice (some ⟨ga, 0, none⟩) 3 qa) W.n (.slice pc nd qc)) 28)).alloc (.cells (s3c 1 (j : Int) 0) 44)).alloc (.cells (w3 nilV 0 nilV) 28)).heap.size) := by unfold Hid; simp
  clear hwj hj hjf hpj hm hlt
  generalize hmm : (row W j).length = m at *
  have HMM := Lib.hid hmm; clear hmm
  go_enter Try.func55, Try.ntmps55
  go_upto_region 5 with (go_at_call 85; refine (s_l10Who _ _).mono ?_; rintro e w1 ⟨rfl, rfl⟩; first | rw [HJ.out] | rw [HJ2.out])
  generalize (((w.alloc (.cells (w3 (.slice (some ⟨ga, 0, none⟩) 3 qa) W.n (.slice pc nd qc)) 28)).alloc (.cells (s3c 1 (j : Int) 0) 44)).alloc (.cells (w3 nilV 0 nilV) 28)) = wa at *
  go_upto_region 7 with fail
  have RW2 := Lib.hid (RowW.set1 RW0.out (W.n + 1))
  have RS2 := Lib.hid (Row.other RS0.out ⟨w.heap.size, 1, none⟩ (by show w.heap.size + 1 ≠ w.heap.size; omega) (.int .i64 (W.n + 1)))
  have RR2 : Hid (RowW (wa.setCell ⟨w.heap.size, 1, none⟩ (.int .i64 (W.n + 1))) _ _ _ _) := Row.other RR0.out ⟨w.heap.size, 1, none⟩ (by show w.heap.size + 1 + 1 ≠ w.heap.size; omega) (.int .i64 (W.n + 1))
  have F2 := Lib.hid (FamH.keepRowW HF.out RW0.out (w' := wa.setCell ⟨w.heap.size, 1, none⟩ (.int .i64 (W.n + 1))) fun i hi _ => heap_setCell_other _ ⟨w.heap.size, 1, none⟩ i _ hi)
  have KP2 := Lib.hid ((KeepW.of_below HB.out).newCell ⟨w.heap.size, 1, none⟩ (Nat.le_refl _) (.int .i64 (W.n + 1)))
  have CH2 := Lib.hid ((Chg.of_below (lo := lo) (hi := hi) HB.out).newCell ⟨w.heap.size, 1, none⟩ (Nat.le_refl _) (.int .i64 (W.n + 1)))
  have Z2 : Hid (w.heap.size + 3 ≤ (wa.setCell ⟨w.heap.size, 1, none⟩ (.int .i64 (W.n + 1))).heap.size) := by unfold Hid; rw [World.size_setCell]; exact HZ0.out
  generalize wa.setCell ⟨w.heap.size, 1, none⟩ (.int .i64 (W.n + 1)) = w2 at *
  clear q0 q1 q2 s0 s1 s2 hjc fr1 HB HF HCE HOW RW0 RS0 RR0
  have hbd := below_drew (Below.refl w2.heap.size w2)
  have RW3 := Lib.hid (RowW.below RW2.out hbd)
  have RS3 := Lib.hid (Row.below RS2.out hbd)
  have RR3 := Lib.hid (RowW.below RR2.out hbd)
  have CH3 := Lib.hid (CH2.out.then hbd)
  have KP3 := Lib.hid (KP2.out.below hbd)
  have Z3 : Hid (w.heap.size + 3 ≤ (w2.drew).heap.size) := Nat.le_trans Z2.out hbd.size
  have F3 : Hid (FamH w2.drew lo hi (.slice (some ⟨ga, 0, none⟩) 3 qa) nilV (.slice pc nd qc) us (wh W)) := Fam.below F2.out hbd
  clear RW2 RS2 RR2 CH2 KP2 Z2 F2 hbd
  refine wp_region_held_drew (S := (fun w' => w'.cell? ⟨w.heap.size, 0, none⟩ = some (.slice (some ⟨ga, 0, none⟩) 3 qa) ∧ w'.cell? ⟨w.heap.size, 1, none⟩ = some (.int .i64 (W.n + 1)) ∧ w'.cell? ⟨w.heap.size + 1, 1, none⟩ = some (.int .i64 (j : Int)))) (by kernel_rfl) (⟨RowW.c0 RW3.out, RowW.c1 RW3.out, Row.cell RS3.out 1⟩) (fun hHeld => ?_)
  generalize w2.drew = x0 at *
  refine wpAnyH_take (i := 0) (v := ?va0x1) rfl (by kernel_rfl) (by kernel_rfl) (by kernel_rfl) (fun _ _ _ h => h) (Or.inl ⟨by rfl, ?hy0x1⟩) (by assumption) ?rest0x1
  case hy0x1 => (intro w hSw; (try dsimp only at hSw); go_simp; try with_reducible rfl)
  (try simp only [Act.put, List.getElem_toArray, List.getElem_cons_zero, List.setIfInBounds_toArray, List.set_cons_zero, List.set_cons_succ])
  refine wpAnyH_take (i := 1) (v := ?va1x2) rfl (by kernel_rfl) (by kernel_rfl) (by kernel_rfl) (fun _ _ _ h => h) (Or.inl ⟨by rfl, ?hy1x2⟩) (by assumption) ?rest1x2
  case hy1x2 => (intro w hSw; (try dsimp only at hSw); go_simp; try with_reducible rfl)
  (try simp only [Act.put, List.getElem_toArray, List.getElem_cons_zero, List.getElem_cons_succ, List.setIfInBounds_toArray, List.set_cons_zero, List.set_cons_succ])
  refine wpAnyH_take (i := 2) (v := ?va2x3) rfl (by kernel_rfl) (by kernel_rfl) (by kernel_rfl) (fun _ _ _ h => h) (Or.inl ⟨by rfl, ?hy2x3⟩) (by assumption) ?rest2x3
  case hy2x3 => (intro w hSw; (try dsimp only at hSw); go_simp; try with_reducible rfl)
  (try simp only [Act.put, List.getElem_toArray, List.getElem_cons_zero, List.getElem_cons_succ, List.setIfInBounds_toArray, List.set_cons_zero, List.set_cons_succ])
  refine wpAnyH_take (i := 3) (v := ?va3x4) rfl (by kernel_rfl) (by kernel_rfl) (by kernel_rfl) (fun _ _ _ h => h) (Or.inl ⟨by rfl, ?hy3x4⟩) (by assumption) ?rest3x4
  case hy3x4 => (intro w hSw; (try dsimp only at hSw); go_simp; try with_reducible rfl)
  (try simp only [Act.put, List.getElem_toArray, List.getElem_cons_zero, List.getElem_cons_succ, List.setIfInBounds_toArray, List.set_cons_zero, List.set_cons_succ])
  refine wpAnyH_take (i := 4) (v := ?va4x5) rfl (by kernel_rfl) (by kernel_rfl) (by kernel_rfl) (fun _ _ _ h => h) (Or.inl ⟨by rfl, ?hy4x5⟩) (by assumption) ?rest4x5
  case hy4x5 => (intro w hSw; (try dsimp only at hSw); go_simp; try with_reducible rfl)
  (try simp only [Act.put, List.getElem_toArray, List.getElem_cons_zero, List.getElem_cons_succ, List.setIfInBounds_toArray, List.set_cons_zero, List.set_cons_succ])
  refine wpAnyH_take (i := 5) (v := ?va5x6) rfl (by kernel_rfl) (by kernel_rfl) (by kernel_rfl) (fun _ _ _ h => h) (Or.inl ⟨by rfl, ?hy5x6⟩) (by assumption) ?rest5x6
  case hy5x6 => (intro w hSw; (try dsimp only at hSw); go_simp; try with_reducible rfl)
  (try simp only [Act.put, List.getElem_toArray, List.getElem_cons_zero, List.getElem_cons_succ, List.setIfInBounds_toArray, List.set_cons_zero, List.set_cons_succ])
  refine wpAnyH_take (i := 6) (v := ?va6x7) rfl (by kernel_rfl) (by kernel_rfl) (by kernel_rfl) (fun _ _ _ h => h) (Or.inl ⟨by rfl, ?hy6x7⟩) (by assumption) ?rest6x7
  case hy6x7 => (intro w hSw; (try dsimp only at hSw); go_simp; try with_reducible rfl)
  (try simp only [Act.put, List.getElem_toArray, List.getElem_cons_zero, List.getElem_cons_succ, List.setIfInBounds_toArray, List.set_cons_zero, List.set_cons_succ])
  refine wpAnyH_ready (rs := [7]) (by kernel_rfl) (by simp) ?_
  refine AllReadyH.cons rfl (fun K hK => ?_) AllReadyH.nil
  clear hHeld
  obtain ⟨x1, hx1⟩ : ∃ x, x = x0.alloc (.cells #[.int .i64 (W.n + 1)] 3) := ⟨_, rfl⟩
  have hb1 : Below x0.heap.size x0 x1 := by rw [hx1]; exact below1 x0 (.cells #[.int .i64 (W.n + 1)] 3)
  have RW4 := Lib.hid (RowW.below RW3.out hb1)
  have RS4 := Lib.hid (Row.below RS3.out hb1)
  have RR4 := Lib.hid (RowW.below RR3.out hb1)
  have CH4 := Lib.hid (CH3.out.then hb1)
  have KP4 := Lib.hid (KP3.out.below hb1)
  have Z4 : Hid (w.heap.size + 3 ≤ (x1).heap.size) := Nat.le_trans Z3.out hb1.size
  have F4 : Hid (FamH x1 lo hi (.slice (some ⟨ga, 0, none⟩) 3 qa) nilV (.slice pc nd qc) us (wh W)) := Fam.below F3.out hb1
  have SR4 : Hid (SrcAt x1 (.slice (some ⟨x0.heap.size, 0, none⟩) 1 1) [.int .i64 (W.n + 1)]) := by unfold Hid; rw [hx1]; exact src_oneI x0 _
  go_simp
  rw [← hx1]
  refine hK.out _ _ ⟨RowW.c0 RW4.out, RowW.c1 RW4.out, Row.cell RS4.out 1⟩ (fun hHeld => ?_)
  clear hK K hb1 hx1
  clear RW3 RS3 RR3 CH3 KP3 Z3 F3
  (try simp only [Act.put, List.getElem_toArray, List.getElem_cons_zero, List.getElem_cons_succ, List.setIfInBounds_toArray, List.set_cons_zero, List.set_cons_succ])
  refine wpAnyH_ready (rs := [8]) (by kernel_rfl) (by simp) ?_
  refine AllReadyH.cons rfl (fun K hK => ?_) AllReadyH.nil
  clear hHeld
  obtain ⟨u5, x2, hrun, ho5, hg5, hbl5⟩ := run_appOwn (P := Try.prog) x1 lo 26 26 3 i0 (.int .i64 0) 8 Try.underlying26 hinf hz0 hz1 hz2 rfl (.slice pj m cj) m ((row W j).map (Value.int .i64)) (by have h : Own x1 lo (us j) (row W j) := FamH.row F4.out HJF.out; rw [HPJ.out] at h; unfold Own at h; rw [HMM.out] at h; exact h) _ _ SR4.out (by have := HM.out; simp; unfold maxLen; omega) (by have := HM.out; simp; omega) (by have := HGA.out; have := HH.out; have := Z4.out; omega)
  have hg5' : x1.grownBy x2 (us j).ownBlock := by rw [HPJ.out]; exact hg5
  have O5 : Hid (Own x2 lo u5 (row W j ++ [W.n + 1])) := by unfold Hid Own; rw [List.length_append, List.map_append, HMM.out]; exact ho5
  have RW5 : Hid (RowW x2 _ _ _ _) := Row.grownBy RW4.out hg5' (fun e => by have := HUB.out _ e; have := HH.out; omega)
  have RS5 := Lib.hid (Row.grownBy RS4.out hg5' (fun e => by have := HUB.out _ e; have := HH.out; omega))
  have RR5 : Hid (RowW x2 _ _ _ _) := Row.grownBy RR4.out hg5' (fun e => by have := HUB.out _ e; have := HH.out; omega)
  have CH5 := Lib.hid (CH4.out.own hg5' HUB.out)
  have KP5 := Lib.hid (KP4.out.grown hg5' (FamH.row F4.out HJF.out) (by decide))
  have Z5 : Hid (w.heap.size + 3 ≤ x2.heap.size) := Nat.le_trans Z4.out hg5'.size
  have MC := FamH.midCell F4.out HJF.out hg5' (g := ga) (cap := qa) (by show _ = Value.slice _ W.r.length _; rw [HL3.out]) HJF.out
  have G5 := Lib.hid hg5'
  have BL5 : Hid (u5.ownBlock = (us j).ownBlock ∨ u5.ownBlock = some x1.heap.size) := by unfold Hid; rw [HPJ.out]; exact hbl5
  have LT5 : Hid (∀ g, u5.ownBlock = some g → g < x2.heap.size) := fun g hg => (owns_lt O5.out hg).2
  have LE4 : Hid (hi ≤ x1.heap.size) := by have := HH.out; have := Z4.out; unfold Hid; omega
  obtain ⟨p5, c5, hu5⟩ := O5.out.ints.shape
  generalize (row W j ++ [W.n + 1]).length = m5 at hu5
  subst hu5
  rw [if_pos (by rfl)]
  refine op_app _ _ _ rfl rfl rfl hrun ?_
  refine hK.out _ _ ⟨RowW.c0 RW5.out, RowW.c1 RW5.out, Row.cell RS5.out 1⟩ (fun hHeld => ?_)
  have cc := MC.1
  have ff := MC.2
  clear hK K hrun ho5 hg5 hbl5 hg5' MC SR4
  clear RW4 RS4 RR4 CH4 KP4 Z4 
  (try simp only [Act.put, List.getElem_toArray, List.getElem_cons_zero, List.getElem_cons_succ, List.setIfInBounds_toArray, List.set_cons_zero, List.set_cons_succ])
  refine wpAnyH_take (i := 9) (v := ?va9x8) rfl (by kernel_rfl) (by kernel_rfl) (by kernel_rfl) (fun _ _ _ h => h) (Or.inl ⟨by rfl, ?hy9x8⟩) (by assumption) ?rest9x8
  case hy9x8 => (intro w hSw; (try dsimp only at hSw); go_simp; try with_reducible rfl)
  (try simp only [Act.put, List.getElem_toArray, List.getElem_cons_zero, List.getElem_cons_succ, List.setIfInBounds_toArray, List.set_cons_zero, List.set_cons_succ])
  refine wpAnyH_ready (rs := [10]) (by kernel_rfl) (by simp) ?_
  refine AllReadyH.cons rfl (fun K hK => ?_) AllReadyH.nil
  clear hHeld
  have RW6 : Hid (RowW (x2.setCell ⟨ga, j, none⟩ (.slice p5 m5 c5)) _ _ _ _) := Row.other RW5.out ⟨ga, j, none⟩ (by show _ ≠ ga; have := HGA.out; have := HH.out; omega) (.slice p5 m5 c5)
  have RS6 := Lib.hid (Row.other RS5.out ⟨ga, j, none⟩ (by show _ ≠ ga; have := HGA.out; have := HH.out; omega) (.slice p5 m5 c5))
  have RR6 : Hid (RowW (x2.setCell ⟨ga, j, none⟩ (.slice p5 m5 c5)) _ _ _ _) := Row.other RR5.out ⟨ga, j, none⟩ (by show _ ≠ ga; have := HGA.out; have := HH.out; omega) (.slice p5 m5 c5)
  have Z6 : Hid (w.heap.size + 3 ≤ (x2.setCell ⟨ga, j, none⟩ (.slice p5 m5 c5)).heap.size) := by unfold Hid; rw [World.size_setCell]; exact Z5.out
  go_simp
  refine hK.out _ _ ⟨RowW.c0 RW6.out, RowW.c1 RW6.out, Row.cell RS6.out 1⟩ (fun hHeld => ?_)
  clear hK K
  (try simp only [Act.put, List.getElem_toArray, List.getElem_cons_zero, List.getElem_cons_succ, List.setIfInBounds_toArray, List.set_cons_zero, List.set_cons_succ])
  refine wpAnyH_done (by kernel_rfl) ?_ _
  clear hHeld cc ff
  obtain ⟨hF6, hG6⟩ := FamH.turnRow F4.out HJF.out G5.out O5.out (hi' := x2.heap.size) (Nat.le_trans LE4.out G5.out.size) (fun g hg => by rcases BL5.out with h | h; exact .inr (by rw [← h]; exact hg); exact .inl ⟨by rw [h] at hg; cases hg; exact LE4.out, LT5.out g hg⟩) (g := ga) (cap := qa) (by show _ = Value.slice _ W.r.length _; rw [HL3.out])
  have F6 := Lib.hid hF6
  have CH6 := Lib.hid (CH5.out.own hG6 (fun g hg => by cases hg; exact HGA.out))
  have KP6 := Lib.hid (KP5.out.cell (FamH.midOuter F4.out HJF.out G5.out) (g0 := ga) rfl (by decide) j (.slice p5 m5 c5))
  clear hF6 hG6 F4 G5 O5 BL5 LT5
  clear RW5 RS5 RR5 CH5 KP5 Z5 
  generalize hx3 : x2.setCell ⟨ga, j, none⟩ (.slice p5 m5 c5) = x3 at *
  have E6 : Hid (x2.heap.size ≤ x3.heap.size) := by unfold Hid; rw [← hx3, World.size_setCell]; exact Nat.le_refl _
  clear hx3
  go_wp2_with (first
    | (refine wl_loadW rfl _ rfl w.heap.size (.slice (some ⟨ga, 0, none⟩) 3 qa) (W.n + 1) (.slice pc nd qc) RW6.out rfl ?_)
    | (refine wl_storeW rfl _ _ rfl (w.heap.size + 1 + 1) (.slice (some ⟨ga, 0, none⟩) 3 qa) (W.n + 1) (.slice pc nd qc) nilV 0 nilV RR6.out rfl rfl rfl rfl ?_))
  refine bodyPost_ret (res_row_slot Try.results55 (Row.put RR6.out (w3 (.slice (some ⟨ga, 0, none⟩) 3 qa) (W.n + 1) (.slice pc nd qc))) rfl rfl Try.underlying28 rfl info_work) rfl ?_
  refine ⟨(.slice pc nd qc), by rw [HEN.out, stp_yes HEN.out, HACT.out]; rfl, ?_, CH6.out.newRow (w.heap.size + 1 + 1) (by omega) _, KP6.out.newRow (w.heap.size + 1 + 1) (by omega) _, fun h => by rw [HEN.out] at h; cases h⟩
  rw [stp_yes HEN.out, HACT.out]
  have OW : OwnW _ lo _ (.slice (some ⟨ga, 0, none⟩) 3 qa) (.slice pc nd qc) (push W j) := OwnW.wholeRow (W := push W j) ⟨upd us j (.slice p5 m5 c5), F6.out⟩ RR6.out (w3 (.slice (some ⟨ga, 0, none⟩) 3 qa) (W.n + 1) (.slice pc nd qc))
  exact OW.wide (Nat.le_refl _) (by rw [size_setRow]; exact E6.out)
end Go.Proofs.Ytkbphmnacdpdgaa
