/- What the laws rest on, part 3. -/
import Derived.Test.YtkbphmnacdpdgaaRB2
import Derived.Deep.Cut
namespace Go.Proofs.Ytkbphmnacdpdgaa
open Go.RowKit Ph Kw

theorem run_loadVar_at {P : Program} (w : World) (g off : Nat) (ty : TypeId) (vs : List Value) (d : TypeDesc) (hc : ∀ j v, vs[j]? = some v → w.cell? ⟨g, off + j, none⟩ = some v)
    (hu : P.underlying ty = some d) (hd : (match d with | .struct _ | .array _ _ => true | _ => false) = true) (hi : (P.info? ty).map (·.size) = some vs.length) :
    (loadVar ty ⟨g, off, none⟩).run P w = .ok (.agg vs.toArray) w := by
  have hl : (loadCells ⟨g, off, none⟩ vs.length).run P w = .ok vs.toArray w :=
    run_loadCells_list (P := P) w ⟨g, off, none⟩ vs (fun j v hv => by
      have hadd : (⟨g, off, none⟩ : Addr).add j = ⟨g, off + j, none⟩ := by unfold Addr.add; split <;> simp_all
      rw [hadd]
      exact hc j v hv)
  cases hq : P.info? ty with
  | none => simp [hq] at hi
  | some i =>
    have hs : i.size = vs.length := by simpa [hq] using hi
    have hagg : (isAgg ty).run P w = .ok true w := by
      unfold isAgg
      rw [Sem.run_bind, run_underlying hu w]
      cases d <;> simp_all
    simp [loadVar, Sem.run_bind, hagg, sizeOf, typeInfo, hq, hs, hl]
theorem wl_loadAt {P : Program} {ops : Array Oper} {rest : List Oper} {o : Oper} {a : Act} {w : World} {Q : Exit → Act → World → Prop} (hgd : o.guard = none) (ty : TypeId) (x : Operand) (ho : o.op = .load ty x)
    (g off : Nat) (hx : a.eval x = .pointer (some ⟨g, off, none⟩)) (T : TypeId) (cs : Array Value) (hg : Row w g T cs) (vs : List Value) (d : TypeDesc) (hp : ∀ j v, vs[j]? = some v → cs[off + j]? = some v)
    (hu : P.underlying ty = some d) (hd : (match d with | .struct _ | .array _ _ => true | _ => false) = true) (hi : (P.info? ty).map (·.size) = some vs.length)
    (h : wpList P ops Q rest (a.put o.dst (.agg vs.toArray)) w) : wpList P ops Q (o :: rest) a w :=
  wpList_plain hgd fun _ hK => by
    unfold Oper.wp execOp
    simp only [ho, hx, Instr.loadAt, Instr.sureAddr, Sem.run_bind, Sem.run_pure, Result.andThen_ok, run_loadVar_at w g off ty vs d (fun j v hv => (Row.cell hg (off + j)).trans (hp j v hv)) hu hd hi]
    exact hK _ _ h
theorem run_index3 (w : World) (f : Nat → Value) {k : Nat} (hk : k < 3) : (Instr.index 74 (.agg #[f 0, f 1, f 2]) (.int .i64 (k : Int))).run Try.prog w = .ok (f k) w := by
  have h1 : (0 : Int) ≤ (k : Int) ∧ (k : Int) < ((3 : Nat) : Int) := by omega
  have hinf : ∃ inf, Try.prog.info? 26 = some inf ∧ inf.size = 1 := by
    have h := info_ints
    cases hq : Try.prog.info? 26 with
    | none => simp [hq] at h
    | some inf => simp [hq] at h; exact ⟨inf, rfl, h.2.1⟩
  obtain ⟨inf, hq, hs⟩ := hinf
  simp [Instr.index, run_underlying Try.underlying74, asIntOf, h1, sizeOf, typeInfo, hq, hs, hk, go_sem]
  rcases lt3 hk with rfl | rfl | rfl <;> rfl
/-- Three empty deques and a list. -/
theorem famStart {w : World} {lo hi ga : Nat} {v : Value} {zs : List Int} (h1 : w.ownsRow lo 26 1 (.slice (some ⟨ga, 0, none⟩) 3 3) 3 (List.replicate 3 nilV)) (h2 : Own w lo v zs) (hne : v.ownBlock ≠ some ga) (hh : ga < hi) (hv : ∀ g, v.ownBlock = some g → g < hi) :
    FamH w lo hi (.slice (some ⟨ga, 0, none⟩) 3 3) nilV v (fun _ => nilV) ⟨[[], [], []], [], zs⟩ := by
  refine ⟨fun k hk => ?_, fun k hk g hg => ?_, fun j k hj hk hjk => ?_⟩
  · match k, hk with
    | 0, _ => exact h1
    | 1, _ => exact ⟨rfl, .inl ⟨rfl, rfl⟩⟩
    | 2, _ => simp only [tyH, vH, cH, List.length_map]; exact h2
    | 3, _ => exact ⟨rfl, .inl ⟨rfl, rfl⟩⟩
    | 4, _ => exact ⟨rfl, .inl ⟨rfl, rfl⟩⟩
    | 5, _ => exact ⟨rfl, .inl ⟨rfl, rfl⟩⟩
  · match k, hk with
    | 0, _ => cases hg; exact hh
    | 1, _ => cases hg
    | 2, _ => exact hv g hg
    | 3, _ => cases hg
    | 4, _ => cases hg
    | 5, _ => cases hg
  · match j, hj, k, hk with
    | 1, _, _, _ => exact .inl rfl
    | 3, _, _, _ => exact .inl rfl
    | 4, _, _, _ => exact .inl rfl
    | 5, _, _, _ => exact .inl rfl
    | 0, _, 2, _ => exact .inr fun e => hne e.symm
    | 0, _, 0, _ => exact absurd rfl hjk
    | 0, _, 1, _ => exact .inr (by simp [vH, Value.ownBlock])
    | 0, _, 3, _ => exact .inr (by simp [vH, Value.ownBlock])
    | 0, _, 4, _ => exact .inr (by simp [vH, Value.ownBlock])
    | 0, _, 5, _ => exact .inr (by simp [vH, Value.ownBlock])
    | 2, _, 2, _ => exact absurd rfl hjk
    | 2, _, 0, _ => exact .inr hne
    | 2, _, 1, _ =>
      cases e : v.ownBlock with
      | none => exact .inl e
      | some g => exact .inr fun h => by have h2 : v.ownBlock = none := h; rw [e] at h2; cases h2
    | 2, _, 3, _ =>
      cases e : v.ownBlock with
      | none => exact .inl e
      | some g => exact .inr fun h => by have h2 : v.ownBlock = none := h; rw [e] at h2; cases h2
    | 2, _, 4, _ =>
      cases e : v.ownBlock with
      | none => exact .inl e
      | some g => exact .inr fun h => by have h2 : v.ownBlock = none := h; rw [e] at h2; cases h2
    | 2, _, 5, _ =>
      cases e : v.ownBlock with
      | none => exact .inl e
      | some g => exact .inr fun h => by have h2 : v.ownBlock = none := h; rw [e] at h2; cases h2
/-- A block of another type is none of the lists' blocks. -/
theorem owns_ne_rowT {w : World} {B g : Nat} {T T0 : TypeId} {v : Value} {n : Nat} {xs : List Value} {cs : Array Value} (h : w.ownsRow B T 1 v n xs) (hr : Row w g T0 cs) (hT : T ≠ T0) {g' : Nat} (hg : v.ownBlock = some g') : g' ≠ g := by
  intro e
  subst e
  rcases h.2 with ⟨rfl, _⟩ | ⟨g2, cap, cur, rfl, _, h2, _⟩
  · cases hg
  · cases hg
    unfold Row at hr
    rw [h2] at hr
    simp only [Option.some.injEq, Obj.cells.injEq] at hr
    exact hT hr.2.1
theorem tyW_ne (k : Nat) : tyH k ≠ 28 := by
  match k with
  | 0 => exact (by decide)
  | 1 => exact (by decide)
  | k + 2 => show 3 ≠ 28; decide
theorem FamH.keepRowW {w w' : World} {lo hi g : Nat} {a b c : Value} {us : Nat → Value} {h : H} {cs : Array Value} (k : FamH w lo hi a b c us h) (hr : Row w g 28 cs) (hb : ∀ i, i ≠ g → i < w.heap.size → w'.heap[i]? = w.heap[i]?) : FamH w' lo hi a b c us h :=
  ⟨fun j hj => owns_block (k.own j hj) fun g' hg' => hb g' (owns_ne_rowT (k.own j hj) hr (tyW_ne j) hg') (owns_lt (k.own j hj) hg').2, k.lt, k.ap⟩
theorem OwnW.wholeRow {w : World} {lo hi g : Nat} {a c : Value} {W : Wk} {cs : Array Value} (k : OwnW w lo hi a c W) (hr : Row w g 28 cs) (ds : Array Value) : OwnW (w.setRow g ds) lo hi a c W := by
  obtain ⟨us, k⟩ := k
  exact ⟨us, k.keepRowW hr fun i hi _ => setRow_other w g i ds hi⟩
set_option maxRecDepth 100000 in
set_option maxHeartbeats 6400000 in
theorem c_work (f : Nat → Value) (d : Value) (W : Wk) (w : World) (hA : CrewAt w f d W) (hl : W.r.length = 3) (hr : ∀ k, k < 3 → (row W k).length ≤ 1048576) (hd : W.d.length ≤ 1048576) : Calls Try.prog 54 #[crv f W.n d] w fun e w' => ∃ a c, e = .returned (wkv a W.n c) ∧ OwnW w' w.heap.size w'.heap.size a c W ∧ Below w.heap.size w w' := by
  obtain ⟨i0, hi, hz0, hz1, hz2⟩ := info_parts info_ints
  obtain ⟨pd, qd, hdd, _⟩ := hA.d.shape
  generalize hmd : W.d.length = md at hdd
  subst hdd
  have hb0 := (below1 w (.cells (cr5 f W.n (.slice pd md qd)) 76)).alloc (by simp) (.cells (w3 nilV 0 nilV) 28)
  have rc0 : RowC ((w.alloc (.cells (cr5 f W.n (.slice pd md qd)) 76)).alloc (.cells (w3 nilV 0 nilV) 28)) w.heap.size f W.n (.slice pd md qd) := Row.alloc (Row.new w 76 _) _
  have rr0 : RowW ((w.alloc (.cells (cr5 f W.n (.slice pd md qd)) 76)).alloc (.cells (w3 nilV 0 nilV) 28)) (w.heap.size + 1) nilV 0 nilV := Row.new1 w _ 28 _
  have hsz : ((w.alloc (.cells (cr5 f W.n (.slice pd md qd)) 76)).alloc (.cells (w3 nilV 0 nilV) 28)).heap.size = w.heap.size + 2 := by simp
  have HA := Lib.hid hA; have HD := Lib.hid hA.d; have HR := Lib.hid hr; have HL := Lib.hid hl; have HDL := Lib.hid hd
  have RC := Lib.hid rc0; have RR := Lib.hid rr0; have HB := Lib.hid hb0
  have HZ := Lib.hid (Nat.le_of_eq hsz.symm)
  clear rc0 rr0 hb0 hsz hA hr hl hd hmd
  go_enter Try.func54, Try.ntmps54
  go_upto_region 1 with fail
  generalize ((w.alloc (.cells (cr5 f W.n (.slice pd md qd)) 76)).alloc (.cells (w3 nilV 0 nilV) 28)) = wa at *
  have C1 : Hid (RowC wa.drew w.heap.size f W.n (.slice pd md qd)) := RC
  have R1 : Hid (RowW wa.drew (w.heap.size + 1) nilV 0 nilV) := RR
  have B1 : Hid (Below w.heap.size w wa.drew) := below_drew HB.out
  have Z1 : Hid (w.heap.size + 2 ≤ wa.drew.heap.size) := HZ
  clear RC RR HB HZ
  go_cut [3] from 6 (fun s3 wz => ∃ (ga gV : Nat) (pv : Option Addr) (mm qv : Nat), s3 = .pointer (some ⟨gV, 0, none⟩) ∧ Hid (FamH wz w.heap.size wz.heap.size (.slice (some ⟨ga, 0, none⟩) 3 3) nilV (.slice pv mm qv) (fun _ => nilV) ⟨[[], [], []], [], W.d⟩) ∧ Hid (RowW wz gV (.slice (some ⟨ga, 0, none⟩) 3 3) W.n (.slice pv mm qv)) ∧ Hid (RowW wz (w.heap.size + 1) nilV 0 nilV) ∧ Hid (RowC wz w.heap.size f W.n (.slice pd md qd)) ∧ Hid (Below w.heap.size w wz) ∧ Hid (w.heap.size + 2 ≤ gV))
  case first =>
    refine wp_region_held_drew (S := (fun w' => w'.cell? ⟨w.heap.size, 3, none⟩ = some (.int .i64 W.n) ∧ w'.cell? ⟨w.heap.size, 4, none⟩ = some (.slice pd md qd))) (by kernel_rfl) (⟨C1.out.nn, C1.out.dd⟩) (fun hHeld => ?_)
    refine wpAnyH_take (i := 1) (v := ?va1x1) rfl (by kernel_rfl) (by kernel_rfl) (by kernel_rfl) (fun _ _ _ h => h) (Or.inl ⟨by rfl, ?hy1x1⟩) (by assumption) ?rest1x1
    case hy1x1 => (intro w hSw; (try dsimp only at hSw); go_simp; try with_reducible rfl)
    (try simp only [Act.put, List.getElem_toArray, List.getElem_cons_zero, List.getElem_cons_succ, List.setIfInBounds_toArray, List.set_cons_zero, List.set_cons_succ])
    refine wpAnyH_take (i := 2) (v := ?va2x2) rfl (by kernel_rfl) (by kernel_rfl) (by kernel_rfl) (fun _ _ _ h => h) (Or.inl ⟨by rfl, ?hy2x2⟩) (by assumption) ?rest2x2
    case hy2x2 => (intro w hSw; (try dsimp only at hSw); go_simp; try with_reducible rfl)
    (try simp only [Act.put, List.getElem_toArray, List.getElem_cons_zero, List.getElem_cons_succ, List.setIfInBounds_toArray, List.set_cons_zero, List.set_cons_succ])
    refine wpAnyH_take (i := 3) (v := ?va3x3) rfl (by kernel_rfl) (by kernel_rfl) (by kernel_rfl) (fun _ _ _ h => h) (Or.inl ⟨by rfl, ?hy3x3⟩) (by assumption) ?rest3x3
    case hy3x3 => (intro w hSw; (try dsimp only at hSw); go_simp; try with_reducible rfl)
    (try simp only [Act.put, List.getElem_toArray, List.getElem_cons_zero, List.getElem_cons_succ, List.setIfInBounds_toArray, List.set_cons_zero, List.set_cons_succ])
    refine wpAnyH_take (i := 4) (v := ?va4x4) rfl (by kernel_rfl) (by kernel_rfl) (by kernel_rfl) (fun _ _ _ h => h) (Or.inl ⟨by rfl, ?hy4x4⟩) (by assumption) ?rest4x4
    case hy4x4 => (intro w hSw; (try dsimp only at hSw); go_simp; try with_reducible rfl)
    (try simp only [Act.put, List.getElem_toArray, List.getElem_cons_zero, List.getElem_cons_succ, List.setIfInBounds_toArray, List.set_cons_zero, List.set_cons_succ])
    generalize wa.drew = x0 at *
    refine wpAnyH_ready (rs := [0, 5, 7]) (by kernel_rfl) (by simp) ?_
    refine AllReadyH.cons rfl (fun K hK => ?_) (AllReadyH.cons rfl (fun K hK => ?_) (AllReadyH.cons rfl (fun K hK => ?_) AllReadyH.nil))
    · skip
      clear hHeld
      rw [if_pos (by rfl)]
      refine op_make _ _ 25 rfl w.heap.size 26 i0 nilV 1 Try.underlying25 hi hz0 hz1 .i64 .i64 3 rfl rfl (by rw [hz2]; omega) (by unfold maxLen; omega) (by have := Z1.out; omega) ?_
      intro x1 hown1 hgr1
      rw [show (3 : Nat) * 1 = 3 from rfl, show nilV.cells = #[.slice none 0 0] from rfl, toList_madeCells_one] at hown1
      have hb1 := (Below.refl x0.heap.size x0).grown hgr1 (Nat.le_refl _) (fun k hk => by cases hk)
      have C1 := Lib.hid (RowC.below C1.out hb1)
      have R1 := Lib.hid (RowW.below R1.out hb1)
      have B1 := Lib.hid (bst B1.out hb1 B1.out.size)
      have Z1 : Hid (w.heap.size + 2 ≤ x1.heap.size) := Nat.le_trans Z1.out hb1.size
      have MK1 := Lib.hid hown1
      refine hK.out _ _ ⟨C1.out.nn, C1.out.dd⟩ (fun hHeld => ?_)
      clear hK K hb1 hown1 hgr1
      (try simp only [Act.put, List.getElem_toArray, List.getElem_cons_zero, List.setIfInBounds_toArray, List.set_cons_zero, List.set_cons_succ])
      refine wpAnyH_ready (rs := [5, 7]) (by kernel_rfl) (by simp) ?_
      refine AllReadyH.cons rfl (fun K hK => ?_) (AllReadyH.cons rfl (fun K hK => ?_) AllReadyH.nil)
      · skip
        clear hHeld
        go_simp
        refine (c_copyInts (.slice pd md qd) W.d _ (HD.out.below B1.out).1 HDL.out).mono ?_
        rintro e x2 ⟨vd, rfl, hod, hb2⟩
        have C2 := Lib.hid (RowC.below C1.out hb2)
        have R2 := Lib.hid (RowW.below R1.out hb2)
        have B2 := Lib.hid (bst B1.out hb2 B1.out.size)
        have M2 : Hid (World.ownsRow _ w.heap.size 26 1 _ 3 _) := owns_block MK1.out fun g hg => hb2.block g (owns_lt MK1.out hg).2
        have Z2 : Hid (w.heap.size + 2 ≤ x2.heap.size) := Nat.le_trans Z1.out hb2.size
        have O2 : Hid (Own x2 w.heap.size vd W.d) := owns_mono hod fun g hg => Nat.le_trans (by have := Z1.out; omega) (owns_lt hod hg).1
        have NE : Hid (vd.ownBlock ≠ some x0.heap.size) := fun e => by have := (owns_lt hod e).1; have := (owns_lt (g := x0.heap.size) MK1.out rfl).2; omega
        obtain ⟨pv, qv, hvd⟩ := hod.ints.shape
        generalize hmm : W.d.length = mm at hvd
        subst hvd
        clear hmm
        refine hK.out _ _ ⟨C2.out.nn, C2.out.dd⟩ (fun hHeld => ?_)
        clear hK K hb2 hod
        (try simp only [Act.put, List.getElem_toArray, List.getElem_cons_zero, List.getElem_cons_succ, List.setIfInBounds_toArray, List.set_cons_zero, List.set_cons_succ])
        refine wpAnyH_take (i := 6) (v := ?va6x5) rfl (by kernel_rfl) (by kernel_rfl) (by kernel_rfl) (fun _ _ _ h => h) (Or.inl ⟨by rfl, ?hy6x5⟩) (by assumption) ?rest6x5
        case hy6x5 => (intro w hSw; (try dsimp only at hSw); go_simp; try with_reducible rfl)
        (try simp only [Act.put, List.getElem_toArray, List.getElem_cons_zero, List.getElem_cons_succ, List.setIfInBounds_toArray, List.set_cons_zero, List.set_cons_succ])
        refine wpAnyH_ready (rs := [7]) (by kernel_rfl) (by simp) ?_
        refine AllReadyH.cons rfl (fun K hK => ?_) AllReadyH.nil
        clear hHeld
        obtain ⟨x3, hx3⟩ : ∃ x, x = x2.alloc (.cells (w3 nilV 0 nilV) 28) := ⟨_, rfl⟩
        have hb3 : Below x2.heap.size x2 x3 := by rw [hx3]; exact below1 x2 (.cells (w3 nilV 0 nilV) 28)
        have C3 := Lib.hid (RowC.below C2.out hb3)
        have R3 := Lib.hid (RowW.below R2.out hb3)
        have B3 := Lib.hid (bst B2.out hb3 B2.out.size)
        have M3 : Hid (World.ownsRow _ w.heap.size 26 1 _ 3 _) := owns_block M2.out fun g hg => hb3.block g (owns_lt M2.out hg).2
        have O3 : Hid (Own _ w.heap.size (.slice pv mm qv) W.d) := Own.below O2.out hb3
        have Z3 : Hid (w.heap.size + 2 ≤ x3.heap.size) := Nat.le_trans Z2.out hb3.size
        have V3 : Hid (RowW x3 x2.heap.size nilV 0 nilV) := by rw [hx3]; exact Row.new x2 _ _
        go_simp
        rw [← hx3]
        refine hK.out _ _ ⟨C3.out.nn, C3.out.dd⟩ (fun hHeld => ?_)
        clear hK K hb3 hx3
        (try simp only [Act.put, List.getElem_toArray, List.getElem_cons_zero, List.getElem_cons_succ, List.setIfInBounds_toArray, List.set_cons_zero, List.set_cons_succ])
        have FM := famStart (hi := x3.heap.size) M3.out O3.out NE.out (owns_lt M3.out rfl).2 (fun g hg => (owns_lt O3.out hg).2)
        have FM2 : Hid (FamH (x3.setRow (x2.heap.size) (w3 (.slice (some ⟨x0.heap.size, 0, none⟩) 3 3) W.n (.slice pv mm qv))) w.heap.size x3.heap.size (.slice (some ⟨x0.heap.size, 0, none⟩) 3 3) nilV (.slice pv mm qv) (fun _ => nilV) ⟨[[], [], []], [], W.d⟩) := FM.keepRowW V3.out fun i hi _ => setRow_other x3 (x2.heap.size) i _ hi
        clear FM
        have hg1 : w.heap.size + 1 ≠ x2.heap.size := by have := Z2.out; omega
        have hg0 : w.heap.size ≠ x2.heap.size := by have := Z2.out; omega
        have V9 : Hid (RowW (x3.setRow (x2.heap.size) (w3 (.slice (some ⟨x0.heap.size, 0, none⟩) 3 3) W.n (.slice pv mm qv))) (x2.heap.size) (.slice (some ⟨x0.heap.size, 0, none⟩) 3 3) W.n (.slice pv mm qv)) := Row.put V3.out _
        have R9 : Hid (RowW (x3.setRow (x2.heap.size) (w3 (.slice (some ⟨x0.heap.size, 0, none⟩) 3 3) W.n (.slice pv mm qv))) (w.heap.size + 1) nilV 0 nilV) := Row.putOther R3.out _ hg1
        have C9 : Hid (RowC (x3.setRow (x2.heap.size) (w3 (.slice (some ⟨x0.heap.size, 0, none⟩) 3 3) W.n (.slice pv mm qv))) w.heap.size f W.n (.slice pd md qd)) := Row.putOther C3.out _ hg0
        have B9 := Lib.hid (below_setRow B3.out (show w.heap.size ≤ x2.heap.size by have := Z2.out; omega) (w3 (.slice (some ⟨x0.heap.size, 0, none⟩) 3 3) W.n (.slice pv mm qv)))
        have S9 : Hid ((x3.setRow (x2.heap.size) (w3 (.slice (some ⟨x0.heap.size, 0, none⟩) 3 3) W.n (.slice pv mm qv))).heap.size = x3.heap.size) := size_setRow _ _ _
        clear hHeld
        refine wpAnyH_ready (rs := [8]) (by kernel_rfl) (by simp) ?_
        refine AllReadyH.cons rfl (fun K hK => ?_) AllReadyH.nil
        rw [if_pos (by rfl)]
        refine wp_store_row 28 _ _ rfl (x2.heap.size) (w3 (.slice (some ⟨x0.heap.size, 0, none⟩) 3 3) W.n (.slice pv mm qv)) rfl rfl 28 (w3 nilV 0 nilV) V3.out info_work rfl (by simp [Value.oneCell']) ?_
        refine hK.out _ _ ⟨C9.out.nn, C9.out.dd⟩ (fun hHeld => ?_)
        clear hK K
        (try simp only [Act.put, List.getElem_toArray, List.getElem_cons_zero, List.getElem_cons_succ])
        refine wpAnyH_done (by kernel_rfl) ?_ _
        clear hHeld
        go_wp2_with fail
        go_meet
        case rel => exact ⟨x0.heap.size, x2.heap.size, pv, mm, qv, rfl, (by unfold Hid; rw [S9.out]; exact FM2.out), V9, R9, C9, B9, Z2⟩
      · skip
        clear hHeld
        obtain ⟨x4, hx4⟩ : ∃ x, x = x1.alloc (.cells (w3 nilV 0 nilV) 28) := ⟨_, rfl⟩
        have hb4 : Below x1.heap.size x1 x4 := by rw [hx4]; exact below1 x1 (.cells (w3 nilV 0 nilV) 28)
        have C4 := Lib.hid (RowC.below C1.out hb4)
        have R4 := Lib.hid (RowW.below R1.out hb4)
        have B4 := Lib.hid (bst B1.out hb4 B1.out.size)
        have M4 : Hid (World.ownsRow _ w.heap.size 26 1 _ 3 _) := owns_block MK1.out fun g hg => hb4.block g (owns_lt MK1.out hg).2
        have Z4 : Hid (w.heap.size + 2 ≤ x4.heap.size) := Nat.le_trans Z1.out hb4.size
        have V4 : Hid (RowW x4 x1.heap.size nilV 0 nilV) := by rw [hx4]; exact Row.new x1 _ _
        go_simp
        rw [← hx4]
        refine hK.out _ _ ⟨C4.out.nn, C4.out.dd⟩ (fun hHeld => ?_)
        clear hK K hb4 hx4
        (try simp only [Act.put, List.getElem_toArray, List.getElem_cons_zero, List.getElem_cons_succ, List.setIfInBounds_toArray, List.set_cons_zero, List.set_cons_succ])
        refine wpAnyH_ready (rs := [5]) (by kernel_rfl) (by simp) ?_
        refine AllReadyH.cons rfl (fun K hK => ?_) AllReadyH.nil
        clear hHeld
        go_simp
        refine (c_copyInts (.slice pd md qd) W.d _ (HD.out.below B4.out).1 HDL.out).mono ?_
        rintro e x5 ⟨vd, rfl, hod, hb5⟩
        have C5 := Lib.hid (RowC.below C4.out hb5)
        have R5 := Lib.hid (RowW.below R4.out hb5)
        have B5 := Lib.hid (bst B4.out hb5 B4.out.size)
        have M5 : Hid (World.ownsRow _ w.heap.size 26 1 _ 3 _) := owns_block M4.out fun g hg => hb5.block g (owns_lt M4.out hg).2
        have V5 := Lib.hid (RowW.below V4.out hb5)
        have Z5 : Hid (w.heap.size + 2 ≤ x5.heap.size) := Nat.le_trans Z4.out hb5.size
        have O5 : Hid (Own x5 w.heap.size vd W.d) := owns_mono hod fun g hg => Nat.le_trans (by have := Z4.out; omega) (owns_lt hod hg).1
        have NE : Hid (vd.ownBlock ≠ some x0.heap.size) := fun e => by have := (owns_lt hod e).1; have := (owns_lt (g := x0.heap.size) M4.out rfl).2; omega
        obtain ⟨pv, qv, hvd⟩ := hod.ints.shape
        generalize hmm : W.d.length = mm at hvd
        subst hvd
        clear hmm
        refine hK.out _ _ ⟨C5.out.nn, C5.out.dd⟩ (fun hHeld => ?_)
        clear hK K hb5 hod
        (try simp only [Act.put, List.getElem_toArray, List.getElem_cons_zero, List.getElem_cons_succ, List.setIfInBounds_toArray, List.set_cons_zero, List.set_cons_succ])
        refine wpAnyH_take (i := 6) (v := ?va6x6) rfl (by kernel_rfl) (by kernel_rfl) (by kernel_rfl) (fun _ _ _ h => h) (Or.inl ⟨by rfl, ?hy6x6⟩) (by assumption) ?rest6x6
        case hy6x6 => (intro w hSw; (try dsimp only at hSw); go_simp; try with_reducible rfl)
        (try simp only [Act.put, List.getElem_toArray, List.getElem_cons_zero, List.getElem_cons_succ, List.setIfInBounds_toArray, List.set_cons_zero, List.set_cons_succ])
        have FM := famStart (hi := x5.heap.size) M5.out O5.out NE.out (owns_lt M5.out rfl).2 (fun g hg => (owns_lt O5.out hg).2)
        have FM2 : Hid (FamH (x5.setRow (x1.heap.size) (w3 (.slice (some ⟨x0.heap.size, 0, none⟩) 3 3) W.n (.slice pv mm qv))) w.heap.size x5.heap.size (.slice (some ⟨x0.heap.size, 0, none⟩) 3 3) nilV (.slice pv mm qv) (fun _ => nilV) ⟨[[], [], []], [], W.d⟩) := FM.keepRowW V5.out fun i hi _ => setRow_other x5 (x1.heap.size) i _ hi
        clear FM
        have hg1 : w.heap.size + 1 ≠ x1.heap.size := by have := Z1.out; omega
        have hg0 : w.heap.size ≠ x1.heap.size := by have := Z1.out; omega
        have V9 : Hid (RowW (x5.setRow (x1.heap.size) (w3 (.slice (some ⟨x0.heap.size, 0, none⟩) 3 3) W.n (.slice pv mm qv))) (x1.heap.size) (.slice (some ⟨x0.heap.size, 0, none⟩) 3 3) W.n (.slice pv mm qv)) := Row.put V5.out _
        have R9 : Hid (RowW (x5.setRow (x1.heap.size) (w3 (.slice (some ⟨x0.heap.size, 0, none⟩) 3 3) W.n (.slice pv mm qv))) (w.heap.size + 1) nilV 0 nilV) := Row.putOther R5.out _ hg1
        have C9 : Hid (RowC (x5.setRow (x1.heap.size) (w3 (.slice (some ⟨x0.heap.size, 0, none⟩) 3 3) W.n (.slice pv mm qv))) w.heap.size f W.n (.slice pd md qd)) := Row.putOther C5.out _ hg0
        have B9 := Lib.hid (below_setRow B5.out (show w.heap.size ≤ x1.heap.size by have := Z1.out; omega) (w3 (.slice (some ⟨x0.heap.size, 0, none⟩) 3 3) W.n (.slice pv mm qv)))
        have S9 : Hid ((x5.setRow (x1.heap.size) (w3 (.slice (some ⟨x0.heap.size, 0, none⟩) 3 3) W.n (.slice pv mm qv))).heap.size = x5.heap.size) := size_setRow _ _ _
        clear hHeld
        refine wpAnyH_ready (rs := [8]) (by kernel_rfl) (by simp) ?_
        refine AllReadyH.cons rfl (fun K hK => ?_) AllReadyH.nil
        rw [if_pos (by rfl)]
        refine wp_store_row 28 _ _ rfl (x1.heap.size) (w3 (.slice (some ⟨x0.heap.size, 0, none⟩) 3 3) W.n (.slice pv mm qv)) rfl rfl 28 (w3 nilV 0 nilV) V5.out info_work rfl (by simp [Value.oneCell']) ?_
        refine hK.out _ _ ⟨C9.out.nn, C9.out.dd⟩ (fun hHeld => ?_)
        clear hK K
        (try simp only [Act.put, List.getElem_toArray, List.getElem_cons_zero, List.getElem_cons_succ])
        refine wpAnyH_done (by kernel_rfl) ?_ _
        clear hHeld
        go_wp2_with fail
        go_meet
        case rel => exact ⟨x0.heap.size, x1.heap.size, pv, mm, qv, rfl, (by unfold Hid; rw [S9.out]; exact FM2.out), V9, R9, C9, B9, Z1⟩
    · skip
      clear hHeld
      go_simp
      refine (c_copyInts (.slice pd md qd) W.d _ (HD.out.below B1.out).1 HDL.out).mono ?_
      rintro e x6 ⟨vd, rfl, hod, hb6⟩
      have C6 := Lib.hid (RowC.below C1.out hb6)
      have R6 := Lib.hid (RowW.below R1.out hb6)
      have B6 := Lib.hid (bst B1.out hb6 B1.out.size)
      have Z6 : Hid (w.heap.size + 2 ≤ x6.heap.size) := Nat.le_trans Z1.out hb6.size
      have O6 : Hid (Own x6 w.heap.size vd W.d) := owns_mono hod fun g hg => Nat.le_trans (by have := Z1.out; omega) (owns_lt hod hg).1
      obtain ⟨pv, qv, hvd⟩ := hod.ints.shape
      generalize hmm : W.d.length = mm at hvd
      subst hvd
      clear hmm
      refine hK.out _ _ ⟨C6.out.nn, C6.out.dd⟩ (fun hHeld => ?_)
      clear hK K hb6 hod
      (try simp only [Act.put, List.getElem_toArray, List.getElem_cons_zero, List.getElem_cons_succ, List.setIfInBounds_toArray, List.set_cons_zero, List.set_cons_succ])
      refine wpAnyH_ready (rs := [0, 7]) (by kernel_rfl) (by simp) ?_
      refine AllReadyH.cons rfl (fun K hK => ?_) (AllReadyH.cons rfl (fun K hK => ?_) AllReadyH.nil)
      · skip
        clear hHeld
        rw [if_pos (by rfl)]
        refine op_make _ _ 25 rfl w.heap.size 26 i0 nilV 1 Try.underlying25 hi hz0 hz1 .i64 .i64 3 rfl rfl (by rw [hz2]; omega) (by unfold maxLen; omega) (by have := Z6.out; omega) ?_
        intro x7 hown7 hgr7
        rw [show (3 : Nat) * 1 = 3 from rfl, show nilV.cells = #[.slice none 0 0] from rfl, toList_madeCells_one] at hown7
        have hb7 := (Below.refl x6.heap.size x6).grown hgr7 (Nat.le_refl _) (fun k hk => by cases hk)
        have C7 := Lib.hid (RowC.below C6.out hb7)
        have R7 := Lib.hid (RowW.below R6.out hb7)
        have B7 := Lib.hid (bst B6.out hb7 B6.out.size)
        have O7 : Hid (Own _ w.heap.size (.slice pv mm qv) W.d) := Own.below O6.out hb7
        have Z7 : Hid (w.heap.size + 2 ≤ x7.heap.size) := Nat.le_trans Z6.out hb7.size
        have MK7 := Lib.hid hown7
        refine hK.out _ _ ⟨C7.out.nn, C7.out.dd⟩ (fun hHeld => ?_)
        clear hK K hb7 hown7 hgr7
        (try simp only [Act.put, List.getElem_toArray, List.getElem_cons_zero, List.setIfInBounds_toArray, List.set_cons_zero, List.set_cons_succ])
        have NE : Hid ((Value.slice pv mm qv).ownBlock ≠ some x6.heap.size) := fun e => by have := (owns_lt O6.out e).2; omega
        refine wpAnyH_take (i := 6) (v := ?va6x7) rfl (by kernel_rfl) (by kernel_rfl) (by kernel_rfl) (fun _ _ _ h => h) (Or.inl ⟨by rfl, ?hy6x7⟩) (by assumption) ?rest6x7
        case hy6x7 => (intro w hSw; (try dsimp only at hSw); go_simp; try with_reducible rfl)
        (try simp only [Act.put, List.getElem_toArray, List.getElem_cons_zero, List.getElem_cons_succ, List.setIfInBounds_toArray, List.set_cons_zero, List.set_cons_succ])
        refine wpAnyH_ready (rs := [7]) (by kernel_rfl) (by simp) ?_
        refine AllReadyH.cons rfl (fun K hK => ?_) AllReadyH.nil
        clear hHeld
        obtain ⟨x8, hx8⟩ : ∃ x, x = x7.alloc (.cells (w3 nilV 0 nilV) 28) := ⟨_, rfl⟩
        have hb8 : Below x7.heap.size x7 x8 := by rw [hx8]; exact below1 x7 (.cells (w3 nilV 0 nilV) 28)
        have C8 := Lib.hid (RowC.below C7.out hb8)
        have R8 := Lib.hid (RowW.below R7.out hb8)
        have B8 := Lib.hid (bst B7.out hb8 B7.out.size)
        have O8 : Hid (Own _ w.heap.size (.slice pv mm qv) W.d) := Own.below O7.out hb8
        have M8 : Hid (World.ownsRow _ w.heap.size 26 1 _ 3 _) := owns_block MK7.out fun g hg => hb8.block g (owns_lt MK7.out hg).2
        have Z8 : Hid (w.heap.size + 2 ≤ x8.heap.size) := Nat.le_trans Z7.out hb8.size
        have V8 : Hid (RowW x8 x7.heap.size nilV 0 nilV) := by rw [hx8]; exact Row.new x7 _ _
        go_simp
        rw [← hx8]
        refine hK.out _ _ ⟨C8.out.nn, C8.out.dd⟩ (fun hHeld => ?_)
        clear hK K hb8 hx8
        (try simp only [Act.put, List.getElem_toArray, List.getElem_cons_zero, List.getElem_cons_succ, List.setIfInBounds_toArray, List.set_cons_zero, List.set_cons_succ])
        have FM := famStart (hi := x8.heap.size) M8.out O8.out NE.out (owns_lt M8.out rfl).2 (fun g hg => (owns_lt O8.out hg).2)
        have FM2 : Hid (FamH (x8.setRow (x7.heap.size) (w3 (.slice (some ⟨x6.heap.size, 0, none⟩) 3 3) W.n (.slice pv mm qv))) w.heap.size x8.heap.size (.slice (some ⟨x6.heap.size, 0, none⟩) 3 3) nilV (.slice pv mm qv) (fun _ => nilV) ⟨[[], [], []], [], W.d⟩) := FM.keepRowW V8.out fun i hi _ => setRow_other x8 (x7.heap.size) i _ hi
        clear FM
        have hg1 : w.heap.size + 1 ≠ x7.heap.size := by have := Z7.out; omega
        have hg0 : w.heap.size ≠ x7.heap.size := by have := Z7.out; omega
        have V9 : Hid (RowW (x8.setRow (x7.heap.size) (w3 (.slice (some ⟨x6.heap.size, 0, none⟩) 3 3) W.n (.slice pv mm qv))) (x7.heap.size) (.slice (some ⟨x6.heap.size, 0, none⟩) 3 3) W.n (.slice pv mm qv)) := Row.put V8.out _
        have R9 : Hid (RowW (x8.setRow (x7.heap.size) (w3 (.slice (some ⟨x6.heap.size, 0, none⟩) 3 3) W.n (.slice pv mm qv))) (w.heap.size + 1) nilV 0 nilV) := Row.putOther R8.out _ hg1
        have C9 : Hid (RowC (x8.setRow (x7.heap.size) (w3 (.slice (some ⟨x6.heap.size, 0, none⟩) 3 3) W.n (.slice pv mm qv))) w.heap.size f W.n (.slice pd md qd)) := Row.putOther C8.out _ hg0
        have B9 := Lib.hid (below_setRow B8.out (show w.heap.size ≤ x7.heap.size by have := Z7.out; omega) (w3 (.slice (some ⟨x6.heap.size, 0, none⟩) 3 3) W.n (.slice pv mm qv)))
        have S9 : Hid ((x8.setRow (x7.heap.size) (w3 (.slice (some ⟨x6.heap.size, 0, none⟩) 3 3) W.n (.slice pv mm qv))).heap.size = x8.heap.size) := size_setRow _ _ _
        clear hHeld
        refine wpAnyH_ready (rs := [8]) (by kernel_rfl) (by simp) ?_
        refine AllReadyH.cons rfl (fun K hK => ?_) AllReadyH.nil
        rw [if_pos (by rfl)]
        refine wp_store_row 28 _ _ rfl (x7.heap.size) (w3 (.slice (some ⟨x6.heap.size, 0, none⟩) 3 3) W.n (.slice pv mm qv)) rfl rfl 28 (w3 nilV 0 nilV) V8.out info_work rfl (by simp [Value.oneCell']) ?_
        refine hK.out _ _ ⟨C9.out.nn, C9.out.dd⟩ (fun hHeld => ?_)
        clear hK K
        (try simp only [Act.put, List.getElem_toArray, List.getElem_cons_zero, List.getElem_cons_succ])
        refine wpAnyH_done (by kernel_rfl) ?_ _
        clear hHeld
        go_wp2_with fail
        go_meet
        case rel => exact ⟨x6.heap.size, x7.heap.size, pv, mm, qv, rfl, (by unfold Hid; rw [S9.out]; exact FM2.out), V9, R9, C9, B9, Z7⟩
      · skip
        clear hHeld
        obtain ⟨x9, hx9⟩ : ∃ x, x = x6.alloc (.cells (w3 nilV 0 nilV) 28) := ⟨_, rfl⟩
        have hb9 : Below x6.heap.size x6 x9 := by rw [hx9]; exact below1 x6 (.cells (w3 nilV 0 nilV) 28)
        have C9 := Lib.hid (RowC.below C6.out hb9)
        have R9 := Lib.hid (RowW.below R6.out hb9)
        have B9 := Lib.hid (bst B6.out hb9 B6.out.size)
        have O9 : Hid (Own _ w.heap.size (.slice pv mm qv) W.d) := Own.below O6.out hb9
        have Z9 : Hid (w.heap.size + 2 ≤ x9.heap.size) := Nat.le_trans Z6.out hb9.size
        have V9 : Hid (RowW x9 x6.heap.size nilV 0 nilV) := by rw [hx9]; exact Row.new x6 _ _
        go_simp
        rw [← hx9]
        refine hK.out _ _ ⟨C9.out.nn, C9.out.dd⟩ (fun hHeld => ?_)
        clear hK K hb9 hx9
        (try simp only [Act.put, List.getElem_toArray, List.getElem_cons_zero, List.getElem_cons_succ, List.setIfInBounds_toArray, List.set_cons_zero, List.set_cons_succ])
        refine wpAnyH_ready (rs := [0]) (by kernel_rfl) (by simp) ?_
        refine AllReadyH.cons rfl (fun K hK => ?_) AllReadyH.nil
        clear hHeld
        rw [if_pos (by rfl)]
        refine op_make _ _ 25 rfl w.heap.size 26 i0 nilV 1 Try.underlying25 hi hz0 hz1 .i64 .i64 3 rfl rfl (by rw [hz2]; omega) (by unfold maxLen; omega) (by have := Z9.out; omega) ?_
        intro x10 hown10 hgr10
        rw [show (3 : Nat) * 1 = 3 from rfl, show nilV.cells = #[.slice none 0 0] from rfl, toList_madeCells_one] at hown10
        have hb10 := (Below.refl x9.heap.size x9).grown hgr10 (Nat.le_refl _) (fun k hk => by cases hk)
        have C10 := Lib.hid (RowC.below C9.out hb10)
        have R10 := Lib.hid (RowW.below R9.out hb10)
        have B10 := Lib.hid (bst B9.out hb10 B9.out.size)
        have O10 : Hid (Own _ w.heap.size (.slice pv mm qv) W.d) := Own.below O9.out hb10
        have V10 := Lib.hid (RowW.below V9.out hb10)
        have Z10 : Hid (w.heap.size + 2 ≤ x10.heap.size) := Nat.le_trans Z9.out hb10.size
        have MK10 := Lib.hid hown10
        refine hK.out _ _ ⟨C10.out.nn, C10.out.dd⟩ (fun hHeld => ?_)
        clear hK K hb10 hown10 hgr10
        (try simp only [Act.put, List.getElem_toArray, List.getElem_cons_zero, List.setIfInBounds_toArray, List.set_cons_zero, List.set_cons_succ])
        have NE : Hid ((Value.slice pv mm qv).ownBlock ≠ some x9.heap.size) := fun e => by have := (owns_lt O9.out e).2; omega
        refine wpAnyH_take (i := 6) (v := ?va6x8) rfl (by kernel_rfl) (by kernel_rfl) (by kernel_rfl) (fun _ _ _ h => h) (Or.inl ⟨by rfl, ?hy6x8⟩) (by assumption) ?rest6x8
        case hy6x8 => (intro w hSw; (try dsimp only at hSw); go_simp; try with_reducible rfl)
        (try simp only [Act.put, List.getElem_toArray, List.getElem_cons_zero, List.getElem_cons_succ, List.setIfInBounds_toArray, List.set_cons_zero, List.set_cons_succ])
        have FM := famStart (hi := x10.heap.size) MK10.out O10.out NE.out (owns_lt MK10.out rfl).2 (fun g hg => (owns_lt O10.out hg).2)
        have FM2 : Hid (FamH (x10.setRow (x6.heap.size) (w3 (.slice (some ⟨x9.heap.size, 0, none⟩) 3 3) W.n (.slice pv mm qv))) w.heap.size x10.heap.size (.slice (some ⟨x9.heap.size, 0, none⟩) 3 3) nilV (.slice pv mm qv) (fun _ => nilV) ⟨[[], [], []], [], W.d⟩) := FM.keepRowW V10.out fun i hi _ => setRow_other x10 (x6.heap.size) i _ hi
        clear FM
        have hg1 : w.heap.size + 1 ≠ x6.heap.size := by have := Z6.out; omega
        have hg0 : w.heap.size ≠ x6.heap.size := by have := Z6.out; omega
        have V9 : Hid (RowW (x10.setRow (x6.heap.size) (w3 (.slice (some ⟨x9.heap.size, 0, none⟩) 3 3) W.n (.slice pv mm qv))) (x6.heap.size) (.slice (some ⟨x9.heap.size, 0, none⟩) 3 3) W.n (.slice pv mm qv)) := Row.put V10.out _
        have R9 : Hid (RowW (x10.setRow (x6.heap.size) (w3 (.slice (some ⟨x9.heap.size, 0, none⟩) 3 3) W.n (.slice pv mm qv))) (w.heap.size + 1) nilV 0 nilV) := Row.putOther R10.out _ hg1
        have C9 : Hid (RowC (x10.setRow (x6.heap.size) (w3 (.slice (some ⟨x9.heap.size, 0, none⟩) 3 3) W.n (.slice pv mm qv))) w.heap.size f W.n (.slice pd md qd)) := Row.putOther C10.out _ hg0
        have B9 := Lib.hid (below_setRow B10.out (show w.heap.size ≤ x6.heap.size by have := Z6.out; omega) (w3 (.slice (some ⟨x9.heap.size, 0, none⟩) 3 3) W.n (.slice pv mm qv)))
        have S9 : Hid ((x10.setRow (x6.heap.size) (w3 (.slice (some ⟨x9.heap.size, 0, none⟩) 3 3) W.n (.slice pv mm qv))).heap.size = x10.heap.size) := size_setRow _ _ _
        clear hHeld
        refine wpAnyH_ready (rs := [8]) (by kernel_rfl) (by simp) ?_
        refine AllReadyH.cons rfl (fun K hK => ?_) AllReadyH.nil
        rw [if_pos (by rfl)]
        refine wp_store_row 28 _ _ rfl (x6.heap.size) (w3 (.slice (some ⟨x9.heap.size, 0, none⟩) 3 3) W.n (.slice pv mm qv)) rfl rfl 28 (w3 nilV 0 nilV) V10.out info_work rfl (by simp [Value.oneCell']) ?_
        refine hK.out _ _ ⟨C9.out.nn, C9.out.dd⟩ (fun hHeld => ?_)
        clear hK K
        (try simp only [Act.put, List.getElem_toArray, List.getElem_cons_zero, List.getElem_cons_succ])
        refine wpAnyH_done (by kernel_rfl) ?_ _
        clear hHeld
        go_wp2_with fail
        go_meet
        case rel => exact ⟨x9.heap.size, x6.heap.size, pv, mm, qv, rfl, (by unfold Hid; rw [S9.out]; exact FM2.out), V9, R9, C9, B9, Z6⟩
    · skip
      clear hHeld
      obtain ⟨x11, hx11⟩ : ∃ x, x = x0.alloc (.cells (w3 nilV 0 nilV) 28) := ⟨_, rfl⟩
      have hb11 : Below x0.heap.size x0 x11 := by rw [hx11]; exact below1 x0 (.cells (w3 nilV 0 nilV) 28)
      have C11 := Lib.hid (RowC.below C1.out hb11)
      have R11 := Lib.hid (RowW.below R1.out hb11)
      have B11 := Lib.hid (bst B1.out hb11 B1.out.size)
      have Z11 : Hid (w.heap.size + 2 ≤ x11.heap.size) := Nat.le_trans Z1.out hb11.size
      have V11 : Hid (RowW x11 x0.heap.size nilV 0 nilV) := by rw [hx11]; exact Row.new x0 _ _
      go_simp
      rw [← hx11]
      refine hK.out _ _ ⟨C11.out.nn, C11.out.dd⟩ (fun hHeld => ?_)
      clear hK K hb11 hx11
      (try simp only [Act.put, List.getElem_toArray, List.getElem_cons_zero, List.getElem_cons_succ, List.setIfInBounds_toArray, List.set_cons_zero, List.set_cons_succ])
      refine wpAnyH_ready (rs := [0, 5]) (by kernel_rfl) (by simp) ?_
      refine AllReadyH.cons rfl (fun K hK => ?_) (AllReadyH.cons rfl (fun K hK => ?_) AllReadyH.nil)
      · skip
        clear hHeld
        rw [if_pos (by rfl)]
        refine op_make _ _ 25 rfl w.heap.size 26 i0 nilV 1 Try.underlying25 hi hz0 hz1 .i64 .i64 3 rfl rfl (by rw [hz2]; omega) (by unfold maxLen; omega) (by have := Z11.out; omega) ?_
        intro x12 hown12 hgr12
        rw [show (3 : Nat) * 1 = 3 from rfl, show nilV.cells = #[.slice none 0 0] from rfl, toList_madeCells_one] at hown12
        have hb12 := (Below.refl x11.heap.size x11).grown hgr12 (Nat.le_refl _) (fun k hk => by cases hk)
        have C12 := Lib.hid (RowC.below C11.out hb12)
        have R12 := Lib.hid (RowW.below R11.out hb12)
        have B12 := Lib.hid (bst B11.out hb12 B11.out.size)
        have V12 := Lib.hid (RowW.below V11.out hb12)
        have Z12 : Hid (w.heap.size + 2 ≤ x12.heap.size) := Nat.le_trans Z11.out hb12.size
        have MK12 := Lib.hid hown12
        refine hK.out _ _ ⟨C12.out.nn, C12.out.dd⟩ (fun hHeld => ?_)
        clear hK K hb12 hown12 hgr12
        (try simp only [Act.put, List.getElem_toArray, List.getElem_cons_zero, List.setIfInBounds_toArray, List.set_cons_zero, List.set_cons_succ])
        refine wpAnyH_ready (rs := [5]) (by kernel_rfl) (by simp) ?_
        refine AllReadyH.cons rfl (fun K hK => ?_) AllReadyH.nil
        clear hHeld
        go_simp
        refine (c_copyInts (.slice pd md qd) W.d _ (HD.out.below B12.out).1 HDL.out).mono ?_
        rintro e x13 ⟨vd, rfl, hod, hb13⟩
        have C13 := Lib.hid (RowC.below C12.out hb13)
        have R13 := Lib.hid (RowW.below R12.out hb13)
        have B13 := Lib.hid (bst B12.out hb13 B12.out.size)
        have V13 := Lib.hid (RowW.below V12.out hb13)
        have M13 : Hid (World.ownsRow _ w.heap.size 26 1 _ 3 _) := owns_block MK12.out fun g hg => hb13.block g (owns_lt MK12.out hg).2
        have Z13 : Hid (w.heap.size + 2 ≤ x13.heap.size) := Nat.le_trans Z12.out hb13.size
        have O13 : Hid (Own x13 w.heap.size vd W.d) := owns_mono hod fun g hg => Nat.le_trans (by have := Z12.out; omega) (owns_lt hod hg).1
        have NE : Hid (vd.ownBlock ≠ some x11.heap.size) := fun e => by have := (owns_lt hod e).1; have := (owns_lt (g := x11.heap.size) MK12.out rfl).2; omega
        obtain ⟨pv, qv, hvd⟩ := hod.ints.shape
        generalize hmm : W.d.length = mm at hvd
        subst hvd
        clear hmm
        refine hK.out _ _ ⟨C13.out.nn, C13.out.dd⟩ (fun hHeld => ?_)
        clear hK K hb13 hod
        (try simp only [Act.put, List.getElem_toArray, List.getElem_cons_zero, List.getElem_cons_succ, List.setIfInBounds_toArray, List.set_cons_zero, List.set_cons_succ])
        refine wpAnyH_take (i := 6) (v := ?va6x9) rfl (by kernel_rfl) (by kernel_rfl) (by kernel_rfl) (fun _ _ _ h => h) (Or.inl ⟨by rfl, ?hy6x9⟩) (by assumption) ?rest6x9
        case hy6x9 => (intro w hSw; (try dsimp only at hSw); go_simp; try with_reducible rfl)
        (try simp only [Act.put, List.getElem_toArray, List.getElem_cons_zero, List.getElem_cons_succ, List.setIfInBounds_toArray, List.set_cons_zero, List.set_cons_succ])
        have FM := famStart (hi := x13.heap.size) M13.out O13.out NE.out (owns_lt M13.out rfl).2 (fun g hg => (owns_lt O13.out hg).2)
        have FM2 : Hid (FamH (x13.setRow (x0.heap.size) (w3 (.slice (some ⟨x11.heap.size, 0, none⟩) 3 3) W.n (.slice pv mm qv))) w.heap.size x13.heap.size (.slice (some ⟨x11.heap.size, 0, none⟩) 3 3) nilV (.slice pv mm qv) (fun _ => nilV) ⟨[[], [], []], [], W.d⟩) := FM.keepRowW V13.out fun i hi _ => setRow_other x13 (x0.heap.size) i _ hi
        clear FM
        have hg1 : w.heap.size + 1 ≠ x0.heap.size := by have := Z1.out; omega
        have hg0 : w.heap.size ≠ x0.heap.size := by have := Z1.out; omega
        have V9 : Hid (RowW (x13.setRow (x0.heap.size) (w3 (.slice (some ⟨x11.heap.size, 0, none⟩) 3 3) W.n (.slice pv mm qv))) (x0.heap.size) (.slice (some ⟨x11.heap.size, 0, none⟩) 3 3) W.n (.slice pv mm qv)) := Row.put V13.out _
        have R9 : Hid (RowW (x13.setRow (x0.heap.size) (w3 (.slice (some ⟨x11.heap.size, 0, none⟩) 3 3) W.n (.slice pv mm qv))) (w.heap.size + 1) nilV 0 nilV) := Row.putOther R13.out _ hg1
        have C9 : Hid (RowC (x13.setRow (x0.heap.size) (w3 (.slice (some ⟨x11.heap.size, 0, none⟩) 3 3) W.n (.slice pv mm qv))) w.heap.size f W.n (.slice pd md qd)) := Row.putOther C13.out _ hg0
        have B9 := Lib.hid (below_setRow B13.out (show w.heap.size ≤ x0.heap.size by have := Z1.out; omega) (w3 (.slice (some ⟨x11.heap.size, 0, none⟩) 3 3) W.n (.slice pv mm qv)))
        have S9 : Hid ((x13.setRow (x0.heap.size) (w3 (.slice (some ⟨x11.heap.size, 0, none⟩) 3 3) W.n (.slice pv mm qv))).heap.size = x13.heap.size) := size_setRow _ _ _
        clear hHeld
        refine wpAnyH_ready (rs := [8]) (by kernel_rfl) (by simp) ?_
        refine AllReadyH.cons rfl (fun K hK => ?_) AllReadyH.nil
        rw [if_pos (by rfl)]
        refine wp_store_row 28 _ _ rfl (x0.heap.size) (w3 (.slice (some ⟨x11.heap.size, 0, none⟩) 3 3) W.n (.slice pv mm qv)) rfl rfl 28 (w3 nilV 0 nilV) V13.out info_work rfl (by simp [Value.oneCell']) ?_
        refine hK.out _ _ ⟨C9.out.nn, C9.out.dd⟩ (fun hHeld => ?_)
        clear hK K
        (try simp only [Act.put, List.getElem_toArray, List.getElem_cons_zero, List.getElem_cons_succ])
        refine wpAnyH_done (by kernel_rfl) ?_ _
        clear hHeld
        go_wp2_with fail
        go_meet
        case rel => exact ⟨x11.heap.size, x0.heap.size, pv, mm, qv, rfl, (by unfold Hid; rw [S9.out]; exact FM2.out), V9, R9, C9, B9, Z1⟩
      · skip
        clear hHeld
        go_simp
        refine (c_copyInts (.slice pd md qd) W.d _ (HD.out.below B11.out).1 HDL.out).mono ?_
        rintro e x14 ⟨vd, rfl, hod, hb14⟩
        have C14 := Lib.hid (RowC.below C11.out hb14)
        have R14 := Lib.hid (RowW.below R11.out hb14)
        have B14 := Lib.hid (bst B11.out hb14 B11.out.size)
        have V14 := Lib.hid (RowW.below V11.out hb14)
        have Z14 : Hid (w.heap.size + 2 ≤ x14.heap.size) := Nat.le_trans Z11.out hb14.size
        have O14 : Hid (Own x14 w.heap.size vd W.d) := owns_mono hod fun g hg => Nat.le_trans (by have := Z11.out; omega) (owns_lt hod hg).1
        obtain ⟨pv, qv, hvd⟩ := hod.ints.shape
        generalize hmm : W.d.length = mm at hvd
        subst hvd
        clear hmm
        refine hK.out _ _ ⟨C14.out.nn, C14.out.dd⟩ (fun hHeld => ?_)
        clear hK K hb14 hod
        (try simp only [Act.put, List.getElem_toArray, List.getElem_cons_zero, List.getElem_cons_succ, List.setIfInBounds_toArray, List.set_cons_zero, List.set_cons_succ])
        refine wpAnyH_ready (rs := [0]) (by kernel_rfl) (by simp) ?_
        refine AllReadyH.cons rfl (fun K hK => ?_) AllReadyH.nil
        clear hHeld
        rw [if_pos (by rfl)]
        refine op_make _ _ 25 rfl w.heap.size 26 i0 nilV 1 Try.underlying25 hi hz0 hz1 .i64 .i64 3 rfl rfl (by rw [hz2]; omega) (by unfold maxLen; omega) (by have := Z14.out; omega) ?_
        intro x15 hown15 hgr15
        rw [show (3 : Nat) * 1 = 3 from rfl, show nilV.cells = #[.slice none 0 0] from rfl, toList_madeCells_one] at hown15
        have hb15 := (Below.refl x14.heap.size x14).grown hgr15 (Nat.le_refl _) (fun k hk => by cases hk)
        have C15 := Lib.hid (RowC.below C14.out hb15)
        have R15 := Lib.hid (RowW.below R14.out hb15)
        have B15 := Lib.hid (bst B14.out hb15 B14.out.size)
        have V15 := Lib.hid (RowW.below V14.out hb15)
        have O15 : Hid (Own _ w.heap.size (.slice pv mm qv) W.d) := Own.below O14.out hb15
        have Z15 : Hid (w.heap.size + 2 ≤ x15.heap.size) := Nat.le_trans Z14.out hb15.size
        have MK15 := Lib.hid hown15
        refine hK.out _ _ ⟨C15.out.nn, C15.out.dd⟩ (fun hHeld => ?_)
        clear hK K hb15 hown15 hgr15
        (try simp only [Act.put, List.getElem_toArray, List.getElem_cons_zero, List.setIfInBounds_toArray, List.set_cons_zero, List.set_cons_succ])
        have NE : Hid ((Value.slice pv mm qv).ownBlock ≠ some x14.heap.size) := fun e => by have := (owns_lt O14.out e).2; omega
        refine wpAnyH_take (i := 6) (v := ?va6x10) rfl (by kernel_rfl) (by kernel_rfl) (by kernel_rfl) (fun _ _ _ h => h) (Or.inl ⟨by rfl, ?hy6x10⟩) (by assumption) ?rest6x10
        case hy6x10 => (intro w hSw; (try dsimp only at hSw); go_simp; try with_reducible rfl)
        (try simp only [Act.put, List.getElem_toArray, List.getElem_cons_zero, List.getElem_cons_succ, List.setIfInBounds_toArray, List.set_cons_zero, List.set_cons_succ])
        have FM := famStart (hi := x15.heap.size) MK15.out O15.out NE.out (owns_lt MK15.out rfl).2 (fun g hg => (owns_lt O15.out hg).2)
        have FM2 : Hid (FamH (x15.setRow (x0.heap.size) (w3 (.slice (some ⟨x14.heap.size, 0, none⟩) 3 3) W.n (.slice pv mm qv))) w.heap.size x15.heap.size (.slice (some ⟨x14.heap.size, 0, none⟩) 3 3) nilV (.slice pv mm qv) (fun _ => nilV) ⟨[[], [], []], [], W.d⟩) := FM.keepRowW V15.out fun i hi _ => setRow_other x15 (x0.heap.size) i _ hi
        clear FM
        have hg1 : w.heap.size + 1 ≠ x0.heap.size := by have := Z1.out; omega
        have hg0 : w.heap.size ≠ x0.heap.size := by have := Z1.out; omega
        have V9 : Hid (RowW (x15.setRow (x0.heap.size) (w3 (.slice (some ⟨x14.heap.size, 0, none⟩) 3 3) W.n (.slice pv mm qv))) (x0.heap.size) (.slice (some ⟨x14.heap.size, 0, none⟩) 3 3) W.n (.slice pv mm qv)) := Row.put V15.out _
        have R9 : Hid (RowW (x15.setRow (x0.heap.size) (w3 (.slice (some ⟨x14.heap.size, 0, none⟩) 3 3) W.n (.slice pv mm qv))) (w.heap.size + 1) nilV 0 nilV) := Row.putOther R15.out _ hg1
        have C9 : Hid (RowC (x15.setRow (x0.heap.size) (w3 (.slice (some ⟨x14.heap.size, 0, none⟩) 3 3) W.n (.slice pv mm qv))) w.heap.size f W.n (.slice pd md qd)) := Row.putOther C15.out _ hg0
        have B9 := Lib.hid (below_setRow B15.out (show w.heap.size ≤ x0.heap.size by have := Z1.out; omega) (w3 (.slice (some ⟨x14.heap.size, 0, none⟩) 3 3) W.n (.slice pv mm qv)))
        have S9 : Hid ((x15.setRow (x0.heap.size) (w3 (.slice (some ⟨x14.heap.size, 0, none⟩) 3 3) W.n (.slice pv mm qv))).heap.size = x15.heap.size) := size_setRow _ _ _
        clear hHeld
        refine wpAnyH_ready (rs := [8]) (by kernel_rfl) (by simp) ?_
        refine AllReadyH.cons rfl (fun K hK => ?_) AllReadyH.nil
        rw [if_pos (by rfl)]
        refine wp_store_row 28 _ _ rfl (x0.heap.size) (w3 (.slice (some ⟨x14.heap.size, 0, none⟩) 3 3) W.n (.slice pv mm qv)) rfl rfl 28 (w3 nilV 0 nilV) V15.out info_work rfl (by simp [Value.oneCell']) ?_
        refine hK.out _ _ ⟨C9.out.nn, C9.out.dd⟩ (fun hHeld => ?_)
        clear hK K
        (try simp only [Act.put, List.getElem_toArray, List.getElem_cons_zero, List.getElem_cons_succ])
        refine wpAnyH_done (by kernel_rfl) ?_ _
        clear hHeld
        go_wp2_with fail
        go_meet
        case rel => exact ⟨x14.heap.size, x0.heap.size, pv, mm, qv, rfl, (by unfold Hid; rw [S9.out]; exact FM2.out), V9, R9, C9, B9, Z1⟩
  case rest =>
    obtain ⟨ga, gV, pv, mm, qv, rfl, hfam0, hV0, hR0, hC0, hB0, hGV⟩ := hcut
    have hf3 : fillF W.r 0 = [[], [], []] := by unfold fillF; rw [HL.out]; rfl
    have HF3 := Lib.hid hf3; clear hf3
    have HP3 : Hid (∀ (j : Nat) (v : Value), [f 0, f 1, f 2][j]? = some v → (cr5 f W.n (.slice pd md qd))[0 + j]? = some v) := fun j v hv => by
      match j, hv with
      | 0, hv => exact hv
      | 1, hv => exact hv
      | 2, hv => exact hv
      | j + 3, hv => simp at hv
    go_wp2_with (refine wl_loadAt rfl 74 _ rfl w.heap.size 0 rfl 76 (cr5 f W.n (.slice pd md qd)) hC0.out [f 0, f 1, f 2] (.array 3 26) HP3.out Try.underlying74 rfl (by kernel_rfl) ?_)
    go_loopw [15] (fun i wr => ∃ k : Nat, k ≤ 3 ∧ i = .int .i64 k ∧ Hid (∃ us, FamH wr w.heap.size wr.heap.size (.slice (some ⟨ga, 0, none⟩) 3 3) nilV (.slice pv mm qv) us ⟨fillF W.r k, [], W.d⟩) ∧ Hid (RowW wr gV (.slice (some ⟨ga, 0, none⟩) 3 3) W.n (.slice pv mm qv)) ∧ Hid (RowW wr (w.heap.size + 1) nilV 0 nilV) ∧ Hid (RowC wr w.heap.size f W.n (.slice pd md qd)) ∧ Hid (Below w.heap.size w wr)) (fun i _ => 3 - (intOf i).toNat)
    case atStart => exact ⟨0, by omega, rfl, ⟨_, by rw [HF3.out]; exact hfam0.out⟩, hV0, hR0, hC0, hB0⟩
    case round =>
      obtain ⟨k, hk, rfl, hfam, hV, hR, hC, hB⟩ := hrel
      by_cases hlt : k < 3
      · obtain ⟨us, hf⟩ := hfam.out
        have hix := fun w => run_index3 w f hlt
        have HX := Lib.hid ((HA.out.r k hlt).below (below_drew hB.out)).1
        have HRL := Lib.hid (HR.out k hlt)
        have HFL : Hid ((fillF W.r k).length = 3) := by unfold Hid; rw [fillF_length W.r (by rw [HL.out]; omega), HL.out]
        have hfs := fillF_set W.r (j := k) (by rw [HL.out]; exact hlt)
        have HFS := Lib.hid (show (fillF W.r k).set k (row W k) = fillF W.r (k + 1) from hfs)
        have HF : Hid (FamH wr.drew w.heap.size wr.heap.size (.slice (some ⟨ga, 0, none⟩) 3 3) nilV (.slice pv mm qv) us ⟨fillF W.r k, [], W.d⟩) := Fam.below hf (below_drew (Below.refl wr.heap.size wr))
        replace hV : Hid (RowW wr.drew gV (.slice (some ⟨ga, 0, none⟩) 3 3) W.n (.slice pv mm qv)) := hV
        replace hR : Hid (RowW wr.drew (w.heap.size + 1) nilV 0 nilV) := hR
        replace hC : Hid (RowC wr.drew w.heap.size f W.n (.slice pd md qd)) := hC
        replace hB : Hid (Below w.heap.size w wr.drew) := below_drew hB.out
        have HWS : Hid (w.heap.size ≤ wr.drew.heap.size) := hB.out.size
        have cV0 := RowW.c0 hV.out
        have i1 : (k : Int) < 3 := by omega
        have i0 : (0 : Int) ≤ (k : Int) := by omega
        obtain ⟨fp, fq, hfk, _⟩ := (HA.out.r k hlt).shape
        rw [hfk] at HX
        simp only [hfk] at hix
        clear hfk
        clear hf hfs hfam
        go_upto_region 5 with fail
        clear hix
        refine wp_region_held_drew (S := (fun w' => w'.cell? ⟨gV, 0, none⟩ = some (.slice (some ⟨ga, 0, none⟩) 3 3))) (by kernel_rfl) (cV0) (fun hHeld => ?_)
        refine wpAnyH_take (i := 0) (v := ?va0x11) rfl (by kernel_rfl) (by kernel_rfl) (by kernel_rfl) (fun _ _ _ h => h) (Or.inl ⟨by rfl, ?hy0x11⟩) (by assumption) ?rest0x11
        case hy0x11 => (intro w hSw; (try dsimp only at hSw); go_simp; try with_reducible rfl)
        (try simp only [Act.put, List.getElem_toArray, List.getElem_cons_zero, List.setIfInBounds_toArray, List.set_cons_zero, List.set_cons_succ])
        refine wpAnyH_take (i := 1) (v := ?va1x12) rfl (by kernel_rfl) (by kernel_rfl) (by kernel_rfl) (fun _ _ _ h => h) (Or.inl ⟨by rfl, ?hy1x12⟩) (by assumption) ?rest1x12
        case hy1x12 => (intro w hSw; (try dsimp only at hSw); go_simp; try with_reducible rfl)
        (try simp only [Act.put, List.getElem_toArray, List.getElem_cons_zero, List.getElem_cons_succ, List.setIfInBounds_toArray, List.set_cons_zero, List.set_cons_succ])
        refine wpAnyH_take (i := 2) (v := ?va2x13) rfl (by kernel_rfl) (by kernel_rfl) (by kernel_rfl) (fun _ _ _ h => h) (Or.inl ⟨by rfl, ?hy2x13⟩) (by assumption) ?rest2x13
        case hy2x13 => (intro w hSw; (try dsimp only at hSw); go_simp; try with_reducible rfl)
        (try simp only [Act.put, List.getElem_toArray, List.getElem_cons_zero, List.getElem_cons_succ, List.setIfInBounds_toArray, List.set_cons_zero, List.set_cons_succ])
        refine wpAnyH_take (i := 3) (v := ?va3x14) rfl (by kernel_rfl) (by kernel_rfl) (by kernel_rfl) (fun _ _ _ h => h) (Or.inl ⟨by rfl, ?hy3x14⟩) (by assumption) ?rest3x14
        case hy3x14 => (intro w hSw; (try dsimp only at hSw); go_simp; try with_reducible rfl)
        (try simp only [Act.put, List.getElem_toArray, List.getElem_cons_zero, List.getElem_cons_succ, List.setIfInBounds_toArray, List.set_cons_zero, List.set_cons_succ])
        refine wpAnyH_ready (rs := [4]) (by kernel_rfl) (by simp) ?_
        refine AllReadyH.cons rfl (fun K hK => ?_) AllReadyH.nil
        go_simp
        refine (c_copyInts _ (row W k) _ HX.out HRL.out).mono ?_
        rintro e w2 ⟨u2, rfl, ho2, hb2⟩
        have F2 : FamH w2 w.heap.size wr.heap.size (.slice (some ⟨ga, 0, none⟩) 3 3) nilV (.slice pv mm qv) us ⟨fillF W.r k, [], W.d⟩ := Fam.below HF.out hb2
        obtain ⟨c1, f1⟩ := F2.cell (g := ga) (cap := 3) (i := k) (by simp only [HFL.out]) (by simp only [HFL.out]; exact hlt)
        obtain ⟨s1, s2⟩ := F2.putRow (i := k) (by simp only [HFL.out]; exact hlt) (ho2.mono HWS.out) (hi' := w2.heap.size) hb2.size (fun g hg => .inl (owns_lt ho2 hg)) (g := ga) (cap := 3) (by simp only [HFL.out])
        simp only [HFS.out] at s1
        have HVV := Lib.hid (RowW.below hV.out hb2)
        have hne : ga ≠ gV := owns_ne_rowT F2.outer HVV.out (by decide) rfl
        have hne1 : ga ≠ w.heap.size + 1 := owns_ne_rowT F2.outer (RowW.below hR.out hb2) (by decide) rfl
        have hne0 : ga ≠ w.heap.size := owns_ne_rowT F2.outer (RowC.below hC.out hb2) (by decide) rfl
        have hszs : (w2.setCell ⟨ga, k, none⟩ u2).heap.size = w2.heap.size := World.size_setCell _ _ _
        rw [← hszs] at s1
        have S1 := Lib.hid s1
        have hga : w.heap.size ≤ ga := (owns_lt (g := ga) F2.outer rfl).1
        have S2 := Lib.hid ((bst hB.out hb2 hB.out.size).setCell (p := ⟨ga, k, none⟩) hga u2)
        have S3 : Hid (RowW (w2.setCell ⟨ga, k, none⟩ u2) gV (.slice (some ⟨ga, 0, none⟩) 3 3) W.n (.slice pv mm qv)) := Row.other HVV.out ⟨ga, k, none⟩ (fun e => hne e.symm) u2
        have S4 : Hid (RowW (w2.setCell ⟨ga, k, none⟩ u2) (w.heap.size + 1) nilV 0 nilV) := Row.other (RowW.below hR.out hb2) ⟨ga, k, none⟩ (fun e => hne1 e.symm) u2
        have S5 : Hid (RowC (w2.setCell ⟨ga, k, none⟩ u2) w.heap.size f W.n (.slice pd md qd)) := Row.other (RowC.below hC.out hb2) ⟨ga, k, none⟩ (fun e => hne0 e.symm) u2
        have cV2 := RowW.c0 HVV.out
        obtain ⟨ua, uc, hu2⟩ := ho2.ints.shape
        generalize (row W k).length = m2 at hu2
        subst hu2
        clear s1 s2 F2 ho2 hb2 hszs hne hne1 hne0 hga
        refine hK.out _ _ (cV2) (fun hHeld => ?_)
        clear hK K
        (try simp only [Act.put, List.getElem_toArray, List.getElem_cons_zero, List.getElem_cons_succ, List.setIfInBounds_toArray, List.set_cons_zero, List.set_cons_succ])
        refine wpAnyH_take (i := 5) (v := ?va5x15) rfl (by kernel_rfl) (by kernel_rfl) (by kernel_rfl) (fun _ _ _ h => h) (Or.inl ⟨by rfl, ?hy5x15⟩) (by assumption) ?rest5x15
        case hy5x15 => (intro w hSw; (try dsimp only at hSw); go_simp; try with_reducible rfl)
        (try simp only [Act.put, List.getElem_toArray, List.getElem_cons_zero, List.getElem_cons_succ, List.setIfInBounds_toArray, List.set_cons_zero, List.set_cons_succ])
        refine wpAnyH_ready (rs := [6]) (by kernel_rfl) (by simp) ?_
        refine AllReadyH.cons rfl (fun K hK => ?_) AllReadyH.nil
        generalize us k = x at *
        go_simp
        refine hK.out _ _ (RowW.c0 S3.out) (fun hHeld => ?_)
        clear hK K
        (try simp only [Act.put, List.getElem_toArray, List.getElem_cons_zero, List.getElem_cons_succ])
        refine wpAnyH_done (by kernel_rfl) ?_ _
        clear hHeld
        go_wp2_with fail
        go_roundw
        case rel => exact ⟨k + 1, by omega, by go_num, ⟨_, S1.out⟩, S3, S4, S5, S2⟩
        case measure => simp [intOf]; omega
      · obtain rfl : k = 3 := by omega
        have HOW : Hid (OwnW wr w.heap.size wr.heap.size (.slice (some ⟨ga, 0, none⟩) 3 3) (.slice pv mm qv) W) := by
          obtain ⟨us, hf⟩ := hfam.out
          refine ⟨us, ?_⟩
          have e : fillF W.r 3 = W.r := by have := fillF_all W.r; rwa [HL.out] at this
          rw [e] at hf
          exact hf
        clear hfam
        go_wp2_with (first
          | (refine wl_loadW rfl _ rfl gV _ _ _ hV.out rfl ?_)
          | (refine wl_storeW rfl _ _ rfl (w.heap.size + 1) (.slice (some ⟨ga, 0, none⟩) 3 3) W.n (.slice pv mm qv) _ _ _ hR.out rfl rfl rfl rfl ?_))
        refine bodyPost_ret (res_row Try.results54 (Row.put hR.out (w3 (.slice (some ⟨ga, 0, none⟩) 3 3) W.n (.slice pv mm qv))) rfl Try.underlying28 rfl info_work) rfl ⟨_, _, rfl, ?_, below_setRow hB.out (by omega) _⟩
        have := HOW.out.wholeRow hR.out (w3 (.slice (some ⟨ga, 0, none⟩) 3 3) W.n (.slice pv mm qv))
        rw [size_setRow]
        exact this
end Go.Proofs.Ytkbphmnacdpdgaa
namespace Go.Proofs.Ytkbphmnacdpdgaa
open Go.RowKit Ph Kw

theorem c_crewOf_yes (a c : Value) (W : Wk) (w0 w : World) (hA0 : WorkC w0 a c W) (hb00 : Below w0.heap.size w0 w) (hd : W.d.length ≤ 1048576) (P : Nat → Prop) (hg : goodB W = true) : Calls Try.prog 57 #[wkv a W.n c] w fun e w' => ∃ f d, e = .returned (.tuple #[crv f W.n d, .bool true]) ∧ ((f 0).oneCell' = true ∧ (f 1).oneCell' = true ∧ (f 2).oneCell' = true ∧ d.oneCell' = true) ∧ Sep w0 P w' f d W ∧ Below w.heap.size w w' := by
  refine (c_crewOf a c W w0 w hA0 hb00 hd P).mono ?_
  rintro e w1 ⟨f, n, d, rfl, ho, hc, hb⟩
  obtain ⟨rfl, hs⟩ := hc hg
  rw [hg]
  exact ⟨f, d, rfl, ho, hs, hb⟩
theorem c_crewOf_no (a c : Value) (W : Wk) (w0 w : World) (hA0 : WorkC w0 a c W) (hb00 : Below w0.heap.size w0 w) (hd : W.d.length ≤ 1048576) (hg : goodB W = false) : Calls Try.prog 57 #[wkv a W.n c] w fun e w' => ∃ f n d, e = .returned (.tuple #[crv f n d, .bool false]) ∧ ((f 0).oneCell' = true ∧ (f 1).oneCell' = true ∧ (f 2).oneCell' = true ∧ d.oneCell' = true) ∧ Below w.heap.size w w' := by
  refine (c_crewOf a c W w0 w hA0 hb00 hd (fun _ => True)).mono ?_
  rintro e w1 ⟨f, n, d, rfl, ho, hc, hb⟩
  rw [hg]
  exact ⟨f, n, d, rfl, ho, hb⟩
theorem below_var (w : World) (o : Obj) (cs : Array Value) : Below w.heap.size w ((w.alloc o).setRow w.heap.size cs) := below_setRow (below1 w o) (Nat.le_refl _) cs
theorem sm_len {W : Wk} (s : Sm W) : (∀ k, k < 3 → (row W k).length ≤ 1048576) ∧ W.d.length ≤ 100 := by
  have h := s.tot
  have := s.n1
  have := s.n0
  unfold tot at h
  exact ⟨fun k hk => Nat.le_trans (s.rows k hk) (by omega), by omega⟩
/-- How calls that answer work end. -/
def EndW (W : Wk) (ok : Bool) (w : World) (e : Ending) (w' : World) : Prop := ∃ a c, e = .returned (.tuple #[wkv a W.n c, .bool ok]) ∧ OwnW w' w.heap.size w'.heap.size a c W ∧ Below w.heap.size w w'
theorem endW_no {w w' : World} (hb : Below w.heap.size w w') : EndW nilW false w (.returned (.tuple #[wkv nilV 0 nilV, .bool false])) w' := ⟨_, _, rfl, OwnW.nil _ _ _, hb⟩
noncomputable def stepW (W : Wk) (s : S3) : Wk := if goodB W && en W s then act W s else nilW
set_option maxRecDepth 100000 in
set_option maxHeartbeats 6400000 in
theorem c_StepWork (a c : Value) (W : Wk) (k x y : Int) (w : World) (hA : WorkC w a c W) (hd : W.d.length ≤ 1048576) : Calls Try.prog 27 #[wkv a W.n c, stv k x y] w (EndW (stepW W (k, x, y)) (goodB W && en W (k, x, y)) w) := by
  have HA := Lib.hid hA; have HDL := Lib.hid hd
  have hb0 := ((below1 w (.cells (w3 a W.n c) 28)).alloc (by simp) (.cells (s3c k x y) 44)).alloc (by simp; omega) (.cells (w3 nilV 0 nilV) 28)
  have HB := Lib.hid hb0
  have RA := Lib.hid (show RowW (((w.alloc (.cells (w3 a W.n c) 28)).alloc (.cells (s3c k x y) 44)).alloc (.cells (w3 nilV 0 nilV) 28)) w.heap.size a W.n c from Row.alloc (Row.alloc (Row.new w 28 (w3 a W.n c)) _) _)
  have RS := Lib.hid (show Row (((w.alloc (.cells (w3 a W.n c) 28)).alloc (.cells (s3c k x y) 44)).alloc (.cells (w3 nilV 0 nilV) 28)) (w.heap.size + 1) 44 (s3c k x y) from Row.alloc (Row.new1 w _ 44 (s3c k x y)) _)
  have RR := Lib.hid (show RowW (((w.alloc (.cells (w3 a W.n c) 28)).alloc (.cells (s3c k x y) 44)).alloc (.cells (w3 nilV 0 nilV) 28)) (w.heap.size + 1 + 1) nilV 0 nilV from Row.new2 w _ _ 28 (w3 nilV 0 nilV))
  have HZ : Hid (w.heap.size + 3 ≤ (((w.alloc (.cells (w3 a W.n c) 28)).alloc (.cells (s3c k x y) 44)).alloc (.cells (w3 nilV 0 nilV) 28)).heap.size) := by unfold Hid; simp
  clear hA hd hb0
  cases hg : goodB W
  · have HG := Lib.hid hg
    have HL : Hid (stepW W (k, x, y) = nilW) := by unfold Hid stepW; rw [hg]; rfl
    rw [HL.out, Bool.false_and]
    clear hg
    go_enter Try.func27, Try.ntmps27
    go_wp2_with (first
      | (refine wl_loadW rfl _ rfl w.heap.size a W.n c RA.out rfl ?_)
      | (go_at_call 57; refine (c_crewOf_no a c W w _ HA.out HB.out HDL.out HG.out).mono ?_; rintro e w1 ⟨f1, n1, d1, rfl, hone, hb1⟩; have ONE := Lib.hid hone; have HB1 := Lib.hid hb1; clear hone hb1)
      | (refine wl_storeC rfl _ _ rfl w1.heap.size f1 n1 d1 nF 0 nilV (Row.new w1 76 (cr5 nF 0 nilV)) rfl rfl ONE.out.1 ONE.out.2.1 ONE.out.2.2.1 ONE.out.2.2.2 ?_)
      | (refine wl_storeW rfl _ _ rfl (w.heap.size + 1 + 1) nilV 0 nilV nilV 0 nilV (RowW.below RR.out (bst HB1.out (below_var w1 _ _) HB1.out.size)) rfl rfl rfl rfl ?_))
    have RF := Lib.hid (RowW.below RR.out (bst HB1.out (below_var w1 (.cells (cr5 nF 0 nilV) 76) (cr5 f1 n1 d1)) HB1.out.size))
    have BF := Lib.hid (bst HB.out (bst HB1.out (below_var w1 (.cells (cr5 nF 0 nilV) 76) (cr5 f1 n1 d1)) HB1.out.size) HB.out.size)
    refine bodyPost_ret (res_row_slot Try.results27 (Row.put RF.out (w3 nilV 0 nilV)) rfl rfl Try.underlying28 rfl info_work) rfl (endW_no (below_setRow BF.out (by omega) _))
  · have HG := Lib.hid hg
    have HS := Lib.hid (goodB_iff.1 hg).sm
    rw [Bool.true_and]
    have HST : Hid (stepW W (k, x, y) = if en W (k, x, y) = true then act W (k, x, y) else nilW) := by unfold Hid stepW; rw [hg]; rfl
    clear hg
    cases hen : en W (k, x, y)
    · have HL : Hid (stepW W (k, x, y) = nilW) := by unfold Hid; rw [HST.out, hen]; rfl
      have HEN := Lib.hid hen
      rw [HL.out]
      clear hen HST
      go_enter Try.func27, Try.ntmps27
      go_upto_region 4 with (first
        | (refine wl_loadW rfl _ rfl w.heap.size a W.n c RA.out rfl ?_)
        | (go_at_call 57; refine (c_crewOf_yes a c W w _ HA.out HB.out HDL.out (fun i => w.heap.size + 3 ≤ i) HG.out).mono ?_; rintro e w1 ⟨f1, d1, rfl, hone, hsp, hb1⟩; have ONE := Lib.hid hone; have HSP := Lib.hid hsp; have HB1 := Lib.hid hb1; clear hone hsp hb1)
        | (refine wl_storeC rfl _ _ rfl w1.heap.size f1 W.n d1 nF 0 nilV (Row.new w1 76 (cr5 nF 0 nilV)) rfl rfl ONE.out.1 ONE.out.2.1 ONE.out.2.2.1 ONE.out.2.2.2 ?_))
      have BVw2 := Lib.hid (below_var w1 (.cells (cr5 nF 0 nilV) 76) (cr5 f1 W.n d1))
      have RVw2 : Hid (RowC ((w1.alloc (.cells (cr5 nF 0 nilV) 76)).setRow w1.heap.size (cr5 f1 W.n d1)) w1.heap.size f1 W.n d1) := Row.put (Row.new w1 76 (cr5 nF 0 nilV)) _
      generalize (w1.alloc (.cells (cr5 nF 0 nilV) 76)).setRow w1.heap.size (cr5 f1 W.n d1) = w2 at *
      have HBX := Lib.hid (bst HB1.out BVw2.out HB1.out.size)
      have B2 := Lib.hid (bst HB.out HBX.out HB.out.size)
      have S2 := Lib.hid (Sep.below HSP.out BVw2.out)
      have C2 := Lib.hid (S2.out.now B2.out)
      have RS2 := Lib.hid (Row.below RS.out HBX.out)
      have R2 := Lib.hid (RowW.below RR.out HBX.out)
      have Z2 := Lib.hid (Nat.le_trans HZ.out HBX.out.size)
      have q0 := Row.cell RS2.out 0
      have q1 := Row.cell RS2.out 1
      have q2 := Row.cell RS2.out 2
      clear HSP HB HB1 RA RS RR HZ BVw2 HBX
      have HCS := Lib.hid (c_step f1 d1 W k x y w2 C2.out HS.out w (fun i => w.heap.size + 3 ≤ i) S2.out (fun i hi => Nat.le_trans Z2.out hi))
      rw [HEN.out] at HCS
      go_wp2_with (first
        | (refine wl_loadC rfl _ rfl w1.heap.size f1 W.n d1 RVw2.out rfl ?_)
        | (go_at_call 53; refine HCS.out.mono ?_; rintro e y3 ⟨f3, n3, d3, rfl, hone, _, hb3⟩; have ONE3 := Lib.hid hone; have HB3 := Lib.hid hb3; clear hone hb3)
        | (refine wl_storeC rfl _ _ rfl y3.heap.size f3 n3 d3 nF 0 nilV (Row.new y3 76 (cr5 nF 0 nilV)) rfl rfl ONE3.out.1 ONE3.out.2.1 ONE3.out.2.2.1 ONE3.out.2.2.2 ?_)
        | (refine wl_storeW rfl _ _ rfl (w.heap.size + 1 + 1) nilV 0 nilV nilV 0 nilV (RowW.below R2.out (bst HB3.out (below_var y3 _ _) HB3.out.size)) rfl rfl rfl rfl ?_))
      have RF := Lib.hid (RowW.below R2.out (bst HB3.out (below_var y3 (.cells (cr5 nF 0 nilV) 76) (cr5 f3 n3 d3)) HB3.out.size))
      have BF := Lib.hid (bst B2.out (bst HB3.out (below_var y3 (.cells (cr5 nF 0 nilV) 76) (cr5 f3 n3 d3)) HB3.out.size) B2.out.size)
      refine bodyPost_ret (res_row_slot Try.results27 (Row.put RF.out (w3 nilV 0 nilV)) rfl rfl Try.underlying28 rfl info_work) rfl (endW_no (below_setRow BF.out (by omega) _))
    · have HL : Hid (stepW W (k, x, y) = act W (k, x, y)) := by unfold Hid; rw [HST.out, hen]; rfl
      have HSA := Lib.hid (HS.out.act hen)
      have HEN := Lib.hid hen
      rw [HL.out]
      clear hen HST
      go_enter Try.func27, Try.ntmps27
      go_upto_region 4 with (first
        | (refine wl_loadW rfl _ rfl w.heap.size a W.n c RA.out rfl ?_)
        | (go_at_call 57; refine (c_crewOf_yes a c W w _ HA.out HB.out HDL.out (fun i => w.heap.size + 3 ≤ i) HG.out).mono ?_; rintro e w1 ⟨f1, d1, rfl, hone, hsp, hb1⟩; have ONE := Lib.hid hone; have HSP := Lib.hid hsp; have HB1 := Lib.hid hb1; clear hone hsp hb1)
        | (refine wl_storeC rfl _ _ rfl w1.heap.size f1 W.n d1 nF 0 nilV (Row.new w1 76 (cr5 nF 0 nilV)) rfl rfl ONE.out.1 ONE.out.2.1 ONE.out.2.2.1 ONE.out.2.2.2 ?_))
      have BVw2 := Lib.hid (below_var w1 (.cells (cr5 nF 0 nilV) 76) (cr5 f1 W.n d1))
      have RVw2 : Hid (RowC ((w1.alloc (.cells (cr5 nF 0 nilV) 76)).setRow w1.heap.size (cr5 f1 W.n d1)) w1.heap.size f1 W.n d1) := Row.put (Row.new w1 76 (cr5 nF 0 nilV)) _
      generalize (w1.alloc (.cells (cr5 nF 0 nilV) 76)).setRow w1.heap.size (cr5 f1 W.n d1) = w2 at *
      have HBX := Lib.hid (bst HB1.out BVw2.out HB1.out.size)
      have B2 := Lib.hid (bst HB.out HBX.out HB.out.size)
      have S2 := Lib.hid (Sep.below HSP.out BVw2.out)
      have C2 := Lib.hid (S2.out.now B2.out)
      have RS2 := Lib.hid (Row.below RS.out HBX.out)
      have R2 := Lib.hid (RowW.below RR.out HBX.out)
      have Z2 := Lib.hid (Nat.le_trans HZ.out HBX.out.size)
      have q0 := Row.cell RS2.out 0
      have q1 := Row.cell RS2.out 1
      have q2 := Row.cell RS2.out 2
      clear HSP HB HB1 RA RS RR HZ BVw2 HBX
      have HCS := Lib.hid (c_step f1 d1 W k x y w2 C2.out HS.out w (fun i => w.heap.size + 3 ≤ i) S2.out (fun i hi => Nat.le_trans Z2.out hi))
      rw [HEN.out] at HCS
      generalize act W (k, x, y) = W1 at *
      go_upto_region 7 with (first
        | (refine wl_loadC rfl _ rfl w1.heap.size f1 W.n d1 RVw2.out rfl ?_)
        | (go_at_call 53; refine HCS.out.mono ?_; rintro e y3 ⟨f3, n3, d3, rfl, hone, hcr, hb3⟩; obtain ⟨rfl, hsp⟩ := hcr rfl; have ONE3 := Lib.hid hone; have HB3 := Lib.hid hb3; have S3 := Lib.hid hsp; clear hone hb3 hcr hsp)
        | (refine wl_storeC rfl _ _ rfl y3.heap.size f3 W1.n d3 nF 0 nilV (Row.new y3 76 (cr5 nF 0 nilV)) rfl rfl ONE3.out.1 ONE3.out.2.1 ONE3.out.2.2.1 ONE3.out.2.2.2 ?_))
      have BVw4 := Lib.hid (below_var y3 (.cells (cr5 nF 0 nilV) 76) (cr5 f3 W1.n d3))
      have RVw4 : Hid (RowC ((y3.alloc (.cells (cr5 nF 0 nilV) 76)).setRow y3.heap.size (cr5 f3 W1.n d3)) y3.heap.size f3 W1.n d3) := Row.put (Row.new y3 76 (cr5 nF 0 nilV)) _
      generalize (y3.alloc (.cells (cr5 nF 0 nilV) 76)).setRow y3.heap.size (cr5 f3 W1.n d3) = w4 at *
      have HBY := Lib.hid (bst HB3.out BVw4.out HB3.out.size)
      have B4 := Lib.hid (bst B2.out HBY.out B2.out.size)
      have S4 := Lib.hid ((Sep.below S3.out BVw4.out).now B4.out)
      have R4 := Lib.hid (RowW.below R2.out HBY.out)
      have Z4 := Lib.hid (Nat.le_trans Z2.out HBY.out.size)
      go_wp2_with (first
        | (refine wl_loadC rfl _ rfl y3.heap.size f3 W1.n d3 RVw4.out rfl ?_)
        | (go_at_call 54; refine (c_work f3 d3 W1 _ S4.out HSA.out.len (sm_len HSA.out).1 (by have := (sm_len HSA.out).2; omega)).mono ?_; rintro e w5 ⟨a5, c5, rfl, ho5, hb5⟩; have R5 := Lib.hid (RowW.below R4.out hb5); have B5 := Lib.hid (bst B4.out hb5 B4.out.size); have O5 := Lib.hid ho5; obtain ⟨⟨pa, qa, hpa⟩, ⟨pc, qc, hpc⟩⟩ := ho5.shapes; generalize W1.r.length = na at hpa; generalize W1.d.length = nc at hpc; subst hpa; subst hpc; clear hb5 ho5)
        | (refine wl_storeW rfl _ _ rfl (w.heap.size + 1 + 1) (.slice pa na qa) W1.n (.slice pc nc qc) nilV 0 nilV R5.out rfl rfl rfl rfl ?_))
      refine bodyPost_ret (res_row_slot Try.results27 (Row.put R5.out (w3 (.slice pa na qa) W1.n (.slice pc nc qc))) rfl rfl Try.underlying28 rfl info_work) rfl ⟨_, _, rfl, ?_, below_setRow B5.out (by omega) _⟩
      have := OwnW.whole O5.out (w.heap.size + 1 + 1) (show w.heap.size + 1 + 1 < w4.heap.size by have := Z4.out; omega) (w3 (.slice pa na qa) W1.n (.slice pc nc qc))
      rw [size_setRow]
      exact this.wide (by have := Z4.out; omega) (Nat.le_refl _)
end Go.Proofs.Ytkbphmnacdpdgaa
namespace Go.Proofs.Ytkbphmnacdpdgaa
open Go.RowKit Ph Kw
theorem wt_sm {W : Wk} (s : Sm W) : wtW W ≤ 2000 := by
  obtain ⟨x, y, z, e⟩ := three s.len
  have a := s.rows 0 (by omega)
  have b := s.rows 1 (by omega)
  have c := s.rows 2 (by omega)
  have d := (sm_len s).2
  unfold row at a b c
  unfold wtW wt sumL
  rw [e] at a b c ⊢
  simp at a b c ⊢
  omega
theorem wt_step (W : Wk) (s : S3) : wtW (stepW W s) ≤ 2000 := by
  unfold stepW
  cases hg : goodB W
  · exact (by decide : wtW nilW ≤ 2000)
  · cases he : en W s
    · exact (by decide : wtW nilW ≤ 2000)
    · exact wt_sm ((goodB_iff.1 hg).sm.act he)
end Go.Proofs.Ytkbphmnacdpdgaa
namespace Go.Proofs.Ytkbphmnacdpdgaa
open Go.RowKit Ph Kw

theorem src_oneI (W : World) (z : Int) : SrcAt (W.alloc (.cells #[.int .i64 z] 3)) (.slice (some ⟨W.heap.size, 0, none⟩) 1 1) [.int .i64 z] :=
  ⟨some ⟨W.heap.size, 0, none⟩, 1, rfl, fun u hu => by simp at hu; subst hu; rfl, fun _ => ⟨W.heap.size, 0, rfl, fun j hj => by
    match j, hj with
    | 0, _ => exact Row.cell (Row.new W 3 #[.int .i64 z]) 0⟩⟩
theorem cutTo {w : World} {a : Option Addr} {n c k : Nat} {zs : List Int} (hv : IntsAt w (.slice a n c) zs) (hn : zs.length = n) (hk : k ≤ n) : IntsAt w (.slice a k c) (zs.take k) := by
  have hl : (zs.take k).length = k := by rw [List.length_take, hn]; omega
  refine ⟨a, c, by rw [hl], fun h0 => ?_⟩
  rw [hl] at h0
  obtain ⟨b', off', rfl, hcc⟩ := IntsAt.at' hv (by omega)
  refine ⟨b', off', rfl, fun i hi => ?_⟩
  rw [hl] at hi
  rw [hcc i (by omega)]
  have e : (zs.take k).getD i 0 = zs.getD i 0 := by simp [List.getD, hi]
  rw [e]
theorem cutFrom {w : World} {b off n c k : Nat} {zs : List Int} (hv : IntsAt w (.slice (some ⟨b, off, none⟩) n c) zs) (hn : zs.length = n) (hk : k ≤ n) (c' : Nat) : IntsAt w (.slice (some ⟨b, off + k, none⟩) (n - k) c') (zs.drop k) := by
  have hl : (zs.drop k).length = n - k := by rw [List.length_drop, hn]
  refine ⟨_, c', by rw [hl], fun h0 => ⟨b, off + k, rfl, fun i hi => ?_⟩⟩
  rw [hl] at hi
  obtain ⟨b', off', e, hcc⟩ := IntsAt.at' hv (by omega)
  cases e
  rw [show off + k + i = off + (k + i) by omega, hcc (k + i) (by omega)]
  have e : (zs.drop k).getD i 0 = zs.getD (k + i) 0 := by simp [List.getD]
  rw [e]
theorem cutNone {w : World} {a : Option Addr} {n k : Nat} {zs : List Int} (hn : zs.length = n) (hk : k = n) (c' : Nat) : IntsAt w (.slice a 0 c') (zs.drop k) := by
  have hl : (zs.drop k).length = 0 := by rw [List.length_drop, hn]; omega
  exact ⟨a, c', by rw [hl], fun h => by rw [hl] at h; omega⟩
set_option maxRecDepth 100000 in
set_option maxHeartbeats 3200000 in
theorem s_l1Put (v : Value) (zs : List Int) (x : Int) (B : Nat) (w : World) (ho : Own w B v zs) (hB : B ≤ w.heap.size) (hl : zs.length ≤ 2000000) : Calls Try.prog 61 #[v, .int .i64 x] w fun e w' => ∃ v', e = .returned v' ∧ Own w' B v' (putI x zs) ∧ Below w.heap.size w w' := by
  obtain ⟨i0, hi, hz0, hz1, hz2⟩ := info_parts info_int
  obtain ⟨a, c, rfl, hcap⟩ := ho.intsC.shape
  have HIA := Lib.hid ho.ints
  have HO := Lib.hid ho
  have HC := Lib.hid (fun k (h : k < zs.length) => (HIA.out.at' (Nat.lt_of_le_of_lt (Nat.zero_le k) h)))
  have HPS := Lib.hid (fun k => putI_same (x := x) (l := zs) (k := k))
  have HPN := Lib.hid (fun k => putI_new (x := x) (l := zs) (k := k))
  have HBW := Lib.hid hB
  have HSM := Lib.hid hl
  clear ho hB hl
  generalize hn : zs.length = n at *
  have HN := Lib.hid hn; clear hn
  have HCP := Lib.hid hcap
  clear hcap
  go_enter Try.func61, Try.ntmps61
  go_wp2_with fail
  go_loopw [5] (fun i wr => ∃ k : Nat, k ≤ n ∧ i = .int .i64 k ∧ wr = w ∧ Hid (∀ i, i < k → zs.getD i 0 < x)) (fun i _ => n - (intOf i).toNat)
  case atStart => exact ⟨0, Nat.zero_le _, rfl, rfl, fun i hi => by omega⟩
  case round =>
    obtain ⟨k, hk, rfl, hw, hlt⟩ := hrel
    replace hw := hw.symm
    subst hw
    have HK := Lib.hid hk
    by_cases hkn : k < n
    · obtain ⟨b, off, rfl, hcc⟩ := HC.out k hkn
      have q := hcc k hkn
      have i1 : (k : Int) < (n : Int) := by omega
      have i0' : (0 : Int) ≤ (k : Int) := by omega
      have HNX : Hid (∀ i, i < k + 1 → zs.getD k 0 < x → zs.getD i 0 < x) := fun i hi h => by
        by_cases e : i = k
        · subst e; exact h
        · exact hlt.out i (by omega)
      have HSAME : Hid (zs.getD k 0 = x → putI x zs = zs) := fun e => HPS.out k hkn hlt.out e
      have HNEW : Hid (x < zs.getD k 0 → putI x zs = (zs.take k ++ [x]) ++ zs.drop k) := fun h => HPN.out k hk hlt.out (fun _ => h)
      clear hcc
      generalize zs.getD k 0 = z at *
      by_cases h1 : z < x
      · have e1 : decide (z < x) = true := decide_eq_true h1
        have hkb : k < 2000000 := by have := HSM.out; omega
        go_wp2_with fail
        go_roundw
        case rel => exact ⟨k + 1, by omega, by go_num, by first | rfl | trivial, fun i hi => HNX.out i hi h1⟩
        case measure => simp [intOf]; omega
      · by_cases h2 : z = x
        · subst h2
          have HS := Lib.hid (HSAME.out rfl)
          go_wp2_with fail
          go_ret
          exact ⟨_, rfl, by rw [HS.out]; exact HO.out, Below.refl _ _⟩
        · have HS := Lib.hid (HNEW.out (by omega))
          have e2 : (z == x) = false := by rw [beq_eq_false_iff_ne]; exact h2
          clear h2 HSAME HNEW HNX
          have S1 := Lib.hid ((cutTo HIA.out HN.out HK.out).below (below1 w (.cells #[] 3))).src
          have L1 : Hid (((zs.take k).map (Value.int .i64)).length ≤ 2000000) := by have := HSM.out; have := HK.out; unfold Hid; rw [List.length_map, List.length_take]; omega
          have hcut1 : k ≤ c := by have := HK.out; have := HCP.out; omega
          have hw0 : w.heap.size ≤ (w.alloc (.cells #[] 3)).heap.size := by simp
          go_upto_region 7 with (at_builtin; refine wl_appOwn _ rfl _ _ 26 rfl w.heap.size 3 i0 (.int .i64 0) 8 Try.underlying26 hi hz0 hz1 hz2 rfl (.slice (some ⟨w.heap.size, 0, none⟩) 0 0) 0 [] rfl (own_empty w 3) (.slice (some ⟨b, off, none⟩) k c) ((zs.take k).map (Value.int .i64)) rfl S1.out (by have := L1.out; unfold maxLen; omega) (by have := L1.out; omega) hw0 ?_; intro v1 w1 ho hg hbl; have O1 := Lib.hid ho; have G1 := Lib.hid hg; clear ho hg hbl)
          have B1 := Lib.hid ((below1 w (.cells #[] 3)).grown G1.out hw0 (fun g hg => (owns_lt (own_empty w 3) hg).1))
          have O1' : Hid (Own w1 w.heap.size v1 (zs.take k)) := by have h := O1.out; rw [Nat.zero_add, List.nil_append, List.length_map] at h; exact h
          clear O1 G1 S1
          have L2 : Hid ((zs.take k).length + 1 ≤ 2000001) := by have := L1.out; unfold Hid; rw [List.length_map] at this; omega
          have hw1 : w.heap.size ≤ (w1.alloc (.cells #[.int .i64 x] 3)).heap.size := by have := B1.out.size; simp; omega
          have O1A := Lib.hid (show World.ownsRow _ w.heap.size 3 1 v1 (zs.take k).length ((zs.take k).map (Value.int .i64)) from Own.below O1'.out (below1 w1 (.cells #[.int .i64 x] 3)))
          go_upto_region 8 with (at_builtin; refine wl_appOwn _ rfl _ _ 26 rfl w.heap.size 3 i0 (.int .i64 0) 8 Try.underlying26 hi hz0 hz1 hz2 rfl v1 (zs.take k).length ((zs.take k).map (Value.int .i64)) rfl O1A.out (.slice (some ⟨w1.heap.size, 0, none⟩) 1 1) [.int .i64 x] rfl (src_oneI w1 x) (by have := L2.out; unfold maxLen; simp only [List.length_singleton]; omega) (by have := L2.out; simp only [List.length_singleton]; omega) hw1 ?_; intro v2 w2 ho hg hbl; have O2 := Lib.hid ho; have G2 := Lib.hid hg; clear ho hg hbl)
          have B2 := Lib.hid ((bst B1.out (below1 w1 (.cells #[.int .i64 x] 3)) B1.out.size).grown G2.out hw1 (fun g hg => (owns_lt O1A.out hg).1))
          have O2' : Hid (Own w2 w.heap.size v2 (zs.take k ++ [x])) := by have h := O2.out; unfold Hid Own; rw [List.length_append, List.map_append]; exact h
          clear O2 G2 O1A O1' B1
          have hws := B2.out.size
          have L3 : Hid ((zs.take k ++ [x]).length + ((zs.drop k).map (Value.int .i64)).length ≤ 2000001) := by have := HSM.out; have := HN.out; have := HK.out; unfold Hid; rw [List.length_append, List.length_map, List.length_take, List.length_drop, List.length_singleton]; omega
          by_cases hc : k = c
          · exfalso; have := HCP.out; omega
          · have hc' : ¬ c = k := fun e => hc e.symm
            have hc'' : ¬ c - k = 0 := by omega
            have S3 := Lib.hid ((cutFrom HIA.out HN.out HK.out (c - k)).below B2.out).src
            go_wp2_with (at_builtin; refine wl_appOwn _ rfl _ _ 26 rfl w.heap.size 3 i0 (.int .i64 0) 8 Try.underlying26 hi hz0 hz1 hz2 rfl v2 (zs.take k ++ [x]).length ((zs.take k ++ [x]).map (Value.int .i64)) rfl O2'.out (.slice (some ⟨b, off + k, none⟩) (n - k) (c - k)) ((zs.drop k).map (Value.int .i64)) rfl S3.out (by have := L3.out; unfold maxLen; omega) (by have := L3.out; omega) hws ?_; intro v3 y3 ho hg hbl; have O3 := Lib.hid ho; have G3 := Lib.hid hg; clear ho hg hbl)
            go_ret
            refine ⟨_, rfl, ?_, B2.out.grown G3.out hws (fun g hg => (owns_lt O2'.out hg).1)⟩
            have h := O3.out
            rw [HS.out]
            refine Own.mono (B := w.heap.size) ?_ HBW.out
            unfold Own
            rw [List.length_append, List.map_append]
            rw [List.length_map] at h
            exact h
    · obtain rfl : k = n := by omega
      have HS : Hid (putI x zs = (zs.take k ++ [x]) ++ zs.drop k) := HPN.out k (Nat.le_refl _) hlt.out (fun h => absurd h (Nat.lt_irrefl _))
      clear hkn
      have S1 := Lib.hid ((cutTo HIA.out HN.out HK.out).below (below1 w (.cells #[] 3))).src
      have L1 : Hid (((zs.take k).map (Value.int .i64)).length ≤ 2000000) := by have := HSM.out; have := HK.out; unfold Hid; rw [List.length_map, List.length_take]; omega
      have hcut1 : k ≤ c := by have := HK.out; have := HCP.out; omega
      have hw0 : w.heap.size ≤ (w.alloc (.cells #[] 3)).heap.size := by simp
      go_upto_region 7 with (at_builtin; refine wl_appOwn _ rfl _ _ 26 rfl w.heap.size 3 i0 (.int .i64 0) 8 Try.underlying26 hi hz0 hz1 hz2 rfl (.slice (some ⟨w.heap.size, 0, none⟩) 0 0) 0 [] rfl (own_empty w 3) (.slice a k c) ((zs.take k).map (Value.int .i64)) rfl S1.out (by have := L1.out; unfold maxLen; omega) (by have := L1.out; omega) hw0 ?_; intro v1 w1 ho hg hbl; have O1 := Lib.hid ho; have G1 := Lib.hid hg; clear ho hg hbl)
      have B1 := Lib.hid ((below1 w (.cells #[] 3)).grown G1.out hw0 (fun g hg => (owns_lt (own_empty w 3) hg).1))
      have O1' : Hid (Own w1 w.heap.size v1 (zs.take k)) := by have h := O1.out; rw [Nat.zero_add, List.nil_append, List.length_map] at h; exact h
      clear O1 G1 S1
      have L2 : Hid ((zs.take k).length + 1 ≤ 2000001) := by have := L1.out; unfold Hid; rw [List.length_map] at this; omega
      have hw1 : w.heap.size ≤ (w1.alloc (.cells #[.int .i64 x] 3)).heap.size := by have := B1.out.size; simp; omega
      have O1A := Lib.hid (show World.ownsRow _ w.heap.size 3 1 v1 (zs.take k).length ((zs.take k).map (Value.int .i64)) from Own.below O1'.out (below1 w1 (.cells #[.int .i64 x] 3)))
      go_upto_region 8 with (at_builtin; refine wl_appOwn _ rfl _ _ 26 rfl w.heap.size 3 i0 (.int .i64 0) 8 Try.underlying26 hi hz0 hz1 hz2 rfl v1 (zs.take k).length ((zs.take k).map (Value.int .i64)) rfl O1A.out (.slice (some ⟨w1.heap.size, 0, none⟩) 1 1) [.int .i64 x] rfl (src_oneI w1 x) (by have := L2.out; unfold maxLen; simp only [List.length_singleton]; omega) (by have := L2.out; simp only [List.length_singleton]; omega) hw1 ?_; intro v2 w2 ho hg hbl; have O2 := Lib.hid ho; have G2 := Lib.hid hg; clear ho hg hbl)
      have B2 := Lib.hid ((bst B1.out (below1 w1 (.cells #[.int .i64 x] 3)) B1.out.size).grown G2.out hw1 (fun g hg => (owns_lt O1A.out hg).1))
      have O2' : Hid (Own w2 w.heap.size v2 (zs.take k ++ [x])) := by have h := O2.out; unfold Hid Own; rw [List.length_append, List.map_append]; exact h
      clear O2 G2 O1A O1' B1
      have hws := B2.out.size
      have L3 : Hid ((zs.take k ++ [x]).length + ((zs.drop k).map (Value.int .i64)).length ≤ 2000001) := by have := HSM.out; have := HN.out; have := HK.out; unfold Hid; rw [List.length_append, List.length_map, List.length_take, List.length_drop, List.length_singleton]; omega
      cases a with
      | none =>
        obtain ⟨hc0, hk0⟩ : c = 0 ∧ k = 0 := by
          rcases HO.out.2 with ⟨h1, h2⟩ | ⟨g, cap, cur, h1, _⟩
          · cases h1; exact ⟨rfl, by have := HN.out; omega⟩
          · cases h1
        subst hc0
        subst hk0
        have S3 := Lib.hid ((cutNone (k := 0) (a := none) HN.out rfl 0).below B2.out).src
        go_wp2_with (at_builtin; refine wl_appOwn _ rfl _ _ 26 rfl w.heap.size 3 i0 (.int .i64 0) 8 Try.underlying26 hi hz0 hz1 hz2 rfl v2 (zs.take 0 ++ [x]).length ((zs.take 0 ++ [x]).map (Value.int .i64)) rfl O2'.out (.slice none 0 0) ((zs.drop 0).map (Value.int .i64)) rfl S3.out (by have := L3.out; unfold maxLen; omega) (by have := L3.out; omega) hws ?_; intro v3 y3 ho hg hbl; have O3 := Lib.hid ho; have G3 := Lib.hid hg; clear ho hg hbl)
        go_ret
        refine ⟨_, rfl, ?_, B2.out.grown G3.out hws (fun g hg => (owns_lt O2'.out hg).1)⟩
        have h := O3.out
        rw [HS.out]
        refine Own.mono (B := w.heap.size) ?_ HBW.out
        unfold Own
        rw [List.length_append, List.map_append]
        rw [List.length_map] at h
        exact h
      | some ad =>
        obtain ⟨g, rfl⟩ : ∃ g, ad = ⟨g, 0, none⟩ := by
          rcases HO.out.2 with ⟨h1, h2⟩ | ⟨g, cap, cur, h1, _⟩
          · cases h1
          · cases h1; exact ⟨g, rfl⟩
        by_cases hc : c = k
        · subst hc
          have S3 := Lib.hid ((cutNone (a := some ⟨g, 0, none⟩) HN.out rfl 0).below B2.out).src
          go_wp2_with (at_builtin; refine wl_appOwn _ rfl _ _ 26 rfl w.heap.size 3 i0 (.int .i64 0) 8 Try.underlying26 hi hz0 hz1 hz2 rfl v2 (zs.take c ++ [x]).length ((zs.take c ++ [x]).map (Value.int .i64)) rfl O2'.out (.slice (some ⟨g, 0, none⟩) 0 0) ((zs.drop c).map (Value.int .i64)) rfl S3.out (by have := L3.out; unfold maxLen; omega) (by have := L3.out; omega) hws ?_; intro v3 y3 ho hg hbl; have O3 := Lib.hid ho; have G3 := Lib.hid hg; clear ho hg hbl)
          go_ret
          refine ⟨_, rfl, ?_, B2.out.grown G3.out hws (fun g hg => (owns_lt O2'.out hg).1)⟩
          have h := O3.out
          rw [HS.out]
          refine Own.mono (B := w.heap.size) ?_ HBW.out
          unfold Own
          rw [List.length_append, List.map_append]
          rw [List.length_map] at h
          exact h
        · have hc' : ¬ k = c := fun e => hc e.symm
          have S3 := Lib.hid ((cutNone (a := some ⟨g, k, none⟩) HN.out rfl (c - k)).below B2.out).src
          go_wp2_with (at_builtin; refine wl_appOwn _ rfl _ _ 26 rfl w.heap.size 3 i0 (.int .i64 0) 8 Try.underlying26 hi hz0 hz1 hz2 rfl v2 (zs.take k ++ [x]).length ((zs.take k ++ [x]).map (Value.int .i64)) rfl O2'.out (.slice (some ⟨g, k, none⟩) 0 (c - k)) ((zs.drop k).map (Value.int .i64)) rfl S3.out (by have := L3.out; unfold maxLen; omega) (by have := L3.out; omega) hws ?_; intro v3 y3 ho hg hbl; have O3 := Lib.hid ho; have G3 := Lib.hid hg; clear ho hg hbl)
          go_ret
          refine ⟨_, rfl, ?_, B2.out.grown G3.out hws (fun g hg => (owns_lt O2'.out hg).1)⟩
          have h := O3.out
          rw [HS.out]
          refine Own.mono (B := w.heap.size) ?_ HBW.out
          unfold Own
          rw [List.length_append, List.map_append]
          rw [List.length_map] at h
          exact h
end Go.Proofs.Ytkbphmnacdpdgaa
namespace Go.Proofs.Ytkbphmnacdpdgaa
open Go.RowKit Ph Kw

theorem s_l10Who (z : Int) (w : World) : Calls Try.prog 85 #[.int .i64 z] w fun e w' => e = .returned (.bool (isW z)) ∧ w = w' := by
  have HC := Lib.hid (fun w => s_l1In z 0 2 w)
  have HE : Hid ((decide (0 ≤ z) && decide (z ≤ 2)) = isW z) := rfl
  go_enter Try.func85, Try.ntmps85
  go_wp2_with (go_at_call 63; refine (HC.out _).mono ?_; rintro e w1 ⟨rfl, rfl⟩; rw [HE.out])
  go_ret
  exact ⟨rfl, rfl⟩
set_option maxRecDepth 100000 in
set_option maxHeartbeats 3200000 in
theorem s_l10All (a : Value) (n : Int) (c : Value) (W : Wk) (w : World) (hA : WorkAt w a c W) (hl : W.r.length ≤ 1000) (hm : W.d.length + sumL W.r W.r.length ≤ 1100000) : Calls Try.prog 64 #[wkv a n c] w fun e w' => ∃ v, e = .returned v ∧ Own w' w.heap.size v (W.d ++ W.r.flatten) ∧ Below w.heap.size w w' := by
  obtain ⟨i0, hi, hz0, hz1, hz2⟩ := info_parts info_int
  obtain ⟨fs, nn, d⟩ := W
  simp only at hl hm ⊢
  have HLE := Lib.hid (fun k => sumL_mono fs (j := k) (k := fs.length))
  have HFL := Lib.hid (fun k hk => flat_succ (fs := fs) (k := k) hk)
  have HFN := Lib.hid (fun k hk => flat_len (fs := fs) (k := k) hk)
  have HTK := Lib.hid (show fs.take fs.length = fs from List.take_length)
  have hb0 := below1 w (.cells (w3 a n c) 28)
  have ra0 : RowW (w.alloc (.cells (w3 a n c) 28)) w.heap.size a n c := Row.new w _ _
  have HA := Lib.hid hA
  obtain ⟨pa, qa, hpa⟩ := hA.r.shape
  obtain ⟨pc, qc, hpc⟩ := hA.d.shape
  simp only at hpa hpc
  have HB := Lib.hid hb0; have RA := Lib.hid ra0
  generalize hn : fs.length = nr at *
  generalize hnd : d.length = nd at *
  subst hpa
  subst hpc
  have q0 := ra0.c0
  have q2 := ra0.c2
  have HND := Lib.hid hnd
  have HNR := Lib.hid hn
  have HMM := Lib.hid hm
  have S1 := Lib.hid ((hA.d.below hb0).below (below1 _ (.cells #[] 3))).src
  clear ra0 hb0 hA hn hnd hm
  have hw1 : w.heap.size + 1 ≤ ((w.alloc (.cells (w3 (.slice pa nr qa) n (.slice pc nd qc)) 28)).alloc (.cells #[] 3)).heap.size := by simp
  have hsz : (w.alloc (.cells (w3 (.slice pa nr qa) n (.slice pc nd qc)) 28)).heap.size = w.heap.size + 1 := by simp
  have OE := own_empty (w.alloc (.cells (w3 (.slice pa nr qa) n (.slice pc nd qc)) 28)) 3
  rw [hsz] at OE
  have HOE := Lib.hid OE; clear OE
  go_enter Try.func64, Try.ntmps64
  go_wp2_with (at_builtin; refine wl_appOwn _ rfl _ _ 26 rfl (w.heap.size + 1) 3 i0 (.int .i64 0) 8 Try.underlying26 hi hz0 hz1 hz2 rfl (.slice (some ⟨w.heap.size + 1, 0, none⟩) 0 0) 0 [] rfl HOE.out (.slice pc nd qc) (d.map (Value.int .i64)) rfl S1.out (by have := HMM.out; have := HND.out; rw [List.length_map]; unfold maxLen; omega) (by have := HMM.out; have := HND.out; rw [List.length_map]; omega) hw1 ?_; intro v1 w1 ho hg hbl; have O1 := Lib.hid ho; have B1 := Lib.hid ((bst HB.out (below1 _ (.cells #[] 3)) HB.out.size).grown hg (by have := HB.out.size; simp; omega) (fun g hg => by have := (owns_lt HOE.out hg).1; omega)); have R1 : Hid (RowW w1 w.heap.size (.slice pa nr qa) n (.slice pc nd qc)) := Row.grownBy (Row.alloc RA.out _) hg (fun e => by have := (owns_lt HOE.out e).1; omega); have q0' := RowW.c0 R1.out; clear ho hg hbl)
  have HW1 : Hid (w.heap.size + 1 ≤ w1.heap.size) := Row.lt R1.out
  have O1' : Hid (Own w1 (w.heap.size + 1) v1 d) := by have h := O1.out; rw [Nat.zero_add, List.nil_append, List.length_map] at h; exact h
  clear O1 HOE S1 q0' q0 q2
  go_loopw [13, 3] (fun i s wr => ∃ k : Nat, k ≤ nr ∧ i = .int .i64 k ∧ Hid (Own wr (w.heap.size + 1) s (d ++ (fs.take k).flatten)) ∧ Hid (Below w.heap.size w wr) ∧ Hid (w.heap.size + 1 ≤ wr.heap.size)) (fun i _ _ => nr - (intOf i).toNat)
  case atStart => exact ⟨0, Nat.zero_le _, rfl, by rw [List.take_zero, List.flatten_nil, List.append_nil]; exact O1', B1, HW1⟩
  case round =>
    obtain ⟨j, hj, rfl, how, hbw, hww⟩ := hrel
    by_cases hlt : j < nr
    · obtain ⟨b, off, rfl, hcc⟩ := HA.out.r.at' (by omega)
      obtain ⟨u, q0, hu⟩ := hcc j hlt
      have q := cellBelow hbw.out (Nat.le_refl _) q0
      have hsrc := Lib.hid (hu.below hbw.out).src
      have e1 := HFL.out j hlt
      have e3 := HFN.out (j + 1) (by omega)
      have e4 := HLE.out (j + 1) (by omega)
      rw [e1] at e3
      have HE1 : Hid (d ++ (fs.take (j + 1)).flatten = (d ++ (fs.take j).flatten) ++ fs.getD j []) := by unfold Hid; rw [e1, List.append_assoc]
      have HLN : Hid ((d ++ (fs.take j).flatten).length + ((fs.getD j []).map (Value.int .i64)).length ≤ 1100000) := by
        unfold Hid; rw [List.length_map, List.length_append, Nat.add_assoc, ← List.length_append, e3]; have := HMM.out; have := HND.out; omega
      have i3 : (j : Int) < (nr : Int) := by omega
      have hws := hww.out
      clear hcc hu q0 e1 e3 e4
      generalize d ++ (fs.take j).flatten = ys at *
      generalize fs.getD j [] = zs at *
      go_wp2_with (at_builtin; refine wl_appOwn _ rfl _ _ 26 rfl (w.heap.size + 1) 3 i0 (.int .i64 0) 8 Try.underlying26 hi hz0 hz1 hz2 rfl u3 ys.length (ys.map (Value.int .i64)) rfl how.out u (zs.map (Value.int .i64)) rfl hsrc.out (by have := HLN.out; unfold maxLen; omega) (by have := HLN.out; omega) hws ?_; intro v2 w2 ho hg hbl; have O2 := Lib.hid ho; have G2 := Lib.hid hg; clear ho hg hbl)
      go_roundw
      case rel =>
        refine ⟨j + 1, by omega, by go_num, ?_, ?_, Nat.le_trans hws G2.out.size⟩
        · have h := O2.out
          unfold Hid
          rw [HE1.out]
          unfold Own
          rw [List.length_append, List.map_append]
          rw [List.length_map] at h
          exact h
        · exact hbw.out.grown G2.out hbw.out.size (fun g hg => by have := (owns_lt how.out hg).1; omega)
      case measure => simp [intOf]; omega
    · obtain rfl : j = nr := by omega
      go_wp2_with fail
      go_ret
      refine ⟨_, rfl, Own.mono (B := w.heap.size + 1) ?_ (Nat.le_succ _), hbw.out⟩
      have h := how.out
      rw [HTK.out] at h
      exact h
set_option maxRecDepth 100000 in
set_option maxHeartbeats 6400000 in
theorem s_GoodWork (a c : Value) (W : Wk) (w : World) (hA : WorkAt w a c W) (hd : W.d.length ≤ 1048576) : Calls Try.prog 29 #[wkv a W.n c] w fun e w' => e = .returned (.bool (goodB W)) ∧ Below w.heap.size w w' := by
  obtain ⟨pa, qa, nr, rfl, hnr⟩ : ∃ p q n, a = .slice p n q ∧ W.r.length = n := by obtain ⟨p, q, h⟩ := hA.r.shape; exact ⟨p, q, _, h, rfl⟩
  have hb0 := below1 w (.cells (w3 (.slice pa nr qa) W.n c) 28)
  have ra0 : RowW (w.alloc (.cells (w3 (.slice pa nr qa) W.n c) 28)) w.heap.size (.slice pa nr qa) W.n c := Row.new w _ _
  have HB := Lib.hid hb0; have RA := Lib.hid ra0
  have HA := Lib.hid (hA.below hb0)
  have q0 := ra0.c0
  have q1 := ra0.c1
  have HNR := Lib.hid hnr
  have HDL := Lib.hid hd
  clear ra0 hb0 hA hnr hd
  by_cases hl : nr = 3
  · subst hl
    have e1 : (((3 : Nat) : Int) != 3) = false := rfl
    by_cases hc : isCnt W.n = true
    · have HN1 := Lib.hid (isCnt_iff.1 hc)
      clear hc
      obtain ⟨b, off, rfl, hcc⟩ := HA.out.r.at' (by omega)
      have HCC := Lib.hid hcc
      clear hcc
      go_enter Try.func29, Try.ntmps29
      go_wp2_with (go_at_call 63; refine (s_l1In_yes W.n 0 100 _ HN1.out.1 HN1.out.2).mono ?_; rintro e w1 ⟨rfl, rfl⟩)
      generalize w.alloc (.cells (w3 (.slice (some ⟨b, off, none⟩) 3 qa) W.n c) 28) = wa at *
      go_loopw [22] (fun i wr => ∃ k : Nat, k ≤ 3 ∧ i = .int .i64 k ∧ wr = wa ∧ Hid (∀ j, j < k → (row W j).length ≤ 12)) (fun i _ => 3 - (intOf i).toNat)
      case atStart => exact ⟨0, by omega, rfl, rfl, fun j hj => by omega⟩
      case round =>
        obtain ⟨k, hk, rfl, hw, hr12⟩ := hrel
        replace hw := hw.symm
        subst hw
        by_cases hlt : k < 3
        · obtain ⟨u, q, hu⟩ := HCC.out k hlt
          obtain ⟨pu, cu, rfl⟩ := hu.shape
          have hrk : (W.r.getD k []).length = (row W k).length := rfl
          rw [hrk] at q
          clear hrk
          have i1 : (k : Int) < 3 := by omega
          by_cases hm : (row W k).length ≤ 12
          · have j1 : ¬ ((row W k).length : Int) > 12 := by omega
            have S5 : Hid (∀ j, j < k + 1 → (row W j).length ≤ 12) := fun j hj => by
              by_cases e : j = k
              · subst e; exact hm
              · exact hr12.out j (by omega)
            clear hu hm hr12
            generalize (row W k).length = m at *
            go_wp2_with fail
            go_roundw
            case rel => exact ⟨k + 1, by omega, by go_num, by first | rfl | trivial, S5⟩
            case measure => simp [intOf]; omega
          · have HE : Hid (goodB W = false) := not_good_row hlt hm
            have j1 : ((row W k).length : Int) > 12 := by omega
            clear hu hm
            generalize (row W k).length = m at *
            go_wp2_with fail
            go_ret
            exact ⟨r_b HE.out.symm, HB.out⟩
        · obtain rfl : k = 3 := by omega
          have HR12 := Lib.hid hr12.out
          have HL3 : Hid (W.r.length = 3) := HNR
          have HSU := Lib.hid (srt_own_len W HL3.out HR12.out).2
          have HGP := Lib.hid (good_put HL3.out HN1.out.1 HN1.out.2 HR12.out)
          have HLN : Hid ((W.d ++ W.r.flatten).length ≤ 1048612) := by
            unfold Hid; rw [List.length_append]
            have := flat_len (fs := W.r) (Nat.le_refl _)
            rw [List.take_length] at this
            have := HSU.out; have := HDL.out; omega
          clear hr12
          have q0 := RowW.c0 RA.out
          have q1 := RowW.c1 RA.out
          go_wp2_with (refine wl_loadW rfl _ rfl w.heap.size _ _ _ RA.out rfl ?_)
          refine (s_l10All _ W.n _ W _ HA.out (by have := HL3.out; omega) (by have := HSU.out; have := HDL.out; omega)).mono ?_
          rintro e w1 ⟨v1, rfl, ho1, hb1⟩
          have O1 := Lib.hid ho1; have B1 := Lib.hid (bst HB.out hb1 HB.out.size); have R1 := Lib.hid (RowW.below RA.out hb1)
          clear ho1 hb1
          clear q0 q1
          have q1 := RowW.c1 R1.out
          obtain ⟨p1, c1, hv1⟩ := O1.out.ints.shape
          have HX := Lib.hid (fun i (hi : i < (W.d ++ W.r.flatten).length) => hi)
          generalize hnz : (W.d ++ W.r.flatten).length = nz at hv1
          subst hv1
          have HNZ := Lib.hid hnz; clear hnz HX
          have HIA := Lib.hid O1.out.ints
          clear O1
          generalize hzs : W.d ++ W.r.flatten = zs at *
          have HZS := Lib.hid hzs; clear hzs
          go_wp2_with fail
          go_loopw [34, 6] (fun i s wr => ∃ k : Nat, k ≤ nz ∧ i = .int .i64 k ∧ Hid (Own wr w1.heap.size s (putAll [] (zs.take k))) ∧ Hid (Below w1.heap.size w1 wr) ∧ Hid (∀ j, j < k → 1 ≤ zs.getD j 0 ∧ zs.getD j 0 ≤ W.n)) (fun i _ _ => nz - (intOf i).toNat)
          case atStart => exact ⟨0, Nat.zero_le _, rfl, Own.nil _ _, Below.refl _ _, fun j hj => by omega⟩
          case round =>
            obtain ⟨j, hj, rfl, how, hbw, hin⟩ := hrel
            have R2 := Lib.hid (RowW.below R1.out hbw.out)
            have q1 := RowW.c1 R2.out
            by_cases hlt : j < nz
            · obtain ⟨b2, off2, rfl, hcc⟩ := IntsAt.at' HIA.out (by omega)
              have q := cellBelow hbw.out (Nat.le_refl _) (hcc j hlt)
              have i1 : (j : Int) < (nz : Int) := by omega
              have hjl : j < zs.length := by have := HNZ.out; omega
              by_cases hz : 1 ≤ zs.getD j 0 ∧ zs.getD j 0 ≤ W.n
              · have HZ := Lib.hid hz
                have HPA : Hid (putAll [] (zs.take (j + 1)) = putI (zs.getD j 0) (putAll [] (zs.take j))) := by
                  unfold Hid
                  rw [List.take_succ_eq_append_getElem hjl, putAll_snoc]
                  simp [List.getD, hjl]
                have HIN : Hid (∀ i, i < j + 1 → 1 ≤ zs.getD i 0 ∧ zs.getD i 0 ≤ W.n) := fun i hi => by
                  by_cases e : i = j
                  · subst e; exact HZ.out
                  · exact hin.out i (by omega)
                have HLQ : Hid ((putAll [] (zs.take j)).length ≤ 2000000) := by unfold Hid; have h1 := putAll_length (acc := []) (zs := zs.take j); have h2 := HLN.out; have h3 := HNZ.out; rw [List.length_take] at h1; simp only [List.length_nil] at h1; omega
                have hjb : j < 2000000 := by have := HLN.out; have := HNZ.out; omega
                clear hz hcc hin
                generalize zs.getD j 0 = z at *
                go_wp2_with (first
                  | (go_at_call 63; refine (s_l1In_yes z 1 W.n _ HZ.out.1 HZ.out.2).mono ?_; rintro e w2 ⟨rfl, rfl⟩)
                  | (go_at_call 61; refine (s_l1Put _ (putAll [] (zs.take j)) z w1.heap.size _ how.out hbw.out.size HLQ.out).mono ?_; rintro e w2 ⟨v2, rfl, ho2, hb2⟩; have O2 := Lib.hid ho2; have B2 := Lib.hid (bst hbw.out hb2 hbw.out.size); clear ho2 hb2))
                go_roundw
                case rel => exact ⟨j + 1, by omega, by go_num, by rw [HPA.out]; exact O2, B2, HIN⟩
                case measure => simp [intOf]; omega
              · have HE : Hid (goodB W = false) := goodB_false fun g => hz ((HGP.out.1 g).1 _ (by simp [List.getD, hjl]))
                have HZ : Hid (zs.getD j 0 < 1 ∨ W.n < zs.getD j 0) := by unfold Hid; omega
                clear hz hcc hin
                generalize zs.getD j 0 = z at *
                go_wp2_with (go_at_call 63; refine (s_l1In_no z 1 W.n _ HZ.out).mono ?_; rintro e w2 ⟨rfl, rfl⟩)
                go_ret
                exact ⟨r_b HE.out.symm, bst B1.out hbw.out B1.out.size⟩
            · obtain rfl : j = nz := by omega
              have htk : zs.take j = zs := by rw [← HNZ.out]; exact List.take_length
              have HOW : Hid (Own wr w1.heap.size u6 (putAll [] zs)) := by rw [← htk]; exact how
              obtain ⟨p6, c6, hv6⟩ := HOW.out.ints.shape
              have HALL : Hid (∀ z ∈ zs, 1 ≤ z ∧ z ≤ W.n) := fun z hz => by
                obtain ⟨i, hi, rfl⟩ := List.mem_iff_getElem.1 hz
                have := hin.out i (by rw [HNZ.out] at hi; exact hi)
                simpa [List.getD, hi] using this
              generalize hn6 : (putAll [] zs).length = n6 at hv6
              subst hv6
              have HN6 := Lib.hid hn6
              have HBF := Lib.hid (bst B1.out hbw.out B1.out.size)
              clear hin how HOW hn6 htk
              by_cases h1 : (j : Int) = W.n
              · have e1 : ((j : Int) == W.n) = true := by rw [beq_iff_eq]; exact h1
                by_cases h2 : (n6 : Int) = W.n
                · have e2 : ((n6 : Int) == W.n) = true := by rw [beq_iff_eq]; exact h2
                  have HE : Hid (goodB W = true) := goodB_iff.2 (HGP.out.2 ⟨HALL.out, by rw [HNZ.out]; exact h1, by rw [HN6.out]; exact h2⟩)
                  clear h1 h2
                  go_wp2_with fail
                  go_ret
                  exact ⟨r_b HE.out.symm, HBF.out⟩
                · have e2 : ((n6 : Int) == W.n) = false := by rw [beq_eq_false_iff_ne]; exact h2
                  have HE : Hid (goodB W = false) := goodB_false fun g => h2 (by have := (HGP.out.1 g).2.2; rw [HN6.out] at this; exact this)
                  clear h1 h2
                  go_wp2_with fail
                  go_ret
                  exact ⟨r_b HE.out.symm, HBF.out⟩
              · have e1 : ((j : Int) == W.n) = false := by rw [beq_eq_false_iff_ne]; exact h1
                have HE : Hid (goodB W = false) := goodB_false fun g => h1 (by have := (HGP.out.1 g).2.1; rw [HNZ.out] at this; exact this)
                clear h1
                go_wp2_with fail
                go_ret
                exact ⟨r_b HE.out.symm, HBF.out⟩
    · have h3 : ¬ (0 ≤ W.n ∧ W.n ≤ 100) := fun h => hc (isCnt_iff.2 h)
      have HCN : Hid (W.n < 0 ∨ 100 < W.n) := by unfold Hid; omega
      clear h3
      have HE : Hid (goodB W = false) := not_good_n (by simpa using hc)
      clear hc
      go_enter Try.func29, Try.ntmps29
      go_wp2_with (go_at_call 63; refine (s_l1In_no W.n 0 100 _ HCN.out).mono ?_; rintro e w1 ⟨rfl, rfl⟩)
      go_ret
      exact ⟨r_b HE.out.symm, HB.out⟩
  · have e1 : ((nr : Int) != 3) = true := by rw [bne_iff_ne]; omega
    have HE : Hid (goodB W = false) := not_good_len (by rw [HNR.out]; exact hl)
    clear hl
    go_enter Try.func29, Try.ntmps29
    go_wp2_with fail
    go_ret
    exact ⟨r_b HE.out.symm, HB.out⟩
end Go.Proofs.Ytkbphmnacdpdgaa
