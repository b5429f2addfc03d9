/- Spans by value, in blocks, and parts of blocks; the laws' own helpers over spans. -/
import Derived.Test.YtcelebblcjhpaaaDoorBl1
import Derived.Test.YtcelebblcjhpaaaDoorBe1
import Derived.Test.YtcelebblcjhpaaaDoorPs
namespace Go.Proofs.YtcelebblcjhpaaaDoor
open Go.RowKit Pb

/-- A span by value. -/
abbrev sp (f c l : Int) (v : Value) : Value := .agg #[.int .i64 f, .int .i64 c, .int .i64 l, v]
abbrev c4 (f c l : Int) (v : Value) : Array Value := #[.int .i64 f, .int .i64 c, .int .i64 l, v]
def RowS (w : World) (g : Nat) (f c l : Int) (v : Value) : Prop := Row w g 27 (c4 f c l v)
theorem RowS.c0 {w : World} {g : Nat} {f c l : Int} {v : Value} (h : RowS w g f c l v) : w.cell? ⟨g, 0, none⟩ = some (.int .i64 f) := Row.cell h 0
theorem RowS.c1 {w : World} {g : Nat} {f c l : Int} {v : Value} (h : RowS w g f c l v) : w.cell? ⟨g, 1, none⟩ = some (.int .i64 c) := Row.cell h 1
theorem RowS.c2 {w : World} {g : Nat} {f c l : Int} {v : Value} (h : RowS w g f c l v) : w.cell? ⟨g, 2, none⟩ = some (.int .i64 l) := Row.cell h 2
theorem RowS.c3 {w : World} {g : Nat} {f c l : Int} {v : Value} (h : RowS w g f c l v) : w.cell? ⟨g, 3, none⟩ = some v := Row.cell h 3
theorem info_span : (Tryd.prog.info? 27).map (·.size) = some 4 := by kernel_rfl
theorem wl_loadS {ops : Array Oper} {rest : List Oper} {o : Oper} {a : Act} {w : World} {Q : Exit → Act → World → Prop} (hgd : o.guard = none) (x : Operand) (ho : o.op = .load 27 x) (g : Nat) (f c l : Int) (v : Value) (hg : RowS w g f c l v)
    (hx : a.eval x = .pointer (some ⟨g, 0, none⟩)) (h : wpList Tryd.prog ops Q rest (a.put o.dst (sp f c l v)) w) : wpList Tryd.prog ops Q (o :: rest) a w :=
  wpList_load_row hgd 27 x ho g hx 27 (c4 f c l v) (0, 0) _ hg Tryd.underlying27 rfl info_span h
theorem wl_storeS {ops : Array Oper} {rest : List Oper} {o : Oper} {a : Act} {w : World} {Q : Exit → Act → World → Prop} (hgd : o.guard = none) (x y : Operand) (ho : o.op = .store 27 x y) (g : Nat) (f c l : Int) (v : Value) (f0 c0 l0 : Int) (v0 : Value) (hg : RowS w g f0 c0 l0 v0)
    (hx : a.eval x = .pointer (some ⟨g, 0, none⟩)) (hy : a.eval y = sp f c l v) (h1 : v.oneCell' = true) (h : wpList Tryd.prog ops Q rest (a.put o.dst undef) (w.setRow g (c4 f c l v))) : wpList Tryd.prog ops Q (o :: rest) a w :=
  wpList_store_row hgd 27 x y ho g (c4 f c l v) hx hy 27 (c4 f0 c0 l0 v0) hg info_span rfl (by simp [Value.oneCell']; exact h1) h

/-- A part of a block, loaded. -/
theorem run_loadVar_at {P : Program} (w : World) (g off : Nat) (ty : TypeId) (vs : List Value) (d : TypeDesc) (hc : ∀ j v, vs[j]? = some v → w.cell? ⟨g, off + j, none⟩ = some v)
    (hu : P.underlying ty = some d) (hd : (match d with | .struct _ | .array _ _ => true | _ => false) = true) (hi : (P.info? ty).map (·.size) = some vs.length) :
    (loadVar ty ⟨g, off, none⟩).run P w = .ok (.agg vs.toArray) w := by
  have hl : (loadCells ⟨g, off, none⟩ vs.length).run P w = .ok vs.toArray w :=
    run_loadCells_list (P := P) w ⟨g, off, none⟩ vs (fun j v hv => by
      have hadd : (⟨g, off, none⟩ : Addr).add j = ⟨g, off + j, none⟩ := by unfold Addr.add; split <;> simp_all
      rw [hadd]
      exact hc j v hv)
  cases hq : P.info? ty with
  | none => simp [hq] at hi
  | some i =>
    have hs : i.size = vs.length := by simpa [hq] using hi
    have hagg : (isAgg ty).run P w = .ok true w := by
      unfold isAgg
      rw [Sem.run_bind, run_underlying hu w]
      cases d <;> simp_all
    simp [loadVar, Sem.run_bind, hagg, sizeOf, typeInfo, hq, hs, hl]
theorem wl_loadAt {P : Program} {ops : Array Oper} {rest : List Oper} {o : Oper} {a : Act} {w : World} {Q : Exit → Act → World → Prop} (hgd : o.guard = none) (ty : TypeId) (x : Operand) (ho : o.op = .load ty x)
    (g off : Nat) (hx : a.eval x = .pointer (some ⟨g, off, none⟩)) (T : TypeId) (cs : Array Value) (hg : Row w g T cs) (vs : List Value) (d : TypeDesc) (hp : ∀ j v, vs[j]? = some v → cs[off + j]? = some v)
    (hu : P.underlying ty = some d) (hd : (match d with | .struct _ | .array _ _ => true | _ => false) = true) (hi : (P.info? ty).map (·.size) = some vs.length)
    (h : wpList P ops Q rest (a.put o.dst (.agg vs.toArray)) w) : wpList P ops Q (o :: rest) a w :=
  wpList_plain hgd fun _ hK => by
    unfold Oper.wp execOp
    simp only [ho, hx, Instr.loadAt, Instr.sureAddr, Sem.run_bind, Sem.run_pure, Result.andThen_ok, run_loadVar_at w g off ty vs d (fun j v hv => (Row.cell hg (off + j)).trans (hp j v hv)) hu hd hi]
    exact hK _ _ h
theorem two_of {x y : Value} {cs : Array Value} {off : Nat} (h0 : cs[off]? = some x) (h1 : cs[off + 1]? = some y) : ∀ j v, [x, y][j]? = some v → cs[off + j]? = some v := by
  intro j v hv
  match j, hv with
  | 0, hv => simp at hv; subst hv; exact h0
  | 1, hv => simp at hv; subst hv; exact h1
/-- The bitmap of a span in a block. -/
theorem wl_loadU {ops : Array Oper} {rest : List Oper} {o : Oper} {a : Act} {w : World} {Q : Exit → Act → World → Prop} (hgd : o.guard = none) (x : Operand) (ho : o.op = .load 25 x) (g : Nat) (f c l : Int) (v : Value) (hg : RowS w g f c l v)
    (hx : a.eval x = .pointer (some ⟨g, 2, none⟩)) (h : wpList Tryd.prog ops Q rest (a.put o.dst (bm l v)) w) : wpList Tryd.prog ops Q (o :: rest) a w :=
  wl_loadAt hgd 25 x ho g 2 hx 27 (c4 f c l v) hg [.int .i64 l, v] _ (two_of rfl rfl) Tryd.underlying25 rfl info_bits h

set_option maxHeartbeats 800000 in
theorem c_szSpan_yes (f c l : Int) (a : Option Addr) (n cap : Nat) (left : Int) (w : World) (h1 : left ≤ 1048576) (h : (n : Int) ≤ left) : Calls Tryd.prog 36 #[sp f c l (.slice a n cap), .int .i64 left] w fun e w' => e = .returned (.int .i64 (left - n)) ∧ Below w.heap.size w w' := by
  have h2 : ¬ left - (n : Int) < 0 := by omega
  have HB := Lib.hid ((Below.refl w.heap.size w).alloc (Nat.le_refl _) (.cells (c4 f c l (.slice a n cap)) 53))
  go_enter Tryd.func36, Tryd.ntmps36
  go_wp2_with fail
  refine (c_szBits_yes l a n cap left _ h1 h).mono ?_
  rintro e w1 ⟨rfl, hb1⟩
  have B1 := Lib.hid (bst HB.out hb1 HB.out.size)
  clear hb1
  go_wp2
  go_ret
  exact ⟨rfl, B1.out⟩
set_option maxHeartbeats 800000 in
theorem c_szSpan_no (f c l : Int) (a : Option Addr) (n cap : Nat) (left : Int) (w : World) (h0 : 0 ≤ left) (h1 : left ≤ 1048576) (hn : n ≤ 9223372036854775807) (h : left < (n : Int)) : Calls Tryd.prog 36 #[sp f c l (.slice a n cap), .int .i64 left] w fun e w' => e = .returned (.int .i64 (-1)) ∧ Below w.heap.size w w' := by
  have HB := Lib.hid ((Below.refl w.heap.size w).alloc (Nat.le_refl _) (.cells (c4 f c l (.slice a n cap)) 53))
  go_enter Tryd.func36, Tryd.ntmps36
  go_wp2_with fail
  refine (c_szBits_no l a n cap left _ h0 h1 hn h).mono ?_
  rintro e w1 ⟨rfl, hb1⟩
  have B1 := Lib.hid (bst HB.out hb1 HB.out.size)
  clear hb1
  go_wp2
  go_ret
  exact ⟨rfl, B1.out⟩
set_option maxHeartbeats 800000 in
theorem c_eqSpan (f c l : Int) (va vb : Value) (zs : List Int) (w : World) (ha : IntsAt w va zs) (hb : IntsAt w vb zs) (hm : zs.length ≤ 1048576) : Calls Tryd.prog 38 #[sp f c l va, sp f c l vb] w fun e w' => e = .returned (.bool true) ∧ Below w.heap.size w w' := by
  have HB := Lib.hid (((Below.refl w.heap.size w).alloc (Nat.le_refl _) (.cells (c4 f c l va) 27)).alloc (by simp) (.cells (c4 f c l vb) 27))
  have va' := Lib.hid (ha.below HB.out)
  have vb' := Lib.hid (hb.below HB.out)
  clear ha hb
  go_enter Tryd.func38, Tryd.ntmps38
  go_wp2_with fail
  refine (c_eqBits l va vb zs _ va'.out vb'.out hm).mono ?_
  rintro e w1 ⟨rfl, hb1⟩
  have B1 := Lib.hid (bst HB.out hb1 HB.out.size)
  clear hb1
  go_wp2
  go_ret
  exact ⟨rfl, B1.out⟩

set_option maxHeartbeats 800000 in
theorem c_markSpan (f c l : Int) (v : Value) (zs : List Int) (B : Nat) (k : Int) (w : World) (ho : Own w B v zs) (h0 : 0 ≤ k) (hm : k + zs.length ≤ 9223372036854775806) : Calls Tryd.prog 39 #[sp f c l v, .int .i64 k] w fun e w' => e = .returned (.int .i64 (k + zs.length)) ∧ Own w' B v (upFrom k zs.length) ∧ w.grownBy w' v.ownBlock := by
  have ho' := Lib.hid (ho.below ((Below.refl w.heap.size w).alloc (Nat.le_refl _) (.cells (c4 f c l v) 27)))
  have HG : Hid (w.grownBy (w.alloc (.cells (c4 f c l v) 27)) v.ownBlock) := ⟨rfl, rfl, rfl, by simp, fun i hi _ => Below.heap_alloc _ _ i hi⟩
  clear ho
  go_enter Tryd.func39, Tryd.ntmps39
  go_wp2_with fail
  refine (c_markBits l v zs B k _ ho'.out h0 hm).mono ?_
  rintro e w1 ⟨rfl, ho1, hg1⟩
  have HO := Lib.hid ho1; have HG1 := Lib.hid hg1
  clear ho1 hg1
  go_wp2
  go_ret
  exact ⟨rfl, HO.out, grownBy_trans HG.out HG1.out⟩

set_option maxHeartbeats 800000 in
theorem c_heldSpan (f c l : Int) (v : Value) (n : Nat) (k : Int) (w : World) (hA : IntsAt w v (upFrom k n)) (h0 : 0 ≤ k) (hm : k + n ≤ 9223372036854775806) : Calls Tryd.prog 40 #[sp f c l v, .int .i64 k] w fun e w' => e = .returned (.int .i64 (k + n)) ∧ Below w.heap.size w w' := by
  have HB := Lib.hid ((Below.refl w.heap.size w).alloc (Nat.le_refl _) (.cells (c4 f c l v) 27))
  have hA' := Lib.hid (hA.below HB.out)
  have hk : ¬ k + (n : Int) < 0 := by omega
  clear hA
  go_enter Tryd.func40, Tryd.ntmps40
  go_wp2_with fail
  refine (c_heldBits l v n k _ hA'.out h0 hm).mono ?_
  rintro e w1 ⟨rfl, hb1⟩
  have B1 := Lib.hid (bst HB.out hb1 HB.out.size)
  clear hb1
  go_wp2
  go_ret
  exact ⟨rfl, B1.out⟩
set_option maxHeartbeats 800000 in
theorem c_toSpan (f c l : Int) (v : Value) (zs : List Int) (w : World) (hv : IntsAt w v zs) (hm : zs.length ≤ 1048576) : Calls Tryd.prog 37 #[sp f c l v] w fun e w' => ∃ v', e = .returned (sp f c l v') ∧ Own w' w.heap.size v' zs ∧ Below w.heap.size w w' := by
  have HB := Lib.hid ((((Below.refl w.heap.size w).alloc (Nat.le_refl _) (.cells (c4 f c l v) 53)).alloc (by simp) (.cells (c4 0 0 0 (.slice none 0 0)) 27)).alloc (by simp; omega) (.cells (c4 f c 0 (.slice none 0 0)) 27))
  have hv' := Lib.hid (hv.below HB.out)
  have s0 : RowS (((w.alloc (.cells (c4 f c l v) 53)).alloc (.cells (c4 0 0 0 (.slice none 0 0)) 27)).alloc (.cells (c4 f c 0 (.slice none 0 0)) 27)) (w.heap.size + 1) 0 0 0 (.slice none 0 0) := (Row.new1 w _ _ _).alloc _
  have t0 : RowS (((w.alloc (.cells (c4 f c l v) 53)).alloc (.cells (c4 0 0 0 (.slice none 0 0)) 27)).alloc (.cells (c4 f c 0 (.slice none 0 0)) 27)) (w.heap.size + 1 + 1) f c 0 (.slice none 0 0) := Row.new2 w _ _ _ _
  clear hv
  go_enter Tryd.func37, Tryd.ntmps37
  go_wp2_with fail
  refine (c_toBits l v zs _ hv'.out hm).mono ?_
  rintro e w1 ⟨v1, rfl, ho, hb1⟩
  have s1 := Row.below s0 hb1
  have t1 := Row.below t0 hb1
  have B1 := bst HB.out hb1 HB.out.size
  have hw : w.heap.size + 1 + 1 + 1 ≤ w1.heap.size := Row.lt t1
  obtain ⟨vg, vc, hvs, hvg⟩ := ho.shape
  have HG : Hid (∀ a, vg = some a → w.heap.size + 1 + 1 + 1 ≤ a.block) := fun a ha => by have := hvg a ha; simp at this; omega
  have HO : Hid (Own w1 w.heap.size v1 zs) := ho.mono (by simp; omega)
  have f1 := Row.frozen t1 2
  have f2 := Row.frozen t1 3
  have q1 := RowS.c2 t1
  have q2 := RowS.c3 t1
  clear s0 t0 hb1 ho hvg
  rw [hvs] at HO ⊢
  clear hvs
  generalize zs.length = n at *
  have s2 := Row.other (Row.other s1 ⟨w.heap.size + 1 + 1, 2, none⟩ (by simp) (.int .i64 l)) ⟨w.heap.size + 1 + 1, 3, none⟩ (by simp) (.slice vg n vc)
  have t2 : RowS ((w1.setCell ⟨w.heap.size + 1 + 1, 2, none⟩ (.int .i64 l)).setCell ⟨w.heap.size + 1 + 1, 3, none⟩ (.slice vg n vc)) (w.heap.size + 1 + 1) f c l (.slice vg n vc) := (Row.set (Row.set t1 2 _) 3 _).trans rfl
  have B2 := (B1.setCell (p := ⟨w.heap.size + 1 + 1, 2, none⟩) (by simp; omega) (.int .i64 l)).setCell (p := ⟨w.heap.size + 1 + 1, 3, none⟩) (by simp; omega) (.slice vg n vc)
  have O2 : Own ((w1.setCell ⟨w.heap.size + 1 + 1, 2, none⟩ (.int .i64 l)).setCell ⟨w.heap.size + 1 + 1, 3, none⟩ (.slice vg n vc)) w.heap.size (.slice vg n vc) zs := Own.set (Own.set HO.out (fun a ha => by have := HG.out a ha; simp; omega)) (fun a ha => by have := HG.out a ha; simp; omega)
  have S2 := Lib.hid s2; have T2 := Lib.hid t2; have L2 := Lib.hid B2; have W2 := Lib.hid O2
  clear s1 t1 B1 HO s2 t2 B2 O2
  go_wp2_with (first
    | (refine wl_loadS rfl _ rfl (w.heap.size + 1 + 1) f c l (.slice vg n vc) T2.out rfl ?_)
    | (refine wl_storeS rfl _ _ rfl (w.heap.size + 1) f c l (.slice vg n vc) _ _ _ _ S2.out rfl rfl rfl ?_))
  refine bodyPost_ret (res_row Tryd.results37 (Row.put S2.out (c4 f c l (.slice vg n vc))) rfl Tryd.underlying27 rfl info_span) rfl ⟨_, rfl, ?_, below_setRow L2.out (by omega) _⟩
  exact Own.setRow' W2.out (fun a ha => by have := HG.out a ha; omega)
end Go.Proofs.YtcelebblcjhpaaaDoor
