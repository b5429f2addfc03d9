/- The project's layouts and states of spans. -/
import Derived.Test.YtcelebblcjhpaaaDoorSw1
import Derived.Test.YtcelebblcjhpaaaDoorCtr3
import Derived.IntWalk
import Derived.Deep.RegionWith
namespace Go.Proofs.YtcelebblcjhpaaaDoor
open Go.RowKit Pb

/-- A layout by value, a state by value. -/
abbrev ly (f c z n : Int) : Value := .agg #[.int .i64 f, .int .i64 c, .int .i64 z, .int .i64 n]
abbrev cl (f c z n : Int) : Array Value := #[.int .i64 f, .int .i64 c, .int .i64 z, .int .i64 n]
abbrev st (f c z n : Int) (F : Nat → Int) : Value := .agg #[.int .i64 f, .int .i64 c, .int .i64 z, .int .i64 n, .int .u16 (F 0), .int .u16 (F 1), .int .u16 (F 2), .int .u16 (F 3), .int .u16 (F 4), .int .u16 (F 5)]
abbrev c10 (f c z n : Int) (F : Nat → Int) : Array Value := #[.int .i64 f, .int .i64 c, .int .i64 z, .int .i64 n, .int .u16 (F 0), .int .u16 (F 1), .int .u16 (F 2), .int .u16 (F 3), .int .u16 (F 4), .int .u16 (F 5)]
def RowL (w : World) (g : Nat) (f c z n : Int) : Prop := Row w g 66 (cl f c z n)
def RowT (w : World) (g : Nat) (f c z n : Int) (F : Nat → Int) : Prop := Row w g 71 (c10 f c z n F)
theorem info_lay : (Tryd.prog.info? 66).map (·.size) = some 4 := by kernel_rfl
theorem info_state : (Tryd.prog.info? 71).map (·.size) = some 10 := by kernel_rfl
theorem wl_loadL {ops : Array Oper} {rest : List Oper} {o : Oper} {a : Act} {w : World} {Q : Exit → Act → World → Prop} (hgd : o.guard = none) (x : Operand) (ho : o.op = .load 66 x) (g : Nat) (f c z n : Int) (hg : RowL w g f c z n)
    (hx : a.eval x = .pointer (some ⟨g, 0, none⟩)) (h : wpList Tryd.prog ops Q rest (a.put o.dst (ly f c z n)) w) : wpList Tryd.prog ops Q (o :: rest) a w :=
  wpList_load_row hgd 66 x ho g hx 66 (cl f c z n) (0, 0) _ hg Tryd.underlying66 rfl info_lay h
theorem wl_storeL {ops : Array Oper} {rest : List Oper} {o : Oper} {a : Act} {w : World} {Q : Exit → Act → World → Prop} (hgd : o.guard = none) (x y : Operand) (ho : o.op = .store 66 x y) (g : Nat) (f c z n f0 c0 z0 n0 : Int) (hg : RowL w g f0 c0 z0 n0)
    (hx : a.eval x = .pointer (some ⟨g, 0, none⟩)) (hy : a.eval y = ly f c z n) (h : wpList Tryd.prog ops Q rest (a.put o.dst undef) (w.setRow g (cl f c z n))) : wpList Tryd.prog ops Q (o :: rest) a w :=
  wpList_store_row hgd 66 x y ho g (cl f c z n) hx hy 66 (cl f0 c0 z0 n0) hg info_lay rfl (by simp [Value.oneCell']) h
theorem wl_loadT {ops : Array Oper} {rest : List Oper} {o : Oper} {a : Act} {w : World} {Q : Exit → Act → World → Prop} (hgd : o.guard = none) (x : Operand) (ho : o.op = .load 71 x) (g : Nat) (f c z n : Int) (F : Nat → Int) (hg : RowT w g f c z n F)
    (hx : a.eval x = .pointer (some ⟨g, 0, none⟩)) (h : wpList Tryd.prog ops Q rest (a.put o.dst (st f c z n F)) w) : wpList Tryd.prog ops Q (o :: rest) a w :=
  wpList_load_row hgd 71 x ho g hx 71 (c10 f c z n F) (0, 0) _ hg Tryd.underlying71 rfl info_state h
theorem wl_storeT {ops : Array Oper} {rest : List Oper} {o : Oper} {a : Act} {w : World} {Q : Exit → Act → World → Prop} (hgd : o.guard = none) (x y : Operand) (ho : o.op = .store 71 x y) (g : Nat) (f c z n : Int) (F : Nat → Int) (f0 c0 z0 n0 : Int) (F0 : Nat → Int) (hg : RowT w g f0 c0 z0 n0 F0)
    (hx : a.eval x = .pointer (some ⟨g, 0, none⟩)) (hy : a.eval y = st f c z n F) (h : wpList Tryd.prog ops Q rest (a.put o.dst undef) (w.setRow g (c10 f c z n F))) : wpList Tryd.prog ops Q (o :: rest) a w :=
  wpList_store_row hgd 71 x y ho g (c10 f c z n F) hx hy 71 (c10 f0 c0 z0 n0 F0) hg info_state rfl (by simp [Value.oneCell']) h
theorem RowT.cw {w : World} {g : Nat} {f c z n : Int} {F : Nat → Int} (h : RowT w g f c z n F) {k : Nat} (hk : k < 6) : w.cell? ⟨g, 4 + k, none⟩ = some (.int .u16 (F k)) := by
  rw [Row.cell h (4 + k)]
  match k, hk with
  | 0, _ => rfl
  | 1, _ => rfl
  | 2, _ => rfl
  | 3, _ => rfl
  | 4, _ => rfl
  | 5, _ => rfl
/-- The words of a state in a block; its layout. -/
theorem wl_loadTW {ops : Array Oper} {rest : List Oper} {o : Oper} {a : Act} {w : World} {Q : Exit → Act → World → Prop} (hgd : o.guard = none) (x : Operand) (ho : o.op = .load 69 x) (g : Nat) (f c z n : Int) (F : Nat → Int) (hg : RowT w g f c z n F)
    (hx : a.eval x = .pointer (some ⟨g, 4, none⟩)) (h : wpList Tryd.prog ops Q rest (a.put o.dst (a6 F)) w) : wpList Tryd.prog ops Q (o :: rest) a w :=
  wl_loadAt hgd 69 x ho g 4 hx 71 (c10 f c z n F) hg [.int .u16 (F 0), .int .u16 (F 1), .int .u16 (F 2), .int .u16 (F 3), .int .u16 (F 4), .int .u16 (F 5)] _ (fun j v hv => by
    match j, hv with
    | 0, hv => exact hv
    | 1, hv => exact hv
    | 2, hv => exact hv
    | 3, hv => exact hv
    | 4, hv => exact hv
    | 5, hv => exact hv) Tryd.underlying69 rfl info_bw h
theorem wl_loadTL {ops : Array Oper} {rest : List Oper} {o : Oper} {a : Act} {w : World} {Q : Exit → Act → World → Prop} (hgd : o.guard = none) (x : Operand) (ho : o.op = .load 66 x) (g : Nat) (f c z n : Int) (F : Nat → Int) (hg : RowT w g f c z n F)
    (hx : a.eval x = .pointer (some ⟨g, 0, none⟩)) (h : wpList Tryd.prog ops Q rest (a.put o.dst (ly f c z n)) w) : wpList Tryd.prog ops Q (o :: rest) a w :=
  wl_loadAt hgd 66 x ho g 0 hx 71 (c10 f c z n F) hg [.int .i64 f, .int .i64 c, .int .i64 z, .int .i64 n] _ (fun j v hv => by
    match j, hv with
    | 0, hv => exact hv
    | 1, hv => exact hv
    | 2, hv => exact hv
    | 3, hv => exact hv) Tryd.underlying66 rfl info_lay h

theorem pageRun_in (f p : Int) (w : World) (h0 : 1 ≤ p) (h1 : p ≤ 8) (h : 0 ≤ f ∧ f ≤ 32 - p) : Calls Tryd.prog 101 #[.agg #[.int .i64 f, .int .i64 p]] w fun e w' => e = .returned (.bool true) ∧ Below w.heap.size w w' := by
  obtain ⟨h2, h3⟩ := h
  go_enter Tryd.func101, Tryd.ntmps101
  go_wp2
  go_ret
  exact ⟨rfl, (Below.refl _ _).alloc (Nat.le_refl _) _⟩
theorem pageRun_out (f p : Int) (w : World) (h0 : 1 ≤ p) (h1 : p ≤ 8) (h : ¬ (0 ≤ f ∧ f ≤ 32 - p)) : Calls Tryd.prog 101 #[.agg #[.int .i64 f, .int .i64 p]] w fun e w' => e = .returned (.bool false) ∧ Below w.heap.size w w' := by
  by_cases h2 : 0 ≤ f
  · have h3 : ¬ f ≤ 32 - p := fun h3 => h ⟨h2, h3⟩
    clear h
    go_enter Tryd.func101, Tryd.ntmps101
    go_wp2
    go_ret
    exact ⟨rfl, (Below.refl _ _).alloc (Nat.le_refl _) _⟩
  · clear h
    go_enter Tryd.func101, Tryd.ntmps101
    go_wp2
    go_ret
    exact ⟨rfl, (Below.refl _ _).alloc (Nat.le_refl _) _⟩
set_option maxHeartbeats 800000 in
theorem c_layoutOf_yes (f c : Int) (w : World) (hT : TabW w) (hc : Pl.isCl c = true) (hf : 0 ≤ f ∧ f ≤ 32 - Pl.pgOf c) : Calls Tryd.prog 73 #[.int .i64 f, .int .i64 c] w fun e w' => e = .returned (.tuple #[ly f c (Pl.szOf c) (Pl.slOf c), .bool true]) ∧ Below w.heap.size w w' := by
  have HB := Lib.hid ((Below.refl w.heap.size w).alloc (Nat.le_refl _) (.cells (cl 0 0 0 0) 66))
  have r0 : RowL (w.alloc (.cells (cl 0 0 0 0) 66)) w.heap.size 0 0 0 0 := Row.new w _ _
  have hT1 := hT.below HB.out hT.pos
  have hpos := hT1.pos
  obtain ⟨p0, p1⟩ := pg_bd hc
  obtain ⟨b3, b4⟩ := Pl.isCl_iff.1 hc
  generalize hpg : Pl.pgOf c = pg at *
  have HPG := Lib.hid hpg; clear hpg
  generalize hz : Pl.szOf c = z
  have HZ := Lib.hid hz; clear hz
  generalize hn : Pl.slOf c = n
  have HN := Lib.hid hn; clear hn
  go_enter Tryd.func73, Tryd.ntmps73
  go_wp2_with fail
  refine (c_implPagesFor c _ hT1).mono ?_
  rintro e w1 ⟨rfl, rfl⟩
  rw [HPG.out, hc]
  go_wp2_with fail
  refine (pageRun_in f pg _ p0 p1 hf).mono ?_
  rintro e w1 ⟨rfl, hb1⟩
  have B1 := Lib.hid (bst HB.out hb1 HB.out.size)
  have r1 := Row.below r0 hb1
  have hT2 := hT1.below hb1 hpos
  clear r0 hb1 hT1
  go_wp2_with fail
  refine (c_implSlotsIn c _ hT2).mono ?_
  rintro e w2 ⟨rfl, rfl⟩
  rw [hc, HN.out]
  have q : w1.cell? ⟨0, c.toNat, none⟩ = some (.int .i64 z) := by rw [← HZ.out]; exact hT2 c.toNat (by omega)
  clear hT hT2 hpos
  go_wp2_with (refine wl_storeL rfl _ _ rfl w.heap.size f c z n _ _ _ _ r1 rfl rfl ?_)
  exact bodyPost_ret (res_row_slot Tryd.results73 (Row.put r1 (cl f c z n)) rfl rfl Tryd.underlying66 rfl info_lay) rfl ⟨rfl, below_setRow B1.out (Nat.le_refl _) _⟩
set_option maxHeartbeats 800000 in
theorem c_layoutOf_no (f c : Int) (w : World) (hT : TabW w) (hN : ¬ (Pl.isCl c = true ∧ 0 ≤ f ∧ f ≤ 32 - Pl.pgOf c)) : Calls Tryd.prog 73 #[.int .i64 f, .int .i64 c] w fun e w' => e = .returned (.tuple #[ly 0 0 0 0, .bool false]) ∧ Below w.heap.size w w' := by
  have HB := Lib.hid ((Below.refl w.heap.size w).alloc (Nat.le_refl _) (.cells (cl 0 0 0 0) 66))
  have r0 : RowL (w.alloc (.cells (cl 0 0 0 0) 66)) w.heap.size 0 0 0 0 := Row.new w _ _
  have hT1 := hT.below HB.out hT.pos
  have hpos := hT1.pos
  cases hc : Pl.isCl c with
  | false =>
    obtain ⟨e1, _, _⟩ := Pl.cl_no hc
    clear hN
    go_enter Tryd.func73, Tryd.ntmps73
    go_wp2_with fail
    refine (c_implPagesFor c _ hT1).mono ?_
    rintro e w1 ⟨rfl, rfl⟩
    rw [e1, hc]
    clear e1 hT1 hpos hT
    go_wp2_with (refine wl_storeL rfl _ _ rfl w.heap.size 0 0 0 0 _ _ _ _ r0 rfl rfl ?_)
    exact bodyPost_ret (res_row_slot Tryd.results73 (Row.put r0 (cl 0 0 0 0)) rfl rfl Tryd.underlying66 rfl info_lay) rfl ⟨rfl, below_setRow HB.out (Nat.le_refl _) _⟩
  | true =>
    have hf : ¬ (0 ≤ f ∧ f ≤ 32 - Pl.pgOf c) := fun h => hN ⟨hc, h⟩
    clear hN
    obtain ⟨p0, p1⟩ := pg_bd hc
    generalize hpg : Pl.pgOf c = pg at *
    have HPG := Lib.hid hpg; clear hpg
    have HF := Lib.hid hf; clear hf
    go_enter Tryd.func73, Tryd.ntmps73
    go_wp2_with fail
    refine (c_implPagesFor c _ hT1).mono ?_
    rintro e w1 ⟨rfl, rfl⟩
    rw [HPG.out, hc]
    go_wp2_with fail
    refine (pageRun_out f pg _ p0 p1 HF.out).mono ?_
    rintro e w1 ⟨rfl, hb1⟩
    have B1 := Lib.hid (bst HB.out hb1 HB.out.size)
    have r1 := Row.below r0 hb1
    clear r0 hb1 hT1 hpos hT
    go_wp2_with (refine wl_storeL rfl _ _ rfl w.heap.size 0 0 0 0 _ _ _ _ r1 rfl rfl ?_)
    exact bodyPost_ret (res_row_slot Tryd.results73 (Row.put r1 (cl 0 0 0 0)) rfl rfl Tryd.underlying66 rfl info_lay) rfl ⟨rfl, below_setRow B1.out (Nat.le_refl _) _⟩
set_option maxHeartbeats 800000 in
theorem c_hasSlot_in (f c z n s : Int) (w : World) (h1 : 0 ≤ s) (h2 : s < n) : Calls Tryd.prog 62 #[ly f c z n, .int .i64 s] w fun e w' => e = .returned (.bool true) ∧ Below w.heap.size w w' := by
  go_enter Tryd.func62, Tryd.ntmps62
  go_wp2
  go_ret
  exact ⟨rfl, (Below.refl _ _).alloc (Nat.le_refl _) _⟩
set_option maxHeartbeats 800000 in
theorem c_hasSlot_out (f c z n s : Int) (w : World) (h : ¬ (0 ≤ s ∧ s < n)) : Calls Tryd.prog 62 #[ly f c z n, .int .i64 s] w fun e w' => e = .returned (.bool false) ∧ Below w.heap.size w w' := by
  by_cases h1 : 0 ≤ s
  · have h2 : ¬ s < n := fun h2 => h ⟨h1, h2⟩
    clear h
    go_enter Tryd.func62, Tryd.ntmps62
    go_wp2
    go_ret
    exact ⟨rfl, (Below.refl _ _).alloc (Nat.le_refl _) _⟩
  · clear h
    go_enter Tryd.func62, Tryd.ntmps62
    go_wp2
    go_ret
    exact ⟨rfl, (Below.refl _ _).alloc (Nat.le_refl _) _⟩
theorem c_firstWord (f c z n : Int) (w : World) (h0 : 0 ≤ f) (h1 : f ≤ 31) : Calls Tryd.prog 63 #[ly f c z n] w fun e w' => e = .returned (.int .i64 (f * 64)) ∧ Below w.heap.size w w' := by
  go_enter Tryd.func63, Tryd.ntmps63
  go_wp2
  go_ret
  exact ⟨rfl, (Below.refl _ _).alloc (Nat.le_refl _) _⟩

set_option maxHeartbeats 800000 in
theorem c_allSlots (f c z n : Int) (w : World) (h0 : 0 ≤ n) (h1 : n ≤ 96) : Calls Tryd.prog 47 #[ly f c z n] w fun e w' => e = .returned (a6 fun k => lowW (n - k * 16)) ∧ Below w.heap.size w w' := by
  have HB := Lib.hid (((Below.refl w.heap.size w).alloc (Nat.le_refl _) (.cells (cl f c z n) 66)).alloc (by simp) (.cells (c6 fun _ => 0) 69))
  have r0 := Row.new1 w (.cells (cl f c z n) 66) 69 (c6 fun _ => 0)
  go_enter Tryd.func47, Tryd.ntmps47
  go_wp2_with fail
  refine (c_firstBits n _ (by omega) (by omega)).mono ?_
  rintro e w1 ⟨rfl, hb1⟩
  have r1 := r0.below hb1
  have B1 := Lib.hid (bst HB.out hb1 HB.out.size)
  clear r0 hb1
  go_wp2_with (refine wl_store6 rfl _ _ rfl (w.heap.size + 1) (fun k => lowW (n - k * 16)) (fun _ => 0) r1 rfl rfl ?_)
  exact bodyPost_ret (res_row Tryd.results47 (Row.put r1 (c6 fun k => lowW (n - k * 16))) rfl Tryd.underlying69 rfl info_bw) rfl ⟨rfl, below_setRow B1.out (by omega) _⟩
set_option maxHeartbeats 800000 in
theorem c_slotBit (s : Int) (w : World) (h0 : 0 ≤ s) (h1 : s ≤ 96) : Calls Tryd.prog 51 #[.int .i64 s] w fun e w' => e = .returned (a6 (runW s (s + 1))) ∧ Below w.heap.size w w' := by
  have HB := Lib.hid ((Below.refl w.heap.size w).alloc (Nat.le_refl _) (.cells (c6 fun _ => 0) 69))
  have r0 := Row.new w 69 (c6 fun _ => 0)
  have i1 : IntKind.i64.wrap (s + 1) = s + 1 := IntWalk.i64_in _ (by omega)
  go_enter Tryd.func51, Tryd.ntmps51
  go_wp2_with fail
  refine (c_runBits s (s + 1) _ (by omega) (by omega) (by omega) (by omega)).mono ?_
  rintro e w1 ⟨rfl, hb1⟩
  have r1 := r0.below hb1
  have B1 := Lib.hid (bst HB.out hb1 HB.out.size)
  clear r0 hb1
  go_wp2_with (refine wl_store6 rfl _ _ rfl w.heap.size (runW s (s + 1)) (fun _ => 0) r1 rfl rfl ?_)
  exact bodyPost_ret (res_row Tryd.results51 (Row.put r1 (c6 (runW s (s + 1)))) rfl Tryd.underlying69 rfl info_bw) rfl ⟨rfl, below_setRow B1.out (Nat.le_refl _) _⟩
end Go.Proofs.YtcelebblcjhpaaaDoor
