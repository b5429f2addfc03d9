/- Contracts of the six-word arrays of chapter 2: lengths, masks, word by word. -/
import Derived.Test.YtcelebblcjhpaaaDoorInts
import Derived.Test.YtcelebblcjhpaaaDoorPb
import Derived.WalkKit
import Derived.WalkSpells
import Derived.WalkLawsBesides
import Derived.Lib.Hide
import Derived.Deep.RegionHeld3
import Derived.RegionTactic
namespace Go.Proofs.YtcelebblcjhpaaaDoor
open Go.RowKit Pb

/-- Six words by value. -/
abbrev a6 (f : Nat → Int) : Value := .agg #[.int .u16 (f 0), .int .u16 (f 1), .int .u16 (f 2), .int .u16 (f 3), .int .u16 (f 4), .int .u16 (f 5)]
abbrev c6 (f : Nat → Int) : Array Value := #[.int .u16 (f 0), .int .u16 (f 1), .int .u16 (f 2), .int .u16 (f 3), .int .u16 (f 4), .int .u16 (f 5)]

set_option maxHeartbeats 400000 in
theorem c_isBitLength (n : Int) (w : World) : Calls Tryd.prog 104 #[.int .i64 n] w fun e w' => e = .returned (.bool (decide (0 ≤ n) && decide (n ≤ 96))) ∧ w = w' := by
  by_cases h1 : 0 ≤ n
  all_goals
    go_enter Tryd.func104, Tryd.ntmps104
    go_wp2
    go_ret
    exact ⟨r_b (by first | (rw [decide_eq_true (show 0 ≤ n by omega)]; rfl) | (rw [decide_eq_false (show ¬ 0 ≤ n by omega)]; rfl)), rfl⟩
theorem c_wordCount (n : Int) (w : World) (h0 : 0 ≤ n) (h1 : n ≤ 1000) : Calls Tryd.prog 105 #[.int .i64 n] w fun e w' => e = .returned (.int .i64 ((n + 15) / 16)) ∧ w = w' := by
  go_enter Tryd.func105, Tryd.ntmps105
  go_wp2
  go_ret
  exact ⟨r_i (by congr 1; omega), rfl⟩
theorem r_u16 {a a' : Int} (h : a = a') : Ending.returned (.int .u16 a) = .returned (.int .u16 a') := by rw [h]
theorem c_lowBits (n : Int) (w : World) : Calls Tryd.prog 109 #[.int .i64 n] w fun e w' => e = .returned (.int .u16 (lowW n)) ∧ w = w' := by
  by_cases h1 : n ≤ 0
  · go_enter Tryd.func109, Tryd.ntmps109
    go_wp2
    go_ret
    exact ⟨by simp [lowW, h1], rfl⟩
  · by_cases h2 : 16 ≤ n
    · go_enter Tryd.func109, Tryd.ntmps109
      go_wp2
      go_ret
      exact ⟨by simp [lowW, h1, h2], rfl⟩
    · have h3 : ¬ n < 0 := by omega
      go_enter Tryd.func109, Tryd.ntmps109
      go_wp2
      go_ret
      exact ⟨r_u16 (by
        rw [lowW, if_neg (by omega), if_neg (by omega)]
        have hp : (2 : Int) ^ n.toNat ≤ 2 ^ 15 := by
          have := Nat.pow_le_pow_right (n := 2) (by omega) (show n.toNat ≤ 15 by omega)
          exact_mod_cast this
        have hq : (1 : Int) ≤ 2 ^ n.toNat := by
          have := Nat.one_le_two_pow (n := n.toNat)
          exact_mod_cast this
        generalize (2 : Int) ^ n.toNat = p at *
        simp only [IntKind.wrap, IntKind.bits, IntKind.signed]
        simp
        omega), rfl⟩



/-- The block g, of type T, holds the cells cs. -/
def Row (w : World) (g : Nat) (T : TypeId) (cs : Array Value) : Prop := w.heap[g]? = some (.cells cs T (0, 0))
theorem Row.cell {w : World} {g : Nat} {T : TypeId} {cs : Array Value} (h : Row w g T cs) (k : Nat) : w.cell? ⟨g, k, none⟩ = cs[k]? := cell_of_row w g k _ _ _ h
theorem Row.frozen {w : World} {g : Nat} {T : TypeId} {cs : Array Value} (h : Row w g T cs) (k : Nat) : w.frozen? ⟨g, k, none⟩ = false := frozen_of_row w g k _ _ h
theorem Row.lt {w : World} {g : Nat} {T : TypeId} {cs : Array Value} (h : Row w g T cs) : g < w.heap.size := by
  by_cases e : g < w.heap.size
  · exact e
  · have hn : w.heap[g]? = none := by simp; omega
    rw [Row, hn] at h; cases h
theorem Row.below {w w' : World} {g : Nat} {T : TypeId} {cs : Array Value} (h : Row w g T cs) (hb : Below w.heap.size w w') : Row w' g T cs := by
  unfold Row; rw [hb.block g h.lt]; exact h
theorem Row.below' {w w' : World} {B g : Nat} {T : TypeId} {cs : Array Value} (h : Row w g T cs) (hb : Below B w w') (hg : g < B) : Row w' g T cs := by
  unfold Row; rw [hb.block g hg]; exact h
theorem Row.alloc {w : World} {g : Nat} {T : TypeId} {cs : Array Value} (h : Row w g T cs) (o : Obj) : Row (w.alloc o) g T cs := by
  unfold Row; rw [Below.heap_alloc w o g h.lt]; exact h
theorem Row.new (w : World) (T : TypeId) (cs : Array Value) : Row (w.alloc (.cells cs T)) w.heap.size T cs := heap_alloc_new _ _
theorem Row.new1 (w : World) (o : Obj) (T : TypeId) (cs : Array Value) : Row ((w.alloc o).alloc (.cells cs T)) (w.heap.size + 1) T cs := by
  have := Row.new (w.alloc o) T cs; simpa using this
theorem Row.new2 (w : World) (o o' : Obj) (T : TypeId) (cs : Array Value) : Row (((w.alloc o).alloc o').alloc (.cells cs T)) (w.heap.size + 1 + 1) T cs := by
  have := Row.new ((w.alloc o).alloc o') T cs; simpa using this
theorem Row.new3 (w : World) (o o' o'' : Obj) (T : TypeId) (cs : Array Value) : Row ((((w.alloc o).alloc o').alloc o'').alloc (.cells cs T)) (w.heap.size + 1 + 1 + 1) T cs := by
  have := Row.new (((w.alloc o).alloc o').alloc o'') T cs; simpa using this
theorem Row.other {w : World} {g : Nat} {T : TypeId} {cs : Array Value} (h : Row w g T cs) (a : Addr) (ha : g ≠ a.block) (x : Value) : Row (w.setCell a x) g T cs := by
  unfold Row; rw [heap_setCell_other w a g _ ha]; exact h
theorem Row.set {w : World} {g : Nat} {T : TypeId} {cs : Array Value} (h : Row w g T cs) (k : Nat) (x : Value) : Row (w.setCell ⟨g, k, none⟩ x) g T (cs.setIfInBounds k x) := heap_setCell_same w g k _ _ _ h
theorem Row.put {w : World} {g : Nat} {T : TypeId} {cs : Array Value} (h : Row w g T cs) (ds : Array Value) : Row (w.setRow g ds) g T ds := setRow_heap w g cs ds T (0, 0) h
theorem Row.putOther {w : World} {g g' : Nat} {T : TypeId} {cs : Array Value} (h : Row w g T cs) (ds : Array Value) (hn : g ≠ g') : Row (w.setRow g' ds) g T cs := by
  unfold Row; rw [setRow_other w g' g ds hn]; exact h
theorem below_setRow {B g : Nat} {w0 w : World} (hb : Below B w0 w) (hBg : B ≤ g) (cs : Array Value) : Below B w0 (w.setRow g cs) :=
  ⟨hb.os, hb.tape, hb.output, by rw [size_setRow]; exact hb.size, fun i hi => (setRow_other w g i cs (by omega)).trans (hb.block i hi)⟩
theorem below_drew {B : Nat} {w0 w : World} (hb : Below B w0 w) : Below B w0 w.drew := hb.trans ⟨rfl, rfl, rfl, Nat.le_refl _, fun _ _ => rfl⟩
/-- The block g holds six words. -/
def Blk (w : World) (g : Nat) (f : Nat → Int) : Prop := Row w g 69 (c6 f)
theorem c6_get (f : Nat → Int) {k : Nat} (h : k < 6) : (c6 f)[k]? = some (.int .u16 (f k)) := by
  match k, h with
  | 0, _ => rfl
  | 1, _ => rfl
  | 2, _ => rfl
  | 3, _ => rfl
  | 4, _ => rfl
  | 5, _ => rfl
theorem Blk.at {w : World} {g : Nat} {f : Nat → Int} (h : Blk w g f) {k : Nat} (hk : k < 6) : w.cell? ⟨g, k, none⟩ = some (.int .u16 (f k)) := (Row.cell h k).trans (c6_get f hk)
def upd (f : Nat → Int) (k : Nat) (x : Int) : Nat → Int := fun j => if j = k then x else f j
theorem Blk.set {w : World} {g : Nat} {f : Nat → Int} (h : Blk w g f) {k : Nat} (hk : k < 6) (x : Int) : Blk (w.setCell ⟨g, k, none⟩ (.int .u16 x)) g (upd f k x) := by
  unfold Blk
  refine (Row.set h k (.int .u16 x)).trans ?_
  match k, hk with
  | 0, _ => rfl
  | 1, _ => rfl
  | 2, _ => rfl
  | 3, _ => rfl
  | 4, _ => rfl
  | 5, _ => rfl
theorem c6_congr {f f' : Nat → Int} (e : ∀ k, k < 6 → f k = f' k) : c6 f = c6 f' := by simp [e]
/-- What lies in an array of which the first k have been turned. -/
def part (F f : Nat → Int) (k : Nat) : Nat → Int := fun j => if j < k then F j else f j
theorem part_step (F f : Nat → Int) (k : Nat) : upd (part F f k) k (F k) = part F f (k + 1) := by
  funext j; unfold upd part
  by_cases e : j = k
  · subst e; simp
  · by_cases h : j < k
    · have : j < k + 1 := by omega
      simp [e, h, this]
    · have : ¬ j < k + 1 := by omega
      simp [e, h, this]
theorem part_at (F f : Nat → Int) (k : Nat) : part F f k k = f k := by simp [part]
theorem part_zero (F f : Nat → Int) : part F f 0 = f := by funext j; simp [part]
theorem part_six (F f : Nat → Int) : ∀ k, k < 6 → part F f 6 k = F k := fun k h => by simp [part, h]
theorem info_bw : (Tryd.prog.info? 69).map (·.size) = some 6 := by kernel_rfl


theorem wl_load6 {ops : Array Oper} {rest : List Oper} {o : Oper} {a : Act} {w : World} {Q : Exit → Act → World → Prop} (hgd : o.guard = none) (x : Operand) (ho : o.op = .load 69 x) (g : Nat) (f : Nat → Int) (hg : Blk w g f)
    (hx : a.eval x = .pointer (some ⟨g, 0, none⟩)) (h : wpList Tryd.prog ops Q rest (a.put o.dst (a6 f)) w) : wpList Tryd.prog ops Q (o :: rest) a w :=
  wpList_load_row hgd 69 x ho g hx 69 (c6 f) (0, 0) _ hg Tryd.underlying69 rfl info_bw h
theorem wl_store6 {ops : Array Oper} {rest : List Oper} {o : Oper} {a : Act} {w : World} {Q : Exit → Act → World → Prop} (hgd : o.guard = none) (x y : Operand) (ho : o.op = .store 69 x y) (g : Nat) (f old : Nat → Int) (hg : Blk w g old)
    (hx : a.eval x = .pointer (some ⟨g, 0, none⟩)) (hy : a.eval y = a6 f) (h : wpList Tryd.prog ops Q rest (a.put o.dst undef) (w.setRow g (c6 f))) : wpList Tryd.prog ops Q (o :: rest) a w :=
  wpList_store_row hgd 69 x y ho g (c6 f) hx hy 69 (c6 old) hg info_bw rfl (by simp [Value.oneCell']) h
theorem res_row {P : Program} {fn : Func} {p : Tmp} {ty : TypeId} (h : fn.results = #[.cell p ty]) {tmps : Array Value} {w : World} {g : Nat} {t : TypeId} {cs : Array Value} {d : TypeDesc} (hg : Row w g t cs)
    (hp : tmps.getD p undef = .pointer (some ⟨g, 0, none⟩)) (hu : P.underlying ty = some d) (hd : (match d with | .struct _ | .array _ _ => true | _ => false) = true) (hi : (P.info? ty).map (·.size) = some cs.size) :
    (results fn tmps).run P w = .ok (.agg cs) w := results_cell_row h tmps w g t cs (0, 0) d hp hg hu hd hi
theorem res_row_slot {P : Program} {fn : Func} {p q : Tmp} {ty : TypeId} (h : fn.results = #[.cell p ty, .tmp q]) {tmps : Array Value} {w : World} {g : Nat} {t : TypeId} {cs : Array Value} {d : TypeDesc} {v : Value} (hg : Row w g t cs)
    (hp : tmps.getD p undef = .pointer (some ⟨g, 0, none⟩)) (hq : tmps.getD q undef = v) (hu : P.underlying ty = some d) (hd : (match d with | .struct _ | .array _ _ => true | _ => false) = true) (hi : (P.info? ty).map (·.size) = some cs.size) :
    (results fn tmps).run P w = .ok (.tuple #[.agg cs, v]) w := by
  have hp' : tmps[p]?.getD undef = .pointer (some ⟨g, 0, none⟩) := by simpa using hp
  have hq' : tmps[q]?.getD undef = v := by simpa using hq
  simp [results, h, hp', hq', asAddr, run_loadVar_row w g t ty cs (0, 0) d hg hu hd hi]

set_option maxHeartbeats 800000 in
theorem c_without (f g : Nat → Int) (w : World) : Calls Tryd.prog 48 #[a6 f, a6 g] w fun e w' => e = .returned (a6 fun k => bits .andNot .u16 (f k) (g k)) ∧ Below w.heap.size w w' := by
  go_enter Tryd.func48, Tryd.ntmps48
  go_wp2
  go_loopw [6] (fun i wr => ∃ k : Nat, k ≤ 6 ∧ i = .int .i64 k ∧ Blk wr w.heap.size (part (fun k => bits .andNot .u16 (f k) (g k)) f k) ∧ Blk wr (w.heap.size + 1) g ∧ Blk wr (w.heap.size + 1 + 1) (fun _ => 0) ∧ Below w.heap.size w wr) (fun i _ => 6 - (intOf i).toNat)
  case atStart => exact ⟨0, by omega, rfl, by rw [part_zero]; exact ((Row.new w _ (c6 f)).alloc _).alloc _, (Row.new1 w _ _ (c6 g)).alloc _, Row.new2 w _ _ _ (c6 fun _ => 0), (((Below.refl _ _).alloc (Nat.le_refl _) _).alloc (by simp) _).alloc (by simp; omega) _⟩
  case round =>
    obtain ⟨k, hk, rfl, hb0, hb1, hb2, hb⟩ := hrel
    by_cases hlt : k < 6
    · have q0 := hb0.at hlt
      have q1 := hb1.at hlt
      have f0 := Row.frozen hb0 k
      rw [part_at] at q0
      have HB0 := Lib.hid ((hb0.set hlt (bits .andNot .u16 (f k) (g k))))
      have HB1 := Lib.hid (Row.other hb1 ⟨w.heap.size, k, none⟩ (by simp) (.int .u16 (bits .andNot .u16 (f k) (g k))))
      have HB2 := Lib.hid (Row.other hb2 ⟨w.heap.size, k, none⟩ (by simp; omega) (.int .u16 (bits .andNot .u16 (f k) (g k))))
      have HB := Lib.hid (hb.setCell (p := ⟨w.heap.size, k, none⟩) (Nat.le_refl _) (.int .u16 (bits .andNot .u16 (f k) (g k))))
      clear hb0 hb1 hb2 hb
      go_wp2
      go_region
      go_wp2
      go_roundw
      case rel => exact ⟨k + 1, by omega, by go_num, by rw [← part_step]; exact HB0.out, HB1.out, HB2.out, below_drew HB.out⟩
      case measure => simp [intOf]; omega
    · obtain rfl : k = 6 := by omega
      have e6 : c6 (part (fun k => bits .andNot .u16 (f k) (g k)) f 6) = c6 (fun k => bits .andNot .u16 (f k) (g k)) := c6_congr (part_six _ _)
      rw [Blk, e6] at hb0
      clear e6
      go_wp2_with (first
        | (refine wl_load6 rfl _ rfl w.heap.size _ hb0 rfl ?_)
        | (refine wl_store6 rfl _ _ rfl (w.heap.size + 1 + 1) (fun k => bits .andNot .u16 (f k) (g k)) _ hb2 rfl rfl ?_))
      exact bodyPost_ret (res_row Tryd.results48 (Row.put hb2 (c6 fun k => bits .andNot .u16 (f k) (g k))) rfl Tryd.underlying69 rfl info_bw) rfl ⟨rfl, below_setRow hb (by omega) _⟩

set_option maxHeartbeats 800000 in
theorem c_with (f g : Nat → Int) (w : World) : Calls Tryd.prog 50 #[a6 f, a6 g] w fun e w' => e = .returned (a6 fun k => bits .or .u16 (f k) (g k)) ∧ Below w.heap.size w w' := by
  go_enter Tryd.func50, Tryd.ntmps50
  go_wp2
  go_loopw [6] (fun i wr => ∃ k : Nat, k ≤ 6 ∧ i = .int .i64 k ∧ Blk wr w.heap.size (part (fun k => bits .or .u16 (f k) (g k)) f k) ∧ Blk wr (w.heap.size + 1) g ∧ Blk wr (w.heap.size + 1 + 1) (fun _ => 0) ∧ Below w.heap.size w wr) (fun i _ => 6 - (intOf i).toNat)
  case atStart => exact ⟨0, by omega, rfl, by rw [part_zero]; exact ((Row.new w _ (c6 f)).alloc _).alloc _, (Row.new1 w _ _ (c6 g)).alloc _, Row.new2 w _ _ _ (c6 fun _ => 0), (((Below.refl _ _).alloc (Nat.le_refl _) _).alloc (by simp) _).alloc (by simp; omega) _⟩
  case round =>
    obtain ⟨k, hk, rfl, hb0, hb1, hb2, hb⟩ := hrel
    by_cases hlt : k < 6
    · have q0 := hb0.at hlt
      have q1 := hb1.at hlt
      have f0 := Row.frozen hb0 k
      rw [part_at] at q0
      have HB0 := Lib.hid ((hb0.set hlt (bits .or .u16 (f k) (g k))))
      have HB1 := Lib.hid (Row.other hb1 ⟨w.heap.size, k, none⟩ (by simp) (.int .u16 (bits .or .u16 (f k) (g k))))
      have HB2 := Lib.hid (Row.other hb2 ⟨w.heap.size, k, none⟩ (by simp; omega) (.int .u16 (bits .or .u16 (f k) (g k))))
      have HB := Lib.hid (hb.setCell (p := ⟨w.heap.size, k, none⟩) (Nat.le_refl _) (.int .u16 (bits .or .u16 (f k) (g k))))
      clear hb0 hb1 hb2 hb
      go_wp2
      go_region
      go_wp2
      go_roundw
      case rel => exact ⟨k + 1, by omega, by go_num, by rw [← part_step]; exact HB0.out, HB1.out, HB2.out, below_drew HB.out⟩
      case measure => simp [intOf]; omega
    · obtain rfl : k = 6 := by omega
      have e6 : c6 (part (fun k => bits .or .u16 (f k) (g k)) f 6) = c6 (fun k => bits .or .u16 (f k) (g k)) := c6_congr (part_six _ _)
      rw [Blk, e6] at hb0
      clear e6
      go_wp2_with (first
        | (refine wl_load6 rfl _ rfl w.heap.size _ hb0 rfl ?_)
        | (refine wl_store6 rfl _ _ rfl (w.heap.size + 1 + 1) (fun k => bits .or .u16 (f k) (g k)) _ hb2 rfl rfl ?_))
      exact bodyPost_ret (res_row Tryd.results50 (Row.put hb2 (c6 fun k => bits .or .u16 (f k) (g k))) rfl Tryd.underlying69 rfl info_bw) rfl ⟨rfl, below_setRow hb (by omega) _⟩

set_option maxHeartbeats 800000 in
theorem c_both (f g : Nat → Int) (w : World) : Calls Tryd.prog 78 #[a6 f, a6 g] w fun e w' => e = .returned (a6 fun k => bits .and .u16 (f k) (g k)) ∧ Below w.heap.size w w' := by
  go_enter Tryd.func78, Tryd.ntmps78
  go_wp2
  go_loopw [6] (fun i wr => ∃ k : Nat, k ≤ 6 ∧ i = .int .i64 k ∧ Blk wr w.heap.size (part (fun k => bits .and .u16 (f k) (g k)) f k) ∧ Blk wr (w.heap.size + 1) g ∧ Blk wr (w.heap.size + 1 + 1) (fun _ => 0) ∧ Below w.heap.size w wr) (fun i _ => 6 - (intOf i).toNat)
  case atStart => exact ⟨0, by omega, rfl, by rw [part_zero]; exact ((Row.new w _ (c6 f)).alloc _).alloc _, (Row.new1 w _ _ (c6 g)).alloc _, Row.new2 w _ _ _ (c6 fun _ => 0), (((Below.refl _ _).alloc (Nat.le_refl _) _).alloc (by simp) _).alloc (by simp; omega) _⟩
  case round =>
    obtain ⟨k, hk, rfl, hb0, hb1, hb2, hb⟩ := hrel
    by_cases hlt : k < 6
    · have q0 := hb0.at hlt
      have q1 := hb1.at hlt
      have f0 := Row.frozen hb0 k
      rw [part_at] at q0
      have HB0 := Lib.hid ((hb0.set hlt (bits .and .u16 (f k) (g k))))
      have HB1 := Lib.hid (Row.other hb1 ⟨w.heap.size, k, none⟩ (by simp) (.int .u16 (bits .and .u16 (f k) (g k))))
      have HB2 := Lib.hid (Row.other hb2 ⟨w.heap.size, k, none⟩ (by simp; omega) (.int .u16 (bits .and .u16 (f k) (g k))))
      have HB := Lib.hid (hb.setCell (p := ⟨w.heap.size, k, none⟩) (Nat.le_refl _) (.int .u16 (bits .and .u16 (f k) (g k))))
      clear hb0 hb1 hb2 hb
      go_wp2
      go_region
      go_wp2
      go_roundw
      case rel => exact ⟨k + 1, by omega, by go_num, by rw [← part_step]; exact HB0.out, HB1.out, HB2.out, below_drew HB.out⟩
      case measure => simp [intOf]; omega
    · obtain rfl : k = 6 := by omega
      have e6 : c6 (part (fun k => bits .and .u16 (f k) (g k)) f 6) = c6 (fun k => bits .and .u16 (f k) (g k)) := c6_congr (part_six _ _)
      rw [Blk, e6] at hb0
      clear e6
      go_wp2_with (first
        | (refine wl_load6 rfl _ rfl w.heap.size _ hb0 rfl ?_)
        | (refine wl_store6 rfl _ _ rfl (w.heap.size + 1 + 1) (fun k => bits .and .u16 (f k) (g k)) _ hb2 rfl rfl ?_))
      exact bodyPost_ret (res_row Tryd.results78 (Row.put hb2 (c6 fun k => bits .and .u16 (f k) (g k))) rfl Tryd.underlying69 rfl info_bw) rfl ⟨rfl, below_setRow hb (by omega) _⟩
end Go.Proofs.YtcelebblcjhpaaaDoor
