/- Contracts of the laws' own helpers over bitmaps. -/
import Derived.Test.YtcelebblcjhpaaaDoorBw3
namespace Go.Proofs.YtcelebblcjhpaaaDoor
open Go.RowKit Pb

theorem bst {B : Nat} {w w1 w2 : World} (h : Below B w w1) (k : Below w1.heap.size w1 w2) (hB : B ≤ w1.heap.size) : Below B w w2 := h.trans (k.mono hB)
theorem c_szIntS_yes (a : Option Addr) (n c : Nat) (left : Int) (w : World) (h1 : left ≤ 1048576) (h : (n : Int) ≤ left) : Calls Tryd.prog 83 #[.slice a n c, .int .i64 left] w fun e w' => e = .returned (.int .i64 (left - n)) ∧ w = w' := by
  have h2 : ¬ left - (n : Int) < 0 := by omega
  go_enter Tryd.func83, Tryd.ntmps83
  go_wp2
  go_ret
  exact ⟨rfl, rfl⟩
theorem c_szIntS_no (a : Option Addr) (n c : Nat) (left : Int) (w : World) (h0 : 0 ≤ left) (h1 : left ≤ 1048576) (hn : n ≤ 9223372036854775807) (h : left < (n : Int)) : Calls Tryd.prog 83 #[.slice a n c, .int .i64 left] w fun e w' => e = .returned (.int .i64 (-1)) ∧ w = w' := by
  have h2 : left - (n : Int) < 0 := by omega
  go_enter Tryd.func83, Tryd.ntmps83
  go_wp2
  go_ret
  exact ⟨rfl, rfl⟩
theorem c_szBits_yes (long : Int) (a : Option Addr) (n c : Nat) (left : Int) (w : World) (h1 : left ≤ 1048576) (h : (n : Int) ≤ left) : Calls Tryd.prog 41 #[bm long (.slice a n c), .int .i64 left] w fun e w' => e = .returned (.int .i64 (left - n)) ∧ Below w.heap.size w w' := by
  have h2 : ¬ left - (n : Int) < 0 := by omega
  go_enter Tryd.func41, Tryd.ntmps41
  go_wp2_with fail
  refine (c_szIntS_yes a n c left _ h1 h).mono ?_
  rintro e w1 ⟨rfl, rfl⟩
  go_wp2
  go_ret
  exact ⟨rfl, (Below.refl _ _).alloc (Nat.le_refl _) _⟩
theorem c_szBits_no (long : Int) (a : Option Addr) (n c : Nat) (left : Int) (w : World) (h0 : 0 ≤ left) (h1 : left ≤ 1048576) (hn : n ≤ 9223372036854775807) (h : left < (n : Int)) : Calls Tryd.prog 41 #[bm long (.slice a n c), .int .i64 left] w fun e w' => e = .returned (.int .i64 (-1)) ∧ Below w.heap.size w w' := by
  go_enter Tryd.func41, Tryd.ntmps41
  go_wp2_with fail
  refine (c_szIntS_no a n c left _ h0 h1 hn h).mono ?_
  rintro e w1 ⟨rfl, rfl⟩
  go_wp2
  go_ret
  exact ⟨rfl, (Below.refl _ _).alloc (Nat.le_refl _) _⟩
set_option maxHeartbeats 800000 in
theorem c_eqBits (long : Int) (va vb : Value) (zs : List Int) (w : World) (ha : IntsAt w va zs) (hb : IntsAt w vb zs) (hm : zs.length ≤ 1048576) : Calls Tryd.prog 43 #[bm long va, bm long vb] w fun e w' => e = .returned (.bool true) ∧ Below w.heap.size w w' := by
  have HB := Lib.hid (((Below.refl w.heap.size w).alloc (Nat.le_refl _) (.cells (cb long va) 25)).alloc (by simp) (.cells (cb long vb) 25))
  have va' := Lib.hid (ha.below HB.out)
  have vb' := Lib.hid (hb.below HB.out)
  clear ha hb
  go_enter Tryd.func43, Tryd.ntmps43
  go_wp2_with fail
  refine (c_eqIntS va vb zs zs _ va'.out vb'.out (by omega)).mono ?_
  rintro e w1 ⟨rfl, nn, rfl⟩
  rw [decide_eq_true (rfl : zs = zs)]
  go_wp2
  go_ret
  exact ⟨rfl, below_drewN HB.out _⟩
set_option maxHeartbeats 800000 in
theorem c_toBits (long : Int) (v : Value) (zs : List Int) (w : World) (hv : IntsAt w v zs) (hm : zs.length ≤ 1048576) : Calls Tryd.prog 42 #[bm long v] w fun e w' => ∃ v', e = .returned (bm long v') ∧ Own w' w.heap.size v' zs ∧ Below w.heap.size w w' := by
  have HB := Lib.hid ((((Below.refl w.heap.size w).alloc (Nat.le_refl _) (.cells (cb long v) 51)).alloc (by simp) (.cells (cb 0 (.slice none 0 0)) 25)).alloc (by simp; omega) (.cells (cb long (.slice none 0 0)) 25))
  have hv' := Lib.hid (hv.below HB.out)
  have s0 : RowB (((w.alloc (.cells (cb long v) 51)).alloc (.cells (cb 0 (.slice none 0 0)) 25)).alloc (.cells (cb long (.slice none 0 0)) 25)) (w.heap.size + 1) 0 (.slice none 0 0) := (Row.new1 w _ _ _).alloc _
  have t0 : RowB (((w.alloc (.cells (cb long v) 51)).alloc (.cells (cb 0 (.slice none 0 0)) 25)).alloc (.cells (cb long (.slice none 0 0)) 25)) (w.heap.size + 1 + 1) long (.slice none 0 0) := Row.new2 w _ _ _ _
  clear hv
  go_enter Tryd.func42, Tryd.ntmps42
  go_wp2_with fail
  refine (c_toIntS v zs _ hv'.out hm).mono ?_
  rintro e w1 ⟨v1, rfl, ho, hb1⟩
  have s1 := Row.below s0 hb1
  have t1 := Row.below t0 hb1
  have B1 := bst HB.out hb1 HB.out.size
  have hw : w.heap.size + 1 + 1 + 1 ≤ w1.heap.size := Row.lt t1
  obtain ⟨vg, vc, hvs, hvg⟩ := ho.shape
  have HG : Hid (∀ a, vg = some a → w.heap.size + 1 + 1 + 1 ≤ a.block) := fun a ha => by have := hvg a ha; simp at this; omega
  have HO : Hid (Own w1 w.heap.size v1 zs) := ho.mono (by simp; omega)
  have f1 := Row.frozen t1 1
  have q1 := RowB.c1 t1
  clear s0 t0 hb1 ho hvg
  rw [hvs] at HO ⊢
  clear hvs
  generalize zs.length = n at *
  have s2 := Row.other s1 ⟨w.heap.size + 1 + 1, 1, none⟩ (by simp) (.slice vg n vc)
  have t2 : RowB (w1.setCell ⟨w.heap.size + 1 + 1, 1, none⟩ (.slice vg n vc)) (w.heap.size + 1 + 1) long (.slice vg n vc) := (Row.set t1 1 _).trans rfl
  have B2 := B1.setCell (p := ⟨w.heap.size + 1 + 1, 1, none⟩) (by simp; omega) (.slice vg n vc)
  have O2 : Own (w1.setCell ⟨w.heap.size + 1 + 1, 1, none⟩ (.slice vg n vc)) w.heap.size (.slice vg n vc) zs := Own.set HO.out (fun a ha => by have := HG.out a ha; simp; omega)
  have S2 := Lib.hid s2; have T2 := Lib.hid t2; have L2 := Lib.hid B2; have W2 := Lib.hid O2
  clear s1 t1 B1 HO s2 t2 B2 O2
  go_wp2_with (first
    | (refine wl_loadB rfl _ rfl (w.heap.size + 1 + 1) long (.slice vg n vc) T2.out rfl ?_)
    | (refine wl_storeB rfl _ _ rfl (w.heap.size + 1) long (.slice vg n vc) _ _ S2.out rfl rfl rfl ?_))
  refine bodyPost_ret (res_row Tryd.results42 (Row.put S2.out (cb long (.slice vg n vc))) rfl Tryd.underlying25 rfl info_bits) rfl ⟨_, rfl, ?_, below_setRow L2.out (by omega) _⟩
  exact Own.setRow' W2.out (fun a ha => by have := HG.out a ha; omega)

set_option maxHeartbeats 800000 in
theorem c_markBits (long : Int) (v : Value) (zs : List Int) (B : Nat) (k : Int) (w : World) (ho : Own w B v zs) (h0 : 0 ≤ k) (hm : k + zs.length ≤ 9223372036854775806) : Calls Tryd.prog 44 #[bm long v, .int .i64 k] w fun e w' => e = .returned (.int .i64 (k + zs.length)) ∧ Own w' B v (upFrom k zs.length) ∧ w.grownBy w' v.ownBlock := by
  have ho' := Lib.hid (ho.below ((Below.refl w.heap.size w).alloc (Nat.le_refl _) (.cells (cb long v) 25)))
  have HG : Hid (w.grownBy (w.alloc (.cells (cb long v) 25)) v.ownBlock) := ⟨rfl, rfl, rfl, by simp, fun i hi _ => Below.heap_alloc _ _ i hi⟩
  clear ho
  go_enter Tryd.func44, Tryd.ntmps44
  go_wp2_with fail
  refine (c_markIntS v zs B k _ ho'.out h0 hm).mono ?_
  rintro e w1 ⟨rfl, ho1, hg1⟩
  have HO := Lib.hid ho1; have HG1 := Lib.hid hg1
  clear ho1 hg1
  go_wp2
  go_ret
  exact ⟨rfl, HO.out, grownBy_trans HG.out HG1.out⟩

set_option maxHeartbeats 800000 in
theorem c_heldBits (long : Int) (v : Value) (n : Nat) (k : Int) (w : World) (hA : IntsAt w v (upFrom k n)) (h0 : 0 ≤ k) (hm : k + n ≤ 9223372036854775806) : Calls Tryd.prog 82 #[bm long v, .int .i64 k] w fun e w' => e = .returned (.int .i64 (k + n)) ∧ Below w.heap.size w w' := by
  have HB := Lib.hid ((Below.refl w.heap.size w).alloc (Nat.le_refl _) (.cells (cb long v) 25))
  have hA' := Lib.hid (hA.below HB.out)
  have hk : ¬ k + (n : Int) < 0 := by omega
  clear hA
  go_enter Tryd.func82, Tryd.ntmps82
  go_wp2_with fail
  refine (c_heldIntS v n k _ hA'.out h0 hm).mono ?_
  rintro e w1 ⟨rfl, rfl⟩
  go_wp2
  go_ret
  exact ⟨rfl, HB.out⟩
end Go.Proofs.YtcelebblcjhpaaaDoor
