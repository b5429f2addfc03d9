/- Contracts of chapter 2: the project's own functions. -/
import Derived.Test.YtlmelabddaapeaaDoorBw5
import Derived.Deep.RegionWith
namespace Go.Proofs.YtlmelabddaapeaaDoor
open Go.RowKit Pb

set_option maxHeartbeats 800000 in
theorem c_isRunIn_yes (long : Int) (v : Value) (a b : Int) (w : World) (h : InRun long a b) : Calls Tryd.prog 47 #[bm long v, .int .i64 a, .int .i64 b] w fun e w' => e = .returned (.bool true) ∧ Below w.heap.size w w' := by
  obtain ⟨h0, h1, h2⟩ := h
  go_enter Tryd.func47, Tryd.ntmps47
  go_wp2
  go_ret
  exact ⟨rfl, (Below.refl _ _).alloc (Nat.le_refl _) _⟩
set_option maxHeartbeats 800000 in
theorem c_isRunIn_no (long : Int) (v : Value) (a b : Int) (w : World) (h : ¬ InRun long a b) : Calls Tryd.prog 47 #[bm long v, .int .i64 a, .int .i64 b] w fun e w' => e = .returned (.bool false) ∧ Below w.heap.size w w' := by
  by_cases h0 : 0 ≤ a
  · by_cases h1 : a ≤ b
    · have h2 : ¬ b ≤ long := fun h2 => h ⟨h0, h1, h2⟩
      clear h
      go_enter Tryd.func47, Tryd.ntmps47
      go_wp2
      go_ret
      exact ⟨rfl, (Below.refl _ _).alloc (Nat.le_refl _) _⟩
    · clear h
      go_enter Tryd.func47, Tryd.ntmps47
      go_wp2
      go_ret
      exact ⟨rfl, (Below.refl _ _).alloc (Nat.le_refl _) _⟩
  · clear h
    go_enter Tryd.func47, Tryd.ntmps47
    go_wp2
    go_ret
    exact ⟨rfl, (Below.refl _ _).alloc (Nat.le_refl _) _⟩

set_option maxHeartbeats 800000 in
theorem c_iGoodBits_yes (long : Int) (v : Value) (zs : List Int) (w : World) (hv : IntsAt w v zs) (hB : Bok long zs) : Calls Tryd.prog 11 #[bm long v] w fun e w' => e = .returned (.bool true) ∧ Below w.heap.size w w' := by
  have HB := Lib.hid ((Below.refl w.heap.size w).alloc (Nat.le_refl _) (.cells (cb long v) 25))
  have hv' := Lib.hid (hv.below HB.out); clear hv
  obtain ⟨f, hf⟩ : ∃ f : Nat → Int, f = fun k => zs.getD k 0 := ⟨_, rfl⟩
  have HF := Lib.hid hf; clear hf
  go_enter Tryd.func11, Tryd.ntmps11
  go_wp2_with fail
  refine (c_wordsOf_yes long v zs f HF.out _ hv'.out hB).mono ?_
  rintro e w1 ⟨rfl, hb1⟩
  have B1 := Lib.hid (bstep HB.out hb1 HB.out.size)
  clear hb1
  go_wp2
  go_ret
  exact ⟨rfl, B1.out.alloc B1.out.size _⟩
set_option maxHeartbeats 800000 in
theorem c_iGoodBits_no (long : Int) (v : Value) (zs : List Int) (w : World) (hv : IntsAt w v zs) (hB : ¬ Bok long zs) : Calls Tryd.prog 11 #[bm long v] w fun e w' => e = .returned (.bool false) ∧ Below w.heap.size w w' := by
  have HB := Lib.hid ((Below.refl w.heap.size w).alloc (Nat.le_refl _) (.cells (cb long v) 25))
  have hv' := Lib.hid (hv.below HB.out); clear hv
  go_enter Tryd.func11, Tryd.ntmps11
  go_wp2_with fail
  refine (c_wordsOf_no long v zs _ hv'.out hB).mono ?_
  rintro e w1 ⟨rfl, hb1⟩
  have B1 := Lib.hid (bstep HB.out hb1 HB.out.size)
  clear hb1
  go_wp2
  go_ret
  exact ⟨rfl, B1.out.alloc B1.out.size _⟩

set_option maxHeartbeats 800000 in
theorem c_iNewBits_no (long : Int) (w : World) (h : ¬ (0 ≤ long ∧ long ≤ 96)) : Calls Tryd.prog 23 #[.int .i64 long] w fun e w' => e = .returned (.tuple #[bm 0 (.slice none 0 0), .bool false]) ∧ Below w.heap.size w w' := by
  go_enter Tryd.func23, Tryd.ntmps23
  go_wp2_with fail
  refine (c_isBitLength_no _ _ h).mono ?_
  rintro e w1 ⟨rfl, rfl⟩
  go_wp2
  exact bodyPost_ret (v := .tuple #[bm 0 (.slice none 0 0), .bool false]) (by simp [results, Tryd.results23, go_sem]) rfl ⟨rfl, (Below.refl _ _).alloc (Nat.le_refl _) _⟩
set_option maxHeartbeats 800000 in
theorem c_iNewBits_yes (long : Int) (w : World) (h0 : 0 ≤ long) (h1 : long ≤ 96) : Calls Tryd.prog 23 #[.int .i64 long] w fun e w' => ∃ v, e = .returned (.tuple #[bm long v, .bool true]) ∧ Own w' w.heap.size v (wl ((long + 15) / 16).toNat fun _ => 0) ∧ Below w.heap.size w w' := by
  have HB := Lib.hid ((Below.refl w.heap.size w).alloc (Nat.le_refl _) (.cells (cb 0 (.slice none 0 0)) 25))
  have r0 := Row.new w 25 (cb 0 (.slice none 0 0))
  go_enter Tryd.func23, Tryd.ntmps23
  go_wp2_with fail
  refine (c_isBitLength_yes _ _ h0 h1).mono ?_
  rintro e w1 ⟨rfl, rfl⟩
  go_wp2_with fail
  refine (c_bitmap (fun _ => 0) long _ h0 h1 (fun _ _ => by omega)).mono ?_
  rintro e w1 ⟨v, rfl, ho, hb1⟩
  have r1 := r0.below hb1
  obtain ⟨vg, vc, hvs, hvg⟩ := ho.shape
  have B1 := Lib.hid (bstep HB.out hb1 HB.out.size)
  have HO := Lib.hid ho
  clear r0 hb1 ho
  subst hvs
  go_wp2_with (refine wl_storeB rfl _ _ rfl w.heap.size long _ _ _ r1 rfl rfl rfl ?_)
  refine bodyPost_ret (res_row_slot Tryd.results23 (Row.put r1 (cb long _)) rfl rfl Tryd.underlying25 rfl info_bits) rfl ⟨_, rfl, ?_, below_setRow B1.out (Nat.le_refl _) _⟩
  exact Own.setRow' (HO.out.mono (by simp)) (fun a ha => by have := hvg a ha; simp at this; omega)

end Go.Proofs.YtlmelabddaapeaaDoor
