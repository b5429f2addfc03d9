/- laws.FnExactClassesOf: for every input the law answers true, and the input reads as it did. No condition. -/
import Derived.Test.YtlaembbgjgpmbaaDoorTab
import Derived.Test.YtlaembbgjgpmbaaDoorCtr4
namespace Go.Proofs.YtlaembbgjgpmbaaDoor.xClassesOf
open Go.ChangeShapes Go.WideShapes Go.ChangeAt Go.RowKit

theorem own_of_row {w : World} {B : Nat} {v : Value} (h : w.ownsRow B 3 1 v 41 (rowOf 41)) : Own w B v Pl.tab := h
theorem ne_block {w : World} {B : Nat} {v : Value} {zs : List Int} (h : Own w B v zs) : ∀ k, v.ownBlock = some k → B ≤ k := fun k hk => (World.ownsRow.lt h k hk).1
set_option maxHeartbeats 1000000 in
theorem walk (w : World) (hT : TabW w) : Calls Tryd.prog 5 #[] w fun e w' => e = .returned (.bool true) ∧ Below w.heap.size w w' := by
  have hl : Pl.tab.length ≤ 9223372036854775806 := by rw [Pl.len]; omega
  go_enter Tryd.func5, Tryd.ntmps5
  go_wp2_with fail
  refine (c_specClassesOf _).mono ?_
  rintro e w1 ⟨v1, rfl, ho1, hb1⟩
  have O1 := Lib.hid (own_of_row ho1); clear ho1
  go_wp2_with fail
  refine (c_implClassesOf _ (hT.below hb1 hT.pos)).mono ?_
  rintro e w2 ⟨v2, rfl, ho2, hb2⟩
  have O2 := Lib.hid (own_of_row ho2); clear ho2
  have B2 : Below w.heap.size w w2 := hb1.trans (hb2.mono hb1.size)
  go_wp2_with fail
  refine (c_eqIntS _ _ Pl.tab Pl.tab _ O2.out.ints (O1.out.below hb2).ints hl).mono ?_
  rintro e w3 ⟨rfl, n3, rfl⟩
  rw [decide_eq_true (rfl : Pl.tab = Pl.tab)]
  go_wp2_with fail
  refine (c_markIntS _ Pl.tab w1.heap.size 1 _ (O2.out.drewN n3) (by omega) (by rw [Pl.len]; omega)).mono ?_
  rintro e w4 ⟨rfl, ho4, hg4⟩
  rw [Pl.len] at ho4 ⊢
  have O4 := Lib.hid ho4
  have b4 : Below w1.heap.size (w2.drewN n3) w4 := (Below.refl _ _).grown hg4 (show w1.heap.size ≤ w2.heap.size from hb2.size) (ne_block (v := v2) ho4)
  have B4 : Below w1.heap.size w1 w4 := (below_drewN hb2 n3).trans b4
  have BW4 : Below w.heap.size w w4 := hb1.trans (B4.mono hb1.size)
  have hs4 : w1.heap.size ≤ w4.heap.size := B4.size
  clear hg4 ho4 b4
  go_wp2_with fail
  refine (c_heldIntS _ 41 1 _ O4.out.ints (by omega) (by omega)).mono ?_
  rintro e w5 ⟨rfl, rfl⟩
  go_wp2_with fail
  refine (c_implClassesOf _ (hT.below BW4 hT.pos)).mono ?_
  rintro e w6 ⟨v6, rfl, ho6, hb6⟩
  have O6 := Lib.hid (own_of_row ho6); clear ho6
  have B6 : Below w1.heap.size w1 w6 := B4.trans (hb6.mono hs4)
  have BW6 : Below w.heap.size w w6 := hb1.trans (B6.mono hb1.size)
  go_wp2_with fail
  refine (c_eqIntS _ _ Pl.tab Pl.tab _ O6.out.ints (O1.out.below B6).ints hl).mono ?_
  rintro e w7 ⟨rfl, n7, rfl⟩
  rw [decide_eq_true (rfl : Pl.tab = Pl.tab)]
  go_wp2_with fail
  refine (c_heldIntS _ 41 1 _ ((O4.out.below hb6).drewN n7).ints (by omega) (by omega)).mono ?_
  rintro e w8 ⟨rfl, rfl⟩
  go_wp2
  go_ret
  exact ⟨rfl, below_drewN BW6 _⟩

theorem contract (H : Type) (enc : TypeId × Value → H) (W : World) (base : Nat) (args : Array Value) (ds gs : List (DataW H)) (before : List MemPlace)
    (hval : ∀ (j : Nat) t v, Tryd.f5.params[j]? = some t → args[j]? = some v → Value.okWide Tryd.prog W .any base t v)
    (hW : DataW.Whole enc Tryd.prog Tryd.f5.params.toList Rows.fnExactClassesOfSpec.vars false W args.toList ds gs before) (hL : laidMetH Tryd.prog Rows.fnExactClassesOfRow.laid W) :
    Calls Tryd.prog 5 args W fun e W' => ∃ v, e = .returned v ∧ Rows.fnExactClassesOfSpec.post enc Tryd.prog Tryd.f5 false true false false W args v W' := by
  have hW' := hW
  obtain ⟨p, q, hA0, hV, rfl, hfz, hnd⟩ := hW
  have hA : DataW.TrodAll enc Tryd.prog W 0 (fun _ => true) true Tryd.f5.params.toList args.toList ds p := hA0
  have hpar : ∀ t ∈ Tryd.f5.params.toList, Tryd.prog.readableRec t = true ∧ t < Tryd.prog.types.size := by
    rw [Tryd.params5]; intro t ht; simp at ht
  rw [Tryd.params5] at hA hval
  obtain ⟨hargs, rfl, rfl⟩ := trodAll_nil hA
  obtain rfl : args = #[] := by cases args; simp_all
  obtain ⟨g0, t0, cs0, fuel0, dv, pv, rfl, _⟩ := trodVars_one hV
  refine (walk  W (tabW_of_laid hL)).mono fun e W' ⟨he, hb⟩ => ?_
  subst he
  exact ⟨_, rfl, law_post laidOut hpar hvsTab hW' hb rfl (by kernel_rfl) Tryd.underlying4⟩

theorem laid_met (os : Os) : laidMet Tryd.prog Rows.fnExactClassesOfRow.laid ((laidWorld os).forCall (fun _ _ => 0) ⟨#[], #[], []⟩).memory :=
  laidMet_of_run' 8 (by kernel_rfl) (by kernel_rfl)
theorem reads (os : Os) {H : Type} (enc : TypeId × Value → H) : ∃ places, DataW.whole enc Tryd.prog ((laidWorld os).forCall (fun _ _ => 0) ⟨#[], #[], []⟩).memory Tryd.f5.params.toList Rows.fnExactClassesOfSpec.vars false (#[] : Array Value).toList 8 = some ([], [Rows.laid_loop_example_g00627_impl_classSizes], places) :=
  ⟨MemPlace.row ⟨0, 0, none⟩ 41, by kernel_rfl⟩
set_option maxRecDepth 100000 in
theorem lifted (os : Os) (started : os.Started) (H : Type) (enc : TypeId × Value → H) (F : Stop.Interp) :
    ReturnsInHanded {} Tryd.checked os 5 .any ((OpenSpec.ofChange Rows.fnExactClassesOfSpec).preRow enc Tryd.prog Tryd.f5 Rows.fnExactClassesOfRow.domain false Rows.fnExactClassesOfRow.laid) (((OpenSpec.ofChange Rows.fnExactClassesOfSpec).at F).post enc Tryd.prog Tryd.f5 false true false false) := by
  obtain ⟨places, hx⟩ := reads os enc
  refine returnsInHanded_of_row (C := Tryd.checked) (s := OpenSpec.ofChange Rows.fnExactClassesOfSpec) own started (by kernel_rfl) Tryd.func5
    (witness_row_at (enc := enc) (C := Tryd.checked) false (laidWorld os) #[] rfl (by kernel_rfl) (by kernel_rfl) (by kernel_rfl)
      (OpenSpec.preRow_of_cond 8 hx (by kernel_rfl) (fun k hk => by cases hk) (by kernel_rfl) (laid_met os))) ?_
  intro W base args ds gs before hval hW _ _ _ hL _ _
  exact contract H enc W base args ds gs before hval hW hL
theorem said : Rows.FnExactClassesOfSaid :=
  OpenClaim.holds_of_cond 5 Tryd.f5 rfl rfl rfl rfl rfl rfl rfl ⟨rfl, rfl, rfl, rfl, rfl⟩ rfl rfl rfl rfl rfl (by kernel_rfl) Tryd.func5 (by kernel_rfl)
    (of_decide_eq_true (by kernel_rfl)) (by unfold Func.isWrapper; first | (rw [if_pos (by decide +kernel)]; kernel_rfl) | (rw [if_neg (by decide +kernel)]; exact ⟨rfl, rfl⟩))
    (fun os started H enc _ F => by rw [OpenClaim.pre_eq_preRow]; exact lifted os started H enc F)
theorem plain (f : FuncId) (fn : Func) (hf : Tryd.pinned.checked.prog.funcNamed "loop.example/g00627/laws.FnExactClassesOf" = some f) (hfn : Tryd.pinned.checked.prog.funcs[f]? = some fn) :
    false = Tryd.pinned.checked.prog.looks [] ∧ ∀ (j : Nat) t, fn.params[j]? = some t → Tryd.pinned.checked.prog.wantsStandIn t = false := by
  obtain rfl : f = 5 := Option.some.inj ((show Tryd.prog.funcNamed "loop.example/g00627/laws.FnExactClassesOf" = some 5 by kernel_rfl).symm.trans hf) |>.symm
  obtain rfl : fn = Tryd.f5 := (Option.some.inj (Tryd.func5.symm.trans hfn)).symm
  refine ⟨by kernel_rfl, fun j t ht => ?_⟩
  rw [Tryd.params5] at ht
  simp at ht
end Go.Proofs.YtlaembbgjgpmbaaDoor.xClassesOf
namespace Go.Proofs.YtlaembbgjgpmbaaDoor
theorem xClassesOf_card : Rows.FnExactClassesOfCardSaid :=
  Claim7.holds_tied_plain_at .later [] _ _ _ _ xClassesOf.said (fun _ h => by cases h) (by kernel_rfl) (fun _ h => by cases h) fnExactClassesOf_row_tie rfl ⟨rfl, rfl⟩ (by kernel_rfl) rfl xClassesOf.plain (by kernel_rfl)
end Go.Proofs.YtlaembbgjgpmbaaDoor
