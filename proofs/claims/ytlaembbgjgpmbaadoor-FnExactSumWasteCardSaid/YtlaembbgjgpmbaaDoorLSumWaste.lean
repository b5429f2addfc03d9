/- laws.FnExactSumWaste: for every input the law answers true, and the input reads as it did. No condition. -/
import Derived.Test.YtlaembbgjgpmbaaDoorTab
import Derived.Test.YtlaembbgjgpmbaaDoorCtr4
namespace Go.Proofs.YtlaembbgjgpmbaaDoor.xSumWaste
open Go.ChangeShapes Go.WideShapes Go.ChangeAt Go.RowKit

set_option maxHeartbeats 400000 in
theorem walk (v : Value) (zs : List Int) (w : World) (hz : IntsAt w v zs) (hT : TabW w) : Calls Tryd.prog 11 #[v] w fun e w' => e = .returned (.bool true) ∧ Below w.heap.size w w' := by
  obtain ⟨a, ca, hv, _⟩ := id hz
  by_cases hm : 1048576 < zs.length
  · subst hv
    clear hz
    generalize zs.length = n at *
    go_enter Tryd.func11, Tryd.ntmps11
    go_wp2
    go_ret
    exact ⟨rfl, Below.refl _ _⟩
  · have hm' : zs.length ≤ 1048576 := by omega
    have HZ := Lib.hid hz; clear hz
    have hd : decide (1048576 < (zs.length : Int)) = false := decide_eq_false (by omega)
    subst hv
    generalize hn : zs.length = n at *
    have HN := Lib.hid hn; clear hn
    go_enter Tryd.func11, Tryd.ntmps11
    go_wp2_with fail
    have HM : Hid (zs.length ≤ 1048576) := by unfold Hid; rw [HN.out]; exact hm'
    refine (c_toIntS _ zs _ HZ.out HM.out).mono ?_
    rintro e w1 ⟨v1, rfl, ho1, hb1⟩
    have O1 := Lib.hid ho1; clear ho1
    go_wp2_with fail
    refine (c_specSumWaste _ zs _ O1.out.ints HM.out).mono ?_
    rintro e w2 ⟨rfl, hb2⟩
    have B2 : Below w.heap.size w w2 := hb1.trans (hb2.mono hb1.size)
    go_wp2_with fail
    refine (c_toIntS _ zs _ (HZ.out.below B2) HM.out).mono ?_
    rintro e w3 ⟨v3, rfl, ho3, hb3⟩
    have B3 : Below w.heap.size w w3 := B2.trans (hb3.mono B2.size)
    have O3 := Lib.hid ho3; clear ho3
    go_wp2_with fail
    refine (c_implSumWaste _ zs _ O3.out.ints (hT.below B3 hT.pos) HM.out).mono ?_
    rintro e w4 ⟨rfl, rfl⟩
    go_wp2_with fail
    refine (c_toIntS _ zs _ (HZ.out.below B3) HM.out).mono ?_
    rintro e w5 ⟨v5, rfl, ho5, hb5⟩
    have B5 : Below w.heap.size w w5 := B3.trans (hb5.mono B3.size)
    have O5 := Lib.hid ho5; clear ho5
    go_wp2_with fail
    refine (c_eqIntS _ _ zs zs _ (O3.out.below hb5).ints O5.out.ints (by have := HM.out; omega)).mono ?_
    rintro e w6 ⟨rfl, nn, rfl⟩
    rw [decide_eq_true (rfl : zs = zs)]
    go_wp2
    go_ret
    exact ⟨rfl, below_drewN B5 _⟩

theorem contract (H : Type) (enc : TypeId × Value → H) (W : World) (base : Nat) (args : Array Value) (ds gs : List (DataW H)) (before : List MemPlace)
    (hval : ∀ (j : Nat) t v, Tryd.f11.params[j]? = some t → args[j]? = some v → Value.okWide Tryd.prog W .any base t v)
    (hW : DataW.Whole enc Tryd.prog Tryd.f11.params.toList Rows.fnExactSumWasteSpec.vars false W args.toList ds gs before) (hL : laidMetH Tryd.prog Rows.fnExactSumWasteRow.laid W) :
    Calls Tryd.prog 11 args W fun e W' => ∃ v, e = .returned v ∧ Rows.fnExactSumWasteSpec.post enc Tryd.prog Tryd.f11 false true false false W args v W' := by
  have hW' := hW
  obtain ⟨p, q, hA0, hV, rfl, hfz, hnd⟩ := hW
  have hA : DataW.TrodAll enc Tryd.prog W 0 (fun _ => true) true Tryd.f11.params.toList args.toList ds p := hA0
  have hpar : ∀ t ∈ Tryd.f11.params.toList, Tryd.prog.readableRec t = true ∧ t < Tryd.prog.types.size := by
    rw [Tryd.params11]; intro t ht; simp at ht; subst ht; exact r_ints
  rw [Tryd.params11] at hA hval
  obtain ⟨v0, vs0, d0, ds0, p0, q0, hargs, rfl, rfl, h0, r0⟩ := trodAll_cons hA
  obtain ⟨rfl, rfl, rfl⟩ := trodAll_nil r0
  obtain rfl : args = #[v0] := by cases args; simp_all
  obtain ⟨g0, t0, cs0, fuel0, dv, pv, rfl, _⟩ := trodVars_one hV
  obtain ⟨z0, hz0⟩ := ints_of_arg (hval 0 28 v0 rfl rfl) h0
  refine (walk v0 z0 W hz0 (tabW_of_laid hL)).mono fun e W' ⟨he, hb⟩ => ?_
  subst he
  exact ⟨_, rfl, law_post laidOut hpar hvsTab hW' hb rfl (by kernel_rfl) Tryd.underlying4⟩

theorem laid_met (os : Os) : laidMet Tryd.prog Rows.fnExactSumWasteRow.laid ((laidWorld os).forCall (fun _ _ => 0) ⟨#[], #[.slice none 0 0], []⟩).memory :=
  laidMet_of_run' 8 (by kernel_rfl) (by kernel_rfl)
theorem reads (os : Os) {H : Type} (enc : TypeId × Value → H) : ∃ places, DataW.whole enc Tryd.prog ((laidWorld os).forCall (fun _ _ => 0) ⟨#[], #[.slice none 0 0], []⟩).memory Tryd.f11.params.toList Rows.fnExactSumWasteSpec.vars false #[Value.slice none 0 0].toList 8 = some ([.nil], [Rows.laid_loop_example_g00627_impl_classSizes], places) :=
  ⟨MemPlace.row ⟨0, 0, none⟩ 41, by kernel_rfl⟩
set_option maxRecDepth 100000 in
theorem lifted (os : Os) (started : os.Started) (H : Type) (enc : TypeId × Value → H) (F : Stop.Interp) :
    ReturnsInHanded {} Tryd.checked os 11 .any ((OpenSpec.ofChange Rows.fnExactSumWasteSpec).preRow enc Tryd.prog Tryd.f11 Rows.fnExactSumWasteRow.domain false Rows.fnExactSumWasteRow.laid) (((OpenSpec.ofChange Rows.fnExactSumWasteSpec).at F).post enc Tryd.prog Tryd.f11 false true false false) := by
  obtain ⟨places, hx⟩ := reads os enc
  refine returnsInHanded_of_row (C := Tryd.checked) (s := OpenSpec.ofChange Rows.fnExactSumWasteSpec) own started (by kernel_rfl) Tryd.func11
    (witness_row_at (enc := enc) (C := Tryd.checked) false (laidWorld os) #[.slice none 0 0] rfl (by kernel_rfl) (by kernel_rfl) (by kernel_rfl)
      (OpenSpec.preRow_of_cond 8 hx (by kernel_rfl) (fun k hk => by cases hk) (by kernel_rfl) (laid_met os))) ?_
  intro W base args ds gs before hval hW _ _ _ hL _ _
  exact contract H enc W base args ds gs before hval hW hL
theorem said : Rows.FnExactSumWasteSaid :=
  OpenClaim.holds_of_cond 11 Tryd.f11 rfl rfl rfl rfl rfl rfl rfl ⟨rfl, rfl, rfl, rfl, rfl⟩ rfl rfl rfl rfl rfl (by kernel_rfl) Tryd.func11 (by kernel_rfl)
    (of_decide_eq_true (by kernel_rfl)) (by unfold Func.isWrapper; first | (rw [if_pos (by decide +kernel)]; kernel_rfl) | (rw [if_neg (by decide +kernel)]; exact ⟨rfl, rfl⟩))
    (fun os started H enc _ F => by rw [OpenClaim.pre_eq_preRow]; exact lifted os started H enc F)
theorem plain (f : FuncId) (fn : Func) (hf : Tryd.pinned.checked.prog.funcNamed "loop.example/g00627/laws.FnExactSumWaste" = some f) (hfn : Tryd.pinned.checked.prog.funcs[f]? = some fn) :
    false = Tryd.pinned.checked.prog.looks [] ∧ ∀ (j : Nat) t, fn.params[j]? = some t → Tryd.pinned.checked.prog.wantsStandIn t = false := by
  obtain rfl : f = 11 := Option.some.inj ((show Tryd.prog.funcNamed "loop.example/g00627/laws.FnExactSumWaste" = some 11 by kernel_rfl).symm.trans hf) |>.symm
  obtain rfl : fn = Tryd.f11 := (Option.some.inj (Tryd.func11.symm.trans hfn)).symm
  refine ⟨by kernel_rfl, fun j t ht => ?_⟩
  rw [Tryd.params11] at ht
  obtain rfl : t = 28 := by simpa using Array.mem_of_getElem? ht
  exact (show Tryd.prog.wantsStandIn 28 = false by kernel_rfl)
end Go.Proofs.YtlaembbgjgpmbaaDoor.xSumWaste
namespace Go.Proofs.YtlaembbgjgpmbaaDoor
theorem xSumWaste_card : Rows.FnExactSumWasteCardSaid :=
  Claim7.holds_tied_plain_at .later [] _ _ _ _ xSumWaste.said (fun _ h => by cases h) (by kernel_rfl) (fun _ h => by cases h) fnExactSumWaste_row_tie rfl ⟨rfl, rfl⟩ (by kernel_rfl) rfl xSumWaste.plain (by kernel_rfl)
end Go.Proofs.YtlaembbgjgpmbaaDoor
