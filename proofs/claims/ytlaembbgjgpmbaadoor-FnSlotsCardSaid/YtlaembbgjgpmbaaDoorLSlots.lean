/- laws.FnSlots: for every input the law answers true, and the input reads as it did. No condition. -/
import Derived.Test.YtlaembbgjgpmbaaDoorTab
import Derived.Test.YtlaembbgjgpmbaaDoorCtr4
import Derived.Test.YtlaembbgjgpmbaaDoorDraw1
namespace Go.Proofs.YtlaembbgjgpmbaaDoor.xSlots
open Go.ChangeShapes Go.WideShapes Go.ChangeAt Go.RowKit

set_option maxHeartbeats 1000000 in
theorem walk (v : Value) (zs : List Int) (v2 : Value) (zs2 : List Int) (w : World) (hz : BytesAt w v zs) (hz2 : BytesAt w v2 zs2) (hT : TabW w) : Calls Tryd.prog 4 #[v, v2] w fun e w' => e = .returned (.bool true) ∧ Below w.heap.size w w' := by
  obtain ⟨_, _, a, ca, hv, _⟩ := id hz
  obtain ⟨_, _, a2, ca2, hv2, _⟩ := id hz2
  have HZ := Lib.hid hz; clear hz
  clear hz2
  subst hv
  subst hv2
  generalize hn : zs.length = n at *
  generalize zs2.length = n2 at *
  clear hn
  by_cases hm : 1048576 < wrap64 ((n : Int) + (n2 : Int))
  · go_enter Tryd.func4, Tryd.ntmps4
    go_wp2
    go_ret
    exact ⟨rfl, Below.refl _ _⟩
  · go_enter Tryd.func4, Tryd.ntmps4
    go_wp2_with fail
    refine (c_DrawSlotsIn _ zs _ HZ.out).mono ?_
    rintro e w1 ⟨c, hc, rfl, b1⟩
    have hT1 := hT.below b1 hT.pos
    cases hcl : Pl.isCl c with
    | false =>
      have E := Lib.hid (Pl.cl_no hcl)
      go_wp2_with fail
      refine (c_implSlotsIn c _ hT1).mono ?_
      rintro e w2 ⟨rfl, rfl⟩
      go_wp2_with fail
      refine (c_specSlotsIn c _).mono ?_
      rintro e w3 ⟨rfl, b3⟩
      have B3 : Below w.heap.size w w3 := b1.trans (b3.mono b1.size)
      go_wp2_with fail
      refine (c_implPagesFor c _ (hT.below B3 hT.pos)).mono ?_
      rintro e w4 ⟨rfl, rfl⟩
      go_wp2_with fail
      refine (c_specPagesFor c _).mono ?_
      rintro e w5 ⟨rfl, b5⟩
      have B5 : Below w.heap.size w w5 := B3.trans (b5.mono B3.size)
      go_wp2_with fail
      refine (c_implTailOf c _ (hT.below B5 hT.pos)).mono ?_
      rintro e w6 ⟨rfl, rfl⟩
      go_wp2_with fail
      refine (c_specTailOf c _).mono ?_
      rintro e w7 ⟨rfl, b7⟩
      have B7 : Below w.heap.size w w7 := B5.trans (b7.mono B5.size)
      go_wp2
      go_ret
      exact ⟨rfl, B7⟩
    | true =>
      obtain ⟨e1, k1, k2, k3, k4, k5, k6, k7⟩ := Pl.slots_law hcl
      obtain ⟨s1, s2⟩ := Pl.szOf_bd hcl
      have E1 := Lib.hid e1; have K7 := Lib.hid k7
      have p0 : 0 ≤ Pl.slOf c * Pl.szOf c := by omega
      have p1 : Pl.slOf c * Pl.szOf c ≤ 512 := by omega
      have q1 : (Pl.slOf c * Pl.szOf c + Pl.tlOf c != Pl.pgOf c * 64) = false := by rw [bne_eq_false_iff_eq]; exact e1
      clear e1 k7
      have hcb := Pl.isCl_iff.1 hcl
      have hix : c.toNat < 41 := by omega
      have hsz : Hid (Pl.at_ c.toNat = Pl.szOf c) := rfl
      go_wp2_with fail
      refine (c_implSlotsIn c _ hT1).mono ?_
      rintro e w2 ⟨rfl, rfl⟩
      go_wp2_with fail
      refine (c_specSlotsIn c _).mono ?_
      rintro e w3 ⟨rfl, b3⟩
      have B3 : Below w.heap.size w w3 := b1.trans (b3.mono b1.size)
      go_wp2_with fail
      refine (c_implPagesFor c _ (hT.below B3 hT.pos)).mono ?_
      rintro e w4 ⟨rfl, rfl⟩
      go_wp2_with fail
      refine (c_specPagesFor c _).mono ?_
      rintro e w5 ⟨rfl, b5⟩
      have B5 : Below w.heap.size w w5 := B3.trans (b5.mono B3.size)
      go_wp2_with fail
      refine (c_implTailOf c _ (hT.below B5 hT.pos)).mono ?_
      rintro e w6 ⟨rfl, rfl⟩
      go_wp2_with fail
      refine (c_specTailOf c _).mono ?_
      rintro e w7 ⟨rfl, b7⟩
      have B7 : Below w.heap.size w w7 := B5.trans (b7.mono B5.size)
      go_wp2_with fail
      refine (c_implClassesOf _ (hT.below B7 hT.pos)).mono ?_
      rintro e w8 ⟨v8, rfl, ho8, b8⟩
      obtain ⟨g, cap, hv8, hcc⟩ := row_shape ho8
      rw [hv8]
      have q := hcc c.toNat hix
      rw [hsz.out] at q
      have B8 : Below w.heap.size w w8 := B7.trans (b8.mono B7.size)
      clear hcc ho8 hv8
      by_cases h8 : Pl.pgOf c < 8
      · have k8 := K7.out h8
        go_wp2
        go_ret
        exact ⟨rfl, B8⟩
      · go_wp2
        go_ret
        exact ⟨rfl, B8⟩

theorem contract (H : Type) (enc : TypeId × Value → H) (W : World) (base : Nat) (args : Array Value) (ds gs : List (DataW H)) (before : List MemPlace)
    (hval : ∀ (j : Nat) t v, Tryd.f4.params[j]? = some t → args[j]? = some v → Value.okWide Tryd.prog W .any base t v)
    (hW : DataW.Whole enc Tryd.prog Tryd.f4.params.toList Rows.fnSlotsSpec.vars false W args.toList ds gs before) (hL : laidMetH Tryd.prog Rows.fnSlotsRow.laid W) :
    Calls Tryd.prog 4 args W fun e W' => ∃ v, e = .returned v ∧ Rows.fnSlotsSpec.post enc Tryd.prog Tryd.f4 false true false false W args v W' := by
  have hW' := hW
  obtain ⟨p, q, hA0, hV, rfl, hfz, hnd⟩ := hW
  have hA : DataW.TrodAll enc Tryd.prog W 0 (fun _ => true) true Tryd.f4.params.toList args.toList ds p := hA0
  have hpar : ∀ t ∈ Tryd.f4.params.toList, Tryd.prog.readableRec t = true ∧ t < Tryd.prog.types.size := by
    rw [Tryd.params4]; intro t ht; simp at ht; subst ht; exact r_bytes
  rw [Tryd.params4] at hA hval
  obtain ⟨v0, vs0, d0, ds0, p0, q0, hargs, rfl, rfl, h0, r0⟩ := trodAll_cons hA
  obtain ⟨v1, vs1, d1, ds1, p1, q1, rfl, rfl, rfl, h1, r1⟩ := trodAll_cons r0
  obtain ⟨rfl, rfl, rfl⟩ := trodAll_nil r1
  obtain rfl : args = #[v0, v1] := by cases args; simp_all
  obtain ⟨g0, t0, cs0, fuel0, dv, pv, rfl, _⟩ := trodVars_one hV
  obtain ⟨z0, hz0⟩ := bytes_of_arg (hval 0 22 v0 rfl rfl) h0
  obtain ⟨z1, hz1⟩ := bytes_of_arg (hval 1 22 v1 rfl rfl) h1
  refine (walk v0 z0 v1 z1 W hz0 hz1 (tabW_of_laid hL)).mono fun e W' ⟨he, hb⟩ => ?_
  subst he
  exact ⟨_, rfl, law_post laidOut hpar hvsTab hW' hb rfl (by kernel_rfl) Tryd.underlying4⟩

theorem laid_met (os : Os) : laidMet Tryd.prog Rows.fnSlotsRow.laid ((laidWorld os).forCall (fun _ _ => 0) ⟨#[], #[.slice none 0 0, .slice none 0 0], []⟩).memory :=
  laidMet_of_run' 8 (by kernel_rfl) (by kernel_rfl)
theorem reads (os : Os) {H : Type} (enc : TypeId × Value → H) : ∃ places, DataW.whole enc Tryd.prog ((laidWorld os).forCall (fun _ _ => 0) ⟨#[], #[.slice none 0 0, .slice none 0 0], []⟩).memory Tryd.f4.params.toList Rows.fnSlotsSpec.vars false #[Value.slice none 0 0, Value.slice none 0 0].toList 8 = some ([.nil, .nil], [Rows.laid_loop_example_g00627_impl_classSizes], places) :=
  ⟨MemPlace.row ⟨0, 0, none⟩ 41, by kernel_rfl⟩
set_option maxRecDepth 100000 in
theorem lifted (os : Os) (started : os.Started) (H : Type) (enc : TypeId × Value → H) (F : Stop.Interp) :
    ReturnsInHanded {} Tryd.checked os 4 .any ((OpenSpec.ofChange Rows.fnSlotsSpec).preRow enc Tryd.prog Tryd.f4 Rows.fnSlotsRow.domain false Rows.fnSlotsRow.laid) (((OpenSpec.ofChange Rows.fnSlotsSpec).at F).post enc Tryd.prog Tryd.f4 false true false false) := by
  obtain ⟨places, hx⟩ := reads os enc
  refine returnsInHanded_of_row (C := Tryd.checked) (s := OpenSpec.ofChange Rows.fnSlotsSpec) own started (by kernel_rfl) Tryd.func4
    (witness_row_at (enc := enc) (C := Tryd.checked) false (laidWorld os) #[.slice none 0 0, .slice none 0 0] rfl (by kernel_rfl) (by kernel_rfl) (by kernel_rfl)
      (OpenSpec.preRow_of_cond 8 hx (by kernel_rfl) (fun k hk => by cases hk) (by kernel_rfl) (laid_met os))) ?_
  intro W base args ds gs before hval hW _ _ _ hL _ _
  exact contract H enc W base args ds gs before hval hW hL
theorem said : Rows.FnSlotsSaid :=
  OpenClaim.holds_of_cond 4 Tryd.f4 rfl rfl rfl rfl rfl rfl rfl ⟨rfl, rfl, rfl, rfl, rfl⟩ rfl rfl rfl rfl rfl (by kernel_rfl) Tryd.func4 (by kernel_rfl)
    (of_decide_eq_true (by kernel_rfl)) (by unfold Func.isWrapper; first | (rw [if_pos (by decide +kernel)]; kernel_rfl) | (rw [if_neg (by decide +kernel)]; exact ⟨rfl, rfl⟩))
    (fun os started H enc _ F => by rw [OpenClaim.pre_eq_preRow]; exact lifted os started H enc F)
theorem plain (f : FuncId) (fn : Func) (hf : Tryd.pinned.checked.prog.funcNamed "loop.example/g00627/laws.FnSlots" = some f) (hfn : Tryd.pinned.checked.prog.funcs[f]? = some fn) :
    false = Tryd.pinned.checked.prog.looks [] ∧ ∀ (j : Nat) t, fn.params[j]? = some t → Tryd.pinned.checked.prog.wantsStandIn t = false := by
  obtain rfl : f = 4 := Option.some.inj ((show Tryd.prog.funcNamed "loop.example/g00627/laws.FnSlots" = some 4 by kernel_rfl).symm.trans hf) |>.symm
  obtain rfl : fn = Tryd.f4 := (Option.some.inj (Tryd.func4.symm.trans hfn)).symm
  refine ⟨by kernel_rfl, fun j t ht => ?_⟩
  rw [Tryd.params4] at ht
  obtain rfl : t = 22 := by simpa using Array.mem_of_getElem? ht
  exact (show Tryd.prog.wantsStandIn 22 = false by kernel_rfl)
end Go.Proofs.YtlaembbgjgpmbaaDoor.xSlots
namespace Go.Proofs.YtlaembbgjgpmbaaDoor
theorem xSlots_card : Rows.FnSlotsCardSaid :=
  Claim7.holds_tied_plain_at .later [] _ _ _ _ xSlots.said (fun _ h => by cases h) (by kernel_rfl) (fun _ h => by cases h) fnSlots_row_tie rfl ⟨rfl, rfl⟩ (by kernel_rfl) rfl xSlots.plain (by kernel_rfl)
end Go.Proofs.YtlaembbgjgpmbaaDoor
