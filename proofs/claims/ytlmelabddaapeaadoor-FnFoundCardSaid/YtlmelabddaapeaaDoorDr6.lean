/- What the laws of chapter 2 draw: a pair of bitmaps. -/
import Derived.Test.YtlmelabddaapeaaDoorDr5
import Derived.Test.YtlmelabddaapeaaDoorBi6
namespace Go.Proofs.YtlmelabddaapeaaDoor
open Go.RowKit Pb

theorem res_row_row {P : Program} {fn : Func} {p p' : Tmp} {ty ty' : TypeId} (h : fn.results = #[.cell p ty, .cell p' ty']) {tmps : Array Value} {w : World} {g g' : Nat} {t t' : TypeId} {cs cs' : Array Value} {d d' : TypeDesc} (hg : Row w g t cs) (hg' : Row w g' t' cs')
    (hp : tmps.getD p undef = .pointer (some ⟨g, 0, none⟩)) (hp' : tmps.getD p' undef = .pointer (some ⟨g', 0, none⟩)) (hu : P.underlying ty = some d) (hd : (match d with | .struct _ | .array _ _ => true | _ => false) = true) (hi : (P.info? ty).map (·.size) = some cs.size)
    (hu' : P.underlying ty' = some d') (hd' : (match d' with | .struct _ | .array _ _ => true | _ => false) = true) (hi' : (P.info? ty').map (·.size) = some cs'.size) :
    (results fn tmps).run P w = .ok (.tuple #[.agg cs, .agg cs']) w := by
  have e1 : tmps[p]?.getD undef = .pointer (some ⟨g, 0, none⟩) := by simpa using hp
  have e2 : tmps[p']?.getD undef = .pointer (some ⟨g', 0, none⟩) := by simpa using hp'
  simp [results, h, e1, e2, asAddr, run_loadVar_row w g t ty cs (0, 0) d hg hu hd hi, run_loadVar_row w g' t' ty' cs' (0, 0) d' hg' hu' hd' hi']

/-- Two drawn bitmaps. -/
def PairOut (w : World) (e : Ending) (w' : World) : Prop := ∃ (la : Int) (va : Value) (za : List Int) (lb : Int) (vb : Value) (zb : List Int), za.length ≤ 6 ∧ zb.length ≤ 6 ∧ (0 ≤ la ∧ la ≤ 96) ∧ (0 ≤ lb ∧ lb ≤ 96) ∧ e = .returned (.tuple #[bm la va, bm lb vb]) ∧ Own w' w.heap.size va za ∧ Own w' w.heap.size vb zb ∧ Below w.heap.size w w'
def drawnAt2 (w : World) (v : Value) : World := ((w.alloc (.cells (cb 0 (.slice none 0 0)) 25)).alloc (.cells (cb 0 (.slice none 0 0)) 25)).alloc (.cells #[v, .int .i64 0, .int .u64 0] 62)
set_option maxHeartbeats 3200000 in
theorem c_DrawBothBits (v : Value) (zs : List Int) (w : World) (h : BytesAt w v zs) : Calls Tryd.prog 29 #[v] w (PairOut w) := by
  have hb2 : Below w.heap.size w ((w.alloc (.cells (cb 0 (.slice none 0 0)) 25)).alloc (.cells (cb 0 (.slice none 0 0)) 25)) := ((Below.refl w.heap.size w).alloc (Nat.le_refl _) _).alloc (by simp) _
  have HC : Hid (CurIs (drawnAt2 w v) (w.heap.size + 1 + 1) 0) := by
    have := cur_new (h.below hb2)
    simpa [drawnAt2, Hid] using this
  have ra : RowB (drawnAt2 w v) w.heap.size 0 (.slice none 0 0) := ((Row.new w 25 (cb 0 (.slice none 0 0))).alloc _).alloc _
  have rb : RowB (drawnAt2 w v) (w.heap.size + 1) 0 (.slice none 0 0) := (Row.new1 w _ 25 (cb 0 (.slice none 0 0))).alloc _
  have GG : Hid (∀ X, (drawnAt2 w v).grownBy X (some (w.heap.size + 1 + 1)) → Below w.heap.size w X) := fun X hX => (hb2.alloc (by simp; omega) (.cells #[v, .int .i64 0, .int .u64 0] 62)).grown hX (by simp; omega) (fun k hk => by simp at hk; omega)
  have hsz : (drawnAt2 w v).heap.size = w.heap.size + 3 := by simp [drawnAt2]
  clear hb2
  obtain ⟨_, _, a, cap, rfl, _⟩ := h
  generalize zs.length = m at *
  go_enter Tryd.func29, Tryd.ntmps29
  go_wp2_with fail
  refine (c_long (w.heap.size + 1 + 1) 0 _ HC.out (by omega)).mono ?_
  rintro e w1 ⟨x, hx, rfl, hc1, hg1⟩
  have hs1 := hg1.size
  rw [hsz] at hs1
  go_wp2_with fail
  refine (c_bits (w.heap.size + 1 + 1) 4 x _ hc1 (by omega) (by omega)).mono ?_
  rintro e w2 ⟨la, va, za, hla, hra, rfl, hoa, hc2, hg2⟩
  have s2 := hg2.size
  go_wp2_with fail
  refine (c_pick (w.heap.size + 1 + 1) _ 20 _ hc2 (by omega) (by omega) (by omega)).mono ?_
  rintro e w3 ⟨z, hz, rfl, hc3, hg3⟩
  have s3 := hg3.size
  obtain ⟨t, ht, htl⟩ : ∃ t : Nat, Int.tdiv z 19 = t ∧ t ≤ 1 := ⟨(z / 19).toNat, by rw [Int.tdiv_eq_ediv_of_nonneg hz.1]; omega, by omega⟩
  have i2 : IntKind.i64.wrap (Int.tdiv z 19) = (t : Int) := by rw [ht]; exact IntWalk.i64_in _ (by omega)
  have i3 : IntKind.i64.wrap ((x : Int) + (t : Int)) = ((x + t : Nat) : Int) := by rw [IntWalk.i64_in _ (by omega)]; omega
  go_wp2_with fail
  rw [show ((x : Int) + (t : Int)) = ((x + t : Nat) : Int) from (Int.natCast_add x t).symm]
  refine (c_bits (w.heap.size + 1 + 1) _ (x + t) _ hc3 (by omega) (by omega)).mono ?_
  rintro e w4 ⟨lb, vb, zb, hlb, hrb, rfl, hob, hc4, hg4⟩
  have oa := own_up (own_up (hoa.mono (show w.heap.size + 3 ≤ w1.heap.size by omega)) hg3 (by omega)) hg4 (by omega)
  have ob := hob.mono (show w.heap.size + 3 ≤ w3.heap.size by omega)
  replace ra := Row.grownBy (Row.grownBy (Row.grownBy (Row.grownBy ra hg1 (by simp; omega)) hg2 (by simp; omega)) hg3 (by simp; omega)) hg4 (by simp; omega)
  replace rb := Row.grownBy (Row.grownBy (Row.grownBy (Row.grownBy rb hg1 (by simp)) hg2 (by simp)) hg3 (by simp)) hg4 (by simp)
  have B4 := GG.out _ (grownBy_trans hg1 (grownBy_trans hg2 (grownBy_trans hg3 hg4)))
  clear hg1 hg2 hg3 hg4 hc1 hc2 hc3 hc4 hoa hob GG HC hsz s2 s3 hs1 i2 i3
  obtain ⟨ga, ca, hva, _⟩ := oa.shape
  subst hva
  obtain ⟨gb, c4, hvb, _⟩ := ob.shape
  subst hvb
  have A6 := Lib.hid hla; have B6 := Lib.hid hlb; have OA := Lib.hid oa; have OB := Lib.hid ob
  clear hla hlb oa ob
  generalize hna : za.length = na at *
  generalize hnb : zb.length = nb at *
  have HNA := Lib.hid hna; have HNB := Lib.hid hnb; clear hna hnb
  have rb2 := Row.putOther rb (cb la (.slice ga na ca)) (show w.heap.size + 1 ≠ w.heap.size by omega)
  go_wp2_with (first
    | (refine wl_storeB rfl _ _ rfl w.heap.size la (.slice ga na ca) _ _ ra rfl rfl rfl ?_)
    | (refine wl_storeB rfl _ _ rfl (w.heap.size + 1) lb (.slice gb nb c4) _ _ rb2 rfl rfl rfl ?_))
  have OA1 := own_putRow (own_putRow OA.out w.heap.size (cb la (.slice ga na ca)) (own_row_ne OA.out ra)) (w.heap.size + 1) (cb lb (.slice gb nb c4)) (own_row_ne OA.out rb)
  have OB1 := own_putRow (own_putRow OB.out w.heap.size (cb la (.slice ga na ca)) (own_row_ne OB.out ra)) (w.heap.size + 1) (cb lb (.slice gb nb c4)) (own_row_ne OB.out rb)
  exact bodyPost_ret (res_row_row Tryd.results29 (Row.putOther (Row.put ra (cb la (.slice ga na ca))) (cb lb (.slice gb nb c4)) (by omega)) (Row.put rb2 (cb lb (.slice gb nb c4))) rfl rfl Tryd.underlying25 rfl info_bits Tryd.underlying25 rfl info_bits) rfl ⟨la, _, za, lb, _, zb, by rw [HNA.out]; exact A6.out, by rw [HNB.out]; exact B6.out, hra, hrb, rfl, OA1.mono (by omega), OB1.mono (by omega), below_setRow (below_setRow B4 (Nat.le_refl _) _) (by omega) _⟩

set_option maxHeartbeats 1600000 in
theorem c_sameBits (la lb : Int) (va vb : Value) (za zb : List Int) (w : World) (hA : IntsAt w va za) (hB : IntsAt w vb zb) (hm : za.length ≤ 9223372036854775806) :
    Calls Tryd.prog 10 #[bm la va, bm lb vb] w fun e w' => e = .returned (.bool (decide (la = lb ∧ za = zb))) ∧ Below w.heap.size w w' := by
  have b2 : Below w.heap.size w ((w.alloc (.cells (cb la va) 25)).alloc (.cells (cb lb vb) 25)) := ((Below.refl w.heap.size w).alloc (Nat.le_refl _) _).alloc (by simp) _
  have r0 : RowB ((w.alloc (.cells (cb la va) 25)).alloc (.cells (cb lb vb) 25)) w.heap.size la va := (Row.new w 25 (cb la va)).alloc _
  have r1 : RowB ((w.alloc (.cells (cb la va) 25)).alloc (.cells (cb lb vb) 25)) (w.heap.size + 1) lb vb := Row.new1 w _ 25 (cb lb vb)
  have A2 := Lib.hid (hA.below b2); have B2 := Lib.hid (hB.below b2); have W2 := Lib.hid b2; have M2 := Lib.hid hm
  obtain ⟨aa, ca, ea, _⟩ := hA
  obtain ⟨ab, c4, eb, _⟩ := hB
  subst ea; subst eb
  clear b2 hm
  have q0 := r0.c0; have q1 := r0.c1; have q2 := r1.c0; have q3 := r1.c1
  clear r0 r1
  by_cases he : la = lb
  · subst he
    go_enter Tryd.func10, Tryd.ntmps10
    go_wp2_with fail
    refine (c_sameInts _ _ za zb _ A2.out B2.out M2.out).mono ?_
    rintro e w3 ⟨rfl, n, rfl⟩
    go_wp2
    go_ret
    exact ⟨by simp, below_drewN W2.out n⟩
  · go_enter Tryd.func10, Tryd.ntmps10
    go_wp2
    go_ret
    exact ⟨by simp [he], by exact W2.out⟩
end Go.Proofs.YtlmelabddaapeaaDoor
