/- Contracts of chapter 2: the list of the bits that are 1, both sides. -/
import Derived.Test.YtcelebblcjhpaaaDoorBd1
import Derived.Test.YtcelebblcjhpaaaDoorBi1
import Derived.Test.YtcelebblcjhpaaaDoorBs3
namespace Go.Proofs.YtcelebblcjhpaaaDoor
open Go.RowKit Pb

theorem low_lt {x : Int} (h : W16 x) (h0 : x ≠ 0) : bits .and .u16 x (x - 1) < x := by
  obtain ⟨n, rfl, hn⟩ := h.nat
  rw [show (n : Int) - 1 = ((n - 1 : Nat) : Int) by omega, and16 n (n - 1) hn (by omega)]
  have : n &&& (n - 1) ≤ n - 1 := Nat.and_le_right
  omega
/-- One number appended to a row of the call's own. -/
theorem wl_append1 {ops : Array Oper} {rest : List Oper} {o : Oper} {a : Act} {w : World} {Q : Exit → Act → World → Prop} (hgd : o.guard = none) (s x : Operand) (ho : o.op = .call { callee := .builtin .append, args := #[s, x], argTypes := #[23, 23] })
    (B : Nat) (v : Value) (zs : List Int) (z : Int) (hs : a.eval s = v) (hown : Own w B v zs) (hx : a.eval x = .slice (some ⟨w.heap.size, 0, none⟩) 1 1) (hlen : zs.length ≤ 1000) (hb : B ≤ w.heap.size)
    (h : ∀ v' w', Own w' B v' (zs ++ [z]) → (w.alloc (.cells #[.int .i64 z] 3)).grownBy w' v.ownBlock → wpList Tryd.prog ops Q rest (a.put o.dst v') w') : wpList Tryd.prog ops Q (o :: rest) a (w.alloc (.cells #[.int .i64 z] 3)) := by
  obtain ⟨i0, hi, hz0, hz1, hz2⟩ := info_parts info_int
  refine wpList_append_own (w := w.alloc (.cells #[.int .i64 z] 3)) hgd s x 23 ho B 3 i0 (.int .i64 0) 1 8 Tryd.underlying23 hi hz0 hz1 hz2 rfl (by decide) v zs.length (zs.map (Value.int .i64)) hs (World.ownsRow.alloc hown _) ⟨w.heap.size, 0, none⟩ 1 1 [.int .i64 z] hx rfl ?_ ?_ ?_ ?_ ?_ ?_
  · intro j u hj
    match j, hj with
    | 0, hj => simp at hj; subst hj; simp [Addr.add]
  · intro u hu; simp at hu; subst hu; rfl
  · unfold maxLen; omega
  · omega
  · simp; omega
  · intro v' w' ho' hg _
    refine h v' w' ?_ hg
    unfold Own
    rw [List.length_append, List.map_append]
    exact ho'
set_option maxHeartbeats 1600000 in
set_option maxRecDepth 100000 in
theorem c_list (f : Nat → Int) (w : World) (hf : ∀ k, k < 6 → W16 (f k)) (hT : TabB w) : Calls Tryd.prog 81 #[a6 f] w fun e w' => ∃ v, e = .returned v ∧ Own w' w.heap.size v (ups (bitF f) 96) ∧ Below w.heap.size w w' := by
  obtain ⟨i0, hi, hz0, hz1, hz2⟩ := info_parts info_int
  have HF := Lib.hid hf
  have HT := Lib.hid hT
  have hcb := countTo_bd (bitF f) 96
  obtain ⟨nc, hnc⟩ : ∃ n : Nat, countTo (bitF f) 96 = n := ⟨(countTo (bitF f) 96).toNat, by omega⟩
  have HNC := Lib.hid hnc
  have hnc96 : nc ≤ 96 := by omega
  clear hcb hnc hf hT
  have b0 : Blk (w.alloc (.cells (c6 f) 69)) w.heap.size f := Row.new w _ _
  have L0 := (Below.refl w.heap.size w).alloc (Nat.le_refl _) (.cells (c6 f) 69)
  go_enter Tryd.func81, Tryd.ntmps81
  go_wp2_with (first
    | (refine wl_load6 rfl _ rfl w.heap.size f b0 rfl ?_)
    | (refine wl_load6 rfl _ rfl w.heap.size f b2 rfl ?_)
    | (go_at_call 77; refine (c_count f _ HF.out).mono ?_; rintro e w1 ⟨rfl, hb1⟩; rw [HNC.out]; have b1 := Row.below b0 hb1; have L1 := L0.trans (hb1.mono L0.size); clear b0 hb1 L0)
    | (refine wpList_make_own _ rfl _ _ 23 rfl w.heap.size 3 i0 (.int .i64 0) 1 Tryd.underlying23 hi hz0 hz1 .i64 .i64 _ nc rfl rfl rfl (by rw [hz2]; omega) (by unfold maxLen; omega) L1.size ?_; intro w2 hown hgr; have b2 : Blk w2 w.heap.size f := Row.grownBy b1 hgr (by simp); have L2 := L1.grown hgr L1.size (fun k hk => by cases hk); have HO := Lib.hid hown; clear hown hgr b1 L1))
  go_loopw [3, 10] (fun v i wr => ∃ k : Nat, k ≤ 6 ∧ i = .int .i64 k ∧ Own wr w.heap.size v (ups (bitF f) (16 * k)) ∧ Below w.heap.size w wr) (fun _ i _ => 6 - (intOf i).toNat)
  case atStart => exact ⟨0, by omega, rfl, HO.out, L2⟩
  case round =>
    clear HO L2 b2
    obtain ⟨k, hk, rfl, hown, hb⟩ := hrel
    by_cases hlt : k < 6
    · have hix := fun w => c6_index w f k hlt
      have hdk : decide ((k : Int) < 6) = true := decide_eq_true (by omega)
      have HU := Lib.hid (ups_word f k)
      have HW := Lib.hid (HF.out k hlt)
      generalize f k = x0 at *
      have HO := Lib.hid hown; have HB := Lib.hid hb
      clear hown hb
      go_wp2
      clear hix
      go_loopw [3, 5] (fun v x wr => ∃ (zs : List Int) (y : Int), W16 y ∧ x = .int .u16 y ∧ Hid (zs ++ lst (16 * k) y = ups (bitF f) (16 * (k + 1))) ∧ Own wr w.heap.size v zs ∧ Below w.heap.size w wr) (fun _ x _ => (intOf x).toNat)
      case atStart => exact ⟨_, x0, HW.out, rfl, HU.out.symm, HO.out, HB.out⟩
      case round =>
        obtain ⟨zs, y, hy, rfl, hz, hown, hb⟩ := hrel
        clear HO HB HU HW
        by_cases h0 : y = 0
        · subst h0
          have e : zs = ups (bitF f) (16 * (k + 1)) := by have := hz.out; rwa [lst_zero, List.append_nil] at this
          rw [e] at hown
          clear hz e
          go_wp2
          go_roundw
          case rel => exact ⟨k + 1, by omega, by go_num, hown, hb⟩
          case measure => simp [intOf]; omega
        · have HZ : Hid ((zs ++ [((16 * k : Nat) : Int) + (tz y : Int)]) ++ lst (16 * k) (bits .and .u16 y (y - 1)) = ups (bitF f) (16 * (k + 1))) := by
            unfold Hid
            rw [← hz.out, lst_cons (16 * k) hy h0, List.append_assoc]
            rfl
          have hzl : zs.length ≤ 96 := by
            have h1 := congrArg List.length hz.out
            rw [List.length_append] at h1
            have h2 := ups_length_le (bitF f) (16 * (k + 1))
            omega
          have hzl' : zs.length ≤ 1000 := by omega
          have hlw := low_lt hy h0
          have hwn := low_w hy h0
          have htz := (low_spec hy h0).1
          have hb1 : (y != 0) = true := by rw [bne_iff_ne]; exact h0
          have HY := Lib.hid hy; have H0 := Lib.hid h0
          have hy0 := hy.1
          have hy1 := hy.2
          have hy2 : 1 ≤ y := by omega
          have HTZ : Hid ((tz y : Int) = tz y) := rfl
          have HTW := Lib.hid (HT.out.below hb)
          have hsz := hb.size
          clear hz h0 hy
          generalize htt : tz y = t at *
          have HTT := Lib.hid htt
          clear htt HTZ
          go_wp2_with (first
            | (go_at_call 88; refine (c_TrailingZeros16 _ _ HY.out H0.out HTW.out).mono ?_; rintro e w' ⟨rfl, rfl⟩; rw [HTT.out])
            | (at_builtin; refine wl_append1 (w := wr) rfl _ _ rfl w.heap.size u3 zs ((k : Int) * 16 + t) rfl hown rfl hzl' hsz ?_; intro v' w1 ho' hg; have R := (hb.alloc hsz _).grown hg (by simp; omega) (fun k hk => (World.ownsRow.lt hown k hk).1); clear hg))
          go_roundw
          case rel =>
            have hz2 : zs ++ [(k : Int) * 16 + t] ++ lst (16 * k) (bits .and .u16 y (y - 1)) = ups (bitF f) (16 * (k + 1)) := by have := HZ.out; rw [show ((16 * k : Nat) : Int) + (t : Int) = (k : Int) * 16 + t by omega] at this; exact this
            first | exact ⟨_, _, hwn, rfl, hz2, ho', R⟩ | ((repeat apply Exists.intro); exact ⟨⟨_, _, hwn, rfl, hz2, ho', R⟩, rfl⟩)
          case measure => simp [intOf]; omega
    · obtain rfl : k = 6 := by omega
      go_wp2
      go_ret
      exact ⟨_, rfl, hown, hb⟩
set_option maxHeartbeats 800000 in
theorem c_iSetList_no (long : Int) (v : Value) (zs : List Int) (w : World) (hv : IntsAt w v zs) (hB : ¬ Bok long zs) : Calls Tryd.prog 34 #[bm long v] w fun e w' => e = .returned (.tuple #[.slice none 0 0, .bool false]) ∧ Below w.heap.size w w' := by
  have HB := Lib.hid ((Below.refl w.heap.size w).alloc (Nat.le_refl _) (.cells (cb long v) 25))
  have hv' := Lib.hid (hv.below HB.out); clear hv
  go_enter Tryd.func34, Tryd.ntmps34
  go_wp2_with fail
  refine (c_wordsOf_no long v zs _ hv'.out hB).mono ?_
  rintro e w1 ⟨rfl, hb1⟩
  have B1 := Lib.hid (bstep HB.out hb1 HB.out.size)
  clear hb1
  go_wp2
  go_ret2
  exact ⟨rfl, B1.out.alloc B1.out.size _⟩
set_option maxHeartbeats 800000 in
theorem c_iSetList_yes (long : Int) (v : Value) (zs : List Int) (w : World) (hv : IntsAt w v zs) (hB : Bok long zs) (hT : TabB w) : Calls Tryd.prog 34 #[bm long v] w fun e w' => ∃ v', e = .returned (.tuple #[v', .bool true]) ∧ Own w' w.heap.size v' (ups (bitF fun k => zs.getD k 0) 96) ∧ Below w.heap.size w w' := by
  have HB := Lib.hid ((Below.refl w.heap.size w).alloc (Nat.le_refl _) (.cells (cb long v) 25))
  have hv' := Lib.hid (hv.below HB.out); clear hv
  obtain ⟨f, hf⟩ : ∃ f : Nat → Int, f = fun k => zs.getD k 0 := ⟨_, rfl⟩
  rw [← hf]
  have hww : ∀ k, k < 6 → W16 (f k) := fun k _ => by rw [hf]; exact hB.w k
  have HW := Lib.hid hww
  have HF := Lib.hid hf
  have HT := Lib.hid hT
  clear hf hww hT
  go_enter Tryd.func34, Tryd.ntmps34
  go_wp2_with fail
  refine (c_wordsOf_yes long v zs f HF.out _ hv'.out hB).mono ?_
  rintro e w1 ⟨rfl, hb1⟩
  have B1 := bstep HB.out hb1 HB.out.size
  have L1 := B1.alloc B1.size (.cells (c6 f) 69)
  have HL1 := Lib.hid L1
  clear hb1 B1 L1
  go_wp2_with (refine wl_load6 rfl _ rfl w1.heap.size f (Row.new w1 _ _) rfl ?_)
  refine (c_list f _ HW.out (HT.out.below HL1.out)).mono ?_
  rintro e w2 ⟨v2, rfl, ho, hb2⟩
  have HO : Hid (Own w2 w.heap.size v2 (ups (bitF f) 96)) := ho.mono HL1.out.size
  have B2 := Lib.hid (bstep HL1.out hb2 HL1.out.size)
  clear ho hb2
  go_wp2
  go_ret2
  exact ⟨v2, rfl, HO.out, B2.out⟩
end Go.Proofs.YtcelebblcjhpaaaDoor
