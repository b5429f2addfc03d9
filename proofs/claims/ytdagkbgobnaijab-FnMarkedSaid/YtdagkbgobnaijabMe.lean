/- laws.FnMarked: for every input the law answers true, and the input reads as it did. No condition. -/
import Derived.Test.YtdagkbgobnaijabMb
import Derived.Test.YtdagkbgobnaijabCs3
import Derived.Test.YtdagkbgobnaijabMf
import Derived.Test.YtdagkbgobnaijabLift5
namespace Go.Proofs.Ytdagkbgobnaijab
open Go.RowKit Ph

theorem mem_of_getD {zs : List Int} {k : Nat} {x : Int} (h : k < zs.length) (e : zs.getD k 0 = x) : x ∈ zs := by
  rw [← e, List.getD, List.getElem?_eq_getElem h]; simp
theorem not_mem_all {zs : List Int} {x : Int} (h : ∀ i, i < zs.length → zs.getD i 0 ≠ x) : ¬ x ∈ zs := fun hm => by
  obtain ⟨i, hi, e⟩ := List.mem_iff_getElem.1 hm
  exact h i hi (by rw [List.getD, List.getElem?_eq_getElem hi]; simpa using e)

set_option maxHeartbeats 800000 in
theorem c_has (v : Value) (zs : List Int) (x : Int) (w : World) (hv : IntsAt w v zs) (hm : zs.length ≤ 1000) :
    Calls Try.prog 36 #[v, .int .i64 x] w fun e w' => e = .returned (.bool (decide (x ∈ zs))) ∧ w = w' := by
  obtain ⟨a, ca, rfl, hA⟩ := hv
  generalize hn : zs.length = n at *
  have HN := Lib.hid hn; clear hn
  by_cases h0 : n = 0
  · subst h0
    obtain rfl : zs = [] := List.eq_nil_of_length_eq_zero HN.out
    clear hA
    go_enter Try.func36, Try.ntmps36
    go_wp2
    refine wp_loop_rounds 1 ?_
    rw [rounds_succ]
    go_wp2
    go_ret
    exact ⟨r_b (by simp), rfl⟩
  · obtain ⟨ba, oa, rfl, hca⟩ := hA (by omega)
    clear hA
    have HCA := Lib.hid hca; clear hca
    go_enter Try.func36, Try.ntmps36
    go_wp2
    go_loopw [9] (fun i wr => ∃ k : Nat, k ≤ n ∧ i = .int .i64 k ∧ Hid (∀ i, i < k → zs.getD i 0 ≠ x) ∧ wr = w) (fun i _ => n - (intOf i).toNat)
    case atStart => exact ⟨0, Nat.zero_le _, rfl, fun i hi => absurd hi (Nat.not_lt_zero _), rfl⟩
    case round =>
      obtain ⟨k, hk, rfl, ht, rfl⟩ := hrel
      by_cases hlt : k < n
      · have q1 := HCA.out k hlt
        have i1 : (k : Int) < (n : Int) := by omega
        generalize hx : zs.getD k 0 = y at q1
        have HX := Lib.hid hx; clear hx
        by_cases exy : y = x
        · subst exy
          have HE : Hid (decide (y ∈ zs) = true) := decide_eq_true (mem_of_getD (by rw [HN.out]; exact hlt) HX.out)
          go_wp2
          go_ret
          exact ⟨r_b HE.out.symm, rfl⟩
        · have HNE := Lib.hid exy
          have hbq : (y == x) = false := by simpa using exy
          clear exy
          go_wp2
          go_roundw
          case rel => exact ⟨k + 1, by omega, by go_num, fun i hi => by
            rcases Nat.lt_succ_iff_lt_or_eq.1 hi with h | h
            · exact ht.out i h
            · rw [h, HX.out]; exact HNE.out, trivial⟩
          case measure => simp [intOf]; omega
      · have HE : Hid (decide (x ∈ zs) = false) := decide_eq_false (not_mem_all (fun i hi => ht.out i (by rw [HN.out] at hi; omega)))
        have i1 : ¬ (k : Int) < (n : Int) := by omega
        go_wp2
        go_ret
        exact ⟨r_b HE.out.symm, rfl⟩

theorem own_ints22 (w : World) (B : Nat) (hB : B ≤ w.heap.size) : Own (w.alloc (.cells #[.int .i64 (-1), .int .i64 3] 3)) B (.slice (some ⟨w.heap.size, 0, none⟩) 2 2) [-1, 3] :=
  ⟨rfl, .inr ⟨w.heap.size, 2, _, rfl, hB, heap_alloc_new _ _, Nat.le_refl _, by decide, rfl, rfl⟩⟩
set_option maxRecDepth 100000 in
set_option maxHeartbeats 3200000 in
theorem c_colours (c n many : Nat) (w : World) (hc : CurIs w c n) (hn : n ≤ 999990000) (hm : many ≤ 20) :
    Calls Try.prog 113 #[.pointer (some ⟨c, 0, none⟩), .int .i64 (many : Int)] w fun e w' => ∃ v l, e = .returned v ∧ l.length = many ∧ Own w' w.heap.size v l ∧ CurIs w' c (n + 100) ∧ w.grownBy w' (some c) := by
  obtain ⟨i0, hi, hz0, hz1, hz2⟩ := info_parts info_int
  have HD := Lib.hid (Dv.start hc)
  have hcw := hc.lt
  clear hc
  go_enter Try.func113, Try.ntmps113
  go_wp2_with fail
  go_loopw [5, 6] (fun t i wr => ∃ (j : Nat) (l : List Int), j ≤ many ∧ i = .int .i64 (j : Int) ∧ Hid (l.length = j) ∧ Hid (Own wr w.heap.size t l) ∧ Hid (Dv w c (n + 2 * j) wr)) (fun _ i _ => many - (intOf i).toNat)
  case atStart => exact ⟨0, [], Nat.zero_le _, rfl, rfl, Own.nil _ _, HD⟩
  case round =>
    obtain ⟨j, l, hj, rfl, hl, how, hD⟩ := hrel
    by_cases hlt : j < many
    · have i1 : (j : Int) < (many : Int) := by omega
      go_wp2_with fail
      refine (c_pick c (n + 2 * j) 3 _ hD.out.1 (by omega) (by omega) (by omega)).mono ?_
      rintro e w6 ⟨x, hx, rfl, hc6, hg6⟩
      have D6 := Lib.hid (hD.out.step hc6 hg6)
      have O6 : Own w6 w.heap.size u5 l := Own.chg how.out (chgC hg6) (fun g e => .inr (by have := (owns_lt how.out e).1; omega))
      have HO1 := Lib.hid (O6.below (below1 w6 (.cells #[.int .i64 x] 3)))
      have HB1 := Lib.hid ((Below.refl w.heap.size w6).alloc D6.out.size (.cells #[.int .i64 x] 3))
      have HS := Lib.hid (src_int w6 x)
      have HLN : Hid ((l.map (Value.int .i64)).length ≤ 20) := by unfold Hid; rw [List.length_map, hl.out]; omega
      have HL2 : Hid (l.length ≤ 20) := by unfold Hid; rw [hl.out]; omega
      have HWS : Hid (w.heap.size ≤ (w6.alloc (.cells #[.int .i64 x] 3)).heap.size) := by unfold Hid; have := D6.out.size; simp; omega
      clear hc6 hg6 O6
      go_wp2_with (at_builtin; refine wl_appOwn _ rfl _ _ 25 rfl w.heap.size 3 i0 (.int .i64 0) 8 Try.underlying25 hi hz0 hz1 hz2 rfl u5 _ _ rfl HO1.out _ _ rfl HS.out (by have := HL2.out; simp; unfold maxLen; omega) (by have := HL2.out; simp; omega) HWS.out ?_; intro v1 w1 ho1 hg1 hbl; have O1 : Hid (Own w1 w.heap.size v1 (l ++ [x])) := (by { unfold Hid Own; rw [List.map_append, List.length_append]; exact ho1 }); have D1 := Lib.hid (D6.out.low (HB1.out.grown hg1 HWS.out (fun g' hg' => (owns_lt HO1.out hg').1))); clear ho1 hg1 hbl)
      go_roundw
      case rel => exact ⟨j + 1, l ++ [x], by omega, by go_num, by unfold Hid; rw [List.length_append, hl.out]; rfl, O1, D1⟩
      case measure => simp [intOf]; omega
    · obtain rfl : j = many := by omega
      have i1 : ¬ (j : Int) < (j : Int) := by omega
      by_cases h0 : j = 0
      · subst h0
        obtain rfl : l = [] := List.eq_nil_of_length_eq_zero hl.out
        obtain ⟨pv, qv, hv⟩ := how.out.ints.shape
        subst hv
        have hnn : ¬ (0 : Int) < ((([] : List Int).length : Nat) : Int) := by simp
        go_wp2_with fail
        go_ret
        first | exact ⟨_, rfl, how.out, hD.out.1.mono (by omega), hD.out.2.1⟩ | exact ⟨_, [], rfl, rfl, how.out, hD.out.1.mono (by omega), hD.out.2.1⟩
      · rcases how.out.shape' with ⟨_, q⟩ | ⟨g, cap, hv⟩
        · rw [q] at hl; exact absurd hl.out.symm h0
        subst hv
        have hlj := hl.out
        rw [hlj] at how
        have h0' : (0 : Int) < (j : Int) := by omega
        rw [hlj]
        have HLJ := Lib.hid hlj
        clear hlj
        rw [← HLJ.out] at how
        rw [HLJ.out] at how
        go_wp2_with fail
        refine (c_one c (n + 2 * j) 30 _ hD.out.1 (by omega) (by omega) (by omega)).mono ?_
        rintro e w6 ⟨bo, rfl, hc6, hg6⟩
        have D6 := Lib.hid (hD.out.step hc6 hg6)
        have O6 := Lib.hid (Own.chg how.out (chgC hg6) (fun g e => .inr (by have := (owns_lt how.out e).1; omega)))
        clear hc6 hg6
        cases bo
        · go_wp2_with fail
          go_ret
          exact ⟨_, l, rfl, HLJ.out, O6.out, D6.out.1.mono (by omega), D6.out.2.1⟩
        · have hbI := below1 w6 (.cells #[.int .i64 (-1), .int .i64 3] 3)
          have OI := Lib.hid (own_ints22 w6 (c + 1) (by have := D6.out.size; omega))
          have D7 := Lib.hid (D6.out.low (hbI.mono D6.out.size))
          have O7 := Lib.hid (O6.out.below hbI)
          clear hbI
          go_wp2_with fail
          refine (c_among c (n + 2 * j + 2) _ _ (-1) 3 _ D7.out.1 (by omega) OI.out (by decide) (by decide) (by decide)).mono ?_
          rintro e w8 ⟨x, hx, rfl, hc8, hg8⟩
          have D8 := D7.out.step hc8 hg8
          have O8 := Own.chg O7.out (chgC hg8) (fun g e => .inr (by have := (owns_lt O7.out e).1; omega))
          obtain ⟨s1, s2, s3, s4⟩ := O8.store1 HLJ.out (z := 0) (by omega) x
          have hgW : w.heap.size ≤ g := (owns_lt O8 rfl).1
          have D9 := Lib.hid (D8.low ((Below.refl w.heap.size w8).setCell (p := ⟨g, 0, none⟩) hgW (.int .i64 x)))
          have S1 := Lib.hid s1
          clear hc8 hg8 D8 O8 s1 s2
          generalize l.getD 0 0 = y at *
          go_wp2_with fail
          go_ret
          exact ⟨_, l.set 0 x, rfl, by rw [List.length_set]; exact HLJ.out, S1.out, D9.out.1.mono (by omega), D9.out.2.1⟩
end Go.Proofs.Ytdagkbgobnaijab
namespace Go.Proofs.Ytdagkbgobnaijab
open Go.RowKit Ph

theorem dv_new {w : World} {v : Value} {zs : List Int} (h : BytesAt w v zs) : Dv (w.alloc (.cells #[v, .int .i64 0, .int .u64 0] 75)) w.heap.size 0 (w.alloc (.cells #[v, .int .i64 0, .int .u64 0] 75)) := Dv.start (cur_new h)
theorem dv_below {w X : World} {v : Value} {m : Nat} (h : Dv (w.alloc (.cells #[v, .int .i64 0, .int .u64 0] 75)) w.heap.size m X) : Below w.heap.size w X := below_of_cur h.2.1
theorem Own.stepC {X Y : World} {B c : Nat} {v : Value} {zs : List Int} (h : Own X B v zs) (hB : c < B) (hg : X.grownBy Y (some c)) : Own Y B v zs := Own.chg h (chgC hg) (fun g e => .inr (by have := (owns_lt h e).1; omega))
theorem OwnH.stepC {X Y : World} {B c hi : Nat} {a b cc : Value} {h : H} (k : OwnH X B hi a b cc h) (hB : c < B) (hg : X.grownBy Y (some c)) : OwnH Y B hi a b cc h := k.chg (chgC hg) (.inr (by omega))
set_option maxRecDepth 100000 in
set_option maxHeartbeats 3200000 in
theorem d_GreysIn (v : Value) (zs : List Int) (w : World) (hby : BytesAt w v zs) : Calls Try.prog 59 #[v] w fun e w' => ∃ v' l, e = .returned v' ∧ l.length ≤ 20 ∧ IntsAt w' v' l ∧ Below w.heap.size w w' := by
  have D0 := Lib.hid (dv_new hby)
  have hcs : w.heap.size < (w.alloc (.cells #[v, .int .i64 0, .int .u64 0] 75)).heap.size := by simp
  have OI := Lib.hid (show Own ((w.alloc (.cells #[v, .int .i64 0, .int .u64 0] 75)).alloc (.cells #[.int .i64 0, .int .i64 3, .int .i64 7, .int .i64 12, .int .i64 13] 3)) (w.heap.size + 1) (.slice (some ⟨(w.alloc (.cells #[v, .int .i64 0, .int .u64 0] 75)).heap.size, 0, none⟩) 5 5) [0, 3, 7, 12, 13] from ⟨rfl, .inr ⟨_, 5, _, rfl, by simp, heap_alloc_new _ _, Nat.le_refl _, by decide, rfl, rfl⟩⟩)
  have D1 := Lib.hid (D0.out.low (below1 (w.alloc (.cells #[v, .int .i64 0, .int .u64 0] 75)) (.cells #[.int .i64 0, .int .i64 3, .int .i64 7, .int .i64 12, .int .i64 13] 3)))
  rw [show (w.alloc (.cells #[v, .int .i64 0, .int .u64 0] 75)).heap.size = w.heap.size + 1 from World.size_alloc _ _] at OI
  obtain ⟨_, _, va, vc, rfl, _⟩ := hby

  go_enter Try.func59, Try.ntmps59
  go_wp2_with fail
  refine (c_among w.heap.size 0 _ _ 0 13 _ D1.out.1 (by omega) OI.out (by decide) (by decide) (by decide)).mono ?_
  rintro e w2 ⟨x, hx, rfl, hc2, hg2⟩
  have D2 := Lib.hid (D1.out.step hc2 hg2)
  obtain ⟨m, rfl⟩ : ∃ k : Nat, x = k := ⟨x.toNat, by omega⟩
  clear hc2 hg2
  go_wp2_with fail
  refine (c_colours w.heap.size (0 + 2) m _ D2.out.1 (by omega) (by omega)).mono ?_
  rintro e w3 ⟨v3, l, rfl, hl, ho3, hc3, hg3⟩
  have D3 := Lib.hid (D2.out.step hc3 hg3)
  have O3 := Lib.hid ho3.ints
  have HL : Hid (l.length ≤ 20) := by unfold Hid; omega
  clear hc3 hg3 ho3 hl
  go_wp2_with fail
  go_ret
  exact ⟨_, l, rfl, HL.out, O3.out, dv_below D3.out⟩
set_option maxRecDepth 100000 in
set_option maxHeartbeats 3200000 in
theorem d_ShadeThing (v : Value) (zs : List Int) (w : World) (hby : BytesAt w v zs) : Calls Try.prog 63 #[v] w fun e w' => ∃ v' l k, e = .returned (.tuple #[v', .int .i64 k]) ∧ l.length ≤ 20 ∧ IntsAt w' v' l ∧ Below w.heap.size w w' := by
  have D0 := Lib.hid (dv_new hby)
  obtain ⟨_, _, va, vc, rfl, _⟩ := hby

  go_enter Try.func63, Try.ntmps63
  go_wp2_with fail
  refine (c_colours w.heap.size 0 7 _ D0.out.1 (by omega) (by omega)).mono ?_
  rintro e w3 ⟨v3, l, rfl, hl, ho3, hc3, hg3⟩
  have D3 := Lib.hid (D0.out.step hc3 hg3)
  have O3 := Lib.hid ho3
  have HL : Hid (l.length ≤ 20) := by unfold Hid; omega
  clear hc3 hg3 ho3 hl
  go_wp2_with fail
  refine (c_pick w.heap.size (0 + 100) 9 _ D3.out.1 (by omega) (by omega) (by omega)).mono ?_
  rintro e w4 ⟨x, hx, rfl, hc4, hg4⟩
  have D4 := Lib.hid (D3.out.step hc4 hg4)
  have O4 := Lib.hid (Own.stepC O3.out (by simp) hg4)
  clear hc4 hg4
  go_wp2_with fail
  go_ret2
  exact ⟨_, l, _, rfl, HL.out, O4.out.ints, dv_below D4.out⟩

theorem row_stepC {X Y : World} {c g : Nat} {cs : Array Value} (h : Row X g 27 cs) (hn : g ≠ c) (hg : X.grownBy Y (some c)) : Row Y g 27 cs := Row.chg h (chgC hg) (by omega)
set_option maxRecDepth 100000 in
set_option maxHeartbeats 6400000 in
theorem d_ScanThing (v : Value) (zs : List Int) (w : World) (hby : BytesAt w v zs) : Calls Try.prog 56 #[v] w fun e w' => ∃ a b cc h v' l k, e = .returned (.tuple #[hv a b cc, v', .int .i64 k]) ∧ Sh h ∧ l.length ≤ 20 ∧ HeapAt w' a b cc h ∧ IntsAt w' v' l ∧ (-1 ≤ k ∧ k ≤ 20) ∧ Below w.heap.size w w' := by
  have hb1 := below1 w (.cells (c3 (.slice none 0 0) (.slice none 0 0) (.slice none 0 0)) 27)
  have D0 := Lib.hid (dv_new (hby.below hb1))
  have hs1 : (w.alloc (.cells (c3 (.slice none 0 0) (.slice none 0 0) (.slice none 0 0)) 27)).heap.size = w.heap.size + 1 := World.size_alloc _ _
  have hsW : ((w.alloc (.cells (c3 (.slice none 0 0) (.slice none 0 0) (.slice none 0 0)) 27)).alloc (.cells #[v, .int .i64 0, .int .u64 0] 75)).heap.size = w.heap.size + 1 + 1 := by simp
  rw [hs1] at D0
  have R0 := Lib.hid (show zrow ((w.alloc (.cells (c3 (.slice none 0 0) (.slice none 0 0) (.slice none 0 0)) 27)).alloc (.cells #[v, .int .i64 0, .int .u64 0] 75)) w.heap.size from (Row.new w 27 (c3 (.slice none 0 0) (.slice none 0 0) (.slice none 0 0))).alloc (.cells #[v, .int .i64 0, .int .u64 0] 75))
  have HB1 := Lib.hid hb1
  have HS1 := Lib.hid hs1; have HSW := Lib.hid hsW
  obtain ⟨_, _, va, vc, rfl, _⟩ := hby
  clear hb1 hs1 hsW
  go_enter Try.func56, Try.ntmps56
  go_wp2_with fail
  refine (c_heap (w.heap.size + 1) 0 _ D0.out.1 (by omega)).mono ?_
  rintro e w2 ⟨a, b, cc, h, rfl, hsh, hf1, ho2, hc2, hg2⟩
  obtain ⟨⟨pa, qa, rfl⟩, ⟨pb, qb, rfl⟩, ⟨pc, qc, rfl⟩⟩ := ho2.shapes
  rw [HSW.out] at ho2
  have SH := Lib.hid hsh
  have hf12 := hsh.n
  generalize hnf : h.f.length = nf at *
  generalize h.l.length = nl at *
  generalize h.r.length = nr at *
  have hba := below1 w2 (.cells (c3 (.slice pa nf qa) (.slice pb nl qb) (.slice pc nr qc)) 27)
  have D2 := D0.out.step hc2 hg2
  have R2 : zrow w2 w.heap.size := row_stepC R0.out (by omega) hg2
  have hs2 := D2.size
  rw [HSW.out] at hs2
  have DA := Lib.hid (D2.low (hba.mono D2.size))
  have RA := Lib.hid (show zrow _ _ from Row.alloc R2 (.cells (c3 (.slice pa nf qa) (.slice pb nl qb) (.slice pc nr qc)) 27))
  have VA := Lib.hid (show RowH _ _ _ _ _ from Row.new w2 27 (c3 (.slice pa nf qa) (.slice pb nl qb) (.slice pc nr qc)))
  have OA := Lib.hid (ho2.below hba)
  have LV : Hid (w.heap.size + 1 + 1 ≤ w2.heap.size) := hs2
  clear hnf hsh ho2 hc2 hg2 hba D2 R2 hs2 D0 R0
  go_wp2_with fail
  generalize hgv : w2.heap.size = gv at *
  clear hgv
  generalize w2.alloc (.cells (c3 (.slice pa nf qa) (.slice pb nl qb) (.slice pc nr qc)) 27) = w3 at *
  have DD := Lib.hid (DA.out.low (below_drew (Below.refl _ w3)))
  have RD : Hid (zrow w3.drew w.heap.size) := RA.out
  have VD : Hid (RowH w3.drew gv (.slice pa nf qa) (.slice pb nl qb) (.slice pc nr qc)) := VA.out
  have OD := Lib.hid (OA.out.below (below_drew (Below.refl w3.heap.size w3)))
  have d0 := VD.out.c0
  have d1 := VD.out.c1
  have d2 := VD.out.c2
  have hwn : IntKind.i64.wrap ((nf : Int) + 1) = (nf : Int) + 1 := IntWalk.i64_in _ (by omega)
  refine wp_region_held_drew (S := (fun w' => w'.cell? ⟨gv, 0, none⟩ = some (.slice pa nf qa) ∧ w'.cell? ⟨gv, 1, none⟩ = some (.slice pb nl qb) ∧ w'.cell? ⟨gv, 2, none⟩ = some (.slice pc nr qc))) (by kernel_rfl) (⟨d0, d1, d2⟩) (fun hHeld => ?_)
  refine wpAnyH_take (i := 0) (v := ?va0x1) rfl (by kernel_rfl) (by kernel_rfl) (by kernel_rfl) (fun _ _ _ h => h) (Or.inl ⟨by rfl, ?hy0x1⟩) (by assumption) ?rest0x1
  case hy0x1 => (intro w hSw; (try dsimp only at hSw); go_simp; try with_reducible rfl)
  (try simp only [Act.put, List.getElem_toArray, List.getElem_cons_zero, List.setIfInBounds_toArray, List.set_cons_zero, List.set_cons_succ])
  refine wpAnyH_take (i := 1) (v := ?va1x2) rfl (by kernel_rfl) (by kernel_rfl) (by kernel_rfl) (fun _ _ _ h => h) (Or.inl ⟨by rfl, ?hy1x2⟩) (by assumption) ?rest1x2
  case hy1x2 => (intro w hSw; (try dsimp only at hSw); go_simp; try with_reducible rfl)
  (try simp only [Act.put, List.getElem_toArray, List.getElem_cons_zero, List.getElem_cons_succ, List.setIfInBounds_toArray, List.set_cons_zero, List.set_cons_succ])
  refine wpAnyH_take (i := 2) (v := ?va2x3) rfl (by kernel_rfl) (by kernel_rfl) (by kernel_rfl) (fun _ _ _ h => h) (Or.inl ⟨by rfl, ?hy2x3⟩) (by assumption) ?rest2x3
  case hy2x3 => (intro w hSw; (try dsimp only at hSw); go_simp; try with_reducible rfl)
  (try simp only [Act.put, List.getElem_toArray, List.getElem_cons_zero, List.getElem_cons_succ, List.setIfInBounds_toArray, List.set_cons_zero, List.set_cons_succ])
  refine wpAnyH_take (i := 3) (v := ?va3x4) rfl (by kernel_rfl) (by kernel_rfl) (by kernel_rfl) (fun _ _ _ h => h) (Or.inl ⟨by rfl, ?hy3x4⟩) (by assumption) ?rest3x4
  case hy3x4 => (intro w hSw; (try dsimp only at hSw); go_simp; try with_reducible rfl)
  (try simp only [Act.put, List.getElem_toArray, List.getElem_cons_zero, List.getElem_cons_succ, List.setIfInBounds_toArray, List.set_cons_zero, List.set_cons_succ])
  refine wpAnyH_take (i := 4) (v := ?va4x5) rfl (by kernel_rfl) (by kernel_rfl) (by kernel_rfl) (fun _ _ _ h => h) (Or.inl ⟨by rfl, ?hy4x5⟩) (by assumption) ?rest4x5
  case hy4x5 => (intro w hSw; (try dsimp only at hSw); go_simp; try with_reducible rfl)
  (try simp only [Act.put, List.getElem_toArray, List.getElem_cons_zero, List.getElem_cons_succ, List.setIfInBounds_toArray, List.set_cons_zero, List.set_cons_succ])
  refine wpAnyH_take (i := 6) (v := ?va6x6) rfl (by kernel_rfl) (by kernel_rfl) (by kernel_rfl) (fun _ _ _ h => h) (Or.inl ⟨by rfl, ?hy6x6⟩) (by assumption) ?rest6x6
  case hy6x6 => (intro w hSw; (try dsimp only at hSw); go_simp; try with_reducible rfl)
  (try simp only [Act.put, List.getElem_toArray, List.getElem_cons_zero, List.getElem_cons_succ, List.setIfInBounds_toArray, List.set_cons_zero, List.set_cons_succ])
  refine wpAnyH_take (i := 7) (v := ?va7x7) rfl (by kernel_rfl) (by kernel_rfl) (by kernel_rfl) (fun _ _ _ h => h) (Or.inl ⟨by rfl, ?hy7x7⟩) (by assumption) ?rest7x7
  case hy7x7 => (intro w hSw; (try dsimp only at hSw); go_simp; try with_reducible rfl)
  (try simp only [Act.put, List.getElem_toArray, List.getElem_cons_zero, List.getElem_cons_succ, List.setIfInBounds_toArray, List.set_cons_zero, List.set_cons_succ])
  refine wpAnyH_take (i := 8) (v := ?va8x8) rfl (by kernel_rfl) (by kernel_rfl) (by kernel_rfl) (fun _ _ _ h => h) (Or.inl ⟨by rfl, ?hy8x8⟩) (by assumption) ?rest8x8
  case hy8x8 => (intro w hSw; (try dsimp only at hSw); go_simp; try with_reducible rfl)
  (try simp only [Act.put, List.getElem_toArray, List.getElem_cons_zero, List.getElem_cons_succ, List.setIfInBounds_toArray, List.set_cons_zero, List.set_cons_succ])
  refine wpAnyH_take (i := 9) (v := ?va9x9) rfl (by kernel_rfl) (by kernel_rfl) (by kernel_rfl) (fun _ _ _ h => h) (Or.inl ⟨by rfl, ?hy9x9⟩) (by assumption) ?rest9x9
  case hy9x9 => (intro w hSw; (try dsimp only at hSw); go_simp; try with_reducible rfl)
  (try simp only [Act.put, List.getElem_toArray, List.getElem_cons_zero, List.getElem_cons_succ, List.setIfInBounds_toArray, List.set_cons_zero, List.set_cons_succ])
  refine wpAnyH_take (i := 10) (v := ?va10x10) rfl (by kernel_rfl) (by kernel_rfl) (by kernel_rfl) (fun _ _ _ h => h) (Or.inl ⟨by rfl, ?hy10x10⟩) (by assumption) ?rest10x10
  case hy10x10 => (intro w hSw; (try dsimp only at hSw); go_simp; try with_reducible rfl)
  (try simp only [Act.put, List.getElem_toArray, List.getElem_cons_zero, List.getElem_cons_succ, List.setIfInBounds_toArray, List.set_cons_zero, List.set_cons_succ])
  refine wpAnyH_take (i := 12) (v := ?va12x11) rfl (by kernel_rfl) (by kernel_rfl) (by kernel_rfl) (fun _ _ _ h => h) (Or.inl ⟨by rfl, ?hy12x11⟩) (by assumption) ?rest12x11
  case hy12x11 => (intro w hSw; (try dsimp only at hSw); go_simp; try with_reducible rfl)
  (try simp only [Act.put, List.getElem_toArray, List.getElem_cons_zero, List.getElem_cons_succ, List.setIfInBounds_toArray, List.set_cons_zero, List.set_cons_succ])
  generalize w3.drew = wd at *
  clear d0 d1 d2
  refine wpAnyH_ready (rs := [5]) (by kernel_rfl) (by simp) ?_
  refine AllReadyH.cons rfl (fun K hK => ?_) AllReadyH.nil
  go_simp
  refine (c_colours (w.heap.size + 1) (0 + 200) nf _ DD.out.1 (by omega) (by omega)).mono ?_
  rintro e w5 ⟨v5, l, rfl, hl, ho5, hc5, hg5⟩
  have D5 := Lib.hid (DD.out.step hc5 hg5)
  have R5 := Lib.hid (show zrow _ _ from row_stepC RD.out (by omega) hg5)
  have V5 := Lib.hid (show RowH _ _ _ _ _ from row_stepC VD.out (by have := LV.out; omega) hg5)
  have O5 := Lib.hid (OD.out.stepC (by omega) hg5)
  have U5 := Lib.hid (ho5.mono (show w.heap.size + 1 + 1 ≤ wd.heap.size by have := VD.out.lt; have := LV.out; omega))
  have HL : Hid (l.length ≤ 20) := by unfold Hid; omega
  clear hc5 hg5 ho5 hl
  refine hK.out _ _ ⟨V5.out.c0, V5.out.c1, V5.out.c2⟩ (fun hHeld => ?_)
  clear hK K
  (try simp only [Act.put, List.getElem_toArray, List.getElem_cons_zero, List.getElem_cons_succ, List.setIfInBounds_toArray, List.set_cons_zero, List.set_cons_succ])
  refine wpAnyH_ready (rs := [11]) (by kernel_rfl) (by simp) ?_
  refine AllReadyH.cons rfl (fun K hK => ?_) AllReadyH.nil
  go_simp
  refine (c_pick (w.heap.size + 1) (0 + 200 + 100) ((nf : Int) + 1) _ D5.out.1 (by omega) (by omega) (by omega)).mono ?_
  rintro e w6 ⟨x6, hx6, rfl, hc5, hg5⟩
  have D6 := Lib.hid (D5.out.step hc5 hg5)
  have R6 := Lib.hid (show zrow _ _ from row_stepC R5.out (by omega) hg5)
  have V6 := Lib.hid (show RowH _ _ _ _ _ from row_stepC V5.out (by have := LV.out; omega) hg5)
  have O6 := Lib.hid (O5.out.stepC (by omega) hg5)
  have U6 := Lib.hid (Own.stepC U5.out (by omega) hg5)
  clear hc5 hg5
  refine hK.out _ _ ⟨V6.out.c0, V6.out.c1, V6.out.c2⟩ (fun hHeld => ?_)
  clear hK K
  (try simp only [Act.put, List.getElem_toArray, List.getElem_cons_zero, List.getElem_cons_succ, List.setIfInBounds_toArray, List.set_cons_zero, List.set_cons_succ])
  refine wpAnyH_ready (rs := [13]) (by kernel_rfl) (by simp) ?_
  refine AllReadyH.cons rfl (fun K hK => ?_) AllReadyH.nil
  go_simp
  refine (c_pick (w.heap.size + 1) (0 + 200 + 100 + 2) (9) _ D6.out.1 (by omega) (by omega) (by omega)).mono ?_
  rintro e w7 ⟨x7, hx7, rfl, hc5, hg5⟩
  have D7 := Lib.hid (D6.out.step hc5 hg5)
  have R7 := Lib.hid (show zrow _ _ from row_stepC R6.out (by omega) hg5)
  have V7 := Lib.hid (show RowH _ _ _ _ _ from row_stepC V6.out (by have := LV.out; omega) hg5)
  have O7 := Lib.hid (O6.out.stepC (by omega) hg5)
  have U7 := Lib.hid (Own.stepC U6.out (by omega) hg5)
  clear hc5 hg5
  refine hK.out _ _ ⟨V7.out.c0, V7.out.c1, V7.out.c2⟩ (fun hHeld => ?_)
  clear hK K
  (try simp only [Act.put, List.getElem_toArray, List.getElem_cons_zero, List.getElem_cons_succ, List.setIfInBounds_toArray, List.set_cons_zero, List.set_cons_succ])
  have q8 : 0 ≤ x7 / 8 ∧ x7 / 8 ≤ 1 := by omega
  have hq7 : x7.tdiv 8 = x7 / 8 := Int.tdiv_eq_ediv_of_nonneg hx7.1
  generalize hy8 : x7 / 8 = y8 at *
  have HY8 := Lib.hid hy8; clear hy8
  have hwy : IntKind.i64.wrap y8 = y8 := IntWalk.i64_in _ (by omega)
  have hws : IntKind.i64.wrap (x6 - y8) = x6 - y8 := IntWalk.i64_in _ (by omega)
  refine wpAnyH_take (i := 14) (v := ?va14x12) rfl (by kernel_rfl) (by kernel_rfl) (by kernel_rfl) (fun _ _ _ h => h) (Or.inl ⟨by rfl, ?hy14x12⟩) (by assumption) ?rest14x12
  case hy14x12 => (intro w hSw; (try dsimp only at hSw); go_simp; try with_reducible rfl)
  (try simp only [Act.put, List.getElem_toArray, List.getElem_cons_zero, List.getElem_cons_succ, List.setIfInBounds_toArray, List.set_cons_zero, List.set_cons_succ])
  refine wpAnyH_take (i := 15) (v := ?va15x13) rfl (by kernel_rfl) (by kernel_rfl) (by kernel_rfl) (fun _ _ _ h => h) (Or.inl ⟨by rfl, ?hy15x13⟩) (by assumption) ?rest15x13
  case hy15x13 => (intro w hSw; (try dsimp only at hSw); go_simp; try with_reducible rfl)
  (try simp only [Act.put, List.getElem_toArray, List.getElem_cons_zero, List.getElem_cons_succ, List.setIfInBounds_toArray, List.set_cons_zero, List.set_cons_succ])
  refine wpAnyH_ready (rs := [16]) (by kernel_rfl) (by simp) ?_
  refine AllReadyH.cons rfl (fun K hK => ?_) AllReadyH.nil
  have hch := chgRow w7 w.heap.size (c3 (.slice pa nf qa) (.slice pb nl qb) (.slice pc nr qc))
  have VN := Lib.hid (show RowH _ _ _ _ _ from Row.chg V7.out hch (.inr (by have := LV.out; omega)))
  have ON := Lib.hid (O7.out.chg hch (.inr (by omega)))
  have UN := Lib.hid (Own.chg U7.out hch (fun g e => .inr (by have := (owns_lt U7.out e).1; omega)))
  have BN := Lib.hid (below_setRow (g := w.heap.size) (HB1.out.trans ((show Below (w.alloc (.cells (c3 (.slice none 0 0) (.slice none 0 0) (.slice none 0 0)) 27)).heap.size (w.alloc (.cells (c3 (.slice none 0 0) (.slice none 0 0) (.slice none 0 0)) 27)) w7 from by have := dv_below (w := w.alloc (.cells (c3 (.slice none 0 0) (.slice none 0 0) (.slice none 0 0)) 27)) (v := .slice va zs.length vc) (m := 0 + 200 + 100 + 2 + 2) (X := w7) (by rw [HS1.out]; exact D7.out); exact this).mono HB1.out.size)) (Nat.le_refl _) (c3 (.slice pa nf qa) (.slice pb nl qb) (.slice pc nr qc)))
  clear hch
  refine wp_store_row 27 _ _ rfl w.heap.size (c3 (.slice pa nf qa) (.slice pb nl qb) (.slice pc nr qc)) rfl rfl 27 _ R7.out info_heap rfl (by simp [Value.oneCell']) ?_
  refine hK.out _ _ ⟨VN.out.c0, VN.out.c1, VN.out.c2⟩ (fun hHeld => ?_)
  clear hK K
  (try simp only [Act.put, List.getElem_toArray, List.getElem_cons_zero, List.getElem_cons_succ])
  refine wpAnyH_take (i := 17) (v := ?va17x14) rfl (by kernel_rfl) (by kernel_rfl) (by kernel_rfl) (fun _ _ _ h => h) (Or.inl ⟨by rfl, ?hy17x14⟩) (by assumption) ?rest17x14
  case hy17x14 => (intro w hSw; (try dsimp only at hSw); go_simp; try with_reducible rfl)
  (try simp only [Act.put, List.getElem_toArray, List.getElem_cons_zero, List.getElem_cons_succ, List.setIfInBounds_toArray, List.set_cons_zero, List.set_cons_succ])
  refine wpAnyH_take (i := 18) (v := ?va18x15) rfl (by kernel_rfl) (by kernel_rfl) (by kernel_rfl) (fun _ _ _ h => h) (Or.inl ⟨by rfl, ?hy18x15⟩) (by assumption) ?rest18x15
  case hy18x15 => (intro w hSw; (try dsimp only at hSw); go_simp; try with_reducible rfl)
  (try simp only [Act.put, List.getElem_toArray, List.getElem_cons_zero, List.getElem_cons_succ, List.setIfInBounds_toArray, List.set_cons_zero, List.set_cons_succ])
  refine wpAnyH_done (by kernel_rfl) ?_ _
  clear hHeld
  go_wp2_with fail
  refine bodyPost_ret (res_row_slot2 Try.results56 (Row.put R7.out (c3 (.slice pa nf qa) (.slice pb nl qb) (.slice pc nr qc))) rfl rfl rfl Try.underlying27 rfl info_heap) rfl ⟨_, _, _, h, _, l, x6 - y8, rfl, SH.out, HL.out, ON.out.reads, UN.out.ints, by omega, BN.out⟩
end Go.Proofs.Ytdagkbgobnaijab
namespace Go.Proofs.Ytdagkbgobnaijab
open Go.RowKit Ph

set_option maxRecDepth 100000 in
set_option maxHeartbeats 3200000 in
theorem c_choices (c n : Nat) (w : World) (hc : CurIs w c n) (hn : n ≤ 999990000) :
    Calls Try.prog 109 #[.pointer (some ⟨c, 0, none⟩)] w fun e w' => ∃ v l, e = .returned v ∧ l.length ≤ 41 ∧ Own w' w.heap.size v l ∧ CurIs w' c (n + 100) ∧ w.grownBy w' (some c) := by
  obtain ⟨i0, hi, hz0, hz1, hz2⟩ := info_parts info_int
  have HD := Lib.hid (Dv.start hc)
  have hcw := hc.lt
  clear hc
  go_enter Try.func109, Try.ntmps109
  go_wp2_with fail
  refine (c_pick c n 12 _ HD.out.1 (by omega) (by omega) (by omega)).mono ?_
  rintro e w2 ⟨x2, hx2, rfl, hc2, hg2⟩
  obtain ⟨k2, rfl⟩ : ∃ k : Nat, x2 = k := ⟨x2.toNat, by omega⟩
  have D2 := Lib.hid (HD.out.step hc2 hg2)
  clear hc2 hg2 HD
  go_wp2_with fail
  refine (c_one c (n + 2) 20 _ D2.out.1 (by omega) (by omega) (by omega)).mono ?_
  rintro e w3 ⟨bo, rfl, hc3, hg3⟩
  have D3 := Lib.hid (D2.out.step hc3 hg3)
  clear hc3 hg3 D2
  cases bo
  · skip
    go_wp2_with fail
    go_loopw [3, 4] (fun t i wr => ∃ (j : Nat) (l : List Int), j ≤ 41 ∧ i = .int .i64 (j : Int) ∧ Hid (l.length + j ≤ 41) ∧ Hid (Own wr w.heap.size t l) ∧ Hid (Dv w c (n + 6 + 2 * (41 - j)) wr)) (fun _ i _ => (intOf i).toNat)
    case atStart => exact ⟨k2, [], by omega, by go_num, by unfold Hid; simp; omega, Own.nil _ _, D3.out.mono (by omega)⟩
    case round =>
      obtain ⟨j, l, hj, rfl, hl, how, hD⟩ := hrel
      by_cases hlt : 0 < j
      · have i1 : (0 : Int) < (j : Int) := by omega
        have hwj : IntKind.i64.wrap ((j : Int) - 1) = ((j - 1 : Nat) : Int) := by rw [IntWalk.i64_in _ (by omega)]; omega
        go_wp2_with fail
        refine (c_pick c (n + 6 + 2 * (41 - j)) 100 _ hD.out.1 (by omega) (by omega) (by omega)).mono ?_
        rintro e w6 ⟨x, hx, rfl, hc6, hg6⟩
        have D6 := Lib.hid (hD.out.step hc6 hg6)
        have O6 : Own w6 w.heap.size u3 l := Own.chg how.out (chgC hg6) (fun g e => .inr (by have := (owns_lt how.out e).1; omega))
        have HO1 := Lib.hid (O6.below (below1 w6 (.cells #[.int .i64 x] 3)))
        have HB1 := Lib.hid ((Below.refl w.heap.size w6).alloc D6.out.size (.cells #[.int .i64 x] 3))
        have HS := Lib.hid (src_int w6 x)
        have HL2 : Hid (l.length ≤ 41) := by unfold Hid; have := hl.out; omega
        have HWS : Hid (w.heap.size ≤ (w6.alloc (.cells #[.int .i64 x] 3)).heap.size) := by unfold Hid; have := D6.out.size; simp; omega
        clear hc6 hg6 O6
        go_wp2_with (at_builtin; refine wl_appOwn _ rfl _ _ 25 rfl w.heap.size 3 i0 (.int .i64 0) 8 Try.underlying25 hi hz0 hz1 hz2 rfl u3 _ _ rfl HO1.out _ _ rfl HS.out (by have := HL2.out; simp; unfold maxLen; omega) (by have := HL2.out; simp; omega) HWS.out ?_; intro v1 w1 ho1 hg1 hbl; have O1 : Hid (Own w1 w.heap.size v1 (l ++ [x])) := (by { unfold Hid Own; rw [List.map_append, List.length_append]; exact ho1 }); have D1 := Lib.hid (D6.out.low (HB1.out.grown hg1 HWS.out (fun g' hg' => (owns_lt HO1.out hg').1))); clear ho1 hg1 hbl)
        go_roundw
        case rel => exact ⟨j - 1, l ++ [x], by omega, by go_num, by unfold Hid; have := hl.out; simp; omega, O1, D1.out.mono (by omega)⟩
        case measure => simp [intOf]; omega
      · have i1 : ¬ (0 : Int) < (j : Int) := by omega
        go_wp2_with fail
        go_ret
        first | exact ⟨_, rfl, l, by have := hl.out; omega, how.out, hD.out.1.mono (by omega), hD.out.2.1⟩ | exact ⟨_, l, rfl, by have := hl.out; omega, how.out, hD.out.1.mono (by omega), hD.out.2.1⟩
  · go_wp2_with fail
    refine (c_pick c (n + 2 + 2) 2 _ D3.out.1 (by omega) (by omega) (by omega)).mono ?_
    rintro e w4 ⟨x4, hx4, rfl, hc4, hg4⟩
    obtain ⟨k4, rfl⟩ : ∃ k : Nat, x4 = k := ⟨x4.toNat, by omega⟩
    have D4 := Lib.hid (D3.out.step hc4 hg4)
    have hw4 : IntKind.i64.wrap (40 + (k4 : Int)) = ((40 + k4 : Nat) : Int) := by rw [IntWalk.i64_in _ (by omega)]; omega
    clear hc4 hg4 D3
    go_wp2_with fail
    go_loopw [3, 4] (fun t i wr => ∃ (j : Nat) (l : List Int), j ≤ 41 ∧ i = .int .i64 (j : Int) ∧ Hid (l.length + j ≤ 41) ∧ Hid (Own wr w.heap.size t l) ∧ Hid (Dv w c (n + 6 + 2 * (41 - j)) wr)) (fun _ i _ => (intOf i).toNat)
    case atStart => exact ⟨40 + k4, [], by omega, by go_num, by unfold Hid; simp; omega, Own.nil _ _, D4.out.mono (by omega)⟩
    case round =>
      obtain ⟨j, l, hj, rfl, hl, how, hD⟩ := hrel
      by_cases hlt : 0 < j
      · have i1 : (0 : Int) < (j : Int) := by omega
        have hwj : IntKind.i64.wrap ((j : Int) - 1) = ((j - 1 : Nat) : Int) := by rw [IntWalk.i64_in _ (by omega)]; omega
        go_wp2_with fail
        refine (c_pick c (n + 6 + 2 * (41 - j)) 100 _ hD.out.1 (by omega) (by omega) (by omega)).mono ?_
        rintro e w6 ⟨x, hx, rfl, hc6, hg6⟩
        have D6 := Lib.hid (hD.out.step hc6 hg6)
        have O6 : Own w6 w.heap.size u3 l := Own.chg how.out (chgC hg6) (fun g e => .inr (by have := (owns_lt how.out e).1; omega))
        have HO1 := Lib.hid (O6.below (below1 w6 (.cells #[.int .i64 x] 3)))
        have HB1 := Lib.hid ((Below.refl w.heap.size w6).alloc D6.out.size (.cells #[.int .i64 x] 3))
        have HS := Lib.hid (src_int w6 x)
        have HL2 : Hid (l.length ≤ 41) := by unfold Hid; have := hl.out; omega
        have HWS : Hid (w.heap.size ≤ (w6.alloc (.cells #[.int .i64 x] 3)).heap.size) := by unfold Hid; have := D6.out.size; simp; omega
        clear hc6 hg6 O6
        go_wp2_with (at_builtin; refine wl_appOwn _ rfl _ _ 25 rfl w.heap.size 3 i0 (.int .i64 0) 8 Try.underlying25 hi hz0 hz1 hz2 rfl u3 _ _ rfl HO1.out _ _ rfl HS.out (by have := HL2.out; simp; unfold maxLen; omega) (by have := HL2.out; simp; omega) HWS.out ?_; intro v1 w1 ho1 hg1 hbl; have O1 : Hid (Own w1 w.heap.size v1 (l ++ [x])) := (by { unfold Hid Own; rw [List.map_append, List.length_append]; exact ho1 }); have D1 := Lib.hid (D6.out.low (HB1.out.grown hg1 HWS.out (fun g' hg' => (owns_lt HO1.out hg').1))); clear ho1 hg1 hbl)
        go_roundw
        case rel => exact ⟨j - 1, l ++ [x], by omega, by go_num, by unfold Hid; have := hl.out; simp; omega, O1, D1.out.mono (by omega)⟩
        case measure => simp [intOf]; omega
      · have i1 : ¬ (0 : Int) < (j : Int) := by omega
        go_wp2_with fail
        go_ret
        first | exact ⟨_, rfl, l, by have := hl.out; omega, how.out, hD.out.1.mono (by omega), hD.out.2.1⟩ | exact ⟨_, l, rfl, by have := hl.out; omega, how.out, hD.out.1.mono (by omega), hD.out.2.1⟩
set_option maxRecDepth 100000 in
set_option maxHeartbeats 3200000 in
theorem d_GoodHeap (v : Value) (zs : List Int) (w : World) (hby : BytesAt w v zs) : Calls Try.prog 82 #[v] w fun e w' => ∃ a b cc h hi, e = .returned (hv a b cc) ∧ Sh h ∧ OwnH w' w.heap.size hi a b cc h ∧ Below w.heap.size w w' := by
  have hb1 := below1 w (.cells (c3 (.slice none 0 0) (.slice none 0 0) (.slice none 0 0)) 27)
  have D0 := Lib.hid (dv_new (hby.below hb1))
  have hs1 : (w.alloc (.cells (c3 (.slice none 0 0) (.slice none 0 0) (.slice none 0 0)) 27)).heap.size = w.heap.size + 1 := World.size_alloc _ _
  have hsW : ((w.alloc (.cells (c3 (.slice none 0 0) (.slice none 0 0) (.slice none 0 0)) 27)).alloc (.cells #[v, .int .i64 0, .int .u64 0] 75)).heap.size = w.heap.size + 1 + 1 := by simp
  rw [hs1] at D0
  have R0 := Lib.hid (show zrow ((w.alloc (.cells (c3 (.slice none 0 0) (.slice none 0 0) (.slice none 0 0)) 27)).alloc (.cells #[v, .int .i64 0, .int .u64 0] 75)) w.heap.size from (Row.new w 27 (c3 (.slice none 0 0) (.slice none 0 0) (.slice none 0 0))).alloc (.cells #[v, .int .i64 0, .int .u64 0] 75))
  have HB1 := Lib.hid hb1
  have HS1 := Lib.hid hs1; have HSW := Lib.hid hsW
  have DB : Hid (∀ X m, Dv ((w.alloc (.cells (c3 (.slice none 0 0) (.slice none 0 0) (.slice none 0 0)) 27)).alloc (.cells #[v, .int .i64 0, .int .u64 0] 75)) (w.heap.size + 1) m X → Below w.heap.size w X) := fun X m q => HB1.out.trans ((dv_below (w := w.alloc (.cells (c3 (.slice none 0 0) (.slice none 0 0) (.slice none 0 0)) 27)) (v := v) (m := m) (X := X) (by rw [HS1.out]; exact q)).mono HB1.out.size)
  obtain ⟨_, _, va, vc, rfl, _⟩ := hby
  clear hb1 hs1 hsW
  go_enter Try.func82, Try.ntmps82
  go_wp2_with fail
  refine (c_heap (w.heap.size + 1) 0 _ D0.out.1 (by omega)).mono ?_
  rintro e w2 ⟨a, b, cc, h, rfl, hsh, hf1, ho2, hc2, hg2⟩
  obtain ⟨⟨pa, qa, rfl⟩, ⟨pb, qb, rfl⟩, ⟨pc, qc, rfl⟩⟩ := ho2.shapes
  rw [HSW.out] at ho2
  have SH := Lib.hid hsh
  have hf12 := hsh.n
  generalize h.f.length = nf at *
  generalize h.l.length = nl at *
  generalize h.r.length = nr at *
  have D2 := Lib.hid (D0.out.step hc2 hg2)
  have R2 := Lib.hid (show zrow w2 w.heap.size from row_stepC R0.out (by omega) hg2)
  have OH := Lib.hid ho2
  clear hsh ho2 hc2 hg2 D0 R0
  have ON := Lib.hid (OH.out.chg (chgRow w2 w.heap.size (c3 (.slice pa nf qa) (.slice pb nl qb) (.slice pc nr qc))) (.inr (by omega)))
  have BN := Lib.hid (below_setRow (g := w.heap.size) (DB.out _ _ D2.out) (Nat.le_refl _) (c3 (.slice pa nf qa) (.slice pb nl qb) (.slice pc nr qc)))
  go_wp2_with (refine wl_storeH rfl _ _ rfl w.heap.size (.slice pa nf qa) (.slice pb nl qb) (.slice pc nr qc) _ _ _ R2.out rfl rfl rfl rfl rfl ?_)
  refine bodyPost_ret (res_row Try.results82 (Row.put R2.out (c3 (.slice pa nf qa) (.slice pb nl qb) (.slice pc nr qc))) rfl Try.underlying27 rfl info_heap) rfl ⟨_, _, _, h, _, rfl, SH.out, ON.out.wide (by omega) (Nat.le_refl _), BN.out⟩
set_option maxRecDepth 100000 in
set_option maxHeartbeats 3200000 in
theorem d_StartColours (v : Value) (zs : List Int) (w : World) (hby : BytesAt w v zs) : Calls Try.prog 53 #[v] w fun e w' => ∃ a b cc h, e = .returned (hv a b cc) ∧ Sh h ∧ HeapAt w' a b cc h ∧ Below w.heap.size w w' := by
  have hb1 := below1 w (.cells (c3 (.slice none 0 0) (.slice none 0 0) (.slice none 0 0)) 27)
  have hs1 : (w.alloc (.cells (c3 (.slice none 0 0) (.slice none 0 0) (.slice none 0 0)) 27)).heap.size = w.heap.size + 1 := World.size_alloc _ _
  have HY := Lib.hid (hby.below hb1)
  have R0 := Lib.hid (show zrow (w.alloc (.cells (c3 (.slice none 0 0) (.slice none 0 0) (.slice none 0 0)) 27)) w.heap.size from Row.new w 27 (c3 (.slice none 0 0) (.slice none 0 0) (.slice none 0 0)))
  have HB1 := Lib.hid hb1; have HS1 := Lib.hid hs1
  obtain ⟨_, _, va, vc, rfl, _⟩ := hby
  clear hb1 hs1
  go_enter Try.func53, Try.ntmps53
  go_wp2_with fail
  refine (d_GoodHeap _ zs _ HY.out).mono ?_
  rintro e w2 ⟨a, b, cc, h, hi, rfl, hsh, ho2, hb2⟩
  obtain ⟨⟨pa, qa, rfl⟩, ⟨pb, qb, rfl⟩, ⟨pc, qc, rfl⟩⟩ := ho2.shapes
  rw [HS1.out] at ho2
  have SH := Lib.hid hsh
  generalize h.f.length = nf at *
  generalize h.l.length = nl at *
  generalize h.r.length = nr at *
  have R2 := Lib.hid (show zrow w2 w.heap.size from Row.below R0.out hb2)
  have ON := Lib.hid (ho2.chg (chgRow w2 w.heap.size (c3 (.slice pa nf qa) (.slice pb nl qb) (.slice pc nr qc))) (.inr (Nat.le_refl _)))
  have BN := Lib.hid (below_setRow (g := w.heap.size) (bst HB1.out hb2 HB1.out.size) (Nat.le_refl _) (c3 (.slice pa nf qa) (.slice pb nl qb) (.slice pc nr qc)))
  clear hsh ho2 hb2
  go_wp2_with (refine wl_storeH rfl _ _ rfl w.heap.size (.slice pa nf qa) (.slice pb nl qb) (.slice pc nr qc) _ _ _ R2.out rfl rfl rfl rfl rfl ?_)
  refine bodyPost_ret (res_row Try.results53 (Row.put R2.out (c3 (.slice pa nf qa) (.slice pb nl qb) (.slice pc nr qc))) rfl Try.underlying27 rfl info_heap) rfl ⟨_, _, _, h, rfl, SH.out, ON.out.reads, BN.out⟩
set_option maxRecDepth 100000 in
set_option maxHeartbeats 3200000 in
theorem d_MarkAll (v : Value) (zs : List Int) (w : World) (hby : BytesAt w v zs) : Calls Try.prog 48 #[v] w fun e w' => ∃ a b cc h v' l, e = .returned (.tuple #[hv a b cc, v']) ∧ Sh h ∧ l.length ≤ 41 ∧ HeapAt w' a b cc h ∧ IntsAt w' v' l ∧ Below w.heap.size w w' := by
  have hb1 := below1 w (.cells (c3 (.slice none 0 0) (.slice none 0 0) (.slice none 0 0)) 27)
  have D0 := Lib.hid (dv_new (hby.below hb1))
  have hs1 : (w.alloc (.cells (c3 (.slice none 0 0) (.slice none 0 0) (.slice none 0 0)) 27)).heap.size = w.heap.size + 1 := World.size_alloc _ _
  have hsW : ((w.alloc (.cells (c3 (.slice none 0 0) (.slice none 0 0) (.slice none 0 0)) 27)).alloc (.cells #[v, .int .i64 0, .int .u64 0] 75)).heap.size = w.heap.size + 1 + 1 := by simp
  rw [hs1] at D0
  have R0 := Lib.hid (show zrow ((w.alloc (.cells (c3 (.slice none 0 0) (.slice none 0 0) (.slice none 0 0)) 27)).alloc (.cells #[v, .int .i64 0, .int .u64 0] 75)) w.heap.size from (Row.new w 27 (c3 (.slice none 0 0) (.slice none 0 0) (.slice none 0 0))).alloc (.cells #[v, .int .i64 0, .int .u64 0] 75))
  have HB1 := Lib.hid hb1
  have HS1 := Lib.hid hs1; have HSW := Lib.hid hsW
  have DB : Hid (∀ X m, Dv ((w.alloc (.cells (c3 (.slice none 0 0) (.slice none 0 0) (.slice none 0 0)) 27)).alloc (.cells #[v, .int .i64 0, .int .u64 0] 75)) (w.heap.size + 1) m X → Below w.heap.size w X) := fun X m q => HB1.out.trans ((dv_below (w := w.alloc (.cells (c3 (.slice none 0 0) (.slice none 0 0) (.slice none 0 0)) 27)) (v := v) (m := m) (X := X) (by rw [HS1.out]; exact q)).mono HB1.out.size)
  obtain ⟨_, _, va, vc, rfl, _⟩ := hby
  clear hb1 hs1 hsW
  go_enter Try.func48, Try.ntmps48
  go_wp2_with fail
  refine (c_heap (w.heap.size + 1) 0 _ D0.out.1 (by omega)).mono ?_
  rintro e w2 ⟨a, b, cc, h, rfl, hsh, hf1, ho2, hc2, hg2⟩
  obtain ⟨⟨pa, qa, rfl⟩, ⟨pb, qb, rfl⟩, ⟨pc, qc, rfl⟩⟩ := ho2.shapes
  rw [HSW.out] at ho2
  have SH := Lib.hid hsh
  have hf12 := hsh.n
  generalize h.f.length = nf at *
  generalize h.l.length = nl at *
  generalize h.r.length = nr at *
  have D2 := Lib.hid (D0.out.step hc2 hg2)
  have R2 := Lib.hid (show zrow w2 w.heap.size from row_stepC R0.out (by omega) hg2)
  have OH := Lib.hid ho2
  clear hsh ho2 hc2 hg2 D0 R0
  go_wp2_with fail
  refine (c_choices (w.heap.size + 1) (0 + 200) _ D2.out.1 (by omega)).mono ?_
  rintro e w3 ⟨v3, l, rfl, hl, ho3, hc3, hg3⟩
  have D3 := Lib.hid (D2.out.step hc3 hg3)
  have R3 := Lib.hid (show zrow w3 w.heap.size from row_stepC R2.out (by omega) hg3)
  have O3 := OH.out.stepC (by omega) hg3
  have U3 := ho3.mono (show w.heap.size + 1 + 1 ≤ w2.heap.size by have := D2.out.size; rw [HSW.out] at this; exact this)
  have ON := Lib.hid (O3.chg (chgRow w3 w.heap.size (c3 (.slice pa nf qa) (.slice pb nl qb) (.slice pc nr qc))) (.inr (by omega)))
  have UN := Lib.hid (Own.chg U3 (chgRow w3 w.heap.size (c3 (.slice pa nf qa) (.slice pb nl qb) (.slice pc nr qc))) (fun g e => .inr (by have := (owns_lt U3 e).1; omega)))
  have BN := Lib.hid (below_setRow (g := w.heap.size) (DB.out _ _ D3.out) (Nat.le_refl _) (c3 (.slice pa nf qa) (.slice pb nl qb) (.slice pc nr qc)))
  have HL := Lib.hid hl
  clear hc3 hg3 ho3 O3 U3 hl
  go_wp2_with (refine wl_storeH rfl _ _ rfl w.heap.size (.slice pa nf qa) (.slice pb nl qb) (.slice pc nr qc) _ _ _ R3.out rfl rfl rfl rfl rfl ?_)
  refine bodyPost_ret (res_row_slot Try.results48 (Row.put R3.out (c3 (.slice pa nf qa) (.slice pb nl qb) (.slice pc nr qc))) rfl rfl Try.underlying27 rfl info_heap) rfl ⟨_, _, _, h, _, l, rfl, SH.out, HL.out, ON.out.reads, UN.out.ints, BN.out⟩
set_option maxRecDepth 100000 in
set_option maxHeartbeats 3200000 in
theorem d_IsSound (v : Value) (zs : List Int) (w : World) (hby : BytesAt w v zs) : Calls Try.prog 51 #[v] w fun e w' => ∃ a b cc h v' l, e = .returned (.tuple #[hv a b cc, v']) ∧ Sh h ∧ HeapAt w' a b cc h ∧ IntsAt w' v' l ∧ l.length ≤ 1000 ∧ Below w.heap.size w w' := by
  have hb1 := below1 w (.cells (c3 (.slice none 0 0) (.slice none 0 0) (.slice none 0 0)) 27)
  have D0 := Lib.hid (dv_new (hby.below hb1))
  have hs1 : (w.alloc (.cells (c3 (.slice none 0 0) (.slice none 0 0) (.slice none 0 0)) 27)).heap.size = w.heap.size + 1 := World.size_alloc _ _
  have hsW : ((w.alloc (.cells (c3 (.slice none 0 0) (.slice none 0 0) (.slice none 0 0)) 27)).alloc (.cells #[v, .int .i64 0, .int .u64 0] 75)).heap.size = w.heap.size + 1 + 1 := by simp
  rw [hs1] at D0
  have R0 := Lib.hid (show zrow ((w.alloc (.cells (c3 (.slice none 0 0) (.slice none 0 0) (.slice none 0 0)) 27)).alloc (.cells #[v, .int .i64 0, .int .u64 0] 75)) w.heap.size from (Row.new w 27 (c3 (.slice none 0 0) (.slice none 0 0) (.slice none 0 0))).alloc (.cells #[v, .int .i64 0, .int .u64 0] 75))
  have HB1 := Lib.hid hb1
  have HS1 := Lib.hid hs1; have HSW := Lib.hid hsW
  have DB : Hid (∀ X m, Dv ((w.alloc (.cells (c3 (.slice none 0 0) (.slice none 0 0) (.slice none 0 0)) 27)).alloc (.cells #[v, .int .i64 0, .int .u64 0] 75)) (w.heap.size + 1) m X → Below w.heap.size w X) := fun X m q => HB1.out.trans ((dv_below (w := w.alloc (.cells (c3 (.slice none 0 0) (.slice none 0 0) (.slice none 0 0)) 27)) (v := v) (m := m) (X := X) (by rw [HS1.out]; exact q)).mono HB1.out.size)
  obtain ⟨_, _, va, vc, rfl, _⟩ := hby
  clear hb1 hs1 hsW
  go_enter Try.func51, Try.ntmps51
  go_wp2_with fail
  refine (c_heap (w.heap.size + 1) 0 _ D0.out.1 (by omega)).mono ?_
  rintro e w2 ⟨a, b, cc, h, rfl, hsh, hf1, ho2, hc2, hg2⟩
  obtain ⟨⟨pa, qa, rfl⟩, ⟨pb, qb, rfl⟩, ⟨pc, qc, rfl⟩⟩ := ho2.shapes
  rw [HSW.out] at ho2
  have SH := Lib.hid hsh
  have hf12 := hsh.n
  generalize h.f.length = nf at *
  generalize h.l.length = nl at *
  generalize h.r.length = nr at *
  have D2 := Lib.hid (D0.out.step hc2 hg2)
  have R2 := Lib.hid (show zrow w2 w.heap.size from row_stepC R0.out (by omega) hg2)
  have OH := Lib.hid ho2
  clear hsh ho2 hc2 hg2 D0 R0
  have hba := below1 w2 (.cells (c3 (.slice pa nf qa) (.slice pb nl qb) (.slice pc nr qc)) 27)
  have hs2 := D2.out.size
  rw [HSW.out] at hs2
  have DA := Lib.hid (D2.out.low (hba.mono D2.out.size))
  have RA := Lib.hid (show zrow _ _ from Row.alloc R2.out (.cells (c3 (.slice pa nf qa) (.slice pb nl qb) (.slice pc nr qc)) 27))
  have VA := Lib.hid (show RowH _ _ _ _ _ from Row.new w2 27 (c3 (.slice pa nf qa) (.slice pb nl qb) (.slice pc nr qc)))
  have OA := Lib.hid (OH.out.below hba)
  have LV : Hid (w.heap.size + 1 + 1 ≤ w2.heap.size) := hs2
  have c0 := VA.out.c0
  have c1 := VA.out.c1
  have c2 := VA.out.c2
  clear hba hs2 D2 R2 OH
  go_wp2_with fail
  refine (s_MarkAll (.slice pa nf qa) (.slice pb nl qb) (.slice pc nr qc) (.slice none 0 0) h [] _ OA.out.reads ⟨none, 0, rfl, fun q => by simp at q⟩).mono ?_
  rintro e w4 ⟨v4, rfl, ho4, hb4⟩
  have D4 := Lib.hid (DA.out.low (hb4.mono DA.out.size))
  have R4 := Lib.hid (show zrow _ _ from Row.below RA.out hb4)
  have V4 := Lib.hid (show RowH _ _ _ _ _ from Row.below VA.out hb4)
  have O4 := Lib.hid (OA.out.below hb4)
  have hl4 := markR_len h []
  have U4 : Hid (OwnH w4 (w.heap.size + 1 + 1) w4.heap.size (.slice none 0 0) (.slice none 0 0) v4 ⟨[], [], (markR h []).1⟩) := ho4.wide (by have := DA.out.size; rw [HSW.out] at this; exact this) (Nat.le_refl _)
  obtain ⟨p4, q4, rfl⟩ := ho4.reads.r.shape
  simp only at hl4 U4 ⊢
  generalize (markR h []).1 = l4 at *
  generalize (markR h []).2 = n4 at *
  generalize markOk h [] = ok4 at *
  generalize hll : l4.length = ln at *
  have HLL := Lib.hid hll; clear hll
  clear ho4 hb4 DA RA VA OA c0 c1 c2
  have HGV : Hid (w2.heap.size = w2.heap.size) := rfl
  generalize w2.heap.size = gv at *
  clear HGV
  cases ok4
  · skip
    go_wp2_with fail
    have DD := Lib.hid (D4.out.low (below_drew (Below.refl _ w4)))
    have RD : Hid (zrow w4.drew w.heap.size) := R4.out
    have VD : Hid (RowH w4.drew gv (.slice pa nf qa) (.slice pb nl qb) (.slice pc nr qc)) := V4.out
    have OD := Lib.hid (O4.out.below (below_drew (Below.refl w4.heap.size w4)))
    have d0 := VD.out.c0
    have d1 := VD.out.c1
    have d2 := VD.out.c2
    refine wp_region_held_drew (S := (fun w' => w'.cell? ⟨gv, 0, none⟩ = some (.slice pa nf qa) ∧ w'.cell? ⟨gv, 1, none⟩ = some (.slice pb nl qb) ∧ w'.cell? ⟨gv, 2, none⟩ = some (.slice pc nr qc))) (by kernel_rfl) (⟨d0, d1, d2⟩) (fun hHeld => ?_)
    refine wpAnyH_take (i := 0) (v := ?va0x1) rfl (by kernel_rfl) (by kernel_rfl) (by kernel_rfl) (fun _ _ _ h => h) (Or.inl ⟨by rfl, ?hy0x1⟩) (by assumption) ?rest0x1
    case hy0x1 => (intro w hSw; (try dsimp only at hSw); go_simp; try with_reducible rfl)
    (try simp only [Act.put, List.getElem_toArray, List.getElem_cons_zero, List.setIfInBounds_toArray, List.set_cons_zero, List.set_cons_succ])
    refine wpAnyH_take (i := 1) (v := ?va1x2) rfl (by kernel_rfl) (by kernel_rfl) (by kernel_rfl) (fun _ _ _ h => h) (Or.inl ⟨by rfl, ?hy1x2⟩) (by assumption) ?rest1x2
    case hy1x2 => (intro w hSw; (try dsimp only at hSw); go_simp; try with_reducible rfl)
    (try simp only [Act.put, List.getElem_toArray, List.getElem_cons_zero, List.getElem_cons_succ, List.setIfInBounds_toArray, List.set_cons_zero, List.set_cons_succ])
    refine wpAnyH_take (i := 2) (v := ?va2x3) rfl (by kernel_rfl) (by kernel_rfl) (by kernel_rfl) (fun _ _ _ h => h) (Or.inl ⟨by rfl, ?hy2x3⟩) (by assumption) ?rest2x3
    case hy2x3 => (intro w hSw; (try dsimp only at hSw); go_simp; try with_reducible rfl)
    (try simp only [Act.put, List.getElem_toArray, List.getElem_cons_zero, List.getElem_cons_succ, List.setIfInBounds_toArray, List.set_cons_zero, List.set_cons_succ])
    refine wpAnyH_take (i := 3) (v := ?va3x4) rfl (by kernel_rfl) (by kernel_rfl) (by kernel_rfl) (fun _ _ _ h => h) (Or.inl ⟨by rfl, ?hy3x4⟩) (by assumption) ?rest3x4
    case hy3x4 => (intro w hSw; (try dsimp only at hSw); go_simp; try with_reducible rfl)
    (try simp only [Act.put, List.getElem_toArray, List.getElem_cons_zero, List.getElem_cons_succ, List.setIfInBounds_toArray, List.set_cons_zero, List.set_cons_succ])
    refine wpAnyH_take (i := 4) (v := ?va4x5) rfl (by kernel_rfl) (by kernel_rfl) (by kernel_rfl) (fun _ _ _ h => h) (Or.inl ⟨by rfl, ?hy4x5⟩) (by assumption) ?rest4x5
    case hy4x5 => (intro w hSw; (try dsimp only at hSw); go_simp; try with_reducible rfl)
    (try simp only [Act.put, List.getElem_toArray, List.getElem_cons_zero, List.getElem_cons_succ, List.setIfInBounds_toArray, List.set_cons_zero, List.set_cons_succ])
    refine wpAnyH_take (i := 5) (v := ?va5x6) rfl (by kernel_rfl) (by kernel_rfl) (by kernel_rfl) (fun _ _ _ h => h) (Or.inl ⟨by rfl, ?hy5x6⟩) (by assumption) ?rest5x6
    case hy5x6 => (intro w hSw; (try dsimp only at hSw); go_simp; try with_reducible rfl)
    (try simp only [Act.put, List.getElem_toArray, List.getElem_cons_zero, List.getElem_cons_succ, List.setIfInBounds_toArray, List.set_cons_zero, List.set_cons_succ])
    generalize w4.drew = wd at *
    clear d0 d1 d2
    refine wpAnyH_ready (rs := [6]) (by kernel_rfl) (by simp) ?_
    refine AllReadyH.cons rfl (fun K hK => ?_) AllReadyH.nil
    go_simp
    refine (c_pick (w.heap.size + 1) (0 + 200) 20 _ DD.out.1 (by omega) (by omega) (by omega)).mono ?_
    rintro e w6 ⟨x6, hx6, rfl, hc5, hg5⟩
    have D6 := Lib.hid (DD.out.step hc5 hg5)
    have R6 := Lib.hid (show zrow _ _ from row_stepC RD.out (by omega) hg5)
    have V6 := Lib.hid (show RowH _ _ _ _ _ from row_stepC VD.out (by have := LV.out; omega) hg5)
    have O6 := Lib.hid (OD.out.stepC (by omega) hg5)
    clear hc5 hg5
    refine hK.out _ _ ⟨V6.out.c0, V6.out.c1, V6.out.c2⟩ (fun hHeld => ?_)
    clear hK K
    (try simp only [Act.put, List.getElem_toArray, List.getElem_cons_zero, List.getElem_cons_succ, List.setIfInBounds_toArray, List.set_cons_zero, List.set_cons_succ])
    have hq7 : x6.tdiv 19 = x6 / 19 := Int.tdiv_eq_ediv_of_nonneg hx6.1
    obtain ⟨y8, hy8⟩ : ∃ y : Nat, x6 / 19 = y := ⟨(x6 / 19).toNat, by omega⟩
    have hy1 : y8 ≤ 1 := by omega
    rw [hy8] at hq7
    have HY8 := Lib.hid hy8; clear hy8
    have hwy : IntKind.i64.wrap (y8 : Int) = (y8 : Int) := IntWalk.i64_in _ (by omega)
    have hws : IntKind.i64.wrap ((nf : Int) + (y8 : Int)) = ((nf + y8 : Nat) : Int) := by rw [IntWalk.i64_in _ (by omega)]; omega
    have hq8 : x6 / 19 = (y8 : Int) := HY8.out
    refine wpAnyH_take (i := 7) (v := ?va7x7) rfl (by kernel_rfl) (by kernel_rfl) (by kernel_rfl) (fun _ _ _ h => h) (Or.inl ⟨by rfl, ?hy7x7⟩) (by assumption) ?rest7x7
    case hy7x7 => (intro w hSw; (try dsimp only at hSw); go_simp; try with_reducible rfl)
    (try simp only [Act.put, List.getElem_toArray, List.getElem_cons_zero, List.getElem_cons_succ, List.setIfInBounds_toArray, List.set_cons_zero, List.set_cons_succ])
    refine wpAnyH_take (i := 8) (v := ?va8x8) rfl (by kernel_rfl) (by kernel_rfl) (by kernel_rfl) (fun _ _ _ h => h) (Or.inl ⟨by rfl, ?hy8x8⟩) (by assumption) ?rest8x8
    case hy8x8 => (intro w hSw; (try dsimp only at hSw); go_simp; try with_reducible rfl)
    (try simp only [Act.put, List.getElem_toArray, List.getElem_cons_zero, List.getElem_cons_succ, List.setIfInBounds_toArray, List.set_cons_zero, List.set_cons_succ])
    refine wpAnyH_ready (rs := [9]) (by kernel_rfl) (by simp) ?_
    refine AllReadyH.cons rfl (fun K hK => ?_) AllReadyH.nil
    go_simp
    refine (c_colours (w.heap.size + 1) (0 + 200 + 2) (nf + y8) _ D6.out.1 (by omega) (by omega)).mono ?_
    rintro e w7 ⟨v7, l7, rfl, hl7, ho7, hc5, hg5⟩
    have D7 := Lib.hid (D6.out.step hc5 hg5)
    have R7 := Lib.hid (show zrow _ _ from row_stepC R6.out (by omega) hg5)
    have V7 := Lib.hid (show RowH _ _ _ _ _ from row_stepC V6.out (by have := LV.out; omega) hg5)
    have O7 := Lib.hid (O6.out.stepC (by omega) hg5)
    have U7 := Lib.hid (ho7.mono (show w.heap.size + 1 + 1 ≤ w6.heap.size by have := V6.out.lt; have := LV.out; omega))
    have HL7 : Hid (l7.length ≤ 1000) := by unfold Hid; omega
    clear hc5 hg5 ho7 hl7
    refine hK.out _ _ ⟨V7.out.c0, V7.out.c1, V7.out.c2⟩ (fun hHeld => ?_)
    clear hK K
    (try simp only [Act.put, List.getElem_toArray, List.getElem_cons_zero, List.getElem_cons_succ, List.setIfInBounds_toArray, List.set_cons_zero, List.set_cons_succ])
    refine wpAnyH_ready (rs := [10]) (by kernel_rfl) (by simp) ?_
    refine AllReadyH.cons rfl (fun K hK => ?_) AllReadyH.nil
    have hch := chgRow w7 w.heap.size (c3 (.slice pa nf qa) (.slice pb nl qb) (.slice pc nr qc))
    have VN := Lib.hid (show RowH _ _ _ _ _ from Row.chg V7.out hch (.inr (by have := LV.out; omega)))
    have ON := Lib.hid (O7.out.chg hch (.inr (by omega)))
    have UN := Lib.hid (Own.chg U7.out hch (fun g e => .inr (by have := (owns_lt U7.out e).1; omega)))
    have BN := Lib.hid (below_setRow (g := w.heap.size) (DB.out _ _ D7.out) (Nat.le_refl _) (c3 (.slice pa nf qa) (.slice pb nl qb) (.slice pc nr qc)))
    clear hch
    refine wp_store_row 27 _ _ rfl w.heap.size (c3 (.slice pa nf qa) (.slice pb nl qb) (.slice pc nr qc)) rfl rfl 27 _ R7.out info_heap rfl (by simp [Value.oneCell']) ?_
    refine hK.out _ _ ⟨VN.out.c0, VN.out.c1, VN.out.c2⟩ (fun hHeld => ?_)
    clear hK K
    (try simp only [Act.put, List.getElem_toArray, List.getElem_cons_zero, List.getElem_cons_succ])
    refine wpAnyH_take (i := 11) (v := ?va11x9) rfl (by kernel_rfl) (by kernel_rfl) (by kernel_rfl) (fun _ _ _ h => h) (Or.inl ⟨by rfl, ?hy11x9⟩) (by assumption) ?rest11x9
    case hy11x9 => (intro w hSw; (try dsimp only at hSw); go_simp; try with_reducible rfl)
    (try simp only [Act.put, List.getElem_toArray, List.getElem_cons_zero, List.getElem_cons_succ, List.setIfInBounds_toArray, List.set_cons_zero, List.set_cons_succ])
    refine wpAnyH_done (by kernel_rfl) ?_ _
    clear hHeld
    go_wp2_with fail
    refine bodyPost_ret (res_row_slot Try.results51 (Row.put R7.out (c3 (.slice pa nf qa) (.slice pb nl qb) (.slice pc nr qc))) rfl rfl Try.underlying27 rfl info_heap) rfl ⟨_, _, _, h, _, l7, rfl, SH.out, ON.out.reads, UN.out.ints, HL7.out, BN.out⟩
  · go_wp2_with fail
    refine (c_one (w.heap.size + 1) (0 + 200) 2 _ D4.out.1 (by omega) (by omega) (by omega)).mono ?_
    rintro e w5 ⟨bo, rfl, hc5, hg5⟩
    have D5 := Lib.hid (D4.out.step hc5 hg5)
    have R5 := Lib.hid (show zrow _ _ from row_stepC R4.out (by omega) hg5)
    have V5 := Lib.hid (show RowH _ _ _ _ _ from row_stepC V4.out (by have := LV.out; omega) hg5)
    have O5 := Lib.hid (O4.out.stepC (by omega) hg5)
    have U5 := Lib.hid (U4.out.stepC (by omega) hg5)
    clear hc5 hg5 D4 R4 V4 O4 U4
    cases bo
    · skip
      go_wp2_with fail
      have DD := Lib.hid (D5.out.low (below_drew (Below.refl _ w5)))
      have RD : Hid (zrow w5.drew w.heap.size) := R5.out
      have VD : Hid (RowH w5.drew gv (.slice pa nf qa) (.slice pb nl qb) (.slice pc nr qc)) := V5.out
      have OD := Lib.hid (O5.out.below (below_drew (Below.refl w5.heap.size w5)))
      have d0 := VD.out.c0
      have d1 := VD.out.c1
      have d2 := VD.out.c2
      refine wp_region_held_drew (S := (fun w' => w'.cell? ⟨gv, 0, none⟩ = some (.slice pa nf qa) ∧ w'.cell? ⟨gv, 1, none⟩ = some (.slice pb nl qb) ∧ w'.cell? ⟨gv, 2, none⟩ = some (.slice pc nr qc))) (by kernel_rfl) (⟨d0, d1, d2⟩) (fun hHeld => ?_)
      refine wpAnyH_take (i := 0) (v := ?va0x10) rfl (by kernel_rfl) (by kernel_rfl) (by kernel_rfl) (fun _ _ _ h => h) (Or.inl ⟨by rfl, ?hy0x10⟩) (by assumption) ?rest0x10
      case hy0x10 => (intro w hSw; (try dsimp only at hSw); go_simp; try with_reducible rfl)
      (try simp only [Act.put, List.getElem_toArray, List.getElem_cons_zero, List.setIfInBounds_toArray, List.set_cons_zero, List.set_cons_succ])
      refine wpAnyH_take (i := 1) (v := ?va1x11) rfl (by kernel_rfl) (by kernel_rfl) (by kernel_rfl) (fun _ _ _ h => h) (Or.inl ⟨by rfl, ?hy1x11⟩) (by assumption) ?rest1x11
      case hy1x11 => (intro w hSw; (try dsimp only at hSw); go_simp; try with_reducible rfl)
      (try simp only [Act.put, List.getElem_toArray, List.getElem_cons_zero, List.getElem_cons_succ, List.setIfInBounds_toArray, List.set_cons_zero, List.set_cons_succ])
      refine wpAnyH_take (i := 2) (v := ?va2x12) rfl (by kernel_rfl) (by kernel_rfl) (by kernel_rfl) (fun _ _ _ h => h) (Or.inl ⟨by rfl, ?hy2x12⟩) (by assumption) ?rest2x12
      case hy2x12 => (intro w hSw; (try dsimp only at hSw); go_simp; try with_reducible rfl)
      (try simp only [Act.put, List.getElem_toArray, List.getElem_cons_zero, List.getElem_cons_succ, List.setIfInBounds_toArray, List.set_cons_zero, List.set_cons_succ])
      refine wpAnyH_take (i := 3) (v := ?va3x13) rfl (by kernel_rfl) (by kernel_rfl) (by kernel_rfl) (fun _ _ _ h => h) (Or.inl ⟨by rfl, ?hy3x13⟩) (by assumption) ?rest3x13
      case hy3x13 => (intro w hSw; (try dsimp only at hSw); go_simp; try with_reducible rfl)
      (try simp only [Act.put, List.getElem_toArray, List.getElem_cons_zero, List.getElem_cons_succ, List.setIfInBounds_toArray, List.set_cons_zero, List.set_cons_succ])
      refine wpAnyH_take (i := 4) (v := ?va4x14) rfl (by kernel_rfl) (by kernel_rfl) (by kernel_rfl) (fun _ _ _ h => h) (Or.inl ⟨by rfl, ?hy4x14⟩) (by assumption) ?rest4x14
      case hy4x14 => (intro w hSw; (try dsimp only at hSw); go_simp; try with_reducible rfl)
      (try simp only [Act.put, List.getElem_toArray, List.getElem_cons_zero, List.getElem_cons_succ, List.setIfInBounds_toArray, List.set_cons_zero, List.set_cons_succ])
      refine wpAnyH_take (i := 5) (v := ?va5x15) rfl (by kernel_rfl) (by kernel_rfl) (by kernel_rfl) (fun _ _ _ h => h) (Or.inl ⟨by rfl, ?hy5x15⟩) (by assumption) ?rest5x15
      case hy5x15 => (intro w hSw; (try dsimp only at hSw); go_simp; try with_reducible rfl)
      (try simp only [Act.put, List.getElem_toArray, List.getElem_cons_zero, List.getElem_cons_succ, List.setIfInBounds_toArray, List.set_cons_zero, List.set_cons_succ])
      generalize w5.drew = wd at *
      clear d0 d1 d2
      refine wpAnyH_ready (rs := [6]) (by kernel_rfl) (by simp) ?_
      refine AllReadyH.cons rfl (fun K hK => ?_) AllReadyH.nil
      go_simp
      refine (c_pick (w.heap.size + 1) (0 + 200 + 2) 20 _ DD.out.1 (by omega) (by omega) (by omega)).mono ?_
      rintro e w6 ⟨x6, hx6, rfl, hc5, hg5⟩
      have D6 := Lib.hid (DD.out.step hc5 hg5)
      have R6 := Lib.hid (show zrow _ _ from row_stepC RD.out (by omega) hg5)
      have V6 := Lib.hid (show RowH _ _ _ _ _ from row_stepC VD.out (by have := LV.out; omega) hg5)
      have O6 := Lib.hid (OD.out.stepC (by omega) hg5)
      clear hc5 hg5
      refine hK.out _ _ ⟨V6.out.c0, V6.out.c1, V6.out.c2⟩ (fun hHeld => ?_)
      clear hK K
      (try simp only [Act.put, List.getElem_toArray, List.getElem_cons_zero, List.getElem_cons_succ, List.setIfInBounds_toArray, List.set_cons_zero, List.set_cons_succ])
      have hq7 : x6.tdiv 19 = x6 / 19 := Int.tdiv_eq_ediv_of_nonneg hx6.1
      obtain ⟨y8, hy8⟩ : ∃ y : Nat, x6 / 19 = y := ⟨(x6 / 19).toNat, by omega⟩
      have hy1 : y8 ≤ 1 := by omega
      rw [hy8] at hq7
      have HY8 := Lib.hid hy8; clear hy8
      have hwy : IntKind.i64.wrap (y8 : Int) = (y8 : Int) := IntWalk.i64_in _ (by omega)
      have hws : IntKind.i64.wrap ((nf : Int) + (y8 : Int)) = ((nf + y8 : Nat) : Int) := by rw [IntWalk.i64_in _ (by omega)]; omega
      have hq8 : x6 / 19 = (y8 : Int) := HY8.out
      refine wpAnyH_take (i := 7) (v := ?va7x16) rfl (by kernel_rfl) (by kernel_rfl) (by kernel_rfl) (fun _ _ _ h => h) (Or.inl ⟨by rfl, ?hy7x16⟩) (by assumption) ?rest7x16
      case hy7x16 => (intro w hSw; (try dsimp only at hSw); go_simp; try with_reducible rfl)
      (try simp only [Act.put, List.getElem_toArray, List.getElem_cons_zero, List.getElem_cons_succ, List.setIfInBounds_toArray, List.set_cons_zero, List.set_cons_succ])
      refine wpAnyH_take (i := 8) (v := ?va8x17) rfl (by kernel_rfl) (by kernel_rfl) (by kernel_rfl) (fun _ _ _ h => h) (Or.inl ⟨by rfl, ?hy8x17⟩) (by assumption) ?rest8x17
      case hy8x17 => (intro w hSw; (try dsimp only at hSw); go_simp; try with_reducible rfl)
      (try simp only [Act.put, List.getElem_toArray, List.getElem_cons_zero, List.getElem_cons_succ, List.setIfInBounds_toArray, List.set_cons_zero, List.set_cons_succ])
      refine wpAnyH_ready (rs := [9]) (by kernel_rfl) (by simp) ?_
      refine AllReadyH.cons rfl (fun K hK => ?_) AllReadyH.nil
      go_simp
      refine (c_colours (w.heap.size + 1) (0 + 200 + 2 + 2) (nf + y8) _ D6.out.1 (by omega) (by omega)).mono ?_
      rintro e w7 ⟨v7, l7, rfl, hl7, ho7, hc5, hg5⟩
      have D7 := Lib.hid (D6.out.step hc5 hg5)
      have R7 := Lib.hid (show zrow _ _ from row_stepC R6.out (by omega) hg5)
      have V7 := Lib.hid (show RowH _ _ _ _ _ from row_stepC V6.out (by have := LV.out; omega) hg5)
      have O7 := Lib.hid (O6.out.stepC (by omega) hg5)
      have U7 := Lib.hid (ho7.mono (show w.heap.size + 1 + 1 ≤ w6.heap.size by have := V6.out.lt; have := LV.out; omega))
      have HL7 : Hid (l7.length ≤ 1000) := by unfold Hid; omega
      clear hc5 hg5 ho7 hl7
      refine hK.out _ _ ⟨V7.out.c0, V7.out.c1, V7.out.c2⟩ (fun hHeld => ?_)
      clear hK K
      (try simp only [Act.put, List.getElem_toArray, List.getElem_cons_zero, List.getElem_cons_succ, List.setIfInBounds_toArray, List.set_cons_zero, List.set_cons_succ])
      refine wpAnyH_ready (rs := [10]) (by kernel_rfl) (by simp) ?_
      refine AllReadyH.cons rfl (fun K hK => ?_) AllReadyH.nil
      have hch := chgRow w7 w.heap.size (c3 (.slice pa nf qa) (.slice pb nl qb) (.slice pc nr qc))
      have VN := Lib.hid (show RowH _ _ _ _ _ from Row.chg V7.out hch (.inr (by have := LV.out; omega)))
      have ON := Lib.hid (O7.out.chg hch (.inr (by omega)))
      have UN := Lib.hid (Own.chg U7.out hch (fun g e => .inr (by have := (owns_lt U7.out e).1; omega)))
      have BN := Lib.hid (below_setRow (g := w.heap.size) (DB.out _ _ D7.out) (Nat.le_refl _) (c3 (.slice pa nf qa) (.slice pb nl qb) (.slice pc nr qc)))
      clear hch
      refine wp_store_row 27 _ _ rfl w.heap.size (c3 (.slice pa nf qa) (.slice pb nl qb) (.slice pc nr qc)) rfl rfl 27 _ R7.out info_heap rfl (by simp [Value.oneCell']) ?_
      refine hK.out _ _ ⟨VN.out.c0, VN.out.c1, VN.out.c2⟩ (fun hHeld => ?_)
      clear hK K
      (try simp only [Act.put, List.getElem_toArray, List.getElem_cons_zero, List.getElem_cons_succ])
      refine wpAnyH_take (i := 11) (v := ?va11x18) rfl (by kernel_rfl) (by kernel_rfl) (by kernel_rfl) (fun _ _ _ h => h) (Or.inl ⟨by rfl, ?hy11x18⟩) (by assumption) ?rest11x18
      case hy11x18 => (intro w hSw; (try dsimp only at hSw); go_simp; try with_reducible rfl)
      (try simp only [Act.put, List.getElem_toArray, List.getElem_cons_zero, List.getElem_cons_succ, List.setIfInBounds_toArray, List.set_cons_zero, List.set_cons_succ])
      refine wpAnyH_done (by kernel_rfl) ?_ _
      clear hHeld
      go_wp2_with fail
      refine bodyPost_ret (res_row_slot Try.results51 (Row.put R7.out (c3 (.slice pa nf qa) (.slice pb nl qb) (.slice pc nr qc))) rfl rfl Try.underlying27 rfl info_heap) rfl ⟨_, _, _, h, _, l7, rfl, SH.out, ON.out.reads, UN.out.ints, HL7.out, BN.out⟩
    · skip
      have ON := Lib.hid (O5.out.chg (chgRow w5 w.heap.size (c3 (.slice pa nf qa) (.slice pb nl qb) (.slice pc nr qc))) (.inr (by omega)))
      have UN := Lib.hid (U5.out.chg (chgRow w5 w.heap.size (c3 (.slice pa nf qa) (.slice pb nl qb) (.slice pc nr qc))) (.inr (by omega)))
      have BN := Lib.hid (below_setRow (g := w.heap.size) (DB.out _ _ D5.out) (Nat.le_refl _) (c3 (.slice pa nf qa) (.slice pb nl qb) (.slice pc nr qc)))
      go_wp2_with (first
        | (refine wl_loadH rfl _ rfl gv _ _ _ V5.out rfl ?_)
        | (refine wl_storeH rfl _ _ rfl w.heap.size (.slice pa nf qa) (.slice pb nl qb) (.slice pc nr qc) _ _ _ R5.out rfl rfl rfl rfl rfl ?_))
      refine bodyPost_ret (res_row_slot Try.results51 (Row.put R5.out (c3 (.slice pa nf qa) (.slice pb nl qb) (.slice pc nr qc))) rfl rfl Try.underlying27 rfl info_heap) rfl ⟨_, _, _, h, _, l4, rfl, SH.out, ON.out.reads, UN.out.reads.r, by rw [HLL.out]; exact hl4, BN.out⟩
end Go.Proofs.Ytdagkbgobnaijab
namespace Go.Proofs.Ytdagkbgobnaijab.Ph
/-- What a marking leaves. -/
theorem mark_facts {h : H} {zs : List Int} (hok : markOk h zs = true) : good h = true ∧ bothB h (markR h zs).1 = true ∧ soundR h (markR h zs).1 = true ∧ markOk h [] = true ∧ (markR h []).1 = (markR h zs).1 ∧ (markR h []).2 = (markR h zs).2 ∧ (reachR h).length = (markR h zs).1.length ∧ (∀ i, (markR h zs).1.getD i 0 = if (reachR h).getD i false = true then 2 else 0) ∧ (markR h zs).2 = blk (markR h zs).1 (markR h zs).1.length ∧ (markR h zs).1.length ≤ 12 := by
  have hg : good h = true := by unfold markOk at hok; exact (Bool.and_eq_true _ _ ▸ hok).1
  have g := good_iff.1 hg
  have hok2 : markOk h [] = true := by unfold markOk; rw [hg]; rfl
  have e1 : (markR h zs).1 = endC h ∧ (markR h zs).2 = endN h := by unfold markR; rw [hok]; exact ⟨rfl, rfl⟩
  have e2 : (markR h []).1 = endC h ∧ (markR h []).2 = endN h := by unfold markR; rw [hok2]; exact ⟨rfl, rfl⟩
  have hr : reachR h = reachL h.f h.r := reachR_yes hg
  have col : Col (endC h) := fun i => by rw [endC_get]; split <;> omega
  have hb : bothB h (endC h) = true := bothB_iff.2 ⟨g, endC_len h, col⟩
  have hs : soundB h (endC h) = true := soundB_iff.2 fun k hk h2 => by
    unfold noWhite
    rw [List.all_eq_true]
    intro x hx
    rw [endC_get] at h2
    have rk : (reachL h.f h.r).getD k false = true := by
      by_cases q : (reachL h.f h.r).getD k false = true
      · exact q
      · rw [if_neg q] at h2; omega
    by_cases x0 : 0 ≤ x
    · have hxn : (endC h).getD x.toNat 0 ≠ 0 := by
        have hx' : ((x.toNat : Nat) : Int) ∈ h.f.getD k [] := by rw [Int.toNat_of_nonneg x0]; exact hx
        have : (reachL h.f h.r).getD x.toNat false = true := reachL_getD.2 ⟨g.fieldIn hx', .step (reachL_getD.1 rk).2 hx'⟩
        rw [endC_get, if_pos this]; omega
      rw [decide_eq_false hxn]; simp
    · rw [decide_eq_false x0]; simp
  rw [e1.1, e1.2, e2.1, e2.2]
  refine ⟨hg, hb, by rw [soundR_yes hb]; exact hs, hok2, rfl, rfl, by rw [hr, reachL_length, endC_len], fun i => by rw [endC_get, hr], by rw [endC_len]; rfl, by rw [endC_len]; exact g.n⟩
end Go.Proofs.Ytdagkbgobnaijab.Ph
namespace Go.Proofs.Ytdagkbgobnaijab
open Go.RowKit Ph

theorem EndI.reads' {zs : List Int} {ok : Bool} {w w' : World} {e : Ending} (h : EndI zs ok w e w') : ∃ v, e = .returned (.tuple #[v, .bool ok]) ∧ IntsAt w' v zs ∧ Below w.heap.size w w' := by
  obtain ⟨v, h1, h2, h3⟩ := h
  exact ⟨v, h1, h2.reads.r, h3⟩
theorem EndII.reads {zs : List Int} {n : Int} {ok : Bool} {w w' : World} {e : Ending} (h : EndII zs n ok w e w') : ∃ v, e = .returned (.tuple #[v, .int .i64 n, .bool ok]) ∧ IntsAt w' v zs ∧ Below w.heap.size w w' := by
  obtain ⟨v, h1, h2, h3⟩ := h
  exact ⟨v, h1, h2.reads.r, h3⟩
theorem EndB.reads {bs : List Bool} {ok : Bool} {w w' : World} {e : Ending} (h : EndB bs ok w e w') : ∃ v, e = .returned (.tuple #[v, .bool ok]) ∧ BoolsAt w' v bs ∧ Below w.heap.size w w' := by
  obtain ⟨v, h1, h2, h3⟩ := h
  exact ⟨v, h1, h2.reads.l, h3⟩
set_option maxHeartbeats 12800000 in
set_option maxRecDepth 100000 in
theorem walk_FnMarked (v0 : Value) (z0 : List Int) (v1 : Value) (z1 : List Int) (w : World) (hz0 : BytesAt w v0 z0) (hz1 : BytesAt w v1 z1) : Calls Try.prog 6 #[v0, v1] w fun e w' => e = .returned (.bool true) ∧ Below w.heap.size w w' := by
  obtain ⟨_, _, a0, ca0, hv0, _⟩ := id hz0
  obtain ⟨_, _, a2, ca2, hv2, _⟩ := id hz1
  have HZ := Lib.hid hz0; have M1 := Lib.hid hz1; clear hz0 hz1
  subst hv0
  subst hv2
  generalize hn : z0.length = n at *
  generalize hn2 : z1.length = n2 at *
  clear hn hn2
  by_cases hm : 1048576 < Go.RowKit.wrap64 ((n : Int) + (n2 : Int))
  · go_enter Try.func6, Try.ntmps6
    go_wp2
    go_ret
    exact ⟨rfl, Below.refl _ _⟩
  have L := Lib.hid (Below.refl w.heap.size w)
  go_enter Try.func6, Try.ntmps6
  go_wp2_with fail
  refine (d_MarkAll _ z0 _ HZ.out).mono ?_
  rintro e w1 ⟨a, b, cc, h, v, l, rfl, hsh, hl20, hA, hI, hb⟩
  clear HZ
  obtain ⟨pa, qa, rfl⟩ := hA.f.shape
  obtain ⟨pb, qb, rfl⟩ := hA.l.shape
  obtain ⟨pc, qc, rfl⟩ := hA.r.shape
  obtain ⟨pv, qv, rfl⟩ := hI.shape
  have HA := Lib.hid hA; have HI := Lib.hid hI
  have FS := Lib.hid (mark_facts (h := h) (zs := l))
  have HLS : Hid (∀ X : List Int, X = (markR h l).1 → X.length ≤ 1000) := fun X q => by rw [q]; exact markR_len h l
  have HC1 := Lib.hid (fun w' q1 q2 => c_MarkAll (.slice pa h.f.length qa) (.slice pb h.l.length qb) (.slice pc h.r.length qc) (.slice pv l.length qv) h l w' q1 q2)
  have HC2 := Lib.hid (fun w' q1 q2 => s_MarkAll (.slice pa h.f.length qa) (.slice pb h.l.length qb) (.slice pc h.r.length qc) (.slice pv l.length qv) h l w' q1 q2)
  have HC3 := Lib.hid (fun w' q1 => c_MarkAll (.slice pa h.f.length qa) (.slice pb h.l.length qb) (.slice pc h.r.length qc) (.slice none 0 0) h [] w' q1 ⟨none, 0, rfl, fun q => by simp at q⟩)
  have HC4 := Lib.hid (fun w' q1 => c_ReachedIn (.slice pa h.f.length qa) (.slice pb h.l.length qb) (.slice pc h.r.length qc) h w' q1)
  have HC5 := Lib.hid (fun w' vv q1 q2 => c_IsSound (.slice pa h.f.length qa) (.slice pb h.l.length qb) (.slice pc h.r.length qc) vv h (markR h l).1 w' q1 q2)
  clear hA hI hsh
  generalize (markR h l).1 = s at *
  generalize (markR h l).2 = ns at *
  generalize markOk h l = ok at *
  generalize (markR h []).1 = s' at *
  generalize (markR h []).2 = ns' at *
  generalize markOk h [] = ok' at *
  generalize reachR h = rb at *
  generalize good h = gd at *
  generalize bothB h s = bo at *
  generalize soundR h s = so at *
  generalize h.f.length = nf at *
  generalize h.l.length = nl at *
  generalize h.r.length = nr at *
  generalize l.length = m at *
  replace M1 := Lib.hid (M1.out.below hb)
  replace L := Lib.hid (bst L.out hb L.out.size)
  clear hb
  have hbq := below1 w1 (.cells (c3 (.slice pa nf qa) (.slice pb nl qb) (.slice pc nr qc)) 27)
  replace M1 := Lib.hid (M1.out.below hbq)
  replace HA := Lib.hid (HA.out.below hbq)
  replace HI := Lib.hid (HI.out.below hbq)
  replace L := Lib.hid (bst L.out hbq L.out.size)
  clear hbq
  have VH := Lib.hid (show RowH _ _ _ _ _ from Row.new w1 27 (c3 (.slice pa nf qa) (.slice pb nl qb) (.slice pc nr qc)))
  have c0 := VH.out.c0
  have c1 := VH.out.c1
  have c2 := VH.out.c2
  go_wp2_with fail
  clear c0 c1 c2
  refine (HC1.out _ HA.out HI.out).mono ?_
  intro e w2 hend
  obtain ⟨vG, rfl, hiG, hb⟩ := hend.reads
  clear hend
  obtain ⟨pG, qG, rfl⟩ := hiG.shape
  replace M1 := Lib.hid (M1.out.below hb)
  replace HA := Lib.hid (HA.out.below hb)
  replace HI := Lib.hid (HI.out.below hb)
  replace VH := Lib.hid (VH.out.below hb)
  replace L := Lib.hid (bst L.out hb L.out.size)
  have IG := Lib.hid hiG
  clear hb hiG
  have c0 := VH.out.c0
  have c1 := VH.out.c1
  have c2 := VH.out.c2
  go_wp2_with fail
  clear c0 c1 c2
  refine (HC2.out _ HA.out HI.out).mono ?_
  intro e w3 hend
  obtain ⟨vW, rfl, hiW, hb⟩ := hend.reads
  clear hend
  obtain ⟨pW, qW, rfl⟩ := hiW.shape
  replace M1 := Lib.hid (M1.out.below hb)
  replace HA := Lib.hid (HA.out.below hb)
  replace HI := Lib.hid (HI.out.below hb)
  replace VH := Lib.hid (VH.out.below hb)
  replace IG := Lib.hid (IG.out.below hb)
  replace L := Lib.hid (bst L.out hb L.out.size)
  have IW := Lib.hid hiW
  clear hb hiW
  have e1 : (ok != ok) = false := by simp
  have e2 : ((ns : Int) != (ns : Int)) = false := by simp
  go_wp2_with fail
  refine (c_sameInts _ _ s s _ IG.out IW.out (by have := HLS.out _ rfl; omega)).mono ?_
  rintro e w4 ⟨hre, nd, hnd⟩
  rw [decide_eq_true rfl] at hre
  subst hre
  have hb : Below w3.heap.size w3 w4 := by rw [hnd]; exact below_drewN (Below.refl _ _) nd
  clear hnd nd
  replace M1 := Lib.hid (M1.out.below hb)
  replace HA := Lib.hid (HA.out.below hb)
  replace HI := Lib.hid (HI.out.below hb)
  replace VH := Lib.hid (VH.out.below hb)
  replace IG := Lib.hid (IG.out.below hb)
  replace IW := Lib.hid (IW.out.below hb)
  replace L := Lib.hid (bst L.out hb L.out.size)
  clear hb
  cases ok
  · skip
    go_wp2_with fail
    refine (d_IsSound _ z1 _ M1.out).mono ?_
    rintro e x1a ⟨au, bu, cu, hu, v5, l5, rfl, hshu, hAu, hi5, hl5, hb⟩
    obtain ⟨pd, qd, rfl⟩ := hAu.f.shape
    obtain ⟨pe, qe, rfl⟩ := hAu.l.shape
    obtain ⟨pf, qf, rfl⟩ := hAu.r.shape
    obtain ⟨p5, q5, rfl⟩ := hi5.shape
    replace M1 := Lib.hid (M1.out.below hb)
    replace HA := Lib.hid (HA.out.below hb)
    replace HI := Lib.hid (HI.out.below hb)
    replace VH := Lib.hid (VH.out.below hb)
    replace IG := Lib.hid (IG.out.below hb)
    replace IW := Lib.hid (IW.out.below hb)
    replace L := Lib.hid (bst L.out hb L.out.size)
    have I5 := Lib.hid hi5; have HU := Lib.hid hAu
    have HS1 := Lib.hid (fun w' q1 q2 => c_IsSound (.slice pd hu.f.length qd) (.slice pe hu.l.length qe) (.slice pf hu.r.length qf) (.slice p5 l5.length q5) hu l5 w' q1 q2)
    have HS2 := Lib.hid (fun w' q1 q2 => s_IsSound (.slice pd hu.f.length qd) (.slice pe hu.l.length qe) (.slice pf hu.r.length qf) (.slice p5 l5.length q5) hu l5 w' q1 q2)
    clear hb hi5 hAu hshu
    generalize soundR hu l5 = so5 at *
    generalize bothB hu l5 = bo5 at *
    generalize hu.f.length = nfu at *
    generalize hu.l.length = nlu at *
    generalize hu.r.length = nru at *
    generalize l5.length = m5 at *
    have hbq := below1 x1a (.cells (c3 (.slice pd nfu qd) (.slice pe nlu qe) (.slice pf nru qf)) 27)
    replace M1 := Lib.hid (M1.out.below hbq)
    replace HA := Lib.hid (HA.out.below hbq)
    replace HI := Lib.hid (HI.out.below hbq)
    replace VH := Lib.hid (VH.out.below hbq)
    replace IG := Lib.hid (IG.out.below hbq)
    replace IW := Lib.hid (IW.out.below hbq)
    replace I5 := Lib.hid (I5.out.below hbq)
    replace HU := Lib.hid (HU.out.below hbq)
    replace L := Lib.hid (bst L.out hbq L.out.size)
    clear hbq
    have VU := Lib.hid (show RowH _ _ _ _ _ from Row.new x1a 27 (c3 (.slice pd nfu qd) (.slice pe nlu qe) (.slice pf nru qf)))
    have c0 := VU.out.c0
    have c1 := VU.out.c1
    have c2 := VU.out.c2
    go_wp2_with fail
    clear c0 c1 c2
    refine (HS1.out _ HU.out I5.out).mono ?_
    rintro e x2a ⟨rfl, hb⟩
    replace M1 := Lib.hid (M1.out.below hb)
    replace HA := Lib.hid (HA.out.below hb)
    replace HI := Lib.hid (HI.out.below hb)
    replace VH := Lib.hid (VH.out.below hb)
    replace IG := Lib.hid (IG.out.below hb)
    replace IW := Lib.hid (IW.out.below hb)
    replace I5 := Lib.hid (I5.out.below hb)
    replace HU := Lib.hid (HU.out.below hb)
    replace VU := Lib.hid (VU.out.below hb)
    replace L := Lib.hid (bst L.out hb L.out.size)
    clear hb
    have c0 := VU.out.c0
    have c1 := VU.out.c1
    have c2 := VU.out.c2
    go_wp2_with fail
    clear c0 c1 c2
    refine (HS2.out _ HU.out I5.out).mono ?_
    rintro e x3a ⟨rfl, hb⟩
    replace M1 := Lib.hid (M1.out.below hb)
    replace HA := Lib.hid (HA.out.below hb)
    replace HI := Lib.hid (HI.out.below hb)
    replace VH := Lib.hid (VH.out.below hb)
    replace IG := Lib.hid (IG.out.below hb)
    replace IW := Lib.hid (IW.out.below hb)
    replace I5 := Lib.hid (I5.out.below hb)
    replace HU := Lib.hid (HU.out.below hb)
    replace VU := Lib.hid (VU.out.below hb)
    replace L := Lib.hid (bst L.out hb L.out.size)
    clear hb
    go_wp2_with fail
    refine (d_StartColours _ z1 _ M1.out).mono ?_
    rintro e x4a ⟨av, bv, cv, hw, rfl, hshw, hAw, hb⟩
    obtain ⟨pg, qg, rfl⟩ := hAw.f.shape
    obtain ⟨ph, qh, rfl⟩ := hAw.l.shape
    obtain ⟨pi, qi, rfl⟩ := hAw.r.shape
    replace M1 := Lib.hid (M1.out.below hb)
    replace HA := Lib.hid (HA.out.below hb)
    replace HI := Lib.hid (HI.out.below hb)
    replace VH := Lib.hid (VH.out.below hb)
    replace IG := Lib.hid (IG.out.below hb)
    replace IW := Lib.hid (IW.out.below hb)
    replace I5 := Lib.hid (I5.out.below hb)
    replace HU := Lib.hid (HU.out.below hb)
    replace VU := Lib.hid (VU.out.below hb)
    replace L := Lib.hid (bst L.out hb L.out.size)
    have HW := Lib.hid hAw
    have HT1 := Lib.hid (fun w' q1 => c_StartColours (.slice pg hw.f.length qg) (.slice ph hw.l.length qh) (.slice pi hw.r.length qi) hw w' q1)
    have HT2 := Lib.hid (fun w' q1 => s_StartColours (.slice pg hw.f.length qg) (.slice ph hw.l.length qh) (.slice pi hw.r.length qi) hw w' q1)
    have LT : Hid (∀ X : List Int, X = startR hw → X.length ≤ 1000) := fun X q => by rw [q]; exact startR_len hw
    clear hb hAw hshw
    generalize startR hw = s7 at *
    generalize good hw = g7 at *
    generalize hw.f.length = nfw at *
    generalize hw.l.length = nlw at *
    generalize hw.r.length = nrw at *
    have hbq := below1 x4a (.cells (c3 (.slice pg nfw qg) (.slice ph nlw qh) (.slice pi nrw qi)) 27)
    replace M1 := Lib.hid (M1.out.below hbq)
    replace HA := Lib.hid (HA.out.below hbq)
    replace HI := Lib.hid (HI.out.below hbq)
    replace VH := Lib.hid (VH.out.below hbq)
    replace IG := Lib.hid (IG.out.below hbq)
    replace IW := Lib.hid (IW.out.below hbq)
    replace I5 := Lib.hid (I5.out.below hbq)
    replace HU := Lib.hid (HU.out.below hbq)
    replace VU := Lib.hid (VU.out.below hbq)
    replace HW := Lib.hid (HW.out.below hbq)
    replace L := Lib.hid (bst L.out hbq L.out.size)
    clear hbq
    have VW := Lib.hid (show RowH _ _ _ _ _ from Row.new x4a 27 (c3 (.slice pg nfw qg) (.slice ph nlw qh) (.slice pi nrw qi)))
    have c0 := VW.out.c0
    have c1 := VW.out.c1
    have c2 := VW.out.c2
    go_wp2_with fail
    clear c0 c1 c2
    refine (HT1.out _ HW.out).mono ?_
    intro e x5a hend
    obtain ⟨vT, rfl, hiT, hb⟩ := hend.reads'
    clear hend
    obtain ⟨pT, qT, rfl⟩ := hiT.shape
    replace M1 := Lib.hid (M1.out.below hb)
    replace HA := Lib.hid (HA.out.below hb)
    replace HI := Lib.hid (HI.out.below hb)
    replace VH := Lib.hid (VH.out.below hb)
    replace IG := Lib.hid (IG.out.below hb)
    replace IW := Lib.hid (IW.out.below hb)
    replace I5 := Lib.hid (I5.out.below hb)
    replace HU := Lib.hid (HU.out.below hb)
    replace VU := Lib.hid (VU.out.below hb)
    replace HW := Lib.hid (HW.out.below hb)
    replace VW := Lib.hid (VW.out.below hb)
    replace L := Lib.hid (bst L.out hb L.out.size)
    have IT := Lib.hid hiT
    clear hb hiT
    have c0 := VW.out.c0
    have c1 := VW.out.c1
    have c2 := VW.out.c2
    go_wp2_with fail
    clear c0 c1 c2
    refine (HT2.out _ HW.out).mono ?_
    intro e x6a hend
    obtain ⟨vQ, rfl, hiQ, hb⟩ := hend.reads'
    clear hend
    obtain ⟨pQ, qQ, rfl⟩ := hiQ.shape
    replace M1 := Lib.hid (M1.out.below hb)
    replace HA := Lib.hid (HA.out.below hb)
    replace HI := Lib.hid (HI.out.below hb)
    replace VH := Lib.hid (VH.out.below hb)
    replace IG := Lib.hid (IG.out.below hb)
    replace IW := Lib.hid (IW.out.below hb)
    replace I5 := Lib.hid (I5.out.below hb)
    replace HU := Lib.hid (HU.out.below hb)
    replace VU := Lib.hid (VU.out.below hb)
    replace HW := Lib.hid (HW.out.below hb)
    replace VW := Lib.hid (VW.out.below hb)
    replace IT := Lib.hid (IT.out.below hb)
    replace L := Lib.hid (bst L.out hb L.out.size)
    have IQ := Lib.hid hiQ
    clear hb hiQ
    have f1 : (bo5 == bo5) = true := by simp
    have f2 : (so5 == so5) = true := by simp
    have f3 : (g7 == g7) = true := by simp
    go_wp2_with fail
    refine (c_sameInts _ _ s7 s7 _ IT.out IQ.out (by have := LT.out _ rfl; omega)).mono ?_
    rintro e y1a ⟨hre, nd, hnd⟩
    rw [decide_eq_true rfl] at hre
    subst hre
    have hb : Below x6a.heap.size x6a y1a := by rw [hnd]; exact below_drewN (Below.refl _ _) nd
    clear hnd nd
    replace M1 := Lib.hid (M1.out.below hb)
    replace HA := Lib.hid (HA.out.below hb)
    replace HI := Lib.hid (HI.out.below hb)
    replace VH := Lib.hid (VH.out.below hb)
    replace IG := Lib.hid (IG.out.below hb)
    replace IW := Lib.hid (IW.out.below hb)
    replace I5 := Lib.hid (I5.out.below hb)
    replace HU := Lib.hid (HU.out.below hb)
    replace VU := Lib.hid (VU.out.below hb)
    replace HW := Lib.hid (HW.out.below hb)
    replace VW := Lib.hid (VW.out.below hb)
    replace IT := Lib.hid (IT.out.below hb)
    replace IQ := Lib.hid (IQ.out.below hb)
    replace L := Lib.hid (bst L.out hb L.out.size)
    clear hb
    go_wp2_with fail
    go_ret
    exact ⟨rfl, L.out⟩
  obtain ⟨g1, g2, g3, g4, g5, g6, g7, g8, g9, g10⟩ := FS.out rfl
  subst g1; subst g2; subst g3; subst g4; subst g5; subst g6
  have HG8 := Lib.hid g8; have HG9 := Lib.hid g9; have HG7 := Lib.hid g7
  clear FS g8 g9
  have c0 := VH.out.c0
  have c1 := VH.out.c1
  have c2 := VH.out.c2
  go_wp2_with fail
  clear c0 c1 c2
  refine (HC4.out _ HA.out).mono ?_
  intro e w5 hend
  obtain ⟨vR, rfl, hiR, hb⟩ := hend.reads
  clear hend
  obtain ⟨pR, qR, rfl⟩ := hiR.shape
  replace M1 := Lib.hid (M1.out.below hb)
  replace HA := Lib.hid (HA.out.below hb)
  replace HI := Lib.hid (HI.out.below hb)
  replace VH := Lib.hid (VH.out.below hb)
  replace IG := Lib.hid (IG.out.below hb)
  replace IW := Lib.hid (IW.out.below hb)
  replace L := Lib.hid (bst L.out hb L.out.size)
  have IR := Lib.hid hiR
  clear hb hiR
  have c0 := VH.out.c0
  have c1 := VH.out.c1
  have c2 := VH.out.c2
  go_wp2_with fail
  clear c0 c1 c2
  refine (HC5.out _ _ HA.out IG.out).mono ?_
  rintro e w6 ⟨rfl, hb⟩
  replace M1 := Lib.hid (M1.out.below hb)
  replace HA := Lib.hid (HA.out.below hb)
  replace HI := Lib.hid (HI.out.below hb)
  replace VH := Lib.hid (VH.out.below hb)
  replace IG := Lib.hid (IG.out.below hb)
  replace IW := Lib.hid (IW.out.below hb)
  replace IR := Lib.hid (IR.out.below hb)
  replace L := Lib.hid (bst L.out hb L.out.size)
  clear hb
  have c0 := VH.out.c0
  have c1 := VH.out.c1
  have c2 := VH.out.c2
  go_wp2_with fail
  clear c0 c1 c2
  refine (HC3.out _ HA.out).mono ?_
  intro e w7 hend
  obtain ⟨vK, rfl, hiK, hb⟩ := hend.reads
  clear hend
  obtain ⟨pK, qK, rfl⟩ := hiK.shape
  replace M1 := Lib.hid (M1.out.below hb)
  replace HA := Lib.hid (HA.out.below hb)
  replace HI := Lib.hid (HI.out.below hb)
  replace VH := Lib.hid (VH.out.below hb)
  replace IG := Lib.hid (IG.out.below hb)
  replace IW := Lib.hid (IW.out.below hb)
  replace IR := Lib.hid (IR.out.below hb)
  replace L := Lib.hid (bst L.out hb L.out.size)
  have IK := Lib.hid hiK
  clear hb hiK
  go_wp2_with fail
  refine (c_sameInts _ _ s' s' _ IK.out IG.out (by have := HLS.out _ rfl; omega)).mono ?_
  rintro e w8 ⟨hre, nd, hnd⟩
  rw [decide_eq_true rfl] at hre
  subst hre
  have hb : Below w7.heap.size w7 w8 := by rw [hnd]; exact below_drewN (Below.refl _ _) nd
  clear hnd nd
  replace M1 := Lib.hid (M1.out.below hb)
  replace HA := Lib.hid (HA.out.below hb)
  replace HI := Lib.hid (HI.out.below hb)
  replace VH := Lib.hid (VH.out.below hb)
  replace IG := Lib.hid (IG.out.below hb)
  replace IW := Lib.hid (IW.out.below hb)
  replace IR := Lib.hid (IR.out.below hb)
  replace IK := Lib.hid (IK.out.below hb)
  replace L := Lib.hid (bst L.out hb L.out.size)
  clear hb
  clear g7 HC1 HC2 HC3 HC4 HC5
  have g7 := HG7.out
  clear HG7
  generalize rb.length = lb at *
  generalize s'.length = ls at *
  obtain rfl : ls = lb := g7.symm
  clear g7
  have e3 : ((ns' : Int) != (ns' : Int)) = false := by simp
  go_wp2_with fail
  go_loopw [20, 118] (fun bl i wr => ∃ (j bj : Nat), j ≤ ls ∧ i = .int .i64 (j : Int) ∧ Hid (bj = blk s' j) ∧ bl = .int .i64 (bj : Int) ∧ wr = w8) (fun _ i _ => ls - (intOf i).toNat)
  case atStart => exact ⟨0, 0, Nat.zero_le _, rfl, rfl, rfl, rfl⟩
  case round =>
    obtain ⟨j, bj, hj, rfl, hbj, rfl, rfl⟩ := hrel
    have hbl := blk_le s' j
    rw [← hbj.out] at hbl
    by_cases hjl : j < ls
    · obtain ⟨bs, os, rfl, hcs⟩ := IG.out.at' (by omega)
      obtain ⟨br, or', rfl, hcr⟩ := IR.out.at' (by omega)
      have qs := hcs j hjl
      have qr := hcr j hjl
      have hg8 := HG8.out j
      have HBS := Lib.hid (blk_succ s' j)
      have j1 : (j : Int) < (ls : Int) := by omega
      have j0 : (0 : Int) ≤ (j : Int) := by omega
      clear hcs hcr
      generalize rb.getD j false = y at *
      generalize s'.getD j 0 = sj at *
      cases y
      · have hs0 : sj = 0 := by rw [hg8]; rfl
        subst hs0
        have HB : Hid (bj = blk s' (j + 1)) := by unfold Hid; rw [HBS.out, hbj.out]; rfl
        clear hg8 HBS
        go_wp2_with fail
        go_roundw
        case rel => first | exact ⟨j + 1, bj, by omega, by go_num, HB, rfl, rfl⟩ | exact ⟨j + 1, bj, by omega, by go_num, HB, rfl, trivial⟩ | exact ⟨j + 1, bj, by omega, by go_num, HB, rfl⟩
        case measure => simp [intOf]; omega
      · have hs2 : sj = 2 := by rw [hg8]; rfl
        subst hs2
        have HB : Hid (bj + 1 = blk s' (j + 1)) := by unfold Hid; rw [HBS.out, hbj.out]; rfl
        clear hg8 HBS
        go_wp2_with fail
        go_roundw
        case rel => first | exact ⟨j + 1, bj + 1, by omega, by go_num, HB, by go_num, rfl⟩ | exact ⟨j + 1, bj + 1, by omega, by go_num, HB, by go_num, trivial⟩ | exact ⟨j + 1, bj + 1, by omega, by go_num, HB, by go_num⟩
        case measure => simp [intOf]; omega
    · obtain rfl : j = ls := by omega
      have jn : ¬ (j : Int) < (j : Int) := by omega
      have hbn : bj = ns' := by rw [hbj.out, HG9.out]
      subst hbn
      go_wp2_with fail
      refine (d_IsSound _ z1 _ M1.out).mono ?_
      rintro e x1b ⟨au, bu, cu, hu, v5, l5, rfl, hshu, hAu, hi5, hl5, hb⟩
      obtain ⟨pd, qd, rfl⟩ := hAu.f.shape
      obtain ⟨pe, qe, rfl⟩ := hAu.l.shape
      obtain ⟨pf, qf, rfl⟩ := hAu.r.shape
      obtain ⟨p5, q5, rfl⟩ := hi5.shape
      replace M1 := Lib.hid (M1.out.below hb)
      replace HA := Lib.hid (HA.out.below hb)
      replace HI := Lib.hid (HI.out.below hb)
      replace VH := Lib.hid (VH.out.below hb)
      replace IG := Lib.hid (IG.out.below hb)
      replace IW := Lib.hid (IW.out.below hb)
      replace IR := Lib.hid (IR.out.below hb)
      replace IK := Lib.hid (IK.out.below hb)
      replace L := Lib.hid (bst L.out hb L.out.size)
      have I5 := Lib.hid hi5; have HU := Lib.hid hAu
      have HS1 := Lib.hid (fun w' q1 q2 => c_IsSound (.slice pd hu.f.length qd) (.slice pe hu.l.length qe) (.slice pf hu.r.length qf) (.slice p5 l5.length q5) hu l5 w' q1 q2)
      have HS2 := Lib.hid (fun w' q1 q2 => s_IsSound (.slice pd hu.f.length qd) (.slice pe hu.l.length qe) (.slice pf hu.r.length qf) (.slice p5 l5.length q5) hu l5 w' q1 q2)
      clear hb hi5 hAu hshu
      generalize soundR hu l5 = so5 at *
      generalize bothB hu l5 = bo5 at *
      generalize hu.f.length = nfu at *
      generalize hu.l.length = nlu at *
      generalize hu.r.length = nru at *
      generalize l5.length = m5 at *
      have hbq := below1 x1b (.cells (c3 (.slice pd nfu qd) (.slice pe nlu qe) (.slice pf nru qf)) 27)
      replace M1 := Lib.hid (M1.out.below hbq)
      replace HA := Lib.hid (HA.out.below hbq)
      replace HI := Lib.hid (HI.out.below hbq)
      replace VH := Lib.hid (VH.out.below hbq)
      replace IG := Lib.hid (IG.out.below hbq)
      replace IW := Lib.hid (IW.out.below hbq)
      replace IR := Lib.hid (IR.out.below hbq)
      replace IK := Lib.hid (IK.out.below hbq)
      replace I5 := Lib.hid (I5.out.below hbq)
      replace HU := Lib.hid (HU.out.below hbq)
      replace L := Lib.hid (bst L.out hbq L.out.size)
      clear hbq
      have VU := Lib.hid (show RowH _ _ _ _ _ from Row.new x1b 27 (c3 (.slice pd nfu qd) (.slice pe nlu qe) (.slice pf nru qf)))
      have c0 := VU.out.c0
      have c1 := VU.out.c1
      have c2 := VU.out.c2
      go_wp2_with fail
      clear c0 c1 c2
      refine (HS1.out _ HU.out I5.out).mono ?_
      rintro e x2b ⟨rfl, hb⟩
      replace M1 := Lib.hid (M1.out.below hb)
      replace HA := Lib.hid (HA.out.below hb)
      replace HI := Lib.hid (HI.out.below hb)
      replace VH := Lib.hid (VH.out.below hb)
      replace IG := Lib.hid (IG.out.below hb)
      replace IW := Lib.hid (IW.out.below hb)
      replace IR := Lib.hid (IR.out.below hb)
      replace IK := Lib.hid (IK.out.below hb)
      replace I5 := Lib.hid (I5.out.below hb)
      replace HU := Lib.hid (HU.out.below hb)
      replace VU := Lib.hid (VU.out.below hb)
      replace L := Lib.hid (bst L.out hb L.out.size)
      clear hb
      have c0 := VU.out.c0
      have c1 := VU.out.c1
      have c2 := VU.out.c2
      go_wp2_with fail
      clear c0 c1 c2
      refine (HS2.out _ HU.out I5.out).mono ?_
      rintro e x3b ⟨rfl, hb⟩
      replace M1 := Lib.hid (M1.out.below hb)
      replace HA := Lib.hid (HA.out.below hb)
      replace HI := Lib.hid (HI.out.below hb)
      replace VH := Lib.hid (VH.out.below hb)
      replace IG := Lib.hid (IG.out.below hb)
      replace IW := Lib.hid (IW.out.below hb)
      replace IR := Lib.hid (IR.out.below hb)
      replace IK := Lib.hid (IK.out.below hb)
      replace I5 := Lib.hid (I5.out.below hb)
      replace HU := Lib.hid (HU.out.below hb)
      replace VU := Lib.hid (VU.out.below hb)
      replace L := Lib.hid (bst L.out hb L.out.size)
      clear hb
      go_wp2_with fail
      refine (d_StartColours _ z1 _ M1.out).mono ?_
      rintro e x4b ⟨av, bv, cv, hw, rfl, hshw, hAw, hb⟩
      obtain ⟨pg, qg, rfl⟩ := hAw.f.shape
      obtain ⟨ph, qh, rfl⟩ := hAw.l.shape
      obtain ⟨pi, qi, rfl⟩ := hAw.r.shape
      replace M1 := Lib.hid (M1.out.below hb)
      replace HA := Lib.hid (HA.out.below hb)
      replace HI := Lib.hid (HI.out.below hb)
      replace VH := Lib.hid (VH.out.below hb)
      replace IG := Lib.hid (IG.out.below hb)
      replace IW := Lib.hid (IW.out.below hb)
      replace IR := Lib.hid (IR.out.below hb)
      replace IK := Lib.hid (IK.out.below hb)
      replace I5 := Lib.hid (I5.out.below hb)
      replace HU := Lib.hid (HU.out.below hb)
      replace VU := Lib.hid (VU.out.below hb)
      replace L := Lib.hid (bst L.out hb L.out.size)
      have HW := Lib.hid hAw
      have HT1 := Lib.hid (fun w' q1 => c_StartColours (.slice pg hw.f.length qg) (.slice ph hw.l.length qh) (.slice pi hw.r.length qi) hw w' q1)
      have HT2 := Lib.hid (fun w' q1 => s_StartColours (.slice pg hw.f.length qg) (.slice ph hw.l.length qh) (.slice pi hw.r.length qi) hw w' q1)
      have LT : Hid (∀ X : List Int, X = startR hw → X.length ≤ 1000) := fun X q => by rw [q]; exact startR_len hw
      clear hb hAw hshw
      generalize startR hw = s7 at *
      generalize good hw = g7 at *
      generalize hw.f.length = nfw at *
      generalize hw.l.length = nlw at *
      generalize hw.r.length = nrw at *
      have hbq := below1 x4b (.cells (c3 (.slice pg nfw qg) (.slice ph nlw qh) (.slice pi nrw qi)) 27)
      replace M1 := Lib.hid (M1.out.below hbq)
      replace HA := Lib.hid (HA.out.below hbq)
      replace HI := Lib.hid (HI.out.below hbq)
      replace VH := Lib.hid (VH.out.below hbq)
      replace IG := Lib.hid (IG.out.below hbq)
      replace IW := Lib.hid (IW.out.below hbq)
      replace IR := Lib.hid (IR.out.below hbq)
      replace IK := Lib.hid (IK.out.below hbq)
      replace I5 := Lib.hid (I5.out.below hbq)
      replace HU := Lib.hid (HU.out.below hbq)
      replace VU := Lib.hid (VU.out.below hbq)
      replace HW := Lib.hid (HW.out.below hbq)
      replace L := Lib.hid (bst L.out hbq L.out.size)
      clear hbq
      have VW := Lib.hid (show RowH _ _ _ _ _ from Row.new x4b 27 (c3 (.slice pg nfw qg) (.slice ph nlw qh) (.slice pi nrw qi)))
      have c0 := VW.out.c0
      have c1 := VW.out.c1
      have c2 := VW.out.c2
      go_wp2_with fail
      clear c0 c1 c2
      refine (HT1.out _ HW.out).mono ?_
      intro e x5b hend
      obtain ⟨vT, rfl, hiT, hb⟩ := hend.reads'
      clear hend
      obtain ⟨pT, qT, rfl⟩ := hiT.shape
      replace M1 := Lib.hid (M1.out.below hb)
      replace HA := Lib.hid (HA.out.below hb)
      replace HI := Lib.hid (HI.out.below hb)
      replace VH := Lib.hid (VH.out.below hb)
      replace IG := Lib.hid (IG.out.below hb)
      replace IW := Lib.hid (IW.out.below hb)
      replace IR := Lib.hid (IR.out.below hb)
      replace IK := Lib.hid (IK.out.below hb)
      replace I5 := Lib.hid (I5.out.below hb)
      replace HU := Lib.hid (HU.out.below hb)
      replace VU := Lib.hid (VU.out.below hb)
      replace HW := Lib.hid (HW.out.below hb)
      replace VW := Lib.hid (VW.out.below hb)
      replace L := Lib.hid (bst L.out hb L.out.size)
      have IT := Lib.hid hiT
      clear hb hiT
      have c0 := VW.out.c0
      have c1 := VW.out.c1
      have c2 := VW.out.c2
      go_wp2_with fail
      clear c0 c1 c2
      refine (HT2.out _ HW.out).mono ?_
      intro e x6b hend
      obtain ⟨vQ, rfl, hiQ, hb⟩ := hend.reads'
      clear hend
      obtain ⟨pQ, qQ, rfl⟩ := hiQ.shape
      replace M1 := Lib.hid (M1.out.below hb)
      replace HA := Lib.hid (HA.out.below hb)
      replace HI := Lib.hid (HI.out.below hb)
      replace VH := Lib.hid (VH.out.below hb)
      replace IG := Lib.hid (IG.out.below hb)
      replace IW := Lib.hid (IW.out.below hb)
      replace IR := Lib.hid (IR.out.below hb)
      replace IK := Lib.hid (IK.out.below hb)
      replace I5 := Lib.hid (I5.out.below hb)
      replace HU := Lib.hid (HU.out.below hb)
      replace VU := Lib.hid (VU.out.below hb)
      replace HW := Lib.hid (HW.out.below hb)
      replace VW := Lib.hid (VW.out.below hb)
      replace IT := Lib.hid (IT.out.below hb)
      replace L := Lib.hid (bst L.out hb L.out.size)
      have IQ := Lib.hid hiQ
      clear hb hiQ
      have f1 : (bo5 == bo5) = true := by simp
      have f2 : (so5 == so5) = true := by simp
      have f3 : (g7 == g7) = true := by simp
      go_wp2_with fail
      refine (c_sameInts _ _ s7 s7 _ IT.out IQ.out (by have := LT.out _ rfl; omega)).mono ?_
      rintro e y1b ⟨hre, nd, hnd⟩
      rw [decide_eq_true rfl] at hre
      subst hre
      have hb : Below x6b.heap.size x6b y1b := by rw [hnd]; exact below_drewN (Below.refl _ _) nd
      clear hnd nd
      replace M1 := Lib.hid (M1.out.below hb)
      replace HA := Lib.hid (HA.out.below hb)
      replace HI := Lib.hid (HI.out.below hb)
      replace VH := Lib.hid (VH.out.below hb)
      replace IG := Lib.hid (IG.out.below hb)
      replace IW := Lib.hid (IW.out.below hb)
      replace IR := Lib.hid (IR.out.below hb)
      replace IK := Lib.hid (IK.out.below hb)
      replace I5 := Lib.hid (I5.out.below hb)
      replace HU := Lib.hid (HU.out.below hb)
      replace VU := Lib.hid (VU.out.below hb)
      replace HW := Lib.hid (HW.out.below hb)
      replace VW := Lib.hid (VW.out.below hb)
      replace IT := Lib.hid (IT.out.below hb)
      replace IQ := Lib.hid (IQ.out.below hb)
      replace L := Lib.hid (bst L.out hb L.out.size)
      clear hb
      go_wp2_with fail
      go_ret
      exact ⟨rfl, L.out⟩
end Go.Proofs.Ytdagkbgobnaijab
namespace Go.Proofs.Ytdagkbgobnaijab.xMarked
open Go.ChangeShapes Go.WideShapes Go.ChangeAt Go.RowKit

set_option maxRecDepth 100000 in
theorem contract (H : Type) (enc : TypeId × Value → H) (W : World) (base : Nat) (args : Array Value) (ds gs : List (DataW H)) (before : List MemPlace)
    (hval : ∀ (j : Nat) t v, Try.f6.params[j]? = some t → args[j]? = some v → Value.okWide Try.prog W .any base t v)
    (hW : DataW.Whole enc Try.prog Try.f6.params.toList Rows.fnMarkedSpec.vars false W args.toList ds gs before) :
    Calls Try.prog 6 args W fun e W' => ∃ v, e = .returned v ∧ Rows.fnMarkedSpec.post enc Try.prog Try.f6 false true false false W args v W' := by
  have hW' := hW
  obtain ⟨p, q, hA0, hV, rfl, hfz, hnd⟩ := hW
  have hA : DataW.TrodAll enc Try.prog W 0 (fun _ => true) true Try.f6.params.toList args.toList ds p := hA0
  have hpar : ∀ t ∈ Try.f6.params.toList, Try.prog.readableRec t = true ∧ t < Try.prog.types.size := by
    rw [Try.params6]; intro t ht; simp at ht; subst ht; exact r_bytes
  rw [Try.params6] at hA hval
  obtain ⟨v0, vs0, d0, ds0, p0, q0, hargs, rfl, rfl, h0, r0⟩ := trodAll_cons hA
  obtain ⟨v1, vs1, d1, ds1, p1, q1, rfl, rfl, rfl, h1, r1⟩ := trodAll_cons r0
  obtain ⟨rfl, rfl, rfl⟩ := trodAll_nil r1
  obtain rfl : args = #[v0, v1] := by cases args; simp_all
  obtain ⟨rfl, rfl⟩ := trodVars_none hV
  obtain ⟨z0, hz0⟩ := bytes_of_arg (hval 0 22 v0 rfl rfl) h0
  obtain ⟨z1, hz1⟩ := bytes_of_arg (hval 1 22 v1 rfl rfl) h1
  refine (walk_FnMarked v0 z0 v1 z1 W hz0 hz1).mono fun e W' ⟨he, hb⟩ => ?_
  subst he
  exact ⟨_, rfl, law_post laidOut hpar (fun n hn => by cases hn) hW' hb rfl (by kernel_rfl) Try.underlying4⟩

set_option maxRecDepth 100000 in
theorem lifted (os : Os) (started : os.Started) (H : Type) (enc : TypeId × Value → H) :
    ReturnsInHanded {} Try.checked os 6 .any (Rows.fnMarkedSpec.pre6 enc Try.prog Try.f6 Rows.fnMarkedRow.domain false) (Rows.fnMarkedSpec.post enc Try.prog Try.f6 false true false false) := by
  refine returnsInHanded_of_change (C := Try.checked) own started (by kernel_rfl) Try.func6
    (ChangeSpec.witness6 (enc := enc) (C := Try.checked) false ⟨#[], #[.slice none 0 0, .slice none 0 0], []⟩ 8 (by kernel_rfl) (by kernel_rfl) (by kernel_rfl) (by kernel_rfl)) ?_
  intro W base args ds gs before hval hW _ _
  exact contract H enc W base args ds gs before hval hW
end Go.Proofs.Ytdagkbgobnaijab.xMarked
namespace Go.Proofs.Ytdagkbgobnaijab
theorem xMarked_said : Rows.FnMarkedSaid :=
  OpenClaim.holds_of_wide 6 Try.f6 rfl rfl rfl rfl rfl rfl rfl ⟨rfl, rfl, rfl, rfl, rfl⟩ rfl rfl rfl rfl rfl (by kernel_rfl) Try.func6 (by kernel_rfl)
    (of_decide_eq_true (by kernel_rfl)) (by unfold Func.isWrapper; first | (rw [if_pos (by decide +kernel)]; kernel_rfl) | (rw [if_neg (by decide +kernel)]; exact ⟨rfl, rfl⟩))
    (fun os started H enc _ => xMarked.lifted os started H enc)
end Go.Proofs.Ytdagkbgobnaijab
