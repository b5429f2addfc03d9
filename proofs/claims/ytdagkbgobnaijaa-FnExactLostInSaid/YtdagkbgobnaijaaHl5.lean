/- Heaps marked and held by the laws. -/
import Derived.Test.YtdagkbgobnaijaaHl4
namespace Go.Proofs.Ytdagkbgobnaijaa
open Go.RowKit Ph

theorem Row.chg {w w' : World} {lo hi g : Nat} {T : TypeId} {cs : Array Value} (h : Row w g T cs) (hc : Chg lo hi w w') (hd : g < lo ∨ hi ≤ g) : Row w' g T cs := (hc.block g h.lt hd).trans h
theorem below_chg {B lo hi : Nat} {w w1 w2 : World} (h : Below B w w1) (k : Chg lo hi w1 w2) (hB : B ≤ lo) (hs : B ≤ w1.heap.size) : Below B w w2 :=
  ⟨k.os.trans h.os, k.tape.trans h.tape, k.output.trans h.output, Nat.le_trans h.size k.size, fun i hi => (k.block i (by omega) (.inl (by omega))).trans (h.block i hi)⟩
/-- What a mark is. -/
def mk3 (z : Int) : Bool := z % 3 == 0
def upB (k : Int) (n : Nat) : List Bool := (List.range n).map (fun i : Nat => mk3 (k + (i : Int)))
theorem upB_length (k : Int) (n : Nat) : (upB k n).length = n := by simp [upB]
theorem upB_getD (k : Int) {n i : Nat} (h : i < n) : (upB k n).getD i false = mk3 (k + i) := by simp [upB, List.getD, h]
def markB (k : Int) (zs : List Bool) (j : Nat) : List Bool := upB k j ++ zs.drop j
theorem markB_length (k : Int) (zs : List Bool) {j : Nat} (h : j ≤ zs.length) : (markB k zs j).length = zs.length := by simp [markB, upB_length]; omega
theorem markB_zero (k : Int) (zs : List Bool) : markB k zs 0 = zs := by simp [markB, upB]
theorem markB_all (k : Int) (zs : List Bool) : markB k zs zs.length = upB k zs.length := by simp [markB]
theorem markB_set (k : Int) (zs : List Bool) {j : Nat} (h : j < zs.length) : (markB k zs j).set j (mk3 (k + j)) = markB k zs (j + 1) := by
  unfold markB
  have e : zs.drop j = zs[j] :: zs.drop (j + 1) := (List.drop_eq_getElem_cons h)
  rw [e, List.set_append_right _ _ (by rw [upB_length]; omega), upB_length, Nat.sub_self, List.set_cons_zero]
  simp [upB, List.range_succ]
set_option maxHeartbeats 800000 in
theorem c_markBools (v : Value) (zs : List Bool) (B : Nat) (k : Int) (w : World) (hown : OwnBs w B v zs) (h0 : 0 ≤ k) (hm : k + zs.length ≤ 9223372036854775806) :
    Calls Try.prog 36 #[v, .int .i64 k] w fun e w' => e = .returned (.int .i64 (k + zs.length)) ∧ OwnBs w' B v (upB k zs.length) ∧ w.grownBy w' v.ownBlock := by
  rcases hown.shape with ⟨rfl, rfl⟩ | ⟨g, cap, rfl⟩
  · go_enter Try.func36, Try.ntmps36
    go_wp2
    refine wp_loop_rounds 1 ?_
    rw [rounds_succ]
    go_wp2
    go_ret
    exact ⟨r_i (by simp), hown, World.grownBy.refl _ _⟩
  · have HO := Lib.hid hown; clear hown
    generalize hn : zs.length = n at *
    have HN := Lib.hid hn; clear hn
    go_enter Try.func36, Try.ntmps36
    go_wp2
    go_loopw [1, 5] (fun kk i wr => ∃ j : Nat, j ≤ n ∧ i = .int .i64 j ∧ kk = .int .i64 (k + j) ∧ OwnBs wr B (.slice (some ⟨g, 0, none⟩) n cap) (markB k zs j) ∧ w.grownBy wr (some g)) (fun _ i _ => n - (intOf i).toNat)
    case atStart => exact ⟨0, Nat.zero_le _, rfl, by simp, by rw [markB_zero]; exact HO.out, World.grownBy.refl _ _⟩
    case round =>
      obtain ⟨j, hj, rfl, rfl, hown, hg⟩ := hrel
      by_cases hlt : j < n
      · have hlen := markB_length k zs (j := j) (by rw [HN.out]; exact hj)
        have hown' : wr.ownsRow B 4 1 (.slice (some ⟨g, 0, none⟩) n cap) n ((markB k zs j).map Value.bool) := by
          have := hown; unfold OwnBs at this; rwa [hlen, HN.out] at this
        have hfr := hown'.frozenAt j
        obtain ⟨x, hx⟩ : ∃ x, wr.cell? ⟨g, j, none⟩ = some x := by
          rw [hown'.cellAt j (by omega), List.getElem?_map, List.getElem?_eq_getElem (by rw [hlen, HN.out]; exact hlt)]
          exact ⟨_, rfl⟩
        obtain ⟨s1, s2⟩ := hown'.stored j (.bool (mk3 (k + j)))
        have S1 : Hid (OwnBs (wr.setCell ⟨g, j, none⟩ (.bool (mk3 (k + j)))) B (.slice (some ⟨g, 0, none⟩) n cap) (markB k zs (j + 1))) := by
          unfold Hid OwnBs
          rw [markB_length k zs (by rw [HN.out]; omega), HN.out, ← markB_set k zs (by rw [HN.out]; exact hlt), List.map_set]
          exact s1
        have S2 := Lib.hid s2
        clear s1 s2 hown hown' hlen
        go_wp2
        go_roundw
        case rel => exact ⟨j + 1, by omega, by go_num, by go_num, S1.out, grownBy_trans hg S2.out⟩
        case measure => simp [intOf]; omega
      · obtain rfl : j = n := by omega
        go_wp2
        go_ret
        exact ⟨rfl, by rw [← HN.out, ← markB_all, HN.out]; exact hown, hg⟩
set_option maxHeartbeats 800000 in
theorem c_heldBoolS (v : Value) (n : Nat) (k : Int) (w : World) (hA : BoolsAt w v (upB k n)) (h0 : 0 ≤ k) (hm : k + n ≤ 9223372036854775806) :
    Calls Try.prog 37 #[v, .int .i64 k] w fun e w' => e = .returned (.int .i64 (k + n)) ∧ w = w' := by
  obtain ⟨a, ca, rfl, hA⟩ := hA
  rw [upB_length] at hA ⊢
  have HA := Lib.hid hA; clear hA
  go_enter Try.func37, Try.ntmps37
  go_wp2
  go_loop [1, 5] (fun kk i => ∃ j : Nat, j ≤ n ∧ i = .int .i64 j ∧ kk = .int .i64 (k + j)) (fun _ i => n - (intOf i).toNat)
  case atStart => exact ⟨0, Nat.zero_le _, rfl, by simp⟩
  case round =>
    obtain ⟨j, hj, rfl, rfl⟩ := hrel
    by_cases hlt : j < n
    · obtain ⟨b, off, rfl, hc⟩ := HA.out (by omega)
      have q := hc j hlt
      rw [upB_getD k hlt] at q
      have hxx : ∀ x : Bool, (x != x) = false := by simp
      unfold mk3 at q
      clear hc
      go_wp2
      go_round
      case rel => exact ⟨j + 1, by omega, by go_num, by go_num⟩
      case measure => simp [intOf]; omega
    · obtain rfl : j = n := by omega
      go_wp2
      go_ret
      exact ⟨rfl, rfl⟩
/-- Rows of which the first j have been marked. -/
def markF (k : Int) (fs : List (List Int)) (j : Nat) : List (List Int) := (List.range fs.length).map fun i => if i < j then upFrom (k + sumL fs i) (fs.getD i []).length else fs.getD i []
theorem markF_length (k : Int) (fs : List (List Int)) (j : Nat) : (markF k fs j).length = fs.length := by simp [markF]
theorem markF_getD (k : Int) (fs : List (List Int)) (j : Nat) {i : Nat} (h : i < fs.length) : (markF k fs j).getD i [] = if i < j then upFrom (k + sumL fs i) (fs.getD i []).length else fs.getD i [] := by
  unfold markF
  rw [List.getD, List.getElem?_map, List.getElem?_range h]
  rfl
theorem ext_getD {xs ys : List (List Int)} (hl : xs.length = ys.length) (h : ∀ i, i < xs.length → xs.getD i [] = ys.getD i []) : xs = ys := by
  apply List.ext_getElem hl
  intro i h1 h2
  have := h i h1
  simpa [List.getD, List.getElem?_eq_getElem h1, List.getElem?_eq_getElem h2] using this
theorem markF_zero (k : Int) (fs : List (List Int)) : markF k fs 0 = fs := ext_getD (markF_length k fs 0) fun i hi => by rw [markF_getD k fs 0 (by rw [markF_length] at hi; exact hi), if_neg (by omega)]
theorem markF_set (k : Int) (fs : List (List Int)) {j : Nat} (h : j < fs.length) : (markF k fs j).set j (upFrom (k + sumL fs j) (fs.getD j []).length) = markF k fs (j + 1) := by
  refine ext_getD (by rw [List.length_set, markF_length, markF_length]) fun i hi => ?_
  rw [List.length_set, markF_length] at hi
  rw [getD_setL (by rw [markF_length]; exact h), markF_getD k fs (j + 1) hi, markF_getD k fs j hi]
  by_cases e : i = j
  · subst e; rw [if_pos rfl, if_pos (by omega)]
  · rw [if_neg e]
    by_cases e2 : i < j
    · rw [if_pos e2, if_pos (by omega)]
    · rw [if_neg e2, if_neg (by omega)]
def szM (h : H) : Nat := sumL h.f h.f.length + h.l.length + h.r.length
def markH (k : Int) (h : H) : H := ⟨markF k h.f h.f.length, upB (k + sumL h.f h.f.length) h.l.length, upFrom (k + sumL h.f h.f.length + h.l.length) h.r.length⟩
theorem FamH.shapeN {w : World} {lo hi : Nat} {a b c : Value} {us : Nat → Value} {h : H} (k : FamH w lo hi a b c us h) {n : Nat} (hn : h.f.length = n) : (a = .slice none 0 0 ∧ n = 0) ∨ ∃ g cap, a = .slice (some ⟨g, 0, none⟩) n cap := by
  rcases k.shape with ⟨h1, h2⟩ | ⟨g, cap, h1⟩
  · exact .inl ⟨h1, by rw [← hn, h2]; rfl⟩
  · exact .inr ⟨g, cap, by rw [h1, hn]⟩
set_option maxHeartbeats 1600000 in
theorem c_markIntSS (lo hi : Nat) (a b c : Value) (us : Nat → Value) (h : H) (k : Int) (w : World) (hown : FamH w lo hi a b c us h) (h0 : 0 ≤ k) (hm : k + sumL h.f h.f.length ≤ 9223372036854775806) (hl : h.f.length ≤ 9223372036854775806) :
    Calls Try.prog 76 #[a, .int .i64 k] w fun e w' => e = .returned (.int .i64 (k + sumL h.f h.f.length)) ∧ FamH w' lo hi a b c us ⟨markF k h.f h.f.length, h.l, h.r⟩ ∧ Chg lo hi w w' := by
  obtain ⟨fs, ls, rs⟩ := h
  simp only at *
  have hsl := sumL_le fs
  have hss : ∀ k, k < fs.length → sumL fs (k + 1) = sumL fs k + (fs.getD k []).length := fun k hk => sumL_succ hk
  have HO := Lib.hid hown
  have hsh := hown.shapeN (n := fs.length) rfl
  clear hown
  generalize hn : fs.length = n at *
  have HN := Lib.hid hn; have HSL := Lib.hid hsl; have HSS := Lib.hid hss
  clear hn hsl hss
  generalize hT : sumL fs n = Tt at *
  have HT := Lib.hid hT
  clear hT
  have ha : ∃ g cap, a = .slice g n cap ∧ (0 < n → ∃ b, g = some ⟨b, 0, none⟩) := by
    rcases hsh with ⟨h1, h2⟩ | ⟨g, cap, h1⟩
    · exact ⟨none, 0, by rw [h1, h2], fun h => by omega⟩
    · exact ⟨_, cap, h1, fun _ => ⟨g, rfl⟩⟩
  obtain ⟨ga, cap, rfl, hga⟩ := ha
  have HGA := Lib.hid hga
  clear hsh hga
  go_enter Try.func76, Try.ntmps76
  go_wp2
  go_loopw [1, 5] (fun kk i wr => ∃ j : Nat, j ≤ n ∧ i = .int .i64 j ∧ ∃ s : Nat, Hid (sumL fs j = s) ∧ s ≤ Tt ∧ kk = .int .i64 (k + s) ∧ FamH wr lo hi (.slice ga n cap) b c us ⟨markF k fs j, ls, rs⟩ ∧ Chg lo hi w wr) (fun _ i _ => n - (intOf i).toNat)
  case atStart => exact ⟨0, Nat.zero_le _, rfl, 0, sumL_zero fs, Nat.zero_le _, by simp, by rw [markF_zero]; exact HO.out, Chg.refl _ _ _⟩
  case round =>
    obtain ⟨j, hj, rfl, s, hs, hsT, rfl, hfam, hch⟩ := hrel
    by_cases hlt : j < n
    · obtain ⟨g, rfl⟩ := HGA.out (by omega)
      have hjl : j < fs.length := by rw [HN.out]; exact hlt
      have e1 := HSS.out j hlt
      have e2 := HSL.out (j + 1)
      rw [hs.out] at e1
      rw [e1] at e2
      have hlen : (markF k fs j).length = n := by rw [markF_length, HN.out]
      obtain ⟨q, _⟩ := hfam.cell (g := g) (cap := cap) (i := j) (by simp only [hlen]) (by simp only [hlen]; exact hlt)
      have hrow := hfam.row (i := j) (by simp only [hlen]; exact hlt)
      simp only [] at hrow
      rw [markF_getD k fs j hjl, if_neg (by omega)] at hrow
      have hset := markF_set k fs hjl
      rw [hs.out] at hset
      have i1 : (j : Int) < (n : Int) := by omega
      have E1 := Lib.hid e1; have HR := Lib.hid hrow; have HF := Lib.hid hfam; have HCH := Lib.hid hch; have HLE := Lib.hid hlen; have HST := Lib.hid hset
      clear hfam hch hrow hlen hset e1 hjl
      generalize hzs : fs.getD j [] = zs at *
      have J : Hid ((0 : Int) ≤ k + s ∧ k + s + zs.length ≤ 9223372036854775806) := ⟨by omega, by omega⟩
      have hb2 : s + zs.length ≤ Tt := e2
      clear hzs e2
      obtain ⟨u, hu⟩ : ∃ u, u = us j := ⟨_, rfl⟩
      rw [← hu] at q HR
      have HU := Lib.hid hu
      clear hu
      go_wp2_with fail
      refine (c_markIntS u zs lo (k + s) _ HR.out J.out.1 J.out.2).mono ?_
      rintro e w2 ⟨rfl, ho2, hg2⟩
      rw [HU.out] at ho2 hg2
      have hch2 : Chg lo hi wr w2 := Chg.of_grown hg2 fun g' hg' => by
        have := Fam.blk HF.out (k := j + 3) (g := g') (by simp only [HLE.out]; omega) hg'
        exact ⟨this.1, this.2.1⟩
      have F2 := HF.out.setRow (i := j) (by simp only [HLE.out]; exact hlt) hg2 ho2
      simp only [HST.out] at F2
      have F3 := Lib.hid F2; have C3 := Lib.hid (HCH.out.trans hch2)
      clear F2 hch2 ho2 hg2 q
      generalize zs.length = m at *
      go_wp2
      go_roundw
      case rel => exact ⟨j + 1, by omega, by go_num, s + m, E1.out, by omega, by congr 1; omega, F3.out, C3.out⟩
      case measure => simp [intOf]; omega
    · obtain rfl : j = n := by omega
      obtain rfl : Tt = s := HT.out.symm.trans hs.out
      go_wp2
      go_ret
      exact ⟨rfl, hfam, hch⟩
set_option maxHeartbeats 1600000 in
theorem c_markHeap (lo hi : Nat) (a b c : Value) (h : H) (k : Int) (w : World) (hown : OwnH w lo hi a b c h) (h0 : 0 ≤ k) (hm : k + szM h ≤ 9223372036854775806) (hl : h.f.length ≤ 9223372036854775806) (hs : hi ≤ w.heap.size) :
    Calls Try.prog 34 #[hv a b c, .int .i64 k] w fun e w' => e = .returned (.int .i64 (k + szM h)) ∧ OwnH w' lo hi a b c (markH k h) ∧ Chg lo hi w w' := by
  have hb0 := below1 w (.cells (c3 a b c) 32)
  obtain ⟨us, hfam⟩ := hown
  have F0 := Lib.hid (show FamH _ lo hi a b c us h from Fam.below hfam hb0)
  have C0 := Lib.hid (Chg.of_below (lo := lo) (hi := hi) hb0)
  have R0 := Lib.hid (show RowH _ _ a b c from Row.new w 32 (c3 a b c))
  have hmk : k + szM h = k + sumL h.f h.f.length + h.l.length + h.r.length := by unfold szM; omega
  have HMK := Lib.hid hmk
  rw [hmk] at hm ⊢
  have J1 : Hid (k + sumL h.f h.f.length ≤ 9223372036854775806 ∧ 0 ≤ k + sumL h.f h.f.length ∧ k + sumL h.f h.f.length + h.l.length ≤ 9223372036854775806 ∧ 0 ≤ k + sumL h.f h.f.length + h.l.length ∧ k + sumL h.f h.f.length + h.l.length + h.r.length ≤ 9223372036854775806) := ⟨by omega, by omega, by omega, by omega, by omega⟩
  have HLE := Lib.hid hl; have HS := Lib.hid hs
  clear hfam hb0 hmk hm hl hs
  have c0 := R0.out.c0
  go_enter Try.func34, Try.ntmps34
  go_wp2_with fail
  clear c0
  refine (c_markIntSS lo hi a b c us h k _ F0.out h0 J1.out.1 HLE.out).mono ?_
  rintro e w1 ⟨rfl, f1, ch1⟩
  have R1 : RowH _ _ a b c := Row.chg R0.out ch1 (.inr HS.out)
  have C1 := C0.out.trans ch1
  have hl1 := f1.live
  have c1 := R1.c1
  have F1 := Lib.hid f1; have RR := Lib.hid R1; have CC := Lib.hid C1; have HL1 := Lib.hid hl1
  clear f1 ch1 R1 C1 F0 R0 C0 hl1
  go_wp2_with fail
  clear c1
  refine (c_markBools b h.l lo (k + sumL h.f h.f.length) _ HL1.out J1.out.2.1 J1.out.2.2.1).mono ?_
  rintro e w2 ⟨rfl, ho2, hg2⟩
  have f2 := F1.out.setLive hg2 ho2
  have ch2 : Chg lo hi w1 w2 := Chg.of_grown hg2 fun g' hg' => by
    have := Fam.blk F1.out (k := 1) (g := g') (by omega) hg'
    exact ⟨this.1, this.2.1⟩
  have R2 : RowH _ _ a b c := Row.chg RR.out ch2 (.inr HS.out)
  have C2 := CC.out.trans ch2
  have hr2 := f2.roots
  have c2 := R2.c2
  have F2 := Lib.hid f2; have C3 := Lib.hid C2; have HR2 := Lib.hid hr2
  clear f2 ch2 R2 C2 F1 RR CC hr2 ho2 hg2 HL1
  go_wp2_with fail
  clear c2
  refine (c_markIntS c h.r lo (k + sumL h.f h.f.length + h.l.length) _ HR2.out J1.out.2.2.2.1 J1.out.2.2.2.2).mono ?_
  rintro e w3 ⟨rfl, ho3, hg3⟩
  have f3 := F2.out.setRoots hg3 ho3
  have ch3 : Chg lo hi w2 w3 := Chg.of_grown hg3 fun g' hg' => by
    have := Fam.blk F2.out (k := 2) (g := g') (by omega) hg'
    exact ⟨this.1, this.2.1⟩
  have F3 := Lib.hid f3; have C4 := Lib.hid (C3.out.trans ch3)
  clear f3 ch3 F2 C3 ho3 hg3 HR2
  go_wp2
  go_ret
  exact ⟨rfl, ⟨us, F3.out⟩, C4.out⟩
set_option maxHeartbeats 1600000 in
theorem c_heldIntSS (v : Value) (fs : List (List Int)) (k : Int) (w : World) (hA : RowsAt w v (markF k fs fs.length)) (h0 : 0 ≤ k) (hm : k + sumL fs fs.length ≤ 9223372036854775806) (hl : fs.length ≤ 9223372036854775806) :
    Calls Try.prog 111 #[v, .int .i64 k] w fun e w' => e = .returned (.int .i64 (k + sumL fs fs.length)) ∧ w = w' := by
  obtain ⟨a, ca, rfl, hA⟩ := hA
  rw [markF_length] at hA ⊢
  have hrow : ∀ i, i < fs.length → (markF k fs fs.length).getD i [] = upFrom (k + sumL fs i) (fs.getD i []).length := fun i hi => by rw [markF_getD k fs _ hi, if_pos hi]
  have hsl := sumL_le fs
  have hss : ∀ k, k < fs.length → sumL fs (k + 1) = sumL fs k + (fs.getD k []).length := fun k hk => sumL_succ hk
  generalize hn : fs.length = n at *
  have HN := Lib.hid hn; have HSL := Lib.hid hsl; have HSS := Lib.hid hss; have HA := Lib.hid hA; have HRW := Lib.hid hrow
  clear hn hsl hss hA hrow
  generalize hT : sumL fs n = Tt at *
  have HT := Lib.hid hT
  clear hT
  go_enter Try.func111, Try.ntmps111
  go_wp2
  go_loop [1, 5] (fun kk i => ∃ j : Nat, j ≤ n ∧ i = .int .i64 j ∧ ∃ s : Nat, Hid (sumL fs j = s) ∧ s ≤ Tt ∧ kk = .int .i64 (k + s)) (fun _ i => n - (intOf i).toNat)
  case atStart => exact ⟨0, Nat.zero_le _, rfl, 0, sumL_zero fs, Nat.zero_le _, by simp⟩
  case round =>
    obtain ⟨j, hj, rfl, s, hs, hsT, rfl⟩ := hrel
    by_cases hlt : j < n
    · obtain ⟨g, off, rfl, hc⟩ := HA.out (by omega)
      obtain ⟨u, q, hu⟩ := hc j hlt
      rw [HRW.out j hlt, hs.out] at hu
      have e1 := HSS.out j hlt
      have e2 := HSL.out (j + 1)
      rw [hs.out] at e1
      rw [e1] at e2
      have i1 : (j : Int) < (n : Int) := by omega
      have E1 := Lib.hid e1; have HU := Lib.hid hu
      clear e1 hu hc
      generalize (fs.getD j []).length = m at *
      have J : Hid ((0 : Int) ≤ k + s ∧ k + s + m ≤ 9223372036854775806) := ⟨by omega, by omega⟩
      have i2 : ¬ k + (s : Int) + (m : Int) < 0 := by omega
      go_wp2_with (go_at_call 47; refine (c_heldIntS u m (k + s) _ HU.out J.out.1 J.out.2).mono ?_; rintro e w1 ⟨rfl, rfl⟩)
      go_round
      case rel => exact ⟨j + 1, by omega, by go_num, s + m, E1.out, by omega, by congr 1; omega⟩
      case measure => simp [intOf]; omega
    · obtain rfl : j = n := by omega
      obtain rfl : Tt = s := HT.out.symm.trans hs.out
      go_wp2
      go_ret
      exact ⟨rfl, rfl⟩
set_option maxHeartbeats 1600000 in
theorem c_heldHeap (a b c : Value) (h : H) (k : Int) (w : World) (hA : HeapAt w a b c (markH k h)) (h0 : 0 ≤ k) (hm : k + szM h ≤ 9223372036854775806) (hl : h.f.length ≤ 9223372036854775806) :
    Calls Try.prog 64 #[hv a b c, .int .i64 k] w fun e w' => e = .returned (.int .i64 (k + szM h)) ∧ Below w.heap.size w w' := by
  have HB := Lib.hid (below1 w (.cells (c3 a b c) 32))
  have hA0 := hA.below HB.out
  have H1 := Lib.hid hA0.f; have H2 := Lib.hid hA0.l; have H3 := Lib.hid hA0.r
  have hmk : k + szM h = k + sumL h.f h.f.length + h.l.length + h.r.length := by unfold szM; omega
  rw [hmk] at hm ⊢
  have J1 : Hid (k + sumL h.f h.f.length ≤ 9223372036854775806 ∧ 0 ≤ k + sumL h.f h.f.length ∧ k + sumL h.f h.f.length + h.l.length ≤ 9223372036854775806 ∧ 0 ≤ k + sumL h.f h.f.length + h.l.length ∧ k + sumL h.f h.f.length + h.l.length + h.r.length ≤ 9223372036854775806) := ⟨by omega, by omega, by omega, by omega, by omega⟩
  have i1 : ¬ k + (sumL h.f h.f.length : Int) < 0 := by omega
  have i2 : ¬ k + (sumL h.f h.f.length : Int) + (h.l.length : Int) < 0 := by omega
  have i3 : ¬ k + (sumL h.f h.f.length : Int) + (h.l.length : Int) + (h.r.length : Int) < 0 := by omega
  have HLE := Lib.hid hl
  clear hA hA0 hmk hm hl
  have K1 := Lib.hid (c_heldIntSS a h.f k _ H1.out h0 J1.out.1 HLE.out)
  have K2 := Lib.hid (c_heldBoolS b h.l.length (k + sumL h.f h.f.length) _ H2.out J1.out.2.1 J1.out.2.2.1)
  have K3 := Lib.hid (c_heldIntS c h.r.length (k + sumL h.f h.f.length + h.l.length) _ H3.out J1.out.2.2.2.1 J1.out.2.2.2.2)
  clear H1 H2 H3 J1
  generalize sumL h.f h.f.length = sf at *
  generalize h.l.length = sl at *
  generalize h.r.length = sr at *
  go_enter Try.func64, Try.ntmps64
  go_wp2_with (first
    | (go_at_call 111; refine K1.out.mono ?_; rintro e w1 ⟨rfl, rfl⟩)
    | (go_at_call 37; refine K2.out.mono ?_; rintro e w1 ⟨rfl, rfl⟩)
    | (go_at_call 47; refine K3.out.mono ?_; rintro e w1 ⟨rfl, rfl⟩))
  go_ret
  exact ⟨rfl, HB.out⟩
end Go.Proofs.Ytdagkbgobnaijaa
