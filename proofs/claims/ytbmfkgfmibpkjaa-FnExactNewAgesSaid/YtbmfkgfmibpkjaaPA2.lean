/- What the laws rest on, part 2. -/
import Derived.Test.YtbmfkgfmibpkjaaPA1
import Derived.Laws.EntriesVeiled
import Derived.Deep.LoopGhost
import Derived.Deep.Upon
import Derived.Maps.AppendAt
namespace Go.Proofs.Ytbmfkgfmibpkjaa
open Go.RowKit Ph

theorem Row.chg {w w' : World} {lo hi g : Nat} {T : TypeId} {cs : Array Value} (h : Row w g T cs) (hc : Chg lo hi w w') (hd : g < lo ∨ hi ≤ g) : Row w' g T cs := (hc.block g h.lt hd).trans h
theorem below_chg {B lo hi : Nat} {w w1 w2 : World} (h : Below B w w1) (k : Chg lo hi w1 w2) (hB : B ≤ lo) (hs : B ≤ w1.heap.size) : Below B w w2 :=
  ⟨k.os.trans h.os, k.tape.trans h.tape, k.output.trans h.output, Nat.le_trans h.size k.size, fun i hi => (k.block i (by omega) (.inl (by omega))).trans (h.block i hi)⟩
/-- What a mark is. -/
def mk3 (z : Int) : Bool := z % 3 == 0
def upB (k : Int) (n : Nat) : List Bool := (List.range n).map (fun i : Nat => mk3 (k + (i : Int)))
theorem upB_length (k : Int) (n : Nat) : (upB k n).length = n := by simp [upB]
theorem upB_getD (k : Int) {n i : Nat} (h : i < n) : (upB k n).getD i false = mk3 (k + i) := by simp [upB, List.getD, h]
def markB (k : Int) (zs : List Bool) (j : Nat) : List Bool := upB k j ++ zs.drop j
theorem markB_length (k : Int) (zs : List Bool) {j : Nat} (h : j ≤ zs.length) : (markB k zs j).length = zs.length := by simp [markB, upB_length]; omega
theorem markB_zero (k : Int) (zs : List Bool) : markB k zs 0 = zs := by simp [markB, upB]
theorem markB_all (k : Int) (zs : List Bool) : markB k zs zs.length = upB k zs.length := by simp [markB]
theorem markB_set (k : Int) (zs : List Bool) {j : Nat} (h : j < zs.length) : (markB k zs j).set j (mk3 (k + j)) = markB k zs (j + 1) := by
  unfold markB
  have e : zs.drop j = zs[j] :: zs.drop (j + 1) := (List.drop_eq_getElem_cons h)
  rw [e, List.set_append_right _ _ (by rw [upB_length]; omega), upB_length, Nat.sub_self, List.set_cons_zero]
  simp [upB, List.range_succ]
set_option maxHeartbeats 800000 in
theorem c_markBools (v : Value) (zs : List Bool) (B : Nat) (k : Int) (w : World) (hown : OwnBs w B v zs) (h0 : 0 ≤ k) (hm : k + zs.length ≤ 9223372036854775806) :
    Calls Try.prog 36 #[v, .int .i64 k] w fun e w' => e = .returned (.int .i64 (k + zs.length)) ∧ OwnBs w' B v (upB k zs.length) ∧ w.grownBy w' v.ownBlock := by
  rcases hown.shape with ⟨rfl, rfl⟩ | ⟨g, cap, rfl⟩
  · go_enter Try.func36, Try.ntmps36
    go_wp2
    refine wp_loop_rounds 1 ?_
    rw [rounds_succ]
    go_wp2
    go_ret
    exact ⟨r_i (by simp), hown, World.grownBy.refl _ _⟩
  · have HO := Lib.hid hown; clear hown
    generalize hn : zs.length = n at *
    have HN := Lib.hid hn; clear hn
    go_enter Try.func36, Try.ntmps36
    go_wp2
    go_loopw [1, 5] (fun kk i wr => ∃ j : Nat, j ≤ n ∧ i = .int .i64 j ∧ kk = .int .i64 (k + j) ∧ OwnBs wr B (.slice (some ⟨g, 0, none⟩) n cap) (markB k zs j) ∧ w.grownBy wr (some g)) (fun _ i _ => n - (intOf i).toNat)
    case atStart => exact ⟨0, Nat.zero_le _, rfl, by simp, by rw [markB_zero]; exact HO.out, World.grownBy.refl _ _⟩
    case round =>
      obtain ⟨j, hj, rfl, rfl, hown, hg⟩ := hrel
      by_cases hlt : j < n
      · have hlen := markB_length k zs (j := j) (by rw [HN.out]; exact hj)
        have hown' : wr.ownsRow B 4 1 (.slice (some ⟨g, 0, none⟩) n cap) n ((markB k zs j).map Value.bool) := by
          have := hown; unfold OwnBs at this; rwa [hlen, HN.out] at this
        have hfr := hown'.frozenAt j
        obtain ⟨x, hx⟩ : ∃ x, wr.cell? ⟨g, j, none⟩ = some x := by
          rw [hown'.cellAt j (by omega), List.getElem?_map, List.getElem?_eq_getElem (by rw [hlen, HN.out]; exact hlt)]
          exact ⟨_, rfl⟩
        obtain ⟨s1, s2⟩ := hown'.stored j (.bool (mk3 (k + j)))
        have S1 : Hid (OwnBs (wr.setCell ⟨g, j, none⟩ (.bool (mk3 (k + j)))) B (.slice (some ⟨g, 0, none⟩) n cap) (markB k zs (j + 1))) := by
          unfold Hid OwnBs
          rw [markB_length k zs (by rw [HN.out]; omega), HN.out, ← markB_set k zs (by rw [HN.out]; exact hlt), List.map_set]
          exact s1
        have S2 := Lib.hid s2
        clear s1 s2 hown hown' hlen
        go_wp2
        go_roundw
        case rel => exact ⟨j + 1, by omega, by go_num, by go_num, S1.out, grownBy_trans hg S2.out⟩
        case measure => simp [intOf]; omega
      · obtain rfl : j = n := by omega
        go_wp2
        go_ret
        exact ⟨rfl, by rw [← HN.out, ← markB_all, HN.out]; exact hown, hg⟩
set_option maxHeartbeats 800000 in
theorem c_heldBoolS (v : Value) (n : Nat) (k : Int) (w : World) (hA : BoolsAt w v (upB k n)) (h0 : 0 ≤ k) (hm : k + n ≤ 9223372036854775806) :
    Calls Try.prog 37 #[v, .int .i64 k] w fun e w' => e = .returned (.int .i64 (k + n)) ∧ w = w' := by
  obtain ⟨a, ca, rfl, hA⟩ := hA
  rw [upB_length] at hA ⊢
  have HA := Lib.hid hA; clear hA
  go_enter Try.func37, Try.ntmps37
  go_wp2
  go_loop [1, 5] (fun kk i => ∃ j : Nat, j ≤ n ∧ i = .int .i64 j ∧ kk = .int .i64 (k + j)) (fun _ i => n - (intOf i).toNat)
  case atStart => exact ⟨0, Nat.zero_le _, rfl, by simp⟩
  case round =>
    obtain ⟨j, hj, rfl, rfl⟩ := hrel
    by_cases hlt : j < n
    · obtain ⟨b, off, rfl, hc⟩ := HA.out (by omega)
      have q := hc j hlt
      rw [upB_getD k hlt] at q
      have hxx : ∀ x : Bool, (x != x) = false := by simp
      unfold mk3 at q
      clear hc
      go_wp2
      go_round
      case rel => exact ⟨j + 1, by omega, by go_num, by go_num⟩
      case measure => simp [intOf]; omega
    · obtain rfl : j = n := by omega
      go_wp2
      go_ret
      exact ⟨rfl, rfl⟩
/-- Rows of which the first j have been marked. -/
def markF (k : Int) (fs : List (List Int)) (j : Nat) : List (List Int) := (List.range fs.length).map fun i => if i < j then upFrom (k + sumL fs i) (fs.getD i []).length else fs.getD i []
theorem markF_length (k : Int) (fs : List (List Int)) (j : Nat) : (markF k fs j).length = fs.length := by simp [markF]
theorem markF_getD (k : Int) (fs : List (List Int)) (j : Nat) {i : Nat} (h : i < fs.length) : (markF k fs j).getD i [] = if i < j then upFrom (k + sumL fs i) (fs.getD i []).length else fs.getD i [] := by
  unfold markF
  rw [List.getD, List.getElem?_map, List.getElem?_range h]
  rfl
theorem ext_getD {xs ys : List (List Int)} (hl : xs.length = ys.length) (h : ∀ i, i < xs.length → xs.getD i [] = ys.getD i []) : xs = ys := by
  apply List.ext_getElem hl
  intro i h1 h2
  have := h i h1
  simpa [List.getD, List.getElem?_eq_getElem h1, List.getElem?_eq_getElem h2] using this
theorem markF_zero (k : Int) (fs : List (List Int)) : markF k fs 0 = fs := ext_getD (markF_length k fs 0) fun i hi => by rw [markF_getD k fs 0 (by rw [markF_length] at hi; exact hi), if_neg (by omega)]
theorem markF_set (k : Int) (fs : List (List Int)) {j : Nat} (h : j < fs.length) : (markF k fs j).set j (upFrom (k + sumL fs j) (fs.getD j []).length) = markF k fs (j + 1) := by
  refine ext_getD (by rw [List.length_set, markF_length, markF_length]) fun i hi => ?_
  rw [List.length_set, markF_length] at hi
  rw [getD_setL (by rw [markF_length]; exact h), markF_getD k fs (j + 1) hi, markF_getD k fs j hi]
  by_cases e : i = j
  · subst e; rw [if_pos rfl, if_pos (by omega)]
  · rw [if_neg e]
    by_cases e2 : i < j
    · rw [if_pos e2, if_pos (by omega)]
    · rw [if_neg e2, if_neg (by omega)]
def szM (h : H) : Nat := sumL h.f h.f.length + h.l.length + h.r.length
def markH (k : Int) (h : H) : H := ⟨markF k h.f h.f.length, upB (k + sumL h.f h.f.length) h.l.length, upFrom (k + sumL h.f h.f.length + h.l.length) h.r.length⟩
theorem FamH.shapeN {w : World} {lo hi : Nat} {a b c : Value} {us : Nat → Value} {h : H} (k : FamH w lo hi a b c us h) {n : Nat} (hn : h.f.length = n) : (a = .slice none 0 0 ∧ n = 0) ∨ ∃ g cap, a = .slice (some ⟨g, 0, none⟩) n cap := by
  rcases k.shape with ⟨h1, h2⟩ | ⟨g, cap, h1⟩
  · exact .inl ⟨h1, by rw [← hn, h2]; rfl⟩
  · exact .inr ⟨g, cap, by rw [h1, hn]⟩
set_option maxHeartbeats 1600000 in
theorem c_markIntSS (lo hi : Nat) (a b c : Value) (us : Nat → Value) (h : H) (k : Int) (w : World) (hown : FamH w lo hi a b c us h) (h0 : 0 ≤ k) (hm : k + sumL h.f h.f.length ≤ 9223372036854775806) (hl : h.f.length ≤ 9223372036854775806) :
    Calls Try.prog 103 #[a, .int .i64 k] w fun e w' => e = .returned (.int .i64 (k + sumL h.f h.f.length)) ∧ FamH w' lo hi a b c us ⟨markF k h.f h.f.length, h.l, h.r⟩ ∧ Chg lo hi w w' := by
  obtain ⟨fs, ls, rs⟩ := h
  simp only at *
  have hsl := sumL_le fs
  have hss : ∀ k, k < fs.length → sumL fs (k + 1) = sumL fs k + (fs.getD k []).length := fun k hk => sumL_succ hk
  have HO := Lib.hid hown
  have hsh := hown.shapeN (n := fs.length) rfl
  clear hown
  generalize hn : fs.length = n at *
  have HN := Lib.hid hn; have HSL := Lib.hid hsl; have HSS := Lib.hid hss
  clear hn hsl hss
  generalize hT : sumL fs n = Tt at *
  have HT := Lib.hid hT
  clear hT
  have ha : ∃ g cap, a = .slice g n cap ∧ (0 < n → ∃ b, g = some ⟨b, 0, none⟩) := by
    rcases hsh with ⟨h1, h2⟩ | ⟨g, cap, h1⟩
    · exact ⟨none, 0, by rw [h1, h2], fun h => by omega⟩
    · exact ⟨_, cap, h1, fun _ => ⟨g, rfl⟩⟩
  obtain ⟨ga, cap, rfl, hga⟩ := ha
  have HGA := Lib.hid hga
  clear hsh hga
  go_enter Try.func103, Try.ntmps103
  go_wp2
  go_loopw [1, 5] (fun kk i wr => ∃ j : Nat, j ≤ n ∧ i = .int .i64 j ∧ ∃ s : Nat, Hid (sumL fs j = s) ∧ s ≤ Tt ∧ kk = .int .i64 (k + s) ∧ FamH wr lo hi (.slice ga n cap) b c us ⟨markF k fs j, ls, rs⟩ ∧ Chg lo hi w wr) (fun _ i _ => n - (intOf i).toNat)
  case atStart => exact ⟨0, Nat.zero_le _, rfl, 0, sumL_zero fs, Nat.zero_le _, by simp, by rw [markF_zero]; exact HO.out, Chg.refl _ _ _⟩
  case round =>
    obtain ⟨j, hj, rfl, s, hs, hsT, rfl, hfam, hch⟩ := hrel
    by_cases hlt : j < n
    · obtain ⟨g, rfl⟩ := HGA.out (by omega)
      have hjl : j < fs.length := by rw [HN.out]; exact hlt
      have e1 := HSS.out j hlt
      have e2 := HSL.out (j + 1)
      rw [hs.out] at e1
      rw [e1] at e2
      have hlen : (markF k fs j).length = n := by rw [markF_length, HN.out]
      obtain ⟨q, _⟩ := hfam.cell (g := g) (cap := cap) (i := j) (by simp only [hlen]) (by simp only [hlen]; exact hlt)
      have hrow := hfam.row (i := j) (by simp only [hlen]; exact hlt)
      simp only [] at hrow
      rw [markF_getD k fs j hjl, if_neg (by omega)] at hrow
      have hset := markF_set k fs hjl
      rw [hs.out] at hset
      have i1 : (j : Int) < (n : Int) := by omega
      have E1 := Lib.hid e1; have HR := Lib.hid hrow; have HF := Lib.hid hfam; have HCH := Lib.hid hch; have HLE := Lib.hid hlen; have HST := Lib.hid hset
      clear hfam hch hrow hlen hset e1 hjl
      generalize hzs : fs.getD j [] = zs at *
      have J : Hid ((0 : Int) ≤ k + s ∧ k + s + zs.length ≤ 9223372036854775806) := ⟨by omega, by omega⟩
      have hb2 : s + zs.length ≤ Tt := e2
      clear hzs e2
      obtain ⟨u, hu⟩ : ∃ u, u = us j := ⟨_, rfl⟩
      rw [← hu] at q HR
      have HU := Lib.hid hu
      clear hu
      go_wp2_with fail
      refine (c_markIntS u zs lo (k + s) _ HR.out J.out.1 J.out.2).mono ?_
      rintro e w2 ⟨rfl, ho2, hg2⟩
      rw [HU.out] at ho2 hg2
      have hch2 : Chg lo hi wr w2 := Chg.of_grown hg2 fun g' hg' => by
        have := Fam.blk HF.out (k := j + 3) (g := g') (by simp only [HLE.out]; omega) hg'
        exact ⟨this.1, this.2.1⟩
      have F2 := HF.out.setRow (i := j) (by simp only [HLE.out]; exact hlt) hg2 ho2
      simp only [HST.out] at F2
      have F3 := Lib.hid F2; have C3 := Lib.hid (HCH.out.trans hch2)
      clear F2 hch2 ho2 hg2 q
      generalize zs.length = m at *
      go_wp2
      go_roundw
      case rel => exact ⟨j + 1, by omega, by go_num, s + m, E1.out, by omega, by congr 1; omega, F3.out, C3.out⟩
      case measure => simp [intOf]; omega
    · obtain rfl : j = n := by omega
      obtain rfl : Tt = s := HT.out.symm.trans hs.out
      go_wp2
      go_ret
      exact ⟨rfl, hfam, hch⟩
set_option maxHeartbeats 1600000 in
theorem c_markHeap (lo hi : Nat) (a b c : Value) (h : H) (k : Int) (w : World) (hown : OwnH w lo hi a b c h) (h0 : 0 ≤ k) (hm : k + szM h ≤ 9223372036854775806) (hl : h.f.length ≤ 9223372036854775806) (hs : hi ≤ w.heap.size) :
    Calls Try.prog 34 #[hv a b c, .int .i64 k] w fun e w' => e = .returned (.int .i64 (k + szM h)) ∧ OwnH w' lo hi a b c (markH k h) ∧ Chg lo hi w w' := by
  have hb0 := below1 w (.cells (c3 a b c) 32)
  obtain ⟨us, hfam⟩ := hown
  have F0 := Lib.hid (show FamH _ lo hi a b c us h from Fam.below hfam hb0)
  have C0 := Lib.hid (Chg.of_below (lo := lo) (hi := hi) hb0)
  have R0 := Lib.hid (show RowH _ _ a b c from Row.new w 32 (c3 a b c))
  have hmk : k + szM h = k + sumL h.f h.f.length + h.l.length + h.r.length := by unfold szM; omega
  have HMK := Lib.hid hmk
  rw [hmk] at hm ⊢
  have J1 : Hid (k + sumL h.f h.f.length ≤ 9223372036854775806 ∧ 0 ≤ k + sumL h.f h.f.length ∧ k + sumL h.f h.f.length + h.l.length ≤ 9223372036854775806 ∧ 0 ≤ k + sumL h.f h.f.length + h.l.length ∧ k + sumL h.f h.f.length + h.l.length + h.r.length ≤ 9223372036854775806) := ⟨by omega, by omega, by omega, by omega, by omega⟩
  have HLE := Lib.hid hl; have HS := Lib.hid hs
  clear hfam hb0 hmk hm hl hs
  have c0 := R0.out.c0
  go_enter Try.func34, Try.ntmps34
  go_wp2_with fail
  clear c0
  refine (c_markIntSS lo hi a b c us h k _ F0.out h0 J1.out.1 HLE.out).mono ?_
  rintro e w1 ⟨rfl, f1, ch1⟩
  have R1 : RowH _ _ a b c := Row.chg R0.out ch1 (.inr HS.out)
  have C1 := C0.out.trans ch1
  have hl1 := f1.live
  have c1 := R1.c1
  have F1 := Lib.hid f1; have RR := Lib.hid R1; have CC := Lib.hid C1; have HL1 := Lib.hid hl1
  clear f1 ch1 R1 C1 F0 R0 C0 hl1
  go_wp2_with fail
  clear c1
  refine (c_markBools b h.l lo (k + sumL h.f h.f.length) _ HL1.out J1.out.2.1 J1.out.2.2.1).mono ?_
  rintro e w2 ⟨rfl, ho2, hg2⟩
  have f2 := F1.out.setLive hg2 ho2
  have ch2 : Chg lo hi w1 w2 := Chg.of_grown hg2 fun g' hg' => by
    have := Fam.blk F1.out (k := 1) (g := g') (by omega) hg'
    exact ⟨this.1, this.2.1⟩
  have R2 : RowH _ _ a b c := Row.chg RR.out ch2 (.inr HS.out)
  have C2 := CC.out.trans ch2
  have hr2 := f2.roots
  have c2 := R2.c2
  have F2 := Lib.hid f2; have C3 := Lib.hid C2; have HR2 := Lib.hid hr2
  clear f2 ch2 R2 C2 F1 RR CC hr2 ho2 hg2 HL1
  go_wp2_with fail
  clear c2
  refine (c_markIntS c h.r lo (k + sumL h.f h.f.length + h.l.length) _ HR2.out J1.out.2.2.2.1 J1.out.2.2.2.2).mono ?_
  rintro e w3 ⟨rfl, ho3, hg3⟩
  have f3 := F2.out.setRoots hg3 ho3
  have ch3 : Chg lo hi w2 w3 := Chg.of_grown hg3 fun g' hg' => by
    have := Fam.blk F2.out (k := 2) (g := g') (by omega) hg'
    exact ⟨this.1, this.2.1⟩
  have F3 := Lib.hid f3; have C4 := Lib.hid (C3.out.trans ch3)
  clear f3 ch3 F2 C3 ho3 hg3 HR2
  go_wp2
  go_ret
  exact ⟨rfl, ⟨us, F3.out⟩, C4.out⟩
set_option maxHeartbeats 1600000 in
theorem c_heldIntSS (v : Value) (fs : List (List Int)) (k : Int) (w : World) (hA : RowsAt w v (markF k fs fs.length)) (h0 : 0 ≤ k) (hm : k + sumL fs fs.length ≤ 9223372036854775806) (hl : fs.length ≤ 9223372036854775806) :
    Calls Try.prog 148 #[v, .int .i64 k] w fun e w' => e = .returned (.int .i64 (k + sumL fs fs.length)) ∧ w = w' := by
  obtain ⟨a, ca, rfl, hA⟩ := hA
  rw [markF_length] at hA ⊢
  have hrow : ∀ i, i < fs.length → (markF k fs fs.length).getD i [] = upFrom (k + sumL fs i) (fs.getD i []).length := fun i hi => by rw [markF_getD k fs _ hi, if_pos hi]
  have hsl := sumL_le fs
  have hss : ∀ k, k < fs.length → sumL fs (k + 1) = sumL fs k + (fs.getD k []).length := fun k hk => sumL_succ hk
  generalize hn : fs.length = n at *
  have HN := Lib.hid hn; have HSL := Lib.hid hsl; have HSS := Lib.hid hss; have HA := Lib.hid hA; have HRW := Lib.hid hrow
  clear hn hsl hss hA hrow
  generalize hT : sumL fs n = Tt at *
  have HT := Lib.hid hT
  clear hT
  go_enter Try.func148, Try.ntmps148
  go_wp2
  go_loop [1, 5] (fun kk i => ∃ j : Nat, j ≤ n ∧ i = .int .i64 j ∧ ∃ s : Nat, Hid (sumL fs j = s) ∧ s ≤ Tt ∧ kk = .int .i64 (k + s)) (fun _ i => n - (intOf i).toNat)
  case atStart => exact ⟨0, Nat.zero_le _, rfl, 0, sumL_zero fs, Nat.zero_le _, by simp⟩
  case round =>
    obtain ⟨j, hj, rfl, s, hs, hsT, rfl⟩ := hrel
    by_cases hlt : j < n
    · obtain ⟨g, off, rfl, hc⟩ := HA.out (by omega)
      obtain ⟨u, q, hu⟩ := hc j hlt
      rw [HRW.out j hlt, hs.out] at hu
      have e1 := HSS.out j hlt
      have e2 := HSL.out (j + 1)
      rw [hs.out] at e1
      rw [e1] at e2
      have i1 : (j : Int) < (n : Int) := by omega
      have E1 := Lib.hid e1; have HU := Lib.hid hu
      clear e1 hu hc
      generalize (fs.getD j []).length = m at *
      have J : Hid ((0 : Int) ≤ k + s ∧ k + s + m ≤ 9223372036854775806) := ⟨by omega, by omega⟩
      have i2 : ¬ k + (s : Int) + (m : Int) < 0 := by omega
      go_wp2_with (go_at_call 58; refine (c_heldIntS u m (k + s) _ HU.out J.out.1 J.out.2).mono ?_; rintro e w1 ⟨rfl, rfl⟩)
      go_round
      case rel => exact ⟨j + 1, by omega, by go_num, s + m, E1.out, by omega, by congr 1; omega⟩
      case measure => simp [intOf]; omega
    · obtain rfl : j = n := by omega
      obtain rfl : Tt = s := HT.out.symm.trans hs.out
      go_wp2
      go_ret
      exact ⟨rfl, rfl⟩
set_option maxHeartbeats 1600000 in
theorem c_heldHeap (a b c : Value) (h : H) (k : Int) (w : World) (hA : HeapAt w a b c (markH k h)) (h0 : 0 ≤ k) (hm : k + szM h ≤ 9223372036854775806) (hl : h.f.length ≤ 9223372036854775806) :
    Calls Try.prog 93 #[hv a b c, .int .i64 k] w fun e w' => e = .returned (.int .i64 (k + szM h)) ∧ Below w.heap.size w w' := by
  have HB := Lib.hid (below1 w (.cells (c3 a b c) 32))
  have hA0 := hA.below HB.out
  have H1 := Lib.hid hA0.f; have H2 := Lib.hid hA0.l; have H3 := Lib.hid hA0.r
  have hmk : k + szM h = k + sumL h.f h.f.length + h.l.length + h.r.length := by unfold szM; omega
  rw [hmk] at hm ⊢
  have J1 : Hid (k + sumL h.f h.f.length ≤ 9223372036854775806 ∧ 0 ≤ k + sumL h.f h.f.length ∧ k + sumL h.f h.f.length + h.l.length ≤ 9223372036854775806 ∧ 0 ≤ k + sumL h.f h.f.length + h.l.length ∧ k + sumL h.f h.f.length + h.l.length + h.r.length ≤ 9223372036854775806) := ⟨by omega, by omega, by omega, by omega, by omega⟩
  have i1 : ¬ k + (sumL h.f h.f.length : Int) < 0 := by omega
  have i2 : ¬ k + (sumL h.f h.f.length : Int) + (h.l.length : Int) < 0 := by omega
  have i3 : ¬ k + (sumL h.f h.f.length : Int) + (h.l.length : Int) + (h.r.length : Int) < 0 := by omega
  have HLE := Lib.hid hl
  clear hA hA0 hmk hm hl
  have K1 := Lib.hid (c_heldIntSS a h.f k _ H1.out h0 J1.out.1 HLE.out)
  have K2 := Lib.hid (c_heldBoolS b h.l.length (k + sumL h.f h.f.length) _ H2.out J1.out.2.1 J1.out.2.2.1)
  have K3 := Lib.hid (c_heldIntS c h.r.length (k + sumL h.f h.f.length + h.l.length) _ H3.out J1.out.2.2.2.1 J1.out.2.2.2.2)
  clear H1 H2 H3 J1
  generalize sumL h.f h.f.length = sf at *
  generalize h.l.length = sl at *
  generalize h.r.length = sr at *
  go_enter Try.func93, Try.ntmps93
  go_wp2_with (first
    | (go_at_call 148; refine K1.out.mono ?_; rintro e w1 ⟨rfl, rfl⟩)
    | (go_at_call 37; refine K2.out.mono ?_; rintro e w1 ⟨rfl, rfl⟩)
    | (go_at_call 58; refine K3.out.mono ?_; rintro e w1 ⟨rfl, rfl⟩))
  go_ret
  exact ⟨rfl, HB.out⟩
end Go.Proofs.Ytbmfkgfmibpkjaa
namespace Go.Proofs.Ytbmfkgfmibpkjaa
open Go.RowKit Ph

theorem OwnH.ofBools {w : World} {B : Nat} {v : Value} {bs : List Bool} (ho : OwnBs w B v bs) (hs : B ≤ w.heap.size) : OwnH w B w.heap.size (.slice none 0 0) v (.slice none 0 0) ⟨[], bs, []⟩ := (OwnH.nil w B B).addLive ho (Nat.le_refl _) hs
theorem OwnH.ofInts {w w0 : World} {v : Value} {zs : List Int} (ho : Own w w0.heap.size v zs) (hb : Below w0.heap.size w0 w) : OwnH w w0.heap.size w.heap.size (.slice none 0 0) (.slice none 0 0) v ⟨[], [], zs⟩ := (OwnH.nil w _ w0.heap.size).addRoots ho (Nat.le_refl _) hb.size
/-- A list of bools of its own, and a bool. -/
def EndB (bs : List Bool) (ok : Bool) (w : World) (e : Ending) (w' : World) : Prop := ∃ v, e = .returned (.tuple #[v, .bool ok]) ∧ OwnH w' w.heap.size w'.heap.size (.slice none 0 0) v (.slice none 0 0) ⟨[], bs, []⟩ ∧ Below w.heap.size w w'
theorem c_markLive (lo hi : Nat) (a b c : Value) (h : H) (k : Int) (w : World) (hown : OwnH w lo hi a b c h) (h0 : 0 ≤ k) (hm : k + h.l.length ≤ 9223372036854775806) :
    Calls Try.prog 36 #[b, .int .i64 k] w fun e w' => e = .returned (.int .i64 (k + h.l.length)) ∧ OwnH w' lo hi a b c ⟨h.f, upB k h.l.length, h.r⟩ ∧ Chg lo hi w w' := by
  obtain ⟨us, hf⟩ := hown
  refine (c_markBools b h.l lo k w hf.live h0 hm).mono ?_
  rintro e w' ⟨he, ho, hg⟩
  exact ⟨he, ⟨us, hf.setLive hg ho⟩, Chg.of_grown hg fun g' hg' => by have := Fam.blk hf (k := 1) (g := g') (by omega) hg'; exact ⟨this.1, this.2.1⟩⟩
theorem c_markRoots (lo hi : Nat) (a b c : Value) (h : H) (k : Int) (w : World) (hown : OwnH w lo hi a b c h) (h0 : 0 ≤ k) (hm : k + h.r.length ≤ 9223372036854775806) :
    Calls Try.prog 57 #[c, .int .i64 k] w fun e w' => e = .returned (.int .i64 (k + h.r.length)) ∧ OwnH w' lo hi a b c ⟨h.f, h.l, upFrom k h.r.length⟩ ∧ Chg lo hi w w' := by
  obtain ⟨us, hf⟩ := hown
  refine (c_markIntS c h.r lo k w hf.roots h0 hm).mono ?_
  rintro e w' ⟨he, ho, hg⟩
  exact ⟨he, ⟨us, hf.setRoots hg ho⟩, Chg.of_grown hg fun g' hg' => by have := Fam.blk hf (k := 2) (g := g') (by omega) hg'; exact ⟨this.1, this.2.1⟩⟩
end Go.Proofs.Ytbmfkgfmibpkjaa
namespace Go.Proofs.Ytbmfkgfmibpkjaa.Ph
theorem left_mono : ∀ (S S' : List Bool), S'.length = S.length → (∀ k, S.getD k false = true → S'.getD k false = true) → left S' ≤ left S
  | [], [], _, _ => Nat.le_refl _
  | [], _ :: _, h, _ => by simp at h
  | _ :: _, [], h, _ => by simp at h
  | b :: S, b' :: S', h, hs => by
    have h1 := left_mono S S' (by simpa using h) (fun k hk => by have := hs (k + 1) (by simpa using hk); simpa using this)
    unfold left at h1 ⊢
    have h0 := hs 0
    cases b <;> cases b' <;> simp_all <;> omega
theorem Vis.left {fs : List (List Int)} {zs : List Int} {S S' : List Bool} (h : Vis fs zs S S') : left S' ≤ left S := left_mono S S' h.len h.sub
end Go.Proofs.Ytbmfkgfmibpkjaa.Ph
namespace Go.Proofs.Ytbmfkgfmibpkjaa
open Go.RowKit Ph

/-- The closure, its captured variables, and what it reads. -/
structure Vst (w : World) (g gr gv gh n cp lo : Nat) (a b c : Value) (S : List Bool) : Prop where
  own : OwnBs w lo (.slice (some ⟨g, 0, none⟩) n cp) S
  r : Row w gr 23 #[.slice (some ⟨g, 0, none⟩) n cp]
  v : Row w gv 192 #[.func (.func 201) #[] #[.pointer (some ⟨gr, 0, none⟩), .pointer (some ⟨gv, 0, none⟩), .pointer (some ⟨gh, 0, none⟩)]]
  h : RowH w gh a b c
theorem cellGrown {w w' : World} {g : Nat} {p : Addr} {x : Value} (hg : w.grownBy w' (some g)) (hp : p.block ≠ g) (h : w.cell? p = some x) : w'.cell? p = some x := by
  have hb := hg.block p.block (block_lt_of_cell h) (by simpa using hp)
  rw [World.cell?, hb]; exact h
theorem grown_drew (w : World) (r : Option Nat) : w.grownBy w.drew r := ⟨rfl, rfl, rfl, Nat.le_refl _, fun _ _ _ => rfl⟩
theorem OwnBs.stored {w : World} {B g n cap : Nat} {S : List Bool} (h : OwnBs w B (.slice (some ⟨g, 0, none⟩) n cap) S) (hn : S.length = n) {z : Nat} (hz : z < n) (x : Bool) : OwnBs (w.setCell ⟨g, z, none⟩ (.bool x)) B (.slice (some ⟨g, 0, none⟩) n cap) (S.set z x) ∧ w.grownBy (w.setCell ⟨g, z, none⟩ (.bool x)) (some g) ∧ w.cell? ⟨g, z, none⟩ = some (.bool (S.getD z false)) ∧ w.frozen? ⟨g, z, none⟩ = false := by
  unfold OwnBs at h
  rw [hn] at h
  obtain ⟨s1, s2⟩ := h.stored z (.bool x)
  refine ⟨?_, s2, ?_, h.frozenAt z⟩
  · unfold OwnBs
    rw [List.length_set, hn, List.map_set]
    exact s1
  · rw [h.cellAt z (by omega), List.getElem?_map, List.getElem?_eq_getElem (by omega)]
    simp [List.getD, List.getElem?_eq_getElem (show z < S.length by omega)]
theorem Vst.step {w w' : World} {g gr gv gh n cp lo : Nat} {a b c : Value} {S S' : List Bool} (k : Vst w g gr gv gh n cp lo a b c S) (hg : w.grownBy w' (some g)) (h1 : g ≠ gr) (h2 : g ≠ gv) (h3 : g ≠ gh) (ho : OwnBs w' lo (.slice (some ⟨g, 0, none⟩) n cp) S') : Vst w' g gr gv gh n cp lo a b c S' :=
  ⟨ho, Row.grownBy k.r hg (by simpa using h1), Row.grownBy k.v hg (by simpa using h2), Row.grownBy k.h hg (by simpa using h3)⟩
def inR (n : Nat) (z : Int) : Prop := z = -1 ∨ (0 ≤ z ∧ z < n)
set_option maxRecDepth 100000 in
set_option maxHeartbeats 6400000 in
theorem c_visit (W : World) (g gr gv gh n cp lo : Nat) (a b c : Value) (fs : List (List Int)) (hlo : W.heap.size ≤ g) (h1 : g ≠ gr) (h2 : g ≠ gv) (h3 : g ≠ gh) (hF : RowsAt W a fs) (hn : fs.length = n) (hn1 : n ≤ 12) (hrow : ∀ i, i < n → ∀ z ∈ fs.getD i [], inR n z) (hrl : ∀ i, i < n → (fs.getD i []).length ≤ 3) (fuel : Nat) :
    ∀ (v : Value) (zs : List Int) (S : List Bool) (w : World), left S ≤ fuel → S.length = n → IntsAt W v zs → zs.length ≤ 12 → (∀ z ∈ zs, inR n z) → Below W.heap.size W w → Vst w g gr gv gh n cp lo a b c S →
      Calls Try.prog 201 #[v, .pointer (some ⟨gr, 0, none⟩), .pointer (some ⟨gv, 0, none⟩), .pointer (some ⟨gh, 0, none⟩)] w fun e w' => e = .returned (.tuple #[]) ∧ ∃ S', Vis fs zs S S' ∧ OwnBs w' lo (.slice (some ⟨g, 0, none⟩) n cp) S' ∧ w.grownBy w' (some g) := by
  induction fuel using Nat.strongRecOn with
  | ind fuel ih =>
    intro v zs S w hleft hSn hz hzl hzr hB hV
    obtain ⟨fa, fc, rfl⟩ := hF.shape
    rw [hn] at *
    obtain ⟨va, vc, rfl⟩ := hz.shape
    have HZ := Lib.hid hz; have HZR := Lib.hid hzr; have HB := Lib.hid hB; have HV := Lib.hid hV; have HF := Lib.hid hF; have IH := Lib.hid ih; have HROW := Lib.hid hrow; have HRL := Lib.hid hrl; have HSN := Lib.hid hSn; have HFN := Lib.hid hn; have HLO := Lib.hid hlo; have HLE := Lib.hid hleft
    clear hz hzr hB hV hF ih hrow hrl hSn hn hlo hleft
    generalize hm : zs.length = m at *
    have HM := Lib.hid hm; clear hm
    go_enter Try.func201, Try.ntmps201
    go_wp2
    go_loopw [9] (fun i wr => ∃ j : Nat, j ≤ m ∧ i = .int .i64 j ∧ ∃ S', Hid (Vis fs (zs.take j) S S') ∧ Hid (Vst wr g gr gv gh n cp lo (.slice fa n fc) b c S') ∧ Hid (w.grownBy wr (some g))) (fun i _ => m - (intOf i).toNat)
    case atStart => exact ⟨0, Nat.zero_le _, rfl, S, Vis.start fs zs S, HV.out, World.grownBy.refl _ _⟩
    case round =>
      obtain ⟨j, hj, rfl, S', hvis, hvst, hgr⟩ := hrel
      by_cases hlt : j < m
      · obtain ⟨zb, zo, rfl, hc⟩ := HZ.out.at' (by omega)
        have BR : Below W.heap.size W wr := by
          have := HLO.out
          exact HB.out.grown hgr.out HB.out.size (fun k hk => by cases hk; omega)
        have q := cellBelow BR (Nat.le_refl _) (hc j hlt)
        have hjl : j < zs.length := by rw [HM.out]; exact hlt
        have hin := HZR.out (zs.getD j 0) (by rw [List.getD, List.getElem?_eq_getElem hjl]; exact List.getElem_mem hjl)
        have hSl : S'.length = n := by rw [hvis.out.len, HSN.out]
        have cr := hvst.out.r.cell 0
        have i1 : (j : Int) < (m : Int) := by omega
        have HJL := Lib.hid hjl
        clear hc
        generalize hzj : zs.getD j 0 = z at *
        have HZJ := Lib.hid hzj
        clear hzj hjl
        by_cases z1 : z = -1
        · subst z1
          have HE : Hid (Vis fs (zs.take (j + 1)) S S') := hvis.out.skip HJL.out (.inl HZJ.out)
          clear hin
          go_wp2_with fail
          go_roundw
          case rel => exact ⟨j + 1, by omega, by go_num, S', HE, hvst, hgr⟩
          case measure => simp [intOf]; omega
        · obtain ⟨t, rfl⟩ : ∃ t : Nat, z = t := ⟨z.toNat, by rcases hin with h | h <;> omega⟩
          have htn : t < n := by rcases hin with h | h <;> omega
          obtain ⟨s1, s2, s3, s4⟩ := hvst.out.own.stored hSl htn true
          have i2 : ((t : Int) == -1) = false := by simp
          have i3 : (t : Int) < (n : Int) := by omega
          have i4 : (0 : Int) ≤ (t : Int) := by omega
          generalize hx : S'.getD t false = x at *
          have HX := Lib.hid hx
          clear hin z1 hx
          cases x
          · have hls := left_set (S := S') (z := t) (by omega) HX.out
            have hlm := hvis.out.left
            have V1 := hvst.out.step s2 h1 h2 h3 s1
            obtain ⟨fb, fo, rfl, hcf⟩ := HF.out.at' (by omega)
            obtain ⟨u, quf, huf⟩ := hcf t htn
            have B1 : Below W.heap.size W (wr.setCell ⟨g, t, none⟩ (.bool true)) := BR.setCell (p := ⟨g, t, none⟩) (by have := HLO.out; exact this) (.bool true)
            have qu := cellBelow B1 (Nat.le_refl _) quf
            have IHC := IH.out (left (S'.set t true)) (by have := HLE.out; omega) u (fs.getD t []) (S'.set t true)
            have HC : Hid (∀ w', Below W.heap.size W w' → Vst w' g gr gv gh n cp lo (.slice (some ⟨fb, fo, none⟩) n fc) b c (S'.set t true) → Calls Try.prog 201 #[u, .pointer (some ⟨gr, 0, none⟩), .pointer (some ⟨gv, 0, none⟩), .pointer (some ⟨gh, 0, none⟩)] w' fun e w'' => e = .returned (.tuple #[]) ∧ ∃ S2, Vis fs (fs.getD t []) (S'.set t true) S2 ∧ OwnBs w'' lo (.slice (some ⟨g, 0, none⟩) n cp) S2 ∧ w'.grownBy w'' (some g)) := fun w' hb hv =>
              IHC w' (Nat.le_refl _) (by rw [List.length_set]; exact hSl) huf (by have := HRL.out t htn; omega) (HROW.out t htn) hb hv
            obtain ⟨ua, uc, hu⟩ := huf.shape
            subst hu
            have HV1 := Lib.hid V1; have HB1 := Lib.hid B1; have HS2 := Lib.hid s2; have HSL := Lib.hid hSl
            clear hls hlm V1 hcf huf B1 IHC s1 s2 hSl
            generalize (fs.getD t []).length = ul at *
            have hfb : fb ≠ g := by have h1 := block_lt_of_cell quf; have h2 := HLO.out; simp only at h1; omega
            clear quf
            go_wp2_with fail
            generalize (wr.setCell ⟨g, t, none⟩ (.bool true)) = cur at *
            have cv : cur.drew.cell? ⟨gv, 0, none⟩ = some (.func (.func 201) #[] #[.pointer (some ⟨gr, 0, none⟩), .pointer (some ⟨gv, 0, none⟩), .pointer (some ⟨gh, 0, none⟩)]) := HV1.out.v.cell 0
            have ch : cur.drew.cell? ⟨gh, 0, none⟩ = some (.slice (some ⟨fb, fo, none⟩) n fc) := HV1.out.h.c0
            replace qu : cur.drew.cell? ⟨fb, fo + t, none⟩ = some (.slice ua ul uc) := qu
            have BD := grown_drew cur (some g)
            have BW : Hid (Below W.heap.size W cur.drew) := below_drew HB1.out
            have VD : Hid (Vst cur.drew g gr gv gh n cp lo (.slice (some ⟨fb, fo, none⟩) n fc) b c (S'.set t true)) := ⟨HV1.out.own, HV1.out.r, HV1.out.v, HV1.out.h⟩
            have k1 := Lib.hid (Ne.symm h2); have k2 := Lib.hid (Ne.symm h3); have k3 := Lib.hid hfb
            go_region_held3 (fun w' => w'.cell? ⟨gv, 0, none⟩ = some (.func (.func 201) #[] #[.pointer (some ⟨gr, 0, none⟩), .pointer (some ⟨gv, 0, none⟩), .pointer (some ⟨gh, 0, none⟩)]) ∧ w'.cell? ⟨gh, 0, none⟩ = some (.slice (some ⟨fb, fo, none⟩) n fc) ∧ w'.cell? ⟨fb, fo + t, none⟩ = some (.slice ua ul uc) ∧ cur.grownBy w' (some g))
              (first
                | (with_reducible exact ⟨cv, ch, qu, BD⟩)
                | (go_split_ands
                   exact ⟨cellGrown hbk k1.out (by assumption), cellGrown hbk k2.out (by assumption), cellGrown hbk k3.out (by assumption), grownBy_trans (by assumption) hbk⟩)
                | (go_split_ands; refine ⟨?_, ?_, ?_, ?_⟩ <;> assumption))
              (first
                | (go_at_call 201; refine (HC.out _ BW.out VD.out).mono ?_; rintro e w6 ⟨rfl, S2, hvis2, hown2, hbk⟩))
            have hg6 : cur.grownBy w6 (some g) := by go_split_ands; assumption
            have HE : Hid (Vis fs (zs.take (j + 1)) S S2) := hvis.out.down HJL.out HZJ.out (by rw [HSL.out]; exact htn) HX.out hvis2
            have HG6 : Hid (w.grownBy w6 (some g)) := grownBy_trans (grownBy_trans hgr.out HS2.out) hg6
            have HV6 : Hid (Vst w6 g gr gv gh n cp lo (.slice (some ⟨fb, fo, none⟩) n fc) b c S2) := HV1.out.step hg6 h1 h2 h3 hown2
            clear hg6 hown2 hvis2 cv ch qu BD BW VD
            go_wp2_with fail
            go_roundw
            case rel => exact ⟨j + 1, by omega, by go_num, S2, HE, HV6, HG6⟩
            case measure => simp [intOf]; omega
          · have HE : Hid (Vis fs (zs.take (j + 1)) S S') := hvis.out.skip HJL.out (.inr (by rw [HZJ.out]; simpa using HX.out))
            go_wp2_with fail
            go_roundw
            case rel => exact ⟨j + 1, by omega, by go_num, S', HE, hvst, hgr⟩
            case measure => simp [intOf]; omega
      · obtain rfl : j = m := by omega
        have HE : Hid (zs.take j = zs) := List.take_of_length_le (by rw [HM.out]; exact Nat.le_refl _)
        go_wp2_with fail
        go_end0
        exact ⟨rfl, S', by rw [← HE.out]; exact hvis.out, hvst.out.own, hgr.out⟩
set_option maxRecDepth 100000 in
set_option maxHeartbeats 3200000 in
theorem c_visit0 (v x y z : Value) (zs : List Int) (w : World) (hz : IntsAt w v zs) (hr : ∀ q ∈ zs, inR 0 q) (hm : zs.length ≤ 12) :
    Calls Try.prog 201 #[v, x, y, z] w fun e w' => e = .returned (.tuple #[]) ∧ Below w.heap.size w w' := by
  obtain ⟨va, vc, rfl⟩ := hz.shape
  have HZ := Lib.hid hz; have HR := Lib.hid hr
  clear hz hr
  generalize hn : zs.length = m at *
  have HM := Lib.hid hn; clear hn
  go_enter Try.func201, Try.ntmps201
  go_wp2
  go_loopw [9] (fun i wr => ∃ j : Nat, j ≤ m ∧ i = .int .i64 j ∧ Hid (Below w.heap.size w wr)) (fun i _ => m - (intOf i).toNat)
  case atStart => exact ⟨0, Nat.zero_le _, rfl, Below.refl _ _⟩
  case round =>
    obtain ⟨j, hj, rfl, hb⟩ := hrel
    by_cases hlt : j < m
    · obtain ⟨zb, zo, rfl, hc⟩ := (HZ.out.below hb.out).at' (by omega)
      have q := hc j hlt
      have hjl : j < zs.length := by rw [HM.out]; exact hlt
      have hin := HR.out (zs.getD j 0) (by rw [List.getD, List.getElem?_eq_getElem hjl]; exact List.getElem_mem hjl)
      have i1 : (j : Int) < (m : Int) := by omega
      clear hc hjl
      generalize zs.getD j 0 = z at *
      obtain rfl : z = -1 := by rcases hin with h | h <;> omega
      clear hin
      go_wp2_with fail
      go_roundw
      case rel => exact ⟨j + 1, by omega, by go_num, hb⟩
      case measure => simp [intOf]; omega
    · go_wp2_with fail
      go_end0
      exact ⟨rfl, hb.out⟩
end Go.Proofs.Ytbmfkgfmibpkjaa
namespace Go.Proofs.Ytbmfkgfmibpkjaa
open Go.RowKit Ph

theorem rep_bools (n : Nat) : (madeCells (Value.bool false).cells (n * 1)).toList = (List.replicate n false).map Value.bool := by
  rw [Nat.mul_one, show (Value.bool false).cells = #[.bool false] from rfl, toList_madeCells_one, List.map_replicate]
theorem grownB_of {w w' : World} (h : Below w.heap.size w w') (r : Option Nat) : w.grownBy w' r := ⟨h.os, h.tape, h.output, h.size, fun i hi _ => h.block i hi⟩
set_option maxRecDepth 100000 in
set_option maxHeartbeats 3200000 in
theorem c_reachMore (W : World) (g n cp lo : Nat) (a b c v : Value) (h : H) (zs : List Int) (S : List Bool) (w : World) (hA : HeapAt W a b c h) (hG : Ph.Good h) (hz : IntsAt W v zs) (hzl : zs.length ≤ 12) (hzr : ∀ z ∈ zs, inR h.f.length z) (hB : Below W.heap.size W w) (hlo : W.heap.size ≤ g) (hn : h.f.length = n) (hSn : S.length = n) (hS : OwnBs w lo (.slice (some ⟨g, 0, none⟩) n cp) S) :
    Calls Try.prog 171 #[hv a b c, .slice (some ⟨g, 0, none⟩) n cp, v] w fun e w' => e = .returned (.tuple #[]) ∧ ∃ S', Vis h.f zs S S' ∧ OwnBs w' lo (.slice (some ⟨g, 0, none⟩) n cp) S' ∧ w.grownBy w' (some g) := by
  have hrow : ∀ i, i < h.f.length → ∀ z ∈ h.f.getD i [], inR h.f.length z := fun i _ z hz => (hG.field hz).imp id (fun h => ⟨h.1, h.2.1⟩)
  have hrl : ∀ i, i < h.f.length → (h.f.getD i []).length ≤ 3 := fun i hi => (hG.row i hi).1
  have hn1 := hG.n
  have hll := hG.ll
  obtain ⟨la, lc, rfl⟩ := hA.l.shape
  rw [hll]
  have HF := Lib.hid hA.f; have HZ := Lib.hid hz; have HR := Lib.hid hrow; have HRL := Lib.hid hrl; have HZR := Lib.hid hzr
  clear hA hG hz hrow hrl hzr hll
  subst hn
  generalize hn : h.f.length = n at *
  have HN := Lib.hid hn; clear hn
  have hgw : g < w.heap.size := (owns_lt (g := g) hS rfl).2
  have b3 := ((below1 w (.cells (c3 a (.slice la n lc) c) 32)).alloc (by simp) (.cells #[.slice (some ⟨g, 0, none⟩) n cp] 23)).alloc (by simp; omega) (.cells #[.func (.func 201) #[] #[.pointer (some ⟨w.heap.size + 1, 0, none⟩), .pointer (some ⟨w.heap.size + 1 + 1, 0, none⟩), .pointer (some ⟨w.heap.size, 0, none⟩)]] 192)
  have hV : Vst (((w.alloc (.cells (c3 a (.slice la n lc) c) 32)).alloc (.cells #[.slice (some ⟨g, 0, none⟩) n cp] 23)).alloc (.cells #[.func (.func 201) #[] #[.pointer (some ⟨w.heap.size + 1, 0, none⟩), .pointer (some ⟨w.heap.size + 1 + 1, 0, none⟩), .pointer (some ⟨w.heap.size, 0, none⟩)]] 192)) g (w.heap.size + 1) (w.heap.size + 1 + 1) w.heap.size n cp lo a (.slice la n lc) c S := ⟨OwnBs.below hS b3, (Row.new1 w (.cells (c3 a (.slice la n lc) c) 32) 23 #[.slice (some ⟨g, 0, none⟩) n cp]).alloc (.cells #[.func (.func 201) #[] #[.pointer (some ⟨w.heap.size + 1, 0, none⟩), .pointer (some ⟨w.heap.size + 1 + 1, 0, none⟩), .pointer (some ⟨w.heap.size, 0, none⟩)]] 192), Row.new2 w (.cells (c3 a (.slice la n lc) c) 32) (.cells #[.slice (some ⟨g, 0, none⟩) n cp] 23) 192 _, ((Row.new w 32 (c3 a (.slice la n lc) c)).alloc (.cells #[.slice (some ⟨g, 0, none⟩) n cp] 23)).alloc (.cells #[.func (.func 201) #[] #[.pointer (some ⟨w.heap.size + 1, 0, none⟩), .pointer (some ⟨w.heap.size + 1 + 1, 0, none⟩), .pointer (some ⟨w.heap.size, 0, none⟩)]] 192)⟩
  have VV := Lib.hid hV
  have BB := Lib.hid (bst hB b3 hB.size)
  have G3 := Lib.hid (grownB_of b3 (some g))
  have HSN := Lib.hid hSn
  have HLO := Lib.hid hlo
  clear hV hB b3 hS hlo hSn
  go_enter Try.func171, Try.ntmps171
  go_wp2_with fail
  refine (c_visit W g (w.heap.size + 1) (w.heap.size + 1 + 1) w.heap.size n cp lo a (.slice la n lc) c h.f HLO.out (by omega) (by omega) (by omega) HF.out HN.out hn1 HR.out HRL.out _ v zs S _ (Nat.le_refl _) HSN.out HZ.out hzl HZR.out BB.out VV.out).mono ?_
  rintro e w4 ⟨rfl, S', hvis, hown, hgr⟩
  have O4 := Lib.hid hown; have V4 := Lib.hid hvis; have G4 := Lib.hid (grownBy_trans G3.out hgr)
  clear hgr hown hvis
  go_wp2_with fail
  go_end0
  exact ⟨rfl, S', V4.out, O4.out, G4.out⟩
set_option maxRecDepth 100000 in
set_option maxHeartbeats 3200000 in
theorem c_reachMore0 (a b c v : Value) (zs : List Int) (w : World) (hz : IntsAt w v zs) (hzl : zs.length ≤ 12) (hzr : ∀ z ∈ zs, inR 0 z) :
    Calls Try.prog 171 #[hv a b c, .slice none 0 0, v] w fun e w' => e = .returned (.tuple #[]) ∧ Below w.heap.size w w' := by
  have b3 := ((below1 w (.cells (c3 a b c) 32)).alloc (by simp) (.cells #[.slice none 0 0] 23)).alloc (by simp; omega) (.cells #[.func (.func 201) #[] #[.pointer (some ⟨w.heap.size + 1, 0, none⟩), .pointer (some ⟨w.heap.size + 1 + 1, 0, none⟩), .pointer (some ⟨w.heap.size, 0, none⟩)]] 192)
  have HZ := Lib.hid (hz.below b3)
  have BB := Lib.hid b3
  clear hz b3
  go_enter Try.func171, Try.ntmps171
  go_wp2_with fail
  refine (c_visit0 v _ _ _ zs _ HZ.out hzr hzl).mono ?_
  rintro e w4 ⟨rfl, hb⟩
  have B4 := Lib.hid (bst BB.out hb BB.out.size)
  clear hb
  go_wp2_with fail
  go_end0
  exact ⟨rfl, B4.out⟩
end Go.Proofs.Ytbmfkgfmibpkjaa
namespace Go.Proofs.Ytbmfkgfmibpkjaa
open Go.RowKit Ph

theorem que_nil (w : World) (lo : Nat) (hlo : lo ≤ w.heap.size) : Que (w.alloc (.cells #[] 3)) lo w.heap.size 0 0 [] :=
  ⟨hlo, by simp, Nat.le_refl _, fun i hi => by simp at hi, fun i hi => by omega, fun i => by rw [Nat.zero_add]; exact Row.frozen (Row.new w 3 #[]) i⟩
end Go.Proofs.Ytbmfkgfmibpkjaa
namespace Go.Proofs.Ytbmfkgfmibpkjaa.Ph
def inB (lo hi z : Int) : Bool := decide (lo ≤ z) && decide (z ≤ hi)
end Go.Proofs.Ytbmfkgfmibpkjaa.Ph
namespace Go.Proofs.Ytbmfkgfmibpkjaa.Ph

theorem getD_memI {zs : List Int} {i : Nat} (h : i < zs.length) : zs.getD i 0 ∈ zs := by
  have e : zs.getD i 0 = zs[i] := by simp [List.getD, List.getElem?_eq_getElem h]
  rw [e]; exact List.getElem_mem h
end Go.Proofs.Ytbmfkgfmibpkjaa.Ph
namespace Go.Proofs.Ytbmfkgfmibpkjaa
open Go.RowKit Ph

/-- One row moves, or changes where it lies. -/
theorem Fam.turn {w w' : World} {lo hi n : Nat} {T : Nat → TypeId} {v : Nat → Value} {cs : Nat → List Value} (h : Fam w lo hi n T v cs) {k : Nat} (hk : k < n) {u : Value} {ds : List Value} (hg : w.grownBy w' (v k).ownBlock) (ho : w'.ownsRow lo (T k) 1 u ds.length ds) {hi' : Nat} (hh : hi ≤ hi') (hu : ∀ g, u.ownBlock = some g → (hi ≤ g ∧ g < hi') ∨ (v k).ownBlock = some g) : Fam w' lo hi' n T (upd v k u) (upd cs k ds) := by
  have far : ∀ j, j < n → j ≠ k → ∀ g, u.ownBlock = some g → (v j).ownBlock ≠ some g := fun j hj e g hg hjg => by
    rcases hu g hg with h1 | h1
    · have := h.lt j hj g hjg; omega
    · rcases h.ap j k hj hk e with h2 | h2
      · rw [h2] at hjg; cases hjg
      · exact h2 (by rw [hjg, h1])
  refine ⟨fun j hj => ?_, fun j hj g hg => ?_, fun i j hi hj hij => ?_⟩
  · by_cases e : j = k
    · subst e; rw [upd_same, upd_same]; exact ho
    · rw [upd_other _ _ e, upd_other _ _ e]
      refine owns_block (h.own j hj) fun g hjg => hg.block g (owns_lt (h.own j hj) hjg).2 fun e2 => ?_
      rcases h.ap j k hj hk e with h1 | h1
      · rw [hjg] at h1; cases h1
      · exact h1 (by rw [hjg, ← e2])
  · by_cases e : j = k
    · subst e; rw [upd_same] at hg
      rcases hu g hg with h1 | h1
      · exact h1.2
      · have := h.lt j hj g h1; omega
    · rw [upd_other _ _ e] at hg; have := h.lt j hj g hg; omega
  · by_cases e : i = k
    · have e' : j ≠ k := fun h => hij (by omega)
      subst e; rw [upd_same, upd_other _ _ e']
      cases hq : u.ownBlock with
      | none => exact .inl rfl
      | some g => exact .inr fun e2 => far j hj e' g hq e2.symm
    · by_cases e' : j = k
      · subst e'; rw [upd_same, upd_other _ _ e]
        cases hq : (v i).ownBlock with
        | none => exact .inl rfl
        | some g => exact .inr fun e2 => far i hi e g e2.symm hq
      · rw [upd_other _ _ e, upd_other _ _ e']; exact h.ap i j hi hj hij
theorem FamH.turnLive {w w' : World} {lo hi hi' : Nat} {a b b' c : Value} {us : Nat → Value} {h : H} (k : FamH w lo hi a b c us h) {bs : List Bool} (hg : w.grownBy w' b.ownBlock) (ho : OwnBs w' lo b' bs) (hh : hi ≤ hi') (hu : ∀ g, b'.ownBlock = some g → (hi ≤ g ∧ g < hi') ∨ b.ownBlock = some g) : FamH w' lo hi' a b' c us ⟨h.f, bs, h.r⟩ := by
  have := Fam.turn k (k := 1) (by omega) (u := b') (ds := bs.map Value.bool) hg (by simp only [tyH, List.length_map]; exact ho) hh hu
  refine this.congr (fun j hj => ?_) fun j hj => ?_
  · match j with
    | 0 => rw [upd_other _ _ (by omega)]; rfl
    | 1 => rw [upd_same]; rfl
    | 2 => rw [upd_other _ _ (by omega)]; rfl
    | j + 3 => rw [upd_other _ _ (by omega)]; rfl
  · match j with
    | 0 => rw [upd_other _ _ (by omega)]; rfl
    | 1 => rw [upd_same]; rfl
    | 2 => rw [upd_other _ _ (by omega)]; rfl
    | j + 3 => rw [upd_other _ _ (by omega)]; rfl
theorem FamH.turnRoots {w w' : World} {lo hi hi' : Nat} {a b c c' : Value} {us : Nat → Value} {h : H} (k : FamH w lo hi a b c us h) {zs : List Int} (hg : w.grownBy w' c.ownBlock) (ho : Own w' lo c' zs) (hh : hi ≤ hi') (hu : ∀ g, c'.ownBlock = some g → (hi ≤ g ∧ g < hi') ∨ c.ownBlock = some g) : FamH w' lo hi' a b c' us ⟨h.f, h.l, zs⟩ := by
  have := Fam.turn k (k := 2) (by omega) (u := c') (ds := zs.map (Value.int .i64)) hg (by simp only [tyH, List.length_map]; exact ho) hh hu
  refine this.congr (fun j hj => ?_) fun j hj => ?_
  · match j with
    | 0 => rw [upd_other _ _ (by omega)]; rfl
    | 1 => rw [upd_other _ _ (by omega)]; rfl
    | 2 => rw [upd_same]; rfl
    | j + 3 => rw [upd_other _ _ (by omega)]; rfl
  · match j with
    | 0 => rw [upd_other _ _ (by omega)]; rfl
    | 1 => rw [upd_other _ _ (by omega)]; rfl
    | 2 => rw [upd_same]; rfl
    | j + 3 => rw [upd_other _ _ (by omega)]; rfl
/-- One row more behind all: the outer list grows. -/
theorem FamH.growRow {w w' : World} {lo hi hi1 hi' : Nat} {a a' b c u : Value} {us : Nat → Value} {h : H} (k : FamH w lo hi a b c us h) {zs : List Int} (ho : Own w lo u zs) (hu : ∀ g, u.ownBlock = some g → hi ≤ g ∧ g < hi1) (hh : hi ≤ hi1) (hg : w.grownBy w' a.ownBlock)
    (hou : w'.ownsRow lo 24 1 a' (h.f.length + 1) ((List.range h.f.length).map us ++ [u])) (hh' : hi1 ≤ hi') (ha : ∀ g, a'.ownBlock = some g → (hi1 ≤ g ∧ g < hi') ∨ a.ownBlock = some g) :
    FamH w' lo hi' a' b c (upd us h.f.length u) ⟨h.f ++ [zs], h.l, h.r⟩ := by
  have k1 := Fam.grow k (u := u) (ds := zs.map (Value.int .i64)) (by simp only [tyH, List.length_map]; exact ho) hh hu
  have k2 := Fam.turn k1 (k := 0) (by omega) (u := a') (ds := (List.range h.f.length).map us ++ [u]) (w' := w') (by rw [upd_other _ _ (by omega)]; exact hg) (by simp only [tyH, List.length_append, List.length_map, List.length_range, List.length_singleton]; exact hou) hh' (by rw [upd_other _ _ (by omega)]; exact ha)
  unfold FamH
  have e : (h.f ++ [zs]).length + 3 = h.f.length + 3 + 1 := by simp
  rw [e]
  refine k2.congr (fun j hj => ?_) fun j hj => ?_
  · match j with
    | 0 => rw [upd_same]; rfl
    | 1 => rw [upd_other _ _ (by omega), upd_other _ _ (by omega)]; rfl
    | 2 => rw [upd_other _ _ (by omega), upd_other _ _ (by omega)]; rfl
    | j + 3 =>
      rw [upd_other _ _ (by omega)]
      by_cases e : j = h.f.length
      · subst e; rw [upd_same]; simp only [vH]; rw [upd_same]
      · rw [upd_other _ _ (by omega)]; simp only [vH]; rw [upd_other _ _ e]
  · match j with
    | 0 =>
      rw [upd_same]; simp only [cH, List.length_append, List.length_singleton]
      rw [List.range_succ, List.map_append]
      congr 1
      · exact List.map_congr_left fun x hx => by have : x < h.f.length := by simpa using hx
                                                 rw [upd_other _ _ (by omega)]
      · simp [upd]
    | 1 => rw [upd_other _ _ (by omega), upd_other _ _ (by omega)]; rfl
    | 2 => rw [upd_other _ _ (by omega), upd_other _ _ (by omega)]; rfl
    | j + 3 =>
      rw [upd_other _ _ (by omega)]
      by_cases e : j = h.f.length
      · subst e; rw [upd_same]; simp [cH]
      · rw [upd_other _ _ (by omega)]; simp only [cH]
        have : j < h.f.length := by omega
        simp [List.getD, List.getElem?_append_left this]
/-- A variable that holds a heap lies in none of the lists' blocks. -/
theorem owns_ne_row {w : World} {B g : Nat} {T : TypeId} {v : Value} {n : Nat} {xs : List Value} {cs : Array Value} (h : w.ownsRow B T 1 v n xs) (hr : Row w g 32 cs) (hT : T ≠ 32) {g' : Nat} (hg : v.ownBlock = some g') : g' ≠ g := by
  intro e
  subst e
  rcases h.2 with ⟨rfl, _⟩ | ⟨g2, cap, cur, rfl, _, h2, _⟩
  · cases hg
  · cases hg
    unfold Row at hr
    rw [h2] at hr
    simp only [Option.some.injEq, Obj.cells.injEq] at hr
    exact hT hr.2.1
theorem tyH_ne (k : Nat) : tyH k ≠ 32 := by
  match k with
  | 0 => exact (by decide)
  | 1 => exact (by decide)
  | k + 2 => show 3 ≠ 32; decide
theorem OwnH.keepRow {w w' : World} {lo hi g : Nat} {a b c : Value} {h : H} {cs : Array Value} (k : OwnH w lo hi a b c h) (hr : Row w g 32 cs) (hb : ∀ i, i ≠ g → i < w.heap.size → w'.heap[i]? = w.heap[i]?) : OwnH w' lo hi a b c h := by
  obtain ⟨us, k⟩ := k
  exact ⟨us, fun j hj => owns_block (k.own j hj) fun g' hg' => hb g' (owns_ne_row (k.own j hj) hr (tyH_ne j) hg') (owns_lt (k.own j hj) hg').2, k.lt, k.ap⟩
theorem OwnH.cellRow {w : World} {lo hi g : Nat} {a b c : Value} {h : H} {cs : Array Value} (k : OwnH w lo hi a b c h) (hr : Row w g 32 cs) (j : Nat) (x : Value) : OwnH (w.setCell ⟨g, j, none⟩ x) lo hi a b c h := k.keepRow hr fun i hi _ => heap_setCell_other w ⟨g, j, none⟩ i _ hi
theorem OwnH.wholeRow {w : World} {lo hi g : Nat} {a b c : Value} {h : H} {cs : Array Value} (k : OwnH w lo hi a b c h) (hr : Row w g 32 cs) (ds : Array Value) : OwnH (w.setRow g ds) lo hi a b c h := k.keepRow hr fun i hi _ => setRow_other w g i ds hi

/-- What is appended, cell by cell. -/
def SrcAt (w : World) (x : Value) (ys : List Value) : Prop := ∃ ao c, x = .slice ao ys.length c ∧ (∀ u ∈ ys, u.oneCell' = true) ∧ (0 < ys.length → ∃ b off, ao = some ⟨b, off, none⟩ ∧ ∀ j, j < ys.length → w.cell? ⟨b, off + j, none⟩ = ys[j]?)
theorem IntsAt.src {w : World} {x : Value} {zs : List Int} (h : IntsAt w x zs) : SrcAt w x (zs.map (Value.int .i64)) := by
  obtain ⟨ao, c, rfl, hc⟩ := h
  refine ⟨ao, c, by rw [List.length_map], fun u hu => by obtain ⟨_, _, rfl⟩ := List.mem_map.1 hu; rfl, fun h0 => ?_⟩
  rw [List.length_map] at h0 ⊢
  obtain ⟨b, off, ha, hcc⟩ := hc h0
  exact ⟨b, off, ha, fun j hj => by rw [hcc j hj, List.getElem?_map, List.getElem?_eq_getElem hj]; simp [List.getD, List.getElem?_eq_getElem hj]⟩
theorem BoolsAt.src {w : World} {x : Value} {zs : List Bool} (h : BoolsAt w x zs) : SrcAt w x (zs.map Value.bool) := by
  obtain ⟨ao, c, rfl, hc⟩ := h
  refine ⟨ao, c, by rw [List.length_map], fun u hu => by obtain ⟨_, _, rfl⟩ := List.mem_map.1 hu; rfl, fun h0 => ?_⟩
  rw [List.length_map] at h0 ⊢
  obtain ⟨b, off, ha, hcc⟩ := hc h0
  exact ⟨b, off, ha, fun j hj => by rw [hcc j hj, List.getElem?_map, List.getElem?_eq_getElem hj]; simp [List.getD, List.getElem?_eq_getElem hj]⟩
theorem run_appOwn {P : Program} (w : World) (base : Nat) (t ty e : TypeId) (i : TypeInfo) (z : Value) (bytes : Nat) (ht : P.underlying t = some (.slice e)) (hi : P.info? e = some i) (hz : i.zero = some z) (hsize : i.size = 1) (hby : i.bytes = bytes) (hzs : z.cells.size = 1)
    (v : Value) (n : Nat) (xs : List Value) (hown : w.ownsRow base e 1 v n xs) (x : Value) (ys : List Value) (hs : SrcAt w x ys) (h63 : n + ys.length ≤ maxLen) (hbytes : (n + ys.length) * bytes ≤ 140737488355328) (hbase : base ≤ w.heap.size) :
    ∃ v' w', (Builtin.append_ #[t, t] ty #[v, x]).run P w = .ok v' w' ∧ w'.ownsRow base e 1 v' (n + ys.length) (xs ++ ys) ∧ w.grownBy w' v.ownBlock ∧ (v'.ownBlock = v.ownBlock ∨ v'.ownBlock = some w.heap.size) := by
  obtain ⟨ao, c, rfl, h1, hc⟩ := hs
  by_cases h0 : 0 < ys.length
  · obtain ⟨b, off, rfl, hcc⟩ := hc h0
    obtain ⟨v', w', hr, ho, hg, _, hb⟩ := run_append_own_at w base t ty e i z 1 bytes ht hi hz hsize hby hzs (by omega) v n xs hown ⟨b, off, none⟩ ys.length c ys (by omega) (fun j u hu => by
      have hj : j < ys.length := by obtain ⟨h1, _⟩ := List.getElem?_eq_some_iff.1 hu; exact h1
      rw [Addr.add_lit, hcc j hj, hu]) h1 h63 hbytes hbase
    exact ⟨v', w', hr, ho, hg, hb⟩
  · have hy : ys = [] := List.eq_nil_of_length_eq_zero (by omega)
    subst hy
    have hsrc : Src P i.size t (.slice ao 0 c) 0 [] w := by
      cases ao with
      | none => exact Src.ofNil w ht c
      | some ad => exact Src.ofSlice w ht ad 0 c [] (by simp) (fun j u hu => by simp at hu) (fun u hu => by simp at hu)
    have hv : ∃ base' len cap, v = .slice base' len cap ∧ len ≤ cap := by
      rcases hown.2 with ⟨rfl, _⟩ | ⟨g, cap, cur, rfl, _, _, hle, _⟩
      · exact ⟨none, 0, 0, rfl, Nat.le_refl _⟩
      · exact ⟨_, _, _, rfl, hle⟩
    obtain ⟨base', len, cap, rfl, hle⟩ := hv
    exact ⟨_, w, run_append_nothing w t t ty e i ht hi base' len cap hle _ hsrc, by simpa using hown, World.grownBy.refl _ _, .inl rfl⟩
theorem wl_appOwn {P : Program} (w : World) {ops : Array Oper} {rest : List Oper} {o : Oper} {q : Act} {Q : Exit → Act → World → Prop} (hgd : o.guard = none) (s x : Operand) (t : TypeId) (hop : o.op = Op.call { callee := Callee.builtin Builtin.append, args := #[s, x], argTypes := #[t, t] })
    (base : Nat) (e : TypeId) (i : TypeInfo) (z : Value) (bytes : Nat) (ht : P.underlying t = some (.slice e)) (hi : P.info? e = some i) (hz : i.zero = some z) (hsize : i.size = 1) (hby : i.bytes = bytes) (hzs : z.cells.size = 1)
    (v : Value) (n : Nat) (xs : List Value) (hs : q.eval s = v) (hown : w.ownsRow base e 1 v n xs) (y : Value) (ys : List Value) (hx : q.eval x = y) (hy : SrcAt w y ys) (h63 : n + ys.length ≤ maxLen) (hbytes : (n + ys.length) * bytes ≤ 140737488355328) (hbase : base ≤ w.heap.size)
    (hK : ∀ v' w', w'.ownsRow base e 1 v' (n + ys.length) (xs ++ ys) → w.grownBy w' v.ownBlock → (v'.ownBlock = v.ownBlock ∨ v'.ownBlock = some w.heap.size) → wpList P ops Q rest (q.put o.dst v') w') : wpList P ops Q (o :: rest) q w := by
  obtain ⟨v', w', hrun, h1, h2, h3⟩ := run_appOwn (P := P) w base t o.type e i z bytes ht hi hz hsize hby hzs v n xs hown y ys hy h63 hbytes hbase
  refine wpList_plain hgd fun K hK' => ?_
  unfold Oper.wp
  simp [execOp, hop, resolve, invoke, builtin, hs, hx, hrun, Result.andThen]
  exact hK' _ _ (hK v' w' h1 h2 h3)
theorem c_copyInts (v : Value) (zs : List Int) (w : World) (hA : IntsAt w v zs) (hm : zs.length ≤ 1048576) : Calls Try.prog 136 #[v] w fun e w' => ∃ v', e = .returned v' ∧ Own w' w.heap.size v' zs ∧ Below w.heap.size w w' := by
  obtain ⟨i0, hi, hz0, hz1, hz2⟩ := info_parts info_int
  have HS := Lib.hid hA.src
  have HM : Hid ((zs.map (Value.int .i64)).length ≤ 1048576) := by unfold Hid; rw [List.length_map]; exact hm
  clear hA
  go_enter Try.func136, Try.ntmps136
  go_wp2_with (at_builtin; refine wl_appOwn _ rfl _ _ 24 rfl w.heap.size 3 i0 (.int .i64 0) 8 Try.underlying24 hi hz0 hz1 hz2 rfl (.slice none 0 0) 0 [] rfl ⟨rfl, .inl ⟨rfl, rfl⟩⟩ v _ rfl HS.out (by have := HM.out; unfold maxLen; omega) (by have := HM.out; omega) (Nat.le_refl _) ?_; intro v1 w1 ho hg hbl; have O1 := Lib.hid ho; have G1 := Lib.hid hg; clear ho hg hbl)
  go_ret
  refine ⟨_, rfl, ?_, (Below.refl w.heap.size w).grown G1.out (Nat.le_refl _) (fun k hk => by cases hk)⟩
  have := O1.out
  rw [List.nil_append, Nat.zero_add, List.length_map] at this
  exact this
theorem c_copyBools (v : Value) (zs : List Bool) (w : World) (hA : BoolsAt w v zs) (hm : zs.length ≤ 1048576) : Calls Try.prog 158 #[v] w fun e w' => ∃ v', e = .returned v' ∧ OwnBs w' w.heap.size v' zs ∧ Below w.heap.size w w' := by
  obtain ⟨i0, hi, hz0, hz1, hz2⟩ := info_parts info_boolz
  have HS := Lib.hid hA.src
  have HM : Hid ((zs.map Value.bool).length ≤ 1048576) := by unfold Hid; rw [List.length_map]; exact hm
  clear hA
  go_enter Try.func158, Try.ntmps158
  go_wp2_with (at_builtin; refine wl_appOwn _ rfl _ _ 23 rfl w.heap.size 4 i0 (.bool false) 1 Try.underlying23 hi hz0 hz1 hz2 rfl (.slice none 0 0) 0 [] rfl ⟨rfl, .inl ⟨rfl, rfl⟩⟩ v _ rfl HS.out (by have := HM.out; unfold maxLen; omega) (by have := HM.out; omega) (Nat.le_refl _) ?_; intro v1 w1 ho hg hbl; have O1 := Lib.hid ho; have G1 := Lib.hid hg; clear ho hg hbl)
  go_ret
  refine ⟨_, rfl, ?_, (Below.refl w.heap.size w).grown G1.out (Nat.le_refl _) (fun k hk => by cases hk)⟩
  have := O1.out
  rw [List.nil_append, Nat.zero_add, List.length_map] at this
  exact this
end Go.Proofs.Ytbmfkgfmibpkjaa
namespace Go.Proofs.Ytbmfkgfmibpkjaa
open Go.RowKit Ph

theorem good_wt {h : H} (g : Ph.Good h) : wtH h ≤ 1000 ∧ h.l.length ≤ 12 ∧ h.r.length ≤ 4 ∧ h.f.length ≤ 12 ∧ ∀ i, i < h.f.length → (h.f.getD i []).length ≤ 3 := by
  have h1 : ∀ k, k ≤ h.f.length → sumL h.f k ≤ 3 * k := fun k => by
    induction k with
    | zero => intro _; rw [sumL_zero]; exact Nat.zero_le _
    | succ k ih =>
      intro hk
      rw [sumL_succ (by omega)]
      have := ih (by omega)
      have := (g.row k (by omega)).1
      omega
  have := h1 _ (Nat.le_refl _)
  have h2 := g.n
  have h3 := g.ll
  have h4 := g.rn
  exact ⟨by unfold wtH wt; omega, by omega, h4, h2, fun i hi => (g.row i hi).1⟩
theorem RowH.set3 {w : World} {g : Nat} {a0 b0 c0 : Value} (k : RowH w g a0 b0 c0) (a b c : Value) : RowH (((w.setCell ⟨g, 0, none⟩ a).setCell ⟨g, 1, none⟩ b).setCell ⟨g, 2, none⟩ c) g a b c := ((k.set0 a).set1 b).set2 c
theorem OwnH.set3 {w : World} {lo hi g : Nat} {a b c : Value} {h : H} {a0 b0 c0 : Value} (k : OwnH w lo hi a b c h) (hr : RowH w g a0 b0 c0) (x y z : Value) : OwnH (((w.setCell ⟨g, 0, none⟩ x).setCell ⟨g, 1, none⟩ y).setCell ⟨g, 2, none⟩ z) lo hi a b c h :=
  ((k.cellRow hr 0 x).cellRow (hr.set0 x) 1 y).cellRow ((hr.set0 x).set1 y) 2 z
theorem below_set3 {B g : Nat} {w0 w : World} (hb : Below B w0 w) (hg : B ≤ g) (x y z : Value) : Below B w0 (((w.setCell ⟨g, 0, none⟩ x).setCell ⟨g, 1, none⟩ y).setCell ⟨g, 2, none⟩ z) :=
  ((hb.setCell (p := ⟨g, 0, none⟩) hg x).setCell (p := ⟨g, 1, none⟩) hg y).setCell (p := ⟨g, 2, none⟩) hg z
theorem cell_set3 {w : World} {g g' k : Nat} {v : Value} (hn : g' ≠ g) (h : w.cell? ⟨g', k, none⟩ = some v) (x y z : Value) : (((w.setCell ⟨g, 0, none⟩ x).setCell ⟨g, 1, none⟩ y).setCell ⟨g, 2, none⟩ z).cell? ⟨g', k, none⟩ = some v := by
  rw [World.cell?_setCell_far _ _ _ _ (by simp; omega), World.cell?_setCell_far _ _ _ _ (by simp; omega), World.cell?_setCell_far _ _ _ _ (by simp; omega)]; exact h
set_option maxRecDepth 100000 in
set_option maxHeartbeats 6400000 in
theorem c_copyHeap (a b c : Value) (h : H) (w : World) (hA : HeapAt w a b c h) (hG : Ph.Good h) : Calls Try.prog 107 #[hv a b c] w fun e w' => ∃ a' b' c', e = .returned (hv a' b' c') ∧ OwnH w' w.heap.size w'.heap.size a' b' c' h ∧ Below w.heap.size w w' := by
  obtain ⟨i0, hi, hz0, hz1, hz2⟩ := info_parts info_ints
  obtain ⟨_, hl12, hr4, hf12, hr3⟩ := good_wt hG
  obtain ⟨fa, fc, rfl⟩ := hA.f.shape
  obtain ⟨la, lc, rfl⟩ := hA.l.shape
  obtain ⟨ra, rc, rfl⟩ := hA.r.shape
  have HA := Lib.hid hA
  have HL : Hid (h.l.length ≤ 1048576 ∧ h.r.length ≤ 1048576) := ⟨by omega, by omega⟩
  have HR3 := Lib.hid hr3
  have hb0 := (below1 w (.cells (c3 (.slice fa h.f.length fc) (.slice la h.l.length lc) (.slice ra h.r.length rc)) 32)).alloc (by simp) (.cells (c3 (.slice none 0 0) (.slice none 0 0) (.slice none 0 0)) 32)
  have rp : RowH _ w.heap.size (.slice fa h.f.length fc) (.slice la h.l.length lc) (.slice ra h.r.length rc) := (Row.new w 32 (c3 (.slice fa h.f.length fc) (.slice la h.l.length lc) (.slice ra h.r.length rc))).alloc (.cells (c3 (.slice none 0 0) (.slice none 0 0) (.slice none 0 0)) 32)
  have r2 : RowH _ (w.heap.size + 1) (.slice none 0 0) (.slice none 0 0) (.slice none 0 0) := Row.new1 w (.cells (c3 (.slice fa h.f.length fc) (.slice la h.l.length lc) (.slice ra h.r.length rc)) 32) 32 (c3 (.slice none 0 0) (.slice none 0 0) (.slice none 0 0))
  have HB := Lib.hid hb0; have RP := Lib.hid rp; have R2 := Lib.hid r2
  clear hA hG hr3 hb0 rp r2 hl12 hr4
  generalize hn : h.f.length = n at *
  generalize hnl : h.l.length = nl at *
  generalize hnr : h.r.length = nr at *
  have HN := Lib.hid hn; have HNL := Lib.hid hnl; have HNR := Lib.hid hnr
  clear hn hnl hnr
  go_enter Try.func107, Try.ntmps107
  have cp0 := RP.out.c0
  go_wp2_with (at_make; refine wpList_make_full _ rfl _ _ 22 rfl w.heap.size 24 i0 (.slice none 0 0) 1 Try.underlying22 hi hz0 hz1 .i64 .i64 _ _ n rfl rfl rfl rfl (by rw [hz2]; omega) (by unfold maxLen; omega) (by simp; omega) ?_; intro w1 hown hgr
               rw [Nat.mul_one, show (Value.slice none 0 0).cells = #[.slice none 0 0] from rfl, toList_madeCells_one] at hown
               have hsz0 : ((w.alloc (.cells (c3 (.slice fa n fc) (.slice la nl lc) (.slice ra nr rc)) 32)).alloc (.cells (c3 (.slice none 0 0) (.slice none 0 0) (.slice none 0 0)) 32)).heap.size = w.heap.size + 2 := by simp
               rw [hsz0] at hown
               have hb1 := HB.out.grown hgr HB.out.size (fun k hk => by cases hk)
               have HO := Lib.hid hown; have B1 := Lib.hid hb1; have RP1 := Lib.hid (Row.grown RP.out hgr); have R21 := Lib.hid (Row.grown R2.out hgr)
               have d0 := Row.cell RP1.out 0
               clear hown hgr hb1 hsz0)
  clear cp0 d0
  have W1 : Hid (w.heap.size + 2 < w1.heap.size) := (owns_lt HO.out rfl).2
  go_loopw [12] (fun i wr => ∃ j : Nat, j ≤ n ∧ i = .int .i64 j ∧ Hid (∃ us, FamH wr w.heap.size wr.heap.size (.slice (some ⟨w.heap.size + 2, 0, none⟩) n n) (.slice none 0 0) (.slice none 0 0) us ⟨fillF h.f j, [], []⟩) ∧ Hid (RowH wr w.heap.size (.slice fa n fc) (.slice la nl lc) (.slice ra nr rc)) ∧ Hid (RowH wr (w.heap.size + 1) (.slice none 0 0) (.slice none 0 0) (.slice none 0 0)) ∧ Hid (Below w.heap.size w wr) ∧ Hid (w.heap.size + 2 < wr.heap.size)) (fun i _ => n - (intOf i).toNat)
  case atStart =>
    refine ⟨0, Nat.zero_le _, rfl, ⟨fun _ => .slice none 0 0, ?_⟩, RP1, R21, B1, W1⟩
    rw [fillF_zero, HN.out]
    exact FamH.made HO.out W1.out
  case round =>
    obtain ⟨j, hj, rfl, hfam, hrp, hr2, hbw, hlw⟩ := hrel
    have cp := hrp.out.c0
    by_cases hlt : j < n
    · obtain ⟨us, hf⟩ := hfam.out
      obtain ⟨fb, fo, rfl, hc⟩ := HA.out.f.at' (by omega)
      obtain ⟨u, hq, hu⟩ := hc j hlt
      have q := cellBelow hbw.out (Nat.le_refl _) hq
      have hu' := Lib.hid (hu.below hbw.out)
      have hjl : j < h.f.length := by rw [HN.out]; exact hlt
      have hlu : Hid ((h.f.getD j []).length ≤ 1048576) := by unfold Hid; have := HR3.out j hlt; omega
      have hfl : (fillF h.f j).length = n := by rw [fillF_length h.f (by omega), HN.out]
      have hfs := Lib.hid (fillF_set h.f hjl)
      have HF := Lib.hid hf; have HFL := Lib.hid hfl
      have i1 : (j : Int) < (n : Int) := by omega
      clear hc hq hu hf hjl hfl hfam
      generalize h.f.getD j [] = zs at *
      go_wp2_with fail
      refine (c_copyInts u zs _ hu'.out hlu.out).mono ?_
      rintro e w2 ⟨u2, rfl, ho2, hb2⟩
      have F2 : FamH w2 w.heap.size wr.heap.size (.slice (some ⟨w.heap.size + 2, 0, none⟩) n n) (.slice none 0 0) (.slice none 0 0) us ⟨fillF h.f j, [], []⟩ := Fam.below HF.out hb2
      have hsz : w.heap.size ≤ wr.heap.size := hbw.out.size
      obtain ⟨c1, f1⟩ := F2.cell (g := w.heap.size + 2) (cap := n) (i := j) (by simp only [HFL.out]) (by simp only [HFL.out]; exact hlt)
      obtain ⟨s1, s2⟩ := F2.putRow (i := j) (by simp only [HFL.out]; exact hlt) (ho2.mono hsz) (hi' := w2.heap.size) hb2.size (fun g hg => .inl (owns_lt ho2 hg)) (g := w.heap.size + 2) (cap := n) (by simp only [HFL.out])
      simp only [hfs.out] at s1
      have hszs : (w2.setCell ⟨w.heap.size + 2, j, none⟩ u2).heap.size = w2.heap.size := World.size_setCell _ _ _
      rw [← hszs] at s1
      have S1 := Lib.hid s1
      have S2 := Lib.hid ((bst hbw.out hb2 hbw.out.size).setCell (p := ⟨w.heap.size + 2, j, none⟩) (by simp) u2)
      have S3 : Hid (RowH (w2.setCell ⟨w.heap.size + 2, j, none⟩ u2) w.heap.size (.slice (some ⟨fb, fo, none⟩) n fc) (.slice la nl lc) (.slice ra nr rc)) := Row.other (Row.below hrp.out hb2) ⟨w.heap.size + 2, j, none⟩ (by simp) u2
      have S4 : Hid (RowH (w2.setCell ⟨w.heap.size + 2, j, none⟩ u2) (w.heap.size + 1) (.slice none 0 0) (.slice none 0 0) (.slice none 0 0)) := Row.other (Row.below hr2.out hb2) ⟨w.heap.size + 2, j, none⟩ (by simp) u2
      have S5 : Hid (w.heap.size + 2 < (w2.setCell ⟨w.heap.size + 2, j, none⟩ u2).heap.size) := by unfold Hid; rw [hszs]; have := hlw.out; have := hb2.size; omega
      obtain ⟨ua, uc, rfl⟩ := ho2.ints.shape
      clear s1 s2 F2 ho2 hb2 hszs q cp
      generalize us j = x at *
      generalize zs.length = m at *
      go_wp2_with fail
      go_roundw
      case rel => exact ⟨j + 1, by omega, by go_num, ⟨_, S1.out⟩, S3, S4, S2, S5⟩
      case measure => simp [intOf]; omega
    · obtain rfl : j = n := by omega
      have HOW : Hid (OwnH wr w.heap.size wr.heap.size (.slice (some ⟨w.heap.size + 2, 0, none⟩) j j) (.slice none 0 0) (.slice none 0 0) ⟨h.f, [], []⟩) := by
        obtain ⟨us, hf⟩ := hfam.out
        refine ⟨us, ?_⟩
        have := hf
        rwa [← HN.out, fillF_all, HN.out] at this
      clear hfam
      go_wp2_with fail
      have A1 := Lib.hid (HA.out.below (below_drew hbw.out))
      have cb : wr.drew.cell? ⟨w.heap.size, 1, none⟩ = some (.slice la nl lc) := hrp.out.c1
      have cc : wr.drew.cell? ⟨w.heap.size, 2, none⟩ = some (.slice ra nr rc) := hrp.out.c2
      have BD := below_drew (Below.refl wr.heap.size wr)
      clear cp
      refine wp_region_held_drew (S := (fun w' => w'.cell? ⟨w.heap.size, 1, none⟩ = some (.slice la nl lc) ∧ w'.cell? ⟨w.heap.size, 2, none⟩ = some (.slice ra nr rc) ∧ Below w.heap.size w w')) (by kernel_rfl) (⟨cb, cc, below_drew hbw.out⟩) (fun hHeld => ?_)
      refine wpAnyH_take (i := 0) (v := ?va0x1) rfl (by kernel_rfl) (by kernel_rfl) (by kernel_rfl) (fun _ _ _ h => h) (Or.inl ⟨by rfl, ?hy0x1⟩) (by assumption) ?rest0x1
      case hy0x1 => (intro w hSw; (try dsimp only at hSw); go_simp; try with_reducible rfl)
      (try simp only [Act.put, List.getElem_toArray, List.getElem_cons_zero, List.setIfInBounds_toArray, List.set_cons_zero, List.set_cons_succ])
      refine wpAnyH_take (i := 1) (v := ?va1x2) rfl (by kernel_rfl) (by kernel_rfl) (by kernel_rfl) (fun _ _ _ h => h) (Or.inl ⟨by rfl, ?hy1x2⟩) (by assumption) ?rest1x2
      case hy1x2 => (intro w hSw; (try dsimp only at hSw); go_simp; try with_reducible rfl)
      (try simp only [Act.put, List.getElem_toArray, List.getElem_cons_zero, List.getElem_cons_succ, List.setIfInBounds_toArray, List.set_cons_zero, List.set_cons_succ])
      refine wpAnyH_take (i := 2) (v := ?va2x3) rfl (by kernel_rfl) (by kernel_rfl) (by kernel_rfl) (fun _ _ _ h => h) (Or.inl ⟨by rfl, ?hy2x3⟩) (by assumption) ?rest2x3
      case hy2x3 => (intro w hSw; (try dsimp only at hSw); go_simp; try with_reducible rfl)
      (try simp only [Act.put, List.getElem_toArray, List.getElem_cons_zero, List.getElem_cons_succ, List.setIfInBounds_toArray, List.set_cons_zero, List.set_cons_succ])
      refine wpAnyH_take (i := 4) (v := ?va4x4) rfl (by kernel_rfl) (by kernel_rfl) (by kernel_rfl) (fun _ _ _ h => h) (Or.inl ⟨by rfl, ?hy4x4⟩) (by assumption) ?rest4x4
      case hy4x4 => (intro w hSw; (try dsimp only at hSw); go_simp; try with_reducible rfl)
      (try simp only [Act.put, List.getElem_toArray, List.getElem_cons_zero, List.getElem_cons_succ, List.setIfInBounds_toArray, List.set_cons_zero, List.set_cons_succ])
      refine wpAnyH_take (i := 5) (v := ?va5x5) rfl (by kernel_rfl) (by kernel_rfl) (by kernel_rfl) (fun _ _ _ h => h) (Or.inl ⟨by rfl, ?hy5x5⟩) (by assumption) ?rest5x5
      case hy5x5 => (intro w hSw; (try dsimp only at hSw); go_simp; try with_reducible rfl)
      (try simp only [Act.put, List.getElem_toArray, List.getElem_cons_zero, List.getElem_cons_succ, List.setIfInBounds_toArray, List.set_cons_zero, List.set_cons_succ])
      refine wpAnyH_ready (rs := [3]) (by kernel_rfl) (by simp) ?_
      refine AllReadyH.cons rfl (fun K hK => ?_) AllReadyH.nil
      go_simp
      refine (c_copyBools (.slice la nl lc) h.l _ A1.out.l (by rw [HNL.out]; exact HL.out.1)).mono ?_
      rintro e w2 ⟨vb, rfl, hob, hbb⟩
      have BE := bst BD hbb BD.size
      obtain ⟨pb, qb, hpb⟩ := (owns_bools hob).shape
      rw [HNL.out] at hpb
      subst hpb
      have cb2 := cellBelow hbb (Nat.le_refl _) cb
      have cc2 := cellBelow hbb (Nat.le_refl _) cc
      refine hK.out _ _ ⟨cb2, cc2, bst (below_drew hbw.out) hbb (below_drew hbw.out).size⟩ (fun hHeld => ?_)
      clear hK K
      (try simp only [Act.put, List.getElem_toArray, List.getElem_cons_zero, List.getElem_cons_succ, List.setIfInBounds_toArray, List.set_cons_zero, List.set_cons_succ])
      refine wpAnyH_ready (rs := [6]) (by kernel_rfl) (by simp) ?_
      refine AllReadyH.cons rfl (fun K hK => ?_) AllReadyH.nil
      go_simp
      refine (c_copyInts (.slice ra nr rc) h.r _ (A1.out.r.below hbb) (by rw [HNR.out]; exact HL.out.2)).mono ?_
      rintro e w3 ⟨vc, rfl, hoi, hbi⟩
      have BE2 := bst BE hbi BE.size
      obtain ⟨pc, qc, hpc⟩ := hoi.ints.shape
      rw [HNR.out] at hpc
      subst hpc
      have cb3 := cellBelow hbi (Nat.le_refl _) cb2
      have cc3 := cellBelow hbi (Nat.le_refl _) cc2
      refine hK.out _ _ ⟨cb3, cc3, bst hbw.out BE2 hbw.out.size⟩ (fun hHeld => ?_)
      clear hK K
      (try simp only [Act.put, List.getElem_toArray, List.getElem_cons_zero, List.getElem_cons_succ, List.setIfInBounds_toArray, List.set_cons_zero, List.set_cons_succ])
      have o2 := ((HOW.out.below (below_drew (Below.refl _ _))).below hbb).addLive hob (by have := hbw.out.size; exact this) hbb.size
      have o3 := (o2.below hbi).addRoots hoi (by have := hbw.out.size; have := hbb.size; simp at *; omega) hbi.size
      have r3 := Row.below hr2.out BE2
      have rr3 : RowH w3 (w.heap.size + 1) _ _ _ := r3
      have z0 := rr3.c0
      have z1 := rr3.c1
      have z2 := rr3.c2
      have y0 := Row.frozen r3 0
      have y1 := Row.frozen r3 1
      have y2 := Row.frozen r3 2
      have OO := Lib.hid o3; have RR := Lib.hid rr3; have LL := Lib.hid (bst hbw.out BE2 hbw.out.size)
      clear o2 o3 r3 rr3 hob hoi
      refine wpAnyH_take (i := 7) (v := ?va7x6) rfl (by kernel_rfl) (by kernel_rfl) (by kernel_rfl) (fun _ _ _ h => h) (Or.inl ⟨by rfl, ?hy7x6⟩) (by assumption) ?rest7x6
      case hy7x6 => (intro w hSw; (try dsimp only at hSw); go_simp; try with_reducible rfl)
      (try simp only [Act.put, List.getElem_toArray, List.getElem_cons_zero, List.getElem_cons_succ, List.setIfInBounds_toArray, List.set_cons_zero, List.set_cons_succ])
      refine wpAnyH_ready (rs := [8]) (by kernel_rfl) (by simp) ?_
      refine AllReadyH.cons rfl (fun K hK => ?_) AllReadyH.nil
      go_simp
      have hne : w.heap.size ≠ w.heap.size + 1 := by omega
      refine hK.out _ _ ⟨cell_set3 hne cb3 (.slice (some ⟨w.heap.size + 2, 0, none⟩) j j) (.slice pb nl qb) (.slice pc nr qc), cell_set3 hne cc3 (.slice (some ⟨w.heap.size + 2, 0, none⟩) j j) (.slice pb nl qb) (.slice pc nr qc), below_set3 LL.out (by omega) (.slice (some ⟨w.heap.size + 2, 0, none⟩) j j) (.slice pb nl qb) (.slice pc nr qc)⟩ (fun hHeld => ?_)
      clear hK K
      (try simp only [Act.put, List.getElem_toArray, List.getElem_cons_zero, List.getElem_cons_succ, List.setIfInBounds_toArray, List.set_cons_zero, List.set_cons_succ])
      refine wpAnyH_done (by kernel_rfl) ?_ _
      go_wp2_with fail
      refine bodyPost_ret (res_row Try.results107 (RR.out.set3 (.slice (some ⟨w.heap.size + 2, 0, none⟩) j j) (.slice pb nl qb) (.slice pc nr qc)) rfl Try.underlying32 rfl info_heap) rfl ⟨_, _, _, rfl, ?_, below_set3 LL.out (by omega) (.slice (some ⟨w.heap.size + 2, 0, none⟩) j j) (.slice pb nl qb) (.slice pc nr qc)⟩
      have := OO.out.set3 RR.out (.slice (some ⟨w.heap.size + 2, 0, none⟩) j j) (.slice pb nl qb) (.slice pc nr qc)
      simp only [World.size_setCell]
      exact this
end Go.Proofs.Ytbmfkgfmibpkjaa
namespace Go.Proofs.Ytbmfkgfmibpkjaa
open Go.RowKit Ph

theorem op_app {P : Program} {o : Oper} {q : Act} {w w' : World} {K : Act → World → Prop} {Q : Exit → Act → World → Prop} {vs vx v' : Value} (s x : Operand) (t : TypeId) (hop : o.op = Op.call { callee := Callee.builtin Builtin.append, args := #[s, x], argTypes := #[t, t] }) (hs : q.eval s = vs) (hx : q.eval x = vx)
    (hrun : (Builtin.append_ #[t, t] o.type #[vs, vx]).run P w = .ok v' w') (h : K (q.put o.dst v') w') : Oper.wp P o q w K Q := by
  unfold Oper.wp
  simp [execOp, hop, resolve, invoke, builtin, hs, hx, hrun, Result.andThen]
  exact h
/-- A copy under way: what is live, and the roots. -/
structure OwnSt (w W : World) (fa la ra vA vB : Value) (lA : List Bool) (rB : List Int) : Prop where
  ow : OwnH W w.heap.size W.heap.size (.slice none 0 0) vA vB ⟨[], lA, rB⟩
  rp : RowH W w.heap.size fa la ra
  r2 : RowH W (w.heap.size + 1) (.slice none 0 0) (.slice none 0 0) (.slice none 0 0)
  l : Below w.heap.size w W
  sz : w.heap.size + 2 ≤ W.heap.size
section
variable {w W : World} {fa la ra vA vB : Value} {lA : List Bool} {rB : List Int}
theorem own_empty (W : World) (T : TypeId) : (W.alloc (.cells #[] T)).ownsRow W.heap.size T 1 (.slice (some ⟨W.heap.size, 0, none⟩) 0 0) 0 [] := ⟨rfl, .inr ⟨W.heap.size, 0, #[], rfl, Nat.le_refl _, heap_alloc_new _ _, Nat.le_refl _, by unfold maxLen; omega, rfl, rfl⟩⟩
theorem OwnSt.allocB (k : OwnSt w W fa la ra (.slice none 0 0) vB [] rB) : OwnSt w (W.alloc (.cells #[] 4)) fa la ra (.slice (some ⟨W.heap.size, 0, none⟩) 0 0) vB [] rB :=
  ⟨(k.ow.below (below1 W _)).addLive (own_empty W 4) (by have := k.sz; omega) (by simp), Row.alloc k.rp _, Row.alloc k.r2 _, k.l.alloc k.l.size _, by have := k.sz; simp; omega⟩
theorem OwnSt.allocI (k : OwnSt w W fa la ra vA (.slice none 0 0) lA []) : OwnSt w (W.alloc (.cells #[] 3)) fa la ra vA (.slice (some ⟨W.heap.size, 0, none⟩) 0 0) lA [] :=
  ⟨(k.ow.below (below1 W _)).addRoots (own_empty W 3) (by have := k.sz; omega) (by simp), Row.alloc k.rp _, Row.alloc k.r2 _, k.l.alloc k.l.size _, by have := k.sz; simp; omega⟩
theorem OwnSt.allocC (k : OwnSt w W fa la ra vA vB lA rB) : OwnSt w (W.alloc (.cells (c3 (.slice none 0 0) (.slice none 0 0) (.slice none 0 0)) 32)) fa la ra vA vB lA rB :=
  ⟨(k.ow.below (below1 W _)).wide (Nat.le_refl _) (by simp), Row.alloc k.rp _, Row.alloc k.r2 _, k.l.alloc k.l.size _, by have := k.sz; simp; omega⟩
theorem own_store {g : Nat} {a0 b0 c0 : Value} (k : OwnSt w W fa la ra vA vB lA rB) (hr : RowH W g a0 b0 c0) (hg : w.heap.size + 2 ≤ g) (x y z : Value) : OwnSt w (((W.setCell ⟨g, 0, none⟩ x).setCell ⟨g, 1, none⟩ y).setCell ⟨g, 2, none⟩ z) fa la ra vA vB lA rB :=
  ⟨by simp only [World.size_setCell]; exact k.ow.set3 hr x y z, Row.other (Row.other (Row.other k.rp ⟨g, 0, none⟩ (by simp; omega) x) ⟨g, 1, none⟩ (by simp; omega) y) ⟨g, 2, none⟩ (by simp; omega) z, Row.other (Row.other (Row.other k.r2 ⟨g, 0, none⟩ (by simp; omega) x) ⟨g, 1, none⟩ (by simp; omega) y) ⟨g, 2, none⟩ (by simp; omega) z, below_set3 k.l (by omega) x y z, by simp only [World.size_setCell]; exact k.sz⟩
theorem row_grown {W' : World} {B g : Nat} {T : TypeId} {v : Value} {n : Nat} {xs : List Value} {cs : Array Value} (ho : W.ownsRow B T 1 v n xs) (hT : T ≠ 32) (hg : W.grownBy W' v.ownBlock) (hr : Row W g 32 cs) : Row W' g 32 cs :=
  (hg.block g hr.lt (fun e => owns_ne_row ho hr hT e.symm rfl)).trans hr
theorem grown_below {W' : World} {B : Nat} {T : TypeId} {v : Value} {n : Nat} {xs : List Value} (hb : Below B w W) (hB : B ≤ W.heap.size) (ho : W.ownsRow B T 1 v n xs) (hg : W.grownBy W' v.ownBlock) : Below B w W' := hb.grown hg hB (fun _ hk => (owns_lt ho hk).1)
theorem OwnSt.appB {bs : List Bool} (k : OwnSt w W fa la ra vA vB [] rB) (hs : BoolsAt w la bs) (hm : bs.length ≤ 1048576) (ty : TypeId) : ∃ v' W', (Builtin.append_ #[23, 23] ty #[vA, la]).run Try.prog W = .ok v' W' ∧ OwnSt w W' fa la ra v' vB bs rB ∧ ∀ g a b c, RowH W g a b c → RowH W' g a b c := by
  obtain ⟨i0, hi, hz0, hz1, hz2⟩ := info_parts info_boolz
  obtain ⟨us, hf⟩ := k.ow
  have ho : W.ownsRow w.heap.size 4 1 vA 0 [] := hf.live
  obtain ⟨v', W', hr, h1, h2, h3⟩ := run_appOwn (P := Try.prog) W w.heap.size 23 ty 4 i0 (.bool false) 1 Try.underlying23 hi hz0 hz1 hz2 rfl vA 0 [] ho la _ (hs.below k.l).src (by rw [List.length_map]; unfold maxLen; omega) (by rw [List.length_map]; omega) (by have := k.sz; omega)
  rw [List.nil_append, Nat.zero_add, List.length_map] at h1
  refine ⟨v', W', hr, ⟨⟨us, hf.turnLive h2 h1 h2.size (fun g hg => ?_)⟩, row_grown ho (by decide) h2 k.rp, row_grown ho (by decide) h2 k.r2, grown_below k.l (by have := k.sz; omega) ho h2, Nat.le_trans k.sz h2.size⟩, fun g a b c hr => row_grown ho (by decide) h2 hr⟩
  rcases h3 with h3 | h3
  · exact .inr (by rw [← h3]; exact hg)
  · rw [hg] at h3; cases h3; exact .inl ⟨Nat.le_refl _, (owns_lt h1 hg).2⟩
theorem OwnSt.appI {zs : List Int} (k : OwnSt w W fa la ra vA vB lA []) (hs : IntsAt w ra zs) (hm : zs.length ≤ 1048576) (ty : TypeId) : ∃ v' W', (Builtin.append_ #[24, 24] ty #[vB, ra]).run Try.prog W = .ok v' W' ∧ OwnSt w W' fa la ra vA v' lA zs ∧ ∀ g a b c, RowH W g a b c → RowH W' g a b c := by
  obtain ⟨i0, hi, hz0, hz1, hz2⟩ := info_parts info_int
  obtain ⟨us, hf⟩ := k.ow
  have ho : W.ownsRow w.heap.size 3 1 vB 0 [] := hf.roots
  obtain ⟨v', W', hr, h1, h2, h3⟩ := run_appOwn (P := Try.prog) W w.heap.size 24 ty 3 i0 (.int .i64 0) 8 Try.underlying24 hi hz0 hz1 hz2 rfl vB 0 [] ho ra _ (hs.below k.l).src (by rw [List.length_map]; unfold maxLen; omega) (by rw [List.length_map]; omega) (by have := k.sz; omega)
  rw [List.nil_append, Nat.zero_add, List.length_map] at h1
  refine ⟨v', W', hr, ⟨⟨us, hf.turnRoots h2 h1 h2.size (fun g hg => ?_)⟩, row_grown ho (by decide) h2 k.rp, row_grown ho (by decide) h2 k.r2, grown_below k.l (by have := k.sz; omega) ho h2, Nat.le_trans k.sz h2.size⟩, fun g a b c hr => row_grown ho (by decide) h2 hr⟩
  rcases h3 with h3 | h3
  · exact .inr (by rw [← h3]; exact hg)
  · rw [hg] at h3; cases h3; exact .inl ⟨Nat.le_refl _, (owns_lt h1 hg).2⟩
end
end Go.Proofs.Ytbmfkgfmibpkjaa
namespace Go.Proofs.Ytbmfkgfmibpkjaa
open Go.RowKit Ph

theorem src_one (W : World) (y : Value) (hy : y.oneCell' = true) : SrcAt (W.alloc (.cells #[y] 24)) (.slice (some ⟨W.heap.size, 0, none⟩) 1 1) [y] :=
  ⟨_, 1, rfl, fun u hu => by simp at hu; rw [hu]; exact hy, fun _ => ⟨W.heap.size, 0, rfl, fun j hj => by simp at hj; subst hj; exact Row.cell (Row.new W 24 #[y]) 0⟩⟩
structure Lp (w W : World) (gC hi0 : Nat) (A B C : Value) (h : H) : Prop where
  rw' : RowH W gC A B C
  ow : OwnH W w.heap.size hi0 A B C h
  r2 : RowH W (w.heap.size + 1) (.slice none 0 0) (.slice none 0 0) (.slice none 0 0)
  l : Below w.heap.size w W
  hi : hi0 ≤ W.heap.size
  lo : w.heap.size + 2 ≤ hi0
section
variable {w W : World} {gC hi0 : Nat} {A B C : Value} {h : H}
theorem Lp.alloc (k : Lp w W gC hi0 A B C h) (o : Obj) : Lp w (W.alloc o) gC hi0 A B C h :=
  ⟨Row.alloc k.rw' o, k.ow.below (below1 W o), Row.alloc k.r2 o, k.l.alloc (by have := k.hi; have := k.lo; omega) o, by have := k.hi; simp; omega, k.lo⟩
theorem Lp.app {x y : Value} {zs : List Int} (k : Lp w W gC hi0 A B C h) (e : W.ownsRow hi0 3 1 y 0 []) (hs : IntsAt w x zs) (hm : zs.length ≤ 1048576) (ty : TypeId) :
    ∃ v' W', (Builtin.append_ #[24, 24] ty #[y, x]).run Try.prog W = .ok v' W' ∧ Lp w W' gC hi0 A B C h ∧ Own W' hi0 v' zs := by
  obtain ⟨i0, hi, hz0, hz1, hz2⟩ := info_parts info_int
  obtain ⟨v', W', hr, h1, h2, _⟩ := run_appOwn (P := Try.prog) W hi0 24 ty 3 i0 (.int .i64 0) 8 Try.underlying24 hi hz0 hz1 hz2 rfl y 0 [] e x _ (hs.below k.l).src (by rw [List.length_map]; unfold maxLen; omega) (by rw [List.length_map]; omega) k.hi
  rw [List.nil_append, Nat.zero_add, List.length_map] at h1
  have hlo := k.lo
  have hch : Chg hi0 W.heap.size W W' := Chg.of_grown h2 fun g hg => owns_lt e hg
  refine ⟨v', W', hr, ⟨row_grown e (by decide) h2 k.rw', k.ow.chg hch (.inl (Nat.le_refl _)), row_grown e (by decide) h2 k.r2, below_chg k.l hch (by omega) (by have := k.hi; omega), Nat.le_trans k.hi h2.size, k.lo⟩, h1⟩
theorem Lp.grow {y z : Value} {zs : List Int} (k : Lp w W gC hi0 A B C h) (e : Own W hi0 y zs) (hz : SrcAt W z [y]) (hn : h.f.length ≤ 1000) (ty : TypeId) :
    ∃ v' W', (Builtin.append_ #[22, 22] ty #[A, z]).run Try.prog W = .ok v' W' ∧ RowH W' gC A B C ∧ OwnH W' w.heap.size W'.heap.size v' B C ⟨h.f ++ [zs], h.l, h.r⟩ ∧ RowH W' (w.heap.size + 1) (.slice none 0 0) (.slice none 0 0) (.slice none 0 0) ∧ Below w.heap.size w W' ∧ w.heap.size + 2 ≤ W'.heap.size ∧ ∃ pa qa, v' = .slice pa (h.f.length + 1) qa := by
  obtain ⟨i0, hi, hz0, hz1, hz2⟩ := info_parts info_ints
  obtain ⟨us, hf⟩ := k.ow
  have ho := hf.outer
  obtain ⟨v', W', hr, h1, h2, h3⟩ := run_appOwn (P := Try.prog) W w.heap.size 22 ty 24 i0 (.slice none 0 0) 24 Try.underlying22 hi hz0 hz1 hz2 rfl A h.f.length _ ho z [y] hz (by simp; unfold maxLen; omega) (by simp; omega) (by have := k.hi; have := k.lo; omega)
  have hlo := k.lo
  have hhi := k.hi
  have h1' : W'.ownsRow w.heap.size 24 1 v' (h.f.length + 1) ((List.range h.f.length).map us ++ [y]) := h1
  refine ⟨v', W', hr, row_grown ho (by decide) h2 k.rw', ⟨_, hf.growRow (hi1 := W.heap.size) (e.mono (by omega)) (fun g hg => owns_lt e hg) hhi h2 h1' h2.size (fun g hg => ?_)⟩, row_grown ho (by decide) h2 k.r2, grown_below k.l (by omega) ho h2, by have := h2.size; omega, ?_⟩
  · rcases h3 with h3 | h3
    · exact .inr (by rw [← h3]; exact hg)
    · rw [hg] at h3; cases h3; exact .inl ⟨Nat.le_refl _, (owns_lt h1' hg).2⟩
  · rcases h1'.2 with ⟨_, h0⟩ | ⟨g, cap, cur, hv, _⟩
    · omega
    · exact ⟨_, _, hv⟩
end
end Go.Proofs.Ytbmfkgfmibpkjaa
namespace Go.Proofs.Ytbmfkgfmibpkjaa
open Go.RowKit Ph
/-- A list of ints of its own, and a bool. -/
def EndI (zs : List Int) (ok : Bool) (w : World) (e : Ending) (w' : World) : Prop := ∃ v, e = .returned (.tuple #[v, .bool ok]) ∧ OwnH w' w.heap.size w'.heap.size (.slice none 0 0) (.slice none 0 0) v ⟨[], [], zs⟩ ∧ Below w.heap.size w w'
theorem endI_no {w w' : World} {zs : List Int} {ok : Bool} (hb : Below w.heap.size w w') (h1 : zs = []) (h2 : ok = false) : EndI zs ok w (.returned (.tuple #[.slice none 0 0, .bool false])) w' := by
  subst h1; subst h2
  exact ⟨_, rfl, OwnH.nil w' _ _, hb⟩
theorem endI_yes {w w' : World} {zs zs' : List Int} {ok : Bool} {v : Value} {B : Nat} (hb : Below w.heap.size w w') (ho : Own w' B v zs') (hB : w.heap.size ≤ B) (h1 : zs = zs') (h2 : ok = true) : EndI zs ok w (.returned (.tuple #[v, .bool true])) w' := by
  subst h1; subst h2
  exact ⟨_, rfl, OwnH.ofInts (ho.mono hB) hb, hb⟩
end Go.Proofs.Ytbmfkgfmibpkjaa
namespace Go.Proofs.Ytbmfkgfmibpkjaa
open Go.RowKit Ph

theorem src_int (W : World) (x : Int) : SrcAt (W.alloc (.cells #[.int .i64 x] 3)) (.slice (some ⟨W.heap.size, 0, none⟩) 1 1) ([x].map (Value.int .i64)) :=
  ⟨_, 1, rfl, fun u hu => by simp at hu; rw [hu]; rfl, fun _ => ⟨W.heap.size, 0, rfl, fun j hj => by simp at hj; subst hj; exact Row.cell (Row.new W 3 #[.int .i64 x]) 0⟩⟩
theorem inB_iff {lo hi z : Int} : inB lo hi z = true ↔ lo ≤ z ∧ z ≤ hi := by unfold inB; rw [Bool.and_eq_true, decide_eq_true_eq, decide_eq_true_eq]
theorem inB_no {lo hi z : Int} (h : ¬ (lo ≤ z ∧ z ≤ hi)) : inB lo hi z = false := by
  cases hq : inB lo hi z with
  | false => rfl
  | true => exact absurd (inB_iff.1 hq) h
end Go.Proofs.Ytbmfkgfmibpkjaa
