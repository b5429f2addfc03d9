/- What the laws rest on, part 2. -/
import Derived.Test.YtbmfkgfmibpkjaaPC1
import Derived.Laws.EntriesVeiled
import Derived.Deep.LoopGhost
import Derived.Deep.Upon
import Derived.Maps.AppendAt
namespace Go.Proofs.Ytbmfkgfmibpkjaa
open Go.RowKit Ph

theorem OwnH.out {w w' : World} {lo hi : Nat} {a b c : Value} {h : H} (k : OwnH w lo hi a b c h) (hb : ∀ i, lo ≤ i → w'.heap[i]? = w.heap[i]?) : OwnH w' lo hi a b c h := by
  obtain ⟨us, k⟩ := k
  exact ⟨us, Fam.keep k fun g h1 _ _ => hb g h1⟩
theorem OwnH.cell {w : World} {lo hi : Nat} {a b c : Value} {h : H} (k : OwnH w lo hi a b c h) (p : Addr) (hp : p.block < lo) (x : Value) : OwnH (w.setCell p x) lo hi a b c h := k.out fun i hi => heap_setCell_other w p i _ (by omega)
theorem OwnH.whole {w : World} {lo hi : Nat} {a b c : Value} {h : H} (k : OwnH w lo hi a b c h) (g : Nat) (hp : g < lo) (cs : Array Value) : OwnH (w.setRow g cs) lo hi a b c h := k.out fun i hi => setRow_other w g i cs (by omega)
theorem OwnH.addLive {w : World} {lo hi : Nat} {a b c : Value} {h : H} (k : OwnH w lo hi a b c h) {b' : Value} {bs : List Bool} (ho : OwnBs w hi b' bs) (hl : lo ≤ hi) (hs : hi ≤ w.heap.size) : OwnH w lo w.heap.size a b' c ⟨h.f, bs, h.r⟩ := by
  obtain ⟨us, k⟩ := k
  exact ⟨us, k.putLive (owns_mono ho fun g hg => Nat.le_trans hl (owns_lt ho hg).1) hs fun g hg => .inl (owns_lt ho hg)⟩
theorem OwnH.addRoots {w : World} {lo hi : Nat} {a b c : Value} {h : H} (k : OwnH w lo hi a b c h) {c' : Value} {zs : List Int} (ho : Own w hi c' zs) (hl : lo ≤ hi) (hs : hi ≤ w.heap.size) : OwnH w lo w.heap.size a b c' ⟨h.f, h.l, zs⟩ := by
  obtain ⟨us, k⟩ := k
  exact ⟨us, k.putRoots (owns_mono ho fun g hg => Nat.le_trans hl (owns_lt ho hg).1) hs fun g hg => .inl (owns_lt ho hg)⟩
theorem OwnH.shapes {w : World} {lo hi : Nat} {a b c : Value} {h : H} (k : OwnH w lo hi a b c h) : (∃ p q, a = .slice p h.f.length q) ∧ (∃ p q, b = .slice p h.l.length q) ∧ (∃ p q, c = .slice p h.r.length q) := ⟨k.reads.f.shape, k.reads.l.shape, k.reads.r.shape⟩
theorem RowH.set0 {w : World} {g : Nat} {a b c : Value} (k : RowH w g a b c) (x : Value) : RowH (w.setCell ⟨g, 0, none⟩ x) g x b c := (Row.set k 0 x).trans rfl
theorem RowH.set1 {w : World} {g : Nat} {a b c : Value} (k : RowH w g a b c) (x : Value) : RowH (w.setCell ⟨g, 1, none⟩ x) g a x c := (Row.set k 1 x).trans rfl
theorem RowH.set2 {w : World} {g : Nat} {a b c : Value} (k : RowH w g a b c) (x : Value) : RowH (w.setCell ⟨g, 2, none⟩ x) g a b x := (Row.set k 2 x).trans rfl
theorem wl_storeH {ops : Array Oper} {rest : List Oper} {o : Oper} {q : Act} {w : World} {Q : Exit → Act → World → Prop} (hgd : o.guard = none) (x y : Operand) (ho : o.op = .store 32 x y) (g : Nat) (a b c a0 b0 c0 : Value) (hg : RowH w g a0 b0 c0)
    (hx : q.eval x = .pointer (some ⟨g, 0, none⟩)) (hy : q.eval y = hv a b c) (h1 : a.oneCell' = true) (h2 : b.oneCell' = true) (h3 : c.oneCell' = true) (h : wpList Try.prog ops Q rest (q.put o.dst undef) (w.setRow g (c3 a b c))) : wpList Try.prog ops Q (o :: rest) q w :=
  wpList_store_row hgd 32 x y ho g (c3 a b c) hx hy 32 (c3 a0 b0 c0) hg info_heap rfl (by simp [Value.oneCell']; exact ⟨h1, h2, h3⟩) h
set_option maxHeartbeats 1600000 in
theorem c_toHeap (a b c : Value) (h : H) (w : World) (hA : HeapAt w a b c h) (hm : wtH h ≤ 1048576) : Calls Try.prog 28 #[hv a b c] w fun e w' => ∃ a' b' c', e = .returned (hv a' b' c') ∧ OwnH w' w.heap.size w'.heap.size a' b' c' h ∧ Below w.heap.size w w' := by
  have hm1 : wt h.f ≤ 1048576 ∧ h.l.length ≤ 1048576 ∧ h.r.length ≤ 1048576 := by unfold wtH at hm; omega
  have HM := Lib.hid hm1
  clear hm hm1
  have hb0 := (((below1 w (.cells (c3 a b c) 26)).alloc (by simp) (.cells (c3 (.slice none 0 0) (.slice none 0 0) (.slice none 0 0)) 32)).alloc (by simp; omega) (.cells (c3 (.slice none 0 0) (.slice none 0 0) (.slice none 0 0)) 32))
  have hA0 := hA.below hb0
  have rp : Row _ w.heap.size 26 (c3 a b c) := ((Row.new w 26 (c3 a b c)).alloc (.cells (c3 (.slice none 0 0) (.slice none 0 0) (.slice none 0 0)) 32)).alloc (.cells (c3 (.slice none 0 0) (.slice none 0 0) (.slice none 0 0)) 32)
  have r1 : RowH _ (w.heap.size + 1) (.slice none 0 0) (.slice none 0 0) (.slice none 0 0) := (Row.new1 w (.cells (c3 a b c) 26) 32 (c3 (.slice none 0 0) (.slice none 0 0) (.slice none 0 0))).alloc (.cells (c3 (.slice none 0 0) (.slice none 0 0) (.slice none 0 0)) 32)
  have r2 : RowH _ (w.heap.size + 1 + 1) (.slice none 0 0) (.slice none 0 0) (.slice none 0 0) := Row.new2 w (.cells (c3 a b c) 26) (.cells (c3 (.slice none 0 0) (.slice none 0 0) (.slice none 0 0)) 32) 32 (c3 (.slice none 0 0) (.slice none 0 0) (.slice none 0 0))
  have HB := Lib.hid hb0; have HA := Lib.hid hA0; have RP := Lib.hid rp; have R1 := Lib.hid r1; have R2 := Lib.hid r2
  have HAW := Lib.hid hA
  clear hb0 hA0 rp r1 r2 hA
  go_enter Try.func28, Try.ntmps28
  go_wp2_with fail
  refine (c_toIntSS a h.f _ HA.out.f HM.out.1).mono ?_
  rintro e w1 ⟨v1, rfl, ho1, hb1⟩
  have rp1 := RP.out.below hb1
  have r11 := R1.out.below hb1
  have r21 := R2.out.below hb1
  have hB1 := bst HB.out hb1 HB.out.size
  have hsz : ((((w.alloc (.cells (c3 a b c) 26)).alloc (.cells (c3 (.slice none 0 0) (.slice none 0 0) (.slice none 0 0)) 32)).alloc (.cells (c3 (.slice none 0 0) (.slice none 0 0) (.slice none 0 0)) 32))).heap.size = w.heap.size + 3 := by simp
  rw [hsz] at ho1
  have hw1 : w.heap.size + 3 ≤ w1.heap.size := by have := hb1.size; rw [hsz] at this; exact this
  clear hb1 hsz HB HA RP R1 R2
  have o2 := ho1.cell ⟨w.heap.size + 1 + 1, 0, none⟩ (by simp) v1
  have rp2 := rp1.other ⟨w.heap.size + 1 + 1, 0, none⟩ (by simp; omega) v1
  have r12 : RowH _ _ _ _ _ := Row.other r11 ⟨w.heap.size + 1 + 1, 0, none⟩ (by simp) v1
  have r22 := r21.set0 v1
  have B2 := hB1.setCell (p := ⟨w.heap.size + 1 + 1, 0, none⟩) (by simp; omega) v1
  have f1 := Row.frozen r21 0
  have k1 := r21.c0
  have s2 : (w1.setCell ⟨w.heap.size + 1 + 1, 0, none⟩ v1).heap.size = w1.heap.size := World.size_setCell _ _ _
  rw [← s2] at hw1 o2
  have A2 := Lib.hid (HAW.out.l.below B2)
  obtain ⟨p1, q1, hv1⟩ := ho1.shapes.1
  have kb := Row.cell rp2 1
  clear ho1 rp1 r11 r21 hB1 s2
  generalize h.f.length = nf at hv1
  subst hv1
  have RP := Lib.hid rp2; have R1 := Lib.hid r12; have R2 := Lib.hid r22; have HB := Lib.hid B2; have HO := Lib.hid o2; have HW := Lib.hid hw1
  clear rp2 r12 r22 B2 o2 hw1
  go_wp2_with fail
  clear kb k1 f1
  generalize (w1.setCell ⟨w.heap.size + 1 + 1, 0, none⟩ (.slice p1 nf q1)) = w2 at *
  refine (c_toBoolS b h.l _ A2.out HM.out.2.1).mono ?_
  rintro e w3 ⟨v2, rfl, ho3, hb3⟩
  have rp3 := RP.out.below hb3
  have r13 := R1.out.below hb3
  have r23 := R2.out.below hb3
  have hB3 := bst HB.out hb3 HB.out.size
  have o3 := (HO.out.below hb3).addLive ho3 (by have := HW.out; omega) hb3.size
  have hw3 : w.heap.size + 3 ≤ w3.heap.size := by have := HW.out; have := hb3.size; omega
  clear hb3 HB RP R1 R2 HO HW
  have o4 := o3.cell ⟨w.heap.size + 1 + 1, 1, none⟩ (by simp) v2
  have rp4 := rp3.other ⟨w.heap.size + 1 + 1, 1, none⟩ (by simp; omega) v2
  have r14 : RowH _ _ _ _ _ := Row.other r13 ⟨w.heap.size + 1 + 1, 1, none⟩ (by simp) v2
  have r24 := r23.set1 v2
  have B4 := hB3.setCell (p := ⟨w.heap.size + 1 + 1, 1, none⟩) (by simp; omega) v2
  have f1 := Row.frozen r23 1
  have k1 := r23.c1
  have s4 : (w3.setCell ⟨w.heap.size + 1 + 1, 1, none⟩ v2).heap.size = w3.heap.size := World.size_setCell _ _ _
  rw [← s4] at hw3 o4
  have A4 := Lib.hid (HAW.out.r.below B4)
  obtain ⟨p2, q2, hv2⟩ := o3.shapes.2.1
  have kb := Row.cell rp4 2
  clear ho3 o3 rp3 r13 r23 hB3 s4
  simp only [] at hv2
  generalize h.l.length = nl at hv2
  subst hv2
  have RP := Lib.hid rp4; have R1 := Lib.hid r14; have R2 := Lib.hid r24; have HB := Lib.hid B4; have HO := Lib.hid o4; have HW := Lib.hid hw3
  clear rp4 r14 r24 B4 o4 hw3
  go_wp2_with fail
  clear kb k1 f1
  generalize (w3.setCell ⟨w.heap.size + 1 + 1, 1, none⟩ (.slice p2 nl q2)) = w4 at *
  refine (c_toIntS c h.r _ A4.out HM.out.2.2).mono ?_
  rintro e w5 ⟨v3, rfl, ho5, hb5⟩
  have r15 := R1.out.below hb5
  have r25 := R2.out.below hb5
  have hB5 := bst HB.out hb5 HB.out.size
  have o5 := (HO.out.below hb5).addRoots ho5 (by have := HW.out; omega) hb5.size
  have hw5 : w.heap.size + 3 ≤ w5.heap.size := by have := HW.out; have := hb5.size; omega
  clear hb5 HB RP R1 R2 HO HW
  have o6 := o5.cell ⟨w.heap.size + 1 + 1, 2, none⟩ (by simp) v3
  have r16 : RowH _ _ _ _ _ := Row.other r15 ⟨w.heap.size + 1 + 1, 2, none⟩ (by simp) v3
  have r26 := r25.set2 v3
  have B6 := hB5.setCell (p := ⟨w.heap.size + 1 + 1, 2, none⟩) (by simp; omega) v3
  have f1 := Row.frozen r25 2
  have k1 := r25.c2
  have s6 : (w5.setCell ⟨w.heap.size + 1 + 1, 2, none⟩ v3).heap.size = w5.heap.size := World.size_setCell _ _ _
  rw [← s6] at hw5 o6
  obtain ⟨p3, q3, hv3⟩ := o5.shapes.2.2
  clear ho5 o5 r15 r25 hB5 s6
  simp only [] at hv3
  generalize h.r.length = nr at hv3
  subst hv3
  have R1 := Lib.hid r16; have R2 := Lib.hid r26; have HB := Lib.hid B6; have HO := Lib.hid o6; have HW := Lib.hid hw5
  clear r16 r26 B6 o6 hw5
  go_wp2_with (first
    | (refine wl_loadH rfl _ rfl (w.heap.size + 1 + 1) _ _ _ R2.out rfl ?_)
    | (refine wl_storeH rfl _ _ rfl (w.heap.size + 1) (.slice p1 nf q1) (.slice p2 nl q2) (.slice p3 nr q3) _ _ _ R1.out rfl rfl rfl rfl rfl ?_))
  refine bodyPost_ret (res_row Try.results28 (Row.put R1.out (c3 (.slice p1 nf q1) (.slice p2 nl q2) (.slice p3 nr q3))) rfl Try.underlying32 rfl info_heap) rfl ⟨_, _, _, rfl, ?_, below_setRow HB.out (by omega) _⟩
  have := HO.out.whole (w.heap.size + 1) (by omega) (c3 (.slice p1 nf q1) (.slice p2 nl q2) (.slice p3 nr q3))
  rw [size_setRow]
  exact this.wide (by omega) (Nat.le_refl _)
end Go.Proofs.Ytbmfkgfmibpkjaa
namespace Go.Proofs.Ytbmfkgfmibpkjaa
open Go.RowKit Ph

theorem Row.chg {w w' : World} {lo hi g : Nat} {T : TypeId} {cs : Array Value} (h : Row w g T cs) (hc : Chg lo hi w w') (hd : g < lo ∨ hi ≤ g) : Row w' g T cs := (hc.block g h.lt hd).trans h
theorem below_chg {B lo hi : Nat} {w w1 w2 : World} (h : Below B w w1) (k : Chg lo hi w1 w2) (hB : B ≤ lo) (hs : B ≤ w1.heap.size) : Below B w w2 :=
  ⟨k.os.trans h.os, k.tape.trans h.tape, k.output.trans h.output, Nat.le_trans h.size k.size, fun i hi => (k.block i (by omega) (.inl (by omega))).trans (h.block i hi)⟩
/-- What a mark is. -/
def mk3 (z : Int) : Bool := z % 3 == 0
def upB (k : Int) (n : Nat) : List Bool := (List.range n).map (fun i : Nat => mk3 (k + (i : Int)))
theorem upB_length (k : Int) (n : Nat) : (upB k n).length = n := by simp [upB]
theorem upB_getD (k : Int) {n i : Nat} (h : i < n) : (upB k n).getD i false = mk3 (k + i) := by simp [upB, List.getD, h]
def markB (k : Int) (zs : List Bool) (j : Nat) : List Bool := upB k j ++ zs.drop j
theorem markB_length (k : Int) (zs : List Bool) {j : Nat} (h : j ≤ zs.length) : (markB k zs j).length = zs.length := by simp [markB, upB_length]; omega
theorem markB_zero (k : Int) (zs : List Bool) : markB k zs 0 = zs := by simp [markB, upB]
theorem markB_all (k : Int) (zs : List Bool) : markB k zs zs.length = upB k zs.length := by simp [markB]
theorem markB_set (k : Int) (zs : List Bool) {j : Nat} (h : j < zs.length) : (markB k zs j).set j (mk3 (k + j)) = markB k zs (j + 1) := by
  unfold markB
  have e : zs.drop j = zs[j] :: zs.drop (j + 1) := (List.drop_eq_getElem_cons h)
  rw [e, List.set_append_right _ _ (by rw [upB_length]; omega), upB_length, Nat.sub_self, List.set_cons_zero]
  simp [upB, List.range_succ]
set_option maxHeartbeats 800000 in
theorem c_markBools (v : Value) (zs : List Bool) (B : Nat) (k : Int) (w : World) (hown : OwnBs w B v zs) (h0 : 0 ≤ k) (hm : k + zs.length ≤ 9223372036854775806) :
    Calls Try.prog 36 #[v, .int .i64 k] w fun e w' => e = .returned (.int .i64 (k + zs.length)) ∧ OwnBs w' B v (upB k zs.length) ∧ w.grownBy w' v.ownBlock := by
  rcases hown.shape with ⟨rfl, rfl⟩ | ⟨g, cap, rfl⟩
  · go_enter Try.func36, Try.ntmps36
    go_wp2
    refine wp_loop_rounds 1 ?_
    rw [rounds_succ]
    go_wp2
    go_ret
    exact ⟨r_i (by simp), hown, World.grownBy.refl _ _⟩
  · have HO := Lib.hid hown; clear hown
    generalize hn : zs.length = n at *
    have HN := Lib.hid hn; clear hn
    go_enter Try.func36, Try.ntmps36
    go_wp2
    go_loopw [1, 5] (fun kk i wr => ∃ j : Nat, j ≤ n ∧ i = .int .i64 j ∧ kk = .int .i64 (k + j) ∧ OwnBs wr B (.slice (some ⟨g, 0, none⟩) n cap) (markB k zs j) ∧ w.grownBy wr (some g)) (fun _ i _ => n - (intOf i).toNat)
    case atStart => exact ⟨0, Nat.zero_le _, rfl, by simp, by rw [markB_zero]; exact HO.out, World.grownBy.refl _ _⟩
    case round =>
      obtain ⟨j, hj, rfl, rfl, hown, hg⟩ := hrel
      by_cases hlt : j < n
      · have hlen := markB_length k zs (j := j) (by rw [HN.out]; exact hj)
        have hown' : wr.ownsRow B 4 1 (.slice (some ⟨g, 0, none⟩) n cap) n ((markB k zs j).map Value.bool) := by
          have := hown; unfold OwnBs at this; rwa [hlen, HN.out] at this
        have hfr := hown'.frozenAt j
        obtain ⟨x, hx⟩ : ∃ x, wr.cell? ⟨g, j, none⟩ = some x := by
          rw [hown'.cellAt j (by omega), List.getElem?_map, List.getElem?_eq_getElem (by rw [hlen, HN.out]; exact hlt)]
          exact ⟨_, rfl⟩
        obtain ⟨s1, s2⟩ := hown'.stored j (.bool (mk3 (k + j)))
        have S1 : Hid (OwnBs (wr.setCell ⟨g, j, none⟩ (.bool (mk3 (k + j)))) B (.slice (some ⟨g, 0, none⟩) n cap) (markB k zs (j + 1))) := by
          unfold Hid OwnBs
          rw [markB_length k zs (by rw [HN.out]; omega), HN.out, ← markB_set k zs (by rw [HN.out]; exact hlt), List.map_set]
          exact s1
        have S2 := Lib.hid s2
        clear s1 s2 hown hown' hlen
        go_wp2
        go_roundw
        case rel => exact ⟨j + 1, by omega, by go_num, by go_num, S1.out, grownBy_trans hg S2.out⟩
        case measure => simp [intOf]; omega
      · obtain rfl : j = n := by omega
        go_wp2
        go_ret
        exact ⟨rfl, by rw [← HN.out, ← markB_all, HN.out]; exact hown, hg⟩
set_option maxHeartbeats 800000 in
theorem c_heldBoolS (v : Value) (n : Nat) (k : Int) (w : World) (hA : BoolsAt w v (upB k n)) (h0 : 0 ≤ k) (hm : k + n ≤ 9223372036854775806) :
    Calls Try.prog 37 #[v, .int .i64 k] w fun e w' => e = .returned (.int .i64 (k + n)) ∧ w = w' := by
  obtain ⟨a, ca, rfl, hA⟩ := hA
  rw [upB_length] at hA ⊢
  have HA := Lib.hid hA; clear hA
  go_enter Try.func37, Try.ntmps37
  go_wp2
  go_loop [1, 5] (fun kk i => ∃ j : Nat, j ≤ n ∧ i = .int .i64 j ∧ kk = .int .i64 (k + j)) (fun _ i => n - (intOf i).toNat)
  case atStart => exact ⟨0, Nat.zero_le _, rfl, by simp⟩
  case round =>
    obtain ⟨j, hj, rfl, rfl⟩ := hrel
    by_cases hlt : j < n
    · obtain ⟨b, off, rfl, hc⟩ := HA.out (by omega)
      have q := hc j hlt
      rw [upB_getD k hlt] at q
      have hxx : ∀ x : Bool, (x != x) = false := by simp
      unfold mk3 at q
      clear hc
      go_wp2
      go_round
      case rel => exact ⟨j + 1, by omega, by go_num, by go_num⟩
      case measure => simp [intOf]; omega
    · obtain rfl : j = n := by omega
      go_wp2
      go_ret
      exact ⟨rfl, rfl⟩
/-- Rows of which the first j have been marked. -/
def markF (k : Int) (fs : List (List Int)) (j : Nat) : List (List Int) := (List.range fs.length).map fun i => if i < j then upFrom (k + sumL fs i) (fs.getD i []).length else fs.getD i []
theorem markF_length (k : Int) (fs : List (List Int)) (j : Nat) : (markF k fs j).length = fs.length := by simp [markF]
theorem markF_getD (k : Int) (fs : List (List Int)) (j : Nat) {i : Nat} (h : i < fs.length) : (markF k fs j).getD i [] = if i < j then upFrom (k + sumL fs i) (fs.getD i []).length else fs.getD i [] := by
  unfold markF
  rw [List.getD, List.getElem?_map, List.getElem?_range h]
  rfl
theorem ext_getD {xs ys : List (List Int)} (hl : xs.length = ys.length) (h : ∀ i, i < xs.length → xs.getD i [] = ys.getD i []) : xs = ys := by
  apply List.ext_getElem hl
  intro i h1 h2
  have := h i h1
  simpa [List.getD, List.getElem?_eq_getElem h1, List.getElem?_eq_getElem h2] using this
theorem markF_zero (k : Int) (fs : List (List Int)) : markF k fs 0 = fs := ext_getD (markF_length k fs 0) fun i hi => by rw [markF_getD k fs 0 (by rw [markF_length] at hi; exact hi), if_neg (by omega)]
theorem markF_set (k : Int) (fs : List (List Int)) {j : Nat} (h : j < fs.length) : (markF k fs j).set j (upFrom (k + sumL fs j) (fs.getD j []).length) = markF k fs (j + 1) := by
  refine ext_getD (by rw [List.length_set, markF_length, markF_length]) fun i hi => ?_
  rw [List.length_set, markF_length] at hi
  rw [getD_setL (by rw [markF_length]; exact h), markF_getD k fs (j + 1) hi, markF_getD k fs j hi]
  by_cases e : i = j
  · subst e; rw [if_pos rfl, if_pos (by omega)]
  · rw [if_neg e]
    by_cases e2 : i < j
    · rw [if_pos e2, if_pos (by omega)]
    · rw [if_neg e2, if_neg (by omega)]
def szM (h : H) : Nat := sumL h.f h.f.length + h.l.length + h.r.length
def markH (k : Int) (h : H) : H := ⟨markF k h.f h.f.length, upB (k + sumL h.f h.f.length) h.l.length, upFrom (k + sumL h.f h.f.length + h.l.length) h.r.length⟩
theorem FamH.shapeN {w : World} {lo hi : Nat} {a b c : Value} {us : Nat → Value} {h : H} (k : FamH w lo hi a b c us h) {n : Nat} (hn : h.f.length = n) : (a = .slice none 0 0 ∧ n = 0) ∨ ∃ g cap, a = .slice (some ⟨g, 0, none⟩) n cap := by
  rcases k.shape with ⟨h1, h2⟩ | ⟨g, cap, h1⟩
  · exact .inl ⟨h1, by rw [← hn, h2]; rfl⟩
  · exact .inr ⟨g, cap, by rw [h1, hn]⟩
set_option maxHeartbeats 1600000 in
theorem c_markIntSS (lo hi : Nat) (a b c : Value) (us : Nat → Value) (h : H) (k : Int) (w : World) (hown : FamH w lo hi a b c us h) (h0 : 0 ≤ k) (hm : k + sumL h.f h.f.length ≤ 9223372036854775806) (hl : h.f.length ≤ 9223372036854775806) :
    Calls Try.prog 103 #[a, .int .i64 k] w fun e w' => e = .returned (.int .i64 (k + sumL h.f h.f.length)) ∧ FamH w' lo hi a b c us ⟨markF k h.f h.f.length, h.l, h.r⟩ ∧ Chg lo hi w w' := by
  obtain ⟨fs, ls, rs⟩ := h
  simp only at *
  have hsl := sumL_le fs
  have hss : ∀ k, k < fs.length → sumL fs (k + 1) = sumL fs k + (fs.getD k []).length := fun k hk => sumL_succ hk
  have HO := Lib.hid hown
  have hsh := hown.shapeN (n := fs.length) rfl
  clear hown
  generalize hn : fs.length = n at *
  have HN := Lib.hid hn; have HSL := Lib.hid hsl; have HSS := Lib.hid hss
  clear hn hsl hss
  generalize hT : sumL fs n = Tt at *
  have HT := Lib.hid hT
  clear hT
  have ha : ∃ g cap, a = .slice g n cap ∧ (0 < n → ∃ b, g = some ⟨b, 0, none⟩) := by
    rcases hsh with ⟨h1, h2⟩ | ⟨g, cap, h1⟩
    · exact ⟨none, 0, by rw [h1, h2], fun h => by omega⟩
    · exact ⟨_, cap, h1, fun _ => ⟨g, rfl⟩⟩
  obtain ⟨ga, cap, rfl, hga⟩ := ha
  have HGA := Lib.hid hga
  clear hsh hga
  go_enter Try.func103, Try.ntmps103
  go_wp2
  go_loopw [1, 5] (fun kk i wr => ∃ j : Nat, j ≤ n ∧ i = .int .i64 j ∧ ∃ s : Nat, Hid (sumL fs j = s) ∧ s ≤ Tt ∧ kk = .int .i64 (k + s) ∧ FamH wr lo hi (.slice ga n cap) b c us ⟨markF k fs j, ls, rs⟩ ∧ Chg lo hi w wr) (fun _ i _ => n - (intOf i).toNat)
  case atStart => exact ⟨0, Nat.zero_le _, rfl, 0, sumL_zero fs, Nat.zero_le _, by simp, by rw [markF_zero]; exact HO.out, Chg.refl _ _ _⟩
  case round =>
    obtain ⟨j, hj, rfl, s, hs, hsT, rfl, hfam, hch⟩ := hrel
    by_cases hlt : j < n
    · obtain ⟨g, rfl⟩ := HGA.out (by omega)
      have hjl : j < fs.length := by rw [HN.out]; exact hlt
      have e1 := HSS.out j hlt
      have e2 := HSL.out (j + 1)
      rw [hs.out] at e1
      rw [e1] at e2
      have hlen : (markF k fs j).length = n := by rw [markF_length, HN.out]
      obtain ⟨q, _⟩ := hfam.cell (g := g) (cap := cap) (i := j) (by simp only [hlen]) (by simp only [hlen]; exact hlt)
      have hrow := hfam.row (i := j) (by simp only [hlen]; exact hlt)
      simp only [] at hrow
      rw [markF_getD k fs j hjl, if_neg (by omega)] at hrow
      have hset := markF_set k fs hjl
      rw [hs.out] at hset
      have i1 : (j : Int) < (n : Int) := by omega
      have E1 := Lib.hid e1; have HR := Lib.hid hrow; have HF := Lib.hid hfam; have HCH := Lib.hid hch; have HLE := Lib.hid hlen; have HST := Lib.hid hset
      clear hfam hch hrow hlen hset e1 hjl
      generalize hzs : fs.getD j [] = zs at *
      have J : Hid ((0 : Int) ≤ k + s ∧ k + s + zs.length ≤ 9223372036854775806) := ⟨by omega, by omega⟩
      have hb2 : s + zs.length ≤ Tt := e2
      clear hzs e2
      obtain ⟨u, hu⟩ : ∃ u, u = us j := ⟨_, rfl⟩
      rw [← hu] at q HR
      have HU := Lib.hid hu
      clear hu
      go_wp2_with fail
      refine (c_markIntS u zs lo (k + s) _ HR.out J.out.1 J.out.2).mono ?_
      rintro e w2 ⟨rfl, ho2, hg2⟩
      rw [HU.out] at ho2 hg2
      have hch2 : Chg lo hi wr w2 := Chg.of_grown hg2 fun g' hg' => by
        have := Fam.blk HF.out (k := j + 3) (g := g') (by simp only [HLE.out]; omega) hg'
        exact ⟨this.1, this.2.1⟩
      have F2 := HF.out.setRow (i := j) (by simp only [HLE.out]; exact hlt) hg2 ho2
      simp only [HST.out] at F2
      have F3 := Lib.hid F2; have C3 := Lib.hid (HCH.out.trans hch2)
      clear F2 hch2 ho2 hg2 q
      generalize zs.length = m at *
      go_wp2
      go_roundw
      case rel => exact ⟨j + 1, by omega, by go_num, s + m, E1.out, by omega, by congr 1; omega, F3.out, C3.out⟩
      case measure => simp [intOf]; omega
    · obtain rfl : j = n := by omega
      obtain rfl : Tt = s := HT.out.symm.trans hs.out
      go_wp2
      go_ret
      exact ⟨rfl, hfam, hch⟩
set_option maxHeartbeats 1600000 in
theorem c_markHeap (lo hi : Nat) (a b c : Value) (h : H) (k : Int) (w : World) (hown : OwnH w lo hi a b c h) (h0 : 0 ≤ k) (hm : k + szM h ≤ 9223372036854775806) (hl : h.f.length ≤ 9223372036854775806) (hs : hi ≤ w.heap.size) :
    Calls Try.prog 34 #[hv a b c, .int .i64 k] w fun e w' => e = .returned (.int .i64 (k + szM h)) ∧ OwnH w' lo hi a b c (markH k h) ∧ Chg lo hi w w' := by
  have hb0 := below1 w (.cells (c3 a b c) 32)
  obtain ⟨us, hfam⟩ := hown
  have F0 := Lib.hid (show FamH _ lo hi a b c us h from Fam.below hfam hb0)
  have C0 := Lib.hid (Chg.of_below (lo := lo) (hi := hi) hb0)
  have R0 := Lib.hid (show RowH _ _ a b c from Row.new w 32 (c3 a b c))
  have hmk : k + szM h = k + sumL h.f h.f.length + h.l.length + h.r.length := by unfold szM; omega
  have HMK := Lib.hid hmk
  rw [hmk] at hm ⊢
  have J1 : Hid (k + sumL h.f h.f.length ≤ 9223372036854775806 ∧ 0 ≤ k + sumL h.f h.f.length ∧ k + sumL h.f h.f.length + h.l.length ≤ 9223372036854775806 ∧ 0 ≤ k + sumL h.f h.f.length + h.l.length ∧ k + sumL h.f h.f.length + h.l.length + h.r.length ≤ 9223372036854775806) := ⟨by omega, by omega, by omega, by omega, by omega⟩
  have HLE := Lib.hid hl; have HS := Lib.hid hs
  clear hfam hb0 hmk hm hl hs
  have c0 := R0.out.c0
  go_enter Try.func34, Try.ntmps34
  go_wp2_with fail
  clear c0
  refine (c_markIntSS lo hi a b c us h k _ F0.out h0 J1.out.1 HLE.out).mono ?_
  rintro e w1 ⟨rfl, f1, ch1⟩
  have R1 : RowH _ _ a b c := Row.chg R0.out ch1 (.inr HS.out)
  have C1 := C0.out.trans ch1
  have hl1 := f1.live
  have c1 := R1.c1
  have F1 := Lib.hid f1; have RR := Lib.hid R1; have CC := Lib.hid C1; have HL1 := Lib.hid hl1
  clear f1 ch1 R1 C1 F0 R0 C0 hl1
  go_wp2_with fail
  clear c1
  refine (c_markBools b h.l lo (k + sumL h.f h.f.length) _ HL1.out J1.out.2.1 J1.out.2.2.1).mono ?_
  rintro e w2 ⟨rfl, ho2, hg2⟩
  have f2 := F1.out.setLive hg2 ho2
  have ch2 : Chg lo hi w1 w2 := Chg.of_grown hg2 fun g' hg' => by
    have := Fam.blk F1.out (k := 1) (g := g') (by omega) hg'
    exact ⟨this.1, this.2.1⟩
  have R2 : RowH _ _ a b c := Row.chg RR.out ch2 (.inr HS.out)
  have C2 := CC.out.trans ch2
  have hr2 := f2.roots
  have c2 := R2.c2
  have F2 := Lib.hid f2; have C3 := Lib.hid C2; have HR2 := Lib.hid hr2
  clear f2 ch2 R2 C2 F1 RR CC hr2 ho2 hg2 HL1
  go_wp2_with fail
  clear c2
  refine (c_markIntS c h.r lo (k + sumL h.f h.f.length + h.l.length) _ HR2.out J1.out.2.2.2.1 J1.out.2.2.2.2).mono ?_
  rintro e w3 ⟨rfl, ho3, hg3⟩
  have f3 := F2.out.setRoots hg3 ho3
  have ch3 : Chg lo hi w2 w3 := Chg.of_grown hg3 fun g' hg' => by
    have := Fam.blk F2.out (k := 2) (g := g') (by omega) hg'
    exact ⟨this.1, this.2.1⟩
  have F3 := Lib.hid f3; have C4 := Lib.hid (C3.out.trans ch3)
  clear f3 ch3 F2 C3 ho3 hg3 HR2
  go_wp2
  go_ret
  exact ⟨rfl, ⟨us, F3.out⟩, C4.out⟩
set_option maxHeartbeats 1600000 in
theorem c_heldIntSS (v : Value) (fs : List (List Int)) (k : Int) (w : World) (hA : RowsAt w v (markF k fs fs.length)) (h0 : 0 ≤ k) (hm : k + sumL fs fs.length ≤ 9223372036854775806) (hl : fs.length ≤ 9223372036854775806) :
    Calls Try.prog 148 #[v, .int .i64 k] w fun e w' => e = .returned (.int .i64 (k + sumL fs fs.length)) ∧ w = w' := by
  obtain ⟨a, ca, rfl, hA⟩ := hA
  rw [markF_length] at hA ⊢
  have hrow : ∀ i, i < fs.length → (markF k fs fs.length).getD i [] = upFrom (k + sumL fs i) (fs.getD i []).length := fun i hi => by rw [markF_getD k fs _ hi, if_pos hi]
  have hsl := sumL_le fs
  have hss : ∀ k, k < fs.length → sumL fs (k + 1) = sumL fs k + (fs.getD k []).length := fun k hk => sumL_succ hk
  generalize hn : fs.length = n at *
  have HN := Lib.hid hn; have HSL := Lib.hid hsl; have HSS := Lib.hid hss; have HA := Lib.hid hA; have HRW := Lib.hid hrow
  clear hn hsl hss hA hrow
  generalize hT : sumL fs n = Tt at *
  have HT := Lib.hid hT
  clear hT
  go_enter Try.func148, Try.ntmps148
  go_wp2
  go_loop [1, 5] (fun kk i => ∃ j : Nat, j ≤ n ∧ i = .int .i64 j ∧ ∃ s : Nat, Hid (sumL fs j = s) ∧ s ≤ Tt ∧ kk = .int .i64 (k + s)) (fun _ i => n - (intOf i).toNat)
  case atStart => exact ⟨0, Nat.zero_le _, rfl, 0, sumL_zero fs, Nat.zero_le _, by simp⟩
  case round =>
    obtain ⟨j, hj, rfl, s, hs, hsT, rfl⟩ := hrel
    by_cases hlt : j < n
    · obtain ⟨g, off, rfl, hc⟩ := HA.out (by omega)
      obtain ⟨u, q, hu⟩ := hc j hlt
      rw [HRW.out j hlt, hs.out] at hu
      have e1 := HSS.out j hlt
      have e2 := HSL.out (j + 1)
      rw [hs.out] at e1
      rw [e1] at e2
      have i1 : (j : Int) < (n : Int) := by omega
      have E1 := Lib.hid e1; have HU := Lib.hid hu
      clear e1 hu hc
      generalize (fs.getD j []).length = m at *
      have J : Hid ((0 : Int) ≤ k + s ∧ k + s + m ≤ 9223372036854775806) := ⟨by omega, by omega⟩
      have i2 : ¬ k + (s : Int) + (m : Int) < 0 := by omega
      go_wp2_with (go_at_call 58; refine (c_heldIntS u m (k + s) _ HU.out J.out.1 J.out.2).mono ?_; rintro e w1 ⟨rfl, rfl⟩)
      go_round
      case rel => exact ⟨j + 1, by omega, by go_num, s + m, E1.out, by omega, by congr 1; omega⟩
      case measure => simp [intOf]; omega
    · obtain rfl : j = n := by omega
      obtain rfl : Tt = s := HT.out.symm.trans hs.out
      go_wp2
      go_ret
      exact ⟨rfl, rfl⟩
set_option maxHeartbeats 1600000 in
theorem c_heldHeap (a b c : Value) (h : H) (k : Int) (w : World) (hA : HeapAt w a b c (markH k h)) (h0 : 0 ≤ k) (hm : k + szM h ≤ 9223372036854775806) (hl : h.f.length ≤ 9223372036854775806) :
    Calls Try.prog 93 #[hv a b c, .int .i64 k] w fun e w' => e = .returned (.int .i64 (k + szM h)) ∧ Below w.heap.size w w' := by
  have HB := Lib.hid (below1 w (.cells (c3 a b c) 32))
  have hA0 := hA.below HB.out
  have H1 := Lib.hid hA0.f; have H2 := Lib.hid hA0.l; have H3 := Lib.hid hA0.r
  have hmk : k + szM h = k + sumL h.f h.f.length + h.l.length + h.r.length := by unfold szM; omega
  rw [hmk] at hm ⊢
  have J1 : Hid (k + sumL h.f h.f.length ≤ 9223372036854775806 ∧ 0 ≤ k + sumL h.f h.f.length ∧ k + sumL h.f h.f.length + h.l.length ≤ 9223372036854775806 ∧ 0 ≤ k + sumL h.f h.f.length + h.l.length ∧ k + sumL h.f h.f.length + h.l.length + h.r.length ≤ 9223372036854775806) := ⟨by omega, by omega, by omega, by omega, by omega⟩
  have i1 : ¬ k + (sumL h.f h.f.length : Int) < 0 := by omega
  have i2 : ¬ k + (sumL h.f h.f.length : Int) + (h.l.length : Int) < 0 := by omega
  have i3 : ¬ k + (sumL h.f h.f.length : Int) + (h.l.length : Int) + (h.r.length : Int) < 0 := by omega
  have HLE := Lib.hid hl
  clear hA hA0 hmk hm hl
  have K1 := Lib.hid (c_heldIntSS a h.f k _ H1.out h0 J1.out.1 HLE.out)
  have K2 := Lib.hid (c_heldBoolS b h.l.length (k + sumL h.f h.f.length) _ H2.out J1.out.2.1 J1.out.2.2.1)
  have K3 := Lib.hid (c_heldIntS c h.r.length (k + sumL h.f h.f.length + h.l.length) _ H3.out J1.out.2.2.2.1 J1.out.2.2.2.2)
  clear H1 H2 H3 J1
  generalize sumL h.f h.f.length = sf at *
  generalize h.l.length = sl at *
  generalize h.r.length = sr at *
  go_enter Try.func93, Try.ntmps93
  go_wp2_with (first
    | (go_at_call 148; refine K1.out.mono ?_; rintro e w1 ⟨rfl, rfl⟩)
    | (go_at_call 37; refine K2.out.mono ?_; rintro e w1 ⟨rfl, rfl⟩)
    | (go_at_call 58; refine K3.out.mono ?_; rintro e w1 ⟨rfl, rfl⟩))
  go_ret
  exact ⟨rfl, HB.out⟩
end Go.Proofs.Ytbmfkgfmibpkjaa
namespace Go.Proofs.Ytbmfkgfmibpkjaa
open Go.RowKit Ph

theorem OwnH.ofInts {w w0 : World} {v : Value} {zs : List Int} (ho : Own w w0.heap.size v zs) (hb : Below w0.heap.size w0 w) : OwnH w w0.heap.size w.heap.size (.slice none 0 0) (.slice none 0 0) v ⟨[], [], zs⟩ := (OwnH.nil w _ w0.heap.size).addRoots ho (Nat.le_refl _) hb.size
/-- A heap of its own, and a bool. -/
def EndH (h : H) (ok : Bool) (w : World) (e : Ending) (w' : World) : Prop := ∃ a b c, e = .returned (.tuple #[hv a b c, .bool ok]) ∧ OwnH w' w.heap.size w'.heap.size a b c h ∧ Below w.heap.size w w'
def EndHI (h : H) (n : Int) (ok : Bool) (w : World) (e : Ending) (w' : World) : Prop := ∃ a b c, e = .returned (.tuple #[hv a b c, .int .i64 n, .bool ok]) ∧ OwnH w' w.heap.size w'.heap.size a b c h ∧ Below w.heap.size w w'
end Go.Proofs.Ytbmfkgfmibpkjaa
namespace Go.Proofs.Ytbmfkgfmibpkjaa.Ph
theorem left_mono : ∀ (S S' : List Bool), S'.length = S.length → (∀ k, S.getD k false = true → S'.getD k false = true) → left S' ≤ left S
  | [], [], _, _ => Nat.le_refl _
  | [], _ :: _, h, _ => by simp at h
  | _ :: _, [], h, _ => by simp at h
  | b :: S, b' :: S', h, hs => by
    have h1 := left_mono S S' (by simpa using h) (fun k hk => by have := hs (k + 1) (by simpa using hk); simpa using this)
    unfold left at h1 ⊢
    have h0 := hs 0
    cases b <;> cases b' <;> simp_all <;> omega
theorem Vis.left {fs : List (List Int)} {zs : List Int} {S S' : List Bool} (h : Vis fs zs S S') : left S' ≤ left S := left_mono S S' h.len h.sub
end Go.Proofs.Ytbmfkgfmibpkjaa.Ph
namespace Go.Proofs.Ytbmfkgfmibpkjaa
open Go.RowKit Ph

/-- The closure, its captured variables, and what it reads. -/
structure Vst (w : World) (g gr gv gh n cp lo : Nat) (a b c : Value) (S : List Bool) : Prop where
  own : OwnBs w lo (.slice (some ⟨g, 0, none⟩) n cp) S
  r : Row w gr 23 #[.slice (some ⟨g, 0, none⟩) n cp]
  v : Row w gv 192 #[.func (.func 201) #[] #[.pointer (some ⟨gr, 0, none⟩), .pointer (some ⟨gv, 0, none⟩), .pointer (some ⟨gh, 0, none⟩)]]
  h : RowH w gh a b c
theorem cellGrown {w w' : World} {g : Nat} {p : Addr} {x : Value} (hg : w.grownBy w' (some g)) (hp : p.block ≠ g) (h : w.cell? p = some x) : w'.cell? p = some x := by
  have hb := hg.block p.block (block_lt_of_cell h) (by simpa using hp)
  rw [World.cell?, hb]; exact h
theorem grown_drew (w : World) (r : Option Nat) : w.grownBy w.drew r := ⟨rfl, rfl, rfl, Nat.le_refl _, fun _ _ _ => rfl⟩
theorem OwnBs.stored {w : World} {B g n cap : Nat} {S : List Bool} (h : OwnBs w B (.slice (some ⟨g, 0, none⟩) n cap) S) (hn : S.length = n) {z : Nat} (hz : z < n) (x : Bool) : OwnBs (w.setCell ⟨g, z, none⟩ (.bool x)) B (.slice (some ⟨g, 0, none⟩) n cap) (S.set z x) ∧ w.grownBy (w.setCell ⟨g, z, none⟩ (.bool x)) (some g) ∧ w.cell? ⟨g, z, none⟩ = some (.bool (S.getD z false)) ∧ w.frozen? ⟨g, z, none⟩ = false := by
  unfold OwnBs at h
  rw [hn] at h
  obtain ⟨s1, s2⟩ := h.stored z (.bool x)
  refine ⟨?_, s2, ?_, h.frozenAt z⟩
  · unfold OwnBs
    rw [List.length_set, hn, List.map_set]
    exact s1
  · rw [h.cellAt z (by omega), List.getElem?_map, List.getElem?_eq_getElem (by omega)]
    simp [List.getD, List.getElem?_eq_getElem (show z < S.length by omega)]
theorem Vst.step {w w' : World} {g gr gv gh n cp lo : Nat} {a b c : Value} {S S' : List Bool} (k : Vst w g gr gv gh n cp lo a b c S) (hg : w.grownBy w' (some g)) (h1 : g ≠ gr) (h2 : g ≠ gv) (h3 : g ≠ gh) (ho : OwnBs w' lo (.slice (some ⟨g, 0, none⟩) n cp) S') : Vst w' g gr gv gh n cp lo a b c S' :=
  ⟨ho, Row.grownBy k.r hg (by simpa using h1), Row.grownBy k.v hg (by simpa using h2), Row.grownBy k.h hg (by simpa using h3)⟩
def inR (n : Nat) (z : Int) : Prop := z = -1 ∨ (0 ≤ z ∧ z < n)
set_option maxRecDepth 100000 in
set_option maxHeartbeats 6400000 in
theorem c_visit (W : World) (g gr gv gh n cp lo : Nat) (a b c : Value) (fs : List (List Int)) (hlo : W.heap.size ≤ g) (h1 : g ≠ gr) (h2 : g ≠ gv) (h3 : g ≠ gh) (hF : RowsAt W a fs) (hn : fs.length = n) (hn1 : n ≤ 12) (hrow : ∀ i, i < n → ∀ z ∈ fs.getD i [], inR n z) (hrl : ∀ i, i < n → (fs.getD i []).length ≤ 3) (fuel : Nat) :
    ∀ (v : Value) (zs : List Int) (S : List Bool) (w : World), left S ≤ fuel → S.length = n → IntsAt W v zs → zs.length ≤ 12 → (∀ z ∈ zs, inR n z) → Below W.heap.size W w → Vst w g gr gv gh n cp lo a b c S →
      Calls Try.prog 201 #[v, .pointer (some ⟨gr, 0, none⟩), .pointer (some ⟨gv, 0, none⟩), .pointer (some ⟨gh, 0, none⟩)] w fun e w' => e = .returned (.tuple #[]) ∧ ∃ S', Vis fs zs S S' ∧ OwnBs w' lo (.slice (some ⟨g, 0, none⟩) n cp) S' ∧ w.grownBy w' (some g) := by
  induction fuel using Nat.strongRecOn with
  | ind fuel ih =>
    intro v zs S w hleft hSn hz hzl hzr hB hV
    obtain ⟨fa, fc, rfl⟩ := hF.shape
    rw [hn] at *
    obtain ⟨va, vc, rfl⟩ := hz.shape
    have HZ := Lib.hid hz; have HZR := Lib.hid hzr; have HB := Lib.hid hB; have HV := Lib.hid hV; have HF := Lib.hid hF; have IH := Lib.hid ih; have HROW := Lib.hid hrow; have HRL := Lib.hid hrl; have HSN := Lib.hid hSn; have HFN := Lib.hid hn; have HLO := Lib.hid hlo; have HLE := Lib.hid hleft
    clear hz hzr hB hV hF ih hrow hrl hSn hn hlo hleft
    generalize hm : zs.length = m at *
    have HM := Lib.hid hm; clear hm
    go_enter Try.func201, Try.ntmps201
    go_wp2
    go_loopw [9] (fun i wr => ∃ j : Nat, j ≤ m ∧ i = .int .i64 j ∧ ∃ S', Hid (Vis fs (zs.take j) S S') ∧ Hid (Vst wr g gr gv gh n cp lo (.slice fa n fc) b c S') ∧ Hid (w.grownBy wr (some g))) (fun i _ => m - (intOf i).toNat)
    case atStart => exact ⟨0, Nat.zero_le _, rfl, S, Vis.start fs zs S, HV.out, World.grownBy.refl _ _⟩
    case round =>
      obtain ⟨j, hj, rfl, S', hvis, hvst, hgr⟩ := hrel
      by_cases hlt : j < m
      · obtain ⟨zb, zo, rfl, hc⟩ := HZ.out.at' (by omega)
        have BR : Below W.heap.size W wr := by
          have := HLO.out
          exact HB.out.grown hgr.out HB.out.size (fun k hk => by cases hk; omega)
        have q := cellBelow BR (Nat.le_refl _) (hc j hlt)
        have hjl : j < zs.length := by rw [HM.out]; exact hlt
        have hin := HZR.out (zs.getD j 0) (by rw [List.getD, List.getElem?_eq_getElem hjl]; exact List.getElem_mem hjl)
        have hSl : S'.length = n := by rw [hvis.out.len, HSN.out]
        have cr := hvst.out.r.cell 0
        have i1 : (j : Int) < (m : Int) := by omega
        have HJL := Lib.hid hjl
        clear hc
        generalize hzj : zs.getD j 0 = z at *
        have HZJ := Lib.hid hzj
        clear hzj hjl
        by_cases z1 : z = -1
        · subst z1
          have HE : Hid (Vis fs (zs.take (j + 1)) S S') := hvis.out.skip HJL.out (.inl HZJ.out)
          clear hin
          go_wp2_with fail
          go_roundw
          case rel => exact ⟨j + 1, by omega, by go_num, S', HE, hvst, hgr⟩
          case measure => simp [intOf]; omega
        · obtain ⟨t, rfl⟩ : ∃ t : Nat, z = t := ⟨z.toNat, by rcases hin with h | h <;> omega⟩
          have htn : t < n := by rcases hin with h | h <;> omega
          obtain ⟨s1, s2, s3, s4⟩ := hvst.out.own.stored hSl htn true
          have i2 : ((t : Int) == -1) = false := by simp
          have i3 : (t : Int) < (n : Int) := by omega
          have i4 : (0 : Int) ≤ (t : Int) := by omega
          generalize hx : S'.getD t false = x at *
          have HX := Lib.hid hx
          clear hin z1 hx
          cases x
          · have hls := left_set (S := S') (z := t) (by omega) HX.out
            have hlm := hvis.out.left
            have V1 := hvst.out.step s2 h1 h2 h3 s1
            obtain ⟨fb, fo, rfl, hcf⟩ := HF.out.at' (by omega)
            obtain ⟨u, quf, huf⟩ := hcf t htn
            have B1 : Below W.heap.size W (wr.setCell ⟨g, t, none⟩ (.bool true)) := BR.setCell (p := ⟨g, t, none⟩) (by have := HLO.out; exact this) (.bool true)
            have qu := cellBelow B1 (Nat.le_refl _) quf
            have IHC := IH.out (left (S'.set t true)) (by have := HLE.out; omega) u (fs.getD t []) (S'.set t true)
            have HC : Hid (∀ w', Below W.heap.size W w' → Vst w' g gr gv gh n cp lo (.slice (some ⟨fb, fo, none⟩) n fc) b c (S'.set t true) → Calls Try.prog 201 #[u, .pointer (some ⟨gr, 0, none⟩), .pointer (some ⟨gv, 0, none⟩), .pointer (some ⟨gh, 0, none⟩)] w' fun e w'' => e = .returned (.tuple #[]) ∧ ∃ S2, Vis fs (fs.getD t []) (S'.set t true) S2 ∧ OwnBs w'' lo (.slice (some ⟨g, 0, none⟩) n cp) S2 ∧ w'.grownBy w'' (some g)) := fun w' hb hv =>
              IHC w' (Nat.le_refl _) (by rw [List.length_set]; exact hSl) huf (by have := HRL.out t htn; omega) (HROW.out t htn) hb hv
            obtain ⟨ua, uc, hu⟩ := huf.shape
            subst hu
            have HV1 := Lib.hid V1; have HB1 := Lib.hid B1; have HS2 := Lib.hid s2; have HSL := Lib.hid hSl
            clear hls hlm V1 hcf huf B1 IHC s1 s2 hSl
            generalize (fs.getD t []).length = ul at *
            have hfb : fb ≠ g := by have h1 := block_lt_of_cell quf; have h2 := HLO.out; simp only at h1; omega
            clear quf
            go_wp2_with fail
            generalize (wr.setCell ⟨g, t, none⟩ (.bool true)) = cur at *
            have cv : cur.drew.cell? ⟨gv, 0, none⟩ = some (.func (.func 201) #[] #[.pointer (some ⟨gr, 0, none⟩), .pointer (some ⟨gv, 0, none⟩), .pointer (some ⟨gh, 0, none⟩)]) := HV1.out.v.cell 0
            have ch : cur.drew.cell? ⟨gh, 0, none⟩ = some (.slice (some ⟨fb, fo, none⟩) n fc) := HV1.out.h.c0
            replace qu : cur.drew.cell? ⟨fb, fo + t, none⟩ = some (.slice ua ul uc) := qu
            have BD := grown_drew cur (some g)
            have BW : Hid (Below W.heap.size W cur.drew) := below_drew HB1.out
            have VD : Hid (Vst cur.drew g gr gv gh n cp lo (.slice (some ⟨fb, fo, none⟩) n fc) b c (S'.set t true)) := ⟨HV1.out.own, HV1.out.r, HV1.out.v, HV1.out.h⟩
            have k1 := Lib.hid (Ne.symm h2); have k2 := Lib.hid (Ne.symm h3); have k3 := Lib.hid hfb
            go_region_held3 (fun w' => w'.cell? ⟨gv, 0, none⟩ = some (.func (.func 201) #[] #[.pointer (some ⟨gr, 0, none⟩), .pointer (some ⟨gv, 0, none⟩), .pointer (some ⟨gh, 0, none⟩)]) ∧ w'.cell? ⟨gh, 0, none⟩ = some (.slice (some ⟨fb, fo, none⟩) n fc) ∧ w'.cell? ⟨fb, fo + t, none⟩ = some (.slice ua ul uc) ∧ cur.grownBy w' (some g))
              (first
                | (with_reducible exact ⟨cv, ch, qu, BD⟩)
                | (go_split_ands
                   exact ⟨cellGrown hbk k1.out (by assumption), cellGrown hbk k2.out (by assumption), cellGrown hbk k3.out (by assumption), grownBy_trans (by assumption) hbk⟩)
                | (go_split_ands; refine ⟨?_, ?_, ?_, ?_⟩ <;> assumption))
              (first
                | (go_at_call 201; refine (HC.out _ BW.out VD.out).mono ?_; rintro e w6 ⟨rfl, S2, hvis2, hown2, hbk⟩))
            have hg6 : cur.grownBy w6 (some g) := by go_split_ands; assumption
            have HE : Hid (Vis fs (zs.take (j + 1)) S S2) := hvis.out.down HJL.out HZJ.out (by rw [HSL.out]; exact htn) HX.out hvis2
            have HG6 : Hid (w.grownBy w6 (some g)) := grownBy_trans (grownBy_trans hgr.out HS2.out) hg6
            have HV6 : Hid (Vst w6 g gr gv gh n cp lo (.slice (some ⟨fb, fo, none⟩) n fc) b c S2) := HV1.out.step hg6 h1 h2 h3 hown2
            clear hg6 hown2 hvis2 cv ch qu BD BW VD
            go_wp2_with fail
            go_roundw
            case rel => exact ⟨j + 1, by omega, by go_num, S2, HE, HV6, HG6⟩
            case measure => simp [intOf]; omega
          · have HE : Hid (Vis fs (zs.take (j + 1)) S S') := hvis.out.skip HJL.out (.inr (by rw [HZJ.out]; simpa using HX.out))
            go_wp2_with fail
            go_roundw
            case rel => exact ⟨j + 1, by omega, by go_num, S', HE, hvst, hgr⟩
            case measure => simp [intOf]; omega
      · obtain rfl : j = m := by omega
        have HE : Hid (zs.take j = zs) := List.take_of_length_le (by rw [HM.out]; exact Nat.le_refl _)
        go_wp2_with fail
        go_end0
        exact ⟨rfl, S', by rw [← HE.out]; exact hvis.out, hvst.out.own, hgr.out⟩
end Go.Proofs.Ytbmfkgfmibpkjaa
namespace Go.Proofs.Ytbmfkgfmibpkjaa
open Go.RowKit Ph

theorem rep_bools (n : Nat) : (madeCells (Value.bool false).cells (n * 1)).toList = (List.replicate n false).map Value.bool := by
  rw [Nat.mul_one, show (Value.bool false).cells = #[.bool false] from rfl, toList_madeCells_one, List.map_replicate]
theorem grownB_of {w w' : World} (h : Below w.heap.size w w') (r : Option Nat) : w.grownBy w' r := ⟨h.os, h.tape, h.output, h.size, fun i hi _ => h.block i hi⟩
set_option maxRecDepth 100000 in
set_option maxHeartbeats 3200000 in
theorem c_reachMore (W : World) (g n cp lo : Nat) (a b c v : Value) (h : H) (zs : List Int) (S : List Bool) (w : World) (hA : HeapAt W a b c h) (hG : Ph.Good h) (hz : IntsAt W v zs) (hzl : zs.length ≤ 12) (hzr : ∀ z ∈ zs, inR h.f.length z) (hB : Below W.heap.size W w) (hlo : W.heap.size ≤ g) (hn : h.f.length = n) (hSn : S.length = n) (hS : OwnBs w lo (.slice (some ⟨g, 0, none⟩) n cp) S) :
    Calls Try.prog 171 #[hv a b c, .slice (some ⟨g, 0, none⟩) n cp, v] w fun e w' => e = .returned (.tuple #[]) ∧ ∃ S', Vis h.f zs S S' ∧ OwnBs w' lo (.slice (some ⟨g, 0, none⟩) n cp) S' ∧ w.grownBy w' (some g) := by
  have hrow : ∀ i, i < h.f.length → ∀ z ∈ h.f.getD i [], inR h.f.length z := fun i _ z hz => (hG.field hz).imp id (fun h => ⟨h.1, h.2.1⟩)
  have hrl : ∀ i, i < h.f.length → (h.f.getD i []).length ≤ 3 := fun i hi => (hG.row i hi).1
  have hn1 := hG.n
  have hll := hG.ll
  obtain ⟨la, lc, rfl⟩ := hA.l.shape
  rw [hll]
  have HF := Lib.hid hA.f; have HZ := Lib.hid hz; have HR := Lib.hid hrow; have HRL := Lib.hid hrl; have HZR := Lib.hid hzr
  clear hA hG hz hrow hrl hzr hll
  subst hn
  generalize hn : h.f.length = n at *
  have HN := Lib.hid hn; clear hn
  have hgw : g < w.heap.size := (owns_lt (g := g) hS rfl).2
  have b3 := ((below1 w (.cells (c3 a (.slice la n lc) c) 32)).alloc (by simp) (.cells #[.slice (some ⟨g, 0, none⟩) n cp] 23)).alloc (by simp; omega) (.cells #[.func (.func 201) #[] #[.pointer (some ⟨w.heap.size + 1, 0, none⟩), .pointer (some ⟨w.heap.size + 1 + 1, 0, none⟩), .pointer (some ⟨w.heap.size, 0, none⟩)]] 192)
  have hV : Vst (((w.alloc (.cells (c3 a (.slice la n lc) c) 32)).alloc (.cells #[.slice (some ⟨g, 0, none⟩) n cp] 23)).alloc (.cells #[.func (.func 201) #[] #[.pointer (some ⟨w.heap.size + 1, 0, none⟩), .pointer (some ⟨w.heap.size + 1 + 1, 0, none⟩), .pointer (some ⟨w.heap.size, 0, none⟩)]] 192)) g (w.heap.size + 1) (w.heap.size + 1 + 1) w.heap.size n cp lo a (.slice la n lc) c S := ⟨OwnBs.below hS b3, (Row.new1 w (.cells (c3 a (.slice la n lc) c) 32) 23 #[.slice (some ⟨g, 0, none⟩) n cp]).alloc (.cells #[.func (.func 201) #[] #[.pointer (some ⟨w.heap.size + 1, 0, none⟩), .pointer (some ⟨w.heap.size + 1 + 1, 0, none⟩), .pointer (some ⟨w.heap.size, 0, none⟩)]] 192), Row.new2 w (.cells (c3 a (.slice la n lc) c) 32) (.cells #[.slice (some ⟨g, 0, none⟩) n cp] 23) 192 _, ((Row.new w 32 (c3 a (.slice la n lc) c)).alloc (.cells #[.slice (some ⟨g, 0, none⟩) n cp] 23)).alloc (.cells #[.func (.func 201) #[] #[.pointer (some ⟨w.heap.size + 1, 0, none⟩), .pointer (some ⟨w.heap.size + 1 + 1, 0, none⟩), .pointer (some ⟨w.heap.size, 0, none⟩)]] 192)⟩
  have VV := Lib.hid hV
  have BB := Lib.hid (bst hB b3 hB.size)
  have G3 := Lib.hid (grownB_of b3 (some g))
  have HSN := Lib.hid hSn
  have HLO := Lib.hid hlo
  clear hV hB b3 hS hlo hSn
  go_enter Try.func171, Try.ntmps171
  go_wp2_with fail
  refine (c_visit W g (w.heap.size + 1) (w.heap.size + 1 + 1) w.heap.size n cp lo a (.slice la n lc) c h.f HLO.out (by omega) (by omega) (by omega) HF.out HN.out hn1 HR.out HRL.out _ v zs S _ (Nat.le_refl _) HSN.out HZ.out hzl HZR.out BB.out VV.out).mono ?_
  rintro e w4 ⟨rfl, S', hvis, hown, hgr⟩
  have O4 := Lib.hid hown; have V4 := Lib.hid hvis; have G4 := Lib.hid (grownBy_trans G3.out hgr)
  clear hgr hown hvis
  go_wp2_with fail
  go_end0
  exact ⟨rfl, S', V4.out, O4.out, G4.out⟩
set_option maxRecDepth 100000 in
set_option maxHeartbeats 3200000 in
theorem c_reachedOver (a b c v : Value) (h : H) (zs : List Int) (w : World) (hA : HeapAt w a b c h) (hG : Ph.Good h) (hz : IntsAt w v zs) (hzl : zs.length ≤ 12) (hzr : ∀ z ∈ zs, inR h.f.length z) :
    Calls Try.prog 123 #[hv a b c, v] w fun e w' => ∃ v', e = .returned v' ∧ OwnBs w' w.heap.size v' (reachL h.f zs) ∧ Below w.heap.size w w' := by
  obtain ⟨i0, hi, hz0, hz1, hz2⟩ := info_parts info_boolz
  have hn1 := hG.n
  have hll := hG.ll
  have CM := Lib.hid (fun (g : Nat) (w' : World) (S : List Bool) hb hg hs ho => c_reachMore w g h.f.length h.f.length w.heap.size a b c v h zs S w' hA hG hz hzl hzr hb hg rfl hs ho)
  obtain ⟨la, lc, rfl⟩ := hA.l.shape
  rw [hll] at *
  have hb0 := Lib.hid (below1 w (.cells (c3 a (.slice la h.f.length lc) c) 32))
  have R0 := Lib.hid (show RowH _ _ a (.slice la h.f.length lc) c from Row.new w 32 (c3 a (.slice la h.f.length lc) c))
  have VD := Lib.hid (fun (S : List Bool) (q : Vis h.f zs (List.replicate h.f.length false) S) => q.done)
  clear hA hG hz hzr hll
  generalize h.f.length = n at *
  go_enter Try.func123, Try.ntmps123
  go_wp2_with (first
    | (at_make; refine wpList_make_full _ rfl _ _ 23 rfl w.heap.size 4 i0 (.bool false) 1 Try.underlying23 hi hz0 hz1 .i64 .i64 _ _ n rfl rfl rfl rfl (by rw [hz2]; omega) (by unfold maxLen; omega) (by simp) ?_; intro w1 hown hgr
       rw [rep_bools] at hown
       have hsz0 : (w.alloc (.cells (c3 a (.slice la n lc) c) 32)).heap.size = w.heap.size + 1 := by simp
       rw [hsz0] at hown
       have O1 : Hid (OwnBs w1 w.heap.size (.slice (some ⟨w.heap.size + 1, 0, none⟩) n n) (List.replicate n false)) := (by { unfold Hid OwnBs; rw [List.length_replicate]; exact hown })
       have B1 := Lib.hid (hb0.out.grown hgr hb0.out.size (fun k hk => by cases hk))
       have rr : RowH w1 w.heap.size a (.slice la n lc) c := Row.grown R0.out hgr
       have q0 := rr.c0; have q1 := rr.c1; have q2 := rr.c2
       clear hown hgr hsz0 rr))
  clear q0 q1 q2
  refine (CM.out (w.heap.size + 1) _ (List.replicate n false) B1.out (by omega) (by simp) O1.out).mono ?_
  rintro e w4 ⟨rfl, S', hvis, hown, hgr⟩
  have O4 := Lib.hid hown; have V4 := Lib.hid (VD.out S' hvis); have B4 := Lib.hid (B1.out.grown hgr B1.out.size (fun k hk => by cases hk; omega))
  clear hown hvis hgr
  go_wp2_with fail
  go_ret
  exact ⟨_, rfl, by rw [← V4.out]; exact O4.out, B4.out⟩
end Go.Proofs.Ytbmfkgfmibpkjaa
namespace Go.Proofs.Ytbmfkgfmibpkjaa.Ph
theorem left_rep (n : Nat) : left (List.replicate n false) = n := by unfold left; simp
end Go.Proofs.Ytbmfkgfmibpkjaa.Ph
namespace Go.Proofs.Ytbmfkgfmibpkjaa
open Go.RowKit Ph

theorem que_nil (w : World) (lo : Nat) (hlo : lo ≤ w.heap.size) : Que (w.alloc (.cells #[] 3)) lo w.heap.size 0 0 [] :=
  ⟨hlo, by simp, Nat.le_refl _, fun i hi => by simp at hi, fun i hi => by omega, fun i => by rw [Nat.zero_add]; exact Row.frozen (Row.new w 3 #[]) i⟩
set_option maxRecDepth 100000 in
set_option maxHeartbeats 6400000 in
theorem s_l5From (a b' c v : Value) (h : H) (zs : List Int) (w : World) (hA : HeapAt w a b' c h) (hG : Ph.Good h) (hz : IntsAt w v zs) (hzl : zs.length ≤ 12) (hzr : ∀ z ∈ zs, inR h.f.length z) :
    Calls Try.prog 196 #[hv a b' c, v] w fun e w' => ∃ v', e = .returned v' ∧ OwnBs w' w.heap.size v' (reachL h.f zs) ∧ Below w.heap.size w w' := by
  obtain ⟨i0, hi, hz0, hz1, hz2⟩ := info_parts info_boolz
  have hrow : ∀ i, i < h.f.length → ∀ z ∈ h.f.getD i [], inR h.f.length z := fun i _ z hz => (hG.field hz).imp id (fun h => ⟨h.1, h.2.1⟩)
  have hrl : ∀ i, i < h.f.length → (h.f.getD i []).length ≤ 3 := fun i hi => (hG.row i hi).1
  have hn1 := hG.n
  obtain ⟨fa, fc, rfl⟩ := hA.f.shape
  obtain ⟨va, vc, hva⟩ := hz.shape
  have HF := Lib.hid hA.f; have HZ := Lib.hid hz; have HR := Lib.hid hrow; have HRL := Lib.hid hrl; have HZR := Lib.hid hzr
  have HST := Lib.hid (Bfs.start h.f zs)
  clear hA hG hz hrow hrl hzr
  generalize hn : h.f.length = n at *
  have HN := Lib.hid hn; clear hn
  have HVA := Lib.hid hva
  clear hva
  have hb0 := Lib.hid (below1 w (.cells (c3 (.slice fa n fc) b' c) 32))
  have R0 := Lib.hid (show RowH _ _ (.slice fa n fc) b' c from Row.new w 32 (c3 (.slice fa n fc) b' c))
  go_enter Try.func196, Try.ntmps196
  go_wp2_with (first
    | (at_make; refine wpList_make_full _ rfl _ _ 23 rfl w.heap.size 4 i0 (.bool false) 1 Try.underlying23 hi hz0 hz1 .i64 .i64 _ _ n rfl rfl rfl rfl (by rw [hz2]; omega) (by unfold maxLen; omega) (by simp) ?_; intro w1 hown hgr
       rw [rep_bools] at hown
       have hsz0 : (w.alloc (.cells (c3 (.slice fa n fc) b' c) 32)).heap.size = w.heap.size + 1 := by simp
       rw [hsz0] at hown
       have lt1 : w.heap.size + 1 < w1.heap.size := (owns_lt hown rfl).2
       have o1 : OwnBs w1 w.heap.size (.slice (some ⟨w.heap.size + 1, 0, none⟩) n n) (List.replicate n false) := by unfold OwnBs; rw [List.length_replicate]; exact hown
       have b1 := hb0.out.grown hgr hb0.out.size (fun k hk => by cases hk)
       have O1 := Lib.hid o1; have B1 := Lib.hid b1; have R1 := Lib.hid (Row.grown R0.out hgr); have LT1 := Lib.hid lt1
       clear hown hgr hsz0 o1 b1 lt1)
    | (at_builtin; refine wl_appQ _ rfl _ _ rfl (w.heap.size + 2) w1.heap.size 0 0 [] rfl (que_nil w1 _ (by have := LT1.out; omega)) v zs rfl (HZ.out.below (bst B1.out (below1 w1 (.cells #[] 3)) (by have := LT1.out; omega))) (by have := LT1.out; simp; omega) (by simp; omega) ?_
       intro b2 o2 k2 w2 hq2 hg2
       have b2' := (bst B1.out (below1 w1 (.cells #[] 3)) (by have := LT1.out; omega)).grown hg2 (by have := LT1.out; simp; omega) (fun k hk => by cases hk; have := LT1.out; omega)
       have e2 : OwnBs w2 w.heap.size (.slice (some ⟨w.heap.size + 1, 0, none⟩) n n) (List.replicate n false) := owns_block (OwnBs.below O1.out (below1 w1 (.cells #[] 3))) (fun g hg => hg2.block g (by have := LT1.out; cases hg; simp; omega) (by have := LT1.out; cases hg; simp; omega))
       have r2 := Row.grownBy (R1.out.alloc (.cells #[] 3)) hg2 (by have := LT1.out; simp; omega)
       have Q2 := Lib.hid hq2; have B2 := Lib.hid b2'; have O2 := Lib.hid e2; have R2 := Lib.hid r2
       clear hq2 hg2 b2' e2 r2))
  rw [List.nil_append] at Q2
  clear O1 B1 R1 hb0 R0 HZ HVA
  have LTW : Hid (w.heap.size + 2 ≤ w2.heap.size) := by unfold Hid; have := Q2.out.lt; have := Q2.out.lo; omega
  go_loopg [6] (4 * n + zs.length) (fun k q wr => ∃ (b off cap : Nat) (zq : List Int) (S : List Bool), q = .slice (some ⟨b, off, none⟩) zq.length cap ∧ Hid (k = 4 * left S + zq.length) ∧ k ≤ 60 ∧ Hid (Que wr (w.heap.size + 2) b off cap zq) ∧ Hid (Bfs h.f zs zq S) ∧ Hid (∀ z ∈ zq, inR n z) ∧ Hid (OwnBs wr w.heap.size (.slice (some ⟨w.heap.size + 1, 0, none⟩) n n) S) ∧ Hid (RowH wr w.heap.size (.slice fa n fc) b' c) ∧ Hid (Below w.heap.size w wr) ∧ Hid (w.heap.size + 2 ≤ wr.heap.size))
  case atStart => exact ⟨b2, o2, k2, zs, List.replicate n false, rfl, by rw [left_rep]; exact rfl, by omega, Q2, HST, HZR, O2, R2, B2, LTW⟩
  case round =>
    obtain ⟨b, off, cap, zq, S, rfl, hgk, hg60, hq, hbf, hzq, hos, hrw, hbw, hlw⟩ := hrel
    have hSl : S.length = n := by rw [hbf.out.len, HN.out]
    cases zq with
    | nil =>
      have HE := Lib.hid hbf.out.done
      simp only [List.length_nil]
      go_wp2_with fail
      go_ret
      exact ⟨_, rfl, by rw [← HE.out]; exact hos.out, hbw.out⟩
    | cons z zq =>
      have q0 := hq.out.at' 0 (by simp)
      have hin := hzq.out z (by simp)
      have hcap := hq.out.le
      have HQ0 : Hid (cap = 1 → Que wr (w.heap.size + 2) b off (cap - 1) zq) := hq.out.tail0
      have HQ1 := Lib.hid hq.out.tail
      have HZT : Hid (∀ y ∈ zq, inR n y) := fun y hy => hzq.out y (List.mem_cons_of_mem _ hy)
      simp only [List.getD_cons_zero, Nat.add_zero] at q0
      simp only [List.length_cons] at hgk hcap ⊢
      generalize hql : zq.length = ql at *
      have HQL := Lib.hid hql
      have ipos : (0 : Int) < ((ql + 1 : Nat) : Int) := by omega
      clear hql hzq
      by_cases hc1 : cap = 1
      · subst hc1
        obtain rfl : ql = 0 := by omega
        obtain rfl : zq = [] := List.eq_nil_of_length_eq_zero HQL.out
        have HQT : Hid (Que wr (w.heap.size + 2) b off 0 []) := HQ0.out rfl
        clear HQ0 HQ1
        by_cases z0 : z < 0
        · have HS1 : Hid (Bfs h.f zs [] S) := hbf.out.skip (.inl z0)
          clear hin
          go_wp2_with fail
          go_roundg (4 * left S)
          case measure => have := hgk.out; omega
          case rel => exact ⟨b, off, 0, [], S, rfl, rfl, by have := hgk.out; omega, HQT, HS1, HZT, hos, hrw, hbw, hlw⟩
        · obtain ⟨t, rfl⟩ : ∃ t : Nat, z = t := ⟨z.toNat, by omega⟩
          have htn : t < n := by unfold inR at hin; omega
          obtain ⟨s1, s2, s3, s4⟩ := hos.out.stored hSl htn true
          have i2 : ¬ (t : Int) < 0 := by omega
          have i3 : (t : Int) < (n : Int) := by omega
          have i4 : (0 : Int) ≤ (t : Int) := by omega
          generalize hx : S.getD t false = x at *
          have HX := Lib.hid hx
          clear hin z0 hx
          cases x
          · have hls := left_set (S := S) (z := t) (by omega) HX.out
            obtain ⟨fb, fo, rfl, hcf⟩ := HF.out.at' (by omega)
            obtain ⟨u, quf, huf⟩ := hcf t htn
            have B1 : Below w.heap.size w (wr.setCell ⟨w.heap.size + 1, t, none⟩ (.bool true)) := hbw.out.setCell (p := ⟨w.heap.size + 1, t, none⟩) (by simp) (.bool true)
            have qu := cellBelow B1 (Nat.le_refl _) quf
            have U1 := Lib.hid (huf.below B1)
            have hqb := hq.out.lo
            have Q1 : Hid (Que (wr.setCell ⟨w.heap.size + 1, t, none⟩ (.bool true)) (w.heap.size + 2) b off 0 []) := HQT.out.kept s2.size (s2.block b HQT.out.lt (by simp; omega))
            have R1 : RowH (wr.setCell ⟨w.heap.size + 1, t, none⟩ (.bool true)) w.heap.size (.slice (some ⟨fb, fo, none⟩) n fc) b' c := Row.grownBy hrw.out s2 (by simp)
            have d0 := R1.c0
            have TK := Lib.hid (by have := hbf.out.take (z := t) (by rw [HN.out]; exact htn); rwa [List.nil_append] at this : Bfs h.f zs (h.f.getD t []) (S.set t true))
            have hrt := HR.out t htn
            have hlt3 := HRL.out t htn
            have HZA : Hid (∀ y ∈ h.f.getD t [], inR n y) := hrt
            have RR1 := Lib.hid R1; have BB1 := Lib.hid B1; have SS1 := Lib.hid s1; have HLS := Lib.hid hls
            have LL1 : Hid (w.heap.size + 2 ≤ (wr.setCell ⟨w.heap.size + 1, t, none⟩ (.bool true)).heap.size) := by unfold Hid; rw [World.size_setCell]; exact hlw.out
            obtain ⟨ua, uc, hu⟩ := huf.shape
            subst hu
            clear hls hcf huf quf B1 R1 s1 s2 hrt
            have HL3 := Lib.hid hlt3
            have HGT := Lib.hid (show (h.f.getD t []).length ≤ 1000000 by have := hgk.out; omega)
            generalize hrr : h.f.getD t [] = row at *
            have HRR := Lib.hid hrr
            clear hrr hlt3
            generalize hrl' : row.length = rl at *
            have HRLN := Lib.hid hrl'
            clear hrl'
            go_wp2_with (at_builtin; refine wl_appQ _ rfl _ _ rfl (w.heap.size + 2) b off 0 [] rfl Q1.out _ row rfl U1.out LL1.out (by have := HGT.out; simp only [List.length_nil, Nat.zero_add, HRLN.out]; exact this) ?_
                         intro b3 o3 k3 w3 hq3 hg3
                         have f1 : Hid (Que w3 (w.heap.size + 2) b3 o3 k3 row) := (by rw [List.nil_append] at hq3; exact hq3)
                         have f2 := Lib.hid (BB1.out.grown hg3 (by have := LL1.out; omega) (fun k hk => by cases hk; omega))
                         have f3 : Hid (OwnBs w3 w.heap.size (.slice (some ⟨w.heap.size + 1, 0, none⟩) n n) (S.set t true)) := owns_block SS1.out (fun g hg => hg3.block g (owns_lt SS1.out hg).2 (by cases hg; simp; omega))
                         have f4 : Hid (RowH w3 w.heap.size (.slice (some ⟨fb, fo, none⟩) n fc) b' c) := Row.grownBy RR1.out hg3 (by simp; omega)
                         have f5 : Hid (w.heap.size + 2 ≤ w3.heap.size) := Nat.le_trans LL1.out hg3.size
                         clear hq3 hg3)
            go_roundg (4 * left (S.set t true) + (row).length)
            case measure => rw [HRLN.out]; have := hgk.out; have := HLS.out; have := HL3.out; omega
            case rel => exact ⟨b3, o3, k3, row, S.set t true, rfl, rfl, by rw [HRLN.out]; have := hgk.out; have := HLS.out; have := HL3.out; omega, f1, TK, HZA, f3, f4, f2, f5⟩
          · have HS1 : Hid (Bfs h.f zs [] S) := hbf.out.skip (.inr (by simpa using HX.out))
            go_wp2_with fail
            go_roundg (4 * left S)
            case measure => have := hgk.out; omega
            case rel => exact ⟨b, off, 0, [], S, rfl, rfl, by have := hgk.out; omega, HQT, HS1, HZT, hos, hrw, hbw, hlw⟩
      · have HQT := HQ1
        clear HQ0 HQ1
        by_cases z0 : z < 0
        · have HS1 : Hid (Bfs h.f zs zq S) := hbf.out.skip (.inl z0)
          clear hin
          go_wp2_with fail
          go_roundg (4 * left S + ql)
          case measure => have := hgk.out; omega
          case rel => exact ⟨b, off + 1, cap - 1, zq, S, by simp [HQL.out], by rw [HQL.out]; exact rfl, by have := hgk.out; omega, HQT, HS1, HZT, hos, hrw, hbw, hlw⟩
        · obtain ⟨t, rfl⟩ : ∃ t : Nat, z = t := ⟨z.toNat, by omega⟩
          have htn : t < n := by unfold inR at hin; omega
          obtain ⟨s1, s2, s3, s4⟩ := hos.out.stored hSl htn true
          have i2 : ¬ (t : Int) < 0 := by omega
          have i3 : (t : Int) < (n : Int) := by omega
          have i4 : (0 : Int) ≤ (t : Int) := by omega
          generalize hx : S.getD t false = x at *
          have HX := Lib.hid hx
          clear hin z0 hx
          cases x
          · have hls := left_set (S := S) (z := t) (by omega) HX.out
            obtain ⟨fb, fo, rfl, hcf⟩ := HF.out.at' (by omega)
            obtain ⟨u, quf, huf⟩ := hcf t htn
            have B1 : Below w.heap.size w (wr.setCell ⟨w.heap.size + 1, t, none⟩ (.bool true)) := hbw.out.setCell (p := ⟨w.heap.size + 1, t, none⟩) (by simp) (.bool true)
            have qu := cellBelow B1 (Nat.le_refl _) quf
            have U1 := Lib.hid (huf.below B1)
            have hqb := hq.out.lo
            have Q1 : Hid (Que (wr.setCell ⟨w.heap.size + 1, t, none⟩ (.bool true)) (w.heap.size + 2) b (off + 1) (cap - 1) zq) := HQT.out.kept s2.size (s2.block b HQT.out.lt (by simp; omega))
            have R1 : RowH (wr.setCell ⟨w.heap.size + 1, t, none⟩ (.bool true)) w.heap.size (.slice (some ⟨fb, fo, none⟩) n fc) b' c := Row.grownBy hrw.out s2 (by simp)
            have d0 := R1.c0
            have TK := Lib.hid (hbf.out.take (z := t) (by rw [HN.out]; exact htn))
            have hrt := HR.out t htn
            have hlt3 := HRL.out t htn
            have HZA : Hid (∀ y ∈ zq ++ h.f.getD t [], inR n y) := fun y hy => (List.mem_append.1 hy).elim (HZT.out y) (hrt y)
            have RR1 := Lib.hid R1; have BB1 := Lib.hid B1; have SS1 := Lib.hid s1; have HLS := Lib.hid hls
            have LL1 : Hid (w.heap.size + 2 ≤ (wr.setCell ⟨w.heap.size + 1, t, none⟩ (.bool true)).heap.size) := by unfold Hid; rw [World.size_setCell]; exact hlw.out
            obtain ⟨ua, uc, hu⟩ := huf.shape
            subst hu
            clear hls hcf huf quf B1 R1 s1 s2 hrt
            have HL3 := Lib.hid hlt3
            have HGT := Lib.hid (show zq.length + (h.f.getD t []).length ≤ 1000000 by rw [HQL.out]; have := hgk.out; omega)
            generalize hrr : h.f.getD t [] = row at *
            have HRR := Lib.hid hrr
            clear hrr hlt3
            generalize hrl' : row.length = rl at *
            have HRLN := Lib.hid hrl'
            clear hrl'
            go_wp2_with (at_builtin; refine wl_appQ _ rfl _ _ rfl (w.heap.size + 2) b (off + 1) (cap - 1) zq (by first | (rw [HQL.out]; rfl) | (simp [HQL.out])) Q1.out _ row rfl U1.out LL1.out (by rw [HRLN.out]; exact HGT.out) ?_
                         intro b3 o3 k3 w3 hq3 hg3
                         have f1 := Lib.hid hq3; have f2 := Lib.hid (BB1.out.grown hg3 (by have := LL1.out; omega) (fun k hk => by cases hk; omega))
                         have f3 : Hid (OwnBs w3 w.heap.size (.slice (some ⟨w.heap.size + 1, 0, none⟩) n n) (S.set t true)) := owns_block SS1.out (fun g hg => hg3.block g (owns_lt SS1.out hg).2 (by cases hg; simp; omega))
                         have f4 : Hid (RowH w3 w.heap.size (.slice (some ⟨fb, fo, none⟩) n fc) b' c) := Row.grownBy RR1.out hg3 (by simp; omega)
                         have f5 : Hid (w.heap.size + 2 ≤ w3.heap.size) := Nat.le_trans LL1.out hg3.size
                         clear hq3 hg3)
            go_roundg (4 * left (S.set t true) + (zq ++ row).length)
            case measure => rw [List.length_append, HQL.out, HRLN.out]; have := hgk.out; have := HLS.out; have := HL3.out; omega
            case rel => exact ⟨b3, o3, k3, zq ++ row, S.set t true, by rw [List.length_append], rfl, by rw [List.length_append, HQL.out, HRLN.out]; have := hgk.out; have := HLS.out; have := HL3.out; omega, f1, TK, HZA, f3, f4, f2, f5⟩
          · have HS1 : Hid (Bfs h.f zs zq S) := hbf.out.skip (.inr (by simpa using HX.out))
            go_wp2_with fail
            go_roundg (4 * left S + ql)
            case measure => have := hgk.out; omega
            case rel => exact ⟨b, off + 1, cap - 1, zq, S, by simp [HQL.out], by rw [HQL.out]; exact rfl, by have := hgk.out; omega, HQT, HS1, HZT, hos, hrw, hbw, hlw⟩
end Go.Proofs.Ytbmfkgfmibpkjaa
namespace Go.Proofs.Ytbmfkgfmibpkjaa.Ph
def inB (lo hi z : Int) : Bool := decide (lo ≤ z) && decide (z ≤ hi)
theorem inAll_take_succ {lo hi : Int} {zs : List Int} {k : Nat} (h : k < zs.length) : (zs.take (k + 1)).all (inB lo hi) = ((zs.take k).all (inB lo hi) && inB lo hi (zs.getD k 0)) := by
  have e : zs.getD k 0 = zs[k] := by simp [List.getD, List.getElem?_eq_getElem h]
  rw [List.take_succ_eq_append_getElem h, List.all_append, e]; simp
theorem inAll_false {lo hi : Int} {zs : List Int} {k : Nat} (h : k < zs.length) (hn : inB lo hi (zs.getD k 0) = false) : zs.all (inB lo hi) = false := by
  cases hq : zs.all (inB lo hi) with
  | false => rfl
  | true =>
    have e : zs.getD k 0 = zs[k] := by simp [List.getD, List.getElem?_eq_getElem h]
    have := (List.all_eq_true.1 hq) zs[k] (List.getElem_mem h)
    rw [e] at hn; rw [hn] at this; cases this
end Go.Proofs.Ytbmfkgfmibpkjaa.Ph
namespace Go.Proofs.Ytbmfkgfmibpkjaa
open Go.RowKit Ph

set_option maxHeartbeats 1600000 in
theorem s_l5Reached (a b c : Value) (h : H) (w : World) (hA : HeapAt w a b c h) (hG : Ph.Good h) : Calls Try.prog 165 #[hv a b c] w fun e w' => ∃ v', e = .returned v' ∧ OwnBs w' w.heap.size v' (reachL h.f h.r) ∧ Below w.heap.size w w' := by
  have hb0 := below1 w (.cells (c3 a b c) 32)
  have A0 := Lib.hid (hA.below hb0)
  have HB := Lib.hid hb0; have G := Lib.hid hG
  have R0 := Lib.hid (show RowH _ _ a b c from Row.new w 32 (c3 a b c))
  clear hA hb0 hG
  have c0 := R0.out.c0
  have c1 := R0.out.c1
  have c2 := R0.out.c2
  go_enter Try.func165, Try.ntmps165
  go_wp2_with fail
  refine (s_l5From a b c c h h.r _ A0.out G.out A0.out.r (by have := G.out.rn; omega) (fun z hz => (refs_bound G.out G.out.rr z hz).imp id (fun h => ⟨h.1, h.2.1⟩))).mono ?_
  rintro e w2 ⟨v', rfl, ho2, hb2⟩
  have B2 := Lib.hid (bst HB.out hb2 HB.out.size); have O2 := Lib.hid (show OwnBs w2 w.heap.size v' (reachL h.f h.r) from owns_mono ho2 fun g hg => Nat.le_trans HB.out.size (owns_lt ho2 hg).1)
  clear hb2 ho2
  go_wp2_with fail
  go_ret
  exact ⟨_, rfl, O2.out, B2.out⟩
end Go.Proofs.Ytbmfkgfmibpkjaa
namespace Go.Proofs.Ytbmfkgfmibpkjaa.Ph

/-- Every colour is White (0), Grey (1) or Black (2). -/
def Col (cs : List Int) : Prop := ∀ i, 0 ≤ cs.getD i 0 ∧ cs.getD i 0 ≤ 2
def colsB (cs : List Int) : Bool := decide (cs.length ≤ 12) && cs.all (inB 0 2)
theorem getD_memI {zs : List Int} {i : Nat} (h : i < zs.length) : zs.getD i 0 ∈ zs := by
  have e : zs.getD i 0 = zs[i] := by simp [List.getD, List.getElem?_eq_getElem h]
  rw [e]; exact List.getElem_mem h
theorem getD_outI {zs : List Int} {i : Nat} (h : ¬ i < zs.length) : zs.getD i 0 = 0 := by simp [List.getD, List.getElem?_eq_none (Nat.le_of_not_lt h)]
theorem colsB_iff {cs : List Int} : colsB cs = true ↔ cs.length ≤ 12 ∧ Col cs := by
  unfold colsB
  rw [Bool.and_eq_true, decide_eq_true_eq, List.all_eq_true]
  refine and_congr_right fun _ => ⟨fun h i => ?_, fun h z hz => ?_⟩
  · by_cases e : i < cs.length
    · have := h _ (getD_memI e)
      simp only [inB, Bool.and_eq_true, decide_eq_true_eq] at this
      exact this
    · rw [getD_outI e]; omega
  · obtain ⟨i, hi, rfl⟩ := List.getElem_of_mem hz
    have := h i
    have e : cs.getD i 0 = cs[i] := by simp [List.getD, List.getElem?_eq_getElem hi]
    rw [e] at this
    simp only [inB, Bool.and_eq_true, decide_eq_true_eq]
    exact this
theorem getD_setI {zs : List Int} {i j : Nat} {x : Int} (hi : i < zs.length) : (zs.set i x).getD j 0 = if j = i then x else zs.getD j 0 := by
  by_cases e : j = i
  · subst e; simp [List.getD, hi]
  · rw [if_neg e]
    simp only [List.getD]
    rw [List.getElem?_set_ne (Ne.symm e)]
theorem set_outI {zs : List Int} {i : Nat} {x : Int} (hi : ¬ i < zs.length) : zs.set i x = zs := List.set_eq_of_length_le (by omega)
theorem set_getDI {zs : List Int} {i : Nat} : zs.set i (zs.getD i 0) = zs := by
  by_cases hi : i < zs.length
  · have e : zs.getD i 0 = zs[i] := by simp [List.getD, List.getElem?_eq_getElem hi]
    rw [e]; exact List.set_getElem_self hi
  · exact set_outI hi
theorem Col.set {cs : List Int} (h : Col cs) (k : Nat) {x : Int} (h0 : 0 ≤ x) (h2 : x ≤ 2) : Col (cs.set k x) := by
  intro i
  by_cases hk : k < cs.length
  · rw [getD_setI hk]
    by_cases e : i = k
    · rw [if_pos e]; exact ⟨h0, h2⟩
    · rw [if_neg e]; exact h i
  · rw [set_outI hk]; exact h i

/-- The object z shaded. -/
def shade (cs : List Int) (z : Int) : List Int := if 0 ≤ z ∧ cs.getD z.toNat 0 = 0 then cs.set z.toNat 1 else cs
theorem shade_len (cs : List Int) (z : Int) : (shade cs z).length = cs.length := by unfold shade; split <;> simp
theorem shade_neg {cs : List Int} {z : Int} (h : z < 0) : shade cs z = cs := by unfold shade; rw [if_neg (by omega)]
theorem Col.shade {cs : List Int} (h : Col cs) (z : Int) : Col (shade cs z) := by
  unfold Ph.shade
  split
  · exact h.set _ (by omega) (by omega)
  · exact h
theorem shade_nat (cs : List Int) (k : Nat) : shade cs (k : Int) = if cs.getD k 0 = 0 then cs.set k 1 else cs := by
  unfold shade
  simp
theorem shade_max {cs : List Int} {k : Nat} (hc : Col cs) : cs.set k (max (cs.getD k 0) 1) = shade cs (k : Int) := by
  rw [shade_nat]
  by_cases e : cs.getD k 0 = 0
  · rw [if_pos e, e]; rfl
  · rw [if_neg e]
    have := hc k
    rw [Int.max_eq_left (by omega)]
    exact set_getDI
/-- The objects zs shaded, one after another. -/
def shades (cs zs : List Int) : List Int := zs.foldl shade cs
theorem shades_nil (cs : List Int) : shades cs [] = cs := rfl
theorem shades_cons (cs zs : List Int) (z : Int) : shades cs (z :: zs) = shades (shade cs z) zs := rfl
theorem shades_take_succ {cs zs : List Int} {k : Nat} (h : k < zs.length) : shades cs (zs.take (k + 1)) = shade (shades cs (zs.take k)) (zs.getD k 0) := by
  have e : zs.getD k 0 = zs[k] := by simp [List.getD, List.getElem?_eq_getElem h]
  unfold shades
  rw [List.take_succ_eq_append_getElem h, List.foldl_append, e]; rfl
theorem shades_len (zs : List Int) : ∀ cs : List Int, (shades cs zs).length = cs.length := by
  induction zs with
  | nil => exact fun cs => rfl
  | cons z zs ih => exact fun cs => by rw [shades_cons, ih, shade_len]
theorem Col.shades {zs : List Int} : ∀ {cs : List Int}, Col cs → Col (shades cs zs) := by
  induction zs with
  | nil => exact fun h => h
  | cons z zs ih => exact fun h => ih (h.shade z)
theorem Col.rep (n : Nat) : Col (List.replicate n 0) := by
  intro i
  by_cases h : i < n
  · have : (List.replicate n (0 : Int)).getD i 0 = 0 := by simp [List.getD, h]
    rw [this]; omega
  · rw [getD_outI (by simpa using h)]; omega
/-- A Grey object scanned: it is Black, and what its fields name is shaded. -/
def scan (cs zs : List Int) (k : Nat) : List Int := shades (cs.set k 2) zs
theorem shade_set {cs : List Int} {k : Nat} (h0 : cs.getD k 0 ≠ 0) (z : Int) : (shade cs z).set k 2 = shade (cs.set k 2) z := by
  have hk : k < cs.length := by
    by_cases e : k < cs.length
    · exact e
    · exact absurd (getD_outI e) h0
  unfold shade
  by_cases hz : 0 ≤ z
  · by_cases e : z.toNat = k
    · rw [e, getD_setI hk, if_pos rfl, if_neg (fun h => h0 h.2), if_neg (by omega)]
    · rw [getD_setI hk, if_neg e]
      by_cases hc : cs.getD z.toNat 0 = 0
      · rw [if_pos ⟨hz, hc⟩, if_pos ⟨hz, hc⟩, List.set_comm _ _ (Ne.symm e)]
      · rw [if_neg (fun h => hc h.2), if_neg (fun h => hc h.2)]
  · rw [if_neg (fun h => hz h.1), if_neg (fun h => hz h.1)]
theorem shade_keeps {cs : List Int} {k : Nat} (h0 : cs.getD k 0 ≠ 0) (z : Int) : (shade cs z).getD k 0 = cs.getD k 0 := by
  unfold shade
  split
  · next h =>
    by_cases e : z.toNat < cs.length
    · rw [getD_setI e, if_neg (fun hh => h0 (by rw [hh]; exact h.2))]
    · rw [set_outI e]
  · rfl
theorem shades_keeps {k : Nat} (zs : List Int) : ∀ {cs : List Int}, cs.getD k 0 ≠ 0 → (shades cs zs).getD k 0 = cs.getD k 0 := by
  induction zs with
  | nil => exact fun _ => rfl
  | cons z zs ih => exact fun h => by rw [shades_cons, ih (by rw [shade_keeps h]; exact h), shade_keeps h]
theorem scan_eq {k : Nat} (zs : List Int) : ∀ {cs : List Int}, cs.getD k 0 ≠ 0 → (shades cs zs).set k 2 = scan cs zs k := by
  induction zs with
  | nil => exact fun _ => rfl
  | cons z zs ih =>
    intro cs h
    rw [shades_cons, ih (by rw [shade_keeps h]; exact h)]
    unfold scan
    rw [shades_cons, shade_set h]
theorem scan_len (cs zs : List Int) (k : Nat) : (scan cs zs k).length = cs.length := by unfold scan; rw [shades_len]; simp
theorem Col.scan {cs : List Int} (h : Col cs) (zs : List Int) (k : Nat) : Col (scan cs zs k) := (h.set k (by omega) (by omega)).shades

/-- The objects of the colour c, in order. -/
def ofTo (cs : List Int) (c : Int) (n : Nat) : List Int := ((List.range n).filter fun i => decide (cs.getD i 0 = c)).map fun i : Nat => (i : Int)
def ofC (cs : List Int) (c : Int) : List Int := ofTo cs c cs.length
theorem ofTo_zero (cs : List Int) (c : Int) : ofTo cs c 0 = [] := rfl
theorem ofTo_succ_yes {cs : List Int} {c : Int} {n : Nat} (h : cs.getD n 0 = c) : ofTo cs c (n + 1) = ofTo cs c n ++ [(n : Int)] := by
  unfold ofTo
  rw [List.range_succ, List.filter_append, List.map_append, List.filter_cons_of_pos (by simpa using h)]; rfl
theorem ofTo_succ_no {cs : List Int} {c : Int} {n : Nat} (h : ¬ cs.getD n 0 = c) : ofTo cs c (n + 1) = ofTo cs c n := by
  unfold ofTo
  rw [List.range_succ, List.filter_append, List.map_append, List.filter_cons_of_neg (by simpa using h)]; simp
theorem ofTo_len (cs : List Int) (c : Int) (n : Nat) : (ofTo cs c n).length ≤ n := by
  unfold ofTo
  rw [List.length_map]
  refine Nat.le_trans (List.length_filter_le _ _) ?_
  simp
theorem mem_ofC {cs : List Int} {c z : Int} : z ∈ ofC cs c ↔ ∃ i, i < cs.length ∧ cs.getD i 0 = c ∧ z = i := by
  unfold ofC ofTo
  simp only [List.mem_map, List.mem_filter, List.mem_range, decide_eq_true_eq]
  constructor
  · rintro ⟨i, ⟨h1, h2⟩, rfl⟩; exact ⟨i, h1, h2, rfl⟩
  · rintro ⟨i, h1, h2, rfl⟩; exact ⟨i, ⟨h1, h2⟩, rfl⟩
def hasB (cs : List Int) (k : Int) : Bool := decide (0 ≤ k) && decide (k < cs.length)
def bothB (h : H) (cs : List Int) : Bool := good h && decide (cs.length = h.l.length) && colsB cs
theorem bothB_iff {h : H} {cs : List Int} : bothB h cs = true ↔ Good h ∧ cs.length = h.f.length ∧ Col cs := by
  unfold bothB
  rw [Bool.and_eq_true, Bool.and_eq_true, decide_eq_true_eq, good_iff, colsB_iff]
  constructor
  · rintro ⟨⟨g, e⟩, _, c⟩; exact ⟨g, by rw [e, g.ll], c⟩
  · rintro ⟨g, e, c⟩; exact ⟨⟨g, by rw [e, g.ll]⟩, by rw [e]; exact g.n, c⟩
def scanOk (h : H) (cs : List Int) (k : Int) : Bool := bothB h cs && hasB cs k && decide (cs.getD k.toNat 0 = 1)
def scanR (h : H) (cs : List Int) (k : Int) : List Int := if scanOk h cs k = true then scan cs (h.f.getD k.toNat []) k.toNat else []
def startC (h : H) : List Int := shades (List.replicate h.f.length 0) h.r
def startR (h : H) : List Int := if good h = true then startC h else []
end Go.Proofs.Ytbmfkgfmibpkjaa.Ph
namespace Go.Proofs.Ytbmfkgfmibpkjaa.Ph

theorem shade_get (cs : List Int) (z : Int) (i : Nat) : (shade cs z).getD i 0 = if cs.getD i 0 = 0 ∧ i < cs.length ∧ z = i then 1 else cs.getD i 0 := by
  unfold shade
  by_cases h : 0 ≤ z ∧ cs.getD z.toNat 0 = 0
  · rw [if_pos h]
    by_cases e : z.toNat < cs.length
    · rw [getD_setI e]
      by_cases ei : i = z.toNat
      · subst ei
        rw [if_pos rfl, if_pos ⟨h.2, e, by omega⟩]
      · rw [if_neg ei, if_neg (fun k => ei (by omega))]
    · rw [set_outI e, if_neg (fun k => e (by omega))]
  · rw [if_neg h, if_neg]
    rintro ⟨h1, _, rfl⟩
    exact h ⟨by omega, by simpa using h1⟩
theorem shades_get (i : Nat) (zs : List Int) : ∀ cs : List Int, (shades cs zs).getD i 0 = if cs.getD i 0 = 0 ∧ i < cs.length ∧ (i : Int) ∈ zs then 1 else cs.getD i 0 := by
  induction zs with
  | nil => exact fun cs => by rw [shades_nil, if_neg (by simp)]
  | cons z zs ih =>
    intro cs
    rw [shades_cons, ih, shade_len]
    by_cases h1 : cs.getD i 0 = 0 ∧ i < cs.length
    · by_cases h2 : z = (i : Int)
      · have e : (shade cs z).getD i 0 = 1 := by rw [shade_get, if_pos ⟨h1.1, h1.2, h2⟩]
        rw [e, if_neg (by omega), if_pos ⟨h1.1, h1.2, by rw [h2]; exact List.mem_cons_self⟩]
      · have e : (shade cs z).getD i 0 = cs.getD i 0 := by rw [shade_get, if_neg (fun k => h2 k.2.2)]
        rw [e]
        by_cases h3 : (i : Int) ∈ zs
        · rw [if_pos ⟨h1.1, h1.2, h3⟩, if_pos ⟨h1.1, h1.2, List.mem_cons_of_mem _ h3⟩]
        · rw [if_neg (fun k => h3 k.2.2), if_neg]
          rintro ⟨_, _, k⟩
          rcases List.mem_cons.1 k with k | k
          · exact h2 k.symm
          · exact h3 k
    · have e : (shade cs z).getD i 0 = cs.getD i 0 := by rw [shade_get, if_neg (fun k => h1 ⟨k.1, k.2.1⟩)]
      rw [e, if_neg (fun k => h1 ⟨k.1, k.2.1⟩), if_neg (fun k => h1 ⟨k.1, k.2.1⟩)]
/-- How many objects below n are Black. -/
def blk (cs : List Int) (n : Nat) : Nat := (List.range n).countP fun i => decide (cs.getD i 0 = 2)
theorem blk_succ (cs : List Int) (n : Nat) : blk cs (n + 1) = blk cs n + if cs.getD n 0 = 2 then 1 else 0 := by
  unfold blk
  rw [List.range_succ, List.countP_append]
  rw [List.countP_singleton]
  by_cases h : cs.getD n 0 = 2
  · rw [if_pos h, if_pos (by simpa using h)]
  · rw [if_neg h, if_neg (by simpa using h)]
structure Mk (h : H) (cs : List Int) (n : Nat) : Prop where
  col : Col cs
  len : cs.length = h.f.length
  rch : ∀ i, cs.getD i 0 ≠ 0 → Reach h.f h.r i
  root : ∀ i : Nat, (i : Int) ∈ h.r → cs.getD i 0 ≠ 0
  snd : ∀ i, cs.getD i 0 = 2 → ∀ j : Nat, (j : Int) ∈ h.f.getD i [] → cs.getD j 0 ≠ 0
  cnt : n = blk cs h.f.length
theorem Good.rootIn {h : H} (g : Good h) {i : Nat} (hi : (i : Int) ∈ h.r) : i < h.f.length := by
  rcases refs_bound g g.rr _ hi with e | ⟨_, e, _⟩ <;> omega
theorem rep_get (n i : Nat) : (List.replicate n (0 : Int)).getD i 0 = 0 := by
  by_cases h : i < n
  · simp [List.getD, h]
  · exact getD_outI (by simpa using h)
theorem Mk.start {h : H} (g : Good h) : Mk h (startC h) 0 := by
  have get : ∀ i, (startC h).getD i 0 = if (i < h.f.length ∧ (i : Int) ∈ h.r) then 1 else 0 := fun i => by
    unfold startC
    rw [shades_get, rep_get, List.length_replicate]
    simp only [true_and]
  refine ⟨(Col.rep _).shades, by unfold startC; rw [shades_len, List.length_replicate], fun i hi => ?_, fun i hi => ?_, fun i hi => ?_, ?_⟩
  · rw [get] at hi
    by_cases e : i < h.f.length ∧ (i : Int) ∈ h.r
    · exact .root e.2
    · rw [if_neg e] at hi; exact absurd rfl hi
  · rw [get, if_pos ⟨g.rootIn hi, hi⟩]; omega
  · rw [get] at hi; split at hi <;> omega
  · have : ∀ n, blk (startC h) n = 0 := fun n => by
      induction n with
      | zero => rfl
      | succ n ih => rw [blk_succ, ih, if_neg]; rw [get]; split <;> omega
    rw [this]
end Go.Proofs.Ytbmfkgfmibpkjaa.Ph
namespace Go.Proofs.Ytbmfkgfmibpkjaa
open Go.RowKit Ph

/-- One row moves, or changes where it lies. -/
theorem Fam.turn {w w' : World} {lo hi n : Nat} {T : Nat → TypeId} {v : Nat → Value} {cs : Nat → List Value} (h : Fam w lo hi n T v cs) {k : Nat} (hk : k < n) {u : Value} {ds : List Value} (hg : w.grownBy w' (v k).ownBlock) (ho : w'.ownsRow lo (T k) 1 u ds.length ds) {hi' : Nat} (hh : hi ≤ hi') (hu : ∀ g, u.ownBlock = some g → (hi ≤ g ∧ g < hi') ∨ (v k).ownBlock = some g) : Fam w' lo hi' n T (upd v k u) (upd cs k ds) := by
  have far : ∀ j, j < n → j ≠ k → ∀ g, u.ownBlock = some g → (v j).ownBlock ≠ some g := fun j hj e g hg hjg => by
    rcases hu g hg with h1 | h1
    · have := h.lt j hj g hjg; omega
    · rcases h.ap j k hj hk e with h2 | h2
      · rw [h2] at hjg; cases hjg
      · exact h2 (by rw [hjg, h1])
  refine ⟨fun j hj => ?_, fun j hj g hg => ?_, fun i j hi hj hij => ?_⟩
  · by_cases e : j = k
    · subst e; rw [upd_same, upd_same]; exact ho
    · rw [upd_other _ _ e, upd_other _ _ e]
      refine owns_block (h.own j hj) fun g hjg => hg.block g (owns_lt (h.own j hj) hjg).2 fun e2 => ?_
      rcases h.ap j k hj hk e with h1 | h1
      · rw [hjg] at h1; cases h1
      · exact h1 (by rw [hjg, ← e2])
  · by_cases e : j = k
    · subst e; rw [upd_same] at hg
      rcases hu g hg with h1 | h1
      · exact h1.2
      · have := h.lt j hj g h1; omega
    · rw [upd_other _ _ e] at hg; have := h.lt j hj g hg; omega
  · by_cases e : i = k
    · have e' : j ≠ k := fun h => hij (by omega)
      subst e; rw [upd_same, upd_other _ _ e']
      cases hq : u.ownBlock with
      | none => exact .inl rfl
      | some g => exact .inr fun e2 => far j hj e' g hq e2.symm
    · by_cases e' : j = k
      · subst e'; rw [upd_same, upd_other _ _ e]
        cases hq : (v i).ownBlock with
        | none => exact .inl rfl
        | some g => exact .inr fun e2 => far i hi e g e2.symm hq
      · rw [upd_other _ _ e, upd_other _ _ e']; exact h.ap i j hi hj hij
theorem FamH.turnLive {w w' : World} {lo hi hi' : Nat} {a b b' c : Value} {us : Nat → Value} {h : H} (k : FamH w lo hi a b c us h) {bs : List Bool} (hg : w.grownBy w' b.ownBlock) (ho : OwnBs w' lo b' bs) (hh : hi ≤ hi') (hu : ∀ g, b'.ownBlock = some g → (hi ≤ g ∧ g < hi') ∨ b.ownBlock = some g) : FamH w' lo hi' a b' c us ⟨h.f, bs, h.r⟩ := by
  have := Fam.turn k (k := 1) (by omega) (u := b') (ds := bs.map Value.bool) hg (by simp only [tyH, List.length_map]; exact ho) hh hu
  refine this.congr (fun j hj => ?_) fun j hj => ?_
  · match j with
    | 0 => rw [upd_other _ _ (by omega)]; rfl
    | 1 => rw [upd_same]; rfl
    | 2 => rw [upd_other _ _ (by omega)]; rfl
    | j + 3 => rw [upd_other _ _ (by omega)]; rfl
  · match j with
    | 0 => rw [upd_other _ _ (by omega)]; rfl
    | 1 => rw [upd_same]; rfl
    | 2 => rw [upd_other _ _ (by omega)]; rfl
    | j + 3 => rw [upd_other _ _ (by omega)]; rfl
theorem FamH.turnRoots {w w' : World} {lo hi hi' : Nat} {a b c c' : Value} {us : Nat → Value} {h : H} (k : FamH w lo hi a b c us h) {zs : List Int} (hg : w.grownBy w' c.ownBlock) (ho : Own w' lo c' zs) (hh : hi ≤ hi') (hu : ∀ g, c'.ownBlock = some g → (hi ≤ g ∧ g < hi') ∨ c.ownBlock = some g) : FamH w' lo hi' a b c' us ⟨h.f, h.l, zs⟩ := by
  have := Fam.turn k (k := 2) (by omega) (u := c') (ds := zs.map (Value.int .i64)) hg (by simp only [tyH, List.length_map]; exact ho) hh hu
  refine this.congr (fun j hj => ?_) fun j hj => ?_
  · match j with
    | 0 => rw [upd_other _ _ (by omega)]; rfl
    | 1 => rw [upd_other _ _ (by omega)]; rfl
    | 2 => rw [upd_same]; rfl
    | j + 3 => rw [upd_other _ _ (by omega)]; rfl
  · match j with
    | 0 => rw [upd_other _ _ (by omega)]; rfl
    | 1 => rw [upd_other _ _ (by omega)]; rfl
    | 2 => rw [upd_same]; rfl
    | j + 3 => rw [upd_other _ _ (by omega)]; rfl
/-- One row more behind all: the outer list grows. -/
theorem FamH.growRow {w w' : World} {lo hi hi1 hi' : Nat} {a a' b c u : Value} {us : Nat → Value} {h : H} (k : FamH w lo hi a b c us h) {zs : List Int} (ho : Own w lo u zs) (hu : ∀ g, u.ownBlock = some g → hi ≤ g ∧ g < hi1) (hh : hi ≤ hi1) (hg : w.grownBy w' a.ownBlock)
    (hou : w'.ownsRow lo 24 1 a' (h.f.length + 1) ((List.range h.f.length).map us ++ [u])) (hh' : hi1 ≤ hi') (ha : ∀ g, a'.ownBlock = some g → (hi1 ≤ g ∧ g < hi') ∨ a.ownBlock = some g) :
    FamH w' lo hi' a' b c (upd us h.f.length u) ⟨h.f ++ [zs], h.l, h.r⟩ := by
  have k1 := Fam.grow k (u := u) (ds := zs.map (Value.int .i64)) (by simp only [tyH, List.length_map]; exact ho) hh hu
  have k2 := Fam.turn k1 (k := 0) (by omega) (u := a') (ds := (List.range h.f.length).map us ++ [u]) (w' := w') (by rw [upd_other _ _ (by omega)]; exact hg) (by simp only [tyH, List.length_append, List.length_map, List.length_range, List.length_singleton]; exact hou) hh' (by rw [upd_other _ _ (by omega)]; exact ha)
  unfold FamH
  have e : (h.f ++ [zs]).length + 3 = h.f.length + 3 + 1 := by simp
  rw [e]
  refine k2.congr (fun j hj => ?_) fun j hj => ?_
  · match j with
    | 0 => rw [upd_same]; rfl
    | 1 => rw [upd_other _ _ (by omega), upd_other _ _ (by omega)]; rfl
    | 2 => rw [upd_other _ _ (by omega), upd_other _ _ (by omega)]; rfl
    | j + 3 =>
      rw [upd_other _ _ (by omega)]
      by_cases e : j = h.f.length
      · subst e; rw [upd_same]; simp only [vH]; rw [upd_same]
      · rw [upd_other _ _ (by omega)]; simp only [vH]; rw [upd_other _ _ e]
  · match j with
    | 0 =>
      rw [upd_same]; simp only [cH, List.length_append, List.length_singleton]
      rw [List.range_succ, List.map_append]
      congr 1
      · exact List.map_congr_left fun x hx => by have : x < h.f.length := by simpa using hx
                                                 rw [upd_other _ _ (by omega)]
      · simp [upd]
    | 1 => rw [upd_other _ _ (by omega), upd_other _ _ (by omega)]; rfl
    | 2 => rw [upd_other _ _ (by omega), upd_other _ _ (by omega)]; rfl
    | j + 3 =>
      rw [upd_other _ _ (by omega)]
      by_cases e : j = h.f.length
      · subst e; rw [upd_same]; simp [cH]
      · rw [upd_other _ _ (by omega)]; simp only [cH]
        have : j < h.f.length := by omega
        simp [List.getD, List.getElem?_append_left this]
/-- A variable that holds a heap lies in none of the lists' blocks. -/
theorem owns_ne_row {w : World} {B g : Nat} {T : TypeId} {v : Value} {n : Nat} {xs : List Value} {cs : Array Value} (h : w.ownsRow B T 1 v n xs) (hr : Row w g 32 cs) (hT : T ≠ 32) {g' : Nat} (hg : v.ownBlock = some g') : g' ≠ g := by
  intro e
  subst e
  rcases h.2 with ⟨rfl, _⟩ | ⟨g2, cap, cur, rfl, _, h2, _⟩
  · cases hg
  · cases hg
    unfold Row at hr
    rw [h2] at hr
    simp only [Option.some.injEq, Obj.cells.injEq] at hr
    exact hT hr.2.1
theorem tyH_ne (k : Nat) : tyH k ≠ 32 := by
  match k with
  | 0 => exact (by decide)
  | 1 => exact (by decide)
  | k + 2 => show 3 ≠ 32; decide
theorem OwnH.keepRow {w w' : World} {lo hi g : Nat} {a b c : Value} {h : H} {cs : Array Value} (k : OwnH w lo hi a b c h) (hr : Row w g 32 cs) (hb : ∀ i, i ≠ g → i < w.heap.size → w'.heap[i]? = w.heap[i]?) : OwnH w' lo hi a b c h := by
  obtain ⟨us, k⟩ := k
  exact ⟨us, fun j hj => owns_block (k.own j hj) fun g' hg' => hb g' (owns_ne_row (k.own j hj) hr (tyH_ne j) hg') (owns_lt (k.own j hj) hg').2, k.lt, k.ap⟩
theorem OwnH.cellRow {w : World} {lo hi g : Nat} {a b c : Value} {h : H} {cs : Array Value} (k : OwnH w lo hi a b c h) (hr : Row w g 32 cs) (j : Nat) (x : Value) : OwnH (w.setCell ⟨g, j, none⟩ x) lo hi a b c h := k.keepRow hr fun i hi _ => heap_setCell_other w ⟨g, j, none⟩ i _ hi
theorem OwnH.wholeRow {w : World} {lo hi g : Nat} {a b c : Value} {h : H} {cs : Array Value} (k : OwnH w lo hi a b c h) (hr : Row w g 32 cs) (ds : Array Value) : OwnH (w.setRow g ds) lo hi a b c h := k.keepRow hr fun i hi _ => setRow_other w g i ds hi

/-- What is appended, cell by cell. -/
def SrcAt (w : World) (x : Value) (ys : List Value) : Prop := ∃ ao c, x = .slice ao ys.length c ∧ (∀ u ∈ ys, u.oneCell' = true) ∧ (0 < ys.length → ∃ b off, ao = some ⟨b, off, none⟩ ∧ ∀ j, j < ys.length → w.cell? ⟨b, off + j, none⟩ = ys[j]?)
theorem IntsAt.src {w : World} {x : Value} {zs : List Int} (h : IntsAt w x zs) : SrcAt w x (zs.map (Value.int .i64)) := by
  obtain ⟨ao, c, rfl, hc⟩ := h
  refine ⟨ao, c, by rw [List.length_map], fun u hu => by obtain ⟨_, _, rfl⟩ := List.mem_map.1 hu; rfl, fun h0 => ?_⟩
  rw [List.length_map] at h0 ⊢
  obtain ⟨b, off, ha, hcc⟩ := hc h0
  exact ⟨b, off, ha, fun j hj => by rw [hcc j hj, List.getElem?_map, List.getElem?_eq_getElem hj]; simp [List.getD, List.getElem?_eq_getElem hj]⟩
theorem BoolsAt.src {w : World} {x : Value} {zs : List Bool} (h : BoolsAt w x zs) : SrcAt w x (zs.map Value.bool) := by
  obtain ⟨ao, c, rfl, hc⟩ := h
  refine ⟨ao, c, by rw [List.length_map], fun u hu => by obtain ⟨_, _, rfl⟩ := List.mem_map.1 hu; rfl, fun h0 => ?_⟩
  rw [List.length_map] at h0 ⊢
  obtain ⟨b, off, ha, hcc⟩ := hc h0
  exact ⟨b, off, ha, fun j hj => by rw [hcc j hj, List.getElem?_map, List.getElem?_eq_getElem hj]; simp [List.getD, List.getElem?_eq_getElem hj]⟩
theorem run_appOwn {P : Program} (w : World) (base : Nat) (t ty e : TypeId) (i : TypeInfo) (z : Value) (bytes : Nat) (ht : P.underlying t = some (.slice e)) (hi : P.info? e = some i) (hz : i.zero = some z) (hsize : i.size = 1) (hby : i.bytes = bytes) (hzs : z.cells.size = 1)
    (v : Value) (n : Nat) (xs : List Value) (hown : w.ownsRow base e 1 v n xs) (x : Value) (ys : List Value) (hs : SrcAt w x ys) (h63 : n + ys.length ≤ maxLen) (hbytes : (n + ys.length) * bytes ≤ 140737488355328) (hbase : base ≤ w.heap.size) :
    ∃ v' w', (Builtin.append_ #[t, t] ty #[v, x]).run P w = .ok v' w' ∧ w'.ownsRow base e 1 v' (n + ys.length) (xs ++ ys) ∧ w.grownBy w' v.ownBlock ∧ (v'.ownBlock = v.ownBlock ∨ v'.ownBlock = some w.heap.size) := by
  obtain ⟨ao, c, rfl, h1, hc⟩ := hs
  by_cases h0 : 0 < ys.length
  · obtain ⟨b, off, rfl, hcc⟩ := hc h0
    obtain ⟨v', w', hr, ho, hg, _, hb⟩ := run_append_own_at w base t ty e i z 1 bytes ht hi hz hsize hby hzs (by omega) v n xs hown ⟨b, off, none⟩ ys.length c ys (by omega) (fun j u hu => by
      have hj : j < ys.length := by obtain ⟨h1, _⟩ := List.getElem?_eq_some_iff.1 hu; exact h1
      rw [Addr.add_lit, hcc j hj, hu]) h1 h63 hbytes hbase
    exact ⟨v', w', hr, ho, hg, hb⟩
  · have hy : ys = [] := List.eq_nil_of_length_eq_zero (by omega)
    subst hy
    have hsrc : Src P i.size t (.slice ao 0 c) 0 [] w := by
      cases ao with
      | none => exact Src.ofNil w ht c
      | some ad => exact Src.ofSlice w ht ad 0 c [] (by simp) (fun j u hu => by simp at hu) (fun u hu => by simp at hu)
    have hv : ∃ base' len cap, v = .slice base' len cap ∧ len ≤ cap := by
      rcases hown.2 with ⟨rfl, _⟩ | ⟨g, cap, cur, rfl, _, _, hle, _⟩
      · exact ⟨none, 0, 0, rfl, Nat.le_refl _⟩
      · exact ⟨_, _, _, rfl, hle⟩
    obtain ⟨base', len, cap, rfl, hle⟩ := hv
    exact ⟨_, w, run_append_nothing w t t ty e i ht hi base' len cap hle _ hsrc, by simpa using hown, World.grownBy.refl _ _, .inl rfl⟩
theorem wl_appOwn {P : Program} (w : World) {ops : Array Oper} {rest : List Oper} {o : Oper} {q : Act} {Q : Exit → Act → World → Prop} (hgd : o.guard = none) (s x : Operand) (t : TypeId) (hop : o.op = Op.call { callee := Callee.builtin Builtin.append, args := #[s, x], argTypes := #[t, t] })
    (base : Nat) (e : TypeId) (i : TypeInfo) (z : Value) (bytes : Nat) (ht : P.underlying t = some (.slice e)) (hi : P.info? e = some i) (hz : i.zero = some z) (hsize : i.size = 1) (hby : i.bytes = bytes) (hzs : z.cells.size = 1)
    (v : Value) (n : Nat) (xs : List Value) (hs : q.eval s = v) (hown : w.ownsRow base e 1 v n xs) (y : Value) (ys : List Value) (hx : q.eval x = y) (hy : SrcAt w y ys) (h63 : n + ys.length ≤ maxLen) (hbytes : (n + ys.length) * bytes ≤ 140737488355328) (hbase : base ≤ w.heap.size)
    (hK : ∀ v' w', w'.ownsRow base e 1 v' (n + ys.length) (xs ++ ys) → w.grownBy w' v.ownBlock → (v'.ownBlock = v.ownBlock ∨ v'.ownBlock = some w.heap.size) → wpList P ops Q rest (q.put o.dst v') w') : wpList P ops Q (o :: rest) q w := by
  obtain ⟨v', w', hrun, h1, h2, h3⟩ := run_appOwn (P := P) w base t o.type e i z bytes ht hi hz hsize hby hzs v n xs hown y ys hy h63 hbytes hbase
  refine wpList_plain hgd fun K hK' => ?_
  unfold Oper.wp
  simp [execOp, hop, resolve, invoke, builtin, hs, hx, hrun, Result.andThen]
  exact hK' _ _ (hK v' w' h1 h2 h3)
theorem c_copyInts (v : Value) (zs : List Int) (w : World) (hA : IntsAt w v zs) (hm : zs.length ≤ 1048576) : Calls Try.prog 136 #[v] w fun e w' => ∃ v', e = .returned v' ∧ Own w' w.heap.size v' zs ∧ Below w.heap.size w w' := by
  obtain ⟨i0, hi, hz0, hz1, hz2⟩ := info_parts info_int
  have HS := Lib.hid hA.src
  have HM : Hid ((zs.map (Value.int .i64)).length ≤ 1048576) := by unfold Hid; rw [List.length_map]; exact hm
  clear hA
  go_enter Try.func136, Try.ntmps136
  go_wp2_with (at_builtin; refine wl_appOwn _ rfl _ _ 24 rfl w.heap.size 3 i0 (.int .i64 0) 8 Try.underlying24 hi hz0 hz1 hz2 rfl (.slice none 0 0) 0 [] rfl ⟨rfl, .inl ⟨rfl, rfl⟩⟩ v _ rfl HS.out (by have := HM.out; unfold maxLen; omega) (by have := HM.out; omega) (Nat.le_refl _) ?_; intro v1 w1 ho hg hbl; have O1 := Lib.hid ho; have G1 := Lib.hid hg; clear ho hg hbl)
  go_ret
  refine ⟨_, rfl, ?_, (Below.refl w.heap.size w).grown G1.out (Nat.le_refl _) (fun k hk => by cases hk)⟩
  have := O1.out
  rw [List.nil_append, Nat.zero_add, List.length_map] at this
  exact this
theorem c_copyBools (v : Value) (zs : List Bool) (w : World) (hA : BoolsAt w v zs) (hm : zs.length ≤ 1048576) : Calls Try.prog 158 #[v] w fun e w' => ∃ v', e = .returned v' ∧ OwnBs w' w.heap.size v' zs ∧ Below w.heap.size w w' := by
  obtain ⟨i0, hi, hz0, hz1, hz2⟩ := info_parts info_boolz
  have HS := Lib.hid hA.src
  have HM : Hid ((zs.map Value.bool).length ≤ 1048576) := by unfold Hid; rw [List.length_map]; exact hm
  clear hA
  go_enter Try.func158, Try.ntmps158
  go_wp2_with (at_builtin; refine wl_appOwn _ rfl _ _ 23 rfl w.heap.size 4 i0 (.bool false) 1 Try.underlying23 hi hz0 hz1 hz2 rfl (.slice none 0 0) 0 [] rfl ⟨rfl, .inl ⟨rfl, rfl⟩⟩ v _ rfl HS.out (by have := HM.out; unfold maxLen; omega) (by have := HM.out; omega) (Nat.le_refl _) ?_; intro v1 w1 ho hg hbl; have O1 := Lib.hid ho; have G1 := Lib.hid hg; clear ho hg hbl)
  go_ret
  refine ⟨_, rfl, ?_, (Below.refl w.heap.size w).grown G1.out (Nat.le_refl _) (fun k hk => by cases hk)⟩
  have := O1.out
  rw [List.nil_append, Nat.zero_add, List.length_map] at this
  exact this
end Go.Proofs.Ytbmfkgfmibpkjaa
namespace Go.Proofs.Ytbmfkgfmibpkjaa
open Go.RowKit Ph

theorem good_wt {h : H} (g : Ph.Good h) : wtH h ≤ 1000 ∧ h.l.length ≤ 12 ∧ h.r.length ≤ 4 ∧ h.f.length ≤ 12 ∧ ∀ i, i < h.f.length → (h.f.getD i []).length ≤ 3 := by
  have h1 : ∀ k, k ≤ h.f.length → sumL h.f k ≤ 3 * k := fun k => by
    induction k with
    | zero => intro _; rw [sumL_zero]; exact Nat.zero_le _
    | succ k ih =>
      intro hk
      rw [sumL_succ (by omega)]
      have := ih (by omega)
      have := (g.row k (by omega)).1
      omega
  have := h1 _ (Nat.le_refl _)
  have h2 := g.n
  have h3 := g.ll
  have h4 := g.rn
  exact ⟨by unfold wtH wt; omega, by omega, h4, h2, fun i hi => (g.row i hi).1⟩
theorem RowH.set3 {w : World} {g : Nat} {a0 b0 c0 : Value} (k : RowH w g a0 b0 c0) (a b c : Value) : RowH (((w.setCell ⟨g, 0, none⟩ a).setCell ⟨g, 1, none⟩ b).setCell ⟨g, 2, none⟩ c) g a b c := ((k.set0 a).set1 b).set2 c
theorem OwnH.set3 {w : World} {lo hi g : Nat} {a b c : Value} {h : H} {a0 b0 c0 : Value} (k : OwnH w lo hi a b c h) (hr : RowH w g a0 b0 c0) (x y z : Value) : OwnH (((w.setCell ⟨g, 0, none⟩ x).setCell ⟨g, 1, none⟩ y).setCell ⟨g, 2, none⟩ z) lo hi a b c h :=
  ((k.cellRow hr 0 x).cellRow (hr.set0 x) 1 y).cellRow ((hr.set0 x).set1 y) 2 z
theorem below_set3 {B g : Nat} {w0 w : World} (hb : Below B w0 w) (hg : B ≤ g) (x y z : Value) : Below B w0 (((w.setCell ⟨g, 0, none⟩ x).setCell ⟨g, 1, none⟩ y).setCell ⟨g, 2, none⟩ z) :=
  ((hb.setCell (p := ⟨g, 0, none⟩) hg x).setCell (p := ⟨g, 1, none⟩) hg y).setCell (p := ⟨g, 2, none⟩) hg z
theorem cell_set3 {w : World} {g g' k : Nat} {v : Value} (hn : g' ≠ g) (h : w.cell? ⟨g', k, none⟩ = some v) (x y z : Value) : (((w.setCell ⟨g, 0, none⟩ x).setCell ⟨g, 1, none⟩ y).setCell ⟨g, 2, none⟩ z).cell? ⟨g', k, none⟩ = some v := by
  rw [World.cell?_setCell_far _ _ _ _ (by simp; omega), World.cell?_setCell_far _ _ _ _ (by simp; omega), World.cell?_setCell_far _ _ _ _ (by simp; omega)]; exact h
set_option maxRecDepth 100000 in
set_option maxHeartbeats 6400000 in
theorem c_copyHeap (a b c : Value) (h : H) (w : World) (hA : HeapAt w a b c h) (hG : Ph.Good h) : Calls Try.prog 107 #[hv a b c] w fun e w' => ∃ a' b' c', e = .returned (hv a' b' c') ∧ OwnH w' w.heap.size w'.heap.size a' b' c' h ∧ Below w.heap.size w w' := by
  obtain ⟨i0, hi, hz0, hz1, hz2⟩ := info_parts info_ints
  obtain ⟨_, hl12, hr4, hf12, hr3⟩ := good_wt hG
  obtain ⟨fa, fc, rfl⟩ := hA.f.shape
  obtain ⟨la, lc, rfl⟩ := hA.l.shape
  obtain ⟨ra, rc, rfl⟩ := hA.r.shape
  have HA := Lib.hid hA
  have HL : Hid (h.l.length ≤ 1048576 ∧ h.r.length ≤ 1048576) := ⟨by omega, by omega⟩
  have HR3 := Lib.hid hr3
  have hb0 := (below1 w (.cells (c3 (.slice fa h.f.length fc) (.slice la h.l.length lc) (.slice ra h.r.length rc)) 32)).alloc (by simp) (.cells (c3 (.slice none 0 0) (.slice none 0 0) (.slice none 0 0)) 32)
  have rp : RowH _ w.heap.size (.slice fa h.f.length fc) (.slice la h.l.length lc) (.slice ra h.r.length rc) := (Row.new w 32 (c3 (.slice fa h.f.length fc) (.slice la h.l.length lc) (.slice ra h.r.length rc))).alloc (.cells (c3 (.slice none 0 0) (.slice none 0 0) (.slice none 0 0)) 32)
  have r2 : RowH _ (w.heap.size + 1) (.slice none 0 0) (.slice none 0 0) (.slice none 0 0) := Row.new1 w (.cells (c3 (.slice fa h.f.length fc) (.slice la h.l.length lc) (.slice ra h.r.length rc)) 32) 32 (c3 (.slice none 0 0) (.slice none 0 0) (.slice none 0 0))
  have HB := Lib.hid hb0; have RP := Lib.hid rp; have R2 := Lib.hid r2
  clear hA hG hr3 hb0 rp r2 hl12 hr4
  generalize hn : h.f.length = n at *
  generalize hnl : h.l.length = nl at *
  generalize hnr : h.r.length = nr at *
  have HN := Lib.hid hn; have HNL := Lib.hid hnl; have HNR := Lib.hid hnr
  clear hn hnl hnr
  go_enter Try.func107, Try.ntmps107
  have cp0 := RP.out.c0
  go_wp2_with (at_make; refine wpList_make_full _ rfl _ _ 22 rfl w.heap.size 24 i0 (.slice none 0 0) 1 Try.underlying22 hi hz0 hz1 .i64 .i64 _ _ n rfl rfl rfl rfl (by rw [hz2]; omega) (by unfold maxLen; omega) (by simp; omega) ?_; intro w1 hown hgr
               rw [Nat.mul_one, show (Value.slice none 0 0).cells = #[.slice none 0 0] from rfl, toList_madeCells_one] at hown
               have hsz0 : ((w.alloc (.cells (c3 (.slice fa n fc) (.slice la nl lc) (.slice ra nr rc)) 32)).alloc (.cells (c3 (.slice none 0 0) (.slice none 0 0) (.slice none 0 0)) 32)).heap.size = w.heap.size + 2 := by simp
               rw [hsz0] at hown
               have hb1 := HB.out.grown hgr HB.out.size (fun k hk => by cases hk)
               have HO := Lib.hid hown; have B1 := Lib.hid hb1; have RP1 := Lib.hid (Row.grown RP.out hgr); have R21 := Lib.hid (Row.grown R2.out hgr)
               have d0 := Row.cell RP1.out 0
               clear hown hgr hb1 hsz0)
  clear cp0 d0
  have W1 : Hid (w.heap.size + 2 < w1.heap.size) := (owns_lt HO.out rfl).2
  go_loopw [12] (fun i wr => ∃ j : Nat, j ≤ n ∧ i = .int .i64 j ∧ Hid (∃ us, FamH wr w.heap.size wr.heap.size (.slice (some ⟨w.heap.size + 2, 0, none⟩) n n) (.slice none 0 0) (.slice none 0 0) us ⟨fillF h.f j, [], []⟩) ∧ Hid (RowH wr w.heap.size (.slice fa n fc) (.slice la nl lc) (.slice ra nr rc)) ∧ Hid (RowH wr (w.heap.size + 1) (.slice none 0 0) (.slice none 0 0) (.slice none 0 0)) ∧ Hid (Below w.heap.size w wr) ∧ Hid (w.heap.size + 2 < wr.heap.size)) (fun i _ => n - (intOf i).toNat)
  case atStart =>
    refine ⟨0, Nat.zero_le _, rfl, ⟨fun _ => .slice none 0 0, ?_⟩, RP1, R21, B1, W1⟩
    rw [fillF_zero, HN.out]
    exact FamH.made HO.out W1.out
  case round =>
    obtain ⟨j, hj, rfl, hfam, hrp, hr2, hbw, hlw⟩ := hrel
    have cp := hrp.out.c0
    by_cases hlt : j < n
    · obtain ⟨us, hf⟩ := hfam.out
      obtain ⟨fb, fo, rfl, hc⟩ := HA.out.f.at' (by omega)
      obtain ⟨u, hq, hu⟩ := hc j hlt
      have q := cellBelow hbw.out (Nat.le_refl _) hq
      have hu' := Lib.hid (hu.below hbw.out)
      have hjl : j < h.f.length := by rw [HN.out]; exact hlt
      have hlu : Hid ((h.f.getD j []).length ≤ 1048576) := by unfold Hid; have := HR3.out j hlt; omega
      have hfl : (fillF h.f j).length = n := by rw [fillF_length h.f (by omega), HN.out]
      have hfs := Lib.hid (fillF_set h.f hjl)
      have HF := Lib.hid hf; have HFL := Lib.hid hfl
      have i1 : (j : Int) < (n : Int) := by omega
      clear hc hq hu hf hjl hfl hfam
      generalize h.f.getD j [] = zs at *
      go_wp2_with fail
      refine (c_copyInts u zs _ hu'.out hlu.out).mono ?_
      rintro e w2 ⟨u2, rfl, ho2, hb2⟩
      have F2 : FamH w2 w.heap.size wr.heap.size (.slice (some ⟨w.heap.size + 2, 0, none⟩) n n) (.slice none 0 0) (.slice none 0 0) us ⟨fillF h.f j, [], []⟩ := Fam.below HF.out hb2
      have hsz : w.heap.size ≤ wr.heap.size := hbw.out.size
      obtain ⟨c1, f1⟩ := F2.cell (g := w.heap.size + 2) (cap := n) (i := j) (by simp only [HFL.out]) (by simp only [HFL.out]; exact hlt)
      obtain ⟨s1, s2⟩ := F2.putRow (i := j) (by simp only [HFL.out]; exact hlt) (ho2.mono hsz) (hi' := w2.heap.size) hb2.size (fun g hg => .inl (owns_lt ho2 hg)) (g := w.heap.size + 2) (cap := n) (by simp only [HFL.out])
      simp only [hfs.out] at s1
      have hszs : (w2.setCell ⟨w.heap.size + 2, j, none⟩ u2).heap.size = w2.heap.size := World.size_setCell _ _ _
      rw [← hszs] at s1
      have S1 := Lib.hid s1
      have S2 := Lib.hid ((bst hbw.out hb2 hbw.out.size).setCell (p := ⟨w.heap.size + 2, j, none⟩) (by simp) u2)
      have S3 : Hid (RowH (w2.setCell ⟨w.heap.size + 2, j, none⟩ u2) w.heap.size (.slice (some ⟨fb, fo, none⟩) n fc) (.slice la nl lc) (.slice ra nr rc)) := Row.other (Row.below hrp.out hb2) ⟨w.heap.size + 2, j, none⟩ (by simp) u2
      have S4 : Hid (RowH (w2.setCell ⟨w.heap.size + 2, j, none⟩ u2) (w.heap.size + 1) (.slice none 0 0) (.slice none 0 0) (.slice none 0 0)) := Row.other (Row.below hr2.out hb2) ⟨w.heap.size + 2, j, none⟩ (by simp) u2
      have S5 : Hid (w.heap.size + 2 < (w2.setCell ⟨w.heap.size + 2, j, none⟩ u2).heap.size) := by unfold Hid; rw [hszs]; have := hlw.out; have := hb2.size; omega
      obtain ⟨ua, uc, rfl⟩ := ho2.ints.shape
      clear s1 s2 F2 ho2 hb2 hszs q cp
      generalize us j = x at *
      generalize zs.length = m at *
      go_wp2_with fail
      go_roundw
      case rel => exact ⟨j + 1, by omega, by go_num, ⟨_, S1.out⟩, S3, S4, S2, S5⟩
      case measure => simp [intOf]; omega
    · obtain rfl : j = n := by omega
      have HOW : Hid (OwnH wr w.heap.size wr.heap.size (.slice (some ⟨w.heap.size + 2, 0, none⟩) j j) (.slice none 0 0) (.slice none 0 0) ⟨h.f, [], []⟩) := by
        obtain ⟨us, hf⟩ := hfam.out
        refine ⟨us, ?_⟩
        have := hf
        rwa [← HN.out, fillF_all, HN.out] at this
      clear hfam
      go_wp2_with fail
      have A1 := Lib.hid (HA.out.below (below_drew hbw.out))
      have cb : wr.drew.cell? ⟨w.heap.size, 1, none⟩ = some (.slice la nl lc) := hrp.out.c1
      have cc : wr.drew.cell? ⟨w.heap.size, 2, none⟩ = some (.slice ra nr rc) := hrp.out.c2
      have BD := below_drew (Below.refl wr.heap.size wr)
      clear cp
      refine wp_region_held_drew (S := (fun w' => w'.cell? ⟨w.heap.size, 1, none⟩ = some (.slice la nl lc) ∧ w'.cell? ⟨w.heap.size, 2, none⟩ = some (.slice ra nr rc) ∧ Below w.heap.size w w')) (by kernel_rfl) (⟨cb, cc, below_drew hbw.out⟩) (fun hHeld => ?_)
      refine wpAnyH_take (i := 0) (v := ?va0x1) rfl (by kernel_rfl) (by kernel_rfl) (by kernel_rfl) (fun _ _ _ h => h) (Or.inl ⟨by rfl, ?hy0x1⟩) (by assumption) ?rest0x1
      case hy0x1 => (intro w hSw; (try dsimp only at hSw); go_simp; try with_reducible rfl)
      (try simp only [Act.put, List.getElem_toArray, List.getElem_cons_zero, List.setIfInBounds_toArray, List.set_cons_zero, List.set_cons_succ])
      refine wpAnyH_take (i := 1) (v := ?va1x2) rfl (by kernel_rfl) (by kernel_rfl) (by kernel_rfl) (fun _ _ _ h => h) (Or.inl ⟨by rfl, ?hy1x2⟩) (by assumption) ?rest1x2
      case hy1x2 => (intro w hSw; (try dsimp only at hSw); go_simp; try with_reducible rfl)
      (try simp only [Act.put, List.getElem_toArray, List.getElem_cons_zero, List.getElem_cons_succ, List.setIfInBounds_toArray, List.set_cons_zero, List.set_cons_succ])
      refine wpAnyH_take (i := 2) (v := ?va2x3) rfl (by kernel_rfl) (by kernel_rfl) (by kernel_rfl) (fun _ _ _ h => h) (Or.inl ⟨by rfl, ?hy2x3⟩) (by assumption) ?rest2x3
      case hy2x3 => (intro w hSw; (try dsimp only at hSw); go_simp; try with_reducible rfl)
      (try simp only [Act.put, List.getElem_toArray, List.getElem_cons_zero, List.getElem_cons_succ, List.setIfInBounds_toArray, List.set_cons_zero, List.set_cons_succ])
      refine wpAnyH_take (i := 4) (v := ?va4x4) rfl (by kernel_rfl) (by kernel_rfl) (by kernel_rfl) (fun _ _ _ h => h) (Or.inl ⟨by rfl, ?hy4x4⟩) (by assumption) ?rest4x4
      case hy4x4 => (intro w hSw; (try dsimp only at hSw); go_simp; try with_reducible rfl)
      (try simp only [Act.put, List.getElem_toArray, List.getElem_cons_zero, List.getElem_cons_succ, List.setIfInBounds_toArray, List.set_cons_zero, List.set_cons_succ])
      refine wpAnyH_take (i := 5) (v := ?va5x5) rfl (by kernel_rfl) (by kernel_rfl) (by kernel_rfl) (fun _ _ _ h => h) (Or.inl ⟨by rfl, ?hy5x5⟩) (by assumption) ?rest5x5
      case hy5x5 => (intro w hSw; (try dsimp only at hSw); go_simp; try with_reducible rfl)
      (try simp only [Act.put, List.getElem_toArray, List.getElem_cons_zero, List.getElem_cons_succ, List.setIfInBounds_toArray, List.set_cons_zero, List.set_cons_succ])
      refine wpAnyH_ready (rs := [3]) (by kernel_rfl) (by simp) ?_
      refine AllReadyH.cons rfl (fun K hK => ?_) AllReadyH.nil
      go_simp
      refine (c_copyBools (.slice la nl lc) h.l _ A1.out.l (by rw [HNL.out]; exact HL.out.1)).mono ?_
      rintro e w2 ⟨vb, rfl, hob, hbb⟩
      have BE := bst BD hbb BD.size
      obtain ⟨pb, qb, hpb⟩ := (owns_bools hob).shape
      rw [HNL.out] at hpb
      subst hpb
      have cb2 := cellBelow hbb (Nat.le_refl _) cb
      have cc2 := cellBelow hbb (Nat.le_refl _) cc
      refine hK.out _ _ ⟨cb2, cc2, bst (below_drew hbw.out) hbb (below_drew hbw.out).size⟩ (fun hHeld => ?_)
      clear hK K
      (try simp only [Act.put, List.getElem_toArray, List.getElem_cons_zero, List.getElem_cons_succ, List.setIfInBounds_toArray, List.set_cons_zero, List.set_cons_succ])
      refine wpAnyH_ready (rs := [6]) (by kernel_rfl) (by simp) ?_
      refine AllReadyH.cons rfl (fun K hK => ?_) AllReadyH.nil
      go_simp
      refine (c_copyInts (.slice ra nr rc) h.r _ (A1.out.r.below hbb) (by rw [HNR.out]; exact HL.out.2)).mono ?_
      rintro e w3 ⟨vc, rfl, hoi, hbi⟩
      have BE2 := bst BE hbi BE.size
      obtain ⟨pc, qc, hpc⟩ := hoi.ints.shape
      rw [HNR.out] at hpc
      subst hpc
      have cb3 := cellBelow hbi (Nat.le_refl _) cb2
      have cc3 := cellBelow hbi (Nat.le_refl _) cc2
      refine hK.out _ _ ⟨cb3, cc3, bst hbw.out BE2 hbw.out.size⟩ (fun hHeld => ?_)
      clear hK K
      (try simp only [Act.put, List.getElem_toArray, List.getElem_cons_zero, List.getElem_cons_succ, List.setIfInBounds_toArray, List.set_cons_zero, List.set_cons_succ])
      have o2 := ((HOW.out.below (below_drew (Below.refl _ _))).below hbb).addLive hob (by have := hbw.out.size; exact this) hbb.size
      have o3 := (o2.below hbi).addRoots hoi (by have := hbw.out.size; have := hbb.size; simp at *; omega) hbi.size
      have r3 := Row.below hr2.out BE2
      have rr3 : RowH w3 (w.heap.size + 1) _ _ _ := r3
      have z0 := rr3.c0
      have z1 := rr3.c1
      have z2 := rr3.c2
      have y0 := Row.frozen r3 0
      have y1 := Row.frozen r3 1
      have y2 := Row.frozen r3 2
      have OO := Lib.hid o3; have RR := Lib.hid rr3; have LL := Lib.hid (bst hbw.out BE2 hbw.out.size)
      clear o2 o3 r3 rr3 hob hoi
      refine wpAnyH_take (i := 7) (v := ?va7x6) rfl (by kernel_rfl) (by kernel_rfl) (by kernel_rfl) (fun _ _ _ h => h) (Or.inl ⟨by rfl, ?hy7x6⟩) (by assumption) ?rest7x6
      case hy7x6 => (intro w hSw; (try dsimp only at hSw); go_simp; try with_reducible rfl)
      (try simp only [Act.put, List.getElem_toArray, List.getElem_cons_zero, List.getElem_cons_succ, List.setIfInBounds_toArray, List.set_cons_zero, List.set_cons_succ])
      refine wpAnyH_ready (rs := [8]) (by kernel_rfl) (by simp) ?_
      refine AllReadyH.cons rfl (fun K hK => ?_) AllReadyH.nil
      go_simp
      have hne : w.heap.size ≠ w.heap.size + 1 := by omega
      refine hK.out _ _ ⟨cell_set3 hne cb3 (.slice (some ⟨w.heap.size + 2, 0, none⟩) j j) (.slice pb nl qb) (.slice pc nr qc), cell_set3 hne cc3 (.slice (some ⟨w.heap.size + 2, 0, none⟩) j j) (.slice pb nl qb) (.slice pc nr qc), below_set3 LL.out (by omega) (.slice (some ⟨w.heap.size + 2, 0, none⟩) j j) (.slice pb nl qb) (.slice pc nr qc)⟩ (fun hHeld => ?_)
      clear hK K
      (try simp only [Act.put, List.getElem_toArray, List.getElem_cons_zero, List.getElem_cons_succ, List.setIfInBounds_toArray, List.set_cons_zero, List.set_cons_succ])
      refine wpAnyH_done (by kernel_rfl) ?_ _
      go_wp2_with fail
      refine bodyPost_ret (res_row Try.results107 (RR.out.set3 (.slice (some ⟨w.heap.size + 2, 0, none⟩) j j) (.slice pb nl qb) (.slice pc nr qc)) rfl Try.underlying32 rfl info_heap) rfl ⟨_, _, _, rfl, ?_, below_set3 LL.out (by omega) (.slice (some ⟨w.heap.size + 2, 0, none⟩) j j) (.slice pb nl qb) (.slice pc nr qc)⟩
      have := OO.out.set3 RR.out (.slice (some ⟨w.heap.size + 2, 0, none⟩) j j) (.slice pb nl qb) (.slice pc nr qc)
      simp only [World.size_setCell]
      exact this
end Go.Proofs.Ytbmfkgfmibpkjaa
namespace Go.Proofs.Ytbmfkgfmibpkjaa.Ph
def hasFB (h : H) (t f : Int) : Bool := liveB h.l t && decide (0 ≤ f) && decide (f < ((h.f.getD t.toNat []).length : Int))
def hasRB (h : H) (k : Int) : Bool := decide (0 ≤ k) && decide (k < (h.r.length : Int))
def setFOk (h : H) (t f z : Int) : Bool := good h && hasFB h t f && refB h.l z
def setROk (h : H) (k z : Int) : Bool := good h && hasRB h k && refB h.l z
def setF (h : H) (t f z : Int) : H := if setFOk h t f z = true then ⟨h.f.set t.toNat ((h.f.getD t.toNat []).set f.toNat z), h.l, h.r⟩ else ⟨[], [], []⟩
def setR (h : H) (k z : Int) : H := if setROk h k z = true then ⟨h.f, h.l, h.r.set k.toNat z⟩ else ⟨[], [], []⟩
theorem live_inRg {h : H} (g : Ph.Good h) {z : Int} (hz : liveB h.l z = true) : 0 ≤ z ∧ z < h.f.length := by
  have := liveB_lt hz
  rw [g.ll] at this
  exact this
theorem setF_no {h : H} {t f z : Int} (k : setFOk h t f z = false) : setF h t f z = ⟨[], [], []⟩ := by unfold setF; rw [k]; rfl
theorem setF_yes {h : H} {t f z : Int} (k : setFOk h t f z = true) : setF h t f z = ⟨h.f.set t.toNat ((h.f.getD t.toNat []).set f.toNat z), h.l, h.r⟩ := by unfold setF; rw [k]; rfl
theorem setR_no {h : H} {t z : Int} (k : setROk h t z = false) : setR h t z = ⟨[], [], []⟩ := by unfold setR; rw [k]; rfl
theorem setR_yes {h : H} {t z : Int} (k : setROk h t z = true) : setR h t z = ⟨h.f, h.l, h.r.set t.toNat z⟩ := by unfold setR; rw [k]; rfl
end Go.Proofs.Ytbmfkgfmibpkjaa.Ph
namespace Go.Proofs.Ytbmfkgfmibpkjaa
open Go.RowKit Ph

theorem endH_no {w w' : World} {h : H} {ok : Bool} (hb : Below w.heap.size w w') (h1 : h = ⟨[], [], []⟩) (h2 : ok = false) : EndH h ok w (.returned (.tuple #[hv (.slice none 0 0) (.slice none 0 0) (.slice none 0 0), .bool false])) w' := by
  subst h1; subst h2
  exact ⟨_, _, _, rfl, OwnH.nil w' _ _, hb⟩
theorem endH_yes {w w' : World} {h h' : H} {ok : Bool} {a b c : Value} {lo hi : Nat} (hb : Below w.heap.size w w') (ho : OwnH w' lo hi a b c h') (hl : w.heap.size ≤ lo) (hi' : hi ≤ w'.heap.size) (h1 : h = h') (h2 : ok = true) : EndH h ok w (.returned (.tuple #[hv a b c, .bool true])) w' := by
  subst h1; subst h2
  exact ⟨_, _, _, rfl, ho.wide hl hi', hb⟩
set_option maxHeartbeats 1600000 in
theorem c_hasField (a b c : Value) (h : H) (t f : Int) (w : World) (hA : HeapAt w a b c h) (hG : Ph.Good h) : Calls Try.prog 197 #[hv a b c, .int .i64 t, .int .i64 f] w fun e w' => e = .returned (.bool (hasFB h t f)) ∧ Below w.heap.size w w' := by
  have hb0 := below1 w (.cells (c3 a b c) 32)
  have A0 := Lib.hid (hA.below hb0)
  have HB := Lib.hid hb0
  have R0 := Lib.hid (show RowH _ _ a b c from Row.new w 32 (c3 a b c))
  have HC := Lib.hid (c_isLive a b c h.l t _ A0.out.l)
  have hlt : liveB h.l t = true → 0 ≤ t ∧ t < h.f.length := live_inRg hG
  have hx : hasFB h t f = (liveB h.l t && decide (0 ≤ f) && decide (f < ((h.f.getD t.toNat []).length : Int))) := rfl
  obtain ⟨fa, fc, rfl⟩ := hA.f.shape
  clear hA hG hb0
  have c0 := R0.out.c0
  have c1 := R0.out.c1
  have c2 := R0.out.c2
  generalize liveB h.l t = x at *
  generalize hasFB h t f = y at *
  cases x
  · have HE : Hid (y = false) := by unfold Hid; rw [hx]; rfl
    clear hx hlt
    generalize h.f.length = n at *
    go_enter Try.func197, Try.ntmps197
    go_wp2_with (go_at_call 193; refine HC.out.mono ?_; rintro e w1 ⟨rfl, hb1⟩; have B1 := Lib.hid (bst HB.out hb1 HB.out.size); clear hb1)
    go_ret
    exact ⟨r_b HE.out.symm, B1.out⟩
  · obtain ⟨ht0, htn⟩ := hlt rfl
    obtain ⟨k, rfl⟩ : ∃ k : Nat, t = k := ⟨t.toNat, by omega⟩
    obtain ⟨fb, fo, rfl, hcf⟩ := A0.out.f.at' (by omega)
    obtain ⟨u, qu, hu⟩ := hcf k (by omega)
    obtain ⟨ua, uc, rfl⟩ := hu.shape
    have QU := Lib.hid qu
    have i2 : (k : Int) < (h.f.length : Int) := by omega
    rw [Int.toNat_natCast] at hx
    clear hcf hu hlt qu
    generalize h.f.length = n at *
    generalize (h.f.getD k []).length = m at *
    by_cases f0 : 0 ≤ f
    · by_cases f1 : f < (m : Int)
      · have HE : Hid (y = true) := by unfold Hid; rw [hx]; simp [f0, f1]
        clear hx
        go_enter Try.func197, Try.ntmps197
        go_wp2_with (go_at_call 193; refine HC.out.mono ?_; rintro e w1 ⟨rfl, hb1⟩; have B1 := Lib.hid (bst HB.out hb1 HB.out.size); have d0 := (R0.out.below hb1).c0; have d1 := cellBelow hb1 (Nat.le_refl _) QU.out; clear hb1)
        go_ret
        exact ⟨r_b HE.out.symm, B1.out⟩
      · have HE : Hid (y = false) := by unfold Hid; rw [hx]; simp [f1]
        clear hx
        go_enter Try.func197, Try.ntmps197
        go_wp2_with (go_at_call 193; refine HC.out.mono ?_; rintro e w1 ⟨rfl, hb1⟩; have B1 := Lib.hid (bst HB.out hb1 HB.out.size); have d0 := (R0.out.below hb1).c0; have d1 := cellBelow hb1 (Nat.le_refl _) QU.out; clear hb1)
        go_ret
        exact ⟨r_b (by rw [HE.out]; exact decide_eq_false (by omega)), B1.out⟩
    · have HE : Hid (y = false) := by unfold Hid; rw [hx]; simp [f0]
      clear hx
      go_enter Try.func197, Try.ntmps197
      go_wp2_with (go_at_call 193; refine HC.out.mono ?_; rintro e w1 ⟨rfl, hb1⟩; have B1 := Lib.hid (bst HB.out hb1 HB.out.size); clear hb1)
      go_ret
      exact ⟨r_b HE.out.symm, B1.out⟩
set_option maxHeartbeats 1600000 in
theorem c_hasRoot (a b c : Value) (h : H) (k : Int) (w : World) (hA : HeapAt w a b c h) : Calls Try.prog 199 #[hv a b c, .int .i64 k] w fun e w' => e = .returned (.bool (hasRB h k)) ∧ Below w.heap.size w w' := by
  obtain ⟨ra, rc, rfl⟩ := hA.r.shape
  have hx : hasRB h k = (decide (0 ≤ k) && decide (k < (h.r.length : Int))) := rfl
  clear hA
  generalize h.r.length = n at *
  generalize hasRB h k = y at *
  have HB := Lib.hid (below1 w (.cells (c3 a b (.slice ra n rc)) 32))
  by_cases f0 : 0 ≤ k
  · by_cases f1 : k < (n : Int)
    · have HE : Hid (y = true) := by unfold Hid; rw [hx]; simp [f0, f1]
      clear hx
      go_enter Try.func199, Try.ntmps199
      go_wp2
      go_ret
      exact ⟨r_b HE.out.symm, HB.out⟩
    · have HE : Hid (y = false) := by unfold Hid; rw [hx]; simp [f1]
      clear hx
      go_enter Try.func199, Try.ntmps199
      go_wp2
      go_ret
      exact ⟨r_b HE.out.symm, HB.out⟩
  · have HE : Hid (y = false) := by unfold Hid; rw [hx]; simp [f0]
    clear hx
    go_enter Try.func199, Try.ntmps199
    go_wp2
    go_ret
    exact ⟨r_b HE.out.symm, HB.out⟩
end Go.Proofs.Ytbmfkgfmibpkjaa
namespace Go.Proofs.Ytbmfkgfmibpkjaa
open Go.RowKit Ph

theorem int_getD {zs : List Int} {j : Nat} (hj : j < zs.length) : (zs.map (Value.int .i64))[j]? = some (.int .i64 (zs.getD j 0)) := by
  rw [List.getElem?_map, List.getElem?_eq_getElem hj]; simp [List.getD, List.getElem?_eq_getElem hj]
/-- A field stored in a heap that is the call's own. -/
theorem setFld_facts {w : World} {lo R : Nat} {a b c r1 r2 r3 : Value} {h : H} (ho : OwnH w lo w.heap.size a b c h) {k j : Nat} (hk : k < h.f.length) (hj : j < (h.f.getD k []).length) (z : Int) (hR : RowH w R r1 r2 r3) :
    ∃ ga ca pb qb pc qc gr cr x, a = .slice (some ⟨ga, 0, none⟩) h.f.length ca ∧ b = .slice pb h.l.length qb ∧ c = .slice pc h.r.length qc ∧ (w.alloc (.cells (c3 a b c) 32)).cell? ⟨ga, k, none⟩ = some (.slice (some ⟨gr, 0, none⟩) (h.f.getD k []).length cr) ∧
      (w.alloc (.cells (c3 a b c) 32)).cell? ⟨gr, j, none⟩ = some x ∧ (w.alloc (.cells (c3 a b c) 32)).frozen? ⟨gr, j, none⟩ = false ∧ lo ≤ gr ∧
      RowH ((w.alloc (.cells (c3 a b c) 32)).setCell ⟨gr, j, none⟩ (.int .i64 z)) w.heap.size a b c ∧ RowH ((w.alloc (.cells (c3 a b c) 32)).setCell ⟨gr, j, none⟩ (.int .i64 z)) R r1 r2 r3 ∧
      OwnH ((w.alloc (.cells (c3 a b c) 32)).setCell ⟨gr, j, none⟩ (.int .i64 z)) lo w.heap.size a b c ⟨h.f.set k ((h.f.getD k []).set j z), h.l, h.r⟩ := by
  obtain ⟨us, hf⟩ := ho
  have hrd := hf.reads
  obtain ⟨pb, qb, hb⟩ := hrd.l.shape
  obtain ⟨pc, qc, hc⟩ := hrd.r.shape
  have F1 : FamH (w.alloc (.cells (c3 a b c) 32)) lo w.heap.size a b c us h := Fam.below hf (below1 w _)
  have RA : RowH (w.alloc (.cells (c3 a b c) 32)) w.heap.size a b c := Row.new w _ _
  have RR : RowH (w.alloc (.cells (c3 a b c) 32)) R r1 r2 r3 := Row.alloc hR _
  have hrow := F1.row hk
  rcases F1.shape with ⟨_, h0⟩ | ⟨ga, ca, ha⟩
  · rw [h0] at hk; simp at hk
  rcases hrow.shape' with ⟨_, h0⟩ | ⟨gr, cr, hu⟩
  · rw [h0] at hj; simp at hj
  have hcell := (F1.cell ha hk).1
  have hown := hrow
  unfold Own at hown
  rw [hu] at hown hcell
  obtain ⟨s1, s2⟩ := hown.stored j (.int .i64 z)
  have hbl := owns_lt hown rfl
  have hlt := Fam.blk F1 (k := k + 3) (g := gr) (by omega) (by show (us k).ownBlock = _; rw [hu]; rfl)
  have ho2 : Own ((w.alloc (.cells (c3 a b c) 32)).setCell ⟨gr, j, none⟩ (.int .i64 z)) lo (us k) ((h.f.getD k []).set j z) := by
    unfold Own; rw [hu, List.length_set, List.map_set]; exact s1
  have hn1 : gr ≠ w.heap.size := by omega
  have hn2 : gr ≠ R := owns_ne_row hown RR (by decide) rfl
  refine ⟨ga, ca, pb, qb, pc, qc, gr, cr, .int .i64 ((h.f.getD k []).getD j 0), ha, hb, hc, hcell, ?_, hown.frozenAt j, hbl.1, Row.other RA ⟨gr, j, none⟩ (by simp; omega) _, Row.other RR ⟨gr, j, none⟩ (by simp; omega) _, ⟨us, F1.setRow hk (by rw [hu]; exact s2) ho2⟩⟩
  rw [hown.cellAt j (by omega)]; exact int_getD hj
/-- A root stored in a heap that is the call's own. -/
theorem setRt_facts {w : World} {lo R : Nat} {a b c r1 r2 r3 : Value} {h : H} (ho : OwnH w lo w.heap.size a b c h) {k : Nat} (hk : k < h.r.length) (z : Int) (hR : RowH w R r1 r2 r3) :
    ∃ pa qa pb qb gc cc x, a = .slice pa h.f.length qa ∧ b = .slice pb h.l.length qb ∧ c = .slice (some ⟨gc, 0, none⟩) h.r.length cc ∧
      (w.alloc (.cells (c3 a b c) 32)).cell? ⟨gc, k, none⟩ = some x ∧ (w.alloc (.cells (c3 a b c) 32)).frozen? ⟨gc, k, none⟩ = false ∧ lo ≤ gc ∧
      RowH ((w.alloc (.cells (c3 a b c) 32)).setCell ⟨gc, k, none⟩ (.int .i64 z)) w.heap.size a b c ∧ RowH ((w.alloc (.cells (c3 a b c) 32)).setCell ⟨gc, k, none⟩ (.int .i64 z)) R r1 r2 r3 ∧
      OwnH ((w.alloc (.cells (c3 a b c) 32)).setCell ⟨gc, k, none⟩ (.int .i64 z)) lo w.heap.size a b c ⟨h.f, h.l, h.r.set k z⟩ := by
  obtain ⟨us, hf⟩ := ho
  have hrd := hf.reads
  obtain ⟨pb, qb, hb⟩ := hrd.l.shape
  obtain ⟨pa, qa, ha⟩ := hrd.f.shape
  have F1 : FamH (w.alloc (.cells (c3 a b c) 32)) lo w.heap.size a b c us h := Fam.below hf (below1 w _)
  have RA : RowH (w.alloc (.cells (c3 a b c) 32)) w.heap.size a b c := Row.new w _ _
  have RR : RowH (w.alloc (.cells (c3 a b c) 32)) R r1 r2 r3 := Row.alloc hR _
  have hrow := F1.roots
  rcases hrow.shape' with ⟨_, h0⟩ | ⟨gc, cc, hc⟩
  · rw [h0] at hk; simp at hk
  subst hc
  have hown := hrow
  unfold Own at hown
  obtain ⟨s1, s2⟩ := hown.stored k (.int .i64 z)
  have hbl := owns_lt hown rfl
  have hlt := Fam.blk F1 (k := 2) (g := gc) (by omega) rfl
  have ho2 : Own ((w.alloc (.cells (c3 a b (.slice (some ⟨gc, 0, none⟩) h.r.length cc)) 32)).setCell ⟨gc, k, none⟩ (.int .i64 z)) lo (.slice (some ⟨gc, 0, none⟩) h.r.length cc) (h.r.set k z) := by
    unfold Own; rw [List.length_set, List.map_set]; exact s1
  have hn1 : gc ≠ w.heap.size := by omega
  have hn2 : gc ≠ R := owns_ne_row hown RR (by decide) rfl
  refine ⟨pa, qa, pb, qb, gc, cc, .int .i64 (h.r.getD k 0), ha, hb, rfl, ?_, hown.frozenAt k, hbl.1, Row.other RA ⟨gc, k, none⟩ (by simp; omega) _, Row.other RR ⟨gc, k, none⟩ (by simp; omega) _, ⟨us, F1.setRoots s2 ho2⟩⟩
  rw [hown.cellAt k (by omega)]; exact int_getD hk
theorem hasFB_iff {h : H} {t f : Int} (hx : hasFB h t f = true) (g : Ph.Good h) : ∃ k j : Nat, t = k ∧ f = j ∧ k < h.f.length ∧ j < (h.f.getD k []).length := by
  unfold hasFB at hx
  simp only [Bool.and_eq_true, decide_eq_true_eq] at hx
  obtain ⟨⟨h1, h2⟩, h3⟩ := hx
  have h4 := live_inRg g h1
  refine ⟨t.toNat, f.toNat, by omega, by omega, by omega, by omega⟩
theorem hasRB_iff {h : H} {t : Int} (hx : hasRB h t = true) : ∃ k : Nat, t = k ∧ k < h.r.length := by
  unfold hasRB at hx
  simp only [Bool.and_eq_true, decide_eq_true_eq] at hx
  exact ⟨t.toNat, by omega, by omega⟩
set_option maxRecDepth 100000 in
set_option maxHeartbeats 6400000 in
theorem c_SetField (a b c : Value) (h : H) (t f z : Int) (w : World) (hA : HeapAt w a b c h) : Calls Try.prog 166 #[hv a b c, .int .i64 t, .int .i64 f, .int .i64 z] w (EndH (setF h t f z) (setFOk h t f z) w) := by
  have hb0 := (below1 w (.cells (c3 a b c) 32)).alloc (by simp) (.cells (c3 (.slice none 0 0) (.slice none 0 0) (.slice none 0 0)) 32)
  have A0 := Lib.hid (hA.below hb0)
  have HB := Lib.hid hb0
  have P0 := Lib.hid (show RowH _ _ a b c from (Row.new w 32 (c3 a b c)).alloc (.cells (c3 (.slice none 0 0) (.slice none 0 0) (.slice none 0 0)) 32))
  have R0 := Lib.hid (show RowH _ (w.heap.size + 1) (.slice none 0 0) (.slice none 0 0) (.slice none 0 0) from Row.new1 w (.cells (c3 a b c) 32) 32 (c3 (.slice none 0 0) (.slice none 0 0) (.slice none 0 0)))
  clear hA hb0
  have HC := Lib.hid (c_GoodHeap a b c h _ A0.out)
  have G1 := Lib.hid (good_iff (h := h)).1
  have E1 := Lib.hid (setF_no (h := h) (t := t) (f := f) (z := z))
  have E2 := Lib.hid (setF_yes (h := h) (t := t) (f := f) (z := z))
  have hok : (setFOk h t f z) = (good h && hasFB h t f && refB h.l z) := rfl
  generalize good h = x at *
  have p0 := P0.out.c0
  have p1 := P0.out.c1
  have p2 := P0.out.c2
  generalize (setFOk h t f z) = ok at *
  cases x
  · have HE : Hid (ok = false) := by unfold Hid; rw [hok]; rfl
    clear hok
    go_enter Try.func166, Try.ntmps166
    go_wp2_with (first
      | (go_at_call 106; refine HC.out.mono ?_; rintro e w1 ⟨rfl, hb1⟩; have B1 := Lib.hid (bst HB.out hb1 HB.out.size); have A1 := Lib.hid (A0.out.below hb1); have P1 := Lib.hid (P0.out.below hb1); have R1 := Lib.hid (R0.out.below hb1); have d10 := P1.out.c0; have d11 := P1.out.c1; have d12 := P1.out.c2; clear hb1)
      | (refine wl_storeH rfl _ _ rfl (w.heap.size + 1) (.slice none 0 0) (.slice none 0 0) (.slice none 0 0) _ _ _ R1.out rfl rfl rfl rfl rfl ?_))
    refine bodyPost_ret (res_row_slot Try.results166 (Row.put R1.out (c3 (.slice none 0 0) (.slice none 0 0) (.slice none 0 0))) rfl rfl Try.underlying32 rfl info_heap) rfl (endH_no (below_setRow B1.out (by omega) _) (E1.out HE.out) HE.out)
  · have G := Lib.hid (G1.out rfl)
    generalize hb2 : hasFB h t f = x2 at *
    have HX2 := Lib.hid hb2
    clear hb2
    generalize hb3 : refB h.l z = x3 at *
    have HX3 := Lib.hid hb3
    clear hb3
    cases x2
    · have HE : Hid (ok = false) := by unfold Hid; rw [hok]; simp
      clear hok
      go_enter Try.func166, Try.ntmps166
      go_wp2_with (first
        | (go_at_call 106; refine HC.out.mono ?_; rintro e w1 ⟨rfl, hb1⟩; have B1 := Lib.hid (bst HB.out hb1 HB.out.size); have A1 := Lib.hid (A0.out.below hb1); have P1 := Lib.hid (P0.out.below hb1); have R1 := Lib.hid (R0.out.below hb1); have d10 := P1.out.c0; have d11 := P1.out.c1; have d12 := P1.out.c2; clear hb1)
        | (go_at_call 197; refine (c_hasField a b c h t f _ A1.out G.out).mono ?_; rintro e w2 ⟨rfl, hb2⟩; rw [HX2.out]; have B2 := Lib.hid (bst B1.out hb2 B1.out.size); have A2 := Lib.hid (A1.out.below hb2); have P2 := Lib.hid (P1.out.below hb2); have R2 := Lib.hid (R1.out.below hb2); have d20 := P2.out.c0; have d21 := P2.out.c1; have d22 := P2.out.c2; clear hb2)
        | (refine wl_storeH rfl _ _ rfl (w.heap.size + 1) (.slice none 0 0) (.slice none 0 0) (.slice none 0 0) _ _ _ R2.out rfl rfl rfl rfl rfl ?_))
      refine bodyPost_ret (res_row_slot Try.results166 (Row.put R2.out (c3 (.slice none 0 0) (.slice none 0 0) (.slice none 0 0))) rfl rfl Try.underlying32 rfl info_heap) rfl (endH_no (below_setRow B2.out (by omega) _) (E1.out HE.out) HE.out)
    · skip
      cases x3
      · have HE : Hid (ok = false) := by unfold Hid; rw [hok]; simp
        clear hok
        go_enter Try.func166, Try.ntmps166
        go_wp2_with (first
          | (go_at_call 106; refine HC.out.mono ?_; rintro e w1 ⟨rfl, hb1⟩; have B1 := Lib.hid (bst HB.out hb1 HB.out.size); have A1 := Lib.hid (A0.out.below hb1); have P1 := Lib.hid (P0.out.below hb1); have R1 := Lib.hid (R0.out.below hb1); have d10 := P1.out.c0; have d11 := P1.out.c1; have d12 := P1.out.c2; clear hb1)
          | (go_at_call 197; refine (c_hasField a b c h t f _ A1.out G.out).mono ?_; rintro e w2 ⟨rfl, hb2⟩; rw [HX2.out]; have B2 := Lib.hid (bst B1.out hb2 B1.out.size); have A2 := Lib.hid (A1.out.below hb2); have P2 := Lib.hid (P1.out.below hb2); have R2 := Lib.hid (R1.out.below hb2); have d20 := P2.out.c0; have d21 := P2.out.c1; have d22 := P2.out.c2; clear hb2)
          | (go_at_call 190; refine (c_isReference a b c h.l z _ A2.out.l).mono ?_; rintro e w3 ⟨rfl, hb3⟩; rw [HX3.out]; have B3 := Lib.hid (bst B2.out hb3 B2.out.size); have A3 := Lib.hid (A2.out.below hb3); have P3 := Lib.hid (P2.out.below hb3); have R3 := Lib.hid (R2.out.below hb3); have d30 := P3.out.c0; have d31 := P3.out.c1; have d32 := P3.out.c2; clear hb3)
          | (refine wl_storeH rfl _ _ rfl (w.heap.size + 1) (.slice none 0 0) (.slice none 0 0) (.slice none 0 0) _ _ _ R3.out rfl rfl rfl rfl rfl ?_))
        refine bodyPost_ret (res_row_slot Try.results166 (Row.put R3.out (c3 (.slice none 0 0) (.slice none 0 0) (.slice none 0 0))) rfl rfl Try.underlying32 rfl info_heap) rfl (endH_no (below_setRow B3.out (by omega) _) (E1.out HE.out) HE.out)
      · skip
        have HE : Hid (ok = true) := by unfold Hid; rw [hok]; rfl
        clear hok
        go_enter Try.func166, Try.ntmps166
        go_wp2_with (first
          | (go_at_call 106; refine HC.out.mono ?_; rintro e w1 ⟨rfl, hb1⟩; have B1 := Lib.hid (bst HB.out hb1 HB.out.size); have A1 := Lib.hid (A0.out.below hb1); have P1 := Lib.hid (P0.out.below hb1); have R1 := Lib.hid (R0.out.below hb1); have d10 := P1.out.c0; have d11 := P1.out.c1; have d12 := P1.out.c2; clear hb1)
          | (go_at_call 197; refine (c_hasField a b c h t f _ A1.out G.out).mono ?_; rintro e w2 ⟨rfl, hb2⟩; rw [HX2.out]; have B2 := Lib.hid (bst B1.out hb2 B1.out.size); have A2 := Lib.hid (A1.out.below hb2); have P2 := Lib.hid (P1.out.below hb2); have R2 := Lib.hid (R1.out.below hb2); have d20 := P2.out.c0; have d21 := P2.out.c1; have d22 := P2.out.c2; clear hb2)
          | (go_at_call 190; refine (c_isReference a b c h.l z _ A2.out.l).mono ?_; rintro e w3 ⟨rfl, hb3⟩; rw [HX3.out]; have B3 := Lib.hid (bst B2.out hb3 B2.out.size); have A3 := Lib.hid (A2.out.below hb3); have P3 := Lib.hid (P2.out.below hb3); have R3 := Lib.hid (R2.out.below hb3); have d30 := P3.out.c0; have d31 := P3.out.c1; have d32 := P3.out.c2; clear hb3))
        refine (c_copyHeap a b c h _ A3.out G.out).mono ?_
        rintro e w9 ⟨a', b', c', rfl, ho, hb9⟩
        have B9 := Lib.hid (bst B3.out hb9 B3.out.size); have R9 := Lib.hid (R3.out.below hb9)
        have hfl := hasFB_iff HX2.out G.out
        obtain ⟨k, j, rfl, rfl, hk, hj⟩ := hfl
        obtain ⟨ga, ca, pb, qb, pc, qc, gr, cr, x, rfl, rfl, rfl, q1, q2, q3, hgr, rA, rR, oN⟩ := setFld_facts ho hk hj z R9.out
        have hE2 := E2.out HE.out
        rw [Int.toNat_natCast, Int.toNat_natCast] at hE2
        have RA := Lib.hid rA; have RR := Lib.hid rR; have ON := Lib.hid oN; have EE := Lib.hid hE2
        have LL : Hid (w.heap.size ≤ gr) := Nat.le_trans B3.out.size hgr
        have L9 : Hid (w.heap.size ≤ w9.heap.size) := B9.out.size
        have LK := Lib.hid B3.out.size
        clear rA rR oN hE2 ho hb9 hgr
        have i1 : (k : Int) < (h.f.length : Int) := by omega
        have i2 : (j : Int) < ((h.f.getD k []).length : Int) := by omega
        have j1 : (0 : Int) ≤ (k : Int) := by omega
        have j2 : (0 : Int) ≤ (j : Int) := by omega
        generalize h.f.length = nf at *
        generalize h.l.length = nl at *
        generalize h.r.length = nr at *
        generalize (h.f.getD k []).length = nm at *
        go_wp2_with (first
          | (refine wl_loadH rfl _ rfl w9.heap.size _ _ _ RA.out rfl ?_)
          | (refine wl_storeH rfl _ _ rfl (w.heap.size + 1) (.slice (some ⟨ga, 0, none⟩) nf ca) (.slice pb nl qb) (.slice pc nr qc) _ _ _ RR.out rfl rfl rfl rfl rfl ?_))
        refine bodyPost_ret (res_row_slot Try.results166 (Row.put RR.out (c3 (.slice (some ⟨ga, 0, none⟩) nf ca) (.slice pb nl qb) (.slice pc nr qc))) rfl rfl Try.underlying32 rfl info_heap) rfl (endH_yes (below_setRow ((B9.out.alloc L9.out _).setCell (p := ⟨gr, j, none⟩) LL.out _) (by omega) _) (ON.out.wholeRow RR.out _) LK.out (by rw [size_setRow, World.size_setCell, World.size_alloc]; omega) EE.out HE.out)
set_option maxRecDepth 100000 in
set_option maxHeartbeats 6400000 in
theorem c_SetRoot (a b c : Value) (h : H) (t z : Int) (w : World) (hA : HeapAt w a b c h) : Calls Try.prog 168 #[hv a b c, .int .i64 t, .int .i64 z] w (EndH (setR h t z) (setROk h t z) w) := by
  have hb0 := (below1 w (.cells (c3 a b c) 32)).alloc (by simp) (.cells (c3 (.slice none 0 0) (.slice none 0 0) (.slice none 0 0)) 32)
  have A0 := Lib.hid (hA.below hb0)
  have HB := Lib.hid hb0
  have P0 := Lib.hid (show RowH _ _ a b c from (Row.new w 32 (c3 a b c)).alloc (.cells (c3 (.slice none 0 0) (.slice none 0 0) (.slice none 0 0)) 32))
  have R0 := Lib.hid (show RowH _ (w.heap.size + 1) (.slice none 0 0) (.slice none 0 0) (.slice none 0 0) from Row.new1 w (.cells (c3 a b c) 32) 32 (c3 (.slice none 0 0) (.slice none 0 0) (.slice none 0 0)))
  clear hA hb0
  have HC := Lib.hid (c_GoodHeap a b c h _ A0.out)
  have G1 := Lib.hid (good_iff (h := h)).1
  have E1 := Lib.hid (setR_no (h := h) (t := t) (z := z))
  have E2 := Lib.hid (setR_yes (h := h) (t := t) (z := z))
  have hok : (setROk h t z) = (good h && hasRB h t && refB h.l z) := rfl
  generalize good h = x at *
  have p0 := P0.out.c0
  have p1 := P0.out.c1
  have p2 := P0.out.c2
  generalize (setROk h t z) = ok at *
  cases x
  · have HE : Hid (ok = false) := by unfold Hid; rw [hok]; rfl
    clear hok
    go_enter Try.func168, Try.ntmps168
    go_wp2_with (first
      | (go_at_call 106; refine HC.out.mono ?_; rintro e w1 ⟨rfl, hb1⟩; have B1 := Lib.hid (bst HB.out hb1 HB.out.size); have A1 := Lib.hid (A0.out.below hb1); have P1 := Lib.hid (P0.out.below hb1); have R1 := Lib.hid (R0.out.below hb1); have d10 := P1.out.c0; have d11 := P1.out.c1; have d12 := P1.out.c2; clear hb1)
      | (refine wl_storeH rfl _ _ rfl (w.heap.size + 1) (.slice none 0 0) (.slice none 0 0) (.slice none 0 0) _ _ _ R1.out rfl rfl rfl rfl rfl ?_))
    refine bodyPost_ret (res_row_slot Try.results168 (Row.put R1.out (c3 (.slice none 0 0) (.slice none 0 0) (.slice none 0 0))) rfl rfl Try.underlying32 rfl info_heap) rfl (endH_no (below_setRow B1.out (by omega) _) (E1.out HE.out) HE.out)
  · have G := Lib.hid (G1.out rfl)
    generalize hb2 : hasRB h t = x2 at *
    have HX2 := Lib.hid hb2
    clear hb2
    generalize hb3 : refB h.l z = x3 at *
    have HX3 := Lib.hid hb3
    clear hb3
    cases x2
    · have HE : Hid (ok = false) := by unfold Hid; rw [hok]; simp
      clear hok
      go_enter Try.func168, Try.ntmps168
      go_wp2_with (first
        | (go_at_call 106; refine HC.out.mono ?_; rintro e w1 ⟨rfl, hb1⟩; have B1 := Lib.hid (bst HB.out hb1 HB.out.size); have A1 := Lib.hid (A0.out.below hb1); have P1 := Lib.hid (P0.out.below hb1); have R1 := Lib.hid (R0.out.below hb1); have d10 := P1.out.c0; have d11 := P1.out.c1; have d12 := P1.out.c2; clear hb1)
        | (go_at_call 199; refine (c_hasRoot a b c h t _ A1.out).mono ?_; rintro e w2 ⟨rfl, hb2⟩; rw [HX2.out]; have B2 := Lib.hid (bst B1.out hb2 B1.out.size); have A2 := Lib.hid (A1.out.below hb2); have P2 := Lib.hid (P1.out.below hb2); have R2 := Lib.hid (R1.out.below hb2); have d20 := P2.out.c0; have d21 := P2.out.c1; have d22 := P2.out.c2; clear hb2)
        | (refine wl_storeH rfl _ _ rfl (w.heap.size + 1) (.slice none 0 0) (.slice none 0 0) (.slice none 0 0) _ _ _ R2.out rfl rfl rfl rfl rfl ?_))
      refine bodyPost_ret (res_row_slot Try.results168 (Row.put R2.out (c3 (.slice none 0 0) (.slice none 0 0) (.slice none 0 0))) rfl rfl Try.underlying32 rfl info_heap) rfl (endH_no (below_setRow B2.out (by omega) _) (E1.out HE.out) HE.out)
    · skip
      cases x3
      · have HE : Hid (ok = false) := by unfold Hid; rw [hok]; simp
        clear hok
        go_enter Try.func168, Try.ntmps168
        go_wp2_with (first
          | (go_at_call 106; refine HC.out.mono ?_; rintro e w1 ⟨rfl, hb1⟩; have B1 := Lib.hid (bst HB.out hb1 HB.out.size); have A1 := Lib.hid (A0.out.below hb1); have P1 := Lib.hid (P0.out.below hb1); have R1 := Lib.hid (R0.out.below hb1); have d10 := P1.out.c0; have d11 := P1.out.c1; have d12 := P1.out.c2; clear hb1)
          | (go_at_call 199; refine (c_hasRoot a b c h t _ A1.out).mono ?_; rintro e w2 ⟨rfl, hb2⟩; rw [HX2.out]; have B2 := Lib.hid (bst B1.out hb2 B1.out.size); have A2 := Lib.hid (A1.out.below hb2); have P2 := Lib.hid (P1.out.below hb2); have R2 := Lib.hid (R1.out.below hb2); have d20 := P2.out.c0; have d21 := P2.out.c1; have d22 := P2.out.c2; clear hb2)
          | (go_at_call 190; refine (c_isReference a b c h.l z _ A2.out.l).mono ?_; rintro e w3 ⟨rfl, hb3⟩; rw [HX3.out]; have B3 := Lib.hid (bst B2.out hb3 B2.out.size); have A3 := Lib.hid (A2.out.below hb3); have P3 := Lib.hid (P2.out.below hb3); have R3 := Lib.hid (R2.out.below hb3); have d30 := P3.out.c0; have d31 := P3.out.c1; have d32 := P3.out.c2; clear hb3)
          | (refine wl_storeH rfl _ _ rfl (w.heap.size + 1) (.slice none 0 0) (.slice none 0 0) (.slice none 0 0) _ _ _ R3.out rfl rfl rfl rfl rfl ?_))
        refine bodyPost_ret (res_row_slot Try.results168 (Row.put R3.out (c3 (.slice none 0 0) (.slice none 0 0) (.slice none 0 0))) rfl rfl Try.underlying32 rfl info_heap) rfl (endH_no (below_setRow B3.out (by omega) _) (E1.out HE.out) HE.out)
      · skip
        have HE : Hid (ok = true) := by unfold Hid; rw [hok]; rfl
        clear hok
        go_enter Try.func168, Try.ntmps168
        go_wp2_with (first
          | (go_at_call 106; refine HC.out.mono ?_; rintro e w1 ⟨rfl, hb1⟩; have B1 := Lib.hid (bst HB.out hb1 HB.out.size); have A1 := Lib.hid (A0.out.below hb1); have P1 := Lib.hid (P0.out.below hb1); have R1 := Lib.hid (R0.out.below hb1); have d10 := P1.out.c0; have d11 := P1.out.c1; have d12 := P1.out.c2; clear hb1)
          | (go_at_call 199; refine (c_hasRoot a b c h t _ A1.out).mono ?_; rintro e w2 ⟨rfl, hb2⟩; rw [HX2.out]; have B2 := Lib.hid (bst B1.out hb2 B1.out.size); have A2 := Lib.hid (A1.out.below hb2); have P2 := Lib.hid (P1.out.below hb2); have R2 := Lib.hid (R1.out.below hb2); have d20 := P2.out.c0; have d21 := P2.out.c1; have d22 := P2.out.c2; clear hb2)
          | (go_at_call 190; refine (c_isReference a b c h.l z _ A2.out.l).mono ?_; rintro e w3 ⟨rfl, hb3⟩; rw [HX3.out]; have B3 := Lib.hid (bst B2.out hb3 B2.out.size); have A3 := Lib.hid (A2.out.below hb3); have P3 := Lib.hid (P2.out.below hb3); have R3 := Lib.hid (R2.out.below hb3); have d30 := P3.out.c0; have d31 := P3.out.c1; have d32 := P3.out.c2; clear hb3))
        refine (c_copyHeap a b c h _ A3.out G.out).mono ?_
        rintro e w9 ⟨a', b', c', rfl, ho, hb9⟩
        have B9 := Lib.hid (bst B3.out hb9 B3.out.size); have R9 := Lib.hid (R3.out.below hb9)
        have hfl := hasRB_iff HX2.out
        obtain ⟨k, rfl, hk⟩ := hfl
        obtain ⟨pa, qa, pb, qb, gc, cc, x, rfl, rfl, rfl, q2, q3, hgr, rA, rR, oN⟩ := setRt_facts ho hk z R9.out
        have hE2 := E2.out HE.out
        rw [Int.toNat_natCast] at hE2
        have RA := Lib.hid rA; have RR := Lib.hid rR; have ON := Lib.hid oN; have EE := Lib.hid hE2
        have LL : Hid (w.heap.size ≤ gc) := Nat.le_trans B3.out.size hgr
        have L9 : Hid (w.heap.size ≤ w9.heap.size) := B9.out.size
        have LK := Lib.hid B3.out.size
        clear rA rR oN hE2 ho hb9 hgr
        have i1 : (k : Int) < (h.r.length : Int) := by omega
        have j1 : (0 : Int) ≤ (k : Int) := by omega
        generalize h.f.length = nf at *
        generalize h.l.length = nl at *
        generalize h.r.length = nr at *
        go_wp2_with (first
          | (refine wl_loadH rfl _ rfl w9.heap.size _ _ _ RA.out rfl ?_)
          | (refine wl_storeH rfl _ _ rfl (w.heap.size + 1) (.slice pa nf qa) (.slice pb nl qb) (.slice (some ⟨gc, 0, none⟩) nr cc) _ _ _ RR.out rfl rfl rfl rfl rfl ?_))
        refine bodyPost_ret (res_row_slot Try.results168 (Row.put RR.out (c3 (.slice pa nf qa) (.slice pb nl qb) (.slice (some ⟨gc, 0, none⟩) nr cc))) rfl rfl Try.underlying32 rfl info_heap) rfl (endH_yes (below_setRow ((B9.out.alloc L9.out _).setCell (p := ⟨gc, k, none⟩) LL.out _) (by omega) _) (ON.out.wholeRow RR.out _) LK.out (by rw [size_setRow, World.size_setCell, World.size_alloc]; omega) EE.out HE.out)
end Go.Proofs.Ytbmfkgfmibpkjaa
namespace Go.Proofs.Ytbmfkgfmibpkjaa
open Go.RowKit Ph

theorem putLiveB {w : World} {lo hi : Nat} {a b c : Value} {h : H} (k : OwnH w lo hi a b c h) {j : Nat} (hj : j < h.l.length) (x : Bool) : ∃ gb cb, b = .slice (some ⟨gb, 0, none⟩) h.l.length cb ∧ w.cell? ⟨gb, j, none⟩ = some (.bool (h.l.getD j false)) ∧ w.frozen? ⟨gb, j, none⟩ = false ∧ OwnH (w.setCell ⟨gb, j, none⟩ (.bool x)) lo hi a b c ⟨h.f, h.l.set j x, h.r⟩ ∧ Chg lo hi w (w.setCell ⟨gb, j, none⟩ (.bool x)) := by
  obtain ⟨us, hf⟩ := k
  have hl := hf.live
  rcases hl.shape with ⟨_, h0⟩ | ⟨gb, cb, hb⟩
  · rw [h0] at hj; simp at hj
  have hl2 := hl
  rw [hb] at hl2
  obtain ⟨s1, s2, s3, s4⟩ := hl2.stored rfl hj x
  exact ⟨gb, cb, hb, s3, s4, ⟨us, hf.setLive (by rw [hb]; exact s2) (by rw [hb]; exact s1)⟩, Chg.of_grown s2 fun g hg => by
    cases hg
    have := Fam.blk hf (k := 1) (g := gb) (by omega) (by show b.ownBlock = _; rw [hb]; rfl)
    exact ⟨this.1, this.2.1⟩⟩
end Go.Proofs.Ytbmfkgfmibpkjaa
namespace Go.Proofs.Ytbmfkgfmibpkjaa
open Go.RowKit Ph

theorem endHI_no {w w' : World} {h : H} {n : Int} {ok : Bool} (hb : Below w.heap.size w w') (h1 : h = ⟨[], [], []⟩) (h2 : n = 0) (h3 : ok = false) : EndHI h n ok w (.returned (.tuple #[hv (.slice none 0 0) (.slice none 0 0) (.slice none 0 0), .int .i64 0, .bool false])) w' := by
  subst h1; subst h2; subst h3
  exact ⟨_, _, _, rfl, OwnH.nil w' _ _, hb⟩
theorem endHI_yes {w w' : World} {h h' : H} {n n' : Int} {ok : Bool} {a b c : Value} {lo hi : Nat} (hb : Below w.heap.size w w') (ho : OwnH w' lo hi a b c h') (hl : w.heap.size ≤ lo) (hi' : hi ≤ w'.heap.size) (h1 : h = h') (h2 : n = n') (h3 : ok = true) : EndHI h n ok w (.returned (.tuple #[hv a b c, .int .i64 n', .bool true])) w' := by
  subst h1; subst h2; subst h3
  exact ⟨_, _, _, rfl, ho.wide hl hi', hb⟩
theorem res_row_slot2 {P : Program} {fn : Func} {p q r : Tmp} {ty : TypeId} (h : fn.results = #[.cell p ty, .tmp q, .tmp r]) {tmps : Array Value} {w : World} {g : Nat} {t : TypeId} {cs : Array Value} {d : TypeDesc} {v u : Value} (hg : Row w g t cs)
    (hp : tmps.getD p undef = .pointer (some ⟨g, 0, none⟩)) (hq : tmps.getD q undef = v) (hr : tmps.getD r undef = u) (hu : P.underlying ty = some d) (hd : (match d with | .struct _ | .array _ _ => true | _ => false) = true) (hi : (P.info? ty).map (·.size) = some cs.size) :
    (results fn tmps).run P w = .ok (.tuple #[.agg cs, v, u]) w := by
  have hp' : tmps[p]?.getD undef = .pointer (some ⟨g, 0, none⟩) := by simpa using hp
  have hq' : tmps[q]?.getD undef = v := by simpa using hq
  have hr' : tmps[r]?.getD undef = u := by simpa using hr
  simp [results, h, hp', hq', hr', asAddr, run_loadVar_row w g t ty cs (0, 0) d hg hu hd hi]
end Go.Proofs.Ytbmfkgfmibpkjaa
namespace Go.Proofs.Ytbmfkgfmibpkjaa.Ph
/-- The first index, from k on, that is not live (so far all below k are). -/
def placeOf (l : List Bool) : Nat := l.findIdx (fun b => !b)
theorem place_le (l : List Bool) : placeOf l ≤ l.length := List.findIdx_le_length
theorem place_of {l : List Bool} {k : Nat} (hk : k < l.length) (h1 : ∀ i, i < k → l.getD i false = true) (h2 : l.getD k false = false) : placeOf l = k := by
  unfold placeOf
  have e : l[k] = false := by simpa [List.getD, List.getElem?_eq_getElem hk] using h2
  refine (List.findIdx_eq hk).2 ⟨by rw [e]; rfl, fun j hj => ?_⟩
  have := h1 j hj
  have hj' : j < l.length := by omega
  have e2 : l[j] = true := by simpa [List.getD, List.getElem?_eq_getElem hj'] using this
  rw [e2]; rfl
theorem place_none {l : List Bool} (h1 : ∀ i, i < l.length → l.getD i false = true) : placeOf l = l.length := by
  unfold placeOf
  rw [List.findIdx_eq_length]
  intro x hx
  obtain ⟨i, hi, rfl⟩ := List.getElem_of_mem hx
  have := h1 i hi
  have e : l[i] = true := by simpa [List.getD, List.getElem?_eq_getElem hi] using this
  rw [e]; rfl
end Go.Proofs.Ytbmfkgfmibpkjaa.Ph
namespace Go.Proofs.Ytbmfkgfmibpkjaa
open Go.RowKit Ph

set_option maxHeartbeats 1600000 in
theorem c_slIndex (v : Value) (l : List Bool) (w : World) (hA : BoolsAt w v l) (hm : l.length ≤ 1000) : Calls Try.prog 217 #[v, .bool false] w fun e w' => e = .returned (.int .i64 (if placeOf l < l.length then (placeOf l : Int) else -1)) ∧ w = w' := by
  obtain ⟨a, c, rfl, hA⟩ := hA
  have HP := Lib.hid (fun k => place_of (l := l) (k := k)); have HQ := Lib.hid (place_none (l := l))
  generalize hr : (if placeOf l < l.length then (placeOf l : Int) else -1) = r
  have HR : Hid (r = if placeOf l < l.length then (placeOf l : Int) else -1) := hr.symm
  clear hr
  have HA := Lib.hid hA
  clear hA
  generalize hn : l.length = n at *
  clear hn
  go_enter Try.func217, Try.ntmps217
  go_wp2
  go_loop [8] (fun i => ∃ k : Nat, k ≤ n ∧ i = .int .i64 k ∧ Hid (∀ i, i < k → l.getD i false = true)) (fun i => n - (intOf i).toNat)
  case atStart => exact ⟨0, Nat.zero_le _, rfl, fun i hi => by omega⟩
  case round =>
    obtain ⟨k, hk, rfl, ht⟩ := hrel
    by_cases hlt : k < n
    · obtain ⟨g, off, rfl, hc⟩ := HA.out (by omega)
      have q := hc k hlt
      have i1 : (k : Int) < (n : Int) := by omega
      clear hc
      generalize hx : l.getD k false = x at *
      have HX := Lib.hid hx
      clear hx
      cases x
      · have hp := HP.out k hlt ht.out HX.out
        have HE : Hid (r = (k : Int)) := by unfold Hid; rw [HR.out, hp, if_pos hlt]
        clear hp
        go_wp2
        go_ret
        exact ⟨r_i HE.out.symm, rfl⟩
      · have HE : Hid (∀ i, i < k + 1 → l.getD i false = true) := fun i hi => by
          by_cases e : i = k
          · subst e; exact HX.out
          · exact ht.out i (by omega)
        go_wp2
        go_round
        case rel => exact ⟨k + 1, by omega, by go_num, HE.out⟩
        case measure => simp [intOf]; omega
    · obtain rfl : k = n := by omega
      have hp := HQ.out ht.out
      have HE : Hid (r = -1) := by unfold Hid; rw [HR.out, hp, if_neg (by omega)]
      clear hp
      go_wp2
      go_ret
      exact ⟨r_i HE.out.symm, rfl⟩
set_option maxHeartbeats 1600000 in
theorem c_freePlace (a b c : Value) (h : H) (w : World) (hA : HeapAt w a b c h) (hG : Ph.Good h) : Calls Try.prog 213 #[hv a b c] w fun e w' => e = .returned (.tuple #[.int .i64 (placeOf h.l : Int), .bool (decide (placeOf h.l < 12))]) ∧ Below w.heap.size w w' := by
  have hb0 := below1 w (.cells (c3 a b c) 32)
  have A0 := Lib.hid (hA.below hb0)
  have HB := Lib.hid hb0
  have R0 := Lib.hid (show RowH _ _ a b c from Row.new w 32 (c3 a b c))
  obtain ⟨la, lc, rfl⟩ := hA.l.shape
  have hl12 : h.l.length ≤ 12 := by have := hG.ll; have := hG.n; omega
  have HC := Lib.hid (c_slIndex _ h.l _ A0.out.l (by omega))
  have hpl := place_le h.l
  clear hA hG hb0
  generalize h.l.length = n at *
  generalize hp : placeOf h.l = p at *
  clear hp
  have c1 := R0.out.c1
  by_cases hpn : p < n
  · rw [if_pos hpn] at HC
    have i1 : (0 : Int) ≤ (p : Int) := by omega
    have HD : Hid (decide (p < 12) = true) := decide_eq_true (by omega)
    go_enter Try.func213, Try.ntmps213
    go_wp2_with (go_at_call 217; refine HC.out.mono ?_; rintro e w1 ⟨rfl, rfl⟩)
    go_ret2
    exact ⟨r_ib rfl HD.out.symm, HB.out⟩
  · rw [if_neg hpn] at HC
    obtain rfl : p = n := by omega
    have HD : Hid (decide ((p : Int) < 12) = decide (p < 12)) := by unfold Hid; apply decide_eq_decide.2; omega
    go_enter Try.func213, Try.ntmps213
    go_wp2_with (go_at_call 217; refine HC.out.mono ?_; rintro e w1 ⟨rfl, rfl⟩)
    go_quiet (fail)
    go_wp2_with fail
    go_ret2
    exact ⟨r_ib rfl HD.out, below_drewN HB.out _⟩
end Go.Proofs.Ytbmfkgfmibpkjaa
