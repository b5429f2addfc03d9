/- What the laws rest on, part 8. -/
import Derived.Test.YtbmfkgfmibpkjaaPC7
namespace Go.Proofs.Ytbmfkgfmibpkjaa
open Go.RowKit Ph
theorem OwnV.store4 {w : World} {B g n c : Nat} {zs : List Mv} (h : OwnV w B (.slice (some ⟨g, 0, none⟩) n c) zs) (hn : zs.length = n) {j : Nat} (hj : j < n) (m : Mv) :
    OwnV ((((w.setCell ⟨g, j * 4, none⟩ (.int .i64 m.k)).setCell ⟨g, j * 4 + 1, none⟩ (.int .i64 m.a)).setCell ⟨g, j * 4 + 2, none⟩ (.int .i64 m.b)).setCell ⟨g, j * 4 + 3, none⟩ (.int .i64 m.t)) B (.slice (some ⟨g, 0, none⟩) n c) (zs.set j m) ∧ w.grownBy ((((w.setCell ⟨g, j * 4, none⟩ (.int .i64 m.k)).setCell ⟨g, j * 4 + 1, none⟩ (.int .i64 m.a)).setCell ⟨g, j * 4 + 2, none⟩ (.int .i64 m.b)).setCell ⟨g, j * 4 + 3, none⟩ (.int .i64 m.t)) (some g) := by
  unfold OwnV at h
  rw [hn] at h
  obtain ⟨s1, s2⟩ := h.stored (j * 4) (.int .i64 m.k)
  obtain ⟨t1, t2⟩ := s1.stored (j * 4 + 1) (.int .i64 m.a)
  obtain ⟨u1, u2⟩ := t1.stored (j * 4 + 2) (.int .i64 m.b)
  obtain ⟨v1, v2⟩ := u1.stored (j * 4 + 3) (.int .i64 m.t)
  refine ⟨?_, grownBy_trans (grownBy_trans (grownBy_trans s2 t2) u2) v2⟩
  unfold OwnV
  rw [List.length_set, hn]
  rw [flatM_set zs j m (by omega)] at v1
  exact v1
theorem OwnV.cells {w : World} {B g n c : Nat} {zs : List Mv} (h : OwnV w B (.slice (some ⟨g, 0, none⟩) n c) zs) (hn : zs.length = n) {j : Nat} (hj : j < n) :
    (w.cell? ⟨g, j * 4, none⟩ = some (.int .i64 (zs.getD j zM).k) ∧ w.cell? ⟨g, j * 4 + 1, none⟩ = some (.int .i64 (zs.getD j zM).a) ∧ w.cell? ⟨g, j * 4 + 2, none⟩ = some (.int .i64 (zs.getD j zM).b) ∧ w.cell? ⟨g, j * 4 + 3, none⟩ = some (.int .i64 (zs.getD j zM).t)) ∧ w.frozen? ⟨g, j * 4, none⟩ = false ∧ w.frozen? ⟨g, j * 4 + 1, none⟩ = false ∧ w.frozen? ⟨g, j * 4 + 2, none⟩ = false ∧ w.frozen? ⟨g, j * 4 + 3, none⟩ = false := by
  unfold OwnV at h
  rw [hn] at h
  rw [h.cellAt _ (by omega), h.cellAt _ (by omega), h.cellAt _ (by omega), h.cellAt _ (by omega)]
  exact ⟨⟨flatM_get zs j 0 (by omega) (by omega), flatM_get zs j 1 (by omega) (by omega), flatM_get zs j 2 (by omega) (by omega), flatM_get zs j 3 (by omega) (by omega)⟩, h.frozenAt _, h.frozenAt _, h.frozenAt _, h.frozenAt _⟩
def upV (k : Int) (n : Nat) : List Mv := (List.range n).map (fun i : Nat => ⟨k + 4 * (i : Int), k + 4 * (i : Int) + 1, k + 4 * (i : Int) + 1 + 1, k + 4 * (i : Int) + 1 + 1 + 1⟩)
theorem upV_length (k : Int) (n : Nat) : (upV k n).length = n := by simp [upV]
def markV (k : Int) (zs : List Mv) (j : Nat) : List Mv := upV k j ++ zs.drop j
theorem markV_length (k : Int) (zs : List Mv) {j : Nat} (h : j ≤ zs.length) : (markV k zs j).length = zs.length := by simp [markV, upV_length]; omega
theorem markV_zero (k : Int) (zs : List Mv) : markV k zs 0 = zs := by simp [markV, upV]
theorem markV_all (k : Int) (zs : List Mv) : markV k zs zs.length = upV k zs.length := by simp [markV]
theorem markV_set (k : Int) (zs : List Mv) {j : Nat} (h : j < zs.length) : (markV k zs j).set j ⟨k + 4 * (j : Int), k + 4 * (j : Int) + 1, k + 4 * (j : Int) + 1 + 1, k + 4 * (j : Int) + 1 + 1 + 1⟩ = markV k zs (j + 1) := by
  unfold markV
  have e : zs.drop j = zs[j] :: zs.drop (j + 1) := (List.drop_eq_getElem_cons h)
  rw [e, List.set_append_right _ _ (by rw [upV_length]; omega), upV_length, Nat.sub_self, List.set_cons_zero]
  simp [upV, List.range_succ]

set_option maxHeartbeats 1600000 in
theorem c_markMoveS (v : Value) (zs : List Mv) (B : Nat) (k : Int) (w : World) (hown : OwnV w B v zs) (h0 : 0 ≤ k) (hm : k + 4 * zs.length ≤ 9223372036854775806) :
    Calls Try.prog 35 #[v, .int .i64 k] w fun e w' => e = .returned (.int .i64 (k + 4 * zs.length)) ∧ OwnV w' B v (upV k zs.length) ∧ w.grownBy w' v.ownBlock := by
  have hv : (v = .slice none 0 0 ∧ zs = []) ∨ ∃ g cap, v = .slice (some ⟨g, 0, none⟩) zs.length cap := by
    rcases hown.2 with ⟨h1, h2⟩ | ⟨g, cap, cur, h1, _⟩
    · exact .inl ⟨h1, List.eq_nil_of_length_eq_zero h2⟩
    · exact .inr ⟨g, cap, h1⟩
  rcases hv with ⟨rfl, rfl⟩ | ⟨g, cap, rfl⟩
  · go_enter Try.func35, Try.ntmps35
    go_wp2
    refine wp_loop_rounds 1 ?_
    rw [rounds_succ]
    go_wp2
    go_ret
    exact ⟨r_i (by simp), hown, World.grownBy.refl _ _⟩
  · have HO := Lib.hid hown; clear hown
    generalize hn : zs.length = n at *
    have HN := Lib.hid hn; clear hn
    go_enter Try.func35, Try.ntmps35
    go_wp2
    go_loopw [1, 5] (fun kk i wr => ∃ j : Nat, j ≤ n ∧ i = .int .i64 j ∧ kk = .int .i64 (k + 4 * j) ∧ OwnV wr B (.slice (some ⟨g, 0, none⟩) n cap) (markV k zs j) ∧ w.grownBy wr (some g)) (fun _ i _ => n - (intOf i).toNat)
    case atStart => exact ⟨0, Nat.zero_le _, rfl, by simp, by rw [markV_zero]; exact HO.out, World.grownBy.refl _ _⟩
    case round =>
      obtain ⟨j, hj, rfl, rfl, hown, hg⟩ := hrel
      by_cases hlt : j < n
      · have hlen := markV_length k zs (j := j) (by rw [HN.out]; exact hj)
        rw [HN.out] at hlen
        obtain ⟨⟨q0, q1, q2, q3⟩, f0, f1, f2, f3⟩ := hown.cells hlen hlt
        generalize (markV k zs j).getD j zM = y at q0 q1 q2 q3
        obtain ⟨y0, y1, y2, y3⟩ := y
        obtain ⟨s1, s2⟩ := hown.store4 hlen hlt ⟨k + 4 * j, k + 4 * j + 1, k + 4 * j + 1 + 1, k + 4 * j + 1 + 1 + 1⟩
        rw [markV_set k zs (by rw [HN.out]; exact hlt)] at s1
        have S1 := Lib.hid s1
        have S2 := Lib.hid s2
        clear s1 s2 hown hlen
        go_wp2
        go_roundw
        case rel => exact ⟨j + 1, by omega, by go_num, by go_num, S1.out, grownBy_trans hg S2.out⟩
        case measure => simp [intOf]; omega
      · obtain rfl : j = n := by omega
        go_wp2
        go_ret
        exact ⟨rfl, by rw [← HN.out, ← markV_all, HN.out]; exact hown, hg⟩
/-- What lies in a row of noughts of which the first j have been filled. -/
def fillV (zs : List Mv) (j : Nat) : List Mv := zs.take j ++ List.replicate (zs.length - j) zM
theorem fillV_length (zs : List Mv) {j : Nat} (h : j ≤ zs.length) : (fillV zs j).length = zs.length := by simp [fillV]; omega
theorem fillV_zero (zs : List Mv) : fillV zs 0 = List.replicate zs.length zM := by simp [fillV]
theorem fillV_all (zs : List Mv) : fillV zs zs.length = zs := by simp [fillV]
theorem fillV_set (zs : List Mv) {j : Nat} (h : j < zs.length) : (fillV zs j).set j (zs.getD j zM) = fillV zs (j + 1) := by
  unfold fillV
  have e : List.replicate (zs.length - j) zM = zM :: List.replicate (zs.length - (j + 1)) zM := by
    rw [show zs.length - j = (zs.length - (j + 1)) + 1 by omega, List.replicate_succ]
  rw [e, List.set_append_right _ _ (by simp; omega), List.length_take, Nat.min_eq_left (by omega), Nat.sub_self, List.set_cons_zero, List.take_succ_eq_append_getElem h]
  have e2 : zs.getD j zM = zs[j] := by simp [List.getD, List.getElem?_eq_getElem h]
  rw [e2, List.append_assoc]
  rfl
theorem flatM_replicate (n : Nat) : (madeCells (Value.agg #[.int .i64 0, .int .i64 0, .int .i64 0, .int .i64 0]).cells (n * 4)).toList = flatM (List.replicate n zM) := by
  apply List.ext_getElem?
  intro j
  by_cases hj : j < n * 4
  · have h1 : (madeCells (Value.agg #[.int .i64 0, .int .i64 0, .int .i64 0, .int .i64 0]).cells (n * 4)).toList[j]? = some (.int .i64 0) := by
      have e : (Value.agg #[.int .i64 0, .int .i64 0, .int .i64 0, .int .i64 0]).cells = #[.int .i64 0, .int .i64 0, .int .i64 0, .int .i64 0] := rfl
      rw [e]
      have hm : j % 4 = 0 ∨ j % 4 = 1 ∨ j % 4 = 2 ∨ j % 4 = 3 := by omega
      rcases hm with hm | hm | hm | hm <;> simp [madeCells, hj, hm]
    rw [h1]
    have hlt : j / 4 < n := by omega
    have hg := flatM_get (List.replicate n zM) (j / 4) (j % 4) (by simp; exact hlt) (by omega)
    rw [show j / 4 * 4 + j % 4 = j by omega] at hg
    rw [hg]
    have e0 : (List.replicate n zM).getD (j / 4) zM = zM := by simp [List.getD, hlt]
    rw [e0]
    have hm : j % 4 = 0 ∨ j % 4 = 1 ∨ j % 4 = 2 ∨ j % 4 = 3 := by omega
    rcases hm with hm | hm | hm | hm <;> rw [hm] <;> rfl
  · rw [List.getElem?_eq_none (by simp [madeCells]; omega), List.getElem?_eq_none (by rw [flatM_length]; simp; omega)]

set_option maxHeartbeats 1600000 in
theorem c_toMoveS (v : Value) (zs : List Mv) (w : World) (hA : MovesAt w v zs) (hm : zs.length ≤ 1048576) :
    Calls Try.prog 29 #[v] w fun e w' => ∃ v', e = .returned v' ∧ OwnV w' w.heap.size v' zs ∧ Below w.heap.size w w' := by
  obtain ⟨i0, hi, hz0, hz1, hz2⟩ := info_parts info_mvs
  obtain ⟨a, ca, rfl, hA⟩ := hA
  generalize hn : zs.length = n at *
  have HN := Lib.hid hn; clear hn
  have HA := Lib.hid hA; clear hA
  go_enter Try.func29, Try.ntmps29
  go_wp2_with (refine wpList_make_full _ rfl _ _ 49 rfl w.heap.size 38 i0 (.agg #[.int .i64 0, .int .i64 0, .int .i64 0, .int .i64 0]) 4 Try.underlying49 hi hz0 hz1 .i64 .i64 _ _ n rfl rfl rfl rfl (by rw [hz2]; omega) (by unfold maxLen; omega) (Nat.le_refl _) ?_; intro w1 hown hgr; rw [flatM_replicate] at hown; have hb := (Below.refl w.heap.size w).grown hgr (Nat.le_refl _) (fun k hk => by cases hk); have HO := Lib.hid hown; clear hown hgr)
  go_loopw [4] (fun i wr => ∃ j : Nat, j ≤ n ∧ i = .int .i64 j ∧ OwnV wr w.heap.size (.slice (some ⟨w.heap.size, 0, none⟩) n n) (fillV zs j) ∧ Below w.heap.size w wr) (fun i _ => n - (intOf i).toNat)
  case atStart =>
    refine ⟨0, Nat.zero_le _, rfl, ?_, hb⟩
    unfold OwnV
    rw [fillV_length zs (Nat.zero_le _), HN.out, fillV_zero, HN.out]
    exact HO.out
  case round =>
    obtain ⟨j, hj, rfl, hown, hbr⟩ := hrel
    by_cases hlt : j < n
    · obtain ⟨b, off, ha, hc⟩ := HA.out (by omega)
      obtain ⟨q0, q1, q2, q3⟩ := hc j hlt
      replace q0 := cellBelow hbr (Nat.le_refl _) q0
      replace q1 := cellBelow hbr (Nat.le_refl _) q1
      replace q2 := cellBelow hbr (Nat.le_refl _) q2
      replace q3 := cellBelow hbr (Nat.le_refl _) q3
      clear hc
      have hlen := fillV_length zs (j := j) (by rw [HN.out]; exact hj)
      rw [HN.out] at hlen
      generalize hz : zs.getD j ⟨0, 0, 0, 0⟩ = z at q0 q1 q2 q3
      obtain ⟨z0, z1, z2, z3⟩ := z
      have HZ := Lib.hid hz; clear hz
      have HW := Lib.hid hown; have HBR := Lib.hid hbr; have HLE := Lib.hid hlen
      clear hown hbr hlen
      subst ha
      go_wp2_with fail
      refine (c_toMove ⟨z0, z1, z2, z3⟩ _).mono ?_
      rintro e w2 ⟨rfl, hb2⟩
      have o2 := OwnV.below HW.out hb2
      obtain ⟨⟨x0, x1, x2, x3⟩, f0, f1, f2, f3⟩ := o2.cells HLE.out hlt
      generalize (fillV zs j).getD j zM = y at x0 x1 x2 x3
      obtain ⟨y0, y1, y2, y3⟩ := y
      obtain ⟨s1, s2⟩ := o2.store4 HLE.out hlt ⟨z0, z1, z2, z3⟩
      rw [← HZ.out, fillV_set zs (by rw [HN.out]; exact hlt)] at s1
      have e9 : zs.getD j ⟨0, 0, 0, 0⟩ = ⟨z0, z1, z2, z3⟩ := HZ.out
      rw [e9] at s1
      have S1 := Lib.hid s1
      have B2 := bst HBR.out hb2 HBR.out.size
      have S2 := Lib.hid (B2.grown s2 B2.size (fun k hk => by cases hk; exact Nat.le_refl _))
      clear s1 s2 o2 q0 q1 q2 q3 hb2 B2 e9
      go_wp2
      go_roundw
      case rel => exact ⟨j + 1, by omega, by go_num, S1.out, S2.out⟩
      case measure => simp [intOf]; omega
    · obtain rfl : j = n := by omega
      go_wp2
      go_ret
      refine ⟨_, rfl, ?_, hbr⟩
      have := hown
      rw [← HN.out, fillV_all, HN.out] at this
      exact this
end Go.Proofs.Ytbmfkgfmibpkjaa
namespace Go.Proofs.Ytbmfkgfmibpkjaa
open Go.RowKit Ph
/-- A marking and a list of bools of their own: the bools' block lies outside the marking's stretch. -/
def EndMM (h : H) (cs : List Int) (ds : List Bool) (ok : Bool) (w : World) (e : Ending) (w' : World) : Prop :=
  ∃ a b c d t lo hi, e = .returned (.tuple #[mv a b c d, t, .bool ok]) ∧ OwnM w' lo hi a b c d h cs ∧ OwnBs w' w.heap.size t ds ∧ (∀ g, t.ownBlock = some g → g < lo ∨ hi ≤ g) ∧ w.heap.size ≤ lo ∧ lo ≤ hi ∧ hi ≤ w'.heap.size ∧ Below w.heap.size w w'
theorem endMM_none {w w' : World} {h : H} {cs : List Int} {ds : List Bool} {ok : Bool} (hb : Below w.heap.size w w') (h1 : h = ⟨[], [], []⟩) (h2 : cs = []) (h4 : ds = []) (h3 : ok = false) : EndMM h cs ds ok w (.returned (.tuple #[mv nilS nilS nilS nilS, .slice none 0 0, .bool false])) w' := by
  subst h1; subst h2; subst h3; subst h4
  exact ⟨_, _, _, _, _, w.heap.size, w'.heap.size, rfl, OwnM.nil w' _ _ hb.size, OwnBs.nil _ _, fun g hg => (by cases hg), Nat.le_refl _, hb.size, Nat.le_refl _, hb⟩
theorem endMM_out {w w' : World} {h h' : H} {cs cs' : List Int} {ds ds' : List Bool} {ok : Bool} {a b c d t : Value} {lo hi : Nat} (hb : Below w.heap.size w w') (ho : OwnM w' lo hi a b c d h' cs') (hl : w.heap.size ≤ lo) (hlh : lo ≤ hi) (hh : hi ≤ w'.heap.size) (hd : OwnBs w' w.heap.size t ds') (ht : ∀ g, t.ownBlock = some g → g < lo ∨ hi ≤ g) (h1 : h = h') (h2 : cs = cs') (h4 : ds = ds') (h3 : ok = true) : EndMM h cs ds ok w (.returned (.tuple #[mv a b c d, t, .bool true])) w' := by
  subst h1; subst h2; subst h3; subst h4
  exact ⟨_, _, _, _, _, lo, hi, rfl, ho, hd, ht, hl, hlh, hh, hb⟩
theorem endMM_yes {w w' : World} {h h' : H} {cs cs' : List Int} {ds ds' : List Bool} {ok : Bool} {a b c d t : Value} {lo hi : Nat} (hb : Below w.heap.size w w') (ho : OwnM w' lo hi a b c d h' cs') (hl : w.heap.size ≤ lo) (hlh : lo ≤ hi) (hh : hi ≤ w'.heap.size) (hd : OwnBs w' w.heap.size t ds') (ht : ∀ g, t.ownBlock = some g → g < lo) (h1 : h = h') (h2 : cs = cs') (h4 : ds = ds') (h3 : ok = true) : EndMM h cs ds ok w (.returned (.tuple #[mv a b c d, t, .bool true])) w' :=
  endMM_out hb ho hl hlh hh hd (fun g hg => .inl (ht g hg)) h1 h2 h4 h3
theorem ne_rowB9 {w : World} {B g : Nat} {T : TypeId} {v : Value} {cs : List Bool} {ds : Array Value} (ho : OwnBs w B v cs) (hr : Row w g T ds) (hT : T ≠ 4) : v.ownBlock ≠ some g := by
  intro hg
  rcases ho.2 with ⟨rfl, _⟩ | ⟨g2, cap, cur, rfl, _, h2, _⟩
  · cases hg
  · cases hg
    unfold Row at hr
    rw [h2] at hr
    cases hr
    exact hT rfl
theorem src_bool9 (W : World) (x : Bool) : SrcAt (W.alloc (.cells #[.bool x] 4)) (.slice (some ⟨W.heap.size, 0, none⟩) 1 1) ([x].map Value.bool) :=
  ⟨_, 1, rfl, fun u hu => by simp at hu; rw [hu]; rfl, fun _ => ⟨W.heap.size, 0, rfl, fun j hj => by simp at hj; subst hj; exact Row.cell (Row.new W 4 #[.bool x]) 0⟩⟩
/-- The marking is read so in every world that differs in t's block alone. -/
def Stab (x : World) (t a b c d : Value) (h : H) (cs : List Int) : Prop := ∀ w'' : World, (∀ i, t.ownBlock ≠ some i → i < x.heap.size → w''.heap[i]? = x.heap[i]?) → x.heap.size ≤ w''.heap.size → HeapAt w'' a b c h ∧ IntsAt w'' d cs
theorem Stab.reads {x : World} {t a b c d : Value} {h : H} {cs : List Int} (k : Stab x t a b c d h cs) : HeapAt x a b c h ∧ IntsAt x d cs := k x (fun _ _ _ => rfl) (Nat.le_refl _)
theorem Stab.below {x y : World} {t a b c d : Value} {h : H} {cs : List Int} (k : Stab x t a b c d h cs) (hb : Below x.heap.size x y) : Stab y t a b c d h cs := fun w'' hh hs => k w'' (fun i hi hl => (hh i hi (Nat.lt_of_lt_of_le hl hb.size)).trans (hb.block i hl)) (Nat.le_trans hb.size hs)
theorem Stab.app {x y : World} {t t' a b c d : Value} {h : H} {cs : List Int} (k : Stab x t a b c d h cs) (hg : x.grownBy y t.ownBlock) (ht : t.ownBlock = t'.ownBlock ∨ t'.ownBlock = some x.heap.size) : Stab y t' a b c d h cs := fun w'' hh hs => k w'' (fun i hi hl => by
    rw [hh i (by
      rcases ht with e | e
      · rw [← e]; exact hi
      · rw [e]; intro q; injection q with q; omega) (Nat.lt_of_lt_of_le hl hg.size)]
    exact hg.block i hl (fun q => hi q.symm)) (Nat.le_trans hg.size hs)
theorem Stab.ofOwn {x : World} {lo hi : Nat} {a b c d : Value} {h : H} {cs : List Int} (k : OwnM x lo hi a b c d h cs) : Stab x nilS a b c d h cs := fun w'' hh hs => by
  have q := OwnM.out (w' := cutW w'' x.heap.size) k fun i _ => by
    by_cases hl : i < x.heap.size
    · rw [cutW_block hl]; exact hh i (fun e => by cases e) hl
    · rw [Array.getElem?_eq_none (by rw [cutW_size hs]; omega), Array.getElem?_eq_none (by omega)]
  exact ⟨q.heap.below (cutW_below hs), q.cols.below (cutW_below hs)⟩
theorem round9 {w x y : World} {gm : Nat} {a b c d t : Value} {ds : List Bool} (hg : x.grownBy y t.ownBlock) (hd : OwnBs x w.heap.size t ds) (hm : RowM x gm a b c d) (hr : RowM x (w.heap.size + 1) nilS nilS nilS nilS) (hb : Below w.heap.size w x) : RowM y gm a b c d ∧ RowM y (w.heap.size + 1) nilS nilS nilS nilS ∧ Below w.heap.size w y :=
  ⟨Row.grownBy hm hg (ne_rowB9 hd hm (by decide)), Row.grownBy hr hg (ne_rowB9 hd hr (by decide)), hb.grown hg hb.size fun g e => (owns_lt hd e).1⟩
end Go.Proofs.Ytbmfkgfmibpkjaa
namespace Go.Proofs.Ytbmfkgfmibpkjaa.Ph
noncomputable def playTo (put : Bool) (m : H × List Int) (ms : List Mv) : Nat → (H × List Int) × List Bool
  | 0 => (m, [])
  | k + 1 => if stepOk (playTo put m ms k).1.1 (playTo put m ms k).1.2 (ms.getD k ⟨0, 0, 0, 0⟩) = true then ((stepH (playTo put m ms k).1.1 (ms.getD k ⟨0, 0, 0, 0⟩), stepC (playTo put m ms k).1.1 (playTo put m ms k).1.2 (ms.getD k ⟨0, 0, 0, 0⟩) put), (playTo put m ms k).2 ++ [true]) else ((playTo put m ms k).1, (playTo put m ms k).2 ++ [false])
theorem playTo_yes {put : Bool} {m : H × List Int} {ms : List Mv} {k : Nat} (h : stepOk (playTo put m ms k).1.1 (playTo put m ms k).1.2 (ms.getD k ⟨0, 0, 0, 0⟩) = true) : playTo put m ms (k + 1) = ((stepH (playTo put m ms k).1.1 (ms.getD k ⟨0, 0, 0, 0⟩), stepC (playTo put m ms k).1.1 (playTo put m ms k).1.2 (ms.getD k ⟨0, 0, 0, 0⟩) put), (playTo put m ms k).2 ++ [true]) := by
  rw [playTo, if_pos h]
theorem playTo_no {put : Bool} {m : H × List Int} {ms : List Mv} {k : Nat} (h : stepOk (playTo put m ms k).1.1 (playTo put m ms k).1.2 (ms.getD k ⟨0, 0, 0, 0⟩) = false) : playTo put m ms (k + 1) = ((playTo put m ms k).1, (playTo put m ms k).2 ++ [false]) := by
  rw [playTo, if_neg (by rw [h]; decide)]
theorem playTo_good {put : Bool} {m : H × List Int} {ms : List Mv} (hm : bothB m.1 m.2 = true) : ∀ k, bothB (playTo put m ms k).1.1 (playTo put m ms k).1.2 = true
  | 0 => hm
  | k + 1 => by
    have ih := playTo_good (put := put) (ms := ms) hm k
    cases e : stepOk (playTo put m ms k).1.1 (playTo put m ms k).1.2 (ms.getD k ⟨0, 0, 0, 0⟩)
    · rw [playTo_no e]; exact ih
    · rw [playTo_yes e]; exact step_good put ih e
theorem playTo_len (put : Bool) (m : H × List Int) (ms : List Mv) : ∀ k, (playTo put m ms k).2.length = k
  | 0 => rfl
  | k + 1 => by
    have ih := playTo_len put m ms k
    cases e : stepOk (playTo put m ms k).1.1 (playTo put m ms k).1.2 (ms.getD k ⟨0, 0, 0, 0⟩)
    · rw [playTo_no e, List.length_append, ih]; rfl
    · rw [playTo_yes e, List.length_append, ih]; rfl
theorem start_both {h : H} (g : Good h) : bothB h (startC h) = true := bothB_iff.2 ⟨g, (Mk.start g).len, (Mk.start g).col⟩
/-- The whole play. -/
noncomputable def playOk (h : H) (ms : List Mv) : Bool := good h && decide (ms.length ≤ 60)
noncomputable def playH (h : H) (ms : List Mv) (put : Bool) : H := if playOk h ms = true then (playTo put (h, startC h) ms ms.length).1.1 else ⟨[], [], []⟩
noncomputable def playC (h : H) (ms : List Mv) (put : Bool) : List Int := if playOk h ms = true then (playTo put (h, startC h) ms ms.length).1.2 else []
noncomputable def playD (h : H) (ms : List Mv) (put : Bool) : List Bool := if playOk h ms = true then (playTo put (h, startC h) ms ms.length).2 else []
end Go.Proofs.Ytbmfkgfmibpkjaa.Ph
namespace Go.Proofs.Ytbmfkgfmibpkjaa
open Go.RowKit Ph
def OwnI (w : World) (lo hi : Nat) (t : Value) (ds : List Bool) : Prop := OwnBs w lo t ds ∧ ∀ g, t.ownBlock = some g → g < hi
def OwnVI (w : World) (lo hi : Nat) (t : Value) (ms : List Mv) : Prop := OwnV w lo t ms ∧ ∀ g, t.ownBlock = some g → g < hi
section
variable {w w' : World} {lo hi : Nat} {t : Value} {ds : List Bool} {ms : List Mv}
theorem OwnI.below (k : OwnI w lo hi t ds) (hb : Below w.heap.size w w') : OwnI w' lo hi t ds := ⟨OwnBs.below k.1 hb, k.2⟩
theorem OwnI.chg {lo' hi' : Nat} (k : OwnI w lo hi t ds) (hc : Chg lo' hi' w w') (hd : hi ≤ lo' ∨ hi' ≤ lo) : OwnI w' lo hi t ds :=
  ⟨owns_block k.1 fun g hg => hc.block g (owns_lt k.1 hg).2 (by have := (owns_lt k.1 hg).1; have := k.2 g hg; omega), k.2⟩
theorem OwnI.reads (k : OwnI w lo hi t ds) : BoolsAt w t ds := owns_bools k.1
theorem OwnVI.below (k : OwnVI w lo hi t ms) (hb : Below w.heap.size w w') : OwnVI w' lo hi t ms := ⟨OwnV.below k.1 hb, k.2⟩
theorem OwnVI.chg {lo' hi' : Nat} (k : OwnVI w lo hi t ms) (hc : Chg lo' hi' w w') (hd : hi ≤ lo' ∨ hi' ≤ lo) : OwnVI w' lo hi t ms :=
  ⟨ownsRow_block k.1 fun g hg => hc.block g (ownsRow_lt k.1 hg).2 (by have := (ownsRow_lt k.1 hg).1; have := k.2 g hg; omega), k.2⟩
theorem OwnVI.reads (k : OwnVI w lo hi t ms) : MovesAt w t ms := k.1.reads
theorem c_markI (k : Int) (h : OwnI w lo hi t ds) (h0 : 0 ≤ k) (hm : k + ds.length ≤ 9223372036854775806) : Calls Try.prog 36 #[t, .int .i64 k] w fun e w' => e = .returned (.int .i64 (k + ds.length)) ∧ OwnI w' lo hi t (upB k ds.length) ∧ Chg lo hi w w' := by
  refine (c_markBools t ds lo k w h.1 h0 hm).mono ?_
  rintro e w1 ⟨rfl, ho, hg⟩
  exact ⟨rfl, ⟨ho, h.2⟩, Chg.of_grown hg fun g hg' => ⟨(owns_lt h.1 hg').1, h.2 g hg'⟩⟩
theorem c_markVI (k : Int) (h : OwnVI w lo hi t ms) (h0 : 0 ≤ k) (hm : k + 4 * ms.length ≤ 9223372036854775806) : Calls Try.prog 35 #[t, .int .i64 k] w fun e w' => e = .returned (.int .i64 (k + 4 * ms.length)) ∧ Chg lo hi w w' := by
  refine (c_markMoveS t ms lo k w h.1 h0 hm).mono ?_
  rintro e w1 ⟨rfl, ho, hg⟩
  exact ⟨rfl, Chg.of_grown hg fun g hg' => ⟨(ownsRow_lt h.1 hg').1, h.2 g hg'⟩⟩
theorem c_toVI (v : Value) (hA : MovesAt w v ms) (hm : ms.length ≤ 1048576) : Calls Try.prog 29 #[v] w fun e w' => ∃ v', e = .returned v' ∧ OwnVI w' w.heap.size w'.heap.size v' ms ∧ Below w.heap.size w w' := by
  refine (c_toMoveS v ms w hA hm).mono ?_
  rintro e w1 ⟨v', rfl, ho, hb⟩
  exact ⟨v', rfl, ⟨ho, fun g hg => (ownsRow_lt ho hg).2⟩, hb⟩
theorem endMM_span {h : H} {cs : List Int} {ok : Bool} {e : Ending} (k : EndMM h cs ds ok w e w') : ∃ a b c d t lo hi bl bh, e = .returned (.tuple #[mv a b c d, t, .bool ok]) ∧ OwnM w' lo hi a b c d h cs ∧ OwnI w' bl bh t ds ∧ (w.heap.size ≤ lo ∧ lo ≤ hi ∧ hi ≤ w'.heap.size ∧ w.heap.size ≤ bl ∧ bl ≤ bh ∧ bh ≤ w'.heap.size ∧ (bh ≤ lo ∨ hi ≤ bl)) ∧ Below w.heap.size w w' := by
  obtain ⟨a, b, c, d, t, lo, hi, he, ho, hd, ht, h1, h2, h3, hb⟩ := k
  cases q : t.ownBlock with
  | none =>
    refine ⟨a, b, c, d, t, lo, hi, w'.heap.size, w'.heap.size, he, ho, ⟨owns_mono hd (fun g hg => by rw [q] at hg; cases hg), fun g hg => by rw [q] at hg; cases hg⟩, ?_, hb⟩
    have := hb.size
    omega
  | some g0 =>
    refine ⟨a, b, c, d, t, lo, hi, g0, g0 + 1, he, ho, ⟨owns_mono hd (fun g hg => by rw [q] at hg; cases hg; exact Nat.le_refl _), fun g hg => by rw [q] at hg; cases hg; omega⟩, ?_, hb⟩
    have h5 := owns_lt hd q
    have h6 := ht g0 q
    omega
end
theorem play_wt (h : H) (ms : List Mv) (put : Bool) : wtH (playH h ms put) + (playC h ms put).length + (playD h ms put).length ≤ 2000 := by
  cases hk : playOk h ms with
  | false =>
    have e1 : playH h ms put = ⟨[], [], []⟩ := by unfold playH; rw [hk]; rfl
    have e2 : playC h ms put = [] := by unfold playC; rw [hk]; rfl
    have e3 : playD h ms put = [] := by unfold playD; rw [hk]; rfl
    rw [e1, e2, e3]
    decide
  | true =>
    have e1 : playH h ms put = (playTo put (h, startC h) ms ms.length).1.1 := by unfold playH; rw [hk]; rfl
    have e2 : playC h ms put = (playTo put (h, startC h) ms ms.length).1.2 := by unfold playC; rw [hk]; rfl
    have e3 : playD h ms put = (playTo put (h, startC h) ms ms.length).2 := by unfold playD; rw [hk]; rfl
    rw [e1, e2, e3, playTo_len]
    unfold playOk at hk
    rw [Bool.and_eq_true, decide_eq_true_eq] at hk
    obtain ⟨g, hl, _⟩ := bothB_iff.1 (playTo_good (put := put) (m := (h, startC h)) (ms := ms) (start_both (good_iff.1 hk.1)) ms.length)
    have q := (good_wt g).1
    have n := g.n
    have := hk.2
    generalize playTo put (h, startC h) ms ms.length = p at *
    omega
end Go.Proofs.Ytbmfkgfmibpkjaa
namespace Go.Proofs.Ytbmfkgfmibpkjaa
open Go.RowKit Ph

def OwnHP (w : World) (lo hi : Nat) (a b c : Value) (h : H) (P : Nat → Prop) : Prop := ∃ us, FamH w lo hi a b c us h ∧ ∀ k, k < h.f.length + 3 → ∀ g, (vH a b c us k).ownBlock = some g → P g
def OwnXP (w : World) (lo hi : Nat) (a b c u : Value) (h : H) (zs : List Int) (P : Nat → Prop) : Prop := ∃ us, Fam w lo hi (h.f.length + 3 + 1) tyH (upd (vH a b c us) (h.f.length + 3) u) (upd (cH us h) (h.f.length + 3) (zs.map (Value.int .i64))) ∧ ∀ k, k < h.f.length + 3 + 1 → ∀ g, (upd (vH a b c us) (h.f.length + 3) u k).ownBlock = some g → P g
section
variable {w w' : World} {lo hi hi' : Nat} {a b c u : Value} {h : H} {zs : List Int} {P : Nat → Prop}
theorem OwnHP.own (k : OwnHP w lo hi a b c h P) : OwnH w lo hi a b c h := by obtain ⟨us, k, _⟩ := k; exact ⟨us, k⟩
theorem OwnHP.of (k : OwnH w lo hi a b c h) (hp : ∀ g, lo ≤ g → g < hi → P g) : OwnHP w lo hi a b c h P := by
  obtain ⟨us, k⟩ := k
  exact ⟨us, k, fun j hj g hg => by have := Fam.blk k hj hg; exact hp g this.1 this.2.1⟩
theorem OwnHP.below (k : OwnHP w lo hi a b c h P) (hb : Below w.heap.size w w') : OwnHP w' lo hi a b c h P := by obtain ⟨us, k, p⟩ := k; exact ⟨us, Fam.below k hb, p⟩
theorem OwnHP.wide (k : OwnHP w lo hi a b c h P) {lo' hi' : Nat} (h1 : lo' ≤ lo) (h2 : hi ≤ hi') : OwnHP w lo' hi' a b c h P := by obtain ⟨us, k, p⟩ := k; exact ⟨us, Fam.wide k h1 h2, p⟩
theorem OwnHP.shapes (k : OwnHP w lo hi a b c h P) : (∃ p q, a = .slice p h.f.length q) ∧ (∃ p q, b = .slice p h.l.length q) ∧ (∃ p q, c = .slice p h.r.length q) := k.own.shapes
theorem OwnHP.cellRow {g : Nat} {cs : Array Value} (k : OwnHP w lo hi a b c h P) (hr : Row w g 32 cs) (j : Nat) (x : Value) : OwnHP (w.setCell ⟨g, j, none⟩ x) lo hi a b c h P := by
  obtain ⟨us, k, p⟩ := k
  exact ⟨us, fam_keepRow k hr fun i hi _ => heap_setCell_other w ⟨g, j, none⟩ i _ hi, p⟩
theorem OwnHP.wholeRow {g : Nat} {cs : Array Value} (k : OwnHP w lo hi a b c h P) (hr : Row w g 32 cs) (ds : Array Value) : OwnHP (w.setRow g ds) lo hi a b c h P := by
  obtain ⟨us, k, p⟩ := k
  exact ⟨us, fam_keepRow k hr fun i hi _ => setRow_other w g i ds hi, p⟩
theorem OwnXP.of (k : OwnH w lo hi a b c h) (ho : Own w lo u zs) (hu : ∀ g, u.ownBlock = some g → hi ≤ g ∧ g < hi') (hh : hi ≤ hi') (hp : ∀ g, lo ≤ g → g < hi → P g) (hpu : ∀ g, u.ownBlock = some g → P g) : OwnXP w lo hi' a b c u h zs P := by
  obtain ⟨us, k⟩ := k
  refine ⟨us, Fam.grow k (u := u) (ds := zs.map (Value.int .i64)) (by simp only [tyH, List.length_map]; exact ho) hh hu, fun j hj g hg => ?_⟩
  by_cases e : j = h.f.length + 3
  · subst e; rw [upd_same] at hg; exact hpu g hg
  · rw [upd_other _ _ e] at hg
    have := Fam.blk k (show j < h.f.length + 3 by omega) hg
    exact hp g this.1 this.2.1
theorem OwnXP.cellRow {g : Nat} {cs : Array Value} (k : OwnXP w lo hi a b c u h zs P) (hr : Row w g 32 cs) (j : Nat) (x : Value) : OwnXP (w.setCell ⟨g, j, none⟩ x) lo hi a b c u h zs P := by
  obtain ⟨us, k, p⟩ := k
  exact ⟨us, fam_keepRow k hr fun i hi _ => heap_setCell_other w ⟨g, j, none⟩ i _ hi, p⟩
theorem putRowP {j ga ca : Nat} (k : OwnHP w lo hi a b c h P) (ha : a = .slice (some ⟨ga, 0, none⟩) h.f.length ca) (hj : j < h.f.length) (ho : Own w hi u zs) (hl : lo ≤ hi) (hs : hi ≤ w.heap.size) (hpu : ∀ g, u.ownBlock = some g → P g) : OwnHP (w.setCell ⟨ga, j, none⟩ u) lo w.heap.size a b c ⟨h.f.set j zs, h.l, h.r⟩ P := by
  obtain ⟨us, hf, p⟩ := k
  obtain ⟨s1, _⟩ := hf.putRow hj (ho.mono hl) hs (fun g hg => .inl (owns_lt ho hg)) ha
  refine ⟨_, s1, fun i hi g hg => ?_⟩
  simp only [List.length_set] at hi
  match i, hi, hg with
  | 0, _, hg => exact p 0 (by omega) g hg
  | 1, _, hg => exact p 1 (by omega) g hg
  | 2, _, hg => exact p 2 (by omega) g hg
  | i + 3, hi, hg =>
    simp only [vH] at hg
    by_cases e : i = j
    · subst e; rw [upd_same] at hg; exact hpu g hg
    · rw [upd_other _ _ e] at hg; exact p (i + 3) hi g hg
theorem OwnXP.live (k : OwnXP w lo hi a b c u h zs P) (hp : ∀ g, w.heap.size ≤ g → P g) (hl : lo ≤ hi) (hs : hi ≤ w.heap.size) (hn : h.l.length ≤ 1000) (x : Bool) (ty : TypeId) :
    ∃ v1 w1, (Builtin.append_ #[23, 23] ty #[b, .slice (some ⟨w.heap.size, 0, none⟩) 1 1]).run Try.prog (w.alloc (.cells #[.bool x] 4)) = .ok v1 w1 ∧ OwnXP w1 lo w1.heap.size a v1 c u ⟨h.f, h.l ++ [x], h.r⟩ zs P ∧ (∀ g cs, Row w g 32 cs → Row w1 g 32 cs) ∧ (∀ B w0, B ≤ lo → Below B w0 w → Below B w0 w1) ∧ w.heap.size ≤ w1.heap.size ∧ (∀ i, i < w.heap.size → b.ownBlock ≠ some i → w1.heap[i]? = w.heap[i]?) ∧ ∃ p q, v1 = .slice p (h.l.length + 1) q := by
  obtain ⟨i0, hi0, hz0, hz1, hz2⟩ := info_parts info_boolz
  obtain ⟨us, hf0, pp⟩ := k
  have hf := Fam.below hf0 (below1 w (.cells #[.bool x] 4))
  have ho : OwnBs (w.alloc (.cells #[.bool x] 4)) lo b h.l := by
    have := hf.own 1 (by omega)
    rw [upd_other _ _ (by omega), upd_other _ _ (by omega)] at this
    simp only [tyH, vH, cH, List.length_map] at this
    exact this
  obtain ⟨v', W', hr, h1, h2, h3⟩ := run_appOwn (P := Try.prog) (w.alloc (.cells #[.bool x] 4)) lo 23 ty 4 i0 (.bool false) 1 Try.underlying23 hi0 hz0 hz1 hz2 rfl b h.l.length _ ho _ _ (src_bool w x) (by simp; unfold maxLen; omega) (by simp; omega) (by simp; omega)
  have h1' : OwnBs W' lo v' (h.l ++ [x]) := by unfold OwnBs; rw [List.map_append, List.length_append]; exact h1
  have hsz : (w.alloc (.cells #[.bool x] 4)).heap.size = w.heap.size + 1 := World.size_alloc _ _
  have h2s := h2.size
  have k2 := Fam.turn hf (k := 1) (by omega) (u := v') (ds := (h.l ++ [x]).map Value.bool) (hi' := W'.heap.size) (by rw [upd_other _ _ (by omega)]; exact h2) (by simp only [tyH, List.length_map]; exact h1') (by omega) (fun g hg => by
    rw [upd_other _ _ (by omega)]
    rcases h3 with h3 | h3
    · exact .inr (show b.ownBlock = some g from h3.symm.trans hg)
    · rw [hg] at h3; cases h3; exact .inl ⟨by omega, (owns_lt h1' hg).2⟩)
  refine ⟨v', W', hr, ⟨us, k2.congr (fun j hj => ?_) fun j hj => ?_, fun j hj g hg => ?_⟩, fun g cs hr => row_grown ho (by decide) h2 (Row.alloc hr _), fun B w0 hB hb => (hb.alloc (by omega) _).grown h2 (by omega) (fun g hg => by have := (owns_lt ho hg).1; omega), by omega, fun i hi hx => (h2.block i (by omega) (Ne.symm hx)).trans ((below1 w (.cells #[.bool x] 4)).block i hi), ?_⟩
  · by_cases e1 : j = 1
    · subst e1; rw [upd_same, upd_other _ _ (by omega)]; rfl
    · rw [upd_other _ _ e1]
      by_cases e2 : j = h.f.length + 3
      · subst e2; rw [upd_same, upd_same]
      · rw [upd_other _ _ e2, upd_other _ _ e2]
        match j with
        | 0 => rfl
        | 1 => exact absurd rfl e1
        | 2 => rfl
        | j + 3 => rfl
  · by_cases e1 : j = 1
    · subst e1; rw [upd_same, upd_other _ _ (by omega)]; rfl
    · rw [upd_other _ _ e1]
      by_cases e2 : j = h.f.length + 3
      · subst e2; rw [upd_same, upd_same]
      · rw [upd_other _ _ e2, upd_other _ _ e2]
        match j with
        | 0 => rfl
        | 1 => exact absurd rfl e1
        | 2 => rfl
        | j + 3 => rfl
  · by_cases e1 : j = 1
    · subst e1
      rw [upd_other _ _ (by simp only; omega)] at hg
      have hg' : v'.ownBlock = some g := hg
      rcases h3 with h3 | h3
      · exact pp 1 (by omega) g (by rw [upd_other _ _ (by omega)]; exact h3.symm.trans hg')
      · rw [hg'] at h3; cases h3; exact hp _ (by omega)
    · refine pp j hj g ?_
      by_cases e2 : j = h.f.length + 3
      · subst e2
        simp only at hg
        rw [upd_same] at hg ⊢; exact hg
      · simp only at hg
        rw [upd_other _ _ e2] at hg ⊢
        match j, hg with
        | 0, hg => exact hg
        | 1, _ => exact absurd rfl e1
        | 2, hg => exact hg
        | j + 3, hg => exact hg
  · rcases h1.2 with ⟨_, h0⟩ | ⟨g, cap, cur, hv, _⟩
    · simp at h0
    · exact ⟨_, _, hv⟩
theorem OwnXP.rows (k : OwnXP w lo hi a b c u h zs P) (hp : ∀ g, w.heap.size ≤ g → P g) (hl : lo ≤ hi) (hs : hi ≤ w.heap.size) (hn : h.f.length ≤ 1000) (hu1 : u.oneCell' = true) (ty : TypeId) :
    ∃ v1 w1, (Builtin.append_ #[22, 22] ty #[a, .slice (some ⟨w.heap.size, 0, none⟩) 1 1]).run Try.prog (w.alloc (.cells #[u] 24)) = .ok v1 w1 ∧ OwnHP w1 lo w1.heap.size v1 b c ⟨h.f ++ [zs], h.l, h.r⟩ P ∧ (∀ g cs, Row w g 32 cs → Row w1 g 32 cs) ∧ (∀ B w0, B ≤ lo → Below B w0 w → Below B w0 w1) ∧ (∀ i, i < w.heap.size → a.ownBlock ≠ some i → w1.heap[i]? = w.heap[i]?) ∧ w.heap.size ≤ w1.heap.size := by
  obtain ⟨i0, hi0, hz0, hz1, hz2⟩ := info_parts info_ints
  obtain ⟨us, hf0, pp⟩ := k
  have hf := Fam.below hf0 (below1 w (.cells #[u] 24))
  have ho : (w.alloc (.cells #[u] 24)).ownsRow lo 24 1 a h.f.length ((List.range h.f.length).map us) := by
    have := hf.own 0 (by omega)
    rw [upd_other _ _ (by omega), upd_other _ _ (by omega)] at this
    simp only [tyH, vH, cH, List.length_map, List.length_range] at this
    exact this
  obtain ⟨v', W', hr, h1, h2, h3⟩ := run_appOwn (P := Try.prog) (w.alloc (.cells #[u] 24)) lo 22 ty 24 i0 (.slice none 0 0) 24 Try.underlying22 hi0 hz0 hz1 hz2 rfl a h.f.length _ ho _ [u] (src_one w _ hu1) (by simp; unfold maxLen; omega) (by simp; omega) (by simp; omega)
  have h1' : W'.ownsRow lo 24 1 v' (h.f.length + 1) ((List.range h.f.length).map us ++ [u]) := h1
  have hsz : (w.alloc (.cells #[u] 24)).heap.size = w.heap.size + 1 := World.size_alloc _ _
  have h2s := h2.size
  have k2 := Fam.turn hf (k := 0) (by omega) (u := v') (ds := (List.range h.f.length).map us ++ [u]) (hi' := W'.heap.size) (by rw [upd_other _ _ (by omega)]; exact h2) (by simp only [tyH, List.length_append, List.length_map, List.length_range, List.length_singleton]; exact h1') (by omega) (fun g hg => by
    rw [upd_other _ _ (by omega)]
    rcases h3 with h3 | h3
    · exact .inr (show a.ownBlock = some g from h3.symm.trans hg)
    · rw [hg] at h3; cases h3; exact .inl ⟨by omega, (owns_lt h1' hg).2⟩)
  refine ⟨v', W', hr, ⟨upd us h.f.length u, ?_, fun j hj g hg => ?_⟩, fun g cs hr => row_grown ho (by decide) h2 (Row.alloc hr _), fun B w0 hB hb => (hb.alloc (by omega) _).grown h2 (by omega) (fun g hg => by have := (owns_lt ho hg).1; omega), fun i hi hx => (h2.block i (by omega) (Ne.symm hx)).trans ((below1 w (.cells #[u] 24)).block i hi), by omega⟩
  rotate_left
  · simp only [List.length_append, List.length_singleton] at hj
    match j, hj, hg with
    | 0, _, hg =>
      have hg' : v'.ownBlock = some g := hg
      rcases h3 with h3 | h3
      · exact pp 0 (by omega) g (by rw [upd_other _ _ (by omega)]; exact h3.symm.trans hg')
      · rw [hg'] at h3; cases h3; exact hp _ (by omega)
    | 1, _, hg => exact pp 1 (by omega) g (by rw [upd_other _ _ (by omega)]; exact hg)
    | 2, _, hg => exact pp 2 (by omega) g (by rw [upd_other _ _ (by omega)]; exact hg)
    | j + 3, hj, hg =>
      simp only [vH] at hg
      by_cases e : j = h.f.length
      · subst e
        rw [upd_same] at hg
        exact pp (h.f.length + 3) (by omega) g (by rw [upd_same]; exact hg)
      · rw [upd_other _ _ e] at hg
        exact pp (j + 3) (by omega) g (by rw [upd_other _ _ (by omega)]; exact hg)
  unfold FamH
  have e : (h.f ++ [zs]).length + 3 = h.f.length + 3 + 1 := by simp
  rw [e]
  refine k2.congr (fun j hj => ?_) fun j hj => ?_
  · match j with
    | 0 => rw [upd_same]; rfl
    | 1 => rw [upd_other _ _ (by omega), upd_other _ _ (by omega)]; rfl
    | 2 => rw [upd_other _ _ (by omega), upd_other _ _ (by omega)]; rfl
    | j + 3 =>
      rw [upd_other _ _ (by omega)]
      by_cases e : j = h.f.length
      · subst e; rw [upd_same]; simp only [vH]; rw [upd_same]
      · rw [upd_other _ _ (by omega)]; simp only [vH]; rw [upd_other _ _ e]
  · match j with
    | 0 =>
      rw [upd_same]; simp only [cH, List.length_append, List.length_singleton]
      rw [List.range_succ, List.map_append]
      have e1 : (List.range h.f.length).map (upd us h.f.length u) = (List.range h.f.length).map us := List.map_congr_left fun x hx => by
        have : x < h.f.length := by simpa using hx
        rw [upd_other _ _ (by omega)]
      rw [e1, List.map_singleton, upd_same]
    | 1 => rw [upd_other _ _ (by omega), upd_other _ _ (by omega)]; rfl
    | 2 => rw [upd_other _ _ (by omega), upd_other _ _ (by omega)]; rfl
    | j + 3 =>
      rw [upd_other _ _ (by omega)]
      by_cases e : j = h.f.length
      · subst e; rw [upd_same]; simp [cH]
      · rw [upd_other _ _ (by omega)]; simp only [cH]
        have : j < h.f.length := by omega
        simp [List.getD, List.getElem?_append_left this]
end
end Go.Proofs.Ytbmfkgfmibpkjaa
namespace Go.Proofs.Ytbmfkgfmibpkjaa
open Go.RowKit Ph

set_option maxRecDepth 100000 in
set_option maxHeartbeats 6400000 in
theorem s_l5NewC (a b c : Value) (h : H) (m lo hi : Nat) (w : World) (hO : OwnH w lo hi a b c h) (hl : lo ≤ hi) (hs : hi ≤ w.heap.size) (hn : h.f.length ≤ 12) (hll : h.l.length = h.f.length) (hm : m ≤ 3) :
    Calls Try.prog 188 #[hv a b c, .int .i64 (m : Int)] w fun e w' => ∃ a' b' c', e = .returned (.tuple #[hv a' b' c', .int .i64 (newS h m).2]) ∧ OwnHP w' lo w'.heap.size a' b' c' (newS h m).1 (fun g => g < hi ∨ w.heap.size ≤ g) ∧ Below lo w w' ∧ (∀ g cs, (Row w g 32 cs → Row w' g 32 cs)) ∧ (∀ i, i < w.heap.size → hi ≤ i → w'.heap[i]? = w.heap[i]?) := by
  obtain ⟨i0, hi0, hz0, hz1, hz2⟩ := info_parts info_int
  obtain ⟨⟨pa, qa, rfl⟩, ⟨pb, qb, rfl⟩, ⟨pc, qc, rfl⟩⟩ := hO.shapes
  have HP := Lib.hid (fun k => place_of (l := h.l) (k := k)); have HQ := Lib.hid (place_none (l := h.l))
  have HNS : Hid (newS h m = if placeOf h.l < h.l.length then (put1 h (placeOf h.l) m, (placeOf h.l : Int)) else if h.f.length = 12 then (h, -1) else (⟨h.f ++ [List.replicate m (-1)], h.l ++ [true], h.r⟩, (h.f.length : Int))) := rfl
  have HNL := Lib.hid hll
  rw [hll] at HNS hO ⊢
  clear hll
  generalize hnn : h.f.length = n at *
  have HNF := Lib.hid hnn
  clear hnn
  generalize h.r.length = nr at *
  have hb0 : Below w.heap.size w ((w.alloc (.cells (c3 (.slice pa n qa) (.slice pb n qb) (.slice pc nr qc)) 32)).alloc (.cells (c3 (.slice none 0 0) (.slice none 0 0) (.slice none 0 0)) 32)) := (below1 w (.cells (c3 (.slice pa n qa) (.slice pb n qb) (.slice pc nr qc)) 32)).alloc (by simp) (.cells (c3 (.slice none 0 0) (.slice none 0 0) (.slice none 0 0)) 32)
  have O0 := Lib.hid (hO.below hb0)
  have B0 := Lib.hid hb0
  have P0 := Lib.hid (show RowH _ _ (.slice pa n qa) (.slice pb n qb) (.slice pc nr qc) from (Row.new w 32 (c3 (.slice pa n qa) (.slice pb n qb) (.slice pc nr qc))).alloc (.cells (c3 (.slice none 0 0) (.slice none 0 0) (.slice none 0 0)) 32))
  have R0 := Lib.hid (show RowH _ (w.heap.size + 1) (.slice none 0 0) (.slice none 0 0) (.slice none 0 0) from Row.new1 w (.cells (c3 (.slice pa n qa) (.slice pb n qb) (.slice pc nr qc)) 32) 32 (c3 (.slice none 0 0) (.slice none 0 0) (.slice none 0 0)))
  have HL := Lib.hid hl; have HS := Lib.hid hs
  have hw0 : ((w.alloc (.cells (c3 (.slice pa n qa) (.slice pb n qb) (.slice pc nr qc)) 32)).alloc (.cells (c3 (.slice none 0 0) (.slice none 0 0) (.slice none 0 0)) 32)).heap.size = w.heap.size + 1 + 1 := by simp
  have HW0 := Lib.hid hw0
  clear hO hb0 hl hs hw0
  go_enter Try.func188, Try.ntmps188
  go_wp2_with (at_make; refine wpList_make_full _ rfl _ _ 24 rfl w.heap.size 3 i0 (.int .i64 0) 1 Try.underlying24 hi0 hz0 hz1 .i64 .i64 _ _ m rfl rfl rfl rfl (by rw [hz2]; omega) (by unfold maxLen; omega) (by rw [HW0.out]; omega) ?_; intro w1 hown hgr
               rw [rep_ints, HW0.out] at hown
               have U1 : Hid (Own w1 w.heap.size (.slice (some ⟨w.heap.size + 1 + 1, 0, none⟩) m m) (List.replicate m 0)) := (by { unfold Hid Own; rw [List.length_replicate]; exact hown })
               have bb1 := (Below.refl ((w.alloc (.cells (c3 (.slice pa n qa) (.slice pb n qb) (.slice pc nr qc)) 32)).alloc (.cells (c3 (.slice none 0 0) (.slice none 0 0) (.slice none 0 0)) 32)).heap.size ((w.alloc (.cells (c3 (.slice pa n qa) (.slice pb n qb) (.slice pc nr qc)) 32)).alloc (.cells (c3 (.slice none 0 0) (.slice none 0 0) (.slice none 0 0)) 32))).grown hgr (Nat.le_refl _) (fun k hk => by cases hk)
               have B1 := Lib.hid (bst B0.out bb1 B0.out.size)
               have O1 := Lib.hid (O0.out.below bb1)
               have P1 := Lib.hid (P0.out.below bb1)
               have R1 := Lib.hid (R0.out.below bb1)
               clear hown hgr bb1)
  clear B0 O0 P0 R0
  go_loopw [14] (fun i wr => ∃ j : Nat, j ≤ m ∧ i = .int .i64 j ∧ Hid (Own wr w.heap.size (.slice (some ⟨w.heap.size + 1 + 1, 0, none⟩) m m) (fillN m j)) ∧ Hid (Below w.heap.size w wr) ∧ Hid (OwnH wr lo hi (.slice pa n qa) (.slice pb n qb) (.slice pc nr qc) h) ∧ Hid (RowH wr w.heap.size (.slice pa n qa) (.slice pb n qb) (.slice pc nr qc)) ∧ Hid (RowH wr (w.heap.size + 1) (.slice none 0 0) (.slice none 0 0) (.slice none 0 0))) (fun i _ => m - (intOf i).toNat)
  case atStart => exact ⟨0, Nat.zero_le _, rfl, by rw [fillN_zero]; exact U1, B1, O1, P1, R1⟩
  case round =>
    obtain ⟨j, hj, rfl, hU, hB, hO, hP, hR⟩ := hrel
    by_cases hlt : j < m
    · obtain ⟨s1, s2, s3, s4⟩ := hU.out.store1 (fillN_len hj) hlt (-1)
      rw [fillN_set hlt] at s1
      have B2 := Lib.hid (hB.out.grown s2 hB.out.size (fun k hk => by cases hk; omega))
      have cc := Chg.of_grown (lo := w.heap.size + 1 + 1) (hi := w.heap.size + 1 + 1 + 1) s2 (fun k hk => by cases hk; omega)
      have O2 := Lib.hid (hO.out.chg cc (.inl (by have := HS.out; omega)))
      have P2 := Lib.hid (show RowH _ _ _ _ _ from Row.chg hP.out cc (.inl (by omega)))
      have R2 := Lib.hid (show RowH _ _ _ _ _ from Row.chg hR.out cc (.inl (by omega)))
      have S1 := Lib.hid s1
      have i1 : (j : Int) < (m : Int) := by omega
      clear s1 s2 cc
      generalize (fillN m j).getD j 0 = x at *
      go_wp2_with fail
      go_roundw
      case rel => exact ⟨j + 1, by omega, by go_num, S1, B2, O2, P2, R2⟩
      case measure => simp [intOf]; omega
    obtain rfl : j = m := by omega
    rw [fillN_all] at hU
    generalize hrow : List.replicate j (-1 : Int) = row at *
    have HROW := Lib.hid hrow; clear hrow
    have d0 := hP.out.c0
    have d1 := hP.out.c1
    have hUl : Hid (w.heap.size + 1 + 1 < wr.heap.size) := (owns_lt hU.out rfl).2
    clear hlt
    go_wp2_with fail
    generalize hws : w.heap.size = W at *
    have HPW : Hid ((fun g : Nat => g < hi ∨ w.heap.size ≤ g) = fun g => g < hi ∨ W ≤ g) := by unfold Hid; rw [hws]
    go_loop [24] (fun i => ∃ k : Nat, k ≤ n ∧ i = .int .i64 k ∧ Hid (∀ i, i < k → h.l.getD i false = true)) (fun i => n - (intOf i).toNat)
    case atStart => exact ⟨0, Nat.zero_le _, rfl, fun i hi => by omega⟩
    case round =>
      obtain ⟨k, hk, rfl, hall⟩ := hrel
      by_cases hkn : k < n
      · obtain ⟨gb, cb, hbv, qb1, fb1, oL, cL⟩ := putLiveB hO.out (j := k) (by rw [HNL.out]; exact hkn) true
        rw [HNL.out] at hbv
        cases hbv
        have hgP : gb ≠ W := OwnH.liveNe hO.out hP.out
        have hgR : gb ≠ W + 1 := OwnH.liveNe hO.out hR.out
        have i1 : (k : Int) < (n : Int) := by omega
        have i00 : (0 : Int) ≤ (k : Int) := by omega
        generalize hx : h.l.getD k false = x at *
        have HX := Lib.hid hx; clear hx
        cases x
        · have hp := HP.out k (by rw [HNL.out]; exact hkn) hall.out HX.out
          have HE : Hid (newS h j = (put1 h k j, (k : Int))) := by unfold Hid; rw [HNS.out, hp, if_pos hkn]
          clear hp
          have P2 : RowH _ _ _ _ _ := Row.other hP.out ⟨gb, k, none⟩ (Ne.symm hgP) (.bool true)
          have R2 : RowH _ _ _ _ _ := Row.other hR.out ⟨gb, k, none⟩ (Ne.symm hgR) (.bool true)
          have U2 : Own _ W (.slice (some ⟨W + 1 + 1, 0, none⟩) j j) row := Own.chg hU.out cL (fun g' e => .inr (by have e' : some (W + 1 + 1) = some g' := e; cases e'; have := HS.out; omega))
          have B2 := below_chg (hB.out.mono (show lo ≤ W by have := HL.out; have := HS.out; omega)) cL (Nat.le_refl _) (by have := HL.out; have := HS.out; have := hUl.out; omega)
          have sz2 := World.size_setCell wr ⟨gb, k, none⟩ (.bool true)
          obtain ⟨ga, ca, xx, hax, qf1, ff1, hlo, hap, oN⟩ := putRow1 oL (j := k) (by simp only; rw [HNF.out]; exact hkn) (U2.mono HS.out) HL.out (by rw [sz2]; have := HS.out; have := hUl.out; omega)
          simp only [HNF.out] at hax
          cases hax
          have oNP := putRowP (P := fun g => g < hi ∨ W ≤ g) (OwnHP.of oL (fun g _ q => .inl q)) (j := k) (by simp only; rw [HNF.out]) (by simp only; rw [HNF.out]; exact hkn) (U2.mono HS.out) HL.out (by rw [sz2]; have := HS.out; have := hUl.out; omega) (fun g e => .inr (by have e' : some (W + 1 + 1) = some g := e; cases e'; omega))
          clear oN
          have hga1 : ga ≠ W := hap _ _ P2
          have hga2 : ga ≠ W + 1 := hap _ _ R2
          have P3 := Lib.hid (show RowH _ _ _ _ _ from Row.other P2 ⟨ga, k, none⟩ (Ne.symm hga1) (.slice (some ⟨W + 1 + 1, 0, none⟩) j j))
          have R3 := Lib.hid (show RowH _ _ _ _ _ from Row.other R2 ⟨ga, k, none⟩ (Ne.symm hga2) (.slice (some ⟨W + 1 + 1, 0, none⟩) j j))
          have B3 := Lib.hid (B2.setCell (p := ⟨ga, k, none⟩) hlo (.slice (some ⟨W + 1 + 1, 0, none⟩) j j))
          have O3 := Lib.hid oNP
          have sz3 := Lib.hid (World.size_setCell (wr.setCell ⟨gb, k, none⟩ (.bool true)) ⟨ga, k, none⟩ (.slice (some ⟨W + 1 + 1, 0, none⟩) j j))
          have HRW : Hid (∀ g cs, Row w g 32 cs → Row (((wr.setCell ⟨gb, k, none⟩ (.bool true)).setCell ⟨ga, k, none⟩ (.slice (some ⟨W + 1 + 1, 0, none⟩) j j)).setRow (W + 1) (c3 (.slice (some ⟨ga, 0, none⟩) n qa) (.slice (some ⟨gb, 0, none⟩) n qb) (.slice pc nr qc))) g 32 cs) := fun g cs hr => by
            have hgl : g < W := by have := hr.lt; omega
            have r1 := Row.below' hr hB.out hgl
            have r2 := Row.other r1 ⟨gb, k, none⟩ (Ne.symm (OwnH.liveNe hO.out r1)) (.bool true)
            exact Row.putOther (Row.other r2 ⟨ga, k, none⟩ (Ne.symm (hap _ _ r2)) _) _ (by omega)
          have HFR : Hid (∀ i, i < W → hi ≤ i → (((wr.setCell ⟨gb, k, none⟩ (.bool true)).setCell ⟨ga, k, none⟩ (.slice (some ⟨W + 1 + 1, 0, none⟩) j j)).setRow (W + 1) (c3 (.slice (some ⟨ga, 0, none⟩) n qa) (.slice (some ⟨gb, 0, none⟩) n qb) (.slice pc nr qc))).heap[i]? = w.heap[i]?) := fun i hiw hx => by
            obtain ⟨us, hf⟩ := hO.out
            have g1 := (Fam.blk hf (k := 1) (g := gb) (by omega) rfl).2.1
            have g0 := (Fam.blk hf (k := 0) (g := ga) (by omega) rfl).2.1
            exact (setRow_other _ (W + 1) i _ (by omega)).trans ((heap_setCell_other _ ⟨ga, k, none⟩ i _ (by simp only; omega)).trans ((heap_setCell_other _ ⟨gb, k, none⟩ i _ (by simp only; omega)).trans (hB.out.block i hiw)))
          have HO3 : Hid (put1 h k j = ⟨h.f.set k row, h.l.set k true, h.r⟩) := by unfold Hid put1; rw [HROW.out]
          have e0 := P2.c0
          clear oL cL P2 R2 U2 B2 oNP hap sz2
          go_wp2_with (first
            | (refine wl_loadH rfl _ rfl W _ _ _ P3.out rfl ?_)
            | (refine wl_storeH rfl _ _ rfl (W + 1) (.slice (some ⟨ga, 0, none⟩) n qa) (.slice (some ⟨gb, 0, none⟩) n qb) (.slice pc nr qc) _ _ _ R3.out rfl rfl rfl rfl rfl ?_))
          refine bodyPost_ret (res_row_slot Try.results188 (Row.put R3.out (c3 (.slice (some ⟨ga, 0, none⟩) n qa) (.slice (some ⟨gb, 0, none⟩) n qb) (.slice pc nr qc))) rfl rfl Try.underlying32 rfl info_heap) rfl ⟨_, _, _, rfl' HE.out, ?_, below_setRow B3.out (by have := HL.out; have := HS.out; omega) _, HRW.out, HFR.out⟩
          rw [HE.out, HO3.out]; (try rw [HPW.out])
          exact (O3.out.wholeRow R3.out _).wide (Nat.le_refl _) (by rw [size_setRow, sz3.out]; exact Nat.le_refl _)
        · have HA : Hid (∀ i, i < k + 1 → h.l.getD i false = true) := fun i hi => by
            by_cases e : i = k
            · subst e; exact HX.out
            · exact hall.out i (by omega)
          clear oL cL
          go_wp2_with fail
          go_round
          case rel => exact ⟨k + 1, by omega, by go_num, HA⟩
          case measure => simp [intOf]; omega
      · have hpn := HQ.out (fun i hi => hall.out i (by rw [HNL.out] at hi; omega))
        have HE0 : Hid (newS h j = if n = 12 then (h, -1) else (⟨h.f ++ [row], h.l ++ [true], h.r⟩, (n : Int))) := by unfold Hid; rw [HNS.out, hpn, HNL.out, if_neg (Nat.lt_irrefl _)]
        clear hpn
        by_cases h12 : n = 12
        · have HE : Hid (newS h j = (h, -1)) := by unfold Hid; rw [HE0.out, if_pos h12]
          have hq : ((n : Int) == 12) = true := by simp; omega
          have HRW : Hid (∀ g cs, Row w g 32 cs → Row (wr.setRow (W + 1) (c3 (.slice pa n qa) (.slice pb n qb) (.slice pc nr qc))) g 32 cs) := fun g cs hr => by
            have hgl : g < W := by have := hr.lt; omega
            exact Row.putOther (Row.below' hr hB.out hgl) _ (by omega)
          clear h12
          go_wp2_with (first
            | (refine wl_loadH rfl _ rfl W _ _ _ hP.out rfl ?_)
            | (refine wl_storeH rfl _ _ rfl (W + 1) (.slice pa n qa) (.slice pb n qb) (.slice pc nr qc) _ _ _ hR.out rfl rfl rfl rfl rfl ?_))
          refine bodyPost_ret (res_row_slot Try.results188 (Row.put hR.out (c3 (.slice pa n qa) (.slice pb n qb) (.slice pc nr qc))) rfl rfl Try.underlying32 rfl info_heap) rfl ⟨_, _, _, rfl' HE.out, ?_, below_setRow (hB.out.mono (show lo ≤ W by have := HL.out; have := HS.out; omega)) (by have := HL.out; have := HS.out; omega) _, HRW.out, fun i hiw _ => (setRow_other _ (W + 1) i _ (by omega)).trans (hB.out.block i hiw)⟩
          rw [HE.out]; (try rw [HPW.out])
          exact (OwnHP.of (hO.out.wholeRow hR.out _) (fun g _ q => .inl (by omega))).wide (Nat.le_refl _) (by rw [size_setRow]; have := HS.out; have := hUl.out; omega)
        · have HE : Hid (newS h j = (⟨h.f ++ [row], h.l ++ [true], h.r⟩, (n : Int))) := by unfold Hid; rw [HE0.out, if_neg h12]
          have hq : ((n : Int) == 12) = false := by simp; omega
          have hloW : lo ≤ W := by have := HL.out; have := HS.out; omega
          have hWr := hUl.out
          have X0 : OwnXP wr lo wr.heap.size (.slice pa n qa) (.slice pb n qb) (.slice pc nr qc) (.slice (some ⟨W + 1 + 1, 0, none⟩) j j) h row (fun g => g < hi ∨ W ≤ g) := OwnXP.of hO.out (hU.out.mono hloW) (fun g e => by have e' : some (W + 1 + 1) = some g := e; cases e'; have := HS.out; omega) (by have := HS.out; omega) (fun g _ q => .inl q) (fun g e => .inr (by have e' : some (W + 1 + 1) = some g := e; cases e'; omega))
          have BL := hB.out.mono hloW
          obtain ⟨v1, w1e, hr1, x1, rows1, bel1, sz1, fr1, _⟩ := X0.live (fun g hg => .inr (by omega)) (by omega) (Nat.le_refl _) (by rw [HNL.out]; omega) true 23
          have V1 : RowH _ _ _ _ _ := rows1 _ _ hP.out
          have R1 : RowH _ _ _ _ _ := rows1 _ _ hR.out
          have B1 := bel1 _ _ (Nat.le_refl _) BL
          have s1c := V1.c1
          have s1f := Row.frozen V1 1
          have x2 := x1.cellRow V1 1 v1
          have V2 := RowH.set1 V1 v1
          have R2 : RowH (w1e.setCell ⟨W, 1, none⟩ v1) (W + 1) (.slice none 0 0) (.slice none 0 0) (.slice none 0 0) := Row.other R1 ⟨W, 1, none⟩ (by simp) v1
          have B2 := B1.setCell (p := ⟨W, 1, none⟩) hloW v1
          have hsz2 := World.size_setCell w1e ⟨W, 1, none⟩ v1
          obtain ⟨v2, w2e, hr2, o3, rows3, bel3, fr3, sz3⟩ := x2.rows (fun g hg => .inr (by rw [hsz2] at hg; omega)) (by omega) (by rw [hsz2]; exact Nat.le_refl _) (by simp only; rw [HNF.out]; omega) rfl 22
          rw [hsz2] at hr2 sz3
          have V3 : RowH _ _ _ _ _ := rows3 _ _ V2
          have R3 : RowH _ _ _ _ _ := rows3 _ _ R2
          have B3 := bel3 _ _ (Nat.le_refl _) B2
          have s2a := V2.c0
          have s3c := V3.c0
          have s3f := Row.frozen V3 0
          have O4 := o3.cellRow V3 0 v2
          have V4 := RowH.set0 V3 v2
          have R4 : RowH (w2e.setCell ⟨W, 0, none⟩ v2) (W + 1) (.slice none 0 0) (.slice none 0 0) (.slice none 0 0) := Row.other R3 ⟨W, 0, none⟩ (by simp) v2
          have B4 := B3.setCell (p := ⟨W, 0, none⟩) hloW v2
          have HFR0 : Hid (∀ i, i < W → hi ≤ i → (w2e.setCell ⟨W, 0, none⟩ v2).heap[i]? = w.heap[i]?) := fun i hiw hx => by
            obtain ⟨us, hf⟩ := hO.out
            have nb : (Value.slice pb n qb).ownBlock ≠ some i := fun e => by have := (Fam.blk hf (k := 1) (g := i) (by omega) e).2.1; omega
            have na : (Value.slice pa n qa).ownBlock ≠ some i := fun e => by have := (Fam.blk hf (k := 0) (g := i) (by omega) e).2.1; omega
            exact (heap_setCell_other _ ⟨W, 0, none⟩ i _ (by simp only; omega)).trans ((fr3 i (by rw [hsz2]; omega) na).trans ((heap_setCell_other _ ⟨W, 1, none⟩ i _ (by simp only; omega)).trans ((fr1 i (by omega) nb).trans (hB.out.block i hiw))))
          have hfl2 : (h.f ++ [row]).length = n + 1 := by simp [HNF.out]
          obtain ⟨⟨pa2, qa2, hv2⟩, ⟨pb2, qb2, hv1⟩, _⟩ := O4.shapes
          simp only [hfl2] at hv2
          subst hv2
          generalize hnb : (⟨h.f ++ [row], h.l ++ [true], h.r⟩ : H).l.length = nb2 at *
          subst hv1
          have HRW : Hid (∀ g cs, Row w g 32 cs → g ≠ W → Row (w2e.setCell ⟨W, 0, none⟩ (.slice pa2 (n + 1) qa2)) g 32 cs) := fun g cs hr hgw => by
            have hgl : g < W := by have := hr.lt; omega
            have r1 := rows1 _ _ (Row.below' hr hB.out hgl)
            have r2 := Row.other r1 ⟨W, 1, none⟩ (by simpa using hgw) (.slice pb2 nb2 qb2)
            exact Row.other (rows3 _ _ r2) ⟨W, 0, none⟩ (by simpa using hgw) _
          have HRL : Hid (∀ g cs, Row w g 32 cs → g < W) := fun g cs hr => by have := hr.lt; omega
          have HFY := HFR0; clear HFR0
          have OY := Lib.hid O4; have VY := Lib.hid V4; have RY := Lib.hid R4; have BY := Lib.hid B4; have HR1 := Lib.hid hr1; have HR2 := Lib.hid hr2
          have HSY : Hid (w2e.heap.size ≤ (w2e.setCell ⟨W, 0, none⟩ (.slice pa2 (n + 1) qa2)).heap.size) := by unfold Hid; rw [World.size_setCell]; exact Nat.le_refl _
          have hwr2 : IntKind.i64.wrap (n : Int) = (n : Int) := IntWalk.i64_in _ (by omega)
          have hwr1 : IntKind.i64.wrap (((n + 1 : Nat) : Int) - 1) = (n : Int) := by rw [IntWalk.i64_in _ (by omega)]; omega
          clear fr1 fr3 O4 V4 R4 B4 V1 R1 B1 V2 R2 B2 V3 R3 B3 rows1 rows3 bel1 bel3 hr1 hr2 hsz2 sz1 sz3 x1 x2 X0 BL o3 hfl2 hnb h12
          go_wp2_with (first
            | (at_builtin; refine wl_appRun rfl _ _ 23 rfl rfl rfl HR1.out ?_)
            | (at_builtin; refine wl_appRun rfl _ _ 22 rfl rfl rfl HR2.out ?_))
          generalize (w2e.setCell ⟨W, 0, none⟩ (.slice pa2 (n + 1) qa2)) = wY at *
          have VD : Hid (RowH wY.drew W (.slice pa2 (n + 1) qa2) (.slice pb2 nb2 qb2) (.slice pc nr qc)) := VY.out
          have RD : Hid (RowH wY.drew (W + 1) (.slice none 0 0) (.slice none 0 0) (.slice none 0 0)) := RY.out
          have BD := Lib.hid (below_drew BY.out)
          have OD := Lib.hid (OY.out.below (below_drew (Below.refl wY.heap.size wY)))
          have HRD : Hid (∀ g cs, Row w g 32 cs → g ≠ W → Row wY.drew g 32 cs) := HRW.out
          have HSZ : Hid (w2e.heap.size ≤ wY.drew.heap.size) := HSY
          have HFR : Hid (∀ i, i < W → hi ≤ i → wY.drew.heap[i]? = w.heap[i]?) := HFY.out
          have y0 := VD.out.c0
          have y1 := VD.out.c1
          have y2 := VD.out.c2
          refine wp_region_held_drew (S := (fun w' => w'.cell? ⟨W, 0, none⟩ = some (.slice pa2 (n + 1) qa2) ∧ w'.cell? ⟨W, 1, none⟩ = some (.slice pb2 nb2 qb2) ∧ w'.cell? ⟨W, 2, none⟩ = some (.slice pc nr qc))) (by kernel_rfl) (⟨y0, y1, y2⟩) (fun hHeld => ?_)
          refine wpAnyH_take (i := 0) (v := ?va0x1) rfl (by kernel_rfl) (by kernel_rfl) (by kernel_rfl) (fun _ _ _ h => h) (Or.inl ⟨by rfl, ?hy0x1⟩) (by assumption) ?rest0x1
          case hy0x1 => (intro w hSw; (try dsimp only at hSw); go_simp; try with_reducible rfl)
          (try simp only [Act.put, List.getElem_toArray, List.getElem_cons_zero, List.setIfInBounds_toArray, List.set_cons_zero, List.set_cons_succ])
          refine wpAnyH_take (i := 1) (v := ?va1x2) rfl (by kernel_rfl) (by kernel_rfl) (by kernel_rfl) (fun _ _ _ h => h) (Or.inl ⟨by rfl, ?hy1x2⟩) (by assumption) ?rest1x2
          case hy1x2 => (intro w hSw; (try dsimp only at hSw); go_simp; try with_reducible rfl)
          (try simp only [Act.put, List.getElem_toArray, List.getElem_cons_zero, List.getElem_cons_succ, List.setIfInBounds_toArray, List.set_cons_zero, List.set_cons_succ])
          refine wpAnyH_take (i := 2) (v := ?va2x3) rfl (by kernel_rfl) (by kernel_rfl) (by kernel_rfl) (fun _ _ _ h => h) (Or.inl ⟨by rfl, ?hy2x3⟩) (by assumption) ?rest2x3
          case hy2x3 => (intro w hSw; (try dsimp only at hSw); go_simp; try with_reducible rfl)
          (try simp only [Act.put, List.getElem_toArray, List.getElem_cons_zero, List.getElem_cons_succ, List.setIfInBounds_toArray, List.set_cons_zero, List.set_cons_succ])
          refine wpAnyH_take (i := 3) (v := ?va3x4) rfl (by kernel_rfl) (by kernel_rfl) (by kernel_rfl) (fun _ _ _ h => h) (Or.inl ⟨by rfl, ?hy3x4⟩) (by assumption) ?rest3x4
          case hy3x4 => (intro w hSw; (try dsimp only at hSw); go_simp; try with_reducible rfl)
          (try simp only [Act.put, List.getElem_toArray, List.getElem_cons_zero, List.getElem_cons_succ, List.setIfInBounds_toArray, List.set_cons_zero, List.set_cons_succ])
          refine wpAnyH_take (i := 4) (v := ?va4x5) rfl (by kernel_rfl) (by kernel_rfl) (by kernel_rfl) (fun _ _ _ h => h) (Or.inl ⟨by rfl, ?hy4x5⟩) (by assumption) ?rest4x5
          case hy4x5 => (intro w hSw; (try dsimp only at hSw); go_simp; try with_reducible rfl)
          (try simp only [Act.put, List.getElem_toArray, List.getElem_cons_zero, List.getElem_cons_succ, List.setIfInBounds_toArray, List.set_cons_zero, List.set_cons_succ])
          have hch := chgRow wY.drew (W + 1) (c3 (.slice pa2 (n + 1) qa2) (.slice pb2 nb2 qb2) (.slice pc nr qc))
          have VN := Lib.hid (show RowH _ _ _ _ _ from Row.chg VD.out hch (.inl (by omega)))
          clear hch
          refine wpAnyH_ready (rs := [5]) (by kernel_rfl) (by simp) ?_
          refine AllReadyH.cons rfl (fun K hK => ?_) AllReadyH.nil
          refine wp_store_row 32 _ _ rfl (W + 1) (c3 (.slice pa2 (n + 1) qa2) (.slice pb2 nb2 qb2) (.slice pc nr qc)) rfl rfl 32 _ RD.out info_heap rfl (by simp [Value.oneCell']) ?_
          refine hK.out _ _ ⟨VN.out.c0, VN.out.c1, VN.out.c2⟩ (fun hHeld => ?_)
          clear hK K
          (try simp only [Act.put, List.getElem_toArray, List.getElem_cons_zero, List.getElem_cons_succ])
          refine wpAnyH_take (i := 6) (v := ?va6x6) rfl (by kernel_rfl) (by kernel_rfl) (by kernel_rfl) (fun _ _ _ h => h) (Or.inl ⟨by rfl, ?hy6x6⟩) (by assumption) ?rest6x6
          case hy6x6 => (intro w hSw; (try dsimp only at hSw); go_simp; try with_reducible rfl)
          (try simp only [Act.put, List.getElem_toArray, List.getElem_cons_zero, List.getElem_cons_succ, List.setIfInBounds_toArray, List.set_cons_zero, List.set_cons_succ])
          refine wpAnyH_done (by kernel_rfl) ?_ _
          clear hHeld y0 y1 y2
          generalize wY.drew = wZ at *
          go_wp2_with fail
          refine bodyPost_ret (res_row_slot Try.results188 (Row.put RD.out (c3 (.slice pa2 (n + 1) qa2) (.slice pb2 nb2 qb2) (.slice pc nr qc))) rfl rfl Try.underlying32 rfl info_heap) rfl ⟨_, _, _, rfl' HE.out, ?_, below_setRow BD.out (by omega) _, fun g cs hr => ?_, fun i hi hx => (setRow_other _ (W + 1) i _ (by omega)).trans (HFR.out i (by omega) hx)⟩
          · rw [HE.out]; (try rw [HPW.out])
            exact (OD.out.wholeRow RD.out _).wide (Nat.le_refl _) (by rw [size_setRow]; exact HSZ.out)
          · have := HRL.out g cs hr
            exact Row.putOther (HRD.out g cs hr (by omega)) _ (by omega)
end Go.Proofs.Ytbmfkgfmibpkjaa
namespace Go.Proofs.Ytbmfkgfmibpkjaa
open Go.RowKit Ph

set_option maxHeartbeats 1600000 in
theorem s_l7Reached (a b c : Value) (h : H) (k : Int) (w : World) (hA : HeapAt w a b c h) (hG : Ph.Good h) : Calls Try.prog 152 #[hv a b c, .int .i64 k] w fun e w' => e = .returned (.bool (liveB (reachL h.f h.r) k)) ∧ Below w.heap.size w w' := by
  have hb0 := below1 w (.cells (c3 a b c) 32)
  have A0 := Lib.hid (hA.below hb0)
  have HB := Lib.hid hb0
  have R0 := Lib.hid (show RowH _ _ a b c from Row.new w 32 (c3 a b c))
  have HG := Lib.hid hG
  have hn12 := hG.n
  have hwr : IntKind.i64.wrap ((h.f.length : Int) - 1) = (h.f.length : Int) - 1 := IntWalk.i64_in _ (by omega)
  have HLL : Hid ((reachL h.f h.r).length = h.f.length) := reachL_length _ _
  obtain ⟨fa, fc, rfl⟩ := hA.f.shape
  clear hA hb0 hG
  have c0 := R0.out.c0
  have c1 := R0.out.c1
  have c2 := R0.out.c2
  by_cases hin : 0 ≤ k ∧ k < h.f.length
  · obtain ⟨t, rfl⟩ : ∃ t : Nat, k = t := ⟨k.toNat, by omega⟩
    have HT : Hid (∀ w', Calls Try.prog 149 #[.int .i64 (t : Int), .int .i64 0, .int .i64 ((h.f.length : Int) - 1)] w' fun e w'' => e = .returned (.bool true) ∧ w' = w'') := fun w' => s_l1In_yes _ _ _ w' (by omega) (by omega)
    have HE : Hid (liveB (reachL h.f h.r) (t : Int) = (reachL h.f h.r).getD t false) := by unfold Hid liveB; rw [decide_eq_true (by omega)]; simp
    have htn : t < h.f.length := by omega
    generalize h.f.length = n at *
    have t1 : (t : Int) < (n : Int) := by omega
    have t0 : (0 : Int) ≤ (t : Int) := by omega
    clear hin
    go_enter Try.func152, Try.ntmps152
    go_wp2_with (go_at_call 149; refine (HT.out _).mono ?_; rintro e w2 ⟨rfl, rfl⟩)
    refine (s_l5Reached _ _ _ h _ A0.out HG.out).mono ?_
    rintro e w3 ⟨v3, rfl, ho3, hb3⟩
    have B3 := Lib.hid (bst HB.out hb3 HB.out.size)
    obtain ⟨ra, rc, rfl⟩ := (owns_bools ho3).shape
    have O3 := Lib.hid (owns_bools ho3)
    clear ho3 hb3
    generalize hrs : reachL h.f h.r = rs at *
    have HRS := Lib.hid hrs; clear hrs
    rw [HLL.out] at O3 ⊢
    obtain ⟨rb, ro, rfl, hcr⟩ := O3.out.at' (by omega)
    have q := hcr t htn
    clear hcr
    generalize rs.getD t false = y at *
    go_wp2_with fail
    go_ret
    exact ⟨r_b (by rw [HRS.out]; exact HE.out.symm), B3.out⟩
  · have HT : Hid (∀ w', Calls Try.prog 149 #[.int .i64 k, .int .i64 0, .int .i64 ((h.f.length : Int) - 1)] w' fun e w'' => e = .returned (.bool false) ∧ w' = w'') := fun w' => s_l1In_no _ _ _ w' (by omega)
    have HE : Hid (liveB (reachL h.f h.r) k = false) := by
      unfold Hid
      cases q : liveB (reachL h.f h.r) k with
      | false => rfl
      | true => have := liveB_lt q; rw [reachL_length] at this; exact absurd this hin
    clear hin
    generalize h.f.length = n at *
    go_enter Try.func152, Try.ntmps152
    go_wp2_with (go_at_call 149; refine (HT.out _).mono ?_; rintro e w2 ⟨rfl, rfl⟩)
    go_ret
    exact ⟨r_b HE.out.symm, HB.out⟩
/-- What a move answers: a marking that can be read, where it was done. -/
def StE (HH : H) (CC : List Int) (ok : Bool) (lo hi : Nat) (w : World) (e : Ending) (w' : World) : Prop :=
  ∃ a b c d, e = .returned (.tuple #[mv a b c d, .bool ok]) ∧ (a.oneCell' = true ∧ b.oneCell' = true ∧ c.oneCell' = true ∧ d.oneCell' = true) ∧ (ok = true → ∀ w'' : World, (∀ i, ((lo ≤ i ∧ i < hi) ∨ w.heap.size ≤ i) → w''.heap[i]? = w'.heap[i]?) → HeapAt w'' a b c HH ∧ IntsAt w'' d CC) ∧ Chg lo hi w w'
theorem Chg.thenB {lo hi : Nat} {w x y : World} (k : Chg lo hi w x) (hb : Below w.heap.size x y) : Chg lo hi w y := ⟨hb.os.trans k.os, hb.tape.trans k.tape, hb.output.trans k.output, Nat.le_trans k.size hb.size, fun i q r => (hb.block i q).trans (k.block i q r)⟩
theorem Chg.thenG {lo hi : Nat} {w x y : World} {c : Option Nat} (k : Chg lo hi w x) (hg : x.grownBy y c) (hc : ∀ g, c = some g → (lo ≤ g ∧ g < hi) ∨ w.heap.size ≤ g) : Chg lo hi w y := ⟨hg.os.trans k.os, hg.tape.trans k.tape, hg.output.trans k.output, Nat.le_trans k.size hg.size, fun i q r => (hg.block i (Nat.lt_of_lt_of_le q k.size) (fun e => by have := hc i e.symm; omega)).trans (k.block i q r)⟩
theorem ne_rowM {w : World} {B g : Nat} {T : TypeId} {v : Value} {cs : List Int} {ds : Array Value} (ho : Own w B v cs) (hr : Row w g T ds) (hT : T ≠ 3) : v.ownBlock ≠ some g := by
  intro hg
  rcases ho.2 with ⟨rfl, _⟩ | ⟨g2, cap, cur, rfl, _, h2, _⟩
  · cases hg
  · cases hg
    unfold Row at hr
    rw [h2] at hr
    simp only [Option.some.injEq, Obj.cells.injEq] at hr
    exact hT hr.2.1.symm
theorem OwnHP.keepP {w w' : World} {lo hi : Nat} {a b c : Value} {h : H} {P : Nat → Prop} (k : OwnHP w lo hi a b c h P) (hb : ∀ g, P g → lo ≤ g → g < hi → g < w.heap.size → w'.heap[g]? = w.heap[g]?) : OwnHP w' lo hi a b c h P := by
  obtain ⟨us, k, p⟩ := k
  exact ⟨us, ⟨fun j hj => owns_block (k.own j hj) fun g hg => by obtain ⟨x, y, z⟩ := k.blk hj hg; exact hb g (p j hj g hg) x y z, k.lt, k.ap⟩, p⟩
theorem OwnHP.imp {w : World} {lo hi : Nat} {a b c : Value} {h : H} {P Q : Nat → Prop} (k : OwnHP w lo hi a b c h P) (hb : ∀ g, P g → lo ≤ g → g < hi → Q g) : OwnHP w lo hi a b c h Q := by
  obtain ⟨us, k, p⟩ := k
  exact ⟨us, k, fun j hj g hg => by obtain ⟨x, y, z⟩ := Fam.blk k hj hg; exact hb g (p j hj g hg) x y⟩
theorem putRootP {w : World} {lo hi : Nat} {a b c : Value} {h : H} {P : Nat → Prop} (k : OwnHP w lo hi a b c h P) {j : Nat} (hj : j < h.r.length) (x : Int) : ∃ gc cc, c = .slice (some ⟨gc, 0, none⟩) h.r.length cc ∧ w.cell? ⟨gc, j, none⟩ = some (.int .i64 (h.r.getD j 0)) ∧ w.frozen? ⟨gc, j, none⟩ = false ∧ OwnHP (w.setCell ⟨gc, j, none⟩ (.int .i64 x)) lo hi a b c ⟨h.f, h.l, h.r.set j x⟩ P ∧ w.grownBy (w.setCell ⟨gc, j, none⟩ (.int .i64 x)) (some gc) ∧ (∀ g T ds, Row w g T ds → T ≠ 3 → gc ≠ g) ∧ lo ≤ gc ∧ P gc := by
  obtain ⟨us, hf, p⟩ := k
  have hl := hf.roots
  rcases hl.shape' with ⟨_, h0⟩ | ⟨gc, cc, hc⟩
  · rw [h0] at hj; simp at hj
  have hl2 := hl
  rw [hc] at hl2
  obtain ⟨s1, s2, s3, s4⟩ := hl2.store1 rfl hj x
  refine ⟨gc, cc, hc, s3, s4, ⟨us, hf.setRoots (by rw [hc]; exact s2) (by rw [hc]; exact s1), p⟩, s2, fun g T ds hr hT e => ne_rowM hl2 hr hT (by rw [← e]; rfl), (owns_lt hl2 rfl).1, ?_⟩
  refine p 2 (by omega) gc ?_
  show c.ownBlock = some gc
  rw [hc]; rfl
/-- The rows of a move under way, in the blocks behind what it owns. -/
structure RwM (w x : World) (lo hi : Nat) (a b c d : Value) (v : Mv) : Prop where
  m : RowM x w.heap.size a b c d
  v : Row x (w.heap.size + 1) 38 (mo4 v)
  r : RowM x (w.heap.size + 1 + 1) nilS nilS nilS nilS
  l : Chg lo hi w x
  lw : lo ≤ w.heap.size
theorem RwM.below {w x y : World} {lo hi : Nat} {a b c d : Value} {v : Mv} (k : RwM w x lo hi a b c d v) (hb : Below x.heap.size x y) : RwM w y lo hi a b c d v := ⟨Row.below k.m hb, Row.below k.v hb, Row.below k.r hb, k.l.trans (Chg.of_below hb), k.lw⟩
/-- A change of blocks that are none of the rows. -/
theorem RwM.keep {w x y : World} {lo hi : Nat} {a b c d : Value} {v : Mv} (k : RwM w x lo hi a b c d v) (hb : Chg lo hi x y) (hk : ∀ i, w.heap.size ≤ i → i ≤ w.heap.size + 1 + 1 → y.heap[i]? = x.heap[i]?) : RwM w y lo hi a b c d v :=
  ⟨(hk _ (by omega) (by omega)).trans k.m, (hk _ (by omega) (by omega)).trans k.v, (hk _ (by omega) (by omega)).trans k.r, k.l.trans hb, k.lw⟩
theorem RwM.chg {w x y : World} {lo hi : Nat} {a b c d : Value} {v : Mv} (k : RwM w x lo hi a b c d v) (hb : Chg lo hi x y) (hw : hi ≤ w.heap.size) : RwM w y lo hi a b c d v :=
  k.keep hb fun i q1 q2 => hb.block i (by have := Row.lt k.r; omega) (by omega)
theorem RwM.grown {w x y : World} {lo hi g : Nat} {a b c d : Value} {v : Mv} (k : RwM w x lo hi a b c d v) (hg : x.grownBy y (some g)) (hlo : lo ≤ g) (h1 : g ≠ w.heap.size) (h2 : g ≠ w.heap.size + 1) (h3 : g ≠ w.heap.size + 1 + 1) (hh : g < hi ∨ w.heap.size ≤ g) : RwM w y lo hi a b c d v :=
  ⟨Row.grownBy k.m hg (by simpa using h1), Row.grownBy k.v hg (by simpa using h2), Row.grownBy k.r hg (by simpa using h3), k.l.thenG hg (fun j e => by cases e; omega), k.lw⟩
/-- One that is not done: the marking as it is comes back. -/
theorem RwM.no {w x : World} {lo hi : Nat} {a b c d : Value} {v : Mv} (k : RwM w x lo hi a b c d v) (HH : H) (CC : List Int) (h1 : a.oneCell' = true) (h2 : b.oneCell' = true) (h3 : c.oneCell' = true) (h4 : d.oneCell' = true) {ok : Bool} (hk : ok = false) : StE HH CC ok lo hi w (.returned (.tuple #[mv a b c d, .bool false])) (x.setRow (w.heap.size + 1 + 1) (m4 a b c d)) := by
  subst hk
  exact ⟨a, b, c, d, rfl, ⟨h1, h2, h3, h4⟩, (fun e => absurd e (by decide)), k.l.thenB (below_setRow (Below.refl _ _) (by omega) _)⟩
end Go.Proofs.Ytbmfkgfmibpkjaa
namespace Go.Proofs.Ytbmfkgfmibpkjaa
open Go.RowKit Ph

theorem OwnM.norm {w : World} {lo hi : Nat} {a b c d : Value} {h : H} {cs : List Int} (k : OwnM w lo hi a b c d h cs) (hl : lo ≤ hi) : ∃ l1 h1, OwnH w l1 h1 a b c h ∧ l1 ≤ h1 ∧ lo ≤ l1 ∧ h1 ≤ hi ∧ Own w lo d cs ∧ ∀ g, d.ownBlock = some g → (g < l1 ∨ h1 ≤ g) ∧ g < hi := by
  obtain ⟨l1, h1, l2, h2, k1, k2, e1, e2, e3, e4, e5⟩ := k
  have ob : ∀ g, d.ownBlock = some g → l2 ≤ g ∧ g < h2 := fun g hg => by
    obtain ⟨us, k⟩ := k2
    have := Fam.blk k (k := 2) (g := g) (by simp) hg
    exact ⟨this.1, this.2.1⟩
  have ow : Own w lo d cs := Own.mono k2.own e3
  by_cases q : l1 ≤ h1
  · exact ⟨l1, h1, k1, q, e1, e2, ow, fun g hg => by have := ob g hg; omega⟩
  · refine ⟨min l1 hi, min l1 hi, ?_, Nat.le_refl _, by omega, by omega, ow, fun g hg => by have := ob g hg; omega⟩
    obtain ⟨us, k⟩ := k1
    exact ⟨us, ⟨fun j hj => owns_mono (k.own j hj) fun g hg => by have := k.blk hj hg; omega, fun j hj g hg => by have := k.blk hj hg; omega, k.ap⟩⟩
/-- What is there once the new object is made. -/
structure NwT (w x : World) (lo l1 hi s gH : Nat) (a b c d a' b' c' : Value) (v : Mv) (h : H) (ds : List Int) : Prop where
  rw' : RwM w x lo hi a b c d v
  hp : OwnHP x l1 gH a' b' c' h (fun g => d.ownBlock ≠ some g ∧ (g < hi ∨ s ≤ g))
  hr : RowH x gH a' b' c'
  col : Own x lo d ds
  cb : ∀ g, d.ownBlock = some g → g < hi ∨ gH < g
  q : lo ≤ l1 ∧ l1 ≤ gH ∧ hi ≤ w.heap.size ∧ w.heap.size + 1 + 1 < s ∧ s ≤ gH
section
variable {w x y : World} {lo l1 hi s gH : Nat} {a b c d a' b' c' : Value} {v : Mv} {h : H} {ds ds' : List Int}
theorem NwT.below (k : NwT w x lo l1 hi s gH a b c d a' b' c' v h ds) (hb : Below x.heap.size x y) : NwT w y lo l1 hi s gH a b c d a' b' c' v h ds := ⟨k.rw'.below hb, k.hp.below hb, k.hr.below hb, k.col.below hb, k.cb, k.q⟩
theorem NwT.setCol (k : NwT w x lo l1 hi s gH a b c d a' b' c' v h ds) (ho : Own y lo d ds') (hg : x.grownBy y d.ownBlock) : NwT w y lo l1 hi s gH a b c d a' b' c' v h ds' := by
  have r := k.rw'
  have hr : Row x gH 32 (c3 a' b' c') := k.hr
  refine ⟨⟨Row.grownBy r.m hg (ne_rowM k.col r.m (by decide)), Row.grownBy r.v hg (ne_rowM k.col r.v (by decide)), Row.grownBy r.r hg (ne_rowM k.col r.r (by decide)), r.l.thenG hg (fun j e => by have := (owns_lt k.col e).1; have := k.cb j e; have := k.q; omega), r.lw⟩, k.hp.keepP fun g p _ _ q => hg.block g q (fun e => p.1 e.symm), Row.grownBy hr hg (ne_rowM k.col hr (by decide)), ho, k.cb, k.q⟩
/-- The colours' slice is stored into the marking. -/
theorem NwT.putCol {d' : Value} {w1 : World} (k : NwT w x lo l1 hi s gH a b c d a' b' c' v h ds) (hb : Below x.heap.size x w1) (ho : Own y lo d' ds') (hg : w1.grownBy y d.ownBlock) (hd : d'.ownBlock = d.ownBlock ∨ d'.ownBlock = some w1.heap.size) : NwT w (y.setCell ⟨w.heap.size, 3, none⟩ d') lo l1 hi s gH a b c d' a' b' c' v h ds' := by
  have k1 := k.below hb
  have r := k1.rw'
  have hr : Row w1 gH 32 (c3 a' b' c') := k1.hr
  have Q := k.q
  have hm : Row y w.heap.size 34 (m4 a b c d) := Row.grownBy r.m hg (ne_rowM k1.col r.m (by decide))
  have hbl : ∀ i, i ≠ w.heap.size → (y.setCell ⟨w.heap.size, 3, none⟩ d').heap[i]? = y.heap[i]? := fun i hi => heap_setCell_other y ⟨w.heap.size, 3, none⟩ i _ hi
  have hl : Chg lo hi w y := r.l.thenG hg (fun j e => by have := (owns_lt k1.col e).1; have := k.cb j e; omega)
  have hgl := k1.hr
  have hsz : gH < w1.heap.size := Row.lt hr
  refine ⟨⟨(Row.set hm 3 d').trans rfl, (hbl _ (by omega)).trans (Row.grownBy r.v hg (ne_rowM k1.col r.v (by decide))), (hbl _ (by omega)).trans (Row.grownBy r.r hg (ne_rowM k1.col r.r (by decide))), hl.thenB ((Below.refl _ _).setCell (p := ⟨w.heap.size, 3, none⟩) (Nat.le_refl _) d'), r.lw⟩, ?_, (hbl _ (by omega)).trans (Row.grownBy hr hg (ne_rowM k1.col hr (by decide))), owns_block ho (fun g e => hbl g (fun q => ?_)), fun g e => ?_, Q⟩
  · refine OwnHP.imp (k1.hp.keepP fun g p _ q1 q2 => (hbl g (by omega)).trans (hg.block g q2 (fun e => p.1 e.symm))) fun g p _ q1 => ⟨fun e => ?_, p.2⟩
    rcases hd with q | q
    · exact p.1 (q ▸ e)
    · rw [q] at e; cases e; omega
  · rw [q] at e
    exact ne_rowM ho hm (by decide) e
  · rcases hd with q | q
    · exact k.cb g (q ▸ e)
    · rw [q] at e; cases e; exact .inr hsz
/-- The root is set. -/
theorem NwT.root (k : NwT w x lo l1 hi s gH a b c d a' b' c' v h ds) {j : Nat} (hj : j < h.r.length) (z : Int) : ∃ gc cc, c' = .slice (some ⟨gc, 0, none⟩) h.r.length cc ∧ x.cell? ⟨gc, j, none⟩ = some (.int .i64 (h.r.getD j 0)) ∧ x.frozen? ⟨gc, j, none⟩ = false ∧ NwT w (x.setCell ⟨gc, j, none⟩ (.int .i64 z)) lo l1 hi s gH a b c d a' b' c' v ⟨h.f, h.l, h.r.set j z⟩ ds := by
  obtain ⟨gc, cc, e, s1, s2, s3, s4, s5, s6, s7⟩ := putRootP k.hp hj z
  have r := k.rw'
  have hr : Row x gH 32 (c3 a' b' c') := k.hr
  have Q := k.q
  exact ⟨gc, cc, e, s1, s2, ⟨r.grown s4 (by omega) (s5 _ _ _ r.m (by decide)) (s5 _ _ _ r.v (by decide)) (s5 _ _ _ r.r (by decide)) (by have := s7.2; omega), s3, Row.grownBy hr s4 (by simpa using s5 _ _ _ hr (by decide)), owns_block k.col (fun g e2 => s4.block g (owns_lt k.col e2).2 (fun e3 => s7.1 (by cases e3; exact e2))), k.cb, Q⟩⟩
/-- The heap is stored into the marking. -/
theorem NwT.heap (k : NwT w x lo l1 hi s gH a b c d a' b' c' v h ds) : NwT w (((x.setCell ⟨w.heap.size, 0, none⟩ a').setCell ⟨w.heap.size, 1, none⟩ b').setCell ⟨w.heap.size, 2, none⟩ c') lo l1 hi s gH a' b' c' d a' b' c' v h ds := by
  have r := k.rw'
  have Q := k.q
  have hbl : ∀ i, i ≠ w.heap.size → (((x.setCell ⟨w.heap.size, 0, none⟩ a').setCell ⟨w.heap.size, 1, none⟩ b').setCell ⟨w.heap.size, 2, none⟩ c').heap[i]? = x.heap[i]? := fun i hi => by
    rw [heap_setCell_other _ ⟨w.heap.size, 2, none⟩ i _ hi, heap_setCell_other _ ⟨w.heap.size, 1, none⟩ i _ hi, heap_setCell_other _ ⟨w.heap.size, 0, none⟩ i _ hi]
  refine ⟨⟨(Row.set (Row.set (Row.set r.m 0 a') 1 b') 2 c').trans rfl, (hbl _ (by omega)).trans r.v, (hbl _ (by omega)).trans r.r, r.l.thenB ((((Below.refl _ _).setCell (p := ⟨w.heap.size, 0, none⟩) (Nat.le_refl _) a').setCell (p := ⟨w.heap.size, 1, none⟩) (Nat.le_refl _) b').setCell (p := ⟨w.heap.size, 2, none⟩) (Nat.le_refl _) c'), r.lw⟩, k.hp.keepP fun g p _ _ q2 => hbl g (by omega), (hbl _ (by omega)).trans k.hr, owns_block k.col (fun g e => hbl g (fun q => by rw [q] at e; exact ne_rowM k.col r.m (by decide) e)), k.cb, Q⟩
end
end Go.Proofs.Ytbmfkgfmibpkjaa
namespace Go.Proofs.Ytbmfkgfmibpkjaa
open Go.RowKit Ph

def nwC (h : H) (cs : List Int) (v : Mv) (put : Bool) : List Int := if put = true then newC cs (newP h v.a).2 1 else shade (newC cs (newP h v.a).2 2) (h.r.getD v.b.toNat 0)
def nwOk (h : H) (v : Mv) : Bool := decide (v.t = 0) && hasRB h v.b && newOk h v.a
theorem nwOk_a {h : H} {v : Mv} (k : (decide (0 ≤ v.a) && decide (v.a ≤ 3)) = false) : nwOk h v = false := by
  unfold nwOk newOk
  cases q : decide (0 ≤ v.a) with
  | false => simp
  | true => rw [q] at k; simp only [Bool.true_and] at k; rw [k]; simp
theorem nwOk_b {h : H} {v : Mv} (k : hasRB h v.b = false) : nwOk h v = false := by unfold nwOk; rw [k]; simp
theorem nwOk_t {h : H} {v : Mv} (k : ¬ v.t = 0) : nwOk h v = false := by unfold nwOk; rw [decide_eq_false k]; rfl
theorem nwOk_n {h : H} {v : Mv} (k : newOk h v.a = false) : nwOk h v = false := by unfold nwOk; rw [k]; simp
theorem nwOk_y {h : H} {v : Mv} (k1 : v.t = 0) (k2 : hasRB h v.b = true) (k3 : newOk h v.a = true) : nwOk h v = true := by unfold nwOk; rw [decide_eq_true k1, k2, k3]; rfl
theorem inR_get {cs : List Int} {zs : List Int} (hr : ∀ z ∈ zs, inR cs.length z) {j : Nat} (hj : j < zs.length) : zs.getD j 0 < cs.length := by
  rcases hr _ (getD_memI hj) with q | q <;> omega
theorem newC_app {cs : List Int} {p : Nat} {x : Int} (e : p = cs.length) : newC cs p x = (cs ++ [0]).set p x := by unfold newC; rw [if_pos e]
theorem newC_set {cs : List Int} {p : Nat} {x : Int} (e : ¬ p = cs.length) : newC cs p x = cs.set p x := by unfold newC; rw [if_neg e]
theorem set_set (cs : List Int) (p : Nat) (x y : Int) : (cs.set p x).set p y = cs.set p y := by simp
end Go.Proofs.Ytbmfkgfmibpkjaa
namespace Go.Proofs.Ytbmfkgfmibpkjaa
open Go.RowKit Ph
set_option maxHeartbeats 12800000 in
set_option maxRecDepth 100000 in
theorem s_l7New (lo hi : Nat) (a b c d : Value) (h : H) (cs : List Int) (v : Mv) (put : Bool) (w : World) (hO : OwnM w lo hi a b c d h cs) (hB : bothB h cs = true) (hl : lo ≤ hi) (hs : hi ≤ w.heap.size) :
    Calls Try.prog 151 #[mv a b c d, mo v, .bool put] w (StE (newH h v.a v.b) (nwC h cs v put) (nwOk h v) lo hi w) := by
  obtain ⟨i0, hi0, hz0, hz1, hz2⟩ := info_parts info_int
  obtain ⟨⟨pa, qa, e1⟩, ⟨pb, qb, e2⟩, ⟨pc, qc, e3⟩, ⟨pd, qd, e4⟩⟩ := hO.shapes
  subst e1 e2 e3 e4
  obtain ⟨g, hlc, hcol⟩ := bothB_iff.1 hB
  have hn12 := g.n
  have hr4 := g.rn
  have hT2 : ∀ w', Calls Try.prog 149 #[.int .i64 v.b, .int .i64 0, .int .i64 ((h.r.length : Int) - 1)] w' fun e w'' => e = .returned (.bool (hasRB h v.b)) ∧ w' = w'' := fun w' => by
    have q : (decide (0 ≤ v.b) && decide (v.b ≤ (h.r.length : Int) - 1)) = hasRB h v.b := by unfold hasRB; congr 1; exact decide_eq_decide.2 (by omega)
    rw [← q]; exact s_l1In _ _ _ w'
  have HT1 := Lib.hid (fun w' => s_l1In v.a 0 3 w')
  have HT2 := Lib.hid hT2
  have hwr : IntKind.i64.wrap ((h.r.length : Int) - 1) = (h.r.length : Int) - 1 := IntWalk.i64_in _ (by omega)
  have HOA := Lib.hid (nwOk_a (h := h) (v := v)); have HOB := Lib.hid (nwOk_b (h := h) (v := v)); have HOT := Lib.hid (nwOk_t (h := h) (v := v)); have HON := Lib.hid (nwOk_n (h := h) (v := v)); have HOY := Lib.hid (nwOk_y (h := h) (v := v))
  have HJ := Lib.hid (hasRB_iff (h := h) (t := v.b))
  have HX : Hid ((decide (0 ≤ v.a) && decide (v.a ≤ 3)) = true → ∃ m : Nat, v.a = m ∧ m ≤ 3) := fun q => by simp only [Bool.and_eq_true, decide_eq_true_eq] at q; exact ⟨v.a.toNat, by omega, by omega⟩
  have HG := Lib.hid g
  have HLC : Hid (∀ n, cs.length = n → h.f.length = n) := fun n q => by rw [← hlc]; exact q
  clear hT2 hB g
  obtain ⟨vk, va, vb, vt⟩ := v
  simp only at HT1 HT2 HOA HOB HOT HON HOY HJ HX
  simp only
  have M_ := Lib.hid (show Row (((w.alloc (.cells (m4 (.slice pa h.f.length qa) (.slice pb h.l.length qb) (.slice pc h.r.length qc) (.slice pd cs.length qd)) 34)).alloc (.cells (mo4 ⟨vk, va, vb, vt⟩) 38)).alloc (.cells (m4 nilS nilS nilS nilS) 34)) w.heap.size 34 (m4 (.slice pa h.f.length qa) (.slice pb h.l.length qb) (.slice pc h.r.length qc) (.slice pd cs.length qd)) from ((Row.new w _ _).alloc _).alloc _)
  have b0 := ((below1 w (.cells (m4 (.slice pa h.f.length qa) (.slice pb h.l.length qb) (.slice pc h.r.length qc) (.slice pd cs.length qd)) 34)).alloc (by simp) (.cells (mo4 ⟨vk, va, vb, vt⟩) 38)).alloc (by simp; omega) (.cells (m4 nilS nilS nilS nilS) 34)
  have R0 := Lib.hid (RwM.mk (v := ⟨vk, va, vb, vt⟩) M_.out ((Row.new1 w _ _ _).alloc _) (Row.new2 w _ _ _ _) (Chg.of_below (lo := lo) (hi := hi) b0) (by omega))
  have O0 := Lib.hid (hO.below b0)
  have SZ0 : Hid ((((w.alloc (.cells (m4 (.slice pa h.f.length qa) (.slice pb h.l.length qb) (.slice pc h.r.length qc) (.slice pd cs.length qd)) 34)).alloc (.cells (mo4 ⟨vk, va, vb, vt⟩) 38)).alloc (.cells (m4 nilS nilS nilS nilS) 34)).heap.size = w.heap.size + 1 + 1 + 1) := by unfold Hid; simp
  clear hO M_ b0
  generalize hnf : h.f.length = nf at *
  have HNF := Lib.hid hnf; clear hnf
  generalize hnl : h.l.length = nl at *
  have HNL := Lib.hid hnl; clear hnl
  generalize hnr : h.r.length = nr at *
  have HNR := Lib.hid hnr; clear hnr
  generalize hnc : cs.length = nc at *
  have HNC := Lib.hid hnc; clear hnc
  have HSW := Lib.hid hs; have HLO := Lib.hid hl; have HCOL := Lib.hid hcol; have HLCN : Hid (nc = nf) := hlc
  clear hs hl hcol hlc HLC
  generalize hok : nwOk h ⟨vk, va, vb, vt⟩ = ok at *
  have HOK := Lib.hid hok; clear hok
  generalize (decide (0 ≤ va) && decide (va ≤ 3)) = x1 at *
  generalize hasRB h vb = y1 at *
  have m0 := R0.out.m.cell 0
  have m1 := R0.out.m.cell 1
  have m2 := R0.out.m.cell 2
  have m3 := R0.out.m.cell 3
  have v1 : (_ : World).cell? ⟨w.heap.size + 1, 1, none⟩ = some (.int .i64 va) := R0.out.v.cell 1
  have v2 : (_ : World).cell? ⟨w.heap.size + 1, 2, none⟩ = some (.int .i64 vb) := R0.out.v.cell 2
  have v3 : (_ : World).cell? ⟨w.heap.size + 1, 3, none⟩ = some (.int .i64 vt) := R0.out.v.cell 3
  cases x1
  · have HE := Lib.hid (HOA.out rfl)
    go_enter Try.func151, Try.ntmps151
    go_upto_region 2 with (go_at_call 149; refine (HT1.out _).mono ?_; rintro e w2 ⟨rfl, rfl⟩)
    generalize (((w.alloc (.cells (m4 (.slice pa nf qa) (.slice pb nl qb) (.slice pc nr qc) (.slice pd nc qd)) 34)).alloc (.cells (mo4 ⟨vk, va, vb, vt⟩) 38)).alloc (.cells (m4 nilS nilS nilS nilS) 34)) = w0 at *
    go_wp2_with (first
            | (refine wl_loadM rfl _ rfl w.heap.size (.slice pa nf qa) (.slice pb nl qb) (.slice pc nr qc) (.slice pd nc qd) R0.out.m rfl ?_)
            | (refine wl_storeM rfl _ _ rfl (w.heap.size + 1 + 1) (.slice pa nf qa) (.slice pb nl qb) (.slice pc nr qc) (.slice pd nc qd) _ _ _ _ R0.out.r rfl rfl rfl rfl rfl rfl ?_))
    refine bodyPost_ret (res_row_slot Try.results151 (Row.put R0.out.r (m4 (.slice pa nf qa) (.slice pb nl qb) (.slice pc nr qc) (.slice pd nc qd))) rfl rfl Try.underlying34 rfl info_marking) rfl (R0.out.no _ _ rfl rfl rfl rfl HE.out)
  cases y1
  · have HE := Lib.hid (HOB.out rfl)
    go_enter Try.func151, Try.ntmps151
    go_wp2_with fail
    refine (HT1.out _).mono ?_
    rintro e w2 ⟨rfl, rfl⟩
    go_wp2_with fail
    refine (HT2.out _).mono ?_
    rintro e w2 ⟨rfl, rfl⟩
    go_upto_region 2 with fail
    generalize (((w.alloc (.cells (m4 (.slice pa nf qa) (.slice pb nl qb) (.slice pc nr qc) (.slice pd nc qd)) 34)).alloc (.cells (mo4 ⟨vk, va, vb, vt⟩) 38)).alloc (.cells (m4 nilS nilS nilS nilS) 34)) = w0 at *
    go_wp2_with (first
            | (refine wl_loadM rfl _ rfl w.heap.size (.slice pa nf qa) (.slice pb nl qb) (.slice pc nr qc) (.slice pd nc qd) R0.out.m rfl ?_)
            | (refine wl_storeM rfl _ _ rfl (w.heap.size + 1 + 1) (.slice pa nf qa) (.slice pb nl qb) (.slice pc nr qc) (.slice pd nc qd) _ _ _ _ R0.out.r rfl rfl rfl rfl rfl rfl ?_))
    refine bodyPost_ret (res_row_slot Try.results151 (Row.put R0.out.r (m4 (.slice pa nf qa) (.slice pb nl qb) (.slice pc nr qc) (.slice pd nc qd))) rfl rfl Try.underlying34 rfl info_marking) rfl (R0.out.no _ _ rfl rfl rfl rfl HE.out)
  by_cases ht : vt = 0
  rotate_left
  · have HE := Lib.hid (HOT.out ht)
    have ht1 : (vt == 0) = false := by simpa using ht
    have ht2 : (vt != 0) = true := by simpa using ht
    clear ht HOT
    go_enter Try.func151, Try.ntmps151
    go_wp2_with fail
    refine (HT1.out _).mono ?_
    rintro e w2 ⟨rfl, rfl⟩
    go_wp2_with fail
    refine (HT2.out _).mono ?_
    rintro e w2 ⟨rfl, rfl⟩
    go_upto_region 2 with fail
    generalize (((w.alloc (.cells (m4 (.slice pa nf qa) (.slice pb nl qb) (.slice pc nr qc) (.slice pd nc qd)) 34)).alloc (.cells (mo4 ⟨vk, va, vb, vt⟩) 38)).alloc (.cells (m4 nilS nilS nilS nilS) 34)) = w0 at *
    go_wp2_with (first
            | (refine wl_loadM rfl _ rfl w.heap.size (.slice pa nf qa) (.slice pb nl qb) (.slice pc nr qc) (.slice pd nc qd) R0.out.m rfl ?_)
            | (refine wl_storeM rfl _ _ rfl (w.heap.size + 1 + 1) (.slice pa nf qa) (.slice pb nl qb) (.slice pc nr qc) (.slice pd nc qd) _ _ _ _ R0.out.r rfl rfl rfl rfl rfl rfl ?_))
    refine bodyPost_ret (res_row_slot Try.results151 (Row.put R0.out.r (m4 (.slice pa nf qa) (.slice pb nl qb) (.slice pc nr qc) (.slice pd nc qd))) rfl rfl Try.underlying34 rfl info_marking) rfl (R0.out.no _ _ rfl rfl rfl rfl HE.out)
  subst ht
  obtain ⟨m, rfl, hm3⟩ := HX.out rfl
  obtain ⟨j, rfl, hjr⟩ := HJ.out rfl
  obtain ⟨l1, h1, k1, kl, kl1, kh1, kc, kb⟩ := O0.out.norm HLO.out
  have K1 := Lib.hid k1; have KC := Lib.hid kc; have KB := Lib.hid kb
  have KQ := Lib.hid (And.intro kl (And.intro kl1 kh1))
  have HM3 := Lib.hid hm3
  have HJR : Hid (j < nr) := hjr
  clear k1 kl kl1 kh1 kc kb hm3 hjr O0 HJ HX HT2
  go_enter Try.func151, Try.ntmps151
  go_wp2_with fail
  refine (HT1.out _).mono ?_
  rintro e w2 ⟨rfl, rfl⟩
  go_wp2_with fail
  refine (s_l1In_yes _ _ _ _ (by omega) (by have := HJR.out; omega)).mono ?_
  rintro e w2 ⟨rfl, rfl⟩
  go_wp2_with fail
  refine (s_l5NewC _ _ _ h m l1 h1 _ K1.out KQ.out.1 (by have := KQ.out; have := HSW.out; rw [SZ0.out]; omega) (by rw [HNF.out]; omega) (by rw [HNL.out, HNF.out]; have := HG.out.ll; rw [HNL.out, HNF.out] at this; exact this) HM3.out).mono ?_
  rintro e w2 ⟨a', b', c', rfl, hp2, bl2, rows2, kp2⟩
  clear rows2
  obtain ⟨⟨ra, ta, e1⟩, ⟨rb, tb, e2⟩, ⟨rc, tc, e3⟩⟩ := hp2.shapes
  subst e1 e2 e3
  have R2 : Hid (RwM w w2 lo hi (.slice pa nf qa) (.slice pb nl qb) (.slice pc nr qc) (.slice pd nc qd) ⟨vk, m, j, 0⟩) := R0.out.keep ⟨bl2.os, bl2.tape, bl2.output, bl2.size, fun i q1 q2 => by
    by_cases q : i < l1
    · exact bl2.block i q
    · exact kp2 i q1 (by have := KQ.out; omega)⟩ (fun i q1 q2 => kp2 i (by rw [SZ0.out]; omega) (by have := KQ.out; have := HSW.out; omega))
  have C2 : Hid (Own w2 lo (.slice pd nc qd) cs) := owns_block KC.out (fun g e => by
    have q := owns_lt KC.out e
    rcases (KB.out g e).1 with q1 | q1
    · exact bl2.block g q1
    · exact kp2 g q.2 q1)
  have SZ2 : Hid (w.heap.size + 1 + 1 + 1 ≤ w2.heap.size) := by have := bl2.size; rw [SZ0.out] at this; exact this
  have HP2 : Hid (OwnHP w2 l1 w2.heap.size _ _ _ _ (fun g => (Value.slice pd nc qd).ownBlock ≠ some g ∧ (g < hi ∨ w.heap.size + 1 + 1 + 1 ≤ g))) := hp2.imp (fun g p q1 q2 => ⟨fun e => by
    have q := KB.out g e
    have q3 := HSW.out
    rcases p with p | p
    · omega
    · rw [SZ0.out] at p; omega, by
    have := KQ.out
    rcases p with p | p
    · exact .inl (by omega)
    · rw [SZ0.out] at p; exact .inr p⟩)
  clear hp2 bl2 kp2 m0 m1 m2 m3 v1 v2 v3 K1 KC R0
  generalize hok2 : newOk h (m : Int) = z1 at *
  have HOK2 := Lib.hid hok2; clear hok2
  have HGG : Hid (Ph.Good h) := HG
  cases z1
  · have hz : (newS h m).2 = -1 := newS_no HGG.out HM3.out HOK2.out
    rw [hz]
    clear hz
    have HE := Lib.hid (HON.out rfl)
    generalize (newS h m).1 = H1 at *
    generalize hrf : H1.f.length = rf at *
    generalize hrl : H1.l.length = rl at *
    generalize hrr : H1.r.length = rr at *
    clear hrf hrl hrr HP2
    have ba := below1 w2 (.cells (c3 (.slice ra rf ta) (.slice rb rl tb) (.slice rc rr tc)) 32)
    have R3 := Lib.hid (R2.out.below ba)
    have m0 := R3.out.m.cell 0
    have m1 := R3.out.m.cell 1
    have m2 := R3.out.m.cell 2
    have m3 := R3.out.m.cell 3
    clear ba R2 C2
    go_upto_region 5 with fail
    go_wp2_with (first | (refine wl_loadM rfl _ rfl w.heap.size (.slice pa nf qa) (.slice pb nl qb) (.slice pc nr qc) (.slice pd nc qd) R3.out.m rfl ?_) | (refine wl_storeM rfl _ _ rfl (w.heap.size + 1 + 1) (.slice pa nf qa) (.slice pb nl qb) (.slice pc nr qc) (.slice pd nc qd) _ _ _ _ R3.out.r rfl rfl rfl rfl rfl rfl ?_))
    refine bodyPost_ret (res_row_slot Try.results151 (Row.put R3.out.r (m4 (.slice pa nf qa) (.slice pb nl qb) (.slice pc nr qc) (.slice pd nc qd))) rfl rfl Try.underlying34 rfl info_marking) rfl (R3.out.no _ _ rfl rfl rfl rfl HE.out)
  have hns := newS_yes HGG.out HOK2.out
  have hz : (newS h m).2 = (((newP h (m : Int)).2 : Nat) : Int) := by rw [hns]
  have hh : (newS h m).1 = (newP h (m : Int)).1 := by rw [hns]
  rw [hz]
  rw [hh] at HP2
  simp only [hh]
  obtain ⟨hp1, hp2⟩ := newP_place HOK2.out
  have HE : Hid (ok = true) := HOY.out (by simp) (by simp) (by simp)
  have HPP : Hid ((newP h (m : Int)).2 ≤ nc) := by rw [HNF.out] at hp1; have := HLCN.out; unfold Hid; omega
  have HRR : Hid ((newP h (m : Int)).1.r = h.r) := by unfold Hid; rw [newP_yes HOK2.out]; unfold put1 grown1; split <;> rfl
  have HNH : Hid (newH h (m : Int) (j : Int) = ⟨(newP h (m : Int)).1.f, (newP h (m : Int)).1.l, (newP h (m : Int)).1.r.set j ((newP h (m : Int)).2 : Int)⟩) := by unfold Hid newH; rw [Int.toNat_natCast]
  have HNW : Hid (nwC h cs ⟨vk, m, j, 0⟩ put = if put = true then newC cs (newP h (m : Int)).2 1 else shade (newC cs (newP h (m : Int)).2 2) (h.r.getD j 0)) := by unfold Hid nwC; simp only [Int.toNat_natCast]
  have HRI : Hid (∀ z ∈ h.r, inR cs.length z) := fun z hz => by rw [HNC.out, HLCN.out, ← HNF.out]; exact (refs_bound HG.out HG.out.rr z hz).imp id (fun q => ⟨q.1, q.2.1⟩)
  clear hns hz hh hp1 hp2 HOY HON HOT HOB HOA
  generalize (newP h (m : Int)).2 = p at *
  generalize (newP h (m : Int)).1 = H1 at *
  generalize hrf : H1.f.length = rf at *
  generalize hrl : H1.l.length = rl at *
  generalize hrr : H1.r.length = rr at *
  have HRR1 : Hid (rr = nr) := by unfold Hid; rw [← hrr, HRR.out, HNR.out]
  have HRR2 := Lib.hid hrr
  clear hrf hrl hrr
  have ba := below1 w2 (.cells (c3 (.slice ra rf ta) (.slice rb rl tb) (.slice rc rr tc)) 32)
  have N3 : Hid (NwT w _ lo l1 hi (w.heap.size + 1 + 1 + 1) w2.heap.size (.slice pa nf qa) (.slice pb nl qb) (.slice pc nr qc) (.slice pd nc qd) (.slice ra rf ta) (.slice rb rl tb) (.slice rc rr tc) ⟨vk, m, j, 0⟩ H1 cs) := ⟨R2.out.below ba, HP2.out.below ba, Row.new w2 32 (c3 (.slice ra rf ta) (.slice rb rl tb) (.slice rc rr tc)), Own.below C2.out ba, fun g e => .inl (KB.out g e).2, by have := KQ.out; have := HSW.out; have := SZ2.out; omega⟩
  clear ba R2 C2 HP2
  have m3 := N3.out.rw'.m.cell 3
  have hpz : ¬ ((p : Int) < 0) := by omega
  have JJ : Hid (j < H1.r.length) := by unfold Hid; rw [HRR2.out, HRR1.out]; exact HJR.out
  by_cases hpn : p = nc
  · have hpq : ((p : Int) == (nc : Int)) = true := by rw [hpn]; simp
    have HPN : Hid (p = cs.length) := hpn.trans HNC.out.symm
    have HW2 : Hid (∀ x, newC cs p x = (cs ++ [0]).set p x) := fun x => newC_app HPN.out
    clear hpn
    go_upto_region 7 with fail
    clear m3
    generalize w2.alloc (.cells (c3 (.slice ra rf ta) (.slice rb rl tb) (.slice rc rr tc)) 32) = w3 at *
    generalize w2.heap.size = gH at *
    have m3 := N3.out.rw'.m.cell 3
    have HS := Lib.hid (src_int w3 0)
    have bs := below1 w3 (.cells #[.int .i64 0] 3)
    have BS := Lib.hid bs
    have HO1 := Lib.hid (Own.below N3.out.col bs)
    have LW4 : Hid (lo ≤ (w3.alloc (.cells #[.int .i64 0] 3)).heap.size) := (by have := Row.lt N3.out.hr; have := N3.out.q; unfold Hid; rw [World.size_alloc]; omega)
    clear bs
    go_upto_region 8 with (at_builtin; refine wl_appOwn _ rfl _ _ 24 rfl lo 3 i0 (.int .i64 0) 8 Try.underlying24 hi0 hz0 hz1 hz2 rfl (.slice pd nc qd) _ _ rfl (by have q := HO1.out; unfold Own at q; rw [HNC.out] at q; exact q) _ _ rfl HS.out (by have := HLCN.out; simp; unfold maxLen; omega) (by have := HLCN.out; simp; omega) LW4.out ?_; intro v4 w4 ho4 hg4 hd4; have o4 : Own w4 lo v4 (cs ++ [0]) := by { unfold Own; rw [List.map_append, List.length_append, HNC.out]; exact ho4 }; have hv4 : ∃ gd cap, v4 = .slice (some ⟨gd, 0, none⟩) (nc + 1) cap := by { rcases o4.shape' with ⟨_, q⟩ | ⟨g, c, q⟩; exact absurd q (by simp); exact ⟨g, c, by rw [q, List.length_append, List.length_singleton, HNC.out]⟩ }; obtain ⟨gd, cap, rfl⟩ := hv4; have N5 := Lib.hid (N3.out.putCol BS.out o4 hg4 hd4); have rm4 : Row w4 w.heap.size 34 (m4 (.slice pa nf qa) (.slice pb nl qb) (.slice pc nr qc) (.slice pd nc qd)) := Row.grownBy (N3.out.below BS.out).rw'.m hg4 (ne_rowM HO1.out (N3.out.below BS.out).rw'.m (by decide)); have q3 := Row.cell rm4 3; have qf3 := Row.frozen rm4 3; have O4 := Lib.hid o4; clear ho4 hg4 hd4 o4 rm4)
    clear q3 qf3 O4 HS BS HO1 LW4 N3 m3
    have HDL : Hid ((cs ++ [0]).length = nc + 1) := (by unfold Hid; rw [List.length_append, List.length_singleton, HNC.out])
    have HPL : Hid (p < nc + 1) := (by have := HPP.out; unfold Hid; omega)
    obtain ⟨s1, s2, s3, s4⟩ := Own.store1 N5.out.col HDL.out HPL.out 2
    have N6 := Lib.hid (N5.out.setCol s1 s2)
    have e3 := N5.out.rw'.m.cell 3
    have i0' : (0 : Int) ≤ (p : Int) := by omega
    have i1' : (p : Int) < ((nc + 1 : Nat) : Int) := by have := HPL.out; omega
    clear s1 s2
    go_upto_region 9 with fail
    clear s3 s4 e3 N5
    generalize (w4.setCell ⟨w.heap.size, 3, none⟩ (.slice (some ⟨gd, 0, none⟩) (nc + 1) cap)).setCell ⟨gd, p, none⟩ (.int .i64 2) = x6 at *
    have HDL6 : Hid (((cs ++ [0]).set p 2).length = nc + 1) := (by unfold Hid; rw [List.length_set]; exact HDL.out)
    cases put
    · skip
      have WD := Lib.hid (N6.out.below (below_drew (Below.refl x6.heap.size x6)))
      go_upto_region 11 with fail
      obtain ⟨gc0, cc0, ec0, r0, _, _⟩ := WD.out.root JJ.out (p : Int)
      rw [HRR2.out] at ec0
      cases ec0
      rw [HRR.out] at r0
      have hg3 := WD.out.rw'.m.cell 3
      have hg2 := WD.out.hr.c2
      have hv2 := WD.out.rw'.v.cell 2
      have j0 : (0 : Int) ≤ (j : Int) := by omega
      have j1 : (j : Int) < (rr : Int) := by have := HJR.out; have := HRR1.out; omega
      have HJZ : Hid (h.r.getD j 0 < ((cs ++ [0]).set p 2).length) := (by unfold Hid; have q := inR_get HRI.out (show j < h.r.length by rw [HNR.out]; exact HJR.out); rw [HDL6.out]; have := HNC.out; omega)
      generalize hzr : h.r.getD j 0 = zr at *
      have HRZ := Lib.hid hzr; clear hzr
      refine wp_region_held_drew (S := (fun w' => w'.cell? ⟨w.heap.size, 3, none⟩ = some (.slice (some ⟨gd, 0, none⟩) (nc + 1) cap) ∧ w'.cell? ⟨gH, 2, none⟩ = some (.slice (some ⟨gc0, 0, none⟩) rr tc) ∧ w'.cell? ⟨w.heap.size + 1, 2, none⟩ = some (.int .i64 (j : Int)) ∧ w'.cell? ⟨gc0, j, none⟩ = some (.int .i64 (zr)))) (by kernel_rfl) (⟨hg3, hg2, hv2, r0⟩) (fun hHeld => ?_)
      generalize x6.drew = x7 at *
      refine wpAnyH_take (i := 0) (v := ?va0x1) rfl (by kernel_rfl) (by kernel_rfl) (by kernel_rfl) (fun _ _ _ h => h) (Or.inl ⟨by rfl, ?hy0x1⟩) (by assumption) ?rest0x1
      case hy0x1 => (intro w hSw; (try dsimp only at hSw); go_simp; try with_reducible rfl)
      (try simp only [Act.put, List.getElem_toArray, List.getElem_cons_zero, List.setIfInBounds_toArray, List.set_cons_zero, List.set_cons_succ])
      refine wpAnyH_take (i := 1) (v := ?va1x2) rfl (by kernel_rfl) (by kernel_rfl) (by kernel_rfl) (fun _ _ _ h => h) (Or.inl ⟨by rfl, ?hy1x2⟩) (by assumption) ?rest1x2
      case hy1x2 => (intro w hSw; (try dsimp only at hSw); go_simp; try with_reducible rfl)
      (try simp only [Act.put, List.getElem_toArray, List.getElem_cons_zero, List.getElem_cons_succ, List.setIfInBounds_toArray, List.set_cons_zero, List.set_cons_succ])
      refine wpAnyH_take (i := 2) (v := ?va2x3) rfl (by kernel_rfl) (by kernel_rfl) (by kernel_rfl) (fun _ _ _ h => h) (Or.inl ⟨by rfl, ?hy2x3⟩) (by assumption) ?rest2x3
      case hy2x3 => (intro w hSw; (try dsimp only at hSw); go_simp; try with_reducible rfl)
      (try simp only [Act.put, List.getElem_toArray, List.getElem_cons_zero, List.getElem_cons_succ, List.setIfInBounds_toArray, List.set_cons_zero, List.set_cons_succ])
      refine wpAnyH_take (i := 3) (v := ?va3x4) rfl (by kernel_rfl) (by kernel_rfl) (by kernel_rfl) (fun _ _ _ h => h) (Or.inl ⟨by rfl, ?hy3x4⟩) (by assumption) ?rest3x4
      case hy3x4 => (intro w hSw; (try dsimp only at hSw); go_simp; try with_reducible rfl)
      (try simp only [Act.put, List.getElem_toArray, List.getElem_cons_zero, List.getElem_cons_succ, List.setIfInBounds_toArray, List.set_cons_zero, List.set_cons_succ])
      refine wpAnyH_take (i := 4) (v := ?va4x5) rfl (by kernel_rfl) (by kernel_rfl) (by kernel_rfl) (fun _ _ _ h => h) (Or.inl ⟨by rfl, ?hy4x5⟩) (by assumption) ?rest4x5
      case hy4x5 => (intro w hSw; (try dsimp only at hSw); go_simp; try with_reducible rfl)
      (try simp only [Act.put, List.getElem_toArray, List.getElem_cons_zero, List.getElem_cons_succ, List.setIfInBounds_toArray, List.set_cons_zero, List.set_cons_succ])
      refine wpAnyH_take (i := 5) (v := ?va5x6) rfl (by kernel_rfl) (by kernel_rfl) (by kernel_rfl) (fun _ _ _ h => h) (Or.inl ⟨by rfl, ?hy5x6⟩) (by assumption) ?rest5x6
      case hy5x6 => (intro w hSw; (try dsimp only at hSw); go_simp; try with_reducible rfl)
      (try simp only [Act.put, List.getElem_toArray, List.getElem_cons_zero, List.getElem_cons_succ, List.setIfInBounds_toArray, List.set_cons_zero, List.set_cons_succ])
      refine wpAnyH_take (i := 6) (v := ?va6x7) rfl (by kernel_rfl) (by kernel_rfl) (by kernel_rfl) (fun _ _ _ h => h) (Or.inl ⟨by rfl, ?hy6x7⟩) (by assumption) ?rest6x7
      case hy6x7 => (intro w hSw; (try dsimp only at hSw); go_simp; try with_reducible rfl)
      (try simp only [Act.put, List.getElem_toArray, List.getElem_cons_zero, List.getElem_cons_succ, List.setIfInBounds_toArray, List.set_cons_zero, List.set_cons_succ])
      refine wpAnyH_take (i := 7) (v := ?va7x8) rfl (by kernel_rfl) (by kernel_rfl) (by kernel_rfl) (fun _ _ _ h => h) (Or.inl ⟨by rfl, ?hy7x8⟩) (by assumption) ?rest7x8
      case hy7x8 => (intro w hSw; (try dsimp only at hSw); go_simp; try with_reducible rfl)
      (try simp only [Act.put, List.getElem_toArray, List.getElem_cons_zero, List.getElem_cons_succ, List.setIfInBounds_toArray, List.set_cons_zero, List.set_cons_succ])
      refine wpAnyH_ready (rs := [8]) (by kernel_rfl) (by simp) ?_
      refine AllReadyH.cons rfl (fun K hK => ?_) AllReadyH.nil
      go_simp
      refine (s_l6Shade (.slice (some ⟨gd, 0, none⟩) (nc + 1) cap) _ zr lo _ WD.out.col HJZ.out).mono ?_
      rintro e y7 ⟨rfl, ho7, hg7⟩
      have N7 := Lib.hid (WD.out.setCol ho7 hg7)
      have r7 : y7.cell? ⟨gc0, j, none⟩ = some (.int .i64 zr) := (by obtain ⟨gq, cq, eq, rq, _, _⟩ := N7.out.root JJ.out (p : Int); rw [HRR2.out] at eq; cases eq; rw [HRR.out, HRZ.out] at rq; exact rq)
      refine hK.out _ _ (⟨N7.out.rw'.m.cell 3, N7.out.hr.c2, N7.out.rw'.v.cell 2, r7⟩) (fun hHeld => ?_)
      clear hK K ho7 hg7 r7
      (try simp only [Act.put, List.getElem_toArray, List.getElem_cons_zero, List.getElem_cons_succ, List.setIfInBounds_toArray, List.set_cons_zero, List.set_cons_succ])
      refine wpAnyH_done (by kernel_rfl) ?_ _
      clear hHeld hg3 hg2 hv2 r0 WD N6 j0 j1
      obtain ⟨gc, cc, ec, r1, r2, n8⟩ := N7.out.root JJ.out (p : Int)
      rw [HRR2.out] at ec
      cases ec
      have N8 := Lib.hid n8
      clear n8
      have h2 := N7.out.hr.c2
      have v2 := N7.out.rw'.v.cell 2
      have j0 : (0 : Int) ≤ (j : Int) := by omega
      have j1 : (j : Int) < (rr : Int) := by have := HJR.out; have := HRR1.out; omega
      go_upto_region 13 with fail
      clear h2 v2 r1 r2 N7
      generalize (y7).setCell ⟨gc0, j, none⟩ (.int .i64 (p : Int)) = x8 at *
      have N9 := Lib.hid N8.out.heap
      have h0 := N8.out.hr.c0
      have h1' := N8.out.hr.c1
      have h2 := N8.out.hr.c2
      have m0 := N8.out.rw'.m.cell 0
      have m1 := N8.out.rw'.m.cell 1
      have m2 := N8.out.rw'.m.cell 2
      have f0 := N8.out.rw'.m.frozen 0
      have f1 := N8.out.rw'.m.frozen 1
      have f2 := N8.out.rw'.m.frozen 2
      go_upto_region 14 with fail
      clear h0 h1' h2 m0 m1 m2 f0 f1 f2 N8
      generalize (((x8.setCell ⟨w.heap.size, 0, none⟩ (.slice ra rf ta)).setCell ⟨w.heap.size, 1, none⟩ (.slice rb rl tb)).setCell ⟨w.heap.size, 2, none⟩ (.slice (some ⟨gc0, 0, none⟩) rr tc)) = x9 at *
      have m0 := N9.out.rw'.m.cell 0
      have m1 := N9.out.rw'.m.cell 1
      have m2 := N9.out.rw'.m.cell 2
      have m3 := N9.out.rw'.m.cell 3
      go_wp2_with (first | (refine wl_loadM rfl _ rfl w.heap.size _ _ _ _ N9.out.rw'.m rfl ?_) | (refine wl_storeM rfl _ _ rfl (w.heap.size + 1 + 1) (.slice ra rf ta) (.slice rb rl tb) (.slice (some ⟨gc0, 0, none⟩) rr tc) (.slice (some ⟨gd, 0, none⟩) (nc + 1) cap) _ _ _ _ N9.out.rw'.r rfl rfl rfl rfl rfl rfl ?_))
      refine bodyPost_ret (res_row_slot Try.results151 (Row.put N9.out.rw'.r (m4 (.slice ra rf ta) (.slice rb rl tb) (.slice (some ⟨gc0, 0, none⟩) rr tc) (.slice (some ⟨gd, 0, none⟩) (nc + 1) cap))) rfl rfl Try.underlying34 rfl info_marking) rfl ⟨_, _, _, _, (by have q := HE.out; subst q; rfl), ⟨rfl, rfl, rfl, rfl⟩, fun _ w'' hw'' => ⟨?_, ?_⟩, N9.out.rw'.l.thenB (below_setRow (Below.refl _ _) (by omega) _)⟩
      · rw [HNH.out]
        exact (N9.out.hp.keepP fun g q _ _ _ => (hw'' g (by have := N9.out.q; have := q.2; omega)).trans (setRow_other x9 _ g _ (by have := N9.out.q; have := q.2; omega))).own.reads
      · rw [HNW.out]
        have q := owns_block N9.out.col (fun g e => (hw'' g (by have := (owns_lt N9.out.col e).1; have := N9.out.cb g e; have := N9.out.q; omega)).trans <| setRow_other x9 (w.heap.size + 1 + 1) g (m4 (.slice ra rf ta) (.slice rb rl tb) (.slice (some ⟨gc0, 0, none⟩) rr tc) (.slice (some ⟨gd, 0, none⟩) (nc + 1) cap)) (fun q => by rw [q] at e; exact ne_rowM N9.out.col N9.out.rw'.r (by decide) e))
        have q2 := Own.ints q
        rw [if_neg (by decide), HW2.out]; exact q2
    · skip
      obtain ⟨s1, s2, s3, s4⟩ := Own.store1 N6.out.col HDL6.out HPL.out 1
      have N7 := Lib.hid (N6.out.setCol s1 s2)
      have e3 := N6.out.rw'.m.cell 3
      clear s1 s2
      go_upto_region 12 with fail
      clear s3 s4 e3 N6
      generalize (x6).setCell ⟨gd, p, none⟩ (.int .i64 1) = x7 at *
      obtain ⟨gc, cc, ec, r1, r2, n8⟩ := N7.out.root JJ.out (p : Int)
      rw [HRR2.out] at ec
      cases ec
      have N8 := Lib.hid n8
      clear n8
      have h2 := N7.out.hr.c2
      have v2 := N7.out.rw'.v.cell 2
      have j0 : (0 : Int) ≤ (j : Int) := by omega
      have j1 : (j : Int) < (rr : Int) := by have := HJR.out; have := HRR1.out; omega
      go_upto_region 13 with fail
      clear h2 v2 r1 r2 N7
      generalize (x7).setCell ⟨gc, j, none⟩ (.int .i64 (p : Int)) = x8 at *
      have N9 := Lib.hid N8.out.heap
      have h0 := N8.out.hr.c0
      have h1' := N8.out.hr.c1
      have h2 := N8.out.hr.c2
      have m0 := N8.out.rw'.m.cell 0
      have m1 := N8.out.rw'.m.cell 1
      have m2 := N8.out.rw'.m.cell 2
      have f0 := N8.out.rw'.m.frozen 0
      have f1 := N8.out.rw'.m.frozen 1
      have f2 := N8.out.rw'.m.frozen 2
      go_upto_region 14 with fail
      clear h0 h1' h2 m0 m1 m2 f0 f1 f2 N8
      generalize (((x8.setCell ⟨w.heap.size, 0, none⟩ (.slice ra rf ta)).setCell ⟨w.heap.size, 1, none⟩ (.slice rb rl tb)).setCell ⟨w.heap.size, 2, none⟩ (.slice (some ⟨gc, 0, none⟩) rr tc)) = x9 at *
      have m0 := N9.out.rw'.m.cell 0
      have m1 := N9.out.rw'.m.cell 1
      have m2 := N9.out.rw'.m.cell 2
      have m3 := N9.out.rw'.m.cell 3
      go_wp2_with (first | (refine wl_loadM rfl _ rfl w.heap.size _ _ _ _ N9.out.rw'.m rfl ?_) | (refine wl_storeM rfl _ _ rfl (w.heap.size + 1 + 1) (.slice ra rf ta) (.slice rb rl tb) (.slice (some ⟨gc, 0, none⟩) rr tc) (.slice (some ⟨gd, 0, none⟩) (nc + 1) cap) _ _ _ _ N9.out.rw'.r rfl rfl rfl rfl rfl rfl ?_))
      refine bodyPost_ret (res_row_slot Try.results151 (Row.put N9.out.rw'.r (m4 (.slice ra rf ta) (.slice rb rl tb) (.slice (some ⟨gc, 0, none⟩) rr tc) (.slice (some ⟨gd, 0, none⟩) (nc + 1) cap))) rfl rfl Try.underlying34 rfl info_marking) rfl ⟨_, _, _, _, (by have q := HE.out; subst q; rfl), ⟨rfl, rfl, rfl, rfl⟩, fun _ w'' hw'' => ⟨?_, ?_⟩, N9.out.rw'.l.thenB (below_setRow (Below.refl _ _) (by omega) _)⟩
      · rw [HNH.out]
        exact (N9.out.hp.keepP fun g q _ _ _ => (hw'' g (by have := N9.out.q; have := q.2; omega)).trans (setRow_other x9 _ g _ (by have := N9.out.q; have := q.2; omega))).own.reads
      · rw [HNW.out]
        have q := owns_block N9.out.col (fun g e => (hw'' g (by have := (owns_lt N9.out.col e).1; have := N9.out.cb g e; have := N9.out.q; omega)).trans <| setRow_other x9 (w.heap.size + 1 + 1) g (m4 (.slice ra rf ta) (.slice rb rl tb) (.slice (some ⟨gc, 0, none⟩) rr tc) (.slice (some ⟨gd, 0, none⟩) (nc + 1) cap)) (fun q => by rw [q] at e; exact ne_rowM N9.out.col N9.out.rw'.r (by decide) e))
        have q2 := Own.ints q
        rw [HW2.out]; rw [set_set] at q2; exact q2
  · have hpq : ((p : Int) == (nc : Int)) = false := by simp; omega
    have HW2 : Hid (∀ x, newC cs p x = cs.set p x) := fun x => newC_set (by rw [HNC.out]; exact hpn)
    have HDL : Hid (cs.length = nc) := HNC.out
    have HPL : Hid (p < nc) := (by have := HPP.out; unfold Hid; omega)
    clear hpn
    have N5 := N3
    have hsh := N3.out.col.shape'
    rcases hsh with ⟨_, q0⟩ | ⟨gd, cap, q0⟩
    · have := HDL.out; have := HPL.out; rw [q0] at *; simp at *; omega
    have q1 : pd = some ⟨gd, 0, none⟩ := by cases q0; rfl
    subst q1
    clear q0 N3
    go_upto_region 8 with fail
    clear m3
    generalize w2.alloc (.cells (c3 (.slice ra rf ta) (.slice rb rl tb) (.slice rc rr tc)) 32) = w3 at *
    generalize w2.heap.size = gH at *
    obtain ⟨s1, s2, s3, s4⟩ := Own.store1 N5.out.col HDL.out HPL.out 2
    have N6 := Lib.hid (N5.out.setCol s1 s2)
    have e3 := N5.out.rw'.m.cell 3
    have i0' : (0 : Int) ≤ (p : Int) := by omega
    have i1' : (p : Int) < ((nc : Nat) : Int) := by have := HPL.out; omega
    clear s1 s2
    go_upto_region 9 with fail
    clear s3 s4 e3 N5
    generalize (w3).setCell ⟨gd, p, none⟩ (.int .i64 2) = x6 at *
    have HDL6 : Hid (((cs).set p 2).length = nc) := (by unfold Hid; rw [List.length_set]; exact HDL.out)
    cases put
    · skip
      have WD := Lib.hid (N6.out.below (below_drew (Below.refl x6.heap.size x6)))
      go_upto_region 11 with fail
      obtain ⟨gc0, cc0, ec0, r0, _, _⟩ := WD.out.root JJ.out (p : Int)
      rw [HRR2.out] at ec0
      cases ec0
      rw [HRR.out] at r0
      have hg3 := WD.out.rw'.m.cell 3
      have hg2 := WD.out.hr.c2
      have hv2 := WD.out.rw'.v.cell 2
      have j0 : (0 : Int) ≤ (j : Int) := by omega
      have j1 : (j : Int) < (rr : Int) := by have := HJR.out; have := HRR1.out; omega
      have HJZ : Hid (h.r.getD j 0 < ((cs).set p 2).length) := (by unfold Hid; have q := inR_get HRI.out (show j < h.r.length by rw [HNR.out]; exact HJR.out); rw [HDL6.out]; have := HNC.out; omega)
      generalize hzr : h.r.getD j 0 = zr at *
      have HRZ := Lib.hid hzr; clear hzr
      refine wp_region_held_drew (S := (fun w' => w'.cell? ⟨w.heap.size, 3, none⟩ = some (.slice (some ⟨gd, 0, none⟩) nc qd) ∧ w'.cell? ⟨gH, 2, none⟩ = some (.slice (some ⟨gc0, 0, none⟩) rr tc) ∧ w'.cell? ⟨w.heap.size + 1, 2, none⟩ = some (.int .i64 (j : Int)) ∧ w'.cell? ⟨gc0, j, none⟩ = some (.int .i64 (zr)))) (by kernel_rfl) (⟨hg3, hg2, hv2, r0⟩) (fun hHeld => ?_)
      generalize x6.drew = x7 at *
      refine wpAnyH_take (i := 0) (v := ?va0x9) rfl (by kernel_rfl) (by kernel_rfl) (by kernel_rfl) (fun _ _ _ h => h) (Or.inl ⟨by rfl, ?hy0x9⟩) (by assumption) ?rest0x9
      case hy0x9 => (intro w hSw; (try dsimp only at hSw); go_simp; try with_reducible rfl)
      (try simp only [Act.put, List.getElem_toArray, List.getElem_cons_zero, List.setIfInBounds_toArray, List.set_cons_zero, List.set_cons_succ])
      refine wpAnyH_take (i := 1) (v := ?va1x10) rfl (by kernel_rfl) (by kernel_rfl) (by kernel_rfl) (fun _ _ _ h => h) (Or.inl ⟨by rfl, ?hy1x10⟩) (by assumption) ?rest1x10
      case hy1x10 => (intro w hSw; (try dsimp only at hSw); go_simp; try with_reducible rfl)
      (try simp only [Act.put, List.getElem_toArray, List.getElem_cons_zero, List.getElem_cons_succ, List.setIfInBounds_toArray, List.set_cons_zero, List.set_cons_succ])
      refine wpAnyH_take (i := 2) (v := ?va2x11) rfl (by kernel_rfl) (by kernel_rfl) (by kernel_rfl) (fun _ _ _ h => h) (Or.inl ⟨by rfl, ?hy2x11⟩) (by assumption) ?rest2x11
      case hy2x11 => (intro w hSw; (try dsimp only at hSw); go_simp; try with_reducible rfl)
      (try simp only [Act.put, List.getElem_toArray, List.getElem_cons_zero, List.getElem_cons_succ, List.setIfInBounds_toArray, List.set_cons_zero, List.set_cons_succ])
      refine wpAnyH_take (i := 3) (v := ?va3x12) rfl (by kernel_rfl) (by kernel_rfl) (by kernel_rfl) (fun _ _ _ h => h) (Or.inl ⟨by rfl, ?hy3x12⟩) (by assumption) ?rest3x12
      case hy3x12 => (intro w hSw; (try dsimp only at hSw); go_simp; try with_reducible rfl)
      (try simp only [Act.put, List.getElem_toArray, List.getElem_cons_zero, List.getElem_cons_succ, List.setIfInBounds_toArray, List.set_cons_zero, List.set_cons_succ])
      refine wpAnyH_take (i := 4) (v := ?va4x13) rfl (by kernel_rfl) (by kernel_rfl) (by kernel_rfl) (fun _ _ _ h => h) (Or.inl ⟨by rfl, ?hy4x13⟩) (by assumption) ?rest4x13
      case hy4x13 => (intro w hSw; (try dsimp only at hSw); go_simp; try with_reducible rfl)
      (try simp only [Act.put, List.getElem_toArray, List.getElem_cons_zero, List.getElem_cons_succ, List.setIfInBounds_toArray, List.set_cons_zero, List.set_cons_succ])
      refine wpAnyH_take (i := 5) (v := ?va5x14) rfl (by kernel_rfl) (by kernel_rfl) (by kernel_rfl) (fun _ _ _ h => h) (Or.inl ⟨by rfl, ?hy5x14⟩) (by assumption) ?rest5x14
      case hy5x14 => (intro w hSw; (try dsimp only at hSw); go_simp; try with_reducible rfl)
      (try simp only [Act.put, List.getElem_toArray, List.getElem_cons_zero, List.getElem_cons_succ, List.setIfInBounds_toArray, List.set_cons_zero, List.set_cons_succ])
      refine wpAnyH_take (i := 6) (v := ?va6x15) rfl (by kernel_rfl) (by kernel_rfl) (by kernel_rfl) (fun _ _ _ h => h) (Or.inl ⟨by rfl, ?hy6x15⟩) (by assumption) ?rest6x15
      case hy6x15 => (intro w hSw; (try dsimp only at hSw); go_simp; try with_reducible rfl)
      (try simp only [Act.put, List.getElem_toArray, List.getElem_cons_zero, List.getElem_cons_succ, List.setIfInBounds_toArray, List.set_cons_zero, List.set_cons_succ])
      refine wpAnyH_take (i := 7) (v := ?va7x16) rfl (by kernel_rfl) (by kernel_rfl) (by kernel_rfl) (fun _ _ _ h => h) (Or.inl ⟨by rfl, ?hy7x16⟩) (by assumption) ?rest7x16
      case hy7x16 => (intro w hSw; (try dsimp only at hSw); go_simp; try with_reducible rfl)
      (try simp only [Act.put, List.getElem_toArray, List.getElem_cons_zero, List.getElem_cons_succ, List.setIfInBounds_toArray, List.set_cons_zero, List.set_cons_succ])
      refine wpAnyH_ready (rs := [8]) (by kernel_rfl) (by simp) ?_
      refine AllReadyH.cons rfl (fun K hK => ?_) AllReadyH.nil
      go_simp
      refine (s_l6Shade (.slice (some ⟨gd, 0, none⟩) nc qd) _ zr lo _ WD.out.col HJZ.out).mono ?_
      rintro e y7 ⟨rfl, ho7, hg7⟩
      have N7 := Lib.hid (WD.out.setCol ho7 hg7)
      have r7 : y7.cell? ⟨gc0, j, none⟩ = some (.int .i64 zr) := (by obtain ⟨gq, cq, eq, rq, _, _⟩ := N7.out.root JJ.out (p : Int); rw [HRR2.out] at eq; cases eq; rw [HRR.out, HRZ.out] at rq; exact rq)
      refine hK.out _ _ (⟨N7.out.rw'.m.cell 3, N7.out.hr.c2, N7.out.rw'.v.cell 2, r7⟩) (fun hHeld => ?_)
      clear hK K ho7 hg7 r7
      (try simp only [Act.put, List.getElem_toArray, List.getElem_cons_zero, List.getElem_cons_succ, List.setIfInBounds_toArray, List.set_cons_zero, List.set_cons_succ])
      refine wpAnyH_done (by kernel_rfl) ?_ _
      clear hHeld hg3 hg2 hv2 r0 WD N6 j0 j1
      obtain ⟨gc, cc, ec, r1, r2, n8⟩ := N7.out.root JJ.out (p : Int)
      rw [HRR2.out] at ec
      cases ec
      have N8 := Lib.hid n8
      clear n8
      have h2 := N7.out.hr.c2
      have v2 := N7.out.rw'.v.cell 2
      have j0 : (0 : Int) ≤ (j : Int) := by omega
      have j1 : (j : Int) < (rr : Int) := by have := HJR.out; have := HRR1.out; omega
      go_upto_region 13 with fail
      clear h2 v2 r1 r2 N7
      generalize (y7).setCell ⟨gc0, j, none⟩ (.int .i64 (p : Int)) = x8 at *
      have N9 := Lib.hid N8.out.heap
      have h0 := N8.out.hr.c0
      have h1' := N8.out.hr.c1
      have h2 := N8.out.hr.c2
      have m0 := N8.out.rw'.m.cell 0
      have m1 := N8.out.rw'.m.cell 1
      have m2 := N8.out.rw'.m.cell 2
      have f0 := N8.out.rw'.m.frozen 0
      have f1 := N8.out.rw'.m.frozen 1
      have f2 := N8.out.rw'.m.frozen 2
      go_upto_region 14 with fail
      clear h0 h1' h2 m0 m1 m2 f0 f1 f2 N8
      generalize (((x8.setCell ⟨w.heap.size, 0, none⟩ (.slice ra rf ta)).setCell ⟨w.heap.size, 1, none⟩ (.slice rb rl tb)).setCell ⟨w.heap.size, 2, none⟩ (.slice (some ⟨gc0, 0, none⟩) rr tc)) = x9 at *
      have m0 := N9.out.rw'.m.cell 0
      have m1 := N9.out.rw'.m.cell 1
      have m2 := N9.out.rw'.m.cell 2
      have m3 := N9.out.rw'.m.cell 3
      go_wp2_with (first | (refine wl_loadM rfl _ rfl w.heap.size _ _ _ _ N9.out.rw'.m rfl ?_) | (refine wl_storeM rfl _ _ rfl (w.heap.size + 1 + 1) (.slice ra rf ta) (.slice rb rl tb) (.slice (some ⟨gc0, 0, none⟩) rr tc) (.slice (some ⟨gd, 0, none⟩) nc qd) _ _ _ _ N9.out.rw'.r rfl rfl rfl rfl rfl rfl ?_))
      refine bodyPost_ret (res_row_slot Try.results151 (Row.put N9.out.rw'.r (m4 (.slice ra rf ta) (.slice rb rl tb) (.slice (some ⟨gc0, 0, none⟩) rr tc) (.slice (some ⟨gd, 0, none⟩) nc qd))) rfl rfl Try.underlying34 rfl info_marking) rfl ⟨_, _, _, _, (by have q := HE.out; subst q; rfl), ⟨rfl, rfl, rfl, rfl⟩, fun _ w'' hw'' => ⟨?_, ?_⟩, N9.out.rw'.l.thenB (below_setRow (Below.refl _ _) (by omega) _)⟩
      · rw [HNH.out]
        exact (N9.out.hp.keepP fun g q _ _ _ => (hw'' g (by have := N9.out.q; have := q.2; omega)).trans (setRow_other x9 _ g _ (by have := N9.out.q; have := q.2; omega))).own.reads
      · rw [HNW.out]
        have q := owns_block N9.out.col (fun g e => (hw'' g (by have := (owns_lt N9.out.col e).1; have := N9.out.cb g e; have := N9.out.q; omega)).trans <| setRow_other x9 (w.heap.size + 1 + 1) g (m4 (.slice ra rf ta) (.slice rb rl tb) (.slice (some ⟨gc0, 0, none⟩) rr tc) (.slice (some ⟨gd, 0, none⟩) nc qd)) (fun q => by rw [q] at e; exact ne_rowM N9.out.col N9.out.rw'.r (by decide) e))
        have q2 := Own.ints q
        rw [if_neg (by decide), HW2.out]; exact q2
    · skip
      obtain ⟨s1, s2, s3, s4⟩ := Own.store1 N6.out.col HDL6.out HPL.out 1
      have N7 := Lib.hid (N6.out.setCol s1 s2)
      have e3 := N6.out.rw'.m.cell 3
      clear s1 s2
      go_upto_region 12 with fail
      clear s3 s4 e3 N6
      generalize (x6).setCell ⟨gd, p, none⟩ (.int .i64 1) = x7 at *
      obtain ⟨gc, cc, ec, r1, r2, n8⟩ := N7.out.root JJ.out (p : Int)
      rw [HRR2.out] at ec
      cases ec
      have N8 := Lib.hid n8
      clear n8
      have h2 := N7.out.hr.c2
      have v2 := N7.out.rw'.v.cell 2
      have j0 : (0 : Int) ≤ (j : Int) := by omega
      have j1 : (j : Int) < (rr : Int) := by have := HJR.out; have := HRR1.out; omega
      go_upto_region 13 with fail
      clear h2 v2 r1 r2 N7
      generalize (x7).setCell ⟨gc, j, none⟩ (.int .i64 (p : Int)) = x8 at *
      have N9 := Lib.hid N8.out.heap
      have h0 := N8.out.hr.c0
      have h1' := N8.out.hr.c1
      have h2 := N8.out.hr.c2
      have m0 := N8.out.rw'.m.cell 0
      have m1 := N8.out.rw'.m.cell 1
      have m2 := N8.out.rw'.m.cell 2
      have f0 := N8.out.rw'.m.frozen 0
      have f1 := N8.out.rw'.m.frozen 1
      have f2 := N8.out.rw'.m.frozen 2
      go_upto_region 14 with fail
      clear h0 h1' h2 m0 m1 m2 f0 f1 f2 N8
      generalize (((x8.setCell ⟨w.heap.size, 0, none⟩ (.slice ra rf ta)).setCell ⟨w.heap.size, 1, none⟩ (.slice rb rl tb)).setCell ⟨w.heap.size, 2, none⟩ (.slice (some ⟨gc, 0, none⟩) rr tc)) = x9 at *
      have m0 := N9.out.rw'.m.cell 0
      have m1 := N9.out.rw'.m.cell 1
      have m2 := N9.out.rw'.m.cell 2
      have m3 := N9.out.rw'.m.cell 3
      go_wp2_with (first | (refine wl_loadM rfl _ rfl w.heap.size _ _ _ _ N9.out.rw'.m rfl ?_) | (refine wl_storeM rfl _ _ rfl (w.heap.size + 1 + 1) (.slice ra rf ta) (.slice rb rl tb) (.slice (some ⟨gc, 0, none⟩) rr tc) (.slice (some ⟨gd, 0, none⟩) nc qd) _ _ _ _ N9.out.rw'.r rfl rfl rfl rfl rfl rfl ?_))
      refine bodyPost_ret (res_row_slot Try.results151 (Row.put N9.out.rw'.r (m4 (.slice ra rf ta) (.slice rb rl tb) (.slice (some ⟨gc, 0, none⟩) rr tc) (.slice (some ⟨gd, 0, none⟩) nc qd))) rfl rfl Try.underlying34 rfl info_marking) rfl ⟨_, _, _, _, (by have q := HE.out; subst q; rfl), ⟨rfl, rfl, rfl, rfl⟩, fun _ w'' hw'' => ⟨?_, ?_⟩, N9.out.rw'.l.thenB (below_setRow (Below.refl _ _) (by omega) _)⟩
      · rw [HNH.out]
        exact (N9.out.hp.keepP fun g q _ _ _ => (hw'' g (by have := N9.out.q; have := q.2; omega)).trans (setRow_other x9 _ g _ (by have := N9.out.q; have := q.2; omega))).own.reads
      · rw [HNW.out]
        have q := owns_block N9.out.col (fun g e => (hw'' g (by have := (owns_lt N9.out.col e).1; have := N9.out.cb g e; have := N9.out.q; omega)).trans <| setRow_other x9 (w.heap.size + 1 + 1) g (m4 (.slice ra rf ta) (.slice rb rl tb) (.slice (some ⟨gc, 0, none⟩) rr tc) (.slice (some ⟨gd, 0, none⟩) nc qd)) (fun q => by rw [q] at e; exact ne_rowM N9.out.col N9.out.rw'.r (by decide) e))
        have q2 := Own.ints q
        rw [HW2.out]; rw [set_set] at q2; exact q2
end Go.Proofs.Ytbmfkgfmibpkjaa
namespace Go.Proofs.Ytbmfkgfmibpkjaa
open Go.RowKit Ph

set_option maxHeartbeats 1600000 in
theorem s_l5Thing (a b c : Value) (h : H) (z : Int) (w : World) (hA : HeapAt w a b c h) (hG : Ph.Good h) : Calls Try.prog 189 #[hv a b c, .int .i64 z] w fun e w' => e = .returned (.bool (liveB h.l z)) ∧ Below w.heap.size w w' := by
  have hb0 := below1 w (.cells (c3 a b c) 32)
  have A0 := Lib.hid (hA.below hb0)
  have HB := Lib.hid hb0
  obtain ⟨fa, fc, rfl⟩ := hA.f.shape
  obtain ⟨la, lc, rfl⟩ := hA.l.shape
  have hll := hG.ll
  have hn := hG.n
  have hlt := liveB_lt (l := h.l) (z := z)
  have hex : ∀ k : Nat, z = k → liveB h.l z = h.l.getD k false := fun k e => by subst e; unfold liveB; rw [decide_eq_true (by omega)]; simp
  clear hA hG hb0
  rw [hll] at A0 HB hlt ⊢
  generalize h.f.length = n at *
  by_cases h0 : 0 ≤ z ∧ z ≤ (n : Int) - 1
  · obtain ⟨k, rfl⟩ : ∃ k : Nat, z = k := ⟨z.toNat, by omega⟩
    have HIN : Hid (∀ w', Calls Try.prog 149 #[.int .i64 k, .int .i64 0, .int .i64 ((n : Int) - 1)] w' fun e w'' => e = .returned (.bool true) ∧ w' = w'') := fun w' => s_l1In_yes k 0 _ w' h0.1 h0.2
    obtain ⟨gl, ol, rfl, hcl⟩ := A0.out.l.at' (by omega)
    have q := hcl k (by omega)
    rw [← hex k rfl] at q
    generalize liveB h.l (k : Int) = x at *
    have i1 : (k : Int) < (n : Int) := by omega
    clear hcl hex hlt h0
    go_enter Try.func189, Try.ntmps189
    go_wp2_with (go_at_call 149; refine (HIN.out _).mono ?_; rintro e wi ⟨rfl, rfl⟩)
    go_ret
    exact ⟨rfl, HB.out⟩
  · have HIN : Hid (∀ w', Calls Try.prog 149 #[.int .i64 z, .int .i64 0, .int .i64 ((n : Int) - 1)] w' fun e w'' => e = .returned (.bool false) ∧ w' = w'') := fun w' => s_l1In_no z 0 _ w' (by omega)
    have HE : Hid (liveB h.l z = false) := by
      unfold Hid
      cases hq : liveB h.l z with
      | false => rfl
      | true => have := hlt hq; omega
    clear hex hlt h0
    go_enter Try.func189, Try.ntmps189
    go_wp2_with (go_at_call 149; refine (HIN.out _).mono ?_; rintro e wi ⟨rfl, rfl⟩)
    go_ret
    exact ⟨r_b HE.out.symm, HB.out⟩
end Go.Proofs.Ytbmfkgfmibpkjaa
namespace Go.Proofs.Ytbmfkgfmibpkjaa
open Go.RowKit Ph

set_option maxRecDepth 100000 in
set_option maxHeartbeats 6400000 in
theorem s_SetRoot (a b c : Value) (h : H) (t z : Int) (w : World) (hA : HeapAt w a b c h) : Calls Try.prog 154 #[hv a b c, .int .i64 t, .int .i64 z] w (EndH (setR h t z) (setROk h t z) w) := by
  have hb0 := (below1 w (.cells (c3 a b c) 32)).alloc (by simp) (.cells (c3 (.slice none 0 0) (.slice none 0 0) (.slice none 0 0)) 32)
  have A0 := Lib.hid (hA.below hb0)
  have HB := Lib.hid hb0
  have P0 := Lib.hid (show RowH _ _ a b c from (Row.new w 32 (c3 a b c)).alloc (.cells (c3 (.slice none 0 0) (.slice none 0 0) (.slice none 0 0)) 32))
  have R0 := Lib.hid (show RowH _ (w.heap.size + 1) (.slice none 0 0) (.slice none 0 0) (.slice none 0 0) from Row.new1 w (.cells (c3 a b c) 32) 32 (c3 (.slice none 0 0) (.slice none 0 0) (.slice none 0 0)))
  clear hA hb0
  have HC := Lib.hid (s_GoodHeap a b c h _ A0.out)
  have G1 := Lib.hid (good_iff (h := h)).1
  have E1 := Lib.hid (setR_no (h := h) (t := t) (z := z))
  have E2 := Lib.hid (setR_yes (h := h) (t := t) (z := z))
  have hok : setROk h t z = (good h && hasRB h t && refB h.l z) := rfl
  have hfb : hasRB h t = (decide (0 ≤ t) && decide (t < (h.r.length : Int))) := rfl
  have HSH := Lib.hid A0.out.r.shape
  obtain ⟨ra, rc, hra⟩ := HSH.out
  subst hra
  clear HSH
  generalize good h = x at *
  have p0 := P0.out.c0
  have p1 := P0.out.c1
  have p2 := P0.out.c2
  generalize setROk h t z = ok at *
  cases x
  · have HE : Hid (ok = false) := by unfold Hid; rw [hok]; rfl
    clear hok hfb
    go_enter Try.func154, Try.ntmps154
    go_wp2_with (first
      | (go_at_call 104; refine HC.out.mono ?_; rintro e w1 ⟨rfl, hb1⟩; have B1 := Lib.hid (bst HB.out hb1 HB.out.size); have A1 := Lib.hid (A0.out.below hb1); have P1 := Lib.hid (P0.out.below hb1); have R1 := Lib.hid (R0.out.below hb1); have d10 := P1.out.c0; have d11 := P1.out.c1; have d12 := P1.out.c2; clear hb1)
      | (refine wl_storeH rfl _ _ rfl (w.heap.size + 1) (.slice none 0 0) (.slice none 0 0) (.slice none 0 0) _ _ _ R1.out rfl rfl rfl rfl rfl ?_))
    refine bodyPost_ret (res_row_slot Try.results154 (Row.put R1.out (c3 (.slice none 0 0) (.slice none 0 0) (.slice none 0 0))) rfl rfl Try.underlying32 rfl info_heap) rfl (endH_no (below_setRow B1.out (by omega) _) (E1.out HE.out) HE.out)
  · have G := Lib.hid (G1.out rfl)
    have hm3 : h.r.length ≤ 4 := G.out.rn
    by_cases hf : 0 ≤ t ∧ t ≤ (h.r.length : Int) - 1
    · have HIN : Hid (∀ w', Calls Try.prog 149 #[.int .i64 t, .int .i64 0, .int .i64 ((h.r.length : Int) - 1)] w' fun e w'' => e = .returned (.bool true) ∧ w' = w'') := fun w' => s_l1In_yes t 0 _ w' hf.1 hf.2
      have HX2 : Hid (hasRB h t = true) := by unfold Hid; rw [hfb]; simp; omega
      have HZR : Hid (refB h.l z = (decide (z = -1) || liveB h.l z)) := rfl
      rw [HX2.out, HZR.out] at hok
      clear hfb
      by_cases z1 : z = -1
      · subst z1
        have HE : Hid (ok = true) := by unfold Hid; rw [hok]; simp
        clear hok hf
        go_enter Try.func154, Try.ntmps154
        go_wp2_with (first
          | (go_at_call 104; refine HC.out.mono ?_; rintro e w1 ⟨rfl, hb1⟩; have B1 := Lib.hid (bst HB.out hb1 HB.out.size); have A1 := Lib.hid (A0.out.below hb1); have P1 := Lib.hid (P0.out.below hb1); have R1 := Lib.hid (R0.out.below hb1); have d10 := P1.out.c0; have d11 := P1.out.c1; have d12 := P1.out.c2; clear hb1)
          | (go_at_call 149; refine (HIN.out _).mono ?_; rintro e wi ⟨rfl, rfl⟩))
        refine (s_l5Own a b _ h _ A1.out G.out).mono ?_
        rintro e w9 ⟨a', b', c', rfl, ho, hb9⟩
        have B9 := Lib.hid (bst B1.out hb9 B1.out.size); have R9 := Lib.hid (R1.out.below hb9)
        have hfl := hasRB_iff HX2.out
        obtain ⟨k, rfl, hk⟩ := hfl
        obtain ⟨pa, qa, pb, qb, gc, cc, x, rfl, rfl, rfl, q2, q3, hgr, rA, rR, oN⟩ := setRt_facts ho hk (-1) R9.out
        have hE2 := E2.out HE.out
        rw [Int.toNat_natCast] at hE2
        have RA := Lib.hid rA; have RR := Lib.hid rR; have ON := Lib.hid oN; have EE := Lib.hid hE2
        have LL : Hid (w.heap.size ≤ gc) := Nat.le_trans B1.out.size hgr
        have L9 : Hid (w.heap.size ≤ w9.heap.size) := B9.out.size
        have LK := Lib.hid B1.out.size
        clear rA rR oN hE2 ho hb9 hgr
        have i1 : (k : Int) < (h.r.length : Int) := by omega
        have j1 : (0 : Int) ≤ (k : Int) := by omega
        generalize h.f.length = nf at *
        generalize h.l.length = nl at *
        generalize h.r.length = nr at *
        go_wp2_with (first
          | (refine wl_loadH rfl _ rfl w9.heap.size _ _ _ RA.out rfl ?_)
          | (refine wl_storeH rfl _ _ rfl (w.heap.size + 1) (.slice pa nf qa) (.slice pb nl qb) (.slice (some ⟨gc, 0, none⟩) nr cc) _ _ _ RR.out rfl rfl rfl rfl rfl ?_))
        refine bodyPost_ret (res_row_slot Try.results154 (Row.put RR.out (c3 (.slice pa nf qa) (.slice pb nl qb) (.slice (some ⟨gc, 0, none⟩) nr cc))) rfl rfl Try.underlying32 rfl info_heap) rfl (endH_yes (below_setRow ((B9.out.alloc L9.out _).setCell (p := ⟨gc, k, none⟩) LL.out _) (by omega) _) (ON.out.wholeRow RR.out _) LK.out (by rw [size_setRow, World.size_setCell, World.size_alloc]; omega) EE.out HE.out)
      · have hz1 : (z != -1) = true := by rw [bne_iff_ne]; exact z1
        generalize hb3 : liveB h.l z = x3 at *
        have HX3 := Lib.hid hb3
        clear hb3
        cases x3
        · have HE : Hid (ok = false) := by unfold Hid; rw [hok]; simp [z1]
          clear hok hf z1
          go_enter Try.func154, Try.ntmps154
          go_wp2_with (first
            | (go_at_call 104; refine HC.out.mono ?_; rintro e w1 ⟨rfl, hb1⟩; have B1 := Lib.hid (bst HB.out hb1 HB.out.size); have A1 := Lib.hid (A0.out.below hb1); have P1 := Lib.hid (P0.out.below hb1); have R1 := Lib.hid (R0.out.below hb1); have d10 := P1.out.c0; have d11 := P1.out.c1; have d12 := P1.out.c2; clear hb1)
            | (go_at_call 149; refine (HIN.out _).mono ?_; rintro e wi ⟨rfl, rfl⟩)
            | (go_at_call 189; refine (s_l5Thing a b _ h z _ A1.out G.out).mono ?_; rintro e w2 ⟨rfl, hb2⟩; rw [HX3.out]; have B2 := Lib.hid (bst B1.out hb2 B1.out.size); have A2 := Lib.hid (A1.out.below hb2); have P2 := Lib.hid (P1.out.below hb2); have R2 := Lib.hid (R1.out.below hb2); have d20 := P2.out.c0; have d21 := P2.out.c1; have d22 := P2.out.c2; clear hb2)
            | (refine wl_storeH rfl _ _ rfl (w.heap.size + 1) (.slice none 0 0) (.slice none 0 0) (.slice none 0 0) _ _ _ R2.out rfl rfl rfl rfl rfl ?_))
          refine bodyPost_ret (res_row_slot Try.results154 (Row.put R2.out (c3 (.slice none 0 0) (.slice none 0 0) (.slice none 0 0))) rfl rfl Try.underlying32 rfl info_heap) rfl (endH_no (below_setRow B2.out (by omega) _) (E1.out HE.out) HE.out)
        · have HE : Hid (ok = true) := by unfold Hid; rw [hok]; simp
          clear hok hf z1
          go_enter Try.func154, Try.ntmps154
          go_wp2_with (first
            | (go_at_call 104; refine HC.out.mono ?_; rintro e w1 ⟨rfl, hb1⟩; have B1 := Lib.hid (bst HB.out hb1 HB.out.size); have A1 := Lib.hid (A0.out.below hb1); have P1 := Lib.hid (P0.out.below hb1); have R1 := Lib.hid (R0.out.below hb1); have d10 := P1.out.c0; have d11 := P1.out.c1; have d12 := P1.out.c2; clear hb1)
            | (go_at_call 149; refine (HIN.out _).mono ?_; rintro e wi ⟨rfl, rfl⟩)
            | (go_at_call 189; refine (s_l5Thing a b _ h z _ A1.out G.out).mono ?_; rintro e w2 ⟨rfl, hb2⟩; rw [HX3.out]; have B2 := Lib.hid (bst B1.out hb2 B1.out.size); have A2 := Lib.hid (A1.out.below hb2); have P2 := Lib.hid (P1.out.below hb2); have R2 := Lib.hid (R1.out.below hb2); have d20 := P2.out.c0; have d21 := P2.out.c1; have d22 := P2.out.c2; clear hb2))
          refine (s_l5Own a b _ h _ A2.out G.out).mono ?_
          rintro e w9 ⟨a', b', c', rfl, ho, hb9⟩
          have B9 := Lib.hid (bst B2.out hb9 B2.out.size); have R9 := Lib.hid (R2.out.below hb9)
          have hfl := hasRB_iff HX2.out
          obtain ⟨k, rfl, hk⟩ := hfl
          obtain ⟨pa, qa, pb, qb, gc, cc, x, rfl, rfl, rfl, q2, q3, hgr, rA, rR, oN⟩ := setRt_facts ho hk z R9.out
          have hE2 := E2.out HE.out
          rw [Int.toNat_natCast] at hE2
          have RA := Lib.hid rA; have RR := Lib.hid rR; have ON := Lib.hid oN; have EE := Lib.hid hE2
          have LL : Hid (w.heap.size ≤ gc) := Nat.le_trans B2.out.size hgr
          have L9 : Hid (w.heap.size ≤ w9.heap.size) := B9.out.size
          have LK := Lib.hid B2.out.size
          clear rA rR oN hE2 ho hb9 hgr
          have i1 : (k : Int) < (h.r.length : Int) := by omega
          have j1 : (0 : Int) ≤ (k : Int) := by omega
          generalize h.f.length = nf at *
          generalize h.l.length = nl at *
          generalize h.r.length = nr at *
          go_wp2_with (first
            | (refine wl_loadH rfl _ rfl w9.heap.size _ _ _ RA.out rfl ?_)
            | (refine wl_storeH rfl _ _ rfl (w.heap.size + 1) (.slice pa nf qa) (.slice pb nl qb) (.slice (some ⟨gc, 0, none⟩) nr cc) _ _ _ RR.out rfl rfl rfl rfl rfl ?_))
          refine bodyPost_ret (res_row_slot Try.results154 (Row.put RR.out (c3 (.slice pa nf qa) (.slice pb nl qb) (.slice (some ⟨gc, 0, none⟩) nr cc))) rfl rfl Try.underlying32 rfl info_heap) rfl (endH_yes (below_setRow ((B9.out.alloc L9.out _).setCell (p := ⟨gc, k, none⟩) LL.out _) (by omega) _) (ON.out.wholeRow RR.out _) LK.out (by rw [size_setRow, World.size_setCell, World.size_alloc]; omega) EE.out HE.out)
    · have HIN : Hid (∀ w', Calls Try.prog 149 #[.int .i64 t, .int .i64 0, .int .i64 ((h.r.length : Int) - 1)] w' fun e w'' => e = .returned (.bool false) ∧ w' = w'') := fun w' => s_l1In_no t 0 _ w' (by omega)
      have HX2 : Hid (hasRB h t = false) := by unfold Hid; rw [hfb]; simp; omega
      have HE : Hid (ok = false) := by unfold Hid; rw [hok, HX2.out]; simp
      clear hok hf hfb
      go_enter Try.func154, Try.ntmps154
      go_wp2_with (first
        | (go_at_call 104; refine HC.out.mono ?_; rintro e w1 ⟨rfl, hb1⟩; have B1 := Lib.hid (bst HB.out hb1 HB.out.size); have A1 := Lib.hid (A0.out.below hb1); have P1 := Lib.hid (P0.out.below hb1); have R1 := Lib.hid (R0.out.below hb1); have d10 := P1.out.c0; have d11 := P1.out.c1; have d12 := P1.out.c2; clear hb1)
        | (go_at_call 149; refine (HIN.out _).mono ?_; rintro e wi ⟨rfl, rfl⟩)
        | (refine wl_storeH rfl _ _ rfl (w.heap.size + 1) (.slice none 0 0) (.slice none 0 0) (.slice none 0 0) _ _ _ R1.out rfl rfl rfl rfl rfl ?_))
      refine bodyPost_ret (res_row_slot Try.results154 (Row.put R1.out (c3 (.slice none 0 0) (.slice none 0 0) (.slice none 0 0))) rfl rfl Try.underlying32 rfl info_heap) rfl (endH_no (below_setRow B1.out (by omega) _) (E1.out HE.out) HE.out)
end Go.Proofs.Ytbmfkgfmibpkjaa
namespace Go.Proofs.Ytbmfkgfmibpkjaa
open Go.RowKit Ph

set_option maxRecDepth 100000 in
set_option maxHeartbeats 6400000 in
theorem s_SetField (a b c : Value) (h : H) (t f z : Int) (w : World) (hA : HeapAt w a b c h) : Calls Try.prog 153 #[hv a b c, .int .i64 t, .int .i64 f, .int .i64 z] w (EndH (setF h t f z) (setFOk h t f z) w) := by
  have hb0 := (below1 w (.cells (c3 a b c) 32)).alloc (by simp) (.cells (c3 (.slice none 0 0) (.slice none 0 0) (.slice none 0 0)) 32)
  have A0 := Lib.hid (hA.below hb0)
  have HB := Lib.hid hb0
  have P0 := Lib.hid (show RowH _ _ a b c from (Row.new w 32 (c3 a b c)).alloc (.cells (c3 (.slice none 0 0) (.slice none 0 0) (.slice none 0 0)) 32))
  have R0 := Lib.hid (show RowH _ (w.heap.size + 1) (.slice none 0 0) (.slice none 0 0) (.slice none 0 0) from Row.new1 w (.cells (c3 a b c) 32) 32 (c3 (.slice none 0 0) (.slice none 0 0) (.slice none 0 0)))
  clear hA hb0
  have HC := Lib.hid (s_GoodHeap a b c h _ A0.out)
  have G1 := Lib.hid (good_iff (h := h)).1
  have E1 := Lib.hid (setF_no (h := h) (t := t) (f := f) (z := z))
  have E2 := Lib.hid (setF_yes (h := h) (t := t) (f := f) (z := z))
  have hok : setFOk h t f z = (good h && hasFB h t f && refB h.l z) := rfl
  have hfb : hasFB h t f = (liveB h.l t && decide (0 ≤ f) && decide (f < ((h.f.getD t.toNat []).length : Int))) := rfl
  have hlt : liveB h.l t = true → Ph.Good h → 0 ≤ t ∧ t < h.f.length := fun k g => live_inRg g k
  generalize good h = x at *
  have p0 := P0.out.c0
  have p1 := P0.out.c1
  have p2 := P0.out.c2
  generalize setFOk h t f z = ok at *
  cases x
  · have HE : Hid (ok = false) := by unfold Hid; rw [hok]; rfl
    clear hok hfb hlt
    go_enter Try.func153, Try.ntmps153
    go_wp2_with (first
      | (go_at_call 104; refine HC.out.mono ?_; rintro e w1 ⟨rfl, hb1⟩; have B1 := Lib.hid (bst HB.out hb1 HB.out.size); have A1 := Lib.hid (A0.out.below hb1); have P1 := Lib.hid (P0.out.below hb1); have R1 := Lib.hid (R0.out.below hb1); have d10 := P1.out.c0; have d11 := P1.out.c1; have d12 := P1.out.c2; clear hb1)
      | (refine wl_storeH rfl _ _ rfl (w.heap.size + 1) (.slice none 0 0) (.slice none 0 0) (.slice none 0 0) _ _ _ R1.out rfl rfl rfl rfl rfl ?_))
    refine bodyPost_ret (res_row_slot Try.results153 (Row.put R1.out (c3 (.slice none 0 0) (.slice none 0 0) (.slice none 0 0))) rfl rfl Try.underlying32 rfl info_heap) rfl (endH_no (below_setRow B1.out (by omega) _) (E1.out HE.out) HE.out)
  · have G := Lib.hid (G1.out rfl)
    generalize hb2 : liveB h.l t = x2 at *
    have HX2L := Lib.hid hb2
    clear hb2
    cases x2
    · have HE : Hid (ok = false) := by unfold Hid; rw [hok, hfb]; simp
      clear hok hfb hlt
      go_enter Try.func153, Try.ntmps153
      go_wp2_with (first
        | (go_at_call 104; refine HC.out.mono ?_; rintro e w1 ⟨rfl, hb1⟩; have B1 := Lib.hid (bst HB.out hb1 HB.out.size); have A1 := Lib.hid (A0.out.below hb1); have P1 := Lib.hid (P0.out.below hb1); have R1 := Lib.hid (R0.out.below hb1); have d10 := P1.out.c0; have d11 := P1.out.c1; have d12 := P1.out.c2; clear hb1)
        | (go_at_call 189; refine (s_l5Thing a b c h t _ A1.out G.out).mono ?_; rintro e w2 ⟨rfl, hb2⟩; rw [HX2L.out]; have B2 := Lib.hid (bst B1.out hb2 B1.out.size); have A2 := Lib.hid (A1.out.below hb2); have P2 := Lib.hid (P1.out.below hb2); have R2 := Lib.hid (R1.out.below hb2); have d20 := P2.out.c0; have d21 := P2.out.c1; have d22 := P2.out.c2; clear hb2)
        | (refine wl_storeH rfl _ _ rfl (w.heap.size + 1) (.slice none 0 0) (.slice none 0 0) (.slice none 0 0) _ _ _ R2.out rfl rfl rfl rfl rfl ?_))
      refine bodyPost_ret (res_row_slot Try.results153 (Row.put R2.out (c3 (.slice none 0 0) (.slice none 0 0) (.slice none 0 0))) rfl rfl Try.underlying32 rfl info_heap) rfl (endH_no (below_setRow B2.out (by omega) _) (E1.out HE.out) HE.out)
    · obtain ⟨ht0, htn⟩ := hlt rfl G.out
      obtain ⟨kt, rfl⟩ : ∃ k : Nat, t = k := ⟨t.toNat, by omega⟩
      have HSH := Lib.hid A0.out.f.shape
      obtain ⟨fa, fc, hfa⟩ := HSH.out
      subst hfa
      clear HSH
      obtain ⟨fb, fo, rfl, hcf⟩ := A0.out.f.at' (by omega)
      obtain ⟨u, qu, hu⟩ := hcf kt (by omega)
      obtain ⟨ua, uc, hus⟩ := hu.shape
      subst hus
      have QU := Lib.hid qu
      have i2 : (kt : Int) < (h.f.length : Int) := by omega
      have i3 : (0 : Int) ≤ (kt : Int) := by omega
      rw [Int.toNat_natCast] at hfb
      clear hcf hu qu hlt
      have HM12 : Hid ((h.f.getD kt []).length ≤ 3) := (G.out.row kt (by omega)).1
      have HLN : Hid (kt < h.f.length) := by unfold Hid; omega
      generalize hm0 : (h.f.getD kt []).length = m at *
      have HMM := Lib.hid hm0
      clear hm0
      by_cases hf : 0 ≤ f ∧ f ≤ (m : Int) - 1
      · have HIN : Hid (∀ w', Calls Try.prog 149 #[.int .i64 f, .int .i64 0, .int .i64 ((m : Int) - 1)] w' fun e w'' => e = .returned (.bool true) ∧ w' = w'') := fun w' => s_l1In_yes f 0 _ w' hf.1 hf.2
        have HX2 : Hid (hasFB h (kt : Int) f = true) := by unfold Hid; rw [hfb]; simp; omega
        have HZR : Hid (refB h.l z = (decide (z = -1) || liveB h.l z)) := rfl
        rw [HX2.out, HZR.out] at hok
        clear hfb
        by_cases z1 : z = -1
        · subst z1
          have HE : Hid (ok = true) := by unfold Hid; rw [hok]; simp
          clear hok hf
          have hm3 := HM12.out
          go_enter Try.func153, Try.ntmps153
          go_wp2_with (first
            | (go_at_call 104; refine HC.out.mono ?_; rintro e w1 ⟨rfl, hb1⟩; have B1 := Lib.hid (bst HB.out hb1 HB.out.size); have A1 := Lib.hid (A0.out.below hb1); have P1 := Lib.hid (P0.out.below hb1); have R1 := Lib.hid (R0.out.below hb1); have d10 := P1.out.c0; have d11 := P1.out.c1; have d12 := P1.out.c2; have HB1C := Lib.hid hb1; clear hb1)
            | (go_at_call 189; refine (s_l5Thing _ b c h (kt : Int) _ A1.out G.out).mono ?_; rintro e w2 ⟨rfl, hb2⟩; rw [HX2L.out]; have B2 := Lib.hid (bst B1.out hb2 B1.out.size); have A2 := Lib.hid (A1.out.below hb2); have P2 := Lib.hid (P1.out.below hb2); have R2 := Lib.hid (R1.out.below hb2); have d20 := P2.out.c0; have d21 := P2.out.c1; have d22 := P2.out.c2; have q2 := cellBelow hb2 (Nat.le_refl _) (cellBelow HB1C.out (Nat.le_refl _) QU.out); clear hb2)
            | (go_at_call 149; refine (HIN.out _).mono ?_; rintro e wi ⟨rfl, rfl⟩))
          refine (s_l5Own _ b c h _ A2.out G.out).mono ?_
          rintro e w9 ⟨a', b', c', rfl, ho, hb9⟩
          have B9 := Lib.hid (bst B2.out hb9 B2.out.size); have R9 := Lib.hid (R2.out.below hb9)
          have hfl := hasFB_iff HX2.out G.out
          obtain ⟨k, j, hkt, rfl, hk, hj⟩ := hfl
          obtain rfl : kt = k := by omega
          obtain ⟨ga, ca, pb, qb, pc, qc, gr, cr, x, rfl, rfl, rfl, q1, q2, q3, hgr, rA, rR, oN⟩ := setFld_facts (k := kt) ho hk hj (-1) R9.out
          have hE2 := E2.out HE.out
          rw [Int.toNat_natCast, Int.toNat_natCast] at hE2
          have RA := Lib.hid rA; have RR := Lib.hid rR; have ON := Lib.hid oN; have EE := Lib.hid hE2
          have LL : Hid (w.heap.size ≤ gr) := Nat.le_trans B2.out.size hgr
          have L9 : Hid (w.heap.size ≤ w9.heap.size) := B9.out.size
          have LK := Lib.hid B2.out.size
          clear rA rR oN hE2 ho hb9 hgr
          have i1 : (kt : Int) < (h.f.length : Int) := by omega
          have i2 : (j : Int) < ((h.f.getD kt []).length : Int) := by omega
          have j1 : (0 : Int) ≤ (kt : Int) := by omega
          have j2 : (0 : Int) ≤ (j : Int) := by omega
          generalize h.f.length = nf at *
          generalize h.l.length = nl at *
          generalize h.r.length = nr at *
          generalize (h.f.getD kt []).length = nm at *
          go_wp2_with (first
            | (refine wl_loadH rfl _ rfl w9.heap.size _ _ _ RA.out rfl ?_)
            | (refine wl_storeH rfl _ _ rfl (w.heap.size + 1) (.slice (some ⟨ga, 0, none⟩) nf ca) (.slice pb nl qb) (.slice pc nr qc) _ _ _ RR.out rfl rfl rfl rfl rfl ?_))
          refine bodyPost_ret (res_row_slot Try.results153 (Row.put RR.out (c3 (.slice (some ⟨ga, 0, none⟩) nf ca) (.slice pb nl qb) (.slice pc nr qc))) rfl rfl Try.underlying32 rfl info_heap) rfl (endH_yes (below_setRow ((B9.out.alloc L9.out _).setCell (p := ⟨gr, j, none⟩) LL.out _) (by omega) _) (ON.out.wholeRow RR.out _) LK.out (by rw [size_setRow, World.size_setCell, World.size_alloc]; omega) EE.out HE.out)
        · have hz1 : (z != -1) = true := by rw [bne_iff_ne]; exact z1
          generalize hb3 : liveB h.l z = x3 at *
          have HX3 := Lib.hid hb3
          clear hb3
          have hm3 := HM12.out
          cases x3
          · have HE : Hid (ok = false) := by unfold Hid; rw [hok]; simp [z1]
            clear hok hf z1
            go_enter Try.func153, Try.ntmps153
            go_wp2_with (first
              | (go_at_call 104; refine HC.out.mono ?_; rintro e w1 ⟨rfl, hb1⟩; have B1 := Lib.hid (bst HB.out hb1 HB.out.size); have A1 := Lib.hid (A0.out.below hb1); have P1 := Lib.hid (P0.out.below hb1); have R1 := Lib.hid (R0.out.below hb1); have d10 := P1.out.c0; have d11 := P1.out.c1; have d12 := P1.out.c2; have HB1C := Lib.hid hb1; clear hb1)
              | (go_at_call 189; refine (s_l5Thing _ b c h z _ A2.out G.out).mono ?_; rintro e w3 ⟨rfl, hb3⟩; rw [HX3.out]; have B3 := Lib.hid (bst B2.out hb3 B2.out.size); have A3 := Lib.hid (A2.out.below hb3); have P3 := Lib.hid (P2.out.below hb3); have R3 := Lib.hid (R2.out.below hb3); have d30 := P3.out.c0; have d31 := P3.out.c1; have d32 := P3.out.c2; clear hb3)
              | (go_at_call 189; refine (s_l5Thing _ b c h (kt : Int) _ A1.out G.out).mono ?_; rintro e w2 ⟨rfl, hb2⟩; rw [HX2L.out]; have B2 := Lib.hid (bst B1.out hb2 B1.out.size); have A2 := Lib.hid (A1.out.below hb2); have P2 := Lib.hid (P1.out.below hb2); have R2 := Lib.hid (R1.out.below hb2); have d20 := P2.out.c0; have d21 := P2.out.c1; have d22 := P2.out.c2; have q2 := cellBelow hb2 (Nat.le_refl _) (cellBelow HB1C.out (Nat.le_refl _) QU.out); clear hb2)
              | (go_at_call 149; refine (HIN.out _).mono ?_; rintro e wi ⟨rfl, rfl⟩)
              | (refine wl_storeH rfl _ _ rfl (w.heap.size + 1) (.slice none 0 0) (.slice none 0 0) (.slice none 0 0) _ _ _ R3.out rfl rfl rfl rfl rfl ?_))
            refine bodyPost_ret (res_row_slot Try.results153 (Row.put R3.out (c3 (.slice none 0 0) (.slice none 0 0) (.slice none 0 0))) rfl rfl Try.underlying32 rfl info_heap) rfl (endH_no (below_setRow B3.out (by omega) _) (E1.out HE.out) HE.out)
          · have HE : Hid (ok = true) := by unfold Hid; rw [hok]; simp
            clear hok hf z1
            go_enter Try.func153, Try.ntmps153
            go_wp2_with (first
              | (go_at_call 104; refine HC.out.mono ?_; rintro e w1 ⟨rfl, hb1⟩; have B1 := Lib.hid (bst HB.out hb1 HB.out.size); have A1 := Lib.hid (A0.out.below hb1); have P1 := Lib.hid (P0.out.below hb1); have R1 := Lib.hid (R0.out.below hb1); have d10 := P1.out.c0; have d11 := P1.out.c1; have d12 := P1.out.c2; have HB1C := Lib.hid hb1; clear hb1)
              | (go_at_call 189; refine (s_l5Thing _ b c h z _ A2.out G.out).mono ?_; rintro e w3 ⟨rfl, hb3⟩; rw [HX3.out]; have B3 := Lib.hid (bst B2.out hb3 B2.out.size); have A3 := Lib.hid (A2.out.below hb3); have P3 := Lib.hid (P2.out.below hb3); have R3 := Lib.hid (R2.out.below hb3); have d30 := P3.out.c0; have d31 := P3.out.c1; have d32 := P3.out.c2; clear hb3)
              | (go_at_call 189; refine (s_l5Thing _ b c h (kt : Int) _ A1.out G.out).mono ?_; rintro e w2 ⟨rfl, hb2⟩; rw [HX2L.out]; have B2 := Lib.hid (bst B1.out hb2 B1.out.size); have A2 := Lib.hid (A1.out.below hb2); have P2 := Lib.hid (P1.out.below hb2); have R2 := Lib.hid (R1.out.below hb2); have d20 := P2.out.c0; have d21 := P2.out.c1; have d22 := P2.out.c2; have q2 := cellBelow hb2 (Nat.le_refl _) (cellBelow HB1C.out (Nat.le_refl _) QU.out); clear hb2)
              | (go_at_call 149; refine (HIN.out _).mono ?_; rintro e wi ⟨rfl, rfl⟩))
            refine (s_l5Own _ b c h _ A3.out G.out).mono ?_
            rintro e w9 ⟨a', b', c', rfl, ho, hb9⟩
            have B9 := Lib.hid (bst B3.out hb9 B3.out.size); have R9 := Lib.hid (R3.out.below hb9)
            have hfl := hasFB_iff HX2.out G.out
            obtain ⟨k, j, hkt, rfl, hk, hj⟩ := hfl
            obtain rfl : kt = k := by omega
            obtain ⟨ga, ca, pb, qb, pc, qc, gr, cr, x, rfl, rfl, rfl, q1, q2, q3, hgr, rA, rR, oN⟩ := setFld_facts (k := kt) ho hk hj z R9.out
            have hE2 := E2.out HE.out
            rw [Int.toNat_natCast, Int.toNat_natCast] at hE2
            have RA := Lib.hid rA; have RR := Lib.hid rR; have ON := Lib.hid oN; have EE := Lib.hid hE2
            have LL : Hid (w.heap.size ≤ gr) := Nat.le_trans B3.out.size hgr
            have L9 : Hid (w.heap.size ≤ w9.heap.size) := B9.out.size
            have LK := Lib.hid B3.out.size
            clear rA rR oN hE2 ho hb9 hgr
            have i1 : (kt : Int) < (h.f.length : Int) := by omega
            have i2 : (j : Int) < ((h.f.getD kt []).length : Int) := by omega
            have j1 : (0 : Int) ≤ (kt : Int) := by omega
            have j2 : (0 : Int) ≤ (j : Int) := by omega
            generalize h.f.length = nf at *
            generalize h.l.length = nl at *
            generalize h.r.length = nr at *
            generalize (h.f.getD kt []).length = nm at *
            go_wp2_with (first
              | (refine wl_loadH rfl _ rfl w9.heap.size _ _ _ RA.out rfl ?_)
              | (refine wl_storeH rfl _ _ rfl (w.heap.size + 1) (.slice (some ⟨ga, 0, none⟩) nf ca) (.slice pb nl qb) (.slice pc nr qc) _ _ _ RR.out rfl rfl rfl rfl rfl ?_))
            refine bodyPost_ret (res_row_slot Try.results153 (Row.put RR.out (c3 (.slice (some ⟨ga, 0, none⟩) nf ca) (.slice pb nl qb) (.slice pc nr qc))) rfl rfl Try.underlying32 rfl info_heap) rfl (endH_yes (below_setRow ((B9.out.alloc L9.out _).setCell (p := ⟨gr, j, none⟩) LL.out _) (by omega) _) (ON.out.wholeRow RR.out _) LK.out (by rw [size_setRow, World.size_setCell, World.size_alloc]; omega) EE.out HE.out)
      · have HIN : Hid (∀ w', Calls Try.prog 149 #[.int .i64 f, .int .i64 0, .int .i64 ((m : Int) - 1)] w' fun e w'' => e = .returned (.bool false) ∧ w' = w'') := fun w' => s_l1In_no f 0 _ w' (by omega)
        have HX2 : Hid (hasFB h (kt : Int) f = false) := by unfold Hid; rw [hfb]; simp; omega
        have HE : Hid (ok = false) := by unfold Hid; rw [hok, HX2.out]; simp
        have hm3 := HM12.out
        clear hok hf hfb
        go_enter Try.func153, Try.ntmps153
        go_wp2_with (first
          | (go_at_call 104; refine HC.out.mono ?_; rintro e w1 ⟨rfl, hb1⟩; have B1 := Lib.hid (bst HB.out hb1 HB.out.size); have A1 := Lib.hid (A0.out.below hb1); have P1 := Lib.hid (P0.out.below hb1); have R1 := Lib.hid (R0.out.below hb1); have d10 := P1.out.c0; have d11 := P1.out.c1; have d12 := P1.out.c2; have HB1C := Lib.hid hb1; clear hb1)
          | (go_at_call 189; refine (s_l5Thing _ b c h (kt : Int) _ A1.out G.out).mono ?_; rintro e w2 ⟨rfl, hb2⟩; rw [HX2L.out]; have B2 := Lib.hid (bst B1.out hb2 B1.out.size); have A2 := Lib.hid (A1.out.below hb2); have P2 := Lib.hid (P1.out.below hb2); have R2 := Lib.hid (R1.out.below hb2); have d20 := P2.out.c0; have d21 := P2.out.c1; have d22 := P2.out.c2; have q2 := cellBelow hb2 (Nat.le_refl _) (cellBelow HB1C.out (Nat.le_refl _) QU.out); clear hb2)
          | (go_at_call 149; refine (HIN.out _).mono ?_; rintro e wi ⟨rfl, rfl⟩)
          | (refine wl_storeH rfl _ _ rfl (w.heap.size + 1) (.slice none 0 0) (.slice none 0 0) (.slice none 0 0) _ _ _ R2.out rfl rfl rfl rfl rfl ?_))
        refine bodyPost_ret (res_row_slot Try.results153 (Row.put R2.out (c3 (.slice none 0 0) (.slice none 0 0) (.slice none 0 0))) rfl rfl Try.underlying32 rfl info_heap) rfl (endH_no (below_setRow B2.out (by omega) _) (E1.out HE.out) HE.out)
end Go.Proofs.Ytbmfkgfmibpkjaa
