/- What the laws rest on, part 2. -/
import Derived.Test.YtkkigoamphkalaaQF1
import Derived.Deep.AppendSrc
import Derived.ArgAppend
import Derived.Deep.LoopGhost
namespace Go.Proofs.Ytkkigoamphkalaa
open Go.RowKit Ph

structure Que (w : World) (lo b off cap : Nat) (zs : List Int) : Prop where
  lo : lo ≤ b
  lt : b < w.heap.size
  le : zs.length ≤ cap
  at' : ∀ i, i < zs.length → w.cell? ⟨b, off + i, none⟩ = some (.int .i64 (zs.getD i 0))
  there : ∀ i, i < cap → (w.cell? ⟨b, off + i, none⟩).isSome = true
  free : ∀ i, w.frozen? ⟨b, off + i, none⟩ = false
theorem Que.kept {w w' : World} {lo b off cap : Nat} {zs : List Int} (h : Que w lo b off cap zs) (hs : w.heap.size ≤ w'.heap.size) (hb : w'.heap[b]? = w.heap[b]?) : Que w' lo b off cap zs := by
  have hc : ∀ k, w'.cell? ⟨b, k, none⟩ = w.cell? ⟨b, k, none⟩ := fun k => World.cell?_of_block (a := ⟨b, k, none⟩) hb
  have hf : ∀ k, w'.frozen? ⟨b, k, none⟩ = w.frozen? ⟨b, k, none⟩ := fun k => World.frozen?_of_block (a := ⟨b, k, none⟩) hb
  exact ⟨h.lo, Nat.lt_of_lt_of_le h.lt hs, h.le, fun i hi => by rw [hc]; exact h.at' i hi, fun i hi => by rw [hc]; exact h.there i hi, fun i => by rw [hf]; exact h.free i⟩
theorem Que.tail {w : World} {lo b off cap : Nat} {z : Int} {zs : List Int} (h : Que w lo b off cap (z :: zs)) : Que w lo b (off + 1) (cap - 1) zs := by
  have hl := h.le
  simp only [List.length_cons] at hl
  refine ⟨h.lo, h.lt, by omega, fun i hi => ?_, fun i hi => ?_, fun i => ?_⟩
  · have := h.at' (i + 1) (by simp; omega)
    rw [show off + 1 + i = off + (i + 1) by omega, this]
    simp
  · rw [show off + 1 + i = off + (i + 1) by omega]; exact h.there (i + 1) (by omega)
  · rw [show off + 1 + i = off + (i + 1) by omega]; exact h.free (i + 1)
theorem Que.tail0 {w : World} {lo b off cap : Nat} {z : Int} {zs : List Int} (h : Que w lo b off cap (z :: zs)) (h1 : cap = 1) : Que w lo b off (cap - 1) zs := by
  have hl := h.le
  simp only [List.length_cons] at hl
  exact ⟨h.lo, h.lt, by omega, fun i hi => by omega, fun i hi => by omega, h.free⟩
theorem Que.ofOwn {w : World} {lo : Nat} {v : Value} {zs : List Int} (h : Own w lo v zs) (h0 : 0 < zs.length) : ∃ b cap, v = .slice (some ⟨b, 0, none⟩) zs.length cap ∧ Que w lo b 0 cap zs := by
  have h' := h
  unfold Own at h'
  rcases h.2 with ⟨_, h2⟩ | ⟨g, cap, cur, rfl, hg, hh, hle, _, hcs, _⟩
  · omega
  · refine ⟨g, cap, rfl, hg, ?_, hle, fun i hi => ?_, fun i hi => ?_, fun i => ?_⟩
    · exact (owns_lt h' rfl).2
    · rw [Nat.zero_add, h'.cellAt i (by omega), List.getElem?_map, List.getElem?_eq_getElem hi]
      simp [List.getD, List.getElem?_eq_getElem hi]
    · rw [Nat.zero_add]
      have : w.cell? ⟨g, i, none⟩ = cur[i]? := cell_of_row w g i _ _ _ hh
      rw [this]
      simp; omega
    · rw [Nat.zero_add]; exact frozen_of_row w g i _ _ hh
theorem ints_src {w : World} {x : Value} {ys : List Int} (h : IntsAt w x ys) : ∃ ao c, x = .slice ao ys.length c ∧ Src Try.prog 1 24 x ys.length (ys.map (Value.int .i64)) w ∧ (0 < ys.length → ∃ ad, ao = some ad ∧ ∀ j u, (ys.map (Value.int .i64))[j]? = some u → w.cell? (ad.add j) = some u) := by
  obtain ⟨ao, c, rfl, hc⟩ := h
  refine ⟨ao, c, rfl, ?_, fun h0 => ?_⟩
  · cases ao with
    | none =>
      have : ys = [] := by
        cases ys with
        | nil => rfl
        | cons y ys => obtain ⟨b, off, hb, _⟩ := hc (by simp); cases hb
      subst this
      exact Src.ofNil w Try.underlying24 c
    | some ad =>
      refine Src.ofSlice w Try.underlying24 ad _ c _ (by simp) (fun j u hu => ?_) (fun u hu => by obtain ⟨_, _, rfl⟩ := List.mem_map.1 hu; rfl)
      have hj : j < ys.length := by
        have := List.getElem?_eq_some_iff.1 hu
        obtain ⟨h1, _⟩ := this
        simpa using h1
      obtain ⟨b, off, hb, hcc⟩ := hc (by omega)
      cases hb
      have := hcc j hj
      rw [Addr.add_lit]
      rw [this]
      rw [List.getElem?_map, List.getElem?_eq_getElem hj] at hu
      simp only [Option.map_some, Option.some.injEq] at hu
      rw [← hu]; simp [List.getD, List.getElem?_eq_getElem hj]
  · obtain ⟨b, off, rfl, hcc⟩ := hc h0
    refine ⟨_, rfl, fun j u hu => ?_⟩
    have hj : j < ys.length := by
      obtain ⟨h1, _⟩ := List.getElem?_eq_some_iff.1 hu
      simpa using h1
    have := hcc j hj
    rw [Addr.add_lit]
    rw [this]
    rw [List.getElem?_map, List.getElem?_eq_getElem hj] at hu
    simp only [Option.map_some, Option.some.injEq] at hu
    rw [← hu]; simp [List.getD, List.getElem?_eq_getElem hj]
theorem grownBy_setCells (w : World) (g o : Nat) : ∀ (vs : List Value), w.grownBy (w.setCells g o vs) (some g) := by
  intro vs
  induction vs generalizing w o with
  | nil => exact World.grownBy.refl _ _
  | cons v vs ih =>
    have h1 : w.grownBy (w.setCell ⟨g, o, none⟩ v) (some g) := ⟨rfl, rfl, rfl, by rw [World.size_setCell]; exact Nat.le_refl _, fun i _ hne => heap_setCell_other w ⟨g, o, none⟩ i _ (fun e => hne (by rw [e]))⟩
    exact grownBy_trans h1 (ih _ _)
/-- What an append makes of a queue. -/
theorem wl_appQ (w : World) {ops : Array Oper} {rest : List Oper} {o : Oper} {q : Act} {Q : Exit → Act → World → Prop} (hg : o.guard = none) (s x : Operand) (hop : o.op = Op.call { callee := Callee.builtin Builtin.append, args := #[s, x], argTypes := #[24, 24] })
    (lo b off cap : Nat) (zs : List Int) (hs : q.eval s = .slice (some ⟨b, off, none⟩) zs.length cap) (hQ : Que w lo b off cap zs) (y : Value) (ys : List Int) (hx : q.eval x = y) (hy : IntsAt w y ys) (hlo : lo ≤ w.heap.size) (hm : zs.length + ys.length ≤ 1000000)
    (hK : ∀ b' off' cap' w', Que w' lo b' off' cap' (zs ++ ys) → w.grownBy w' (some b) → wpList Try.prog ops Q rest (q.put o.dst (.slice (some ⟨b', off', none⟩) (zs ++ ys).length cap')) w') : wpList Try.prog ops Q (o :: rest) q w := by
  obtain ⟨i, hi, hz0, hz1, hz2⟩ := info_parts info_int
  obtain ⟨ao, c, rfl, hsrc, hcell⟩ := ints_src hy
  by_cases hfit : zs.length + ys.length ≤ cap
  · have hrun := run_append_room_src (P := Try.prog) w 24 24 o.type 3 i Try.underlying24 hi b off zs.length cap _ ys.length (ys.map (Value.int .i64)) (by rw [hz1]; exact hsrc) hfit
      (fun j hj => by rw [hz1, Nat.mul_one, Nat.add_assoc]; exact hQ.there _ (by simp at hj; omega)) (fun j hj => by rw [hz1, Nat.mul_one, Nat.add_assoc]; exact hQ.free _)
    rw [hz1, Nat.mul_one] at hrun
    have hgr := grownBy_setCells w b (off + zs.length) (ys.map (Value.int .i64))
    have hQ' : Que (w.setCells b (off + zs.length) (ys.map (Value.int .i64))) lo b off cap (zs ++ ys) := by
      refine ⟨hQ.lo, Nat.lt_of_lt_of_le hQ.lt hgr.size, by simp; omega, fun k hk => ?_, fun k hk => ?_, fun k => ?_⟩
      · by_cases e : k < zs.length
        · rw [World.cell?_setCells_out b _ _ w ⟨b, off + k, none⟩ (fun _ _ => .inl (by simp only; omega)), hQ.at' k e]
          simp [List.getD, List.getElem?_append_left e]
        · have hk' : k - zs.length < ys.length := by simp at hk; omega
          have := World.cell?_setCells_in b (ys.map (Value.int .i64)) (off + zs.length) w (fun j hj => by rw [Nat.add_assoc]; exact hQ.there _ (by simp at hj; omega)) (k - zs.length) (by simp; omega)
          rw [show off + zs.length + (k - zs.length) = off + k by omega] at this
          rw [this]
          simp [List.getD, List.getElem?_append_right (show zs.length ≤ k by omega), List.getElem?_eq_getElem hk']
      · by_cases e : k < zs.length ∨ zs.length + ys.length ≤ k
        · rw [World.cell?_setCells_out b _ _ w ⟨b, off + k, none⟩ (fun _ _ => by simp only [List.length_map]; omega)]; exact hQ.there k hk
        · have hk' : k - zs.length < ys.length := by omega
          have := World.cell?_setCells_in b (ys.map (Value.int .i64)) (off + zs.length) w (fun j hj => by rw [Nat.add_assoc]; exact hQ.there _ (by simp at hj; omega)) (k - zs.length) (by simp; omega)
          rw [show off + zs.length + (k - zs.length) = off + k by omega] at this
          rw [this]; rfl
      · rw [World.frozen?_setCells]; exact hQ.free k
    refine wpList_plain hg fun K hK' => ?_
    have hh := hK b off cap _ hQ' hgr
    rw [List.length_append] at hh
    unfold Oper.wp
    simp [execOp, hop, resolve, invoke, builtin, hs, hx, hrun, Result.andThen]
    exact hK' _ _ hh
  · obtain ⟨ad, rfl, hnews⟩ := hcell (by have := hQ.le; omega)
    refine wpList_append_grows w hg s x 24 hop 3 i (.int .i64 0) 1 8 Try.underlying24 hi hz0 hz1 hz2 rfl (by omega) (some ⟨b, off, none⟩) zs.length cap (zs.map (Value.int .i64)) hs (fun h => by cases h) (by simp) (fun b' hb' j u hu => ?_) ad ys.length c (ys.map (Value.int .i64)) hx (by simp) hnews (fun u hu => by obtain ⟨_, _, rfl⟩ := List.mem_map.1 hu; rfl) (by omega) (by unfold maxLen; omega) (by omega) ?_
    · cases hb'
      have hj : j < zs.length := by
        obtain ⟨h1, _⟩ := List.getElem?_eq_some_iff.1 hu
        simpa using h1
      have := hQ.at' j hj
      rw [Addr.add_lit]
      rw [this]
      rw [List.getElem?_map, List.getElem?_eq_getElem hj] at hu
      simp only [Option.map_some, Option.some.injEq] at hu
      rw [← hu]; simp [List.getD, List.getElem?_eq_getElem hj]
    · intro v' w' hown hgr
      have ho : Own w' w.heap.size v' (zs ++ ys) := by unfold Own; rw [List.length_append, List.map_append]; exact hown
      obtain ⟨b', cap', rfl, hq⟩ := Que.ofOwn ho (by rw [List.length_append]; have := hQ.le; omega)
      exact hK b' 0 cap' w' ⟨Nat.le_trans hlo hq.lo, hq.lt, hq.le, hq.at', hq.there, hq.free⟩ ⟨hgr.os, hgr.tape, hgr.output, hgr.size, fun i hi _ => hgr.block i hi (by simp)⟩
end Go.Proofs.Ytkkigoamphkalaa
namespace Go.Proofs.Ytkkigoamphkalaa.Ph
theorem left_rep (n : Nat) : left (List.replicate n false) = n := by unfold left; simp
end Go.Proofs.Ytkkigoamphkalaa.Ph
namespace Go.Proofs.Ytkkigoamphkalaa
open Go.RowKit Ph

theorem que_nil (w : World) (lo : Nat) (hlo : lo ≤ w.heap.size) : Que (w.alloc (.cells #[] 3)) lo w.heap.size 0 0 [] :=
  ⟨hlo, by simp, Nat.le_refl _, fun i hi => by simp at hi, fun i hi => by omega, fun i => by rw [Nat.zero_add]; exact Row.frozen (Row.new w 3 #[]) i⟩
set_option maxRecDepth 100000 in
set_option maxHeartbeats 6400000 in
theorem s_l5From (a b' c v : Value) (h : H) (zs : List Int) (w : World) (hA : HeapAt w a b' c h) (hG : Ph.Good h) (hz : IntsAt w v zs) (hzl : zs.length ≤ 12) (hzr : ∀ z ∈ zs, inR h.f.length z) :
    Calls Try.prog 89 #[hv a b' c, v] w fun e w' => ∃ v', e = .returned v' ∧ OwnBs w' w.heap.size v' (reachL h.f zs) ∧ Below w.heap.size w w' := by
  obtain ⟨i0, hi, hz0, hz1, hz2⟩ := info_parts info_boolz
  have hrow : ∀ i, i < h.f.length → ∀ z ∈ h.f.getD i [], inR h.f.length z := fun i _ z hz => (hG.field hz).imp id (fun h => ⟨h.1, h.2.1⟩)
  have hrl : ∀ i, i < h.f.length → (h.f.getD i []).length ≤ 3 := fun i hi => (hG.row i hi).1
  have hn1 := hG.n
  obtain ⟨fa, fc, rfl⟩ := hA.f.shape
  obtain ⟨va, vc, hva⟩ := hz.shape
  have HF := Lib.hid hA.f; have HZ := Lib.hid hz; have HR := Lib.hid hrow; have HRL := Lib.hid hrl; have HZR := Lib.hid hzr
  have HST := Lib.hid (Bfs.start h.f zs)
  clear hA hG hz hrow hrl hzr
  generalize hn : h.f.length = n at *
  have HN := Lib.hid hn; clear hn
  have HVA := Lib.hid hva
  clear hva
  have hb0 := Lib.hid (below1 w (.cells (c3 (.slice fa n fc) b' c) 30))
  have R0 := Lib.hid (show RowH _ _ (.slice fa n fc) b' c from Row.new w 30 (c3 (.slice fa n fc) b' c))
  go_enter Try.func89, Try.ntmps89
  go_wp2_with (first
    | (at_make; refine wpList_make_full _ rfl _ _ 23 rfl w.heap.size 4 i0 (.bool false) 1 Try.underlying23 hi hz0 hz1 .i64 .i64 _ _ n rfl rfl rfl rfl (by rw [hz2]; omega) (by unfold maxLen; omega) (by simp) ?_; intro w1 hown hgr
       rw [rep_bools] at hown
       have hsz0 : (w.alloc (.cells (c3 (.slice fa n fc) b' c) 30)).heap.size = w.heap.size + 1 := by simp
       rw [hsz0] at hown
       have lt1 : w.heap.size + 1 < w1.heap.size := (owns_lt hown rfl).2
       have o1 : OwnBs w1 w.heap.size (.slice (some ⟨w.heap.size + 1, 0, none⟩) n n) (List.replicate n false) := by unfold OwnBs; rw [List.length_replicate]; exact hown
       have b1 := hb0.out.grown hgr hb0.out.size (fun k hk => by cases hk)
       have O1 := Lib.hid o1; have B1 := Lib.hid b1; have R1 := Lib.hid (Row.grown R0.out hgr); have LT1 := Lib.hid lt1
       clear hown hgr hsz0 o1 b1 lt1)
    | (at_builtin; refine wl_appQ _ rfl _ _ rfl (w.heap.size + 2) w1.heap.size 0 0 [] rfl (que_nil w1 _ (by have := LT1.out; omega)) v zs rfl (HZ.out.below (bst B1.out (below1 w1 (.cells #[] 3)) (by have := LT1.out; omega))) (by have := LT1.out; simp; omega) (by simp; omega) ?_
       intro b2 o2 k2 w2 hq2 hg2
       have b2' := (bst B1.out (below1 w1 (.cells #[] 3)) (by have := LT1.out; omega)).grown hg2 (by have := LT1.out; simp; omega) (fun k hk => by cases hk; have := LT1.out; omega)
       have e2 : OwnBs w2 w.heap.size (.slice (some ⟨w.heap.size + 1, 0, none⟩) n n) (List.replicate n false) := owns_block (OwnBs.below O1.out (below1 w1 (.cells #[] 3))) (fun g hg => hg2.block g (by have := LT1.out; cases hg; simp; omega) (by have := LT1.out; cases hg; simp; omega))
       have r2 := Row.grownBy (R1.out.alloc (.cells #[] 3)) hg2 (by have := LT1.out; simp; omega)
       have Q2 := Lib.hid hq2; have B2 := Lib.hid b2'; have O2 := Lib.hid e2; have R2 := Lib.hid r2
       clear hq2 hg2 b2' e2 r2))
  rw [List.nil_append] at Q2
  clear O1 B1 R1 hb0 R0 HZ HVA
  have LTW : Hid (w.heap.size + 2 ≤ w2.heap.size) := by unfold Hid; have := Q2.out.lt; have := Q2.out.lo; omega
  go_loopg [6] (4 * n + zs.length) (fun k q wr => ∃ (b off cap : Nat) (zq : List Int) (S : List Bool), q = .slice (some ⟨b, off, none⟩) zq.length cap ∧ Hid (k = 4 * left S + zq.length) ∧ k ≤ 60 ∧ Hid (Que wr (w.heap.size + 2) b off cap zq) ∧ Hid (Bfs h.f zs zq S) ∧ Hid (∀ z ∈ zq, inR n z) ∧ Hid (OwnBs wr w.heap.size (.slice (some ⟨w.heap.size + 1, 0, none⟩) n n) S) ∧ Hid (RowH wr w.heap.size (.slice fa n fc) b' c) ∧ Hid (Below w.heap.size w wr) ∧ Hid (w.heap.size + 2 ≤ wr.heap.size))
  case atStart => exact ⟨b2, o2, k2, zs, List.replicate n false, rfl, by rw [left_rep]; exact rfl, by omega, Q2, HST, HZR, O2, R2, B2, LTW⟩
  case round =>
    obtain ⟨b, off, cap, zq, S, rfl, hgk, hg60, hq, hbf, hzq, hos, hrw, hbw, hlw⟩ := hrel
    have hSl : S.length = n := by rw [hbf.out.len, HN.out]
    cases zq with
    | nil =>
      have HE := Lib.hid hbf.out.done
      simp only [List.length_nil]
      go_wp2_with fail
      go_ret
      exact ⟨_, rfl, by rw [← HE.out]; exact hos.out, hbw.out⟩
    | cons z zq =>
      have q0 := hq.out.at' 0 (by simp)
      have hin := hzq.out z (by simp)
      have hcap := hq.out.le
      have HQ0 : Hid (cap = 1 → Que wr (w.heap.size + 2) b off (cap - 1) zq) := hq.out.tail0
      have HQ1 := Lib.hid hq.out.tail
      have HZT : Hid (∀ y ∈ zq, inR n y) := fun y hy => hzq.out y (List.mem_cons_of_mem _ hy)
      simp only [List.getD_cons_zero, Nat.add_zero] at q0
      simp only [List.length_cons] at hgk hcap ⊢
      generalize hql : zq.length = ql at *
      have HQL := Lib.hid hql
      have ipos : (0 : Int) < ((ql + 1 : Nat) : Int) := by omega
      clear hql hzq
      by_cases hc1 : cap = 1
      · subst hc1
        obtain rfl : ql = 0 := by omega
        obtain rfl : zq = [] := List.eq_nil_of_length_eq_zero HQL.out
        have HQT : Hid (Que wr (w.heap.size + 2) b off 0 []) := HQ0.out rfl
        clear HQ0 HQ1
        by_cases z0 : z < 0
        · have HS1 : Hid (Bfs h.f zs [] S) := hbf.out.skip (.inl z0)
          clear hin
          go_wp2_with fail
          go_roundg (4 * left S)
          case measure => have := hgk.out; omega
          case rel => exact ⟨b, off, 0, [], S, rfl, rfl, by have := hgk.out; omega, HQT, HS1, HZT, hos, hrw, hbw, hlw⟩
        · obtain ⟨t, rfl⟩ : ∃ t : Nat, z = t := ⟨z.toNat, by omega⟩
          have htn : t < n := by unfold inR at hin; omega
          obtain ⟨s1, s2, s3, s4⟩ := hos.out.stored hSl htn true
          have i2 : ¬ (t : Int) < 0 := by omega
          have i3 : (t : Int) < (n : Int) := by omega
          have i4 : (0 : Int) ≤ (t : Int) := by omega
          generalize hx : S.getD t false = x at *
          have HX := Lib.hid hx
          clear hin z0 hx
          cases x
          · have hls := left_set (S := S) (z := t) (by omega) HX.out
            obtain ⟨fb, fo, rfl, hcf⟩ := HF.out.at' (by omega)
            obtain ⟨u, quf, huf⟩ := hcf t htn
            have B1 : Below w.heap.size w (wr.setCell ⟨w.heap.size + 1, t, none⟩ (.bool true)) := hbw.out.setCell (p := ⟨w.heap.size + 1, t, none⟩) (by simp) (.bool true)
            have qu := cellBelow B1 (Nat.le_refl _) quf
            have U1 := Lib.hid (huf.below B1)
            have hqb := hq.out.lo
            have Q1 : Hid (Que (wr.setCell ⟨w.heap.size + 1, t, none⟩ (.bool true)) (w.heap.size + 2) b off 0 []) := HQT.out.kept s2.size (s2.block b HQT.out.lt (by simp; omega))
            have R1 : RowH (wr.setCell ⟨w.heap.size + 1, t, none⟩ (.bool true)) w.heap.size (.slice (some ⟨fb, fo, none⟩) n fc) b' c := Row.grownBy hrw.out s2 (by simp)
            have d0 := R1.c0
            have TK := Lib.hid (by have := hbf.out.take (z := t) (by rw [HN.out]; exact htn); rwa [List.nil_append] at this : Bfs h.f zs (h.f.getD t []) (S.set t true))
            have hrt := HR.out t htn
            have hlt3 := HRL.out t htn
            have HZA : Hid (∀ y ∈ h.f.getD t [], inR n y) := hrt
            have RR1 := Lib.hid R1; have BB1 := Lib.hid B1; have SS1 := Lib.hid s1; have HLS := Lib.hid hls
            have LL1 : Hid (w.heap.size + 2 ≤ (wr.setCell ⟨w.heap.size + 1, t, none⟩ (.bool true)).heap.size) := by unfold Hid; rw [World.size_setCell]; exact hlw.out
            obtain ⟨ua, uc, hu⟩ := huf.shape
            subst hu
            clear hls hcf huf quf B1 R1 s1 s2 hrt
            have HL3 := Lib.hid hlt3
            have HGT := Lib.hid (show (h.f.getD t []).length ≤ 1000000 by have := hgk.out; omega)
            generalize hrr : h.f.getD t [] = row at *
            have HRR := Lib.hid hrr
            clear hrr hlt3
            generalize hrl' : row.length = rl at *
            have HRLN := Lib.hid hrl'
            clear hrl'
            go_wp2_with (at_builtin; refine wl_appQ _ rfl _ _ rfl (w.heap.size + 2) b off 0 [] rfl Q1.out _ row rfl U1.out LL1.out (by have := HGT.out; simp only [List.length_nil, Nat.zero_add, HRLN.out]; exact this) ?_
                         intro b3 o3 k3 w3 hq3 hg3
                         have f1 : Hid (Que w3 (w.heap.size + 2) b3 o3 k3 row) := (by rw [List.nil_append] at hq3; exact hq3)
                         have f2 := Lib.hid (BB1.out.grown hg3 (by have := LL1.out; omega) (fun k hk => by cases hk; omega))
                         have f3 : Hid (OwnBs w3 w.heap.size (.slice (some ⟨w.heap.size + 1, 0, none⟩) n n) (S.set t true)) := owns_block SS1.out (fun g hg => hg3.block g (owns_lt SS1.out hg).2 (by cases hg; simp; omega))
                         have f4 : Hid (RowH w3 w.heap.size (.slice (some ⟨fb, fo, none⟩) n fc) b' c) := Row.grownBy RR1.out hg3 (by simp; omega)
                         have f5 : Hid (w.heap.size + 2 ≤ w3.heap.size) := Nat.le_trans LL1.out hg3.size
                         clear hq3 hg3)
            go_roundg (4 * left (S.set t true) + (row).length)
            case measure => rw [HRLN.out]; have := hgk.out; have := HLS.out; have := HL3.out; omega
            case rel => exact ⟨b3, o3, k3, row, S.set t true, rfl, rfl, by rw [HRLN.out]; have := hgk.out; have := HLS.out; have := HL3.out; omega, f1, TK, HZA, f3, f4, f2, f5⟩
          · have HS1 : Hid (Bfs h.f zs [] S) := hbf.out.skip (.inr (by simpa using HX.out))
            go_wp2_with fail
            go_roundg (4 * left S)
            case measure => have := hgk.out; omega
            case rel => exact ⟨b, off, 0, [], S, rfl, rfl, by have := hgk.out; omega, HQT, HS1, HZT, hos, hrw, hbw, hlw⟩
      · have HQT := HQ1
        clear HQ0 HQ1
        by_cases z0 : z < 0
        · have HS1 : Hid (Bfs h.f zs zq S) := hbf.out.skip (.inl z0)
          clear hin
          go_wp2_with fail
          go_roundg (4 * left S + ql)
          case measure => have := hgk.out; omega
          case rel => exact ⟨b, off + 1, cap - 1, zq, S, by simp [HQL.out], by rw [HQL.out]; exact rfl, by have := hgk.out; omega, HQT, HS1, HZT, hos, hrw, hbw, hlw⟩
        · obtain ⟨t, rfl⟩ : ∃ t : Nat, z = t := ⟨z.toNat, by omega⟩
          have htn : t < n := by unfold inR at hin; omega
          obtain ⟨s1, s2, s3, s4⟩ := hos.out.stored hSl htn true
          have i2 : ¬ (t : Int) < 0 := by omega
          have i3 : (t : Int) < (n : Int) := by omega
          have i4 : (0 : Int) ≤ (t : Int) := by omega
          generalize hx : S.getD t false = x at *
          have HX := Lib.hid hx
          clear hin z0 hx
          cases x
          · have hls := left_set (S := S) (z := t) (by omega) HX.out
            obtain ⟨fb, fo, rfl, hcf⟩ := HF.out.at' (by omega)
            obtain ⟨u, quf, huf⟩ := hcf t htn
            have B1 : Below w.heap.size w (wr.setCell ⟨w.heap.size + 1, t, none⟩ (.bool true)) := hbw.out.setCell (p := ⟨w.heap.size + 1, t, none⟩) (by simp) (.bool true)
            have qu := cellBelow B1 (Nat.le_refl _) quf
            have U1 := Lib.hid (huf.below B1)
            have hqb := hq.out.lo
            have Q1 : Hid (Que (wr.setCell ⟨w.heap.size + 1, t, none⟩ (.bool true)) (w.heap.size + 2) b (off + 1) (cap - 1) zq) := HQT.out.kept s2.size (s2.block b HQT.out.lt (by simp; omega))
            have R1 : RowH (wr.setCell ⟨w.heap.size + 1, t, none⟩ (.bool true)) w.heap.size (.slice (some ⟨fb, fo, none⟩) n fc) b' c := Row.grownBy hrw.out s2 (by simp)
            have d0 := R1.c0
            have TK := Lib.hid (hbf.out.take (z := t) (by rw [HN.out]; exact htn))
            have hrt := HR.out t htn
            have hlt3 := HRL.out t htn
            have HZA : Hid (∀ y ∈ zq ++ h.f.getD t [], inR n y) := fun y hy => (List.mem_append.1 hy).elim (HZT.out y) (hrt y)
            have RR1 := Lib.hid R1; have BB1 := Lib.hid B1; have SS1 := Lib.hid s1; have HLS := Lib.hid hls
            have LL1 : Hid (w.heap.size + 2 ≤ (wr.setCell ⟨w.heap.size + 1, t, none⟩ (.bool true)).heap.size) := by unfold Hid; rw [World.size_setCell]; exact hlw.out
            obtain ⟨ua, uc, hu⟩ := huf.shape
            subst hu
            clear hls hcf huf quf B1 R1 s1 s2 hrt
            have HL3 := Lib.hid hlt3
            have HGT := Lib.hid (show zq.length + (h.f.getD t []).length ≤ 1000000 by rw [HQL.out]; have := hgk.out; omega)
            generalize hrr : h.f.getD t [] = row at *
            have HRR := Lib.hid hrr
            clear hrr hlt3
            generalize hrl' : row.length = rl at *
            have HRLN := Lib.hid hrl'
            clear hrl'
            go_wp2_with (at_builtin; refine wl_appQ _ rfl _ _ rfl (w.heap.size + 2) b (off + 1) (cap - 1) zq (by first | (rw [HQL.out]; rfl) | (simp [HQL.out])) Q1.out _ row rfl U1.out LL1.out (by rw [HRLN.out]; exact HGT.out) ?_
                         intro b3 o3 k3 w3 hq3 hg3
                         have f1 := Lib.hid hq3; have f2 := Lib.hid (BB1.out.grown hg3 (by have := LL1.out; omega) (fun k hk => by cases hk; omega))
                         have f3 : Hid (OwnBs w3 w.heap.size (.slice (some ⟨w.heap.size + 1, 0, none⟩) n n) (S.set t true)) := owns_block SS1.out (fun g hg => hg3.block g (owns_lt SS1.out hg).2 (by cases hg; simp; omega))
                         have f4 : Hid (RowH w3 w.heap.size (.slice (some ⟨fb, fo, none⟩) n fc) b' c) := Row.grownBy RR1.out hg3 (by simp; omega)
                         have f5 : Hid (w.heap.size + 2 ≤ w3.heap.size) := Nat.le_trans LL1.out hg3.size
                         clear hq3 hg3)
            go_roundg (4 * left (S.set t true) + (zq ++ row).length)
            case measure => rw [List.length_append, HQL.out, HRLN.out]; have := hgk.out; have := HLS.out; have := HL3.out; omega
            case rel => exact ⟨b3, o3, k3, zq ++ row, S.set t true, by rw [List.length_append], rfl, by rw [List.length_append, HQL.out, HRLN.out]; have := hgk.out; have := HLS.out; have := HL3.out; omega, f1, TK, HZA, f3, f4, f2, f5⟩
          · have HS1 : Hid (Bfs h.f zs zq S) := hbf.out.skip (.inr (by simpa using HX.out))
            go_wp2_with fail
            go_roundg (4 * left S + ql)
            case measure => have := hgk.out; omega
            case rel => exact ⟨b, off + 1, cap - 1, zq, S, by simp [HQL.out], by rw [HQL.out]; exact rfl, by have := hgk.out; omega, HQT, HS1, HZT, hos, hrw, hbw, hlw⟩
end Go.Proofs.Ytkkigoamphkalaa
namespace Go.Proofs.Ytkkigoamphkalaa.Ph
def inB (lo hi z : Int) : Bool := decide (lo ≤ z) && decide (z ≤ hi)
theorem inAll_take_succ {lo hi : Int} {zs : List Int} {k : Nat} (h : k < zs.length) : (zs.take (k + 1)).all (inB lo hi) = ((zs.take k).all (inB lo hi) && inB lo hi (zs.getD k 0)) := by
  have e : zs.getD k 0 = zs[k] := by simp [List.getD, List.getElem?_eq_getElem h]
  rw [List.take_succ_eq_append_getElem h, List.all_append, e]; simp
theorem inAll_false {lo hi : Int} {zs : List Int} {k : Nat} (h : k < zs.length) (hn : inB lo hi (zs.getD k 0) = false) : zs.all (inB lo hi) = false := by
  cases hq : zs.all (inB lo hi) with
  | false => rfl
  | true =>
    have e : zs.getD k 0 = zs[k] := by simp [List.getD, List.getElem?_eq_getElem h]
    have := (List.all_eq_true.1 hq) zs[k] (List.getElem_mem h)
    rw [e] at hn; rw [hn] at this; cases this
end Go.Proofs.Ytkkigoamphkalaa.Ph
namespace Go.Proofs.Ytkkigoamphkalaa
open Go.RowKit Ph

set_option maxHeartbeats 1600000 in
theorem s_l1All (v : Value) (zs : List Int) (lo hi : Int) (w : World) (hz : IntsAt w v zs) (hm : zs.length ≤ 9223372036854775806) : Calls Try.prog 87 #[v, .int .i64 lo, .int .i64 hi] w fun e w' => e = .returned (.bool (zs.all (inB lo hi))) ∧ w = w' := by
  obtain ⟨va, vc, rfl, hA⟩ := hz
  have HA := Lib.hid hA
  clear hA
  generalize hn : zs.length = n at *
  have HN := Lib.hid hn; clear hn
  go_enter Try.func87, Try.ntmps87
  go_wp2
  go_loop [11] (fun i => ∃ k : Nat, k ≤ n ∧ i = .int .i64 k ∧ Hid ((zs.take k).all (inB lo hi) = true)) (fun i => n - (intOf i).toNat)
  case atStart => exact ⟨0, Nat.zero_le _, rfl, by simp [Hid]⟩
  case round =>
    obtain ⟨k, hk, rfl, ht⟩ := hrel
    by_cases hlt : k < n
    · obtain ⟨g, off, rfl, hc⟩ := HA.out (by omega)
      have q := hc k hlt
      have i1 : (k : Int) < (n : Int) := by omega
      have hs := inAll_take_succ (lo := lo) (hi := hi) (zs := zs) (k := k) (by rw [HN.out]; exact hlt)
      have hf := inAll_false (lo := lo) (hi := hi) (zs := zs) (k := k) (by rw [HN.out]; exact hlt)
      have HS := Lib.hid hs; have HF := Lib.hid hf
      clear hc hs hf
      generalize zs.getD k 0 = z at *
      have hcall : Calls Try.prog 126 #[.int .i64 z, .int .i64 lo, .int .i64 hi] w fun e w' => e = .returned (.bool (inB lo hi z)) ∧ w = w' := s_l1In z lo hi w
      have HC := Lib.hid hcall
      clear hcall
      generalize hx : inB lo hi z = x at *
      clear hx
      cases x
      · have HE : Hid (zs.all (inB lo hi) = false) := HF.out rfl
        clear HS HF
        go_wp2_with (go_at_call 126; refine HC.out.mono ?_; rintro e w1 ⟨rfl, rfl⟩)
        go_ret
        exact ⟨r_b HE.out.symm, rfl⟩
      · have HE : Hid ((zs.take (k + 1)).all (inB lo hi) = true) := by unfold Hid; rw [HS.out, ht.out]; rfl
        clear HS HF
        go_wp2_with (go_at_call 126; refine HC.out.mono ?_; rintro e w1 ⟨rfl, rfl⟩)
        go_round
        case rel => exact ⟨k + 1, by omega, by go_num, HE.out⟩
        case measure => simp [intOf]; omega
    · have HE : Hid (zs.all (inB lo hi) = true) := by
        unfold Hid
        have := ht.out
        rwa [List.take_of_length_le (by rw [HN.out]; omega)] at this
      go_wp2
      go_ret
      exact ⟨r_b HE.out.symm, rfl⟩
set_option maxHeartbeats 1600000 in
theorem s_l5Reached (a b c : Value) (h : H) (w : World) (hA : HeapAt w a b c h) (hG : Ph.Good h) : Calls Try.prog 81 #[hv a b c] w fun e w' => ∃ v', e = .returned v' ∧ OwnBs w' w.heap.size v' (reachL h.f h.r) ∧ Below w.heap.size w w' := by
  have hb0 := below1 w (.cells (c3 a b c) 30)
  have A0 := Lib.hid (hA.below hb0)
  have HB := Lib.hid hb0; have G := Lib.hid hG
  have R0 := Lib.hid (show RowH _ _ a b c from Row.new w 30 (c3 a b c))
  clear hA hb0 hG
  have c0 := R0.out.c0
  have c1 := R0.out.c1
  have c2 := R0.out.c2
  go_enter Try.func81, Try.ntmps81
  go_wp2_with fail
  refine (s_l5From a b c c h h.r _ A0.out G.out A0.out.r (by have := G.out.rn; omega) (fun z hz => (refs_bound G.out G.out.rr z hz).imp id (fun h => ⟨h.1, h.2.1⟩))).mono ?_
  rintro e w2 ⟨v', rfl, ho2, hb2⟩
  have B2 := Lib.hid (bst HB.out hb2 HB.out.size); have O2 := Lib.hid (show OwnBs w2 w.heap.size v' (reachL h.f h.r) from owns_mono ho2 fun g hg => Nat.le_trans HB.out.size (owns_lt ho2 hg).1)
  clear hb2 ho2
  go_wp2_with fail
  go_ret
  exact ⟨_, rfl, O2.out, B2.out⟩
end Go.Proofs.Ytkkigoamphkalaa
namespace Go.Proofs.Ytkkigoamphkalaa.Ph
/-- The first index, from k on, that is not live (so far all below k are). -/
def placeOf (l : List Bool) : Nat := l.findIdx (fun b => !b)
theorem place_le (l : List Bool) : placeOf l ≤ l.length := List.findIdx_le_length
theorem place_of {l : List Bool} {k : Nat} (hk : k < l.length) (h1 : ∀ i, i < k → l.getD i false = true) (h2 : l.getD k false = false) : placeOf l = k := by
  unfold placeOf
  have e : l[k] = false := by simpa [List.getD, List.getElem?_eq_getElem hk] using h2
  refine (List.findIdx_eq hk).2 ⟨by rw [e]; rfl, fun j hj => ?_⟩
  have := h1 j hj
  have hj' : j < l.length := by omega
  have e2 : l[j] = true := by simpa [List.getD, List.getElem?_eq_getElem hj'] using this
  rw [e2]; rfl
theorem place_none {l : List Bool} (h1 : ∀ i, i < l.length → l.getD i false = true) : placeOf l = l.length := by
  unfold placeOf
  rw [List.findIdx_eq_length]
  intro x hx
  obtain ⟨i, hi, rfl⟩ := List.getElem_of_mem hx
  have := h1 i hi
  have e : l[i] = true := by simpa [List.getD, List.getElem?_eq_getElem hi] using this
  rw [e]; rfl
end Go.Proofs.Ytkkigoamphkalaa.Ph
namespace Go.Proofs.Ytkkigoamphkalaa
open Go.RowKit Ph

theorem op_app {P : Program} {o : Oper} {q : Act} {w w' : World} {K : Act → World → Prop} {Q : Exit → Act → World → Prop} {vs vx v' : Value} (s x : Operand) (t : TypeId) (hop : o.op = Op.call { callee := Callee.builtin Builtin.append, args := #[s, x], argTypes := #[t, t] }) (hs : q.eval s = vs) (hx : q.eval x = vx)
    (hrun : (Builtin.append_ #[t, t] o.type #[vs, vx]).run P w = .ok v' w') (h : K (q.put o.dst v') w') : Oper.wp P o q w K Q := by
  unfold Oper.wp
  simp [execOp, hop, resolve, invoke, builtin, hs, hx, hrun, Result.andThen]
  exact h
/-- A copy under way: what is live, and the roots. -/
structure OwnSt (w W : World) (fa la ra vA vB : Value) (lA : List Bool) (rB : List Int) : Prop where
  ow : OwnH W w.heap.size W.heap.size (.slice none 0 0) vA vB ⟨[], lA, rB⟩
  rp : RowH W w.heap.size fa la ra
  r2 : RowH W (w.heap.size + 1) (.slice none 0 0) (.slice none 0 0) (.slice none 0 0)
  l : Below w.heap.size w W
  sz : w.heap.size + 2 ≤ W.heap.size
section
variable {w W : World} {fa la ra vA vB : Value} {lA : List Bool} {rB : List Int}
theorem own_empty (W : World) (T : TypeId) : (W.alloc (.cells #[] T)).ownsRow W.heap.size T 1 (.slice (some ⟨W.heap.size, 0, none⟩) 0 0) 0 [] := ⟨rfl, .inr ⟨W.heap.size, 0, #[], rfl, Nat.le_refl _, heap_alloc_new _ _, Nat.le_refl _, by unfold maxLen; omega, rfl, rfl⟩⟩
theorem OwnSt.allocB (k : OwnSt w W fa la ra (.slice none 0 0) vB [] rB) : OwnSt w (W.alloc (.cells #[] 4)) fa la ra (.slice (some ⟨W.heap.size, 0, none⟩) 0 0) vB [] rB :=
  ⟨(k.ow.below (below1 W _)).addLive (own_empty W 4) (by have := k.sz; omega) (by simp), Row.alloc k.rp _, Row.alloc k.r2 _, k.l.alloc k.l.size _, by have := k.sz; simp; omega⟩
theorem OwnSt.allocI (k : OwnSt w W fa la ra vA (.slice none 0 0) lA []) : OwnSt w (W.alloc (.cells #[] 3)) fa la ra vA (.slice (some ⟨W.heap.size, 0, none⟩) 0 0) lA [] :=
  ⟨(k.ow.below (below1 W _)).addRoots (own_empty W 3) (by have := k.sz; omega) (by simp), Row.alloc k.rp _, Row.alloc k.r2 _, k.l.alloc k.l.size _, by have := k.sz; simp; omega⟩
theorem OwnSt.allocC (k : OwnSt w W fa la ra vA vB lA rB) : OwnSt w (W.alloc (.cells (c3 (.slice none 0 0) (.slice none 0 0) (.slice none 0 0)) 30)) fa la ra vA vB lA rB :=
  ⟨(k.ow.below (below1 W _)).wide (Nat.le_refl _) (by simp), Row.alloc k.rp _, Row.alloc k.r2 _, k.l.alloc k.l.size _, by have := k.sz; simp; omega⟩
theorem own_store {g : Nat} {a0 b0 c0 : Value} (k : OwnSt w W fa la ra vA vB lA rB) (hr : RowH W g a0 b0 c0) (hg : w.heap.size + 2 ≤ g) (x y z : Value) : OwnSt w (((W.setCell ⟨g, 0, none⟩ x).setCell ⟨g, 1, none⟩ y).setCell ⟨g, 2, none⟩ z) fa la ra vA vB lA rB :=
  ⟨by simp only [World.size_setCell]; exact k.ow.set3 hr x y z, Row.other (Row.other (Row.other k.rp ⟨g, 0, none⟩ (by simp; omega) x) ⟨g, 1, none⟩ (by simp; omega) y) ⟨g, 2, none⟩ (by simp; omega) z, Row.other (Row.other (Row.other k.r2 ⟨g, 0, none⟩ (by simp; omega) x) ⟨g, 1, none⟩ (by simp; omega) y) ⟨g, 2, none⟩ (by simp; omega) z, below_set3 k.l (by omega) x y z, by simp only [World.size_setCell]; exact k.sz⟩
theorem row_grown {W' : World} {B g : Nat} {T : TypeId} {v : Value} {n : Nat} {xs : List Value} {cs : Array Value} (ho : W.ownsRow B T 1 v n xs) (hT : T ≠ 30) (hg : W.grownBy W' v.ownBlock) (hr : Row W g 30 cs) : Row W' g 30 cs :=
  (hg.block g hr.lt (fun e => owns_ne_row ho hr hT e.symm rfl)).trans hr
theorem grown_below {W' : World} {B : Nat} {T : TypeId} {v : Value} {n : Nat} {xs : List Value} (hb : Below B w W) (hB : B ≤ W.heap.size) (ho : W.ownsRow B T 1 v n xs) (hg : W.grownBy W' v.ownBlock) : Below B w W' := hb.grown hg hB (fun _ hk => (owns_lt ho hk).1)
theorem OwnSt.appB {bs : List Bool} (k : OwnSt w W fa la ra vA vB [] rB) (hs : BoolsAt w la bs) (hm : bs.length ≤ 1048576) (ty : TypeId) : ∃ v' W', (Builtin.append_ #[23, 23] ty #[vA, la]).run Try.prog W = .ok v' W' ∧ OwnSt w W' fa la ra v' vB bs rB ∧ ∀ g a b c, RowH W g a b c → RowH W' g a b c := by
  obtain ⟨i0, hi, hz0, hz1, hz2⟩ := info_parts info_boolz
  obtain ⟨us, hf⟩ := k.ow
  have ho : W.ownsRow w.heap.size 4 1 vA 0 [] := hf.live
  obtain ⟨v', W', hr, h1, h2, h3⟩ := run_appOwn (P := Try.prog) W w.heap.size 23 ty 4 i0 (.bool false) 1 Try.underlying23 hi hz0 hz1 hz2 rfl vA 0 [] ho la _ (hs.below k.l).src (by rw [List.length_map]; unfold maxLen; omega) (by rw [List.length_map]; omega) (by have := k.sz; omega)
  rw [List.nil_append, Nat.zero_add, List.length_map] at h1
  refine ⟨v', W', hr, ⟨⟨us, hf.turnLive h2 h1 h2.size (fun g hg => ?_)⟩, row_grown ho (by decide) h2 k.rp, row_grown ho (by decide) h2 k.r2, grown_below k.l (by have := k.sz; omega) ho h2, Nat.le_trans k.sz h2.size⟩, fun g a b c hr => row_grown ho (by decide) h2 hr⟩
  rcases h3 with h3 | h3
  · exact .inr (by rw [← h3]; exact hg)
  · rw [hg] at h3; cases h3; exact .inl ⟨Nat.le_refl _, (owns_lt h1 hg).2⟩
theorem OwnSt.appI {zs : List Int} (k : OwnSt w W fa la ra vA vB lA []) (hs : IntsAt w ra zs) (hm : zs.length ≤ 1048576) (ty : TypeId) : ∃ v' W', (Builtin.append_ #[24, 24] ty #[vB, ra]).run Try.prog W = .ok v' W' ∧ OwnSt w W' fa la ra vA v' lA zs ∧ ∀ g a b c, RowH W g a b c → RowH W' g a b c := by
  obtain ⟨i0, hi, hz0, hz1, hz2⟩ := info_parts info_int
  obtain ⟨us, hf⟩ := k.ow
  have ho : W.ownsRow w.heap.size 3 1 vB 0 [] := hf.roots
  obtain ⟨v', W', hr, h1, h2, h3⟩ := run_appOwn (P := Try.prog) W w.heap.size 24 ty 3 i0 (.int .i64 0) 8 Try.underlying24 hi hz0 hz1 hz2 rfl vB 0 [] ho ra _ (hs.below k.l).src (by rw [List.length_map]; unfold maxLen; omega) (by rw [List.length_map]; omega) (by have := k.sz; omega)
  rw [List.nil_append, Nat.zero_add, List.length_map] at h1
  refine ⟨v', W', hr, ⟨⟨us, hf.turnRoots h2 h1 h2.size (fun g hg => ?_)⟩, row_grown ho (by decide) h2 k.rp, row_grown ho (by decide) h2 k.r2, grown_below k.l (by have := k.sz; omega) ho h2, Nat.le_trans k.sz h2.size⟩, fun g a b c hr => row_grown ho (by decide) h2 hr⟩
  rcases h3 with h3 | h3
  · exact .inr (by rw [← h3]; exact hg)
  · rw [hg] at h3; cases h3; exact .inl ⟨Nat.le_refl _, (owns_lt h1 hg).2⟩
end
end Go.Proofs.Ytkkigoamphkalaa
namespace Go.Proofs.Ytkkigoamphkalaa
open Go.RowKit Ph

theorem src_one (W : World) (y : Value) (hy : y.oneCell' = true) : SrcAt (W.alloc (.cells #[y] 24)) (.slice (some ⟨W.heap.size, 0, none⟩) 1 1) [y] :=
  ⟨_, 1, rfl, fun u hu => by simp at hu; rw [hu]; exact hy, fun _ => ⟨W.heap.size, 0, rfl, fun j hj => by simp at hj; subst hj; exact Row.cell (Row.new W 24 #[y]) 0⟩⟩
structure Lp (w W : World) (gC hi0 : Nat) (A B C : Value) (h : H) : Prop where
  rw' : RowH W gC A B C
  ow : OwnH W w.heap.size hi0 A B C h
  r2 : RowH W (w.heap.size + 1) (.slice none 0 0) (.slice none 0 0) (.slice none 0 0)
  l : Below w.heap.size w W
  hi : hi0 ≤ W.heap.size
  lo : w.heap.size + 2 ≤ hi0
section
variable {w W : World} {gC hi0 : Nat} {A B C : Value} {h : H}
theorem Lp.alloc (k : Lp w W gC hi0 A B C h) (o : Obj) : Lp w (W.alloc o) gC hi0 A B C h :=
  ⟨Row.alloc k.rw' o, k.ow.below (below1 W o), Row.alloc k.r2 o, k.l.alloc (by have := k.hi; have := k.lo; omega) o, by have := k.hi; simp; omega, k.lo⟩
theorem Lp.app {x y : Value} {zs : List Int} (k : Lp w W gC hi0 A B C h) (e : W.ownsRow hi0 3 1 y 0 []) (hs : IntsAt w x zs) (hm : zs.length ≤ 1048576) (ty : TypeId) :
    ∃ v' W', (Builtin.append_ #[24, 24] ty #[y, x]).run Try.prog W = .ok v' W' ∧ Lp w W' gC hi0 A B C h ∧ Own W' hi0 v' zs := by
  obtain ⟨i0, hi, hz0, hz1, hz2⟩ := info_parts info_int
  obtain ⟨v', W', hr, h1, h2, _⟩ := run_appOwn (P := Try.prog) W hi0 24 ty 3 i0 (.int .i64 0) 8 Try.underlying24 hi hz0 hz1 hz2 rfl y 0 [] e x _ (hs.below k.l).src (by rw [List.length_map]; unfold maxLen; omega) (by rw [List.length_map]; omega) k.hi
  rw [List.nil_append, Nat.zero_add, List.length_map] at h1
  have hlo := k.lo
  have hch : Chg hi0 W.heap.size W W' := Chg.of_grown h2 fun g hg => owns_lt e hg
  refine ⟨v', W', hr, ⟨row_grown e (by decide) h2 k.rw', k.ow.chg hch (.inl (Nat.le_refl _)), row_grown e (by decide) h2 k.r2, below_chg k.l hch (by omega) (by have := k.hi; omega), Nat.le_trans k.hi h2.size, k.lo⟩, h1⟩
theorem Lp.grow {y z : Value} {zs : List Int} (k : Lp w W gC hi0 A B C h) (e : Own W hi0 y zs) (hz : SrcAt W z [y]) (hn : h.f.length ≤ 1000) (ty : TypeId) :
    ∃ v' W', (Builtin.append_ #[22, 22] ty #[A, z]).run Try.prog W = .ok v' W' ∧ RowH W' gC A B C ∧ OwnH W' w.heap.size W'.heap.size v' B C ⟨h.f ++ [zs], h.l, h.r⟩ ∧ RowH W' (w.heap.size + 1) (.slice none 0 0) (.slice none 0 0) (.slice none 0 0) ∧ Below w.heap.size w W' ∧ w.heap.size + 2 ≤ W'.heap.size ∧ ∃ pa qa, v' = .slice pa (h.f.length + 1) qa := by
  obtain ⟨i0, hi, hz0, hz1, hz2⟩ := info_parts info_ints
  obtain ⟨us, hf⟩ := k.ow
  have ho := hf.outer
  obtain ⟨v', W', hr, h1, h2, h3⟩ := run_appOwn (P := Try.prog) W w.heap.size 22 ty 24 i0 (.slice none 0 0) 24 Try.underlying22 hi hz0 hz1 hz2 rfl A h.f.length _ ho z [y] hz (by simp; unfold maxLen; omega) (by simp; omega) (by have := k.hi; have := k.lo; omega)
  have hlo := k.lo
  have hhi := k.hi
  have h1' : W'.ownsRow w.heap.size 24 1 v' (h.f.length + 1) ((List.range h.f.length).map us ++ [y]) := h1
  refine ⟨v', W', hr, row_grown ho (by decide) h2 k.rw', ⟨_, hf.growRow (hi1 := W.heap.size) (e.mono (by omega)) (fun g hg => owns_lt e hg) hhi h2 h1' h2.size (fun g hg => ?_)⟩, row_grown ho (by decide) h2 k.r2, grown_below k.l (by omega) ho h2, by have := h2.size; omega, ?_⟩
  · rcases h3 with h3 | h3
    · exact .inr (by rw [← h3]; exact hg)
    · rw [hg] at h3; cases h3; exact .inl ⟨Nat.le_refl _, (owns_lt h1' hg).2⟩
  · rcases h1'.2 with ⟨_, h0⟩ | ⟨g, cap, cur, hv, _⟩
    · omega
    · exact ⟨_, _, hv⟩
end
end Go.Proofs.Ytkkigoamphkalaa
namespace Go.Proofs.Ytkkigoamphkalaa.Ph
def put1 (h : H) (p : Nat) (m : Nat) : H := ⟨h.f.set p (List.replicate m (-1)), h.l.set p true, h.r⟩
end Go.Proofs.Ytkkigoamphkalaa.Ph
namespace Go.Proofs.Ytkkigoamphkalaa
open Go.RowKit Ph

theorem src_bool (W : World) (b : Bool) : SrcAt (W.alloc (.cells #[.bool b] 4)) (.slice (some ⟨W.heap.size, 0, none⟩) 1 1) ([b].map Value.bool) :=
  ⟨_, 1, rfl, fun u hu => by simp at hu; rw [hu]; rfl, fun _ => ⟨W.heap.size, 0, rfl, fun j hj => by simp at hj; subst hj; exact Row.cell (Row.new W 4 #[.bool b]) 0⟩⟩
theorem wl_appRun {P : Program} {w w' : World} {ops : Array Oper} {rest : List Oper} {o : Oper} {q : Act} {Q : Exit → Act → World → Prop} {vs vx v' : Value} (hgd : o.guard = none) (s x : Operand) (t : TypeId) (hop : o.op = Op.call { callee := Callee.builtin Builtin.append, args := #[s, x], argTypes := #[t, t] }) (hs : q.eval s = vs) (hx : q.eval x = vx)
    (hrun : (Builtin.append_ #[t, t] o.type #[vs, vx]).run P w = .ok v' w') (h : wpList P ops Q rest (q.put o.dst v') w') : wpList P ops Q (o :: rest) q w := wpList_plain hgd fun _ hK => op_app s x t hop hs hx hrun (hK _ _ h)
/-- A new row stored in a heap that is the call's own. -/
theorem putRow1 {w : World} {lo hi : Nat} {a b c : Value} {h : H} (k : OwnH w lo hi a b c h) {j : Nat} (hj : j < h.f.length) {u : Value} {zs : List Int} (ho : Own w hi u zs) (hl : lo ≤ hi) (hs : hi ≤ w.heap.size) : ∃ ga ca x, a = .slice (some ⟨ga, 0, none⟩) h.f.length ca ∧ w.cell? ⟨ga, j, none⟩ = some x ∧ w.frozen? ⟨ga, j, none⟩ = false ∧ lo ≤ ga ∧ (∀ g cs, Row w g 30 cs → ga ≠ g) ∧ OwnH (w.setCell ⟨ga, j, none⟩ u) lo w.heap.size a b c ⟨h.f.set j zs, h.l, h.r⟩ := by
  obtain ⟨us, hf⟩ := k
  rcases hf.shape with ⟨_, h0⟩ | ⟨ga, ca, ha⟩
  · rw [h0] at hj; simp at hj
  obtain ⟨c1, f1⟩ := hf.cell ha hj
  obtain ⟨s1, _⟩ := hf.putRow hj (ho.mono hl) hs (fun g hg => .inl (owns_lt ho hg)) ha
  have := Fam.blk hf (k := 0) (g := ga) (by omega) (by show a.ownBlock = _; rw [ha]; rfl)
  exact ⟨ga, ca, _, ha, c1, f1, this.1, fun g cs hr => owns_ne_row hf.outer hr (by decide) (by rw [ha]; rfl), ⟨_, s1⟩⟩
end Go.Proofs.Ytkkigoamphkalaa
namespace Go.Proofs.Ytkkigoamphkalaa
open Go.RowKit Ph

theorem OwnH.liveNe {w : World} {lo hi gb n cb g : Nat} {a c : Value} {h : H} {cs : Array Value} (k : OwnH w lo hi a (.slice (some ⟨gb, 0, none⟩) n cb) c h) (hr : Row w g 30 cs) : gb ≠ g := by
  obtain ⟨us, hf⟩ := k
  exact owns_ne_row hf.live hr (by decide) rfl
end Go.Proofs.Ytkkigoamphkalaa
namespace Go.Proofs.Ytkkigoamphkalaa
open Go.RowKit Ph

theorem fam_keepRow {w w' : World} {lo hi n g : Nat} {v : Nat → Value} {cs : Nat → List Value} {ds : Array Value} (k : Fam w lo hi n tyH v cs) (hr : Row w g 30 ds) (hb : ∀ i, i ≠ g → i < w.heap.size → w'.heap[i]? = w.heap[i]?) : Fam w' lo hi n tyH v cs :=
  ⟨fun j hj => owns_block (k.own j hj) fun g' hg' => hb g' (owns_ne_row (k.own j hj) hr (tyH_ne j) hg') (owns_lt (k.own j hj) hg').2, k.lt, k.ap⟩
def OwnX (w : World) (lo hi : Nat) (a b c u : Value) (h : H) (zs : List Int) : Prop := ∃ us, Fam w lo hi (h.f.length + 3 + 1) tyH (upd (vH a b c us) (h.f.length + 3) u) (upd (cH us h) (h.f.length + 3) (zs.map (Value.int .i64)))
section
variable {w : World} {lo hi hi' : Nat} {a b c u : Value} {h : H} {zs : List Int}
theorem OwnX.of (k : OwnH w lo hi a b c h) (ho : Own w lo u zs) (hu : ∀ g, u.ownBlock = some g → hi ≤ g ∧ g < hi') (hh : hi ≤ hi') : OwnX w lo hi' a b c u h zs := by
  obtain ⟨us, k⟩ := k
  exact ⟨us, Fam.grow k (u := u) (ds := zs.map (Value.int .i64)) (by simp only [tyH, List.length_map]; exact ho) hh hu⟩
theorem OwnX.cellRow {g : Nat} {cs : Array Value} (k : OwnX w lo hi a b c u h zs) (hr : Row w g 30 cs) (j : Nat) (x : Value) : OwnX (w.setCell ⟨g, j, none⟩ x) lo hi a b c u h zs := by
  obtain ⟨us, k⟩ := k
  exact ⟨us, fam_keepRow k hr fun i hi _ => heap_setCell_other w ⟨g, j, none⟩ i _ hi⟩
theorem OwnX.live (k : OwnX w lo hi a b c u h zs) (hl : lo ≤ hi) (hs : hi ≤ w.heap.size) (hn : h.l.length ≤ 1000) (x : Bool) (ty : TypeId) :
    ∃ v1 w1, (Builtin.append_ #[23, 23] ty #[b, .slice (some ⟨w.heap.size, 0, none⟩) 1 1]).run Try.prog (w.alloc (.cells #[.bool x] 4)) = .ok v1 w1 ∧ OwnX w1 lo w1.heap.size a v1 c u ⟨h.f, h.l ++ [x], h.r⟩ zs ∧ (∀ g cs, Row w g 30 cs → Row w1 g 30 cs) ∧ (∀ B w0, B ≤ lo → Below B w0 w → Below B w0 w1) ∧ w.heap.size ≤ w1.heap.size ∧ ∃ p q, v1 = .slice p (h.l.length + 1) q := by
  obtain ⟨i0, hi0, hz0, hz1, hz2⟩ := info_parts info_boolz
  obtain ⟨us, hf0⟩ := k
  have hf := Fam.below hf0 (below1 w (.cells #[.bool x] 4))
  have ho : OwnBs (w.alloc (.cells #[.bool x] 4)) lo b h.l := by
    have := hf.own 1 (by omega)
    rw [upd_other _ _ (by omega), upd_other _ _ (by omega)] at this
    simp only [tyH, vH, cH, List.length_map] at this
    exact this
  obtain ⟨v', W', hr, h1, h2, h3⟩ := run_appOwn (P := Try.prog) (w.alloc (.cells #[.bool x] 4)) lo 23 ty 4 i0 (.bool false) 1 Try.underlying23 hi0 hz0 hz1 hz2 rfl b h.l.length _ ho _ _ (src_bool w x) (by simp; unfold maxLen; omega) (by simp; omega) (by simp; omega)
  have h1' : OwnBs W' lo v' (h.l ++ [x]) := by unfold OwnBs; rw [List.map_append, List.length_append]; exact h1
  have hsz : (w.alloc (.cells #[.bool x] 4)).heap.size = w.heap.size + 1 := World.size_alloc _ _
  have h2s := h2.size
  have k2 := Fam.turn hf (k := 1) (by omega) (u := v') (ds := (h.l ++ [x]).map Value.bool) (hi' := W'.heap.size) (by rw [upd_other _ _ (by omega)]; exact h2) (by simp only [tyH, List.length_map]; exact h1') (by omega) (fun g hg => by
    rw [upd_other _ _ (by omega)]
    rcases h3 with h3 | h3
    · exact .inr (show b.ownBlock = some g from h3.symm.trans hg)
    · rw [hg] at h3; cases h3; exact .inl ⟨by omega, (owns_lt h1' hg).2⟩)
  refine ⟨v', W', hr, ⟨us, k2.congr (fun j hj => ?_) fun j hj => ?_⟩, fun g cs hr => row_grown ho (by decide) h2 (Row.alloc hr _), fun B w0 hB hb => (hb.alloc (by omega) _).grown h2 (by omega) (fun g hg => by have := (owns_lt ho hg).1; omega), by omega, ?_⟩
  · by_cases e1 : j = 1
    · subst e1; rw [upd_same, upd_other _ _ (by omega)]; rfl
    · rw [upd_other _ _ e1]
      by_cases e2 : j = h.f.length + 3
      · subst e2; rw [upd_same, upd_same]
      · rw [upd_other _ _ e2, upd_other _ _ e2]
        match j with
        | 0 => rfl
        | 1 => exact absurd rfl e1
        | 2 => rfl
        | j + 3 => rfl
  · by_cases e1 : j = 1
    · subst e1; rw [upd_same, upd_other _ _ (by omega)]; rfl
    · rw [upd_other _ _ e1]
      by_cases e2 : j = h.f.length + 3
      · subst e2; rw [upd_same, upd_same]
      · rw [upd_other _ _ e2, upd_other _ _ e2]
        match j with
        | 0 => rfl
        | 1 => exact absurd rfl e1
        | 2 => rfl
        | j + 3 => rfl
  · rcases h1.2 with ⟨_, h0⟩ | ⟨g, cap, cur, hv, _⟩
    · simp at h0
    · exact ⟨_, _, hv⟩
theorem OwnX.rows (k : OwnX w lo hi a b c u h zs) (hl : lo ≤ hi) (hs : hi ≤ w.heap.size) (hn : h.f.length ≤ 1000) (hu1 : u.oneCell' = true) (ty : TypeId) :
    ∃ v1 w1, (Builtin.append_ #[22, 22] ty #[a, .slice (some ⟨w.heap.size, 0, none⟩) 1 1]).run Try.prog (w.alloc (.cells #[u] 24)) = .ok v1 w1 ∧ OwnH w1 lo w1.heap.size v1 b c ⟨h.f ++ [zs], h.l, h.r⟩ ∧ (∀ g cs, Row w g 30 cs → Row w1 g 30 cs) ∧ (∀ B w0, B ≤ lo → Below B w0 w → Below B w0 w1) ∧ w.heap.size ≤ w1.heap.size := by
  obtain ⟨i0, hi0, hz0, hz1, hz2⟩ := info_parts info_ints
  obtain ⟨us, hf0⟩ := k
  have hf := Fam.below hf0 (below1 w (.cells #[u] 24))
  have ho : (w.alloc (.cells #[u] 24)).ownsRow lo 24 1 a h.f.length ((List.range h.f.length).map us) := by
    have := hf.own 0 (by omega)
    rw [upd_other _ _ (by omega), upd_other _ _ (by omega)] at this
    simp only [tyH, vH, cH, List.length_map, List.length_range] at this
    exact this
  obtain ⟨v', W', hr, h1, h2, h3⟩ := run_appOwn (P := Try.prog) (w.alloc (.cells #[u] 24)) lo 22 ty 24 i0 (.slice none 0 0) 24 Try.underlying22 hi0 hz0 hz1 hz2 rfl a h.f.length _ ho _ [u] (src_one w _ hu1) (by simp; unfold maxLen; omega) (by simp; omega) (by simp; omega)
  have h1' : W'.ownsRow lo 24 1 v' (h.f.length + 1) ((List.range h.f.length).map us ++ [u]) := h1
  have hsz : (w.alloc (.cells #[u] 24)).heap.size = w.heap.size + 1 := World.size_alloc _ _
  have h2s := h2.size
  have k2 := Fam.turn hf (k := 0) (by omega) (u := v') (ds := (List.range h.f.length).map us ++ [u]) (hi' := W'.heap.size) (by rw [upd_other _ _ (by omega)]; exact h2) (by simp only [tyH, List.length_append, List.length_map, List.length_range, List.length_singleton]; exact h1') (by omega) (fun g hg => by
    rw [upd_other _ _ (by omega)]
    rcases h3 with h3 | h3
    · exact .inr (show a.ownBlock = some g from h3.symm.trans hg)
    · rw [hg] at h3; cases h3; exact .inl ⟨by omega, (owns_lt h1' hg).2⟩)
  refine ⟨v', W', hr, ⟨upd us h.f.length u, ?_⟩, fun g cs hr => row_grown ho (by decide) h2 (Row.alloc hr _), fun B w0 hB hb => (hb.alloc (by omega) _).grown h2 (by omega) (fun g hg => by have := (owns_lt ho hg).1; omega), by omega⟩
  unfold FamH
  have e : (h.f ++ [zs]).length + 3 = h.f.length + 3 + 1 := by simp
  rw [e]
  refine k2.congr (fun j hj => ?_) fun j hj => ?_
  · match j with
    | 0 => rw [upd_same]; rfl
    | 1 => rw [upd_other _ _ (by omega), upd_other _ _ (by omega)]; rfl
    | 2 => rw [upd_other _ _ (by omega), upd_other _ _ (by omega)]; rfl
    | j + 3 =>
      rw [upd_other _ _ (by omega)]
      by_cases e : j = h.f.length
      · subst e; rw [upd_same]; simp only [vH]; rw [upd_same]
      · rw [upd_other _ _ (by omega)]; simp only [vH]; rw [upd_other _ _ e]
  · match j with
    | 0 =>
      rw [upd_same]; simp only [cH, List.length_append, List.length_singleton]
      rw [List.range_succ, List.map_append]
      have e1 : (List.range h.f.length).map (upd us h.f.length u) = (List.range h.f.length).map us := List.map_congr_left fun x hx => by
        have : x < h.f.length := by simpa using hx
        rw [upd_other _ _ (by omega)]
      rw [e1, List.map_singleton, upd_same]
    | 1 => rw [upd_other _ _ (by omega), upd_other _ _ (by omega)]; rfl
    | 2 => rw [upd_other _ _ (by omega), upd_other _ _ (by omega)]; rfl
    | j + 3 =>
      rw [upd_other _ _ (by omega)]
      by_cases e : j = h.f.length
      · subst e; rw [upd_same]; simp [cH]
      · rw [upd_other _ _ (by omega)]; simp only [cH]
        have : j < h.f.length := by omega
        simp [List.getD, List.getElem?_append_left this]
end
end Go.Proofs.Ytkkigoamphkalaa
namespace Go.Proofs.Ytkkigoamphkalaa.Ph

/-- Every colour is White (0), Grey (1) or Black (2). -/
def Col (cs : List Int) : Prop := ∀ i, 0 ≤ cs.getD i 0 ∧ cs.getD i 0 ≤ 2
def colsB (cs : List Int) : Bool := decide (cs.length ≤ 12) && cs.all (inB 0 2)
theorem getD_memI {zs : List Int} {i : Nat} (h : i < zs.length) : zs.getD i 0 ∈ zs := by
  have e : zs.getD i 0 = zs[i] := by simp [List.getD, List.getElem?_eq_getElem h]
  rw [e]; exact List.getElem_mem h
theorem getD_outI {zs : List Int} {i : Nat} (h : ¬ i < zs.length) : zs.getD i 0 = 0 := by simp [List.getD, List.getElem?_eq_none (Nat.le_of_not_lt h)]
theorem colsB_iff {cs : List Int} : colsB cs = true ↔ cs.length ≤ 12 ∧ Col cs := by
  unfold colsB
  rw [Bool.and_eq_true, decide_eq_true_eq, List.all_eq_true]
  refine and_congr_right fun _ => ⟨fun h i => ?_, fun h z hz => ?_⟩
  · by_cases e : i < cs.length
    · have := h _ (getD_memI e)
      simp only [inB, Bool.and_eq_true, decide_eq_true_eq] at this
      exact this
    · rw [getD_outI e]; omega
  · obtain ⟨i, hi, rfl⟩ := List.getElem_of_mem hz
    have := h i
    have e : cs.getD i 0 = cs[i] := by simp [List.getD, List.getElem?_eq_getElem hi]
    rw [e] at this
    simp only [inB, Bool.and_eq_true, decide_eq_true_eq]
    exact this
theorem getD_setI {zs : List Int} {i j : Nat} {x : Int} (hi : i < zs.length) : (zs.set i x).getD j 0 = if j = i then x else zs.getD j 0 := by
  by_cases e : j = i
  · subst e; simp [List.getD, hi]
  · rw [if_neg e]
    simp only [List.getD]
    rw [List.getElem?_set_ne (Ne.symm e)]
theorem set_outI {zs : List Int} {i : Nat} {x : Int} (hi : ¬ i < zs.length) : zs.set i x = zs := List.set_eq_of_length_le (by omega)
theorem set_getDI {zs : List Int} {i : Nat} : zs.set i (zs.getD i 0) = zs := by
  by_cases hi : i < zs.length
  · have e : zs.getD i 0 = zs[i] := by simp [List.getD, List.getElem?_eq_getElem hi]
    rw [e]; exact List.set_getElem_self hi
  · exact set_outI hi
theorem Col.set {cs : List Int} (h : Col cs) (k : Nat) {x : Int} (h0 : 0 ≤ x) (h2 : x ≤ 2) : Col (cs.set k x) := by
  intro i
  by_cases hk : k < cs.length
  · rw [getD_setI hk]
    by_cases e : i = k
    · rw [if_pos e]; exact ⟨h0, h2⟩
    · rw [if_neg e]; exact h i
  · rw [set_outI hk]; exact h i

/-- The object z shaded. -/
def shade (cs : List Int) (z : Int) : List Int := if 0 ≤ z ∧ cs.getD z.toNat 0 = 0 then cs.set z.toNat 1 else cs
theorem shade_len (cs : List Int) (z : Int) : (shade cs z).length = cs.length := by unfold shade; split <;> simp
theorem shade_neg {cs : List Int} {z : Int} (h : z < 0) : shade cs z = cs := by unfold shade; rw [if_neg (by omega)]
theorem Col.shade {cs : List Int} (h : Col cs) (z : Int) : Col (shade cs z) := by
  unfold Ph.shade
  split
  · exact h.set _ (by omega) (by omega)
  · exact h
theorem shade_nat (cs : List Int) (k : Nat) : shade cs (k : Int) = if cs.getD k 0 = 0 then cs.set k 1 else cs := by
  unfold shade
  simp
theorem shade_max {cs : List Int} {k : Nat} (hc : Col cs) : cs.set k (max (cs.getD k 0) 1) = shade cs (k : Int) := by
  rw [shade_nat]
  by_cases e : cs.getD k 0 = 0
  · rw [if_pos e, e]; rfl
  · rw [if_neg e]
    have := hc k
    rw [Int.max_eq_left (by omega)]
    exact set_getDI
/-- The objects zs shaded, one after another. -/
def shades (cs zs : List Int) : List Int := zs.foldl shade cs
theorem shades_nil (cs : List Int) : shades cs [] = cs := rfl
theorem shades_cons (cs zs : List Int) (z : Int) : shades cs (z :: zs) = shades (shade cs z) zs := rfl
theorem shades_take_succ {cs zs : List Int} {k : Nat} (h : k < zs.length) : shades cs (zs.take (k + 1)) = shade (shades cs (zs.take k)) (zs.getD k 0) := by
  have e : zs.getD k 0 = zs[k] := by simp [List.getD, List.getElem?_eq_getElem h]
  unfold shades
  rw [List.take_succ_eq_append_getElem h, List.foldl_append, e]; rfl
theorem shades_len (zs : List Int) : ∀ cs : List Int, (shades cs zs).length = cs.length := by
  induction zs with
  | nil => exact fun cs => rfl
  | cons z zs ih => exact fun cs => by rw [shades_cons, ih, shade_len]
theorem Col.shades {zs : List Int} : ∀ {cs : List Int}, Col cs → Col (shades cs zs) := by
  induction zs with
  | nil => exact fun h => h
  | cons z zs ih => exact fun h => ih (h.shade z)
theorem Col.rep (n : Nat) : Col (List.replicate n 0) := by
  intro i
  by_cases h : i < n
  · have : (List.replicate n (0 : Int)).getD i 0 = 0 := by simp [List.getD, h]
    rw [this]; omega
  · rw [getD_outI (by simpa using h)]; omega
/-- A Grey object scanned: it is Black, and what its fields name is shaded. -/
def scan (cs zs : List Int) (k : Nat) : List Int := shades (cs.set k 2) zs
theorem shade_set {cs : List Int} {k : Nat} (h0 : cs.getD k 0 ≠ 0) (z : Int) : (shade cs z).set k 2 = shade (cs.set k 2) z := by
  have hk : k < cs.length := by
    by_cases e : k < cs.length
    · exact e
    · exact absurd (getD_outI e) h0
  unfold shade
  by_cases hz : 0 ≤ z
  · by_cases e : z.toNat = k
    · rw [e, getD_setI hk, if_pos rfl, if_neg (fun h => h0 h.2), if_neg (by omega)]
    · rw [getD_setI hk, if_neg e]
      by_cases hc : cs.getD z.toNat 0 = 0
      · rw [if_pos ⟨hz, hc⟩, if_pos ⟨hz, hc⟩, List.set_comm _ _ (Ne.symm e)]
      · rw [if_neg (fun h => hc h.2), if_neg (fun h => hc h.2)]
  · rw [if_neg (fun h => hz h.1), if_neg (fun h => hz h.1)]
theorem shade_keeps {cs : List Int} {k : Nat} (h0 : cs.getD k 0 ≠ 0) (z : Int) : (shade cs z).getD k 0 = cs.getD k 0 := by
  unfold shade
  split
  · next h =>
    by_cases e : z.toNat < cs.length
    · rw [getD_setI e, if_neg (fun hh => h0 (by rw [hh]; exact h.2))]
    · rw [set_outI e]
  · rfl
theorem shades_keeps {k : Nat} (zs : List Int) : ∀ {cs : List Int}, cs.getD k 0 ≠ 0 → (shades cs zs).getD k 0 = cs.getD k 0 := by
  induction zs with
  | nil => exact fun _ => rfl
  | cons z zs ih => exact fun h => by rw [shades_cons, ih (by rw [shade_keeps h]; exact h), shade_keeps h]
theorem scan_eq {k : Nat} (zs : List Int) : ∀ {cs : List Int}, cs.getD k 0 ≠ 0 → (shades cs zs).set k 2 = scan cs zs k := by
  induction zs with
  | nil => exact fun _ => rfl
  | cons z zs ih =>
    intro cs h
    rw [shades_cons, ih (by rw [shade_keeps h]; exact h)]
    unfold scan
    rw [shades_cons, shade_set h]
theorem scan_len (cs zs : List Int) (k : Nat) : (scan cs zs k).length = cs.length := by unfold scan; rw [shades_len]; simp
theorem Col.scan {cs : List Int} (h : Col cs) (zs : List Int) (k : Nat) : Col (scan cs zs k) := (h.set k (by omega) (by omega)).shades

/-- The objects of the colour c, in order. -/
def ofTo (cs : List Int) (c : Int) (n : Nat) : List Int := ((List.range n).filter fun i => decide (cs.getD i 0 = c)).map fun i : Nat => (i : Int)
def ofC (cs : List Int) (c : Int) : List Int := ofTo cs c cs.length
theorem ofTo_zero (cs : List Int) (c : Int) : ofTo cs c 0 = [] := rfl
theorem ofTo_succ_yes {cs : List Int} {c : Int} {n : Nat} (h : cs.getD n 0 = c) : ofTo cs c (n + 1) = ofTo cs c n ++ [(n : Int)] := by
  unfold ofTo
  rw [List.range_succ, List.filter_append, List.map_append, List.filter_cons_of_pos (by simpa using h)]; rfl
theorem ofTo_succ_no {cs : List Int} {c : Int} {n : Nat} (h : ¬ cs.getD n 0 = c) : ofTo cs c (n + 1) = ofTo cs c n := by
  unfold ofTo
  rw [List.range_succ, List.filter_append, List.map_append, List.filter_cons_of_neg (by simpa using h)]; simp
theorem ofTo_len (cs : List Int) (c : Int) (n : Nat) : (ofTo cs c n).length ≤ n := by
  unfold ofTo
  rw [List.length_map]
  refine Nat.le_trans (List.length_filter_le _ _) ?_
  simp
theorem mem_ofC {cs : List Int} {c z : Int} : z ∈ ofC cs c ↔ ∃ i, i < cs.length ∧ cs.getD i 0 = c ∧ z = i := by
  unfold ofC ofTo
  simp only [List.mem_map, List.mem_filter, List.mem_range, decide_eq_true_eq]
  constructor
  · rintro ⟨i, ⟨h1, h2⟩, rfl⟩; exact ⟨i, h1, h2, rfl⟩
  · rintro ⟨i, h1, h2, rfl⟩; exact ⟨i, ⟨h1, h2⟩, rfl⟩
/-- No field of a Black object names a White one. -/
def soundB (h : H) (cs : List Int) : Bool := (List.range h.f.length).all fun k => (h.f.getD k []).all fun x => !(decide (0 ≤ x) && decide (cs.getD k 0 = 2) && decide (cs.getD x.toNat 0 = 0))
def bothB (h : H) (cs : List Int) : Bool := good h && decide (cs.length = h.l.length) && colsB cs
theorem bothB_iff {h : H} {cs : List Int} : bothB h cs = true ↔ Good h ∧ cs.length = h.f.length ∧ Col cs := by
  unfold bothB
  rw [Bool.and_eq_true, Bool.and_eq_true, decide_eq_true_eq, good_iff, colsB_iff]
  constructor
  · rintro ⟨⟨g, e⟩, _, c⟩; exact ⟨g, by rw [e, g.ll], c⟩
  · rintro ⟨g, e, c⟩; exact ⟨⟨g, by rw [e, g.ll]⟩, by rw [e]; exact g.n, c⟩
theorem bothB_eq (h : H) (cs : List Int) : bothB h cs = (good h && colsB cs && decide (cs.length = h.f.length)) := by
  rw [Bool.eq_iff_iff, bothB_iff, Bool.and_eq_true, Bool.and_eq_true, decide_eq_true_eq, good_iff, colsB_iff]
  constructor
  · rintro ⟨g, e, c⟩; exact ⟨⟨g, by rw [e]; exact g.n, c⟩, e⟩
  · rintro ⟨⟨g, _, c⟩, e⟩; exact ⟨g, e, c⟩
def startC (h : H) : List Int := shades (List.replicate h.f.length 0) h.r
def startR (h : H) : List Int := if good h = true then startC h else []
def soundR (h : H) (cs : List Int) : Bool := bothB h cs && soundB h cs
end Go.Proofs.Ytkkigoamphkalaa.Ph
namespace Go.Proofs.Ytkkigoamphkalaa.Ph
theorem startR_len (h : H) : (startR h).length ≤ 1000 := by
  unfold startR
  split
  · next hg => have := (good_iff.1 hg).n; unfold startC; rw [shades_len, List.length_replicate]; omega
  · simp
end Go.Proofs.Ytkkigoamphkalaa.Ph
namespace Go.Proofs.Ytkkigoamphkalaa
open Go.RowKit Ph
/-- A list of ints of its own, and a bool. -/
def EndI (zs : List Int) (ok : Bool) (w : World) (e : Ending) (w' : World) : Prop := ∃ v, e = .returned (.tuple #[v, .bool ok]) ∧ OwnH w' w.heap.size w'.heap.size (.slice none 0 0) (.slice none 0 0) v ⟨[], [], zs⟩ ∧ Below w.heap.size w w'
def EndII (zs : List Int) (n : Int) (ok : Bool) (w : World) (e : Ending) (w' : World) : Prop := ∃ v, e = .returned (.tuple #[v, .int .i64 n, .bool ok]) ∧ OwnH w' w.heap.size w'.heap.size (.slice none 0 0) (.slice none 0 0) v ⟨[], [], zs⟩ ∧ Below w.heap.size w w'
theorem endI_no {w w' : World} {zs : List Int} {ok : Bool} (hb : Below w.heap.size w w') (h1 : zs = []) (h2 : ok = false) : EndI zs ok w (.returned (.tuple #[.slice none 0 0, .bool false])) w' := by
  subst h1; subst h2
  exact ⟨_, rfl, OwnH.nil w' _ _, hb⟩
theorem endI_yes {w w' : World} {zs zs' : List Int} {ok : Bool} {v : Value} {B : Nat} (hb : Below w.heap.size w w') (ho : Own w' B v zs') (hB : w.heap.size ≤ B) (h1 : zs = zs') (h2 : ok = true) : EndI zs ok w (.returned (.tuple #[v, .bool true])) w' := by
  subst h1; subst h2
  exact ⟨_, rfl, OwnH.ofInts (ho.mono hB) hb, hb⟩
theorem endII_no {w w' : World} {zs : List Int} {n : Int} {ok : Bool} (hb : Below w.heap.size w w') (h1 : zs = []) (h0 : n = 0) (h2 : ok = false) : EndII zs n ok w (.returned (.tuple #[.slice none 0 0, .int .i64 0, .bool false])) w' := by
  subst h1; subst h2; subst h0
  exact ⟨_, rfl, OwnH.nil w' _ _, hb⟩
theorem endII_yes {w w' : World} {zs zs' : List Int} {n n' : Int} {ok : Bool} {v : Value} {B : Nat} (hb : Below w.heap.size w w') (ho : Own w' B v zs') (hB : w.heap.size ≤ B) (h1 : zs = zs') (h0 : n = n') (h2 : ok = true) : EndII zs n ok w (.returned (.tuple #[v, .int .i64 n', .bool true])) w' := by
  subst h1; subst h2; subst h0
  exact ⟨_, rfl, OwnH.ofInts (ho.mono hB) hb, hb⟩
end Go.Proofs.Ytkkigoamphkalaa
namespace Go.Proofs.Ytkkigoamphkalaa
open Go.RowKit Ph

theorem src_int (W : World) (x : Int) : SrcAt (W.alloc (.cells #[.int .i64 x] 3)) (.slice (some ⟨W.heap.size, 0, none⟩) 1 1) ([x].map (Value.int .i64)) :=
  ⟨_, 1, rfl, fun u hu => by simp at hu; rw [hu]; rfl, fun _ => ⟨W.heap.size, 0, rfl, fun j hj => by simp at hj; subst hj; exact Row.cell (Row.new W 3 #[.int .i64 x]) 0⟩⟩
theorem inB_iff {lo hi z : Int} : inB lo hi z = true ↔ lo ≤ z ∧ z ≤ hi := by unfold inB; rw [Bool.and_eq_true, decide_eq_true_eq, decide_eq_true_eq]
theorem inB_no {lo hi z : Int} (h : ¬ (lo ≤ z ∧ z ≤ hi)) : inB lo hi z = false := by
  cases hq : inB lo hi z with
  | false => rfl
  | true => exact absurd (inB_iff.1 hq) h
set_option maxHeartbeats 1600000 in
theorem c_areWithin (v : Value) (zs : List Int) (lo hi : Int) (w : World) (hz : IntsAt w v zs) (hm : zs.length ≤ 9223372036854775806) : Calls Try.prog 170 #[v, .int .i64 lo, .int .i64 hi] w fun e w' => e = .returned (.bool (zs.all (inB lo hi))) ∧ w = w' := by
  obtain ⟨va, vc, rfl, hA⟩ := hz
  have HA := Lib.hid hA
  clear hA
  generalize hn : zs.length = n at *
  have HN := Lib.hid hn; clear hn
  go_enter Try.func170, Try.ntmps170
  go_wp2
  go_loop [11] (fun i => ∃ k : Nat, k ≤ n ∧ i = .int .i64 k ∧ Hid ((zs.take k).all (inB lo hi) = true)) (fun i => n - (intOf i).toNat)
  case atStart => exact ⟨0, Nat.zero_le _, rfl, by simp [Hid]⟩
  case round =>
    obtain ⟨k, hk, rfl, ht⟩ := hrel
    by_cases hlt : k < n
    · obtain ⟨g, off, rfl, hc⟩ := HA.out (by omega)
      have q := hc k hlt
      have i1 : (k : Int) < (n : Int) := by omega
      have hs := inAll_take_succ (lo := lo) (hi := hi) (zs := zs) (k := k) (by rw [HN.out]; exact hlt)
      have hf := inAll_false (lo := lo) (hi := hi) (zs := zs) (k := k) (by rw [HN.out]; exact hlt)
      have HS := Lib.hid hs; have HF := Lib.hid hf
      clear hc hs hf
      generalize zs.getD k 0 = z at *
      by_cases h1 : z < lo
      · have HE : Hid (zs.all (inB lo hi) = false) := HF.out (inB_no (by omega))
        clear HS HF
        go_wp2
        go_ret
        exact ⟨r_b HE.out.symm, rfl⟩
      · by_cases h2 : hi < z
        · have HE : Hid (zs.all (inB lo hi) = false) := HF.out (inB_no (by omega))
          clear HS HF
          go_wp2
          go_ret
          exact ⟨r_b HE.out.symm, rfl⟩
        · have HE : Hid ((zs.take (k + 1)).all (inB lo hi) = true) := by unfold Hid; rw [HS.out, ht.out, inB_iff.2 ⟨by omega, by omega⟩]; rfl
          clear HS HF
          go_wp2
          go_round
          case rel => exact ⟨k + 1, by omega, by go_num, HE.out⟩
          case measure => simp [intOf]; omega
    · have HE : Hid (zs.all (inB lo hi) = true) := by
        unfold Hid
        have := ht.out
        rwa [List.take_of_length_le (by rw [HN.out]; omega)] at this
      go_wp2
      go_ret
      exact ⟨r_b HE.out.symm, rfl⟩
theorem c_areColours (v : Value) (zs : List Int) (w : World) (hz : IntsAt w v zs) : Calls Try.prog 146 #[v] w fun e w' => e = .returned (.bool (colsB zs)) ∧ w = w' := by
  have HZ := Lib.hid hz
  obtain ⟨va, vc, rfl⟩ := hz.shape
  clear hz
  have hE : colsB zs = (decide (zs.length ≤ 12) && zs.all (inB 0 2)) := rfl
  have HC : Hid (zs.length ≤ 12 → Calls Try.prog 170 #[.slice va zs.length vc, .int .i64 0, .int .i64 2] w fun e w' => e = .returned (.bool (zs.all (inB 0 2))) ∧ w = w') := fun h => c_areWithin _ zs 0 2 w HZ.out (by omega)
  generalize zs.all (inB 0 2) = x at *
  generalize colsB zs = y at *
  generalize zs.length = n at *
  by_cases h : n ≤ 12
  · have hn : (n : Int) ≤ 12 := by omega
    have HE : Hid (y = x) := by unfold Hid; rw [hE, decide_eq_true h]; simp
    clear hE
    go_enter Try.func146, Try.ntmps146
    go_wp2_with (go_at_call 170; refine (HC.out h).mono ?_; rintro e w1 ⟨rfl, rfl⟩)
    go_ret
    exact ⟨r_b HE.out.symm, rfl⟩
  · have hn : ¬ (n : Int) ≤ 12 := by omega
    have HE : Hid (y = false) := by unfold Hid; rw [hE, decide_eq_false h]; simp
    clear hE
    go_enter Try.func146, Try.ntmps146
    go_wp2
    go_ret
    exact ⟨r_b HE.out.symm, rfl⟩
set_option maxHeartbeats 1600000 in
theorem c_thingsOf (v : Value) (cs : List Int) (c : Int) (w : World) (hz : IntsAt w v cs) (hm : cs.length ≤ 12) : Calls Try.prog 139 #[v, .int .i64 c] w fun e w' => ∃ v', e = .returned v' ∧ Own w' w.heap.size v' (ofC cs c) ∧ Below w.heap.size w w' := by
  obtain ⟨i0, hi, hz0, hz1, hz2⟩ := info_parts info_int
  have HZ := Lib.hid hz
  obtain ⟨va, vc, rfl⟩ := hz.shape
  clear hz
  have HO : Hid (ofC cs c = ofTo cs c cs.length) := rfl
  generalize ofC cs c = out at *
  generalize hn : cs.length = n at *
  have HN := Lib.hid hn; clear hn
  go_enter Try.func139, Try.ntmps139
  go_wp2
  go_loopw [5, 9] (fun t i wr => ∃ k : Nat, k ≤ n ∧ i = .int .i64 k ∧ Hid (Own wr w.heap.size t (ofTo cs c k)) ∧ Hid (Below w.heap.size w wr)) (fun _ i _ => n - (intOf i).toNat)
  case atStart => exact ⟨0, Nat.zero_le _, rfl, by rw [ofTo_zero]; exact Own.nil _ _, Below.refl _ _⟩
  case round =>
    obtain ⟨k, hk, rfl, ho, hb⟩ := hrel
    by_cases hlt : k < n
    · obtain ⟨g, off, rfl, hc⟩ := (HZ.out.below hb.out).at' (by omega)
      have q := hc k hlt
      have i1 : (k : Int) < (n : Int) := by omega
      have i2 : (0 : Int) ≤ (k : Int) := by omega
      clear hc
      by_cases hx : cs.getD k 0 = c
      · have HE := Lib.hid (ofTo_succ_yes hx)
        have HL := Lib.hid (ofTo_len cs c k)
        rw [hx] at q
        have hcc : (c == c) = true := by simp
        have HS := Lib.hid (src_int wr (k : Int))
        have HB1 := Lib.hid (hb.out.alloc hb.out.size (.cells #[.int .i64 (k : Int)] 3))
        have HO1 := Lib.hid (ho.out.below (below1 wr (.cells #[.int .i64 (k : Int)] 3)))
        clear hx
        go_wp2_with (at_builtin; refine wl_appOwn _ rfl _ _ 24 rfl w.heap.size 3 i0 (.int .i64 0) 8 Try.underlying24 hi hz0 hz1 hz2 rfl u5 _ _ rfl HO1.out _ _ rfl HS.out (by have := HL.out; simp; unfold maxLen; omega) (by have := HL.out; simp; omega) HB1.out.size ?_; intro v1 w1 ho1 hg1 hbl; have O1 : Hid (Own w1 w.heap.size v1 (ofTo cs c k ++ [(k : Int)])) := by { unfold Hid Own; rw [List.map_append, List.length_append]; exact ho1 }; have B1 := Lib.hid (HB1.out.grown hg1 HB1.out.size (fun g' hg' => (owns_lt HO1.out hg').1)); clear ho1 hg1 hbl)
        go_roundw
        case rel => exact ⟨k + 1, by omega, by go_num, by rw [HE.out]; exact O1, B1⟩
        case measure => simp [intOf]; omega
      · have HE := Lib.hid (ofTo_succ_no hx)
        generalize cs.getD k 0 = z at *
        have hcc : (z == c) = false := by simpa using hx
        clear hx
        go_wp2
        go_roundw
        case rel => exact ⟨k + 1, by omega, by go_num, by rw [HE.out]; exact ho, hb⟩
        case measure => simp [intOf]; omega
    · have hkn : Hid (k = n) := by unfold Hid; omega
      go_wp2
      go_ret
      exact ⟨_, rfl, by rw [HO.out, ← hkn.out]; exact ho.out, hb.out⟩
end Go.Proofs.Ytkkigoamphkalaa
namespace Go.Proofs.Ytkkigoamphkalaa
open Go.RowKit Ph

theorem s_l6Colours (v : Value) (zs : List Int) (w : World) (hz : IntsAt w v zs) : Calls Try.prog 144 #[v] w fun e w' => e = .returned (.bool (colsB zs)) ∧ w = w' := by
  have HZ := Lib.hid hz
  obtain ⟨va, vc, rfl⟩ := hz.shape
  clear hz
  have hE : colsB zs = (decide (zs.length ≤ 12) && zs.all (inB 0 2)) := rfl
  have HC : Hid (zs.length ≤ 12 → Calls Try.prog 87 #[.slice va zs.length vc, .int .i64 0, .int .i64 2] w fun e w' => e = .returned (.bool (zs.all (inB 0 2))) ∧ w = w') := fun h => s_l1All _ zs 0 2 w HZ.out (by omega)
  generalize zs.all (inB 0 2) = x at *
  generalize colsB zs = y at *
  generalize zs.length = n at *
  by_cases h : n ≤ 12
  · have hn : (n : Int) ≤ 12 := by omega
    have HE : Hid (y = x) := by unfold Hid; rw [hE, decide_eq_true h]; simp
    clear hE
    go_enter Try.func144, Try.ntmps144
    go_wp2_with (go_at_call 87; refine (HC.out h).mono ?_; rintro e w1 ⟨rfl, rfl⟩)
    go_ret
    exact ⟨r_b HE.out.symm, rfl⟩
  · have hn : ¬ (n : Int) ≤ 12 := by omega
    have HE : Hid (y = false) := by unfold Hid; rw [hE, decide_eq_false h]; simp
    clear hE
    go_enter Try.func144, Try.ntmps144
    go_wp2
    go_ret
    exact ⟨r_b HE.out.symm, rfl⟩
set_option maxHeartbeats 1600000 in
theorem s_l6Of (v : Value) (cs : List Int) (c : Int) (w : World) (hz : IntsAt w v cs) (hm : cs.length ≤ 12) : Calls Try.prog 137 #[v, .int .i64 c] w fun e w' => ∃ v', e = .returned v' ∧ Own w' w.heap.size v' (ofC cs c) ∧ Below w.heap.size w w' := by
  obtain ⟨i0, hi, hz0, hz1, hz2⟩ := info_parts info_int
  have HZ := Lib.hid hz
  obtain ⟨va, vc, rfl⟩ := hz.shape
  clear hz
  have HO : Hid (ofC cs c = ofTo cs c cs.length) := rfl
  generalize ofC cs c = out at *
  generalize hn : cs.length = n at *
  have HN := Lib.hid hn; clear hn
  go_enter Try.func137, Try.ntmps137
  go_wp2
  go_loopw [5, 10] (fun t i wr => ∃ k : Nat, k ≤ n ∧ i = .int .i64 k ∧ Hid (Own wr w.heap.size t (ofTo cs c k)) ∧ Hid (Below w.heap.size w wr)) (fun _ i _ => n - (intOf i).toNat)
  case atStart => exact ⟨0, Nat.zero_le _, rfl, by rw [ofTo_zero]; exact Own.nil _ _, Below.refl _ _⟩
  case round =>
    obtain ⟨k, hk, rfl, ho, hb⟩ := hrel
    by_cases hlt : k < n
    · obtain ⟨g, off, rfl, hc⟩ := (HZ.out.below hb.out).at' (by omega)
      have q := hc k hlt
      have i1 : (k : Int) < (n : Int) := by omega
      have i2 : (0 : Int) ≤ (k : Int) := by omega
      clear hc
      by_cases hx : cs.getD k 0 = c
      · have HE := Lib.hid (ofTo_succ_yes hx)
        have HL := Lib.hid (ofTo_len cs c k)
        rw [hx] at q
        have hcc : (c == c) = true := by simp
        have HS := Lib.hid (src_int wr (k : Int))
        have HB1 := Lib.hid (hb.out.alloc hb.out.size (.cells #[.int .i64 (k : Int)] 3))
        have HO1 := Lib.hid (ho.out.below (below1 wr (.cells #[.int .i64 (k : Int)] 3)))
        clear hx
        go_wp2_with (at_builtin; refine wl_appOwn _ rfl _ _ 24 rfl w.heap.size 3 i0 (.int .i64 0) 8 Try.underlying24 hi hz0 hz1 hz2 rfl u5 _ _ rfl HO1.out _ _ rfl HS.out (by have := HL.out; simp; unfold maxLen; omega) (by have := HL.out; simp; omega) HB1.out.size ?_; intro v1 w1 ho1 hg1 hbl; have O1 : Hid (Own w1 w.heap.size v1 (ofTo cs c k ++ [(k : Int)])) := by { unfold Hid Own; rw [List.map_append, List.length_append]; exact ho1 }; have B1 := Lib.hid (HB1.out.grown hg1 HB1.out.size (fun g' hg' => (owns_lt HO1.out hg').1)); clear ho1 hg1 hbl)
        go_roundw
        case rel => exact ⟨k + 1, by omega, by go_num, by rw [HE.out]; exact O1, B1⟩
        case measure => simp [intOf]; omega
      · have HE := Lib.hid (ofTo_succ_no hx)
        generalize cs.getD k 0 = z at *
        have hcc : (z == c) = false := by simpa using hx
        clear hx
        go_wp2
        go_roundw
        case rel => exact ⟨k + 1, by omega, by go_num, by rw [HE.out]; exact ho, hb⟩
        case measure => simp [intOf]; omega
    · have hkn : Hid (k = n) := by unfold Hid; omega
      go_wp2
      go_ret
      exact ⟨_, rfl, by rw [HO.out, ← hkn.out]; exact ho.out, hb.out⟩
end Go.Proofs.Ytkkigoamphkalaa
namespace Go.Proofs.Ytkkigoamphkalaa.Ph

theorem shade_get (cs : List Int) (z : Int) (i : Nat) : (shade cs z).getD i 0 = if cs.getD i 0 = 0 ∧ i < cs.length ∧ z = i then 1 else cs.getD i 0 := by
  unfold shade
  by_cases h : 0 ≤ z ∧ cs.getD z.toNat 0 = 0
  · rw [if_pos h]
    by_cases e : z.toNat < cs.length
    · rw [getD_setI e]
      by_cases ei : i = z.toNat
      · subst ei
        rw [if_pos rfl, if_pos ⟨h.2, e, by omega⟩]
      · rw [if_neg ei, if_neg (fun k => ei (by omega))]
    · rw [set_outI e, if_neg (fun k => e (by omega))]
  · rw [if_neg h, if_neg]
    rintro ⟨h1, _, rfl⟩
    exact h ⟨by omega, by simpa using h1⟩
theorem shades_get (i : Nat) (zs : List Int) : ∀ cs : List Int, (shades cs zs).getD i 0 = if cs.getD i 0 = 0 ∧ i < cs.length ∧ (i : Int) ∈ zs then 1 else cs.getD i 0 := by
  induction zs with
  | nil => exact fun cs => by rw [shades_nil, if_neg (by simp)]
  | cons z zs ih =>
    intro cs
    rw [shades_cons, ih, shade_len]
    by_cases h1 : cs.getD i 0 = 0 ∧ i < cs.length
    · by_cases h2 : z = (i : Int)
      · have e : (shade cs z).getD i 0 = 1 := by rw [shade_get, if_pos ⟨h1.1, h1.2, h2⟩]
        rw [e, if_neg (by omega), if_pos ⟨h1.1, h1.2, by rw [h2]; exact List.mem_cons_self⟩]
      · have e : (shade cs z).getD i 0 = cs.getD i 0 := by rw [shade_get, if_neg (fun k => h2 k.2.2)]
        rw [e]
        by_cases h3 : (i : Int) ∈ zs
        · rw [if_pos ⟨h1.1, h1.2, h3⟩, if_pos ⟨h1.1, h1.2, List.mem_cons_of_mem _ h3⟩]
        · rw [if_neg (fun k => h3 k.2.2), if_neg]
          rintro ⟨_, _, k⟩
          rcases List.mem_cons.1 k with k | k
          · exact h2 k.symm
          · exact h3 k
    · have e : (shade cs z).getD i 0 = cs.getD i 0 := by rw [shade_get, if_neg (fun k => h1 ⟨k.1, k.2.1⟩)]
      rw [e, if_neg (fun k => h1 ⟨k.1, k.2.1⟩), if_neg (fun k => h1 ⟨k.1, k.2.1⟩)]
/-- How many objects below n are Black. -/
def blk (cs : List Int) (n : Nat) : Nat := (List.range n).countP fun i => decide (cs.getD i 0 = 2)
theorem blk_succ (cs : List Int) (n : Nat) : blk cs (n + 1) = blk cs n + if cs.getD n 0 = 2 then 1 else 0 := by
  unfold blk
  rw [List.range_succ, List.countP_append]
  rw [List.countP_singleton]
  by_cases h : cs.getD n 0 = 2
  · rw [if_pos h, if_pos (by simpa using h)]
  · rw [if_neg h, if_neg (by simpa using h)]
theorem blk_le (cs : List Int) (n : Nat) : blk cs n ≤ n := by
  induction n with
  | zero => exact Nat.le_refl _
  | succ n ih => rw [blk_succ]; split <;> omega
theorem blk_one {cs cs' : List Int} {k : Nat} (hk : cs.getD k 0 ≠ 2) (hk' : cs'.getD k 0 = 2) (ho : ∀ i, i ≠ k → (cs'.getD i 0 = 2 ↔ cs.getD i 0 = 2)) (n : Nat) : blk cs' n = blk cs n + if k < n then 1 else 0 := by
  induction n with
  | zero => rfl
  | succ n ih =>
    rw [blk_succ, blk_succ, ih]
    by_cases e : n = k
    · subst e
      rw [if_neg (Nat.lt_irrefl _), if_pos hk', if_neg hk, if_pos (Nat.lt_succ_self _)]
    · have := ho n e
      by_cases h2 : cs.getD n 0 = 2
      · rw [if_pos (this.2 h2), if_pos h2]
        by_cases h3 : k < n
        · rw [if_pos h3, if_pos (by omega)]
        · rw [if_neg h3, if_neg (by omega)]
      · rw [if_neg (fun h => h2 (this.1 h)), if_neg h2]
        by_cases h3 : k < n
        · rw [if_pos h3, if_pos (by omega)]
        · rw [if_neg h3, if_neg (by omega)]
structure Mk (h : H) (cs : List Int) (n : Nat) : Prop where
  col : Col cs
  len : cs.length = h.f.length
  rch : ∀ i, cs.getD i 0 ≠ 0 → Reach h.f h.r i
  root : ∀ i : Nat, (i : Int) ∈ h.r → cs.getD i 0 ≠ 0
  snd : ∀ i, cs.getD i 0 = 2 → ∀ j : Nat, (j : Int) ∈ h.f.getD i [] → cs.getD j 0 ≠ 0
  cnt : n = blk cs h.f.length
theorem Good.rootIn {h : H} (g : Good h) {i : Nat} (hi : (i : Int) ∈ h.r) : i < h.f.length := by
  rcases refs_bound g g.rr _ hi with e | ⟨_, e, _⟩ <;> omega
theorem Good.fieldIn {h : H} (g : Good h) {k i : Nat} (hi : (i : Int) ∈ h.f.getD k []) : i < h.f.length := by
  rcases g.field hi with e | ⟨_, e, _⟩ <;> omega
theorem rep_get (n i : Nat) : (List.replicate n (0 : Int)).getD i 0 = 0 := by
  by_cases h : i < n
  · simp [List.getD, h]
  · exact getD_outI (by simpa using h)
theorem Mk.start {h : H} (g : Good h) : Mk h (startC h) 0 := by
  have get : ∀ i, (startC h).getD i 0 = if (i < h.f.length ∧ (i : Int) ∈ h.r) then 1 else 0 := fun i => by
    unfold startC
    rw [shades_get, rep_get, List.length_replicate]
    simp only [true_and]
  refine ⟨(Col.rep _).shades, by unfold startC; rw [shades_len, List.length_replicate], fun i hi => ?_, fun i hi => ?_, fun i hi => ?_, ?_⟩
  · rw [get] at hi
    by_cases e : i < h.f.length ∧ (i : Int) ∈ h.r
    · exact .root e.2
    · rw [if_neg e] at hi; exact absurd rfl hi
  · rw [get, if_pos ⟨g.rootIn hi, hi⟩]; omega
  · rw [get] at hi; split at hi <;> omega
  · have : ∀ n, blk (startC h) n = 0 := fun n => by
      induction n with
      | zero => rfl
      | succ n ih => rw [blk_succ, ih, if_neg]; rw [get]; split <;> omega
    rw [this]
theorem Mk.step {h : H} {cs : List Int} {n k : Nat} (g : Good h) (m : Mk h cs n) (hk : k < cs.length) (h1 : cs.getD k 0 = 1) : Mk h (scan cs (h.f.getD k []) k) (n + 1) := by
  have get : ∀ i, (scan cs (h.f.getD k []) k).getD i 0 = if i = k then 2 else if cs.getD i 0 = 0 ∧ i < cs.length ∧ (i : Int) ∈ h.f.getD k [] then 1 else cs.getD i 0 := fun i => by
    unfold scan
    rw [shades_get, getD_setI hk, List.length_set]
    by_cases e : i = k
    · rw [if_pos e, if_pos e, if_neg (by omega)]
    · rw [if_neg e, if_neg e]
  have up : ∀ i, cs.getD i 0 ≠ 0 → (scan cs (h.f.getD k []) k).getD i 0 ≠ 0 := fun i hi => by
    rw [get]
    by_cases e : i = k
    · rw [if_pos e]; omega
    · rw [if_neg e, if_neg (fun q => hi q.1)]; exact hi
  have hr : Reach h.f h.r k := m.rch k (by omega)
  have two : ∀ i, i ≠ k → ((scan cs (h.f.getD k []) k).getD i 0 = 2 ↔ cs.getD i 0 = 2) := fun i e => by
    rw [get, if_neg e]
    by_cases q : cs.getD i 0 = 0 ∧ i < cs.length ∧ (i : Int) ∈ h.f.getD k []
    · rw [if_pos q]; constructor <;> intro hh <;> omega
    · rw [if_neg q]
  refine ⟨m.col.scan _ _, by rw [scan_len, m.len], fun i hi => ?_, fun i hi => up i (m.root i hi), fun i hi j hj => ?_, ?_⟩
  · rw [get] at hi
    by_cases e : i = k
    · rw [e]; exact hr
    · rw [if_neg e] at hi
      by_cases q : cs.getD i 0 = 0 ∧ i < cs.length ∧ (i : Int) ∈ h.f.getD k []
      · exact .step hr q.2.2
      · rw [if_neg q] at hi; exact m.rch i hi
  · by_cases e : i = k
    · subst e
      rw [get]
      by_cases e2 : j = i
      · rw [if_pos e2]; omega
      · rw [if_neg e2]
        by_cases q : cs.getD j 0 = 0
        · rw [if_pos ⟨q, by rw [m.len]; exact g.fieldIn hj, hj⟩]; omega
        · rw [if_neg (fun k => q k.1)]; exact q
    · exact up j (m.snd i ((two i e).1 hi) j hj)
  · rw [blk_one (cs := cs) (k := k) (by omega) (by rw [get, if_pos rfl]) two, m.cnt, if_pos (by rw [← m.len]; exact hk)]
/-- The colours when the marking has ended: what is reached is Black. -/
noncomputable def endC (h : H) : List Int := (reachL h.f h.r).map fun b => if b = true then 2 else 0
noncomputable def endN (h : H) : Nat := blk (endC h) h.f.length
theorem endC_len (h : H) : (endC h).length = h.f.length := by unfold endC; rw [List.length_map, reachL_length]
theorem endC_get (h : H) (i : Nat) : (endC h).getD i 0 = if (reachL h.f h.r).getD i false = true then 2 else 0 := by
  unfold endC
  by_cases e : i < (reachL h.f h.r).length
  · simp [List.getD, List.getElem?_eq_getElem e]
  · simp [List.getD, List.getElem?_eq_none (Nat.le_of_not_lt e)]
theorem Mk.done {h : H} {cs : List Int} {n : Nat} (m : Mk h cs n) (hg : ofC cs 1 = []) : cs = endC h ∧ n = endN h := by
  have no1 : ∀ i, cs.getD i 0 ≠ 1 := fun i hi => by
    have hl : i < cs.length := by
      by_cases e : i < cs.length
      · exact e
      · rw [getD_outI e] at hi; omega
    have : (i : Int) ∈ ofC cs 1 := mem_ofC.2 ⟨i, hl, hi, rfl⟩
    rw [hg] at this; simp at this
  have bw : ∀ i, cs.getD i 0 ≠ 0 → cs.getD i 0 = 2 := fun i hi => by have := m.col i; have := no1 i; omega
  have up : ∀ i, Reach h.f h.r i → cs.getD i 0 ≠ 0 := fun i hi => by
    induction hi with
    | root hz => exact m.root _ hz
    | step _ hk ih => exact m.snd _ (bw _ ih) _ hk
  have e : cs = endC h := by
    apply List.ext_getElem?
    intro i
    by_cases hi : i < cs.length
    · have e1 : cs[i]? = some (cs.getD i 0) := by simp [List.getD, List.getElem?_eq_getElem hi]
      have hi' : i < (endC h).length := by rw [endC_len, ← m.len]; exact hi
      have e2 : (endC h)[i]? = some ((endC h).getD i 0) := by simp [List.getD, List.getElem?_eq_getElem hi']
      rw [e1, e2, endC_get]
      congr 1
      by_cases r : Reach h.f h.r i
      · rw [if_pos (reachL_getD.2 ⟨by rw [← m.len]; exact hi, r⟩)]; exact bw i (up i r)
      · rw [if_neg (fun q => r (reachL_getD.1 q).2)]
        by_cases q : cs.getD i 0 = 0
        · exact q
        · exact absurd (m.rch i q) r
    · rw [List.getElem?_eq_none (by omega), List.getElem?_eq_none (by rw [endC_len, ← m.len]; omega)]
  exact ⟨e, by rw [m.cnt, e]; rfl⟩
theorem Mk.le {h : H} {cs : List Int} {n : Nat} (m : Mk h cs n) : n ≤ h.f.length := by rw [m.cnt]; exact blk_le _ _
def choB (zs : List Int) : Bool := decide (zs.length ≤ 40) && zs.all (inB 0 100)
def markOk (h : H) (zs : List Int) : Bool := good h && choB zs
noncomputable def markR (h : H) (zs : List Int) : List Int × Nat := if markOk h zs = true then (endC h, endN h) else ([], 0)
theorem markR_len (h : H) (zs : List Int) : (markR h zs).1.length ≤ 1000 := by
  unfold markR
  split
  · next k =>
    unfold markOk at k
    rw [Bool.and_eq_true] at k
    have := (good_iff.1 k.1).n
    simp only [endC_len]; omega
  · simp
end Go.Proofs.Ytkkigoamphkalaa.Ph
namespace Go.Proofs.Ytkkigoamphkalaa
open Go.RowKit Ph

abbrev mkv (a b c v p : Value) : Value := .agg #[a, b, c, v, p]
abbrev c5 (a b c v p : Value) : Array Value := #[a, b, c, v, p]
theorem Own.store1 {w : World} {B g n cap : Nat} {S : List Int} (h : Own w B (.slice (some ⟨g, 0, none⟩) n cap) S) (hn : S.length = n) {z : Nat} (hz : z < n) (x : Int) : Own (w.setCell ⟨g, z, none⟩ (.int .i64 x)) B (.slice (some ⟨g, 0, none⟩) n cap) (S.set z x) ∧ w.grownBy (w.setCell ⟨g, z, none⟩ (.int .i64 x)) (some g) ∧ w.cell? ⟨g, z, none⟩ = some (.int .i64 (S.getD z 0)) ∧ w.frozen? ⟨g, z, none⟩ = false := by
  unfold Own at h
  rw [hn] at h
  obtain ⟨s1, s2⟩ := h.stored z (.int .i64 x)
  refine ⟨?_, s2, ?_, h.frozenAt z⟩
  · unfold Own
    rw [List.length_set, hn, List.map_set]
    exact s1
  · rw [h.cellAt z (by omega), List.getElem?_map, List.getElem?_eq_getElem (by omega)]
    simp [List.getD, List.getElem?_eq_getElem (show z < S.length by omega)]
set_option maxHeartbeats 1600000 in
theorem c_darkenG (a b c p v : Value) (cs : List Int) (k B : Nat) (w : World) (ho : Own w B v cs) (hk : k < cs.length) (hc : Col cs) : Calls Try.prog 105 #[mkv a b c v p, .int .i64 k, .int .i64 1] w fun e w' => e = .returned (.tuple #[]) ∧ Own w' B v (shade cs k) ∧ w.grownBy w' v.ownBlock := by
  have HM := Lib.hid (shade_max (k := k) hc)
  rcases ho.shape' with ⟨_, h0⟩ | ⟨g, cap, rfl⟩
  · rw [h0] at hk; simp at hk
  have hb0 := below1 w (.cells (c5 a b c (.slice (some ⟨g, 0, none⟩) cs.length cap) p) 113)
  have O0 := Lib.hid (ho.below hb0)
  have R0 := Lib.hid (Row.new w 113 (c5 a b c (.slice (some ⟨g, 0, none⟩) cs.length cap) p))
  have hgl := (owns_lt ho rfl).2
  have HG := Lib.hid (show w.grownBy (w.alloc (.cells (c5 a b c (.slice (some ⟨g, 0, none⟩) cs.length cap) p) 113)) (some g) from ⟨rfl, rfl, rfl, by simp, fun i hi _ => hb0.block i hi⟩)
  have HCL := Lib.hid hc
  clear ho hb0 hc
  generalize hn : cs.length = n at *
  have HN := Lib.hid hn; clear hn
  have i1 : (k : Int) < (n : Int) := by omega
  have i0 : (0 : Int) ≤ (k : Int) := by omega
  go_enter Try.func105, Try.ntmps105
  go_wp2_with fail
  generalize hgm : w.heap.size = gm at *
  generalize (w.alloc (.cells (c5 a b c (.slice (some ⟨g, 0, none⟩) n cap) p) 113)) = w1 at *
  obtain ⟨s1, s2, s3, s4⟩ := O0.out.store1 HN.out hk (max (cs.getD k 0) 1)
  generalize cs.getD k 0 = z at *
  have cM : w1.drew.cell? ⟨gm, 3, none⟩ = some (.slice (some ⟨g, 0, none⟩) n cap) := Row.cell R0.out 3
  have cC : w1.drew.cell? ⟨g, k, none⟩ = some (.int .i64 z) := s3
  have fC : w1.drew.frozen? ⟨g, k, none⟩ = false := s4
  have hmx : (if z < 1 then 1 else z) = max z 1 := by split <;> omega
  have hne : gm ≠ g := by omega
  have RS := Lib.hid (Row.other R0.out ⟨g, k, none⟩ hne (.int .i64 (max z 1)))
  have S1 := Lib.hid s1; have S2 := Lib.hid s2
  clear s1 s2 s3 s4
  refine wp_region_held_drew (S := (fun w' => w'.cell? ⟨gm, 3, none⟩ = some (.slice (some ⟨g, 0, none⟩) n cap))) (by kernel_rfl) (cM) (fun hHeld => ?_)
  refine wpAnyH_take (i := 0) (v := ?va0x1) rfl (by kernel_rfl) (by kernel_rfl) (by kernel_rfl) (fun _ _ _ h => h) (Or.inl ⟨by rfl, ?hy0x1⟩) (by assumption) ?rest0x1
  case hy0x1 => (intro w hSw; (try dsimp only at hSw); go_simp; try with_reducible rfl)
  (try simp only [Act.put, List.getElem_toArray, List.getElem_cons_zero, List.setIfInBounds_toArray, List.set_cons_zero, List.set_cons_succ])
  refine wpAnyH_take (i := 1) (v := ?va1x2) rfl (by kernel_rfl) (by kernel_rfl) (by kernel_rfl) (fun _ _ _ h => h) (Or.inl ⟨by rfl, ?hy1x2⟩) (by assumption) ?rest1x2
  case hy1x2 => (intro w hSw; (try dsimp only at hSw); go_simp; try with_reducible rfl)
  (try simp only [Act.put, List.getElem_toArray, List.getElem_cons_zero, List.getElem_cons_succ, List.setIfInBounds_toArray, List.set_cons_zero, List.set_cons_succ])
  refine wpAnyH_take (i := 2) (v := ?va2x3) rfl (by kernel_rfl) (by kernel_rfl) (by kernel_rfl) (fun _ _ _ h => h) (Or.inl ⟨by rfl, ?hy2x3⟩) (by assumption) ?rest2x3
  case hy2x3 => (intro w hSw; (try dsimp only at hSw); go_simp; try with_reducible rfl)
  (try simp only [Act.put, List.getElem_toArray, List.getElem_cons_zero, List.getElem_cons_succ, List.setIfInBounds_toArray, List.set_cons_zero, List.set_cons_succ])
  refine wpAnyH_take (i := 3) (v := ?va3x4) rfl (by kernel_rfl) (by kernel_rfl) (by kernel_rfl) (fun _ _ _ h => h) (Or.inl ⟨by rfl, ?hy3x4⟩) (by assumption) ?rest3x4
  case hy3x4 => (intro w hSw; (try dsimp only at hSw); go_simp; try with_reducible rfl)
  (try simp only [Act.put, List.getElem_toArray, List.getElem_cons_zero, List.getElem_cons_succ, List.setIfInBounds_toArray, List.set_cons_zero, List.set_cons_succ])
  refine wpAnyH_take (i := 4) (v := ?va4x5) rfl (by kernel_rfl) (by kernel_rfl) (by kernel_rfl) (fun _ _ _ h => h) (Or.inl ⟨by rfl, ?hy4x5⟩) (by assumption) ?rest4x5
  case hy4x5 => (intro w hSw; (try dsimp only at hSw); go_simp; try with_reducible rfl)
  (try simp only [Act.put, List.getElem_toArray, List.getElem_cons_zero, List.getElem_cons_succ, List.setIfInBounds_toArray, List.set_cons_zero, List.set_cons_succ])
  refine wpAnyH_take (i := 5) (v := ?va5x6) rfl (by kernel_rfl) (by kernel_rfl) (by kernel_rfl) (fun _ _ _ h => h) (Or.inl ⟨by rfl, ?hy5x6⟩) (by assumption) ?rest5x6
  case hy5x6 => (intro w hSw; (try dsimp only at hSw); go_simp; try with_reducible rfl)
  (try simp only [Act.put, List.getElem_toArray, List.getElem_cons_zero, List.getElem_cons_succ, List.setIfInBounds_toArray, List.set_cons_zero, List.set_cons_succ])
  refine wpAnyH_take (i := 6) (v := ?va6x7) rfl (by kernel_rfl) (by kernel_rfl) (by kernel_rfl) (fun _ _ _ h => h) (Or.inl ⟨by rfl, ?hy6x7⟩) (by assumption) ?rest6x7
  case hy6x7 => (intro w hSw; (try dsimp only at hSw); go_simp; try with_reducible rfl)
  (try simp only [Act.put, List.getElem_toArray, List.getElem_cons_zero, List.getElem_cons_succ, List.setIfInBounds_toArray, List.set_cons_zero, List.set_cons_succ])
  refine wpAnyH_take (i := 8) (v := ?va8x8) rfl (by kernel_rfl) (by kernel_rfl) (by kernel_rfl) (fun _ _ _ h => h) (Or.inl ⟨by rfl, ?hy8x8⟩) (by assumption) ?rest8x8
  case hy8x8 => (intro w hSw; (try dsimp only at hSw); go_simp; try with_reducible rfl)
  (try simp only [Act.put, List.getElem_toArray, List.getElem_cons_zero, List.getElem_cons_succ, List.setIfInBounds_toArray, List.set_cons_zero, List.set_cons_succ])
  refine wpAnyH_ready (rs := [7]) (by kernel_rfl) (by simp) ?_
  refine AllReadyH.cons rfl (fun K hK => ?_) AllReadyH.nil
  go_simp
  refine hK.out _ _ (cM) (fun hHeld => ?_)
  clear hK K
  (try simp only [Act.put, List.getElem_toArray, List.getElem_cons_zero, List.getElem_cons_succ, List.setIfInBounds_toArray, List.set_cons_zero, List.set_cons_succ])
  refine wpAnyH_take (i := 9) (v := ?va9x9) rfl (by kernel_rfl) (by kernel_rfl) (by kernel_rfl) (fun _ _ _ h => h) (Or.inl ⟨by rfl, ?hy9x9⟩) (by assumption) ?rest9x9
  case hy9x9 => (intro w hSw; (try dsimp only at hSw); go_simp; try with_reducible rfl)
  (try simp only [Act.put, List.getElem_toArray, List.getElem_cons_zero, List.getElem_cons_succ, List.setIfInBounds_toArray, List.set_cons_zero, List.set_cons_succ])
  refine wpAnyH_take (i := 10) (v := ?va10x10) rfl (by kernel_rfl) (by kernel_rfl) (by kernel_rfl) (fun _ _ _ h => h) (Or.inl ⟨by rfl, ?hy10x10⟩) (by assumption) ?rest10x10
  case hy10x10 => (intro w hSw; (try dsimp only at hSw); go_simp; try with_reducible rfl)
  (try simp only [Act.put, List.getElem_toArray, List.getElem_cons_zero, List.getElem_cons_succ, List.setIfInBounds_toArray, List.set_cons_zero, List.set_cons_succ])
  refine wpAnyH_ready (rs := [11]) (by kernel_rfl) (by simp) ?_
  refine AllReadyH.cons rfl (fun K hK => ?_) AllReadyH.nil
  go_simp
  first | rw [hmx] | skip
  refine hK.out _ _ (Row.cell RS.out 3) (fun hHeld => ?_)
  clear hK K
  (try simp only [Act.put, List.getElem_toArray, List.getElem_cons_zero, List.getElem_cons_succ, List.setIfInBounds_toArray, List.set_cons_zero, List.set_cons_succ])
  refine wpAnyH_done (by kernel_rfl) ?_ _
  clear hHeld
  generalize w1.setCell ⟨g, k, none⟩ (.int .i64 (max z 1)) = w2 at *
  clear cM cC fC hmx RS
  go_wp2_with fail
  go_end0
  exact ⟨rfl, by rw [← HM.out]; exact S1.out, grownBy_trans HG.out (grownBy_trans S2.out (grown_drew _ _))⟩
set_option maxHeartbeats 1600000 in
theorem c_shadeAll (W : World) (a b c p v rv : Value) (cs zs : List Int) (w : World) (hz : IntsAt W rv zs) (hB : Below W.heap.size W w) (ho : Own w W.heap.size v cs) (hc : Col cs) (hr : ∀ z ∈ zs, inR cs.length z) (hzl : zs.length ≤ 12) :
    Calls Try.prog 150 #[mkv a b c v p, rv] w fun e w' => e = .returned (.tuple #[]) ∧ Own w' W.heap.size v (shades cs zs) ∧ w.grownBy w' v.ownBlock := by
  have hb0 := below1 w (.cells (c5 a b c v p) 113)
  have O0 := Lib.hid (ho.below hb0)
  have R0 := Lib.hid (Row.new w 113 (c5 a b c v p))
  have HG : Hid (w.grownBy (w.alloc (.cells (c5 a b c v p) 113)) v.ownBlock) := ⟨rfl, rfl, rfl, by simp, fun i hi _ => hb0.block i hi⟩
  have HNE : Hid (v.ownBlock ≠ some w.heap.size) := fun e => by have := (owns_lt ho e).2; omega
  have HB0 := Lib.hid (bst hB hb0 hB.size)
  have HLO : Hid (∀ g, v.ownBlock = some g → W.heap.size ≤ g) := fun g e => (owns_lt ho e).1
  obtain ⟨ra, rc, rfl⟩ := hz.shape
  have HZ := Lib.hid hz; have HR := Lib.hid hr; have HC := Lib.hid hc
  clear hz hB ho hc hr hb0
  generalize hm : zs.length = m at *
  have HM := Lib.hid hm; clear hm
  go_enter Try.func150, Try.ntmps150
  go_wp2
  generalize w.heap.size = gm at *
  generalize (w.alloc (.cells (c5 a b c v p) 113)) = w0 at *
  go_loopw [8] (fun i wr => ∃ j : Nat, j ≤ m ∧ i = .int .i64 j ∧ Hid (Own wr W.heap.size v (shades cs (zs.take j))) ∧ Hid (w0.grownBy wr v.ownBlock)) (fun i _ => m - (intOf i).toNat)
  case atStart => exact ⟨0, Nat.zero_le _, rfl, by rw [List.take_zero, shades_nil]; exact O0, World.grownBy.refl _ _⟩
  case round =>
    obtain ⟨j, hj, rfl, how, hgr⟩ := hrel
    by_cases hlt : j < m
    · obtain ⟨zb, zo, rfl, hcz⟩ := HZ.out.at' (by omega)
      have BR : Below W.heap.size W wr := HB0.out.grown hgr.out HB0.out.size (fun k hk => HLO.out k hk)
      have q := cellBelow BR (Nat.le_refl _) (hcz j hlt)
      have RW := Row.grownBy R0.out hgr.out HNE.out
      have d0 := RW.cell 0
      have d1 := RW.cell 1
      have d2 := RW.cell 2
      have d3 := RW.cell 3
      have d4 := RW.cell 4
      have hjl : j < zs.length := by rw [HM.out]; exact hlt
      have hin := HR.out (zs.getD j 0) (by rw [List.getD, List.getElem?_eq_getElem hjl]; exact List.getElem_mem hjl)
      have HS := Lib.hid (shades_take_succ (cs := cs) hjl)
      have i1 : (j : Int) < (m : Int) := by omega
      clear hcz RW hjl
      generalize zs.getD j 0 = z at *
      by_cases z1 : z = -1
      · subst z1
        have HE : Hid (shades cs (zs.take (j + 1)) = shades cs (zs.take j)) := by unfold Hid; rw [HS.out]; exact shade_neg (by omega)
        clear hin
        go_wp2_with fail
        go_roundw
        case rel => exact ⟨j + 1, by omega, by go_num, by rw [HE.out]; exact how, hgr⟩
        case measure => simp [intOf]; omega
      · obtain ⟨t, rfl⟩ : ∃ t : Nat, z = t := ⟨z.toNat, by rcases hin with h | h <;> omega⟩
        have HTN : Hid (t < (shades cs (zs.take j)).length) := by unfold Hid; rw [shades_len]; rcases hin with h | h <;> omega
        have i2 : ((t : Int) == -1) = false := by simp
        clear hin z1
        go_wp2_with fail
        refine (c_darkenG a b c p v _ t _ _ how.out HTN.out HC.out.shades).mono ?_
        rintro e w6 ⟨rfl, ho6, hg6⟩
        have O6 := Lib.hid ho6
        have G6 := Lib.hid (grownBy_trans hgr.out hg6)
        clear ho6 hg6 d0 d1 d2 d3 d4 q
        go_wp2_with fail
        go_roundw
        case rel => exact ⟨j + 1, by omega, by go_num, by rw [HS.out]; exact O6, G6⟩
        case measure => simp [intOf]; omega
    · obtain rfl : j = m := by omega
      have HE : Hid (zs.take j = zs) := List.take_of_length_le (by rw [HM.out]; exact Nat.le_refl _)
      go_wp2_with fail
      go_end0
      exact ⟨rfl, by rw [← HE.out]; exact how.out, grownBy_trans HG.out hgr.out⟩
end Go.Proofs.Ytkkigoamphkalaa
namespace Go.Proofs.Ytkkigoamphkalaa
open Go.RowKit Ph

theorem rep_ints (n : Nat) : (madeCells (Value.int .i64 0).cells (n * 1)).toList = (List.replicate n (0 : Int)).map (Value.int .i64) := by
  rw [Nat.mul_one, show (Value.int .i64 0).cells = #[.int .i64 0] from rfl, toList_madeCells_one, List.map_replicate]
set_option maxHeartbeats 1600000 in
theorem s_l6Shade (v : Value) (cs : List Int) (z : Int) (B : Nat) (w : World) (ho : Own w B v cs) (hz : z < cs.length) : Calls Try.prog 103 #[v, .int .i64 z] w fun e w' => e = .returned (.tuple #[]) ∧ Own w' B v (shade cs z) ∧ w.grownBy w' v.ownBlock := by
  by_cases z0 : z < 0
  · have HE := Lib.hid (shade_neg (cs := cs) z0)
    have HO := Lib.hid ho
    clear ho hz
    have z1 : ¬ (0 ≤ z) := by omega
    go_enter Try.func103, Try.ntmps103
    go_wp2_with fail
    go_end0
    exact ⟨rfl, by rw [HE.out]; exact HO.out, World.grownBy.refl _ _⟩
  · obtain ⟨k, rfl⟩ : ∃ k : Nat, z = k := ⟨z.toNat, by omega⟩
    have hk : k < cs.length := by omega
    rcases ho.shape' with ⟨_, h0⟩ | ⟨g, cap, rfl⟩
    · rw [h0] at hk; simp at hk
    obtain ⟨s1, s2, s3, s4⟩ := ho.store1 rfl hk 1
    have HE := Lib.hid (shade_nat cs k)
    have HO := Lib.hid ho; have S1 := Lib.hid s1; have S2 := Lib.hid s2
    clear ho s1 s2 hz
    generalize cs.length = n at *
    have i1 : (k : Int) < (n : Int) := by omega
    have i0 : (0 : Int) ≤ (k : Int) := by omega
    generalize cs.getD k 0 = x at *
    by_cases hx : x = 0
    · subst hx
      rw [if_pos rfl] at HE
      clear z0
      go_enter Try.func103, Try.ntmps103
      go_wp2_with fail
      go_end0
      exact ⟨rfl, by rw [HE.out]; exact S1.out, S2.out⟩
    · rw [if_neg hx] at HE
      have hx1 : (x == 0) = false := by simpa using hx
      clear z0 hx
      go_enter Try.func103, Try.ntmps103
      go_wp2_with fail
      go_end0
      exact ⟨rfl, by rw [HE.out]; exact HO.out, World.grownBy.refl _ _⟩
set_option maxHeartbeats 1600000 in
theorem s_l6Start (a b c : Value) (h : H) (w : World) (hA : HeapAt w a b c h) (hG : Ph.Good h) : Calls Try.prog 136 #[hv a b c] w fun e w' => ∃ v', e = .returned v' ∧ Own w' w.heap.size v' (startC h) ∧ Below w.heap.size w w' := by
  obtain ⟨i0, hi, hz0, hz1, hz2⟩ := info_parts info_int
  have hb0 := below1 w (.cells (c3 a b c) 30)
  have hn12 := hG.n
  have hrn := hG.rn
  have HR : Hid (∀ z ∈ h.r, z < (h.f.length : Int)) := fun z hz => by rcases refs_bound hG hG.rr z hz with e | ⟨_, e, _⟩ <;> omega
  have HZ := Lib.hid hA.r
  have R0 := Lib.hid (show RowH _ _ a b c from Row.new w 30 (c3 a b c))
  have HB0 := Lib.hid hb0
  obtain ⟨fa, fc, rfl⟩ := hA.f.shape
  obtain ⟨ra, rc, rfl⟩ := hA.r.shape
  have HS : Hid (startC h = shades (List.replicate h.f.length 0) h.r) := rfl
  generalize startC h = out at *

  clear hA hG hb0
  generalize hn : h.f.length = n at *
  generalize hm : h.r.length = m at *
  have HM := Lib.hid hm
  clear hn hm
  have d0 := R0.out.c0
  have d2 := R0.out.c2
  go_enter Try.func136, Try.ntmps136
  go_wp2_with (at_make; refine wpList_make_full _ rfl _ _ 24 rfl w.heap.size 3 i0 (.int .i64 0) 1 Try.underlying24 hi hz0 hz1 .i64 .i64 _ _ n rfl rfl rfl rfl (by rw [hz2]; omega) (by unfold maxLen; omega) (by simp) ?_; intro w1 hown hgr
               rw [rep_ints, show (w.alloc (.cells (c3 (.slice fa n fc) b (.slice ra m rc)) 30)).heap.size = w.heap.size + 1 from World.size_alloc _ _] at hown
               have O1 : Hid (Own w1 w.heap.size (.slice (some ⟨w.heap.size + 1, 0, none⟩) n n) (List.replicate n 0)) := (by { unfold Hid Own; rw [List.length_replicate]; exact hown })
               have B1 := Lib.hid (HB0.out.grown hgr HB0.out.size (fun k hk => by cases hk))
               have R1 := Lib.hid (show RowH _ _ _ _ _ from Row.grown R0.out hgr)
               have e2 := R1.out.c2
               clear hown hgr)
  clear d0 d2 e2
  go_loopw [13] (fun i wr => ∃ j : Nat, j ≤ m ∧ i = .int .i64 j ∧ Hid (Own wr w.heap.size (.slice (some ⟨w.heap.size + 1, 0, none⟩) n n) (shades (List.replicate n 0) (h.r.take j))) ∧ Hid (Below w.heap.size w wr)) (fun i _ => m - (intOf i).toNat)
  case atStart => exact ⟨0, Nat.zero_le _, rfl, by rw [List.take_zero, shades_nil]; exact O1, B1⟩
  case round =>
    obtain ⟨j, hj, rfl, how, hbw⟩ := hrel
    by_cases hlt : j < m
    · obtain ⟨zb, zo, rfl, hcz⟩ := HZ.out.at' (by omega)
      have q := cellBelow hbw.out (Nat.le_refl _) (hcz j hlt)
      have hjl : j < h.r.length := by rw [HM.out]; exact hlt
      have hin := HR.out (h.r.getD j 0) (by rw [List.getD, List.getElem?_eq_getElem hjl]; exact List.getElem_mem hjl)
      have HSS := Lib.hid (shades_take_succ (cs := List.replicate n 0) hjl)
      have HIN : Hid (h.r.getD j 0 < ((shades (List.replicate n 0) (h.r.take j)).length : Int)) := by unfold Hid; rw [shades_len, List.length_replicate]; exact hin
      have i1 : (j : Int) < (m : Int) := by omega
      clear hcz hjl hin
      generalize h.r.getD j 0 = z at *
      go_wp2_with fail
      refine (s_l6Shade _ _ z _ wr how.out HIN.out).mono ?_
      rintro e w6 ⟨rfl, ho6, hg6⟩
      have O6 := Lib.hid ho6
      have B6 := Lib.hid (hbw.out.grown hg6 hbw.out.size (fun g e => (owns_lt how.out e).1))
      clear ho6 hg6 q
      go_wp2_with fail
      go_roundw
      case rel => exact ⟨j + 1, by omega, by go_num, by rw [HSS.out]; exact O6, B6⟩
      case measure => simp [intOf]; omega
    · obtain rfl : j = m := by omega
      have HE : Hid (h.r.take j = h.r) := List.take_of_length_le (by rw [HM.out]; exact Nat.le_refl _)
      go_wp2_with fail
      go_ret
      exact ⟨_, rfl, by rw [HS.out, ← HE.out]; exact how.out, hbw.out⟩
theorem startR_no {h : H} (k : good h = false) : startR h = [] := by unfold startR; rw [k]; rfl
theorem startR_yes {h : H} (k : good h = true) : startR h = startC h := by unfold startR; rw [k]; rfl
set_option maxHeartbeats 1600000 in
theorem s_StartColours (a b c : Value) (h : H) (w : World) (hA : HeapAt w a b c h) : Calls Try.prog 76 #[hv a b c] w (EndI (startR h) (good h) w) := by
  have hb0 := below1 w (.cells (c3 a b c) 30)
  have A0 := Lib.hid (hA.below hb0)
  have HB := Lib.hid hb0
  have R0 := Lib.hid (show RowH _ _ a b c from Row.new w 30 (c3 a b c))
  clear hA hb0
  have HC := Lib.hid (s_GoodHeap a b c h _ A0.out)
  generalize hg : good h = x at *
  have HX := Lib.hid hg
  clear hg
  have c0 := R0.out.c0
  have c1 := R0.out.c1
  have c2 := R0.out.c2
  cases x
  · have HE := Lib.hid (startR_no HX.out)
    go_enter Try.func76, Try.ntmps76
    go_wp2_with (go_at_call 80; refine HC.out.mono ?_; rintro e w1 ⟨rfl, hb1⟩; have B1 := Lib.hid (bst HB.out hb1 HB.out.size); clear hb1)
    go_ret2
    exact endI_no B1.out HE.out rfl
  · have HE := Lib.hid (startR_yes HX.out)
    have G := Lib.hid (good_iff.1 HX.out)
    go_enter Try.func76, Try.ntmps76
    go_wp2_with (go_at_call 80; refine HC.out.mono ?_; rintro e w1 ⟨rfl, hb1⟩; have B1 := Lib.hid (bst HB.out hb1 HB.out.size); have A1 := Lib.hid (A0.out.below hb1); have R1 := R0.out.below hb1; have d0 := R1.c0; have d1 := R1.c1; have d2 := R1.c2; clear hb1 R1)
    refine (s_l6Start a b c h _ A1.out G.out).mono ?_
    rintro e w2 ⟨v', rfl, ho2, hb2⟩
    have B2 := Lib.hid (bst B1.out hb2 B1.out.size); have O2 := Lib.hid ho2
    clear hb2 ho2
    go_wp2_with fail
    go_ret2
    exact endI_yes B2.out O2.out B1.out.size HE.out rfl
end Go.Proofs.Ytkkigoamphkalaa
namespace Go.Proofs.Ytkkigoamphkalaa
open Go.RowKit Ph

set_option maxRecDepth 100000 in
set_option maxHeartbeats 1600000 in
theorem c_darkenB (W : World) (a b c p v : Value) (fs : List (List Int)) (cs : List Int) (k : Nat) (w : World) (hF : RowsAt W a fs) (hB : Below W.heap.size W w) (ho : Own w W.heap.size v cs) (hc : Col cs) (hk : k < cs.length) (hkf : k < fs.length) (h0 : cs.getD k 0 ≠ 0) (hr : ∀ z ∈ fs.getD k [], inR cs.length z) (hl : (fs.getD k []).length ≤ 3) :
    Calls Try.prog 105 #[mkv a b c v p, .int .i64 k, .int .i64 2] w fun e w' => e = .returned (.tuple #[]) ∧ Own w' W.heap.size v (scan cs (fs.getD k []) k) ∧ w.grownBy w' v.ownBlock := by
  have HM := Lib.hid (scan_eq (k := k) (fs.getD k []) h0)
  have HK := Lib.hid (shades_keeps (k := k) (fs.getD k []) h0)
  have hz2 := hc k
  have HLN := Lib.hid (shades_len (fs.getD k []) cs)
  rcases ho.shape' with ⟨_, h0'⟩ | ⟨g, cap, rfl⟩
  · rw [h0'] at hk; simp at hk
  obtain ⟨fa, fc, rfl⟩ := hF.shape
  obtain ⟨fb, fo, rfl, hcf⟩ := hF.at' (by omega)
  obtain ⟨u, quf, huf⟩ := hcf k hkf
  obtain ⟨ua, uc, rfl⟩ := huf.shape
  have HSA : Hid (∀ w', Below W.heap.size W w' → Own w' W.heap.size (.slice (some ⟨g, 0, none⟩) cs.length cap) cs → Calls Try.prog 150 #[mkv (.slice (some ⟨fb, fo, none⟩) fs.length fc) b c (.slice (some ⟨g, 0, none⟩) cs.length cap) p, .slice ua (fs.getD k []).length uc] w' fun e w'' => e = .returned (.tuple #[]) ∧ Own w'' W.heap.size (.slice (some ⟨g, 0, none⟩) cs.length cap) (shades cs (fs.getD k [])) ∧ w'.grownBy w'' (some g)) := fun w' hb ho => c_shadeAll W _ _ _ _ _ _ cs _ w' huf hb ho hc hr (by omega)
  have hb0 := below1 w (.cells (c5 (.slice (some ⟨fb, fo, none⟩) fs.length fc) b c (.slice (some ⟨g, 0, none⟩) cs.length cap) p) 113)
  have O0 := Lib.hid (ho.below hb0)
  have R0 := Lib.hid (Row.new w 113 (c5 (.slice (some ⟨fb, fo, none⟩) fs.length fc) b c (.slice (some ⟨g, 0, none⟩) cs.length cap) p))
  have B0 := Lib.hid (bst hB hb0 hB.size)
  have hgl : g < w.heap.size := (owns_lt ho rfl).2
  have HLO : Hid (∀ g', some g = some g' → W.heap.size ≤ g') := fun g' e => (owns_lt ho e).1
  have HG := Lib.hid (show w.grownBy (w.alloc (.cells (c5 (.slice (some ⟨fb, fo, none⟩) fs.length fc) b c (.slice (some ⟨g, 0, none⟩) cs.length cap) p) 113)) (some g) from ⟨rfl, rfl, rfl, by simp, fun i hi _ => hb0.block i hi⟩)
  have HNE : Hid (some g ≠ some w.heap.size) := by unfold Hid; simp; omega
  have EU := Lib.hid quf
  clear ho hb0 hc h0 hr hF hB hcf huf quf
  generalize fs.getD k [] = row at *
  generalize row.length = ul at *
  generalize hn : cs.length = n at *
  have HN := Lib.hid hn; clear hn
  generalize fs.length = fl at *
  have i1 : (k : Int) < (n : Int) := by omega
  have i2 : (k : Int) < (fl : Int) := by omega
  have i0 : (0 : Int) ≤ (k : Int) := by omega
  go_enter Try.func105, Try.ntmps105
  go_wp2_with fail
  generalize w.heap.size = gm at *
  generalize (w.alloc (.cells (c5 (.slice (some ⟨fb, fo, none⟩) fl fc) b c (.slice (some ⟨g, 0, none⟩) n cap) p) 113)) = w1 at *
  have BD := Lib.hid (below_drew B0.out)
  have OD : Hid (Own w1.drew W.heap.size (.slice (some ⟨g, 0, none⟩) n cap) cs) := O0.out
  have RD : Hid (Row w1.drew gm 113 (c5 (.slice (some ⟨fb, fo, none⟩) fl fc) b c (.slice (some ⟨g, 0, none⟩) n cap) p)) := R0.out
  have GD := Lib.hid (grownBy_trans HG.out (grown_drew w1 (some g)))
  have EUW : Hid (W.cell? ⟨fb, fo + k, none⟩ = some (.slice ua ul uc)) := EU
  have eu := cellBelow BD.out (Nat.le_refl _) EUW.out
  have e0 := RD.out.cell 0
  have e1 := RD.out.cell 1
  have e2 := RD.out.cell 2
  have e3 := RD.out.cell 3
  have e4 := RD.out.cell 4
  refine wp_region_held_drew (S := (fun w' => w'.cell? ⟨gm, 0, none⟩ = some (.slice (some ⟨fb, fo, none⟩) fl fc) ∧ w'.cell? ⟨gm, 1, none⟩ = some b ∧ w'.cell? ⟨gm, 2, none⟩ = some c ∧ w'.cell? ⟨gm, 3, none⟩ = some (.slice (some ⟨g, 0, none⟩) n cap) ∧ w'.cell? ⟨gm, 4, none⟩ = some p ∧ w'.cell? ⟨fb, fo + k, none⟩ = some (.slice ua ul uc))) (by kernel_rfl) (⟨e0, e1, e2, e3, e4, eu⟩) (fun hHeld => ?_)
  refine wpAnyH_take (i := 0) (v := ?va0x1) rfl (by kernel_rfl) (by kernel_rfl) (by kernel_rfl) (fun _ _ _ h => h) (Or.inl ⟨by rfl, ?hy0x1⟩) (by assumption) ?rest0x1
  case hy0x1 => (intro w hSw; (try dsimp only at hSw); go_simp; try with_reducible rfl)
  (try simp only [Act.put, List.getElem_toArray, List.getElem_cons_zero, List.setIfInBounds_toArray, List.set_cons_zero, List.set_cons_succ])
  refine wpAnyH_take (i := 1) (v := ?va1x2) rfl (by kernel_rfl) (by kernel_rfl) (by kernel_rfl) (fun _ _ _ h => h) (Or.inl ⟨by rfl, ?hy1x2⟩) (by assumption) ?rest1x2
  case hy1x2 => (intro w hSw; (try dsimp only at hSw); go_simp; try with_reducible rfl)
  (try simp only [Act.put, List.getElem_toArray, List.getElem_cons_zero, List.getElem_cons_succ, List.setIfInBounds_toArray, List.set_cons_zero, List.set_cons_succ])
  refine wpAnyH_take (i := 2) (v := ?va2x3) rfl (by kernel_rfl) (by kernel_rfl) (by kernel_rfl) (fun _ _ _ h => h) (Or.inl ⟨by rfl, ?hy2x3⟩) (by assumption) ?rest2x3
  case hy2x3 => (intro w hSw; (try dsimp only at hSw); go_simp; try with_reducible rfl)
  (try simp only [Act.put, List.getElem_toArray, List.getElem_cons_zero, List.getElem_cons_succ, List.setIfInBounds_toArray, List.set_cons_zero, List.set_cons_succ])
  refine wpAnyH_take (i := 3) (v := ?va3x4) rfl (by kernel_rfl) (by kernel_rfl) (by kernel_rfl) (fun _ _ _ h => h) (Or.inl ⟨by rfl, ?hy3x4⟩) (by assumption) ?rest3x4
  case hy3x4 => (intro w hSw; (try dsimp only at hSw); go_simp; try with_reducible rfl)
  (try simp only [Act.put, List.getElem_toArray, List.getElem_cons_zero, List.getElem_cons_succ, List.setIfInBounds_toArray, List.set_cons_zero, List.set_cons_succ])
  refine wpAnyH_take (i := 4) (v := ?va4x5) rfl (by kernel_rfl) (by kernel_rfl) (by kernel_rfl) (fun _ _ _ h => h) (Or.inl ⟨by rfl, ?hy4x5⟩) (by assumption) ?rest4x5
  case hy4x5 => (intro w hSw; (try dsimp only at hSw); go_simp; try with_reducible rfl)
  (try simp only [Act.put, List.getElem_toArray, List.getElem_cons_zero, List.getElem_cons_succ, List.setIfInBounds_toArray, List.set_cons_zero, List.set_cons_succ])
  refine wpAnyH_take (i := 5) (v := ?va5x6) rfl (by kernel_rfl) (by kernel_rfl) (by kernel_rfl) (fun _ _ _ h => h) (Or.inl ⟨by rfl, ?hy5x6⟩) (by assumption) ?rest5x6
  case hy5x6 => (intro w hSw; (try dsimp only at hSw); go_simp; try with_reducible rfl)
  (try simp only [Act.put, List.getElem_toArray, List.getElem_cons_zero, List.getElem_cons_succ, List.setIfInBounds_toArray, List.set_cons_zero, List.set_cons_succ])
  refine wpAnyH_take (i := 6) (v := ?va6x7) rfl (by kernel_rfl) (by kernel_rfl) (by kernel_rfl) (fun _ _ _ h => h) (Or.inl ⟨by rfl, ?hy6x7⟩) (by assumption) ?rest6x7
  case hy6x7 => (intro w hSw; (try dsimp only at hSw); go_simp; try with_reducible rfl)
  (try simp only [Act.put, List.getElem_toArray, List.getElem_cons_zero, List.getElem_cons_succ, List.setIfInBounds_toArray, List.set_cons_zero, List.set_cons_succ])
  refine wpAnyH_ready (rs := [7]) (by kernel_rfl) (by simp) ?_
  refine AllReadyH.cons rfl (fun K hK => ?_) AllReadyH.nil
  go_simp
  refine (HSA.out _ BD.out OD.out).mono ?_
  rintro e w2 ⟨rfl, ho2, hg2⟩
  have R2 := Lib.hid (Row.grownBy RD.out hg2 HNE.out)
  have EU2 := Lib.hid (cellBelow (BD.out.grown hg2 BD.out.size HLO.out) (Nat.le_refl _) EUW.out)
  refine hK.out _ _ (⟨R2.out.cell 0, R2.out.cell 1, R2.out.cell 2, R2.out.cell 3, R2.out.cell 4, EU2.out⟩) (fun hHeld => ?_)
  clear hK K
  (try simp only [Act.put, List.getElem_toArray, List.getElem_cons_zero, List.getElem_cons_succ, List.setIfInBounds_toArray, List.set_cons_zero, List.set_cons_succ])
  refine wpAnyH_done (by kernel_rfl) ?_ _
  clear hHeld
  have O2 := Lib.hid ho2
  have G2 := Lib.hid (grownBy_trans GD.out hg2)
  clear e0 e1 e2 e3 e4 eu ho2 hg2 EU2 BD OD RD
  go_wp2_with fail
  obtain ⟨s1, s2, s3, s4⟩ := O2.out.store1 HLN.out hk 2
  rw [HK.out] at s3
  generalize cs.getD k 0 = z at *
  have cM : w2.drew.cell? ⟨gm, 3, none⟩ = some (.slice (some ⟨g, 0, none⟩) n cap) := Row.cell R2.out 3
  have cC : w2.drew.cell? ⟨g, k, none⟩ = some (.int .i64 z) := s3
  have fC : w2.drew.frozen? ⟨g, k, none⟩ = false := s4
  have hmx : (if z < 2 then 2 else z) = 2 := by split <;> omega
  have hne : gm ≠ g := by omega
  have RS := Lib.hid (Row.other R2.out ⟨g, k, none⟩ hne (.int .i64 2))
  have S1 := Lib.hid s1; have S2 := Lib.hid s2
  clear s1 s2 s3 s4
  refine wp_region_held_drew (S := (fun w' => w'.cell? ⟨gm, 3, none⟩ = some (.slice (some ⟨g, 0, none⟩) n cap))) (by kernel_rfl) (cM) (fun hHeld => ?_)
  refine wpAnyH_take (i := 0) (v := ?va0x8) rfl (by kernel_rfl) (by kernel_rfl) (by kernel_rfl) (fun _ _ _ h => h) (Or.inl ⟨by rfl, ?hy0x8⟩) (by assumption) ?rest0x8
  case hy0x8 => (intro w hSw; (try dsimp only at hSw); go_simp; try with_reducible rfl)
  (try simp only [Act.put, List.getElem_toArray, List.getElem_cons_zero, List.setIfInBounds_toArray, List.set_cons_zero, List.set_cons_succ])
  refine wpAnyH_take (i := 1) (v := ?va1x9) rfl (by kernel_rfl) (by kernel_rfl) (by kernel_rfl) (fun _ _ _ h => h) (Or.inl ⟨by rfl, ?hy1x9⟩) (by assumption) ?rest1x9
  case hy1x9 => (intro w hSw; (try dsimp only at hSw); go_simp; try with_reducible rfl)
  (try simp only [Act.put, List.getElem_toArray, List.getElem_cons_zero, List.getElem_cons_succ, List.setIfInBounds_toArray, List.set_cons_zero, List.set_cons_succ])
  refine wpAnyH_take (i := 2) (v := ?va2x10) rfl (by kernel_rfl) (by kernel_rfl) (by kernel_rfl) (fun _ _ _ h => h) (Or.inl ⟨by rfl, ?hy2x10⟩) (by assumption) ?rest2x10
  case hy2x10 => (intro w hSw; (try dsimp only at hSw); go_simp; try with_reducible rfl)
  (try simp only [Act.put, List.getElem_toArray, List.getElem_cons_zero, List.getElem_cons_succ, List.setIfInBounds_toArray, List.set_cons_zero, List.set_cons_succ])
  refine wpAnyH_take (i := 3) (v := ?va3x11) rfl (by kernel_rfl) (by kernel_rfl) (by kernel_rfl) (fun _ _ _ h => h) (Or.inl ⟨by rfl, ?hy3x11⟩) (by assumption) ?rest3x11
  case hy3x11 => (intro w hSw; (try dsimp only at hSw); go_simp; try with_reducible rfl)
  (try simp only [Act.put, List.getElem_toArray, List.getElem_cons_zero, List.getElem_cons_succ, List.setIfInBounds_toArray, List.set_cons_zero, List.set_cons_succ])
  refine wpAnyH_take (i := 4) (v := ?va4x12) rfl (by kernel_rfl) (by kernel_rfl) (by kernel_rfl) (fun _ _ _ h => h) (Or.inl ⟨by rfl, ?hy4x12⟩) (by assumption) ?rest4x12
  case hy4x12 => (intro w hSw; (try dsimp only at hSw); go_simp; try with_reducible rfl)
  (try simp only [Act.put, List.getElem_toArray, List.getElem_cons_zero, List.getElem_cons_succ, List.setIfInBounds_toArray, List.set_cons_zero, List.set_cons_succ])
  refine wpAnyH_take (i := 5) (v := ?va5x13) rfl (by kernel_rfl) (by kernel_rfl) (by kernel_rfl) (fun _ _ _ h => h) (Or.inl ⟨by rfl, ?hy5x13⟩) (by assumption) ?rest5x13
  case hy5x13 => (intro w hSw; (try dsimp only at hSw); go_simp; try with_reducible rfl)
  (try simp only [Act.put, List.getElem_toArray, List.getElem_cons_zero, List.getElem_cons_succ, List.setIfInBounds_toArray, List.set_cons_zero, List.set_cons_succ])
  refine wpAnyH_take (i := 6) (v := ?va6x14) rfl (by kernel_rfl) (by kernel_rfl) (by kernel_rfl) (fun _ _ _ h => h) (Or.inl ⟨by rfl, ?hy6x14⟩) (by assumption) ?rest6x14
  case hy6x14 => (intro w hSw; (try dsimp only at hSw); go_simp; try with_reducible rfl)
  (try simp only [Act.put, List.getElem_toArray, List.getElem_cons_zero, List.getElem_cons_succ, List.setIfInBounds_toArray, List.set_cons_zero, List.set_cons_succ])
  refine wpAnyH_take (i := 8) (v := ?va8x15) rfl (by kernel_rfl) (by kernel_rfl) (by kernel_rfl) (fun _ _ _ h => h) (Or.inl ⟨by rfl, ?hy8x15⟩) (by assumption) ?rest8x15
  case hy8x15 => (intro w hSw; (try dsimp only at hSw); go_simp; try with_reducible rfl)
  (try simp only [Act.put, List.getElem_toArray, List.getElem_cons_zero, List.getElem_cons_succ, List.setIfInBounds_toArray, List.set_cons_zero, List.set_cons_succ])
  refine wpAnyH_ready (rs := [7]) (by kernel_rfl) (by simp) ?_
  refine AllReadyH.cons rfl (fun K hK => ?_) AllReadyH.nil
  go_simp
  refine hK.out _ _ (cM) (fun hHeld => ?_)
  clear hK K
  (try simp only [Act.put, List.getElem_toArray, List.getElem_cons_zero, List.getElem_cons_succ, List.setIfInBounds_toArray, List.set_cons_zero, List.set_cons_succ])
  refine wpAnyH_take (i := 9) (v := ?va9x16) rfl (by kernel_rfl) (by kernel_rfl) (by kernel_rfl) (fun _ _ _ h => h) (Or.inl ⟨by rfl, ?hy9x16⟩) (by assumption) ?rest9x16
  case hy9x16 => (intro w hSw; (try dsimp only at hSw); go_simp; try with_reducible rfl)
  (try simp only [Act.put, List.getElem_toArray, List.getElem_cons_zero, List.getElem_cons_succ, List.setIfInBounds_toArray, List.set_cons_zero, List.set_cons_succ])
  refine wpAnyH_take (i := 10) (v := ?va10x17) rfl (by kernel_rfl) (by kernel_rfl) (by kernel_rfl) (fun _ _ _ h => h) (Or.inl ⟨by rfl, ?hy10x17⟩) (by assumption) ?rest10x17
  case hy10x17 => (intro w hSw; (try dsimp only at hSw); go_simp; try with_reducible rfl)
  (try simp only [Act.put, List.getElem_toArray, List.getElem_cons_zero, List.getElem_cons_succ, List.setIfInBounds_toArray, List.set_cons_zero, List.set_cons_succ])
  refine wpAnyH_ready (rs := [11]) (by kernel_rfl) (by simp) ?_
  refine AllReadyH.cons rfl (fun K hK => ?_) AllReadyH.nil
  go_simp
  first | rw [hmx] | skip
  refine hK.out _ _ (Row.cell RS.out 3) (fun hHeld => ?_)
  clear hK K
  (try simp only [Act.put, List.getElem_toArray, List.getElem_cons_zero, List.getElem_cons_succ, List.setIfInBounds_toArray, List.set_cons_zero, List.set_cons_succ])
  refine wpAnyH_done (by kernel_rfl) ?_ _
  clear hHeld
  generalize w2.setCell ⟨g, k, none⟩ (.int .i64 2) = w3 at *
  clear cM cC fC hmx RS
  go_wp2_with fail
  go_end0
  exact ⟨rfl, by rw [← HM.out]; exact S1.out, grownBy_trans G2.out (grownBy_trans S2.out (grown_drew _ _))⟩
set_option maxHeartbeats 1600000 in
theorem c_coloursAtStart (a b c : Value) (h : H) (w : World) (hA : HeapAt w a b c h) (hG : Ph.Good h) : Calls Try.prog 133 #[hv a b c] w fun e w' => ∃ v', e = .returned v' ∧ Own w' w.heap.size v' (startC h) ∧ Below w.heap.size w w' := by
  obtain ⟨i0, hi, hz0, hz1, hz2⟩ := info_parts info_int
  have hb0 := below1 w (.cells (c3 a b c) 30)
  have hn12 := hG.n
  have HR : Hid (∀ z ∈ h.r, inR h.f.length z) := fun z hz => (refs_bound hG hG.rr z hz).imp id (fun h => ⟨h.1, h.2.1⟩)
  have HRN : Hid (h.r.length ≤ 12) := by unfold Hid; have := hG.rn; omega
  have hll := hG.ll
  have HZ := Lib.hid hA.r
  have R0 := Lib.hid (show RowH _ _ a b c from Row.new w 30 (c3 a b c))
  have HB0 := Lib.hid hb0
  obtain ⟨la, lc, rfl⟩ := hA.l.shape
  obtain ⟨ra, rc, rfl⟩ := hA.r.shape
  have HS : Hid (startC h = shades (List.replicate h.f.length 0) h.r) := rfl
  generalize startC h = out at *
  clear hA hG hb0
  rw [hll] at *
  generalize hn : h.f.length = n at *
  generalize hm : h.r.length = m at *
  have HM := Lib.hid hm
  clear hn hm hll
  have d0 := R0.out.c0
  have d1 := R0.out.c1
  have d2 := R0.out.c2
  go_enter Try.func133, Try.ntmps133
  go_wp2_with (at_make; refine wpList_make_full _ rfl _ _ 24 rfl w.heap.size 3 i0 (.int .i64 0) 1 Try.underlying24 hi hz0 hz1 .i64 .i64 _ _ n rfl rfl rfl rfl (by rw [hz2]; omega) (by unfold maxLen; omega) (by simp) ?_; intro w1 hown hgr
               rw [rep_ints, show (w.alloc (.cells (c3 a (.slice la n lc) (.slice ra m rc)) 30)).heap.size = w.heap.size + 1 from World.size_alloc _ _] at hown
               have O1 : Hid (Own w1 w.heap.size (.slice (some ⟨w.heap.size + 1, 0, none⟩) n n) (List.replicate n 0)) := (by { unfold Hid Own; rw [List.length_replicate]; exact hown })
               have B1 := Lib.hid (HB0.out.grown hgr HB0.out.size (fun k hk => by cases hk))
               have R1 := Lib.hid (show RowH _ _ _ _ _ from (Row.grown R0.out hgr).alloc (.cells (c5 (.slice none 0 0) (.slice none 0 0) (.slice none 0 0) (.slice (some ⟨w.heap.size + 1, 0, none⟩) n n) .nilFunc) 113))
               have e2 := R1.out.c2
               have RM := Lib.hid (Row.new w1 113 (c5 (.slice none 0 0) (.slice none 0 0) (.slice none 0 0) (.slice (some ⟨w.heap.size + 1, 0, none⟩) n n) .nilFunc))
               have m0 := RM.out.cell 0
               have m1 := RM.out.cell 1
               have m2 := RM.out.cell 2
               have m3 := RM.out.cell 3
               have m4 := RM.out.cell 4
               clear hown hgr)
  have B2 := Lib.hid (B1.out.alloc B1.out.size (.cells (c5 (.slice none 0 0) (.slice none 0 0) (.slice none 0 0) (.slice (some ⟨w.heap.size + 1, 0, none⟩) n n) .nilFunc) 113))
  have O2 := Lib.hid (O1.out.below (below1 w1 (.cells (c5 (.slice none 0 0) (.slice none 0 0) (.slice none 0 0) (.slice (some ⟨w.heap.size + 1, 0, none⟩) n n) .nilFunc) 113)))
  have HNE : Hid (some (w.heap.size + 1) ≠ some w1.heap.size) := by unfold Hid; have : w.heap.size + 1 < w1.heap.size := (owns_lt O1.out rfl).2; simp; omega
  refine (c_shadeAll w _ _ _ _ _ _ _ h.r _ HZ.out B2.out O2.out (Col.rep n) (by rw [List.length_replicate]; exact HR.out) (by rw [HM.out]; exact HRN.out)).mono ?_
  rintro e w6 ⟨rfl, ho6, hg6⟩
  have O6 := Lib.hid ho6
  have B6 := Lib.hid (B2.out.grown hg6 B2.out.size (fun g e => (owns_lt O2.out e).1))
  have R6 := Row.grownBy RM.out hg6 HNE.out
  clear d0 d1 d2 e2 m0 m1 m2 m3 m4
  have m3 := R6.cell 3
  clear R6 ho6 hg6
  go_wp2_with fail
  go_ret
  exact ⟨_, rfl, by rw [HS.out]; exact O6.out, B6.out⟩
set_option maxHeartbeats 1600000 in
theorem c_StartColours (a b c : Value) (h : H) (w : World) (hA : HeapAt w a b c h) : Calls Try.prog 75 #[hv a b c] w (EndI (startR h) (good h) w) := by
  have hb0 := below1 w (.cells (c3 a b c) 30)
  have A0 := Lib.hid (hA.below hb0)
  have HB := Lib.hid hb0
  have R0 := Lib.hid (show RowH _ _ a b c from Row.new w 30 (c3 a b c))
  clear hA hb0
  have HC := Lib.hid (c_GoodHeap a b c h _ A0.out)
  generalize hg : good h = x at *
  have HX := Lib.hid hg
  clear hg
  have c0 := R0.out.c0
  have c1 := R0.out.c1
  have c2 := R0.out.c2
  cases x
  · have HE := Lib.hid (startR_no HX.out)
    go_enter Try.func75, Try.ntmps75
    go_wp2_with (go_at_call 55; refine HC.out.mono ?_; rintro e w1 ⟨rfl, hb1⟩; have B1 := Lib.hid (bst HB.out hb1 HB.out.size); clear hb1)
    go_ret2
    exact endI_no B1.out HE.out rfl
  · have HE := Lib.hid (startR_yes HX.out)
    have G := Lib.hid (good_iff.1 HX.out)
    go_enter Try.func75, Try.ntmps75
    go_wp2_with (go_at_call 55; refine HC.out.mono ?_; rintro e w1 ⟨rfl, hb1⟩; have B1 := Lib.hid (bst HB.out hb1 HB.out.size); have A1 := Lib.hid (A0.out.below hb1); have R1 := R0.out.below hb1; have d0 := R1.c0; have d1 := R1.c1; have d2 := R1.c2; clear hb1 R1)
    refine (c_coloursAtStart a b c h _ A1.out G.out).mono ?_
    rintro e w2 ⟨v', rfl, ho2, hb2⟩
    have B2 := Lib.hid (bst B1.out hb2 B1.out.size); have O2 := Lib.hid ho2
    clear hb2 ho2
    go_wp2_with fail
    go_ret2
    exact endI_yes B2.out O2.out B1.out.size HE.out rfl
set_option maxHeartbeats 1600000 in
theorem c_areColoursOf (a b c v : Value) (h : H) (cs : List Int) (w : World) (hA : HeapAt w a b c h) (hz : IntsAt w v cs) : Calls Try.prog 101 #[hv a b c, v] w fun e w' => e = .returned (.bool (bothB h cs)) ∧ Below w.heap.size w w' := by
  have hb0 := below1 w (.cells (c3 a b c) 30)
  have A0 := Lib.hid (hA.below hb0)
  have Z0 := Lib.hid (hz.below hb0)
  have HB := Lib.hid hb0
  have R0 := Lib.hid (show RowH _ _ a b c from Row.new w 30 (c3 a b c))
  obtain ⟨la, lc, rfl⟩ := hA.l.shape
  obtain ⟨va, vc, rfl⟩ := hz.shape
  clear hA hb0 hz
  have HC := Lib.hid (c_GoodHeap _ _ _ h _ A0.out)
  have HCA : Hid (∀ w', IntsAt w' (.slice va cs.length vc) cs → Calls Try.prog 146 #[.slice va cs.length vc] w' fun e w'' => e = .returned (.bool (colsB cs)) ∧ w' = w'') := fun w' hh => c_areColours _ cs w' hh
  have hE : bothB h cs = (good h && decide (cs.length = h.l.length) && colsB cs) := rfl
  generalize good h = x at *
  generalize colsB cs = y at *
  generalize bothB h cs = r at *
  generalize h.l.length = n at *
  generalize cs.length = m at *
  have c0 := R0.out.c0
  have c1 := R0.out.c1
  have c2 := R0.out.c2
  cases x
  · have HE : Hid (r = false) := by unfold Hid; rw [hE]; rfl
    clear hE
    go_enter Try.func101, Try.ntmps101
    go_wp2_with (go_at_call 55; refine HC.out.mono ?_; rintro e w1 ⟨rfl, hb1⟩; have B1 := Lib.hid (bst HB.out hb1 HB.out.size); clear hb1)
    go_ret
    exact ⟨r_b HE.out.symm, B1.out⟩
  · by_cases hmn : m = n
    · subst hmn
      have HE : Hid (r = y) := by unfold Hid; rw [hE, decide_eq_true rfl]; rfl
      clear hE
      have hq : ((m : Int) == (m : Int)) = true := by simp
      go_enter Try.func101, Try.ntmps101
      go_wp2_with (first
        | (go_at_call 55; refine HC.out.mono ?_; rintro e w1 ⟨rfl, hb1⟩; have B1 := Lib.hid (bst HB.out hb1 HB.out.size); have Z1 := Lib.hid (Z0.out.below hb1); have R1 := R0.out.below hb1; have d1 := R1.c1; clear hb1 R1)
        | (go_at_call 146; refine (HCA.out _ Z1.out).mono ?_; rintro e w2 ⟨rfl, rfl⟩))
      go_ret
      exact ⟨r_b HE.out.symm, B1.out⟩
    · have HE : Hid (r = false) := by unfold Hid; rw [hE, decide_eq_false hmn]; simp
      clear hE
      have hq : ((m : Int) == (n : Int)) = false := by simp; omega
      go_enter Try.func101, Try.ntmps101
      go_wp2_with (go_at_call 55; refine HC.out.mono ?_; rintro e w1 ⟨rfl, hb1⟩; have B1 := Lib.hid (bst HB.out hb1 HB.out.size); have R1 := R0.out.below hb1; have d1 := R1.c1; clear hb1 R1)
      go_ret
      exact ⟨r_b HE.out.symm, B1.out⟩
end Go.Proofs.Ytkkigoamphkalaa
namespace Go.Proofs.Ytkkigoamphkalaa
open Go.RowKit Ph

theorem info_marker : (Try.prog.info? 113).map (·.size) = some 5 := by kernel_rfl
theorem chgRow (w : World) (g : Nat) (cs : Array Value) : Chg g (g + 1) w (w.setRow g cs) :=
  have bb := below_setRow (Below.refl g w) (Nat.le_refl _) cs
  ⟨bb.os, bb.tape, bb.output, bb.size, fun i _ hx => setRow_other w g i cs (by omega)⟩
theorem Own.chg {w w' : World} {B lo hi : Nat} {v : Value} {zs : List Int} (h : Own w B v zs) (hc : Chg lo hi w w') (hn : ∀ g, v.ownBlock = some g → g < lo ∨ hi ≤ g) : Own w' B v zs := owns_block h fun g hg => hc.block g (owns_lt h hg).2 (hn g hg)
end Go.Proofs.Ytkkigoamphkalaa
namespace Go.Proofs.Ytkkigoamphkalaa.Ph
def newS (h : H) (m : Nat) : H × Int := if placeOf h.l < h.l.length then (put1 h (placeOf h.l) m, (placeOf h.l : Int)) else if h.f.length = 12 then (h, -1) else (⟨h.f ++ [List.replicate m (-1)], h.l ++ [true], h.r⟩, (h.f.length : Int))
/-- The first j of m numbers are -1, the others 0. -/
def fillN (m j : Nat) : List Int := List.replicate j (-1) ++ List.replicate (m - j) 0
theorem fillN_zero (m : Nat) : fillN m 0 = List.replicate m 0 := by simp [fillN]
theorem fillN_all (m : Nat) : fillN m m = List.replicate m (-1) := by simp [fillN]
theorem fillN_len {m j : Nat} (h : j ≤ m) : (fillN m j).length = m := by simp [fillN]; omega
theorem fillN_set {m j : Nat} (h : j < m) : (fillN m j).set j (-1) = fillN m (j + 1) := by
  unfold fillN
  have e : List.replicate (m - j) (0 : Int) = 0 :: List.replicate (m - (j + 1)) 0 := by
    rw [show m - j = (m - (j + 1)) + 1 by omega, List.replicate_succ]
  rw [List.set_append_right j _ (by simp), List.length_replicate, Nat.sub_self, e, List.set_cons_zero]
  rw [List.replicate_succ' (n := j), List.append_assoc]; rfl
end Go.Proofs.Ytkkigoamphkalaa.Ph
namespace Go.Proofs.Ytkkigoamphkalaa
open Go.RowKit Ph

theorem rfl' {v : Value} {h h' : H} {m : Nat} {z : Int} (k : newS h m = (h', z)) : Ending.returned (.tuple #[v, .int .i64 z]) = .returned (.tuple #[v, .int .i64 (newS h m).2]) := by rw [k]
set_option maxRecDepth 100000 in
set_option maxHeartbeats 6400000 in
theorem s_l5New (a b c : Value) (h : H) (m lo hi : Nat) (w : World) (hO : OwnH w lo hi a b c h) (hl : lo ≤ hi) (hs : hi ≤ w.heap.size) (hn : h.f.length ≤ 12) (hll : h.l.length = h.f.length) (hm : m ≤ 3) :
    Calls Try.prog 129 #[hv a b c, .int .i64 (m : Int)] w fun e w' => ∃ a' b' c', e = .returned (.tuple #[hv a' b' c', .int .i64 (newS h m).2]) ∧ OwnH w' lo w'.heap.size a' b' c' (newS h m).1 ∧ Below lo w w' ∧ ∀ g cs, Row w g 30 cs → Row w' g 30 cs := by
  obtain ⟨i0, hi0, hz0, hz1, hz2⟩ := info_parts info_int
  obtain ⟨⟨pa, qa, rfl⟩, ⟨pb, qb, rfl⟩, ⟨pc, qc, rfl⟩⟩ := hO.shapes
  have HP := Lib.hid (fun k => place_of (l := h.l) (k := k)); have HQ := Lib.hid (place_none (l := h.l))
  have HNS : Hid (newS h m = if placeOf h.l < h.l.length then (put1 h (placeOf h.l) m, (placeOf h.l : Int)) else if h.f.length = 12 then (h, -1) else (⟨h.f ++ [List.replicate m (-1)], h.l ++ [true], h.r⟩, (h.f.length : Int))) := rfl
  have HNL := Lib.hid hll
  rw [hll] at HNS hO ⊢
  clear hll
  generalize hnn : h.f.length = n at *
  have HNF := Lib.hid hnn
  clear hnn
  generalize h.r.length = nr at *
  have hb0 : Below w.heap.size w ((w.alloc (.cells (c3 (.slice pa n qa) (.slice pb n qb) (.slice pc nr qc)) 30)).alloc (.cells (c3 (.slice none 0 0) (.slice none 0 0) (.slice none 0 0)) 30)) := (below1 w (.cells (c3 (.slice pa n qa) (.slice pb n qb) (.slice pc nr qc)) 30)).alloc (by simp) (.cells (c3 (.slice none 0 0) (.slice none 0 0) (.slice none 0 0)) 30)
  have O0 := Lib.hid (hO.below hb0)
  have B0 := Lib.hid hb0
  have P0 := Lib.hid (show RowH _ _ (.slice pa n qa) (.slice pb n qb) (.slice pc nr qc) from (Row.new w 30 (c3 (.slice pa n qa) (.slice pb n qb) (.slice pc nr qc))).alloc (.cells (c3 (.slice none 0 0) (.slice none 0 0) (.slice none 0 0)) 30))
  have R0 := Lib.hid (show RowH _ (w.heap.size + 1) (.slice none 0 0) (.slice none 0 0) (.slice none 0 0) from Row.new1 w (.cells (c3 (.slice pa n qa) (.slice pb n qb) (.slice pc nr qc)) 30) 30 (c3 (.slice none 0 0) (.slice none 0 0) (.slice none 0 0)))
  have HL := Lib.hid hl; have HS := Lib.hid hs
  have hw0 : ((w.alloc (.cells (c3 (.slice pa n qa) (.slice pb n qb) (.slice pc nr qc)) 30)).alloc (.cells (c3 (.slice none 0 0) (.slice none 0 0) (.slice none 0 0)) 30)).heap.size = w.heap.size + 1 + 1 := by simp
  have HW0 := Lib.hid hw0
  clear hO hb0 hl hs hw0
  go_enter Try.func129, Try.ntmps129
  go_wp2_with (at_make; refine wpList_make_full _ rfl _ _ 24 rfl w.heap.size 3 i0 (.int .i64 0) 1 Try.underlying24 hi0 hz0 hz1 .i64 .i64 _ _ m rfl rfl rfl rfl (by rw [hz2]; omega) (by unfold maxLen; omega) (by rw [HW0.out]; omega) ?_; intro w1 hown hgr
               rw [rep_ints, HW0.out] at hown
               have U1 : Hid (Own w1 w.heap.size (.slice (some ⟨w.heap.size + 1 + 1, 0, none⟩) m m) (List.replicate m 0)) := (by { unfold Hid Own; rw [List.length_replicate]; exact hown })
               have bb1 := (Below.refl ((w.alloc (.cells (c3 (.slice pa n qa) (.slice pb n qb) (.slice pc nr qc)) 30)).alloc (.cells (c3 (.slice none 0 0) (.slice none 0 0) (.slice none 0 0)) 30)).heap.size ((w.alloc (.cells (c3 (.slice pa n qa) (.slice pb n qb) (.slice pc nr qc)) 30)).alloc (.cells (c3 (.slice none 0 0) (.slice none 0 0) (.slice none 0 0)) 30))).grown hgr (Nat.le_refl _) (fun k hk => by cases hk)
               have B1 := Lib.hid (bst B0.out bb1 B0.out.size)
               have O1 := Lib.hid (O0.out.below bb1)
               have P1 := Lib.hid (P0.out.below bb1)
               have R1 := Lib.hid (R0.out.below bb1)
               clear hown hgr bb1)
  clear B0 O0 P0 R0
  go_loopw [14] (fun i wr => ∃ j : Nat, j ≤ m ∧ i = .int .i64 j ∧ Hid (Own wr w.heap.size (.slice (some ⟨w.heap.size + 1 + 1, 0, none⟩) m m) (fillN m j)) ∧ Hid (Below w.heap.size w wr) ∧ Hid (OwnH wr lo hi (.slice pa n qa) (.slice pb n qb) (.slice pc nr qc) h) ∧ Hid (RowH wr w.heap.size (.slice pa n qa) (.slice pb n qb) (.slice pc nr qc)) ∧ Hid (RowH wr (w.heap.size + 1) (.slice none 0 0) (.slice none 0 0) (.slice none 0 0))) (fun i _ => m - (intOf i).toNat)
  case atStart => exact ⟨0, Nat.zero_le _, rfl, by rw [fillN_zero]; exact U1, B1, O1, P1, R1⟩
  case round =>
    obtain ⟨j, hj, rfl, hU, hB, hO, hP, hR⟩ := hrel
    by_cases hlt : j < m
    · obtain ⟨s1, s2, s3, s4⟩ := hU.out.store1 (fillN_len hj) hlt (-1)
      rw [fillN_set hlt] at s1
      have B2 := Lib.hid (hB.out.grown s2 hB.out.size (fun k hk => by cases hk; omega))
      have cc := Chg.of_grown (lo := w.heap.size + 1 + 1) (hi := w.heap.size + 1 + 1 + 1) s2 (fun k hk => by cases hk; omega)
      have O2 := Lib.hid (hO.out.chg cc (.inl (by have := HS.out; omega)))
      have P2 := Lib.hid (show RowH _ _ _ _ _ from Row.chg hP.out cc (.inl (by omega)))
      have R2 := Lib.hid (show RowH _ _ _ _ _ from Row.chg hR.out cc (.inl (by omega)))
      have S1 := Lib.hid s1
      have i1 : (j : Int) < (m : Int) := by omega
      clear s1 s2 cc
      generalize (fillN m j).getD j 0 = x at *
      go_wp2_with fail
      go_roundw
      case rel => exact ⟨j + 1, by omega, by go_num, S1, B2, O2, P2, R2⟩
      case measure => simp [intOf]; omega
    obtain rfl : j = m := by omega
    rw [fillN_all] at hU
    generalize hrow : List.replicate j (-1 : Int) = row at *
    have HROW := Lib.hid hrow; clear hrow
    have d0 := hP.out.c0
    have d1 := hP.out.c1
    have hUl : Hid (w.heap.size + 1 + 1 < wr.heap.size) := (owns_lt hU.out rfl).2
    clear hlt
    go_wp2_with fail
    generalize hws : w.heap.size = W at *
    go_loop [24] (fun i => ∃ k : Nat, k ≤ n ∧ i = .int .i64 k ∧ Hid (∀ i, i < k → h.l.getD i false = true)) (fun i => n - (intOf i).toNat)
    case atStart => exact ⟨0, Nat.zero_le _, rfl, fun i hi => by omega⟩
    case round =>
      obtain ⟨k, hk, rfl, hall⟩ := hrel
      by_cases hkn : k < n
      · obtain ⟨gb, cb, hbv, qb1, fb1, oL, cL⟩ := putLiveB hO.out (j := k) (by rw [HNL.out]; exact hkn) true
        rw [HNL.out] at hbv
        cases hbv
        have hgP : gb ≠ W := OwnH.liveNe hO.out hP.out
        have hgR : gb ≠ W + 1 := OwnH.liveNe hO.out hR.out
        have i1 : (k : Int) < (n : Int) := by omega
        have i00 : (0 : Int) ≤ (k : Int) := by omega
        generalize hx : h.l.getD k false = x at *
        have HX := Lib.hid hx; clear hx
        cases x
        · have hp := HP.out k (by rw [HNL.out]; exact hkn) hall.out HX.out
          have HE : Hid (newS h j = (put1 h k j, (k : Int))) := by unfold Hid; rw [HNS.out, hp, if_pos hkn]
          clear hp
          have P2 : RowH _ _ _ _ _ := Row.other hP.out ⟨gb, k, none⟩ (Ne.symm hgP) (.bool true)
          have R2 : RowH _ _ _ _ _ := Row.other hR.out ⟨gb, k, none⟩ (Ne.symm hgR) (.bool true)
          have U2 : Own _ W (.slice (some ⟨W + 1 + 1, 0, none⟩) j j) row := Own.chg hU.out cL (fun g' e => .inr (by have e' : some (W + 1 + 1) = some g' := e; cases e'; have := HS.out; omega))
          have B2 := below_chg (hB.out.mono (show lo ≤ W by have := HL.out; have := HS.out; omega)) cL (Nat.le_refl _) (by have := HL.out; have := HS.out; have := hUl.out; omega)
          have sz2 := World.size_setCell wr ⟨gb, k, none⟩ (.bool true)
          obtain ⟨ga, ca, xx, hax, qf1, ff1, hlo, hap, oN⟩ := putRow1 oL (j := k) (by simp only; rw [HNF.out]; exact hkn) (U2.mono HS.out) HL.out (by rw [sz2]; have := HS.out; have := hUl.out; omega)
          simp only [HNF.out] at hax
          cases hax
          have hga1 : ga ≠ W := hap _ _ P2
          have hga2 : ga ≠ W + 1 := hap _ _ R2
          have P3 := Lib.hid (show RowH _ _ _ _ _ from Row.other P2 ⟨ga, k, none⟩ (Ne.symm hga1) (.slice (some ⟨W + 1 + 1, 0, none⟩) j j))
          have R3 := Lib.hid (show RowH _ _ _ _ _ from Row.other R2 ⟨ga, k, none⟩ (Ne.symm hga2) (.slice (some ⟨W + 1 + 1, 0, none⟩) j j))
          have B3 := Lib.hid (B2.setCell (p := ⟨ga, k, none⟩) hlo (.slice (some ⟨W + 1 + 1, 0, none⟩) j j))
          have O3 := Lib.hid oN
          have sz3 := Lib.hid (World.size_setCell (wr.setCell ⟨gb, k, none⟩ (.bool true)) ⟨ga, k, none⟩ (.slice (some ⟨W + 1 + 1, 0, none⟩) j j))
          have HRW : Hid (∀ g cs, Row w g 30 cs → Row (((wr.setCell ⟨gb, k, none⟩ (.bool true)).setCell ⟨ga, k, none⟩ (.slice (some ⟨W + 1 + 1, 0, none⟩) j j)).setRow (W + 1) (c3 (.slice (some ⟨ga, 0, none⟩) n qa) (.slice (some ⟨gb, 0, none⟩) n qb) (.slice pc nr qc))) g 30 cs) := fun g cs hr => by
            have hgl : g < W := by have := hr.lt; omega
            have r1 := Row.below' hr hB.out hgl
            have r2 := Row.other r1 ⟨gb, k, none⟩ (Ne.symm (OwnH.liveNe hO.out r1)) (.bool true)
            exact Row.putOther (Row.other r2 ⟨ga, k, none⟩ (Ne.symm (hap _ _ r2)) _) _ (by omega)
          have HO3 : Hid (put1 h k j = ⟨h.f.set k row, h.l.set k true, h.r⟩) := by unfold Hid put1; rw [HROW.out]
          have e0 := P2.c0
          clear oL cL P2 R2 U2 B2 oN hap sz2
          go_wp2_with (first
            | (refine wl_loadH rfl _ rfl W _ _ _ P3.out rfl ?_)
            | (refine wl_storeH rfl _ _ rfl (W + 1) (.slice (some ⟨ga, 0, none⟩) n qa) (.slice (some ⟨gb, 0, none⟩) n qb) (.slice pc nr qc) _ _ _ R3.out rfl rfl rfl rfl rfl ?_))
          refine bodyPost_ret (res_row_slot Try.results129 (Row.put R3.out (c3 (.slice (some ⟨ga, 0, none⟩) n qa) (.slice (some ⟨gb, 0, none⟩) n qb) (.slice pc nr qc))) rfl rfl Try.underlying30 rfl info_heap) rfl ⟨_, _, _, rfl' HE.out, ?_, below_setRow B3.out (by have := HL.out; have := HS.out; omega) _, HRW.out⟩
          rw [HE.out, HO3.out]
          exact (O3.out.wholeRow R3.out _).wide (Nat.le_refl _) (by rw [size_setRow, sz3.out]; exact Nat.le_refl _)
        · have HA : Hid (∀ i, i < k + 1 → h.l.getD i false = true) := fun i hi => by
            by_cases e : i = k
            · subst e; exact HX.out
            · exact hall.out i (by omega)
          clear oL cL
          go_wp2_with fail
          go_round
          case rel => exact ⟨k + 1, by omega, by go_num, HA⟩
          case measure => simp [intOf]; omega
      · have hpn := HQ.out (fun i hi => hall.out i (by rw [HNL.out] at hi; omega))
        have HE0 : Hid (newS h j = if n = 12 then (h, -1) else (⟨h.f ++ [row], h.l ++ [true], h.r⟩, (n : Int))) := by unfold Hid; rw [HNS.out, hpn, HNL.out, if_neg (Nat.lt_irrefl _)]
        clear hpn
        by_cases h12 : n = 12
        · have HE : Hid (newS h j = (h, -1)) := by unfold Hid; rw [HE0.out, if_pos h12]
          have hq : ((n : Int) == 12) = true := by simp; omega
          have HRW : Hid (∀ g cs, Row w g 30 cs → Row (wr.setRow (W + 1) (c3 (.slice pa n qa) (.slice pb n qb) (.slice pc nr qc))) g 30 cs) := fun g cs hr => by
            have hgl : g < W := by have := hr.lt; omega
            exact Row.putOther (Row.below' hr hB.out hgl) _ (by omega)
          clear h12
          go_wp2_with (first
            | (refine wl_loadH rfl _ rfl W _ _ _ hP.out rfl ?_)
            | (refine wl_storeH rfl _ _ rfl (W + 1) (.slice pa n qa) (.slice pb n qb) (.slice pc nr qc) _ _ _ hR.out rfl rfl rfl rfl rfl ?_))
          refine bodyPost_ret (res_row_slot Try.results129 (Row.put hR.out (c3 (.slice pa n qa) (.slice pb n qb) (.slice pc nr qc))) rfl rfl Try.underlying30 rfl info_heap) rfl ⟨_, _, _, rfl' HE.out, ?_, below_setRow (hB.out.mono (show lo ≤ W by have := HL.out; have := HS.out; omega)) (by have := HL.out; have := HS.out; omega) _, HRW.out⟩
          rw [HE.out]
          exact (hO.out.wholeRow hR.out _).wide (Nat.le_refl _) (by rw [size_setRow]; have := HS.out; have := hUl.out; omega)
        · have HE : Hid (newS h j = (⟨h.f ++ [row], h.l ++ [true], h.r⟩, (n : Int))) := by unfold Hid; rw [HE0.out, if_neg h12]
          have hq : ((n : Int) == 12) = false := by simp; omega
          have hloW : lo ≤ W := by have := HL.out; have := HS.out; omega
          have hWr := hUl.out
          have X0 : OwnX wr lo wr.heap.size (.slice pa n qa) (.slice pb n qb) (.slice pc nr qc) (.slice (some ⟨W + 1 + 1, 0, none⟩) j j) h row := OwnX.of hO.out (hU.out.mono hloW) (fun g e => by have e' : some (W + 1 + 1) = some g := e; cases e'; have := HS.out; omega) (by have := HS.out; omega)
          have BL := hB.out.mono hloW
          obtain ⟨v1, w1e, hr1, x1, rows1, bel1, sz1, _⟩ := X0.live (by omega) (Nat.le_refl _) (by rw [HNL.out]; omega) true 23
          have V1 : RowH _ _ _ _ _ := rows1 _ _ hP.out
          have R1 : RowH _ _ _ _ _ := rows1 _ _ hR.out
          have B1 := bel1 _ _ (Nat.le_refl _) BL
          have s1c := V1.c1
          have s1f := Row.frozen V1 1
          have x2 := x1.cellRow V1 1 v1
          have V2 := RowH.set1 V1 v1
          have R2 : RowH (w1e.setCell ⟨W, 1, none⟩ v1) (W + 1) (.slice none 0 0) (.slice none 0 0) (.slice none 0 0) := Row.other R1 ⟨W, 1, none⟩ (by simp) v1
          have B2 := B1.setCell (p := ⟨W, 1, none⟩) hloW v1
          have hsz2 := World.size_setCell w1e ⟨W, 1, none⟩ v1
          obtain ⟨v2, w2e, hr2, o3, rows3, bel3, sz3⟩ := x2.rows (by omega) (by rw [hsz2]; exact Nat.le_refl _) (by simp only; rw [HNF.out]; omega) rfl 22
          rw [hsz2] at hr2 sz3
          have V3 : RowH _ _ _ _ _ := rows3 _ _ V2
          have R3 : RowH _ _ _ _ _ := rows3 _ _ R2
          have B3 := bel3 _ _ (Nat.le_refl _) B2
          have s2a := V2.c0
          have s3c := V3.c0
          have s3f := Row.frozen V3 0
          have O4 := o3.cellRow V3 0 v2
          have V4 := RowH.set0 V3 v2
          have R4 : RowH (w2e.setCell ⟨W, 0, none⟩ v2) (W + 1) (.slice none 0 0) (.slice none 0 0) (.slice none 0 0) := Row.other R3 ⟨W, 0, none⟩ (by simp) v2
          have B4 := B3.setCell (p := ⟨W, 0, none⟩) hloW v2
          have hfl2 : (h.f ++ [row]).length = n + 1 := by simp [HNF.out]
          obtain ⟨⟨pa2, qa2, hv2⟩, ⟨pb2, qb2, hv1⟩, _⟩ := O4.shapes
          simp only [hfl2] at hv2
          subst hv2
          generalize hnb : (⟨h.f ++ [row], h.l ++ [true], h.r⟩ : H).l.length = nb2 at *
          subst hv1
          have HRW : Hid (∀ g cs, Row w g 30 cs → g ≠ W → Row (w2e.setCell ⟨W, 0, none⟩ (.slice pa2 (n + 1) qa2)) g 30 cs) := fun g cs hr hgw => by
            have hgl : g < W := by have := hr.lt; omega
            have r1 := rows1 _ _ (Row.below' hr hB.out hgl)
            have r2 := Row.other r1 ⟨W, 1, none⟩ (by simpa using hgw) (.slice pb2 nb2 qb2)
            exact Row.other (rows3 _ _ r2) ⟨W, 0, none⟩ (by simpa using hgw) _
          have HRL : Hid (∀ g cs, Row w g 30 cs → g < W) := fun g cs hr => by have := hr.lt; omega
          have OY := Lib.hid O4; have VY := Lib.hid V4; have RY := Lib.hid R4; have BY := Lib.hid B4; have HR1 := Lib.hid hr1; have HR2 := Lib.hid hr2
          have HSY : Hid (w2e.heap.size ≤ (w2e.setCell ⟨W, 0, none⟩ (.slice pa2 (n + 1) qa2)).heap.size) := by unfold Hid; rw [World.size_setCell]; exact Nat.le_refl _
          have hwr2 : IntKind.i64.wrap (n : Int) = (n : Int) := IntWalk.i64_in _ (by omega)
          have hwr1 : IntKind.i64.wrap (((n + 1 : Nat) : Int) - 1) = (n : Int) := by rw [IntWalk.i64_in _ (by omega)]; omega
          clear O4 V4 R4 B4 V1 R1 B1 V2 R2 B2 V3 R3 B3 rows1 rows3 bel1 bel3 hr1 hr2 hsz2 sz1 sz3 x1 x2 X0 BL o3 hfl2 hnb h12
          go_wp2_with (first
            | (at_builtin; refine wl_appRun rfl _ _ 23 rfl rfl rfl HR1.out ?_)
            | (at_builtin; refine wl_appRun rfl _ _ 22 rfl rfl rfl HR2.out ?_))
          generalize (w2e.setCell ⟨W, 0, none⟩ (.slice pa2 (n + 1) qa2)) = wY at *
          have VD : Hid (RowH wY.drew W (.slice pa2 (n + 1) qa2) (.slice pb2 nb2 qb2) (.slice pc nr qc)) := VY.out
          have RD : Hid (RowH wY.drew (W + 1) (.slice none 0 0) (.slice none 0 0) (.slice none 0 0)) := RY.out
          have BD := Lib.hid (below_drew BY.out)
          have OD := Lib.hid (OY.out.below (below_drew (Below.refl wY.heap.size wY)))
          have HRD : Hid (∀ g cs, Row w g 30 cs → g ≠ W → Row wY.drew g 30 cs) := HRW.out
          have HSZ : Hid (w2e.heap.size ≤ wY.drew.heap.size) := HSY
          have y0 := VD.out.c0
          have y1 := VD.out.c1
          have y2 := VD.out.c2
          refine wp_region_held_drew (S := (fun w' => w'.cell? ⟨W, 0, none⟩ = some (.slice pa2 (n + 1) qa2) ∧ w'.cell? ⟨W, 1, none⟩ = some (.slice pb2 nb2 qb2) ∧ w'.cell? ⟨W, 2, none⟩ = some (.slice pc nr qc))) (by kernel_rfl) (⟨y0, y1, y2⟩) (fun hHeld => ?_)
          refine wpAnyH_take (i := 0) (v := ?va0x1) rfl (by kernel_rfl) (by kernel_rfl) (by kernel_rfl) (fun _ _ _ h => h) (Or.inl ⟨by rfl, ?hy0x1⟩) (by assumption) ?rest0x1
          case hy0x1 => (intro w hSw; (try dsimp only at hSw); go_simp; try with_reducible rfl)
          (try simp only [Act.put, List.getElem_toArray, List.getElem_cons_zero, List.setIfInBounds_toArray, List.set_cons_zero, List.set_cons_succ])
          refine wpAnyH_take (i := 1) (v := ?va1x2) rfl (by kernel_rfl) (by kernel_rfl) (by kernel_rfl) (fun _ _ _ h => h) (Or.inl ⟨by rfl, ?hy1x2⟩) (by assumption) ?rest1x2
          case hy1x2 => (intro w hSw; (try dsimp only at hSw); go_simp; try with_reducible rfl)
          (try simp only [Act.put, List.getElem_toArray, List.getElem_cons_zero, List.getElem_cons_succ, List.setIfInBounds_toArray, List.set_cons_zero, List.set_cons_succ])
          refine wpAnyH_take (i := 2) (v := ?va2x3) rfl (by kernel_rfl) (by kernel_rfl) (by kernel_rfl) (fun _ _ _ h => h) (Or.inl ⟨by rfl, ?hy2x3⟩) (by assumption) ?rest2x3
          case hy2x3 => (intro w hSw; (try dsimp only at hSw); go_simp; try with_reducible rfl)
          (try simp only [Act.put, List.getElem_toArray, List.getElem_cons_zero, List.getElem_cons_succ, List.setIfInBounds_toArray, List.set_cons_zero, List.set_cons_succ])
          refine wpAnyH_take (i := 3) (v := ?va3x4) rfl (by kernel_rfl) (by kernel_rfl) (by kernel_rfl) (fun _ _ _ h => h) (Or.inl ⟨by rfl, ?hy3x4⟩) (by assumption) ?rest3x4
          case hy3x4 => (intro w hSw; (try dsimp only at hSw); go_simp; try with_reducible rfl)
          (try simp only [Act.put, List.getElem_toArray, List.getElem_cons_zero, List.getElem_cons_succ, List.setIfInBounds_toArray, List.set_cons_zero, List.set_cons_succ])
          refine wpAnyH_take (i := 4) (v := ?va4x5) rfl (by kernel_rfl) (by kernel_rfl) (by kernel_rfl) (fun _ _ _ h => h) (Or.inl ⟨by rfl, ?hy4x5⟩) (by assumption) ?rest4x5
          case hy4x5 => (intro w hSw; (try dsimp only at hSw); go_simp; try with_reducible rfl)
          (try simp only [Act.put, List.getElem_toArray, List.getElem_cons_zero, List.getElem_cons_succ, List.setIfInBounds_toArray, List.set_cons_zero, List.set_cons_succ])
          have hch := chgRow wY.drew (W + 1) (c3 (.slice pa2 (n + 1) qa2) (.slice pb2 nb2 qb2) (.slice pc nr qc))
          have VN := Lib.hid (show RowH _ _ _ _ _ from Row.chg VD.out hch (.inl (by omega)))
          clear hch
          refine wpAnyH_ready (rs := [5]) (by kernel_rfl) (by simp) ?_
          refine AllReadyH.cons rfl (fun K hK => ?_) AllReadyH.nil
          refine wp_store_row 30 _ _ rfl (W + 1) (c3 (.slice pa2 (n + 1) qa2) (.slice pb2 nb2 qb2) (.slice pc nr qc)) rfl rfl 30 _ RD.out info_heap rfl (by simp [Value.oneCell']) ?_
          refine hK.out _ _ ⟨VN.out.c0, VN.out.c1, VN.out.c2⟩ (fun hHeld => ?_)
          clear hK K
          (try simp only [Act.put, List.getElem_toArray, List.getElem_cons_zero, List.getElem_cons_succ])
          refine wpAnyH_take (i := 6) (v := ?va6x6) rfl (by kernel_rfl) (by kernel_rfl) (by kernel_rfl) (fun _ _ _ h => h) (Or.inl ⟨by rfl, ?hy6x6⟩) (by assumption) ?rest6x6
          case hy6x6 => (intro w hSw; (try dsimp only at hSw); go_simp; try with_reducible rfl)
          (try simp only [Act.put, List.getElem_toArray, List.getElem_cons_zero, List.getElem_cons_succ, List.setIfInBounds_toArray, List.set_cons_zero, List.set_cons_succ])
          refine wpAnyH_done (by kernel_rfl) ?_ _
          clear hHeld y0 y1 y2
          generalize wY.drew = wZ at *
          go_wp2_with fail
          refine bodyPost_ret (res_row_slot Try.results129 (Row.put RD.out (c3 (.slice pa2 (n + 1) qa2) (.slice pb2 nb2 qb2) (.slice pc nr qc))) rfl rfl Try.underlying30 rfl info_heap) rfl ⟨_, _, _, rfl' HE.out, ?_, below_setRow BD.out (by omega) _, fun g cs hr => ?_⟩
          · rw [HE.out]
            exact (OD.out.wholeRow RD.out _).wide (Nat.le_refl _) (by rw [size_setRow]; exact HSZ.out)
          · have := HRL.out g cs hr
            exact Row.putOther (HRD.out g cs hr (by omega)) _ (by omega)
end Go.Proofs.Ytkkigoamphkalaa
