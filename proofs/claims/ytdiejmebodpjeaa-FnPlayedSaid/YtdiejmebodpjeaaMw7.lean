/- TakeRun and GiveRun, the project's. -/
import Derived.Test.YtdiejmebodpjeaaMw6
namespace Go.Proofs.Ytdiejmebodpjeaa.Pr
def takeR (rs : List R) (long : Int) : Option (List R × Int) := if good 0 rs = true ∧ 1 ≤ long ∧ long ≤ 32 then (bestOf long rs).map fun b => (takeL rs long b, b.1) else none
def giveR (rs : List R) (r : R) : Option (List R) := if good 0 rs = true ∧ okR r = true ∧ meetsR rs r = false then some (giveL rs r) else none
theorem takeR_some {rs : List R} {long : Int} {ts : List R} {p : Int} (h : takeR rs long = some (ts, p)) : good 0 rs = true ∧ 1 ≤ long ∧ long ≤ 32 ∧ ∃ b, bestOf long rs = some b ∧ ts = takeL rs long b ∧ p = b.1 := by
  unfold takeR at h
  split at h
  · rename_i c
    obtain ⟨b, hb, e⟩ := Option.map_eq_some_iff.1 h
    simp only [Prod.mk.injEq] at e
    exact ⟨c.1, c.2.1, c.2.2, b, hb, e.1.symm, e.2.symm⟩
  · cases h
theorem takeR_good {rs : List R} {long : Int} {ts : List R} {p : Int} (h : takeR rs long = some (ts, p)) : good 0 ts = true ∧ 0 ≤ p ∧ p ≤ 31 := by
  obtain ⟨h1, h2, h3, b, hb, rfl, rfl⟩ := takeR_some h
  have := (okR_iff _).1 (good_mem h1 _ (bestOf_some hb).1).1
  exact ⟨takeL_good b h2 h1, by omega, by omega⟩
theorem giveR_some {rs : List R} {r : R} {ts : List R} (h : giveR rs r = some ts) : good 0 rs = true ∧ okR r = true ∧ meetsR rs r = false ∧ ts = giveL rs r := by
  unfold giveR at h
  split at h
  · rename_i c
    exact ⟨c.1, c.2.1, c.2.2, (Option.some.inj h).symm⟩
  · cases h
theorem giveR_good {rs : List R} {r : R} {ts : List R} (h : giveR rs r = some ts) : good 0 ts = true := by
  obtain ⟨h1, h2, h3, rfl⟩ := giveR_some h
  exact (giveL_spec h1 h2 h3).1
end Go.Proofs.Ytdiejmebodpjeaa.Pr
namespace Go.Proofs.Ytdiejmebodpjeaa
open Go.RowKit Go.Maps Go.Sort Pr

set_option maxRecDepth 100000 in
set_option maxHeartbeats 1600000 in
theorem c_TakeRun_no (v : Value) (rs : List (Int × Int)) (long : Int) (w : World) (hA : RunsAt w v rs) (hI : Bnd rs) (hm : rs.length ≤ 1048576) (ht : takeR rs long = none) :
    Calls Try.prog 13 #[v, .int .i64 long] w fun e w' => e = .returned (.tuple #[.slice none 0 0, .int .i64 0, .bool false]) ∧ Below w.heap.size w w' := by
  have hc := c_GoodRuns v rs w hA hI (by omega)
  cases hg : good 0 rs with
  | false =>
    rw [hg] at hc
    clear hA hI ht hg
    go_enter Try.func13, Try.ntmps13
    go_wp2_with (go_at_call 16; refine hc.mono ?_; rintro e w6 ⟨rfl, hbk⟩)
    go_ret3
    exact ⟨rfl, hbk⟩
  | true =>
    rw [hg] at hc
    by_cases h1 : long < 1
    · clear hA hI ht hg
      go_enter Try.func13, Try.ntmps13
      go_wp2_with (go_at_call 16; refine hc.mono ?_; rintro e w6 ⟨rfl, hbk⟩)
      go_ret3
      exact ⟨rfl, hbk⟩
    · by_cases h2 : long > 32
      · clear hA hI ht hg
        go_enter Try.func13, Try.ntmps13
        go_wp2_with (go_at_call 16; refine hc.mono ?_; rintro e w6 ⟨rfl, hbk⟩)
        go_ret3
        exact ⟨rfl, hbk⟩
      · have hbo : bestOf long rs = none := by
          unfold takeR at ht
          rw [if_pos ⟨hg, by omega, by omega⟩] at ht
          exact Option.map_eq_none_iff.1 ht
        have HF : Hid (∀ w : World, RunsAt w v rs → Calls Try.prog 44 #[v] w fun e w' => e = .returned (.map (some w.heap.size)) ∧ MapR w' w.heap.size 16 rs ∧ Below w.heap.size w w') := fun w h => c_freeRunsOf v rs w h hg
        have hlen := good_len16 hg
        have HB : Hid (∀ (w : World) (b : Nat), MapR w b 16 rs → Calls Try.prog 45 #[.map (some b), .int .i64 long] w fun e w' => e = .returned (.tuple #[.int .i64 0, .bool false]) ∧ Below w.heap.size w w') := fun w b h => by
          have := c_bestFit b 16 rs long w h (good_sort hg) (Bnd.good hg) (by omega)
          rw [hbo] at this
          exact this
        have HA := Lib.hid hA
        clear hA hI ht hg hbo
        go_enter Try.func13, Try.ntmps13
        go_wp2_with (first
          | (go_at_call 16; refine hc.mono ?_; rintro e w6 ⟨rfl, hbk⟩; have HB6 := Lib.hid hbk; clear hbk)
          | (go_at_call 44; refine (HF.out w6 (HA.out.below HB6.out)).mono ?_; rintro e w7 ⟨rfl, hm7, hb7⟩; have HM7 := Lib.hid hm7; have HB7 := Lib.hid (bst HB6.out hb7 HB6.out.size); clear hm7 hb7)
          | (go_at_call 45; refine (HB.out w7 _ HM7.out).mono ?_; rintro e w8 ⟨rfl, hb8⟩; have HB8 := Lib.hid (bst HB7.out hb8 HB7.out.size); clear hb8))
        go_ret3
        exact ⟨rfl, HB8.out⟩

set_option maxRecDepth 100000 in
set_option maxHeartbeats 1600000 in
theorem c_TakeRun_yes (v : Value) (rs : List (Int × Int)) (long : Int) (ts : List (Int × Int)) (p : Int) (w : World) (hA : RunsAt w v rs) (ht : takeR rs long = some (ts, p)) :
    Calls Try.prog 13 #[v, .int .i64 long] w fun e w' => ∃ v', e = .returned (.tuple #[v', .int .i64 p, .bool true]) ∧ OwnR w' w.heap.size v' ts ∧ Below w.heap.size w w' := by
  obtain ⟨hg, h1, h2, ⟨_, b2⟩, hbo, rfl, rfl⟩ := takeR_some ht
  have htg := takeR_good ht
  have hc := c_GoodRuns v rs w hA (Bnd.good hg) (by have := good_len16 hg; omega)
  rw [hg] at hc
  have hlen := good_len16 hg
  obtain ⟨hbm, hbl, _⟩ := bestOf_some hbo
  have hbk := (okR_iff _).1 (good_mem hg _ hbm).1
  simp only [] at hbk hbl
  have HF : Hid (∀ w : World, RunsAt w v rs → Calls Try.prog 44 #[v] w fun e w' => e = .returned (.map (some w.heap.size)) ∧ MapR w' w.heap.size 16 rs ∧ Below w.heap.size w w') := fun w h => c_freeRunsOf v rs w h hg
  have HB : Hid (∀ (w : World) (b : Nat), MapR w b 16 rs → Calls Try.prog 45 #[.map (some b), .int .i64 long] w fun e w' => e = .returned (.tuple #[.int .i64 p, .bool true]) ∧ Below w.heap.size w w') := fun w b h => by
    have := c_bestFit b 16 rs long w h (good_sort hg) (Bnd.good hg) (by omega)
    rw [hbo] at this
    exact this
  have HT : Hid (∀ (w : World) (b : Nat), MapR w b 16 rs → Calls Try.prog 46 #[.map (some b), .int .i64 p, .int .i64 long] w fun e w' => e = .returned (.tuple #[]) ∧ MapR w' b 17 (takeL rs long (p, b2)) ∧ w.grownBy w' (some b)) := fun w b h => by
    have := c_take b 16 rs p b2 long w h (by omega) (lookR_mem (good_sort hg) hbm) (by omega) (by omega) (by omega)
    rw [takeL_map hg hbm h1]
    exact this
  have HL : Hid (∀ (w : World) (b : Nat), MapR w b 17 (takeL rs long (p, b2)) → Calls Try.prog 47 #[.map (some b)] w fun e w' => ∃ v, e = .returned v ∧ OwnR w' w.heap.size v (takeL rs long (p, b2)) ∧ Below w.heap.size w w') := fun w b h => c_list b 17 _ w h (good_sort htg.1) (Bnd.good htg.1) (by have := good_len16 htg.1; omega)
  have HA := Lib.hid hA
  clear hA ht htg hg hbo hbm
  generalize takeL rs long (p, b2) = ts at *
  go_enter Try.func13, Try.ntmps13
  go_wp2_with (first
    | (go_at_call 16; refine hc.mono ?_; rintro e w6 ⟨rfl, hbk⟩; have HB6 := Lib.hid hbk; clear hbk)
    | (go_at_call 44; refine (HF.out w6 (HA.out.below HB6.out)).mono ?_; rintro e w7 ⟨rfl, hm7, hb7⟩; have HM7 := Lib.hid hm7; have HB7 := Lib.hid (bst HB6.out hb7 HB6.out.size); clear hm7 hb7)
    | (go_at_call 45; refine (HB.out w7 _ HM7.out).mono ?_; rintro e w8 ⟨rfl, hb8⟩; have HM8 := Lib.hid (HM7.out.below hb8); have HB8 := Lib.hid (bst HB7.out hb8 HB7.out.size); clear hb8)
    | (go_at_call 46; refine (HT.out w8 _ HM8.out).mono ?_; rintro e w9 ⟨rfl, hm9, hg9⟩; have HM9 := Lib.hid hm9; have HB9 := Lib.hid (HB8.out.grown hg9 HB8.out.size (fun j hj => by cases hj; exact HB6.out.size)); clear hm9 hg9)
    | (go_at_call 47; refine (HL.out w9 _ HM9.out).mono ?_; rintro e w10 ⟨v10, rfl, ho10, hb10⟩; have HO := Lib.hid (ho10.mono HB9.out.size); have HB10 := Lib.hid (bst HB9.out hb10 HB9.out.size); clear ho10 hb10))
  go_ret3
  exact ⟨_, rfl, HO.out, HB10.out⟩

set_option maxRecDepth 100000 in
set_option maxHeartbeats 1600000 in
theorem c_GiveRun_no (v : Value) (rs : List (Int × Int)) (r : Int × Int) (w : World) (hA : RunsAt w v rs) (hI : Bnd rs) (hr : i64R r) (hm : rs.length ≤ 1048576) (ht : giveR rs r = none) :
    Calls Try.prog 18 #[v, rn r] w fun e w' => e = .returned (.tuple #[.slice none 0 0, .bool false]) ∧ Below w.heap.size w w' := by
  obtain ⟨r1, r2⟩ := r
  have HC : Hid (∀ w : World, RunsAt w v rs → Calls Try.prog 16 #[v] w fun e w' => e = .returned (.bool (good 0 rs)) ∧ Below w.heap.size w w') := fun w h => c_GoodRuns v rs w h hI (by omega)
  have HA := Lib.hid (hA.below (below1 w (.cells (cr (r1, r2)) 33)))
  have HB0 := Lib.hid (below1 w (.cells (cr (r1, r2)) 33))
  have HR0 := Lib.hid (Row.new w 33 (cr (r1, r2)))
  have HRI := Lib.hid hr
  cases hg : good 0 rs with
  | false =>
    rw [hg] at HC
    clear hA hI ht hg hr
    go_enter Try.func18, Try.ntmps18
    go_wp2_with (go_at_call 16; refine (HC.out _ HA.out).mono ?_; rintro e w6 ⟨rfl, hbk⟩; have HB6 := Lib.hid (bst HB0.out hbk HB0.out.size); clear hbk)
    go_ret2
    exact ⟨rfl, HB6.out⟩
  | true =>
    rw [hg] at HC
    cases hok : okR (r1, r2) with
    | false =>
      have HP : Hid (∀ w : World, Calls Try.prog 49 #[rn (r1, r2)] w fun e w' => e = .returned (.bool false) ∧ Below w.heap.size w w') := fun w => by rw [← hok]; exact c_isPageRun (r1, r2) w hr
      clear hA hI ht hg hr hok
      go_enter Try.func18, Try.ntmps18
      go_wp2_with (first
        | (go_at_call 16; refine (HC.out _ HA.out).mono ?_; rintro e w6 ⟨rfl, hbk⟩; have R6 := HR0.out.below hbk; have c0 : w6.cell? ⟨w.heap.size, 0, none⟩ = some (.int .i64 r1) := R6.cell 0; have c1 : w6.cell? ⟨w.heap.size, 0 + 1, none⟩ = some (.int .i64 r2) := R6.cell 1; have HB6 := Lib.hid (bst HB0.out hbk HB0.out.size); clear hbk R6)
        | (go_at_call 49; refine (HP.out _).mono ?_; rintro e w7 ⟨rfl, hbk⟩; have HB7 := Lib.hid (bst HB6.out hbk HB6.out.size); clear hbk))
      go_ret2
      exact ⟨rfl, HB7.out⟩
    | true =>
      have hmt : meetsR rs (r1, r2) = true := by
        unfold giveR at ht
        cases e : meetsR rs (r1, r2) with
        | true => rfl
        | false => rw [if_pos ⟨hg, hok, e⟩] at ht; cases ht
      have HP : Hid (∀ w : World, Calls Try.prog 49 #[rn (r1, r2)] w fun e w' => e = .returned (.bool true) ∧ Below w.heap.size w w') := fun w => by rw [← hok]; exact c_isPageRun (r1, r2) w hr
      have HF : Hid (∀ w : World, RunsAt w v rs → Calls Try.prog 44 #[v] w fun e w' => e = .returned (.map (some w.heap.size)) ∧ MapR w' w.heap.size 16 rs ∧ Below w.heap.size w w') := fun w h => c_freeRunsOf v rs w h hg
      have HME : Hid (∀ (w : World) (b : Nat), MapR w b 16 rs → Calls Try.prog 50 #[.map (some b), rn (r1, r2)] w fun e w' => e = .returned (.bool true) ∧ Below w.heap.size w w') := fun w b h => by
        have := c_meets b 16 rs (r1, r2) w h hg hok
        rw [hmt] at this
        exact this
      clear hI ht hg hr hok hmt
      have HA' := Lib.hid hA
      clear hA
      go_enter Try.func18, Try.ntmps18
      go_wp2_with (first
        | (go_at_call 16; refine (HC.out _ HA.out).mono ?_; rintro e w6 ⟨rfl, hbk⟩; have R6 := HR0.out.below hbk; have c0 : w6.cell? ⟨w.heap.size, 0, none⟩ = some (.int .i64 r1) := R6.cell 0; have c1 : w6.cell? ⟨w.heap.size, 0 + 1, none⟩ = some (.int .i64 r2) := R6.cell 1; have HB6 := Lib.hid (bst HB0.out hbk HB0.out.size); have HR6 := Lib.hid R6; clear hbk R6)
        | (go_at_call 49; refine (HP.out _).mono ?_; rintro e w7 ⟨rfl, hbk⟩; have HR7 := Lib.hid (HR6.out.below hbk); have HB7 := Lib.hid (bst HB6.out hbk HB6.out.size); clear hbk c0 c1)
        | (go_at_call 44; refine (HF.out w7 (HA'.out.below HB7.out)).mono ?_; rintro e w8 ⟨rfl, hm8, hb8⟩; have R8 := HR7.out.below hb8; have d0 : w8.cell? ⟨w.heap.size, 0, none⟩ = some (.int .i64 r1) := R8.cell 0; have d1 : w8.cell? ⟨w.heap.size, 0 + 1, none⟩ = some (.int .i64 r2) := R8.cell 1; have HM8 := Lib.hid hm8; have HB8 := Lib.hid (bst HB7.out hb8 HB7.out.size); clear hm8 hb8 R8)
        | (go_at_call 50; refine (HME.out w8 _ HM8.out).mono ?_; rintro e w9 ⟨rfl, hb9⟩; have HB9 := Lib.hid (bst HB8.out hb9 HB8.out.size); clear hb9 d0 d1))
      go_ret2
      exact ⟨rfl, HB9.out⟩

set_option maxRecDepth 100000 in
set_option maxHeartbeats 1600000 in
theorem c_GiveRun_yes (v : Value) (rs : List (Int × Int)) (r : Int × Int) (ts : List (Int × Int)) (w : World) (hA : RunsAt w v rs) (ht : giveR rs r = some ts) :
    Calls Try.prog 18 #[v, rn r] w fun e w' => ∃ v', e = .returned (.tuple #[v', .bool true]) ∧ OwnR w' w.heap.size v' ts ∧ Below w.heap.size w w' := by
  obtain ⟨hg, hok, hme, rfl⟩ := giveR_some ht
  have htg := giveR_good ht
  obtain ⟨r1, r2⟩ := r
  have hr : i64R (r1, r2) := by have := (okR_iff _).1 hok; simp only [] at this; unfold i64R; simp only []; omega
  have hlen := good_len16 hg
  have HC : Hid (∀ w : World, RunsAt w v rs → Calls Try.prog 16 #[v] w fun e w' => e = .returned (.bool true) ∧ Below w.heap.size w w') := fun w h => by rw [← hg]; exact c_GoodRuns v rs w h (Bnd.good hg) (by omega)
  have HA := Lib.hid (hA.below (below1 w (.cells (cr (r1, r2)) 33)))
  have HB0 := Lib.hid (below1 w (.cells (cr (r1, r2)) 33))
  have HR0 := Lib.hid (Row.new w 33 (cr (r1, r2)))
  have HP : Hid (∀ w : World, Calls Try.prog 49 #[rn (r1, r2)] w fun e w' => e = .returned (.bool true) ∧ Below w.heap.size w w') := fun w => by rw [← hok]; exact c_isPageRun (r1, r2) w hr
  have HF : Hid (∀ w : World, RunsAt w v rs → Calls Try.prog 44 #[v] w fun e w' => e = .returned (.map (some w.heap.size)) ∧ MapR w' w.heap.size 16 rs ∧ Below w.heap.size w w') := fun w h => c_freeRunsOf v rs w h hg
  have HME : Hid (∀ (w : World) (b : Nat), MapR w b 16 rs → Calls Try.prog 50 #[.map (some b), rn (r1, r2)] w fun e w' => e = .returned (.bool false) ∧ Below w.heap.size w w') := fun w b h => by
    have := c_meets b 16 rs (r1, r2) w h hg hok
    rw [hme] at this
    exact this
  have HGV : Hid (∀ (w : World) (b : Nat), MapR w b 16 rs → Calls Try.prog 51 #[.map (some b), rn (r1, r2)] w fun e w' => e = .returned (.tuple #[]) ∧ MapR w' b 17 (giveL rs (r1, r2)) ∧ w.grownBy w' (some b)) := fun w b h => c_give b 16 rs (r1, r2) w h (by omega) hg hok
  have HL : Hid (∀ (w : World) (b : Nat), MapR w b 17 (giveL rs (r1, r2)) → Calls Try.prog 47 #[.map (some b)] w fun e w' => ∃ v, e = .returned v ∧ OwnR w' w.heap.size v (giveL rs (r1, r2)) ∧ Below w.heap.size w w') := fun w b h => c_list b 17 _ w h (good_sort htg) (Bnd.good htg) (by have := good_len16 htg; omega)
  have HA' := Lib.hid hA
  clear hA ht htg hg hok hme hr
  generalize giveL rs (r1, r2) = ts at *
  go_enter Try.func18, Try.ntmps18
  go_wp2_with (first
    | (go_at_call 16; refine (HC.out _ HA.out).mono ?_; rintro e w6 ⟨rfl, hbk⟩; have R6 := HR0.out.below hbk; have c0 : w6.cell? ⟨w.heap.size, 0, none⟩ = some (.int .i64 r1) := R6.cell 0; have c1 : w6.cell? ⟨w.heap.size, 0 + 1, none⟩ = some (.int .i64 r2) := R6.cell 1; have HB6 := Lib.hid (bst HB0.out hbk HB0.out.size); have HR6 := Lib.hid R6; clear hbk R6)
    | (go_at_call 49; refine (HP.out _).mono ?_; rintro e w7 ⟨rfl, hbk⟩; have HR7 := Lib.hid (HR6.out.below hbk); have HB7 := Lib.hid (bst HB6.out hbk HB6.out.size); clear hbk c0 c1)
    | (go_at_call 44; refine (HF.out w7 (HA'.out.below HB7.out)).mono ?_; rintro e w8 ⟨rfl, hm8, hb8⟩; have R8 := HR7.out.below hb8; have d0 : w8.cell? ⟨w.heap.size, 0, none⟩ = some (.int .i64 r1) := R8.cell 0; have d1 : w8.cell? ⟨w.heap.size, 0 + 1, none⟩ = some (.int .i64 r2) := R8.cell 1; have HR8 := Lib.hid R8; have HM8 := Lib.hid hm8; have HB8 := Lib.hid (bst HB7.out hb8 HB7.out.size); clear hm8 hb8 R8)
    | (go_at_call 50; refine (HME.out w8 _ HM8.out).mono ?_; rintro e w9 ⟨rfl, hb9⟩; have R9 := HR8.out.below hb9; have e0 : w9.cell? ⟨w.heap.size, 0, none⟩ = some (.int .i64 r1) := R9.cell 0; have e1 : w9.cell? ⟨w.heap.size, 0 + 1, none⟩ = some (.int .i64 r2) := R9.cell 1; have HM9 := Lib.hid (HM8.out.below hb9); have HB9 := Lib.hid (bst HB8.out hb9 HB8.out.size); clear hb9 d0 d1 R9)
    | (go_at_call 51; refine (HGV.out w9 _ HM9.out).mono ?_; rintro e w10 ⟨rfl, hm10, hg10⟩; have HM10 := Lib.hid hm10; have HB10 := Lib.hid (HB9.out.grown hg10 HB9.out.size (fun j hj => by cases hj; exact HB7.out.size)); clear hm10 hg10 e0 e1)
    | (go_at_call 47; refine (HL.out w10 _ HM10.out).mono ?_; rintro e w11 ⟨v11, rfl, ho11, hb11⟩; have HO := Lib.hid (ho11.mono HB10.out.size); have HB11 := Lib.hid (bst HB10.out hb11 HB10.out.size); clear ho11 hb11))
  go_ret2
  exact ⟨_, rfl, HO.out, HB11.out⟩
end Go.Proofs.Ytdiejmebodpjeaa
