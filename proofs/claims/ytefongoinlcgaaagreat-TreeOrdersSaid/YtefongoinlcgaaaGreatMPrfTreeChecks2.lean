/- What the proof of PrfTreeChecks rests on, part 2 of 11. -/
import Derived.Test.YtefongoinlcgaaaGreatRows
import Derived.Test.YtefongoinlcgaaaGreatMPrfTreeChecks1
namespace Go.Proofs.YtefongoinlcgaaaGreat
open Go.RowKit Go.BigFrame

def inB (n lo hi : Int) : Bool := decide (lo ≤ n ∧ n ≤ hi)
theorem inB_of {n lo hi : Int} (h : inB n lo hi = true) : lo ≤ n ∧ n ≤ hi := of_decide_eq_true h
theorem inB_not {n lo hi : Int} (h : inB n lo hi = false) : ¬ (lo ≤ n ∧ n ≤ hi) := of_decide_eq_false h
theorem inB_yes {n lo hi : Int} (h : lo ≤ n ∧ n ≤ hi) : inB n lo hi = true := decide_eq_true h
theorem inB_no {n lo hi : Int} (h : ¬ (lo ≤ n ∧ n ≤ hi)) : inB n lo hi = false := decide_eq_false h

set_option maxHeartbeats 400000 in
theorem in_any (n lo hi : Int) (w : World) : Calls Tryz.prog 66 #[.int .i64 n, .int .i64 lo, .int .i64 hi] w fun e w' => e = .returned (.bool (inB n lo hi)) ∧ w = w' := by
  by_cases h1 : lo ≤ n
  · by_cases h2 : n ≤ hi
    · go_enter Tryz.func66, Tryz.ntmps66
      go_wp2
      go_ret
      exact ⟨ret_bool (inB_yes (by omega)).symm, rfl⟩
    · go_enter Tryz.func66, Tryz.ntmps66
      go_wp2
      go_ret
      exact ⟨ret_bool (inB_no (by omega)).symm, rfl⟩
  · go_enter Tryz.func66, Tryz.ntmps66
    go_wp2
    go_ret
    exact ⟨ret_bool (inB_no (by omega)).symm, rfl⟩

theorem gcd_emod (x y : Int) : Int.gcd y (x % y) = Int.gcd x y := by
  rw [Int.gcd_comm x y]
  conv => rhs; rw [← Int.mul_ediv_add_emod x y, Int.add_comm]
  simp
theorem gcd_zero_of {x y n d : Int} (h : Int.gcd x y = Int.gcd n d) (hd : ¬ d = 0) : y = 0 → ¬ x = 0 := by
  intro h1 h2
  subst h1 h2
  have : Int.gcd n d = 0 := by rw [← h]; rfl
  rw [Int.gcd_eq_zero_iff] at this
  exact hd this.2

set_option maxHeartbeats 1600000 in
theorem of2_any (n d : Int) (w : World) (h1 : -9223372036854775808 < n) (h2 : n ≤ 9223372036854775807)
   (h3 : -9223372036854775808 < d) (h4 : d ≤ 9223372036854775807) (hd : ¬ d = 0) :
    Calls Tryz.prog 122 #[.int .i64 n, .int .i64 d] w fun e w' => e = .returned (.int .i64 (gcdM n d)) ∧ Below w.heap.size w w' := by
  by_cases hn0 : n < 0
  · by_cases hd0 : d < 0
    · go_enter Tryz.func122, Tryz.ntmps122
      go_wp2
      go_loopw [0, 1] (fun a b wr => ∃ x y : Int, a = .int .i64 x ∧ b = .int .i64 y ∧ 0 ≤ x ∧ x ≤ 9223372036854775807 ∧ 0 ≤ y ∧ y ≤ 9223372036854775807 ∧ Int.gcd x y = Int.gcd n d ∧ Below w.heap.size w wr) (fun _ b _ => (intOf b).natAbs)
      case atStart => exact ⟨_, _, rfl, rfl, by omega, by omega, by omega, by omega, by simp, Below.refl _ _⟩
      case round =>
        obtain ⟨x, y, rfl, rfl, hx1, hx2, hy1, hy2, hg, hb⟩ := hrel
        have Hg := Lib.hid hg
        have hsz := hb.size
        have hx0 := gcd_zero_of hg hd
        clear hg
        by_cases hy : 0 < y
        · have hy0 : ¬ y = 0 := by omega
          go_wp2
          refine wp_region_quiet_all (fun w' => ∃ x : Lower _, w' = x.val) (by kernel_rfl) (by kernel_rfl) ⟨⟨_, (Below.refl _ _).drew⟩, rfl⟩ ?_
          repeat (go_big_quiet_step (fail))
          refine wpQuiet_nil ?_
          intro w1 hx1
          obtain ⟨x1, hx1⟩ := hx1
          have hb1 := x1.prop
          rw [← hx1] at hb1
          clear hx1 x1
          obtain ⟨hc1, hf1⟩ := bcell hb1
          have hs1 := hb1.size
          try simp at hs1
          try have hz0 : w.heap.size < w1.heap.size := by omega
          try have hz1 : w.heap.size + 1 < w1.heap.size := by omega
          try have hz2 : w.heap.size + 1 + 1 < w1.heap.size := by omega
          try have hz3 : w.heap.size + 1 + 1 + 1 < w1.heap.size := by omega
          try have hz4 : w.heap.size + 1 + 1 + 1 + 1 < w1.heap.size := by omega
          try have hz5 : w.heap.size + 1 + 1 + 1 + 1 + 1 < w1.heap.size := by omega
          go_wp2
          have a1 := Int.emod_nonneg x hy0
          have a2 := Int.emod_lt_of_pos x hy
          go_roundw
          case rel => exact ⟨y, x % y, rfl, rfl, hy1, hy2, by omega, by omega, by rw [gcd_emod]; exact Hg.out, by ((repeat' (first | exact Below.refl _ _ | assumption | refine Below.setCell ?_ ?_ _ | refine bdrewN ?_ _ | refine Below.drew ?_ | refine Below.alloc ?_ ?_ _ | refine bbehind ?_ (by assumption) ?_)); all_goals first | (simp; done) | (simp; omega) | omega)⟩
          case measure => simp [intOf]; omega
        · have hy0 : y = 0 := by omega
          subst hy0
          have hx3 : (x == 0) = false := by simpa using hx0 rfl
          clear hx0
          go_wp2
          go_ret
          exact ⟨ret_int (by unfold gcdM; rw [← Hg.out]; simp; omega), hb⟩
    · go_enter Tryz.func122, Tryz.ntmps122
      go_wp2
      go_loopw [0, 1] (fun a b wr => ∃ x y : Int, a = .int .i64 x ∧ b = .int .i64 y ∧ 0 ≤ x ∧ x ≤ 9223372036854775807 ∧ 0 ≤ y ∧ y ≤ 9223372036854775807 ∧ Int.gcd x y = Int.gcd n d ∧ Below w.heap.size w wr) (fun _ b _ => (intOf b).natAbs)
      case atStart => exact ⟨_, _, rfl, rfl, by omega, by omega, by omega, by omega, by simp, Below.refl _ _⟩
      case round =>
        obtain ⟨x, y, rfl, rfl, hx1, hx2, hy1, hy2, hg, hb⟩ := hrel
        have Hg := Lib.hid hg
        have hsz := hb.size
        have hx0 := gcd_zero_of hg hd
        clear hg
        by_cases hy : 0 < y
        · have hy0 : ¬ y = 0 := by omega
          go_wp2
          refine wp_region_quiet_all (fun w' => ∃ x : Lower _, w' = x.val) (by kernel_rfl) (by kernel_rfl) ⟨⟨_, (Below.refl _ _).drew⟩, rfl⟩ ?_
          repeat (go_big_quiet_step (fail))
          refine wpQuiet_nil ?_
          intro w1 hx1
          obtain ⟨x1, hx1⟩ := hx1
          have hb1 := x1.prop
          rw [← hx1] at hb1
          clear hx1 x1
          obtain ⟨hc1, hf1⟩ := bcell hb1
          have hs1 := hb1.size
          try simp at hs1
          try have hz0 : w.heap.size < w1.heap.size := by omega
          try have hz1 : w.heap.size + 1 < w1.heap.size := by omega
          try have hz2 : w.heap.size + 1 + 1 < w1.heap.size := by omega
          try have hz3 : w.heap.size + 1 + 1 + 1 < w1.heap.size := by omega
          try have hz4 : w.heap.size + 1 + 1 + 1 + 1 < w1.heap.size := by omega
          try have hz5 : w.heap.size + 1 + 1 + 1 + 1 + 1 < w1.heap.size := by omega
          go_wp2
          have a1 := Int.emod_nonneg x hy0
          have a2 := Int.emod_lt_of_pos x hy
          go_roundw
          case rel => exact ⟨y, x % y, rfl, rfl, hy1, hy2, by omega, by omega, by rw [gcd_emod]; exact Hg.out, by ((repeat' (first | exact Below.refl _ _ | assumption | refine Below.setCell ?_ ?_ _ | refine bdrewN ?_ _ | refine Below.drew ?_ | refine Below.alloc ?_ ?_ _ | refine bbehind ?_ (by assumption) ?_)); all_goals first | (simp; done) | (simp; omega) | omega)⟩
          case measure => simp [intOf]; omega
        · have hy0 : y = 0 := by omega
          subst hy0
          have hx3 : (x == 0) = false := by simpa using hx0 rfl
          clear hx0
          go_wp2
          go_ret
          exact ⟨ret_int (by unfold gcdM; rw [← Hg.out]; simp; omega), hb⟩
  · by_cases hd0 : d < 0
    · go_enter Tryz.func122, Tryz.ntmps122
      go_wp2
      go_loopw [0, 1] (fun a b wr => ∃ x y : Int, a = .int .i64 x ∧ b = .int .i64 y ∧ 0 ≤ x ∧ x ≤ 9223372036854775807 ∧ 0 ≤ y ∧ y ≤ 9223372036854775807 ∧ Int.gcd x y = Int.gcd n d ∧ Below w.heap.size w wr) (fun _ b _ => (intOf b).natAbs)
      case atStart => exact ⟨_, _, rfl, rfl, by omega, by omega, by omega, by omega, by simp, Below.refl _ _⟩
      case round =>
        obtain ⟨x, y, rfl, rfl, hx1, hx2, hy1, hy2, hg, hb⟩ := hrel
        have Hg := Lib.hid hg
        have hsz := hb.size
        have hx0 := gcd_zero_of hg hd
        clear hg
        by_cases hy : 0 < y
        · have hy0 : ¬ y = 0 := by omega
          go_wp2
          refine wp_region_quiet_all (fun w' => ∃ x : Lower _, w' = x.val) (by kernel_rfl) (by kernel_rfl) ⟨⟨_, (Below.refl _ _).drew⟩, rfl⟩ ?_
          repeat (go_big_quiet_step (fail))
          refine wpQuiet_nil ?_
          intro w1 hx1
          obtain ⟨x1, hx1⟩ := hx1
          have hb1 := x1.prop
          rw [← hx1] at hb1
          clear hx1 x1
          obtain ⟨hc1, hf1⟩ := bcell hb1
          have hs1 := hb1.size
          try simp at hs1
          try have hz0 : w.heap.size < w1.heap.size := by omega
          try have hz1 : w.heap.size + 1 < w1.heap.size := by omega
          try have hz2 : w.heap.size + 1 + 1 < w1.heap.size := by omega
          try have hz3 : w.heap.size + 1 + 1 + 1 < w1.heap.size := by omega
          try have hz4 : w.heap.size + 1 + 1 + 1 + 1 < w1.heap.size := by omega
          try have hz5 : w.heap.size + 1 + 1 + 1 + 1 + 1 < w1.heap.size := by omega
          go_wp2
          have a1 := Int.emod_nonneg x hy0
          have a2 := Int.emod_lt_of_pos x hy
          go_roundw
          case rel => exact ⟨y, x % y, rfl, rfl, hy1, hy2, by omega, by omega, by rw [gcd_emod]; exact Hg.out, by ((repeat' (first | exact Below.refl _ _ | assumption | refine Below.setCell ?_ ?_ _ | refine bdrewN ?_ _ | refine Below.drew ?_ | refine Below.alloc ?_ ?_ _ | refine bbehind ?_ (by assumption) ?_)); all_goals first | (simp; done) | (simp; omega) | omega)⟩
          case measure => simp [intOf]; omega
        · have hy0 : y = 0 := by omega
          subst hy0
          have hx3 : (x == 0) = false := by simpa using hx0 rfl
          clear hx0
          go_wp2
          go_ret
          exact ⟨ret_int (by unfold gcdM; rw [← Hg.out]; simp; omega), hb⟩
    · go_enter Tryz.func122, Tryz.ntmps122
      go_wp2
      go_loopw [0, 1] (fun a b wr => ∃ x y : Int, a = .int .i64 x ∧ b = .int .i64 y ∧ 0 ≤ x ∧ x ≤ 9223372036854775807 ∧ 0 ≤ y ∧ y ≤ 9223372036854775807 ∧ Int.gcd x y = Int.gcd n d ∧ Below w.heap.size w wr) (fun _ b _ => (intOf b).natAbs)
      case atStart => exact ⟨_, _, rfl, rfl, by omega, by omega, by omega, by omega, by simp, Below.refl _ _⟩
      case round =>
        obtain ⟨x, y, rfl, rfl, hx1, hx2, hy1, hy2, hg, hb⟩ := hrel
        have Hg := Lib.hid hg
        have hsz := hb.size
        have hx0 := gcd_zero_of hg hd
        clear hg
        by_cases hy : 0 < y
        · have hy0 : ¬ y = 0 := by omega
          go_wp2
          refine wp_region_quiet_all (fun w' => ∃ x : Lower _, w' = x.val) (by kernel_rfl) (by kernel_rfl) ⟨⟨_, (Below.refl _ _).drew⟩, rfl⟩ ?_
          repeat (go_big_quiet_step (fail))
          refine wpQuiet_nil ?_
          intro w1 hx1
          obtain ⟨x1, hx1⟩ := hx1
          have hb1 := x1.prop
          rw [← hx1] at hb1
          clear hx1 x1
          obtain ⟨hc1, hf1⟩ := bcell hb1
          have hs1 := hb1.size
          try simp at hs1
          try have hz0 : w.heap.size < w1.heap.size := by omega
          try have hz1 : w.heap.size + 1 < w1.heap.size := by omega
          try have hz2 : w.heap.size + 1 + 1 < w1.heap.size := by omega
          try have hz3 : w.heap.size + 1 + 1 + 1 < w1.heap.size := by omega
          try have hz4 : w.heap.size + 1 + 1 + 1 + 1 < w1.heap.size := by omega
          try have hz5 : w.heap.size + 1 + 1 + 1 + 1 + 1 < w1.heap.size := by omega
          go_wp2
          have a1 := Int.emod_nonneg x hy0
          have a2 := Int.emod_lt_of_pos x hy
          go_roundw
          case rel => exact ⟨y, x % y, rfl, rfl, hy1, hy2, by omega, by omega, by rw [gcd_emod]; exact Hg.out, by ((repeat' (first | exact Below.refl _ _ | assumption | refine Below.setCell ?_ ?_ _ | refine bdrewN ?_ _ | refine Below.drew ?_ | refine Below.alloc ?_ ?_ _ | refine bbehind ?_ (by assumption) ?_)); all_goals first | (simp; done) | (simp; omega) | omega)⟩
          case measure => simp [intOf]; omega
        · have hy0 : y = 0 := by omega
          subst hy0
          have hx3 : (x == 0) = false := by simpa using hx0 rfl
          clear hx0
          go_wp2
          go_ret
          exact ⟨ret_int (by unfold gcdM; rw [← Hg.out]; simp; omega), hb⟩

set_option maxHeartbeats 1600000 in
theorem rcheck_any (n d : Int) (w : World) :
    Calls Tryz.prog 76 #[.agg #[.int .i64 n, .int .i64 d]] w fun e w' => e = .returned (.int .i64 (chk n d)) ∧ Below w.heap.size w w' := by
  cases hD : inB d 1 1000000000 with
  | false =>
    have h1 := inB_not hD
    go_enter Tryz.func76, Tryz.ntmps76
    go_wp2_with (go_at_call 66; refine (in_any _ _ _ _).mono ?_; rintro e w1 ⟨rfl, rfl⟩)
    go_ret
    exact ⟨ret_int (chk3 (by omega)).symm, by ((repeat' (first | exact Below.refl _ _ | assumption | refine Below.setCell ?_ ?_ _ | refine bdrewN ?_ _ | refine Below.drew ?_ | refine Below.alloc ?_ ?_ _ | refine bbehind ?_ (by assumption) ?_)); all_goals first | (simp; done) | (simp; omega) | omega)⟩
  | true =>
    have h1 := inB_of hD
    cases hN : inB n (-1000000000) 1000000000 with
    | false =>
      have h2 := inB_not hN
      go_enter Tryz.func76, Tryz.ntmps76
      go_wp2_with (go_at_call 66; refine (in_any _ _ _ _).mono ?_; rintro e w1 ⟨rfl, rfl⟩)
      go_ret
      exact ⟨ret_int (chk3 (by omega)).symm, by ((repeat' (first | exact Below.refl _ _ | assumption | refine Below.setCell ?_ ?_ _ | refine bdrewN ?_ _ | refine Below.drew ?_ | refine Below.alloc ?_ ?_ _ | refine bbehind ?_ (by assumption) ?_)); all_goals first | (simp; done) | (simp; omega) | omega)⟩
    | true =>
      have h2 := inB_of hN
      by_cases hg : 1 < gcdM n d
      · go_enter Tryz.func76, Tryz.ntmps76
        go_wp2_with (first | (go_at_call 66; refine (in_any _ _ _ _).mono ?_; rintro e w1 ⟨rfl, rfl⟩) | (go_at_call 122; refine (of2_any _ _ _ (by omega) (by omega) (by omega) (by omega) (by omega)).mono ?_; rintro e w1 ⟨rfl, hb1⟩; obtain ⟨hc1, hf1⟩ := bcell hb1; have hs1 := hb1.size; (try simp at hs1); (try have hz0 : w.heap.size < w1.heap.size := by omega); (try have hz1 : w.heap.size + 1 < w1.heap.size := by omega); (try have hz2 : w.heap.size + 1 + 1 < w1.heap.size := by omega); (try have hz3 : w.heap.size + 1 + 1 + 1 < w1.heap.size := by omega); (try have hz4 : w.heap.size + 1 + 1 + 1 + 1 < w1.heap.size := by omega); (try have hz5 : w.heap.size + 1 + 1 + 1 + 1 + 1 < w1.heap.size := by omega)))
        go_ret
        exact ⟨ret_int (by rw [chk_in (by omega), if_pos hg]), by ((repeat' (first | exact Below.refl _ _ | assumption | refine Below.setCell ?_ ?_ _ | refine bdrewN ?_ _ | refine Below.drew ?_ | refine Below.alloc ?_ ?_ _ | refine bbehind ?_ (by assumption) ?_)); all_goals first | (simp; done) | (simp; omega) | omega)⟩
      · go_enter Tryz.func76, Tryz.ntmps76
        go_wp2_with (first | (go_at_call 66; refine (in_any _ _ _ _).mono ?_; rintro e w1 ⟨rfl, rfl⟩) | (go_at_call 122; refine (of2_any _ _ _ (by omega) (by omega) (by omega) (by omega) (by omega)).mono ?_; rintro e w1 ⟨rfl, hb1⟩; obtain ⟨hc1, hf1⟩ := bcell hb1; have hs1 := hb1.size; (try simp at hs1); (try have hz0 : w.heap.size < w1.heap.size := by omega); (try have hz1 : w.heap.size + 1 < w1.heap.size := by omega); (try have hz2 : w.heap.size + 1 + 1 < w1.heap.size := by omega); (try have hz3 : w.heap.size + 1 + 1 + 1 < w1.heap.size := by omega); (try have hz4 : w.heap.size + 1 + 1 + 1 + 1 < w1.heap.size := by omega); (try have hz5 : w.heap.size + 1 + 1 + 1 + 1 + 1 < w1.heap.size := by omega)))
        go_ret
        exact ⟨ret_int (by rw [chk_in (by omega), if_neg (by omega)]), by ((repeat' (first | exact Below.refl _ _ | assumption | refine Below.setCell ?_ ?_ _ | refine bdrewN ?_ _ | refine Below.drew ?_ | refine Below.alloc ?_ ?_ _ | refine bbehind ?_ (by assumption) ?_)); all_goals first | (simp; done) | (simp; omega) | omega)⟩

theorem lowT_of {n d x y : Int} (hx : x = lowN n d) (hy : y = lowD n d) (h1 : -1000000000 ≤ x) (h2 : x ≤ 1000000000) (h3 : y ≤ 1000000000) : (x, y, (0 : Int)) = lowT n d := by
  subst hx hy; exact (lowT_yes (decide_eq_true ⟨h1, h2, h3⟩)).symm
theorem lowT_no {n d : Int} (h : ¬ (-1000000000 ≤ lowN n d ∧ lowN n d ≤ 1000000000 ∧ lowD n d ≤ 1000000000)) : ((0 : Int), (0 : Int), (8 : Int)) = lowT n d :=
  (lowT_not (fun k => h (of_decide_eq_true k))).symm
/-- three parts of one value. -/
theorem tri {p : Int × Int × Int} {x y z : Int} (h : (x, y, z) = p) : Ending.returned (.tuple #[.agg #[.int .i64 x, .int .i64 y], .int .i64 z]) = .returned (.tuple #[.agg #[.int .i64 (p).1, .int .i64 (p).2.1], .int .i64 (p).2.2]) := by rw [← h]
theorem gcdM_neg_neg (n d : Int) : gcdM (-n) (-d) = gcdM n d := by unfold gcdM; simp

theorem of2_neg (n d : Int) (w : World) (h1 : -9223372036854775808 < n) (h2 : n ≤ 9223372036854775807)
   (h3 : -9223372036854775808 < d) (h4 : d ≤ 9223372036854775807) (hd : ¬ d = 0) :
    Calls Tryz.prog 122 #[.int .i64 (-n), .int .i64 (-d)] w fun e w' => e = .returned (.int .i64 (gcdM n d)) ∧ Below w.heap.size w w' := by
  rw [← gcdM_neg_neg]
  exact of2_any _ _ w (by omega) (by omega) (by omega) (by omega) (by omega)

set_option maxHeartbeats 1600000 in
theorem rlow_any (n d : Int) (w : World) (h1 : -9223372036854775808 < n) (h2 : n ≤ 9223372036854775807)
   (h3 : -9223372036854775808 < d) (h4 : d ≤ 9223372036854775807) (hd : ¬ d = 0) :
    Calls Tryz.prog 202 #[.int .i64 n, .int .i64 d] w fun e w' => e = .returned (.tuple #[.agg #[.int .i64 (lowT n d).1, .int .i64 (lowT n d).2.1], .int .i64 (lowT n d).2.2]) ∧ Below w.heap.size w w' := by
  have g1 := gcdM_pos n d hd
  have g2 := gcdM_le n d hd
  have b1 := tdiv_bd n (gcdM n d) 9223372036854775807 (by omega) (by omega)
  have b2 := tdiv_bd d (gcdM n d) 9223372036854775807 (by omega) (by omega)
  have g3 : ¬ gcdM n d = 0 := by omega
  by_cases h : d < 0
  · have c1 := Lib.hid (lowN_neg (n := n) h)
    have c2 := Lib.hid (lowD_neg (n := n) h)
    by_cases hdb : 1000000000 < -d.tdiv (gcdM n d)
    · go_enter Tryz.func202, Tryz.ntmps202
      go_wp2_with (go_at_call 122; refine (of2_neg _ _ _ (by omega) (by omega) (by omega) (by omega) hd).mono ?_; rintro e w1 ⟨rfl, hb1⟩; obtain ⟨hc1, hf1⟩ := bcell hb1; have hs1 := hb1.size; (try simp at hs1); (try have hz0 : w.heap.size < w1.heap.size := by omega); (try have hz1 : w.heap.size + 1 < w1.heap.size := by omega); (try have hz2 : w.heap.size + 1 + 1 < w1.heap.size := by omega); (try have hz3 : w.heap.size + 1 + 1 + 1 < w1.heap.size := by omega); (try have hz4 : w.heap.size + 1 + 1 + 1 + 1 < w1.heap.size := by omega); (try have hz5 : w.heap.size + 1 + 1 + 1 + 1 + 1 < w1.heap.size := by omega))
      refine wp_region_quiet_all (fun w' => ∃ x : Lower _, w' = x.val) (by kernel_rfl) (by kernel_rfl) ⟨⟨_, (Below.refl _ _).drew⟩, rfl⟩ ?_
      repeat (go_big_quiet_step (fail))
      refine wpQuiet_nil ?_
      intro w1 hx1
      obtain ⟨x1, hx1⟩ := hx1
      have hb1 := x1.prop
      rw [← hx1] at hb1
      clear hx1 x1
      obtain ⟨hc1, hf1⟩ := bcell hb1
      have hs1 := hb1.size
      try simp at hs1
      try have hz0 : w.heap.size < w1.heap.size := by omega
      try have hz1 : w.heap.size + 1 < w1.heap.size := by omega
      try have hz2 : w.heap.size + 1 + 1 < w1.heap.size := by omega
      try have hz3 : w.heap.size + 1 + 1 + 1 < w1.heap.size := by omega
      try have hz4 : w.heap.size + 1 + 1 + 1 + 1 < w1.heap.size := by omega
      try have hz5 : w.heap.size + 1 + 1 + 1 + 1 + 1 < w1.heap.size := by omega
      go_wp2
      refine bodyPost_ret (v := .tuple #[.agg #[.int .i64 0, .int .i64 0], .int .i64 8]) (by simp (maxDischargeDepth := 8) [results, Tryz.results202, go_sem, *]) rfl ?_
      exact ⟨tri (lowT_no (by rw [c1.out, c2.out]; omega)), by ((repeat' (first | exact Below.refl _ _ | assumption | refine Below.setCell ?_ ?_ _ | refine bdrewN ?_ _ | refine Below.drew ?_ | refine Below.alloc ?_ ?_ _ | refine bbehind ?_ (by assumption) ?_)); all_goals first | (simp; done) | (simp; omega) | omega)⟩
    · cases hI : inB (-n.tdiv (gcdM n d)) (-1000000000) 1000000000 with
      | false =>
        have hI' := Lib.hid (inB_not hI)
        go_enter Tryz.func202, Tryz.ntmps202
        go_wp2_with (go_at_call 122; refine (of2_neg _ _ _ (by omega) (by omega) (by omega) (by omega) hd).mono ?_; rintro e w1 ⟨rfl, hb1⟩; obtain ⟨hc1, hf1⟩ := bcell hb1; have hs1 := hb1.size; (try simp at hs1); (try have hz0 : w.heap.size < w1.heap.size := by omega); (try have hz1 : w.heap.size + 1 < w1.heap.size := by omega); (try have hz2 : w.heap.size + 1 + 1 < w1.heap.size := by omega); (try have hz3 : w.heap.size + 1 + 1 + 1 < w1.heap.size := by omega); (try have hz4 : w.heap.size + 1 + 1 + 1 + 1 < w1.heap.size := by omega); (try have hz5 : w.heap.size + 1 + 1 + 1 + 1 + 1 < w1.heap.size := by omega))
        refine wp_region_quiet_all (fun w' => ∃ x : Lower _, w' = x.val) (by kernel_rfl) (by kernel_rfl) ⟨⟨_, (Below.refl _ _).drew⟩, rfl⟩ ?_
        repeat (go_big_quiet_step (fail))
        refine wpQuiet_nil ?_
        intro w1 hx1
        obtain ⟨x1, hx1⟩ := hx1
        have hb1 := x1.prop
        rw [← hx1] at hb1
        clear hx1 x1
        obtain ⟨hc1, hf1⟩ := bcell hb1
        have hs1 := hb1.size
        try simp at hs1
        try have hz0 : w.heap.size < w1.heap.size := by omega
        try have hz1 : w.heap.size + 1 < w1.heap.size := by omega
        try have hz2 : w.heap.size + 1 + 1 < w1.heap.size := by omega
        try have hz3 : w.heap.size + 1 + 1 + 1 < w1.heap.size := by omega
        try have hz4 : w.heap.size + 1 + 1 + 1 + 1 < w1.heap.size := by omega
        try have hz5 : w.heap.size + 1 + 1 + 1 + 1 + 1 < w1.heap.size := by omega
        go_wp2_with (go_at_call 66; refine (in_any _ _ _ _).mono ?_; rintro e w1 ⟨rfl, rfl⟩)
        refine bodyPost_ret (v := .tuple #[.agg #[.int .i64 0, .int .i64 0], .int .i64 8]) (by simp (maxDischargeDepth := 8) [results, Tryz.results202, go_sem, *]) rfl ?_
        exact ⟨tri (lowT_no (by have := hI'.out; rw [c1.out, c2.out]; omega)), by ((repeat' (first | exact Below.refl _ _ | assumption | refine Below.setCell ?_ ?_ _ | refine bdrewN ?_ _ | refine Below.drew ?_ | refine Below.alloc ?_ ?_ _ | refine bbehind ?_ (by assumption) ?_)); all_goals first | (simp; done) | (simp; omega) | omega)⟩
      | true =>
        have hI' := Lib.hid (inB_of hI)
        go_enter Tryz.func202, Tryz.ntmps202
        go_wp2_with (go_at_call 122; refine (of2_neg _ _ _ (by omega) (by omega) (by omega) (by omega) hd).mono ?_; rintro e w1 ⟨rfl, hb1⟩; obtain ⟨hc1, hf1⟩ := bcell hb1; have hs1 := hb1.size; (try simp at hs1); (try have hz0 : w.heap.size < w1.heap.size := by omega); (try have hz1 : w.heap.size + 1 < w1.heap.size := by omega); (try have hz2 : w.heap.size + 1 + 1 < w1.heap.size := by omega); (try have hz3 : w.heap.size + 1 + 1 + 1 < w1.heap.size := by omega); (try have hz4 : w.heap.size + 1 + 1 + 1 + 1 < w1.heap.size := by omega); (try have hz5 : w.heap.size + 1 + 1 + 1 + 1 + 1 < w1.heap.size := by omega))
        refine wp_region_quiet_all (fun w' => ∃ x : Lower _, w' = x.val) (by kernel_rfl) (by kernel_rfl) ⟨⟨_, (Below.refl _ _).drew⟩, rfl⟩ ?_
        repeat (go_big_quiet_step (fail))
        refine wpQuiet_nil ?_
        intro w1 hx1
        obtain ⟨x1, hx1⟩ := hx1
        have hb1 := x1.prop
        rw [← hx1] at hb1
        clear hx1 x1
        obtain ⟨hc1, hf1⟩ := bcell hb1
        have hs1 := hb1.size
        try simp at hs1
        try have hz0 : w.heap.size < w1.heap.size := by omega
        try have hz1 : w.heap.size + 1 < w1.heap.size := by omega
        try have hz2 : w.heap.size + 1 + 1 < w1.heap.size := by omega
        try have hz3 : w.heap.size + 1 + 1 + 1 < w1.heap.size := by omega
        try have hz4 : w.heap.size + 1 + 1 + 1 + 1 < w1.heap.size := by omega
        try have hz5 : w.heap.size + 1 + 1 + 1 + 1 + 1 < w1.heap.size := by omega
        go_wp2_with (go_at_call 66; refine (in_any _ _ _ _).mono ?_; rintro e w1 ⟨rfl, rfl⟩)
        refine bodyPost_ret (v := .tuple #[.agg #[.int .i64 (-n.tdiv (gcdM n d)), .int .i64 (-d.tdiv (gcdM n d))], .int .i64 0]) (by simp (maxDischargeDepth := 8) [results, Tryz.results202, go_sem, *]) rfl ?_
        have hI2 := hI'.out
        exact ⟨tri (lowT_of c1.out.symm c2.out.symm (by omega) (by omega) (by omega)), by ((repeat' (first | exact Below.refl _ _ | assumption | refine Below.setCell ?_ ?_ _ | refine bdrewN ?_ _ | refine Below.drew ?_ | refine Below.alloc ?_ ?_ _ | refine bbehind ?_ (by assumption) ?_)); all_goals first | (simp; done) | (simp; omega) | omega)⟩
  · have c1 := Lib.hid (lowN_pos (n := n) h)
    have c2 := Lib.hid (lowD_pos (n := n) h)
    by_cases hdb : 1000000000 < d.tdiv (gcdM n d)
    · go_enter Tryz.func202, Tryz.ntmps202
      go_wp2_with (go_at_call 122; refine (of2_any _ _ _ (by omega) (by omega) (by omega) (by omega) hd).mono ?_; rintro e w1 ⟨rfl, hb1⟩; obtain ⟨hc1, hf1⟩ := bcell hb1; have hs1 := hb1.size; (try simp at hs1); (try have hz0 : w.heap.size < w1.heap.size := by omega); (try have hz1 : w.heap.size + 1 < w1.heap.size := by omega); (try have hz2 : w.heap.size + 1 + 1 < w1.heap.size := by omega); (try have hz3 : w.heap.size + 1 + 1 + 1 < w1.heap.size := by omega); (try have hz4 : w.heap.size + 1 + 1 + 1 + 1 < w1.heap.size := by omega); (try have hz5 : w.heap.size + 1 + 1 + 1 + 1 + 1 < w1.heap.size := by omega))
      refine wp_region_quiet_all (fun w' => ∃ x : Lower _, w' = x.val) (by kernel_rfl) (by kernel_rfl) ⟨⟨_, (Below.refl _ _).drew⟩, rfl⟩ ?_
      repeat (go_big_quiet_step (fail))
      refine wpQuiet_nil ?_
      intro w1 hx1
      obtain ⟨x1, hx1⟩ := hx1
      have hb1 := x1.prop
      rw [← hx1] at hb1
      clear hx1 x1
      obtain ⟨hc1, hf1⟩ := bcell hb1
      have hs1 := hb1.size
      try simp at hs1
      try have hz0 : w.heap.size < w1.heap.size := by omega
      try have hz1 : w.heap.size + 1 < w1.heap.size := by omega
      try have hz2 : w.heap.size + 1 + 1 < w1.heap.size := by omega
      try have hz3 : w.heap.size + 1 + 1 + 1 < w1.heap.size := by omega
      try have hz4 : w.heap.size + 1 + 1 + 1 + 1 < w1.heap.size := by omega
      try have hz5 : w.heap.size + 1 + 1 + 1 + 1 + 1 < w1.heap.size := by omega
      go_wp2
      refine bodyPost_ret (v := .tuple #[.agg #[.int .i64 0, .int .i64 0], .int .i64 8]) (by simp (maxDischargeDepth := 8) [results, Tryz.results202, go_sem, *]) rfl ?_
      exact ⟨tri (lowT_no (by rw [c1.out, c2.out]; omega)), by ((repeat' (first | exact Below.refl _ _ | assumption | refine Below.setCell ?_ ?_ _ | refine bdrewN ?_ _ | refine Below.drew ?_ | refine Below.alloc ?_ ?_ _ | refine bbehind ?_ (by assumption) ?_)); all_goals first | (simp; done) | (simp; omega) | omega)⟩
    · cases hI : inB (n.tdiv (gcdM n d)) (-1000000000) 1000000000 with
      | false =>
        have hI' := Lib.hid (inB_not hI)
        go_enter Tryz.func202, Tryz.ntmps202
        go_wp2_with (go_at_call 122; refine (of2_any _ _ _ (by omega) (by omega) (by omega) (by omega) hd).mono ?_; rintro e w1 ⟨rfl, hb1⟩; obtain ⟨hc1, hf1⟩ := bcell hb1; have hs1 := hb1.size; (try simp at hs1); (try have hz0 : w.heap.size < w1.heap.size := by omega); (try have hz1 : w.heap.size + 1 < w1.heap.size := by omega); (try have hz2 : w.heap.size + 1 + 1 < w1.heap.size := by omega); (try have hz3 : w.heap.size + 1 + 1 + 1 < w1.heap.size := by omega); (try have hz4 : w.heap.size + 1 + 1 + 1 + 1 < w1.heap.size := by omega); (try have hz5 : w.heap.size + 1 + 1 + 1 + 1 + 1 < w1.heap.size := by omega))
        refine wp_region_quiet_all (fun w' => ∃ x : Lower _, w' = x.val) (by kernel_rfl) (by kernel_rfl) ⟨⟨_, (Below.refl _ _).drew⟩, rfl⟩ ?_
        repeat (go_big_quiet_step (fail))
        refine wpQuiet_nil ?_
        intro w1 hx1
        obtain ⟨x1, hx1⟩ := hx1
        have hb1 := x1.prop
        rw [← hx1] at hb1
        clear hx1 x1
        obtain ⟨hc1, hf1⟩ := bcell hb1
        have hs1 := hb1.size
        try simp at hs1
        try have hz0 : w.heap.size < w1.heap.size := by omega
        try have hz1 : w.heap.size + 1 < w1.heap.size := by omega
        try have hz2 : w.heap.size + 1 + 1 < w1.heap.size := by omega
        try have hz3 : w.heap.size + 1 + 1 + 1 < w1.heap.size := by omega
        try have hz4 : w.heap.size + 1 + 1 + 1 + 1 < w1.heap.size := by omega
        try have hz5 : w.heap.size + 1 + 1 + 1 + 1 + 1 < w1.heap.size := by omega
        go_wp2_with (go_at_call 66; refine (in_any _ _ _ _).mono ?_; rintro e w1 ⟨rfl, rfl⟩)
        refine bodyPost_ret (v := .tuple #[.agg #[.int .i64 0, .int .i64 0], .int .i64 8]) (by simp (maxDischargeDepth := 8) [results, Tryz.results202, go_sem, *]) rfl ?_
        exact ⟨tri (lowT_no (by have := hI'.out; rw [c1.out, c2.out]; omega)), by ((repeat' (first | exact Below.refl _ _ | assumption | refine Below.setCell ?_ ?_ _ | refine bdrewN ?_ _ | refine Below.drew ?_ | refine Below.alloc ?_ ?_ _ | refine bbehind ?_ (by assumption) ?_)); all_goals first | (simp; done) | (simp; omega) | omega)⟩
      | true =>
        have hI' := Lib.hid (inB_of hI)
        go_enter Tryz.func202, Tryz.ntmps202
        go_wp2_with (go_at_call 122; refine (of2_any _ _ _ (by omega) (by omega) (by omega) (by omega) hd).mono ?_; rintro e w1 ⟨rfl, hb1⟩; obtain ⟨hc1, hf1⟩ := bcell hb1; have hs1 := hb1.size; (try simp at hs1); (try have hz0 : w.heap.size < w1.heap.size := by omega); (try have hz1 : w.heap.size + 1 < w1.heap.size := by omega); (try have hz2 : w.heap.size + 1 + 1 < w1.heap.size := by omega); (try have hz3 : w.heap.size + 1 + 1 + 1 < w1.heap.size := by omega); (try have hz4 : w.heap.size + 1 + 1 + 1 + 1 < w1.heap.size := by omega); (try have hz5 : w.heap.size + 1 + 1 + 1 + 1 + 1 < w1.heap.size := by omega))
        refine wp_region_quiet_all (fun w' => ∃ x : Lower _, w' = x.val) (by kernel_rfl) (by kernel_rfl) ⟨⟨_, (Below.refl _ _).drew⟩, rfl⟩ ?_
        repeat (go_big_quiet_step (fail))
        refine wpQuiet_nil ?_
        intro w1 hx1
        obtain ⟨x1, hx1⟩ := hx1
        have hb1 := x1.prop
        rw [← hx1] at hb1
        clear hx1 x1
        obtain ⟨hc1, hf1⟩ := bcell hb1
        have hs1 := hb1.size
        try simp at hs1
        try have hz0 : w.heap.size < w1.heap.size := by omega
        try have hz1 : w.heap.size + 1 < w1.heap.size := by omega
        try have hz2 : w.heap.size + 1 + 1 < w1.heap.size := by omega
        try have hz3 : w.heap.size + 1 + 1 + 1 < w1.heap.size := by omega
        try have hz4 : w.heap.size + 1 + 1 + 1 + 1 < w1.heap.size := by omega
        try have hz5 : w.heap.size + 1 + 1 + 1 + 1 + 1 < w1.heap.size := by omega
        go_wp2_with (go_at_call 66; refine (in_any _ _ _ _).mono ?_; rintro e w1 ⟨rfl, rfl⟩)
        refine bodyPost_ret (v := .tuple #[.agg #[.int .i64 (n.tdiv (gcdM n d)), .int .i64 (d.tdiv (gcdM n d))], .int .i64 0]) (by simp (maxDischargeDepth := 8) [results, Tryz.results202, go_sem, *]) rfl ?_
        have hI2 := hI'.out
        exact ⟨tri (lowT_of c1.out.symm c2.out.symm (by omega) (by omega) (by omega)), by ((repeat' (first | exact Below.refl _ _ | assumption | refine Below.setCell ?_ ?_ _ | refine bdrewN ?_ _ | refine Below.drew ?_ | refine Below.alloc ?_ ?_ _ | refine bbehind ?_ (by assumption) ?_)); all_goals first | (simp; done) | (simp; omega) | omega)⟩
end Go.Proofs.YtefongoinlcgaaaGreat

namespace Go.Proofs.YtefongoinlcgaaaGreat
open Go.RowKit Go.BigFrame

theorem tmod_bd (n d : Int) (hd : 0 < d) : -d < n.tmod d ∧ n.tmod d < d := by
  have h : (n.tmod d).natAbs < d.natAbs := by rw [Int.natAbs_tmod]; exact Nat.mod_lt _ (by omega)
  omega
theorem floor_lo (n d : Int) (hd : 0 < d) (h : n.tmod d < 0) : n / d = n.tdiv d - 1 := by
  have h1 := Int.tdiv_mul_add_tmod n d
  have h2 := tmod_bd n d hd
  exact ((Int.ediv_emod_unique (a := n) (b := d) (r := n.tmod d + d) (q := n.tdiv d - 1) hd).2 ⟨by rw [Int.mul_sub, Int.mul_comm d]; omega, by omega, by omega⟩).1
theorem floor_hi (n d : Int) (hd : 0 < d) (h : ¬ n.tmod d < 0) : n / d = n.tdiv d := by
  have h1 := Int.tdiv_mul_add_tmod n d
  have h2 := tmod_bd n d hd
  exact ((Int.ediv_emod_unique (a := n) (b := d) (r := n.tmod d) (q := n.tdiv d) hd).2 ⟨by rw [Int.mul_comm d]; omega, by omega, by omega⟩).1

theorem ediv_bd (n d B : Int) (h1 : -B ≤ n) (h2 : n ≤ B) (h3 : 0 < d) : -B ≤ n / d ∧ n / d ≤ B := by
  constructor
  · have : (-B) / d ≤ n / d := Int.ediv_le_ediv h3 h1
    have h4 : -B ≤ (-B) / d := by
      rw [Int.le_ediv_iff_mul_le h3]
      have : 0 ≤ B := by omega
      have h5 : B * 1 ≤ B * d := Int.mul_le_mul_of_nonneg_left (by omega) this
      rw [Int.neg_mul]
      omega
    omega
  · have : n / d ≤ B / d := Int.ediv_le_ediv h3 h2
    have h4 : B / d ≤ B := Int.ediv_le_self _ (by omega)
    omega

/-- the whole number that is no less. -/
def ceilM (n d : Int) : Int := -((-n) / d)

/-- the nearest whole number; of two, the even one. -/
def roundM (n d : Int) : Int := if d < 2 * (n % d) ∨ 2 * (n % d) = d ∧ ¬ (n / d) % 2 = 0 then n / d + 1 else n / d

theorem tmod2 (q : Int) : (q.tmod 2 != 0) = decide (¬ q % 2 = 0) := by
  have h := @Int.tmod_eq_emod q 2
  by_cases h2 : q % 2 = 0
  · have : q.tmod 2 = 0 := by
      rw [h, if_pos]
      · omega
      · right; omega
    simp [this, h2]
  · have : q.tmod 2 ≠ 0 := by
      rw [h]; split
      · omega
      · show ¬ (q % 2 - 2 = 0); omega
    simp [this, h2]

theorem roundM_up {n d : Int} (h : d < 2 * (n % d)) : roundM n d = n / d + 1 := if_pos (.inl h)
theorem roundM_odd {n d : Int} (h : 2 * (n % d) = d) (k : ¬ (n / d) % 2 = 0) : roundM n d = n / d + 1 := if_pos (.inr ⟨h, k⟩)
theorem roundM_down {n d : Int} (h : 2 * (n % d) < d) : roundM n d = n / d := if_neg (by rintro (h1 | ⟨h1, _⟩) <;> omega)
theorem roundM_even {n d : Int} (h : 2 * (n % d) = d) (k : (n / d) % 2 = 0) : roundM n d = n / d := if_neg (by rintro (h1 | ⟨_, h1⟩); omega; exact h1 k)

end Go.Proofs.YtefongoinlcgaaaGreat

namespace Go.Proofs.YtefongoinlcgaaaGreat
open Go.RowKit Go.BigFrame

theorem wide_in (n : Int) : inB n (-1000000000000000000) 1000000000000000000 = wideB n := rfl

/-- the error of two numbers. -/
def bothE (an ad bn bd : Int) : Int := if chk an ad = 0 then chk bn bd else chk an ad

theorem bothE_a {an ad bn bd : Int} (h : ¬ chk an ad = 0) : bothE an ad bn bd = chk an ad := if_neg h
theorem bothE_b {an ad bn bd : Int} (h : chk an ad = 0) : bothE an ad bn bd = chk bn bd := if_pos h
theorem twoT_e {an ad bn bd : Int} {r : Int × Int × Int} (h : ¬ bothE an ad bn bd = 0) : twoT an ad bn bd r = (0, 0, bothE an ad bn bd) := by
  by_cases hA : chk an ad = 0
  · rw [bothE_b hA] at h ⊢; exact twoT_b hA h
  · rw [bothE_a hA]; exact twoT_a hA
theorem twoT_o {an ad bn bd : Int} {r : Int × Int × Int} (h : bothE an ad bn bd = 0) : twoT an ad bn bd r = r := by
  by_cases hA : chk an ad = 0
  · rw [bothE_b hA] at h; exact twoT_r hA h
  · rw [bothE_a hA] at h; exact absurd h hA
theorem fits_of_both {an ad bn bd : Int} (h : bothE an ad bn bd = 0) : Fit an ad ∧ Fit bn bd := by
  by_cases hA : chk an ad = 0
  · rw [bothE_b hA] at h; exact ⟨fit_of_chk hA, fit_of_chk h⟩
  · rw [bothE_a hA] at h; exact absurd h hA

def lessB (an ad bn bd : Int) : Bool := decide (an * bd < bn * ad)

set_option maxHeartbeats 800000 in
theorem less_any (an ad bn bd : Int) (w : World) (fa : Fit an ad) (fb : Fit bn bd) :
    Calls Tryz.prog 140 #[.agg #[.int .i64 an, .int .i64 ad], .agg #[.int .i64 bn, .int .i64 bd]] w fun e w' => e = .returned (.bool (lessB an ad bn bd)) ∧ Below w.heap.size w w' := by
  obtain ⟨a1, a2, a3, a4⟩ := fa
  obtain ⟨b1, b2, b3, b4⟩ := fb
  have m1 := mul_bd9 (a := an) (b := bd) (by omega) (by omega) (by omega) (by omega)
  have m2 := mul_bd9 (a := bn) (b := ad) (by omega) (by omega) (by omega) (by omega)
  go_enter Tryz.func140, Tryz.ntmps140
  go_wp2
  go_ret
  exact ⟨rfl, by ((repeat' (first | exact Below.refl _ _ | assumption | refine Below.setCell ?_ ?_ _ | refine bdrewN ?_ _ | refine Below.drew ?_ | refine Below.alloc ?_ ?_ _ | refine bbehind ?_ (by assumption) ?_)); all_goals first | (simp; done) | (simp; omega) | omega)⟩

end Go.Proofs.YtefongoinlcgaaaGreat

namespace Go.Proofs.YtefongoinlcgaaaGreat
open Go.RowKit Go.BigFrame

/-- a whole number, or the error of the number that it is made of. -/
def wayT (n d x : Int) : Int × Int := if chk n d = 0 then (x, 0) else (0, chk n d)
theorem wayT_o {n d x : Int} (h : chk n d = 0) : wayT n d x = (x, 0) := if_pos h
theorem wayT_e {n d x : Int} (h : ¬ chk n d = 0) : wayT n d x = (0, chk n d) := if_neg h

/-- 10 to a power. -/
def p10 (k : Nat) : Int := (10 : Int) ^ k
theorem p10_zero : p10 0 = 1 := rfl
theorem p10_succ (k : Nat) : p10 (k + 1) = p10 k * 10 := Int.pow_succ _ _
theorem p10_bd (k : Nat) (h : k ≤ 9) : 1 ≤ p10 k ∧ p10 k ≤ 1000000000 := by
  have h1 : (10 : Nat) ^ k ≤ 10 ^ 9 := Nat.pow_le_pow_right (by omega) h
  have h2 : 1 ≤ (10 : Nat) ^ k := Nat.one_le_pow _ _ (by omega)
  have h3 : p10 k = ((10 ^ k : Nat) : Int) := by unfold p10; simp
  omega
theorem p10_bd' (k : Nat) (h : k < 9) : p10 k ≤ 100000000 := by
  have := p10_succ k
  have := (p10_bd (k + 1) (by omega)).2
  omega

set_option maxHeartbeats 400000 in
theorem tenTo_any (p : Nat) (w : World) (hp : p ≤ 9) : Calls Tryz.prog 216 #[.int .i64 p] w fun e w' => e = .returned (.int .i64 (p10 p)) ∧ w = w' := by
  go_enter Tryz.func216, Tryz.ntmps216
  go_wp2
  go_loop [3, 5] (fun s i => ∃ k : Nat, k ≤ p ∧ i = .int .i64 k ∧ s = .int .i64 (p10 k)) (fun _ i => p - (intOf i).toNat)
  case atStart => exact ⟨0, Nat.zero_le _, rfl, rfl⟩
  case round =>
    obtain ⟨k, hk, rfl, rfl⟩ := hrel
    by_cases hlt : k < p
    · have b1 := p10_bd k (by omega)
      have b2 := p10_bd' k (by omega)
      have HS := Lib.hid (p10_succ k)
      go_wp2
      go_round
      case rel => exact ⟨k + 1, by omega, by go_num, by rw [HS.out]⟩
      case measure => simp [intOf]; omega
    · go_wp2
      go_ret
      exact ⟨ret_int (by congr 1; omega), rfl⟩

set_option maxHeartbeats 400000 in
theorem ten_any (p : Nat) (w : World) (hp : p ≤ 9) : Calls Tryz.prog 203 #[.int .i64 p] w fun e w' => e = .returned (.int .i64 (p10 p)) ∧ w = w' := by
  go_enter Tryz.func203, Tryz.ntmps203
  go_wp2
  go_loop [3, 4] (fun s i => ∃ k : Nat, k ≤ p ∧ i = .int .i64 k ∧ s = .int .i64 (p10 k)) (fun _ i => p - (intOf i).toNat)
  case atStart => exact ⟨0, Nat.zero_le _, rfl, rfl⟩
  case round =>
    obtain ⟨k, hk, rfl, rfl⟩ := hrel
    by_cases hlt : k < p
    · have b1 := p10_bd k (by omega)
      have b2 := p10_bd' k (by omega)
      have HS := Lib.hid (p10_succ k)
      go_wp2
      go_round
      case rel => exact ⟨k + 1, by omega, by go_num, by rw [HS.out, Int.mul_comm]⟩
      case measure => simp [intOf]; omega
    · go_wp2
      go_ret
      exact ⟨ret_int (by congr 1; omega), rfl⟩

theorem under_neg (n d : Int) (hd : 0 < d) : -((-n + d - 1) / d) = n / d := by
  have h1 := Int.mul_ediv_add_emod n d
  have h2 := Int.emod_nonneg n (by omega : d ≠ 0)
  have h3 := Int.emod_lt_of_pos n hd
  have := ((Int.ediv_emod_unique (a := -n + d - 1) (b := d) (r := d - 1 - n % d) (q := -(n / d)) hd).2 ⟨by rw [Int.mul_neg]; omega, by omega, by omega⟩).1
  omega

end Go.Proofs.YtefongoinlcgaaaGreat

/- Decimal digits as lists of bytes: plain mathematics, no program. -/
namespace Go.Proofs.YtefongoinlcgaaaGreat

/-- the last decimal digit, as a byte. -/
def dig (n : Nat) : UInt8 := UInt8.ofNat (48 + n % 10)
theorem dig_nat (n : Nat) : (dig n).toNat = 48 + n % 10 := by
  unfold dig; rw [UInt8.toNat_ofNat']; omega
/-- the decimal digits of a number. -/
def digs (n : Nat) : List UInt8 := if n < 10 then [dig n] else digs (n / 10) ++ [dig n]
theorem digs_lt {n : Nat} (h : n < 10) : digs n = [dig n] := by rw [digs, if_pos h]
theorem digs_ge {n : Nat} (h : ¬ n < 10) : digs n = digs (n / 10) ++ [dig n] := by rw [digs, if_neg h]

/-- at least so many digits. -/
def padS : Nat → Nat → List UInt8
  | 0, n => if n = 0 then [] else digs n
  | k + 1, n => padS k (n / 10) ++ [dig n]
theorem padS_zero (n : Nat) (h : ¬ n = 0) : padS 0 n = padS 0 (n / 10) ++ [dig n] := by
  unfold padS
  rw [if_neg h]
  by_cases h1 : n < 10
  · rw [digs_lt h1, if_pos (by omega)]; rfl
  · rw [digs_ge h1, if_neg (by omega)]
theorem padS_pred (k n : Nat) (h : 0 < n ∨ 0 < k) : padS k n = padS (k - 1) (n / 10) ++ [dig n] := by
  cases k with
  | zero => exact padS_zero n (by omega)
  | succ k => rfl
theorem padS_none : padS 0 0 = [] := rfl
theorem padS_one (n : Nat) : padS 1 n = digs n := by
  show padS 0 (n / 10) ++ [dig n] = _
  by_cases h1 : n < 10
  · rw [digs_lt h1]; unfold padS; rw [if_pos (by omega)]; rfl
  · rw [digs_ge h1]; unfold padS; rw [if_neg (by omega)]

theorem digs_len_pos (n : Nat) : 1 ≤ (digs n).length := by
  rw [digs]; split <;> simp
theorem digs_len (j : Nat) : ∀ n, n < 10 ^ (j + 1) → (digs n).length ≤ j + 1 := by
  induction j with
  | zero => intro n h; rw [digs_lt (by simpa using h)]; simp
  | succ j ih =>
    intro n h
    by_cases h1 : n < 10
    · rw [digs_lt h1]; simp
    · rw [digs_ge h1]
      have := ih (n / 10) (by rw [Nat.div_lt_iff_lt_mul (by omega)]; rw [Nat.pow_succ] at h; exact h)
      simp; omega
theorem padS_len (k : Nat) : ∀ n j, n < 10 ^ j → (padS k n).length ≤ max k j := by
  induction k with
  | zero =>
    intro n j h
    unfold padS
    split
    · simp
    · cases j with
      | zero => simp at h; omega
      | succ j => have := digs_len j n h; omega
  | succ k ih =>
    intro n j h
    show (padS k (n / 10) ++ [dig n]).length ≤ _
    cases j with
    | zero =>
      have := ih (n / 10) 0 (by simp at h ⊢; omega)
      simp; omega
    | succ j =>
      have := ih (n / 10) j (by rw [Nat.div_lt_iff_lt_mul (by omega)]; rw [Nat.pow_succ] at h; exact h)
      simp; omega

/-- with zeros in front. -/
theorem padS_zeros (k : Nat) : ∀ n, (digs n).length ≤ k → padS k n = List.replicate (k - (digs n).length) 48 ++ digs n := by
  induction k with
  | zero => intro n h; have := digs_len_pos n; omega
  | succ k ih =>
    intro n h
    show padS k (n / 10) ++ [dig n] = _
    by_cases h1 : n < 10
    · have h0 : n / 10 = 0 := by omega
      rw [digs_lt h1, h0]
      have hz : padS k 0 = List.replicate k 48 := by
        clear ih h
        induction k with
        | zero => rfl
        | succ k ih => show padS k (0 / 10) ++ [dig 0] = _; rw [Nat.zero_div, ih, List.replicate_succ']; rfl
      rw [hz]; rfl
    · rw [digs_ge h1] at h ⊢
      simp at h
      rw [ih (n / 10) (by omega), List.append_assoc]
      congr 2
      simp
end Go.Proofs.YtefongoinlcgaaaGreat

namespace Go.Proofs.YtefongoinlcgaaaGreat
open Go.RowKit Go.BigFrame

/-- of what was there, only block b may have turned. -/
structure Only (b : Nat) (w w' : World) : Prop where
  os : w'.os = w.os
  tape : w'.tape = w.tape
  output : w'.output = w.output
  size : w.heap.size ≤ w'.heap.size
  block : ∀ k, k < w.heap.size → k ≠ b → w'.heap[k]? = w.heap[k]?

theorem Only.refl' (b : Nat) (w : World) : Only b w w := ⟨rfl, rfl, rfl, Nat.le_refl _, fun _ _ _ => rfl⟩
theorem only_trans {b : Nat} {w w1 w2 : World} (h : Only b w w1) (k : Only b w1 w2) : Only b w w2 :=
  ⟨k.os.trans h.os, k.tape.trans h.tape, k.output.trans h.output, Nat.le_trans h.size k.size, fun i hi hb => (k.block i (Nat.lt_of_lt_of_le hi h.size) hb).trans (h.block i hi hb)⟩
theorem only_below {b B : Nat} {w w' : World} (h : Only b w w') (hB : B ≤ b) (hw : B ≤ w.heap.size) : Below B w w' :=
  ⟨h.os, h.tape, h.output, h.size, fun i hi => h.block i (by omega) (by omega)⟩
theorem only_of_below {b : Nat} {w w' : World} (h : Below w.heap.size w w') : Only b w w' := ⟨h.os, h.tape, h.output, h.size, fun i hi _ => h.block i hi⟩
theorem only_set {b : Nat} {w w' : World} (h : Only b w w') (i : Nat) (v : Value) : Only b w (w'.setCell ⟨b, i, none⟩ v) :=
  ⟨h.os, h.tape, h.output, by simpa using h.size, fun k hk hb => (Below.heap_setCell w' ⟨b, i, none⟩ v k hb).trans (h.block k hk hb)⟩
theorem only_cell {b : Nat} {w w' : World} (h : Only b w w') {c o : Nat} (hc : c < w.heap.size) (hb : c ≠ b) : w'.cell? ⟨c, o, none⟩ = w.cell? ⟨c, o, none⟩ :=
  World.cell?_of_block (w := w) (a := ⟨c, o, none⟩) (h.block c hc hb)

theorem cs_same {w : World} {a : Addr} {v u : Value} (h : w.cell? a = some u) : (w.setCell a v).cell? a = some v := World.cell?_setCell_same (h := h) ..
theorem cs_other {w : World} {a b : Addr} {v : Value} (h : a ≠ b) : (w.setCell a v).cell? b = w.cell? b := World.cell?_setCell_other (h := h) ..
theorem cs_frozen {w : World} {a b : Addr} {v : Value} : (w.setCell a v).frozen? b = w.frozen? b := World.frozen?_setCell ..

/-- a writer at block b holds a text. -/
structure Wr (w : World) (b : Nat) (l : List UInt8) : Prop where
  lt : b < w.heap.size
  room : l.length ≤ 22
  at_ : w.cell? ⟨b, 22, none⟩ = some (.int .i64 ((22 - l.length : Nat) : Int))
  any : ∀ i, i < 22 → ∃ x, w.cell? ⟨b, i, none⟩ = some (.int .u8 x)
  soft : ∀ i, i ≤ 22 → w.frozen? ⟨b, i, none⟩ = false
  text : ∀ i (h : i < l.length), w.cell? ⟨b, 22 - l.length + i, none⟩ = some (.int .u8 ((l[i]).toNat : Int))

theorem wr_only_other {w w' : World} {b : Nat} {l : List UInt8} (h : Wr w b l) (hw : Below w.heap.size w w') : Wr w' b l := by
  obtain ⟨hc, hf⟩ := bcell hw
  exact ⟨Nat.lt_of_lt_of_le h.lt hw.size, h.room, (hc _ _ h.lt).trans h.at_, fun i hi => let ⟨x, hx⟩ := h.any i hi; ⟨x, (hc _ _ h.lt).trans hx⟩,
    fun i hi => (hf _ _ h.lt).trans (h.soft i hi), fun i hi => (hc _ _ h.lt).trans (h.text i hi)⟩

theorem wr_put {w w1 : World} {b n : Nat} {l : List UInt8} (c : UInt8) (h : Wr w b l) (hn : 22 - l.length = n + 1)
    (hw : Below (w.setCell ⟨b, 22, none⟩ (.int .i64 (n : Int))).heap.size (w.setCell ⟨b, 22, none⟩ (.int .i64 (n : Int))) w1) :
    Wr (w1.setCell ⟨b, n, none⟩ (.int .u8 (c.toNat : Int))) b (c :: l) ∧ Only b w (w1.setCell ⟨b, n, none⟩ (.int .u8 (c.toNat : Int))) := by
  obtain ⟨hc, hf⟩ := bcell hw
  have hs := hw.size
  simp only [World.size_setCell] at hc hf hs
  have c22 : w1.cell? ⟨b, 22, none⟩ = some (.int .i64 (n : Int)) := (hc _ _ h.lt).trans (cs_same h.at_)
  have cold : ∀ i, i < 22 → w1.cell? ⟨b, i, none⟩ = w.cell? ⟨b, i, none⟩ := fun i hi => (hc _ _ h.lt).trans (cs_other (fun e => by simp only [Addr.mk.injEq] at e; omega))
  obtain ⟨x, hx⟩ := h.any n (by omega)
  have cx := (cold n (by omega)).trans hx
  refine ⟨⟨by simp only [World.size_setCell]; exact Nat.lt_of_lt_of_le h.lt hs, by simp only [List.length_cons]; omega, ?_, ?_, ?_, ?_⟩, ?_⟩
  · rw [cs_other (fun e => by simp only [Addr.mk.injEq] at e; omega), c22]
    simp only [List.length_cons]; congr 3; omega
  · intro i hi
    by_cases hi2 : i = n
    · subst hi2; exact ⟨_, cs_same cx⟩
    · obtain ⟨y, hy⟩ := h.any i hi
      exact ⟨y, by rw [cs_other (fun e => by simp only [Addr.mk.injEq] at e; omega), cold i hi]; exact hy⟩
  · intro i hi
    rw [cs_frozen, hf _ _ h.lt, cs_frozen]; exact h.soft i hi
  · intro i hi
    cases i with
    | zero =>
      have e : 22 - (c :: l).length + 0 = n := by simp only [List.length_cons]; omega
      rw [e]; exact cs_same cx
    | succ i =>
      have hi' : i < l.length := by simpa using hi
      have e : 22 - (c :: l).length + (i + 1) = 22 - l.length + i := by simp only [List.length_cons]; omega
      rw [e, cs_other (fun e => by simp only [Addr.mk.injEq] at e; omega), cold _ (by omega)]
      simpa using h.text i hi'
  · have o1 : Only b w (w.setCell ⟨b, 22, none⟩ (.int .i64 (n : Int))) := only_set (Only.refl' b w) 22 _
    exact only_set (only_trans o1 (only_of_below hw)) _ _

set_option maxHeartbeats 800000 in
theorem put_any (b : Nat) (l : List UInt8) (c : UInt8) (w : World) (h : Wr w b l) (hl : l.length < 22) :
    Calls Tryz.prog 194 #[.pointer (some ⟨b, 0, none⟩), .int .u8 (c.toNat : Int)] w fun e w' => e = .returned (.tuple #[]) ∧ Only b w w' ∧ Wr w' b (c :: l) := by
  obtain ⟨n, hn⟩ : ∃ n, 22 - l.length = n + 1 := ⟨21 - l.length, by omega⟩
  have P := Lib.hid (fun w1 => wr_put (w1 := w1) c h hn)
  have hn22 : n < 22 := by omega
  obtain ⟨x, hx⟩ := h.any n (by omega)
  have h22 := h.at_
  rw [hn, Int.natCast_add, Int.natCast_one] at h22
  have f22 := h.soft 22 (by omega)
  have fx := h.soft n (by omega)
  have hb := h.lt
  clear h hn hl
  have x1 : ¬ n = 22 := by omega
  have x2 : ¬ 22 = n := by omega
  have x3 : (n : Int) < 22 := by omega
  go_enter Tryz.func194, Tryz.ntmps194
  go_wp2_with fail
  refine wp_region_quiet_tail (fun w' => ∃ x : Lower _, w' = x.val) 9 (by kernel_rfl) (by kernel_rfl) ⟨⟨_, (Below.refl _ _).drew⟩, rfl⟩ ?_
  simp only [List.take_succ_cons, List.take_zero, List.drop_succ_cons, List.drop_zero]
  repeat (go_big_quiet_step (fail))
  refine wpQuiet_nil ?_
  intro w1 hx1
  obtain ⟨x1, hx1⟩ := hx1
  have hb1 := x1.prop
  rw [← hx1] at hb1
  clear hx1 x1
  obtain ⟨hc1, hf1⟩ := bcell hb1
  have hs1 := hb1.size
  try simp at hs1
  try have hz0 : w.heap.size < w1.heap.size := by omega
  try have hz1 : w.heap.size + 1 < w1.heap.size := by omega
  try have hz2 : w.heap.size + 1 + 1 < w1.heap.size := by omega
  try have hz3 : w.heap.size + 1 + 1 + 1 < w1.heap.size := by omega
  try have hz4 : w.heap.size + 1 + 1 + 1 + 1 < w1.heap.size := by omega
  try have hz5 : w.heap.size + 1 + 1 + 1 + 1 + 1 < w1.heap.size := by omega
  go_wp2
  go_end0
  obtain ⟨p1, p2⟩ := P.out _ hb1
  exact ⟨rfl, p2, p1⟩

/-- n, at least so many digits, in front of the text. -/
def numText (n : Int) (k : Int) (l : List UInt8) : List UInt8 := padS k.toNat n.toNat ++ l

theorem put_int (b : Nat) (l : List UInt8) (d : UInt8) (c : Int) (w : World) (hc : c = (d.toNat : Int)) (h : Wr w b l) (hl : l.length < 22) :
    Calls Tryz.prog 194 #[.pointer (some ⟨b, 0, none⟩), .int .u8 c] w fun e w' => e = .returned (.tuple #[]) ∧ Only b w w' ∧ Wr w' b (d :: l) := by
  subst hc; exact put_any b l d w h hl

theorem numText_step {m j : Int} {l : List UInt8} (hm : 0 ≤ m) (h : 0 < m ∨ 0 < j) : numText m j l = numText (m / 10) (j - 1) (dig m.toNat :: l) := by
  unfold numText
  rw [padS_pred _ _ (by omega), List.append_assoc]
  have e1 : (j - 1).toNat = j.toNat - 1 := by omega
  have e2 : (m / 10).toNat = m.toNat / 10 := by omega
  rw [e1, e2]; rfl
theorem numText_end {j : Int} {l : List UInt8} (h : j ≤ 0) : numText 0 j l = l := by
  unfold numText
  rw [show j.toNat = 0 by omega]; rfl
theorem numText_room {m j : Int} {l : List UInt8} (hm : 0 ≤ m) (h : 0 < m ∨ 0 < j) (hl : (numText m j l).length ≤ 22) : l.length < 22 := by
  rw [numText_step hm h] at hl
  unfold numText at hl
  simp at hl
  omega
theorem dig_int (m : Int) (hm : 0 ≤ m) : 48 + m % 10 = ((dig m.toNat).toNat : Int) := by rw [dig_nat]; omega

/-- what holds at each round of 'number'. -/
structure NumRel (w : World) (b : Nat) (n k : Int) (l : List UInt8) (m j : Int) (acc : List UInt8) (wr : World) : Prop where
  lo : 0 ≤ m
  hi : m ≤ 9000000000000000000
  left : j = k + l.length - acc.length
  text : numText m j acc = numText n k l
  only : Only b w wr
  wr : Wr wr b acc

set_option maxHeartbeats 800000 in
theorem number_any (b : Nat) (l : List UInt8) (n k : Int) (w : World) (h : Wr w b l) (hn : 0 ≤ n) (hn2 : n ≤ 9000000000000000000) (hk : 0 ≤ k) (hk2 : k ≤ 100) (hl : (numText n k l).length ≤ 22) :
    Calls Tryz.prog 193 #[.pointer (some ⟨b, 0, none⟩), .int .i64 n, .int .i64 k] w fun e w' => e = .returned (.tuple #[]) ∧ Only b w w' ∧ Wr w' b (numText n k l) := by
  have HW := Lib.hid h; clear h
  have HL := Lib.hid hl; clear hl
  go_enter Tryz.func193, Tryz.ntmps193
  go_wp2_with fail
  go_loopw [1, 2] (fun a c wr => ∃ (m j : Int) (acc : List UInt8), a = .int .i64 m ∧ c = .int .i64 j ∧ NumRel w b n k l m j acc wr) (fun a c _ => (intOf a).toNat + (intOf c).toNat)
  case atStart => exact ⟨n, k, l, rfl, rfl, hn, hn2, by omega, rfl, Only.refl' _ _, HW.out⟩
  case round =>
    obtain ⟨m, j, acc, rfl, rfl, R⟩ := hrel
    have h1 := R.lo
    have h2 := R.hi
    have h3 : -22 ≤ j := by have := R.left; have := R.wr.room; omega
    have h4 : j ≤ 122 := by have := R.left; have := HW.out.room; omega
    have HR := Lib.hid R; clear R
    by_cases hc : 0 < m ∨ 0 < j
    · have hr := numText_room h1 hc (by rw [HR.out.text]; exact HL.out)
      have HP := Lib.hid (put_int b acc (dig m.toNat) (48 + m % 10) wr (dig_int m h1) HR.out.wr hr)
      have HT := Lib.hid (numText_step (l := acc) h1 hc)
      have hm0 := Int.emod_nonneg m (by omega : (10 : Int) ≠ 0)
      have hm1 := Int.emod_lt_of_pos m (by omega : (0 : Int) < 10)
      have hdz := Int.ediv_nonneg h1 (by omega : (0 : Int) ≤ 10)
      by_cases hmp : 0 < m
      · clear hc
        go_wp2_with fail
        refine HP.out.mono ?_
        rintro e w1 ⟨rfl, ho, hw⟩
        have Ho := Lib.hid ho; clear ho
        have Hw := Lib.hid hw; clear hw
        go_wp2
        go_roundw
        case rel => exact ⟨m / 10, j - 1, _, rfl, rfl, by omega, by omega, by have := HR.out.left; simp only [List.length_cons]; omega, by rw [← HT.out]; exact HR.out.text, only_trans HR.out.only Ho.out, Hw.out⟩
        case measure => simp [intOf]; omega
      · have hjp : 0 < j := by omega
        clear hc
        go_wp2_with fail
        refine HP.out.mono ?_
        rintro e w1 ⟨rfl, ho, hw⟩
        have Ho := Lib.hid ho; clear ho
        have Hw := Lib.hid hw; clear hw
        go_wp2
        go_roundw
        case rel => exact ⟨m / 10, j - 1, _, rfl, rfl, by omega, by omega, by have := HR.out.left; simp only [List.length_cons]; omega, by rw [← HT.out]; exact HR.out.text, only_trans HR.out.only Ho.out, Hw.out⟩
        case measure => simp [intOf]; omega
    · have hm0 : m = 0 := by omega
      have hj0 : j ≤ 0 := by omega
      subst hm0
      clear hc
      have HE := Lib.hid (numText_end (l := acc) hj0)
      have hT := HR.out.text
      rw [HE.out] at hT
      have Hacc := Lib.hid hT; clear hT
      go_wp2
      go_end0
      exact ⟨rfl, HR.out.only, by rw [← Hacc.out]; exact HR.out.wr⟩

/-- the sign in front of the text. -/
def signText (n : Int) (l : List UInt8) : List UInt8 := if n < 0 then 45 :: l else l

set_option maxHeartbeats 800000 in
theorem sign_any (b : Nat) (l : List UInt8) (n : Int) (w : World) (h : Wr w b l) (hl : l.length < 22) :
    Calls Tryz.prog 195 #[.pointer (some ⟨b, 0, none⟩), .int .i64 n] w fun e w' => e = .returned (.tuple #[]) ∧ Only b w w' ∧ Wr w' b (signText n l) := by
  unfold signText
  have HP := Lib.hid (put_int b l 45 45 w rfl h hl)
  have HW := Lib.hid h; clear h
  by_cases hn : n < 0
  · rw [if_pos hn]
    go_enter Tryz.func195, Tryz.ntmps195
    go_wp2_with fail
    refine HP.out.mono ?_
    rintro e w1 ⟨rfl, ho, hw⟩
    have Ho := Lib.hid ho; clear ho
    have Hw := Lib.hid hw; clear hw
    go_wp2
    go_end0
    exact ⟨rfl, Ho.out, Hw.out⟩
  · rw [if_neg hn]
    go_enter Tryz.func195, Tryz.ntmps195
    go_wp2
    go_end0
    exact ⟨rfl, Only.refl' _ _, HW.out⟩

theorem wr_new (w : World) (c : Array Value) (t : TypeId) (hz : ∀ i, i < 22 → c[i]? = some (.int .u8 0)) (h22 : c[22]? = some (.int .i64 22)) : Wr (w.alloc (.cells c t)) w.heap.size [] := by
  refine ⟨by simp, by simp, ?_, fun i hi => ⟨0, ?_⟩, fun i _ => ?_, fun i h => absurd h (by simp)⟩
  · rw [World.cell?_alloc_at (hn := rfl)]; exact h22
  · rw [World.cell?_alloc_at (hn := rfl)]; exact hz i hi
  · exact World.frozen?_alloc_at (hn := rfl) ..

set_option maxHeartbeats 800000 in
theorem newWriter_any (w : World) :
    Calls Tryz.prog 192 #[] w fun e w' => e = .returned (.pointer (some ⟨w.heap.size, 0, none⟩)) ∧ Below w.heap.size w w' ∧ Wr w' w.heap.size [] := by
  go_enter Tryz.func192, Tryz.ntmps192
  go_wp2
  go_ret
  refine ⟨rfl, by ((repeat' (first | exact Below.refl _ _ | assumption | refine Below.setCell ?_ ?_ _ | refine bdrewN ?_ _ | refine Below.drew ?_ | refine Below.alloc ?_ ?_ _ | refine bbehind ?_ (by assumption) ?_)); all_goals first | (simp; done) | (simp; omega) | omega), wr_new _ _ _ (fun i hi => ?_) rfl⟩
  have : i = 0 ∨ i = 1 ∨ i = 2 ∨ i = 3 ∨ i = 4 ∨ i = 5 ∨ i = 6 ∨ i = 7 ∨ i = 8 ∨ i = 9 ∨ i = 10 ∨ i = 11 ∨ i = 12 ∨ i = 13 ∨ i = 14 ∨ i = 15 ∨ i = 16 ∨ i = 17 ∨ i = 18 ∨ i = 19 ∨ i = 20 ∨ i = 21 := by omega
  rcases this with rfl | rfl | rfl | rfl | rfl | rfl | rfl | rfl | rfl | rfl | rfl | rfl | rfl | rfl | rfl | rfl | rfl | rfl | rfl | rfl | rfl | rfl <;> rfl

theorem arr22_len : Program.arrayLen Tryz.prog 216 = 22 := by kernel_rfl
theorem arr22_elem : Program.elem Tryz.prog 216 = 5 := by kernel_rfl
theorem arr22_under : (Tryz.prog).underlying 216 = some (.array (Program.arrayLen Tryz.prog 216) (Program.elem Tryz.prog 216)) := by kernel_rfl
theorem size_u8 (w : World) : (sizeOf 5).run Tryz.prog w = .ok 1 w := by kernel_rfl

/-- where the text lies: as the model says it of a slice that has no room. -/
def textAt (b n : Nat) : Addr := if 22 = n then ⟨b, 0, none⟩ else ⟨b, n, none⟩

theorem run_slice_arr (b n : Nat) (hn : n ≤ 22) (w : World) :
    (Instr.sliceAt 216 (.pointer (some ⟨b, 0, none⟩)) (some (.int .i64 (n : Int))) none none).run Tryz.prog w = .ok (.slice (some (textAt b n)) (22 - n) (22 - n)) w := by
  rw [run_sliceAt_array_l (ht := arr22_under) (h0 := by omega) (h1 := by rw [arr22_len]; omega), arr22_elem, size_u8, arr22_len]
  simp only [Result.andThen, slicedAt, textAt, Int.toNat_natCast, Nat.mul_one]
  split <;> simp [Addr.add] <;> omega

set_option maxHeartbeats 800000 in
theorem text_any (b : Nat) (l : List UInt8) (w : World) (h : Wr w b l) :
    Calls Tryz.prog 196 #[.pointer (some ⟨b, 0, none⟩)] w fun e w' => e = .returned (.string ⟨l.toArray⟩) ∧ Below w.heap.size w w' := by
  obtain ⟨n, hn⟩ : ∃ n, 22 - l.length = n := ⟨_, rfl⟩
  have hroom := h.room
  have hll : 22 - n = l.length := by omega
  have h22 := h.at_
  have hb := h.lt
  have hsl : ∀ w, (Instr.sliceAt 216 (.pointer (some ⟨b, 0, none⟩)) (some (.int .i64 (n : Int))) none none).run Tryz.prog w = .ok (.slice (some (textAt b n)) l.length l.length) w := fun w => by
    rw [run_slice_arr b n (by omega), hll]
  have hcv : ∀ x : Lower w, (convert 92 9 (.slice (some (textAt b n)) l.length l.length)).run Tryz.prog x.val = .ok (.string ⟨l.toArray⟩) x.val := fun x => by
    refine run_convert_bytes_back x.val _ _ 5 _ _ l (by kernel_rfl) (by kernel_rfl) (by kernel_rfl) fun j hj => ?_
    have e : (textAt b n).add j = ⟨b, 22 - l.length + j, none⟩ := by
      unfold textAt
      rw [if_neg (by omega), hn]
      unfold Addr.add
      split <;> simp_all
    rw [e, Lower.cell x _ _ hb]
    exact h.text j hj
  rw [hn] at h22
  clear h hn hll hroom
  generalize textAt b n = ad at *
  go_enter Tryz.func196, Tryz.ntmps196
  go_wp2_with fail
  refine wp_region_quiet_all (fun w' => ∃ x : Lower _, w' = x.val) (by kernel_rfl) (by kernel_rfl) ⟨⟨_, (Below.refl _ _).drew⟩, rfl⟩ ?_
  repeat (go_big_quiet_step (fail))
  refine wpQuiet_nil ?_
  intro w1 hx1
  obtain ⟨x1, hx1⟩ := hx1
  have hb1 := x1.prop
  rw [← hx1] at hb1
  clear hx1 x1
  obtain ⟨hc1, hf1⟩ := bcell hb1
  have hs1 := hb1.size
  try simp at hs1
  try have hz0 : w.heap.size < w1.heap.size := by omega
  try have hz1 : w.heap.size + 1 < w1.heap.size := by omega
  try have hz2 : w.heap.size + 1 + 1 < w1.heap.size := by omega
  try have hz3 : w.heap.size + 1 + 1 + 1 < w1.heap.size := by omega
  try have hz4 : w.heap.size + 1 + 1 + 1 + 1 < w1.heap.size := by omega
  try have hz5 : w.heap.size + 1 + 1 + 1 + 1 + 1 < w1.heap.size := by omega
  go_wp2
  go_ret
  exact ⟨rfl, by ((repeat' (first | exact Below.refl _ _ | assumption | refine Below.setCell ?_ ?_ _ | refine bdrewN ?_ _ | refine Below.drew ?_ | refine Below.alloc ?_ ?_ _ | refine bbehind ?_ (by assumption) ?_)); all_goals first | (simp; done) | (simp; omega) | omega)⟩
end Go.Proofs.YtefongoinlcgaaaGreat

namespace Go.Proofs.YtefongoinlcgaaaGreat
open Go.RowKit Go.BigFrame

theorem below_only {B b : Nat} {w w1 w2 : World} (h : Below B w w1) (k : Only b w1 w2) (hB : B ≤ b) (hw : B ≤ w1.heap.size) : Below B w w2 := h.trans (only_below k hB hw)

/-- the text of a number. -/
def toldS (n d : Int) : List UInt8 := signText n (numText (n.natAbs : Int) 1 (if d = 1 then [] else 47 :: numText d 1 []))

theorem numText1 (n : Int) (l : List UInt8) : numText n 1 l = digs n.toNat ++ l := by unfold numText; rw [show (1 : Int).toNat = 1 from rfl, padS_one]
theorem numText1_len {n : Int} (l : List UInt8) (h : n ≤ 1000000000) : (numText n 1 l).length ≤ 10 + l.length := by
  rw [numText1, List.length_append]
  have := digs_len 9 n.toNat (by omega)
  omega
theorem signText_len (n : Int) (l : List UInt8) : (signText n l).length ≤ 1 + l.length := by unfold signText; split <;> simp <;> omega

set_option maxHeartbeats 2000000 in
theorem printed_any (n d : Int) (w : World) (f : Fit n d) :
    Calls Tryz.prog 182 #[.agg #[.int .i64 n, .int .i64 d]] w fun e w' => e = .returned (.string ⟨(toldS n d).toArray⟩) ∧ Below w.heap.size w w' := by
  obtain ⟨n1, n2, d1, d2⟩ := f
  unfold toldS
  by_cases hd : d = 1
  · subst hd
    rw [if_pos rfl]
    have l1 := numText1_len [] (n := (n.natAbs : Int)) (by omega)
    have l2 := signText_len n (numText (n.natAbs : Int) 1 [])
    simp only [List.length_nil] at l1
    generalize hL : signText n (numText (n.natAbs : Int) 1 []) = L at *
    have HL := Lib.hid hL; clear hL
    go_enter Tryz.func182, Tryz.ntmps182
    go_wp2_with fail
    refine (newWriter_any _).mono ?_
    rintro e w0 ⟨rfl, hb0, hw0⟩
    obtain ⟨hc0, hf0⟩ := bcell hb0
    have hs0 := hb0.size
    simp at hs0 hw0
    have hz0 : w.heap.size < w0.heap.size := by omega
    have c00 : w0.cell? ⟨w.heap.size, 0, none⟩ = some (.int .i64 n) := (hc0 _ _ (by simp)).trans (by simp [go_sem])
    have c01 : w0.cell? ⟨w.heap.size, 1, none⟩ = some (.int .i64 1) := (hc0 _ _ (by simp)).trans (by simp [go_sem])
    clear hc0 hf0
    have HW0 := Lib.hid hw0; clear hw0
    have hb00 : Below w.heap.size w w0 := bbehind ((Below.refl _ _).alloc (Nat.le_refl _) _) hb0 (by simp)
    have HB0 := Lib.hid hb00; clear hb00 hb0
    go_wp2_with fail
    refine (abs_any _ _ (by omega) (by omega)).mono ?_
    rintro e w' ⟨rfl, rfl⟩
    go_wp2_with fail
    refine (number_any _ _ _ _ _ HW0.out (by omega) (by omega) (by omega) (by omega) (by omega)).mono ?_
    rintro e w1 ⟨rfl, ho, hw⟩
    have hz1 : w.heap.size < w1.heap.size := by have := ho.size; omega
    have hb : Below w.heap.size w w1 := below_only HB0.out ho (by omega) (by omega)
    have c10 : w1.cell? ⟨w.heap.size, 0, none⟩ = some (.int .i64 n) := (only_cell ho (by omega) (by omega)).trans c00
    have c11 : w1.cell? ⟨w.heap.size, 1, none⟩ = some (.int .i64 1) := (only_cell ho (by omega) (by omega)).trans c01
    clear ho
    have HB1 := Lib.hid hb; clear hb
    have HW1 := Lib.hid hw; clear hw
    go_wp2_with fail
    refine (sign_any _ _ _ _ HW1.out (by omega)).mono ?_
    rintro e w2 ⟨rfl, ho, hw⟩
    have hz2 : w.heap.size < w2.heap.size := by have := ho.size; omega
    have hb : Below w.heap.size w w2 := below_only HB1.out ho (by omega) (by omega)
    clear ho
    have HB2 := Lib.hid hb; clear hb
    have HW2 := Lib.hid hw; clear hw
    go_wp2_with fail
    refine (text_any _ _ _ HW2.out).mono ?_
    rintro e wl ⟨rfl, hl⟩
    go_wp2
    go_ret
    exact ⟨by first | rfl | (rw [HL.out]; rfl), bbehind HB2.out hl (by omega)⟩
  · have hd' : (d != 1) = true := by simpa using hd
    rw [if_neg hd]
    clear hd
    have l0 := numText1_len [] (n := d) (by omega)
    have l1 := numText1_len (47 :: numText d 1 []) (n := (n.natAbs : Int)) (by omega)
    have l2 := signText_len n (numText (n.natAbs : Int) 1 (47 :: numText d 1 []))
    simp only [List.length_nil, List.length_cons] at l0 l1
    generalize hL : signText n (numText (n.natAbs : Int) 1 (47 :: numText d 1 [])) = L at *
    have HL := Lib.hid hL; clear hL
    go_enter Tryz.func182, Tryz.ntmps182
    go_wp2_with fail
    refine (newWriter_any _).mono ?_
    rintro e w0 ⟨rfl, hb0, hw0⟩
    obtain ⟨hc0, hf0⟩ := bcell hb0
    have hs0 := hb0.size
    simp at hs0 hw0
    have hz0 : w.heap.size < w0.heap.size := by omega
    have c00 : w0.cell? ⟨w.heap.size, 0, none⟩ = some (.int .i64 n) := (hc0 _ _ (by simp)).trans (by simp [go_sem])
    have c01 : w0.cell? ⟨w.heap.size, 1, none⟩ = some (.int .i64 d) := (hc0 _ _ (by simp)).trans (by simp [go_sem])
    clear hc0 hf0
    have HW0 := Lib.hid hw0; clear hw0
    have hb00 : Below w.heap.size w w0 := bbehind ((Below.refl _ _).alloc (Nat.le_refl _) _) hb0 (by simp)
    have HB0 := Lib.hid hb00; clear hb00 hb0
    go_wp2_with fail
    refine (number_any _ _ _ _ _ HW0.out (by omega) (by omega) (by omega) (by omega) (by omega)).mono ?_
    rintro e w1 ⟨rfl, ho, hw⟩
    have hz1 : w.heap.size < w1.heap.size := by have := ho.size; omega
    have hb : Below w.heap.size w w1 := below_only HB0.out ho (by omega) (by omega)
    have c10 : w1.cell? ⟨w.heap.size, 0, none⟩ = some (.int .i64 n) := (only_cell ho (by omega) (by omega)).trans c00
    have c11 : w1.cell? ⟨w.heap.size, 1, none⟩ = some (.int .i64 d) := (only_cell ho (by omega) (by omega)).trans c01
    clear ho
    have HB1 := Lib.hid hb; clear hb
    have HW1 := Lib.hid hw; clear hw
    go_wp2_with fail
    refine (put_int _ _ 47 47 _ rfl HW1.out (by omega)).mono ?_
    rintro e w2 ⟨rfl, ho, hw⟩
    have hz2 : w.heap.size < w2.heap.size := by have := ho.size; omega
    have hb : Below w.heap.size w w2 := below_only HB1.out ho (by omega) (by omega)
    have c20 : w2.cell? ⟨w.heap.size, 0, none⟩ = some (.int .i64 n) := (only_cell ho (by omega) (by omega)).trans c10
    have c21 : w2.cell? ⟨w.heap.size, 1, none⟩ = some (.int .i64 d) := (only_cell ho (by omega) (by omega)).trans c11
    clear ho
    have HB2 := Lib.hid hb; clear hb
    have HW2 := Lib.hid hw; clear hw
    go_wp2_with fail
    refine (abs_any _ _ (by omega) (by omega)).mono ?_
    rintro e w' ⟨rfl, rfl⟩
    go_wp2_with fail
    refine (number_any _ _ _ _ _ HW2.out (by omega) (by omega) (by omega) (by omega) (by first | omega | (simp only [List.length_cons]; omega))).mono ?_
    rintro e w3 ⟨rfl, ho, hw⟩
    have hz3 : w.heap.size < w3.heap.size := by have := ho.size; omega
    have hb : Below w.heap.size w w3 := below_only HB2.out ho (by omega) (by omega)
    have c30 : w3.cell? ⟨w.heap.size, 0, none⟩ = some (.int .i64 n) := (only_cell ho (by omega) (by omega)).trans c20
    have c31 : w3.cell? ⟨w.heap.size, 1, none⟩ = some (.int .i64 d) := (only_cell ho (by omega) (by omega)).trans c21
    clear ho
    have HB3 := Lib.hid hb; clear hb
    have HW3 := Lib.hid hw; clear hw
    go_wp2_with fail
    refine (sign_any _ _ _ _ HW3.out (by omega)).mono ?_
    rintro e w4 ⟨rfl, ho, hw⟩
    have hz4 : w.heap.size < w4.heap.size := by have := ho.size; omega
    have hb : Below w.heap.size w w4 := below_only HB3.out ho (by omega) (by omega)
    clear ho
    have HB4 := Lib.hid hb; clear hb
    have HW4 := Lib.hid hw; clear hw
    go_wp2_with fail
    refine (text_any _ _ _ HW4.out).mono ?_
    rintro e wl ⟨rfl, hl⟩
    go_wp2
    go_ret
    exact ⟨by first | rfl | (rw [HL.out]; rfl), bbehind HB4.out hl (by omega)⟩

def printE (n d : Int) : List UInt8 := if chk n d = 0 then toldS n d else []

set_option maxHeartbeats 1000000 in
theorem print_any (n d : Int) (w : World) :
    Calls Tryz.prog 171 #[.agg #[.int .i64 n, .int .i64 d]] w fun e w' => e = .returned (.tuple #[.string ⟨(printE n d).toArray⟩, .int .i64 (chk n d)]) ∧ Below w.heap.size w w' := by
  unfold printE
  by_cases hA : chk n d = 0
  · have hf := fit_of_chk hA
    rw [if_pos hA]
    have HA := Lib.hid hA
    go_enter Tryz.func171, Tryz.ntmps171
    go_wp2_with (first | (go_at_call 73; refine (check_any _ _ _).mono ?_; rintro e w1 ⟨rfl, hb1⟩; obtain ⟨hc1, hf1⟩ := bcell hb1; have hs1 := hb1.size; (try simp at hs1); (try have hz0 : w.heap.size < w1.heap.size := by omega); (try have hz1 : w.heap.size + 1 < w1.heap.size := by omega); (try have hz2 : w.heap.size + 1 + 1 < w1.heap.size := by omega); (try have hz3 : w.heap.size + 1 + 1 + 1 < w1.heap.size := by omega); (try have hz4 : w.heap.size + 1 + 1 + 1 + 1 < w1.heap.size := by omega); (try have hz5 : w.heap.size + 1 + 1 + 1 + 1 + 1 < w1.heap.size := by omega)) | (go_at_call 182; refine (printed_any _ _ _ hf).mono ?_; rintro e w1 ⟨rfl, hb1⟩; obtain ⟨hc1, hf1⟩ := bcell hb1; have hs1 := hb1.size; (try simp at hs1); (try have hz0 : w.heap.size < w1.heap.size := by omega); (try have hz1 : w.heap.size + 1 < w1.heap.size := by omega); (try have hz2 : w.heap.size + 1 + 1 < w1.heap.size := by omega); (try have hz3 : w.heap.size + 1 + 1 + 1 < w1.heap.size := by omega); (try have hz4 : w.heap.size + 1 + 1 + 1 + 1 < w1.heap.size := by omega); (try have hz5 : w.heap.size + 1 + 1 + 1 + 1 + 1 < w1.heap.size := by omega)))
    go_ret2
    exact ⟨by rw [HA.out]; rfl, by ((repeat' (first | exact Below.refl _ _ | assumption | refine Below.setCell ?_ ?_ _ | refine bdrewN ?_ _ | refine Below.drew ?_ | refine Below.alloc ?_ ?_ _ | refine bbehind ?_ (by assumption) ?_)); all_goals first | (simp; done) | (simp; omega) | omega)⟩
  · have hA' : (chk n d != 0) = true := by simpa using hA
    rw [if_neg hA]
    clear hA
    go_enter Tryz.func171, Tryz.ntmps171
    go_wp2_with (go_at_call 73; refine (check_any _ _ _).mono ?_; rintro e w1 ⟨rfl, hb1⟩; obtain ⟨hc1, hf1⟩ := bcell hb1; have hs1 := hb1.size; (try simp at hs1); (try have hz0 : w.heap.size < w1.heap.size := by omega); (try have hz1 : w.heap.size + 1 < w1.heap.size := by omega); (try have hz2 : w.heap.size + 1 + 1 < w1.heap.size := by omega); (try have hz3 : w.heap.size + 1 + 1 + 1 < w1.heap.size := by omega); (try have hz4 : w.heap.size + 1 + 1 + 1 + 1 < w1.heap.size := by omega); (try have hz5 : w.heap.size + 1 + 1 + 1 + 1 + 1 < w1.heap.size := by omega))
    go_ret2
    exact ⟨rfl, by ((repeat' (first | exact Below.refl _ _ | assumption | refine Below.setCell ?_ ?_ _ | refine bdrewN ?_ _ | refine Below.drew ?_ | refine Below.alloc ?_ ?_ _ | refine bbehind ?_ (by assumption) ?_)); all_goals first | (simp; done) | (simp; omega) | omega)⟩
end Go.Proofs.YtefongoinlcgaaaGreat

namespace Go.Proofs.YtefongoinlcgaaaGreat
open Go.RowKit Go.BigFrame

theorem roundM_bd {n d B : Int} (h1 : -B ≤ n) (h2 : n ≤ B) (hd : 0 < d) : -B ≤ roundM n d ∧ roundM n d ≤ B := by
  have hq := ediv_bd n d B h1 h2 hd
  have e1 := Int.mul_ediv_add_emod n d
  have e2 := Int.emod_nonneg n (by omega : d ≠ 0)
  have e3 := Int.emod_lt_of_pos n hd
  have hup : d ≤ 2 * (n % d) → n / d + 1 ≤ B := by
    intro h
    by_cases hn : 0 ≤ n / d
    · have := Int.mul_le_mul_of_nonneg_right (by omega : 1 ≤ d) hn
      omega
    · omega
  unfold roundM
  split
  · rename_i h
    have := hup (by omega)
    omega
  · exact hq

/-- the text of a multiple of the last place. -/
def decS (q : Int) (p : Nat) : List UInt8 := signText q (numText ((q.natAbs : Int) / p10 p) 1 (if p = 0 then [] else 46 :: numText ((q.natAbs : Int) % p10 p) p []))

theorem numTextK_len {n : Int} {p : Nat} (h : n < p10 p) : (numText n p []).length ≤ p := by
  unfold numText
  rw [List.append_nil, Int.toNat_natCast]
  have h1 : n.toNat < 10 ^ p := by
    have : p10 p = ((10 ^ p : Nat) : Int) := by unfold p10; simp
    have h0 : 0 < (10 : Nat) ^ p := Nat.pow_pos (by omega)
    omega
  have := padS_len p n.toNat p h1
  omega

def decE (n d p : Int) : List UInt8 × Int := if chk n d = 0 then (if 0 ≤ p ∧ p ≤ 9 then (decS (roundM (n * p10 p.toNat) d) p.toNat, 0) else ([], 3)) else ([], chk n d)
theorem decE_e {n d p : Int} (h : ¬ chk n d = 0) : decE n d p = ([], chk n d) := if_neg h
theorem decE_p {n d p : Int} (h : chk n d = 0) (k : ¬ (0 ≤ p ∧ p ≤ 9)) : decE n d p = ([], 3) := by unfold decE; rw [if_pos h, if_neg k]
theorem decE_o {n d : Int} {p : Nat} (h : chk n d = 0) (k : p ≤ 9) : decE n d p = (decS (roundM (n * p10 p) d) p, 0) := by unfold decE; rw [if_pos h, if_pos (by omega), Int.toNat_natCast]

/-- the sizes that Decimal meets. -/
theorem dec_bd {n d : Int} {p : Nat} (f : Fit n d) (hp : p ≤ 9) :
    -1000000000000000000 ≤ n * p10 p ∧ n * p10 p ≤ 1000000000000000000 ∧ -1000000000000000000 ≤ roundM (n * p10 p) d ∧ roundM (n * p10 p) d ≤ 1000000000000000000 ∧
      (((roundM (n * p10 p) d).natAbs : Int) / p10 p) ≤ 1000000000 := by
  obtain ⟨n1, n2, d1, d2⟩ := f
  obtain ⟨s1, s2⟩ := p10_bd p hp
  have m := mul_bd9 n1 n2 (by omega : -1000000000 ≤ p10 p) s2
  have k1 : n * p10 p ≤ 1000000000 * p10 p := Int.mul_le_mul_of_nonneg_right n2 (by omega)
  have k2 : -(1000000000 * p10 p) ≤ n * p10 p := by
    have := Int.mul_le_mul_of_nonneg_right n1 (by omega : 0 ≤ p10 p)
    rw [Int.neg_mul] at this; exact this
  have r := roundM_bd k2 k1 (by omega : 0 < d)
  refine ⟨m.1, m.2, by omega, by omega, ?_⟩
  have : ((roundM (n * p10 p) d).natAbs : Int) ≤ 1000000000 * p10 p := by omega
  exact Int.ediv_le_of_le_mul (by omega) this

end Go.Proofs.YtefongoinlcgaaaGreat

/- What digits say. -/
namespace Go.Proofs.YtefongoinlcgaaaGreat

/-- a decimal digit. -/
def isDig (c : UInt8) : Bool := decide (48 ≤ c.toNat) && decide (c.toNat ≤ 57)
/-- what digits say. -/
def valN (l : List UInt8) : Nat := l.foldl (fun a c => 10 * a + (c.toNat - 48)) 0
theorem valN_snoc (l : List UInt8) (c : UInt8) : valN (l ++ [c]) = 10 * valN l + (c.toNat - 48) := by unfold valN; rw [List.foldl_append]; rfl
theorem foldl_digits_lt (l : List UInt8) : ∀ a : Nat, l.all isDig = true → l.foldl (fun a c => 10 * a + (c.toNat - 48)) a < (a + 1) * 10 ^ l.length := by
  induction l with
  | nil => intro a _; simp
  | cons c l ih =>
    intro a h
    rw [List.all_cons, Bool.and_eq_true] at h
    have h2 : c.toNat ≤ 57 := by
      have := h.1
      simp [isDig] at this
      exact this.2
    have h3 := ih (10 * a + (c.toNat - 48)) h.2
    rw [List.foldl_cons, List.length_cons, Nat.pow_succ]
    have h4 : (10 * a + (c.toNat - 48) + 1) * 10 ^ l.length ≤ ((a + 1) * 10) * 10 ^ l.length := Nat.mul_le_mul_right _ (by omega)
    have e : (a + 1) * (10 ^ l.length * 10) = ((a + 1) * 10) * 10 ^ l.length := by rw [Nat.mul_assoc, Nat.mul_comm 10]
    omega
theorem valN_lt (l : List UInt8) (h : l.all isDig = true) : valN l < 10 ^ l.length := by
  have := foldl_digits_lt l 0 h
  unfold valN; omega
theorem dig_isDig (n : Nat) : isDig (dig n) = true := by unfold isDig; rw [dig_nat]; simp; omega
theorem digs_all (n : Nat) : (digs n).all isDig = true := by
  induction n using Nat.strongRecOn with
  | _ n ih =>
    by_cases h : n < 10
    · rw [digs_lt h]; simp [dig_isDig]
    · rw [digs_ge h, List.all_append, ih (n / 10) (by omega)]; simp [dig_isDig]
theorem valN_digs (n : Nat) : valN (digs n) = n := by
  induction n using Nat.strongRecOn with
  | _ n ih =>
    by_cases h : n < 10
    · rw [digs_lt h]; show 10 * 0 + ((dig n).toNat - 48) = n; rw [dig_nat]; omega
    · rw [digs_ge h, valN_snoc, ih (n / 10) (by omega), dig_nat]; omega
end Go.Proofs.YtefongoinlcgaaaGreat

namespace Go.Proofs.YtefongoinlcgaaaGreat
open Go.RowKit Go.BigFrame

@[go_sem] theorem ext_front (l : List UInt8) (k : Nat) : (⟨l.toArray⟩ : ByteArray).extract 0 k = ⟨(l.take k).toArray⟩ := by
  apply ByteArray.ext; rw [ByteArray.data_extract]; simp
@[go_sem] theorem ext_rest (l : List UInt8) (k : Nat) : (⟨l.toArray⟩ : ByteArray).extract k l.length = ⟨(l.drop k).toArray⟩ := by
  apply ByteArray.ext; rw [ByteArray.data_extract]; simp; rw [List.take_of_length_le (by simp)]
@[go_sem] theorem str_at (l : List UInt8) (k : Nat) (h : k < (⟨l.toArray⟩ : ByteArray).size) : (⟨l.toArray⟩ : ByteArray)[k] = l[k]'h := rfl

/-- a slash or a point. -/
def isMark (c : UInt8) : Bool := c == 47 || c == 46
/-- where the first one is. -/
def markAt (l : List UInt8) : Nat := l.findIdx isMark
def cutF (l : List UInt8) : List UInt8 := l.take (markAt l)
def cutM (l : List UInt8) : UInt8 := l.getD (markAt l) 0
def cutB (l : List UInt8) : List UInt8 := l.drop (markAt l + 1)

theorem markAt_le (l : List UInt8) : markAt l ≤ l.length := List.findIdx_le_length
theorem markAt_here {l : List UInt8} {k : Nat} (h : k < l.length) (hk : k ≤ markAt l) (hm : isMark l[k] = true) : markAt l = k := by
  have : ¬ k < markAt l := fun h1 => by
    have := List.not_of_lt_findIdx h1
    simp [hm] at this
  omega
theorem markAt_next {l : List UInt8} {k : Nat} (h : k < l.length) (hk : k ≤ markAt l) (hm : isMark l[k] = false) : k + 1 ≤ markAt l := by
  have : k ≠ markAt l := fun h1 => by
    have h2 : markAt l < l.length := by omega
    have := List.findIdx_getElem (w := h2)
    unfold markAt at h1
    simp only [← h1] at this
    rw [hm] at this; cases this
  omega
theorem u8_eq (c : UInt8) (n : Nat) (hn : n < 256) : (((c.toNat : Int) == (n : Int)) : Bool) = (c == UInt8.ofNat n) := by
  rw [Bool.eq_iff_iff]
  simp only [beq_iff_eq]
  constructor
  · intro h; apply UInt8.toNat.inj; rw [UInt8.toNat_ofNat']; omega
  · intro h; subst h; rw [UInt8.toNat_ofNat']; omega

set_option maxHeartbeats 800000 in
theorem cut_any (l : List UInt8) (w : World) (hl : l.length ≤ 100000) :
    Calls Tryz.prog 208 #[.string ⟨l.toArray⟩] w fun e w' => e = .returned (.tuple #[.string ⟨(cutF l).toArray⟩, .int .u8 (cutM l).toNat, .string ⟨(cutB l).toArray⟩]) ∧ Below w.heap.size w w' := by
  have HM := Lib.hid (markAt_le l)
  go_enter Tryz.func208, Tryz.ntmps208
  go_wp2
  go_step3
  go_wp2
  go_step3
  go_wp2
  go_loopw [5, 15] (fun a _ wr => ∃ k : Nat, a = .int .i64 k ∧ k ≤ l.length ∧ k ≤ markAt l ∧ Below w.heap.size w wr) (fun a _ _ => l.length - (intOf a).toNat)
  case atStart => exact ⟨0, rfl, Nat.zero_le _, Nat.zero_le _, Below.refl _ _⟩
  case round =>
    obtain ⟨k, rfl, hk, hf, hb⟩ := hrel
    by_cases hlt : k < l.length
    · have hsz := hb.size
      have HB := Lib.hid hb; clear hb
      have HF := Lib.hid hf; clear hf
      obtain ⟨c, hc⟩ : ∃ c, l[k] = c := ⟨_, rfl⟩
      have HC := Lib.hid hc
      have e0 : ((k : Int) == (l.length : Int)) = false := by simp; omega
      have e1 : (((c.toNat : Int) == 47) : Bool) = (c == 47) := u8_eq c 47 (by omega)
      have e2 : (((c.toNat : Int) == 46) : Bool) = (c == 46) := u8_eq c 46 (by omega)
      have KF := Lib.hid (fun hm : isMark c = true => by
        have hk := markAt_here hlt HF.out (by rw [HC.out]; exact hm)
        show (l.take k, c, l.drop (k + 1)) = (cutF l, cutM l, cutB l)
        unfold cutF cutM cutB
        rw [hk, List.getD_eq_getElem?_getD, List.getElem?_eq_getElem hlt, HC.out]
        rfl)
      cases h47 : c == 47 with
      | true =>
        have e3 := e1.trans h47
        have Hm := Lib.hid (KF.out (by unfold isMark; rw [h47]; rfl))
        clear e1 e2 h47
        go_wp2
        refine wp_region_quiet_all (fun w' => ∃ x : Lower _, w' = x.val) (by kernel_rfl) (by kernel_rfl) ⟨⟨_, (Below.refl _ _).drew⟩, rfl⟩ ?_
        repeat (go_big_quiet_step (fail))
        refine wpQuiet_nil ?_
        intro w1 hx1
        obtain ⟨x1, hx1⟩ := hx1
        have hb1 := x1.prop
        rw [← hx1] at hb1
        clear hx1 x1
        obtain ⟨hc1, hf1⟩ := bcell hb1
        have hs1 := hb1.size
        try simp at hs1
        try have hz0 : w.heap.size < w1.heap.size := by omega
        try have hz1 : w.heap.size + 1 < w1.heap.size := by omega
        try have hz2 : w.heap.size + 1 + 1 < w1.heap.size := by omega
        try have hz3 : w.heap.size + 1 + 1 + 1 < w1.heap.size := by omega
        try have hz4 : w.heap.size + 1 + 1 + 1 + 1 < w1.heap.size := by omega
        try have hz5 : w.heap.size + 1 + 1 + 1 + 1 + 1 < w1.heap.size := by omega
        go_wp2
        rw [Exit.noGoto_ret]
        go_ret3
        have Hm1 := Hm.out
        simp only [Prod.mk.injEq] at Hm1
        exact ⟨by rw [← Hm1.1, ← Hm1.2.1, ← Hm1.2.2]; rfl, bbehind HB.out hb1 hsz⟩
      | false =>
        have e3 := e1.trans h47
        cases h46 : c == 46 with
        | true =>
          have e4 := e2.trans h46
          have Hm := Lib.hid (KF.out (by unfold isMark; rw [h47, h46]; rfl))
          clear e1 e2 h46 h47
          go_wp2
          refine wp_region_quiet_all (fun w' => ∃ x : Lower _, w' = x.val) (by kernel_rfl) (by kernel_rfl) ⟨⟨_, (Below.refl _ _).drew⟩, rfl⟩ ?_
          repeat (go_big_quiet_step (fail))
          refine wpQuiet_nil ?_
          intro w1 hx1
          obtain ⟨x1, hx1⟩ := hx1
          have hb1 := x1.prop
          rw [← hx1] at hb1
          clear hx1 x1
          obtain ⟨hc1, hf1⟩ := bcell hb1
          have hs1 := hb1.size
          try simp at hs1
          try have hz0 : w.heap.size < w1.heap.size := by omega
          try have hz1 : w.heap.size + 1 < w1.heap.size := by omega
          try have hz2 : w.heap.size + 1 + 1 < w1.heap.size := by omega
          try have hz3 : w.heap.size + 1 + 1 + 1 < w1.heap.size := by omega
          try have hz4 : w.heap.size + 1 + 1 + 1 + 1 < w1.heap.size := by omega
          try have hz5 : w.heap.size + 1 + 1 + 1 + 1 + 1 < w1.heap.size := by omega
          go_wp2
          rw [Exit.noGoto_ret]
          go_ret3
          have Hm1 := Hm.out
          simp only [Prod.mk.injEq] at Hm1
          exact ⟨by rw [← Hm1.1, ← Hm1.2.1, ← Hm1.2.2]; rfl, bbehind HB.out hb1 hsz⟩
        | false =>
          have e4 := e2.trans h46
          have Hm := Lib.hid (show isMark c = false by unfold isMark; rw [h47, h46]; rfl)
          clear e1 e2 h46 h47
          go_wp2
          go_roundw
          case rel => exact ⟨k + 1, by go_num, by omega, markAt_next hlt HF.out (by rw [HC.out]; exact Hm.out), HB.out⟩
          case measure => simp [intOf]; omega
    · have hke : k = l.length := by omega
      subst hke
      have Hme := Lib.hid (show markAt l = l.length by have := HM.out; omega)
      go_wp2
      rw [Exit.noGoto_ret]
      go_ret3
      exact ⟨by unfold cutF cutM cutB; rw [Hme.out]; simp, hb⟩

/-- a text as a slice of bytes: new memory. -/
theorem conv_bytes (l : List UInt8) (w : World) : ∃ cap w1, (convert 9 92 (.string ⟨l.toArray⟩)).run Tryz.prog w = .ok (.slice (some ⟨w.heap.size, 0, none⟩) l.length cap) w1 ∧
    Below w.heap.size w w1 ∧ w.heap.size < w1.heap.size ∧ ∀ i (h : i < l.length), w1.cell? ⟨w.heap.size, i, none⟩ = some (.int .u8 (l[i].toNat : Int)) := by
  refine ⟨_, _, run_bytes_of_string w 9 92 5 ⟨l.toArray⟩ (by kernel_rfl) (by kernel_rfl) (by kernel_rfl), ?_, ?_, ?_⟩
  · exact ((Below.refl _ _).drew).alloc (Nat.le_refl _) _
  · simp
  · intro i h
    generalize grownCap w (⟨l.toArray⟩ : ByteArray).size 0 5 = cap
    exact (World.cell?_alloc_mark w.drew _ _ _ i).trans (by rw [bytesRow_at _ _ _ (by simpa using h)]; simp)

/-- a text of 1 to so many digits: what it says. -/
def digR (l : List UInt8) (most : Int) : Int × Bool := if (1 ≤ l.length ∧ (l.length : Int) ≤ most) ∧ l.all isDig = true then ((valN l : Int), true) else (0, false)
theorem digR_no {l : List UInt8} {most : Int} (h : ¬ ((1 ≤ l.length ∧ (l.length : Int) ≤ most) ∧ l.all isDig = true)) : digR l most = (0, false) := if_neg h
theorem digR_yes {l : List UInt8} {most : Int} (h : (1 ≤ l.length ∧ (l.length : Int) ≤ most) ∧ l.all isDig = true) : digR l most = ((valN l : Int), true) := if_pos h

theorem take_next (l : List UInt8) (k : Nat) (h : k < l.length) : l.take (k + 1) = l.take k ++ [l[k]] := by rw [List.take_succ_eq_append_getElem h]
theorem valN_bd {l : List UInt8} (h : l.all isDig = true) (h10 : l.length ≤ 10) : valN l ≤ 10000000000 := by
  have h1 := valN_lt l h
  have h2 : (10 : Nat) ^ l.length ≤ 10 ^ 10 := Nat.pow_le_pow_right (by omega) h10
  omega

set_option maxRecDepth 100000 in
set_option maxHeartbeats 800000 in
theorem digits_any (l : List UInt8) (most : Int) (w : World) (hl : l.length ≤ 100000) (hm : most ≤ 10) :
    Calls Tryz.prog 210 #[.string ⟨l.toArray⟩, .int .i64 most] w fun e w' => e = .returned (.tuple #[.int .i64 (digR l most).1, .bool (digR l most).2]) ∧ Below w.heap.size w w' := by
  by_cases h1 : l.length < 1
  · rw [digR_no (by omega)]
    have h1' : (l.length : Int) < 1 := by omega
    clear h1
    go_enter Tryz.func210, Tryz.ntmps210
    go_wp2
    go_ret2
    exact ⟨rfl, Below.refl _ _⟩
  · have h1' : ¬ (l.length : Int) < 1 := by omega
    by_cases h2 : most < l.length
    · rw [digR_no (by omega)]
      clear h1
      go_enter Tryz.func210, Tryz.ntmps210
      go_wp2
      go_ret2
      exact ⟨rfl, Below.refl _ _⟩
    · obtain ⟨cap, w1, hcv, hb1, hz1, hcell⟩ := conv_bytes l w
      have HC := Lib.hid hcell; clear hcell
      have HB1 := Lib.hid hb1; clear hb1
      go_enter Tryz.func210, Tryz.ntmps210
      go_wp2
      go_loopw [4, 20] (fun n i wr => ∃ k : Nat, k ≤ l.length ∧ i = .int .i64 k ∧ n = .int .i64 (valN (l.take k) : Int) ∧ (l.take k).all isDig = true ∧ wr = w1) (fun _ i _ => l.length - (intOf i).toNat)
      case atStart => exact ⟨0, Nat.zero_le _, rfl, rfl, by simp, rfl⟩
      case round =>
        obtain ⟨k, hk, rfl, rfl, ha, rfl⟩ := hrel
        by_cases hlt : k < l.length
        · have hce := HC.out k hlt
          have b1 := valN_bd ha (by simp; omega)
          have b2 := valN_lt (l.take k) ha
          have HT := Lib.hid (take_next l k hlt)
          have HA := Lib.hid ha; clear ha
          obtain ⟨c, hc⟩ : ∃ c, l[k] = c := ⟨_, rfl⟩
          have HX := Lib.hid hc
          rw [hc] at hce
          clear hc
          have cb : c.toNat < 256 := c.toNat_lt
          by_cases hc1 : c.toNat < 48
          · have Hno := Lib.hid (digR_no (l := l) (most := most) (fun h => by
              have := List.all_eq_true.1 h.2 l[k] (List.getElem_mem _)
              rw [HX.out] at this
              simp [isDig] at this
              omega))
            have hc1' : (c.toNat : Int) < 48 := by omega
            clear hc1
            go_wp2
            go_ret2
            exact ⟨by rw [Hno.out]; rfl, HB1.out⟩
          · by_cases hc2 : 57 < c.toNat
            · have Hno := Lib.hid (digR_no (l := l) (most := most) (fun h => by
                have := List.all_eq_true.1 h.2 l[k] (List.getElem_mem _)
                rw [HX.out] at this
                simp [isDig] at this
                omega))
              have hc1' : ¬ (c.toNat : Int) < 48 := by omega
              have hc2' : (57 : Int) < (c.toNat : Int) := by omega
              clear hc1 hc2
              go_wp2
              go_ret2
              exact ⟨by rw [Hno.out]; rfl, HB1.out⟩
            · have hc1' : ¬ (c.toNat : Int) < 48 := by omega
              have hc2' : ¬ (57 : Int) < (c.toNat : Int) := by omega
              have Hval := Lib.hid (show ((valN (l.take (k + 1)) : Nat) : Int) = 10 * (valN (l.take k) : Int) + ((c.toNat : Int) - 48) by
                rw [HT.out, valN_snoc, HX.out]; omega)
              have Hall := Lib.hid (show (l.take (k + 1)).all isDig = true by
                rw [HT.out, List.all_append, HA.out, HX.out]; simp [isDig]; omega)
              clear hc1 hc2
              go_wp2
              go_roundw
              case rel => exact ⟨k + 1, by omega, by go_num, by rw [Hval.out], Hall.out, trivial⟩
              case measure => simp [intOf]; omega
        · have Hke := Lib.hid (show k = l.length by omega)
          have Hyes := Lib.hid (digR_yes (l := l) (most := most) ⟨⟨by omega, by omega⟩, by have := ha; rw [Hke.out, List.take_length] at this; exact this⟩)
          have Hv := Lib.hid (show valN (l.take k) = valN l by rw [Hke.out, List.take_length])
          clear ha
          go_wp2
          go_ret2
          exact ⟨by rw [Hyes.out, ← Hv.out]; rfl, HB1.out⟩
end Go.Proofs.YtefongoinlcgaaaGreat

/- Names and printable strings, in the reference. -/
namespace Go.Proofs.YtefongoinlcgaaaGreat
open Go.RowKit

set_option maxHeartbeats 400000 in
theorem letter_any (c : UInt8) (w : World) : Calls Tryz.prog 116 #[.int .u8 c.toNat] w fun e w' => e = .returned (.bool (letterB c)) ∧ w = w' := by
  by_cases h1 : 97 ≤ c.toNat
  · have d1 : decide ((97 : Int) ≤ (c.toNat : Int)) = true := by simp; omega
    go_enter Tryz.func116, Tryz.ntmps116
    go_wp2
    go_ret
    exact ⟨ret_bool (by unfold letterB; rw [decide_eq_decide]; omega), rfl⟩
  · have d1 : decide ((97 : Int) ≤ (c.toNat : Int)) = false := by simp; omega
    go_enter Tryz.func116, Tryz.ntmps116
    go_wp2
    go_ret
    exact ⟨ret_bool (by unfold letterB; simp; omega), rfl⟩
set_option maxHeartbeats 400000 in
theorem qdigit_any (c : UInt8) (w : World) : Calls Tryz.prog 117 #[.int .u8 c.toNat] w fun e w' => e = .returned (.bool (digitB c)) ∧ w = w' := by
  by_cases h1 : 48 ≤ c.toNat
  · have d1 : decide ((48 : Int) ≤ (c.toNat : Int)) = true := by simp; omega
    go_enter Tryz.func117, Tryz.ntmps117
    go_wp2
    go_ret
    exact ⟨ret_bool (by unfold digitB; rw [decide_eq_decide]; omega), rfl⟩
  · have d1 : decide ((48 : Int) ≤ (c.toNat : Int)) = false := by simp; omega
    go_enter Tryz.func117, Tryz.ntmps117
    go_wp2
    go_ret
    exact ⟨ret_bool (by unfold digitB; simp; omega), rfl⟩

theorem all_range_hit {p : Nat → Bool} {n k : Nat} (hk : k < n) (h : p k = false) : (List.range n).all p = false := by
  simp only [List.all_eq_false, List.mem_range]; exact ⟨k, hk, by simp [h]⟩
theorem all_range_none {p : Nat → Bool} {n : Nat} (h : ∀ j, j < n → p j = true) : (List.range n).all p = true := by
  simp only [List.all_eq_true, List.mem_range]; intro j hj; exact h j hj
theorem getD_at {α : Type} {l : List α} {k : Nat} {d c : α} (h : k < l.length) (e : l[k] = c) : l.getD k d = c := by
  rw [List.getD_eq_getElem?_getD, List.getElem?_eq_getElem h, Option.getD_some, e]

set_option maxRecDepth 100000 in
set_option maxHeartbeats 1000000 in
theorem named_any (l : List UInt8) (w : World) (hl : l.length ≤ 1000000) : Calls Tryz.prog 65 #[.string ⟨l.toArray⟩] w fun e w' => e = .returned (.bool (namedB l)) ∧ w = w' := by
  have HB := Lib.hid (show ∀ j, j < l.length → nameAt l j = false → namedB l = false from fun j hj h => by unfold namedB; rw [all_range_hit hj h]; rfl)
  have HN := Lib.hid (show (∀ j, j < l.length → nameAt l j = true) → namedB l = inB (l.length : Int) 1 8 from fun h => by
    unfold namedB inB; rw [all_range_none h, Bool.true_and, decide_eq_decide]; omega)
  go_enter Tryz.func65, Tryz.ntmps65
  go_wp2_with fail
  go_loop [3] (fun i => ∃ k : Nat, k ≤ l.length ∧ i = .int .i64 k ∧ ∀ j, j < k → nameAt l j = true) (fun i => l.length - (intOf i).toNat)
  case atStart => exact ⟨0, Nat.zero_le _, rfl, fun j hj => absurd hj (by omega)⟩
  case round =>
    obtain ⟨k, hk, rfl, hj⟩ := hrel
    have HJ := Lib.hid hj; clear hj
    by_cases hlt : k < l.length
    · obtain ⟨c, hc⟩ : ∃ c, l[k] = c := ⟨_, rfl⟩
      have HX := Lib.hid (getD_at (d := 0) hlt hc)
      have HNA := Lib.hid (show nameAt l k = (letterB c || (decide (k ≠ 0) && digitB c)) by unfold nameAt; rw [HX.out])
      have L := Lib.hid (letter_any c)
      have D := Lib.hid (qdigit_any c)
      have next : nameAt l k = true → ∀ j, j < k + 1 → nameAt l j = true := fun h j hj => (Nat.lt_or_ge j k).elim (HJ.out j) fun h' => by rw [show j = k by omega]; exact h
      have NX := Lib.hid next
      clear next
      cases h1 : letterB c with
      | true =>
        rw [h1] at L
        have HX := Lib.hid (NX.out (by rw [HNA.out, h1]; rfl))
        clear h1
        go_wp2_with fail
        refine (L.out _).mono ?_; rintro e w' ⟨rfl, rfl⟩
        go_wp2_with fail
        go_round
        case rel => exact ⟨k + 1, by omega, by go_num, HX.out⟩
        case measure => simp [intOf]; omega
      | false =>
        rw [h1] at L
        by_cases h0 : k = 0
        · have HX := Lib.hid (HB.out k hlt (by rw [HNA.out, h1, h0]; rfl))
          have b0 : ((k : Int) == 0) = true := by simp [h0]
          clear h0 h1
          go_wp2_with fail
          refine (L.out _).mono ?_; rintro e w' ⟨rfl, rfl⟩
          go_wp2_with fail
          go_ret
          exact ⟨ret_bool HX.out.symm, rfl⟩
        · have b0 : ((k : Int) == 0) = false := by simp [h0]
          cases h2 : digitB c with
          | true =>
            rw [h2] at D
            have HX := Lib.hid (NX.out (by rw [HNA.out, h1, h2]; simp [h0]))
            clear h1 h2 h0
            go_wp2_with fail
            refine (L.out _).mono ?_; rintro e w' ⟨rfl, rfl⟩
            go_wp2_with fail
            refine (D.out _).mono ?_; rintro e w' ⟨rfl, rfl⟩
            go_wp2_with fail
            go_round
            case rel => exact ⟨k + 1, by omega, by go_num, HX.out⟩
            case measure => simp [intOf]; omega
          | false =>
            rw [h2] at D
            have HX := Lib.hid (HB.out k hlt (by rw [HNA.out, h1, h2]; simp))
            clear h1 h2 h0
            go_wp2_with fail
            refine (L.out _).mono ?_; rintro e w' ⟨rfl, rfl⟩
            go_wp2_with fail
            refine (D.out _).mono ?_; rintro e w' ⟨rfl, rfl⟩
            go_wp2_with fail
            go_ret
            exact ⟨ret_bool HX.out.symm, rfl⟩
    · have HX := Lib.hid (HN.out (fun j hj => HJ.out j (by omega)))
      go_wp2_with fail
      refine (in_any _ _ _ _).mono ?_; rintro e w' ⟨rfl, rfl⟩
      go_wp2_with fail
      go_ret
      exact ⟨ret_bool HX.out.symm, rfl⟩

theorem all_get {l : List UInt8} {p : UInt8 → Bool} (h : ∀ j, j < l.length → p (l.getD j 0) = true) : l.all p = true := by
  rw [List.all_eq_true]
  intro x hx
  obtain ⟨i, hi, rfl⟩ := List.getElem_of_mem hx
  have := h i hi
  rwa [getD_at hi rfl] at this
theorem all_not {l : List UInt8} {p : UInt8 → Bool} {j : Nat} (hj : j < l.length) (h : p (l.getD j 0) = false) : l.all p = false := by
  rw [List.all_eq_false]
  rw [getD_at hj rfl] at h
  exact ⟨l[j], List.getElem_mem _, by simp [h]⟩

set_option maxRecDepth 100000 in
set_option maxHeartbeats 1000000 in
theorem printable_any (l : List UInt8) (most : Int) (w : World) (hl : l.length ≤ 1000000) : Calls Tryz.prog 77 #[.string ⟨l.toArray⟩, .int .i64 most] w fun e w' => e = .returned (.bool (printableB l most)) ∧ w = w' := by
  have HB := Lib.hid (show ∀ j, j < l.length → printB (l.getD j 0) = false → printableB l most = false from fun j hj h => by unfold printableB; rw [all_not hj h]; rfl)
  have HN := Lib.hid (show (∀ j, j < l.length → printB (l.getD j 0) = true) → printableB l most = decide ((l.length : Int) ≤ most) from fun h => by
    unfold printableB; rw [all_get h, Bool.true_and])
  go_enter Tryz.func77, Tryz.ntmps77
  go_wp2_with fail
  go_loop [5] (fun i => ∃ k : Nat, k ≤ l.length ∧ i = .int .i64 k ∧ ∀ j, j < k → printB (l.getD j 0) = true) (fun i => l.length - (intOf i).toNat)
  case atStart => exact ⟨0, Nat.zero_le _, rfl, fun j hj => absurd hj (by omega)⟩
  case round =>
    obtain ⟨k, hk, rfl, hj⟩ := hrel
    have HJ := Lib.hid hj; clear hj
    by_cases hlt : k < l.length
    · obtain ⟨c, hc⟩ : ∃ c, l[k] = c := ⟨_, rfl⟩
      have HX := Lib.hid (getD_at (d := 0) hlt hc)
      have NX := Lib.hid (show printB (l.getD k 0) = true → ∀ j, j < k + 1 → printB (l.getD j 0) = true from fun h j hj => (Nat.lt_or_ge j k).elim (HJ.out j) fun h' => by rw [show j = k by omega]; exact h)
      by_cases h1 : c.toNat < 32
      · have HX := Lib.hid (HB.out k hlt (by rw [HX.out]; unfold printB; simp; omega))
        have d1 : decide ((c.toNat : Int) < 32) = true := by simp; omega
        go_wp2_with fail
        go_ret
        exact ⟨ret_bool HX.out.symm, rfl⟩
      · have d1 : decide ((c.toNat : Int) < 32) = false := by simp; omega
        by_cases h2 : 126 < c.toNat
        · have HX := Lib.hid (HB.out k hlt (by rw [HX.out]; unfold printB; simp; omega))
          have d2 : decide ((126 : Int) < c.toNat) = true := by simp; omega
          go_wp2_with fail
          go_ret
          exact ⟨ret_bool HX.out.symm, rfl⟩
        · have HX := Lib.hid (NX.out (by rw [HX.out]; unfold printB; simp; omega))
          have d2 : decide ((126 : Int) < c.toNat) = false := by simp; omega
          go_wp2_with fail
          go_round
          case rel => exact ⟨k + 1, by omega, by go_num, HX.out⟩
          case measure => simp [intOf]; omega
    · have HX := Lib.hid (HN.out (fun j hj => HJ.out j (by omega)))
      go_wp2_with fail
      go_ret
      exact ⟨ret_bool HX.out.symm, rfl⟩
end Go.Proofs.YtefongoinlcgaaaGreat

/- The error of a head, in the reference. -/
namespace Go.Proofs.YtefongoinlcgaaaGreat
open Go.RowKit

theorem stray_cases {k : Int} {l : List UInt8} {ats : List (List UInt8 × List UInt8)} {n d : Int} {x : List UInt8} (hs : strayB ⟨k, l, ats, n, d, x⟩ = true) :
    ((k != 0) = true ∧ (k != 1) = true ∧ (k != 2) = true) ∨
    (k = 0 ∧ ((n != 0) = true ∨ ((n != 0) = false ∧ (d != 0) = true) ∨ (n = 0 ∧ d = 0 ∧ ∃ a t, x = a :: t))) ∨
    (k = 1 ∧ ((∃ a t, l = a :: t) ∨ (l = [] ∧ 0 < ats.length) ∨ (l = [] ∧ ats = [] ∧ ∃ a t, x = a :: t))) ∨
    (k = 2 ∧ ((∃ a t, l = a :: t) ∨ (l = [] ∧ 0 < ats.length) ∨ (l = [] ∧ ats = [] ∧ ((n != 0) = true ∨ ((n != 0) = false ∧ (d != 0) = true))))) := by
  have hc : ∀ y : List UInt8, y = [] ∨ ∃ a t, y = a :: t := fun y => by cases y with | nil => exact .inl rfl | cons a t => exact .inr ⟨a, t, rfl⟩
  have ha : ats = [] ∨ 0 < ats.length := by cases ats with | nil => exact .inl rfl | cons a t => exact .inr (by simp)
  unfold strayB at hs
  by_cases k0 : k = 0
  · refine .inr (.inl ⟨k0, ?_⟩)
    by_cases hn : n = 0
    · by_cases hd : d = 0
      · rcases hc x with rfl | h
        · simp [k0, hn, hd] at hs
        · exact .inr (.inr ⟨hn, hd, h⟩)
      · exact .inr (.inl ⟨by simp [hn], by simpa using hd⟩)
    · exact .inl (by simpa using hn)
  · by_cases k1 : k = 1
    · refine .inr (.inr (.inl ⟨k1, ?_⟩))
      rcases hc l with rfl | h
      · rcases ha with rfl | h
        · rcases hc x with rfl | h
          · simp [k1] at hs
          · exact .inr (.inr ⟨rfl, rfl, h⟩)
        · exact .inr (.inl ⟨rfl, h⟩)
      · exact .inl h
    · by_cases k2 : k = 2
      · refine .inr (.inr (.inr ⟨k2, ?_⟩))
        rcases hc l with rfl | h
        · rcases ha with rfl | h
          · refine .inr (.inr ⟨rfl, rfl, ?_⟩)
            by_cases hn : n = 0
            · by_cases hd : d = 0
              · simp [k2, hn, hd] at hs
              · exact .inr ⟨by simp [hn], by simpa using hd⟩
            · exact .inl (by simpa using hn)
          · exact .inr (.inl ⟨rfl, h⟩)
        · exact .inl h
      · exact .inl ⟨by simpa using k0, by simpa using k1, by simpa using k2⟩

theorem headErr_stray {h : Hd} (hs : strayB h = true) : headErr h = 1 := if_pos hs

set_option maxRecDepth 100000 in
set_option maxHeartbeats 2000000 in
theorem qhead_stray (k : Int) (l : List UInt8) (ats : List (List UInt8 × List UInt8)) (n d : Int) (x : List UInt8) (va : Value) (w : World) (ha : AttrsLie w va ats) (hs : strayB ⟨k, l, ats, n, d, x⟩ = true) :
    Calls Tryz.prog 18 #[.agg #[.int .i64 k, .string ⟨l.toArray⟩, va, .int .i64 n, .int .i64 d, .string ⟨x.toArray⟩]] w fun e w' => e = .returned (.int .i64 1) ∧ Below w.heap.size w w' := by
  obtain ⟨a0, cap0, rfl⟩ := attrs_form ha
  clear ha
  rcases stray_cases hs with ⟨k0, k1, k2⟩ | ⟨rfl, hh⟩ | ⟨rfl, hh⟩ | ⟨rfl, hh⟩
  · clear hs
    go_enter Tryz.func18, Tryz.ntmps18
    go_wp2_with fail
    go_ret
    exact ⟨rfl, (Below.refl _ _).alloc (Nat.le_refl _) _⟩
  · clear hs
    rcases hh with hn | ⟨hn, hd⟩ | ⟨rfl, rfl, a, t, rfl⟩
    all_goals
      go_enter Tryz.func18, Tryz.ntmps18
      go_wp2_with fail
      go_ret
      exact ⟨rfl, (Below.refl _ _).alloc (Nat.le_refl _) _⟩
  · clear hs
    rcases hh with ⟨a, t, rfl⟩ | ⟨rfl, hl⟩ | ⟨rfl, rfl, a, t, rfl⟩
    · go_enter Tryz.func18, Tryz.ntmps18
      go_wp2_with fail
      go_ret
      exact ⟨rfl, (Below.refl _ _).alloc (Nat.le_refl _) _⟩
    · have d1 : decide ((0 : Int) < (ats.length : Int)) = true := by simp; omega
      go_enter Tryz.func18, Tryz.ntmps18
      go_wp2_with fail
      go_ret
      exact ⟨rfl, (Below.refl _ _).alloc (Nat.le_refl _) _⟩
    · go_enter Tryz.func18, Tryz.ntmps18
      go_wp2_with fail
      go_ret
      exact ⟨rfl, (Below.refl _ _).alloc (Nat.le_refl _) _⟩
  · clear hs
    rcases hh with ⟨a, t, rfl⟩ | ⟨rfl, hl⟩ | ⟨rfl, rfl, hn | ⟨hn, hd⟩⟩
    · go_enter Tryz.func18, Tryz.ntmps18
      go_wp2_with fail
      go_ret
      exact ⟨rfl, (Below.refl _ _).alloc (Nat.le_refl _) _⟩
    · have d1 : decide ((0 : Int) < (ats.length : Int)) = true := by simp; omega
      go_enter Tryz.func18, Tryz.ntmps18
      go_wp2_with fail
      go_ret
      exact ⟨rfl, (Below.refl _ _).alloc (Nat.le_refl _) _⟩
    all_goals
      go_enter Tryz.func18, Tryz.ntmps18
      go_wp2_with fail
      go_ret
      exact ⟨rfl, (Below.refl _ _).alloc (Nat.le_refl _) _⟩
end Go.Proofs.YtefongoinlcgaaaGreat
