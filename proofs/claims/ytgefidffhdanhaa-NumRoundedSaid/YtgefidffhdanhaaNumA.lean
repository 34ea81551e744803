import Derived.Test.YtgefidffhdanhaaNumBase
namespace Go.Proofs.Ytgefidffhdanhaa
open Go.RowKit

set_option maxHeartbeats 400000 in
theorem abs_any (n : Int) (w : World) (h1 : -9223372036854775808 < n) (h2 : n ≤ 9223372036854775807) :
    Calls Try.prog 93 #[.int .i64 n] w fun e w' => e = .returned (.int .i64 (n.natAbs : Int)) ∧ w = w' := by
  by_cases h : n < 0
  · go_enter Try.func93, Try.ntmps93
    go_wp2
    go_ret
    exact ⟨ret_int (by omega), rfl⟩
  · go_enter Try.func93, Try.ntmps93
    go_wp2
    go_ret
    exact ⟨ret_int (by omega), rfl⟩

def gcdM (n d : Int) : Int := (Int.gcd n d : Int)

theorem gcd_tmod (x y : Int) : Int.gcd y (x.tmod y) = Int.gcd x y := by
  rw [Int.gcd_comm x y]
  conv => rhs; rw [← Int.tdiv_mul_add_tmod x y, Int.add_comm]
  simp

theorem tmod_lt (x y : Int) (hy : ¬ y = 0) : (x.tmod y).natAbs < y.natAbs := by
  rw [Int.natAbs_tmod]; exact Nat.mod_lt _ (by omega)

set_option maxHeartbeats 400000 in
theorem gcd_any (n d : Int) (w : World) (h1 : -9223372036854775808 < n) (h2 : n ≤ 9223372036854775807)
   (h3 : -9223372036854775808 < d) (h4 : d ≤ 9223372036854775807) :
    Calls Try.prog 67 #[.int .i64 n, .int .i64 d] w fun e w' => e = .returned (.int .i64 (gcdM n d)) ∧ Below w.heap.size w w' := by
  go_enter Try.func67, Try.ntmps67
  go_wp2
  go_loopw [0, 1] (fun a b wr => ∃ x y : Int, a = .int .i64 x ∧ b = .int .i64 y ∧ -9223372036854775808 < x ∧ x ≤ 9223372036854775807 ∧ -9223372036854775808 < y ∧ y ≤ 9223372036854775807 ∧ Int.gcd x y = Int.gcd n d ∧ Below w.heap.size w wr) (fun _ b _ => (intOf b).natAbs)
  case atStart => exact ⟨n, d, rfl, rfl, h1, h2, h3, h4, rfl, Below.refl _ _⟩
  case round =>
    obtain ⟨x, y, rfl, rfl, hx1, hx2, hy1, hy2, hg, hb⟩ := hrel
    have Hg := Lib.hid hg; clear hg
    by_cases hy : y = 0
    · subst hy
      go_wp2_with (go_at_call 93; refine (abs_any _ _ (by omega) (by omega)).mono ?_; rintro e w' ⟨rfl, rfl⟩)
      go_ret
      exact ⟨ret_int (by unfold gcdM; rw [← Hg.out]; simp), hb⟩
    · have hy' : (y != 0) = true := by simpa using hy
      go_wp2
      go_quiet (fail)
      go_wp2
      have a1 := tmod_lt x y hy
      go_roundw
      case rel => exact ⟨y, x.tmod y, rfl, rfl, hy1, hy2, by omega, by omega, by rw [gcd_tmod]; exact Hg.out, bdrewN hb _⟩
      case measure => simp [intOf]; exact Nat.mod_lt _ (by omega)

/-- the error of a number. -/
def chk (n d : Int) : Int := if d < 1 ∨ d > 1000000000 ∨ n < -1000000000 ∨ n > 1000000000 then 3 else if 1 < gcdM n d then 1 else 0

theorem chk3 {n d : Int} (h : d < 1 ∨ d > 1000000000 ∨ n < -1000000000 ∨ n > 1000000000) : chk n d = 3 := if_pos h
theorem chk_in {n d : Int} (h : ¬(d < 1 ∨ d > 1000000000 ∨ n < -1000000000 ∨ n > 1000000000)) : chk n d = if 1 < gcdM n d then 1 else 0 := if_neg h

set_option maxHeartbeats 400000 in
theorem check_any (n d : Int) (w : World) :
    Calls Try.prog 16 #[.agg #[.int .i64 n, .int .i64 d]] w fun e w' => e = .returned (.int .i64 (chk n d)) ∧ Below w.heap.size w w' := by
  go_enter Try.func16, Try.ntmps16
  go_wp2_with (go_at_call 67; refine (gcd_any _ _ _ (by omega) (by omega) (by omega) (by omega)).mono ?_; rintro e w1 ⟨rfl, hb1⟩)
  · go_ret
    exact ⟨ret_int (chk3 (by omega)).symm, (Below.refl _ _).alloc (Nat.le_refl _) _⟩
  · go_ret
    exact ⟨ret_int (by rw [chk_in (by omega), if_pos ‹_›]), ((Below.refl _ _).alloc (Nat.le_refl _) _).trans (hb1.mono (by simp))⟩
  · go_ret
    exact ⟨ret_int (by rw [chk_in (by omega), if_neg (by omega)]), ((Below.refl _ _).alloc (Nat.le_refl _) _).trans (hb1.mono (by simp))⟩
  all_goals
    go_ret
    exact ⟨ret_int (chk3 (by omega)).symm, (Below.refl _ _).alloc (Nat.le_refl _) _⟩
end Go.Proofs.Ytgefidffhdanhaa
