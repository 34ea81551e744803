import Derived.Test.YtgefidffhdanhaaNumG2
namespace Go.Proofs.Ytgefidffhdanhaa
open Go.RowKit Go.BigFrame

theorem tmod_bd (n d : Int) (hd : 0 < d) : -d < n.tmod d ∧ n.tmod d < d := by
  have h : (n.tmod d).natAbs < d.natAbs := by rw [Int.natAbs_tmod]; exact Nat.mod_lt _ (by omega)
  omega
theorem floor_lo (n d : Int) (hd : 0 < d) (h : n.tmod d < 0) : n / d = n.tdiv d - 1 := by
  have h1 := Int.tdiv_mul_add_tmod n d
  have h2 := tmod_bd n d hd
  exact ((Int.ediv_emod_unique (a := n) (b := d) (r := n.tmod d + d) (q := n.tdiv d - 1) hd).2 ⟨by rw [Int.mul_sub, Int.mul_comm d]; omega, by omega, by omega⟩).1
theorem floor_hi (n d : Int) (hd : 0 < d) (h : ¬ n.tmod d < 0) : n / d = n.tdiv d := by
  have h1 := Int.tdiv_mul_add_tmod n d
  have h2 := tmod_bd n d hd
  exact ((Int.ediv_emod_unique (a := n) (b := d) (r := n.tmod d) (q := n.tdiv d) hd).2 ⟨by rw [Int.mul_comm d]; omega, by omega, by omega⟩).1

set_option maxHeartbeats 400000 in
theorem floor_any (n d : Int) (w : World) (h1 : -9223372036854775807 ≤ n) (h2 : n ≤ 9223372036854775807) (h3 : 0 < d) (h4 : d ≤ 9223372036854775807) :
    Calls Try.prog 85 #[.int .i64 n, .int .i64 d] w fun e w' => e = .returned (.int .i64 (n / d)) ∧ w = w' := by
  have h5 : ¬ d = 0 := by omega
  by_cases hn : 0 ≤ n
  · have b1 : 0 ≤ n / d := Int.ediv_nonneg hn (by omega)
    have b2 : n / d ≤ n := Int.ediv_le_self _ hn
    have b3 := Int.emod_nonneg n h5
    go_enter Try.func85, Try.ntmps85
    go_wp2
    go_ret
    exact ⟨rfl, rfl⟩
  · have b0 := tdiv_bd n d 9223372036854775807 (by omega) (by omega)
    have b1 : -9223372036854775807 ≤ n.tdiv d - 1 ∨ ¬ n.tmod d < 0 := by
      by_cases h : n.tmod d < 0
      · left
        have k1 := Int.tdiv_mul_add_tmod n d
        have k2 : n.tdiv d ≠ -9223372036854775807 := fun k => by
          rw [k] at k1
          have : -9223372036854775807 * d ≤ -9223372036854775807 * 1 := by omega
          omega
        omega
      · exact .inr h
    by_cases h : n.tmod d < 0
    · have Hf := Lib.hid (floor_lo n d h3 h)
      have b2 : -9223372036854775807 ≤ n.tdiv d - 1 := by omega
      go_enter Try.func85, Try.ntmps85
      go_wp2
      go_ret
      exact ⟨ret_int Hf.out.symm, rfl⟩
    · have Hf := Lib.hid (floor_hi n d h3 h)
      go_enter Try.func85, Try.ntmps85
      go_wp2
      go_ret
      exact ⟨ret_int Hf.out.symm, rfl⟩

theorem ediv_bd (n d B : Int) (h1 : -B ≤ n) (h2 : n ≤ B) (h3 : 0 < d) : -B ≤ n / d ∧ n / d ≤ B := by
  constructor
  · have : (-B) / d ≤ n / d := Int.ediv_le_ediv h3 h1
    have h4 : -B ≤ (-B) / d := by
      rw [Int.le_ediv_iff_mul_le h3]
      have : 0 ≤ B := by omega
      have h5 : B * 1 ≤ B * d := Int.mul_le_mul_of_nonneg_left (by omega) this
      rw [Int.neg_mul]
      omega
    omega
  · have : n / d ≤ B / d := Int.ediv_le_ediv h3 h2
    have h4 : B / d ≤ B := Int.ediv_le_self _ (by omega)
    omega

/-- the whole number that is no less. -/
def ceilM (n d : Int) : Int := -((-n) / d)

set_option maxHeartbeats 400000 in
theorem ceil_any (n d : Int) (w : World) (h1 : -9223372036854775807 ≤ n) (h2 : n ≤ 9223372036854775807) (h3 : 0 < d) (h4 : d ≤ 9223372036854775807) :
    Calls Try.prog 87 #[.int .i64 n, .int .i64 d] w fun e w' => e = .returned (.int .i64 (ceilM n d)) ∧ w = w' := by
  unfold ceilM
  have b1 := ediv_bd (-n) d 9223372036854775807 (by omega) (by omega) h3
  generalize hx : -n = x at *
  go_enter Try.func87, Try.ntmps87
  go_wp2_with fail
  refine (floor_any _ _ _ (by omega) (by omega) (by omega) (by omega)).mono ?_
  rintro e w' ⟨rfl, rfl⟩
  clear hx
  go_wp2
  go_ret
  exact ⟨rfl, rfl⟩

/-- the nearest whole number; of two, the even one. -/
def roundM (n d : Int) : Int := if d < 2 * (n % d) ∨ 2 * (n % d) = d ∧ ¬ (n / d) % 2 = 0 then n / d + 1 else n / d

theorem tmod2 (q : Int) : (q.tmod 2 != 0) = decide (¬ q % 2 = 0) := by
  have h := @Int.tmod_eq_emod q 2
  by_cases h2 : q % 2 = 0
  · have : q.tmod 2 = 0 := by
      rw [h, if_pos]
      · omega
      · right; omega
    simp [this, h2]
  · have : q.tmod 2 ≠ 0 := by
      rw [h]; split
      · omega
      · show ¬ (q % 2 - 2 = 0); omega
    simp [this, h2]

theorem roundM_up {n d : Int} (h : d < 2 * (n % d)) : roundM n d = n / d + 1 := if_pos (.inl h)
theorem roundM_odd {n d : Int} (h : 2 * (n % d) = d) (k : ¬ (n / d) % 2 = 0) : roundM n d = n / d + 1 := if_pos (.inr ⟨h, k⟩)
theorem roundM_down {n d : Int} (h : 2 * (n % d) < d) : roundM n d = n / d := if_neg (by rintro (h1 | ⟨h1, _⟩) <;> omega)
theorem roundM_even {n d : Int} (h : 2 * (n % d) = d) (k : (n / d) % 2 = 0) : roundM n d = n / d := if_neg (by rintro (h1 | ⟨_, h1⟩); omega; exact h1 k)

set_option maxHeartbeats 800000 in
theorem round_any (n d : Int) (w : World) (h1 : -1000000000000000000 ≤ n) (h2 : n ≤ 1000000000000000000) (h3 : 0 < d) (h4 : d ≤ 1000000000) :
    Calls Try.prog 88 #[.int .i64 n, .int .i64 d] w fun e w' => e = .returned (.int .i64 (roundM n d)) ∧ w = w' := by
  have q1 := ediv_bd n d 1000000000000000000 h1 h2 h3
  have r1 := Int.emod_nonneg n (by omega : d ≠ 0)
  have r2 := Int.emod_lt_of_pos n h3
  have hr : n - n / d * d = n % d := by have := Int.mul_ediv_add_emod n d; rw [Int.mul_comm] at this; omega
  have q2 : -2000000000000000000 ≤ n / d * d ∧ n / d * d ≤ 2000000000000000000 := by omega
  have Hr := Lib.hid hr; clear hr
  have c1 := Lib.hid (@roundM_up n d)
  have c2 := Lib.hid (@roundM_odd n d)
  have c3 := Lib.hid (@roundM_down n d)
  have c4 := Lib.hid (@roundM_even n d)
  have T := Lib.hid (tmod2 (n / d))
  have hr2 : n - n / d * d = n % d := Hr.out
  have F := Lib.hid (fun w => floor_any n d w (by omega) (by omega) (by omega) (by omega))
  generalize n / d = q at *
  generalize n % d = r at *
  by_cases hu : d < 2 * r
  · go_enter Try.func88, Try.ntmps88
    go_wp2_with (go_at_call 85; refine (F.out _).mono ?_; rintro e w1 ⟨rfl, rfl⟩)
    go_ret
    exact ⟨ret_int (c1.out hu).symm, rfl⟩
  · by_cases he : 2 * r = d
    · have he' : (2 * r == d) = true := by simpa using he
      have He := Lib.hid he; clear he
      by_cases hq : q % 2 = 0
      · have T1 : (q.tmod 2 != 0) = false := by rw [T.out]; simpa using hq
        have Hq := Lib.hid hq; clear hq
        go_enter Try.func88, Try.ntmps88
        go_wp2_with (go_at_call 85; refine (F.out _).mono ?_; rintro e w1 ⟨rfl, rfl⟩)
        go_ret
        exact ⟨ret_int (c4.out He.out Hq.out).symm, rfl⟩
      · have T1 : (q.tmod 2 != 0) = true := by rw [T.out]; simpa using hq
        have Hq := Lib.hid hq; clear hq
        go_enter Try.func88, Try.ntmps88
        go_wp2_with (go_at_call 85; refine (F.out _).mono ?_; rintro e w1 ⟨rfl, rfl⟩)
        go_ret
        exact ⟨ret_int (c2.out He.out Hq.out).symm, rfl⟩
    · have he' : (2 * r == d) = false := by simpa using he
      have hl : 2 * r < d := by omega
      clear he
      go_enter Try.func88, Try.ntmps88
      go_wp2_with (go_at_call 85; refine (F.out _).mono ?_; rintro e w1 ⟨rfl, rfl⟩)
      go_ret
      exact ⟨ret_int (c3.out hl).symm, rfl⟩
end Go.Proofs.Ytgefidffhdanhaa
