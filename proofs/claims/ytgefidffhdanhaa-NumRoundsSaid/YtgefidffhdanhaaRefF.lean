import Derived.Test.YtgefidffhdanhaaRefD
import Derived.IntWalk
namespace Go.Proofs.Ytgefidffhdanhaa
open Go.RowKit Go.BigFrame

theorem told_one {n : Int} : toldS n 1 = tellS n := by
  unfold toldS tellS
  rw [if_pos rfl, numText1]
  have e : ((n.natAbs : Int)).toNat = n.natAbs := by omega
  rw [e]; simp
theorem told_two {n d : Int} (hd : ¬ d = 1) (h : 0 ≤ d) : toldS n d = tellS n ++ 47 :: tellS d := by
  unfold toldS tellS
  rw [if_neg hd, numText1, numText1]
  have e : ((n.natAbs : Int)).toNat = n.natAbs := by omega
  have e2 : d.toNat = d.natAbs := by omega
  rw [e, e2]
  unfold signText
  rw [if_neg (show ¬ d < 0 by omega)]
  split <;> simp

theorem tell_b (n : Int) (w : World) (h1 : -1000000000000000000 ≤ n) (h2 : n ≤ 1000000000000000000) :
    Calls Try.prog 98 #[.int .i64 n] w fun e w' => e = .returned (.string ⟨(tellS n).toArray⟩) ∧ Below w.heap.size w w' :=
  tell_any (4 * n.natAbs - n + 1).toNat n w (by omega) h1 h2

set_option maxRecDepth 100000 in
set_option maxHeartbeats 1000000 in
theorem told_any (n d : Int) (w : World) (f : Fit n d) :
    Calls Try.prog 112 #[.agg #[.int .i64 n, .int .i64 d]] w fun e w' => e = .returned (.string ⟨(toldS n d).toArray⟩) ∧ Below w.heap.size w w' := by
  obtain ⟨n1, n2, d1, d2⟩ := f
  have l1 := tell_len (n := n) (by omega) (by omega)
  have l2 := tell_len (n := d) (by omega) (by omega)
  by_cases hd : d = 1
  · subst hd
    rw [told_one]
    go_enter Try.func112, Try.ntmps112
    go_wp2_with fail
    refine (tell_b _ _ (by omega) (by omega)).mono ?_; rintro e w1 ⟨rfl, hb1⟩; obtain ⟨hc1, hf1⟩ := bcell hb1; have hs1 := hb1.size; (try simp at hs1); (try have hz10 : w.heap.size < w1.heap.size := by omega); (try have hz11 : w.heap.size + 1 < w1.heap.size := by omega); (try have hz12 : w.heap.size + 1 + 1 < w1.heap.size := by omega); (try have hz13 : w.heap.size + 1 + 1 + 1 < w1.heap.size := by omega); (try have hz14 : w.heap.size + 1 + 1 + 1 + 1 < w1.heap.size := by omega); (try have hz15 : w.heap.size + 1 + 1 + 1 + 1 + 1 < w1.heap.size := by omega)
    go_wp2
    go_ret
    exact ⟨rfl, by ((repeat' (first | exact Below.refl _ _ | assumption | refine Below.setCell ?_ ?_ _ | refine bdrewN ?_ _ | refine Below.drew ?_ | refine Below.alloc ?_ ?_ _ | refine bbehind ?_ (by assumption) ?_)); all_goals first | (simp; done) | (simp; omega) | omega)⟩
  · have hd' : (d == 1) = false := by simpa using hd
    rw [told_two hd (by omega)]
    clear hd
    go_enter Try.func112, Try.ntmps112
    go_wp2_with fail
    refine wp_region_quiet_all (fun w' => ∃ x : Lower _, w' = x.val) (by kernel_rfl) (by kernel_rfl) ⟨⟨_, (Below.refl _ _).drew⟩, rfl⟩ ?_
    repeat (go_big_quiet_step ((go_at_call 98; exact calls_lower _ (tell_b _ _ (by omega) (by omega)))))
    refine wpQuiet_nil ?_
    intro w1 hx1
    obtain ⟨x1, hx1⟩ := hx1
    have hb1 := x1.prop
    rw [← hx1] at hb1
    clear hx1 x1
    obtain ⟨hc1, hf1⟩ := bcell hb1
    have hs1 := hb1.size
    try simp at hs1
    try have hz0 : w.heap.size < w1.heap.size := by omega
    try have hz1 : w.heap.size + 1 < w1.heap.size := by omega
    try have hz2 : w.heap.size + 1 + 1 < w1.heap.size := by omega
    try have hz3 : w.heap.size + 1 + 1 + 1 < w1.heap.size := by omega
    try have hz4 : w.heap.size + 1 + 1 + 1 + 1 < w1.heap.size := by omega
    try have hz5 : w.heap.size + 1 + 1 + 1 + 1 + 1 < w1.heap.size := by omega
    go_wp2
    go_ret
    exact ⟨rfl, by ((repeat' (first | exact Below.refl _ _ | assumption | refine Below.setCell ?_ ?_ _ | refine bdrewN ?_ _ | refine Below.drew ?_ | refine Below.alloc ?_ ?_ _ | refine bbehind ?_ (by assumption) ?_)); all_goals first | (simp; done) | (simp; omega) | omega)⟩

set_option maxHeartbeats 1000000 in
theorem rprint_any (n d : Int) (w : World) :
    Calls Try.prog 57 #[.agg #[.int .i64 n, .int .i64 d]] w fun e w' => e = .returned (.tuple #[.string ⟨(printE n d).toArray⟩, .int .i64 (chk n d)]) ∧ Below w.heap.size w w' := by
  unfold printE
  by_cases hA : chk n d = 0
  · have hf := fit_of_chk hA
    rw [if_pos hA]
    have HA := Lib.hid hA
    go_enter Try.func57, Try.ntmps57
    go_wp2_with fail
    refine (rcheck_any _ _ _).mono ?_; rintro e w1 ⟨rfl, hb1⟩; obtain ⟨hc1, hf1⟩ := bcell hb1; have hs1 := hb1.size; (try simp at hs1); (try have hz10 : w.heap.size < w1.heap.size := by omega); (try have hz11 : w.heap.size + 1 < w1.heap.size := by omega); (try have hz12 : w.heap.size + 1 + 1 < w1.heap.size := by omega); (try have hz13 : w.heap.size + 1 + 1 + 1 < w1.heap.size := by omega); (try have hz14 : w.heap.size + 1 + 1 + 1 + 1 < w1.heap.size := by omega); (try have hz15 : w.heap.size + 1 + 1 + 1 + 1 + 1 < w1.heap.size := by omega)
    go_wp2_with fail
    refine (told_any _ _ _ hf).mono ?_; rintro e w2 ⟨rfl, hb2⟩; obtain ⟨hc2, hf2⟩ := bcell hb2; have hs2 := hb2.size; (try simp at hs2); (try have hz20 : w.heap.size < w2.heap.size := by omega); (try have hz21 : w.heap.size + 1 < w2.heap.size := by omega); (try have hz22 : w.heap.size + 1 + 1 < w2.heap.size := by omega); (try have hz23 : w.heap.size + 1 + 1 + 1 < w2.heap.size := by omega); (try have hz24 : w.heap.size + 1 + 1 + 1 + 1 < w2.heap.size := by omega); (try have hz25 : w.heap.size + 1 + 1 + 1 + 1 + 1 < w2.heap.size := by omega); (try have hy1_2 : w1.heap.size < w2.heap.size := by omega)
    go_wp2
    go_ret2
    exact ⟨by rw [HA.out]; rfl, by ((repeat' (first | exact Below.refl _ _ | assumption | refine Below.setCell ?_ ?_ _ | refine bdrewN ?_ _ | refine Below.drew ?_ | refine Below.alloc ?_ ?_ _ | refine bbehind ?_ (by assumption) ?_)); all_goals first | (simp; done) | (simp; omega) | omega)⟩
  · have hA' : (chk n d != 0) = true := by simpa using hA
    rw [if_neg hA]
    clear hA
    go_enter Try.func57, Try.ntmps57
    go_wp2_with (go_at_call 17; refine (rcheck_any _ _ _).mono ?_; rintro e w1 ⟨rfl, hb1⟩; obtain ⟨hc1, hf1⟩ := bcell hb1; have hs1 := hb1.size; (try simp at hs1); (try have hz0 : w.heap.size < w1.heap.size := by omega); (try have hz1 : w.heap.size + 1 < w1.heap.size := by omega); (try have hz2 : w.heap.size + 1 + 1 < w1.heap.size := by omega); (try have hz3 : w.heap.size + 1 + 1 + 1 < w1.heap.size := by omega); (try have hz4 : w.heap.size + 1 + 1 + 1 + 1 < w1.heap.size := by omega); (try have hz5 : w.heap.size + 1 + 1 + 1 + 1 + 1 < w1.heap.size := by omega))
    go_ret2
    exact ⟨rfl, by ((repeat' (first | exact Below.refl _ _ | assumption | refine Below.setCell ?_ ?_ _ | refine bdrewN ?_ _ | refine Below.drew ?_ | refine Below.alloc ?_ ?_ _ | refine bbehind ?_ (by assumption) ?_)); all_goals first | (simp; done) | (simp; omega) | omega)⟩

theorem tell_nat {k : Int} (h : 0 ≤ k) : tellS k = digs k.toNat := by
  unfold tellS signText
  rw [if_neg (by omega), show k.natAbs = k.toNat by omega]

/-- a decimal's text. -/
theorem dec_zero {q k : Int} (hk : k = (q.natAbs : Int)) : decS q 0 = signText q [] ++ tellS k := by
  unfold decS
  rw [if_pos rfl, numText1, tell_nat (by omega), p10_zero, Int.ediv_one, hk]
  unfold signText; split <;> simp
theorem dec_some {q k : Int} {p : Nat} {z : List UInt8} (hk : k = (q.natAbs : Int)) (hp : ¬ p = 0) (hz : z = padS p (k % p10 p).toNat) : decS q p = signText q [] ++ (tellS (k / p10 p) ++ 46 :: z) := by
  have s := Int.ediv_nonneg (a := k) (b := p10 p) (by omega) (by unfold p10; exact Int.le_of_lt (Int.pow_pos (by omega)))
  subst hk
  unfold decS
  rw [if_neg hp, numText1, tell_nat s, hz]
  unfold numText
  rw [Int.toNat_natCast, List.append_nil]
  unfold signText; split <;> simp

def lenOf : Value → Nat | .string b => b.data.size | _ => 0
theorem pad_zeros (k m : Nat) (h : (digs m).length ≤ k) : padS k m = List.replicate (k - (digs m).length) 48 ++ digs m := padS_zeros k m h
theorem digs_p10 {m : Int} {p : Nat} (hp : ¬ p = 0) (h : m < p10 p) : (digs m.toNat).length ≤ p := by
  obtain ⟨j, rfl⟩ : ∃ j, p = j + 1 := ⟨p - 1, by omega⟩
  refine digs_len j _ ?_
  have : p10 (j + 1) = ((10 ^ (j + 1) : Nat) : Int) := by unfold p10; simp
  have h0 : 0 < (10 : Nat) ^ (j + 1) := Nat.pow_pos (by omega)
  omega

set_option maxRecDepth 100000 in
set_option maxHeartbeats 4000000 in
theorem rdecimal_any (n d p : Int) (w : World) :
    Calls Try.prog 46 #[.agg #[.int .i64 n, .int .i64 d], .int .i64 p] w fun e w' => e = .returned (.tuple #[.string ⟨(decE n d p).1.toArray⟩, .int .i64 (decE n d p).2]) ∧ Below w.heap.size w w' := by
  by_cases hA : chk n d = 0
  · by_cases hp : 0 ≤ p ∧ p ≤ 9
    · obtain ⟨p, rfl⟩ := Int.eq_ofNat_of_zero_le hp.1
      have hp9 : p ≤ 9 := by omega
      have hin : inB (p : Int) 0 9 = true := inB_yes (by omega)
      have f := fit_of_chk hA
      obtain ⟨m1, m2, r1, r2, r3⟩ := dec_bd f hp9
      obtain ⟨s1, s2⟩ := p10_bd p hp9
      rw [decE_o hA hp9]
      obtain ⟨n1, n2, d1, d2⟩ := f
      have HW : IntKind.i64.wrap (n * p10 p) = n * p10 p := IntWalk.i64_in _ (by omega)
      have HR := Lib.hid (fun w => nearest_any (n * p10 p) d w m1 m2 (by omega) d2)
      generalize hq : roundM (n * p10 p) d = q at *
      clear hq hp
      by_cases hp0 : p = 0
      · subst hp0
        have hin0 : inB 0 0 9 = true := by decide
        have HP0 := Lib.hid p10_zero
        by_cases hq0 : q < 0
        · obtain ⟨k, rfl⟩ : ∃ k : Int, q = -k := ⟨-q, by omega⟩
          have hk0 : 0 < k := by omega
          clear hq0
          have T := Lib.hid (show decS (-k) 0 = 45 :: tellS k by rw [dec_zero (q := -k) (k := k) (by omega)]; unfold signText; rw [if_pos (by omega)]; rfl)
          have l1 := tell_len (n := k) (by omega) (by omega)
          go_enter Try.func46, Try.ntmps46
          go_wp2_with fail
          refine (rcheck_any _ _ _).mono ?_; rintro e w1 ⟨rfl, hb1⟩; obtain ⟨hc1, hf1⟩ := bcell hb1; have hs1 := hb1.size; (try simp at hs1); (try have hz10 : w.heap.size < w1.heap.size := by omega); (try have hz11 : w.heap.size + 1 < w1.heap.size := by omega); (try have hz12 : w.heap.size + 1 + 1 < w1.heap.size := by omega); (try have hz13 : w.heap.size + 1 + 1 + 1 < w1.heap.size := by omega); (try have hz14 : w.heap.size + 1 + 1 + 1 + 1 < w1.heap.size := by omega); (try have hz15 : w.heap.size + 1 + 1 + 1 + 1 + 1 < w1.heap.size := by omega)
          go_wp2_with fail
          refine (in_any _ _ _ _).mono ?_; rintro e w' ⟨rfl, rfl⟩
          go_wp2_with fail
          refine wp_region_quiet_all (fun w' => ∃ x : Lower _, w' = x.val) (by kernel_rfl) (by kernel_rfl) ⟨⟨_, (Below.refl _ _).drew⟩, rfl⟩ ?_
          repeat (go_big_quiet_step (first | (go_at_call 97; exact calls_lower_same _ (ten_any 0 _ (by omega))) | (go_at_call 89; exact calls_lower_same _ (HR.out _))))
          refine wpQuiet_nil ?_
          intro w2 hx2
          obtain ⟨x2, hx2⟩ := hx2
          have hb2 := x2.prop
          rw [← hx2] at hb2
          clear hx2 x2
          obtain ⟨hc2, hf2⟩ := bcell hb2
          have hs2 := hb2.size
          try simp at hs2
          try have hz20 : w.heap.size < w2.heap.size := by omega
          try have hz21 : w.heap.size + 1 < w2.heap.size := by omega
          try have hz22 : w.heap.size + 1 + 1 < w2.heap.size := by omega
          try have hz23 : w.heap.size + 1 + 1 + 1 < w2.heap.size := by omega
          try have hz24 : w.heap.size + 1 + 1 + 1 + 1 < w2.heap.size := by omega
          try have hz25 : w.heap.size + 1 + 1 + 1 + 1 + 1 < w2.heap.size := by omega
          try have hy1_2 : w1.heap.size < w2.heap.size := by omega
          go_wp2_with fail
          refine (tell_b _ _ (by omega) (by omega)).mono ?_; rintro e w3 ⟨rfl, hb3⟩; obtain ⟨hc3, hf3⟩ := bcell hb3; have hs3 := hb3.size; (try simp at hs3); (try have hz30 : w.heap.size < w3.heap.size := by omega); (try have hz31 : w.heap.size + 1 < w3.heap.size := by omega); (try have hz32 : w.heap.size + 1 + 1 < w3.heap.size := by omega); (try have hz33 : w.heap.size + 1 + 1 + 1 < w3.heap.size := by omega); (try have hz34 : w.heap.size + 1 + 1 + 1 + 1 < w3.heap.size := by omega); (try have hz35 : w.heap.size + 1 + 1 + 1 + 1 + 1 < w3.heap.size := by omega); (try have hy1_3 : w1.heap.size < w3.heap.size := by omega); (try have hy2_3 : w2.heap.size < w3.heap.size := by omega)
          go_wp2
          go_ret2
          exact ⟨by rw [T.out]; rfl, by ((repeat' (first | exact Below.refl _ _ | assumption | refine Below.setCell ?_ ?_ _ | refine bdrewN ?_ _ | refine Below.drew ?_ | refine Below.alloc ?_ ?_ _ | refine bbehind ?_ (by assumption) ?_)); all_goals first | (simp; done) | (simp; omega) | omega)⟩
        · have T := Lib.hid (show decS q 0 = tellS q by rw [dec_zero (q := q) (k := q) (by omega)]; unfold signText; rw [if_neg hq0]; rfl)
          have l1 := tell_len (n := q) (by omega) (by omega)
          go_enter Try.func46, Try.ntmps46
          go_wp2_with fail
          refine (rcheck_any _ _ _).mono ?_; rintro e w1 ⟨rfl, hb1⟩; obtain ⟨hc1, hf1⟩ := bcell hb1; have hs1 := hb1.size; (try simp at hs1); (try have hz10 : w.heap.size < w1.heap.size := by omega); (try have hz11 : w.heap.size + 1 < w1.heap.size := by omega); (try have hz12 : w.heap.size + 1 + 1 < w1.heap.size := by omega); (try have hz13 : w.heap.size + 1 + 1 + 1 < w1.heap.size := by omega); (try have hz14 : w.heap.size + 1 + 1 + 1 + 1 < w1.heap.size := by omega); (try have hz15 : w.heap.size + 1 + 1 + 1 + 1 + 1 < w1.heap.size := by omega)
          go_wp2_with fail
          refine (in_any _ _ _ _).mono ?_; rintro e w' ⟨rfl, rfl⟩
          go_wp2_with fail
          refine wp_region_quiet_all (fun w' => ∃ x : Lower _, w' = x.val) (by kernel_rfl) (by kernel_rfl) ⟨⟨_, (Below.refl _ _).drew⟩, rfl⟩ ?_
          repeat (go_big_quiet_step (first | (go_at_call 97; exact calls_lower_same _ (ten_any 0 _ (by omega))) | (go_at_call 89; exact calls_lower_same _ (HR.out _))))
          refine wpQuiet_nil ?_
          intro w2 hx2
          obtain ⟨x2, hx2⟩ := hx2
          have hb2 := x2.prop
          rw [← hx2] at hb2
          clear hx2 x2
          obtain ⟨hc2, hf2⟩ := bcell hb2
          have hs2 := hb2.size
          try simp at hs2
          try have hz20 : w.heap.size < w2.heap.size := by omega
          try have hz21 : w.heap.size + 1 < w2.heap.size := by omega
          try have hz22 : w.heap.size + 1 + 1 < w2.heap.size := by omega
          try have hz23 : w.heap.size + 1 + 1 + 1 < w2.heap.size := by omega
          try have hz24 : w.heap.size + 1 + 1 + 1 + 1 < w2.heap.size := by omega
          try have hz25 : w.heap.size + 1 + 1 + 1 + 1 + 1 < w2.heap.size := by omega
          try have hy1_2 : w1.heap.size < w2.heap.size := by omega
          go_wp2_with fail
          refine (tell_b _ _ (by omega) (by omega)).mono ?_; rintro e w3 ⟨rfl, hb3⟩; obtain ⟨hc3, hf3⟩ := bcell hb3; have hs3 := hb3.size; (try simp at hs3); (try have hz30 : w.heap.size < w3.heap.size := by omega); (try have hz31 : w.heap.size + 1 < w3.heap.size := by omega); (try have hz32 : w.heap.size + 1 + 1 < w3.heap.size := by omega); (try have hz33 : w.heap.size + 1 + 1 + 1 < w3.heap.size := by omega); (try have hz34 : w.heap.size + 1 + 1 + 1 + 1 < w3.heap.size := by omega); (try have hz35 : w.heap.size + 1 + 1 + 1 + 1 + 1 < w3.heap.size := by omega); (try have hy1_3 : w1.heap.size < w3.heap.size := by omega); (try have hy2_3 : w2.heap.size < w3.heap.size := by omega)
          go_wp2
          go_ret2
          exact ⟨by rw [T.out]; rfl, by ((repeat' (first | exact Below.refl _ _ | assumption | refine Below.setCell ?_ ?_ _ | refine bdrewN ?_ _ | refine Below.drew ?_ | refine Below.alloc ?_ ?_ _ | refine bbehind ?_ (by assumption) ?_)); all_goals first | (simp; done) | (simp; omega) | omega)⟩
      · have hp0' : ((p : Int) == 0) = false := by simp; omega
        by_cases hq0 : q < 0
        · obtain ⟨k, rfl⟩ : ∃ k : Int, q = -k := ⟨-q, by omega⟩
          have hk0 : 0 < k := by omega
          clear hq0
          have e0 : 0 ≤ k := by omega
          have y1 := Int.emod_nonneg (k) (by omega : p10 p ≠ 0)
          have y2 := Int.emod_lt_of_pos (k) (by omega : 0 < p10 p)
          have y3 := Int.ediv_nonneg e0 (by omega : 0 ≤ p10 p)
          have y4 : (k) / p10 p ≤ 1000000000 := by have e : ((-k).natAbs : Int) = k := (by omega); rw [e] at r3; exact r3
          have T := Lib.hid (fun z hz => show decS (-k) p = 45 :: (tellS ((k) / p10 p) ++ 46 :: z) by rw [dec_some (q := -k) (k := k) (z := z) (by omega) hp0 hz]; unfold signText; rw [if_pos (by omega)]; rfl)
          have l1 := tell_len (n := (k) / p10 p) (by omega) (by omega)
          have l2 := tell_len (n := (k) % p10 p) (by omega) (by omega)
          have l3 := digs_p10 hp0 y2
          have TN := Lib.hid (tell_nat y1)
          have TP := Lib.hid (pad_zeros p ((k) % p10 p).toNat l3)
          rw [← TN.out] at l3
          generalize hZ : tellS ((k) % p10 p) = Z at *
          have HZ := Lib.hid hZ; clear hZ
          go_enter Try.func46, Try.ntmps46
          go_wp2_with fail
          refine (rcheck_any _ _ _).mono ?_; rintro e w1 ⟨rfl, hb1⟩; obtain ⟨hc1, hf1⟩ := bcell hb1; have hs1 := hb1.size; (try simp at hs1); (try have hz10 : w.heap.size < w1.heap.size := by omega); (try have hz11 : w.heap.size + 1 < w1.heap.size := by omega); (try have hz12 : w.heap.size + 1 + 1 < w1.heap.size := by omega); (try have hz13 : w.heap.size + 1 + 1 + 1 < w1.heap.size := by omega); (try have hz14 : w.heap.size + 1 + 1 + 1 + 1 < w1.heap.size := by omega); (try have hz15 : w.heap.size + 1 + 1 + 1 + 1 + 1 < w1.heap.size := by omega)
          go_wp2_with fail
          refine (in_any _ _ _ _).mono ?_; rintro e w' ⟨rfl, rfl⟩
          go_wp2_with fail
          refine wp_region_quiet_all (fun w' => ∃ x : Lower _, w' = x.val) (by kernel_rfl) (by kernel_rfl) ⟨⟨_, (Below.refl _ _).drew⟩, rfl⟩ ?_
          repeat (go_big_quiet_step (first | (go_at_call 97; exact calls_lower_same _ (ten_any p _ hp9)) | (go_at_call 89; exact calls_lower_same _ (HR.out _))))
          refine wpQuiet_nil ?_
          intro w2 hx2
          obtain ⟨x2, hx2⟩ := hx2
          have hb2 := x2.prop
          rw [← hx2] at hb2
          clear hx2 x2
          obtain ⟨hc2, hf2⟩ := bcell hb2
          have hs2 := hb2.size
          try simp at hs2
          try have hz20 : w.heap.size < w2.heap.size := by omega
          try have hz21 : w.heap.size + 1 < w2.heap.size := by omega
          try have hz22 : w.heap.size + 1 + 1 < w2.heap.size := by omega
          try have hz23 : w.heap.size + 1 + 1 + 1 < w2.heap.size := by omega
          try have hz24 : w.heap.size + 1 + 1 + 1 + 1 < w2.heap.size := by omega
          try have hz25 : w.heap.size + 1 + 1 + 1 + 1 + 1 < w2.heap.size := by omega
          try have hy1_2 : w1.heap.size < w2.heap.size := by omega
          go_wp2_with fail
          refine (ten_any p _ hp9).mono ?_; rintro e w' ⟨rfl, rfl⟩
          go_wp2_with fail
          refine (tell_b _ _ (by omega) (by omega)).mono ?_; rintro e w3 ⟨rfl, hb3⟩; obtain ⟨hc3, hf3⟩ := bcell hb3; have hs3 := hb3.size; (try simp at hs3); (try have hz30 : w.heap.size < w3.heap.size := by omega); (try have hz31 : w.heap.size + 1 < w3.heap.size := by omega); (try have hz32 : w.heap.size + 1 + 1 < w3.heap.size := by omega); (try have hz33 : w.heap.size + 1 + 1 + 1 < w3.heap.size := by omega); (try have hz34 : w.heap.size + 1 + 1 + 1 + 1 < w3.heap.size := by omega); (try have hz35 : w.heap.size + 1 + 1 + 1 + 1 + 1 < w3.heap.size := by omega); (try have hy1_3 : w1.heap.size < w3.heap.size := by omega); (try have hy2_3 : w2.heap.size < w3.heap.size := by omega)
          rw [HZ.out]
          go_wp2_with fail
          go_loop [9] (fun s => ∃ j : Nat, s = .string ⟨(List.replicate j 48 ++ Z).toArray⟩ ∧ j + Z.length ≤ p) (fun s => p - lenOf s)
          case atStart => exact ⟨0, rfl, by omega⟩
          case round =>
            obtain ⟨j, rfl, hj⟩ := hrel
            by_cases hlt : j + Z.length < p
            · go_wp2
              go_round
              case rel => exact ⟨j + 1, by simp [List.replicate_succ], by omega⟩
              case measure => simp [lenOf]; omega
            · go_wp2_with fail
              refine (ten_any p _ hp9).mono ?_; rintro e w' ⟨rfl, rfl⟩
              go_wp2_with fail
              refine (tell_b _ _ (by omega) (by omega)).mono ?_; rintro e w4 ⟨rfl, hb4⟩; obtain ⟨hc4, hf4⟩ := bcell hb4; have hs4 := hb4.size; (try simp at hs4); (try have hz40 : w.heap.size < w4.heap.size := by omega); (try have hz41 : w.heap.size + 1 < w4.heap.size := by omega); (try have hz42 : w.heap.size + 1 + 1 < w4.heap.size := by omega); (try have hz43 : w.heap.size + 1 + 1 + 1 < w4.heap.size := by omega); (try have hz44 : w.heap.size + 1 + 1 + 1 + 1 < w4.heap.size := by omega); (try have hz45 : w.heap.size + 1 + 1 + 1 + 1 + 1 < w4.heap.size := by omega); (try have hy1_4 : w1.heap.size < w4.heap.size := by omega); (try have hy2_4 : w2.heap.size < w4.heap.size := by omega); (try have hy3_4 : w3.heap.size < w4.heap.size := by omega)
              go_wp2
              go_ret2
              exact ⟨by rw [T.out _ (by rw [TP.out, ← TN.out, show p - Z.length = j by omega])]; rfl, by ((repeat' (first | exact Below.refl _ _ | assumption | refine Below.setCell ?_ ?_ _ | refine bdrewN ?_ _ | refine Below.drew ?_ | refine Below.alloc ?_ ?_ _ | refine bbehind ?_ (by assumption) ?_)); all_goals first | (simp; done) | (simp; omega) | omega)⟩
        · have e0 : 0 ≤ q := by omega
          have y1 := Int.emod_nonneg (q) (by omega : p10 p ≠ 0)
          have y2 := Int.emod_lt_of_pos (q) (by omega : 0 < p10 p)
          have y3 := Int.ediv_nonneg e0 (by omega : 0 ≤ p10 p)
          have y4 : (q) / p10 p ≤ 1000000000 := by have e : ((q).natAbs : Int) = q := (by omega); rw [e] at r3; exact r3
          have T := Lib.hid (fun z hz => show decS q p = (tellS ((q) / p10 p) ++ 46 :: z) by rw [dec_some (q := q) (k := q) (z := z) (by omega) hp0 hz]; unfold signText; rw [if_neg hq0]; rfl)
          have l1 := tell_len (n := (q) / p10 p) (by omega) (by omega)
          have l2 := tell_len (n := (q) % p10 p) (by omega) (by omega)
          have l3 := digs_p10 hp0 y2
          have TN := Lib.hid (tell_nat y1)
          have TP := Lib.hid (pad_zeros p ((q) % p10 p).toNat l3)
          rw [← TN.out] at l3
          generalize hZ : tellS ((q) % p10 p) = Z at *
          have HZ := Lib.hid hZ; clear hZ
          go_enter Try.func46, Try.ntmps46
          go_wp2_with fail
          refine (rcheck_any _ _ _).mono ?_; rintro e w1 ⟨rfl, hb1⟩; obtain ⟨hc1, hf1⟩ := bcell hb1; have hs1 := hb1.size; (try simp at hs1); (try have hz10 : w.heap.size < w1.heap.size := by omega); (try have hz11 : w.heap.size + 1 < w1.heap.size := by omega); (try have hz12 : w.heap.size + 1 + 1 < w1.heap.size := by omega); (try have hz13 : w.heap.size + 1 + 1 + 1 < w1.heap.size := by omega); (try have hz14 : w.heap.size + 1 + 1 + 1 + 1 < w1.heap.size := by omega); (try have hz15 : w.heap.size + 1 + 1 + 1 + 1 + 1 < w1.heap.size := by omega)
          go_wp2_with fail
          refine (in_any _ _ _ _).mono ?_; rintro e w' ⟨rfl, rfl⟩
          go_wp2_with fail
          refine wp_region_quiet_all (fun w' => ∃ x : Lower _, w' = x.val) (by kernel_rfl) (by kernel_rfl) ⟨⟨_, (Below.refl _ _).drew⟩, rfl⟩ ?_
          repeat (go_big_quiet_step (first | (go_at_call 97; exact calls_lower_same _ (ten_any p _ hp9)) | (go_at_call 89; exact calls_lower_same _ (HR.out _))))
          refine wpQuiet_nil ?_
          intro w2 hx2
          obtain ⟨x2, hx2⟩ := hx2
          have hb2 := x2.prop
          rw [← hx2] at hb2
          clear hx2 x2
          obtain ⟨hc2, hf2⟩ := bcell hb2
          have hs2 := hb2.size
          try simp at hs2
          try have hz20 : w.heap.size < w2.heap.size := by omega
          try have hz21 : w.heap.size + 1 < w2.heap.size := by omega
          try have hz22 : w.heap.size + 1 + 1 < w2.heap.size := by omega
          try have hz23 : w.heap.size + 1 + 1 + 1 < w2.heap.size := by omega
          try have hz24 : w.heap.size + 1 + 1 + 1 + 1 < w2.heap.size := by omega
          try have hz25 : w.heap.size + 1 + 1 + 1 + 1 + 1 < w2.heap.size := by omega
          try have hy1_2 : w1.heap.size < w2.heap.size := by omega
          go_wp2_with fail
          refine (ten_any p _ hp9).mono ?_; rintro e w' ⟨rfl, rfl⟩
          go_wp2_with fail
          refine (tell_b _ _ (by omega) (by omega)).mono ?_; rintro e w3 ⟨rfl, hb3⟩; obtain ⟨hc3, hf3⟩ := bcell hb3; have hs3 := hb3.size; (try simp at hs3); (try have hz30 : w.heap.size < w3.heap.size := by omega); (try have hz31 : w.heap.size + 1 < w3.heap.size := by omega); (try have hz32 : w.heap.size + 1 + 1 < w3.heap.size := by omega); (try have hz33 : w.heap.size + 1 + 1 + 1 < w3.heap.size := by omega); (try have hz34 : w.heap.size + 1 + 1 + 1 + 1 < w3.heap.size := by omega); (try have hz35 : w.heap.size + 1 + 1 + 1 + 1 + 1 < w3.heap.size := by omega); (try have hy1_3 : w1.heap.size < w3.heap.size := by omega); (try have hy2_3 : w2.heap.size < w3.heap.size := by omega)
          rw [HZ.out]
          go_wp2_with fail
          go_loop [9] (fun s => ∃ j : Nat, s = .string ⟨(List.replicate j 48 ++ Z).toArray⟩ ∧ j + Z.length ≤ p) (fun s => p - lenOf s)
          case atStart => exact ⟨0, rfl, by omega⟩
          case round =>
            obtain ⟨j, rfl, hj⟩ := hrel
            by_cases hlt : j + Z.length < p
            · go_wp2
              go_round
              case rel => exact ⟨j + 1, by simp [List.replicate_succ], by omega⟩
              case measure => simp [lenOf]; omega
            · go_wp2_with fail
              refine (ten_any p _ hp9).mono ?_; rintro e w' ⟨rfl, rfl⟩
              go_wp2_with fail
              refine (tell_b _ _ (by omega) (by omega)).mono ?_; rintro e w4 ⟨rfl, hb4⟩; obtain ⟨hc4, hf4⟩ := bcell hb4; have hs4 := hb4.size; (try simp at hs4); (try have hz40 : w.heap.size < w4.heap.size := by omega); (try have hz41 : w.heap.size + 1 < w4.heap.size := by omega); (try have hz42 : w.heap.size + 1 + 1 < w4.heap.size := by omega); (try have hz43 : w.heap.size + 1 + 1 + 1 < w4.heap.size := by omega); (try have hz44 : w.heap.size + 1 + 1 + 1 + 1 < w4.heap.size := by omega); (try have hz45 : w.heap.size + 1 + 1 + 1 + 1 + 1 < w4.heap.size := by omega); (try have hy1_4 : w1.heap.size < w4.heap.size := by omega); (try have hy2_4 : w2.heap.size < w4.heap.size := by omega); (try have hy3_4 : w3.heap.size < w4.heap.size := by omega)
              go_wp2
              go_ret2
              exact ⟨by rw [T.out _ (by rw [TP.out, ← TN.out, show p - Z.length = j by omega])]; rfl, by ((repeat' (first | exact Below.refl _ _ | assumption | refine Below.setCell ?_ ?_ _ | refine bdrewN ?_ _ | refine Below.drew ?_ | refine Below.alloc ?_ ?_ _ | refine bbehind ?_ (by assumption) ?_)); all_goals first | (simp; done) | (simp; omega) | omega)⟩
    · have hin : inB p 0 9 = false := inB_no (by omega)
      rw [decE_p hA hp]
      clear hp
      go_enter Try.func46, Try.ntmps46
      go_wp2_with (first | (go_at_call 17; refine (rcheck_any _ _ _).mono ?_; rintro e w1 ⟨rfl, hb1⟩; obtain ⟨hc1, hf1⟩ := bcell hb1; have hs1 := hb1.size; (try simp at hs1); (try have hz0 : w.heap.size < w1.heap.size := by omega); (try have hz1 : w.heap.size + 1 < w1.heap.size := by omega); (try have hz2 : w.heap.size + 1 + 1 < w1.heap.size := by omega); (try have hz3 : w.heap.size + 1 + 1 + 1 < w1.heap.size := by omega); (try have hz4 : w.heap.size + 1 + 1 + 1 + 1 < w1.heap.size := by omega); (try have hz5 : w.heap.size + 1 + 1 + 1 + 1 + 1 < w1.heap.size := by omega)) | (go_at_call 64; refine (in_any _ _ _ _).mono ?_; rintro e w1 ⟨rfl, rfl⟩))
      go_ret2
      exact ⟨rfl, by ((repeat' (first | exact Below.refl _ _ | assumption | refine Below.setCell ?_ ?_ _ | refine bdrewN ?_ _ | refine Below.drew ?_ | refine Below.alloc ?_ ?_ _ | refine bbehind ?_ (by assumption) ?_)); all_goals first | (simp; done) | (simp; omega) | omega)⟩
  · have hA' : (chk n d != 0) = true := by simpa using hA
    rw [decE_e hA]
    clear hA
    go_enter Try.func46, Try.ntmps46
    go_wp2_with (go_at_call 17; refine (rcheck_any _ _ _).mono ?_; rintro e w1 ⟨rfl, hb1⟩; obtain ⟨hc1, hf1⟩ := bcell hb1; have hs1 := hb1.size; (try simp at hs1); (try have hz0 : w.heap.size < w1.heap.size := by omega); (try have hz1 : w.heap.size + 1 < w1.heap.size := by omega); (try have hz2 : w.heap.size + 1 + 1 < w1.heap.size := by omega); (try have hz3 : w.heap.size + 1 + 1 + 1 < w1.heap.size := by omega); (try have hz4 : w.heap.size + 1 + 1 + 1 + 1 < w1.heap.size := by omega); (try have hz5 : w.heap.size + 1 + 1 + 1 + 1 + 1 < w1.heap.size := by omega))
    go_ret2
    exact ⟨rfl, by ((repeat' (first | exact Below.refl _ _ | assumption | refine Below.setCell ?_ ?_ _ | refine bdrewN ?_ _ | refine Below.drew ?_ | refine Below.alloc ?_ ?_ _ | refine bbehind ?_ (by assumption) ?_)); all_goals first | (simp; done) | (simp; omega) | omega)⟩
end Go.Proofs.Ytgefidffhdanhaa
