import Derived.Test.YtgefidffhdanhaaNumN
namespace Go.Proofs.Ytgefidffhdanhaa
open Go.RowKit Go.BigFrame

/-- a whole number's text. -/
def tellS (n : Int) : List UInt8 := signText n (digs n.natAbs)

theorem tell_neg1 {n : Int} (h : n < 0) (k : -10 < n) : tellS n = 45 :: tellS (-n) := by
  unfold tellS signText
  rw [if_pos h, if_neg (by omega), Int.natAbs_neg]
theorem tdiv_abs (n : Int) : (n.tdiv 10).natAbs = n.natAbs / 10 := by rw [Int.natAbs_tdiv]; rfl
theorem tmod_abs (n : Int) : (n.tmod 10).natAbs = n.natAbs % 10 := by rw [Int.natAbs_tmod]; rfl
theorem tdiv_neg' {n : Int} (h : n ≤ 0) : n.tdiv 10 ≤ 0 := by
  have : (-n).tdiv 10 = -(n.tdiv 10) := Int.neg_tdiv ..
  have := Int.tdiv_nonneg (a := -n) (b := 10) (by omega) (by omega)
  omega
theorem tmod_neg' {n : Int} (h : n ≤ 0) : n.tmod 10 ≤ 0 := by
  have : (-n).tmod 10 = -(n.tmod 10) := Int.neg_tmod ..
  have := Int.tmod_nonneg (a := -n) 10 (by omega)
  omega
theorem tell_neg {n : Int} (h : n ≤ -10) : tellS n = tellS (n.tdiv 10) ++ tellS (-(n.tmod 10)) := by
  have h1 := tdiv_abs n
  have h2 := tmod_abs n
  have h3 := tdiv_neg' (n := n) (by omega)
  have h4 := tmod_neg' (n := n) (by omega)
  unfold tellS signText
  rw [if_pos (by omega), if_pos (by omega), if_neg (by omega), Int.natAbs_neg, h1, h2, digs_ge (by omega)]
  show 45 :: (digs (n.natAbs / 10) ++ [dig n.natAbs]) = (45 :: digs (n.natAbs / 10)) ++ digs (n.natAbs % 10)
  rw [digs_lt (n := n.natAbs % 10) (by omega)]
  have e : dig n.natAbs = dig (n.natAbs % 10) := by unfold dig; congr 2; omega
  rw [e]; rfl
theorem tell_one {n : Int} (h : 0 ≤ n) (k : n < 10) : ∃ u : UInt8, tellS n = [u] ∧ 48 + n = (u.toNat : Int) := by
  refine ⟨dig n.natAbs, ?_, by rw [dig_nat]; omega⟩
  unfold tellS signText
  rw [if_neg (by omega), digs_lt (by omega)]
theorem tell_len {n : Int} (h1 : -1000000000000000000 ≤ n) (h2 : n ≤ 1000000000000000000) : (tellS n).length ≤ 20 := by
  have := digs_len 18 n.natAbs (by omega)
  have := signText_len n (digs n.natAbs)
  unfold tellS; omega
theorem tell_pos {n : Int} (h : 10 ≤ n) : tellS n = tellS (n / 10) ++ tellS (n % 10) := by
  unfold tellS signText
  rw [if_neg (by omega), if_neg (by omega), if_neg (by omega), digs_ge (by omega), digs_lt (n := (n % 10).natAbs) (by omega)]
  have e1 : (n / 10).natAbs = n.natAbs / 10 := by omega
  have e2 : dig n.natAbs = dig (n % 10).natAbs := by unfold dig; congr 1; omega
  rw [e1, e2]

@[go_sem] theorem str_app (a b : List UInt8) : (⟨a.toArray⟩ ++ ⟨b.toArray⟩ : ByteArray) = ⟨(a ++ b).toArray⟩ := by
  apply ByteArray.ext; rw [ByteArray.data_append]; simp
theorem ret_str {a b : List UInt8} (h : a = b) : Ending.returned (.string ⟨a.toArray⟩) = .returned (.string ⟨b.toArray⟩) := by rw [h]

set_option maxRecDepth 100000 in
set_option maxHeartbeats 1000000 in
theorem tell_any (f : Nat) : ∀ (n : Int) (w : World), 4 * (n.natAbs : Int) - n < f → -1000000000000000000 ≤ n → n ≤ 1000000000000000000 →
    Calls Try.prog 98 #[.int .i64 n] w fun e w' => e = .returned (.string ⟨(tellS n).toArray⟩) ∧ Below w.heap.size w w' := by
  induction f with
  | zero => intro n w h; simp at h; omega
  | succ f ih =>
    intro n w hf h1 h2
    have IH := Lib.hid ih; clear ih
    by_cases h0 : n < 0
    · by_cases h10 : -10 < n
      · have T := Lib.hid (tell_neg1 h0 h10)
        have l1 := tell_len (n := -n) (by omega) (by omega)
        go_enter Try.func98, Try.ntmps98
        go_wp2_with fail
        refine (IH.out (-n) _ (by omega) (by omega) (by omega)).mono ?_; rintro e w1 ⟨rfl, hb1⟩; obtain ⟨hc1, hf1⟩ := bcell hb1; have hs1 := hb1.size; (try simp at hs1); (try have hz10 : w.heap.size < w1.heap.size := by omega); (try have hz11 : w.heap.size + 1 < w1.heap.size := by omega); (try have hz12 : w.heap.size + 1 + 1 < w1.heap.size := by omega); (try have hz13 : w.heap.size + 1 + 1 + 1 < w1.heap.size := by omega); (try have hz14 : w.heap.size + 1 + 1 + 1 + 1 < w1.heap.size := by omega); (try have hz15 : w.heap.size + 1 + 1 + 1 + 1 + 1 < w1.heap.size := by omega)
        go_wp2
        go_ret
        exact ⟨by rw [T.out]; rfl, by ((repeat' (first | exact Below.refl _ _ | assumption | refine Below.setCell ?_ ?_ _ | refine bdrewN ?_ _ | refine Below.drew ?_ | refine Below.alloc ?_ ?_ _ | refine bbehind ?_ (by assumption) ?_)); all_goals first | (simp; done) | (simp; omega) | omega)⟩
      · have T := Lib.hid (tell_neg (n := n) (by omega))
        have q1 := tdiv_abs n
        have q2 := tmod_abs n
        have q3 := tdiv_neg' (n := n) (by omega)
        have q4 := tmod_neg' (n := n) (by omega)
        have b1 : -1000000000000000000 ≤ n.tdiv 10 := by omega
        have b2 : -10 < n.tmod 10 := by omega
        have l1 := tell_len (n := n.tdiv 10) (by omega) (by omega)
        have l2 := tell_len (n := -(n.tmod 10)) (by omega) (by omega)
        have q5 := Lib.hid q1; clear q1
        have q6 := Lib.hid q2; clear q2
        go_enter Try.func98, Try.ntmps98
        go_wp2_with fail
        refine (IH.out (n.tdiv 10) _ (by have := q5.out; omega) (by omega) (by omega)).mono ?_; rintro e w1 ⟨rfl, hb1⟩; obtain ⟨hc1, hf1⟩ := bcell hb1; have hs1 := hb1.size; (try simp at hs1); (try have hz10 : w.heap.size < w1.heap.size := by omega); (try have hz11 : w.heap.size + 1 < w1.heap.size := by omega); (try have hz12 : w.heap.size + 1 + 1 < w1.heap.size := by omega); (try have hz13 : w.heap.size + 1 + 1 + 1 < w1.heap.size := by omega); (try have hz14 : w.heap.size + 1 + 1 + 1 + 1 < w1.heap.size := by omega); (try have hz15 : w.heap.size + 1 + 1 + 1 + 1 + 1 < w1.heap.size := by omega)
        go_wp2_with fail
        refine (IH.out (-(n.tmod 10)) _ (by have := q6.out; omega) (by omega) (by omega)).mono ?_; rintro e w2 ⟨rfl, hb2⟩; obtain ⟨hc2, hf2⟩ := bcell hb2; have hs2 := hb2.size; (try simp at hs2); (try have hz20 : w.heap.size < w2.heap.size := by omega); (try have hz21 : w.heap.size + 1 < w2.heap.size := by omega); (try have hz22 : w.heap.size + 1 + 1 < w2.heap.size := by omega); (try have hz23 : w.heap.size + 1 + 1 + 1 < w2.heap.size := by omega); (try have hz24 : w.heap.size + 1 + 1 + 1 + 1 < w2.heap.size := by omega); (try have hz25 : w.heap.size + 1 + 1 + 1 + 1 + 1 < w2.heap.size := by omega); (try have hy1_2 : w1.heap.size < w2.heap.size := by omega)
        go_wp2
        go_ret
        exact ⟨by rw [T.out]; rfl, by ((repeat' (first | exact Below.refl _ _ | assumption | refine Below.setCell ?_ ?_ _ | refine bdrewN ?_ _ | refine Below.drew ?_ | refine Below.alloc ?_ ?_ _ | refine bbehind ?_ (by assumption) ?_)); all_goals first | (simp; done) | (simp; omega) | omega)⟩
    · by_cases h10 : n < 10
      · obtain ⟨u, hT, hu⟩ := tell_one (by omega) h10
        have T := Lib.hid hT; clear hT
        have hcv : (convert 115 9 (.slice (some ⟨w.heap.size, 0, none⟩) 1 1)).run Try.prog (w.alloc (.cells #[.int .u8 (48 + n)] 5)) = .ok (.string ⟨[u].toArray⟩) (w.alloc (.cells #[.int .u8 (48 + n)] 5)) := by
          refine run_convert_bytes_back _ _ _ 5 _ _ [u] (by kernel_rfl) (by kernel_rfl) (by kernel_rfl) fun j hj => ?_
          have : j = 0 := by simpa using hj
          subst this
          show World.cell? _ ⟨w.heap.size, 0, none⟩ = _
          rw [World.cell?_alloc_at (hn := rfl), hu]; rfl
        clear hu
        go_enter Try.func98, Try.ntmps98
        go_wp2
        go_ret
        exact ⟨by rw [T.out]; rfl, by ((repeat' (first | exact Below.refl _ _ | assumption | refine Below.setCell ?_ ?_ _ | refine bdrewN ?_ _ | refine Below.drew ?_ | refine Below.alloc ?_ ?_ _ | refine bbehind ?_ (by assumption) ?_)); all_goals first | (simp; done) | (simp; omega) | omega)⟩
      · have T := Lib.hid (tell_pos (n := n) (by omega))
        have b1 : 0 ≤ n / 10 := by omega
        have b2 : 0 ≤ n % 10 := by omega
        have b3 : n / 10 ≤ n := by omega
        have b4 : n % 10 < 10 := by omega
        have l1 := tell_len (n := n / 10) (by omega) (by omega)
        have l2 := tell_len (n := n % 10) (by omega) (by omega)
        go_enter Try.func98, Try.ntmps98
        go_wp2_with fail
        refine (IH.out (n / 10) _ (by omega) (by omega) (by omega)).mono ?_; rintro e w1 ⟨rfl, hb1⟩; obtain ⟨hc1, hf1⟩ := bcell hb1; have hs1 := hb1.size; (try simp at hs1); (try have hz10 : w.heap.size < w1.heap.size := by omega); (try have hz11 : w.heap.size + 1 < w1.heap.size := by omega); (try have hz12 : w.heap.size + 1 + 1 < w1.heap.size := by omega); (try have hz13 : w.heap.size + 1 + 1 + 1 < w1.heap.size := by omega); (try have hz14 : w.heap.size + 1 + 1 + 1 + 1 < w1.heap.size := by omega); (try have hz15 : w.heap.size + 1 + 1 + 1 + 1 + 1 < w1.heap.size := by omega)
        go_wp2_with fail
        refine (IH.out (n % 10) _ (by omega) (by omega) (by omega)).mono ?_; rintro e w2 ⟨rfl, hb2⟩; obtain ⟨hc2, hf2⟩ := bcell hb2; have hs2 := hb2.size; (try simp at hs2); (try have hz20 : w.heap.size < w2.heap.size := by omega); (try have hz21 : w.heap.size + 1 < w2.heap.size := by omega); (try have hz22 : w.heap.size + 1 + 1 < w2.heap.size := by omega); (try have hz23 : w.heap.size + 1 + 1 + 1 < w2.heap.size := by omega); (try have hz24 : w.heap.size + 1 + 1 + 1 + 1 < w2.heap.size := by omega); (try have hz25 : w.heap.size + 1 + 1 + 1 + 1 + 1 < w2.heap.size := by omega); (try have hy1_2 : w1.heap.size < w2.heap.size := by omega)
        go_wp2
        go_ret
        exact ⟨by rw [T.out]; rfl, by ((repeat' (first | exact Below.refl _ _ | assumption | refine Below.setCell ?_ ?_ _ | refine bdrewN ?_ _ | refine Below.drew ?_ | refine Below.alloc ?_ ?_ _ | refine bbehind ?_ (by assumption) ?_)); all_goals first | (simp; done) | (simp; omega) | omega)⟩
end Go.Proofs.Ytgefidffhdanhaa
