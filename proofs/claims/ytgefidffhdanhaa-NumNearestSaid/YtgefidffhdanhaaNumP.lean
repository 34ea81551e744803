import Derived.Test.YtgefidffhdanhaaNumO
namespace Go.Proofs.Ytgefidffhdanhaa
open Go.RowKit Go.BigFrame

/-- a minus sign at the front. -/
def isNeg (l : List UInt8) : Bool := match l with | [] => false | c :: _ => c == 45
def bodyOf (l : List UInt8) : List UInt8 := if isNeg l then l.drop 1 else l
def factorOf (l : List UInt8) : Int := if isNeg l then -1 else 1

set_option maxHeartbeats 400000 in
theorem hasPrefix_any (l : List UInt8) (w : World) (hl : l.length ≤ 100000) :
    Calls Try.prog 135 #[.string ⟨l.toArray⟩, .string ⟨#[45]⟩] w fun e w' => e = .returned (.bool (isNeg l)) ∧ w = w' := by
  cases l with
  | nil =>
    go_enter Try.func135, Try.ntmps135
    go_wp2
    go_ret
    exact ⟨rfl, rfl⟩
  | cons c t =>
    simp only [List.length_cons] at hl
    go_enter Try.func135, Try.ntmps135
    go_wp2
    go_ret
    exact ⟨rfl, rfl⟩

theorem isNeg_len {l : List UInt8} (h : isNeg l = true) : 1 ≤ l.length := by
  cases l with
  | nil => cases h
  | cons c t => simp

set_option maxHeartbeats 400000 in
theorem cutPrefixLite_any (l : List UInt8) (w : World) (hl : l.length ≤ 100000) :
    Calls Try.prog 129 #[.string ⟨l.toArray⟩, .string ⟨#[45]⟩] w fun e w' => e = .returned (.tuple #[.string ⟨(bodyOf l).toArray⟩, .bool (isNeg l)]) ∧ w = w' := by
  unfold bodyOf
  cases h : isNeg l with
  | false =>
    go_enter Try.func129, Try.ntmps129
    go_wp2_with (go_at_call 135; refine (hasPrefix_any _ _ hl).mono ?_; rintro e w1 ⟨rfl, rfl⟩)
    go_ret2
    exact ⟨rfl, rfl⟩
  | true =>
    have h1 := isNeg_len h
    have h2 : (1 : Int) ≤ (l.length : Int) := by omega
    go_enter Try.func129, Try.ntmps129
    go_wp2_with (go_at_call 135; refine (hasPrefix_any _ _ hl).mono ?_; rintro e w1 ⟨rfl, rfl⟩)
    go_ret2
    exact ⟨rfl, rfl⟩

set_option maxHeartbeats 400000 in
theorem cutPrefix_any (l : List UInt8) (w : World) (hl : l.length ≤ 100000) :
    Calls Try.prog 113 #[.string ⟨l.toArray⟩, .string ⟨#[45]⟩] w fun e w' => e = .returned (.tuple #[.string ⟨(bodyOf l).toArray⟩, .bool (isNeg l)]) ∧ w = w' := by
  go_enter Try.func113, Try.ntmps113
  go_wp2_with (go_at_call 129; refine (cutPrefixLite_any _ _ hl).mono ?_; rintro e w1 ⟨rfl, rfl⟩)
  go_ret2
  exact ⟨rfl, rfl⟩

/-- what a text before a point, and one behind it, say. -/
def decR (f b : List UInt8) (s : Int) : Int × Int × Int :=
  if ((digR f 9).2 = true ∧ (digR b 9).2 = true) ∧ ¬ (1 < f.length ∧ f.getD 0 0 = 48) then lowT (s * ((valN f : Int) * p10 b.length + (valN b : Int))) (p10 b.length) else (0, 0, 1)

set_option maxHeartbeats 800000 in
theorem pdClo_any (b0 b1 b2 b3 : Nat) (s x k y : Int) (w : World) (hs : s = 1 ∨ s = -1) (hx : 0 ≤ x) (hx2 : x ≤ 999999999) (hk : 1 ≤ k) (hk2 : k ≤ 1000000000) (hy : 0 ≤ y) (hy2 : y ≤ 999999999)
    (c0 : w.cell? ⟨b0, 0, none⟩ = some (.int .i64 s)) (c1 : w.cell? ⟨b1, 0, none⟩ = some (.int .i64 x)) (c2 : w.cell? ⟨b2, 0, none⟩ = some (.int .i64 k)) (c3 : w.cell? ⟨b3, 0, none⟩ = some (.int .i64 y))
    (k0 : b0 < w.heap.size) (k1 : b1 < w.heap.size) (k2 : b2 < w.heap.size) (k3 : b3 < w.heap.size) :
    Calls Try.prog 130 #[.pointer (some ⟨b0, 0, none⟩), .pointer (some ⟨b1, 0, none⟩), .pointer (some ⟨b2, 0, none⟩), .pointer (some ⟨b3, 0, none⟩)] w fun e w' => e = lowEnd (s * (x * k + y)) k ∧ Below w.heap.size w w' := by
  have j0 : b0 ≤ w.heap.size := by omega
  have j1 : b1 ≤ w.heap.size := by omega
  have j2 : b2 ≤ w.heap.size := by omega
  have j3 : b3 ≤ w.heap.size := by omega
  have m1 := mul_bd9 (a := x) (b := k) (by omega) (by omega) (by omega) (by omega)
  have m3 : -2000000000000000000 ≤ s * (x * k + y) ∧ s * (x * k + y) ≤ 2000000000000000000 := by rcases hs with h | h <;> subst h <;> omega
  have hk0 : ¬ k = 0 := by omega
  clear hs
  by_cases hok : lowOk (s * (x * k + y)) k = true
  · go_enter Try.func130, Try.ntmps130
    go_wp2_with (go_at_call 72; refine (lowest_ok _ _ _ (by omega) (by omega) (by omega) (by omega) hk0 hok).mono ?_; rintro e w1 ⟨rfl, hb1⟩; obtain ⟨hc1, hf1⟩ := bcell hb1; have hs1 := hb1.size; (try simp at hs1); (try have hz0 : w.heap.size < w1.heap.size := by omega); (try have hz1 : w.heap.size + 1 < w1.heap.size := by omega); (try have hz2 : w.heap.size + 1 + 1 < w1.heap.size := by omega); (try have hz3 : w.heap.size + 1 + 1 + 1 < w1.heap.size := by omega); (try have hz4 : w.heap.size + 1 + 1 + 1 + 1 < w1.heap.size := by omega); (try have hz5 : w.heap.size + 1 + 1 + 1 + 1 + 1 < w1.heap.size := by omega))
    refine bodyPost_ret (v := .agg #[.int .i64 (lowN (s * (x * k + y)) k), .int .i64 (lowD (s * (x * k + y)) k)]) (by simp (maxDischargeDepth := 8) [results, Try.results130, go_sem, *]) rfl ?_
    exact ⟨(lowEnd_yes hok).symm, by ((repeat' (first | exact Below.refl _ _ | assumption | refine Below.setCell ?_ ?_ _ | refine bdrewN ?_ _ | refine Below.drew ?_ | refine Below.alloc ?_ ?_ _ | refine bbehind ?_ (by assumption) ?_)); all_goals first | (simp; done) | (simp; omega) | omega)⟩
  · go_enter Try.func130, Try.ntmps130
    go_wp2_with (go_at_call 72; refine (lowest_beyond _ _ _ (by omega) (by omega) (by omega) (by omega) hk0 hok).mono ?_; rintro e w1 ⟨rfl, hb1⟩; obtain ⟨hc1, hf1⟩ := bcell hb1; have hs1 := hb1.size; (try simp at hs1); (try have hz0 : w.heap.size < w1.heap.size := by omega); (try have hz1 : w.heap.size + 1 < w1.heap.size := by omega); (try have hz2 : w.heap.size + 1 + 1 < w1.heap.size := by omega); (try have hz3 : w.heap.size + 1 + 1 + 1 < w1.heap.size := by omega); (try have hz4 : w.heap.size + 1 + 1 + 1 + 1 < w1.heap.size := by omega); (try have hz5 : w.heap.size + 1 + 1 + 1 + 1 + 1 < w1.heap.size := by omega))
    exact ⟨rfl, (lowEnd_not hok).symm, by ((repeat' (first | exact Below.refl _ _ | assumption | refine Below.setCell ?_ ?_ _ | refine bdrewN ?_ _ | refine Below.drew ?_ | refine Below.alloc ?_ ?_ _ | refine bbehind ?_ (by assumption) ?_)); all_goals first | (simp; done) | (simp; omega) | omega)⟩

theorem bc_pd (b0 b1 b2 b3 : Nat) (s x k y : Int) (w : World) (hs : s = 1 ∨ s = -1) (hx : 0 ≤ x) (hx2 : x ≤ 999999999) (hk : 1 ≤ k) (hk2 : k ≤ 1000000000) (hy : 0 ≤ y) (hy2 : y ≤ 999999999)
    (c0 : w.cell? ⟨b0, 0, none⟩ = some (.int .i64 s)) (c1 : w.cell? ⟨b1, 0, none⟩ = some (.int .i64 x)) (c2 : w.cell? ⟨b2, 0, none⟩ = some (.int .i64 k)) (c3 : w.cell? ⟨b3, 0, none⟩ = some (.int .i64 y))
    (k0 : b0 < w.heap.size) (k1 : b1 < w.heap.size) (k2 : b2 < w.heap.size) (k3 : b3 < w.heap.size) :
    Calls Try.prog 70 #[.func (.func 130) #[] #[.pointer (some ⟨b0, 0, none⟩), .pointer (some ⟨b1, 0, none⟩), .pointer (some ⟨b2, 0, none⟩), .pointer (some ⟨b3, 0, none⟩)]] w fun e w' => e = .returned (.tuple #[.agg #[.int .i64 (lowT (s * (x * k + y)) k).1, .int .i64 (lowT (s * (x * k + y)) k).2.1], .int .i64 (lowT (s * (x * k + y)) k).2.2]) ∧ Below w.heap.size w w' := by
  have hf : ∀ w1, Below w.heap.size w w1 → Calls Try.prog 130 #[.pointer (some ⟨b0, 0, none⟩), .pointer (some ⟨b1, 0, none⟩), .pointer (some ⟨b2, 0, none⟩), .pointer (some ⟨b3, 0, none⟩)] w1 fun e w' => e = lowEnd (s * (x * k + y)) k ∧ Below w1.heap.size w1 w' := fun w1 hw => by
    obtain ⟨hc, _⟩ := bcell hw
    have hz := hw.size
    exact pdClo_any b0 b1 b2 b3 s x k y w1 hs hx hx2 hk hk2 hy hy2 ((hc _ _ k0).trans c0) ((hc _ _ k1).trans c1) ((hc _ _ k2).trans c2) ((hc _ _ k3).trans c3) (by omega) (by omega) (by omega) (by omega)
  by_cases hok : lowOk (s * (x * k + y)) k = true
  · rw [lowT_yes hok]
    exact bounded_ret _ _ _ _ w (fun w1 => by kernel_rfl) (fun w1 hw => low_yes hok (hf w1 hw))
  · rw [lowT_not hok]
    exact bounded_beyond _ _ w (fun w1 => by kernel_rfl) (fun w1 hw => low_not hok (hf w1 hw))
end Go.Proofs.Ytgefidffhdanhaa
