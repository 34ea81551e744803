import Derived.Test.YtgefidffhdanhaaNumT
namespace Go.Proofs.Ytgefidffhdanhaa
open Go.RowKit Go.BigFrame

/-- where a list of numbers lies: an empty one wherever, another one in cells. -/
def LiesAt (w : World) (v : Value) (l : List (Int × Int)) : Prop :=
  (∃ a cap, v = .slice a 0 cap ∧ l = []) ∨ ∃ b off cap, v = .slice (some ⟨b, off, none⟩) l.length cap ∧ b < w.heap.size ∧ NumsAt w b off l

theorem nums_below {w w' : World} {b off : Nat} {l : List (Int × Int)} (h : NumsAt w b off l) (hb : b < w.heap.size) (k : Below w.heap.size w w') : NumsAt w' b off l := by
  obtain ⟨hc, _⟩ := bcell k
  exact fun i hi => ⟨(hc _ _ hb).trans (h i hi).1, (hc _ _ hb).trans (h i hi).2⟩
theorem lies_below {w w' : World} {v : Value} {l : List (Int × Int)} (h : LiesAt w v l) (k : Below w.heap.size w w') : LiesAt w' v l := by
  rcases h with h | ⟨b, off, cap, h1, h2, h3⟩
  · exact .inl h
  · exact .inr ⟨b, off, cap, h1, Nat.lt_of_lt_of_le h2 k.size, nums_below h3 h2 k⟩

set_option maxHeartbeats 400000 in
theorem firstError_nil (a : Option Addr) (cap : Nat) (w : World) :
    Calls Try.prog 74 #[.slice a 0 cap] w fun e w' => e = .returned (.int .i64 0) ∧ Below w.heap.size w w' := by
  go_enter Try.func74, Try.ntmps74
  go_wp2
  go_loopw [8] (fun i wr => i = .int .i64 0 ∧ Below w.heap.size w wr) (fun i _ => 0)
  case atStart => exact ⟨rfl, Below.refl _ _⟩
  case round =>
    obtain ⟨rfl, hbw⟩ := hrel
    go_wp2
    go_ret
    exact ⟨rfl, hbw⟩

theorem firstError_l (v : Value) (l : List (Int × Int)) (w : World) (hl : l.length ≤ 1000000) (h : LiesAt w v l) :
    Calls Try.prog 74 #[v] w fun e w' => e = .returned (.int .i64 (firstErr l)) ∧ Below w.heap.size w w' := by
  rcases h with ⟨a, cap, rfl, rfl⟩ | ⟨b, off, cap, rfl, h2, h3⟩
  · exact firstError_nil a cap w
  · exact firstError_any b off cap l w (by omega) h2 h3

theorem total_l (v : Value) (l : List (Int × Int)) (w : World) (hl : l.length ≤ 1000000) (h : LiesAt w v l) (hv : ∀ k, k < l.length → chk (l.getD k (0, 0)).1 (l.getD k (0, 0)).2 = 0) :
    Calls Try.prog 80 #[v] w fun e w' => e = powEnd (sumT l l.length) ∧ Below w.heap.size w w' := by
  rcases h with ⟨a, cap, rfl, rfl⟩ | ⟨b, off, cap, rfl, h2, h3⟩
  · exact total_nil a cap w
  · exact total_any b off cap l w hl h2 h3 hv

set_option maxHeartbeats 1000000 in
theorem sumClo_any (b0 : Nat) (v : Value) (l : List (Int × Int)) (w : World) (hl : l.length ≤ 1000000) (h : LiesAt w v l) (hv : ∀ k, k < l.length → chk (l.getD k (0, 0)).1 (l.getD k (0, 0)).2 = 0)
    (c1 : w.cell? ⟨b0, 0, none⟩ = some v) (k0 : b0 < w.heap.size) :
    Calls Try.prog 79 #[.pointer (some ⟨b0, 0, none⟩)] w fun e w' => e = powEnd (sumT l l.length) ∧ Below w.heap.size w w' := by
  have k2 : b0 ≤ w.heap.size := by omega
  have P := Lib.hid (fun w1 (hw : Below w.heap.size w w1) => total_l v l w1 hl (lies_below h hw) hv)
  rcases sum_is hv l.length (Nat.le_refl _) with ⟨x, y, hs, -⟩ | hs
  · rw [hs, powEnd_ok] at P ⊢
    clear hs hv h
    go_enter Try.func79, Try.ntmps79
    go_wp2_with fail
    refine (P.out _ (by ((repeat' (first | exact Below.refl _ _ | assumption | refine Below.setCell ?_ ?_ _ | refine bdrewN ?_ _ | refine Below.drew ?_ | refine Below.alloc ?_ ?_ _ | refine bbehind ?_ (by assumption) ?_)); all_goals first | (simp; done) | (simp; omega) | omega))).mono ?_; rintro e w1 ⟨rfl, hb1⟩; obtain ⟨hc1, hf1⟩ := bcell hb1; have hs1 := hb1.size; (try simp at hs1); (try have hz10 : w.heap.size < w1.heap.size := by omega); (try have hz11 : w.heap.size + 1 < w1.heap.size := by omega); (try have hz12 : w.heap.size + 1 + 1 < w1.heap.size := by omega); (try have hz13 : w.heap.size + 1 + 1 + 1 < w1.heap.size := by omega); (try have hz14 : w.heap.size + 1 + 1 + 1 + 1 < w1.heap.size := by omega); (try have hz15 : w.heap.size + 1 + 1 + 1 + 1 + 1 < w1.heap.size := by omega)
    go_wp2
    refine bodyPost_ret (v := .agg #[.int .i64 x, .int .i64 y]) (by simp (maxDischargeDepth := 8) [results, Try.results79, go_sem, *]) rfl ?_
    exact ⟨rfl, by ((repeat' (first | exact Below.refl _ _ | assumption | refine Below.setCell ?_ ?_ _ | refine bdrewN ?_ _ | refine Below.drew ?_ | refine Below.alloc ?_ ?_ _ | refine bbehind ?_ (by assumption) ?_)); all_goals first | (simp; done) | (simp; omega) | omega)⟩
  · rw [hs, powEnd_no] at P ⊢
    clear hs hv h
    go_enter Try.func79, Try.ntmps79
    go_wp2_with fail
    refine (P.out _ (by ((repeat' (first | exact Below.refl _ _ | assumption | refine Below.setCell ?_ ?_ _ | refine bdrewN ?_ _ | refine Below.drew ?_ | refine Below.alloc ?_ ?_ _ | refine bbehind ?_ (by assumption) ?_)); all_goals first | (simp; done) | (simp; omega) | omega))).mono ?_; rintro e w1 ⟨rfl, hb1⟩; obtain ⟨hc1, hf1⟩ := bcell hb1; have hs1 := hb1.size; (try simp at hs1); (try have hz10 : w.heap.size < w1.heap.size := by omega); (try have hz11 : w.heap.size + 1 < w1.heap.size := by omega); (try have hz12 : w.heap.size + 1 + 1 < w1.heap.size := by omega); (try have hz13 : w.heap.size + 1 + 1 + 1 < w1.heap.size := by omega); (try have hz14 : w.heap.size + 1 + 1 + 1 + 1 < w1.heap.size := by omega); (try have hz15 : w.heap.size + 1 + 1 + 1 + 1 + 1 < w1.heap.size := by omega)
    go_wp2
    exact ⟨rfl, rfl, by ((repeat' (first | exact Below.refl _ _ | assumption | refine Below.setCell ?_ ?_ _ | refine bdrewN ?_ _ | refine Below.drew ?_ | refine Below.alloc ?_ ?_ _ | refine bbehind ?_ (by assumption) ?_)); all_goals first | (simp; done) | (simp; omega) | omega)⟩

theorem bc_sum (b0 : Nat) (v : Value) (l : List (Int × Int)) (w : World) (hl : l.length ≤ 1000000) (h : LiesAt w v l) (hv : ∀ k, k < l.length → chk (l.getD k (0, 0)).1 (l.getD k (0, 0)).2 = 0)
    (c1 : w.cell? ⟨b0, 0, none⟩ = some v) (k0 : b0 < w.heap.size) :
    Calls Try.prog 70 #[.func (.func 79) #[] #[.pointer (some ⟨b0, 0, none⟩)]] w fun e w' => e = .returned (.tuple #[.agg #[.int .i64 (sumT l l.length).1, .int .i64 (sumT l l.length).2.1], .int .i64 (sumT l l.length).2.2]) ∧ Below w.heap.size w w' := by
  have hf : ∀ w1, Below w.heap.size w w1 → Calls Try.prog 79 #[.pointer (some ⟨b0, 0, none⟩)] w1 fun e w' => e = powEnd (sumT l l.length) ∧ Below w1.heap.size w1 w' := fun w1 hw => by
    obtain ⟨hc, _⟩ := bcell hw
    have hz := hw.size
    exact sumClo_any b0 v l w1 hl (lies_below h hw) hv ((hc _ _ k0).trans c1) (by omega)
  rcases sum_is hv l.length (Nat.le_refl _) with ⟨x, y, hs, -⟩ | hs
  · rw [hs] at hf ⊢
    rw [powEnd_ok] at hf
    exact bounded_ret _ _ _ _ w (fun w1 => by kernel_rfl) hf
  · rw [hs] at hf ⊢
    rw [powEnd_no] at hf
    exact bounded_beyond _ _ w (fun w1 => by kernel_rfl) hf

/-- Sum. -/
def sumP (l : List (Int × Int)) : Int × Int × Int := if firstErr l = 0 then sumT l l.length else (0, 0, firstErr l)

set_option maxRecDepth 100000 in
set_option maxHeartbeats 1600000 in
theorem sum_any (v : Value) (l : List (Int × Int)) (w : World) (hl : l.length ≤ 1000000) (h : LiesAt w v l) :
    Calls Try.prog 35 #[v] w fun e w' => e = .returned (.tuple #[.agg #[.int .i64 (sumP l).1, .int .i64 (sumP l).2.1], .int .i64 (sumP l).2.2]) ∧ Below w.heap.size w w' := by
  have hmf : ∀ (fn : Fn) (first cap : Array Value) (w : World), (Instr.makeFunc fn first cap).run Try.prog w = .ok (.func fn first cap) w := fun _ _ _ _ => rfl
  unfold sumP
  have F := Lib.hid (fun w1 (hw : Below w.heap.size w w1) => firstError_l v l w1 hl (lies_below h hw))
  by_cases hE : firstErr l = 0
  · rw [if_pos hE]
    rw [hE] at F
    have D := Lib.hid (fun b0 w1 (hw : Below w.heap.size w w1) => bc_sum b0 v l w1 hl (lies_below h hw) (err_all hE))
    have hvs : ∃ a n c, v = .slice a n c := by
      rcases h with ⟨a, cap, rfl, rfl⟩ | ⟨b, off, cap, rfl, h2, h3⟩
      · exact ⟨_, _, _, rfl⟩
      · exact ⟨_, _, _, rfl⟩
    obtain ⟨sa, sn, sc, rfl⟩ := hvs
    clear hE h
    go_enter Try.func35, Try.ntmps35
    go_wp2_with fail
    refine (F.out _ (by ((repeat' (first | exact Below.refl _ _ | assumption | refine Below.setCell ?_ ?_ _ | refine bdrewN ?_ _ | refine Below.drew ?_ | refine Below.alloc ?_ ?_ _ | refine bbehind ?_ (by assumption) ?_)); all_goals first | (simp; done) | (simp; omega) | omega))).mono ?_; rintro e w1 ⟨rfl, hb1⟩; obtain ⟨hc1, hf1⟩ := bcell hb1; have hs1 := hb1.size; (try simp at hs1); (try have hz10 : w.heap.size < w1.heap.size := by omega); (try have hz11 : w.heap.size + 1 < w1.heap.size := by omega); (try have hz12 : w.heap.size + 1 + 1 < w1.heap.size := by omega); (try have hz13 : w.heap.size + 1 + 1 + 1 < w1.heap.size := by omega); (try have hz14 : w.heap.size + 1 + 1 + 1 + 1 < w1.heap.size := by omega); (try have hz15 : w.heap.size + 1 + 1 + 1 + 1 + 1 < w1.heap.size := by omega)
    go_wp2_with fail
    refine (D.out _ _ (by ((repeat' (first | exact Below.refl _ _ | assumption | refine Below.setCell ?_ ?_ _ | refine bdrewN ?_ _ | refine Below.drew ?_ | refine Below.alloc ?_ ?_ _ | refine bbehind ?_ (by assumption) ?_)); all_goals first | (simp; done) | (simp; omega) | omega)) (by simp (maxDischargeDepth := 8) [go_sem, *]) (by first | assumption | (simp; done) | (simp; omega) | omega)).mono ?_; rintro e w2 ⟨rfl, hb2⟩; obtain ⟨hc2, hf2⟩ := bcell hb2; have hs2 := hb2.size; (try simp at hs2); (try have hz20 : w.heap.size < w2.heap.size := by omega); (try have hz21 : w.heap.size + 1 < w2.heap.size := by omega); (try have hz22 : w.heap.size + 1 + 1 < w2.heap.size := by omega); (try have hz23 : w.heap.size + 1 + 1 + 1 < w2.heap.size := by omega); (try have hz24 : w.heap.size + 1 + 1 + 1 + 1 < w2.heap.size := by omega); (try have hz25 : w.heap.size + 1 + 1 + 1 + 1 + 1 < w2.heap.size := by omega)
    go_wp2
    refine bodyPost_ret (v := .tuple #[.agg #[.int .i64 (sumT l l.length).1, .int .i64 (sumT l l.length).2.1], .int .i64 (sumT l l.length).2.2]) (by simp (maxDischargeDepth := 8) [results, Try.results35, go_sem, *]) rfl ?_
    exact ⟨rfl, by ((repeat' (first | exact Below.refl _ _ | assumption | refine Below.setCell ?_ ?_ _ | refine bdrewN ?_ _ | refine Below.drew ?_ | refine Below.alloc ?_ ?_ _ | refine bbehind ?_ (by assumption) ?_)); all_goals first | (simp; done) | (simp; omega) | omega)⟩
  · have hE' : (firstErr l != 0) = true := by simpa using hE
    rw [if_neg hE]
    have hvs : ∃ a n c, v = .slice a n c := by
      rcases h with ⟨a, cap, rfl, rfl⟩ | ⟨b, off, cap, rfl, h2, h3⟩
      · exact ⟨_, _, _, rfl⟩
      · exact ⟨_, _, _, rfl⟩
    obtain ⟨sa, sn, sc, rfl⟩ := hvs
    clear hE h
    go_enter Try.func35, Try.ntmps35
    go_wp2_with fail
    refine (F.out _ (by ((repeat' (first | exact Below.refl _ _ | assumption | refine Below.setCell ?_ ?_ _ | refine bdrewN ?_ _ | refine Below.drew ?_ | refine Below.alloc ?_ ?_ _ | refine bbehind ?_ (by assumption) ?_)); all_goals first | (simp; done) | (simp; omega) | omega))).mono ?_; rintro e w1 ⟨rfl, hb1⟩; obtain ⟨hc1, hf1⟩ := bcell hb1; have hs1 := hb1.size; (try simp at hs1); (try have hz10 : w.heap.size < w1.heap.size := by omega); (try have hz11 : w.heap.size + 1 < w1.heap.size := by omega); (try have hz12 : w.heap.size + 1 + 1 < w1.heap.size := by omega); (try have hz13 : w.heap.size + 1 + 1 + 1 < w1.heap.size := by omega); (try have hz14 : w.heap.size + 1 + 1 + 1 + 1 < w1.heap.size := by omega); (try have hz15 : w.heap.size + 1 + 1 + 1 + 1 + 1 < w1.heap.size := by omega)
    go_wp2
    refine bodyPost_ret (v := .tuple #[.agg #[.int .i64 0, .int .i64 0], .int .i64 (firstErr l)]) (by simp (maxDischargeDepth := 8) [results, Try.results35, go_sem, *]) rfl ?_
    exact ⟨rfl, by ((repeat' (first | exact Below.refl _ _ | assumption | refine Below.setCell ?_ ?_ _ | refine bdrewN ?_ _ | refine Below.drew ?_ | refine Below.alloc ?_ ?_ _ | refine bbehind ?_ (by assumption) ?_)); all_goals first | (simp; done) | (simp; omega) | omega)⟩
end Go.Proofs.Ytgefidffhdanhaa
