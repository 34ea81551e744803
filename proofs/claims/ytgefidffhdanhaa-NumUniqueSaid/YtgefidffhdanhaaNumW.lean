/- Of. -/
import Derived.Test.YtgefidffhdanhaaNumV
import Derived.Test.YtgefidffhdanhaaNumU
namespace Go.Proofs.Ytgefidffhdanhaa
open Go.RowKit Go.BigFrame

/-- a term behind the first one that is below 1. -/
def low1 (l : List Int) : Bool := (l.drop 1).any (fun t => decide (t < 1))
def last1 (l : List Int) : Bool := decide (1 < l.length ∧ l.getLastD 0 = 1)
def ofT (l : List Int) : Int × Int × Int := if l.length = 0 ∨ 50 < l.length then (0, 0, 4) else if low1 l = true then (0, 0, 3) else if last1 l = true then (0, 0, 1) else stand l
theorem ofT_many {l : List Int} (h : l.length = 0 ∨ 50 < l.length) : ofT l = (0, 0, 4) := if_pos h
theorem ofT_low {l : List Int} (h : ¬ (l.length = 0 ∨ 50 < l.length)) (k : low1 l = true) : ofT l = (0, 0, 3) := by unfold ofT; rw [if_neg h, if_pos k]
theorem ofT_last {l : List Int} (h : ¬ (l.length = 0 ∨ 50 < l.length)) (k : low1 l = false) (j : last1 l = true) : ofT l = (0, 0, 1) := by unfold ofT; rw [if_neg h, if_neg (by rw [k]; simp), if_pos j]
theorem ofT_ok {l : List Int} (h : ¬ (l.length = 0 ∨ 50 < l.length)) (k : low1 l = false) (j : last1 l = false) : ofT l = stand l := by unfold ofT; rw [if_neg h, if_neg (by rw [k]; simp), if_neg (by rw [j]; simp)]
theorem tail_of {t : Int} {r : List Int} (h : low1 (t :: r) = false) : Tail1 r := by
  intro x hx
  have : r.any (fun t => decide (t < 1)) = false := h
  rw [List.any_eq_false] at this
  have := this x hx
  simp at this; omega
theorem stand_two {t : Int} {r : List Int} (h : Tail1 r) : (∃ x y, stand (t :: r) = (x, y, 0)) ∨ stand (t :: r) = (0, 0, 8) := by
  by_cases ht : -1000000000 ≤ t ∧ t ≤ 1000000000
  · by_cases hr : r = []
    · subst hr; exact .inl ⟨_, _, stand_one ht⟩
    · rcases stand_is r hr h with ⟨n, d, hs, _, _⟩ | hs
      · rw [stand_ok ht hr hs]
        unfold lowT; split
        · exact .inl ⟨_, _, rfl⟩
        · exact .inr rfl
      · exact .inr (stand_no ht hr hs)
  · exact .inr (stand_out ht)

set_option maxHeartbeats 1000000 in
theorem ofClo_any (b0 b off cap : Nat) (t : Int) (r : List Int) (w : World) (hT : Tail1 r) (hcap : r.length + 1 ≤ cap) (hb : b < w.heap.size) (hc : CellsAt w b off (t :: r)) (hlen : r.length ≤ 1000)
    (c1 : w.cell? ⟨b0, 0, none⟩ = some (.slice (some ⟨b, off, none⟩) (r.length + 1) cap)) (k0 : b0 < w.heap.size) :
    Calls Try.prog 109 #[.pointer (some ⟨b0, 0, none⟩)] w fun e w' => e = powEnd (stand (t :: r)) ∧ Below w.heap.size w w' := by
  have k2 : b0 ≤ w.heap.size := by omega
  have P := Lib.hid (fun w1 (hw : Below w.heap.size w w1) => stands_any r t b off cap w1 hT hcap (Nat.lt_of_lt_of_le hb hw.size) (cells_below hc hb hw) hlen)
  rcases stand_two (t := t) hT with ⟨x, y, hs⟩ | hs
  · rw [hs, powEnd_ok] at P ⊢
    clear hs hc hT
    go_enter Try.func109, Try.ntmps109
    go_wp2_with fail
    refine (P.out _ (by ((repeat' (first | exact Below.refl _ _ | assumption | refine Below.setCell ?_ ?_ _ | refine bdrewN ?_ _ | refine Below.drew ?_ | refine Below.alloc ?_ ?_ _ | refine bbehind ?_ (by assumption) ?_)); all_goals first | (simp; done) | (simp; omega) | omega))).mono ?_; rintro e w1 ⟨rfl, hb1⟩; obtain ⟨hc1, hf1⟩ := bcell hb1; have hs1 := hb1.size; (try simp at hs1); (try have hz10 : w.heap.size < w1.heap.size := by omega); (try have hz11 : w.heap.size + 1 < w1.heap.size := by omega); (try have hz12 : w.heap.size + 1 + 1 < w1.heap.size := by omega); (try have hz13 : w.heap.size + 1 + 1 + 1 < w1.heap.size := by omega); (try have hz14 : w.heap.size + 1 + 1 + 1 + 1 < w1.heap.size := by omega); (try have hz15 : w.heap.size + 1 + 1 + 1 + 1 + 1 < w1.heap.size := by omega)
    go_wp2
    refine bodyPost_ret (v := .agg #[.int .i64 x, .int .i64 y]) (by simp (maxDischargeDepth := 8) [results, Try.results109, go_sem, *]) rfl ?_
    exact ⟨rfl, by ((repeat' (first | exact Below.refl _ _ | assumption | refine Below.setCell ?_ ?_ _ | refine bdrewN ?_ _ | refine Below.drew ?_ | refine Below.alloc ?_ ?_ _ | refine bbehind ?_ (by assumption) ?_)); all_goals first | (simp; done) | (simp; omega) | omega)⟩
  · rw [hs, powEnd_no] at P ⊢
    clear hs hc hT
    go_enter Try.func109, Try.ntmps109
    go_wp2_with fail
    refine (P.out _ (by ((repeat' (first | exact Below.refl _ _ | assumption | refine Below.setCell ?_ ?_ _ | refine bdrewN ?_ _ | refine Below.drew ?_ | refine Below.alloc ?_ ?_ _ | refine bbehind ?_ (by assumption) ?_)); all_goals first | (simp; done) | (simp; omega) | omega))).mono ?_; rintro e w1 ⟨rfl, hb1⟩; obtain ⟨hc1, hf1⟩ := bcell hb1; have hs1 := hb1.size; (try simp at hs1); (try have hz10 : w.heap.size < w1.heap.size := by omega); (try have hz11 : w.heap.size + 1 < w1.heap.size := by omega); (try have hz12 : w.heap.size + 1 + 1 < w1.heap.size := by omega); (try have hz13 : w.heap.size + 1 + 1 + 1 < w1.heap.size := by omega); (try have hz14 : w.heap.size + 1 + 1 + 1 + 1 < w1.heap.size := by omega); (try have hz15 : w.heap.size + 1 + 1 + 1 + 1 + 1 < w1.heap.size := by omega)
    go_wp2
    exact ⟨rfl, rfl, by ((repeat' (first | exact Below.refl _ _ | assumption | refine Below.setCell ?_ ?_ _ | refine bdrewN ?_ _ | refine Below.drew ?_ | refine Below.alloc ?_ ?_ _ | refine bbehind ?_ (by assumption) ?_)); all_goals first | (simp; done) | (simp; omega) | omega)⟩

theorem bc_of (b0 b off cap : Nat) (t : Int) (r : List Int) (w : World) (hT : Tail1 r) (hcap : r.length + 1 ≤ cap) (hb : b < w.heap.size) (hc : CellsAt w b off (t :: r)) (hlen : r.length ≤ 1000)
    (c1 : w.cell? ⟨b0, 0, none⟩ = some (.slice (some ⟨b, off, none⟩) (r.length + 1) cap)) (k0 : b0 < w.heap.size) :
    Calls Try.prog 70 #[.func (.func 109) #[] #[.pointer (some ⟨b0, 0, none⟩)]] w fun e w' => e = .returned (.tuple #[.agg #[.int .i64 (stand (t :: r)).1, .int .i64 (stand (t :: r)).2.1], .int .i64 (stand (t :: r)).2.2]) ∧ Below w.heap.size w w' := by
  have hf : ∀ w1, Below w.heap.size w w1 → Calls Try.prog 109 #[.pointer (some ⟨b0, 0, none⟩)] w1 fun e w' => e = powEnd (stand (t :: r)) ∧ Below w1.heap.size w1 w' := fun w1 hw => by
    obtain ⟨hcc, _⟩ := bcell hw
    have hz := hw.size
    exact ofClo_any b0 b off cap t r w1 hT hcap (by omega) (cells_below hc hb hw) hlen ((hcc _ _ k0).trans c1) (by omega)
  rcases stand_two (t := t) hT with ⟨x, y, hs⟩ | hs
  · rw [hs] at hf ⊢
    rw [powEnd_ok] at hf
    exact bounded_ret _ _ _ _ w (fun w1 => by kernel_rfl) hf
  · rw [hs] at hf ⊢
    rw [powEnd_no] at hf
    exact bounded_beyond _ _ w (fun w1 => by kernel_rfl) hf

theorem low1_yes {t : Int} {r : List Int} {k : Nat} (hk : k < r.length) (h : r.getD k 0 < 1) : low1 (t :: r) = true := by
  show r.any (fun t => decide (t < 1)) = true
  rw [List.any_eq_true]
  rw [List.getD_eq_getElem?_getD, List.getElem?_eq_getElem hk, Option.getD_some] at h
  exact ⟨r[k], List.getElem_mem hk, decide_eq_true h⟩
theorem low1_no {t : Int} {r : List Int} (h : ∀ k, k < r.length → 1 ≤ r.getD k 0) : low1 (t :: r) = false := by
  show r.any (fun t => decide (t < 1)) = false
  rw [List.any_eq_false]
  intro x hx
  obtain ⟨k, hk, rfl⟩ := List.mem_iff_getElem.1 hx
  have := h k hk
  rw [List.getD_eq_getElem?_getD, List.getElem?_eq_getElem hk, Option.getD_some] at this
  simp; omega
theorem last_at {t : Int} {r : List Int} : (t :: r).getLastD 0 = (t :: r).getD r.length 0 := by
  rw [List.getLastD_eq_getLast?, List.getLast?_eq_getElem?, List.getD_eq_getElem?_getD]; simp

set_option maxRecDepth 100000 in
set_option maxHeartbeats 2000000 in
theorem of_one (t : Int) (b off cap : Nat) (w : World) (hcap : 1 ≤ cap) (hb : b < w.heap.size) (hc : CellsAt w b off [t]) :
    Calls Try.prog 53 #[.slice (some ⟨b, off, none⟩) 1 cap] w fun e w' => e = .returned (.tuple #[.agg #[.int .i64 (stand [t]).1, .int .i64 (stand [t]).2.1], .int .i64 (stand [t]).2.2]) ∧ Below w.heap.size w w' := by
  have hmf : ∀ (fn : Fn) (first cap : Array Value) (w : World), (Instr.makeFunc fn first cap).run Try.prog w = .ok (.func fn first cap) w := fun _ _ _ _ => rfl
  have D := Lib.hid (fun b0 w1 (hw : Below w.heap.size w w1) => bc_of b0 b off cap t [] w1 (fun _ h => by simp at h) (by simpa using hcap) (Nat.lt_of_lt_of_le hb hw.size) (cells_below hc hb hw) (by simp))
  generalize stand [t] = R at *
  simp only [List.length_nil, Nat.zero_add] at D
  clear hc
  by_cases h1 : cap = 1
  · subst h1
    go_enter Try.func53, Try.ntmps53
    go_wp2_with fail
    go_loop [18] (fun i => i = .int .i64 0) (fun _ => 0)
    case atStart => rfl
    case round =>
      obtain rfl := hrel
      go_wp2_with fail
      refine (D.out _ _ (by ((repeat' (first | exact Below.refl _ _ | assumption | refine Below.setCell ?_ ?_ _ | refine bdrewN ?_ _ | refine Below.drew ?_ | refine Below.alloc ?_ ?_ _ | refine bbehind ?_ (by assumption) ?_)); all_goals first | (simp; done) | (simp; omega) | omega)) (by simp (maxDischargeDepth := 8) [go_sem, *]) (by first | assumption | (simp; done) | (simp; omega) | omega)).mono ?_; rintro e w1 ⟨rfl, hb1⟩; obtain ⟨hc1, hf1⟩ := bcell hb1; have hs1 := hb1.size; (try simp at hs1); (try have hz10 : w.heap.size < w1.heap.size := by omega); (try have hz11 : w.heap.size + 1 < w1.heap.size := by omega); (try have hz12 : w.heap.size + 1 + 1 < w1.heap.size := by omega); (try have hz13 : w.heap.size + 1 + 1 + 1 < w1.heap.size := by omega); (try have hz14 : w.heap.size + 1 + 1 + 1 + 1 < w1.heap.size := by omega); (try have hz15 : w.heap.size + 1 + 1 + 1 + 1 + 1 < w1.heap.size := by omega)
      go_wp2
      refine bodyPost_ret (v := .tuple #[.agg #[.int .i64 (R).1, .int .i64 (R).2.1], .int .i64 (R).2.2]) (by simp (maxDischargeDepth := 8) [results, Try.results53, go_sem, *]) rfl ?_
      exact ⟨rfl, by ((repeat' (first | exact Below.refl _ _ | assumption | refine Below.setCell ?_ ?_ _ | refine bdrewN ?_ _ | refine Below.drew ?_ | refine Below.alloc ?_ ?_ _ | refine bbehind ?_ (by assumption) ?_)); all_goals first | (simp; done) | (simp; omega) | omega)⟩
  · go_enter Try.func53, Try.ntmps53
    go_wp2_with fail
    go_loop [18] (fun i => i = .int .i64 0) (fun _ => 0)
    case atStart => rfl
    case round =>
      obtain rfl := hrel
      go_wp2_with fail
      refine (D.out _ _ (by ((repeat' (first | exact Below.refl _ _ | assumption | refine Below.setCell ?_ ?_ _ | refine bdrewN ?_ _ | refine Below.drew ?_ | refine Below.alloc ?_ ?_ _ | refine bbehind ?_ (by assumption) ?_)); all_goals first | (simp; done) | (simp; omega) | omega)) (by simp (maxDischargeDepth := 8) [go_sem, *]) (by first | assumption | (simp; done) | (simp; omega) | omega)).mono ?_; rintro e w1 ⟨rfl, hb1⟩; obtain ⟨hc1, hf1⟩ := bcell hb1; have hs1 := hb1.size; (try simp at hs1); (try have hz10 : w.heap.size < w1.heap.size := by omega); (try have hz11 : w.heap.size + 1 < w1.heap.size := by omega); (try have hz12 : w.heap.size + 1 + 1 < w1.heap.size := by omega); (try have hz13 : w.heap.size + 1 + 1 + 1 < w1.heap.size := by omega); (try have hz14 : w.heap.size + 1 + 1 + 1 + 1 < w1.heap.size := by omega); (try have hz15 : w.heap.size + 1 + 1 + 1 + 1 + 1 < w1.heap.size := by omega)
      go_wp2
      refine bodyPost_ret (v := .tuple #[.agg #[.int .i64 (R).1, .int .i64 (R).2.1], .int .i64 (R).2.2]) (by simp (maxDischargeDepth := 8) [results, Try.results53, go_sem, *]) rfl ?_
      exact ⟨rfl, by ((repeat' (first | exact Below.refl _ _ | assumption | refine Below.setCell ?_ ?_ _ | refine bdrewN ?_ _ | refine Below.drew ?_ | refine Below.alloc ?_ ?_ _ | refine bbehind ?_ (by assumption) ?_)); all_goals first | (simp; done) | (simp; omega) | omega)⟩

set_option maxRecDepth 100000 in
set_option maxHeartbeats 2000000 in
theorem of_more (t s : Int) (r : List Int) (b off cap : Nat) (w : World) (hcap : r.length + 1 + 1 ≤ cap) (hb : b < w.heap.size) (hc : CellsAt w b off (t :: s :: r)) (hlen : r.length + 1 + 1 ≤ 50) :
    Calls Try.prog 53 #[.slice (some ⟨b, off, none⟩) (r.length + 1 + 1) cap] w fun e w' => e = .returned (.tuple #[.agg #[.int .i64 (ofT (t :: s :: r)).1, .int .i64 (ofT (t :: s :: r)).2.1], .int .i64 (ofT (t :: s :: r)).2.2]) ∧ Below w.heap.size w w' := by
  have hmf : ∀ (fn : Fn) (first cap : Array Value) (w : World), (Instr.makeFunc fn first cap).run Try.prog w = .ok (.func fn first cap) w := fun _ _ _ _ => rfl
  have hcap3 : ¬ cap = 1 := by omega
  have hct := Lib.hid (cells_tail hc)
  have hlast := Lib.hid (hc (r.length + 1) (by simp))
  have HN : Hid (¬ ((t :: s :: r).length = 0 ∨ 50 < (t :: s :: r).length)) := Lib.hid (by simp; omega)
  have HLA := Lib.hid (last_at (t := t) (r := s :: r))
  have HCC := Lib.hid hc
  clear hc
  have D := Lib.hid (fun (hT : Tail1 (s :: r)) b0 w1 (hw : Below w.heap.size w w1) => bc_of b0 b off cap t (s :: r) w1 hT (by simpa using hcap) (Nat.lt_of_lt_of_le hb hw.size) (cells_below HCC.out hb hw) (by simp; omega))
  simp only [List.length_cons] at D
  have k1 : (((r.length : Int) + 1 + 1) == 0) = false := beq_eq_false_iff_ne.2 (by omega)
  have k2 : ¬ (50 : Int) < (r.length : Int) + 1 + 1 := by omega
  have k3 : (1 : Int) ≤ (r.length : Int) + 1 + 1 := by omega
  have k4 : (1 : Int) < (r.length : Int) + 1 + 1 := by omega
  go_enter Try.func53, Try.ntmps53
  go_wp2_with fail
  go_loop [5, 18] (fun _ i => ∃ k : Nat, i = .int .i64 k ∧ k ≤ r.length + 1 ∧ ∀ j, j < k → 1 ≤ (s :: r).getD j 0) (fun _ i => r.length + 1 - (intOf i).toNat)
  case atStart => exact ⟨0, rfl, Nat.zero_le _, fun j h => by omega⟩
  case round =>
    obtain ⟨k, rfl, hk, ha⟩ := hrel
    have HA := Lib.hid ha; clear ha
    by_cases hlt : k < r.length + 1
    · have d1 := hct.out k (by simpa using hlt)
      have HY := Lib.hid (fun h => low1_yes (t := t) (r := s :: r) (k := k) (by simpa using hlt) h)
      have HS := Lib.hid (fun (h : 1 ≤ (s :: r).getD k 0) j (hj : j < k + 1) => show 1 ≤ (s :: r).getD j 0 by
        by_cases e : j = k
        · subst e; exact h
        · exact HA.out j (by omega))
      generalize (s :: r).getD k 0 = x at *
      by_cases hx : x < 1
      · have HO := Lib.hid (ofT_low HN.out (HY.out hx))
        go_wp2
        rw [HO.out]
        refine bodyPost_ret (v := .tuple #[.agg #[.int .i64 0, .int .i64 0], .int .i64 3]) (by simp (maxDischargeDepth := 8) [results, Try.results53, go_sem, *]) rfl ?_
        exact ⟨rfl, by ((repeat' (first | exact Below.refl _ _ | assumption | refine Below.setCell ?_ ?_ _ | refine bdrewN ?_ _ | refine Below.drew ?_ | refine Below.alloc ?_ ?_ _ | refine bbehind ?_ (by assumption) ?_)); all_goals first | (simp; done) | (simp; omega) | omega)⟩
      · have hx' : 1 ≤ x := by omega
        go_wp2
        go_round
        case rel => exact ⟨k + 1, by go_num, by omega, HS.out hx'⟩
        case measure => simp [intOf]; omega
    · have hke : k = r.length + 1 := by omega
      subst hke
      have HL := Lib.hid (low1_no (t := t) (r := s :: r) (fun j hj => HA.out j (by simpa using hj)))
      have hl0 := hlast.out
      have HLA2 : Hid ((t :: s :: r).getLastD 0 = (t :: s :: r).getD (r.length + 1) 0) := HLA
      have q1 : (((r.length : Int) + 1 + 1) - 1) = (r.length : Int) + 1 := by omega
      generalize (t :: s :: r).getD (r.length + 1) 0 = z at *
      by_cases hz : z = 1
      · have HO := Lib.hid (ofT_last HN.out HL.out (decide_eq_true ⟨by simp, HLA2.out.trans hz⟩))
        have hz' : (z == 1) = true := by simpa using hz
        clear hz
        go_wp2
        rw [HO.out]
        refine bodyPost_ret (v := .tuple #[.agg #[.int .i64 0, .int .i64 0], .int .i64 1]) (by simp (maxDischargeDepth := 8) [results, Try.results53, go_sem, *]) rfl ?_
        exact ⟨rfl, by ((repeat' (first | exact Below.refl _ _ | assumption | refine Below.setCell ?_ ?_ _ | refine bdrewN ?_ _ | refine Below.drew ?_ | refine Below.alloc ?_ ?_ _ | refine bbehind ?_ (by assumption) ?_)); all_goals first | (simp; done) | (simp; omega) | omega)⟩
      · have HO := Lib.hid (ofT_ok HN.out HL.out (decide_eq_false (fun h => hz (HLA2.out.symm.trans h.2))))
        have D2 := Lib.hid (D.out (tail_of HL.out))
        have hz' : (z == 1) = false := by simpa using hz
        clear hz
        generalize stand (t :: s :: r) = R at *
        go_wp2_with fail
        refine (D2.out _ _ (by ((repeat' (first | exact Below.refl _ _ | assumption | refine Below.setCell ?_ ?_ _ | refine bdrewN ?_ _ | refine Below.drew ?_ | refine Below.alloc ?_ ?_ _ | refine bbehind ?_ (by assumption) ?_)); all_goals first | (simp; done) | (simp; omega) | omega)) (by simp (maxDischargeDepth := 8) [go_sem, *]) (by first | assumption | (simp; done) | (simp; omega) | omega)).mono ?_; rintro e w1 ⟨rfl, hb1⟩; obtain ⟨hc1, hf1⟩ := bcell hb1; have hs1 := hb1.size; (try simp at hs1); (try have hz10 : w.heap.size < w1.heap.size := by omega); (try have hz11 : w.heap.size + 1 < w1.heap.size := by omega); (try have hz12 : w.heap.size + 1 + 1 < w1.heap.size := by omega); (try have hz13 : w.heap.size + 1 + 1 + 1 < w1.heap.size := by omega); (try have hz14 : w.heap.size + 1 + 1 + 1 + 1 < w1.heap.size := by omega); (try have hz15 : w.heap.size + 1 + 1 + 1 + 1 + 1 < w1.heap.size := by omega)
        go_wp2
        rw [HO.out]
        refine bodyPost_ret (v := .tuple #[.agg #[.int .i64 (R).1, .int .i64 (R).2.1], .int .i64 (R).2.2]) (by simp (maxDischargeDepth := 8) [results, Try.results53, go_sem, *]) rfl ?_
        exact ⟨rfl, by ((repeat' (first | exact Below.refl _ _ | assumption | refine Below.setCell ?_ ?_ _ | refine bdrewN ?_ _ | refine Below.drew ?_ | refine Below.alloc ?_ ?_ _ | refine bbehind ?_ (by assumption) ?_)); all_goals first | (simp; done) | (simp; omega) | omega)⟩

theorem of_any (v : Value) (l : List Int) (w : World) (h : IntsLie w v l) (hl : l.length ≤ 1000000) :
    Calls Try.prog 53 #[v] w fun e w' => e = .returned (.tuple #[.agg #[.int .i64 (ofT l).1, .int .i64 (ofT l).2.1], .int .i64 (ofT l).2.2]) ∧ Below w.heap.size w w' := by
  by_cases h0 : l.length = 0 ∨ 50 < l.length
  · obtain ⟨a, cap, rfl⟩ := ints_form h
    rw [ofT_many h0]
    rcases h0 with h0 | h0
    · rw [h0]
      clear h hl h0
      go_enter Try.func53, Try.ntmps53
      go_wp2
      refine bodyPost_ret (v := .tuple #[.agg #[.int .i64 0, .int .i64 0], .int .i64 4]) (by simp (maxDischargeDepth := 8) [results, Try.results53, go_sem, *]) rfl ?_
      exact ⟨rfl, by ((repeat' (first | exact Below.refl _ _ | assumption | refine Below.setCell ?_ ?_ _ | refine bdrewN ?_ _ | refine Below.drew ?_ | refine Below.alloc ?_ ?_ _ | refine bbehind ?_ (by assumption) ?_)); all_goals first | (simp; done) | (simp; omega) | omega)⟩
    · have k1 : (((l.length : Int)) == 0) = false := beq_eq_false_iff_ne.2 (by omega)
      have k3 : ¬ l = [] := by rintro rfl; simp at h0
      have k2 : (50 : Int) < (l.length : Int) := by omega
      clear h
      go_enter Try.func53, Try.ntmps53
      go_wp2
      refine bodyPost_ret (v := .tuple #[.agg #[.int .i64 0, .int .i64 0], .int .i64 4]) (by simp (maxDischargeDepth := 8) [results, Try.results53, go_sem, *]) rfl ?_
      exact ⟨rfl, by ((repeat' (first | exact Below.refl _ _ | assumption | refine Below.setCell ?_ ?_ _ | refine bdrewN ?_ _ | refine Below.drew ?_ | refine Below.alloc ?_ ?_ _ | refine bbehind ?_ (by assumption) ?_)); all_goals first | (simp; done) | (simp; omega) | omega)⟩
  · obtain ⟨b, off, cap, rfl, hcap, hb, hc⟩ := ints_cells h (by rintro rfl; simp at h0)
    match l, h0, hcap, hc with
    | [], h0, _, _ => simp at h0
    | [t], h0, hcap, hc =>
      have e : ofT [t] = stand [t] := ofT_ok h0 rfl (decide_eq_false (fun h => by simp at h))
      rw [e]
      exact of_one t b off cap w hcap hb hc
    | t :: s :: r, h0, hcap, hc => exact of_more t s r b off cap w (by simpa using hcap) hb hc (by simp at h0; omega)
end Go.Proofs.Ytgefidffhdanhaa
