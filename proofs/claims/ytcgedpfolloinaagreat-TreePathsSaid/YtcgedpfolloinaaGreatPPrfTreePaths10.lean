/- What the proof of PrfTreePaths rests on, part 10 of 10. -/
import Derived.Deep.Slices
import Derived.Deep.SlicePairs
import Derived.ChangeArms
import Derived.SizedLaws
import Derived.Test.YtcgedpfolloinaaGreatPPrfTreePaths9
namespace Go.Proofs.YtcgedpfolloinaaGreat
open Go.RowKit

theorem cmpL_refl : ∀ (l : List Int), cmpL l l = 0
  | [] => rfl
  | a :: l => by simp [cmpL, cmpM, cmpL_refl l]
theorem cmpL_app (a b : List Int) : ∀ (p : List Int), cmpL (p ++ a) (p ++ b) = cmpL a b
  | [] => rfl
  | x :: p => by simp [cmpL, cmpM, cmpL_app a b p]
theorem cmpL_swap : ∀ {l m : List Int}, cmpL l m = -1 → cmpL m l = 1
  | [], [], h => by simp [cmpL] at h
  | [], _ :: _, _ => rfl
  | _ :: _, [], h => by simp [cmpL] at h
  | a :: l, b :: m, h => by
    have ih := @cmpL_swap l m
    simp only [cmpL, cmpM] at h ⊢
    by_cases h1 : a < b
    · have : ¬ b < a := by omega
      simp [h1, this]
    · by_cases h2 : b < a
      · simp [h1, h2] at h
      · simp [h1, h2] at h ⊢
        exact ih h
theorem ints_app (p q : List Nat) : pathInts (p ++ q) = pathInts p ++ pathInts q := by simp
theorem seq_place : ∀ {f : Fo} {pre : List Nat} {i : Nat} {x : Vis}, x ∈ seqAt pre i f → ∃ j t, x.p = pre ++ (i + j) :: t ∧ placeF f (pathInts (j :: t)) = some (x.h, x.ks)
  | .nil, _, _, _, h => by cases h
  | .cons h0 k0 r0, pre, i, x, h => by
    simp only [seqAt, List.mem_cons, List.mem_append] at h
    rcases h with rfl | h | h
    · exact ⟨0, [], rfl, rfl⟩
    · obtain ⟨j, t, e, hp⟩ := seq_place h
      refine ⟨0, j :: t, by rw [e]; simp, ?_⟩
      have : placeF (.cons h0 k0 r0) (pathInts (0 :: j :: t)) = placeF k0 (pathInts (j :: t)) := by
        simp [placeF, Fo.drop]
      rw [this, hp]
    · obtain ⟨j, t, e, hp⟩ := seq_place h
      refine ⟨j + 1, t, by rw [e]; simp; omega, ?_⟩
      rw [← hp]
      have a1 : ¬ ((j : Int) + 1 < 0) := by omega
      have a2 : ¬ ((j : Int) < 0) := by omega
      have a3 : ((j : Int) + 1).toNat = j + 1 := by omega
      simp only [List.map_cons, placeF, a1, a2, if_false, Int.toNat_natCast, a3, Fo.drop, Int.natCast_add, Int.natCast_one]
theorem asc_step (pre : List Nat) {i j : Nat} (s t : List Nat) (h : i < j) : cmpL (pathInts (pre ++ i :: s)) (pathInts (pre ++ j :: t)) = -1 := by
  rw [ints_app, ints_app, cmpL_app]
  have : (i : Int) < j := by omega
  simp [cmpL, cmpM, this]
abbrev Asc (x y : Vis) : Prop := cmpL (pathInts x.p) (pathInts y.p) = -1
theorem seq_asc : ∀ (f : Fo) (pre : List Nat) (i : Nat), (seqAt pre i f).Pairwise Asc
  | .nil, _, _ => List.Pairwise.nil
  | .cons h0 k0 r0, pre, i => by
    simp only [seqAt]
    refine List.pairwise_cons.2 ⟨?_, List.pairwise_append.2 ⟨seq_asc k0 _ _, seq_asc r0 _ _, ?_⟩⟩
    · intro y hy
      rcases List.mem_append.1 hy with hy | hy
      · obtain ⟨j, t, e, -⟩ := seq_place hy
        unfold Asc
        rw [e, ints_app (pre ++ [i]), show pathInts (pre ++ [i]) = pathInts (pre ++ [i]) ++ [] by simp]
        simp only [List.append_nil]
        have := cmpL_app [] (pathInts ((0 + j) :: t)) (pathInts (pre ++ [i]))
        rw [List.append_nil] at this
        rw [this]; rfl
      · obtain ⟨j, t, e, -⟩ := seq_place hy
        unfold Asc
        rw [e]; exact asc_step pre [] t (by omega)
    · intro x hx y hy
      obtain ⟨j, t, e, -⟩ := seq_place hx
      obtain ⟨j', t', e', -⟩ := seq_place hy
      unfold Asc
      rw [e, e', List.append_assoc]
      exact asc_step pre _ t' (by omega)
theorem find_behind {β : Type} {R : β → Bool} : ∀ {xs : List β} {k : Nat} (_ : ∀ j, j ≤ k → ∀ y, xs[j]? = some y → R y = false) (_ : ∀ y, xs[k + 1]? = some y → R y = true), xs.find? R = xs[k + 1]?
  | [], k, _, _ => by simp
  | [a], k, h1, h2 => by
    have : R a = false := h1 0 (by omega) a rfl
    simp [List.find?, this]
  | a :: b :: xs, 0, h1, h2 => by
    have : R a = false := h1 0 (by omega) a rfl
    have h3 : R b = true := h2 b rfl
    simp [List.find?, this, h3]
  | a :: b :: xs, k + 1, h1, h2 => by
    have : R a = false := h1 0 (by omega) a rfl
    have ih := @find_behind β R (b :: xs) k (fun j hj y hy => h1 (j + 1) (by omega) y (by simpa using hy)) (fun y hy => h2 y (by simpa using hy))
    rw [List.find?_cons_of_neg (by simp [this]), ih]; simp
theorem asc_at {vs : List Vis} (h : vs.Pairwise Asc) {j k : Nat} {x y : Vis} (hjk : j < k) (hx : vs[j]? = some x) (hy : vs[k]? = some y) : Asc x y := by
  obtain ⟨h1, rfl⟩ := List.getElem?_eq_some_iff.1 hx
  obtain ⟨h2, rfl⟩ := List.getElem?_eq_some_iff.1 hy
  exact List.pairwise_iff_getElem.1 h j k h1 h2 hjk
theorem nextV_at {vs : List Vis} (h : vs.Pairwise Asc) {k : Nat} {x : Vis} (hx : vs[k]? = some x) : nextV vs (pathInts x.p) = (vs[k + 1]?).map (fun y => pathInts y.p) := by
  unfold nextV
  congr 1
  refine find_behind ?_ ?_
  · intro j hj y hy
    rcases Nat.lt_or_eq_of_le hj with hj | rfl
    · have := asc_at h hj hy hx
      unfold Asc at this
      simp [this]
    · rw [hx] at hy
      obtain rfl := Option.some.inj hy
      simp [cmpL_refl]
  · intro y hy
    have := cmpL_swap (asc_at h (Nat.lt_succ_self k) hx hy)
    simp [this]
theorem nextV_nil {vs : List Vis} (h : ∀ x ∈ vs, x.p ≠ []) : nextV vs [] = vs.head?.map (fun y => pathInts y.p) := by
  cases vs with
  | nil => rfl
  | cons x vs =>
    have hx := h x (List.mem_cons_self ..)
    unfold nextV
    cases hp : x.p with
    | nil => exact absurd hp hx
    | cons a p => simp [List.find?, hp, cmpL]
theorem asc_inj {vs : List Vis} (h : vs.Pairwise Asc) {x y : Vis} (hx : x ∈ vs) (hy : y ∈ vs) (e : pathInts x.p = pathInts y.p) : x = y := by
  obtain ⟨j, hj, rfl⟩ := List.getElem_of_mem hx
  obtain ⟨k, hk, rfl⟩ := List.getElem_of_mem hy
  have hc := cmpL_refl (pathInts vs[k].p)
  rcases Nat.lt_trichotomy j k with h1 | rfl | h1
  · have := List.pairwise_iff_getElem.1 h j k hj hk h1
    unfold Asc at this; rw [e, hc] at this; cases this
  · rfl
  · have := List.pairwise_iff_getElem.1 h k j hk hj h1
    unfold Asc at this; rw [e, hc] at this; cases this
/-- a tree is found where its label is asked for, and only there. -/
theorem found_iff {vs : List Vis} (h : vs.Pairwise Asc) {x : Vis} (hx : x ∈ vs) (sel : Vis → Bool) : ((selP sel vs).any (fun m => decide (pathInts m = pathInts x.p))) = sel x := by
  unfold selP
  rw [List.any_map, List.any_filter, Bool.eq_iff_iff, List.any_eq_true]
  constructor
  · rintro ⟨y, hy, hs⟩
    simp only [Function.comp_apply, Bool.and_eq_true, decide_eq_true_eq] at hs
    rw [← asc_inj h hy hx hs.2]; exact hs.1
  · intro hs
    exact ⟨x, hx, by simp [hs]⟩
/-! what the law asks of them -/
theorem heads_vis : ∀ {f : Fo} {pre : List Nat} {i : Nat} {x : Vis}, headsErr f = 0 → x ∈ seqAt pre i f → headErr x.h = 0
  | .nil, _, _, _, _, h => by cases h
  | .cons h0 k0 r0, pre, i, x, he, h => by
    simp only [seqAt, List.mem_cons, List.mem_append] at h
    unfold headsErr at he
    by_cases h1 : headErr h0 = 0
    · rw [if_neg (by simpa using h1)] at he
      by_cases h2 : h0.k ≠ 0 ∧ k0.len ≠ 0
      · rw [if_pos h2] at he; cases he
      · rw [if_neg h2] at he
        by_cases h3 : headsErr k0 = 0
        · rw [if_neg (by simpa using h3)] at he
          rcases h with rfl | h | h
          · exact h1
          · exact heads_vis h3 h
          · exact heads_vis he h
        · rw [if_pos h3] at he; exact absurd he h3
    · rw [if_pos h1] at he; exact absurd he h1
theorem heads_ok {f : Fo} (h : foErr f = 0) : headsErr f = 0 := by
  unfold foErr at h
  split at h
  · cases h
  · split at h
    · cases h
    · exact h
theorem fit_ok {f : Fo} (h : fitB f = true) : foErr f = 0 := by
  unfold fitB at h
  simp only [Bool.and_eq_true, decide_eq_true_eq] at h
  exact h.2
theorem paths_val {f : Fo} (h : foErr f = 0) : pathsV f = ((seqAt [] 0 f).map (·.p), 0) := by
  unfold pathsV selP; rw [if_pos h, List.filter_eq_self.2 (fun _ _ => rfl)]
theorem find_val {f : Fo} {l : List UInt8} (h : foErr f = 0) (hn : namedB l = true) : findV f l = (selP (fun x => x.h.l == l) (seqAt [] 0 f), 0) := by
  unfold findV; rw [if_pos h, if_pos hn]
theorem find_bad {f : Fo} {l : List UInt8} (h : foErr f = 0) (hn : namedB l = false) : findV f l = ([], 2) := by
  unfold findV; rw [if_pos h, if_neg (by simp [hn])]
theorem size_val {f : Fo} (h : foErr f = 0) : sizeT f = ((f.size : Int), 0) := by unfold sizeT; rw [if_pos h]
theorem sel_len (sel : Vis → Bool) (f : Fo) : (selP sel (seqAt [] 0 f)).length ≤ f.size := by
  unfold selP
  rw [List.length_map, ← seqAt_len f [] 0]
  exact List.length_filter_le _ _
theorem next_first {f : Fo} (h : foErr f = 0) {x : Vis} (hx : (seqAt [] 0 f)[0]? = some x) : nextF f [] = (pathInts x.p, true, 0) := by
  have e : nextV (seqAt [] 0 f) [] = some (pathInts x.p) := by
    rw [nextV_nil (fun x hx => path_ne hx), List.head?_eq_getElem?, hx]; rfl
  unfold nextF
  rw [if_neg (by simpa using h), if_neg (by simp), e]
theorem next_none {f : Fo} (h : foErr f = 0) (h0 : f.size = 0) : nextF f [] = ([], false, 0) := by
  have e0 : seqAt [] 0 f = [] := List.eq_nil_of_length_eq_zero (by rw [seqAt_len]; exact h0)
  unfold nextF
  rw [if_neg (by simpa using h), if_neg (by simp), e0]; rfl
theorem place_at {f : Fo} {x : Vis} (hx : x ∈ seqAt [] 0 f) : placeF f (pathInts x.p) = some (x.h, x.ks) := by
  obtain ⟨j, t, e, hp⟩ := seq_place hx
  rw [e]
  simpa using hp
theorem at_val {f : Fo} (h : foErr f = 0) {x : Vis} (hx : x ∈ seqAt [] 0 f) : atErr f (pathInts x.p) = 0 := by
  have h1 := place_at hx
  have h2 : pathInts x.p ≠ [] := by simpa using path_ne hx
  unfold atErr placeErr
  rw [if_neg h2, h1, h]; rfl
theorem next_at {f : Fo} (h : foErr f = 0) {k : Nat} {x : Vis} (hx : (seqAt [] 0 f)[k]? = some x) :
    nextF f (pathInts x.p) = match (seqAt [] 0 f)[k + 1]? with | none => ([], false, 0) | some y => (pathInts y.p, true, 0) := by
  have hm : x ∈ seqAt [] 0 f := List.mem_of_getElem? hx
  unfold nextF
  rw [if_neg (by simpa using h), if_neg (by rw [place_at hm]; simp), nextV_at (seq_asc f [] 0) hx]
  cases (seqAt [] 0 f)[k + 1]? <;> rfl
theorem kind_label {f : Fo} (h : foErr f = 0) {x : Vis} (hx : x ∈ seqAt [] 0 f) {l : List UInt8} (hn : namedB l = true) (e : x.h.l = l) : x.h.k = 0 := by
  rcases head_kinds (heads_vis (heads_ok h) hx) with h1 | h1 | h1
  · exact h1.1
  · rw [← e, h1.2.2.1] at hn; exact absurd hn (by decide)
  · rw [← e, h1.2.2.2.1] at hn; exact absurd hn (by decide)
end Go.Proofs.YtcgedpfolloinaaGreat

namespace Go.Proofs.YtcgedpfolloinaaGreat
open Go.RowKit

theorem PathsF.below {B : Nat} {W W' : World} {v : Value} {ps : List (List Nat)} (h : PathsF B W v ps) (k : Below W.heap.size W W') : PathsF B W' v ps := h.keeps (Keeps.of_below k)
/-- the k-th path of a row of paths. -/
theorem PathsF.at {B : Nat} {W : World} {a : Option Addr} {c : Nat} {ps : List (List Nat)} (h : PathsF B W (.slice a ps.length c) ps) (h0 : 0 < ps.length) : ∃ b, a = some ⟨b, 0, none⟩ ∧ ps.length ≤ c ∧ b < W.heap.size ∧
    ∀ k, k < ps.length → ∃ a' c', W.cell? ⟨b, k, none⟩ = some (.slice a' (ps.getD k []).length c') ∧ IntsLie W (.slice a' (ps.getD k []).length c') (pathInts (ps.getD k [])) := by
  obtain ⟨a1, c1, e, i⟩ := h
  obtain ⟨rfl, -, rfl⟩ := by simpa using e
  rcases i with i | ⟨b, e1, e2, e3, e4, e5⟩
  · rw [i] at h0; exact absurd h0 (by simp)
  · refine ⟨b, e1, e2, e4, fun k hk => ?_⟩
    obtain ⟨c', h1, a2, c2, rfl, h2⟩ := e5 k hk
    exact ⟨a2, c2, h1, intsF_lies h2⟩

theorem intsF_below {B : Nat} {W W' : World} {v : Value} {l : List Int} (h : IntsF B W v l) (k : Below W.heap.size W W') : IntsF B W' v l := intsF_keeps h (Keeps.of_below k)

theorem PathsF.get {B : Nat} {W : World} {b : Nat} {c : Nat} {ps : List (List Nat)} (h : PathsF B W (.slice (some ⟨b, 0, none⟩) ps.length c) ps) (h0 : 0 < ps.length) : b < W.heap.size ∧
    ∀ k p, k < ps.length → ps.getD k [] = p → ∃ a' c', W.cell? ⟨b, k, none⟩ = some (.slice a' p.length c') ∧ IntsLie W (.slice a' p.length c') (pathInts p) := by
  obtain ⟨b', e, -, h2, h3⟩ := h.at h0
  obtain rfl : b = b' := by simpa using e
  refine ⟨h2, fun k p hk e => ?_⟩
  subst e
  exact h3 k hk
theorem sel_path (sel : Vis → Bool) (f : Fo) : ∀ j, j < (selP sel (seqAt [] 0 f)).length → ((selP sel (seqAt [] 0 f)).getD j []).length ≤ f.size := by
  intro j hj
  have hm : (selP sel (seqAt [] 0 f))[j] ∈ selP sel (seqAt [] 0 f) := List.getElem_mem hj
  rw [List.getD_eq_getElem?_getD, List.getElem?_eq_getElem hj, Option.getD_some]
  unfold selP at hm
  obtain ⟨x, hx, e⟩ := List.mem_map.1 hm
  have := path_len (List.mem_filter.1 hx).1
  have e' : x.p = (selP sel (seqAt [] 0 f))[j] := e
  rw [e'] at this
  simpa using this
theorem any_take_succ {α : Type} (R : List α → Bool) {M : List (List α)} {j : Nat} (h : j < M.length) : (M.take (j + 1)).any R = ((M.take j).any R || R (M.getD j [])) := by
  rw [List.take_succ_eq_append_getElem h, List.any_append]
  simp [List.getD_eq_getElem?_getD, List.getElem?_eq_getElem h]
theorem alike_same (v u : Value) (l : List Int) (w w1 : World) (hb : Below w.heap.size w w1) (h : IntsLie w v l ∧ IntsLie w u l ∧ l.length ≤ 1000000) : Calls Tryz.prog 43 #[v, u] w1 fun e w' => e = .returned (.bool true) ∧ Below w1.heap.size w1 w' := by
  have := alike_any v u l l w1 (ints_below h.1 hb) (ints_below h.2.1 hb) h.2.2 h.2.2
  simpa [alikeB] using this
theorem before_asc (v u : Value) (l m : List Int) (w w1 : World) (hb : Below w.heap.size w w1) (h1 : IntsLie w v l) (h2 : IntsLie w u m) (hl : l.length ≤ 1000000) (hm : m.length ≤ 1000000) (h : cmpL l m = -1) : Calls Tryz.prog 64 #[v, u] w1 fun e w' => e = .returned (.bool true) ∧ Below w1.heap.size w1 w' := by
  have := before_any l m v u w1 (ints_below h1 hb) (ints_below h2 hb) hl hm
  simpa [h] using this

set_option maxRecDepth 100000 in
set_option maxHeartbeats 2000000 in
theorem paths_unfit (f : Fo) (v : Value) (a : Int) (l : List UInt8) (w : World) (hl : Lies w v f) (hf : fitB f = false) :
    Calls Tryz.prog 10 #[v, .int .u16 a, .string ⟨l.toArray⟩] w fun e w' => e = .returned (.bool true) ∧ Below w.heap.size w w' := by
  have GR := Lib.hid (fun w => grown_any w)
  have FF := Lib.hid (fit_any f v w hl)
  obtain ⟨av, cv, rfl⟩ := lies_form hl
  rw [hf] at FF
  have BX0 := Below.refl w.heap.size w
  clear hl hf
  go_enter Tryz.func10, Tryz.ntmps10
  go_wp2_with fail
  refine (FF.out).mono ?_
  rintro e X1 ⟨rfl, hb1⟩
  have BX1 : Below w.heap.size w X1 := BX0.trans (hb1.mono BX0.size)
  go_wp2_with fail
  refine (GR.out _).mono ?_
  rintro e X2 ⟨rfl, hb2⟩
  have BX2 : Below w.heap.size w X2 := BX1.trans (hb2.mono BX1.size)
  go_wp2_with fail
  go_ret
  exact ⟨rfl, BX2⟩

set_option maxRecDepth 100000 in
set_option maxHeartbeats 2000000 in
theorem paths_long (f : Fo) (v : Value) (a : Int) (l : List UInt8) (w : World) (hl : Lies w v f) (hf : fitB f = true) (h60 : 60 < l.length) :
    Calls Tryz.prog 10 #[v, .int .u16 a, .string ⟨l.toArray⟩] w fun e w' => e = .returned (.bool true) ∧ Below w.heap.size w w' := by
  have GR := Lib.hid (fun w => grown_any w)
  have FF := Lib.hid (fit_any f v w hl)
  obtain ⟨av, cv, rfl⟩ := lies_form hl
  rw [hf] at FF
  have BX0 := Below.refl w.heap.size w
  have d60 : decide ((60 : Int) < (l.length : Int)) = true := by simp; omega
  clear hl hf
  go_enter Tryz.func10, Tryz.ntmps10
  go_wp2_with fail
  refine (FF.out).mono ?_
  rintro e X1 ⟨rfl, hb1⟩
  have BX1 : Below w.heap.size w X1 := BX0.trans (hb1.mono BX0.size)
  go_wp2_with fail
  refine (GR.out _).mono ?_
  rintro e X2 ⟨rfl, hb2⟩
  have BX2 : Below w.heap.size w X2 := BX1.trans (hb2.mono BX1.size)
  go_wp2_with fail
  go_ret
  exact ⟨rfl, BX2⟩

set_option maxRecDepth 100000 in
set_option maxHeartbeats 2000000 in
theorem paths_none (f : Fo) (v : Value) (a : Int) (l : List UInt8) (w : World) (hl : Lies w v f) (hf : fitB f = true) (h60 : l.length ≤ 60) (hn : f.size = 0) :
    Calls Tryz.prog 10 #[v, .int .u16 a, .string ⟨l.toArray⟩] w fun e w' => e = .returned (.bool true) ∧ Below w.heap.size w w' := by
  have GR := Lib.hid (fun w => grown_any w)
  have hs : Small f := small_lies hl (fit_parts hf).1
  have h0 := fit_ok hf
  have FF := Lib.hid (fit_any f v w hl)
  have PA := Lib.hid (fun W (hW : Below w.heap.size w W) => tpaths_any f v W (lies_below hl hW) hs)
  have SZ := Lib.hid (fun W (hW : Below w.heap.size w W) => tsize_any f v W (lies_below hl hW) hs)
  have NX := Lib.hid (fun W (hW : Below w.heap.size w W) pv p (hp : IntsLie W pv p) (hpl : p.length ≤ 1000000) => next_any f p v pv W (lies_below hl hW) hs hp hpl)
  rw [hf] at FF
  rw [paths_val h0] at PA
  rw [size_val h0] at SZ
  have d60 : decide ((60 : Int) < (l.length : Int)) = false := by simp; omega
  have BX0 := Below.refl w.heap.size w
  have HN := Lib.hid (next_none h0 hn)
  rw [hn] at SZ
  have e0 : seqAt [] 0 f = [] := List.eq_nil_of_length_eq_zero (by rw [seqAt_len]; exact hn)
  rw [e0] at PA
  obtain ⟨av, cv, rfl⟩ := lies_form hl
  clear hl hf hs h0 e0 hn
  go_enter Tryz.func10, Tryz.ntmps10
  go_wp2_with fail
  refine (FF.out).mono ?_
  rintro e X1 ⟨rfl, hb1⟩
  have BX1 : Below w.heap.size w X1 := BX0.trans (hb1.mono BX0.size)
  go_wp2_with fail
  refine (PA.out X1 BX1).mono ?_
  rintro e X2 ⟨v2, rfl, hp2, hb2⟩
  have BX2 : Below w.heap.size w X2 := BX1.trans (hb2.mono BX1.size)
  obtain ⟨a2, c2, rfl, -⟩ := hp2
  go_wp2_with fail
  refine (SZ.out X2 BX2).mono ?_
  rintro e X3 ⟨rfl, hb3⟩
  have BX3 : Below w.heap.size w X3 := BX2.trans (hb3.mono BX2.size)
  go_wp2_with fail
  refine (NX.out X3 BX3 _ [] (.inl ⟨none, 0, rfl, rfl⟩) (by simp)).mono ?_
  rintro e X4 ⟨a4, c4, rfl, -, hb4⟩
  have BX4 : Below w.heap.size w X4 := BX3.trans (hb4.mono BX3.size)
  rw [HN.out]
  go_wp2_with fail
  refine (GR.out _).mono ?_
  rintro e X5 ⟨rfl, hb5⟩
  have BX5 : Below w.heap.size w X5 := BX4.trans (hb5.mono BX4.size)
  go_wp2_with fail
  go_ret
  exact ⟨rfl, BX5⟩

set_option maxRecDepth 100000 in
set_option maxHeartbeats 4000000 in
theorem paths_more (f : Fo) (v : Value) (m k : Nat) (x0 x y : Vis) (l : List UInt8) (w : World) (hl : Lies w v f) (hf : fitB f = true) (h60 : l.length ≤ 60) (hm : m ≤ 65535)
    (hx0 : (seqAt [] 0 f)[0]? = some x0) (hx : (seqAt [] 0 f)[k]? = some x) (hy : (seqAt [] 0 f)[k + 1]? = some y) (hk : Int.tmod (m : Int) (f.size : Int) = (k : Int)) :
    Calls Tryz.prog 10 #[v, .int .u16 m, .string ⟨l.toArray⟩] w fun e w' => e = .returned (.bool true) ∧ Below w.heap.size w w' := by
  have GR := Lib.hid (fun w => grown_any w)
  have hs : Small f := small_lies hl (fit_parts hf).1
  have h0 := fit_ok hf
  have FF := Lib.hid (fit_any f v w hl)
  have PA := Lib.hid (fun W (hW : Below w.heap.size w W) => tpaths_any f v W (lies_below hl hW) hs)
  have SZ := Lib.hid (fun W (hW : Below w.heap.size w W) => tsize_any f v W (lies_below hl hW) hs)
  have NX := Lib.hid (fun W (hW : Below w.heap.size w W) pv p (hp : IntsLie W pv p) (hpl : p.length ≤ 1000000) => next_any f p v pv W (lies_below hl hW) hs hp hpl)
  rw [hf] at FF
  rw [paths_val h0] at PA
  rw [size_val h0] at SZ
  have d60 : decide ((60 : Int) < (l.length : Int)) = false := by simp; omega
  have BX0 := Below.refl w.heap.size w
  have AT := Lib.hid (fun W (hW : Below w.heap.size w W) pv p (hp : IntsLie W pv p) (hpl : p.length ≤ 1000000) => at_any f p v pv W (lies_below hl hW) hs hp hpl)
  have FI := Lib.hid (fun W (hW : Below w.heap.size w W) => tfind_any f v l W (lies_below hl hW) hs (by omega))
  have NM := Lib.hid (fun W => named_any l W (by omega))
  have N0 := Lib.hid (next_first h0 hx0)
  have N1 := Lib.hid ((next_at h0 hx).trans (by rw [hy]))
  have xm := List.mem_of_getElem? hx
  have A1 := Lib.hid (at_val h0 xm)
  have P1 := Lib.hid (place_at xm)
  have HAS := Lib.hid (asc_at (seq_asc f [] 0) (Nat.lt_succ_self k) hx hy)
  have hsz := hs.size
  have px0 := path_len (List.mem_of_getElem? hx0)
  have px := path_len xm
  have py := path_len (List.mem_of_getElem? hy)
  have len := seqAt_len f [] 0
  have hkn : k + 1 < f.size := by rw [← len]; exact (List.getElem?_eq_some_iff.1 hy).1
  have g0 := Lib.hid (show ((seqAt [] 0 f).map (·.p)).getD 0 [] = x0.p by simp [List.getD_eq_getElem?_getD, hx0])
  have g1 := Lib.hid (show ((seqAt [] 0 f).map (·.p)).getD k [] = x.p by simp [List.getD_eq_getElem?_getD, hx])
  have g2 := Lib.hid (show ((seqAt [] 0 f).map (·.p)).getD (k + 1) [] = y.p by simp [List.getD_eq_getElem?_getD, hy])
  have hL : ((seqAt [] 0 f).map (·.p)).length = f.size := by rw [List.length_map, len]
  obtain ⟨av, cv, rfl⟩ := lies_form hl
  clear hl hf hs hx0 hx hy len
  generalize hLL : (seqAt [] 0 f).map (·.p) = L at *
  have e1 : ((f.size : Int) == 0) = false := by simp; omega
  have e2 : decide ((0 : Int) < (f.size : Int)) = true := by simp; omega
  have e2n : decide (0 < f.size) = true := by simp; omega
  have e3 : ((f.size : Int) != (f.size : Int)) = false := by simp
  have e4 : decide ((k : Int) + 1 < (f.size : Int)) = true := by simp; omega
  have HLL := Lib.hid hLL
  clear hLL
  generalize hnn : f.size = n at *
  have HNN := Lib.hid hnn
  clear hnn
  simp only [List.length_nil, Nat.zero_add] at px0 px py
  go_enter Tryz.func10, Tryz.ntmps10
  go_wp2_with fail
  refine (FF.out).mono ?_
  rintro e X1 ⟨rfl, hb1⟩
  have BX1 : Below w.heap.size w X1 := BX0.trans (hb1.mono BX0.size)
  go_wp2_with fail
  refine (PA.out X1 BX1).mono ?_
  rintro e X2 ⟨v2, rfl, hp2, hb2⟩
  have BX2 : Below w.heap.size w X2 := BX1.trans (hb2.mono BX1.size)
  obtain ⟨a2, c2, rfl, hq2⟩ := hp2
  have HP2 := Lib.hid (show PathsF X1.heap.size X2 (.slice a2 L.length c2) L from ⟨a2, c2, rfl, hq2⟩)
  clear hq2
  go_wp2_with fail
  refine (SZ.out X2 BX2).mono ?_
  rintro e X3 ⟨rfl, hb3⟩
  have BX3 : Below w.heap.size w X3 := BX2.trans (hb3.mono BX2.size)
  have HP3 := Lib.hid (HP2.out.below hb3)
  go_wp2_with fail
  refine (NX.out X3 BX3 _ [] (.inl ⟨none, 0, rfl, rfl⟩) (by simp)).mono ?_
  rintro e X4 ⟨a4, c4, rfl, hi4, hb4⟩
  have BX4 : Below w.heap.size w X4 := BX3.trans (hb4.mono BX3.size)
  rw [N0.out]
  rw [N0.out] at hi4
  have HI4 := Lib.hid hi4
  have HP4 := Lib.hid (HP3.out.below hb4)
  try skip
  obtain ⟨bL, rfl, hcap, hbL, hcL⟩ := PathsF.at (ps := L) HP4.out (by omega)
  obtain ⟨a1, c1, q1, i1⟩ := hcL k (by omega)
  rw [g1.out] at q1 i1
  clear hi4 hcL
  go_wp2_with fail
  refine (AT.out X4 BX4 _ (pathInts x.p) (by simpa using i1) (by simp; omega)).mono ?_
  rintro e X5 ⟨h5, ks5, aa, ca, ak, ck, rfl, ha5, hk5, hor, hb5⟩
  have BX5 : Below w.heap.size w X5 := BX4.trans (hb5.mono BX4.size)
  rw [A1.out]
  obtain ⟨rfl, rfl⟩ : h5 = x.h ∧ ks5 = x.ks := by
    rcases hor with ⟨-, e⟩ | ⟨e, -, -⟩
    · exact Prod.mk.inj (Option.some.inj (e.symm.trans P1.out))
    · exact absurd A1.out e
  unfold aggOf
  have HP5 := Lib.hid (HP4.out.below hb5)
  have HI5 := Lib.hid (intsF_below HI4.out hb5)
  clear hor ha5 hk5 q1 i1 hcap
  go_upto_region 12 with fail
  have k6 : (X5.alloc (.cells #[.int .i64 x.h.k, .string ⟨x.h.l.toArray⟩, .slice aa x.h.ats.length ca, .int .i64 x.h.n, .int .i64 x.h.d, .string ⟨x.h.x.toArray⟩, .slice ak x.ks.len ck] 43)).heap[X5.heap.size]? = some (.cells #[.int .i64 x.h.k, .string ⟨x.h.l.toArray⟩, .slice aa x.h.ats.length ca, .int .i64 x.h.n, .int .i64 x.h.d, .string ⟨x.h.x.toArray⟩, .slice ak x.ks.len ck] 43) := World.alloc_heap_new _ _
  have B56 : Below X5.heap.size X5 (X5.alloc (.cells #[.int .i64 x.h.k, .string ⟨x.h.l.toArray⟩, .slice aa x.h.ats.length ca, .int .i64 x.h.n, .int .i64 x.h.d, .string ⟨x.h.x.toArray⟩, .slice ak x.ks.len ck] 43)) := by ((repeat' (first | exact Below.refl _ _ | assumption | refine Below.setCell ?_ ?_ _ | refine bdrewN ?_ _ | refine Below.drew ?_ | refine Below.alloc ?_ ?_ _ | refine bbehind ?_ (by assumption) ?_)); all_goals first | (simp; done) | (simp; omega) | omega)
  have hs6 : X5.heap.size < (X5.alloc (.cells #[.int .i64 x.h.k, .string ⟨x.h.l.toArray⟩, .slice aa x.h.ats.length ca, .int .i64 x.h.n, .int .i64 x.h.d, .string ⟨x.h.x.toArray⟩, .slice ak x.ks.len ck] 43)).heap.size := by simp
  generalize X5.alloc (.cells #[.int .i64 x.h.k, .string ⟨x.h.l.toArray⟩, .slice aa x.h.ats.length ca, .int .i64 x.h.n, .int .i64 x.h.d, .string ⟨x.h.x.toArray⟩, .slice ak x.ks.len ck] 43) = X6 at *
  have BX6 := BX5.trans (B56.mono BX5.size)
  have HP6 := Lib.hid (HP5.out.below B56)
  have HI6 := Lib.hid (intsF_below HI5.out B56)
  have K6 := Lib.hid k6
  clear B56 hb5 k6
  generalize X5.heap.size = tb at *
  obtain ⟨hbL6, hc6⟩ := HP6.out.get (by omega)
  obtain ⟨a1, c1, q1, i1⟩ := hc6 k x.p (by omega) g1.out
  clear hc6
  go_wp2_with fail
  refine (NX.out X6 BX6 _ (pathInts x.p) (by simpa using i1) (by simp; omega)).mono ?_
  rintro e X7 ⟨a7, c7, rfl, hi7, hb7⟩
  have BX7 : Below w.heap.size w X7 := BX6.trans (hb7.mono BX6.size)
  rw [N1.out]
  rw [N1.out] at hi7
  have HP7 := Lib.hid (HP6.out.below hb7)
  have HI7 := Lib.hid (intsF_below HI6.out hb7)
  have K7 := Lib.hid ((hb7.block _ (by omega)).trans K6.out)
  have hs7 : tb < X7.heap.size := Nat.lt_of_lt_of_le hs6 hb7.size
  clear hb7 q1 i1
  obtain ⟨hbL7, hc7⟩ := HP7.out.get (by omega)
  obtain ⟨a8, c8, q0, i0⟩ := hc7 0 x0.p (by omega) g0.out
  obtain ⟨a9, c9, q1, i1⟩ := hc7 k x.p (by omega) g1.out
  obtain ⟨a10, c10, q2, i2⟩ := hc7 (k + 1) y.p (by omega) g2.out
  have PF := Lib.hid (show IntsLie X7 (.slice a4 x0.p.length c4) (pathInts x0.p) ∧ IntsLie X7 (.slice a8 x0.p.length c8) (pathInts x0.p) ∧ (pathInts x0.p).length ≤ 1000000 from ⟨by simpa using intsF_lies HI7.out, i0, by simp; omega⟩)
  have PG := Lib.hid (show IntsLie X7 (.slice a7 y.p.length c7) (pathInts y.p) ∧ IntsLie X7 (.slice a10 y.p.length c10) (pathInts y.p) ∧ (pathInts y.p).length ≤ 1000000 from ⟨by simpa using intsF_lies hi7, i2, by simp; omega⟩)
  have AL := Lib.hid (fun (z : Lower X7) (u1 u2 : Value) (p : List Int) (h : IntsLie X7 u1 p ∧ IntsLie X7 u2 p ∧ p.length ≤ 1000000) => alike_same u1 u2 p X7 z.val z.prop h)
  have BE := Lib.hid (fun (z : Lower X7) => before_asc _ _ _ _ X7 z.val z.prop i1 i2 (by simp; omega) (by simp; omega) HAS.out)
  clear hi7 hc7 i0 i1 i2
  go_wp2_with fail
  refine wp_region_quiet_all (fun w' => ∃ x : Lower _, w' = x.val) (by kernel_rfl) (by kernel_rfl) ⟨⟨_, (Below.refl _ _).drew⟩, rfl⟩ ?_
  repeat (go_big_quiet_step (first | (go_at_call 43; exact calls_lower _ (AL.out _ _ _ _ (by first | exact PF.out | exact PG.out))) | (go_at_call 64; exact calls_lower _ (BE.out _))))
  refine wpQuiet_nil ?_
  intro w8 hx8
  obtain ⟨x8, hx8⟩ := hx8
  have hb8 := x8.prop
  rw [← hx8] at hb8
  clear hx8 x8
  obtain ⟨hc8, hf8⟩ := bcell hb8
  have hs8 := hb8.size
  try simp at hs8
  try have hz80 : w.heap.size < w8.heap.size := by omega
  try have hz81 : w.heap.size + 1 < w8.heap.size := by omega
  try have hz82 : w.heap.size + 1 + 1 < w8.heap.size := by omega
  try have hz83 : w.heap.size + 1 + 1 + 1 < w8.heap.size := by omega
  try have hz84 : w.heap.size + 1 + 1 + 1 + 1 < w8.heap.size := by omega
  try have hz85 : w.heap.size + 1 + 1 + 1 + 1 + 1 < w8.heap.size := by omega
  try have hy1_8 : w1.heap.size < w8.heap.size := by omega
  try have hy2_8 : w2.heap.size < w8.heap.size := by omega
  try have hy3_8 : w3.heap.size < w8.heap.size := by omega
  try have hy4_8 : w4.heap.size < w8.heap.size := by omega
  try have hy5_8 : w5.heap.size < w8.heap.size := by omega
  try have hy6_8 : w6.heap.size < w8.heap.size := by omega
  try have hy7_8 : w7.heap.size < w8.heap.size := by omega
  have BX8 : Below w.heap.size w w8 := BX7.trans (hb8.mono BX7.size)
  have HP8 := Lib.hid (HP7.out.below hb8)
  have K8 := Lib.hid ((hb8.block _ (by omega)).trans K7.out)
  have hs8 : tb < w8.heap.size := Nat.lt_of_lt_of_le hs7 hb8.size
  clear hb8 hc8 hf8 PF PG AL BE q0 q1 q2 HI4 HI5 HI6 HI7 HP2 HP3 HP4 HP5 HP6 HP7 K6 K7 NX AT PA SZ N0 N1 A1 P1 HAS g0 g2 e1 e2 e2n e4 hk px0 py d60 hbL hbL6 hbL7 hs6 hs7
  obtain ⟨X8, hX8⟩ : ∃ X, X = w8 := ⟨_, rfl⟩
  subst hX8
  cases hn : namedB l with
  | false =>
    rw [find_bad h0 hn] at FI
    rw [hn] at NM
    go_wp2_with fail
    refine (FI.out X8 BX8).mono ?_
    rintro e X9 ⟨v9, rfl, hp9, hb9⟩
    have BX9 : Below w.heap.size w X9 := BX8.trans (hb9.mono BX8.size)
    obtain ⟨a9, c9, rfl, -⟩ := hp9
    go_wp2_with fail
    refine (NM.out X9).mono ?_
    rintro e X10 ⟨rfl, rfl⟩
    go_wp2_with fail
    refine (GR.out _).mono ?_
    rintro e X10 ⟨rfl, hb10⟩
    have BX10 : Below w.heap.size w X10 := BX9.trans (hb10.mono BX9.size)
    go_wp2_with fail
    go_ret
    exact ⟨rfl, BX10⟩
  | true =>
    rw [find_val h0 hn] at FI
    have HF := Lib.hid (found_iff (seq_asc f [] 0) xm (fun z => z.h.l == l))
    have HM := Lib.hid (sel_len (fun z => z.h.l == l) f)
    have HK := Lib.hid (show x.h.l = l → x.h.k = 0 from kind_label h0 xm hn)
    have HQ := Lib.hid (sel_path (fun z => z.h.l == l) f)
    rw [HNN.out] at HM HQ
    generalize selP (fun z => z.h.l == l) (seqAt [] 0 f) = M at *
    go_wp2_with fail
    refine (FI.out X8 BX8).mono ?_
    rintro e X9 ⟨v9, rfl, hp9, hb9⟩
    have BX9 : Below w.heap.size w X9 := BX8.trans (hb9.mono BX8.size)
    obtain ⟨a9, c9, rfl, hq9⟩ := hp9
    have HM9 := Lib.hid (show PathsF X8.heap.size X9 (.slice a9 M.length c9) M from ⟨a9, c9, rfl, hq9⟩)
    have HP9 := Lib.hid (HP8.out.below hb9)
    have K9 := Lib.hid ((hb9.block _ (by omega)).trans K8.out)
    have hs9 : tb < X9.heap.size := Nat.lt_of_lt_of_le hs8 hb9.size
    have hML : M.length ≤ n := HM.out
    clear hb9 hq9 hn FI NM HP8 K8 hs8
    go_wp2_with fail
    go_loopw [22, 23] (fun fd i wr => ∃ j : Nat, i = .int .i64 j ∧ j ≤ M.length ∧ fd = .bool ((M.take j).any (fun p => decide (pathInts p = pathInts x.p))) ∧ Below X9.heap.size X9 wr) (fun _ i _ => M.length - (intOf i).toNat)
    case atStart => exact ⟨0, rfl, Nat.zero_le _, rfl, Below.refl _ _⟩
    case round =>
      obtain ⟨j, rfl, hj, rfl, hbr⟩ := hrel
      have hsr := hbr.size
      by_cases hlt : j < M.length
      · obtain ⟨a11, hM1, hM2⟩ : ∃ b, a9 = some ⟨b, 0, none⟩ ∧ b < X9.heap.size ∧ ∃ a' c', X9.cell? ⟨b, j, none⟩ = some (.slice a' (M.getD j []).length c') ∧ IntsLie X9 (.slice a' (M.getD j []).length c') (pathInts (M.getD j [])) := by
          obtain ⟨b, e, -, h2, h3⟩ := PathsF.at HM9.out (by omega)
          exact ⟨b, e, h2, h3 j hlt⟩
        subst hM1
        obtain ⟨hb11, a12, c12, q2, i2⟩ := hM2
        obtain ⟨hbL9, hc9⟩ := HP9.out.get (by omega)
        obtain ⟨a13, c13, q3, i3⟩ := hc9 k x.p (by omega) g1.out
        have HT := Lib.hid (any_take_succ (fun p => decide (pathInts p = pathInts x.p)) hlt)
        have hlq : (M.getD j []).length ≤ 1000000 := by
          have := HQ.out j hlt
          omega
        generalize M.getD j [] = q at *
        have r2 : wr.cell? ⟨a11, j, none⟩ = some (.slice a12 q.length c12) := (hbr.cell (p := ⟨a11, j, none⟩) hb11).trans q2
        have r3 : wr.cell? ⟨bL, k, none⟩ = some (.slice a13 x.p.length c13) := (hbr.cell (p := ⟨bL, k, none⟩) hbL9).trans q3
        have t2 : a11 < wr.heap.size := by omega
        have t3 : bL < wr.heap.size := by omega
        clear hc9 q2 q3
        generalize (M.take j).any (fun p => decide (pathInts p = pathInts x.p)) = was at *
        cases was with
        | true =>
          go_wp2_with fail
          refine wp_region_quiet_all (fun w' => ∃ x : Lower _, w' = x.val) (by kernel_rfl) (by kernel_rfl) ⟨⟨_, (Below.refl _ _).drew⟩, rfl⟩ ?_
          repeat (go_big_quiet_step (fail))
          refine wpQuiet_nil ?_
          intro w10 hx10
          obtain ⟨x10, hx10⟩ := hx10
          have hb10 := x10.prop
          rw [← hx10] at hb10
          clear hx10 x10
          obtain ⟨hc10, hf10⟩ := bcell hb10
          have hs10 := hb10.size
          try simp at hs10
          try have hz100 : w.heap.size < w10.heap.size := by omega
          try have hz101 : w.heap.size + 1 < w10.heap.size := by omega
          try have hz102 : w.heap.size + 1 + 1 < w10.heap.size := by omega
          try have hz103 : w.heap.size + 1 + 1 + 1 < w10.heap.size := by omega
          try have hz104 : w.heap.size + 1 + 1 + 1 + 1 < w10.heap.size := by omega
          try have hz105 : w.heap.size + 1 + 1 + 1 + 1 + 1 < w10.heap.size := by omega
          try have hy1_10 : w1.heap.size < w10.heap.size := by omega
          try have hy2_10 : w2.heap.size < w10.heap.size := by omega
          try have hy3_10 : w3.heap.size < w10.heap.size := by omega
          try have hy4_10 : w4.heap.size < w10.heap.size := by omega
          try have hy5_10 : w5.heap.size < w10.heap.size := by omega
          try have hy6_10 : w6.heap.size < w10.heap.size := by omega
          try have hy7_10 : w7.heap.size < w10.heap.size := by omega
          try have hy8_10 : w8.heap.size < w10.heap.size := by omega
          try have hy9_10 : w9.heap.size < w10.heap.size := by omega
          go_wp2_with fail
          go_roundw
          case rel => exact ⟨j + 1, by go_num, by omega, by rw [HT.out]; rfl, by ((repeat' (first | exact Below.refl _ _ | assumption | refine Below.setCell ?_ ?_ _ | refine bdrewN ?_ _ | refine Below.drew ?_ | refine Below.alloc ?_ ?_ _ | refine bbehind ?_ (by assumption) ?_)); all_goals first | (simp; done) | (simp; omega) | omega)⟩
          case measure => simp [intOf]; omega
        | false =>
          have AK := Lib.hid (fun (z : Lower wr) => alike_any (.slice a12 q.length c12) (.slice a13 x.p.length c13) (pathInts q) (pathInts x.p) z.val (ints_below i2 (hbr.trans (z.prop.mono hbr.size))) (ints_below i3 (hbr.trans (z.prop.mono hbr.size))) (by simp; omega) (by simp; omega))
          unfold alikeB at AK
          generalize decide (pathInts q = pathInts x.p) = yes at *
          clear i2 i3
          go_wp2_with fail
          refine wp_region_quiet_all (fun w' => ∃ x : Lower _, w' = x.val) (by kernel_rfl) (by kernel_rfl) ⟨⟨_, (Below.refl _ _).drew⟩, rfl⟩ ?_
          repeat (go_big_quiet_step ((go_at_call 43; exact calls_lower _ (AK.out _))))
          refine wpQuiet_nil ?_
          intro w10 hx10
          obtain ⟨x10, hx10⟩ := hx10
          have hb10 := x10.prop
          rw [← hx10] at hb10
          clear hx10 x10
          obtain ⟨hc10, hf10⟩ := bcell hb10
          have hs10 := hb10.size
          try simp at hs10
          try have hz100 : w.heap.size < w10.heap.size := by omega
          try have hz101 : w.heap.size + 1 < w10.heap.size := by omega
          try have hz102 : w.heap.size + 1 + 1 < w10.heap.size := by omega
          try have hz103 : w.heap.size + 1 + 1 + 1 < w10.heap.size := by omega
          try have hz104 : w.heap.size + 1 + 1 + 1 + 1 < w10.heap.size := by omega
          try have hz105 : w.heap.size + 1 + 1 + 1 + 1 + 1 < w10.heap.size := by omega
          try have hy1_10 : w1.heap.size < w10.heap.size := by omega
          try have hy2_10 : w2.heap.size < w10.heap.size := by omega
          try have hy3_10 : w3.heap.size < w10.heap.size := by omega
          try have hy4_10 : w4.heap.size < w10.heap.size := by omega
          try have hy5_10 : w5.heap.size < w10.heap.size := by omega
          try have hy6_10 : w6.heap.size < w10.heap.size := by omega
          try have hy7_10 : w7.heap.size < w10.heap.size := by omega
          try have hy8_10 : w8.heap.size < w10.heap.size := by omega
          try have hy9_10 : w9.heap.size < w10.heap.size := by omega
          go_wp2_with fail
          go_roundw
          case rel => exact ⟨j + 1, by go_num, by omega, by rw [HT.out]; rfl, by ((repeat' (first | exact Below.refl _ _ | assumption | refine Below.setCell ?_ ?_ _ | refine bdrewN ?_ _ | refine Below.drew ?_ | refine Below.alloc ?_ ?_ _ | refine bbehind ?_ (by assumption) ?_)); all_goals first | (simp; done) | (simp; omega) | omega)⟩
          case measure => simp [intOf]; omega
      · obtain rfl : j = M.length := by omega
        rw [List.take_length]
        have d0 : wr.cell? ⟨tb, 0, none⟩ = some (.int .i64 x.h.k) := cell_of_block ((hbr.block _ hs9).trans K9.out) rfl
        have d1 : wr.cell? ⟨tb, 1, none⟩ = some (.string ⟨x.h.l.toArray⟩) := cell_of_block ((hbr.block _ hs9).trans K9.out) rfl
        have HE := HF.out
        generalize M.any (fun p => decide (pathInts p = pathInts x.p)) = was at *
        subst HE
        have BXr := BX9.trans (hbr.mono BX9.size)
        have dl : decide ((n : Int) < (M.length : Int)) = false := by simp; omega
        have dn : decide (n < M.length) = false := by simp; omega
        generalize x.h.l = xl at *
        generalize x.h.k = xk at *
        by_cases hl : xl = l
        · obtain rfl := HK.out hl
          subst hl
          have bl : (xl == xl) = true := by simp
          rw [bl]
          go_wp2_with fail
          refine (GR.out _).mono ?_
          rintro e w12 ⟨rfl, hb12⟩
          go_wp2_with fail
          go_ret
          exact ⟨rfl, BXr.trans (hb12.mono BXr.size)⟩
        · have bl : (xl == l) = false := by simpa using hl
          rw [bl]
          by_cases hk0 : xk = 0
          · subst hk0
            go_wp2_with fail
            refine (GR.out _).mono ?_
            rintro e w12 ⟨rfl, hb12⟩
            go_wp2_with fail
            go_ret
            exact ⟨rfl, BXr.trans (hb12.mono BXr.size)⟩
          · have bk : (xk == 0) = false := by simpa using hk0
            go_wp2_with fail
            refine (GR.out _).mono ?_
            rintro e w12 ⟨rfl, hb12⟩
            go_wp2_with fail
            go_ret
            exact ⟨rfl, BXr.trans (hb12.mono BXr.size)⟩

set_option maxRecDepth 100000 in
set_option maxHeartbeats 4000000 in
theorem paths_last (f : Fo) (v : Value) (m k : Nat) (x0 x : Vis) (l : List UInt8) (w : World) (hl : Lies w v f) (hf : fitB f = true) (h60 : l.length ≤ 60) (hm : m ≤ 65535)
    (hx0 : (seqAt [] 0 f)[0]? = some x0) (hx : (seqAt [] 0 f)[k]? = some x) (hy : k + 1 = f.size) (hk : Int.tmod (m : Int) (f.size : Int) = (k : Int)) :
    Calls Tryz.prog 10 #[v, .int .u16 m, .string ⟨l.toArray⟩] w fun e w' => e = .returned (.bool true) ∧ Below w.heap.size w w' := by
  have GR := Lib.hid (fun w => grown_any w)
  have hs : Small f := small_lies hl (fit_parts hf).1
  have h0 := fit_ok hf
  have FF := Lib.hid (fit_any f v w hl)
  have PA := Lib.hid (fun W (hW : Below w.heap.size w W) => tpaths_any f v W (lies_below hl hW) hs)
  have SZ := Lib.hid (fun W (hW : Below w.heap.size w W) => tsize_any f v W (lies_below hl hW) hs)
  have NX := Lib.hid (fun W (hW : Below w.heap.size w W) pv p (hp : IntsLie W pv p) (hpl : p.length ≤ 1000000) => next_any f p v pv W (lies_below hl hW) hs hp hpl)
  rw [hf] at FF
  rw [paths_val h0] at PA
  rw [size_val h0] at SZ
  have d60 : decide ((60 : Int) < (l.length : Int)) = false := by simp; omega
  have BX0 := Below.refl w.heap.size w
  have AT := Lib.hid (fun W (hW : Below w.heap.size w W) pv p (hp : IntsLie W pv p) (hpl : p.length ≤ 1000000) => at_any f p v pv W (lies_below hl hW) hs hp hpl)
  have FI := Lib.hid (fun W (hW : Below w.heap.size w W) => tfind_any f v l W (lies_below hl hW) hs (by omega))
  have NM := Lib.hid (fun W => named_any l W (by omega))
  have N0 := Lib.hid (next_first h0 hx0)
  have N1 := Lib.hid ((next_at h0 hx).trans (by rw [List.getElem?_eq_none (by rw [seqAt_len]; omega)]))
  have xm := List.mem_of_getElem? hx
  have A1 := Lib.hid (at_val h0 xm)
  have P1 := Lib.hid (place_at xm)
  have hsz := hs.size
  have px0 := path_len (List.mem_of_getElem? hx0)
  have px := path_len xm
  have len := seqAt_len f [] 0
  have hkn : k + 1 = f.size := hy
  have g0 := Lib.hid (show ((seqAt [] 0 f).map (·.p)).getD 0 [] = x0.p by simp [List.getD_eq_getElem?_getD, hx0])
  have g1 := Lib.hid (show ((seqAt [] 0 f).map (·.p)).getD k [] = x.p by simp [List.getD_eq_getElem?_getD, hx])
  have hL : ((seqAt [] 0 f).map (·.p)).length = f.size := by rw [List.length_map, len]
  obtain ⟨av, cv, rfl⟩ := lies_form hl
  clear hl hf hs hx0 hx hy len
  generalize hLL : (seqAt [] 0 f).map (·.p) = L at *
  have e1 : ((f.size : Int) == 0) = false := by simp; omega
  have e2 : decide ((0 : Int) < (f.size : Int)) = true := by simp; omega
  have e2n : decide (0 < f.size) = true := by simp; omega
  have e3 : ((f.size : Int) != (f.size : Int)) = false := by simp
  have e4 : decide ((k : Int) + 1 < (f.size : Int)) = false := by simp; omega
  have HLL := Lib.hid hLL
  clear hLL
  generalize hnn : f.size = n at *
  have HNN := Lib.hid hnn
  clear hnn
  simp only [List.length_nil, Nat.zero_add] at px0 px
  go_enter Tryz.func10, Tryz.ntmps10
  go_wp2_with fail
  refine (FF.out).mono ?_
  rintro e X1 ⟨rfl, hb1⟩
  have BX1 : Below w.heap.size w X1 := BX0.trans (hb1.mono BX0.size)
  go_wp2_with fail
  refine (PA.out X1 BX1).mono ?_
  rintro e X2 ⟨v2, rfl, hp2, hb2⟩
  have BX2 : Below w.heap.size w X2 := BX1.trans (hb2.mono BX1.size)
  obtain ⟨a2, c2, rfl, hq2⟩ := hp2
  have HP2 := Lib.hid (show PathsF X1.heap.size X2 (.slice a2 L.length c2) L from ⟨a2, c2, rfl, hq2⟩)
  clear hq2
  go_wp2_with fail
  refine (SZ.out X2 BX2).mono ?_
  rintro e X3 ⟨rfl, hb3⟩
  have BX3 : Below w.heap.size w X3 := BX2.trans (hb3.mono BX2.size)
  have HP3 := Lib.hid (HP2.out.below hb3)
  go_wp2_with fail
  refine (NX.out X3 BX3 _ [] (.inl ⟨none, 0, rfl, rfl⟩) (by simp)).mono ?_
  rintro e X4 ⟨a4, c4, rfl, hi4, hb4⟩
  have BX4 : Below w.heap.size w X4 := BX3.trans (hb4.mono BX3.size)
  rw [N0.out]
  rw [N0.out] at hi4
  have HI4 := Lib.hid hi4
  have HP4 := Lib.hid (HP3.out.below hb4)
  try skip
  obtain ⟨bL, rfl, hcap, hbL, hcL⟩ := PathsF.at (ps := L) HP4.out (by omega)
  obtain ⟨a1, c1, q1, i1⟩ := hcL k (by omega)
  rw [g1.out] at q1 i1
  clear hi4 hcL
  go_wp2_with fail
  refine (AT.out X4 BX4 _ (pathInts x.p) (by simpa using i1) (by simp; omega)).mono ?_
  rintro e X5 ⟨h5, ks5, aa, ca, ak, ck, rfl, ha5, hk5, hor, hb5⟩
  have BX5 : Below w.heap.size w X5 := BX4.trans (hb5.mono BX4.size)
  rw [A1.out]
  obtain ⟨rfl, rfl⟩ : h5 = x.h ∧ ks5 = x.ks := by
    rcases hor with ⟨-, e⟩ | ⟨e, -, -⟩
    · exact Prod.mk.inj (Option.some.inj (e.symm.trans P1.out))
    · exact absurd A1.out e
  unfold aggOf
  have HP5 := Lib.hid (HP4.out.below hb5)
  have HI5 := Lib.hid (intsF_below HI4.out hb5)
  clear hor ha5 hk5 q1 i1 hcap
  go_upto_region 12 with fail
  have k6 : (X5.alloc (.cells #[.int .i64 x.h.k, .string ⟨x.h.l.toArray⟩, .slice aa x.h.ats.length ca, .int .i64 x.h.n, .int .i64 x.h.d, .string ⟨x.h.x.toArray⟩, .slice ak x.ks.len ck] 43)).heap[X5.heap.size]? = some (.cells #[.int .i64 x.h.k, .string ⟨x.h.l.toArray⟩, .slice aa x.h.ats.length ca, .int .i64 x.h.n, .int .i64 x.h.d, .string ⟨x.h.x.toArray⟩, .slice ak x.ks.len ck] 43) := World.alloc_heap_new _ _
  have B56 : Below X5.heap.size X5 (X5.alloc (.cells #[.int .i64 x.h.k, .string ⟨x.h.l.toArray⟩, .slice aa x.h.ats.length ca, .int .i64 x.h.n, .int .i64 x.h.d, .string ⟨x.h.x.toArray⟩, .slice ak x.ks.len ck] 43)) := by ((repeat' (first | exact Below.refl _ _ | assumption | refine Below.setCell ?_ ?_ _ | refine bdrewN ?_ _ | refine Below.drew ?_ | refine Below.alloc ?_ ?_ _ | refine bbehind ?_ (by assumption) ?_)); all_goals first | (simp; done) | (simp; omega) | omega)
  have hs6 : X5.heap.size < (X5.alloc (.cells #[.int .i64 x.h.k, .string ⟨x.h.l.toArray⟩, .slice aa x.h.ats.length ca, .int .i64 x.h.n, .int .i64 x.h.d, .string ⟨x.h.x.toArray⟩, .slice ak x.ks.len ck] 43)).heap.size := by simp
  generalize X5.alloc (.cells #[.int .i64 x.h.k, .string ⟨x.h.l.toArray⟩, .slice aa x.h.ats.length ca, .int .i64 x.h.n, .int .i64 x.h.d, .string ⟨x.h.x.toArray⟩, .slice ak x.ks.len ck] 43) = X6 at *
  have BX6 := BX5.trans (B56.mono BX5.size)
  have HP6 := Lib.hid (HP5.out.below B56)
  have HI6 := Lib.hid (intsF_below HI5.out B56)
  have K6 := Lib.hid k6
  clear B56 hb5 k6
  generalize X5.heap.size = tb at *
  obtain ⟨hbL6, hc6⟩ := HP6.out.get (by omega)
  obtain ⟨a1, c1, q1, i1⟩ := hc6 k x.p (by omega) g1.out
  clear hc6
  go_wp2_with fail
  refine (NX.out X6 BX6 _ (pathInts x.p) (by simpa using i1) (by simp; omega)).mono ?_
  rintro e X7 ⟨a7, c7, rfl, hi7, hb7⟩
  have BX7 : Below w.heap.size w X7 := BX6.trans (hb7.mono BX6.size)
  rw [N1.out]
  rw [N1.out] at hi7
  have HP7 := Lib.hid (HP6.out.below hb7)
  have HI7 := Lib.hid (intsF_below HI6.out hb7)
  have K7 := Lib.hid ((hb7.block _ (by omega)).trans K6.out)
  have hs7 : tb < X7.heap.size := Nat.lt_of_lt_of_le hs6 hb7.size
  clear hb7 q1 i1
  obtain ⟨hbL7, hc7⟩ := HP7.out.get (by omega)
  obtain ⟨a8, c8, q0, i0⟩ := hc7 0 x0.p (by omega) g0.out
  obtain ⟨a9, c9, q1, i1⟩ := hc7 k x.p (by omega) g1.out
  have PF := Lib.hid (show IntsLie X7 (.slice a4 x0.p.length c4) (pathInts x0.p) ∧ IntsLie X7 (.slice a8 x0.p.length c8) (pathInts x0.p) ∧ (pathInts x0.p).length ≤ 1000000 from ⟨by simpa using intsF_lies HI7.out, i0, by simp; omega⟩)
  have AL := Lib.hid (fun (z : Lower X7) (u1 u2 : Value) (p : List Int) (h : IntsLie X7 u1 p ∧ IntsLie X7 u2 p ∧ p.length ≤ 1000000) => alike_same u1 u2 p X7 z.val z.prop h)
  clear hi7 hc7 i0 i1
  go_wp2_with fail
  refine wp_region_quiet_all (fun w' => ∃ x : Lower _, w' = x.val) (by kernel_rfl) (by kernel_rfl) ⟨⟨_, (Below.refl _ _).drew⟩, rfl⟩ ?_
  repeat (go_big_quiet_step ((go_at_call 43; exact calls_lower _ (AL.out _ _ _ _ (by exact PF.out)))))
  refine wpQuiet_nil ?_
  intro w8 hx8
  obtain ⟨x8, hx8⟩ := hx8
  have hb8 := x8.prop
  rw [← hx8] at hb8
  clear hx8 x8
  obtain ⟨hc8, hf8⟩ := bcell hb8
  have hs8 := hb8.size
  try simp at hs8
  try have hz80 : w.heap.size < w8.heap.size := by omega
  try have hz81 : w.heap.size + 1 < w8.heap.size := by omega
  try have hz82 : w.heap.size + 1 + 1 < w8.heap.size := by omega
  try have hz83 : w.heap.size + 1 + 1 + 1 < w8.heap.size := by omega
  try have hz84 : w.heap.size + 1 + 1 + 1 + 1 < w8.heap.size := by omega
  try have hz85 : w.heap.size + 1 + 1 + 1 + 1 + 1 < w8.heap.size := by omega
  try have hy1_8 : w1.heap.size < w8.heap.size := by omega
  try have hy2_8 : w2.heap.size < w8.heap.size := by omega
  try have hy3_8 : w3.heap.size < w8.heap.size := by omega
  try have hy4_8 : w4.heap.size < w8.heap.size := by omega
  try have hy5_8 : w5.heap.size < w8.heap.size := by omega
  try have hy6_8 : w6.heap.size < w8.heap.size := by omega
  try have hy7_8 : w7.heap.size < w8.heap.size := by omega
  have BX8 : Below w.heap.size w w8 := BX7.trans (hb8.mono BX7.size)
  have HP8 := Lib.hid (HP7.out.below hb8)
  have K8 := Lib.hid ((hb8.block _ (by omega)).trans K7.out)
  have hs8 : tb < w8.heap.size := Nat.lt_of_lt_of_le hs7 hb8.size
  clear hb8 hc8 hf8 PF AL q0 q1 HI4 HI5 HI6 HI7 HP2 HP3 HP4 HP5 HP6 HP7 K6 K7 NX AT PA SZ N0 N1 A1 P1 g0 e1 e2 e2n e4 hk px0 d60 hbL hbL6 hbL7 hs6 hs7
  obtain ⟨X8, hX8⟩ : ∃ X, X = w8 := ⟨_, rfl⟩
  subst hX8
  cases hn : namedB l with
  | false =>
    rw [find_bad h0 hn] at FI
    rw [hn] at NM
    go_wp2_with fail
    refine (FI.out X8 BX8).mono ?_
    rintro e X9 ⟨v9, rfl, hp9, hb9⟩
    have BX9 : Below w.heap.size w X9 := BX8.trans (hb9.mono BX8.size)
    obtain ⟨a9, c9, rfl, -⟩ := hp9
    go_wp2_with fail
    refine (NM.out X9).mono ?_
    rintro e X10 ⟨rfl, rfl⟩
    go_wp2_with fail
    refine (GR.out _).mono ?_
    rintro e X10 ⟨rfl, hb10⟩
    have BX10 : Below w.heap.size w X10 := BX9.trans (hb10.mono BX9.size)
    go_wp2_with fail
    go_ret
    exact ⟨rfl, BX10⟩
  | true =>
    rw [find_val h0 hn] at FI
    have HF := Lib.hid (found_iff (seq_asc f [] 0) xm (fun z => z.h.l == l))
    have HM := Lib.hid (sel_len (fun z => z.h.l == l) f)
    have HK := Lib.hid (show x.h.l = l → x.h.k = 0 from kind_label h0 xm hn)
    have HQ := Lib.hid (sel_path (fun z => z.h.l == l) f)
    rw [HNN.out] at HM HQ
    generalize selP (fun z => z.h.l == l) (seqAt [] 0 f) = M at *
    go_wp2_with fail
    refine (FI.out X8 BX8).mono ?_
    rintro e X9 ⟨v9, rfl, hp9, hb9⟩
    have BX9 : Below w.heap.size w X9 := BX8.trans (hb9.mono BX8.size)
    obtain ⟨a9, c9, rfl, hq9⟩ := hp9
    have HM9 := Lib.hid (show PathsF X8.heap.size X9 (.slice a9 M.length c9) M from ⟨a9, c9, rfl, hq9⟩)
    have HP9 := Lib.hid (HP8.out.below hb9)
    have K9 := Lib.hid ((hb9.block _ (by omega)).trans K8.out)
    have hs9 : tb < X9.heap.size := Nat.lt_of_lt_of_le hs8 hb9.size
    have hML : M.length ≤ n := HM.out
    clear hb9 hq9 hn FI NM HP8 K8 hs8
    go_wp2_with fail
    go_loopw [22, 23] (fun fd i wr => ∃ j : Nat, i = .int .i64 j ∧ j ≤ M.length ∧ fd = .bool ((M.take j).any (fun p => decide (pathInts p = pathInts x.p))) ∧ Below X9.heap.size X9 wr) (fun _ i _ => M.length - (intOf i).toNat)
    case atStart => exact ⟨0, rfl, Nat.zero_le _, rfl, Below.refl _ _⟩
    case round =>
      obtain ⟨j, rfl, hj, rfl, hbr⟩ := hrel
      have hsr := hbr.size
      by_cases hlt : j < M.length
      · obtain ⟨a11, hM1, hM2⟩ : ∃ b, a9 = some ⟨b, 0, none⟩ ∧ b < X9.heap.size ∧ ∃ a' c', X9.cell? ⟨b, j, none⟩ = some (.slice a' (M.getD j []).length c') ∧ IntsLie X9 (.slice a' (M.getD j []).length c') (pathInts (M.getD j [])) := by
          obtain ⟨b, e, -, h2, h3⟩ := PathsF.at HM9.out (by omega)
          exact ⟨b, e, h2, h3 j hlt⟩
        subst hM1
        obtain ⟨hb11, a12, c12, q2, i2⟩ := hM2
        obtain ⟨hbL9, hc9⟩ := HP9.out.get (by omega)
        obtain ⟨a13, c13, q3, i3⟩ := hc9 k x.p (by omega) g1.out
        have HT := Lib.hid (any_take_succ (fun p => decide (pathInts p = pathInts x.p)) hlt)
        have hlq : (M.getD j []).length ≤ 1000000 := by
          have := HQ.out j hlt
          omega
        generalize M.getD j [] = q at *
        have r2 : wr.cell? ⟨a11, j, none⟩ = some (.slice a12 q.length c12) := (hbr.cell (p := ⟨a11, j, none⟩) hb11).trans q2
        have r3 : wr.cell? ⟨bL, k, none⟩ = some (.slice a13 x.p.length c13) := (hbr.cell (p := ⟨bL, k, none⟩) hbL9).trans q3
        have t2 : a11 < wr.heap.size := by omega
        have t3 : bL < wr.heap.size := by omega
        clear hc9 q2 q3
        generalize (M.take j).any (fun p => decide (pathInts p = pathInts x.p)) = was at *
        cases was with
        | true =>
          go_wp2_with fail
          refine wp_region_quiet_all (fun w' => ∃ x : Lower _, w' = x.val) (by kernel_rfl) (by kernel_rfl) ⟨⟨_, (Below.refl _ _).drew⟩, rfl⟩ ?_
          repeat (go_big_quiet_step (fail))
          refine wpQuiet_nil ?_
          intro w10 hx10
          obtain ⟨x10, hx10⟩ := hx10
          have hb10 := x10.prop
          rw [← hx10] at hb10
          clear hx10 x10
          obtain ⟨hc10, hf10⟩ := bcell hb10
          have hs10 := hb10.size
          try simp at hs10
          try have hz100 : w.heap.size < w10.heap.size := by omega
          try have hz101 : w.heap.size + 1 < w10.heap.size := by omega
          try have hz102 : w.heap.size + 1 + 1 < w10.heap.size := by omega
          try have hz103 : w.heap.size + 1 + 1 + 1 < w10.heap.size := by omega
          try have hz104 : w.heap.size + 1 + 1 + 1 + 1 < w10.heap.size := by omega
          try have hz105 : w.heap.size + 1 + 1 + 1 + 1 + 1 < w10.heap.size := by omega
          try have hy1_10 : w1.heap.size < w10.heap.size := by omega
          try have hy2_10 : w2.heap.size < w10.heap.size := by omega
          try have hy3_10 : w3.heap.size < w10.heap.size := by omega
          try have hy4_10 : w4.heap.size < w10.heap.size := by omega
          try have hy5_10 : w5.heap.size < w10.heap.size := by omega
          try have hy6_10 : w6.heap.size < w10.heap.size := by omega
          try have hy7_10 : w7.heap.size < w10.heap.size := by omega
          try have hy8_10 : w8.heap.size < w10.heap.size := by omega
          try have hy9_10 : w9.heap.size < w10.heap.size := by omega
          go_wp2_with fail
          go_roundw
          case rel => exact ⟨j + 1, by go_num, by omega, by rw [HT.out]; rfl, by ((repeat' (first | exact Below.refl _ _ | assumption | refine Below.setCell ?_ ?_ _ | refine bdrewN ?_ _ | refine Below.drew ?_ | refine Below.alloc ?_ ?_ _ | refine bbehind ?_ (by assumption) ?_)); all_goals first | (simp; done) | (simp; omega) | omega)⟩
          case measure => simp [intOf]; omega
        | false =>
          have AK := Lib.hid (fun (z : Lower wr) => alike_any (.slice a12 q.length c12) (.slice a13 x.p.length c13) (pathInts q) (pathInts x.p) z.val (ints_below i2 (hbr.trans (z.prop.mono hbr.size))) (ints_below i3 (hbr.trans (z.prop.mono hbr.size))) (by simp; omega) (by simp; omega))
          unfold alikeB at AK
          generalize decide (pathInts q = pathInts x.p) = yes at *
          clear i2 i3
          go_wp2_with fail
          refine wp_region_quiet_all (fun w' => ∃ x : Lower _, w' = x.val) (by kernel_rfl) (by kernel_rfl) ⟨⟨_, (Below.refl _ _).drew⟩, rfl⟩ ?_
          repeat (go_big_quiet_step ((go_at_call 43; exact calls_lower _ (AK.out _))))
          refine wpQuiet_nil ?_
          intro w10 hx10
          obtain ⟨x10, hx10⟩ := hx10
          have hb10 := x10.prop
          rw [← hx10] at hb10
          clear hx10 x10
          obtain ⟨hc10, hf10⟩ := bcell hb10
          have hs10 := hb10.size
          try simp at hs10
          try have hz100 : w.heap.size < w10.heap.size := by omega
          try have hz101 : w.heap.size + 1 < w10.heap.size := by omega
          try have hz102 : w.heap.size + 1 + 1 < w10.heap.size := by omega
          try have hz103 : w.heap.size + 1 + 1 + 1 < w10.heap.size := by omega
          try have hz104 : w.heap.size + 1 + 1 + 1 + 1 < w10.heap.size := by omega
          try have hz105 : w.heap.size + 1 + 1 + 1 + 1 + 1 < w10.heap.size := by omega
          try have hy1_10 : w1.heap.size < w10.heap.size := by omega
          try have hy2_10 : w2.heap.size < w10.heap.size := by omega
          try have hy3_10 : w3.heap.size < w10.heap.size := by omega
          try have hy4_10 : w4.heap.size < w10.heap.size := by omega
          try have hy5_10 : w5.heap.size < w10.heap.size := by omega
          try have hy6_10 : w6.heap.size < w10.heap.size := by omega
          try have hy7_10 : w7.heap.size < w10.heap.size := by omega
          try have hy8_10 : w8.heap.size < w10.heap.size := by omega
          try have hy9_10 : w9.heap.size < w10.heap.size := by omega
          go_wp2_with fail
          go_roundw
          case rel => exact ⟨j + 1, by go_num, by omega, by rw [HT.out]; rfl, by ((repeat' (first | exact Below.refl _ _ | assumption | refine Below.setCell ?_ ?_ _ | refine bdrewN ?_ _ | refine Below.drew ?_ | refine Below.alloc ?_ ?_ _ | refine bbehind ?_ (by assumption) ?_)); all_goals first | (simp; done) | (simp; omega) | omega)⟩
          case measure => simp [intOf]; omega
      · obtain rfl : j = M.length := by omega
        rw [List.take_length]
        have d0 : wr.cell? ⟨tb, 0, none⟩ = some (.int .i64 x.h.k) := cell_of_block ((hbr.block _ hs9).trans K9.out) rfl
        have d1 : wr.cell? ⟨tb, 1, none⟩ = some (.string ⟨x.h.l.toArray⟩) := cell_of_block ((hbr.block _ hs9).trans K9.out) rfl
        have HE := HF.out
        generalize M.any (fun p => decide (pathInts p = pathInts x.p)) = was at *
        subst HE
        have BXr := BX9.trans (hbr.mono BX9.size)
        have dl : decide ((n : Int) < (M.length : Int)) = false := by simp; omega
        have dn : decide (n < M.length) = false := by simp; omega
        generalize x.h.l = xl at *
        generalize x.h.k = xk at *
        by_cases hl : xl = l
        · obtain rfl := HK.out hl
          subst hl
          have bl : (xl == xl) = true := by simp
          rw [bl]
          go_wp2_with fail
          refine (GR.out _).mono ?_
          rintro e w12 ⟨rfl, hb12⟩
          go_wp2_with fail
          go_ret
          exact ⟨rfl, BXr.trans (hb12.mono BXr.size)⟩
        · have bl : (xl == l) = false := by simpa using hl
          rw [bl]
          by_cases hk0 : xk = 0
          · subst hk0
            go_wp2_with fail
            refine (GR.out _).mono ?_
            rintro e w12 ⟨rfl, hb12⟩
            go_wp2_with fail
            go_ret
            exact ⟨rfl, BXr.trans (hb12.mono BXr.size)⟩
          · have bk : (xk == 0) = false := by simpa using hk0
            go_wp2_with fail
            refine (GR.out _).mono ?_
            rintro e w12 ⟨rfl, hb12⟩
            go_wp2_with fail
            go_ret
            exact ⟨rfl, BXr.trans (hb12.mono BXr.size)⟩

theorem tpaths_law (f : Fo) (v : Value) (a : Int) (l : List UInt8) (w : World) (hl : Lies w v f) (ha : 0 ≤ a ∧ a ≤ 65535) (_ : (⟨l.toArray⟩ : ByteArray).size ≤ maxLen) :
    Calls Tryz.prog 10 #[v, .int .u16 a, .string ⟨l.toArray⟩] w fun e w' => e = .returned (.bool true) ∧ Below w.heap.size w w' := by
  cases hf : fitB f with
  | false => exact paths_unfit f v a l w hl hf
  | true =>
    by_cases h60 : 60 < l.length
    · exact paths_long f v a l w hl hf h60
    · by_cases hn : f.size = 0
      · exact paths_none f v a l w hl hf (by omega) hn
      · obtain ⟨m, rfl⟩ : ∃ m : Nat, a = (m : Int) := ⟨a.toNat, by omega⟩
        have hk : Int.tmod (m : Int) (f.size : Int) = ((m % f.size : Nat) : Int) := rfl
        have hlt : m % f.size < f.size := Nat.mod_lt _ (by omega)
        have len := seqAt_len f [] 0
        have hx0 := List.getElem?_eq_getElem (l := seqAt [] 0 f) (i := 0) (by omega)
        have hx := List.getElem?_eq_getElem (l := seqAt [] 0 f) (i := m % f.size) (by omega)
        by_cases hk1 : m % f.size + 1 = f.size
        · exact paths_last f v m _ _ _ l w hl hf (by omega) (by omega) hx0 hx hk1 hk
        · have hy := List.getElem?_eq_getElem (l := seqAt [] 0 f) (i := m % f.size + 1) (by omega)
          exact paths_more f v m _ _ _ _ l w hl hf (by omega) (by omega) hx0 hx hy hk

end Go.Proofs.YtcgedpfolloinaaGreat

namespace Go.Proofs.YtcgedpfolloinaaGreat
open Go.ChangeShapes Go.WideShapes Go.ChangeAt Go.RowKit Go.Deep

theorem mem_all {H : Type} {P : Program} {e : TypeId} : ∀ {ds : List (DataW H)} {d : DataW H}, d ∈ ds → ∀ n ∈ d.weights P e, n ∈ DataW.weightsAll P e ds
  | d' :: r, d, hd, n, hn => by
    simp only [DataW.weightsAll, List.mem_append]
    rcases List.mem_cons.1 hd with rfl | hd
    · exact .inl hn
    · exact .inr (mem_all hd n hn)
theorem bytesAttr : Tryz.prog.bytesOf 81 = 32 := by kernel_rfl
theorem bytesTree : Tryz.prog.bytesOf 43 = 104 := by kernel_rfl
theorem cellsAttr : Tryz.prog.cellsOf 81 = 2 := by kernel_rfl
theorem cellsHead : Tryz.prog.cellsOf 27 = 6 := by kernel_rfl
theorem cellsTree : Tryz.prog.cellsOf 43 = 7 := by kernel_rfl
theorem cellsNumT : Tryz.prog.cellsOf 25 = 2 := by kernel_rfl
theorem cellsKind : Tryz.prog.cellsOf 22 = 1 := by kernel_rfl
theorem cellsStr : Tryz.prog.cellsOf 9 = 1 := by kernel_rfl
theorem cellsAttrs : Tryz.prog.cellsOf 23 = 1 := by kernel_rfl
theorem cellsTrees : Tryz.prog.cellsOf 28 = 1 := by kernel_rfl
theorem cellsInt : Tryz.prog.cellsOf 3 = 1 := by kernel_rfl
/-- no string, no slice of a datum is larger than memory. -/
def Fits {H : Type} (t : TypeId) (d : DataW H) : Prop := ∀ n ∈ d.weights Tryz.prog t, n ≤ reachBytes
theorem str_list (s : ByteArray) : ∃ l : List UInt8, s = ⟨l.toArray⟩ := ⟨s.data.toList, by cases s; simp⟩
theorem lt_of_cell' {w : World} {b o : Nat} {v : Value} (h : w.cell? ⟨b, o, none⟩ = some v) : b < w.heap.size := by
  by_cases hb : b < w.heap.size
  · exact hb
  · exfalso
    have : w.heap[b]? = none := Array.getElem?_eq_none (by omega)
    unfold World.cell? at h
    simp [this] at h

theorem tfields : ∃ a b, Tryz.prog.underlying 43 = some (.struct #[a, b]) ∧ a.type = 27 ∧ a.offset = 0 ∧ b.type = 28 ∧ b.offset = 6 := ⟨_, _, Tryz.underlying43, rfl, rfl, rfl, rfl⟩
theorem hfields : ∃ a b c d e, Tryz.prog.underlying 27 = some (.struct #[a, b, c, d, e]) ∧ (a.type = 22 ∧ a.offset = 0) ∧ (b.type = 9 ∧ b.offset = 1) ∧ (c.type = 23 ∧ c.offset = 2) ∧ (d.type = 25 ∧ d.offset = 3) ∧ (e.type = 9 ∧ e.offset = 5) :=
  ⟨_, _, _, _, _, Tryz.underlying27, ⟨rfl, rfl⟩, ⟨rfl, rfl⟩, ⟨rfl, rfl⟩, ⟨rfl, rfl⟩, ⟨rfl, rfl⟩⟩
theorem nfields : ∃ a b, Tryz.prog.underlying 25 = some (.struct #[a, b]) ∧ a.type = 3 ∧ a.offset = 0 ∧ b.type = 3 ∧ b.offset = 1 := ⟨_, _, Tryz.underlying25, rfl, rfl, rfl, rfl⟩
theorem afields : ∃ a b, Tryz.prog.underlying 81 = some (.struct #[a, b]) ∧ a.type = 9 ∧ a.offset = 0 ∧ b.type = 9 ∧ b.offset = 1 := ⟨_, _, Tryz.underlying81, rfl, rfl, rfl, rfl⟩

section
variable {H : Type} {enc : TypeId × Value → H} {W : World} {held : Bool}

set_option maxRecDepth 100000 in
theorem attrs_open {fuel : Nat} {v : Value} {x : DataW H × List MemPlace} (h : DataW.trod enc Tryz.prog W 0 (fun _ => true) held fuel 23 [v] = some x) (hf : Fits 23 x.1) : ∃ ats, AttrsLie W v ats := by
  obtain ⟨fa, fb, hu, ta, oa, tb, ob⟩ := afields
  rcases open_slice_pairs Tryz.underlying23 hu cellsAttr oa ob (by rw [ta]; exact cellsStr) (by rw [tb]; exact cellsStr) h with ⟨hcs, hx⟩ | ⟨a, len, cap, m, n, V0, V1, D0, D1, P0, P1, hcs, _, hle, hmax, hm, hx, hi⟩
  · simp at hcs
    subst hcs
    exact ⟨[], .inl ⟨_, _, rfl, rfl⟩⟩
  · simp at hcs
    subst hcs
    simp only [if_true] at hm
    by_cases h0 : len = 0
    · subst h0; exact ⟨[], .inl ⟨_, _, rfl, rfl⟩⟩
    · have hw : (len + (m - len)) * 32 ≤ reachBytes := by
        have := hf ((len + (m - len)) * Tryz.prog.bytesOf 81) (by
          subst hx
          simp only [DataW.weights, Tryz.underlying23]
          simp)
        rwa [bytesAttr] at this
      have hi' : ∀ i, i < len → ∃ x y : List UInt8, W.cell? (a.add (i * 2)) = some (.string ⟨x.toArray⟩) ∧ W.cell? (a.add (i * 2 + 1)) = some (.string ⟨y.toArray⟩) := by
        intro i hl
        obtain ⟨h1, h2, h3, h4⟩ := hi i (by omega)
        rw [ta] at h3
        rw [tb] at h4
        obtain ⟨x, e1, _, _⟩ := DataW.trod_string Tryz.underlying9 h3
        obtain ⟨y, e2, _, _⟩ := DataW.trod_string Tryz.underlying9 h4
        simp only [List.cons.injEq, and_true] at e1 e2
        obtain ⟨x, rfl⟩ := str_list x
        obtain ⟨y, rfl⟩ := str_list y
        exact ⟨x, y, by rw [h1, e1], by rw [h2, e2]⟩
      obtain ⟨b, off, spot⟩ := a
      obtain ⟨x0, y0, c0, _⟩ := hi' 0 (by omega)
      have hspot : spot = none := by simpa [Addr.add] using World.cell?_spot c0
      subst hspot
      have hb : b < W.heap.size := by
        rw [Go.WideShapes.add_plain] at c0
        exact lt_of_cell' c0
      have e : ∀ i, i < len → ∃ q : List UInt8 × List UInt8, W.cell? ⟨b, off + i * 2, none⟩ = some (.string ⟨q.1.toArray⟩) ∧ W.cell? ⟨b, off + i * 2 + 1, none⟩ = some (.string ⟨q.2.toArray⟩) := by
        intro i hl
        obtain ⟨x, y, h1, h2⟩ := hi' i hl
        rw [Go.WideShapes.add_plain] at h1 h2
        exact ⟨(x, y), h1, by rw [Nat.add_assoc]; exact h2⟩
      obtain ⟨q, hq⟩ := choose_lt e
      have hl : ((List.range len).map q).length = len := by simp
      refine ⟨(List.range len).map q, .inr ⟨b, off, cap, by rw [hl], by rw [hl]; exact hle, by rw [hl]; unfold reachBytes at hw; omega, hb, fun k hk => ?_⟩⟩
      have hk' : k < len := by rwa [hl] at hk
      have g : ((List.range len).map q).getD k ([], []) = q k := by
        rw [List.getD_eq_getElem?_getD]; simp [hk']
      rw [g]
      exact hq k hk'

set_option maxRecDepth 100000 in
theorem head_open {fuel : Nat} {cs : List Value} {x : DataW H × List MemPlace} (h : DataW.trod enc Tryz.prog W 0 (fun _ => true) held fuel 27 cs = some x) (hf : Fits 27 x.1) :
    ∃ (hd : Hd) (va : Value), cs = [.int .i64 hd.k, .string ⟨hd.l.toArray⟩, va, .int .i64 hd.n, .int .i64 hd.d, .string ⟨hd.x.toArray⟩] ∧ AttrsLie W va hd.ats := by
  obtain ⟨fa, fb, fc, fd, fe, hu, ⟨ta, oa⟩, ⟨tb, ob⟩, ⟨tc, oc⟩, ⟨td, od⟩, te, oe⟩ := hfields
  obtain ⟨xs, n, _, hx, hlen, hxl, hi⟩ := DataW.trod_struct hu h
  rw [cellsHead] at hlen
  obtain ⟨c0, c1, c2, c3, c4, c5, rfl⟩ : ∃ c0 c1 c2 c3 c4 c5, cs = [c0, c1, c2, c3, c4, c5] := by
    match cs, hlen with
    | [c0, c1, c2, c3, c4, c5], _ => exact ⟨c0, c1, c2, c3, c4, c5, rfl⟩
  obtain ⟨x0, x1, x2, x3, x4, rfl⟩ : ∃ x0 x1 x2 x3 x4, xs = [x0, x1, x2, x3, x4] := by
    match xs, hxl with
    | [x0, x1, x2, x3, x4], _ => exact ⟨x0, x1, x2, x3, x4, rfl⟩
  have i0 := hi 0 fa rfl
  have i1 := hi 1 fb rfl
  have i2 := hi 2 fc rfl
  have i3 := hi 3 fd rfl
  have i4 := hi 4 fe rfl
  rw [ta, oa, cellsKind] at i0
  rw [tb, ob, cellsStr] at i1
  rw [tc, oc, cellsAttrs] at i2
  rw [td, od, cellsNumT] at i3
  rw [te, oe, cellsStr] at i4
  simp at i0 i1 i2 i3 i4
  obtain ⟨k, e0, _, _⟩ := DataW.trod_int Tryz.underlying22 i0
  obtain ⟨l, e1, _, _⟩ := DataW.trod_string Tryz.underlying9 i1
  obtain ⟨t, e4, _, _⟩ := DataW.trod_string Tryz.underlying9 i4
  obtain ⟨ats, ha⟩ := attrs_open i2 (fun m hm => hf m (by
    subst hx
    simp only [DataW.weights, hu]
    refine DataW.weights_mem_each (j := 2) (t := 23) (d := x2.1) (by simp [tc]) (by simp) m hm))
  obtain ⟨na, nb, hun, tna, ona, tnb, onb⟩ := nfields
  obtain ⟨ys, n2, _, _, _, hyl, hj⟩ := DataW.trod_struct hun i3
  obtain ⟨y0, y1, rfl⟩ : ∃ y0 y1, ys = [y0, y1] := by
    match ys, hyl with
    | [y0, y1], _ => exact ⟨y0, y1, rfl⟩
  have j0 := hj 0 na rfl
  have j1 := hj 1 nb rfl
  rw [tna, ona, cellsInt] at j0
  rw [tnb, onb, cellsInt] at j1
  simp at j0 j1
  obtain ⟨n', g0, _, _⟩ := DataW.trod_int Tryz.underlying3 j0
  obtain ⟨d', g1, _, _⟩ := DataW.trod_int Tryz.underlying3 j1
  simp only [List.cons.injEq, and_true] at e0 e1 e4 g0 g1
  obtain ⟨l, rfl⟩ := str_list l
  obtain ⟨t, rfl⟩ := str_list t
  exact ⟨⟨k, l, ats, n', d', t⟩, c2, by rw [e0, e1, e4, g0, g1], ha⟩

def foOf : List (Hd × Fo) → Fo
  | [] => .nil
  | x :: r => .cons x.1 x.2 (foOf r)
theorem foOf_len : ∀ l : List (Hd × Fo), (foOf l).len = l.length
  | [] => rfl
  | x :: r => by simp only [foOf, Fo.len, List.length_cons, foOf_len r]
theorem foOf_row {b : Nat} : ∀ (l : List (Hd × Fo)) (o : Nat), (∀ k (hk : k < l.length), HdAt W (l[k]).1 b (o + k * 7) ∧ ∃ v, W.cell? ⟨b, o + k * 7 + 6, none⟩ = some v ∧ Lies W v (l[k]).2) → RowAt W (foOf l) b o
  | [], _, _ => trivial
  | x :: r, o, hk => by
    have h0 := hk 0 (by simp)
    simp only [Nat.zero_mul, Nat.add_zero, List.getElem_cons_zero] at h0
    refine rowAt_cons.2 ⟨h0.1, h0.2, foOf_row r (o + 7) fun k h => ?_⟩
    have := hk (k + 1) (by simpa using h)
    simp only [List.getElem_cons_succ] at this
    rw [show o + (k + 1) * 7 = o + 7 + k * 7 by omega] at this
    exact this
instance : Inhabited (Hd × Fo) := ⟨(⟨0, [], [], 0, 0, []⟩, .nil)⟩

set_option maxRecDepth 100000 in
theorem trees_open : ∀ (fuel : Nat) {v : Value} {x : DataW H × List MemPlace}, DataW.trod enc Tryz.prog W 0 (fun _ => true) held fuel 28 [v] = some x → Fits 28 x.1 → ∃ f, Lies W v f
  | 0, v, x, h, _ => by simp [DataW.trod] at h
  | 1, v, x, h, hf => by
    rcases DataW.trod_slice Tryz.underlying28 h with ⟨hcs, _⟩ | ⟨a, len, cap, elems, rest, n, hn, hcs, hx, _, hle, hmax, hlen, hel, hsp, _⟩
    · simp at hcs; subst hcs; exact ⟨.nil, .inl ⟨_, _, rfl, rfl⟩⟩
    · simp at hcs
      subst hcs
      obtain rfl : n = 0 := by omega
      cases len with
      | zero => exact ⟨.nil, .inl ⟨_, _, rfl, rfl⟩⟩
      | succ len =>
        have h0 := hel 0 (by omega)
        rw [List.getElem?_eq_getElem (by omega)] at h0
        obtain ⟨cs', _, h2⟩ := Option.bind_eq_some_iff.1 h0
        simp [DataW.trod] at h2
  | fuel + 2, v, x, h, hf => by
    rcases DataW.trod_slice Tryz.underlying28 h with ⟨hcs, _⟩ | ⟨a, len, cap, elems, rest, n, hn, hcs, hx, _, hle, hmax, hlen, hel, hsp, _⟩
    · simp at hcs; subst hcs; exact ⟨.nil, .inl ⟨_, _, rfl, rfl⟩⟩
    · simp at hcs
      subst hcs
      obtain rfl : n = fuel + 1 := by omega
      by_cases h0 : len = 0
      · subst h0; exact ⟨.nil, .inl ⟨_, _, rfl, rfl⟩⟩
      · have hw : (elems.length + rest.length) * 104 ≤ reachBytes := by
          have := hf ((elems.length + rest.length) * Tryz.prog.bytesOf 43) (by
            subst hx
            simp only [DataW.weights, Tryz.underlying28]
            simp)
          rwa [bytesTree] at this
        have hi' : ∀ i, i < len → ∃ q : Hd × Fo, (∃ va, W.cell? (a.add (i * 7)) = some (.int .i64 q.1.k) ∧ W.cell? (a.add (i * 7 + 1)) = some (.string ⟨q.1.l.toArray⟩) ∧ W.cell? (a.add (i * 7 + 2)) = some va ∧ AttrsLie W va q.1.ats ∧
            W.cell? (a.add (i * 7 + 3)) = some (.int .i64 q.1.n) ∧ W.cell? (a.add (i * 7 + 4)) = some (.int .i64 q.1.d) ∧ W.cell? (a.add (i * 7 + 5)) = some (.string ⟨q.1.x.toArray⟩)) ∧ ∃ vk, W.cell? (a.add (i * 7 + 6)) = some vk ∧ Lies W vk q.2 := by
          intro i hl
          have hi := hel i hl
          rw [cellsTree, List.getElem?_eq_getElem (by omega)] at hi
          obtain ⟨cs', hc, ht⟩ := Option.bind_eq_some_iff.1 hi
          obtain ⟨_, hcl, hcc⟩ := World.cells?_some hc
          obtain ⟨fa, fb, hu, ta, oa, tb, ob⟩ := tfields
          obtain ⟨xs, m, hm, hxx, _, hxl, hj⟩ := DataW.trod_struct hu ht
          obtain rfl : m = fuel := by omega
          obtain ⟨x0, x1, rfl⟩ : ∃ x0 x1, xs = [x0, x1] := by
            match xs, hxl with
            | [x0, x1], _ => exact ⟨x0, x1, rfl⟩
          obtain ⟨c0, c1, c2, c3, c4, c5, c6, rfl⟩ : ∃ c0 c1 c2 c3 c4 c5 c6, cs' = [c0, c1, c2, c3, c4, c5, c6] := by
            match cs', hcl with
            | [c0, c1, c2, c3, c4, c5, c6], _ => exact ⟨c0, c1, c2, c3, c4, c5, c6, rfl⟩
          have j0 := hj 0 fa rfl
          have j1 := hj 1 fb rfl
          rw [ta, oa, cellsHead] at j0
          rw [tb, ob, cellsTrees] at j1
          simp at j0 j1
          have hfit : Fits 43 (elems[i]).1 := fun n hn => hf n (by
            subst hx
            simp only [DataW.weights, Tryz.underlying28, List.mem_cons, List.mem_append]
            exact .inr (.inl (mem_all (by simp; exact ⟨_, List.getElem_mem _⟩) n hn)))
          rw [hxx] at hfit
          have hf0 : Fits 27 x0.1 := fun n hn => hfit n (by
            simp only [DataW.weights, hu]
            exact DataW.weights_mem_each (j := 0) (t := 27) (d := x0.1) (by simp [ta]) (by simp) n hn)
          have hf1 : Fits 28 x1.1 := fun n hn => hfit n (by
            simp only [DataW.weights, hu]
            exact DataW.weights_mem_each (j := 1) (t := 28) (d := x1.1) (by simp [tb]) (by simp) n hn)
          obtain ⟨hd, va, e, ha⟩ := head_open j0 hf0
          obtain ⟨ks, hk⟩ := trees_open m j1 hf1
          have g : ∀ k (hk : k < 7) u, [c0, c1, c2, c3, c4, c5, c6][k]? = some u → W.cell? (a.add (i * 7 + k)) = some u := fun k hk u hu => by
            rw [← Go.Deep.add_add]; exact (hcc k hk).trans hu
          simp only [List.cons.injEq, and_true] at e
          obtain ⟨rfl, rfl, rfl, rfl, rfl, rfl⟩ := e
          exact ⟨(hd, ks), ⟨c2, g 0 (by omega) _ rfl, g 1 (by omega) _ rfl, g 2 (by omega) _ rfl, ha, g 3 (by omega) _ rfl, g 4 (by omega) _ rfl, g 5 (by omega) _ rfl⟩, c6, g 6 (by omega) _ rfl, hk⟩
        obtain ⟨b, off, spot⟩ := a
        have hspot : spot = none := by
          obtain ⟨q, ⟨va, c0, _⟩, _⟩ := hi' 0 (by omega)
          simpa [Addr.add] using World.cell?_spot c0
        subst hspot
        obtain ⟨q, hq⟩ := choose_lt hi'
        have hb : b < W.heap.size := by
          obtain ⟨⟨va, c0, _⟩, _⟩ := hq 0 (by omega)
          rw [Go.WideShapes.add_plain] at c0
          exact lt_of_cell' c0
        have hl : (foOf ((List.range len).map q)).len = len := by rw [foOf_len]; simp
        refine ⟨foOf ((List.range len).map q), .inr ⟨b, off, cap, by rw [hl], by rw [hl]; exact hle, by rw [hl]; unfold reachBytes at hw; omega, hb, foOf_row _ off fun k hk => ?_⟩⟩
        have hk' : k < len := by simpa using hk
        obtain ⟨⟨va, c0, c1, c2, ha, c3, c4, c5⟩, vk, c6, hk6⟩ := hq k hk'
        rw [Go.WideShapes.add_plain] at c0 c1 c2 c3 c4 c5 c6
        simp only [List.getElem_map, List.getElem_range]
        exact ⟨⟨c0, by rw [Nat.add_assoc]; exact c1, ⟨va, by rw [Nat.add_assoc]; exact c2, ha⟩, by rw [Nat.add_assoc]; exact c3, by rw [Nat.add_assoc]; exact c4, by rw [Nat.add_assoc]; exact c5⟩, vk, by rw [Nat.add_assoc]; exact c6, hk6⟩
end
end Go.Proofs.YtcgedpfolloinaaGreat
