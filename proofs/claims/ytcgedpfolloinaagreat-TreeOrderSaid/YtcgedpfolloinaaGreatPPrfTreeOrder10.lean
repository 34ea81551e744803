/- What the proof of PrfTreeOrder rests on, part 10 of 13. -/
import Derived.IntWalk
import Derived.Deep.DeepCutAuto
import Derived.Test.YtcgedpfolloinaaGreatPPrfTreeOrder9
namespace Go.Proofs.YtcgedpfolloinaaGreat
open Go.RowKit Go.Shelf

def nextV (vs : List Vis) (p : List Int) : Option (List Int) := (vs.find? (fun x => decide (0 < cmpL (pathInts x.p) p))).map (fun x => pathInts x.p)
def nextF (f : Fo) (p : List Int) : List Int × Bool × Int :=
  if foErr f ≠ 0 then ([], false, foErr f) else if (placeF f p).isSome = false ∧ p ≠ [] then ([], false, 6) else match nextV (seqAt [] 0 f) p with
    | none => ([], false, 0)
    | some q => (q, true, 0)
def NextRes (w : World) (r : List Int × Bool × Int) (e : Ending) (w' : World) : Prop :=
  ∃ a cap, e = .returned (.tuple #[.slice a r.1.length cap, .bool r.2.1, .int .i64 r.2.2]) ∧ IntsF w.heap.size w' (.slice a r.1.length cap) r.1 ∧ Below w.heap.size w w'

/-- the four cells of its own that Next begins with. -/
structure NC (w W : World) (pv a b c : Value) : Prop where
  c0 : W.cell? ⟨w.heap.size, 0, none⟩ = some pv
  c1 : W.cell? ⟨w.heap.size + 1, 0, none⟩ = some a
  f1 : W.frozen? ⟨w.heap.size + 1, 0, none⟩ = false
  c2 : W.cell? ⟨w.heap.size + 1 + 1, 0, none⟩ = some b
  f2 : W.frozen? ⟨w.heap.size + 1 + 1, 0, none⟩ = false
  c3 : W.cell? ⟨w.heap.size + 1 + 1 + 1, 0, none⟩ = some c
  f3 : W.frozen? ⟨w.heap.size + 1 + 1 + 1, 0, none⟩ = false
  size : w.heap.size + 4 ≤ W.heap.size
  bel : Below w.heap.size w W
theorem NC.start (w : World) (pv : Value) : NC w ((((w.alloc (.cells #[pv] 41)).alloc (.cells #[.slice none 0 0] 41)).alloc (.cells #[.bool false] 4)).alloc (.cells #[.int .i64 0] 32)) pv (.slice none 0 0) (.bool false) (.int .i64 0) := by
  refine ⟨?_, ?_, ?_, ?_, ?_, ?_, ?_, by simp, ((((Below.refl _ w).alloc (Nat.le_refl _) _).alloc (by simp) _).alloc (by simp; omega) _).alloc (by simp; omega) _⟩ <;> simp [go_sem]
theorem NC.same {w W W' : World} {pv a b c : Value} (h : NC w W pv a b c) (hb : ∀ k, w.heap.size ≤ k → k < w.heap.size + 4 → W'.heap[k]? = W.heap[k]?) (hz : W.heap.size ≤ W'.heap.size) (hB : Below w.heap.size w W') : NC w W' pv a b c := by
  obtain ⟨c0, c1, f1, c2, f2, c3, f3, size, bel⟩ := h
  have b0 := hb w.heap.size (by omega) (by omega)
  have b1 := hb (w.heap.size + 1) (by omega) (by omega)
  have b2 := hb (w.heap.size + 1 + 1) (by omega) (by omega)
  have b3 := hb (w.heap.size + 1 + 1 + 1) (by omega) (by omega)
  exact ⟨(World.cell?_of_block (w := W) b0).trans c0, (World.cell?_of_block (w := W) b1).trans c1, (World.frozen?_of_block (w := W) b1).trans f1, (World.cell?_of_block (w := W) b2).trans c2, (World.frozen?_of_block (w := W) b2).trans f2,
    (World.cell?_of_block (w := W) b3).trans c3, (World.frozen?_of_block (w := W) b3).trans f3, Nat.le_trans size hz, hB⟩
theorem NC.below {w W W' : World} {pv a b c : Value} (h : NC w W pv a b c) (k : Below W.heap.size W W') : NC w W' pv a b c :=
  h.same (fun i _ hi => k.block i (by have := h.size; omega)) k.size (h.bel.trans (k.mono (by have := h.size; omega)))
theorem NC.set3 {w W : World} {pv a b c : Value} (h : NC w W pv a b c) (a' b' c' : Value) : NC w (((W.setCell ⟨w.heap.size + 1, 0, none⟩ a').setCell ⟨w.heap.size + 1 + 1, 0, none⟩ b').setCell ⟨w.heap.size + 1 + 1 + 1, 0, none⟩ c') pv a' b' c' := by
  obtain ⟨c0, c1, f1, c2, f2, c3, f3, size, bel⟩ := h
  refine ⟨?_, ?_, ?_, ?_, ?_, ?_, ?_, by simpa [World.setCell] using size, ((bel.setCell (p := ⟨w.heap.size + 1, 0, none⟩) (by show w.heap.size ≤ w.heap.size + 1; omega) _).setCell (p := ⟨w.heap.size + 1 + 1, 0, none⟩) (by show w.heap.size ≤ w.heap.size + 1 + 1; omega) _).setCell (p := ⟨w.heap.size + 1 + 1 + 1, 0, none⟩) (by show w.heap.size ≤ w.heap.size + 1 + 1 + 1; omega) _⟩ <;> simp (maxDischargeDepth := 8) [go_sem, *]

set_option maxRecDepth 100000 in
set_option maxHeartbeats 2000000 in
theorem next_err (f : Fo) (p : List Int) (v pv : Value) (w : World) (hl : Lies w v f) (hs : Small f) (hp : IntsLie w pv p) (he : foErr f ≠ 0) :
    Calls Tryz.prog 38 #[v, pv] w (NextRes w (nextF f p)) := by
  have CH := Lib.hid (fun w1 (hw : Below w.heap.size w w1) => tcheck_any f v w1 (lies_below hl hw) hs)
  obtain ⟨a, cap, rfl⟩ := lies_form hl
  obtain ⟨pa, pc, rfl⟩ := ints_form hp
  have HR := Lib.hid (show nextF f p = ([], false, foErr f) from if_pos he)
  clear hl hs hp
  generalize foErr f = er at *
  have b0 : (er != 0) = true := by simpa using he
  clear he
  have N0 := NC.start w (.slice pa p.length pc)
  go_enter Tryz.func38, Tryz.ntmps38
  go_wp2_with fail
  generalize (((w.alloc (.cells #[.slice pa p.length pc] 41)).alloc (.cells #[.slice none 0 0] 41)).alloc (.cells #[.bool false] 4)).alloc (.cells #[.int .i64 0] 32) = W0 at *
  refine (CH.out W0 N0.bel).mono ?_
  rintro e w1 ⟨rfl, hb1⟩
  have N1 := Lib.hid (N0.below hb1)
  clear N0 hb1
  obtain ⟨c0, c1, f1, c2, f2, c3, f3, size, bel⟩ := N1.out
  go_wp2_with fail
  have N2 := N1.out.set3 (.slice none 0 0) (.bool false) (.int .i64 er)
  clear c0 c1 f1 c2 f2 c3 f3 size bel
  generalize ((w1.setCell ⟨w.heap.size + 1, 0, none⟩ (.slice none 0 0)).setCell ⟨w.heap.size + 1 + 1, 0, none⟩ (.bool false)).setCell ⟨w.heap.size + 1 + 1 + 1, 0, none⟩ (.int .i64 er) = Wf at N2 ⊢
  obtain ⟨c0, c1, f1, c2, f2, c3, f3, size, bel⟩ := N2
  refine bodyPost_ret (v := .tuple #[.slice none 0 0, .bool false, .int .i64 er]) (by simp [results, Tryz.results38, go_sem, c1, c2, c3]) rfl ?_
  rw [HR.out]
  exact ⟨none, 0, rfl, .inl ⟨_, _, rfl, rfl⟩, bel⟩

set_option maxRecDepth 100000 in
set_option maxHeartbeats 2000000 in
theorem next_absent (f : Fo) (p : List Int) (v pv : Value) (w : World) (hl : Lies w v f) (hs : Small f) (hp : IntsLie w pv p) (hpl : p.length ≤ 1000000) (he : foErr f = 0) (hab : (placeF f p).isSome = false) (hp0 : p ≠ []) :
    Calls Tryz.prog 38 #[v, pv] w (NextRes w (nextF f p)) := by
  have CH := Lib.hid (fun w1 (hw : Below w.heap.size w w1) => tcheck_any f v w1 (lies_below hl hw) hs)
  have TA := Lib.hid (fun w1 (hw : Below w.heap.size w w1) => treeAt_any f p v pv w1 (lies_below hl hw) (ints_below hp hw) hpl)
  obtain ⟨a, cap, rfl⟩ := lies_form hl
  obtain ⟨pa, pc, rfl⟩ := ints_form hp
  have HR := Lib.hid (show nextF f p = ([], false, 6) from (if_neg (by simpa using he)).trans (if_pos ⟨hab, hp0⟩))
  have hpos : decide ((0 : Int) < (p.length : Int)) = true := decide_eq_true (by have := List.length_pos_iff.2 hp0; omega)
  have hpos2 : decide (0 < p.length) = true := decide_eq_true (List.length_pos_iff.2 hp0)
  rw [he] at CH
  have HAB := Lib.hid hab
  clear hl hs hp he hab hp0
  have N0 := NC.start w (.slice pa p.length pc)
  go_enter Tryz.func38, Tryz.ntmps38
  go_wp2_with fail
  generalize (((w.alloc (.cells #[.slice pa p.length pc] 41)).alloc (.cells #[.slice none 0 0] 41)).alloc (.cells #[.bool false] 4)).alloc (.cells #[.int .i64 0] 32) = W0 at *
  refine (CH.out W0 N0.bel).mono ?_
  rintro e w1 ⟨rfl, hb1⟩
  have N1 := Lib.hid (N0.below hb1)
  clear N0 hb1
  obtain ⟨c0, c1, f1, c2, f2, c3, f3, size, bel⟩ := N1.out
  go_wp2_with fail
  refine (TA.out w1 bel).mono ?_
  rintro e w2 ⟨h, ks, aa, ca, ak, ck, rfl, -, -, -, hb2⟩
  rw [HAB.out]
  unfold aggOf
  have N2 := Lib.hid (N1.out.below hb2)
  clear c0 c1 f1 c2 f2 c3 f3 size bel hb2
  obtain ⟨c0, c1, f1, c2, f2, c3, f3, size, bel⟩ := N2.out
  have z0 : w.heap.size < w2.heap.size := by omega
  have z1 : w.heap.size + 1 < w2.heap.size := by omega
  have z2 : w.heap.size + 1 + 1 < w2.heap.size := by omega
  have z3 : w.heap.size + 1 + 1 + 1 < w2.heap.size := by omega
  go_wp2_with fail
  have N3 := (N2.out.set3 (.slice none 0 0) (.bool false) (.int .i64 6)).below ((Below.refl _ _).alloc (Nat.le_refl _) (.cells #[.int .i64 h.k, .string ⟨h.l.toArray⟩, .slice aa h.ats.length ca, .int .i64 h.n, .int .i64 h.d, .string ⟨h.x.toArray⟩, .slice ak ks.len ck] 43))
  clear c0 c1 f1 c2 f2 c3 f3 size bel z0 z1 z2 z3
  generalize (((w2.setCell ⟨w.heap.size + 1, 0, none⟩ (.slice none 0 0)).setCell ⟨w.heap.size + 1 + 1, 0, none⟩ (.bool false)).setCell ⟨w.heap.size + 1 + 1 + 1, 0, none⟩ (.int .i64 6)).alloc (.cells #[.int .i64 h.k, .string ⟨h.l.toArray⟩, .slice aa h.ats.length ca, .int .i64 h.n, .int .i64 h.d, .string ⟨h.x.toArray⟩, .slice ak ks.len ck] 43) = Wf at N3 ⊢
  obtain ⟨c0, c1, f1, c2, f2, c3, f3, size, bel⟩ := N3
  refine bodyPost_ret (v := .tuple #[.slice none 0 0, .bool false, .int .i64 6]) (by simp [results, Tryz.results38, go_sem, c1, c2, c3]) rfl ?_
  rw [HR.out]
  exact ⟨none, 0, rfl, .inl ⟨_, _, rfl, rfl⟩, bel⟩

/-- what the search holds behind so many trees. -/
structure NxI (w : World) (R : Nat) (p : List Int) (pv : Value) (pre : List Vis) (G : Nat → Prop) (W : World) : Prop where
  g : ∀ k, G k ↔ k < R
  nc : NC w W pv (.slice none 0 0) (.bool false) (.int .i64 0)
  no : nextV pre p = none
  size : R ≤ W.heap.size
structure NxX (w : World) (R : Nat) (p : List Int) (pv : Value) (pre : List Vis) (W : World) : Prop where
  it : ∃ q a cap, nextV pre p = some q ∧ NC w W pv (.slice a q.length cap) (.bool true) (.int .i64 0) ∧ IntsF (w.heap.size + 4) W (.slice a q.length cap) q
  size : R ≤ W.heap.size
theorem NxI.spared {w W W' : World} {R : Nat} {p : List Int} {pv : Value} {pre : List Vis} {G : Nat → Prop} (h : NxI w R p pv pre G W) (sp : Spared G W W') (hR : w.heap.size + 4 ≤ R) : NxI w R p pv pre G W' := by
  obtain ⟨g, nc, no, size⟩ := h
  refine ⟨g, nc.same (fun k _ hk => sp.block k ((g k).2 (by omega))) sp.size (nc.bel.trans ⟨sp.os, sp.tape, sp.output, sp.size, fun k hk => sp.block k ((g k).2 (by omega))⟩), no, Nat.le_trans size sp.size⟩
theorem nextV_snoc {pre : List Vis} {x : Vis} {p : List Int} (h : nextV pre p = none) : nextV (pre ++ [x]) p = if 0 < cmpL (pathInts x.p) p then some (pathInts x.p) else none := by
  unfold nextV at h ⊢
  rw [Option.map_eq_none_iff] at h
  rw [List.find?_append, h]
  by_cases hc : 0 < cmpL (pathInts x.p) p <;> simp [hc]
theorem nextV_pre {pre xs : List Vis} {p : List Int} {q : List Int} (hp : pre <+: xs) (h : nextV pre p = some q) : nextV xs p = some q := by
  obtain ⟨t, rfl⟩ := hp
  unfold nextV at h ⊢
  rw [List.find?_append]
  cases hf : pre.find? (fun x => decide (0 < cmpL (pathInts x.p) p)) with
  | none => rw [hf] at h; cases h
  | some y => rw [hf] at h; simpa using h
theorem intsF_putObj {B : Nat} {W : World} {l : Nat} {o o' : Obj} {v : Value} {xs : List Int} (hl : W.heap[l]? = some o) (ho : o.isCells = false) (h : IntsF B W v xs) : IntsF B (W.putObj l o') v xs := by
  rcases h with h | ⟨b, off, cap, h1, h0, hB, h2, h3⟩
  · exact .inl h
  · refine .inr ⟨b, off, cap, h1, h0, hB, by simpa using h2, fun k hk => ?_⟩
    have hb : b ≠ l := by
      rintro rfl
      have := h3 k hk
      simp only [World.cell?, hl] at this
      cases o <;> simp [Obj.isCells] at ho this
    rw [World.cell?_of_block (w := W) (World.putObj_heap_other hb)]
    exact h3 k hk
theorem intsF_of {W : World} {v : Value} {xs : List Int} (h : IntsLie W v xs) : IntsF 0 W v xs := by
  rcases h with h | ⟨b, off, cap, h1, h2, h4, h5⟩
  · exact .inl h
  · exact .inr ⟨b, off, cap, h1, h2, Nat.zero_le _, h4, h5⟩
theorem intsF_mono {B B' : Nat} (hB : B' ≤ B) {W : World} {v : Value} {xs : List Int} (h : IntsF B W v xs) : IntsF B' W v xs := by
  rcases h with h | ⟨b, off, cap, h1, h2, h3, h4, h5⟩
  · exact .inl h
  · exact .inr ⟨b, off, cap, h1, h2, Nat.le_trans hB h3, h4, h5⟩
theorem path_len : ∀ {f : Fo} {pre : List Nat} {i : Nat} {x : Vis}, x ∈ seqAt pre i f → x.p.length ≤ pre.length + f.size
  | .nil, _, _, _, h => by simp [seqAt] at h
  | .cons h ks r, pre, i, x, hx => by
    simp only [seqAt, List.mem_cons, List.mem_append] at hx
    rcases hx with rfl | hx | hx
    · simp [Fo.size]
    · have := path_len hx
      simp [Fo.size] at this ⊢; omega
    · have := path_len hx
      simp [Fo.size] at this ⊢; omega
end Go.Proofs.YtcgedpfolloinaaGreat

namespace Go.Proofs.YtcgedpfolloinaaGreat
open Go.RowKit Go.Shelf
attribute [local go_sem] Oper.semAt_some

set_option maxRecDepth 100000 in
set_option maxHeartbeats 4000000 in
theorem next_in (f : Fo) (p : List Int) (v pv : Value) (w : World) (hl : Lies w v f) (hs : Small f) (hp : IntsLie w pv p) (hpl : p.length ≤ 1000000) (he : foErr f = 0) (hgo : ((placeF f p).isSome = true) ∨ p = []) :
    CallsIn Fence.wide 4 Tryz.prog 38 #[v, pv] w (NextRes w (nextF f p)) := by
  have hsz := hs.size
  have CH := Lib.hid (fun w1 (hw : Below w.heap.size w w1) => tcheck_any f v w1 (lies_below hl hw) hs)
  have TA := Lib.hid (fun w1 (hw : Below w.heap.size w w1) => treeAt_any f p v pv w1 (lies_below hl hw) (ints_below hp hw) hpl)
  have HL := Lib.hid hl
  have HP := Lib.hid hp
  obtain ⟨a, cap, rfl⟩ := lies_form hl
  obtain ⟨pa, pc, rfl⟩ := ints_form hp
  have HR := Lib.hid (show nextF f p = match nextV (seqAt [] 0 f) p with | none => ([], false, 0) | some q => (q, true, 0) from (if_neg (by simpa using he)).trans (if_neg (fun h => hgo.elim (fun h2 => by rw [h.1] at h2; cases h2) (fun h2 => h.2 h2))))
  rw [he] at CH
  clear hl hs hp he
  have N0 := NC.start w (.slice pa p.length pc)
  refine callsIn_of_wp_marks Tryz.func38 rfl trivial ?_ rfl
  simp only [Tryz.ntmps38, List.size_toArray, List.length_cons, List.length_nil, Nat.reduceAdd, Nat.reduceSub, Array.replicate_succ, Array.replicate_zero, List.push_toArray, List.append_toArray, List.nil_append, List.cons_append]
  gi_wp2_with fail
  generalize (((w.alloc (.cells #[.slice pa p.length pc] 41)).alloc (.cells #[.slice none 0 0] 41)).alloc (.cells #[.bool false] 4)).alloc (.cells #[.int .i64 0] 32) = W0 at *
  refine ⟨trivial, (callsIn_wide.2 (CH.out W0 N0.bel)).mono ?_⟩
  rintro e w1 ⟨rfl, hb1⟩
  have N1 := Lib.hid (N0.below hb1)
  clear N0 hb1
  obtain ⟨c0, c1, f1, c2, f2, c3, f3, size, bel⟩ := N1.out
  gi_wp2_with fail
  refine ⟨trivial, (callsIn_wide.2 (TA.out w1 bel)).mono ?_⟩
  rintro e w2 ⟨h, ks, aa, ca, ak, ck, rfl, -, -, -, hb2⟩
  unfold aggOf
  have N2 := Lib.hid (N1.out.below hb2)
  clear c0 c1 f1 c2 f2 c3 f3 size bel hb2
  obtain ⟨c0, c1, f1, c2, f2, c3, f3, size, bel⟩ := N2.out
  have z0 : w.heap.size < w2.heap.size := by omega
  have z1 : w.heap.size + 1 < w2.heap.size := by omega
  have z2 : w.heap.size + 1 + 1 < w2.heap.size := by omega
  have z3 : w.heap.size + 1 + 1 + 1 < w2.heap.size := by omega
  generalize hbs : (placeF f p).isSome = bs at *
  cases bs with
  | true =>
    gi_wp2_with (refine ⟨trivial, ?_⟩; gi_at_call 79; refine (trees_in _ _ _ _ _).mono ?_; rintro e w' ⟨rfl, rfl⟩)
    obtain ⟨W0, hW0⟩ : ∃ W0, (w2.alloc (.cells #[.int .i64 h.k, .string ⟨h.l.toArray⟩, .slice aa h.ats.length ca, .int .i64 h.n, .int .i64 h.d, .string ⟨h.x.toArray⟩, .slice ak ks.len ck] 43)).alloc (.cells #[.slice a f.len cap] 28) = W0 := ⟨_, rfl⟩
    have hz0 : W0.heap.size = w2.heap.size + 1 + 1 := by rw [← hW0]; simp
    have hx0 : Below w2.heap.size w2 W0 := by rw [← hW0]; exact ((Below.refl _ _).alloc (Nat.le_refl _) _).alloc (by simp) _
    have hN0 : NxI w (w2.heap.size + 1 + 1) p (.slice pa p.length pc) [] (fun k => k < w2.heap.size + 1 + 1) W0 := ⟨fun _ => Iff.rfl, N2.out.below hx0, rfl, by omega⟩
    have hB0 := hN0.nc.bel
    have hc0 : W0.cell? ⟨w2.heap.size + 1, 0, none⟩ = some (.slice a f.len cap) := by rw [← hW0]; simp [go_sem]
    rw [hW0]
    clear hW0 hx0 c0 c1 f1 c2 f2 c3 f3 bel z0 z1 z2 z3
    refine range_own (gf := 123) (lb := #[.pointer (some ⟨w2.heap.size + 1, 0, none⟩)]) rfl (enters_of Tryz.func123 (by kernel_rfl) rfl)
      (trees_seq f (.slice a f.len cap) w (w2.heap.size + 1) HL.out (by omega)) (by omega) ?st (fun x args W h => by obtain ⟨_, _, rfl, _⟩ := h; rfl)
      (NxI w (w2.heap.size + 1 + 1) p (.slice pa p.length pc)) (fun c pre W => c = .ret ∧ NxX w (w2.heap.size + 1 + 1) p (.slice pa p.length pc) pre W) (fun k => k < w2.heap.size + 1 + 1) ?hI ?hIs ?hIx (fun k hk => by omega) hN0
      (fun x a' W => ∃ (b0 : Option Addr) (c0 : Nat) (pv' tv : Value) (u0 u1 u2 u7 u8 u9 u11 u12 u13 u14 u15 u16 u17 u18 u19 u20 u21 u22 u23 u24 u25 u26 u27 u28 u29 u30 : Value), x ∈ seqAt [] 0 f ∧ IntsF 0 W (.slice b0 x.p.length c0) (pathInts x.p) ∧ a' = { tmps := #[u0, u1, u2, .pointer (some ⟨w.heap.size, 0, none⟩), .pointer (some ⟨w.heap.size + 1, 0, none⟩), .pointer (some ⟨w.heap.size + 1 + 1, 0, none⟩), .pointer (some ⟨w.heap.size + 1 + 1 + 1, 0, none⟩), u7, u8, u9, .slice b0 x.p.length c0, u11, u12, u13, u14, u15, u16, u17, u18, u19, u20, u21, u22, u23, u24, u25, u26, u27, u28, u29, u30, pv', tv, undef, undef, undef, undef, undef, undef], defers := [] })
      (fun x a' W l o o' hl ho h => by
        obtain ⟨b0, c0, pv', tv, u0, u1, u2, u7, u8, u9, u11, u12, u13, u14, u15, u16, u17, u18, u19, u20, u21, u22, u23, u24, u25, u26, u27, u28, u29, u30, h1, h2, h3⟩ := h
        exact ⟨b0, c0, pv', tv, u0, u1, u2, u7, u8, u9, u11, u12, u13, u14, u15, u16, u17, u18, u19, u20, u21, u22, u23, u24, u25, u26, u27, u28, u29, u30, h1, intsF_putObj hl ho h2, h3⟩) ?assign ?body ?done ?stop
    case st =>
      intro o
      refine ⟨hB0.trans ((((Below.refl _ W0).alloc (Nat.le_refl _) _).alloc (by simp) _).mono hB0.size), ?_⟩
      simp [go_sem, hz0, hc0]
    case hI => exact fun s G W W' h sp => h.spared sp (by omega)
    case hIs =>
      rintro s G W ⟨g, nc, no, size⟩ k hk
      have := (g k).1 hk; omega
    case hIx =>
      rintro c s W l o o' hl ho hc ⟨rfl, ⟨q, a, cap, hq, nc, hi⟩, size⟩
      exact ⟨rfl, ⟨q, a, cap, hq, nc.same (fun k _ hk => World.putObj_heap_other (by omega)) (by simp) (nc.bel.trans ⟨rfl, rfl, rfl, by simp, fun k hk => World.putObj_heap_other (by omega)⟩), intsF_putObj ho hc hi⟩, by simpa using size⟩
    case assign =>
      rintro n' l pre x args G W K hI ⟨pv', tv, rfl, hp, ht, hx⟩ hz hK
      obtain ⟨b0, c0, rfl⟩ := ints_form hp
      have hp2 := intsF_of hp
      simp only [List.length_map] at hp2 ⊢
      clear hp
      gi_wp2
      exact hK _ _ (But.refl _ _) (Below.refl _ _) hI ⟨b0, c0, _, tv, _, _, _, _, _, _, _, _, _, _, _, _, _, _, _, _, _, _, _, _, _, _, _, _, _, _, hx, hp2, rfl⟩
    case body =>
      rintro n' l pre x a' G W ⟨g, nc, no, size⟩ ⟨b0, c0, pv', tv, u0, u1, u2, u7, u8, u9, u11, u12, u13, u14, u15, u16, u17, u18, u19, u20, u21, u22, u23, u24, u25, u26, u27, u28, u29, u30, hx, hpi, rfl⟩ hz
      have hG1 : G (w.heap.size + 1) := (g _).2 (by omega)
      have hG2 : G (w.heap.size + 1 + 1) := (g _).2 (by omega)
      have hG3 : G (w.heap.size + 1 + 1 + 1) := (g _).2 (by omega)
      have HG := Lib.hid g
      have hpl2 := path_len hx
      have hxl : (pathInts x.p).length ≤ 1000000 := by simp at hpl2 ⊢; omega
      have CM := Lib.hid (compareInts_any (pathInts x.p) p _ _ W (intsF_lies hpi) (ints_below HP.out nc.bel) hxl hpl)
      have CL := Lib.hid (cloneInts_any _ (pathInts x.p) W (intsF_lies hpi) hxl)
      have HNV := Lib.hid (nextV_snoc (x := x) no)
      have NCC := Lib.hid nc
      have HXL := Lib.hid (show (pathInts x.p).length = x.p.length by simp)
      clear g no hx hpl2 hxl
      obtain ⟨c0', c1, f1, c2, f2, c3, f3, size', bel⟩ := nc
      gi_wp2_with fail
      refine ⟨trivial, fun h => (by cases h), (CallsIn.inRound l (callsIn_wide.2 CM.out)).mono ?_⟩
      rintro e w3 ⟨rfl, rfl⟩
      generalize cmpL (pathInts x.p) p = c at *
      by_cases hc : 0 < c
      · have dc : decide (0 < c) = true := by simpa using hc
        have HNX := Lib.hid (HNV.out.trans (if_pos hc))
        clear hc
        gi_wp2_with fail
        refine ⟨trivial, fun h => (by cases h), (CallsIn.inRound l (callsIn_wide.2 CL.out)).mono ?_⟩
        rintro e w4 ⟨v4, rfl, hi4, hb4⟩
        obtain ⟨a4, cap4, rfl⟩ := intsF_form hi4
        have N4 := Lib.hid (NCC.out.below hb4)
        have hs4 := hb4.size
        have HB4 := Lib.hid hb4
        have HI4 := Lib.hid hi4
        clear c0' c1 f1 c2 f2 c3 f3 size' bel hb4 hi4
        obtain ⟨c0', c1, f1, c2, f2, c3, f3, size', bel⟩ := N4.out
        gi_wp2_with fail
        have N5 := N4.out.set3 (.slice a4 x.p.length cap4) (.bool true) (.int .i64 0)
        have hkp := ((Keeps.setCell (B := w.heap.size + 4) w4 (b := w.heap.size + 1) (by omega) 0 (.slice a4 x.p.length cap4)).trans (Keeps.setCell _ (b := w.heap.size + 1 + 1) (by omega) 0 (.bool true))).trans (Keeps.setCell _ (b := w.heap.size + 1 + 1 + 1) (by omega) 0 (.int .i64 0))
        have hi5 := intsF_keeps (intsF_mono (B' := w.heap.size + 4) (by have := NCC.out.size; omega) HI4.out) hkp
        have hz5 := hkp.1
        exact ⟨(((But.of_below HB4.out).trans (But.setCell _ hG1 _)).trans (But.setCell _ hG2 _)).trans (But.setCell _ hG3 _), rfl, ⟨pathInts x.p, a4, cap4, HNX.out, by rw [HXL.out]; exact N5, hi5⟩, by omega⟩
      · have dc : decide (0 < c) = false := by simpa using hc
        have HNX := Lib.hid (HNV.out.trans (if_neg hc))
        clear hc
        gi_wp2_with fail
        exact ⟨But.refl _ _, Below.refl _ _, G, fun k hk => .inl hk, HG.out, NCC.out, HNX.out, size⟩
    case done =>
      rintro D ys G W hD rfl ⟨g, nc, no, size⟩ hK
      have NCC := Lib.hid nc
      obtain ⟨c0, c1, f1, c2, f2, c3, f3, size', bel⟩ := nc
      gi_wp2
      have HN := Lib.hid (show nextF f p = ([], false, 0) by rw [HR.out, no])
      clear c0 c1 f1 c2 f2 c3 f3 bel
      have hK2 : (((W.setCell ⟨w.heap.size + 1, 0, none⟩ (.slice none 0 0)).setCell ⟨w.heap.size + 1 + 1, 0, none⟩ (.bool false)).setCell ⟨w.heap.size + 1 + 1 + 1, 0, none⟩ (.int .i64 0)).heap[D]? = some (.deferred (some [])) := (((KeepsOthers.setCell W _ _).trans (KeepsOthers.setCell _ _ _)).trans (KeepsOthers.setCell _ _ _)).same D _ hK rfl
      refine ⟨by simp, .inl ⟨_, _, rfl, run_takeDeferred hK2, ?_⟩⟩
      have hb2 := belowK_b (w := W0) (Nat.le_refl _) _ D _ (.deferred none) (by simpa using hD) hK2 rfl rfl
      have N3 := NCC.out.set3 (.slice none 0 0) (.bool false) (.int .i64 0)
      have N4 := N3.same (fun k _ hk => hb2.block k (by omega)) hb2.size (N3.bel.trans (hb2.mono (by omega)))
      generalize (((W.setCell ⟨w.heap.size + 1, 0, none⟩ (.slice none 0 0)).setCell ⟨w.heap.size + 1 + 1, 0, none⟩ (.bool false)).setCell ⟨w.heap.size + 1 + 1 + 1, 0, none⟩ (.int .i64 0)).putObj D (.deferred none) = Wf at N4 ⊢
      obtain ⟨c0, c1, f1, c2, f2, c3, f3, size', bel⟩ := N4
      refine ⟨.tuple #[.slice none 0 0, .bool false, .int .i64 0], by simp (maxDischargeDepth := 8) [results, go_sem, Tryz.results38, c1, c2, c3], ?_⟩
      rw [HN.out]
      exact ⟨none, 0, rfl, .inl ⟨_, _, rfl, rfl⟩, bel⟩
    case stop =>
      rintro D c pre W hD hp ⟨rfl, ⟨q, aq, capq, hq, nc, hi⟩, size⟩ hK
      have HN := Lib.hid (show nextF f p = (q, true, 0) by rw [HR.out, nextV_pre hp hq])
      gi_wp2
      refine ⟨by simp, .inl ⟨_, _, rfl, run_takeDeferred hK, ?_⟩⟩
      have hb2 := belowK_b (w := W0) (Nat.le_refl _) _ D _ (.deferred none) (by simpa using hD) hK rfl rfl
      have N4 := nc.same (fun k _ hk => hb2.block k (by omega)) hb2.size (nc.bel.trans (hb2.mono (by omega)))
      have hi4 := intsF_putObj (o' := .deferred none) hK rfl hi
      generalize W.putObj D (.deferred none) = Wf at N4 hi4 ⊢
      obtain ⟨c0, c1, f1, c2, f2, c3, f3, size', bel⟩ := N4
      refine ⟨.tuple #[.slice aq q.length capq, .bool true, .int .i64 0], by simp (maxDischargeDepth := 8) [results, go_sem, Tryz.results38, c1, c2, c3], ?_⟩
      rw [HN.out]
      exact ⟨aq, capq, rfl, intsF_mono (by omega) hi4, bel⟩
  | false =>
    have hp0 : p = [] := hgo.resolve_left (by decide)
    have hpd : decide ((0 : Int) < (p.length : Int)) = false := decide_eq_false (by rw [hp0]; simp)
    have hpd2 : decide (0 < p.length) = false := decide_eq_false (by rw [hp0]; simp)
    clear hp0
    gi_wp2_with (refine ⟨trivial, ?_⟩; gi_at_call 79; refine (trees_in _ _ _ _ _).mono ?_; rintro e w' ⟨rfl, rfl⟩)
    obtain ⟨W0, hW0⟩ : ∃ W0, (w2.alloc (.cells #[.int .i64 h.k, .string ⟨h.l.toArray⟩, .slice aa h.ats.length ca, .int .i64 h.n, .int .i64 h.d, .string ⟨h.x.toArray⟩, .slice ak ks.len ck] 43)).alloc (.cells #[.slice a f.len cap] 28) = W0 := ⟨_, rfl⟩
    have hz0 : W0.heap.size = w2.heap.size + 1 + 1 := by rw [← hW0]; simp
    have hx0 : Below w2.heap.size w2 W0 := by rw [← hW0]; exact ((Below.refl _ _).alloc (Nat.le_refl _) _).alloc (by simp) _
    have hN0 : NxI w (w2.heap.size + 1 + 1) p (.slice pa p.length pc) [] (fun k => k < w2.heap.size + 1 + 1) W0 := ⟨fun _ => Iff.rfl, N2.out.below hx0, rfl, by omega⟩
    have hB0 := hN0.nc.bel
    have hc0 : W0.cell? ⟨w2.heap.size + 1, 0, none⟩ = some (.slice a f.len cap) := by rw [← hW0]; simp [go_sem]
    rw [hW0]
    clear hW0 hx0 c0 c1 f1 c2 f2 c3 f3 bel z0 z1 z2 z3
    refine range_own (gf := 123) (lb := #[.pointer (some ⟨w2.heap.size + 1, 0, none⟩)]) rfl (enters_of Tryz.func123 (by kernel_rfl) rfl)
      (trees_seq f (.slice a f.len cap) w (w2.heap.size + 1) HL.out (by omega)) (by omega) ?st (fun x args W h => by obtain ⟨_, _, rfl, _⟩ := h; rfl)
      (NxI w (w2.heap.size + 1 + 1) p (.slice pa p.length pc)) (fun c pre W => c = .ret ∧ NxX w (w2.heap.size + 1 + 1) p (.slice pa p.length pc) pre W) (fun k => k < w2.heap.size + 1 + 1) ?hI ?hIs ?hIx (fun k hk => by omega) hN0
      (fun x a' W => ∃ (b0 : Option Addr) (c0 : Nat) (pv' tv : Value) (u0 u1 u2 u7 u8 u9 u11 u12 u13 u14 u15 u16 u17 u18 u19 u20 u21 u22 u23 u24 u25 u26 u27 u28 u29 u30 : Value), x ∈ seqAt [] 0 f ∧ IntsF 0 W (.slice b0 x.p.length c0) (pathInts x.p) ∧ a' = { tmps := #[u0, u1, u2, .pointer (some ⟨w.heap.size, 0, none⟩), .pointer (some ⟨w.heap.size + 1, 0, none⟩), .pointer (some ⟨w.heap.size + 1 + 1, 0, none⟩), .pointer (some ⟨w.heap.size + 1 + 1 + 1, 0, none⟩), u7, u8, u9, .slice b0 x.p.length c0, u11, u12, u13, u14, u15, u16, u17, u18, u19, u20, u21, u22, u23, u24, u25, u26, u27, u28, u29, u30, pv', tv, undef, undef, undef, undef, undef, undef], defers := [] })
      (fun x a' W l o o' hl ho h => by
        obtain ⟨b0, c0, pv', tv, u0, u1, u2, u7, u8, u9, u11, u12, u13, u14, u15, u16, u17, u18, u19, u20, u21, u22, u23, u24, u25, u26, u27, u28, u29, u30, h1, h2, h3⟩ := h
        exact ⟨b0, c0, pv', tv, u0, u1, u2, u7, u8, u9, u11, u12, u13, u14, u15, u16, u17, u18, u19, u20, u21, u22, u23, u24, u25, u26, u27, u28, u29, u30, h1, intsF_putObj hl ho h2, h3⟩) ?assign ?body ?done ?stop
    case st =>
      intro o
      refine ⟨hB0.trans ((((Below.refl _ W0).alloc (Nat.le_refl _) _).alloc (by simp) _).mono hB0.size), ?_⟩
      simp [go_sem, hz0, hc0]
    case hI => exact fun s G W W' h sp => h.spared sp (by omega)
    case hIs =>
      rintro s G W ⟨g, nc, no, size⟩ k hk
      have := (g k).1 hk; omega
    case hIx =>
      rintro c s W l o o' hl ho hc ⟨rfl, ⟨q, a, cap, hq, nc, hi⟩, size⟩
      exact ⟨rfl, ⟨q, a, cap, hq, nc.same (fun k _ hk => World.putObj_heap_other (by omega)) (by simp) (nc.bel.trans ⟨rfl, rfl, rfl, by simp, fun k hk => World.putObj_heap_other (by omega)⟩), intsF_putObj ho hc hi⟩, by simpa using size⟩
    case assign =>
      rintro n' l pre x args G W K hI ⟨pv', tv, rfl, hp, ht, hx⟩ hz hK
      obtain ⟨b0, c0, rfl⟩ := ints_form hp
      have hp2 := intsF_of hp
      simp only [List.length_map] at hp2 ⊢
      clear hp
      gi_wp2
      exact hK _ _ (But.refl _ _) (Below.refl _ _) hI ⟨b0, c0, _, tv, _, _, _, _, _, _, _, _, _, _, _, _, _, _, _, _, _, _, _, _, _, _, _, _, _, _, hx, hp2, rfl⟩
    case body =>
      rintro n' l pre x a' G W ⟨g, nc, no, size⟩ ⟨b0, c0, pv', tv, u0, u1, u2, u7, u8, u9, u11, u12, u13, u14, u15, u16, u17, u18, u19, u20, u21, u22, u23, u24, u25, u26, u27, u28, u29, u30, hx, hpi, rfl⟩ hz
      have hG1 : G (w.heap.size + 1) := (g _).2 (by omega)
      have hG2 : G (w.heap.size + 1 + 1) := (g _).2 (by omega)
      have hG3 : G (w.heap.size + 1 + 1 + 1) := (g _).2 (by omega)
      have HG := Lib.hid g
      have hpl2 := path_len hx
      have hxl : (pathInts x.p).length ≤ 1000000 := by simp at hpl2 ⊢; omega
      have CM := Lib.hid (compareInts_any (pathInts x.p) p _ _ W (intsF_lies hpi) (ints_below HP.out nc.bel) hxl hpl)
      have CL := Lib.hid (cloneInts_any _ (pathInts x.p) W (intsF_lies hpi) hxl)
      have HNV := Lib.hid (nextV_snoc (x := x) no)
      have NCC := Lib.hid nc
      have HXL := Lib.hid (show (pathInts x.p).length = x.p.length by simp)
      clear g no hx hpl2 hxl
      obtain ⟨c0', c1, f1, c2, f2, c3, f3, size', bel⟩ := nc
      gi_wp2_with fail
      refine ⟨trivial, fun h => (by cases h), (CallsIn.inRound l (callsIn_wide.2 CM.out)).mono ?_⟩
      rintro e w3 ⟨rfl, rfl⟩
      generalize cmpL (pathInts x.p) p = c at *
      by_cases hc : 0 < c
      · have dc : decide (0 < c) = true := by simpa using hc
        have HNX := Lib.hid (HNV.out.trans (if_pos hc))
        clear hc
        gi_wp2_with fail
        refine ⟨trivial, fun h => (by cases h), (CallsIn.inRound l (callsIn_wide.2 CL.out)).mono ?_⟩
        rintro e w4 ⟨v4, rfl, hi4, hb4⟩
        obtain ⟨a4, cap4, rfl⟩ := intsF_form hi4
        have N4 := Lib.hid (NCC.out.below hb4)
        have hs4 := hb4.size
        have HB4 := Lib.hid hb4
        have HI4 := Lib.hid hi4
        clear c0' c1 f1 c2 f2 c3 f3 size' bel hb4 hi4
        obtain ⟨c0', c1, f1, c2, f2, c3, f3, size', bel⟩ := N4.out
        gi_wp2_with fail
        have N5 := N4.out.set3 (.slice a4 x.p.length cap4) (.bool true) (.int .i64 0)
        have hkp := ((Keeps.setCell (B := w.heap.size + 4) w4 (b := w.heap.size + 1) (by omega) 0 (.slice a4 x.p.length cap4)).trans (Keeps.setCell _ (b := w.heap.size + 1 + 1) (by omega) 0 (.bool true))).trans (Keeps.setCell _ (b := w.heap.size + 1 + 1 + 1) (by omega) 0 (.int .i64 0))
        have hi5 := intsF_keeps (intsF_mono (B' := w.heap.size + 4) (by have := NCC.out.size; omega) HI4.out) hkp
        have hz5 := hkp.1
        exact ⟨(((But.of_below HB4.out).trans (But.setCell _ hG1 _)).trans (But.setCell _ hG2 _)).trans (But.setCell _ hG3 _), rfl, ⟨pathInts x.p, a4, cap4, HNX.out, by rw [HXL.out]; exact N5, hi5⟩, by omega⟩
      · have dc : decide (0 < c) = false := by simpa using hc
        have HNX := Lib.hid (HNV.out.trans (if_neg hc))
        clear hc
        gi_wp2_with fail
        exact ⟨But.refl _ _, Below.refl _ _, G, fun k hk => .inl hk, HG.out, NCC.out, HNX.out, size⟩
    case done =>
      rintro D ys G W hD rfl ⟨g, nc, no, size⟩ hK
      have NCC := Lib.hid nc
      obtain ⟨c0, c1, f1, c2, f2, c3, f3, size', bel⟩ := nc
      gi_wp2
      have HN := Lib.hid (show nextF f p = ([], false, 0) by rw [HR.out, no])
      clear c0 c1 f1 c2 f2 c3 f3 bel
      have hK2 : (((W.setCell ⟨w.heap.size + 1, 0, none⟩ (.slice none 0 0)).setCell ⟨w.heap.size + 1 + 1, 0, none⟩ (.bool false)).setCell ⟨w.heap.size + 1 + 1 + 1, 0, none⟩ (.int .i64 0)).heap[D]? = some (.deferred (some [])) := (((KeepsOthers.setCell W _ _).trans (KeepsOthers.setCell _ _ _)).trans (KeepsOthers.setCell _ _ _)).same D _ hK rfl
      refine ⟨by simp, .inl ⟨_, _, rfl, run_takeDeferred hK2, ?_⟩⟩
      have hb2 := belowK_b (w := W0) (Nat.le_refl _) _ D _ (.deferred none) (by simpa using hD) hK2 rfl rfl
      have N3 := NCC.out.set3 (.slice none 0 0) (.bool false) (.int .i64 0)
      have N4 := N3.same (fun k _ hk => hb2.block k (by omega)) hb2.size (N3.bel.trans (hb2.mono (by omega)))
      generalize (((W.setCell ⟨w.heap.size + 1, 0, none⟩ (.slice none 0 0)).setCell ⟨w.heap.size + 1 + 1, 0, none⟩ (.bool false)).setCell ⟨w.heap.size + 1 + 1 + 1, 0, none⟩ (.int .i64 0)).putObj D (.deferred none) = Wf at N4 ⊢
      obtain ⟨c0, c1, f1, c2, f2, c3, f3, size', bel⟩ := N4
      refine ⟨.tuple #[.slice none 0 0, .bool false, .int .i64 0], by simp (maxDischargeDepth := 8) [results, go_sem, Tryz.results38, c1, c2, c3], ?_⟩
      rw [HN.out]
      exact ⟨none, 0, rfl, .inl ⟨_, _, rfl, rfl⟩, bel⟩
    case stop =>
      rintro D c pre W hD hp ⟨rfl, ⟨q, aq, capq, hq, nc, hi⟩, size⟩ hK
      have HN := Lib.hid (show nextF f p = (q, true, 0) by rw [HR.out, nextV_pre hp hq])
      gi_wp2
      refine ⟨by simp, .inl ⟨_, _, rfl, run_takeDeferred hK, ?_⟩⟩
      have hb2 := belowK_b (w := W0) (Nat.le_refl _) _ D _ (.deferred none) (by simpa using hD) hK rfl rfl
      have N4 := nc.same (fun k _ hk => hb2.block k (by omega)) hb2.size (nc.bel.trans (hb2.mono (by omega)))
      have hi4 := intsF_putObj (o' := .deferred none) hK rfl hi
      generalize W.putObj D (.deferred none) = Wf at N4 hi4 ⊢
      obtain ⟨c0, c1, f1, c2, f2, c3, f3, size', bel⟩ := N4
      refine ⟨.tuple #[.slice aq q.length capq, .bool true, .int .i64 0], by simp (maxDischargeDepth := 8) [results, go_sem, Tryz.results38, c1, c2, c3], ?_⟩
      rw [HN.out]
      exact ⟨aq, capq, rfl, intsF_mono (by omega) hi4, bel⟩

theorem next_any (f : Fo) (p : List Int) (v pv : Value) (w : World) (hl : Lies w v f) (hs : Small f) (hp : IntsLie w pv p) (hpl : p.length ≤ 1000000) :
    Calls Tryz.prog 38 #[v, pv] w (NextRes w (nextF f p)) := by
  by_cases he : foErr f = 0
  · by_cases h : (placeF f p).isSome = false ∧ p ≠ []
    · exact next_absent f p v pv w hl hs hp hpl he h.1 h.2
    · refine callsIn_wide.1 (next_in f p v pv w hl hs hp hpl he ?_)
      by_cases hp0 : p = []
      · exact .inr hp0
      · refine .inl ?_
        cases hq : (placeF f p).isSome with
        | true => rfl
        | false => exact absurd ⟨hq, hp0⟩ h
  · exact next_err f p v pv w hl hs hp he
end Go.Proofs.YtcgedpfolloinaaGreat

namespace Go.Proofs.YtcgedpfolloinaaGreat
open Go.RowKit

def hdVal (h : Hd) (aa : Option Addr) (ca : Nat) : Value := .agg #[.int .i64 h.k, .string ⟨h.l.toArray⟩, .slice aa h.ats.length ca, .int .i64 h.n, .int .i64 h.d, .string ⟨h.x.toArray⟩]

set_option maxRecDepth 100000 in
set_option maxHeartbeats 2000000 in
theorem sameHead_refl (h : Hd) (aa : Option Addr) (ca : Nat) (ab : Option Addr) (cb : Nat) (w : World) (ha : AttrsLie w (.slice aa h.ats.length ca) h.ats) (hb : AttrsLie w (.slice ab h.ats.length cb) h.ats) :
    Calls Tryz.prog 63 #[hdVal h aa ca, hdVal h ab cb] w fun e w' => e = .returned (.bool true) ∧ Below w.heap.size w w' := by
  have HA := Lib.hid ha
  have HB := Lib.hid hb
  have hal : h.ats.length ≤ 4398046510976 := by
    rcases ha with ⟨_, _, _, h0⟩ | ⟨_, _, _, _, _, h0, _⟩
    · rw [h0]; simp
    · exact h0
  clear ha hb
  unfold hdVal
  go_enter Tryz.func63, Tryz.ntmps63
  go_wp2_with fail
  go_loopw [5] (fun i wr => ∃ k : Nat, i = .int .i64 k ∧ k ≤ h.ats.length ∧ wr.cell? ⟨w.heap.size, 2, none⟩ = some (.slice aa h.ats.length ca) ∧ wr.cell? ⟨w.heap.size + 1, 2, none⟩ = some (.slice ab h.ats.length cb) ∧ w.heap.size + 1 < wr.heap.size ∧ Below w.heap.size w wr) (fun i _ => h.ats.length - (intOf i).toNat)
  case atStart => exact ⟨0, rfl, Nat.zero_le _, by simp [go_sem], by simp [go_sem], by simp, by ((repeat' (first | exact Below.refl _ _ | assumption | refine Below.setCell ?_ ?_ _ | refine bdrewN ?_ _ | refine Below.drew ?_ | refine Below.alloc ?_ ?_ _ | refine bbehind ?_ (by assumption) ?_)); all_goals first | (simp; done) | (simp; omega) | omega)⟩
  case round =>
    obtain ⟨k, rfl, hk, c1, c2, hsz, hbw⟩ := hrel
    have hz0 : w.heap.size < wr.heap.size := by omega
    by_cases hlt : k < h.ats.length
    · have dk : decide (k < h.ats.length) = true := by simpa using hlt
      obtain ⟨ba, oa, capa, hs, -, -, hba, hca⟩ := attrs_row HA.out (by omega)
      simp only [Value.slice.injEq] at hs
      obtain ⟨rfl, -, rfl⟩ := hs
      obtain ⟨bb, ob, capb, hs, -, -, hbb, hcb⟩ := attrs_row HB.out (by omega)
      simp only [Value.slice.injEq] at hs
      obtain ⟨rfl, -, rfl⟩ := hs
      obtain ⟨q1, q2⟩ := hca k hlt
      obtain ⟨q3, q4⟩ := hcb k hlt
      have q1 := (hbw.cell (p := ⟨ba, oa + k * 2, none⟩) hba).trans q1
      have q2 := (hbw.cell (p := ⟨ba, oa + k * 2 + 1, none⟩) hba).trans q2
      have q3 := (hbw.cell (p := ⟨bb, ob + k * 2, none⟩) hbb).trans q3
      have q4 := (hbw.cell (p := ⟨bb, ob + k * 2 + 1, none⟩) hbb).trans q4
      have k1 : ba < wr.heap.size := by omega
      have k2 : bb < wr.heap.size := by omega
      clear hca hcb
      generalize (h.ats.getD k ([], [])).1 = nm at *
      generalize (h.ats.getD k ([], [])).2 = vl at *
      go_wp2_with fail
      refine wp_region_quiet_all (fun w' => ∃ x : Lower _, w' = x.val) (by kernel_rfl) (by kernel_rfl) ⟨⟨_, (Below.refl _ _).drew⟩, rfl⟩ ?_
      repeat (go_big_quiet_step (fail))
      refine wpQuiet_nil ?_
      intro w2 hx2
      obtain ⟨x2, hx2⟩ := hx2
      have hb2 := x2.prop
      rw [← hx2] at hb2
      clear hx2 x2
      obtain ⟨hc2, hf2⟩ := bcell hb2
      have hs2 := hb2.size
      try simp at hs2
      try have hz20 : w.heap.size < w2.heap.size := by omega
      try have hz21 : w.heap.size + 1 < w2.heap.size := by omega
      try have hz22 : w.heap.size + 1 + 1 < w2.heap.size := by omega
      try have hz23 : w.heap.size + 1 + 1 + 1 < w2.heap.size := by omega
      try have hz24 : w.heap.size + 1 + 1 + 1 + 1 < w2.heap.size := by omega
      try have hz25 : w.heap.size + 1 + 1 + 1 + 1 + 1 < w2.heap.size := by omega
      try have hy1_2 : w1.heap.size < w2.heap.size := by omega
      go_wp2_with fail
      go_roundw
      case rel => exact ⟨k + 1, by go_num, by omega, by rw [hc2 _ _ hz0]; exact c1, by rw [hc2 _ _ hsz]; exact c2, by omega, hbw.trans (hb2.mono hbw.size)⟩
      case measure => simp [intOf]; omega
    · have dk : decide (k < h.ats.length) = false := by simpa using hlt
      go_wp2_with fail
      go_ret
      exact ⟨rfl, hbw⟩

set_option maxRecDepth 100000 in
set_option maxHeartbeats 2000000 in
theorem same_of (f : Fo) (v u : Value) (w : World) (hl : Lies w v f) (hg : Lies w u f)
    (HK : ∀ k h ks, k < f.len → f.drop k = .cons h ks (f.drop (k + 1)) → ∀ v u w, Lies w v ks → Lies w u ks → Calls Tryz.prog 35 #[v, u] w fun e w' => e = .returned (.bool true) ∧ Below w.heap.size w w') :
    Calls Tryz.prog 35 #[v, u] w fun e w' => e = .returned (.bool true) ∧ Below w.heap.size w w' := by
  have HL := Lib.hid hl
  have HG := Lib.hid hg
  have HKK := Lib.hid HK
  have hfl := lies_len hl
  obtain ⟨a, cap, rfl⟩ := lies_form hl
  obtain ⟨a', cap', rfl⟩ := lies_form hg
  clear hl hg HK
  go_enter Tryz.func35, Tryz.ntmps35
  go_wp2_with fail
  go_loopw [5] (fun i wr => ∃ k : Nat, i = .int .i64 k ∧ k ≤ f.len ∧ Below w.heap.size w wr) (fun i _ => f.len - (intOf i).toNat)
  case atStart => exact ⟨0, rfl, Nat.zero_le _, Below.refl _ _⟩
  case round =>
    obtain ⟨k, rfl, hk, hbw⟩ := hrel
    have hsz := hbw.size
    by_cases hlt : k < f.len
    · have dk : decide (k < f.len) = true := by simpa using hlt
      obtain ⟨bf, of, cp, hs, -, -, hbf, hrow⟩ := lies_row HL.out (by omega)
      simp only [Value.slice.injEq] at hs
      obtain ⟨rfl, -, rfl⟩ := hs
      obtain ⟨bg, og, cp', hs, -, -, hbg, hrow'⟩ := lies_row HG.out (by omega)
      simp only [Value.slice.injEq] at hs
      obtain ⟨rfl, -, rfl⟩ := hs
      obtain ⟨hd, ks, e, ⟨qa0, qa1, ⟨va, qa2, ha⟩, qa3, qa4, qa5⟩, vk, qa6, hlk⟩ := row_get hrow hlt
      obtain ⟨hd', ks', e', ⟨qb0, qb1, ⟨vb, qb2, hb⟩, qb3, qb4, qb5⟩, vl, qb6, hlk'⟩ := row_get hrow' hlt
      rw [e] at e'
      cases e'
      obtain ⟨aa, ca, rfl⟩ := attrs_form ha
      obtain ⟨ab, cb, rfl⟩ := attrs_form hb
      obtain ⟨ak, ck, rfl⟩ := lies_form hlk
      obtain ⟨al, cl, rfl⟩ := lies_form hlk'
      have ra0 := (hbw.cell (p := ⟨bf, of + k * 7, none⟩) hbf).trans qa0
      have ra1 := (hbw.cell (p := ⟨bf, of + k * 7 + 1, none⟩) hbf).trans qa1
      have ra2 := (hbw.cell (p := ⟨bf, of + k * 7 + 2, none⟩) hbf).trans qa2
      have ra3 := (hbw.cell (p := ⟨bf, of + k * 7 + 3, none⟩) hbf).trans qa3
      have ra4 := (hbw.cell (p := ⟨bf, of + k * 7 + 4, none⟩) hbf).trans qa4
      have ra5 := (hbw.cell (p := ⟨bf, of + k * 7 + 5, none⟩) hbf).trans qa5
      have ra6 := (hbw.cell (p := ⟨bf, of + k * 7 + 6, none⟩) hbf).trans qa6
      have rb0 := (hbw.cell (p := ⟨bg, og + k * 7, none⟩) hbg).trans qb0
      have rb1 := (hbw.cell (p := ⟨bg, og + k * 7 + 1, none⟩) hbg).trans qb1
      have rb2 := (hbw.cell (p := ⟨bg, og + k * 7 + 2, none⟩) hbg).trans qb2
      have rb3 := (hbw.cell (p := ⟨bg, og + k * 7 + 3, none⟩) hbg).trans qb3
      have rb4 := (hbw.cell (p := ⟨bg, og + k * 7 + 4, none⟩) hbg).trans qb4
      have rb5 := (hbw.cell (p := ⟨bg, og + k * 7 + 5, none⟩) hbg).trans qb5
      have rb6 := (hbw.cell (p := ⟨bg, og + k * 7 + 6, none⟩) hbg).trans qb6
      have k1 : bf < wr.heap.size := by omega
      have k2 : bg < wr.heap.size := by omega
      have SH := Lib.hid (fun (x : Lower wr) => calls_lower x (sameHead_refl hd aa ca ab cb x.val (attrs_below (attrs_below ha hbw) x.prop) (attrs_below (attrs_below hb hbw) x.prop)))
      have SK := Lib.hid (fun (x : Lower wr) => calls_lower x (HKK.out k hd ks hlt e _ _ x.val (lies_below (lies_below hlk hbw) x.prop) (lies_below (lies_below hlk' hbw) x.prop)))
      unfold hdVal at SH
      clear e hrow hrow' ha hb hlk hlk' qa0 qa1 qa2 qa3 qa4 qa5 qa6 qb0 qb1 qb2 qb3 qb4 qb5 qb6
      go_wp2_with fail
      refine wp_region_quiet_all (fun w' => ∃ x : Lower _, w' = x.val) (by kernel_rfl) (by kernel_rfl) ⟨⟨_, (Below.refl _ _).drew⟩, rfl⟩ ?_
      repeat (go_big_quiet_step (first | (go_at_call 63; exact SH.out _) | (go_at_call 35; exact SK.out _)))
      refine wpQuiet_nil ?_
      intro w2 hx2
      obtain ⟨x2, hx2⟩ := hx2
      have hb2 := x2.prop
      rw [← hx2] at hb2
      clear hx2 x2
      obtain ⟨hc2, hf2⟩ := bcell hb2
      have hs2 := hb2.size
      try simp at hs2
      try have hz20 : w.heap.size < w2.heap.size := by omega
      try have hz21 : w.heap.size + 1 < w2.heap.size := by omega
      try have hz22 : w.heap.size + 1 + 1 < w2.heap.size := by omega
      try have hz23 : w.heap.size + 1 + 1 + 1 < w2.heap.size := by omega
      try have hz24 : w.heap.size + 1 + 1 + 1 + 1 < w2.heap.size := by omega
      try have hz25 : w.heap.size + 1 + 1 + 1 + 1 + 1 < w2.heap.size := by omega
      try have hy1_2 : w1.heap.size < w2.heap.size := by omega
      go_wp2_with fail
      go_roundw
      case rel => exact ⟨k + 1, by go_num, by omega, hbw.trans (hb2.mono hbw.size)⟩
      case measure => simp [intOf]; omega
    · have dk : decide (k < f.len) = false := by simpa using hlt
      go_wp2_with fail
      go_ret
      exact ⟨rfl, hbw⟩
theorem same_refl : ∀ (N : Nat) (f : Fo), f.size ≤ N → ∀ (v u : Value) (w : World), Lies w v f → Lies w u f → Calls Tryz.prog 35 #[v, u] w fun e w' => e = .returned (.bool true) ∧ Below w.heap.size w w' := by
  intro N
  induction N with
  | zero =>
    intro f hf v u w hl hg
    exact same_of f v u w hl hg (fun k h ks hk => by have := Fo.len_le_size f; omega)
  | succ N ih =>
    intro f hf v u w hl hg
    refine same_of f v u w hl hg (fun k h ks hk e v u w hl hg => ih ks ?_ v u w hl hg)
    have := Fo.size_app (f.take k) (f.drop k)
    rw [Fo.take_app_drop, e] at this
    simp only [Fo.size] at this
    omega
end Go.Proofs.YtcgedpfolloinaaGreat

namespace Go.Proofs.YtcgedpfolloinaaGreat
open Go.RowKit

theorem ints_three {W : World} {b : Nat} {T : TypeId} {x y z : Int} (h : W.heap[b]? = some (.cells #[.int .i64 x, .int .i64 y, .int .i64 z] T (0, 0))) (hb : b < W.heap.size) : IntsLie W (.slice (some ⟨b, 0, none⟩) 3 3) [x, y, z] := by
  refine .inr ⟨b, 0, 3, rfl, by simp, hb, fun k hk => ?_⟩
  match k, hk with
  | 0, _ => exact cell_of_block h rfl
  | 1, _ => exact cell_of_block h rfl
  | 2, _ => exact cell_of_block h rfl
theorem ex_small : Small exF := readP_small (l := exText) (by decide) read_ex
theorem ex_size : sizeT exF = (7, 0) := by decide +kernel
theorem ex_at : atErr exF [0, 1, 1] = 0 := by decide +kernel
theorem ex_place : placeF exF [0, 1, 1] = some (numHd (-2) 1, .nil) := by kernel_rfl
theorem ex_print : printF exF = (exText, 0) := by decide +kernel
theorem ex_next : nextF exF [0, 1, 1] = ([0, 2], true, 0) := by decide +kernel
theorem ex_alike : alikeB [0, 2] [0, 2] = true := by decide

set_option maxRecDepth 100000 in
set_option maxHeartbeats 8000000 in
theorem grown_any (w : World) : Calls Tryz.prog 16 #[] w fun e w' => e = .returned (.bool true) ∧ Below w.heap.size w w' := by
  have EX := Lib.hid (fun w => example_any w)
  have SZ := Lib.hid (fun v W (h : Lies W v exF) => tsize_any exF v W h ex_small)
  have AT := Lib.hid (fun v u W (h : Lies W v exF) (hp : IntsLie W u [0, 1, 1]) => at_any exF [0, 1, 1] v u W h ex_small hp (by decide))
  have PR := Lib.hid (fun v W (h : Lies W v exF) => print_tree exF v W h ex_small)
  have NX := Lib.hid (fun v u W (h : Lies W v exF) (hp : IntsLie W u [0, 1, 1]) => next_any exF [0, 1, 1] v u W h ex_small hp (by decide))
  have PA := Lib.hid (fun W => tparse_any exText W (by decide))
  have AL := Lib.hid (fun v u W (h1 : IntsLie W v [0, 2]) (h2 : IntsLie W u [0, 2]) => alike_any v u [0, 2] [0, 2] W h1 h2 (by decide) (by decide))
  have SR := Lib.hid (fun v u W (h1 : Lies W v exF) (h2 : Lies W u exF) => same_refl 100000 exF ex_small.size v u W h1 h2)
  rw [ex_size] at SZ
  rw [ex_print] at PR
  rw [ex_next] at NX
  rw [ex_alike] at AL
  simp only [parsed_ex] at PA
  have exT : exText = [100, 111, 99, 40, 108, 97, 110, 103, 61, 34, 101, 110, 34, 41, 123, 34, 104, 105, 34, 32, 98, 123, 51, 47, 52, 32, 45, 50, 125, 32, 98, 125, 32, 55] := rfl
  go_enter Tryz.func16, Tryz.ntmps16
  go_wp2_with fail
  refine (EX.out _).mono ?_
  rintro e w1 ⟨a, rfl, hl1, hb1⟩
  have B1 := Lib.hid hb1
  have L1 := Lib.hid hl1
  have hs1 := hb1.size
  clear hb1 hl1
  go_wp2_with fail
  refine (SZ.out _ _ L1.out).mono ?_
  rintro e w2 ⟨rfl, hb2⟩
  have L2 := Lib.hid (lies_below L1.out hb2)
  have B2 := Lib.hid (B1.out.trans (hb2.mono hs1))
  clear hb2
  go_wp2_with fail
  have I3 : IntsLie (w2.alloc (.cells #[.int .i64 0, .int .i64 1, .int .i64 1] 3)) (.slice (some ⟨w2.heap.size, 0, none⟩) 3 3) [0, 1, 1] := ints_three (World.alloc_heap_new _ _) (by simp)
  have L2' := lies_below L2.out ((Below.refl _ w2).alloc (Nat.le_refl _) (.cells #[.int .i64 0, .int .i64 1, .int .i64 1] 3))
  have B2' : Below w.heap.size w (w2.alloc (.cells #[.int .i64 0, .int .i64 1, .int .i64 1] 3)) := B2.out.alloc B2.out.size _
  generalize w2.alloc (.cells #[.int .i64 0, .int .i64 1, .int .i64 1] 3) = W3 at *
  generalize (Value.slice (some ⟨w2.heap.size, 0, none⟩) 3 3) = u3 at *
  refine (AT.out _ _ _ L2' I3).mono ?_
  rintro e w3 ⟨h, ks, aa, ca, ak, ck, rfl, _, _, hor, hb3⟩
  rw [ex_at, ex_place] at hor
  obtain ⟨rfl, rfl⟩ : h = numHd (-2) 1 ∧ ks = .nil := by
    rcases hor with ⟨_, h1⟩ | ⟨h1, _⟩
    · have := Prod.mk.inj (Option.some.inj h1); exact ⟨this.1.symm, this.2.symm⟩
    · exact absurd rfl h1
  have L3 := Lib.hid (lies_below L2' hb3)
  have B3 := Lib.hid (B2'.trans (hb3.mono B2'.size))
  rw [ex_at]
  clear hor hb3 L2' I3 B2' L2 B2
  unfold aggOf numHd
  go_wp2_with fail
  generalize hW4 : w3.alloc _ = W4
  have K4 := Lib.hid (show W4.heap[w3.heap.size]? = some (.cells #[.int .i64 1, .string ⟨#[]⟩, .slice aa 0 ca, .int .i64 (-2), .int .i64 1, .string ⟨#[]⟩, .slice ak 0 ck] 43 (0, 0)) by rw [← hW4]; exact World.alloc_heap_new _ _)
  have hb4 : Below w3.heap.size w3 W4 := by rw [← hW4]; exact (Below.refl _ w3).alloc (Nat.le_refl _) _
  have L4 := Lib.hid (lies_below L3.out hb4)
  have B4 := Lib.hid (B3.out.trans (hb4.mono B3.out.size))
  generalize w3.heap.size = T4 at *
  clear hb4 hW4
  refine (PR.out _ _ L4.out).mono ?_
  rintro e w5 ⟨rfl, hb5⟩
  have h4 := (Array.getElem?_eq_some_iff.1 K4.out).1
  have K5 := Lib.hid ((hb5.block _ h4).trans K4.out)
  have L5 := Lib.hid (lies_below L4.out hb5)
  have B5 := Lib.hid (B4.out.trans (hb5.mono B4.out.size))
  have hs5 := hb5.size
  clear hb5 K4 L4 B4
  go_wp2_with fail
  have I6 : IntsLie (w5.alloc (.cells #[.int .i64 0, .int .i64 1, .int .i64 1] 3)) (.slice (some ⟨w5.heap.size, 0, none⟩) 3 3) [0, 1, 1] := ints_three (World.alloc_heap_new _ _) (by simp)
  have hb6 : Below w5.heap.size w5 (w5.alloc (.cells #[.int .i64 0, .int .i64 1, .int .i64 1] 3)) := (Below.refl _ w5).alloc (Nat.le_refl _) _
  have L6 := lies_below L5.out hb6
  have B6 := B5.out.trans (hb6.mono B5.out.size)
  have K6 := (hb6.block T4 (by omega)).trans K5.out
  have hs6 := hb6.size
  generalize w5.alloc (.cells #[.int .i64 0, .int .i64 1, .int .i64 1] 3) = W6 at *
  generalize (Value.slice (some ⟨w5.heap.size, 0, none⟩) 3 3) = u6 at *
  refine (NX.out _ _ _ L6 I6).mono ?_
  rintro e w7 ⟨a7, c7, rfl, hi7, hb7⟩
  have I7 := Lib.hid hi7
  have K7 := Lib.hid ((hb7.block T4 (by omega)).trans K6)
  have L7 := Lib.hid (lies_below L6 hb7)
  have B7 := Lib.hid (B6.trans (hb7.mono B6.size))
  have hs7 := hb7.size
  clear hb7 hb6 K6 L6 B6 I6 hi7
  simp only
  go_wp2_with fail
  refine (PA.out _).mono ?_
  rintro e w8 ⟨v8, rfl, hv8, hb8⟩
  obtain ⟨a8, c8, rfl⟩ := liesF_form hv8
  have I8 := Lib.hid (intsF_keeps I7.out (Keeps.of_below hb8))
  have V8 := Lib.hid (liesF_lies hv8)
  have K8 := (hb8.block T4 (by omega)).trans K7.out
  have L8 := Lib.hid (lies_below L7.out hb8)
  have B8 := Lib.hid (B7.out.trans (hb8.mono B7.out.size))
  have hs8 := hb8.size
  have c3 : w8.cell? ⟨T4, 3, none⟩ = some (.int .i64 (-2)) := cell_of_block K8 rfl
  have c4 : w8.cell? ⟨T4, 4, none⟩ = some (.int .i64 1) := cell_of_block K8 rfl
  clear hb8 hv8 K8 I7 L7 K7 B7
  go_wp2_with fail
  have I9 : IntsLie (w8.alloc (.cells #[.int .i64 0, .int .i64 2] 3)) (.slice (some ⟨w8.heap.size, 0, none⟩) 2 2) [0, 2] := ints_pair (World.alloc_heap_new _ _) (by simp)
  have hb9 : Below w8.heap.size w8 (w8.alloc (.cells #[.int .i64 0, .int .i64 2] 3)) := (Below.refl _ w8).alloc (Nat.le_refl _) _
  have J9 := ints_below (intsF_lies I8.out) hb9
  have L9 := lies_below L8.out hb9
  have V9 := lies_below V8.out hb9
  have B9 := B8.out.trans (hb9.mono B8.out.size)
  generalize w8.alloc (.cells #[.int .i64 0, .int .i64 2] 3) = W9 at *
  generalize (Value.slice (some ⟨w8.heap.size, 0, none⟩) 2 2) = u9 at *
  refine (AL.out _ _ _ J9 I9).mono ?_
  rintro e w10 ⟨rfl, hb10⟩
  have L10 := Lib.hid (lies_below L9 hb10)
  have V10 := Lib.hid (lies_below V9 hb10)
  have B10 := Lib.hid (B9.trans (hb10.mono B9.size))
  clear hb10 hb9 J9 I9 L9 V9 B9
  go_wp2_with fail
  refine (SR.out _ _ _ L10.out V10.out).mono ?_
  rintro e w11 ⟨rfl, hb11⟩
  have B11 := Lib.hid (B10.out.trans (hb11.mono B10.out.size))
  clear hb11
  go_wp2_with fail
  go_ret
  exact ⟨rfl, B11.out⟩
end Go.Proofs.YtcgedpfolloinaaGreat

namespace Go.Proofs.YtcgedpfolloinaaGreat
open Go.RowKit Go.BigFrame

@[go_sem] theorem str_app (a b : List UInt8) : (⟨a.toArray⟩ ++ ⟨b.toArray⟩ : ByteArray) = ⟨(a ++ b).toArray⟩ := by
  apply ByteArray.ext; rw [ByteArray.data_append]; simp
end Go.Proofs.YtcgedpfolloinaaGreat

namespace Go.Proofs.YtcgedpfolloinaaGreat
open Go.RowKit Go.BigFrame

def lenOf : Value → Nat | .string b => b.data.size | _ => 0
end Go.Proofs.YtcgedpfolloinaaGreat

namespace Go.Proofs.YtcgedpfolloinaaGreat
open Go.RowKit

/-- a head's value. -/
def hdA (h : Hd) (va : Value) : Value := .agg #[.int .i64 h.k, .string ⟨h.l.toArray⟩, va, .int .i64 h.n, .int .i64 h.d, .string ⟨h.x.toArray⟩]

end Go.Proofs.YtcgedpfolloinaaGreat

namespace Go.Proofs.YtcgedpfolloinaaGreat
open Go.RowKit

def wrapV (h : Hd) (f : Fo) : Fo × Int :=
  if firstNZ [headErr h, foErr f] = 0 then (if h.k = 0 then inBnd (.cons h f .nil) else (.nil, 9)) else (.nil, firstNZ [headErr h, foErr f])

set_option maxRecDepth 100000 in
set_option maxHeartbeats 8000000 in
theorem twrap_any (h : Hd) (va : Value) (f : Fo) (v : Value) (w : World) (ha : AttrsLie w va h.ats) (hl : Lies w v f) (hf : HdFit h) (hs : Small f) :
    Calls Tryz.prog 52 #[hdA h va, v] w (FoE w (wrapV h f)) := by
  have CH := Lib.hid (fun w1 (hw : Below w.heap.size w w1) => thead_any h _ w1 (attrs_below ha hw) hf)
  have CF := Lib.hid (fun w1 (hw : Below w.heap.size w w1) => tcheck_any f v w1 (lies_below hl hw) hs)
  obtain ⟨aa, ca, rfl⟩ := attrs_form ha
  obtain ⟨a, cap, rfl⟩ := lies_form hl
  have CT := Lib.hid (fun w1 (hw : Below w.heap.size w w1) => cloneTree_any h f aa ca a cap w1 (attrs_below ha hw) (lies_below hl hw))
  obtain ⟨R, hR⟩ : ∃ R, wrapV h f = R := ⟨_, rfl⟩
  rw [hR]
  have HR := Lib.hid hR.symm
  have hsz : f.size + 1 ≤ 1000000 := by have := hs.1; omega
  clear ha hl hs hf hR
  unfold wrapV at HR
  unfold aggOf at CT
  unfold hdA
  generalize headErr h = e1 at *
  generalize foErr f = e2 at *
  go_enter Tryz.func52, Tryz.ntmps52
  go_upto_region 1 with fail
  have kz : (w.alloc (.cells #[.int .i64 h.k, .string ⟨h.l.toArray⟩, .slice aa h.ats.length ca, .int .i64 h.n, .int .i64 h.d, .string ⟨h.x.toArray⟩] 27)).heap[w.heap.size]? = some (.cells #[.int .i64 h.k, .string ⟨h.l.toArray⟩, .slice aa h.ats.length ca, .int .i64 h.n, .int .i64 h.d, .string ⟨h.x.toArray⟩] 27) := World.alloc_heap_new w (.cells #[.int .i64 h.k, .string ⟨h.l.toArray⟩, .slice aa h.ats.length ca, .int .i64 h.n, .int .i64 h.d, .string ⟨h.x.toArray⟩] 27)
  have B0 : Below w.heap.size w (w.alloc (.cells #[.int .i64 h.k, .string ⟨h.l.toArray⟩, .slice aa h.ats.length ca, .int .i64 h.n, .int .i64 h.d, .string ⟨h.x.toArray⟩] 27)) := by ((repeat' (first | exact Below.refl _ _ | assumption | refine Below.setCell ?_ ?_ _ | refine bdrewN ?_ _ | refine Below.drew ?_ | refine Below.alloc ?_ ?_ _ | refine bbehind ?_ (by assumption) ?_)); all_goals first | (simp; done) | (simp; omega) | omega)
  have hs0 : w.heap.size + 1 ≤ (w.alloc (.cells #[.int .i64 h.k, .string ⟨h.l.toArray⟩, .slice aa h.ats.length ca, .int .i64 h.n, .int .i64 h.d, .string ⟨h.x.toArray⟩] 27)).heap.size := by simp
  generalize w.alloc (.cells #[.int .i64 h.k, .string ⟨h.l.toArray⟩, .slice aa h.ats.length ca, .int .i64 h.n, .int .i64 h.d, .string ⟨h.x.toArray⟩] 27) = W at *
  have d0 : W.cell? ⟨w.heap.size, 0, none⟩ = some (.int .i64 h.k) := cell_of_block kz rfl
  have d1 : W.cell? ⟨w.heap.size, 1, none⟩ = some (.string ⟨h.l.toArray⟩) := cell_of_block kz rfl
  have d2 : W.cell? ⟨w.heap.size, 2, none⟩ = some (.slice aa h.ats.length ca) := cell_of_block kz rfl
  have d3 : W.cell? ⟨w.heap.size, 3, none⟩ = some (.int .i64 h.n) := cell_of_block kz rfl
  have d4 : W.cell? ⟨w.heap.size, 4, none⟩ = some (.int .i64 h.d) := cell_of_block kz rfl
  have d5 : W.cell? ⟨w.heap.size, 5, none⟩ = some (.string ⟨h.x.toArray⟩) := cell_of_block kz rfl

  have KZ := Lib.hid kz
  clear kz
  go_wp2_with fail
  refine (CH.out W B0).mono ?_
  rintro e w1 ⟨rfl, hb1⟩
  have B1 := B0.trans (hb1.mono B0.size)
  have K1 := Lib.hid ((hb1.block _ (by omega)).trans KZ.out)
  have hs1 := hb1.size
  clear hb1 d0 d1 d2 d3 d4 d5
  go_wp2_with fail
  refine (CF.out w1 B1).mono ?_
  rintro e w2 ⟨rfl, hb2⟩
  have B2 := B1.trans (hb2.mono B1.size)
  have K2 := Lib.hid ((hb2.block _ (by omega)).trans K1.out)
  have hs2 := hb2.size
  clear hb2
  go_wp2_with fail
  have B3 : Below w.heap.size w (w2.alloc (.cells #[.int .i64 e1, .int .i64 e2] 32)) := B2.alloc B2.size _
  have hi3 := ints_pair (World.alloc_heap_new w2 (.cells #[.int .i64 e1, .int .i64 e2] 32)) (by simp)
  have k3 : (w2.alloc (.cells #[.int .i64 e1, .int .i64 e2] 32)).heap[w.heap.size]? = _ := (Below.heap_alloc _ _ _ (by omega)).trans K2.out
  generalize w2.alloc (.cells #[.int .i64 e1, .int .i64 e2] 32) = w3 at *
  refine (terr_any _ _ _ hi3 (by simp)).mono ?_
  rintro e w4 ⟨rfl, hw⟩
  obtain rfl := hw
  generalize firstNZ [e1, e2] = ee at *
  clear hi3 B2
  have g0 : w3.cell? ⟨w.heap.size, 0, none⟩ = some (.int .i64 h.k) := cell_of_block k3 rfl
  have g1 : w3.cell? ⟨w.heap.size, 1, none⟩ = some (.string ⟨h.l.toArray⟩) := cell_of_block k3 rfl
  have g2 : w3.cell? ⟨w.heap.size, 2, none⟩ = some (.slice aa h.ats.length ca) := cell_of_block k3 rfl
  have g3 : w3.cell? ⟨w.heap.size, 3, none⟩ = some (.int .i64 h.n) := cell_of_block k3 rfl
  have g4 : w3.cell? ⟨w.heap.size, 4, none⟩ = some (.int .i64 h.d) := cell_of_block k3 rfl
  have g5 : w3.cell? ⟨w.heap.size, 5, none⟩ = some (.string ⟨h.x.toArray⟩) := cell_of_block k3 rfl

  clear k3
  by_cases h0 : ee = 0
  rotate_left
  · have HX := HR.out.trans (if_neg h0)
    subst HX
    have b0 : (ee != 0) = true := by simpa using h0
    clear h0
    go_wp2_with fail
    go_ret2
    exact ⟨.slice none 0 0, rfl, .inl ⟨_, _, rfl, rfl⟩, B3⟩
  have HX := Lib.hid (HR.out.trans (if_pos h0))
  have b0 : (ee != 0) = false := by simpa using h0
  clear h0 HR
  by_cases hk : h.k = 0
  rotate_left
  · have HY := HX.out.trans (if_neg hk)
    subst HY
    have bk : (h.k != 0) = true := by simpa using hk
    clear hk
    go_wp2_with fail
    go_ret2
    exact ⟨.slice none 0 0, rfl, .inl ⟨_, _, rfl, rfl⟩, B3⟩
  have HY := Lib.hid (HX.out.trans (if_pos hk))
  have bk : (h.k != 0) = false := by simpa using hk
  clear hk HX
  go_wp2_with fail
  refine (CT.out w3 B3).mono ?_
  rintro e w5 ⟨a5, c5, a6, c6, rfl, hfa, hfk, hb5⟩
  have B5 := B3.trans (hb5.mono B3.size)
  have FA := Lib.hid (attrsF_mono B3.size hfa)
  have FK := Lib.hid (liesF_mono B3.size hfk)
  clear hfa hfk hb5 g0 g1 g2 g3 g4 g5
  unfold aggOf
  go_wp2_with fail
  have kk := World.alloc_heap_new w5 (.cells #[.int .i64 h.k, .string ⟨h.l.toArray⟩, .slice a5 h.ats.length c5, .int .i64 h.n, .int .i64 h.d, .string ⟨h.x.toArray⟩, .slice a6 f.len c6] 43)
  have B6 : Below w.heap.size w (w5.alloc (.cells #[.int .i64 h.k, .string ⟨h.l.toArray⟩, .slice a5 h.ats.length c5, .int .i64 h.n, .int .i64 h.d, .string ⟨h.x.toArray⟩, .slice a6 f.len c6] 43)) := B5.alloc B5.size _
  have hk6 : Keeps w.heap.size w5 (w5.alloc (.cells #[.int .i64 h.k, .string ⟨h.l.toArray⟩, .slice a5 h.ats.length c5, .int .i64 h.n, .int .i64 h.d, .string ⟨h.x.toArray⟩, .slice a6 f.len c6] 43)) := Keeps.of_below ((Below.refl _ _).alloc (Nat.le_refl _) _)
  have HL6 := Lib.hid (show LiesF w.heap.size (w5.alloc (.cells #[.int .i64 h.k, .string ⟨h.l.toArray⟩, .slice a5 h.ats.length c5, .int .i64 h.n, .int .i64 h.d, .string ⟨h.x.toArray⟩, .slice a6 f.len c6] 43)) (.slice (some ⟨w5.heap.size, 0, none⟩) 1 1) (.cons h f .nil) from
    .inr ⟨w5.heap.size, 0, 1, rfl, Nat.le_refl _, by simp [Fo.len], B5.size, by simp, ⟨cell_of_block kk rfl, cell_of_block kk rfl, ⟨_, cell_of_block kk rfl, attrsF_keeps FA.out hk6⟩, cell_of_block kk rfl, cell_of_block kk rfl, cell_of_block kk rfl⟩, ⟨_, cell_of_block kk rfl, liesF_keeps FK.out hk6⟩, trivial⟩)
  clear kk hk6
  generalize w5.alloc (.cells #[.int .i64 h.k, .string ⟨h.l.toArray⟩, .slice a5 h.ats.length c5, .int .i64 h.n, .int .i64 h.d, .string ⟨h.x.toArray⟩, .slice a6 f.len c6] 43) = w6 at *
  have WI := Lib.hid (show Calls Tryz.prog 109 #[.slice (some ⟨w5.heap.size, 0, none⟩) 1 1] w6 fun e w' => e = .returned (.tuple #[if bndErr (.cons h f .nil) = 0 then .slice (some ⟨w5.heap.size, 0, none⟩) 1 1 else .slice none 0 0, .int .i64 (bndErr (.cons h f .nil))]) ∧ Below w6.heap.size w6 w' from
    within_any (.cons h f .nil) _ 1 w6 (liesF_lies HL6.out) (by simp only [Fo.size]; omega))
  by_cases hb : bndErr (.cons h f .nil) = 0
  · have HZ := HY.out.trans (if_pos hb)
    subst HZ
    rw [hb, if_pos rfl] at WI
    clear hb
    refine WI.out.mono ?_
    rintro e w8 ⟨rfl, hb8⟩
    have HL8 := Lib.hid (liesF_keeps HL6.out (Keeps.of_below hb8 : Keeps w.heap.size w6 w8))
    have B8 := Lib.hid (B6.trans (hb8.mono B6.size))
    clear hb8
    go_wp2_with fail
    go_ret2
    exact ⟨_, rfl, HL8.out, B8.out⟩
  · have HZ := HY.out.trans (if_neg hb)
    subst HZ
    rw [if_neg hb] at WI
    clear hb
    refine WI.out.mono ?_
    rintro e w8 ⟨rfl, hb8⟩
    have B8 := Lib.hid (B6.trans (hb8.mono B6.size))
    clear hb8
    go_wp2_with fail
    go_ret2
    exact ⟨.slice none 0 0, rfl, .inl ⟨_, _, rfl, rfl⟩, B8.out⟩
end Go.Proofs.YtcgedpfolloinaaGreat

namespace Go.Proofs.YtcgedpfolloinaaGreat
open Go.RowKit

set_option maxRecDepth 100000 in
set_option maxHeartbeats 8000000 in
theorem lists_step (f g : Fo) (v u : Value) (b : Nat) (w : World) (hl : Lies w v f) (hg : Lies w u g)
    (HT : ∀ k h ks i js aa ab ak al ca cb ck cl w1, k < f.len → f.drop k = .cons h ks (f.drop (k + 1)) → Below w.heap.size w w1 → AttrsLie w1 (.slice aa h.ats.length ca) h.ats → AttrsLie w1 (.slice ab i.ats.length cb) i.ats →
      Lies w1 (.slice ak ks.len ck) ks → Lies w1 (.slice al js.len cl) js → Calls Tryz.prog 144 #[.agg #[.slice (some ⟨b, 0, none⟩) 5 5], .agg #[.int .i64 h.k, .string ⟨h.l.toArray⟩, .slice aa h.ats.length ca, .int .i64 h.n, .int .i64 h.d, .string ⟨h.x.toArray⟩, .slice ak ks.len ck], .agg #[.int .i64 i.k, .string ⟨i.l.toArray⟩, .slice ab i.ats.length cb, .int .i64 i.n, .int .i64 i.d, .string ⟨i.x.toArray⟩, .slice al js.len cl]] w1 fun e w' => e = .returned (.int .i64 (treeL h ks i js)) ∧ Below w1.heap.size w1 w') :
    Calls Tryz.prog 143 #[v, u, .func (.func 144) #[.agg #[.slice (some ⟨b, 0, none⟩) 5 5]] #[]] w fun e w' => e = .returned (.int .i64 (foL f g)) ∧ Below w.heap.size w w' := by
  have HL := Lib.hid hl
  have HG := Lib.hid hg
  have HTT := Lib.hid HT
  have hfl := lies_len hl
  have hgl := lies_len hg
  obtain ⟨a, cap, rfl⟩ := lies_form hl
  obtain ⟨a', cap', rfl⟩ := lies_form hg
  obtain ⟨n, hn⟩ : ∃ n, min f.len g.len = n := ⟨_, rfl⟩
  clear hl hg HT
  by_cases hab : g.len < f.len
  · have hab' : decide (g.len < f.len) = true := by simpa using hab
    go_enter Tryz.func143, Tryz.ntmps143
    go_wp2_with fail
    go_loopw [14] (fun i wr => ∃ k : Nat, i = .int .i64 k ∧ k ≤ n ∧ foL f g = foL (f.drop k) (g.drop k) ∧ Below w.heap.size w wr) (fun i _ => n - (intOf i).toNat)
    case atStart => exact ⟨0, rfl, Nat.zero_le _, by cases f <;> cases g <;> rfl, Below.refl _ _⟩
    case round =>
      obtain ⟨k, rfl, hk, he, hbw⟩ := hrel
      have HE := Lib.hid he
      have BW := Lib.hid hbw
      have hsr := hbw.size
      clear he
      by_cases hlt : k < n
      · have hka : k < f.len := by omega
        have hkb : k < g.len := by omega
        obtain ⟨bf, of, cp, hs, -, -, hbf, hrow⟩ := lies_row HL.out (by omega)
        simp only [Value.slice.injEq] at hs
        obtain ⟨rfl, -, rfl⟩ := hs
        obtain ⟨bg, og, cp', hs, -, -, hbg, hrow'⟩ := lies_row HG.out (by omega)
        simp only [Value.slice.injEq] at hs
        obtain ⟨rfl, -, rfl⟩ := hs
        obtain ⟨h, ks, e, ⟨qa0, qa1, ⟨va, qa2, ha⟩, qa3, qa4, qa5⟩, vk, qa6, hlk⟩ := row_get hrow hka
        obtain ⟨i, js, e', ⟨qb0, qb1, ⟨vb, qb2, hb⟩, qb3, qb4, qb5⟩, vl, qb6, hlk'⟩ := row_get hrow' hkb
        obtain ⟨aa, ca, rfl⟩ := attrs_form ha
        obtain ⟨ab, cb, rfl⟩ := attrs_form hb
        obtain ⟨ak, ck, rfl⟩ := lies_form hlk
        obtain ⟨al, cl, rfl⟩ := lies_form hlk'
        have ra0 := (hbw.cell (p := ⟨bf, of + k * 7, none⟩) hbf).trans qa0
        have ra1 := (hbw.cell (p := ⟨bf, of + k * 7 + 1, none⟩) hbf).trans qa1
        have ra2 := (hbw.cell (p := ⟨bf, of + k * 7 + 2, none⟩) hbf).trans qa2
        have ra3 := (hbw.cell (p := ⟨bf, of + k * 7 + 3, none⟩) hbf).trans qa3
        have ra4 := (hbw.cell (p := ⟨bf, of + k * 7 + 4, none⟩) hbf).trans qa4
        have ra5 := (hbw.cell (p := ⟨bf, of + k * 7 + 5, none⟩) hbf).trans qa5
        have ra6 := (hbw.cell (p := ⟨bf, of + k * 7 + 6, none⟩) hbf).trans qa6
        have rb0 := (hbw.cell (p := ⟨bg, og + k * 7, none⟩) hbg).trans qb0
        have rb1 := (hbw.cell (p := ⟨bg, og + k * 7 + 1, none⟩) hbg).trans qb1
        have rb2 := (hbw.cell (p := ⟨bg, og + k * 7 + 2, none⟩) hbg).trans qb2
        have rb3 := (hbw.cell (p := ⟨bg, og + k * 7 + 3, none⟩) hbg).trans qb3
        have rb4 := (hbw.cell (p := ⟨bg, og + k * 7 + 4, none⟩) hbg).trans qb4
        have rb5 := (hbw.cell (p := ⟨bg, og + k * 7 + 5, none⟩) hbg).trans qb5
        have rb6 := (hbw.cell (p := ⟨bg, og + k * 7 + 6, none⟩) hbg).trans qb6
        have k1 : bf < wr.heap.size := by omega
        have k2 : bg < wr.heap.size := by omega
        have HS := Lib.hid (HE.out.trans (foL_drop e e'))
        have HC := Lib.hid (fun w1 (hw : Below w.heap.size w w1) => HTT.out k h ks i js aa ab ak al ca cb ck cl w1 hka e hw (attrs_below ha hw) (attrs_below hb hw) (lies_below hlk hw) (lies_below hlk' hw))
        clear e e' ha hb hlk hlk' hrow hrow' qa0 qa1 qa2 qa3 qa4 qa5 qa6 qb0 qb1 qb2 qb3 qb4 qb5 qb6 hbw
        go_wp2_with fail
        refine wp_region_quiet_tail (fun w' => ∃ x : Lower _, w' = x.val) 9 (by kernel_rfl) (by kernel_rfl) ⟨⟨_, (Below.refl _ _).drew⟩, rfl⟩ ?_
        simp only [List.take_succ_cons, List.take_zero, List.drop_succ_cons, List.drop_zero]
        repeat (go_big_quiet_step (fail))
        refine wpQuiet_nil ?_
        intro w1 hx1
        obtain ⟨x1, hx1⟩ := hx1
        have hb1 := x1.prop
        rw [← hx1] at hb1
        clear hx1 x1
        obtain ⟨hc1, hf1⟩ := bcell hb1
        have hs1 := hb1.size
        try simp at hs1
        try have hz10 : w.heap.size < w1.heap.size := by omega
        try have hz11 : w.heap.size + 1 < w1.heap.size := by omega
        try have hz12 : w.heap.size + 1 + 1 < w1.heap.size := by omega
        try have hz13 : w.heap.size + 1 + 1 + 1 < w1.heap.size := by omega
        try have hz14 : w.heap.size + 1 + 1 + 1 + 1 < w1.heap.size := by omega
        try have hz15 : w.heap.size + 1 + 1 + 1 + 1 + 1 < w1.heap.size := by omega
        clear hc1 hf1
        have B1 := Lib.hid (BW.out.trans (hb1.mono hsr))
        clear hb1
        go_wp2_with fail
        refine (HC.out _ B1.out).mono ?_
        rintro e w2 ⟨rfl, hb2⟩
        have B2 := Lib.hid (B1.out.trans (hb2.mono B1.out.size))
        clear hb2
        generalize treeL h ks i js = c at *
        by_cases hx : c = 0
        · have HX := Lib.hid (HS.out.trans (if_neg (by simpa using hx)))
          have b0 : (c != 0) = false := by simpa using hx
          clear hx
          go_wp2_with fail
          go_roundw
          case rel => exact ⟨k + 1, by go_num, by omega, HX.out, B2.out⟩
          case measure => simp [intOf]; omega
        · have HX := Lib.hid (HS.out.trans (if_pos (by simpa using hx)))
          have b0 : (c != 0) = true := by simpa using hx
          clear hx
          go_wp2_with fail
          go_ret
          exact ⟨ret_int' HX.out.symm, B2.out⟩
      · have HX := Lib.hid (HE.out.trans (foL_end (show k = min f.len g.len by omega)))
        try have d1 : decide (k < f.len) = false := by simp; omega
        try have d2 : decide (k < g.len) = false := by simp; omega
        clear hbw
        go_wp2_with fail
        refine (compare_any _ _ _).mono ?_
        rintro e w2 ⟨rfl, hw⟩
        obtain rfl := hw
        go_wp2_with fail
        go_ret
        exact ⟨ret_int' HX.out.symm, BW.out⟩
  · have hab' : decide (g.len < f.len) = false := by simpa using hab
    go_enter Tryz.func143, Tryz.ntmps143
    go_wp2_with fail
    go_loopw [14] (fun i wr => ∃ k : Nat, i = .int .i64 k ∧ k ≤ n ∧ foL f g = foL (f.drop k) (g.drop k) ∧ Below w.heap.size w wr) (fun i _ => n - (intOf i).toNat)
    case atStart => exact ⟨0, rfl, Nat.zero_le _, by cases f <;> cases g <;> rfl, Below.refl _ _⟩
    case round =>
      obtain ⟨k, rfl, hk, he, hbw⟩ := hrel
      have HE := Lib.hid he
      have BW := Lib.hid hbw
      have hsr := hbw.size
      clear he
      by_cases hlt : k < n
      · have hka : k < f.len := by omega
        have hkb : k < g.len := by omega
        obtain ⟨bf, of, cp, hs, -, -, hbf, hrow⟩ := lies_row HL.out (by omega)
        simp only [Value.slice.injEq] at hs
        obtain ⟨rfl, -, rfl⟩ := hs
        obtain ⟨bg, og, cp', hs, -, -, hbg, hrow'⟩ := lies_row HG.out (by omega)
        simp only [Value.slice.injEq] at hs
        obtain ⟨rfl, -, rfl⟩ := hs
        obtain ⟨h, ks, e, ⟨qa0, qa1, ⟨va, qa2, ha⟩, qa3, qa4, qa5⟩, vk, qa6, hlk⟩ := row_get hrow hka
        obtain ⟨i, js, e', ⟨qb0, qb1, ⟨vb, qb2, hb⟩, qb3, qb4, qb5⟩, vl, qb6, hlk'⟩ := row_get hrow' hkb
        obtain ⟨aa, ca, rfl⟩ := attrs_form ha
        obtain ⟨ab, cb, rfl⟩ := attrs_form hb
        obtain ⟨ak, ck, rfl⟩ := lies_form hlk
        obtain ⟨al, cl, rfl⟩ := lies_form hlk'
        have ra0 := (hbw.cell (p := ⟨bf, of + k * 7, none⟩) hbf).trans qa0
        have ra1 := (hbw.cell (p := ⟨bf, of + k * 7 + 1, none⟩) hbf).trans qa1
        have ra2 := (hbw.cell (p := ⟨bf, of + k * 7 + 2, none⟩) hbf).trans qa2
        have ra3 := (hbw.cell (p := ⟨bf, of + k * 7 + 3, none⟩) hbf).trans qa3
        have ra4 := (hbw.cell (p := ⟨bf, of + k * 7 + 4, none⟩) hbf).trans qa4
        have ra5 := (hbw.cell (p := ⟨bf, of + k * 7 + 5, none⟩) hbf).trans qa5
        have ra6 := (hbw.cell (p := ⟨bf, of + k * 7 + 6, none⟩) hbf).trans qa6
        have rb0 := (hbw.cell (p := ⟨bg, og + k * 7, none⟩) hbg).trans qb0
        have rb1 := (hbw.cell (p := ⟨bg, og + k * 7 + 1, none⟩) hbg).trans qb1
        have rb2 := (hbw.cell (p := ⟨bg, og + k * 7 + 2, none⟩) hbg).trans qb2
        have rb3 := (hbw.cell (p := ⟨bg, og + k * 7 + 3, none⟩) hbg).trans qb3
        have rb4 := (hbw.cell (p := ⟨bg, og + k * 7 + 4, none⟩) hbg).trans qb4
        have rb5 := (hbw.cell (p := ⟨bg, og + k * 7 + 5, none⟩) hbg).trans qb5
        have rb6 := (hbw.cell (p := ⟨bg, og + k * 7 + 6, none⟩) hbg).trans qb6
        have k1 : bf < wr.heap.size := by omega
        have k2 : bg < wr.heap.size := by omega
        have HS := Lib.hid (HE.out.trans (foL_drop e e'))
        have HC := Lib.hid (fun w1 (hw : Below w.heap.size w w1) => HTT.out k h ks i js aa ab ak al ca cb ck cl w1 hka e hw (attrs_below ha hw) (attrs_below hb hw) (lies_below hlk hw) (lies_below hlk' hw))
        clear e e' ha hb hlk hlk' hrow hrow' qa0 qa1 qa2 qa3 qa4 qa5 qa6 qb0 qb1 qb2 qb3 qb4 qb5 qb6 hbw
        go_wp2_with fail
        refine wp_region_quiet_tail (fun w' => ∃ x : Lower _, w' = x.val) 9 (by kernel_rfl) (by kernel_rfl) ⟨⟨_, (Below.refl _ _).drew⟩, rfl⟩ ?_
        simp only [List.take_succ_cons, List.take_zero, List.drop_succ_cons, List.drop_zero]
        repeat (go_big_quiet_step (fail))
        refine wpQuiet_nil ?_
        intro w1 hx1
        obtain ⟨x1, hx1⟩ := hx1
        have hb1 := x1.prop
        rw [← hx1] at hb1
        clear hx1 x1
        obtain ⟨hc1, hf1⟩ := bcell hb1
        have hs1 := hb1.size
        try simp at hs1
        try have hz10 : w.heap.size < w1.heap.size := by omega
        try have hz11 : w.heap.size + 1 < w1.heap.size := by omega
        try have hz12 : w.heap.size + 1 + 1 < w1.heap.size := by omega
        try have hz13 : w.heap.size + 1 + 1 + 1 < w1.heap.size := by omega
        try have hz14 : w.heap.size + 1 + 1 + 1 + 1 < w1.heap.size := by omega
        try have hz15 : w.heap.size + 1 + 1 + 1 + 1 + 1 < w1.heap.size := by omega
        clear hc1 hf1
        have B1 := Lib.hid (BW.out.trans (hb1.mono hsr))
        clear hb1
        go_wp2_with fail
        refine (HC.out _ B1.out).mono ?_
        rintro e w2 ⟨rfl, hb2⟩
        have B2 := Lib.hid (B1.out.trans (hb2.mono B1.out.size))
        clear hb2
        generalize treeL h ks i js = c at *
        by_cases hx : c = 0
        · have HX := Lib.hid (HS.out.trans (if_neg (by simpa using hx)))
          have b0 : (c != 0) = false := by simpa using hx
          clear hx
          go_wp2_with fail
          go_roundw
          case rel => exact ⟨k + 1, by go_num, by omega, HX.out, B2.out⟩
          case measure => simp [intOf]; omega
        · have HX := Lib.hid (HS.out.trans (if_pos (by simpa using hx)))
          have b0 : (c != 0) = true := by simpa using hx
          clear hx
          go_wp2_with fail
          go_ret
          exact ⟨ret_int' HX.out.symm, B2.out⟩
      · have HX := Lib.hid (HE.out.trans (foL_end (show k = min f.len g.len by omega)))
        try have d1 : decide (k < f.len) = false := by simp; omega
        try have d2 : decide (k < g.len) = false := by simp; omega
        clear hbw
        go_wp2_with fail
        refine (compare_any _ _ _).mono ?_
        rintro e w2 ⟨rfl, hw⟩
        obtain rfl := hw
        go_wp2_with fail
        go_ret
        exact ⟨ret_int' HX.out.symm, BW.out⟩

end Go.Proofs.YtcgedpfolloinaaGreat

namespace Go.Proofs.YtcgedpfolloinaaGreat
open Go.RowKit

set_option maxRecDepth 100000 in
set_option maxHeartbeats 4000000 in
theorem forests_step (f g : Fo) (v u : Value) (b : Nat) (w : World)
    (HC : ∀ w1, Below w.heap.size w w1 → Calls Tryz.prog 143 #[v, u, .func (.func 144) #[.agg #[.slice (some ⟨b, 0, none⟩) 5 5]] #[]] w1 fun e w' => e = .returned (.int .i64 (foL f g)) ∧ Below w1.heap.size w1 w') :
    Calls Tryz.prog 89 #[.agg #[.slice (some ⟨b, 0, none⟩) 5 5], v, u] w fun e w' => e = .returned (.int .i64 (foL f g)) ∧ Below w.heap.size w w' := by
  have HCC := Lib.hid HC
  clear HC
  have hmf : ∀ (fn : Fn) (first cap : Array Value) (w : World), (Instr.makeFunc fn first cap).run Tryz.prog w = .ok (.func fn first cap) w := fun _ _ _ _ => rfl
  go_enter Tryz.func89, Tryz.ntmps89
  go_wp2_with fail
  have B0 : Below w.heap.size w (w.alloc (.cells #[.slice (some ⟨b, 0, none⟩) 5 5] 101)) := by ((repeat' (first | exact Below.refl _ _ | assumption | refine Below.setCell ?_ ?_ _ | refine bdrewN ?_ _ | refine Below.drew ?_ | refine Below.alloc ?_ ?_ _ | refine bbehind ?_ (by assumption) ?_)); all_goals first | (simp; done) | (simp; omega) | omega)
  refine (HCC.out _ B0).mono ?_
  rintro e w2 ⟨rfl, hb2⟩
  go_wp2_with fail
  go_ret
  exact ⟨rfl, B0.trans (hb2.mono B0.size)⟩
theorem forests_any (b : Nat) : ∀ (N : Nat) (f g : Fo) (v u : Value) (w : World), f.size ≤ N → Lies w v f → Lies w u g → AspAt w b →
    Calls Tryz.prog 89 #[.agg #[.slice (some ⟨b, 0, none⟩) 5 5], v, u] w fun e w' => e = .returned (.int .i64 (foL f g)) ∧ Below w.heap.size w w' := by
  intro N
  induction N with
  | zero =>
    intro f g v u w hN hl hg hA
    refine forests_step f g v u b w fun w1 hw => lists_step f g v u b w1 (lies_below hl hw) (lies_below hg hw) fun k h ks i js aa ab ak al ca cb ck cl w2 hk e => ?_
    have := kid_size e
    omega
  | succ N ih =>
    intro f g v u w hN hl hg hA
    refine forests_step f g v u b w fun w1 hw => lists_step f g v u b w1 (lies_below hl hw) (lies_below hg hw) fun k h ks i js aa ab ak al ca cb ck cl w2 hk e hw2 ha hb hlk hll => ?_
    have := kid_size e
    have hA2 := (hA.below hw).below hw2
    exact otrees_step h i ks js aa ab ak al ca cb ck cl b w2 ha hb hA2 fun w3 hw3 => ih ks js _ _ w3 (by omega) (lies_below hlk hw3) (lies_below hll hw3) (hA2.below hw3)

end Go.Proofs.YtcgedpfolloinaaGreat

namespace Go.Proofs.YtcgedpfolloinaaGreat
open Go.RowKit

/-- what Compare gives. -/
def cmpF (f g : Fo) : Int × Int := if firstNZ [foErr f, foErr g] = 0 then (foL f g, 0) else (0, firstNZ [foErr f, foErr g])
set_option maxRecDepth 100000 in
set_option maxHeartbeats 4000000 in
theorem tcompare_any (f g : Fo) (v u : Value) (w : World) (hl : Lies w v f) (hg : Lies w u g) (hs : Small f) (hs' : Small g) :
    Calls Tryz.prog 29 #[v, u] w fun e w' => e = .returned (.tuple #[.int .i64 (cmpF f g).1, .int .i64 (cmpF f g).2]) ∧ Below w.heap.size w w' := by
  have CF := Lib.hid (fun w1 (hw : Below w.heap.size w w1) => tcheck_any f v w1 (lies_below hl hw) hs)
  have CG := Lib.hid (fun w1 (hw : Below w.heap.size w w1) => tcheck_any g u w1 (lies_below hg hw) hs')
  have OF := Lib.hid (fun b w1 (hw : Below w.heap.size w w1) hA => forests_any b f.size f g v u w1 (Nat.le_refl _) (lies_below hl hw) (lies_below hg hw) hA)
  obtain ⟨R, hR⟩ : ∃ R, cmpF f g = R := ⟨_, rfl⟩
  rw [hR]
  have HR := Lib.hid hR.symm
  obtain ⟨a, cap, rfl⟩ := lies_form hl
  obtain ⟨a', cap', rfl⟩ := lies_form hg
  clear hl hg hs hs' hR
  unfold cmpF at HR
  generalize foErr f = e1 at *
  generalize foErr g = e2 at *
  generalize foL f g = c at *
  go_enter Tryz.func29, Tryz.ntmps29
  go_wp2_with fail
  refine (CF.out w (Below.refl _ _)).mono ?_
  rintro e w1 ⟨rfl, hb1⟩
  go_wp2_with fail
  refine (CG.out w1 hb1).mono ?_
  rintro e w2 ⟨rfl, hb2⟩
  have B2 := hb1.trans (hb2.mono hb1.size)
  clear hb1 hb2
  go_wp2_with fail
  have B3 : Below w.heap.size w (w2.alloc (.cells #[.int .i64 e1, .int .i64 e2] 32)) := B2.alloc B2.size _
  have hi3 := ints_pair (World.alloc_heap_new w2 (.cells #[.int .i64 e1, .int .i64 e2] 32)) (by simp)
  generalize w2.alloc (.cells #[.int .i64 e1, .int .i64 e2] 32) = w3 at *
  refine (terr_any _ _ _ hi3 (by simp)).mono ?_
  rintro e w4 ⟨rfl, hw⟩
  obtain rfl := hw
  generalize firstNZ [e1, e2] = ee at *
  by_cases h0 : ee = 0
  · have HX := HR.out.trans (if_pos h0)
    subst HX
    have b0 : (ee != 0) = false := by simpa using h0
    clear h0
    go_wp2_with fail
    refine (aspects_any _).mono ?_
    rintro e w5 ⟨b, rfl, hbb, hA, hb5⟩
    have B5 := B3.trans (hb5.mono B3.size)
    have OO := Lib.hid (OF.out b w5 B5 hA)
    clear hA hb5 hbb
    go_wp2_with fail
    refine OO.out.mono ?_
    rintro e w6 ⟨rfl, hb6⟩
    go_wp2_with fail
    go_ret2
    exact ⟨rfl, B5.trans (hb6.mono B5.size)⟩
  · have HX := HR.out.trans (if_neg h0)
    subst HX
    have b0 : (ee != 0) = true := by simpa using h0
    clear h0
    go_wp2_with fail
    go_ret2
    exact ⟨rfl, B3⟩

end Go.Proofs.YtcgedpfolloinaaGreat

namespace Go.Proofs.YtcgedpfolloinaaGreat
open Go.RowKit

def cmpH (h i : Hd) : Int × Int := if firstNZ [headErr h, headErr i] = 0 then (headL h i, 0) else (0, firstNZ [headErr h, headErr i])
set_option linter.unusedSimpArgs false in
set_option maxRecDepth 100000 in
set_option maxHeartbeats 8000000 in
theorem tcmpHeads_any (h i : Hd) (aa ab : Option Addr) (ca cb : Nat) (w : World) (ha : AttrsLie w (.slice aa h.ats.length ca) h.ats) (hb : AttrsLie w (.slice ab i.ats.length cb) i.ats) (hf : HdFit h) (hf' : HdFit i) :
    Calls Tryz.prog 27 #[.agg #[.int .i64 h.k, .string ⟨h.l.toArray⟩, .slice aa h.ats.length ca, .int .i64 h.n, .int .i64 h.d, .string ⟨h.x.toArray⟩], .agg #[.int .i64 i.k, .string ⟨i.l.toArray⟩, .slice ab i.ats.length cb, .int .i64 i.n, .int .i64 i.d, .string ⟨i.x.toArray⟩]] w fun e w' => e = .returned (.tuple #[.int .i64 (cmpH h i).1, .int .i64 (cmpH h i).2]) ∧ Below w.heap.size w w' := by
  have OF := Lib.hid (fun b w1 (hw : Below w.heap.size w w1) hA => compareBy_any h i aa ab ca cb b w1 (attrs_below ha hw) (attrs_below hb hw) hA)
  obtain ⟨R, hR⟩ : ∃ R, cmpH h i = R := ⟨_, rfl⟩
  rw [hR]
  have HR := Lib.hid hR.symm
  have PF := Lib.hid (show AttrsLie w (.slice aa h.ats.length ca) h.ats ∧ HdFit h from ⟨ha, hf⟩)
  have PG := Lib.hid (show AttrsLie w (.slice ab i.ats.length cb) i.ats ∧ HdFit i from ⟨hb, hf'⟩)
  clear ha hb hf hf' hR
  unfold cmpH at HR
  go_enter Tryz.func27, Tryz.ntmps27
  go_upto_region 1 with fail
  have k0 : ((w.alloc (.cells #[.int .i64 h.k, .string ⟨h.l.toArray⟩, .slice aa h.ats.length ca, .int .i64 h.n, .int .i64 h.d, .string ⟨h.x.toArray⟩] 27)).alloc (.cells #[.int .i64 i.k, .string ⟨i.l.toArray⟩, .slice ab i.ats.length cb, .int .i64 i.n, .int .i64 i.d, .string ⟨i.x.toArray⟩] 27)).heap[w.heap.size]? = some (.cells #[.int .i64 h.k, .string ⟨h.l.toArray⟩, .slice aa h.ats.length ca, .int .i64 h.n, .int .i64 h.d, .string ⟨h.x.toArray⟩] 27) := (Below.heap_alloc _ _ _ (by simp)).trans (World.alloc_heap_new w (.cells #[.int .i64 h.k, .string ⟨h.l.toArray⟩, .slice aa h.ats.length ca, .int .i64 h.n, .int .i64 h.d, .string ⟨h.x.toArray⟩] 27))
  have k1 : ((w.alloc (.cells #[.int .i64 h.k, .string ⟨h.l.toArray⟩, .slice aa h.ats.length ca, .int .i64 h.n, .int .i64 h.d, .string ⟨h.x.toArray⟩] 27)).alloc (.cells #[.int .i64 i.k, .string ⟨i.l.toArray⟩, .slice ab i.ats.length cb, .int .i64 i.n, .int .i64 i.d, .string ⟨i.x.toArray⟩] 27)).heap[w.heap.size + 1]? = some (.cells #[.int .i64 i.k, .string ⟨i.l.toArray⟩, .slice ab i.ats.length cb, .int .i64 i.n, .int .i64 i.d, .string ⟨i.x.toArray⟩] 27) := by
    have := World.alloc_heap_new (w.alloc (.cells #[.int .i64 h.k, .string ⟨h.l.toArray⟩, .slice aa h.ats.length ca, .int .i64 h.n, .int .i64 h.d, .string ⟨h.x.toArray⟩] 27)) (.cells #[.int .i64 i.k, .string ⟨i.l.toArray⟩, .slice ab i.ats.length cb, .int .i64 i.n, .int .i64 i.d, .string ⟨i.x.toArray⟩] 27)
    rw [show (w.alloc (.cells #[.int .i64 h.k, .string ⟨h.l.toArray⟩, .slice aa h.ats.length ca, .int .i64 h.n, .int .i64 h.d, .string ⟨h.x.toArray⟩] 27)).heap.size = w.heap.size + 1 by simp] at this
    exact this
  have BW : Below w.heap.size w ((w.alloc (.cells #[.int .i64 h.k, .string ⟨h.l.toArray⟩, .slice aa h.ats.length ca, .int .i64 h.n, .int .i64 h.d, .string ⟨h.x.toArray⟩] 27)).alloc (.cells #[.int .i64 i.k, .string ⟨i.l.toArray⟩, .slice ab i.ats.length cb, .int .i64 i.n, .int .i64 i.d, .string ⟨i.x.toArray⟩] 27)) := by ((repeat' (first | exact Below.refl _ _ | assumption | refine Below.setCell ?_ ?_ _ | refine bdrewN ?_ _ | refine Below.drew ?_ | refine Below.alloc ?_ ?_ _ | refine bbehind ?_ (by assumption) ?_)); all_goals first | (simp; done) | (simp; omega) | omega)
  have hs0 : w.heap.size + 2 ≤ ((w.alloc (.cells #[.int .i64 h.k, .string ⟨h.l.toArray⟩, .slice aa h.ats.length ca, .int .i64 h.n, .int .i64 h.d, .string ⟨h.x.toArray⟩] 27)).alloc (.cells #[.int .i64 i.k, .string ⟨i.l.toArray⟩, .slice ab i.ats.length cb, .int .i64 i.n, .int .i64 i.d, .string ⟨i.x.toArray⟩] 27)).heap.size := by simp
  generalize (w.alloc (.cells #[.int .i64 h.k, .string ⟨h.l.toArray⟩, .slice aa h.ats.length ca, .int .i64 h.n, .int .i64 h.d, .string ⟨h.x.toArray⟩] 27)).alloc (.cells #[.int .i64 i.k, .string ⟨i.l.toArray⟩, .slice ab i.ats.length cb, .int .i64 i.n, .int .i64 i.d, .string ⟨i.x.toArray⟩] 27) = W at *
  have d0 : W.cell? ⟨w.heap.size, 0, none⟩ = some (.int .i64 h.k) := cell_of_block k0 rfl
  have d1 : W.cell? ⟨w.heap.size, 1, none⟩ = some (.string ⟨h.l.toArray⟩) := cell_of_block k0 rfl
  have d2 : W.cell? ⟨w.heap.size, 2, none⟩ = some (.slice aa h.ats.length ca) := cell_of_block k0 rfl
  have d3 : W.cell? ⟨w.heap.size, 3, none⟩ = some (.int .i64 h.n) := cell_of_block k0 rfl
  have d4 : W.cell? ⟨w.heap.size, 4, none⟩ = some (.int .i64 h.d) := cell_of_block k0 rfl
  have d5 : W.cell? ⟨w.heap.size, 5, none⟩ = some (.string ⟨h.x.toArray⟩) := cell_of_block k0 rfl
  have f0 : W.cell? ⟨w.heap.size + 1, 0, none⟩ = some (.int .i64 i.k) := cell_of_block k1 rfl
  have f1 : W.cell? ⟨w.heap.size + 1, 1, none⟩ = some (.string ⟨i.l.toArray⟩) := cell_of_block k1 rfl
  have f2 : W.cell? ⟨w.heap.size + 1, 2, none⟩ = some (.slice ab i.ats.length cb) := cell_of_block k1 rfl
  have f3 : W.cell? ⟨w.heap.size + 1, 3, none⟩ = some (.int .i64 i.n) := cell_of_block k1 rfl
  have f4 : W.cell? ⟨w.heap.size + 1, 4, none⟩ = some (.int .i64 i.d) := cell_of_block k1 rfl
  have f5 : W.cell? ⟨w.heap.size + 1, 5, none⟩ = some (.string ⟨i.x.toArray⟩) := cell_of_block k1 rfl
  have n0 : w.heap.size < W.heap.size := by omega
  have n1 : w.heap.size + 1 < W.heap.size := by omega
  have K0 := Lib.hid k0
  have K1 := Lib.hid k1
  have XH := Lib.hid (fun (x : Lower W) (hd : Hd) (a : Option Addr) (c : Nat) (hp : AttrsLie w (.slice a hd.ats.length c) hd.ats ∧ HdFit hd) => thead_any hd (.slice a hd.ats.length c) x.val (attrs_below hp.1 (BW.trans (x.prop.mono BW.size))) hp.2)
  clear k0 k1
  refine wp_region_quiet_tail (fun w' => ∃ x : Lower W, w' = x.val) 4 (by kernel_rfl) (by kernel_rfl) ⟨⟨_, (Below.refl _ _).drew⟩, rfl⟩ ?_
  simp only [List.take_succ_cons, List.take_zero, List.drop_succ_cons, List.drop_zero]
  repeat (go_big_quiet_step ((go_at_call 17; exact calls_lower _ (XH.out _ _ _ _ (by first | exact PF.out | exact PG.out)))))
  refine wpQuiet_nil ?_
  intro w2 hx1
  obtain ⟨x1, hx1⟩ := hx1
  have hb1 := x1.prop
  rw [← hx1] at hb1
  clear hx1 x1 d0 d1 d2 d3 d4 d5 f0 f1 f2 f3 f4 f5 XH PF PG
  generalize headErr h = e1 at *
  generalize headErr i = e2 at *
  generalize headL h i = c at *
  have hs1 := hb1.size
  have B2 := BW.trans (hb1.mono (by omega))
  have K02 := Lib.hid ((hb1.block _ (by omega)).trans K0.out)
  have K12 := Lib.hid ((hb1.block _ (by omega)).trans K1.out)
  clear hb1
  go_wp2_with fail
  have B3 : Below w.heap.size w (w2.alloc (.cells #[.int .i64 e1, .int .i64 e2] 32)) := B2.alloc B2.size _
  have hi3 := ints_pair (World.alloc_heap_new w2 (.cells #[.int .i64 e1, .int .i64 e2] 32)) (by simp)
  have k03 : (w2.alloc (.cells #[.int .i64 e1, .int .i64 e2] 32)).heap[w.heap.size]? = _ := (Below.heap_alloc _ _ _ (by omega)).trans K02.out
  have k13 : (w2.alloc (.cells #[.int .i64 e1, .int .i64 e2] 32)).heap[w.heap.size + 1]? = _ := (Below.heap_alloc _ _ _ (by omega)).trans K12.out
  have hs3 : (w2.alloc (.cells #[.int .i64 e1, .int .i64 e2] 32)).heap.size = w2.heap.size + 1 := by simp
  generalize w2.alloc (.cells #[.int .i64 e1, .int .i64 e2] 32) = w3 at *
  refine (terr_any _ _ _ hi3 (by simp)).mono ?_
  rintro e w4 ⟨rfl, hw⟩
  obtain rfl := hw
  generalize firstNZ [e1, e2] = ee at *
  have K03 := Lib.hid k03
  have K13 := Lib.hid k13
  clear hi3 k03 k13
  by_cases h0 : ee = 0
  · have HX := HR.out.trans (if_pos h0)
    subst HX
    have b0 : (ee != 0) = false := by simpa using h0
    clear h0
    go_wp2_with fail
    refine wp_region_any (by kernel_rfl) ?_
    change wpAny _ _ _ _ _ _ _ (World.drew _)
    have B4 := B3.drew
    have K04 := Lib.hid (show (World.drew w3).heap[w.heap.size]? = _ from K03.out)
    have K14 := Lib.hid (show (World.drew w3).heap[w.heap.size + 1]? = _ from K13.out)
    have hs4 : (World.drew w3).heap.size = w2.heap.size + 1 := hs3
    generalize World.drew w3 = X at *
    have d0 : X.cell? ⟨w.heap.size, 0, none⟩ = some (.int .i64 h.k) := cell_of_block K04.out rfl
    have d1 : X.cell? ⟨w.heap.size, 1, none⟩ = some (.string ⟨h.l.toArray⟩) := cell_of_block K04.out rfl
    have d2 : X.cell? ⟨w.heap.size, 2, none⟩ = some (.slice aa h.ats.length ca) := cell_of_block K04.out rfl
    have d3 : X.cell? ⟨w.heap.size, 3, none⟩ = some (.int .i64 h.n) := cell_of_block K04.out rfl
    have d4 : X.cell? ⟨w.heap.size, 4, none⟩ = some (.int .i64 h.d) := cell_of_block K04.out rfl
    have d5 : X.cell? ⟨w.heap.size, 5, none⟩ = some (.string ⟨h.x.toArray⟩) := cell_of_block K04.out rfl
    have f0 : X.cell? ⟨w.heap.size + 1, 0, none⟩ = some (.int .i64 i.k) := cell_of_block K14.out rfl
    have f1 : X.cell? ⟨w.heap.size + 1, 1, none⟩ = some (.string ⟨i.l.toArray⟩) := cell_of_block K14.out rfl
    have f2 : X.cell? ⟨w.heap.size + 1, 2, none⟩ = some (.slice ab i.ats.length cb) := cell_of_block K14.out rfl
    have f3 : X.cell? ⟨w.heap.size + 1, 3, none⟩ = some (.int .i64 i.n) := cell_of_block K14.out rfl
    have f4 : X.cell? ⟨w.heap.size + 1, 4, none⟩ = some (.int .i64 i.d) := cell_of_block K14.out rfl
    have f5 : X.cell? ⟨w.heap.size + 1, 5, none⟩ = some (.string ⟨i.x.toArray⟩) := cell_of_block K14.out rfl
    refine wpAny_ready (rs := [0, 1, 2]) (by decide +kernel) (by simp) ?_
    refine AllReady.cons rfl (fun K hK => ?_) (AllReady.cons rfl (fun K hK => ?_) (AllReady.cons rfl (fun K hK => ?_) AllReady.nil))
    · go_simp
      refine hK _ _ ?_; clear hK K
      refine wpAny_ready (rs := [1, 2]) (by decide +kernel) (by simp) ?_
      refine AllReady.cons rfl (fun K hK => ?_) (AllReady.cons rfl (fun K hK => ?_) AllReady.nil)
      · go_simp
        refine hK _ _ ?_; clear hK K
        refine wpAny_ready (rs := [2]) (by decide +kernel) (by simp) ?_
        refine AllReady.cons rfl (fun K hK => ?_) AllReady.nil
        go_simp
        go_wp2_with (go_at_call 87; refine (aspects_any _).mono ?_; rintro e w5 ⟨b5, rfl, hbb5, hA5, hb5⟩; have B5 := B4.trans (hb5.mono B4.size); have K05 := (hb5.block w.heap.size (by omega)).trans K04.out; have K15 := (hb5.block (w.heap.size + 1) (by omega)).trans K14.out)
        have g0 : w5.cell? ⟨w.heap.size, 0, none⟩ = some (.int .i64 h.k) := cell_of_block K05 rfl
        have g1 : w5.cell? ⟨w.heap.size, 1, none⟩ = some (.string ⟨h.l.toArray⟩) := cell_of_block K05 rfl
        have g2 : w5.cell? ⟨w.heap.size, 2, none⟩ = some (.slice aa h.ats.length ca) := cell_of_block K05 rfl
        have g3 : w5.cell? ⟨w.heap.size, 3, none⟩ = some (.int .i64 h.n) := cell_of_block K05 rfl
        have g4 : w5.cell? ⟨w.heap.size, 4, none⟩ = some (.int .i64 h.d) := cell_of_block K05 rfl
        have g5 : w5.cell? ⟨w.heap.size, 5, none⟩ = some (.string ⟨h.x.toArray⟩) := cell_of_block K05 rfl
        have m0 : w5.cell? ⟨w.heap.size + 1, 0, none⟩ = some (.int .i64 i.k) := cell_of_block K15 rfl
        have m1 : w5.cell? ⟨w.heap.size + 1, 1, none⟩ = some (.string ⟨i.l.toArray⟩) := cell_of_block K15 rfl
        have m2 : w5.cell? ⟨w.heap.size + 1, 2, none⟩ = some (.slice ab i.ats.length cb) := cell_of_block K15 rfl
        have m3 : w5.cell? ⟨w.heap.size + 1, 3, none⟩ = some (.int .i64 i.n) := cell_of_block K15 rfl
        have m4 : w5.cell? ⟨w.heap.size + 1, 4, none⟩ = some (.int .i64 i.d) := cell_of_block K15 rfl
        have m5 : w5.cell? ⟨w.heap.size + 1, 5, none⟩ = some (.string ⟨i.x.toArray⟩) := cell_of_block K15 rfl
        clear K05 K15
        refine wpAny_ready (rs := [3]) (by decide +kernel) (by simp) ?_
        refine AllReady.cons rfl (fun K hK => ?_) AllReady.nil
        go_simp
        go_wp2_with (go_at_call 86; refine (OF.out b5 w5 B5 hA5).mono ?_; rintro e w6 ⟨rfl, hb6⟩)
        have B6 := B5.trans (hb6.mono B5.size)
        refine wpAny_ready (rs := [4]) (by decide +kernel) (by simp) ?_
        refine AllReady.cons rfl (fun K hK => ?_) AllReady.nil
        go_simp
        refine hK _ _ ?_; clear hK K
        refine wpAny_ready (rs := [5]) (by decide +kernel) (by simp) ?_
        refine AllReady.cons rfl (fun K hK => ?_) AllReady.nil
        go_simp
        refine hK _ _ ?_; clear hK K
        refine wpAny_done (by decide +kernel) ?_ _
        go_wp2_with fail
        go_ret2
        exact ⟨rfl, B6⟩
      · go_simp
        go_wp2_with (go_at_call 87; refine (aspects_any _).mono ?_; rintro e w5 ⟨b5, rfl, hbb5, hA5, hb5⟩; have B5 := B4.trans (hb5.mono B4.size); have K05 := (hb5.block w.heap.size (by omega)).trans K04.out; have K15 := (hb5.block (w.heap.size + 1) (by omega)).trans K14.out)
        have g0 : w5.cell? ⟨w.heap.size, 0, none⟩ = some (.int .i64 h.k) := cell_of_block K05 rfl
        have g1 : w5.cell? ⟨w.heap.size, 1, none⟩ = some (.string ⟨h.l.toArray⟩) := cell_of_block K05 rfl
        have g2 : w5.cell? ⟨w.heap.size, 2, none⟩ = some (.slice aa h.ats.length ca) := cell_of_block K05 rfl
        have g3 : w5.cell? ⟨w.heap.size, 3, none⟩ = some (.int .i64 h.n) := cell_of_block K05 rfl
        have g4 : w5.cell? ⟨w.heap.size, 4, none⟩ = some (.int .i64 h.d) := cell_of_block K05 rfl
        have g5 : w5.cell? ⟨w.heap.size, 5, none⟩ = some (.string ⟨h.x.toArray⟩) := cell_of_block K05 rfl
        have m0 : w5.cell? ⟨w.heap.size + 1, 0, none⟩ = some (.int .i64 i.k) := cell_of_block K15 rfl
        have m1 : w5.cell? ⟨w.heap.size + 1, 1, none⟩ = some (.string ⟨i.l.toArray⟩) := cell_of_block K15 rfl
        have m2 : w5.cell? ⟨w.heap.size + 1, 2, none⟩ = some (.slice ab i.ats.length cb) := cell_of_block K15 rfl
        have m3 : w5.cell? ⟨w.heap.size + 1, 3, none⟩ = some (.int .i64 i.n) := cell_of_block K15 rfl
        have m4 : w5.cell? ⟨w.heap.size + 1, 4, none⟩ = some (.int .i64 i.d) := cell_of_block K15 rfl
        have m5 : w5.cell? ⟨w.heap.size + 1, 5, none⟩ = some (.string ⟨i.x.toArray⟩) := cell_of_block K15 rfl
        clear K05 K15
        refine wpAny_ready (rs := [1]) (by decide +kernel) (by simp) ?_
        refine AllReady.cons rfl (fun K hK => ?_) AllReady.nil
        go_simp
        refine hK _ _ ?_; clear hK K
        refine wpAny_ready (rs := [3]) (by decide +kernel) (by simp) ?_
        refine AllReady.cons rfl (fun K hK => ?_) AllReady.nil
        go_simp
        go_wp2_with (go_at_call 86; refine (OF.out b5 w5 B5 hA5).mono ?_; rintro e w6 ⟨rfl, hb6⟩)
        have B6 := B5.trans (hb6.mono B5.size)
        refine wpAny_ready (rs := [4]) (by decide +kernel) (by simp) ?_
        refine AllReady.cons rfl (fun K hK => ?_) AllReady.nil
        go_simp
        refine hK _ _ ?_; clear hK K
        refine wpAny_ready (rs := [5]) (by decide +kernel) (by simp) ?_
        refine AllReady.cons rfl (fun K hK => ?_) AllReady.nil
        go_simp
        refine hK _ _ ?_; clear hK K
        refine wpAny_done (by decide +kernel) ?_ _
        go_wp2_with fail
        go_ret2
        exact ⟨rfl, B6⟩
    · go_simp
      refine hK _ _ ?_; clear hK K
      refine wpAny_ready (rs := [0, 2]) (by decide +kernel) (by simp) ?_
      refine AllReady.cons rfl (fun K hK => ?_) (AllReady.cons rfl (fun K hK => ?_) AllReady.nil)
      · go_simp
        refine hK _ _ ?_; clear hK K
        refine wpAny_ready (rs := [2]) (by decide +kernel) (by simp) ?_
        refine AllReady.cons rfl (fun K hK => ?_) AllReady.nil
        go_simp
        go_wp2_with (go_at_call 87; refine (aspects_any _).mono ?_; rintro e w5 ⟨b5, rfl, hbb5, hA5, hb5⟩; have B5 := B4.trans (hb5.mono B4.size); have K05 := (hb5.block w.heap.size (by omega)).trans K04.out; have K15 := (hb5.block (w.heap.size + 1) (by omega)).trans K14.out)
        have g0 : w5.cell? ⟨w.heap.size, 0, none⟩ = some (.int .i64 h.k) := cell_of_block K05 rfl
        have g1 : w5.cell? ⟨w.heap.size, 1, none⟩ = some (.string ⟨h.l.toArray⟩) := cell_of_block K05 rfl
        have g2 : w5.cell? ⟨w.heap.size, 2, none⟩ = some (.slice aa h.ats.length ca) := cell_of_block K05 rfl
        have g3 : w5.cell? ⟨w.heap.size, 3, none⟩ = some (.int .i64 h.n) := cell_of_block K05 rfl
        have g4 : w5.cell? ⟨w.heap.size, 4, none⟩ = some (.int .i64 h.d) := cell_of_block K05 rfl
        have g5 : w5.cell? ⟨w.heap.size, 5, none⟩ = some (.string ⟨h.x.toArray⟩) := cell_of_block K05 rfl
        have m0 : w5.cell? ⟨w.heap.size + 1, 0, none⟩ = some (.int .i64 i.k) := cell_of_block K15 rfl
        have m1 : w5.cell? ⟨w.heap.size + 1, 1, none⟩ = some (.string ⟨i.l.toArray⟩) := cell_of_block K15 rfl
        have m2 : w5.cell? ⟨w.heap.size + 1, 2, none⟩ = some (.slice ab i.ats.length cb) := cell_of_block K15 rfl
        have m3 : w5.cell? ⟨w.heap.size + 1, 3, none⟩ = some (.int .i64 i.n) := cell_of_block K15 rfl
        have m4 : w5.cell? ⟨w.heap.size + 1, 4, none⟩ = some (.int .i64 i.d) := cell_of_block K15 rfl
        have m5 : w5.cell? ⟨w.heap.size + 1, 5, none⟩ = some (.string ⟨i.x.toArray⟩) := cell_of_block K15 rfl
        clear K05 K15
        refine wpAny_ready (rs := [3]) (by decide +kernel) (by simp) ?_
        refine AllReady.cons rfl (fun K hK => ?_) AllReady.nil
        go_simp
        go_wp2_with (go_at_call 86; refine (OF.out b5 w5 B5 hA5).mono ?_; rintro e w6 ⟨rfl, hb6⟩)
        have B6 := B5.trans (hb6.mono B5.size)
        refine wpAny_ready (rs := [4]) (by decide +kernel) (by simp) ?_
        refine AllReady.cons rfl (fun K hK => ?_) AllReady.nil
        go_simp
        refine hK _ _ ?_; clear hK K
        refine wpAny_ready (rs := [5]) (by decide +kernel) (by simp) ?_
        refine AllReady.cons rfl (fun K hK => ?_) AllReady.nil
        go_simp
        refine hK _ _ ?_; clear hK K
        refine wpAny_done (by decide +kernel) ?_ _
        go_wp2_with fail
        go_ret2
        exact ⟨rfl, B6⟩
      · go_simp
        go_wp2_with (go_at_call 87; refine (aspects_any _).mono ?_; rintro e w5 ⟨b5, rfl, hbb5, hA5, hb5⟩; have B5 := B4.trans (hb5.mono B4.size); have K05 := (hb5.block w.heap.size (by omega)).trans K04.out; have K15 := (hb5.block (w.heap.size + 1) (by omega)).trans K14.out)
        have g0 : w5.cell? ⟨w.heap.size, 0, none⟩ = some (.int .i64 h.k) := cell_of_block K05 rfl
        have g1 : w5.cell? ⟨w.heap.size, 1, none⟩ = some (.string ⟨h.l.toArray⟩) := cell_of_block K05 rfl
        have g2 : w5.cell? ⟨w.heap.size, 2, none⟩ = some (.slice aa h.ats.length ca) := cell_of_block K05 rfl
        have g3 : w5.cell? ⟨w.heap.size, 3, none⟩ = some (.int .i64 h.n) := cell_of_block K05 rfl
        have g4 : w5.cell? ⟨w.heap.size, 4, none⟩ = some (.int .i64 h.d) := cell_of_block K05 rfl
        have g5 : w5.cell? ⟨w.heap.size, 5, none⟩ = some (.string ⟨h.x.toArray⟩) := cell_of_block K05 rfl
        have m0 : w5.cell? ⟨w.heap.size + 1, 0, none⟩ = some (.int .i64 i.k) := cell_of_block K15 rfl
        have m1 : w5.cell? ⟨w.heap.size + 1, 1, none⟩ = some (.string ⟨i.l.toArray⟩) := cell_of_block K15 rfl
        have m2 : w5.cell? ⟨w.heap.size + 1, 2, none⟩ = some (.slice ab i.ats.length cb) := cell_of_block K15 rfl
        have m3 : w5.cell? ⟨w.heap.size + 1, 3, none⟩ = some (.int .i64 i.n) := cell_of_block K15 rfl
        have m4 : w5.cell? ⟨w.heap.size + 1, 4, none⟩ = some (.int .i64 i.d) := cell_of_block K15 rfl
        have m5 : w5.cell? ⟨w.heap.size + 1, 5, none⟩ = some (.string ⟨i.x.toArray⟩) := cell_of_block K15 rfl
        clear K05 K15
        refine wpAny_ready (rs := [0]) (by decide +kernel) (by simp) ?_
        refine AllReady.cons rfl (fun K hK => ?_) AllReady.nil
        go_simp
        refine hK _ _ ?_; clear hK K
        refine wpAny_ready (rs := [3]) (by decide +kernel) (by simp) ?_
        refine AllReady.cons rfl (fun K hK => ?_) AllReady.nil
        go_simp
        go_wp2_with (go_at_call 86; refine (OF.out b5 w5 B5 hA5).mono ?_; rintro e w6 ⟨rfl, hb6⟩)
        have B6 := B5.trans (hb6.mono B5.size)
        refine wpAny_ready (rs := [4]) (by decide +kernel) (by simp) ?_
        refine AllReady.cons rfl (fun K hK => ?_) AllReady.nil
        go_simp
        refine hK _ _ ?_; clear hK K
        refine wpAny_ready (rs := [5]) (by decide +kernel) (by simp) ?_
        refine AllReady.cons rfl (fun K hK => ?_) AllReady.nil
        go_simp
        refine hK _ _ ?_; clear hK K
        refine wpAny_done (by decide +kernel) ?_ _
        go_wp2_with fail
        go_ret2
        exact ⟨rfl, B6⟩
    · go_simp
      go_wp2_with (go_at_call 87; refine (aspects_any _).mono ?_; rintro e w5 ⟨b5, rfl, hbb5, hA5, hb5⟩; have B5 := B4.trans (hb5.mono B4.size); have K05 := (hb5.block w.heap.size (by omega)).trans K04.out; have K15 := (hb5.block (w.heap.size + 1) (by omega)).trans K14.out)
      have g0 : w5.cell? ⟨w.heap.size, 0, none⟩ = some (.int .i64 h.k) := cell_of_block K05 rfl
      have g1 : w5.cell? ⟨w.heap.size, 1, none⟩ = some (.string ⟨h.l.toArray⟩) := cell_of_block K05 rfl
      have g2 : w5.cell? ⟨w.heap.size, 2, none⟩ = some (.slice aa h.ats.length ca) := cell_of_block K05 rfl
      have g3 : w5.cell? ⟨w.heap.size, 3, none⟩ = some (.int .i64 h.n) := cell_of_block K05 rfl
      have g4 : w5.cell? ⟨w.heap.size, 4, none⟩ = some (.int .i64 h.d) := cell_of_block K05 rfl
      have g5 : w5.cell? ⟨w.heap.size, 5, none⟩ = some (.string ⟨h.x.toArray⟩) := cell_of_block K05 rfl
      have m0 : w5.cell? ⟨w.heap.size + 1, 0, none⟩ = some (.int .i64 i.k) := cell_of_block K15 rfl
      have m1 : w5.cell? ⟨w.heap.size + 1, 1, none⟩ = some (.string ⟨i.l.toArray⟩) := cell_of_block K15 rfl
      have m2 : w5.cell? ⟨w.heap.size + 1, 2, none⟩ = some (.slice ab i.ats.length cb) := cell_of_block K15 rfl
      have m3 : w5.cell? ⟨w.heap.size + 1, 3, none⟩ = some (.int .i64 i.n) := cell_of_block K15 rfl
      have m4 : w5.cell? ⟨w.heap.size + 1, 4, none⟩ = some (.int .i64 i.d) := cell_of_block K15 rfl
      have m5 : w5.cell? ⟨w.heap.size + 1, 5, none⟩ = some (.string ⟨i.x.toArray⟩) := cell_of_block K15 rfl
      clear K05 K15
      refine wpAny_ready (rs := [0, 1]) (by decide +kernel) (by simp) ?_
      refine AllReady.cons rfl (fun K hK => ?_) (AllReady.cons rfl (fun K hK => ?_) AllReady.nil)
      · go_simp
        refine hK _ _ ?_; clear hK K
        refine wpAny_ready (rs := [1]) (by decide +kernel) (by simp) ?_
        refine AllReady.cons rfl (fun K hK => ?_) AllReady.nil
        go_simp
        refine hK _ _ ?_; clear hK K
        refine wpAny_ready (rs := [3]) (by decide +kernel) (by simp) ?_
        refine AllReady.cons rfl (fun K hK => ?_) AllReady.nil
        go_simp
        go_wp2_with (go_at_call 86; refine (OF.out b5 w5 B5 hA5).mono ?_; rintro e w6 ⟨rfl, hb6⟩)
        have B6 := B5.trans (hb6.mono B5.size)
        refine wpAny_ready (rs := [4]) (by decide +kernel) (by simp) ?_
        refine AllReady.cons rfl (fun K hK => ?_) AllReady.nil
        go_simp
        refine hK _ _ ?_; clear hK K
        refine wpAny_ready (rs := [5]) (by decide +kernel) (by simp) ?_
        refine AllReady.cons rfl (fun K hK => ?_) AllReady.nil
        go_simp
        refine hK _ _ ?_; clear hK K
        refine wpAny_done (by decide +kernel) ?_ _
        go_wp2_with fail
        go_ret2
        exact ⟨rfl, B6⟩
      · go_simp
        refine hK _ _ ?_; clear hK K
        refine wpAny_ready (rs := [0]) (by decide +kernel) (by simp) ?_
        refine AllReady.cons rfl (fun K hK => ?_) AllReady.nil
        go_simp
        refine hK _ _ ?_; clear hK K
        refine wpAny_ready (rs := [3]) (by decide +kernel) (by simp) ?_
        refine AllReady.cons rfl (fun K hK => ?_) AllReady.nil
        go_simp
        go_wp2_with (go_at_call 86; refine (OF.out b5 w5 B5 hA5).mono ?_; rintro e w6 ⟨rfl, hb6⟩)
        have B6 := B5.trans (hb6.mono B5.size)
        refine wpAny_ready (rs := [4]) (by decide +kernel) (by simp) ?_
        refine AllReady.cons rfl (fun K hK => ?_) AllReady.nil
        go_simp
        refine hK _ _ ?_; clear hK K
        refine wpAny_ready (rs := [5]) (by decide +kernel) (by simp) ?_
        refine AllReady.cons rfl (fun K hK => ?_) AllReady.nil
        go_simp
        refine hK _ _ ?_; clear hK K
        refine wpAny_done (by decide +kernel) ?_ _
        go_wp2_with fail
        go_ret2
        exact ⟨rfl, B6⟩
  · have HX := HR.out.trans (if_neg h0)
    subst HX
    have b0 : (ee != 0) = true := by simpa using h0
    clear h0
    go_wp2_with fail
    go_ret2
    exact ⟨rfl, B3⟩
end Go.Proofs.YtcgedpfolloinaaGreat
