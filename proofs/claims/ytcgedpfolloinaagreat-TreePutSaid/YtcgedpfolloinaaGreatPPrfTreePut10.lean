/- What the proof of PrfTreePut rests on, part 10 of 11. -/
import Derived.Deep.DeepCutAuto
import Derived.Deep.Slices
import Derived.Deep.SlicePairs
import Derived.ChangeArms
import Derived.SizedLaws
import Derived.Test.YtcgedpfolloinaaGreatPPrfTreePut9
namespace Go.Proofs.YtcgedpfolloinaaGreat
open Go.RowKit

theorem cell_get {W : World} {b o : Nat} {C : Array Value} {T : TypeId} {fr : Nat × Nat} {v : Value} (h : W.heap[b]? = some (.cells C T fr)) (hc : W.cell? ⟨b, o, none⟩ = some v) : C[o]? = some v := by
  unfold World.cell? at hc
  simpa [h] using hc
/-- whatever is stored at a place, and lies there, is part of the forest that lies in block G. -/
def Hole (W : World) (G pb po Bg B0 : Nat) (Ig : Nat → Prop) (f : Fo) (pre : List Nat) : Prop :=
  ∀ (W' : World) (v' : Value) (g' : Fo), W.heap.size ≤ W'.heap.size → (∀ x, x < W.heap.size → ¬ Ig x → x ≠ pb → W'.heap[x]? = W.heap[x]?) →
    (∀ o, o ≠ po → W'.cell? ⟨pb, o, none⟩ = W.cell? ⟨pb, o, none⟩) → W'.cell? ⟨pb, po, none⟩ = some v' → LiesF Bg W' v' g' → ∃ vt, W'.cell? ⟨G, 0, none⟩ = some vt ∧ LiesF B0 W' vt (changeAt f pre g')
theorem Hole.top (W : World) (G B0 : Nat) (I : Nat → Prop) (f : Fo) : Hole W G G 0 B0 B0 I f [] := fun _ v' _ _ _ _ h1 h2 => ⟨v', h1, h2⟩
theorem Hole.step {W : World} {G pb po Bg B0 : Nat} {Ig : Nat → Prop} {f : Fo} {pre : List Nat} {g : Fo} {b cap : Nat} {own : Nat → Nat} {i : Nat} {h : Hd} {ks : Fo} (H : Hole W G pb po Bg B0 Ig f pre) (hpb : ¬ Ig pb) (hpl : pb < W.heap.size)
    (hB : ∀ x, Ig x → Bg ≤ x) (hv : W.cell? ⟨pb, po, none⟩ = some (.slice (some ⟨b, 0, none⟩) g.len cap)) (hcap : g.len ≤ cap) (hlen : g.len ≤ 2000000000000) (hI : Ig b) (hb : b < W.heap.size)
    (hT : TreesO Ig own W g b 0 g.len) (hg : goTo f pre = some g) (hn : nth g i = some (h, ks)) : Hole W G b (i * 7 + 6) (b + 1) B0 (cls Ig own b (2 * i + 1)) f (pre ++ [i]) := by
  intro W' v' g' hs hx hc h1 h2
  rw [changeAt_snoc pre f g' hg hn]
  have hpx := hx pb hpl (fun hc => hpb hc.1) (fun e => hpb (e ▸ hI))
  refine H W' (.slice (some ⟨b, 0, none⟩) g.len cap) (setK g i h g') hs ?_ ?_ ?_ ?_
  · intro x hl hx1 hx2
    exact hx x hl (fun hc => hx1 hc.1) (fun e => hx1 (e ▸ hI))
  · intro o _
    exact World.cell?_of_block (w := W) hpx
  · exact (World.cell?_of_block (w := W) hpx).trans hv
  · have hil := nth_lt hn
    have hll := len_setK hil h g'
    refine .inr ⟨b, 0, cap, by rw [hll], by rw [hll]; exact hcap, by rw [hll]; exact hlen, hB b hI, by omega, rowF_of _ 0 ?_⟩
    intro j h' ks' hj e
    rw [hll] at hj
    rw [Nat.zero_add]
    have e1 := nth_drop e
    rw [nth_setK hil] at e1
    have kc : ∀ c, c ≠ 2 * i + 1 → KeepsO (cls Ig own b c) W W' := fun c hc' => ⟨hs, fun x hx1 hl => hx x hl (fun h2 => hc' (hx1.2.2.symm.trans h2.2.2)) (Nat.ne_of_gt hx1.2.1)⟩
    have hBc : ∀ c x, cls Ig own b c x → Bg ≤ x := fun c x hx => hB x hx.1
    by_cases hj2 : j = i
    · subst hj2
      rw [if_pos rfl] at e1
      cases e1
      have H' := hT j h ks hj (drop_nth hn)
      rw [Nat.zero_add] at H'
      obtain ⟨⟨q0, q1, ⟨va, q2, ha⟩, q3, q4, q5⟩, -⟩ := H'
      exact ⟨⟨(hc _ (by omega)).trans q0, (hc _ (by omega)).trans q1, ⟨va, (hc _ (by omega)).trans q2, attrsO_F (hBc _) (attrsO_keeps ha (kc _ (by omega)))⟩, (hc _ (by omega)).trans q3, (hc _ (by omega)).trans q4, (hc _ (by omega)).trans q5⟩,
        v', h1, liesF_mono (by have := hB b hI; omega) h2⟩
    · rw [if_neg hj2] at e1
      have H' := hT j h' ks' hj (drop_nth e1)
      rw [Nat.zero_add] at H'
      obtain ⟨⟨q0, q1, ⟨va, q2, ha⟩, q3, q4, q5⟩, v, q6, hk⟩ := H'
      exact ⟨⟨(hc _ (by omega)).trans q0, (hc _ (by omega)).trans q1, ⟨va, (hc _ (by omega)).trans q2, attrsO_F (hBc _) (attrsO_keeps ha (kc _ (by omega)))⟩, (hc _ (by omega)).trans q3, (hc _ (by omega)).trans q4, (hc _ (by omega)).trans q5⟩,
        v, (hc _ (by omega)).trans q6, liesO_F (hBc _) (liesO_keeps hk (kc _ (by omega)))⟩
/- a block that holds a slice holds no row. -/
theorem no_row {W : World} {G : Nat} {a : Option Addr} {n c : Nat} {T : TypeId} {fr : Nat × Nat} (hG : W.heap[G]? = some (.cells #[.slice a n c] T fr)) {o : Nat} {v : Value} (h : W.cell? ⟨G, o, none⟩ = some v) : v = .slice a n c := by
  have := cell_get hG h
  cases o with
  | zero => simpa using this.symm
  | succ o => simp at this
theorem far_cell {W : World} {G b : Nat} (h : b ≠ G) (o : Nat) (u : Value) : (W.setCell ⟨G, 0, none⟩ u).cell? ⟨b, o, none⟩ = W.cell? ⟨b, o, none⟩ := World.cell?_of_block (w := W) (set_far h)
theorem attrsF_far {B : Nat} {W : World} {G : Nat} {a : Option Addr} {n c : Nat} {T : TypeId} {fr : Nat × Nat} (hG : W.heap[G]? = some (.cells #[.slice a n c] T fr)) (u : Value) {v : Value} {l : List (List UInt8 × List UInt8)} (h : AttrsF B W v l) : AttrsF B (W.setCell ⟨G, 0, none⟩ u) v l := by
  rcases h with h | ⟨b, off, cap, h1, h0, h4, h5, h2, h3⟩
  · exact .inl h
  · refine .inr ⟨b, off, cap, h1, h0, h4, h5, by rw [set_size']; exact h2, fun k hk => ?_⟩
    obtain ⟨c1, c2⟩ := h3 k hk
    have hb : b ≠ G := by
      rintro rfl
      have := no_row hG c1
      cases this
    exact ⟨(far_cell hb _ u).trans c1, (far_cell hb _ u).trans c2⟩
theorem rowF_far {B : Nat} {W : World} {G : Nat} {a : Option Addr} {n c : Nat} {T : TypeId} {fr : Nat × Nat} (hG : W.heap[G]? = some (.cells #[.slice a n c] T fr)) (u : Value) : ∀ (f : Fo) (b o : Nat), RowF B W f b o → RowF B (W.setCell ⟨G, 0, none⟩ u) f b o
  | .nil, _, _, _ => trivial
  | .cons h ks r, b, o, H => by
    obtain ⟨⟨h0, h1, ⟨va, h2, ha⟩, h3, h4, h5⟩, ⟨v, h6, h7⟩, h8⟩ := H
    have hb : b ≠ G := by
      rintro rfl
      have := no_row hG h0
      cases this
    have hc := fun o => far_cell (W := W) hb o u
    refine ⟨⟨(hc _).trans h0, (hc _).trans h1, ⟨va, (hc _).trans h2, attrsF_far hG u ha⟩, (hc _).trans h3, (hc _).trans h4, (hc _).trans h5⟩, ⟨v, (hc _).trans h6, ?_⟩, rowF_far hG u r b (o + 7) h8⟩
    rcases h7 with h7 | ⟨b', o', cap, e, e0, e3, eB, e1, e2⟩
    · exact .inl h7
    · exact .inr ⟨b', o', cap, e, e0, e3, eB, by rw [set_size']; exact e1, rowF_far hG u ks b' o' e2⟩
theorem liesF_far {B : Nat} {W : World} {G : Nat} {a : Option Addr} {n c : Nat} {T : TypeId} {fr : Nat × Nat} (hG : W.heap[G]? = some (.cells #[.slice a n c] T fr)) (u : Value) {v : Value} {f : Fo} (h : LiesF B W v f) : LiesF B (W.setCell ⟨G, 0, none⟩ u) v f := by
  rcases h with h | ⟨b, o, cap, h1, h0, h4, h5, h2, h3⟩
  · exact .inl h
  · exact .inr ⟨b, o, cap, h1, h0, h4, h5, by rw [set_size']; exact h2, rowF_far hG u f b o h3⟩
/-- what lies is stored at the place, and the forest that lies in block G has it there. -/
theorem Hole.store {W W7 : World} {G pb po Bg B0 : Nat} {Ig : Nat → Prop} {f : Fo} {pre : List Nat} {Cp : Array Value} {Tp : TypeId} {vg vN : Value} {gN : Fo} (H : Hole W G pb po Bg B0 Ig f pre)
    (hp : W.heap[pb]? = some (.cells Cp Tp (0, 0))) (hv : Cp[po]? = some vg) (hm : pb + 1 = Bg ∨ (po = 0 ∧ ∃ a n c, Cp = #[.slice a n c])) (hb : Below W.heap.size W W7) (hN : LiesF Bg W7 vN gN) :
    ∃ vt, (W7.setCell ⟨pb, po, none⟩ vN).cell? ⟨G, 0, none⟩ = some vt ∧ LiesF B0 (W7.setCell ⟨pb, po, none⟩ vN) vt (changeAt f pre gN) := by
  have hpl := blk_size hp
  have h7 := (hb.block pb hpl).trans hp
  have hset : (W7.setCell ⟨pb, po, none⟩ vN).heap[pb]? = some (.cells (Cp.setIfInBounds po vN) Tp (0, 0)) := set_block h7
  have hpo : po < Cp.size := (Array.getElem?_eq_some_iff.1 hv).1
  refine H _ vN gN (by rw [set_size']; exact hb.size) ?_ ?_ ?_ ?_
  · intro x hl _ hx
    exact (set_far hx).trans (hb.block x hl)
  · intro o ho
    unfold World.cell?
    simp [hset, hp, show ¬ po = o from fun e => ho e.symm]
  · refine cell_of_block hset ?_
    rw [Array.getElem?_setIfInBounds, if_pos rfl, if_pos hpo]
  · rcases hm with rfl | ⟨rfl, a, n, c, rfl⟩
    · exact liesF_keeps hN (Keeps.setCell _ (Nat.lt_succ_self _) _ _)
    · exact liesF_far h7 vN hN
theorem rowF_drop {B : Nat} {w : World} {b : Nat} : ∀ (i : Nat) (f : Fo) (o : Nat), RowF B w f b o → RowF B w (f.drop i) b (o + i * 7)
  | 0, f, o, h => by simpa [Fo.drop] using h
  | i + 1, .nil, o, h => trivial
  | i + 1, .cons hd ks r, o, h => by
    have := rowF_drop i r (o + 7) h.2.2
    rw [show o + 7 + i * 7 = o + (i + 1) * 7 by omega] at this
    exact this
theorem rowF_take {B : Nat} {w : World} {b : Nat} : ∀ (i : Nat) (f : Fo) (o : Nat), RowF B w f b o → RowF B w (f.take i) b o
  | 0, f, o, h => by simp [Fo.take, RowF]
  | i + 1, .nil, o, h => trivial
  | i + 1, .cons hd ks r, o, h => ⟨h.1, h.2.1, rowF_take i r (o + 7) h.2.2⟩
end Go.Proofs.YtcgedpfolloinaaGreat

namespace Go.Proofs.YtcgedpfolloinaaGreat
open Go.RowKit

theorem below_drewN' : ∀ (n B : Nat) (w : World), Below B w (w.drewN n) := fun _ _ _ => ⟨rfl, rfl, rfl, Nat.le_refl _, fun _ _ => rfl⟩
theorem take_size : ∀ (f : Fo) (i : Nat), (f.take i).size + (f.drop i).size = f.size := by
  intro f i
  rw [← Fo.size_app, Fo.take_app_drop]
theorem setK_size {f : Fo} {i : Nat} {h : Hd} {ks : Fo} (e : nth f i = some (h, ks)) (x : Fo) : (setK f i h x).size + ks.size = f.size + x.size := by
  have := take_size f i
  rw [drop_nth e] at this
  unfold setK
  rw [Fo.size_app]
  simp only [Fo.size] at this ⊢
  omega
theorem changeAt_size : ∀ (q : List Nat) (f : Fo) {g : Fo} (x : Fo), goTo f q = some g → (changeAt f q x).size + g.size = f.size + x.size
  | [], f, g, x, e => by cases e; simp only [changeAt]; omega
  | a :: q, f, g, x, e => by
    simp only [goTo, changeAt] at e ⊢
    cases hn : nth f a with
    | none => simp [hn] at e
    | some y =>
      rw [hn] at e
      have h1 := changeAt_size q y.2 x e
      have h2 := setK_size (h := y.1) (ks := y.2) hn (changeAt y.2 q x)
      simp only
      omega
theorem spl_size (g : Fo) (i n : Nat) (b : Fo) : (spl g i n b).size = (g.take i).size + b.size + (g.drop (i + n)).size := by
  unfold spl
  rw [Fo.size_app, Fo.size_app]
  omega
theorem drop_drop : ∀ (g : Fo) (i n : Nat), (g.drop i).drop n = g.drop (i + n)
  | .nil, i, n => by simp [Fo.drop_nil]
  | .cons h ks r, 0, n => by simp [Fo.drop]
  | .cons h ks r, i + 1, n => by
    rw [show i + 1 + n = (i + n) + 1 by omega]
    simp only [Fo.drop]
    exact drop_drop r i n
theorem spl_le (g : Fo) (i n : Nat) (b : Fo) : (spl g i n b).size ≤ g.size + b.size := by
  rw [spl_size]
  have h1 := take_size g i
  have h2 := take_size (g.drop i) n
  rw [drop_drop] at h2
  omega
theorem goTo_pre {g : Fo} : ∀ (p : List Nat) (i : Nat) (r : List Nat) (f : Fo), goTo f (p ++ i :: r) = some g → ∃ g' h ks, goTo f p = some g' ∧ nth g' i = some (h, ks)
  | [], i, r, f, e => by
    simp only [List.nil_append, goTo] at e
    cases hn : nth f i with
    | none => simp [hn] at e
    | some x => exact ⟨f, x.1, x.2, rfl, hn⟩
  | a :: p, i, r, f, e => by
    simp only [List.cons_append, goTo] at e ⊢
    cases hn : nth f a with
    | none => simp [hn] at e
    | some x =>
      rw [hn] at e
      exact goTo_pre p i r x.2 e

theorem take_getD3 {p : List Nat} {k : Nat} (hk : k < p.length) : p.take k ++ [p.getD k 0] = p.take (k + 1) := by
  rw [List.take_add_one, List.getD_eq_getElem?_getD, List.getElem?_eq_getElem hk]; rfl
theorem drop_getD3 {p : List Nat} {k : Nat} (hk : k < p.length) : p.drop k = p.getD k 0 :: p.drop (k + 1) := by
  rw [List.drop_eq_getElem_cons hk, List.getD_eq_getElem?_getD, List.getElem?_eq_getElem hk]; rfl
theorem goTo_size : ∀ (q : List Nat) (f : Fo) {g : Fo}, goTo f q = some g → g.size ≤ f.size
  | [], f, g, e => by cases e; exact Nat.le_refl _
  | a :: q, f, g, e => by
    simp only [goTo] at e
    cases hn : nth f a with
    | none => simp [hn] at e
    | some x =>
      rw [hn] at e
      have h1 := goTo_size q x.2 e
      have h2 := setK_size (h := x.1) (ks := x.2) hn .nil
      simp only [Fo.size] at h2
      omega
theorem rowF_F0 {B : Nat} {w : World} {f : Fo} {I : Nat → Prop} {own : Nat → Nat} {b : Nat} (hI : ∀ x, I x → B ≤ x) (H : RowO w f I own b 0) : RowF B w f b 0 := by
  have := rowO_F f I own b 0 hI H
  rwa [Nat.zero_mul] at this
/-- where a value of a slice of trees lies. -/
structure PlaceAt (W : World) (w0 G : Nat) (f : Fo) (pre : List Nat) (pb po Bg : Nat) (Ig : Nat → Prop) (Cp : Array Value) (Tp : TypeId) (a : Option Addr) (c : Nat) (g : Fo) : Prop where
  hole : Hole W G pb po Bg w0 Ig f pre
  goes : goTo f pre = some g
  not : ¬ Ig pb
  blk : W.heap[pb]? = some (.cells Cp Tp (0, 0))
  val : Cp[po]? = some (Value.slice a g.len c)
  lies : LiesO Ig W (.slice a g.len c) g
  low : ∀ x, Ig x → Bg ≤ x
  way : pb + 1 = Bg ∨ (po = 0 ∧ ∃ a n c, Cp = #[.slice a n c])
  ge : w0 ≤ pb
  bg : w0 ≤ Bg
  bgl : Bg ≤ W.heap.size

theorem PlaceAt.step {W : World} {w0 G : Nat} {f : Fo} {pre : List Nat} {pb po Bg : Nat} {Ig : Nat → Prop} {Cp : Array Value} {Tp : TypeId} {a : Option Addr} {c : Nat} {g : Fo} (P : PlaceAt W w0 G f pre pb po Bg Ig Cp Tp a c g) {i : Nat} {h : Hd} {ks : Fo} (hn : nth g i = some (h, ks)) :
    ∃ b own C ak ck, a = some ⟨b, 0, none⟩ ∧ b < W.heap.size ∧ g.len ≤ c ∧ g.len ≤ 2000000000000 ∧ W.cell? ⟨b, i * 7 + 6, none⟩ = some (Value.slice ak ks.len ck) ∧ PlaceAt W w0 G f (pre ++ [i]) b (i * 7 + 6) (b + 1) (cls Ig own b (2 * i + 1)) C 43 ak ck ks := by
  have hil := nth_lt hn
  rcases P.lies with ⟨_, _, e, rfl⟩ | ⟨b, cap, own, C, e, hcap, hlen, hI, hblk, hC, hrow⟩
  · simp [Fo.len] at hil
  · simp only [Value.slice.injEq, true_and] at e
    obtain ⟨rfl, rfl⟩ := e
    have hT := treesO_of g 0 hrow
    have hb := blk_size hblk
    have H' := hT i h ks hil (drop_nth hn)
    rw [Nat.zero_add] at H'
    obtain ⟨-, v, q6, hk⟩ := H'
    obtain ⟨ak, ck, rfl⟩ := liesO_form hk
    exact ⟨b, own, C, ak, ck, rfl, hb, hcap, hlen, q6, P.hole.step P.not (blk_size P.blk) P.low (cell_of_block P.blk P.val) hcap hlen hI hb hT P.goes hn, goTo_snoc pre f P.goes hn, fun hc => Nat.lt_irrefl _ hc.2.1, hblk, cell_get hblk q6, hk,
      fun x hx => hx.2.1, .inl rfl, Nat.le_trans P.bg (P.low b hI), Nat.le_trans P.bg (Nat.le_trans (P.low b hI) (Nat.le_succ _)), hb⟩

set_option maxRecDepth 100000 in
set_option maxHeartbeats 8000000 in
theorem splice_any (f : Fo) (q : List Nat) (i out : Nat) (g b : Fo) (v pv u : Value) (w : World) (hl : Lies w v f) (hp : IntsLie w pv (pathInts (q ++ [i]))) (hpl : q.length ≤ 1000000) (hu : Lies w u b) (hg : goTo f q = some g) (hi : i + out ≤ g.len) (hs : f.size ≤ 100000) (hsb : b.size ≤ 100000) :
    Calls Tryz.prog 105 #[v, pv, .int .i64 out, u] w (FoE w (inBnd (changeAt f q (spl g i out b)))) := by
  have CL := Lib.hid (fun W (hW : Below w.heap.size w W) => cloneO_any f.size f (Nat.le_refl _) v W (lies_below hl hW))
  have CB := Lib.hid (fun W (hW : Below w.heap.size w W) => clone_any b.size b (Nat.le_refl _) u W (lies_below hu hW))
  have hsz : (changeAt f q (spl g i out b)).size ≤ 1000000 := by
    have h1 := changeAt_size q f (spl g i out b) hg
    have h2 := spl_le g i out b
    omega
  have HP := Lib.hid hp
  have HG := Lib.hid hg
  obtain ⟨av, cv, rfl⟩ := lies_form hl
  obtain ⟨au, cu, rfl⟩ := lies_form hu
  obtain ⟨pb0, po0, pcap, rfl, hcp, hpb, hpc⟩ := ints_cells hp (by simp)
  clear hl hu hp hg
  simp only [List.length_map, List.length_append, List.length_cons, List.length_nil, Nat.zero_add] at hcp HP hpc ⊢
  have HPC := Lib.hid hpc
  clear hpc
  go_enter Tryz.func105, Tryz.ntmps105
  go_wp2_with fail
  refine (CL.out w (Below.refl _ _)).mono ?_
  rintro e X1 ⟨a1, c1, rfl, hO1, hb1⟩
  go_upto_region 2 with fail
  obtain ⟨W1, hW1⟩ : ∃ W1, X1.alloc (.cells #[.slice a1 f.len c1] 28) = W1 := ⟨_, rfl⟩
  have kk := World.alloc_heap_new X1 (.cells #[.slice a1 f.len c1] 28)
  have hbW : Below X1.heap.size X1 (X1.alloc (.cells #[.slice a1 f.len c1] 28)) := (Below.refl _ _).alloc (Nat.le_refl _) _
  have hsW : X1.heap.size < (X1.alloc (.cells #[.slice a1 f.len c1] 28)).heap.size := by simp
  rw [hW1] at kk hbW hsW
  rw [hW1]
  have B1 : Below w.heap.size w W1 := hb1.trans (hbW.mono hb1.size)
  have hsx := hb1.size
  have P0 : PlaceAt W1 w.heap.size X1.heap.size f [] X1.heap.size 0 w.heap.size (fun x => w.heap.size ≤ x ∧ x < X1.heap.size) #[.slice a1 f.len c1] 28 a1 c1 f :=
    ⟨.top _ _ _ _ _, rfl, fun h => Nat.lt_irrefl _ h.2, kk, rfl, liesO_keeps (liesO_mono (fun x hx hl => ⟨hx, hl⟩) hO1) (KeepsO.of_below hbW), fun x hx => hx.1, .inr ⟨rfl, _, _, _, rfl⟩, hsx, Nat.le_refl _, B1.size⟩
  have PP := Lib.hid P0
  have KG := Lib.hid kk
  clear P0 kk hO1 hb1 hbW hW1
  generalize X1.heap.size = G at *
  go_wp2_with fail
  go_loopw [11, 26] (fun lp i wr => wr = W1 ∧ ∃ (j pb po Bg : Nat) (Ig : Nat → Prop) (Cp : Array Value) (Tp : TypeId) (a : Option Addr) (c : Nat) (g' : Fo), i = .int .i64 j ∧ j ≤ q.length ∧ lp = .pointer (some ⟨pb, po, none⟩) ∧ PlaceAt W1 w.heap.size G f (q.take j) pb po Bg Ig Cp Tp a c g') (fun _ i _ => q.length - (intOf i).toNat)
  case atStart => exact ⟨rfl, 0, G, 0, _, _, _, _, a1, c1, f, rfl, Nat.zero_le _, rfl, PP.out⟩
  case round =>
    obtain ⟨rfl, j, pb, po, Bg, Ig, Cp, Tp, a, c, g', rfl, hj, rfl, hP⟩ := hrel
    have PQ := Lib.hid hP
    have c1' : wr.cell? ⟨pb, po, none⟩ = some (Value.slice a g'.len c) := cell_of_block hP.blk hP.val
    have f1' := frozen_of_block (o := po) hP.blk
    have hpb' := blk_size hP.blk
    clear hP PP
    by_cases hlt : j < q.length
    · have dk : decide (j < q.length) = true := by simpa using hlt
      have hq : q = q.take j ++ q.getD j 0 :: q.drop (j + 1) := by
        rw [← drop_getD3 hlt, List.take_append_drop]
      have hgo := HG.out
      rw [hq] at hgo
      obtain ⟨g2, h, ks, e1, e2⟩ := goTo_pre _ _ _ f hgo
      rw [PQ.out.goes] at e1
      cases e1
      have hil := nth_lt e2
      have HTK := Lib.hid (show q.take (j + 1) = q.take j ++ [q.getD j 0] by rw [← take_getD3 hlt])
      have c2' := (B1.cell (p := ⟨pb0, po0 + j, none⟩) hpb).trans (HPC.out j (by omega))
      rw [show (pathInts (q ++ [i])).getD j 0 = ((q.getD j 0 : Nat) : Int) by
        rw [List.getD_eq_getElem?_getD, List.getElem?_map, List.getElem?_append_left hlt, List.getElem?_eq_getElem hlt, List.getD_eq_getElem?_getD, List.getElem?_eq_getElem hlt]; rfl] at c2'
      have hpbr : pb0 < wr.heap.size := by have := B1.size; omega
      clear hgo hq
      generalize q.getD j 0 = m at *
      obtain ⟨b2, own, C, ak, ck, rfl, hb2, hcap, hlen, q6, hP2⟩ := PQ.out.step e2
      have P2 := Lib.hid hP2
      have dm : decide (m < g'.len) = true := by simpa using hil
      clear hP2 e2 q6
      go_wp2_with fail
      go_roundw
      case rel => exact ⟨trivial, j + 1, b2, m * 7 + 6, _, _, _, _, ak, ck, ks, by go_num, by omega, rfl, by rw [HTK.out]; exact P2.out⟩
      case measure => simp [intOf]; omega
    · have dk : decide (j < q.length) = false := by simpa using hlt
      obtain rfl : j = q.length := by omega
      have hP := PQ.out
      rw [List.take_length] at hP
      have e1 := hP.goes
      rw [HG.out] at e1
      cases e1
      have PR := Lib.hid hP
      have c2' := (B1.cell (p := ⟨pb0, po0 + q.length, none⟩) hpb).trans (HPC.out q.length (by omega))
      rw [show (pathInts (q ++ [i])).getD q.length 0 = (i : Int) by
        rw [List.getD_eq_getElem?_getD, List.getElem?_map, List.getElem?_append_right (Nat.le_refl _), Nat.sub_self]; rfl] at c2'
      have hpbr : pb0 < wr.heap.size := by have := B1.size; omega
      clear hP PQ
      obtain ⟨hgc, hg12⟩ : g.len ≤ c ∧ g.len ≤ 2000000000000 := by
        rcases PR.out.lies with ⟨_, _, e, rfl⟩ | ⟨_, _, _, _, e, h1, h2, -⟩
        · exact ⟨Nat.zero_le _, Nat.zero_le _⟩
        · simp only [Value.slice.injEq, true_and] at e
          obtain ⟨-, rfl⟩ := e
          exact ⟨h1, h2⟩
      have hgl0 : ∀ (a' : Option Addr) (n' c' : Nat) (k' : Fo), k'.len = n' → n' = 0 → LiesF Bg wr (.slice a' n' c') k' := by
        intro a' n' c' k' h1 h2
        subst h2
        exact .inl ⟨a', c', rfl, Fo.len_nil h1⟩
      cases a with
      | none =>
        have hg0 : g.len = 0 := by
          rcases PR.out.lies with ⟨_, _, e, rfl⟩ | ⟨_, _, _, _, e, -⟩
          · rfl
          · cases e
        have FF := Lib.hid (hgl0 none i c (g.take i) (len_take g i (by omega)) (by omega))
        have FB := Lib.hid (hgl0 none (g.len - (i + out)) (c - (i + out)) (g.drop (i + out)) (Fo.len_drop _ _) (by omega))
        clear hg0 hgl0
        go_upto_region 9 with fail
        obtain ⟨L1, hL1⟩ : ∃ n, q.length + 1 = n := ⟨_, rfl⟩
        rw [hL1]
        have dq : decide (q.length < L1) = true := by simp; omega
        go_quiet (fail)
        rename_i nq
        clear c1' f1' dq hL1 c2' HPC HP
        have B2 : Below w.heap.size w (wr.drewN nq) := B1.trans (below_drewN' nq _ _)
        have hbx : Below wr.heap.size wr (wr.drewN nq) := below_drewN' nq _ _
        generalize wr.drewN nq = W2 at *
        go_wp2_with fail
        refine (CB.out W2 B2).mono ?_
        rintro e X3 ⟨a3, c3, rfl, hF3, hb3⟩
        have B3 := B2.trans (hb3.mono B2.size)
        have hbx3 := hbx.trans (hb3.mono hbx.size)
        have HF3 := Lib.hid (liesF_mono (B' := Bg) (Nat.le_trans PR.out.bgl hbx.size) hF3)
        clear hF3 hb3 hbx B2
        go_wp2_with fail
        have kk := World.alloc_heap_new X3 (.cells #[.slice none i c, .slice a3 b.len c3, .slice none (g.len - (i + out)) (c - (i + out))] 28)
        have hba : Below X3.heap.size X3 (X3.alloc (.cells #[.slice none i c, .slice a3 b.len c3, .slice none (g.len - (i + out)) (c - (i + out))] 28)) := (Below.refl _ _).alloc (Nat.le_refl _) _
        have hsa : X3.heap.size < (X3.alloc (.cells #[.slice none i c, .slice a3 b.len c3, .slice none (g.len - (i + out)) (c - (i + out))] 28)).heap.size := by simp
        generalize X3.alloc (.cells #[.slice none i c, .slice a3 b.len c3, .slice none (g.len - (i + out)) (c - (i + out))] 28) = W4 at *
        have B4 := B3.trans (hba.mono B3.size)
        have hbx4 := hbx3.trans (hba.mono hbx3.size)
        have HS := Lib.hid (show SlicesAt Bg W4 X3.heap.size [g.take i, b, g.drop (i + out)] from ⟨hsa, fun k hk => by
          match k, hk with
          | 0, _ => exact ⟨none, c, by show _ = some (Value.slice none (g.take i).len c); rw [len_take g i (by omega)]; exact cell_of_block kk rfl, by show LiesF Bg W4 (.slice none (g.take i).len c) (g.take i); rw [len_take g i (by omega)]; exact liesF_keeps FF.out (Keeps.of_below hbx4)⟩
          | 1, _ => exact ⟨a3, c3, cell_of_block kk rfl, liesF_keeps HF3.out (Keeps.of_below hba)⟩
          | 2, _ => exact ⟨none, c - (i + out), by show _ = some (Value.slice none (g.drop (i + out)).len (c - (i + out))); rw [Fo.len_drop]; exact cell_of_block kk rfl, by show LiesF Bg W4 (.slice none (g.drop (i + out)).len (c - (i + out))) (g.drop (i + out)); rw [Fo.len_drop]; exact liesF_keeps FB.out (Keeps.of_below hbx4)⟩⟩)
        have hcat : catF [g.take i, b, g.drop (i + out)] = spl g i out b := by simp only [catF, spl, app_nil]
        have hgs := goTo_size q f HG.out
        have hspl := spl_le g i out b
        have CT := Lib.hid (concatT_any [g.take i, b, g.drop (i + out)] X3.heap.size Bg W4 (Nat.le_trans PR.out.bgl hbx4.size) HS.out (by simp) (by rw [hcat]; have := len_size (spl g i out b); omega))
        rw [hcat] at CT
        clear kk hba hsa HS hcat HF3 FF FB hbx3 B3 hgs hspl
        refine CT.out.mono ?_
        rintro e X5 ⟨a5, c5, rfl, hF5, hb5⟩
        have B5 := B4.trans (hb5.mono B4.size)
        have hbx5 := hbx4.trans (hb5.mono hbx4.size)
        have hblk5 := (hbx5.block pb hpb').trans PR.out.blk
        have c1' : X5.cell? ⟨pb, po, none⟩ = some (Value.slice none g.len c) := cell_of_block hblk5 PR.out.val
        have f1' := frozen_of_block (o := po) hblk5
        obtain ⟨vt, ht, hlt5⟩ := PR.out.hole.store PR.out.blk PR.out.val PR.out.way hbx5 hF5
        obtain ⟨at', ct, rfl⟩ := liesF_form hlt5
        have HLT := Lib.hid hlt5
        have HT := Lib.hid ht
        have B6 := Lib.hid (B5.setCell (p := ⟨pb, po, none⟩) PR.out.ge (.slice a5 (spl g i out b).len c5))
        clear hblk5 hb5 hF5 hlt5 ht hbx4 B4 hbx5 B5
        go_upto_region 11 with fail
        have h6 := HT.out
        have HL6 := Lib.hid HLT.out
        have B6' := B6.out
        generalize X5.setCell ⟨pb, po, none⟩ (.slice a5 (spl g i out b).len c5) = X6 at *
        clear HLT HT B6
        generalize changeAt f q (spl g i out b) = R at *
        have WI := Lib.hid (within_any R at' ct X6 (liesF_lies HL6.out) hsz)
        by_cases hbd : bndErr R = 0
        · have EX := Lib.hid (show inBnd R = (R, 0) by unfold inBnd; rw [if_pos hbd])
          rw [hbd, if_pos rfl] at WI
          clear hbd
          go_wp2_with fail
          refine WI.out.mono ?_
          rintro e w8 ⟨rfl, hb8⟩
          have HL8 := Lib.hid (liesF_keeps HL6.out (Keeps.of_below hb8 : Keeps w.heap.size X6 w8))
          have B8 := Lib.hid (B6'.trans (hb8.mono B6'.size))
          clear hb8
          go_wp2_with fail
          go_ret2
          rw [EX.out]
          exact ⟨_, rfl, HL8.out, B8.out⟩
        · have EX := Lib.hid (show inBnd R = (.nil, bndErr R) by unfold inBnd; rw [if_neg hbd])
          rw [if_neg hbd] at WI
          clear hbd
          go_wp2_with fail
          refine WI.out.mono ?_
          rintro e w8 ⟨rfl, hb8⟩
          have B8 := Lib.hid (B6'.trans (hb8.mono B6'.size))
          clear hb8
          go_wp2_with fail
          go_ret2
          rw [EX.out]
          exact ⟨.slice none 0 0, rfl, .inl ⟨_, _, rfl, rfl⟩, B8.out⟩
      | some ad =>
        have hfb : LiesF Bg wr (.slice (some ad) i c) (g.take i) ∧ LiesF Bg wr (.slice (if c = i + out then some ad else some (ad.add ((i + out) * 7))) (g.len - (i + out)) (c - (i + out))) (g.drop (i + out)) := by
          rcases PR.out.lies with ⟨_, _, e, rfl⟩ | ⟨b0, cap, own, C, e, h1, h2, h3, h4, h5, h6⟩
          · simp only [Fo.len] at hi ⊢
            exact ⟨hgl0 _ _ _ _ (len_take .nil i (by simp only [Fo.len]; omega)) (by omega), hgl0 _ _ _ _ (by rw [Fo.drop_nil]; simp only [Fo.len]; omega) (by omega)⟩
          · simp only [Value.slice.injEq, Option.some.injEq, true_and] at e
            obtain ⟨rfl, rfl⟩ := e
            have hr := rowF_F0 PR.out.low h6
            refine ⟨.inr ⟨b0, 0, c, by rw [len_take g i (by omega)], by rw [len_take g i (by omega)]; omega, by rw [len_take g i (by omega)]; omega, PR.out.low b0 h3, blk_size h4, rowF_take i g 0 hr⟩, ?_⟩
            by_cases hz : g.len - (i + out) = 0
            · exact hgl0 _ _ _ _ (Fo.len_drop _ _) hz
            · rw [if_neg (by omega)]
              refine .inr ⟨b0, 0 + (i + out) * 7, c - (i + out), by rw [Fo.len_drop, Go.WideShapes.add_plain], by rw [Fo.len_drop]; omega, by rw [Fo.len_drop]; omega, PR.out.low b0 h3, blk_size h4, rowF_drop (i + out) g 0 hr⟩
        have FF := Lib.hid hfb.1
        have FB := Lib.hid hfb.2
        clear hfb hgl0
        go_upto_region 9 with fail
        obtain ⟨L1, hL1⟩ : ∃ n, q.length + 1 = n := ⟨_, rfl⟩
        rw [hL1]
        have dq : decide (q.length < L1) = true := by simp; omega
        go_quiet (fail)
        rename_i nq
        generalize (if c = i + out then some ad else some (ad.add ((i + out) * 7)) : Option Addr) = aB at *
        clear c1' f1' dq hL1 c2' HPC HP
        have B2 : Below w.heap.size w (wr.drewN nq) := B1.trans (below_drewN' nq _ _)
        have hbx : Below wr.heap.size wr (wr.drewN nq) := below_drewN' nq _ _
        generalize wr.drewN nq = W2 at *
        go_wp2_with fail
        refine (CB.out W2 B2).mono ?_
        rintro e X3 ⟨a3, c3, rfl, hF3, hb3⟩
        have B3 := B2.trans (hb3.mono B2.size)
        have hbx3 := hbx.trans (hb3.mono hbx.size)
        have HF3 := Lib.hid (liesF_mono (B' := Bg) (Nat.le_trans PR.out.bgl hbx.size) hF3)
        clear hF3 hb3 hbx B2
        go_wp2_with fail
        have kk := World.alloc_heap_new X3 (.cells #[.slice (some ad) i c, .slice a3 b.len c3, .slice aB (g.len - (i + out)) (c - (i + out))] 28)
        have hba : Below X3.heap.size X3 (X3.alloc (.cells #[.slice (some ad) i c, .slice a3 b.len c3, .slice aB (g.len - (i + out)) (c - (i + out))] 28)) := (Below.refl _ _).alloc (Nat.le_refl _) _
        have hsa : X3.heap.size < (X3.alloc (.cells #[.slice (some ad) i c, .slice a3 b.len c3, .slice aB (g.len - (i + out)) (c - (i + out))] 28)).heap.size := by simp
        generalize X3.alloc (.cells #[.slice (some ad) i c, .slice a3 b.len c3, .slice aB (g.len - (i + out)) (c - (i + out))] 28) = W4 at *
        have B4 := B3.trans (hba.mono B3.size)
        have hbx4 := hbx3.trans (hba.mono hbx3.size)
        have HS := Lib.hid (show SlicesAt Bg W4 X3.heap.size [g.take i, b, g.drop (i + out)] from ⟨hsa, fun k hk => by
          match k, hk with
          | 0, _ => exact ⟨(some ad), c, by show _ = some (Value.slice (some ad) (g.take i).len c); rw [len_take g i (by omega)]; exact cell_of_block kk rfl, by show LiesF Bg W4 (.slice (some ad) (g.take i).len c) (g.take i); rw [len_take g i (by omega)]; exact liesF_keeps FF.out (Keeps.of_below hbx4)⟩
          | 1, _ => exact ⟨a3, c3, cell_of_block kk rfl, liesF_keeps HF3.out (Keeps.of_below hba)⟩
          | 2, _ => exact ⟨aB, c - (i + out), by show _ = some (Value.slice aB (g.drop (i + out)).len (c - (i + out))); rw [Fo.len_drop]; exact cell_of_block kk rfl, by show LiesF Bg W4 (.slice aB (g.drop (i + out)).len (c - (i + out))) (g.drop (i + out)); rw [Fo.len_drop]; exact liesF_keeps FB.out (Keeps.of_below hbx4)⟩⟩)
        have hcat : catF [g.take i, b, g.drop (i + out)] = spl g i out b := by simp only [catF, spl, app_nil]
        have hgs := goTo_size q f HG.out
        have hspl := spl_le g i out b
        have CT := Lib.hid (concatT_any [g.take i, b, g.drop (i + out)] X3.heap.size Bg W4 (Nat.le_trans PR.out.bgl hbx4.size) HS.out (by simp) (by rw [hcat]; have := len_size (spl g i out b); omega))
        rw [hcat] at CT
        clear kk hba hsa HS hcat HF3 FF FB hbx3 B3 hgs hspl
        refine CT.out.mono ?_
        rintro e X5 ⟨a5, c5, rfl, hF5, hb5⟩
        have B5 := B4.trans (hb5.mono B4.size)
        have hbx5 := hbx4.trans (hb5.mono hbx4.size)
        have hblk5 := (hbx5.block pb hpb').trans PR.out.blk
        have c1' : X5.cell? ⟨pb, po, none⟩ = some (Value.slice (some ad) g.len c) := cell_of_block hblk5 PR.out.val
        have f1' := frozen_of_block (o := po) hblk5
        obtain ⟨vt, ht, hlt5⟩ := PR.out.hole.store PR.out.blk PR.out.val PR.out.way hbx5 hF5
        obtain ⟨at', ct, rfl⟩ := liesF_form hlt5
        have HLT := Lib.hid hlt5
        have HT := Lib.hid ht
        have B6 := Lib.hid (B5.setCell (p := ⟨pb, po, none⟩) PR.out.ge (.slice a5 (spl g i out b).len c5))
        clear hblk5 hb5 hF5 hlt5 ht hbx4 B4 hbx5 B5
        go_upto_region 11 with fail
        have h6 := HT.out
        have HL6 := Lib.hid HLT.out
        have B6' := B6.out
        generalize X5.setCell ⟨pb, po, none⟩ (.slice a5 (spl g i out b).len c5) = X6 at *
        clear HLT HT B6
        generalize changeAt f q (spl g i out b) = R at *
        have WI := Lib.hid (within_any R at' ct X6 (liesF_lies HL6.out) hsz)
        by_cases hbd : bndErr R = 0
        · have EX := Lib.hid (show inBnd R = (R, 0) by unfold inBnd; rw [if_pos hbd])
          rw [hbd, if_pos rfl] at WI
          clear hbd
          go_wp2_with fail
          refine WI.out.mono ?_
          rintro e w8 ⟨rfl, hb8⟩
          have HL8 := Lib.hid (liesF_keeps HL6.out (Keeps.of_below hb8 : Keeps w.heap.size X6 w8))
          have B8 := Lib.hid (B6'.trans (hb8.mono B6'.size))
          clear hb8
          go_wp2_with fail
          go_ret2
          rw [EX.out]
          exact ⟨_, rfl, HL8.out, B8.out⟩
        · have EX := Lib.hid (show inBnd R = (.nil, bndErr R) by unfold inBnd; rw [if_neg hbd])
          rw [if_neg hbd] at WI
          clear hbd
          go_wp2_with fail
          refine WI.out.mono ?_
          rintro e w8 ⟨rfl, hb8⟩
          have B8 := Lib.hid (B6'.trans (hb8.mono B6'.size))
          clear hb8
          go_wp2_with fail
          go_ret2
          rw [EX.out]
          exact ⟨.slice none 0 0, rfl, .inl ⟨_, _, rfl, rfl⟩, B8.out⟩
end Go.Proofs.YtcgedpfolloinaaGreat

namespace Go.Proofs.YtcgedpfolloinaaGreat
open Go.RowKit

/-- n trees from the place at a path on are others. -/
def changeF : Fo → List Nat → Nat → Fo → Fo
  | f, [], _, _ => f
  | f, [i], n, b => spl f i n b
  | f, i :: j :: p, n, b => match nth f i with
    | some (h, ks) => setK f i h (changeF ks (j :: p) n b)
    | none => f
theorem changeF_at : ∀ (q : List Nat) (f : Fo) {g : Fo} (i n : Nat) (b : Fo), goTo f q = some g → changeF f (q ++ [i]) n b = changeAt f q (spl g i n b)
  | [], f, g, i, n, b, e => by cases e; rfl
  | [a], f, g, i, n, b, e => by
    simp only [goTo] at e
    cases hn : nth f a with
    | none => simp [hn] at e
    | some x =>
      rw [hn] at e
      cases e
      simp [changeF, changeAt, hn]
  | a :: a2 :: q, f, g, i, n, b, e => by
    rw [goTo] at e
    cases hn : nth f a with
    | none => simp [hn] at e
    | some x =>
      rw [hn] at e
      have := changeF_at (a2 :: q) x.2 i n b e
      simp only [List.cons_append] at this ⊢
      rw [changeF, changeAt, hn]
      simp only
      rw [this]
theorem place_nat : ∀ (p : List Int) (f : Fo) (x : Hd × Fo), placeF f p = some x → p = pathInts (p.map Int.toNat)
  | [], f, x, e => by cases f <;> cases e
  | i :: p, f, x, e => by
    rw [placeF] at e
    by_cases hi : i < 0
    · rw [if_pos hi] at e; cases e
    · rw [if_neg hi] at e
      have e1 : ((i.toNat : Nat) : Int) = i := by omega
      cases hd : f.drop i.toNat with
      | nil => rw [hd] at e; cases e
      | cons h ks r =>
        rw [hd] at e
        simp only [List.map_cons, e1]
        by_cases hp : p = []
        · subst hp; rfl
        · have e' : placeF ks p = some x := by simpa [hp] using e
          have := place_nat p ks x e'
          exact congrArg (i :: ·) this
theorem place_last : ∀ (q : List Nat) (i : Nat) (f : Fo) {x : Hd × Fo}, placeF f (pathInts (q ++ [i])) = some x → ∃ g, goTo f q = some g ∧ nth g i = some x
  | [], i, f, x, e => by
    rw [List.nil_append, place_nth] at e
    cases hn : nth f i with
    | none => rw [hn] at e; cases e
    | some y => obtain ⟨h', ks'⟩ := y; rw [hn] at e; exact ⟨f, rfl, by rw [hn]; simpa using e⟩
  | a :: q, i, f, x, e => by
    rw [List.cons_append, place_nth] at e
    cases hn : nth f a with
    | none => rw [hn] at e; cases e
    | some y =>
      obtain ⟨h', ks'⟩ := y
      rw [hn] at e
      obtain ⟨g, h1, h2⟩ := place_last q i ks' (x := x) (by simpa using e)
      exact ⟨g, by simp only [goTo, hn]; exact h1, h2⟩
theorem go_place : ∀ (q : List Nat) (i : Nat) (f : Fo) {g : Fo} {x : Hd × Fo}, goTo f q = some g → nth g i = some x → placeF f (pathInts (q ++ [i])) = some x
  | [], i, f, g, x, e, e2 => by
    cases e
    rw [List.nil_append, place_nth, e2]
    obtain ⟨h', ks'⟩ := x
    simp
  | a :: q, i, f, g, x, e, e2 => by
    rw [goTo] at e
    rw [List.cons_append, place_nth]
    cases hn : nth f a with
    | none => simp [hn] at e
    | some y =>
      rw [hn] at e
      have := go_place q i y.2 e e2
      obtain ⟨h', ks'⟩ := y
      simpa using this
theorem snoc_of {α : Type} : ∀ (p : List α), p ≠ [] → ∃ q i, p = q ++ [i]
  | [], h => absurd rfl h
  | [a], _ => ⟨[], a, rfl⟩
  | a :: b :: p, _ => by
    obtain ⟨q, i, e⟩ := snoc_of (b :: p) (by simp)
    exact ⟨a :: q, i, by rw [e]; rfl⟩
/-- where something can be put, or cut. -/
theorem place_cut {f : Fo} {p : List Int} (h : placeErr f p = 0) : ∃ q i g, p = pathInts (q ++ [i]) ∧ p.map Int.toNat = q ++ [i] ∧ goTo f q = some g ∧ i + 1 ≤ g.len := by
  unfold placeErr at h
  by_cases hp : p = []
  · rw [if_pos hp] at h; cases h
  · rw [if_neg hp] at h
    cases hx : placeF f p with
    | none => rw [hx] at h; cases h
    | some x =>
      have hn := place_nat p f x hx
      obtain ⟨q, i, e⟩ := snoc_of (p.map Int.toNat) (by simpa using hp)
      rw [e] at hn
      rw [hn] at hx
      obtain ⟨g, h1, h2⟩ := place_last q i f hx
      exact ⟨q, i, g, hn, e, h1, nth_lt h2⟩
theorem first_zero : ∀ {l : List Int}, firstNZ l = 0 → ∀ e ∈ l, e = 0
  | [], _, e, he => by cases he
  | a :: l, h, e, he => by
    rw [firstNZ] at h
    by_cases ha : a = 0
    · rw [if_neg (by simpa using ha)] at h
      rcases List.mem_cons.1 he with rfl | he
      · exact ha
      · exact first_zero h e he
    · rw [if_pos ha] at h; exact absurd h ha
/-- what Put, Insert and Cut give. -/
def putV (f : Fo) (p : List Int) (t : Fo) : Fo × Int :=
  if firstNZ [foErr f, foErr t, placeErr f p] = 0 then inBnd (changeF f (p.map Int.toNat) 1 t) else (.nil, firstNZ [foErr f, foErr t, placeErr f p])
end Go.Proofs.YtcgedpfolloinaaGreat

namespace Go.Proofs.YtcgedpfolloinaaGreat
open Go.RowKit

theorem goTo_change : ∀ (q : List Nat) (f : Fo) {g : Fo} (X : Fo), goTo f q = some g → goTo (changeAt f q X) q = some X
  | [], f, g, X, _ => rfl
  | a :: q, f, g, X, e => by
    rw [goTo] at e
    cases hn : nth f a with
    | none => simp [hn] at e
    | some x =>
      rw [hn] at e
      rw [changeAt, hn]
      simp only
      rw [goTo, nth_setK (nth_lt hn), if_pos rfl]
      exact goTo_change q x.2 X e
theorem setK_setK {f : Fo} {i : Nat} (hi : i < f.len) (h h' : Hd) (x y : Fo) : setK (setK f i h x) i h' y = setK f i h' y := by
  refine fo_ext fun j => ?_
  rw [nth_setK (by rw [len_setK hi]; exact hi) h' y j, nth_setK hi h x j, nth_setK hi h' y j]
  by_cases hj : j = i
  · rw [if_pos hj, if_pos hj]
  · rw [if_neg hj, if_neg hj, if_neg hj]
theorem change_change : ∀ (q : List Nat) (f : Fo) {g : Fo} (X Y : Fo), goTo f q = some g → changeAt (changeAt f q X) q Y = changeAt f q Y
  | [], f, g, X, Y, _ => rfl
  | a :: q, f, g, X, Y, e => by
    rw [goTo] at e
    cases hn : nth f a with
    | none => simp [hn] at e
    | some x =>
      rw [hn] at e
      have e1 : changeAt f (a :: q) X = setK f a x.1 (changeAt x.2 q X) := by rw [changeAt, hn]
      have e2 : changeAt f (a :: q) Y = setK f a x.1 (changeAt x.2 q Y) := by rw [changeAt, hn]
      rw [e1, e2, changeAt, nth_setK (nth_lt hn), if_pos rfl]
      simp only
      rw [setK_setK (nth_lt hn), change_change q x.2 X Y e]
theorem heads_cut (f : Fo) (i : Nat) : headsErr f = 0 ↔ headsErr (f.take i) = 0 ∧ headsErr (f.drop i) = 0 := by
  rw [← heads_app2, Fo.take_app_drop]
theorem heads_setK {f : Fo} {i : Nat} {h : Hd} {ks : Fo} (hn : nth f i = some (h, ks)) (x : Fo) (hf : headsErr f = 0) (hx : headsErr x = 0) (hk : h.k = 0 ∨ x.len = 0) : headsErr (setK f i h x) = 0 := by
  obtain ⟨h1, h2⟩ := (heads_cut f i).1 hf
  rw [drop_nth hn] at h2
  obtain ⟨h3, -, -, h4⟩ := heads_zero.1 h2
  unfold setK
  refine heads_app2.2 ⟨h1, heads_zero.2 ⟨h3, ?_, hx, h4⟩⟩
  rintro ⟨a, b⟩
  rcases hk with h | h
  · exact a h
  · exact b h
/-- the elements around a place. -/
def ownsOk : Fo → List Nat → Prop
  | _, [] => True
  | f, i :: q => ∃ h ks, nth f i = some (h, ks) ∧ h.k = 0 ∧ ownsOk ks q
theorem heads_change : ∀ (q : List Nat) (f : Fo) (X : Fo), ownsOk f q → headsErr f = 0 → headsErr X = 0 → headsErr (changeAt f q X) = 0
  | [], _, _, _, _, h => h
  | a :: q, f, X, ⟨h, ks, hn, hk, ho⟩, hf, hX => by
    rw [changeAt, hn]
    exact heads_setK hn _ hf (heads_change q ks X ho (nth_heads hn hf).2.2 hX) (.inl hk)
theorem owns_go : ∀ (q : List Nat) (f : Fo) {g : Fo}, goTo f q = some g → g.len ≠ 0 → headsErr f = 0 → ownsOk f q
  | [], _, _, _, _, _ => trivial
  | a :: q, f, g, e, hg, hf => by
    rw [goTo] at e
    cases hn : nth f a with
    | none => simp [hn] at e
    | some x =>
      obtain ⟨h, ks⟩ := x
      rw [hn] at e
      obtain ⟨-, h2, h3⟩ := nth_heads hn hf
      refine ⟨h, ks, hn, ?_, owns_go q ks e hg h3⟩
      by_cases hk : h.k = 0
      · exact hk
      · exfalso
        refine h2 ⟨hk, ?_⟩
        cases q with
        | nil => cases e; exact hg
        | cons b q =>
          simp only [goTo] at e
          cases hb : nth ks b with
          | none => simp [hb] at e
          | some y => have := nth_lt hb; omega
theorem spl_put (g : Fo) (i : Nat) (h : Hd) (ks : Fo) : spl g i 1 (.cons h ks .nil) = setK g i h ks := rfl
theorem spl_heads {g : Fo} {i n : Nat} {b : Fo} (hg : headsErr g = 0) (hb : headsErr b = 0) : headsErr (spl g i n b) = 0 := by
  unfold spl
  exact heads_app2.2 ⟨((heads_cut g i).1 hg).1, heads_app2.2 ⟨hb, ((heads_cut g (i + n)).1 hg).2⟩⟩
theorem go_heads : ∀ (q : List Nat) (f : Fo) {g : Fo}, goTo f q = some g → headsErr f = 0 → headsErr g = 0
  | [], _, _, e, h => by cases e; exact h
  | a :: q, f, g, e, h => by
    rw [goTo] at e
    cases hn : nth f a with
    | none => simp [hn] at e
    | some x =>
      rw [hn] at e
      exact go_heads q x.2 e (nth_heads (h := x.1) (ks := x.2) hn h).2.2
theorem put_other : ∀ (q : List Nat) (i : Nat) (Q : List Nat) (f : Fo) {g : Fo} {h : Hd} {ks : Fo} (th : Hd) (tk : Fo) {yh : Hd} {yk : Fo}, goTo f q = some g → nth g i = some (h, ks) → placeF f (pathInts Q) = some (yh, yk) → ¬ (q ++ [i]) <+: Q →
    ∃ k2, placeF (changeAt f q (setK g i th tk)) (pathInts Q) = some (yh, k2) ∧ (¬ Q <+: (q ++ [i]) → k2 = yk)
  | q, i, [], f, g, h, ks, th, tk, yh, yk, e, e2, e3, hp => by cases f <;> cases e3
  | [], i, c :: Q, f, g, h, ks, th, tk, yh, yk, e, e2, e3, hp => by
    cases e
    have hc : c ≠ i := by
      rintro rfl
      exact hp ⟨Q, rfl⟩
    refine ⟨yk, ?_, fun _ => rfl⟩
    rw [changeAt, place_nth, nth_setK (nth_lt e2), if_neg hc, ← place_nth]
    exact e3
  | a :: q, i, c :: Q, f, g, h, ks, th, tk, yh, yk, e, e2, e3, hp => by
    rw [goTo] at e
    cases hn : nth f a with
    | none => simp [hn] at e
    | some x =>
      obtain ⟨xh, xk⟩ := x
      rw [hn] at e
      rw [changeAt, hn, place_nth]
      simp only
      rw [nth_setK (nth_lt hn)]
      by_cases hc : c = a
      · subst hc
        rw [if_pos rfl]
        rw [place_nth, hn] at e3
        simp only at e3 ⊢
        by_cases hQ : Q = []
        · subst hQ
          simp only [if_true, Option.some.injEq, Prod.mk.injEq] at e3 ⊢
          obtain ⟨rfl, rfl⟩ := e3
          exact ⟨_, ⟨rfl, rfl⟩, fun h => absurd ⟨q ++ [i], rfl⟩ h⟩
        · rw [if_neg hQ] at e3
          rw [if_neg hQ]
          have hp2 : ¬ (q ++ [i]) <+: Q := fun hh => hp (by
            obtain ⟨r, hr⟩ := hh
            exact ⟨r, by rw [← hr]; rfl⟩)
          obtain ⟨k2, h1, h2⟩ := put_other q i Q xk th tk e e2 e3 hp2
          refine ⟨k2, h1, fun hh => h2 fun hx => hh ?_⟩
          obtain ⟨r, hr⟩ := hx
          exact ⟨r, by rw [List.cons_append, List.cons_append, ← hr]⟩
      · rw [if_neg hc]
        refine ⟨yk, ?_, fun _ => rfl⟩
        rw [← place_nth]
        exact e3
end Go.Proofs.YtcgedpfolloinaaGreat

namespace Go.Proofs.YtcgedpfolloinaaGreat
open Go.RowKit

theorem splice_path (f : Fo) (p : List Int) (q : List Nat) (i out : Nat) (g b : Fo) (v pv u : Value) (w : World) (hl : Lies w v f) (hp : IntsLie w pv p) (hpl : p.length ≤ 1000000) (hu : Lies w u b) (e : p = pathInts (q ++ [i])) (hg : goTo f q = some g) (hi : i + out ≤ g.len) (hs : f.size ≤ 100000) (hsb : b.size ≤ 100000) :
    Calls Tryz.prog 105 #[v, pv, .int .i64 out, u] w (FoE w (inBnd (changeF f (q ++ [i]) out b))) := by
  subst e
  rw [changeF_at q f i out b hg]
  exact splice_any f q i out g b v pv u w hl hp (by rw [List.length_map, List.length_append] at hpl; omega) hu hg hi hs hsb
theorem foE_none {w w' : World} {er : Int} (h : Below w.heap.size w w') : FoE w (.nil, er) (.returned (.tuple #[.slice none 0 0, .int .i64 er])) w' := ⟨.slice none 0 0, rfl, .inl ⟨_, _, rfl, rfl⟩, h⟩

set_option maxRecDepth 100000 in
set_option maxHeartbeats 8000000 in
theorem tput_any (f : Fo) (p : List Int) (h : Hd) (ks : Fo) (v pv : Value) (aa : Option Addr) (ca : Nat) (ak : Option Addr) (ck : Nat) (w : World) (hl : Lies w v f) (hp : IntsLie w pv p) (hpl : p.length ≤ 1000000) (ha : AttrsLie w (.slice aa h.ats.length ca) h.ats) (hk : Lies w (.slice ak ks.len ck) ks) (hs : Small f) (hs1 : Small (.cons h ks .nil)) :
    Calls Tryz.prog 44 #[v, pv, aggOf h aa ca ak ks.len ck] w (FoE w (putV f p (.cons h ks .nil))) := by
  have CF := Lib.hid (fun W (hW : Below w.heap.size w W) => tcheck_any f v W (lies_below hl hW) hs)
  have TE := Lib.hid (fun x l W (h : IntsLie W x l) (hl : l.length ≤ 1000000) => (terr_any x l W h hl).mono (fun e w' (H : e = .returned (.int .i64 (firstNZ l)) ∧ W = w') => (⟨H.1, H.2 ▸ Below.refl _ _⟩ : e = .returned (.int .i64 (firstNZ l)) ∧ Below W.heap.size W w')))
  have CT := Lib.hid (fun W x (hx : Lies W x (.cons h ks .nil)) => tcheck_any (.cons h ks .nil) x W hx hs1)
  have CP := Lib.hid (fun W (hW : Below w.heap.size w W) => checkPlace_any f p v pv W (lies_below hl hW) (ints_below hp hW) hpl)
  have SP := Lib.hid (fun (he : placeErr f p = 0) W (hW : Below w.heap.size w W) x (hx : Lies W x (.cons h ks .nil)) => show Calls Tryz.prog 105 #[v, pv, .int .i64 (1 : Nat), x] W (FoE W (inBnd (changeF f (p.map Int.toNat) 1 (.cons h ks .nil)))) by
    obtain ⟨q, i, g, e1, e2, e3, e4⟩ := place_cut he
    rw [e2]
    exact splice_path f p q i 1 g _ v pv x W (lies_below hl hW) (ints_below hp hW) hpl hx e1 e3 e4 hs.size hs1.size)
  obtain ⟨R, hR⟩ : ∃ R, putV f p (.cons h ks .nil) = R := ⟨_, rfl⟩
  rw [hR]
  have HR := Lib.hid hR.symm
  unfold putV at HR
  have HA := Lib.hid (fun W (hW : Below w.heap.size w W) => attrs_below ha hW)
  have HK := Lib.hid (fun W (hW : Below w.heap.size w W) => lies_below hk hW)
  obtain ⟨av, cv, rfl⟩ := lies_form hl
  obtain ⟨pa, pc, rfl⟩ := ints_form hp
  clear hl hp ha hk hs hs1 hR
  generalize changeF f (p.map Int.toNat) 1 (.cons h ks .nil) = CH at *
  generalize foErr f = e1 at *
  generalize foErr (.cons h ks .nil) = e2 at *
  generalize placeErr f p = e3 at *
  unfold aggOf
  go_enter Tryz.func44, Tryz.ntmps44
  go_upto_region 1 with fail
  have kk := World.alloc_heap_new w (.cells #[.int .i64 h.k, .string ⟨h.l.toArray⟩, .slice aa h.ats.length ca, .int .i64 h.n, .int .i64 h.d, .string ⟨h.x.toArray⟩, .slice ak ks.len ck] 43)
  have B0 : Below w.heap.size w (w.alloc (.cells #[.int .i64 h.k, .string ⟨h.l.toArray⟩, .slice aa h.ats.length ca, .int .i64 h.n, .int .i64 h.d, .string ⟨h.x.toArray⟩, .slice ak ks.len ck] 43)) := by ((repeat' (first | exact Below.refl _ _ | assumption | refine Below.setCell ?_ ?_ _ | refine bdrewN ?_ _ | refine Below.drew ?_ | refine Below.alloc ?_ ?_ _ | refine bbehind ?_ (by assumption) ?_)); all_goals first | (simp; done) | (simp; omega) | omega)
  have zb : w.heap.size < (w.alloc (.cells #[.int .i64 h.k, .string ⟨h.l.toArray⟩, .slice aa h.ats.length ca, .int .i64 h.n, .int .i64 h.d, .string ⟨h.x.toArray⟩, .slice ak ks.len ck] 43)).heap.size := by simp
  obtain ⟨tb, htb⟩ : ∃ t, t = w.heap.size := ⟨_, rfl⟩
  have htb' := Lib.hid htb
  have KB := Lib.hid kk
  rw [← htb] at KB
  have zb2 : tb < (w.alloc (.cells #[.int .i64 h.k, .string ⟨h.l.toArray⟩, .slice aa h.ats.length ca, .int .i64 h.n, .int .i64 h.d, .string ⟨h.x.toArray⟩, .slice ak ks.len ck] 43)).heap.size := by omega
  generalize w.alloc (.cells #[.int .i64 h.k, .string ⟨h.l.toArray⟩, .slice aa h.ats.length ca, .int .i64 h.n, .int .i64 h.d, .string ⟨h.x.toArray⟩, .slice ak ks.len ck] 43) = W at *
  clear kk zb
  have zb := zb2
  clear zb2
  have hbox : (Value.pointer (some ⟨w.heap.size, 0, none⟩)) = .pointer (some ⟨tb, 0, none⟩) := by rw [htb]
  rw [hbox]
  clear hbox htb
  go_cut [8] (fun s wx => s = .int .i64 (firstNZ [e1, e2, e3]) ∧ Below w.heap.size w wx ∧ tb < wx.heap.size ∧ wx.heap[tb]? = some (.cells #[.int .i64 h.k, .string ⟨h.l.toArray⟩, .slice aa h.ats.length ca, .int .i64 h.n, .int .i64 h.d, .string ⟨h.x.toArray⟩, .slice ak ks.len ck] 43))
  case first =>
    refine wp_region_any (by kernel_rfl) ?_
    change wpAny _ _ _ _ _ _ _ (World.drew _)
    have BX : Below w.heap.size w W.drew := B0.drew
    have KB0 := Lib.hid (show W.drew.heap[tb]? = _ from KB.out)
    have zb0 : tb < W.drew.heap.size := zb
    clear KB zb
    generalize W.drew = X at *
    have KB := Lib.hid KB0.out
    have zb := zb0
    clear KB0 zb0
    refine wpAny_take (i := 0) (v := .slice av f.len cv) rfl (by decide +kernel) (by decide +kernel) (by decide +kernel) (fun _ _ _ h => h) (Or.inl ⟨by kernel_rfl, by intro w; go_simp <;> with_reducible rfl⟩) ?_
    simp only [Act.put, List.setIfInBounds_toArray]
    refine wpAny_take (i := 5) (v := .slice av f.len cv) rfl (by decide +kernel) (by decide +kernel) (by decide +kernel) (fun _ _ _ h => h) (Or.inl ⟨by kernel_rfl, by intro w; go_simp <;> with_reducible rfl⟩) ?_
    simp only [Act.put]
    refine wpAny_take (i := 6) (v := .slice pa p.length pc) rfl (by decide +kernel) (by decide +kernel) (by decide +kernel) (fun _ _ _ h => h) (Or.inl ⟨by kernel_rfl, by intro w; go_simp <;> with_reducible rfl⟩) ?_
    simp only [Act.put]
    refine wpAny_ready (rs := [1, 2]) (by decide +kernel) (by simp) ?_
    refine AllReady.cons rfl (fun K hK => ?_) (AllReady.cons rfl (fun K hK => ?_) AllReady.nil)
    · go_simp
      go_wp2_with (go_at_call 19; refine (CF.out X BX).mono ?_; rintro e Y1 ⟨rfl, hb⟩)
      have BY1 : Below w.heap.size w Y1 := BX.trans (hb.mono BX.size)
      have KB := Lib.hid ((hb.block _ zb).trans KB.out)
      have zb := Nat.lt_of_lt_of_le zb hb.size
      clear hb
      refine wpAny_ready (rs := [2]) (by decide +kernel) (by simp) ?_
      refine AllReady.cons rfl (fun K hK => ?_) AllReady.nil
      have d0 : Y1.cell? ⟨tb, 0, none⟩ = some (.int .i64 h.k) := cell_of_block KB.out rfl
      have d1 : Y1.cell? ⟨tb, 1, none⟩ = some (.string ⟨h.l.toArray⟩) := cell_of_block KB.out rfl
      have d2 : Y1.cell? ⟨tb, 2, none⟩ = some (.slice aa h.ats.length ca) := cell_of_block KB.out rfl
      have d3 : Y1.cell? ⟨tb, 3, none⟩ = some (.int .i64 h.n) := cell_of_block KB.out rfl
      have d4 : Y1.cell? ⟨tb, 4, none⟩ = some (.int .i64 h.d) := cell_of_block KB.out rfl
      have d5 : Y1.cell? ⟨tb, 5, none⟩ = some (.string ⟨h.x.toArray⟩) := cell_of_block KB.out rfl
      have d6 : Y1.cell? ⟨tb, 6, none⟩ = some (.slice ak ks.len ck) := cell_of_block KB.out rfl
      go_simp
      refine hK _ _ ?_
      clear hK K d0 d1 d2 d3 d4 d5 d6
      refine wpAny_ready (rs := [3]) (by decide +kernel) (by simp) ?_
      refine AllReady.cons rfl (fun K hK => ?_) AllReady.nil
      go_simp
      refine hK _ _ ?_
      clear hK K
      have kk := World.alloc_heap_new Y1 (.cells #[.int .i64 h.k, .string ⟨h.l.toArray⟩, .slice aa h.ats.length ca, .int .i64 h.n, .int .i64 h.d, .string ⟨h.x.toArray⟩, .slice ak ks.len ck] 43)
      have hb : Below Y1.heap.size Y1 (Y1.alloc (.cells #[.int .i64 h.k, .string ⟨h.l.toArray⟩, .slice aa h.ats.length ca, .int .i64 h.n, .int .i64 h.d, .string ⟨h.x.toArray⟩, .slice ak ks.len ck] 43)) := (Below.refl _ _).alloc (Nat.le_refl _) _
      have hsz : (Y1.alloc (.cells #[.int .i64 h.k, .string ⟨h.l.toArray⟩, .slice aa h.ats.length ca, .int .i64 h.n, .int .i64 h.d, .string ⟨h.x.toArray⟩, .slice ak ks.len ck] 43)).heap.size = Y1.heap.size + 1 := by simp
      generalize Y1.alloc (.cells #[.int .i64 h.k, .string ⟨h.l.toArray⟩, .slice aa h.ats.length ca, .int .i64 h.n, .int .i64 h.d, .string ⟨h.x.toArray⟩, .slice ak ks.len ck] 43) = Y2 at *
      have BY2 : Below w.heap.size w Y2 := BY1.trans (hb.mono BY1.size)
      have KB := Lib.hid ((hb.block _ zb).trans KB.out)
      have zb := Nat.lt_of_lt_of_le zb hb.size
      have LT := Lib.hid (lies_one kk (HA.out Y2 BY2) (HK.out Y2 BY2))
      clear kk hb hsz
      refine wpAny_ready (rs := [4]) (by decide +kernel) (by simp) ?_
      refine AllReady.cons rfl (fun K hK => ?_) AllReady.nil
      go_simp
      go_wp2_with (go_at_call 19; refine (CT.out Y2 _ LT.out).mono ?_; rintro e Y3 ⟨rfl, hb⟩)
      have BY3 : Below w.heap.size w Y3 := BY2.trans (hb.mono BY2.size)
      have KB := Lib.hid ((hb.block _ zb).trans KB.out)
      have zb := Nat.lt_of_lt_of_le zb hb.size
      have LT := Lib.hid (lies_below LT.out hb)
      clear hb
      refine wpAny_ready (rs := [7]) (by decide +kernel) (by simp) ?_
      refine AllReady.cons rfl (fun K hK => ?_) AllReady.nil
      go_simp
      go_wp2_with (go_at_call 91; refine (CP.out Y3 BY3).mono ?_; rintro e Y4 ⟨rfl, hb⟩)
      have BY4 : Below w.heap.size w Y4 := BY3.trans (hb.mono BY3.size)
      have KB := Lib.hid ((hb.block _ zb).trans KB.out)
      have zb := Nat.lt_of_lt_of_le zb hb.size
      have LT := Lib.hid (lies_below LT.out hb)
      clear hb
      refine wpAny_ready (rs := [8]) (by decide +kernel) (by simp) ?_
      refine AllReady.cons rfl (fun K hK => ?_) AllReady.nil
      go_simp
      refine hK _ _ ?_
      clear hK K
      have kk := World.alloc_heap_new Y4 (.cells #[.int .i64 e1, .int .i64 e2, .int .i64 e3] 32)
      have hb : Below Y4.heap.size Y4 (Y4.alloc (.cells #[.int .i64 e1, .int .i64 e2, .int .i64 e3] 32)) := (Below.refl _ _).alloc (Nat.le_refl _) _
      have hsz : (Y4.alloc (.cells #[.int .i64 e1, .int .i64 e2, .int .i64 e3] 32)).heap.size = Y4.heap.size + 1 := by simp
      generalize Y4.alloc (.cells #[.int .i64 e1, .int .i64 e2, .int .i64 e3] 32) = Y5 at *
      have BY5 : Below w.heap.size w Y5 := BY4.trans (hb.mono BY4.size)
      have KB := Lib.hid ((hb.block _ zb).trans KB.out)
      have zb := Nat.lt_of_lt_of_le zb hb.size
      have LT := Lib.hid (lies_below LT.out hb)
      have HI := Lib.hid (ints_three kk (by rw [hsz]; omega))
      clear kk hb hsz
      refine wpAny_ready (rs := [9]) (by decide +kernel) (by simp) ?_
      refine AllReady.cons rfl (fun K hK => ?_) AllReady.nil
      go_simp
      go_wp2_with (go_at_call 85; refine (TE.out _ [e1, e2, e3] Y5 HI.out (by simp)).mono ?_; rintro e Y6 ⟨rfl, hb⟩)
      have BY6 : Below w.heap.size w Y6 := BY5.trans (hb.mono BY5.size)
      have KB := Lib.hid ((hb.block _ zb).trans KB.out)
      have zb := Nat.lt_of_lt_of_le zb hb.size
      have LT := Lib.hid (lies_below LT.out hb)
      clear hb
      refine wpAny_ready (rs := [10]) (by decide +kernel) (by simp) ?_
      refine AllReady.cons rfl (fun K hK => ?_) AllReady.nil
      go_simp
      refine hK _ _ ?_
      clear hK K
      refine wpAny_done (by decide +kernel) ?_ _
      go_wp2_with fail
      go_meet
      case rel => exact ⟨rfl, BY6, zb, KB.out⟩
    · have d0 : X.cell? ⟨tb, 0, none⟩ = some (.int .i64 h.k) := cell_of_block KB.out rfl
      have d1 : X.cell? ⟨tb, 1, none⟩ = some (.string ⟨h.l.toArray⟩) := cell_of_block KB.out rfl
      have d2 : X.cell? ⟨tb, 2, none⟩ = some (.slice aa h.ats.length ca) := cell_of_block KB.out rfl
      have d3 : X.cell? ⟨tb, 3, none⟩ = some (.int .i64 h.n) := cell_of_block KB.out rfl
      have d4 : X.cell? ⟨tb, 4, none⟩ = some (.int .i64 h.d) := cell_of_block KB.out rfl
      have d5 : X.cell? ⟨tb, 5, none⟩ = some (.string ⟨h.x.toArray⟩) := cell_of_block KB.out rfl
      have d6 : X.cell? ⟨tb, 6, none⟩ = some (.slice ak ks.len ck) := cell_of_block KB.out rfl
      go_simp
      refine hK _ _ ?_
      clear hK K d0 d1 d2 d3 d4 d5 d6
      refine wpAny_ready (rs := [1, 3]) (by decide +kernel) (by simp) ?_
      refine AllReady.cons rfl (fun K hK => ?_) (AllReady.cons rfl (fun K hK => ?_) AllReady.nil)
      · go_simp
        go_wp2_with (go_at_call 19; refine (CF.out X BX).mono ?_; rintro e Y7 ⟨rfl, hb⟩)
        have BY7 : Below w.heap.size w Y7 := BX.trans (hb.mono BX.size)
        have KB := Lib.hid ((hb.block _ zb).trans KB.out)
        have zb := Nat.lt_of_lt_of_le zb hb.size
        clear hb
        refine wpAny_ready (rs := [3]) (by decide +kernel) (by simp) ?_
        refine AllReady.cons rfl (fun K hK => ?_) AllReady.nil
        go_simp
        refine hK _ _ ?_
        clear hK K
        have kk := World.alloc_heap_new Y7 (.cells #[.int .i64 h.k, .string ⟨h.l.toArray⟩, .slice aa h.ats.length ca, .int .i64 h.n, .int .i64 h.d, .string ⟨h.x.toArray⟩, .slice ak ks.len ck] 43)
        have hb : Below Y7.heap.size Y7 (Y7.alloc (.cells #[.int .i64 h.k, .string ⟨h.l.toArray⟩, .slice aa h.ats.length ca, .int .i64 h.n, .int .i64 h.d, .string ⟨h.x.toArray⟩, .slice ak ks.len ck] 43)) := (Below.refl _ _).alloc (Nat.le_refl _) _
        have hsz : (Y7.alloc (.cells #[.int .i64 h.k, .string ⟨h.l.toArray⟩, .slice aa h.ats.length ca, .int .i64 h.n, .int .i64 h.d, .string ⟨h.x.toArray⟩, .slice ak ks.len ck] 43)).heap.size = Y7.heap.size + 1 := by simp
        generalize Y7.alloc (.cells #[.int .i64 h.k, .string ⟨h.l.toArray⟩, .slice aa h.ats.length ca, .int .i64 h.n, .int .i64 h.d, .string ⟨h.x.toArray⟩, .slice ak ks.len ck] 43) = Y8 at *
        have BY8 : Below w.heap.size w Y8 := BY7.trans (hb.mono BY7.size)
        have KB := Lib.hid ((hb.block _ zb).trans KB.out)
        have zb := Nat.lt_of_lt_of_le zb hb.size
        have LT := Lib.hid (lies_one kk (HA.out Y8 BY8) (HK.out Y8 BY8))
        clear kk hb hsz
        refine wpAny_ready (rs := [4]) (by decide +kernel) (by simp) ?_
        refine AllReady.cons rfl (fun K hK => ?_) AllReady.nil
        go_simp
        go_wp2_with (go_at_call 19; refine (CT.out Y8 _ LT.out).mono ?_; rintro e Y9 ⟨rfl, hb⟩)
        have BY9 : Below w.heap.size w Y9 := BY8.trans (hb.mono BY8.size)
        have KB := Lib.hid ((hb.block _ zb).trans KB.out)
        have zb := Nat.lt_of_lt_of_le zb hb.size
        have LT := Lib.hid (lies_below LT.out hb)
        clear hb
        refine wpAny_ready (rs := [7]) (by decide +kernel) (by simp) ?_
        refine AllReady.cons rfl (fun K hK => ?_) AllReady.nil
        go_simp
        go_wp2_with (go_at_call 91; refine (CP.out Y9 BY9).mono ?_; rintro e Y10 ⟨rfl, hb⟩)
        have BY10 : Below w.heap.size w Y10 := BY9.trans (hb.mono BY9.size)
        have KB := Lib.hid ((hb.block _ zb).trans KB.out)
        have zb := Nat.lt_of_lt_of_le zb hb.size
        have LT := Lib.hid (lies_below LT.out hb)
        clear hb
        refine wpAny_ready (rs := [8]) (by decide +kernel) (by simp) ?_
        refine AllReady.cons rfl (fun K hK => ?_) AllReady.nil
        go_simp
        refine hK _ _ ?_
        clear hK K
        have kk := World.alloc_heap_new Y10 (.cells #[.int .i64 e1, .int .i64 e2, .int .i64 e3] 32)
        have hb : Below Y10.heap.size Y10 (Y10.alloc (.cells #[.int .i64 e1, .int .i64 e2, .int .i64 e3] 32)) := (Below.refl _ _).alloc (Nat.le_refl _) _
        have hsz : (Y10.alloc (.cells #[.int .i64 e1, .int .i64 e2, .int .i64 e3] 32)).heap.size = Y10.heap.size + 1 := by simp
        generalize Y10.alloc (.cells #[.int .i64 e1, .int .i64 e2, .int .i64 e3] 32) = Y11 at *
        have BY11 : Below w.heap.size w Y11 := BY10.trans (hb.mono BY10.size)
        have KB := Lib.hid ((hb.block _ zb).trans KB.out)
        have zb := Nat.lt_of_lt_of_le zb hb.size
        have LT := Lib.hid (lies_below LT.out hb)
        have HI := Lib.hid (ints_three kk (by rw [hsz]; omega))
        clear kk hb hsz
        refine wpAny_ready (rs := [9]) (by decide +kernel) (by simp) ?_
        refine AllReady.cons rfl (fun K hK => ?_) AllReady.nil
        go_simp
        go_wp2_with (go_at_call 85; refine (TE.out _ [e1, e2, e3] Y11 HI.out (by simp)).mono ?_; rintro e Y12 ⟨rfl, hb⟩)
        have BY12 : Below w.heap.size w Y12 := BY11.trans (hb.mono BY11.size)
        have KB := Lib.hid ((hb.block _ zb).trans KB.out)
        have zb := Nat.lt_of_lt_of_le zb hb.size
        have LT := Lib.hid (lies_below LT.out hb)
        clear hb
        refine wpAny_ready (rs := [10]) (by decide +kernel) (by simp) ?_
        refine AllReady.cons rfl (fun K hK => ?_) AllReady.nil
        go_simp
        refine hK _ _ ?_
        clear hK K
        refine wpAny_done (by decide +kernel) ?_ _
        go_wp2_with fail
        go_meet
        case rel => exact ⟨rfl, BY12, zb, KB.out⟩
      · go_simp
        refine hK _ _ ?_
        clear hK K
        have kk := World.alloc_heap_new X (.cells #[.int .i64 h.k, .string ⟨h.l.toArray⟩, .slice aa h.ats.length ca, .int .i64 h.n, .int .i64 h.d, .string ⟨h.x.toArray⟩, .slice ak ks.len ck] 43)
        have hb : Below X.heap.size X (X.alloc (.cells #[.int .i64 h.k, .string ⟨h.l.toArray⟩, .slice aa h.ats.length ca, .int .i64 h.n, .int .i64 h.d, .string ⟨h.x.toArray⟩, .slice ak ks.len ck] 43)) := (Below.refl _ _).alloc (Nat.le_refl _) _
        have hsz : (X.alloc (.cells #[.int .i64 h.k, .string ⟨h.l.toArray⟩, .slice aa h.ats.length ca, .int .i64 h.n, .int .i64 h.d, .string ⟨h.x.toArray⟩, .slice ak ks.len ck] 43)).heap.size = X.heap.size + 1 := by simp
        generalize X.alloc (.cells #[.int .i64 h.k, .string ⟨h.l.toArray⟩, .slice aa h.ats.length ca, .int .i64 h.n, .int .i64 h.d, .string ⟨h.x.toArray⟩, .slice ak ks.len ck] 43) = Y13 at *
        have BY13 : Below w.heap.size w Y13 := BX.trans (hb.mono BX.size)
        have KB := Lib.hid ((hb.block _ zb).trans KB.out)
        have zb := Nat.lt_of_lt_of_le zb hb.size
        have LT := Lib.hid (lies_one kk (HA.out Y13 BY13) (HK.out Y13 BY13))
        clear kk hb hsz
        refine wpAny_ready (rs := [1]) (by decide +kernel) (by simp) ?_
        refine AllReady.cons rfl (fun K hK => ?_) AllReady.nil
        go_simp
        go_wp2_with (go_at_call 19; refine (CF.out Y13 BY13).mono ?_; rintro e Y14 ⟨rfl, hb⟩)
        have BY14 : Below w.heap.size w Y14 := BY13.trans (hb.mono BY13.size)
        have KB := Lib.hid ((hb.block _ zb).trans KB.out)
        have zb := Nat.lt_of_lt_of_le zb hb.size
        have LT := Lib.hid (lies_below LT.out hb)
        clear hb
        refine wpAny_ready (rs := [4]) (by decide +kernel) (by simp) ?_
        refine AllReady.cons rfl (fun K hK => ?_) AllReady.nil
        go_simp
        go_wp2_with (go_at_call 19; refine (CT.out Y14 _ LT.out).mono ?_; rintro e Y15 ⟨rfl, hb⟩)
        have BY15 : Below w.heap.size w Y15 := BY14.trans (hb.mono BY14.size)
        have KB := Lib.hid ((hb.block _ zb).trans KB.out)
        have zb := Nat.lt_of_lt_of_le zb hb.size
        have LT := Lib.hid (lies_below LT.out hb)
        clear hb
        refine wpAny_ready (rs := [7]) (by decide +kernel) (by simp) ?_
        refine AllReady.cons rfl (fun K hK => ?_) AllReady.nil
        go_simp
        go_wp2_with (go_at_call 91; refine (CP.out Y15 BY15).mono ?_; rintro e Y16 ⟨rfl, hb⟩)
        have BY16 : Below w.heap.size w Y16 := BY15.trans (hb.mono BY15.size)
        have KB := Lib.hid ((hb.block _ zb).trans KB.out)
        have zb := Nat.lt_of_lt_of_le zb hb.size
        have LT := Lib.hid (lies_below LT.out hb)
        clear hb
        refine wpAny_ready (rs := [8]) (by decide +kernel) (by simp) ?_
        refine AllReady.cons rfl (fun K hK => ?_) AllReady.nil
        go_simp
        refine hK _ _ ?_
        clear hK K
        have kk := World.alloc_heap_new Y16 (.cells #[.int .i64 e1, .int .i64 e2, .int .i64 e3] 32)
        have hb : Below Y16.heap.size Y16 (Y16.alloc (.cells #[.int .i64 e1, .int .i64 e2, .int .i64 e3] 32)) := (Below.refl _ _).alloc (Nat.le_refl _) _
        have hsz : (Y16.alloc (.cells #[.int .i64 e1, .int .i64 e2, .int .i64 e3] 32)).heap.size = Y16.heap.size + 1 := by simp
        generalize Y16.alloc (.cells #[.int .i64 e1, .int .i64 e2, .int .i64 e3] 32) = Y17 at *
        have BY17 : Below w.heap.size w Y17 := BY16.trans (hb.mono BY16.size)
        have KB := Lib.hid ((hb.block _ zb).trans KB.out)
        have zb := Nat.lt_of_lt_of_le zb hb.size
        have LT := Lib.hid (lies_below LT.out hb)
        have HI := Lib.hid (ints_three kk (by rw [hsz]; omega))
        clear kk hb hsz
        refine wpAny_ready (rs := [9]) (by decide +kernel) (by simp) ?_
        refine AllReady.cons rfl (fun K hK => ?_) AllReady.nil
        go_simp
        go_wp2_with (go_at_call 85; refine (TE.out _ [e1, e2, e3] Y17 HI.out (by simp)).mono ?_; rintro e Y18 ⟨rfl, hb⟩)
        have BY18 : Below w.heap.size w Y18 := BY17.trans (hb.mono BY17.size)
        have KB := Lib.hid ((hb.block _ zb).trans KB.out)
        have zb := Nat.lt_of_lt_of_le zb hb.size
        have LT := Lib.hid (lies_below LT.out hb)
        clear hb
        refine wpAny_ready (rs := [10]) (by decide +kernel) (by simp) ?_
        refine AllReady.cons rfl (fun K hK => ?_) AllReady.nil
        go_simp
        refine hK _ _ ?_
        clear hK K
        refine wpAny_done (by decide +kernel) ?_ _
        go_wp2_with fail
        go_meet
        case rel => exact ⟨rfl, BY18, zb, KB.out⟩

  case rest =>
    obtain ⟨rfl, BW2, zb, hkb⟩ := hcut
    have KB := Lib.hid hkb
    have FZ := Lib.hid (first_zero (l := [e1, e2, e3]))
    clear hkb
    generalize firstNZ [e1, e2, e3] = ee at *
    by_cases h0 : ee = 0
    rotate_left
    · have HX := HR.out.trans (if_neg h0)
      have b0 : (ee != 0) = true := by simpa using h0
      clear h0
      go_wp2_with fail
      go_ret2
      rw [HX]
      exact foE_none BW2
    · have HX := HR.out.trans (if_pos h0)
      have b0 : (ee != 0) = false := by simpa using h0
      have h3 : e3 = 0 := FZ.out h0 e3 (by simp)
      have HX0 := Lib.hid HX
      clear h0 HX
      go_upto_region 4 with fail
      have d0 : wc.cell? ⟨tb, 0, none⟩ = some (.int .i64 h.k) := cell_of_block KB.out rfl
      have d1 : wc.cell? ⟨tb, 1, none⟩ = some (.string ⟨h.l.toArray⟩) := cell_of_block KB.out rfl
      have d2 : wc.cell? ⟨tb, 2, none⟩ = some (.slice aa h.ats.length ca) := cell_of_block KB.out rfl
      have d3 : wc.cell? ⟨tb, 3, none⟩ = some (.int .i64 h.n) := cell_of_block KB.out rfl
      have d4 : wc.cell? ⟨tb, 4, none⟩ = some (.int .i64 h.d) := cell_of_block KB.out rfl
      have d5 : wc.cell? ⟨tb, 5, none⟩ = some (.string ⟨h.x.toArray⟩) := cell_of_block KB.out rfl
      have d6 : wc.cell? ⟨tb, 6, none⟩ = some (.slice ak ks.len ck) := cell_of_block KB.out rfl
      have kk := World.alloc_heap_new wc (.cells #[.int .i64 h.k, .string ⟨h.l.toArray⟩, .slice aa h.ats.length ca, .int .i64 h.n, .int .i64 h.d, .string ⟨h.x.toArray⟩, .slice ak ks.len ck] 43)
      have hb : Below wc.heap.size wc (wc.alloc (.cells #[.int .i64 h.k, .string ⟨h.l.toArray⟩, .slice aa h.ats.length ca, .int .i64 h.n, .int .i64 h.d, .string ⟨h.x.toArray⟩, .slice ak ks.len ck] 43)) := (Below.refl _ _).alloc (Nat.le_refl _) _
      have BW3 : Below w.heap.size w (wc.alloc (.cells #[.int .i64 h.k, .string ⟨h.l.toArray⟩, .slice aa h.ats.length ca, .int .i64 h.n, .int .i64 h.d, .string ⟨h.x.toArray⟩, .slice ak ks.len ck] 43)) := BW2.trans (hb.mono BW2.size)
      have LT := Lib.hid (lies_one kk (HA.out _ BW3) (HK.out _ BW3))
      clear kk hb
      go_wp2_with fail
      generalize wc.alloc (.cells #[.int .i64 h.k, .string ⟨h.l.toArray⟩, .slice aa h.ats.length ca, .int .i64 h.n, .int .i64 h.d, .string ⟨h.x.toArray⟩, .slice ak ks.len ck] 43) = W2 at *

      have HX := HX0.out
      refine (SP.out h3 W2 BW3 _ LT.out).mono ?_
      rintro e w9 ⟨v9, rfl, hF9, hb9⟩
      have HF9 := Lib.hid (liesF_mono (B' := w.heap.size) BW3.size hF9)
      have B9 := BW3.trans (hb9.mono BW3.size)
      obtain ⟨a9, c9, rfl⟩ := liesF_form hF9
      clear hF9 hb9
      go_wp2_with fail
      go_ret2
      rw [HX]
      exact ⟨_, rfl, HF9.out, B9⟩


end Go.Proofs.YtcgedpfolloinaaGreat

namespace Go.Proofs.YtcgedpfolloinaaGreat
open Go.RowKit

/-- a tree as an argument. -/
def treeA (h : Hd) (va vk : Value) : Value := .agg #[.int .i64 h.k, .string ⟨h.l.toArray⟩, va, .int .i64 h.n, .int .i64 h.d, .string ⟨h.x.toArray⟩, vk]
def aroundB (l m : List Int) : Bool := decide (l.length ≤ m.length) && alikeB l (m.take l.length)
theorem ints_take {w : World} {a : Option Addr} {cap : Nat} {m : List Int} (h : IntsLie w (.slice a m.length cap) m) (k : Nat) (hk : k ≤ m.length) : IntsLie w (.slice a k cap) (m.take k) := by
  rcases h with ⟨a', cap', e, rfl⟩ | ⟨b, off, cap', e, h1, h2, h3⟩
  · have : k = 0 := by simpa using hk
    subst this
    exact .inl ⟨_, _, rfl, rfl⟩
  · simp only [Value.slice.injEq, true_and] at e
    obtain ⟨rfl, rfl⟩ := e
    have hl : (m.take k).length = k := by rw [List.length_take]; omega
    refine .inr ⟨b, off, cap, by rw [hl], by omega, h2, fun j hj => ?_⟩
    rw [hl] at hj
    rw [h3 j (by omega), List.getD_eq_getElem?_getD, List.getD_eq_getElem?_getD, List.getElem?_take, if_pos hj]
theorem ints_cap {w : World} {a : Option Addr} {cap : Nat} {m : List Int} (h : IntsLie w (.slice a m.length cap) m) : m.length ≤ cap := by
  rcases h with ⟨a', cap', e, rfl⟩ | ⟨b, off, cap', e, h1, h2, h3⟩
  · exact Nat.zero_le _
  · simp only [Value.slice.injEq, true_and] at e
    obtain ⟨rfl, rfl⟩ := e
    exact h1
set_option maxRecDepth 100000 in
set_option maxHeartbeats 2000000 in
theorem around_any (l m : List Int) (v u : Value) (w : World) (h1 : IntsLie w v l) (h2 : IntsLie w u m) (hl : l.length ≤ 1000000) :
    Calls Tryz.prog 62 #[v, u] w fun e w' => e = .returned (.bool (aroundB l m)) ∧ Below w.heap.size w w' := by
  obtain ⟨a, c, rfl⟩ := ints_form h1
  obtain ⟨b, d, rfl⟩ := ints_form h2
  by_cases hle : l.length ≤ m.length
  · have AL := Lib.hid (alike_any _ _ l (m.take l.length) w h1 (ints_take h2 l.length hle) hl (by rw [List.length_take]; omega))
    have hcap := ints_cap h2
    have HX := Lib.hid (show aroundB l m = alikeB l (m.take l.length) by unfold aroundB; rw [show decide (l.length ≤ m.length) = true by simpa using hle]; rfl)
    have dk : decide (l.length ≤ m.length) = true := by simpa using hle
    have hc : l.length ≤ d := by omega
    have dc : decide (l.length ≤ d) = true := by simpa using hc
    clear h1 h2
    generalize alikeB l (m.take l.length) = yes at *
    go_enter Tryz.func62, Tryz.ntmps62
    go_wp2_with fail
    refine AL.out.mono ?_
    rintro e w1 ⟨rfl, hb1⟩
    go_wp2_with fail
    go_ret
    exact ⟨by rw [HX.out]; rfl, hb1⟩
  · have HX := Lib.hid (show aroundB l m = false by unfold aroundB; rw [show decide (l.length ≤ m.length) = false by simpa using hle]; rfl)
    have dk : decide (l.length ≤ m.length) = false := by simpa using hle
    clear h1 h2
    go_enter Tryz.func62, Tryz.ntmps62
    go_wp2_with fail
    go_ret
    exact ⟨by rw [HX.out]; rfl, Below.refl _ _⟩
theorem around_pre {l m : List Nat} : aroundB (pathInts l) (pathInts m) = true ↔ l <+: m := by
  unfold aroundB alikeB
  simp only [List.length_map, Bool.and_eq_true, decide_eq_true_eq]
  rw [← List.map_take]
  constructor
  · rintro ⟨h1, h2⟩
    have h3 : l = m.take l.length := by
      have inj : ∀ (a b : List Nat), pathInts a = pathInts b → a = b := by
        intro a
        induction a with
        | nil => intro b h; cases b with
          | nil => rfl
          | cons y b => simp at h
        | cons x a ih => intro b h; cases b with
          | nil => simp at h
          | cons y b =>
            simp only [List.map_cons, List.cons.injEq] at h
            rw [ih b h.2, show x = y by omega]
      exact inj _ _ h2
    exact ⟨m.drop l.length, by
      have := List.take_append_drop l.length m
      rw [← h3] at this
      exact this⟩
  · rintro ⟨r, rfl⟩
    exact ⟨by simp, by simp⟩
theorem vis_split {f : Fo} {x : Vis} (hx : x ∈ seqAt [] 0 f) : ∃ q i g, x.p = q ++ [i] ∧ goTo f q = some g ∧ nth g i = some (x.h, x.ks) := by
  have h1 := place_at hx
  obtain ⟨q, i, e⟩ := snoc_of x.p (path_ne hx)
  rw [e] at h1
  obtain ⟨g, h2, h3⟩ := place_last q i f h1
  exact ⟨q, i, g, e, h2, h3⟩
theorem nat_path (q : List Nat) : (pathInts q).map Int.toNat = q := by
  induction q with
  | nil => rfl
  | cons a q ih => simp only [List.map_cons, Int.toNat_natCast, ih]
theorem place_zero {f : Fo} {q : List Nat} {i : Nat} {g : Fo} {x : Hd × Fo} (hg : goTo f q = some g) (hn : nth g i = some x) : placeErr f (pathInts (q ++ [i])) = 0 := by
  unfold placeErr
  rw [if_neg (by simp), go_place q i f hg hn]; rfl
theorem in_bnd (F : Fo) : (bndErr F = 0 ∧ inBnd F = (F, 0)) ∨ (inBnd F = (.nil, 4)) ∨ (inBnd F = (.nil, 8)) := by
  unfold inBnd
  by_cases h : bndErr F = 0
  · exact .inl ⟨h, by rw [if_pos h]⟩
  · rw [if_neg h]
    unfold bndErr at h ⊢
    by_cases h1 : 400 < F.size
    · rw [if_pos h1]; exact .inr (.inl rfl)
    · rw [if_neg h1] at h ⊢
      by_cases h2 : 40 < F.deep
      · rw [if_pos h2]; exact .inr (.inr rfl)
      · rw [if_neg h2] at h; exact absurd rfl h
theorem bnd_ok {F : Fo} (hb : bndErr F = 0) (hh : headsErr F = 0) : foErr F = 0 := by
  rw [foErr_eq, if_neg (by simpa using hb), hh]
theorem bnd_zero {F : Fo} (h : foErr F = 0) : bndErr F = 0 := by
  obtain ⟨h1, h2, -⟩ := fo_zero.1 h
  unfold bndErr
  rw [if_neg (by omega), if_neg (by omega)]
theorem in_ok {F : Fo} (h : foErr F = 0) : inBnd F = (F, 0) := by unfold inBnd; rw [if_pos (bnd_zero h)]
/-- what Put does, at a place that is there. -/
theorem put_vals {f g : Fo} {q : List Nat} {i : Nat} {hw : Hd} {kw : Fo} {th : Hd} {tk : Fo} (z : foErr f = 0) (z1 : foErr (.cons th tk .nil) = 0) (hg : goTo f q = some g) (hn : nth g i = some (hw, kw)) :
    putV f (pathInts (q ++ [i])) (.cons th tk .nil) = inBnd (changeAt f q (setK g i th tk)) ∧ (bndErr (changeAt f q (setK g i th tk)) = 0 → foErr (changeAt f q (setK g i th tk)) = 0 ∧ placeF (changeAt f q (setK g i th tk)) (pathInts (q ++ [i])) = some (th, tk) ∧
      putV (changeAt f q (setK g i th tk)) (pathInts (q ++ [i])) (.cons hw kw .nil) = (f, 0)) := by
  have hz := (fo_zero.1 z).2.2
  have hi := nth_lt hn
  have hgen : ∀ (F G : Fo) (a : Hd) (k : Fo) (y : Hd × Fo), foErr F = 0 → foErr (.cons a k .nil) = 0 → goTo F q = some G → nth G i = some y → putV F (pathInts (q ++ [i])) (.cons a k .nil) = inBnd (changeAt F q (setK G i a k)) := by
    intro F G a k y e1 e2 e3 e4
    unfold putV
    rw [e1, e2, place_zero e3 e4, if_pos (by rfl), nat_path, changeF_at q F i 1 _ e3, spl_put]
  refine ⟨hgen f g th tk _ z z1 hg hn, fun hb => ?_⟩
  have hh : headsErr (changeAt f q (setK g i th tk)) = 0 := by
    refine heads_change q f _ (owns_go q f hg (by omega) hz) hz ?_
    rw [← spl_put]
    exact spl_heads (go_heads q f hg hz) (fo_zero.1 z1).2.2
  have z2 := bnd_ok hb hh
  have hg2 := goTo_change q f (setK g i th tk) hg
  have hn2 : nth (setK g i th tk) i = some (th, tk) := by rw [nth_setK hi, if_pos rfl]
  refine ⟨z2, go_place q i _ hg2 hn2, ?_⟩
  have zw : foErr (.cons hw kw .nil) = 0 := one_ok (go_place q i f hg hn) z
  rw [hgen _ _ hw kw _ z2 zw hg2 hn2, change_change q f _ _ hg, setK_setK hi, setK_self hn, changeAt_self q f hg, in_ok z]
end Go.Proofs.YtcgedpfolloinaaGreat

namespace Go.Proofs.YtcgedpfolloinaaGreat
open Go.ChangeShapes Go.WideShapes Go.ChangeAt Go.RowKit Go.Deep

theorem mem_all {H : Type} {P : Program} {e : TypeId} : ∀ {ds : List (DataW H)} {d : DataW H}, d ∈ ds → ∀ n ∈ d.weights P e, n ∈ DataW.weightsAll P e ds
  | d' :: r, d, hd, n, hn => by
    simp only [DataW.weightsAll, List.mem_append]
    rcases List.mem_cons.1 hd with rfl | hd
    · exact .inl hn
    · exact .inr (mem_all hd n hn)
theorem bytesAttr : Tryz.prog.bytesOf 81 = 32 := by kernel_rfl
theorem bytesTree : Tryz.prog.bytesOf 43 = 104 := by kernel_rfl
theorem cellsAttr : Tryz.prog.cellsOf 81 = 2 := by kernel_rfl
theorem cellsHead : Tryz.prog.cellsOf 27 = 6 := by kernel_rfl
theorem cellsTree : Tryz.prog.cellsOf 43 = 7 := by kernel_rfl
theorem cellsNumT : Tryz.prog.cellsOf 25 = 2 := by kernel_rfl
theorem cellsKind : Tryz.prog.cellsOf 22 = 1 := by kernel_rfl
theorem cellsStr : Tryz.prog.cellsOf 9 = 1 := by kernel_rfl
theorem cellsAttrs : Tryz.prog.cellsOf 23 = 1 := by kernel_rfl
theorem cellsTrees : Tryz.prog.cellsOf 28 = 1 := by kernel_rfl
theorem cellsInt : Tryz.prog.cellsOf 3 = 1 := by kernel_rfl
/-- no string, no slice of a datum is larger than memory. -/
def Fits {H : Type} (t : TypeId) (d : DataW H) : Prop := ∀ n ∈ d.weights Tryz.prog t, n ≤ reachBytes
theorem str_list (s : ByteArray) : ∃ l : List UInt8, s = ⟨l.toArray⟩ := ⟨s.data.toList, by cases s; simp⟩
theorem lt_of_cell' {w : World} {b o : Nat} {v : Value} (h : w.cell? ⟨b, o, none⟩ = some v) : b < w.heap.size := by
  by_cases hb : b < w.heap.size
  · exact hb
  · exfalso
    have : w.heap[b]? = none := Array.getElem?_eq_none (by omega)
    unfold World.cell? at h
    simp [this] at h

theorem tfields : ∃ a b, Tryz.prog.underlying 43 = some (.struct #[a, b]) ∧ a.type = 27 ∧ a.offset = 0 ∧ b.type = 28 ∧ b.offset = 6 := ⟨_, _, Tryz.underlying43, rfl, rfl, rfl, rfl⟩
theorem hfields : ∃ a b c d e, Tryz.prog.underlying 27 = some (.struct #[a, b, c, d, e]) ∧ (a.type = 22 ∧ a.offset = 0) ∧ (b.type = 9 ∧ b.offset = 1) ∧ (c.type = 23 ∧ c.offset = 2) ∧ (d.type = 25 ∧ d.offset = 3) ∧ (e.type = 9 ∧ e.offset = 5) :=
  ⟨_, _, _, _, _, Tryz.underlying27, ⟨rfl, rfl⟩, ⟨rfl, rfl⟩, ⟨rfl, rfl⟩, ⟨rfl, rfl⟩, ⟨rfl, rfl⟩⟩
theorem nfields : ∃ a b, Tryz.prog.underlying 25 = some (.struct #[a, b]) ∧ a.type = 3 ∧ a.offset = 0 ∧ b.type = 3 ∧ b.offset = 1 := ⟨_, _, Tryz.underlying25, rfl, rfl, rfl, rfl⟩
theorem afields : ∃ a b, Tryz.prog.underlying 81 = some (.struct #[a, b]) ∧ a.type = 9 ∧ a.offset = 0 ∧ b.type = 9 ∧ b.offset = 1 := ⟨_, _, Tryz.underlying81, rfl, rfl, rfl, rfl⟩

section
variable {H : Type} {enc : TypeId × Value → H} {W : World} {held : Bool}

set_option maxRecDepth 100000 in
theorem attrs_open {fuel : Nat} {v : Value} {x : DataW H × List MemPlace} (h : DataW.trod enc Tryz.prog W 0 (fun _ => true) held fuel 23 [v] = some x) (hf : Fits 23 x.1) : ∃ ats, AttrsLie W v ats := by
  obtain ⟨fa, fb, hu, ta, oa, tb, ob⟩ := afields
  rcases open_slice_pairs Tryz.underlying23 hu cellsAttr oa ob (by rw [ta]; exact cellsStr) (by rw [tb]; exact cellsStr) h with ⟨hcs, hx⟩ | ⟨a, len, cap, m, n, V0, V1, D0, D1, P0, P1, hcs, _, hle, hmax, hm, hx, hi⟩
  · simp at hcs
    subst hcs
    exact ⟨[], .inl ⟨_, _, rfl, rfl⟩⟩
  · simp at hcs
    subst hcs
    simp only [if_true] at hm
    by_cases h0 : len = 0
    · subst h0; exact ⟨[], .inl ⟨_, _, rfl, rfl⟩⟩
    · have hw : (len + (m - len)) * 32 ≤ reachBytes := by
        have := hf ((len + (m - len)) * Tryz.prog.bytesOf 81) (by
          subst hx
          simp only [DataW.weights, Tryz.underlying23]
          simp)
        rwa [bytesAttr] at this
      have hi' : ∀ i, i < len → ∃ x y : List UInt8, W.cell? (a.add (i * 2)) = some (.string ⟨x.toArray⟩) ∧ W.cell? (a.add (i * 2 + 1)) = some (.string ⟨y.toArray⟩) := by
        intro i hl
        obtain ⟨h1, h2, h3, h4⟩ := hi i (by omega)
        rw [ta] at h3
        rw [tb] at h4
        obtain ⟨x, e1, _, _⟩ := DataW.trod_string Tryz.underlying9 h3
        obtain ⟨y, e2, _, _⟩ := DataW.trod_string Tryz.underlying9 h4
        simp only [List.cons.injEq, and_true] at e1 e2
        obtain ⟨x, rfl⟩ := str_list x
        obtain ⟨y, rfl⟩ := str_list y
        exact ⟨x, y, by rw [h1, e1], by rw [h2, e2]⟩
      obtain ⟨b, off, spot⟩ := a
      obtain ⟨x0, y0, c0, _⟩ := hi' 0 (by omega)
      have hspot : spot = none := by simpa [Addr.add] using World.cell?_spot c0
      subst hspot
      have hb : b < W.heap.size := by
        rw [Go.WideShapes.add_plain] at c0
        exact lt_of_cell' c0
      have e : ∀ i, i < len → ∃ q : List UInt8 × List UInt8, W.cell? ⟨b, off + i * 2, none⟩ = some (.string ⟨q.1.toArray⟩) ∧ W.cell? ⟨b, off + i * 2 + 1, none⟩ = some (.string ⟨q.2.toArray⟩) := by
        intro i hl
        obtain ⟨x, y, h1, h2⟩ := hi' i hl
        rw [Go.WideShapes.add_plain] at h1 h2
        exact ⟨(x, y), h1, by rw [Nat.add_assoc]; exact h2⟩
      obtain ⟨q, hq⟩ := choose_lt e
      have hl : ((List.range len).map q).length = len := by simp
      refine ⟨(List.range len).map q, .inr ⟨b, off, cap, by rw [hl], by rw [hl]; exact hle, by rw [hl]; unfold reachBytes at hw; omega, hb, fun k hk => ?_⟩⟩
      have hk' : k < len := by rwa [hl] at hk
      have g : ((List.range len).map q).getD k ([], []) = q k := by
        rw [List.getD_eq_getElem?_getD]; simp [hk']
      rw [g]
      exact hq k hk'

set_option maxRecDepth 100000 in
theorem head_open {fuel : Nat} {cs : List Value} {x : DataW H × List MemPlace} (h : DataW.trod enc Tryz.prog W 0 (fun _ => true) held fuel 27 cs = some x) (hf : Fits 27 x.1) :
    ∃ (hd : Hd) (va : Value), cs = [.int .i64 hd.k, .string ⟨hd.l.toArray⟩, va, .int .i64 hd.n, .int .i64 hd.d, .string ⟨hd.x.toArray⟩] ∧ AttrsLie W va hd.ats := by
  obtain ⟨fa, fb, fc, fd, fe, hu, ⟨ta, oa⟩, ⟨tb, ob⟩, ⟨tc, oc⟩, ⟨td, od⟩, te, oe⟩ := hfields
  obtain ⟨xs, n, _, hx, hlen, hxl, hi⟩ := DataW.trod_struct hu h
  rw [cellsHead] at hlen
  obtain ⟨c0, c1, c2, c3, c4, c5, rfl⟩ : ∃ c0 c1 c2 c3 c4 c5, cs = [c0, c1, c2, c3, c4, c5] := by
    match cs, hlen with
    | [c0, c1, c2, c3, c4, c5], _ => exact ⟨c0, c1, c2, c3, c4, c5, rfl⟩
  obtain ⟨x0, x1, x2, x3, x4, rfl⟩ : ∃ x0 x1 x2 x3 x4, xs = [x0, x1, x2, x3, x4] := by
    match xs, hxl with
    | [x0, x1, x2, x3, x4], _ => exact ⟨x0, x1, x2, x3, x4, rfl⟩
  have i0 := hi 0 fa rfl
  have i1 := hi 1 fb rfl
  have i2 := hi 2 fc rfl
  have i3 := hi 3 fd rfl
  have i4 := hi 4 fe rfl
  rw [ta, oa, cellsKind] at i0
  rw [tb, ob, cellsStr] at i1
  rw [tc, oc, cellsAttrs] at i2
  rw [td, od, cellsNumT] at i3
  rw [te, oe, cellsStr] at i4
  simp at i0 i1 i2 i3 i4
  obtain ⟨k, e0, _, _⟩ := DataW.trod_int Tryz.underlying22 i0
  obtain ⟨l, e1, _, _⟩ := DataW.trod_string Tryz.underlying9 i1
  obtain ⟨t, e4, _, _⟩ := DataW.trod_string Tryz.underlying9 i4
  obtain ⟨ats, ha⟩ := attrs_open i2 (fun m hm => hf m (by
    subst hx
    simp only [DataW.weights, hu]
    refine DataW.weights_mem_each (j := 2) (t := 23) (d := x2.1) (by simp [tc]) (by simp) m hm))
  obtain ⟨na, nb, hun, tna, ona, tnb, onb⟩ := nfields
  obtain ⟨ys, n2, _, _, _, hyl, hj⟩ := DataW.trod_struct hun i3
  obtain ⟨y0, y1, rfl⟩ : ∃ y0 y1, ys = [y0, y1] := by
    match ys, hyl with
    | [y0, y1], _ => exact ⟨y0, y1, rfl⟩
  have j0 := hj 0 na rfl
  have j1 := hj 1 nb rfl
  rw [tna, ona, cellsInt] at j0
  rw [tnb, onb, cellsInt] at j1
  simp at j0 j1
  obtain ⟨n', g0, _, _⟩ := DataW.trod_int Tryz.underlying3 j0
  obtain ⟨d', g1, _, _⟩ := DataW.trod_int Tryz.underlying3 j1
  simp only [List.cons.injEq, and_true] at e0 e1 e4 g0 g1
  obtain ⟨l, rfl⟩ := str_list l
  obtain ⟨t, rfl⟩ := str_list t
  exact ⟨⟨k, l, ats, n', d', t⟩, c2, by rw [e0, e1, e4, g0, g1], ha⟩

def foOf : List (Hd × Fo) → Fo
  | [] => .nil
  | x :: r => .cons x.1 x.2 (foOf r)
theorem foOf_len : ∀ l : List (Hd × Fo), (foOf l).len = l.length
  | [] => rfl
  | x :: r => by simp only [foOf, Fo.len, List.length_cons, foOf_len r]
theorem foOf_row {b : Nat} : ∀ (l : List (Hd × Fo)) (o : Nat), (∀ k (hk : k < l.length), HdAt W (l[k]).1 b (o + k * 7) ∧ ∃ v, W.cell? ⟨b, o + k * 7 + 6, none⟩ = some v ∧ Lies W v (l[k]).2) → RowAt W (foOf l) b o
  | [], _, _ => trivial
  | x :: r, o, hk => by
    have h0 := hk 0 (by simp)
    simp only [Nat.zero_mul, Nat.add_zero, List.getElem_cons_zero] at h0
    refine rowAt_cons.2 ⟨h0.1, h0.2, foOf_row r (o + 7) fun k h => ?_⟩
    have := hk (k + 1) (by simpa using h)
    simp only [List.getElem_cons_succ] at this
    rw [show o + (k + 1) * 7 = o + 7 + k * 7 by omega] at this
    exact this
instance : Inhabited (Hd × Fo) := ⟨(⟨0, [], [], 0, 0, []⟩, .nil)⟩

set_option maxRecDepth 100000 in
theorem trees_open : ∀ (fuel : Nat) {v : Value} {x : DataW H × List MemPlace}, DataW.trod enc Tryz.prog W 0 (fun _ => true) held fuel 28 [v] = some x → Fits 28 x.1 → ∃ f, Lies W v f
  | 0, v, x, h, _ => by simp [DataW.trod] at h
  | 1, v, x, h, hf => by
    rcases DataW.trod_slice Tryz.underlying28 h with ⟨hcs, _⟩ | ⟨a, len, cap, elems, rest, n, hn, hcs, hx, _, hle, hmax, hlen, hel, hsp, _⟩
    · simp at hcs; subst hcs; exact ⟨.nil, .inl ⟨_, _, rfl, rfl⟩⟩
    · simp at hcs
      subst hcs
      obtain rfl : n = 0 := by omega
      cases len with
      | zero => exact ⟨.nil, .inl ⟨_, _, rfl, rfl⟩⟩
      | succ len =>
        have h0 := hel 0 (by omega)
        rw [List.getElem?_eq_getElem (by omega)] at h0
        obtain ⟨cs', _, h2⟩ := Option.bind_eq_some_iff.1 h0
        simp [DataW.trod] at h2
  | fuel + 2, v, x, h, hf => by
    rcases DataW.trod_slice Tryz.underlying28 h with ⟨hcs, _⟩ | ⟨a, len, cap, elems, rest, n, hn, hcs, hx, _, hle, hmax, hlen, hel, hsp, _⟩
    · simp at hcs; subst hcs; exact ⟨.nil, .inl ⟨_, _, rfl, rfl⟩⟩
    · simp at hcs
      subst hcs
      obtain rfl : n = fuel + 1 := by omega
      by_cases h0 : len = 0
      · subst h0; exact ⟨.nil, .inl ⟨_, _, rfl, rfl⟩⟩
      · have hw : (elems.length + rest.length) * 104 ≤ reachBytes := by
          have := hf ((elems.length + rest.length) * Tryz.prog.bytesOf 43) (by
            subst hx
            simp only [DataW.weights, Tryz.underlying28]
            simp)
          rwa [bytesTree] at this
        have hi' : ∀ i, i < len → ∃ q : Hd × Fo, (∃ va, W.cell? (a.add (i * 7)) = some (.int .i64 q.1.k) ∧ W.cell? (a.add (i * 7 + 1)) = some (.string ⟨q.1.l.toArray⟩) ∧ W.cell? (a.add (i * 7 + 2)) = some va ∧ AttrsLie W va q.1.ats ∧
            W.cell? (a.add (i * 7 + 3)) = some (.int .i64 q.1.n) ∧ W.cell? (a.add (i * 7 + 4)) = some (.int .i64 q.1.d) ∧ W.cell? (a.add (i * 7 + 5)) = some (.string ⟨q.1.x.toArray⟩)) ∧ ∃ vk, W.cell? (a.add (i * 7 + 6)) = some vk ∧ Lies W vk q.2 := by
          intro i hl
          have hi := hel i hl
          rw [cellsTree, List.getElem?_eq_getElem (by omega)] at hi
          obtain ⟨cs', hc, ht⟩ := Option.bind_eq_some_iff.1 hi
          obtain ⟨_, hcl, hcc⟩ := World.cells?_some hc
          obtain ⟨fa, fb, hu, ta, oa, tb, ob⟩ := tfields
          obtain ⟨xs, m, hm, hxx, _, hxl, hj⟩ := DataW.trod_struct hu ht
          obtain rfl : m = fuel := by omega
          obtain ⟨x0, x1, rfl⟩ : ∃ x0 x1, xs = [x0, x1] := by
            match xs, hxl with
            | [x0, x1], _ => exact ⟨x0, x1, rfl⟩
          obtain ⟨c0, c1, c2, c3, c4, c5, c6, rfl⟩ : ∃ c0 c1 c2 c3 c4 c5 c6, cs' = [c0, c1, c2, c3, c4, c5, c6] := by
            match cs', hcl with
            | [c0, c1, c2, c3, c4, c5, c6], _ => exact ⟨c0, c1, c2, c3, c4, c5, c6, rfl⟩
          have j0 := hj 0 fa rfl
          have j1 := hj 1 fb rfl
          rw [ta, oa, cellsHead] at j0
          rw [tb, ob, cellsTrees] at j1
          simp at j0 j1
          have hfit : Fits 43 (elems[i]).1 := fun n hn => hf n (by
            subst hx
            simp only [DataW.weights, Tryz.underlying28, List.mem_cons, List.mem_append]
            exact .inr (.inl (mem_all (by simp; exact ⟨_, List.getElem_mem _⟩) n hn)))
          rw [hxx] at hfit
          have hf0 : Fits 27 x0.1 := fun n hn => hfit n (by
            simp only [DataW.weights, hu]
            exact DataW.weights_mem_each (j := 0) (t := 27) (d := x0.1) (by simp [ta]) (by simp) n hn)
          have hf1 : Fits 28 x1.1 := fun n hn => hfit n (by
            simp only [DataW.weights, hu]
            exact DataW.weights_mem_each (j := 1) (t := 28) (d := x1.1) (by simp [tb]) (by simp) n hn)
          obtain ⟨hd, va, e, ha⟩ := head_open j0 hf0
          obtain ⟨ks, hk⟩ := trees_open m j1 hf1
          have g : ∀ k (hk : k < 7) u, [c0, c1, c2, c3, c4, c5, c6][k]? = some u → W.cell? (a.add (i * 7 + k)) = some u := fun k hk u hu => by
            rw [← Go.Deep.add_add]; exact (hcc k hk).trans hu
          simp only [List.cons.injEq, and_true] at e
          obtain ⟨rfl, rfl, rfl, rfl, rfl, rfl⟩ := e
          exact ⟨(hd, ks), ⟨c2, g 0 (by omega) _ rfl, g 1 (by omega) _ rfl, g 2 (by omega) _ rfl, ha, g 3 (by omega) _ rfl, g 4 (by omega) _ rfl, g 5 (by omega) _ rfl⟩, c6, g 6 (by omega) _ rfl, hk⟩
        obtain ⟨b, off, spot⟩ := a
        have hspot : spot = none := by
          obtain ⟨q, ⟨va, c0, _⟩, _⟩ := hi' 0 (by omega)
          simpa [Addr.add] using World.cell?_spot c0
        subst hspot
        obtain ⟨q, hq⟩ := choose_lt hi'
        have hb : b < W.heap.size := by
          obtain ⟨⟨va, c0, _⟩, _⟩ := hq 0 (by omega)
          rw [Go.WideShapes.add_plain] at c0
          exact lt_of_cell' c0
        have hl : (foOf ((List.range len).map q)).len = len := by rw [foOf_len]; simp
        refine ⟨foOf ((List.range len).map q), .inr ⟨b, off, cap, by rw [hl], by rw [hl]; exact hle, by rw [hl]; unfold reachBytes at hw; omega, hb, foOf_row _ off fun k hk => ?_⟩⟩
        have hk' : k < len := by simpa using hk
        obtain ⟨⟨va, c0, c1, c2, ha, c3, c4, c5⟩, vk, c6, hk6⟩ := hq k hk'
        rw [Go.WideShapes.add_plain] at c0 c1 c2 c3 c4 c5 c6
        simp only [List.getElem_map, List.getElem_range]
        exact ⟨⟨c0, by rw [Nat.add_assoc]; exact c1, ⟨va, by rw [Nat.add_assoc]; exact c2, ha⟩, by rw [Nat.add_assoc]; exact c3, by rw [Nat.add_assoc]; exact c4, by rw [Nat.add_assoc]; exact c5⟩, vk, by rw [Nat.add_assoc]; exact c6, hk6⟩
set_option maxRecDepth 100000 in
theorem tree_open {fuel : Nat} {cs : List Value} {x : DataW H × List MemPlace} (h : DataW.trod enc Tryz.prog W 0 (fun _ => true) held fuel 43 cs = some x) (hf : Fits 43 x.1) :
    ∃ (hd : Hd) (ks : Fo) (va vk : Value), cs = [.int .i64 hd.k, .string ⟨hd.l.toArray⟩, va, .int .i64 hd.n, .int .i64 hd.d, .string ⟨hd.x.toArray⟩, vk] ∧ AttrsLie W va hd.ats ∧ Lies W vk ks := by
  obtain ⟨fa, fb, hu, ta, oa, tb, ob⟩ := tfields
  obtain ⟨xs, m, _, hxx, hcl, hxl, hj⟩ := DataW.trod_struct hu h
  rw [cellsTree] at hcl
  obtain ⟨x0, x1, rfl⟩ : ∃ x0 x1, xs = [x0, x1] := by
    match xs, hxl with
    | [x0, x1], _ => exact ⟨x0, x1, rfl⟩
  obtain ⟨c0, c1, c2, c3, c4, c5, c6, rfl⟩ : ∃ c0 c1 c2 c3 c4 c5 c6, cs = [c0, c1, c2, c3, c4, c5, c6] := by
    match cs, hcl with
    | [c0, c1, c2, c3, c4, c5, c6], _ => exact ⟨c0, c1, c2, c3, c4, c5, c6, rfl⟩
  have j0 := hj 0 fa rfl
  have j1 := hj 1 fb rfl
  rw [ta, oa, cellsHead] at j0
  rw [tb, ob, cellsTrees] at j1
  simp at j0 j1
  rw [hxx] at hf
  have hf0 : Fits 27 x0.1 := fun n hn => hf n (by
    simp only [DataW.weights, hu]
    exact DataW.weights_mem_each (j := 0) (t := 27) (d := x0.1) (by simp [ta]) (by simp) n hn)
  have hf1 : Fits 28 x1.1 := fun n hn => hf n (by
    simp only [DataW.weights, hu]
    exact DataW.weights_mem_each (j := 1) (t := 28) (d := x1.1) (by simp [tb]) (by simp) n hn)
  obtain ⟨hd, va, e, ha⟩ := head_open j0 hf0
  obtain ⟨ks, hk⟩ := trees_open m j1 hf1
  simp only [List.cons.injEq, and_true] at e
  obtain ⟨rfl, rfl, rfl, rfl, rfl, rfl⟩ := e
  exact ⟨hd, ks, c2, c6, rfl, ha, hk⟩
end
end Go.Proofs.YtcgedpfolloinaaGreat
