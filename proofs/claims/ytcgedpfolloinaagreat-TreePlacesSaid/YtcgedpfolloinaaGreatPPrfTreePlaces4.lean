/- What the proof of PrfTreePlaces rests on, part 4 of 11. -/
import Derived.OwnWalk
import Derived.Laws.MakeOwn
import Derived.Test.YtcgedpfolloinaaGreatPPrfTreePlaces3
namespace Go.Proofs.YtcgedpfolloinaaGreat
open Go.RowKit

def placeErr (f : Fo) (p : List Int) : Int := if p = [] then 10 else if (placeF f p).isSome = true then 0 else 6
set_option maxHeartbeats 1000000 in
theorem checkPlace_any (f : Fo) (p : List Int) (v pv : Value) (w : World) (hl : Lies w v f) (hp : IntsLie w pv p) (hpl : p.length ≤ 1000000) :
    Calls Tryz.prog 91 #[v, pv] w fun e w' => e = .returned (.int .i64 (placeErr f p)) ∧ Below w.heap.size w w' := by
  have T := Lib.hid (treeAt_any f p v pv w hl hp hpl)
  obtain ⟨a, cap, rfl⟩ := lies_form hl
  obtain ⟨pa, pc, rfl⟩ := ints_form hp
  clear hl hp
  by_cases h0 : p = []
  · subst h0
    go_enter Tryz.func91, Tryz.ntmps91
    go_wp2_with fail
    go_ret
    exact ⟨rfl, Below.refl _ _⟩
  · have hpos : ((p.length : Int) == 0) = false := by simpa using h0
    have HE := Lib.hid (show placeErr f p = if (placeF f p).isSome = true then 0 else 6 from if_neg h0)
    clear h0
    generalize placeF f p = o at *
    go_enter Tryz.func91, Tryz.ntmps91
    go_wp2_with fail
    refine T.out.mono ?_
    rintro e w1 ⟨h, ks, aa, ca, ak, ck, rfl, ha, hk, ho, hb1⟩
    unfold aggOf
    clear ha hk ho
    have hs1 := hb1.size
    cases o with
    | none =>
      go_wp2_with fail
      go_ret
      exact ⟨ret_int' HE.out.symm, by ((repeat' (first | exact Below.refl _ _ | assumption | refine Below.setCell ?_ ?_ _ | refine bdrewN ?_ _ | refine Below.drew ?_ | refine Below.alloc ?_ ?_ _ | refine bbehind ?_ (by assumption) ?_)); all_goals first | (simp; done) | (simp; omega) | omega)⟩
    | some q =>
      go_wp2_with fail
      go_ret
      exact ⟨ret_int' HE.out.symm, by ((repeat' (first | exact Below.refl _ _ | assumption | refine Below.setCell ?_ ?_ _ | refine bdrewN ?_ _ | refine Below.drew ?_ | refine Below.alloc ?_ ?_ _ | refine bbehind ?_ (by assumption) ?_)); all_goals first | (simp; done) | (simp; omega) | omega)⟩

theorem info_attr : (Tryz.prog.info? 81).map (fun i => (i.zero, i.size, i.bytes)) = some (some (.agg #[.string ⟨#[]⟩, .string ⟨#[]⟩]), 2, 32) := by kernel_rfl
/-- the cells of attributes. -/
def attrCells (l : List (List UInt8 × List UInt8)) : List Value := l.flatMap fun q => [.string ⟨q.1.toArray⟩, .string ⟨q.2.toArray⟩]
theorem attrCells_len (l : List (List UInt8 × List UInt8)) : (attrCells l).length = l.length * 2 := by
  unfold attrCells
  induction l with
  | nil => rfl
  | cons a t ih => rw [List.flatMap_cons, List.length_append, ih]; simp; omega
theorem attrCells_at : ∀ (l : List (List UInt8 × List UInt8)) (k : Nat), k < l.length → (attrCells l)[k * 2]? = some (.string ⟨(l.getD k ([], [])).1.toArray⟩) ∧ (attrCells l)[k * 2 + 1]? = some (.string ⟨(l.getD k ([], [])).2.toArray⟩)
  | [], k, h => by simp at h
  | a :: t, 0, _ => by simp [attrCells]
  | a :: t, k + 1, h => by
    have := attrCells_at t k (by simpa using h)
    have e : attrCells (a :: t) = .string ⟨a.1.toArray⟩ :: .string ⟨a.2.toArray⟩ :: attrCells t := rfl
    rw [e, show (k + 1) * 2 = k * 2 + 1 + 1 by omega]
    simpa using this
end Go.Proofs.YtcgedpfolloinaaGreat

namespace Go.Proofs.YtcgedpfolloinaaGreat
open Go.RowKit

/-- attributes that lie in no block below B. -/
def AttrsF (B : Nat) (w : World) (v : Value) (l : List (List UInt8 × List UInt8)) : Prop :=
  (∃ a cap, v = .slice a 0 cap ∧ l = []) ∨ ∃ b off cap, v = .slice (some ⟨b, off, none⟩) l.length cap ∧ l.length ≤ cap ∧ l.length ≤ 4398046510976 ∧ B ≤ b ∧ b < w.heap.size ∧
    ∀ k, k < l.length → w.cell? ⟨b, off + k * 2, none⟩ = some (.string ⟨(l.getD k ([], [])).1.toArray⟩) ∧ w.cell? ⟨b, off + k * 2 + 1, none⟩ = some (.string ⟨(l.getD k ([], [])).2.toArray⟩)
def HdF (B : Nat) (w : World) (h : Hd) (b o : Nat) : Prop :=
  w.cell? ⟨b, o, none⟩ = some (.int .i64 h.k) ∧ w.cell? ⟨b, o + 1, none⟩ = some (.string ⟨h.l.toArray⟩) ∧ (∃ va, w.cell? ⟨b, o + 2, none⟩ = some va ∧ AttrsF B w va h.ats) ∧
  w.cell? ⟨b, o + 3, none⟩ = some (.int .i64 h.n) ∧ w.cell? ⟨b, o + 4, none⟩ = some (.int .i64 h.d) ∧ w.cell? ⟨b, o + 5, none⟩ = some (.string ⟨h.x.toArray⟩)
def RowF (B : Nat) (w : World) : Fo → Nat → Nat → Prop
  | .nil, _, _ => True
  | .cons h ks r, b, o => HdF B w h b o ∧ (∃ v, w.cell? ⟨b, o + 6, none⟩ = some v ∧
      ((∃ a cap, v = .slice a 0 cap ∧ ks = .nil) ∨ ∃ b' o' cap, v = .slice (some ⟨b', o', none⟩) ks.len cap ∧ ks.len ≤ cap ∧ ks.len ≤ 2000000000000 ∧ B ≤ b' ∧ b' < w.heap.size ∧ RowF B w ks b' o')) ∧ RowF B w r b (o + 7)
def LiesF (B : Nat) (w : World) (v : Value) (f : Fo) : Prop :=
  (∃ a cap, v = .slice a 0 cap ∧ f = .nil) ∨ ∃ b o cap, v = .slice (some ⟨b, o, none⟩) f.len cap ∧ f.len ≤ cap ∧ f.len ≤ 2000000000000 ∧ B ≤ b ∧ b < w.heap.size ∧ RowF B w f b o

/-- from block B on nothing is written that was there. -/
def Keeps (B : Nat) (w w' : World) : Prop := w.heap.size ≤ w'.heap.size ∧ ∀ b o, B ≤ b → b < w.heap.size → w'.cell? ⟨b, o, none⟩ = w.cell? ⟨b, o, none⟩
theorem Keeps.refl (B : Nat) (w : World) : Keeps B w w := ⟨Nat.le_refl _, fun _ _ _ _ => rfl⟩
theorem Keeps.trans {B : Nat} {a b c : World} (h : Keeps B a b) (k : Keeps B b c) : Keeps B a c :=
  ⟨Nat.le_trans h.1 k.1, fun x o hx hl => (k.2 x o hx (Nat.lt_of_lt_of_le hl h.1)).trans (h.2 x o hx hl)⟩
theorem Keeps.of_below {B : Nat} {w w' : World} (k : Below w.heap.size w w') : Keeps B w w' := ⟨k.size, fun b o _ h => (bcell k).1 b o h⟩
theorem Keeps.setCell {B : Nat} (w : World) {b : Nat} (h : b < B) (o : Nat) (u : Value) : Keeps B w (w.setCell ⟨b, o, none⟩ u) :=
  ⟨Nat.le_of_eq set_size'.symm, fun x o' hx _ => World.cell?_of_block (w := w) (set_far (k := x) (by omega))⟩

theorem attrsF_keeps {B : Nat} {w w' : World} {v : Value} {l : List (List UInt8 × List UInt8)} (h : AttrsF B w v l) (k : Keeps B w w') : AttrsF B w' v l := by
  rcases h with h | ⟨b, off, cap, h1, h0, h4, h5, h2, h3⟩
  · exact .inl h
  · exact .inr ⟨b, off, cap, h1, h0, h4, h5, Nat.lt_of_lt_of_le h2 k.1, fun i hi => ⟨(k.2 _ _ h5 h2).trans (h3 i hi).1, (k.2 _ _ h5 h2).trans (h3 i hi).2⟩⟩
theorem rowF_keeps {B : Nat} {w w' : World} (k : Keeps B w w') : ∀ (f : Fo) (b o : Nat), B ≤ b → b < w.heap.size → RowF B w f b o → RowF B w' f b o
  | .nil, _, _, _, _, _ => trivial
  | .cons h ks r, b, o, hB, hb, H => by
    obtain ⟨⟨h0, h1, ⟨va, h2, ha⟩, h3, h4, h5⟩, ⟨v, h6, h7⟩, h8⟩ := H
    have hc := fun o => k.2 b o hB hb
    refine ⟨⟨(hc _).trans h0, (hc _).trans h1, ⟨va, (hc _).trans h2, attrsF_keeps ha k⟩, (hc _).trans h3, (hc _).trans h4, (hc _).trans h5⟩, ⟨v, (hc _).trans h6, ?_⟩, rowF_keeps k r b (o + 7) hB hb h8⟩
    rcases h7 with h7 | ⟨b', o', cap, e, e0, e3, eB, e1, e2⟩
    · exact .inl h7
    · exact .inr ⟨b', o', cap, e, e0, e3, eB, Nat.lt_of_lt_of_le e1 k.1, rowF_keeps k ks b' o' eB e1 e2⟩
theorem liesF_keeps {B : Nat} {w w' : World} {v : Value} {f : Fo} (h : LiesF B w v f) (k : Keeps B w w') : LiesF B w' v f := by
  rcases h with h | ⟨b, o, cap, h1, h0, h4, h5, h2, h3⟩
  · exact .inl h
  · exact .inr ⟨b, o, cap, h1, h0, h4, h5, Nat.lt_of_lt_of_le h2 k.1, rowF_keeps k f b o h5 h2 h3⟩
theorem attrsF_lies {B : Nat} {w : World} {v : Value} {l : List (List UInt8 × List UInt8)} (h : AttrsF B w v l) : AttrsLie w v l := by
  rcases h with h | ⟨b, off, cap, h1, h0, h4, h5, h2, h3⟩
  · exact .inl h
  · exact .inr ⟨b, off, cap, h1, h0, h4, h2, h3⟩
theorem rowF_lies {B : Nat} {w : World} : ∀ (f : Fo) (b o : Nat), RowF B w f b o → RowAt w f b o
  | .nil, _, _, _ => trivial
  | .cons h ks r, b, o, H => by
    obtain ⟨⟨h0, h1, ⟨va, h2, ha⟩, h3, h4, h5⟩, ⟨v, h6, h7⟩, h8⟩ := H
    refine ⟨⟨h0, h1, ⟨va, h2, attrsF_lies ha⟩, h3, h4, h5⟩, ⟨v, h6, ?_⟩, rowF_lies r b (o + 7) h8⟩
    rcases h7 with h7 | ⟨b', o', cap, e, e0, e3, eB, e1, e2⟩
    · exact .inl h7
    · exact .inr ⟨b', o', cap, e, e0, e3, e1, rowF_lies ks b' o' e2⟩
theorem liesF_lies {B : Nat} {w : World} {v : Value} {f : Fo} (h : LiesF B w v f) : Lies w v f := by
  rcases h with h | ⟨b, o, cap, h1, h0, h4, h5, h2, h3⟩
  · exact .inl h
  · exact .inr ⟨b, o, cap, h1, h0, h4, h2, rowF_lies f b o h3⟩
theorem attrsF_mono {B B' : Nat} (hB : B' ≤ B) {w : World} {v : Value} {l : List (List UInt8 × List UInt8)} (h : AttrsF B w v l) : AttrsF B' w v l := by
  rcases h with h | ⟨b, off, cap, h1, h0, h4, h5, h2, h3⟩
  · exact .inl h
  · exact .inr ⟨b, off, cap, h1, h0, h4, Nat.le_trans hB h5, h2, h3⟩
theorem rowF_mono {B B' : Nat} (hB : B' ≤ B) {w : World} : ∀ (f : Fo) (b o : Nat), RowF B w f b o → RowF B' w f b o
  | .nil, _, _, _ => trivial
  | .cons h ks r, b, o, H => by
    obtain ⟨⟨h0, h1, ⟨va, h2, ha⟩, h3, h4, h5⟩, ⟨v, h6, h7⟩, h8⟩ := H
    refine ⟨⟨h0, h1, ⟨va, h2, attrsF_mono hB ha⟩, h3, h4, h5⟩, ⟨v, h6, ?_⟩, rowF_mono hB r b (o + 7) h8⟩
    rcases h7 with h7 | ⟨b', o', cap, e, e0, e3, eB, e1, e2⟩
    · exact .inl h7
    · exact .inr ⟨b', o', cap, e, e0, e3, Nat.le_trans hB eB, e1, rowF_mono hB ks b' o' e2⟩
theorem liesF_mono {B B' : Nat} (hB : B' ≤ B) {w : World} {v : Value} {f : Fo} (h : LiesF B w v f) : LiesF B' w v f := by
  rcases h with h | ⟨b, o, cap, h1, h0, h4, h5, h2, h3⟩
  · exact .inl h
  · exact .inr ⟨b, o, cap, h1, h0, h4, Nat.le_trans hB h5, h2, rowF_mono hB f b o h3⟩
/-- tree by tree. -/
def TreesF (B : Nat) (w : World) (f : Fo) (b o n : Nat) : Prop :=
  ∀ j h ks, j < n → f.drop j = .cons h ks (f.drop (j + 1)) → HdF B w h b (o + j * 7) ∧ ∃ v, w.cell? ⟨b, o + j * 7 + 6, none⟩ = some v ∧ LiesF B w v ks
theorem rowF_of {B : Nat} {w : World} {b : Nat} : ∀ (f : Fo) (o : Nat), TreesF B w f b o f.len → RowF B w f b o
  | .nil, _, _ => trivial
  | .cons h ks r, o, H => by
    have h0 := H 0 h ks (by simp [Fo.len]) rfl
    simp only [Nat.zero_mul, Nat.add_zero] at h0
    refine ⟨h0.1, h0.2, rowF_of r (o + 7) fun j h' ks' hj e => ?_⟩
    have := H (j + 1) h' ks' (by simp [Fo.len]; omega) e
    rw [show o + (j + 1) * 7 = o + 7 + j * 7 by omega] at this
    exact this
theorem attrsF_form {B : Nat} {w : World} {v : Value} {l : List (List UInt8 × List UInt8)} (h : AttrsF B w v l) : ∃ a cap, v = .slice a l.length cap := attrs_form (attrsF_lies h)
theorem liesF_form {B : Nat} {w : World} {v : Value} {f : Fo} (h : LiesF B w v f) : ∃ a cap, v = .slice a f.len cap := lies_form (liesF_lies h)
theorem attrsF_owned {W : World} {base : Nat} {v : Value} {l : List (List UInt8 × List UInt8)} (h : W.ownsRow base 81 2 v l.length (attrCells l)) (hl : l.length ≤ 4398046510976) : AttrsF base W v l := by
  rcases h.2 with ⟨rfl, h0⟩ | ⟨g, cap, cur, rfl, hb, hg, hn, hcap, hs, ht⟩
  · exact .inl ⟨_, _, rfl, List.eq_nil_of_length_eq_zero h0⟩
  · refine .inr ⟨g, 0, cap, rfl, hn, hl, hb, ?_, fun k hk => ?_⟩
    · rcases Nat.lt_or_ge g W.heap.size with hlt | hge
      · exact hlt
      · rw [Array.getElem?_eq_none hge] at hg; cases hg
    · obtain ⟨e1, e2⟩ := attrCells_at l k hk
      rw [← ht, List.getElem?_take, if_pos (by omega), Array.getElem?_toList] at e1 e2
      rw [Nat.zero_add]
      exact ⟨cell_of_block hg e1, cell_of_block hg e2⟩
/- seven cells of a row are written. -/
theorem set7_row {W : World} {R o : Nat} {C : Array Value} {T : TypeId} (b0 b1 b2 b3 b4 b5 b6 : Value) (h : W.heap[R]? = some (.cells C T (0, 0))) (ho : o + 7 ≤ C.size) :
    ∃ C' : Array Value, (((((((W.setCell ⟨R, o, none⟩ b0).setCell ⟨R, o + 1, none⟩ b1).setCell ⟨R, o + 2, none⟩ b2).setCell ⟨R, o + 3, none⟩ b3).setCell ⟨R, o + 4, none⟩ b4).setCell ⟨R, o + 5, none⟩ b5).setCell ⟨R, o + 6, none⟩ b6).heap[R]? = some (.cells C' T (0, 0)) ∧ C'.size = C.size ∧
      C'[o]? = some b0 ∧ C'[o + 1]? = some b1 ∧ C'[o + 2]? = some b2 ∧ C'[o + 3]? = some b3 ∧ C'[o + 4]? = some b4 ∧ C'[o + 5]? = some b5 ∧ C'[o + 6]? = some b6 ∧ ∀ k, k < o → C'[k]? = C[k]? := by
  refine ⟨_, set_block (set_block (set_block (set_block (set_block (set_block (set_block h)))))), by simp, ?_, ?_, ?_, ?_, ?_, ?_, ?_, ?_⟩
  all_goals first
    | (intro k hk; simp only [Array.getElem?_setIfInBounds, Array.size_setIfInBounds]; rw [if_neg (by omega), if_neg (by omega), if_neg (by omega), if_neg (by omega), if_neg (by omega), if_neg (by omega), if_neg (by omega)])
    | (simp (disch := omega) only [Array.getElem?_setIfInBounds, Array.size_setIfInBounds]; simp; try omega)
theorem set7_keeps {B : Nat} (W : World) {R : Nat} (o0 o1 o2 o3 o4 o5 o6 : Nat) (b0 b1 b2 b3 b4 b5 b6 : Value) (h : R < B) :
    Keeps B W (((((((W.setCell ⟨R, o0, none⟩ b0).setCell ⟨R, o1, none⟩ b1).setCell ⟨R, o2, none⟩ b2).setCell ⟨R, o3, none⟩ b3).setCell ⟨R, o4, none⟩ b4).setCell ⟨R, o5, none⟩ b5).setCell ⟨R, o6, none⟩ b6) :=
  ((((((Keeps.setCell W h _ _).trans (.setCell _ h _ _)).trans (.setCell _ h _ _)).trans (.setCell _ h _ _)).trans (.setCell _ h _ _)).trans (.setCell _ h _ _)).trans (.setCell _ h _ _)
theorem set7_under {W w : World} {R B : Nat} (o0 o1 o2 o3 o4 o5 o6 : Nat) (b0 b1 b2 b3 b4 b5 b6 : Value) (h : Below B w W) (hR : B ≤ R) :
    Below B w (((((((W.setCell ⟨R, o0, none⟩ b0).setCell ⟨R, o1, none⟩ b1).setCell ⟨R, o2, none⟩ b2).setCell ⟨R, o3, none⟩ b3).setCell ⟨R, o4, none⟩ b4).setCell ⟨R, o5, none⟩ b5).setCell ⟨R, o6, none⟩ b6) :=
  ((((((h.setCell hR _).setCell hR _).setCell hR _).setCell hR _).setCell hR _).setCell hR _).setCell hR _

end Go.Proofs.YtcgedpfolloinaaGreat

namespace Go.Proofs.YtcgedpfolloinaaGreat
open Go.RowKit

set_option maxRecDepth 100000 in
set_option maxHeartbeats 1000000 in
theorem cloneAttrs_any (va : Value) (l : List (List UInt8 × List UInt8)) (w : World) (h : AttrsLie w va l) :
    Calls Tryz.prog 145 #[va] w fun e w' => ∃ v', e = .returned v' ∧ AttrsF w.heap.size w' v' l ∧ Below w.heap.size w w' := by
  obtain ⟨i0, hi, hz0, hz1, hz2⟩ := info_parts info_attr
  obtain ⟨a, cap, rfl⟩ := attrs_form h
  have hl : l.length ≤ 4398046510976 := by
    rcases h with ⟨a, cap, _, rfl⟩ | ⟨b, off, cap, _, _, h, _⟩
    · simp
    · exact h
  have H := Lib.hid h
  clear h
  cases a with
  | none =>
    have hl0 : l = [] := by
      rcases H.out with ⟨_, _, h1, h2⟩ | ⟨b, off, cap', h1, _⟩
      · exact h2
      · simp at h1
    subst hl0
    have hnil := fun (w : World) => Lib.run_eql_slice_nil (P := Tryz.prog) w 23 81 none 0 cap 0 0 Tryz.underlying23
    simp only [List.length_nil]
    go_enter Tryz.func145, Tryz.ntmps145
    go_wp2_with fail
    go_ret
    exact ⟨_, rfl, .inl ⟨_, _, rfl, rfl⟩, by ((repeat' (first | exact Below.refl _ _ | assumption | refine Below.setCell ?_ ?_ _ | refine bdrewN ?_ _ | refine Below.drew ?_ | refine Below.alloc ?_ ?_ _ | refine bbehind ?_ (by assumption) ?_)); all_goals first | (simp; done) | (simp; omega) | omega)⟩
  | some ad =>
    have hnil := fun (w : World) => Lib.run_eql_slice_nil (P := Tryz.prog) w 23 81 (some ad) l.length cap 0 0 Tryz.underlying23
    have hnews : ∀ j u, (attrCells l)[j]? = some u → (w.alloc (.cells #[] 81)).cell? (ad.add j) = some u := by
      intro j u hj
      have hjl : j < l.length * 2 := by rw [← attrCells_len]; exact (List.getElem?_eq_some_iff.1 hj).1
      obtain ⟨b, off, cap', hs, _, _, hb, hc⟩ := attrs_row H.out (by omega)
      simp only [Value.slice.injEq, Option.some.injEq] at hs
      obtain ⟨rfl, -, -⟩ := hs
      rw [World.cell?_of_block (w := w) (Below.heap_alloc _ _ _ (by rw [Go.WideShapes.add_plain]; exact hb))]
      obtain ⟨e1, e2⟩ := attrCells_at l (j / 2) (by omega)
      obtain ⟨c1, c2⟩ := hc (j / 2) (by omega)
      rcases Nat.mod_two_eq_zero_or_one j with h | h
      · have ej : j = j / 2 * 2 := by omega
        rw [ej] at hj
        rw [e1] at hj
        rw [show (⟨b, off, none⟩ : Addr).add j = ⟨b, off + j / 2 * 2, none⟩ by rw [Go.WideShapes.add_plain, ← ej], c1]
        exact hj
      · have ej : j = j / 2 * 2 + 1 := by omega
        rw [ej] at hj
        rw [e2] at hj
        rw [show (⟨b, off, none⟩ : Addr).add j = ⟨b, off + j / 2 * 2 + 1, none⟩ by rw [Go.WideShapes.add_plain, Nat.add_assoc, ← ej], c2]
        exact hj
    have hown0 : (w.alloc (.cells #[] 81)).ownsRow w.heap.size 81 2 (.slice (some ⟨w.heap.size, 0, none⟩) 0 0) 0 [] := World.ownsRow_lit w #[] 0 (Nat.le_refl _) (by decide) rfl
    have HN := Lib.hid hnews
    clear hnews
    go_enter Tryz.func145, Tryz.ntmps145
    go_wp2_with (at_builtin; refine wpList_append_own _ rfl _ _ 23 rfl w.heap.size 81 i0 (.agg #[.string ⟨#[]⟩, .string ⟨#[]⟩]) 2 32 Tryz.underlying23 hi hz0 hz1 hz2 rfl (by decide) _ _ _ rfl hown0 ad l.length cap (attrCells l) rfl (attrCells_len l) HN.out ?c1 ?c2 ?c3 ?c4 ?stop)
    case c1 =>
      intro u hu
      unfold attrCells at hu
      simp only [List.mem_flatMap, List.mem_cons, List.not_mem_nil, or_false] at hu
      obtain ⟨q, _, rfl | rfl⟩ := hu <;> rfl
    case c2 => unfold maxLen; omega
    case c3 => omega
    case c4 => simp
    case stop =>
      intro v' w2 hown hgrow _
      have HO := Lib.hid hown
      have HB := Lib.hid ((((Below.refl w.heap.size w).alloc (Nat.le_refl _) _)).grown hgrow (by simp) (fun k hk => by simp [Value.ownBlock] at hk; omega))
      clear hown hgrow
      go_wp2_with fail
      go_ret
      exact ⟨v', rfl, attrsF_owned HO.out hl, HB.out⟩
end Go.Proofs.YtcgedpfolloinaaGreat

namespace Go.Proofs.YtcgedpfolloinaaGreat
open Go.RowKit

/-- what clone gives. -/
def CloneRes (w : World) (f : Fo) (e : Ending) (w' : World) : Prop := ∃ a cap, e = .returned (.slice a f.len cap) ∧ LiesF w.heap.size w' (.slice a f.len cap) f ∧ Below w.heap.size w w'
def CloneTreeRes (w : World) (h : Hd) (ks : Fo) (e : Ending) (w' : World) : Prop :=
  ∃ aa ca ak ck, e = .returned (aggOf h aa ca ak ks.len ck) ∧ AttrsF w.heap.size w' (.slice aa h.ats.length ca) h.ats ∧ LiesF w.heap.size w' (.slice ak ks.len ck) ks ∧ Below w.heap.size w w'

set_option maxRecDepth 100000 in
set_option maxHeartbeats 2000000 in
theorem cloneTree_of (h : Hd) (ks : Fo) (aa : Option Addr) (ca : Nat) (ak : Option Addr) (ck : Nat) (w : World) (ha : AttrsLie w (.slice aa h.ats.length ca) h.ats) (hk : Lies w (.slice ak ks.len ck) ks)
    (HC : ∀ v w, Lies w v ks → Calls Tryz.prog 97 #[v] w (CloneRes w ks)) :
    Calls Tryz.prog 93 #[aggOf h aa ca ak ks.len ck] w (CloneTreeRes w h ks) := by
  have HA := Lib.hid (fun w1 (hw : Below w.heap.size w w1) => cloneAttrs_any _ _ w1 (attrs_below ha hw))
  have HK := Lib.hid (fun w1 (hw : Below w.heap.size w w1) => HC _ w1 (lies_below hk hw))
  clear ha hk HC
  unfold aggOf
  go_enter Tryz.func93, Tryz.ntmps93
  go_wp2_with fail
  obtain ⟨W0, hW0⟩ : ∃ W0, (w.alloc (.cells #[.int .i64 h.k, .string ⟨h.l.toArray⟩, .slice aa h.ats.length ca, .int .i64 h.n, .int .i64 h.d, .string ⟨h.x.toArray⟩, .slice ak ks.len ck] 43)).alloc (.cells #[.int .i64 0, .string ⟨#[]⟩, .slice none 0 0, .int .i64 0, .int .i64 0, .string ⟨#[]⟩, .slice none 0 0] 43) = W0 := ⟨_, rfl⟩
  have hB0 : Below w.heap.size w W0 := by rw [← hW0]; exact ((Below.refl _ _).alloc (Nat.le_refl _) _).alloc (by simp) _
  have hs0 : W0.heap.size = w.heap.size + 1 + 1 := by rw [← hW0]; simp
  have k1 : W0.heap[w.heap.size]? = some (.cells #[.int .i64 h.k, .string ⟨h.l.toArray⟩, .slice aa h.ats.length ca, .int .i64 h.n, .int .i64 h.d, .string ⟨h.x.toArray⟩, .slice ak ks.len ck] 43 (0, 0)) := by
    rw [← hW0]; exact (Below.heap_alloc _ _ _ (by simp)).trans (World.alloc_heap_new _ _)
  have k2 : W0.heap[w.heap.size + 1]? = some (.cells #[.int .i64 0, .string ⟨#[]⟩, .slice none 0 0, .int .i64 0, .int .i64 0, .string ⟨#[]⟩, .slice none 0 0] 43 (0, 0)) := by
    rw [← hW0]; have := World.alloc_heap_new (w.alloc (.cells #[.int .i64 h.k, .string ⟨h.l.toArray⟩, .slice aa h.ats.length ca, .int .i64 h.n, .int .i64 h.d, .string ⟨h.x.toArray⟩, .slice ak ks.len ck] 43)) (.cells #[.int .i64 0, .string ⟨#[]⟩, .slice none 0 0, .int .i64 0, .int .i64 0, .string ⟨#[]⟩, .slice none 0 0] 43); simpa using this
  rw [hW0]
  refine (HA.out W0 hB0).mono ?_
  rintro e w1 ⟨v1, rfl, hv1, hb1⟩
  obtain ⟨aa1, ca1, rfl⟩ := attrsF_form hv1
  have hs1 := hb1.size
  have B1 := Lib.hid (hB0.trans (hb1.mono hB0.size))
  have A1 := Lib.hid (attrsF_mono (B' := w.heap.size + 1 + 1) (by omega) hv1)
  have j1 := (hb1.block w.heap.size (by omega)).trans k1
  have j2 := (hb1.block (w.heap.size + 1) (by omega)).trans k2
  clear k1 k2 hW0 hv1 hb1
  have c1 : ∃ z, w1.cell? ⟨w.heap.size, 2, none⟩ = some z := ⟨_, cell_of_block j1 rfl⟩
  obtain ⟨z, c1⟩ := c1
  have f1 := frozen_of_block (o := 2) j1
  have d6 : w1.cell? ⟨w.heap.size, 6, none⟩ = some (.slice ak ks.len ck) := cell_of_block j1 rfl
  have J1 := Lib.hid j1
  have J2 := Lib.hid j2
  clear j1 j2
  go_wp2_with fail
  have B2 : Below w.heap.size w (w1.setCell ⟨w.heap.size, 2, none⟩ (.slice aa1 h.ats.length ca1)) := B1.out.setCell (Nat.le_refl _) _
  have hs2 : (w1.setCell ⟨w.heap.size, 2, none⟩ (.slice aa1 h.ats.length ca1)).heap.size = w1.heap.size := set_size'
  have k1 : (w1.setCell ⟨w.heap.size, 2, none⟩ (.slice aa1 h.ats.length ca1)).heap[w.heap.size]? = some (.cells #[.int .i64 h.k, .string ⟨h.l.toArray⟩, .slice aa1 h.ats.length ca1, .int .i64 h.n, .int .i64 h.d, .string ⟨h.x.toArray⟩, .slice ak ks.len ck] 43 (0, 0)) := set_block J1.out
  have k2 : (w1.setCell ⟨w.heap.size, 2, none⟩ (.slice aa1 h.ats.length ca1)).heap[w.heap.size + 1]? = some (.cells #[.int .i64 0, .string ⟨#[]⟩, .slice none 0 0, .int .i64 0, .int .i64 0, .string ⟨#[]⟩, .slice none 0 0] 43 (0, 0)) := (set_far (by omega)).trans J2.out
  have A2 : AttrsF (w.heap.size + 1 + 1) (w1.setCell ⟨w.heap.size, 2, none⟩ (.slice aa1 h.ats.length ca1)) (.slice aa1 h.ats.length ca1) h.ats := attrsF_keeps A1.out (Keeps.setCell _ (by omega) _ _)
  generalize w1.setCell ⟨w.heap.size, 2, none⟩ (.slice aa1 h.ats.length ca1) = W2 at *
  clear A1 J1 J2 c1 f1 d6 B1
  refine (HK.out W2 B2).mono ?_
  rintro e w2 ⟨ak2, ck2, rfl, hk2, hb2⟩
  have hs3 := hb2.size
  have B3 := Lib.hid (B2.trans (hb2.mono (by omega)))
  have A3 := Lib.hid (attrsF_keeps A2 (Keeps.of_below hb2))
  have L3 := Lib.hid (liesF_mono (B' := w.heap.size + 1 + 1) (by omega) hk2)
  have j1 := (hb2.block w.heap.size (by omega)).trans k1
  have j2 := (hb2.block (w.heap.size + 1) (by omega)).trans k2
  clear k1 k2 A2 hk2 hb2 B2
  have d0 : w2.cell? ⟨w.heap.size, 0, none⟩ = some (.int .i64 h.k) := cell_of_block j1 rfl
  have d1 : w2.cell? ⟨w.heap.size, 1, none⟩ = some (.string ⟨h.l.toArray⟩) := cell_of_block j1 rfl
  have d2 : w2.cell? ⟨w.heap.size, 2, none⟩ = some (.slice aa1 h.ats.length ca1) := cell_of_block j1 rfl
  have d3 : w2.cell? ⟨w.heap.size, 3, none⟩ = some (.int .i64 h.n) := cell_of_block j1 rfl
  have d4 : w2.cell? ⟨w.heap.size, 4, none⟩ = some (.int .i64 h.d) := cell_of_block j1 rfl
  have d5 : w2.cell? ⟨w.heap.size, 5, none⟩ = some (.string ⟨h.x.toArray⟩) := cell_of_block j1 rfl
  have d6 : w2.cell? ⟨w.heap.size, 6, none⟩ = some (.slice ak ks.len ck) := cell_of_block j1 rfl
  have e6 := frozen_of_block (o := 6) j1
  have y0 : w2.cell? ⟨w.heap.size + 1, 0, none⟩ = some (.int .i64 0) := cell_of_block j2 rfl
  have y1 : w2.cell? ⟨w.heap.size + 1, 1, none⟩ = some (.string ⟨#[]⟩) := cell_of_block j2 rfl
  have y2 : w2.cell? ⟨w.heap.size + 1, 2, none⟩ = some (.slice none 0 0) := cell_of_block j2 rfl
  have y3 : w2.cell? ⟨w.heap.size + 1, 3, none⟩ = some (.int .i64 0) := cell_of_block j2 rfl
  have y4 : w2.cell? ⟨w.heap.size + 1, 4, none⟩ = some (.int .i64 0) := cell_of_block j2 rfl
  have y5 : w2.cell? ⟨w.heap.size + 1, 5, none⟩ = some (.string ⟨#[]⟩) := cell_of_block j2 rfl
  have y6 : w2.cell? ⟨w.heap.size + 1, 6, none⟩ = some (.slice none 0 0) := cell_of_block j2 rfl
  have z0 := frozen_of_block (o := 0) j2
  have z1 := frozen_of_block (o := 1) j2
  have z2 := frozen_of_block (o := 2) j2
  have z3 := frozen_of_block (o := 3) j2
  have z4 := frozen_of_block (o := 4) j2
  have z5 := frozen_of_block (o := 5) j2
  have z6 := frozen_of_block (o := 6) j2
  have J2 := Lib.hid j2
  clear j1 j2
  go_wp2_with fail
  have hfar : (w2.setCell ⟨w.heap.size, 6, none⟩ (.slice ak2 ks.len ck2)).heap[w.heap.size + 1]? = _ := (set_far (by omega)).trans J2.out
  have hfin := set7_blk (.int .i64 h.k) (.string ⟨h.l.toArray⟩) (.slice aa1 h.ats.length ca1) (.int .i64 h.n) (.int .i64 h.d) (.string ⟨h.x.toArray⟩) (.slice ak2 ks.len ck2) hfar
  have hkeep := (Keeps.setCell (B := w.heap.size + 1 + 1) w2 (b := w.heap.size) (by omega) 6 (.slice ak2 ks.len ck2)).trans (set7_keeps (R := w.heap.size + 1) _ 0 1 2 3 4 5 6 (.int .i64 h.k) (.string ⟨h.l.toArray⟩) (.slice aa1 h.ats.length ca1) (.int .i64 h.n) (.int .i64 h.d) (.string ⟨h.x.toArray⟩) (.slice ak2 ks.len ck2) (by omega))
  have hbel := set7_under (R := w.heap.size + 1) 0 1 2 3 4 5 6 (.int .i64 h.k) (.string ⟨h.l.toArray⟩) (.slice aa1 h.ats.length ca1) (.int .i64 h.n) (.int .i64 h.d) (.string ⟨h.x.toArray⟩) (.slice ak2 ks.len ck2) (B3.out.setCell (p := ⟨w.heap.size, 6, none⟩) (Nat.le_refl _) (.slice ak2 ks.len ck2)) (by omega)
  generalize ((((((((w2.setCell ⟨w.heap.size, 6, none⟩ (.slice ak2 ks.len ck2)).setCell ⟨w.heap.size + 1, 0, none⟩ (.int .i64 h.k)).setCell ⟨w.heap.size + 1, 1, none⟩ (.string ⟨h.l.toArray⟩)).setCell ⟨w.heap.size + 1, 2, none⟩ (.slice aa1 h.ats.length ca1)).setCell ⟨w.heap.size + 1, 3, none⟩ (.int .i64 h.n)).setCell ⟨w.heap.size + 1, 4, none⟩ (.int .i64 h.d)).setCell ⟨w.heap.size + 1, 5, none⟩ (.string ⟨h.x.toArray⟩)).setCell ⟨w.heap.size + 1, 6, none⟩ (.slice ak2 ks.len ck2)) = Wf at hfin hkeep hbel ⊢
  have u0 : Wf.cell? ⟨w.heap.size + 1, 0, none⟩ = some (.int .i64 h.k) := cell_of_block hfin rfl
  have u1 : Wf.cell? ⟨w.heap.size + 1, 1, none⟩ = some (.string ⟨h.l.toArray⟩) := cell_of_block hfin rfl
  have u2 : Wf.cell? ⟨w.heap.size + 1, 2, none⟩ = some (.slice aa1 h.ats.length ca1) := cell_of_block hfin rfl
  have u3 : Wf.cell? ⟨w.heap.size + 1, 3, none⟩ = some (.int .i64 h.n) := cell_of_block hfin rfl
  have u4 : Wf.cell? ⟨w.heap.size + 1, 4, none⟩ = some (.int .i64 h.d) := cell_of_block hfin rfl
  have u5 : Wf.cell? ⟨w.heap.size + 1, 5, none⟩ = some (.string ⟨h.x.toArray⟩) := cell_of_block hfin rfl
  have u6 : Wf.cell? ⟨w.heap.size + 1, 6, none⟩ = some (.slice ak2 ks.len ck2) := cell_of_block hfin rfl
  refine bodyPost_ret (v := aggOf h aa1 ca1 ak2 ks.len ck2) (by simp [results, Tryz.results93, go_sem, aggOf, u0, u1, u2, u3, u4, u5, u6]) rfl ?_
  exact ⟨aa1, ca1, ak2, ck2, rfl, attrsF_mono (by omega) (attrsF_keeps A3.out hkeep), liesF_mono (by omega) (liesF_keeps L3.out hkeep), hbel⟩
end Go.Proofs.YtcgedpfolloinaaGreat

namespace Go.Proofs.YtcgedpfolloinaaGreat
open Go.RowKit

theorem info_tree : (Tryz.prog.info? 43).map (fun i => (i.zero, i.size, i.bytes)) = some (some (.agg #[.int .i64 0, .string ⟨#[]⟩, .slice none 0 0, .int .i64 0, .int .i64 0, .string ⟨#[]⟩, .slice none 0 0]), 7, 104) := by kernel_rfl

theorem treesF_more {B R : Nat} {wr W : World} {f : Fo} {k : Nat} {h : Hd} {ks : Fo} (HTR : TreesF B wr f R 0 k) (hE : f.drop k = .cons h ks (f.drop (k + 1)))
    (hcc : ∀ o, o < k * 7 → W.cell? ⟨R, o, none⟩ = wr.cell? ⟨R, o, none⟩) (hK : Keeps B wr W) (hH : HdF B W h R (k * 7)) (hv : ∃ v, W.cell? ⟨R, k * 7 + 6, none⟩ = some v ∧ LiesF B W v ks) : TreesF B W f R 0 (k + 1) := by
  intro j h' ks' hj e
  rcases Nat.lt_or_ge j k with hlt | hge
  · obtain ⟨⟨h0, h1, ⟨va, h2, ha⟩, h3, h4, h5⟩, v, h6, hv'⟩ := HTR j h' ks' hlt e
    exact ⟨⟨(hcc _ (by omega)).trans h0, (hcc _ (by omega)).trans h1, ⟨va, (hcc _ (by omega)).trans h2, attrsF_keeps ha hK⟩, (hcc _ (by omega)).trans h3, (hcc _ (by omega)).trans h4, (hcc _ (by omega)).trans h5⟩, v, (hcc _ (by omega)).trans h6, liesF_keeps hv' hK⟩
  · obtain rfl : j = k := by omega
    rw [hE] at e
    cases e
    rw [Nat.zero_add]
    exact ⟨hH, hv⟩

set_option maxRecDepth 100000 in
set_option maxHeartbeats 2000000 in
theorem clone_of (f : Fo) (v : Value) (w : World) (hl : Lies w v f)
    (HT : ∀ h ks, (∃ j, j < f.len ∧ f.drop j = .cons h ks (f.drop (j + 1))) → ∀ aa ca ak ck w, AttrsLie w (.slice aa h.ats.length ca) h.ats → Lies w (.slice ak ks.len ck) ks → Calls Tryz.prog 93 #[aggOf h aa ca ak ks.len ck] w (CloneTreeRes w h ks)) :
    Calls Tryz.prog 97 #[v] w (CloneRes w f) := by
  obtain ⟨i0, hi, hz0, hz1, hz2⟩ := info_parts info_tree
  have hlen := lies_len hl
  by_cases h0 : f.len = 0
  · obtain rfl := Fo.len_nil h0
    obtain ⟨a, cap, rfl⟩ := lies_form hl
    clear hl HT
    simp only [Fo.len]
    go_enter Tryz.func97, Tryz.ntmps97
    go_wp2_with fail
    go_ret
    exact ⟨none, 0, rfl, .inl ⟨_, _, rfl, rfl⟩, by ((repeat' (first | exact Below.refl _ _ | assumption | refine Below.setCell ?_ ?_ _ | refine bdrewN ?_ _ | refine Below.drew ?_ | refine Below.alloc ?_ ?_ _ | refine bbehind ?_ (by assumption) ?_)); all_goals first | (simp; done) | (simp; omega) | omega)⟩
  · obtain ⟨b, o, cap, rfl, hcap, -, hb, hrow⟩ := lies_row hl (by omega)
    have dn : ((f.len : Int) == 0) = false := by simpa using h0
    have hmk : ∀ W : World, (Instr.makeSlice 28 (.int .i64 (f.len : Int)) (.int .i64 (f.len : Int))).run Tryz.prog W = .ok (.slice (some ⟨W.heap.size, 0, none⟩) f.len f.len) (W.alloc (.cells (madeCells (Value.cells (.agg #[.int .i64 0, .string ⟨#[]⟩, .slice none 0 0, .int .i64 0, .int .i64 0, .string ⟨#[]⟩, .slice none 0 0])) (f.len * 7)) 43)) := by
      intro W
      have := run_make (P := Tryz.prog) W 28 43 i0 _ Tryz.underlying28 hi hz0 .i64 .i64 (f.len : Int) (f.len : Int) (by omega) (Int.le_refl _) (by rw [hz2]; omega) (by omega)
      rw [hz1] at this
      simpa using this
    have HROW := Lib.hid hrow
    have HT' := Lib.hid HT
    clear hl hrow HT hi hz0 hz1 hz2
    have hsz : (madeCells (Value.cells (.agg #[.int .i64 0, .string ⟨#[]⟩, .slice none 0 0, .int .i64 0, .int .i64 0, .string ⟨#[]⟩, .slice none 0 0])) (f.len * 7)).size = f.len * 7 := size_madeCells _ _
    generalize madeCells (Value.cells (.agg #[.int .i64 0, .string ⟨#[]⟩, .slice none 0 0, .int .i64 0, .int .i64 0, .string ⟨#[]⟩, .slice none 0 0])) (f.len * 7) = C0 at *
    go_enter Tryz.func97, Tryz.ntmps97
    go_wp2_with fail
    go_loopw [14] (fun i wr => ∃ (k : Nat) (C : Array Value), i = .int .i64 k ∧ k ≤ f.len ∧ wr.heap[w.heap.size]? = some (.cells C 43 (0, 0)) ∧ C.size = f.len * 7 ∧ TreesF (w.heap.size + 1) wr f w.heap.size 0 k ∧ w.heap.size < wr.heap.size ∧ Below w.heap.size w wr) (fun i _ => f.len - (intOf i).toNat)
    case atStart =>
      exact ⟨0, C0, rfl, Nat.zero_le _, World.alloc_heap_new _ _, hsz, fun j _ _ hj => absurd hj (by omega), by simp, by ((repeat' (first | exact Below.refl _ _ | assumption | refine Below.setCell ?_ ?_ _ | refine bdrewN ?_ _ | refine Below.drew ?_ | refine Below.alloc ?_ ?_ _ | refine bbehind ?_ (by assumption) ?_)); all_goals first | (simp; done) | (simp; omega) | omega)⟩
    case round =>
      obtain ⟨k, C, rfl, hk, hblk, hC, hT, hsw, hbw⟩ := hrel
      have HBLK := Lib.hid hblk
      have HTR := Lib.hid hT
      clear hblk hT hsz hmk
      by_cases hlt : k < f.len
      · have dk : decide (k < f.len) = true := by simpa using hlt
        obtain ⟨hd, ks, e, ⟨q0, q1, ⟨va, q2, ha'⟩, q3, q4, q5⟩, vk, q6, hlk⟩ := row_get HROW.out hlt
        obtain ⟨aa, ca, rfl⟩ := attrs_form ha'
        obtain ⟨ak, ck, rfl⟩ := lies_form hlk
        have r0 := (hbw.cell (p := ⟨b, o + k * 7, none⟩) hb).trans q0
        have r1 := (hbw.cell (p := ⟨b, o + k * 7 + 1, none⟩) hb).trans q1
        have r2 := (hbw.cell (p := ⟨b, o + k * 7 + 2, none⟩) hb).trans q2
        have r3 := (hbw.cell (p := ⟨b, o + k * 7 + 3, none⟩) hb).trans q3
        have r4 := (hbw.cell (p := ⟨b, o + k * 7 + 4, none⟩) hb).trans q4
        have r5 := (hbw.cell (p := ⟨b, o + k * 7 + 5, none⟩) hb).trans q5
        have r6 := (hbw.cell (p := ⟨b, o + k * 7 + 6, none⟩) hb).trans q6
        have hbr : b < wr.heap.size := by omega
        have nb2 : ¬ b = w.heap.size := by omega
        have nb3 : ¬ w.heap.size = b := by omega
        have HCT := Lib.hid (fun W (hW : Below w.heap.size w W) => HT'.out hd ks ⟨k, hlt, e⟩ aa ca ak ck W (attrs_below ha' hW) (lies_below hlk hW))
        have HE := Lib.hid e
        clear q0 q1 q2 q3 q4 q5 q6 ha' hlk e
        go_wp2_with fail
        obtain ⟨W1, hW1⟩ : ∃ W1, wr.alloc (.cells #[.int .i64 hd.k, .string ⟨hd.l.toArray⟩, .slice aa hd.ats.length ca, .int .i64 hd.n, .int .i64 hd.d, .string ⟨hd.x.toArray⟩, .slice ak ks.len ck] 43) = W1 := ⟨_, rfl⟩
        have hbW : Below w.heap.size w W1 := by rw [← hW1]; exact hbw.alloc (by omega) _
        have hz1 : W1.heap.size = wr.heap.size + 1 := by rw [← hW1]; simp
        have hbx : Below wr.heap.size wr W1 := by rw [← hW1]; exact (Below.refl _ _).alloc (Nat.le_refl _) _
        rw [hW1]
        clear hW1
        refine (HCT.out W1 hbW).mono ?_
        rintro e w1 ⟨aa', ca', ak', ck', rfl, hA, hL, hb1⟩
        unfold aggOf
        have hs1 := hb1.size
        have hbl := ((hbx.trans (hb1.mono hbx.size)).block w.heap.size hsw).trans HBLK.out
        have HK1 := Lib.hid (Keeps.of_below (B := w.heap.size + 1) (hbx.trans (hb1.mono hbx.size)))
        have HBEL := Lib.hid (hbW.trans (hb1.mono hbW.size))
        have HA := Lib.hid (attrsF_mono (B' := w.heap.size + 1) (by omega) hA)
        have HL := Lib.hid (liesF_mono (B' := w.heap.size + 1) (by omega) hL)
        clear hA hL hb1 hbx hbW hbw r0 r1 r2 r3 r4 r5 r6 nb2 nb3
        obtain ⟨y0, hy0⟩ : ∃ y, w1.cell? ⟨w.heap.size, k * 7, none⟩ = some y := ⟨_, cell_of_block hbl (Array.getElem?_eq_getElem (by omega))⟩
        have fy0 := frozen_of_block (o := k * 7) hbl
        obtain ⟨y1, hy1⟩ : ∃ y, w1.cell? ⟨w.heap.size, k * 7 + 1, none⟩ = some y := ⟨_, cell_of_block hbl (Array.getElem?_eq_getElem (by omega))⟩
        have fy1 := frozen_of_block (o := k * 7 + 1) hbl
        obtain ⟨y2, hy2⟩ : ∃ y, w1.cell? ⟨w.heap.size, k * 7 + 2, none⟩ = some y := ⟨_, cell_of_block hbl (Array.getElem?_eq_getElem (by omega))⟩
        have fy2 := frozen_of_block (o := k * 7 + 2) hbl
        obtain ⟨y3, hy3⟩ : ∃ y, w1.cell? ⟨w.heap.size, k * 7 + 3, none⟩ = some y := ⟨_, cell_of_block hbl (Array.getElem?_eq_getElem (by omega))⟩
        have fy3 := frozen_of_block (o := k * 7 + 3) hbl
        obtain ⟨y4, hy4⟩ : ∃ y, w1.cell? ⟨w.heap.size, k * 7 + 4, none⟩ = some y := ⟨_, cell_of_block hbl (Array.getElem?_eq_getElem (by omega))⟩
        have fy4 := frozen_of_block (o := k * 7 + 4) hbl
        obtain ⟨y5, hy5⟩ : ∃ y, w1.cell? ⟨w.heap.size, k * 7 + 5, none⟩ = some y := ⟨_, cell_of_block hbl (Array.getElem?_eq_getElem (by omega))⟩
        have fy5 := frozen_of_block (o := k * 7 + 5) hbl
        obtain ⟨y6, hy6⟩ : ∃ y, w1.cell? ⟨w.heap.size, k * 7 + 6, none⟩ = some y := ⟨_, cell_of_block hbl (Array.getElem?_eq_getElem (by omega))⟩
        have fy6 := frozen_of_block (o := k * 7 + 6) hbl
        have HBL := Lib.hid hbl
        clear hbl
        go_wp2_with fail
        obtain ⟨C', hset, hC', e0, e1, e2, e3, e4, e5, e6, elow⟩ := set7_row (o := k * 7) (.int .i64 hd.k) (.string ⟨hd.l.toArray⟩) (.slice aa' hd.ats.length ca') (.int .i64 hd.n) (.int .i64 hd.d) (.string ⟨hd.x.toArray⟩) (.slice ak' ks.len ck') HBL.out (by omega)
        have hkeep := HK1.out.trans (set7_keeps (R := w.heap.size) (B := w.heap.size + 1) w1 (k * 7) (k * 7 + 1) (k * 7 + 2) (k * 7 + 3) (k * 7 + 4) (k * 7 + 5) (k * 7 + 6) (.int .i64 hd.k) (.string ⟨hd.l.toArray⟩) (.slice aa' hd.ats.length ca') (.int .i64 hd.n) (.int .i64 hd.d) (.string ⟨hd.x.toArray⟩) (.slice ak' ks.len ck') (by omega))
        have hkeep1 := set7_keeps (R := w.heap.size) (B := w.heap.size + 1) w1 (k * 7) (k * 7 + 1) (k * 7 + 2) (k * 7 + 3) (k * 7 + 4) (k * 7 + 5) (k * 7 + 6) (.int .i64 hd.k) (.string ⟨hd.l.toArray⟩) (.slice aa' hd.ats.length ca') (.int .i64 hd.n) (.int .i64 hd.d) (.string ⟨hd.x.toArray⟩) (.slice ak' ks.len ck') (by omega)
        have hbel := set7_under (R := w.heap.size) (k * 7) (k * 7 + 1) (k * 7 + 2) (k * 7 + 3) (k * 7 + 4) (k * 7 + 5) (k * 7 + 6) (.int .i64 hd.k) (.string ⟨hd.l.toArray⟩) (.slice aa' hd.ats.length ca') (.int .i64 hd.n) (.int .i64 hd.d) (.string ⟨hd.x.toArray⟩) (.slice ak' ks.len ck') HBEL.out (Nat.le_refl _)
        generalize (((((((w1.setCell ⟨w.heap.size, k * 7, none⟩ (.int .i64 hd.k)).setCell ⟨w.heap.size, k * 7 + 1, none⟩ (.string ⟨hd.l.toArray⟩)).setCell ⟨w.heap.size, k * 7 + 2, none⟩ (.slice aa' hd.ats.length ca')).setCell ⟨w.heap.size, k * 7 + 3, none⟩ (.int .i64 hd.n)).setCell ⟨w.heap.size, k * 7 + 4, none⟩ (.int .i64 hd.d)).setCell ⟨w.heap.size, k * 7 + 5, none⟩ (.string ⟨hd.x.toArray⟩)).setCell ⟨w.heap.size, k * 7 + 6, none⟩ (.slice ak' ks.len ck')) = Wf at hset hkeep hkeep1 hbel ⊢
        have hcc : ∀ o, o < k * 7 → Wf.cell? ⟨w.heap.size, o, none⟩ = wr.cell? ⟨w.heap.size, o, none⟩ := by
          intro o ho
          unfold World.cell?
          simp only [hset, HBLK.out]
          exact elow o ho
        have hszf := hkeep.1
        refine ⟨⟨k + 1, C', by go_num, by omega, hset, by omega, treesF_more HTR.out HE.out hcc hkeep ⟨cell_of_block hset e0, cell_of_block hset e1, ⟨_, cell_of_block hset e2, attrsF_keeps HA.out hkeep1⟩, cell_of_block hset e3, cell_of_block hset e4, cell_of_block hset e5⟩ ⟨_, cell_of_block hset e6, liesF_keeps HL.out hkeep1⟩, by omega, hbel⟩, ?_⟩
        simp [intOf]; omega
      · have dk : decide (k < f.len) = false := by simpa using hlt
        obtain rfl : k = f.len := by omega
        go_wp2_with fail
        go_ret
        exact ⟨some ⟨w.heap.size, 0, none⟩, f.len, rfl, .inr ⟨w.heap.size, 0, f.len, rfl, Nat.le_refl _, hlen, Nat.le_refl _, hsw, rowF_mono (by omega) f _ _ (rowF_of f 0 HTR.out)⟩, hbw⟩

/-- clone gives the forest in memory of its own. -/
theorem clone_any : ∀ (N : Nat) (f : Fo), f.size ≤ N → ∀ (v : Value) (w : World), Lies w v f → Calls Tryz.prog 97 #[v] w (CloneRes w f) := by
  intro N
  induction N with
  | zero =>
    intro f hf v w hl
    exact clone_of f v w hl (fun h ks ⟨j, hj, _⟩ => by have := Fo.len_le_size f; omega)
  | succ N ih =>
    intro f hf v w hl
    refine clone_of f v w hl (fun h ks ⟨j, hj, e⟩ aa ca ak ck w ha hk => cloneTree_of h ks aa ca ak ck w ha hk (fun v w hl => ih ks ?_ v w hl))
    have := Fo.size_app (f.take j) (f.drop j)
    rw [Fo.take_app_drop, e] at this
    simp only [Fo.size] at this
    omega
theorem cloneTree_any (h : Hd) (ks : Fo) (aa : Option Addr) (ca : Nat) (ak : Option Addr) (ck : Nat) (w : World) (ha : AttrsLie w (.slice aa h.ats.length ca) h.ats) (hk : Lies w (.slice ak ks.len ck) ks) :
    Calls Tryz.prog 93 #[aggOf h aa ca ak ks.len ck] w (CloneTreeRes w h ks) :=
  cloneTree_of h ks aa ca ak ck w ha hk (fun v w hl => clone_any ks.size ks (Nat.le_refl _) v w hl)
end Go.Proofs.YtcgedpfolloinaaGreat

namespace Go.Proofs.YtcgedpfolloinaaGreat
open Go.RowKit

def cmpL : List Int → List Int → Int
  | [], [] => 0
  | [], _ :: _ => -1
  | _ :: _, [] => 1
  | a :: s, b :: t => if cmpM a b ≠ 0 then cmpM a b else cmpL s t
theorem cmpL_step {l m : List Int} {k : Nat} (hl : k < l.length) (hm : k < m.length) : cmpL (l.drop k) (m.drop k) = if cmpM (l.getD k 0) (m.getD k 0) ≠ 0 then cmpM (l.getD k 0) (m.getD k 0) else cmpL (l.drop (k + 1)) (m.drop (k + 1)) := by
  rw [List.drop_eq_getElem_cons hl, List.drop_eq_getElem_cons hm, cmpL]
  simp only [List.getD_eq_getElem?_getD, List.getElem?_eq_getElem hl, List.getElem?_eq_getElem hm, Option.getD_some]
theorem cmpL_one {l m : List Int} {k : Nat} (hl : k < l.length) (hm : m.length ≤ k) : cmpL (l.drop k) (m.drop k) = 1 := by
  rw [List.drop_eq_getElem_cons hl, List.drop_of_length_le hm, cmpL]
theorem cmpL_neg {l m : List Int} {k : Nat} (hl : l.length ≤ k) (hm : k < m.length) : cmpL (l.drop k) (m.drop k) = -1 := by
  rw [List.drop_eq_getElem_cons hm, List.drop_of_length_le hl, cmpL]
theorem cmpL_nil {l m : List Int} {k : Nat} (hl : l.length ≤ k) (hm : m.length ≤ k) : cmpL (l.drop k) (m.drop k) = 0 := by
  rw [List.drop_of_length_le hm, List.drop_of_length_le hl, cmpL]

set_option maxRecDepth 100000 in
set_option maxHeartbeats 2000000 in
theorem compareInts_any (l m : List Int) (v u : Value) (w : World) (h1 : IntsLie w v l) (h2 : IntsLie w u m) (hl : l.length ≤ 1000000) (hm : m.length ≤ 1000000) :
    Calls Tryz.prog 101 #[v, u] w fun e w' => e = .returned (.int .i64 (cmpL l m)) ∧ w = w' := by
  obtain ⟨a1, c1, rfl⟩ := ints_form h1
  obtain ⟨a2, c2, rfl⟩ := ints_form h2
  have H1 := Lib.hid h1
  have H2 := Lib.hid h2
  clear h1 h2
  go_enter Tryz.func101, Tryz.ntmps101
  go_wp2_with fail
  go_loop [11] (fun i => ∃ k : Nat, i = .int .i64 k ∧ k ≤ l.length ∧ k ≤ m.length ∧ cmpL l m = cmpL (l.drop k) (m.drop k)) (fun i => l.length - (intOf i).toNat)
  case atStart => exact ⟨0, rfl, Nat.zero_le _, Nat.zero_le _, rfl⟩
  case round =>
    obtain ⟨k, rfl, hk, hk2, he⟩ := hrel
    have HE := Lib.hid he
    clear he
    by_cases hlt : k < l.length
    · by_cases hlt2 : k < m.length
      · have d2 : decide (m.length ≤ k) = false := decide_eq_false (by omega)
        obtain ⟨b, off, cap', hs, hcap, hb, hc⟩ := ints_cells H1.out (by intro e; subst e; simp at hlt)
        simp only [Value.slice.injEq] at hs
        obtain ⟨rfl, -, rfl⟩ := hs
        obtain ⟨b', off', cap'', hs, hcap', hb', hc'⟩ := ints_cells H2.out (by intro e; subst e; simp at hlt2)
        simp only [Value.slice.injEq] at hs
        obtain ⟨rfl, -, rfl⟩ := hs
        have q1 := hc k hlt
        have q2 := hc' k hlt2
        have HS := Lib.hid (HE.out.trans (cmpL_step hlt hlt2))
        clear hc hc'
        generalize l.getD k 0 = x at *
        generalize m.getD k 0 = y at *
        have CM := Lib.hid (compare_any x y w)
        generalize cmpM x y = c at *
        by_cases hx : c = 0
        · have HX := Lib.hid (HS.out.trans (if_neg (by simpa using hx)))
          have b0 : (c != 0) = false := by simpa using hx
          clear hx
          go_wp2_with fail
          refine CM.out.mono ?_; rintro e w' ⟨rfl, rfl⟩
          go_wp2_with fail
          go_round
          case rel => exact ⟨k + 1, by go_num, by omega, by omega, HX.out⟩
          case measure => simp [intOf]; omega
        · have HX := Lib.hid (HS.out.trans (if_pos (by simpa using hx)))
          have b0 : (c != 0) = true := by simpa using hx
          clear hx
          go_wp2_with fail
          refine CM.out.mono ?_; rintro e w' ⟨rfl, rfl⟩
          go_wp2_with fail
          go_ret
          exact ⟨ret_int' HX.out.symm, rfl⟩
      · have d2 : decide (m.length ≤ k) = true := decide_eq_true (by omega)
        have HX := Lib.hid (HE.out.trans (cmpL_one hlt (by omega)))
        obtain ⟨b, off, cap', hs, hcap, hb, hc⟩ := ints_cells H1.out (by intro e; subst e; simp at hlt)
        simp only [Value.slice.injEq] at hs
        obtain ⟨rfl, -, rfl⟩ := hs
        have q1 := hc k hlt
        clear hc
        go_wp2_with fail
        go_ret
        exact ⟨ret_int' HX.out.symm, rfl⟩
    · by_cases hlt2 : k < m.length
      · have HX := Lib.hid (HE.out.trans (cmpL_neg (by omega) hlt2))
        have d2 : decide (l.length < m.length) = true := decide_eq_true (by omega)
        go_wp2_with fail
        go_ret
        exact ⟨ret_int' HX.out.symm, rfl⟩
      · have HX := Lib.hid (HE.out.trans (cmpL_nil (by omega) (by omega)))
        have d2 : decide (l.length < m.length) = false := decide_eq_false (by omega)
        go_wp2_with fail
        go_ret
        exact ⟨ret_int' HX.out.symm, rfl⟩

theorem info_int2 : (Tryz.prog.info? 3).map (fun i => (i.zero, i.size, i.bytes)) = some (some (.int .i64 0), 1, 8) := by kernel_rfl
/-- ints in no block below B. -/
def IntsF (B : Nat) (w : World) (v : Value) (l : List Int) : Prop :=
  (∃ a cap, v = .slice a 0 cap ∧ l = []) ∨ ∃ b off cap, v = .slice (some ⟨b, off, none⟩) l.length cap ∧ l.length ≤ cap ∧ B ≤ b ∧ b < w.heap.size ∧ ∀ k, k < l.length → w.cell? ⟨b, off + k, none⟩ = some (.int .i64 (l.getD k 0))
theorem intsF_lies {B : Nat} {w : World} {v : Value} {l : List Int} (h : IntsF B w v l) : IntsLie w v l := by
  rcases h with h | ⟨b, off, cap, h1, h2, h3, h4, h5⟩
  · exact .inl h
  · exact .inr ⟨b, off, cap, h1, h2, h4, h5⟩
theorem intsF_keeps {B : Nat} {w w' : World} {v : Value} {l : List Int} (h : IntsF B w v l) (k : Keeps B w w') : IntsF B w' v l := by
  rcases h with h | ⟨b, off, cap, h1, h2, h3, h4, h5⟩
  · exact .inl h
  · exact .inr ⟨b, off, cap, h1, h2, h3, Nat.lt_of_lt_of_le h4 k.1, fun i hi => (k.2 _ _ h3 h4).trans (h5 i hi)⟩
theorem intsF_form {B : Nat} {w : World} {v : Value} {l : List Int} (h : IntsF B w v l) : ∃ a cap, v = .slice a l.length cap := ints_form (intsF_lies h)
theorem intsF_owned {W : World} {base : Nat} {v : Value} {l : List Int} (h : W.ownsRow base 3 1 v l.length (l.map (Value.int .i64))) : IntsF base W v l := by
  rcases h.2 with ⟨rfl, h0⟩ | ⟨g, cap, cur, rfl, hb, hg, hn, hcap, hs, ht⟩
  · exact .inl ⟨_, _, rfl, List.eq_nil_of_length_eq_zero h0⟩
  · refine .inr ⟨g, 0, cap, rfl, hn, hb, (Array.getElem?_eq_some_iff.1 hg).1, fun k hk => ?_⟩
    have e1 : (l.map (Value.int .i64))[k]? = some (.int .i64 (l.getD k 0)) := by
      rw [List.getElem?_map, List.getD_eq_getElem?_getD, List.getElem?_eq_getElem hk]; rfl
    rw [← ht, List.getElem?_take, if_pos (by omega), Array.getElem?_toList] at e1
    rw [Nat.zero_add]
    exact cell_of_block hg e1

set_option maxRecDepth 100000 in
set_option maxHeartbeats 1000000 in
theorem cloneInts_any (v : Value) (l : List Int) (w : World) (h : IntsLie w v l) (hl : l.length ≤ 1000000) :
    Calls Tryz.prog 102 #[v] w fun e w' => ∃ v', e = .returned v' ∧ IntsF w.heap.size w' v' l ∧ Below w.heap.size w w' := by
  obtain ⟨i0, hi, hz0, hz1, hz2⟩ := info_parts info_int2
  obtain ⟨a, cap, rfl⟩ := ints_form h
  have H := Lib.hid h
  clear h
  cases a with
  | none =>
    have hl0 : l = [] := by
      rcases H.out with ⟨_, _, h1, h2⟩ | ⟨b, off, cap', h1, _⟩
      · exact h2
      · simp at h1
    subst hl0
    have hnil := fun (w : World) => Lib.run_eql_slice_nil (P := Tryz.prog) w 41 3 none 0 cap 0 0 Tryz.underlying41
    simp only [List.length_nil]
    go_enter Tryz.func102, Tryz.ntmps102
    go_wp2_with fail
    go_ret
    exact ⟨_, rfl, .inl ⟨_, _, rfl, rfl⟩, by ((repeat' (first | exact Below.refl _ _ | assumption | refine Below.setCell ?_ ?_ _ | refine bdrewN ?_ _ | refine Below.drew ?_ | refine Below.alloc ?_ ?_ _ | refine bbehind ?_ (by assumption) ?_)); all_goals first | (simp; done) | (simp; omega) | omega)⟩
  | some ad =>
    have hnil := fun (w : World) => Lib.run_eql_slice_nil (P := Tryz.prog) w 41 3 (some ad) l.length cap 0 0 Tryz.underlying41
    have hnews : ∀ j u, (l.map (Value.int .i64))[j]? = some u → (w.alloc (.cells #[] 3)).cell? (ad.add j) = some u := by
      intro j u hj
      have hjl : j < l.length := by have := (List.getElem?_eq_some_iff.1 hj).1; simpa using this
      obtain ⟨b, off, cap', hs, _, hb, hc⟩ := ints_cells H.out (by intro e; subst e; simp at hjl)
      simp only [Value.slice.injEq, Option.some.injEq] at hs
      obtain ⟨rfl, -, -⟩ := hs
      rw [World.cell?_of_block (w := w) (Below.heap_alloc _ _ _ (by rw [Go.WideShapes.add_plain]; exact hb)), Go.WideShapes.add_plain, hc j hjl, ← hj]
      rw [List.getElem?_map, List.getD_eq_getElem?_getD, List.getElem?_eq_getElem hjl]; rfl
    have hown0 : (w.alloc (.cells #[] 3)).ownsRow w.heap.size 3 1 (.slice (some ⟨w.heap.size, 0, none⟩) 0 0) 0 [] := World.ownsRow_lit w #[] 0 (Nat.le_refl _) (by decide) rfl
    have HN := Lib.hid hnews
    clear hnews
    go_enter Tryz.func102, Tryz.ntmps102
    go_wp2_with (at_builtin; refine wpList_append_own _ rfl _ _ 41 rfl w.heap.size 3 i0 (.int .i64 0) 1 8 Tryz.underlying41 hi hz0 hz1 hz2 rfl (by decide) _ _ _ rfl hown0 ad l.length cap (l.map (Value.int .i64)) rfl (by simp) HN.out ?c1 ?c2 ?c3 ?c4 ?stop)
    case c1 =>
      intro u hu
      obtain ⟨q, _, rfl⟩ := List.mem_map.1 hu
      rfl
    case c2 => unfold maxLen; omega
    case c3 => omega
    case c4 => simp
    case stop =>
      intro v' w2 hown hgrow _
      have HO := Lib.hid hown
      have HB := Lib.hid ((((Below.refl w.heap.size w).alloc (Nat.le_refl _) _)).grown hgrow (by simp) (fun k hk => by simp [Value.ownBlock] at hk; omega))
      clear hown hgrow
      go_wp2_with fail
      go_ret
      exact ⟨v', rfl, intsF_owned (by simpa using HO.out), HB.out⟩
end Go.Proofs.YtcgedpfolloinaaGreat

namespace Go.Proofs.YtcgedpfolloinaaGreat
open Go.RowKit

def atErr (f : Fo) (p : List Int) : Int := firstNZ [foErr f, placeErr f p]
def AtRes (w : World) (f : Fo) (p : List Int) (e : Ending) (w' : World) : Prop :=
  ∃ h ks aa ca ak ck, e = .returned (.tuple #[aggOf h aa ca ak ks.len ck, .int .i64 (atErr f p)]) ∧ AttrsF w.heap.size w' (.slice aa h.ats.length ca) h.ats ∧ LiesF w.heap.size w' (.slice ak ks.len ck) ks ∧
    ((atErr f p = 0 ∧ placeF f p = some (h, ks)) ∨ (atErr f p ≠ 0 ∧ h = zeroHd ∧ ks = .nil)) ∧ Below w.heap.size w w'

theorem ints_pair {W : World} {b : Nat} {T : TypeId} {x y : Int} (h : W.heap[b]? = some (.cells #[.int .i64 x, .int .i64 y] T (0, 0))) (hb : b < W.heap.size) : IntsLie W (.slice (some ⟨b, 0, none⟩) 2 2) [x, y] := by
  refine .inr ⟨b, 0, 2, rfl, by simp, hb, fun k hk => ?_⟩
  match k, hk with
  | 0, _ => exact cell_of_block h rfl
  | 1, _ => exact cell_of_block h rfl

set_option maxRecDepth 100000 in
set_option maxHeartbeats 2000000 in
theorem at_any (f : Fo) (p : List Int) (v pv : Value) (w : World) (hl : Lies w v f) (hs : Small f) (hp : IntsLie w pv p) (hpl : p.length ≤ 1000000) :
    Calls Tryz.prog 31 #[v, pv] w (AtRes w f p) := by
  have CH := Lib.hid (fun w1 (hw : Below w.heap.size w w1) => tcheck_any f v w1 (lies_below hl hw) hs)
  have PL := Lib.hid (fun w1 (hw : Below w.heap.size w w1) => checkPlace_any f p v pv w1 (lies_below hl hw) (ints_below hp hw) hpl)
  have TA := Lib.hid (fun w1 (hw : Below w.heap.size w w1) => treeAt_any f p v pv w1 (lies_below hl hw) (ints_below hp hw) hpl)
  obtain ⟨a, cap, rfl⟩ := lies_form hl
  obtain ⟨pa, pc, rfl⟩ := ints_form hp
  have HE := Lib.hid (show atErr f p = firstNZ [foErr f, placeErr f p] from rfl)
  have HP := Lib.hid (show placeErr f p = 0 → (placeF f p).isSome = true by
    unfold placeErr; split
    · intro h; cases h
    · split
      · intro _; assumption
      · intro h; cases h)
  have HZ := Lib.hid (show atErr f p = 0 → placeErr f p = 0 by
    unfold atErr firstNZ firstNZ firstNZ; split <;> simp_all)
  clear hl hs hp
  generalize foErr f = e1 at *
  generalize placeErr f p = e2 at *
  go_enter Tryz.func31, Tryz.ntmps31
  go_wp2_with fail
  have hB0 : Below w.heap.size w (w.alloc (.cells #[.int .i64 0, .string ⟨#[]⟩, .slice none 0 0, .int .i64 0, .int .i64 0, .string ⟨#[]⟩, .slice none 0 0] 43)) := (Below.refl _ _).alloc (Nat.le_refl _) _
  have k0 := World.alloc_heap_new w (.cells #[.int .i64 0, .string ⟨#[]⟩, .slice none 0 0, .int .i64 0, .int .i64 0, .string ⟨#[]⟩, .slice none 0 0] 43)
  have hs0 : (w.alloc (.cells #[.int .i64 0, .string ⟨#[]⟩, .slice none 0 0, .int .i64 0, .int .i64 0, .string ⟨#[]⟩, .slice none 0 0] 43)).heap.size = w.heap.size + 1 := by simp
  generalize w.alloc (.cells #[.int .i64 0, .string ⟨#[]⟩, .slice none 0 0, .int .i64 0, .int .i64 0, .string ⟨#[]⟩, .slice none 0 0] 43) = W0 at *
  refine (CH.out W0 hB0).mono ?_
  rintro e w1 ⟨rfl, hb1⟩
  have hs1 := hb1.size
  have k1 := (hb1.block w.heap.size (by omega)).trans k0
  have hB1 := hB0.trans (hb1.mono (by omega))
  clear k0 hB0 hb1
  go_wp2_with fail
  refine (PL.out w1 hB1).mono ?_
  rintro e w2 ⟨rfl, hb2⟩
  have hs2 := hb2.size
  have k2 := (hb2.block w.heap.size (by omega)).trans k1
  have hB2 := hB1.trans (hb2.mono (by omega))
  clear k1 hB1 hb2
  go_wp2_with fail
  have hB3 : Below w.heap.size w (w2.alloc (.cells #[.int .i64 e1, .int .i64 e2] 32)) := hB2.alloc (by omega) _
  have hi3 := ints_pair (World.alloc_heap_new w2 (.cells #[.int .i64 e1, .int .i64 e2] 32)) (by simp)
  have k3 : (w2.alloc (.cells #[.int .i64 e1, .int .i64 e2] 32)).heap[w.heap.size]? = _ := (Below.heap_alloc _ _ _ (by omega)).trans k2
  have hs3 : (w2.alloc (.cells #[.int .i64 e1, .int .i64 e2] 32)).heap.size = w2.heap.size + 1 := by simp
  generalize w2.alloc (.cells #[.int .i64 e1, .int .i64 e2] 32) = w3 at *
  refine (terr_any _ _ _ hi3 (by simp)).mono ?_
  rintro e w4 ⟨rfl, rfl⟩
  rw [← HE.out]
  clear k2 hB2 hi3
  have K3 := Lib.hid k3
  generalize hea : atErr f p = ea at *
  by_cases he : ea = 0
  · have b0 : (ea != 0) = false := by simpa using he
    clear k3
    go_wp2_with fail
    refine (TA.out w3 hB3).mono ?_
    rintro e w4 ⟨h, ks, aa, ca, ak, ck, rfl, ha, hk, ho, hb4⟩
    have hsome := HP.out (HZ.out he)
    have hpf : placeF f p = some (h, ks) := by
      rcases ho with ho | ⟨ho, _⟩
      · exact ho
      · rw [ho] at hsome; cases hsome
    have HPF := Lib.hid hpf
    have HEA := Lib.hid he
    clear ho hsome he
    have hs4 := hb4.size
    have k4 := (hb4.block w.heap.size (by omega)).trans K3.out
    have hB4 := hB3.trans (hb4.mono (by omega))
    have HA := Lib.hid (attrs_below ha hb4)
    have HK := Lib.hid (lies_below hk hb4)
    clear ha hk hb4 hB3
    unfold aggOf
    generalize (placeF f p).isSome = bs at *
    clear hpf
    go_wp2_with fail
    have hB5 : Below w.heap.size w (w4.alloc (.cells #[.int .i64 h.k, .string ⟨h.l.toArray⟩, .slice aa h.ats.length ca, .int .i64 h.n, .int .i64 h.d, .string ⟨h.x.toArray⟩, .slice ak ks.len ck] 43)) := hB4.alloc (by omega) _
    have hx5 : Below w4.heap.size w4 (w4.alloc (.cells #[.int .i64 h.k, .string ⟨h.l.toArray⟩, .slice aa h.ats.length ca, .int .i64 h.n, .int .i64 h.d, .string ⟨h.x.toArray⟩, .slice ak ks.len ck] 43)) := (Below.refl _ _).alloc (Nat.le_refl _) _
    have k5 : (w4.alloc (.cells #[.int .i64 h.k, .string ⟨h.l.toArray⟩, .slice aa h.ats.length ca, .int .i64 h.n, .int .i64 h.d, .string ⟨h.x.toArray⟩, .slice ak ks.len ck] 43)).heap[w.heap.size]? = _ := (Below.heap_alloc _ _ _ (by omega)).trans k4
    have hs5 : (w4.alloc (.cells #[.int .i64 h.k, .string ⟨h.l.toArray⟩, .slice aa h.ats.length ca, .int .i64 h.n, .int .i64 h.d, .string ⟨h.x.toArray⟩, .slice ak ks.len ck] 43)).heap.size = w4.heap.size + 1 := by simp
    have C := Lib.hid (cloneTree_any h ks aa ca ak ck _ (attrs_below HA.out hx5) (lies_below HK.out hx5))
    generalize w4.alloc (.cells #[.int .i64 h.k, .string ⟨h.l.toArray⟩, .slice aa h.ats.length ca, .int .i64 h.n, .int .i64 h.d, .string ⟨h.x.toArray⟩, .slice ak ks.len ck] 43) = w5 at *
    unfold aggOf at C
    refine C.out.mono ?_
    rintro e w6 ⟨aa1, ca1, ak1, ck1, rfl, ha, hk, hb6⟩
    unfold aggOf
    have hs6 := hb6.size
    have k6 := (hb6.block w.heap.size (by omega)).trans k5
    have hB6 := hB5.trans (hb6.mono (by omega))
    have HA1 := Lib.hid (attrsF_mono (B' := w.heap.size + 1) (by omega) ha)
    have HK1 := Lib.hid (liesF_mono (B' := w.heap.size + 1) (by omega) hk)
    clear k4 k5 ha hk hb6 hB5 hx5 hB4
    have y0 : w6.cell? ⟨w.heap.size, 0, none⟩ = some (.int .i64 0) := cell_of_block k6 rfl
    have z0 := frozen_of_block (o := 0) k6
    have y1 : w6.cell? ⟨w.heap.size, 1, none⟩ = some (.string ⟨#[]⟩) := cell_of_block k6 rfl
    have z1 := frozen_of_block (o := 1) k6
    have y2 : w6.cell? ⟨w.heap.size, 2, none⟩ = some (.slice none 0 0) := cell_of_block k6 rfl
    have z2 := frozen_of_block (o := 2) k6
    have y3 : w6.cell? ⟨w.heap.size, 3, none⟩ = some (.int .i64 0) := cell_of_block k6 rfl
    have z3 := frozen_of_block (o := 3) k6
    have y4 : w6.cell? ⟨w.heap.size, 4, none⟩ = some (.int .i64 0) := cell_of_block k6 rfl
    have z4 := frozen_of_block (o := 4) k6
    have y5 : w6.cell? ⟨w.heap.size, 5, none⟩ = some (.string ⟨#[]⟩) := cell_of_block k6 rfl
    have z5 := frozen_of_block (o := 5) k6
    have y6 : w6.cell? ⟨w.heap.size, 6, none⟩ = some (.slice none 0 0) := cell_of_block k6 rfl
    have z6 := frozen_of_block (o := 6) k6
    have K6 := Lib.hid k6
    clear k6
    go_wp2_with fail
    have hfin := set7_blk (.int .i64 h.k) (.string ⟨h.l.toArray⟩) (.slice aa1 h.ats.length ca1) (.int .i64 h.n) (.int .i64 h.d) (.string ⟨h.x.toArray⟩) (.slice ak1 ks.len ck1) K6.out
    have hkeep := set7_keeps (B := w.heap.size + 1) (R := w.heap.size) w6 0 1 2 3 4 5 6 (.int .i64 h.k) (.string ⟨h.l.toArray⟩) (.slice aa1 h.ats.length ca1) (.int .i64 h.n) (.int .i64 h.d) (.string ⟨h.x.toArray⟩) (.slice ak1 ks.len ck1) (by omega)
    have hbel := set7_below (R := w.heap.size) (.int .i64 h.k) (.string ⟨h.l.toArray⟩) (.slice aa1 h.ats.length ca1) (.int .i64 h.n) (.int .i64 h.d) (.string ⟨h.x.toArray⟩) (.slice ak1 ks.len ck1) hB6 (Nat.le_refl _)
    generalize (((((((w6.setCell ⟨w.heap.size, 0, none⟩ (.int .i64 h.k)).setCell ⟨w.heap.size, 1, none⟩ (.string ⟨h.l.toArray⟩)).setCell ⟨w.heap.size, 2, none⟩ (.slice aa1 h.ats.length ca1)).setCell ⟨w.heap.size, 3, none⟩ (.int .i64 h.n)).setCell ⟨w.heap.size, 4, none⟩ (.int .i64 h.d)).setCell ⟨w.heap.size, 5, none⟩ (.string ⟨h.x.toArray⟩)).setCell ⟨w.heap.size, 6, none⟩ (.slice ak1 ks.len ck1)) = Wf at hfin hbel hkeep ⊢
    have u0 : Wf.cell? ⟨w.heap.size, 0, none⟩ = some (.int .i64 h.k) := cell_of_block hfin rfl
    have u1 : Wf.cell? ⟨w.heap.size, 1, none⟩ = some (.string ⟨h.l.toArray⟩) := cell_of_block hfin rfl
    have u2 : Wf.cell? ⟨w.heap.size, 2, none⟩ = some (.slice aa1 h.ats.length ca1) := cell_of_block hfin rfl
    have u3 : Wf.cell? ⟨w.heap.size, 3, none⟩ = some (.int .i64 h.n) := cell_of_block hfin rfl
    have u4 : Wf.cell? ⟨w.heap.size, 4, none⟩ = some (.int .i64 h.d) := cell_of_block hfin rfl
    have u5 : Wf.cell? ⟨w.heap.size, 5, none⟩ = some (.string ⟨h.x.toArray⟩) := cell_of_block hfin rfl
    have u6 : Wf.cell? ⟨w.heap.size, 6, none⟩ = some (.slice ak1 ks.len ck1) := cell_of_block hfin rfl
    refine bodyPost_ret (v := .tuple #[aggOf h aa1 ca1 ak1 ks.len ck1, .int .i64 0]) (by simp [results, Tryz.results31, go_sem, aggOf, u0, u1, u2, u3, u4, u5, u6]) rfl ?_
    exact ⟨h, ks, aa1, ca1, ak1, ck1, by rw [hea, HEA.out], attrsF_mono (by omega) (attrsF_keeps HA1.out hkeep), liesF_mono (by omega) (liesF_keeps HK1.out hkeep), .inl ⟨hea.trans HEA.out, HPF.out⟩, hbel⟩
  · have b0 : (ea != 0) = true := by simpa using he
    have HEA := Lib.hid he
    clear he
    have y0 : w3.cell? ⟨w.heap.size, 0, none⟩ = some (.int .i64 0) := cell_of_block k3 rfl
    have z0 := frozen_of_block (o := 0) k3
    have y1 : w3.cell? ⟨w.heap.size, 1, none⟩ = some (.string ⟨#[]⟩) := cell_of_block k3 rfl
    have z1 := frozen_of_block (o := 1) k3
    have y2 : w3.cell? ⟨w.heap.size, 2, none⟩ = some (.slice none 0 0) := cell_of_block k3 rfl
    have z2 := frozen_of_block (o := 2) k3
    have y3 : w3.cell? ⟨w.heap.size, 3, none⟩ = some (.int .i64 0) := cell_of_block k3 rfl
    have z3 := frozen_of_block (o := 3) k3
    have y4 : w3.cell? ⟨w.heap.size, 4, none⟩ = some (.int .i64 0) := cell_of_block k3 rfl
    have z4 := frozen_of_block (o := 4) k3
    have y5 : w3.cell? ⟨w.heap.size, 5, none⟩ = some (.string ⟨#[]⟩) := cell_of_block k3 rfl
    have z5 := frozen_of_block (o := 5) k3
    have y6 : w3.cell? ⟨w.heap.size, 6, none⟩ = some (.slice none 0 0) := cell_of_block k3 rfl
    have z6 := frozen_of_block (o := 6) k3
    clear k3
    go_wp2_with fail
    have hfin := set7_blk (.int .i64 0) (.string ⟨#[]⟩) (.slice none 0 0) (.int .i64 0) (.int .i64 0) (.string ⟨#[]⟩) (.slice none 0 0) K3.out
    have hbel := set7_below (R := w.heap.size) (.int .i64 0) (.string ⟨#[]⟩) (.slice none 0 0) (.int .i64 0) (.int .i64 0) (.string ⟨#[]⟩) (.slice none 0 0) hB3 (Nat.le_refl _)
    generalize (((((((w3.setCell ⟨w.heap.size, 0, none⟩ (.int .i64 0)).setCell ⟨w.heap.size, 1, none⟩ (.string ⟨#[]⟩)).setCell ⟨w.heap.size, 2, none⟩ (.slice none 0 0)).setCell ⟨w.heap.size, 3, none⟩ (.int .i64 0)).setCell ⟨w.heap.size, 4, none⟩ (.int .i64 0)).setCell ⟨w.heap.size, 5, none⟩ (.string ⟨#[]⟩)).setCell ⟨w.heap.size, 6, none⟩ (.slice none 0 0)) = Wf at hfin hbel ⊢
    have u0 : Wf.cell? ⟨w.heap.size, 0, none⟩ = some (.int .i64 0) := cell_of_block hfin rfl
    have u1 : Wf.cell? ⟨w.heap.size, 1, none⟩ = some (.string ⟨#[]⟩) := cell_of_block hfin rfl
    have u2 : Wf.cell? ⟨w.heap.size, 2, none⟩ = some (.slice none 0 0) := cell_of_block hfin rfl
    have u3 : Wf.cell? ⟨w.heap.size, 3, none⟩ = some (.int .i64 0) := cell_of_block hfin rfl
    have u4 : Wf.cell? ⟨w.heap.size, 4, none⟩ = some (.int .i64 0) := cell_of_block hfin rfl
    have u5 : Wf.cell? ⟨w.heap.size, 5, none⟩ = some (.string ⟨#[]⟩) := cell_of_block hfin rfl
    have u6 : Wf.cell? ⟨w.heap.size, 6, none⟩ = some (.slice none 0 0) := cell_of_block hfin rfl
    refine bodyPost_ret (v := .tuple #[aggOf zeroHd none 0 none 0 0, .int .i64 ea]) (by simp [results, Tryz.results31, go_sem, aggOf, zeroHd, u0, u1, u2, u3, u4, u5, u6]) rfl ?_
    exact ⟨zeroHd, .nil, none, 0, none, 0, by rw [hea]; rfl, .inl ⟨_, _, rfl, rfl⟩, .inl ⟨_, _, rfl, rfl⟩, .inr ⟨by rw [hea]; exact HEA.out, rfl, rfl⟩, hbel⟩
end Go.Proofs.YtcgedpfolloinaaGreat

namespace Go.Proofs.YtcgedpfolloinaaGreat
open Go.RowKit Go.Shelf

def nextV (vs : List Vis) (p : List Int) : Option (List Int) := (vs.find? (fun x => decide (0 < cmpL (pathInts x.p) p))).map (fun x => pathInts x.p)
def nextF (f : Fo) (p : List Int) : List Int × Bool × Int :=
  if foErr f ≠ 0 then ([], false, foErr f) else if (placeF f p).isSome = false ∧ p ≠ [] then ([], false, 6) else match nextV (seqAt [] 0 f) p with
    | none => ([], false, 0)
    | some q => (q, true, 0)
def NextRes (w : World) (r : List Int × Bool × Int) (e : Ending) (w' : World) : Prop :=
  ∃ a cap, e = .returned (.tuple #[.slice a r.1.length cap, .bool r.2.1, .int .i64 r.2.2]) ∧ IntsF w.heap.size w' (.slice a r.1.length cap) r.1 ∧ Below w.heap.size w w'

/-- the four cells of its own that Next begins with. -/
structure NC (w W : World) (pv a b c : Value) : Prop where
  c0 : W.cell? ⟨w.heap.size, 0, none⟩ = some pv
  c1 : W.cell? ⟨w.heap.size + 1, 0, none⟩ = some a
  f1 : W.frozen? ⟨w.heap.size + 1, 0, none⟩ = false
  c2 : W.cell? ⟨w.heap.size + 1 + 1, 0, none⟩ = some b
  f2 : W.frozen? ⟨w.heap.size + 1 + 1, 0, none⟩ = false
  c3 : W.cell? ⟨w.heap.size + 1 + 1 + 1, 0, none⟩ = some c
  f3 : W.frozen? ⟨w.heap.size + 1 + 1 + 1, 0, none⟩ = false
  size : w.heap.size + 4 ≤ W.heap.size
  bel : Below w.heap.size w W
theorem NC.start (w : World) (pv : Value) : NC w ((((w.alloc (.cells #[pv] 41)).alloc (.cells #[.slice none 0 0] 41)).alloc (.cells #[.bool false] 4)).alloc (.cells #[.int .i64 0] 32)) pv (.slice none 0 0) (.bool false) (.int .i64 0) := by
  refine ⟨?_, ?_, ?_, ?_, ?_, ?_, ?_, by simp, ((((Below.refl _ w).alloc (Nat.le_refl _) _).alloc (by simp) _).alloc (by simp; omega) _).alloc (by simp; omega) _⟩ <;> simp [go_sem]
theorem NC.same {w W W' : World} {pv a b c : Value} (h : NC w W pv a b c) (hb : ∀ k, w.heap.size ≤ k → k < w.heap.size + 4 → W'.heap[k]? = W.heap[k]?) (hz : W.heap.size ≤ W'.heap.size) (hB : Below w.heap.size w W') : NC w W' pv a b c := by
  obtain ⟨c0, c1, f1, c2, f2, c3, f3, size, bel⟩ := h
  have b0 := hb w.heap.size (by omega) (by omega)
  have b1 := hb (w.heap.size + 1) (by omega) (by omega)
  have b2 := hb (w.heap.size + 1 + 1) (by omega) (by omega)
  have b3 := hb (w.heap.size + 1 + 1 + 1) (by omega) (by omega)
  exact ⟨(World.cell?_of_block (w := W) b0).trans c0, (World.cell?_of_block (w := W) b1).trans c1, (World.frozen?_of_block (w := W) b1).trans f1, (World.cell?_of_block (w := W) b2).trans c2, (World.frozen?_of_block (w := W) b2).trans f2,
    (World.cell?_of_block (w := W) b3).trans c3, (World.frozen?_of_block (w := W) b3).trans f3, Nat.le_trans size hz, hB⟩
theorem NC.below {w W W' : World} {pv a b c : Value} (h : NC w W pv a b c) (k : Below W.heap.size W W') : NC w W' pv a b c :=
  h.same (fun i _ hi => k.block i (by have := h.size; omega)) k.size (h.bel.trans (k.mono (by have := h.size; omega)))
theorem NC.set3 {w W : World} {pv a b c : Value} (h : NC w W pv a b c) (a' b' c' : Value) : NC w (((W.setCell ⟨w.heap.size + 1, 0, none⟩ a').setCell ⟨w.heap.size + 1 + 1, 0, none⟩ b').setCell ⟨w.heap.size + 1 + 1 + 1, 0, none⟩ c') pv a' b' c' := by
  obtain ⟨c0, c1, f1, c2, f2, c3, f3, size, bel⟩ := h
  refine ⟨?_, ?_, ?_, ?_, ?_, ?_, ?_, by simpa [World.setCell] using size, ((bel.setCell (p := ⟨w.heap.size + 1, 0, none⟩) (by show w.heap.size ≤ w.heap.size + 1; omega) _).setCell (p := ⟨w.heap.size + 1 + 1, 0, none⟩) (by show w.heap.size ≤ w.heap.size + 1 + 1; omega) _).setCell (p := ⟨w.heap.size + 1 + 1 + 1, 0, none⟩) (by show w.heap.size ≤ w.heap.size + 1 + 1 + 1; omega) _⟩ <;> simp (maxDischargeDepth := 8) [go_sem, *]

set_option maxRecDepth 100000 in
set_option maxHeartbeats 2000000 in
theorem next_err (f : Fo) (p : List Int) (v pv : Value) (w : World) (hl : Lies w v f) (hs : Small f) (hp : IntsLie w pv p) (he : foErr f ≠ 0) :
    Calls Tryz.prog 38 #[v, pv] w (NextRes w (nextF f p)) := by
  have CH := Lib.hid (fun w1 (hw : Below w.heap.size w w1) => tcheck_any f v w1 (lies_below hl hw) hs)
  obtain ⟨a, cap, rfl⟩ := lies_form hl
  obtain ⟨pa, pc, rfl⟩ := ints_form hp
  have HR := Lib.hid (show nextF f p = ([], false, foErr f) from if_pos he)
  clear hl hs hp
  generalize foErr f = er at *
  have b0 : (er != 0) = true := by simpa using he
  clear he
  have N0 := NC.start w (.slice pa p.length pc)
  go_enter Tryz.func38, Tryz.ntmps38
  go_wp2_with fail
  generalize (((w.alloc (.cells #[.slice pa p.length pc] 41)).alloc (.cells #[.slice none 0 0] 41)).alloc (.cells #[.bool false] 4)).alloc (.cells #[.int .i64 0] 32) = W0 at *
  refine (CH.out W0 N0.bel).mono ?_
  rintro e w1 ⟨rfl, hb1⟩
  have N1 := Lib.hid (N0.below hb1)
  clear N0 hb1
  obtain ⟨c0, c1, f1, c2, f2, c3, f3, size, bel⟩ := N1.out
  go_wp2_with fail
  have N2 := N1.out.set3 (.slice none 0 0) (.bool false) (.int .i64 er)
  clear c0 c1 f1 c2 f2 c3 f3 size bel
  generalize ((w1.setCell ⟨w.heap.size + 1, 0, none⟩ (.slice none 0 0)).setCell ⟨w.heap.size + 1 + 1, 0, none⟩ (.bool false)).setCell ⟨w.heap.size + 1 + 1 + 1, 0, none⟩ (.int .i64 er) = Wf at N2 ⊢
  obtain ⟨c0, c1, f1, c2, f2, c3, f3, size, bel⟩ := N2
  refine bodyPost_ret (v := .tuple #[.slice none 0 0, .bool false, .int .i64 er]) (by simp [results, Tryz.results38, go_sem, c1, c2, c3]) rfl ?_
  rw [HR.out]
  exact ⟨none, 0, rfl, .inl ⟨_, _, rfl, rfl⟩, bel⟩

set_option maxRecDepth 100000 in
set_option maxHeartbeats 2000000 in
theorem next_absent (f : Fo) (p : List Int) (v pv : Value) (w : World) (hl : Lies w v f) (hs : Small f) (hp : IntsLie w pv p) (hpl : p.length ≤ 1000000) (he : foErr f = 0) (hab : (placeF f p).isSome = false) (hp0 : p ≠ []) :
    Calls Tryz.prog 38 #[v, pv] w (NextRes w (nextF f p)) := by
  have CH := Lib.hid (fun w1 (hw : Below w.heap.size w w1) => tcheck_any f v w1 (lies_below hl hw) hs)
  have TA := Lib.hid (fun w1 (hw : Below w.heap.size w w1) => treeAt_any f p v pv w1 (lies_below hl hw) (ints_below hp hw) hpl)
  obtain ⟨a, cap, rfl⟩ := lies_form hl
  obtain ⟨pa, pc, rfl⟩ := ints_form hp
  have HR := Lib.hid (show nextF f p = ([], false, 6) from (if_neg (by simpa using he)).trans (if_pos ⟨hab, hp0⟩))
  have hpos : decide ((0 : Int) < (p.length : Int)) = true := decide_eq_true (by have := List.length_pos_iff.2 hp0; omega)
  have hpos2 : decide (0 < p.length) = true := decide_eq_true (List.length_pos_iff.2 hp0)
  rw [he] at CH
  have HAB := Lib.hid hab
  clear hl hs hp he hab hp0
  have N0 := NC.start w (.slice pa p.length pc)
  go_enter Tryz.func38, Tryz.ntmps38
  go_wp2_with fail
  generalize (((w.alloc (.cells #[.slice pa p.length pc] 41)).alloc (.cells #[.slice none 0 0] 41)).alloc (.cells #[.bool false] 4)).alloc (.cells #[.int .i64 0] 32) = W0 at *
  refine (CH.out W0 N0.bel).mono ?_
  rintro e w1 ⟨rfl, hb1⟩
  have N1 := Lib.hid (N0.below hb1)
  clear N0 hb1
  obtain ⟨c0, c1, f1, c2, f2, c3, f3, size, bel⟩ := N1.out
  go_wp2_with fail
  refine (TA.out w1 bel).mono ?_
  rintro e w2 ⟨h, ks, aa, ca, ak, ck, rfl, -, -, -, hb2⟩
  rw [HAB.out]
  unfold aggOf
  have N2 := Lib.hid (N1.out.below hb2)
  clear c0 c1 f1 c2 f2 c3 f3 size bel hb2
  obtain ⟨c0, c1, f1, c2, f2, c3, f3, size, bel⟩ := N2.out
  have z0 : w.heap.size < w2.heap.size := by omega
  have z1 : w.heap.size + 1 < w2.heap.size := by omega
  have z2 : w.heap.size + 1 + 1 < w2.heap.size := by omega
  have z3 : w.heap.size + 1 + 1 + 1 < w2.heap.size := by omega
  go_wp2_with fail
  have N3 := (N2.out.set3 (.slice none 0 0) (.bool false) (.int .i64 6)).below ((Below.refl _ _).alloc (Nat.le_refl _) (.cells #[.int .i64 h.k, .string ⟨h.l.toArray⟩, .slice aa h.ats.length ca, .int .i64 h.n, .int .i64 h.d, .string ⟨h.x.toArray⟩, .slice ak ks.len ck] 43))
  clear c0 c1 f1 c2 f2 c3 f3 size bel z0 z1 z2 z3
  generalize (((w2.setCell ⟨w.heap.size + 1, 0, none⟩ (.slice none 0 0)).setCell ⟨w.heap.size + 1 + 1, 0, none⟩ (.bool false)).setCell ⟨w.heap.size + 1 + 1 + 1, 0, none⟩ (.int .i64 6)).alloc (.cells #[.int .i64 h.k, .string ⟨h.l.toArray⟩, .slice aa h.ats.length ca, .int .i64 h.n, .int .i64 h.d, .string ⟨h.x.toArray⟩, .slice ak ks.len ck] 43) = Wf at N3 ⊢
  obtain ⟨c0, c1, f1, c2, f2, c3, f3, size, bel⟩ := N3
  refine bodyPost_ret (v := .tuple #[.slice none 0 0, .bool false, .int .i64 6]) (by simp [results, Tryz.results38, go_sem, c1, c2, c3]) rfl ?_
  rw [HR.out]
  exact ⟨none, 0, rfl, .inl ⟨_, _, rfl, rfl⟩, bel⟩

/-- what the search holds behind so many trees. -/
structure NxI (w : World) (R : Nat) (p : List Int) (pv : Value) (pre : List Vis) (G : Nat → Prop) (W : World) : Prop where
  g : ∀ k, G k ↔ k < R
  nc : NC w W pv (.slice none 0 0) (.bool false) (.int .i64 0)
  no : nextV pre p = none
  size : R ≤ W.heap.size
structure NxX (w : World) (R : Nat) (p : List Int) (pv : Value) (pre : List Vis) (W : World) : Prop where
  it : ∃ q a cap, nextV pre p = some q ∧ NC w W pv (.slice a q.length cap) (.bool true) (.int .i64 0) ∧ IntsF (w.heap.size + 4) W (.slice a q.length cap) q
  size : R ≤ W.heap.size
theorem NxI.spared {w W W' : World} {R : Nat} {p : List Int} {pv : Value} {pre : List Vis} {G : Nat → Prop} (h : NxI w R p pv pre G W) (sp : Spared G W W') (hR : w.heap.size + 4 ≤ R) : NxI w R p pv pre G W' := by
  obtain ⟨g, nc, no, size⟩ := h
  refine ⟨g, nc.same (fun k _ hk => sp.block k ((g k).2 (by omega))) sp.size (nc.bel.trans ⟨sp.os, sp.tape, sp.output, sp.size, fun k hk => sp.block k ((g k).2 (by omega))⟩), no, Nat.le_trans size sp.size⟩
theorem nextV_snoc {pre : List Vis} {x : Vis} {p : List Int} (h : nextV pre p = none) : nextV (pre ++ [x]) p = if 0 < cmpL (pathInts x.p) p then some (pathInts x.p) else none := by
  unfold nextV at h ⊢
  rw [Option.map_eq_none_iff] at h
  rw [List.find?_append, h]
  by_cases hc : 0 < cmpL (pathInts x.p) p <;> simp [hc]
theorem nextV_pre {pre xs : List Vis} {p : List Int} {q : List Int} (hp : pre <+: xs) (h : nextV pre p = some q) : nextV xs p = some q := by
  obtain ⟨t, rfl⟩ := hp
  unfold nextV at h ⊢
  rw [List.find?_append]
  cases hf : pre.find? (fun x => decide (0 < cmpL (pathInts x.p) p)) with
  | none => rw [hf] at h; cases h
  | some y => rw [hf] at h; simpa using h
theorem intsF_putObj {B : Nat} {W : World} {l : Nat} {o o' : Obj} {v : Value} {xs : List Int} (hl : W.heap[l]? = some o) (ho : o.isCells = false) (h : IntsF B W v xs) : IntsF B (W.putObj l o') v xs := by
  rcases h with h | ⟨b, off, cap, h1, h0, hB, h2, h3⟩
  · exact .inl h
  · refine .inr ⟨b, off, cap, h1, h0, hB, by simpa using h2, fun k hk => ?_⟩
    have hb : b ≠ l := by
      rintro rfl
      have := h3 k hk
      simp only [World.cell?, hl] at this
      cases o <;> simp [Obj.isCells] at ho this
    rw [World.cell?_of_block (w := W) (World.putObj_heap_other hb)]
    exact h3 k hk
theorem intsF_of {W : World} {v : Value} {xs : List Int} (h : IntsLie W v xs) : IntsF 0 W v xs := by
  rcases h with h | ⟨b, off, cap, h1, h2, h4, h5⟩
  · exact .inl h
  · exact .inr ⟨b, off, cap, h1, h2, Nat.zero_le _, h4, h5⟩
theorem intsF_mono {B B' : Nat} (hB : B' ≤ B) {W : World} {v : Value} {xs : List Int} (h : IntsF B W v xs) : IntsF B' W v xs := by
  rcases h with h | ⟨b, off, cap, h1, h2, h3, h4, h5⟩
  · exact .inl h
  · exact .inr ⟨b, off, cap, h1, h2, Nat.le_trans hB h3, h4, h5⟩
theorem path_len : ∀ {f : Fo} {pre : List Nat} {i : Nat} {x : Vis}, x ∈ seqAt pre i f → x.p.length ≤ pre.length + f.size
  | .nil, _, _, _, h => by simp [seqAt] at h
  | .cons h ks r, pre, i, x, hx => by
    simp only [seqAt, List.mem_cons, List.mem_append] at hx
    rcases hx with rfl | hx | hx
    · simp [Fo.size]
    · have := path_len hx
      simp [Fo.size] at this ⊢; omega
    · have := path_len hx
      simp [Fo.size] at this ⊢; omega
end Go.Proofs.YtcgedpfolloinaaGreat

namespace Go.Proofs.YtcgedpfolloinaaGreat
open Go.RowKit Go.Shelf
attribute [local go_sem] Oper.semAt_some

set_option maxRecDepth 100000 in
set_option maxHeartbeats 4000000 in
theorem next_in (f : Fo) (p : List Int) (v pv : Value) (w : World) (hl : Lies w v f) (hs : Small f) (hp : IntsLie w pv p) (hpl : p.length ≤ 1000000) (he : foErr f = 0) (hgo : ((placeF f p).isSome = true) ∨ p = []) :
    CallsIn Fence.wide 4 Tryz.prog 38 #[v, pv] w (NextRes w (nextF f p)) := by
  have hsz := hs.size
  have CH := Lib.hid (fun w1 (hw : Below w.heap.size w w1) => tcheck_any f v w1 (lies_below hl hw) hs)
  have TA := Lib.hid (fun w1 (hw : Below w.heap.size w w1) => treeAt_any f p v pv w1 (lies_below hl hw) (ints_below hp hw) hpl)
  have HL := Lib.hid hl
  have HP := Lib.hid hp
  obtain ⟨a, cap, rfl⟩ := lies_form hl
  obtain ⟨pa, pc, rfl⟩ := ints_form hp
  have HR := Lib.hid (show nextF f p = match nextV (seqAt [] 0 f) p with | none => ([], false, 0) | some q => (q, true, 0) from (if_neg (by simpa using he)).trans (if_neg (fun h => hgo.elim (fun h2 => by rw [h.1] at h2; cases h2) (fun h2 => h.2 h2))))
  rw [he] at CH
  clear hl hs hp he
  have N0 := NC.start w (.slice pa p.length pc)
  refine callsIn_of_wp_marks Tryz.func38 rfl trivial ?_ rfl
  simp only [Tryz.ntmps38, List.size_toArray, List.length_cons, List.length_nil, Nat.reduceAdd, Nat.reduceSub, Array.replicate_succ, Array.replicate_zero, List.push_toArray, List.append_toArray, List.nil_append, List.cons_append]
  gi_wp2_with fail
  generalize (((w.alloc (.cells #[.slice pa p.length pc] 41)).alloc (.cells #[.slice none 0 0] 41)).alloc (.cells #[.bool false] 4)).alloc (.cells #[.int .i64 0] 32) = W0 at *
  refine ⟨trivial, (callsIn_wide.2 (CH.out W0 N0.bel)).mono ?_⟩
  rintro e w1 ⟨rfl, hb1⟩
  have N1 := Lib.hid (N0.below hb1)
  clear N0 hb1
  obtain ⟨c0, c1, f1, c2, f2, c3, f3, size, bel⟩ := N1.out
  gi_wp2_with fail
  refine ⟨trivial, (callsIn_wide.2 (TA.out w1 bel)).mono ?_⟩
  rintro e w2 ⟨h, ks, aa, ca, ak, ck, rfl, -, -, -, hb2⟩
  unfold aggOf
  have N2 := Lib.hid (N1.out.below hb2)
  clear c0 c1 f1 c2 f2 c3 f3 size bel hb2
  obtain ⟨c0, c1, f1, c2, f2, c3, f3, size, bel⟩ := N2.out
  have z0 : w.heap.size < w2.heap.size := by omega
  have z1 : w.heap.size + 1 < w2.heap.size := by omega
  have z2 : w.heap.size + 1 + 1 < w2.heap.size := by omega
  have z3 : w.heap.size + 1 + 1 + 1 < w2.heap.size := by omega
  generalize hbs : (placeF f p).isSome = bs at *
  cases bs with
  | true =>
    gi_wp2_with (refine ⟨trivial, ?_⟩; gi_at_call 79; refine (trees_in _ _ _ _ _).mono ?_; rintro e w' ⟨rfl, rfl⟩)
    obtain ⟨W0, hW0⟩ : ∃ W0, (w2.alloc (.cells #[.int .i64 h.k, .string ⟨h.l.toArray⟩, .slice aa h.ats.length ca, .int .i64 h.n, .int .i64 h.d, .string ⟨h.x.toArray⟩, .slice ak ks.len ck] 43)).alloc (.cells #[.slice a f.len cap] 28) = W0 := ⟨_, rfl⟩
    have hz0 : W0.heap.size = w2.heap.size + 1 + 1 := by rw [← hW0]; simp
    have hx0 : Below w2.heap.size w2 W0 := by rw [← hW0]; exact ((Below.refl _ _).alloc (Nat.le_refl _) _).alloc (by simp) _
    have hN0 : NxI w (w2.heap.size + 1 + 1) p (.slice pa p.length pc) [] (fun k => k < w2.heap.size + 1 + 1) W0 := ⟨fun _ => Iff.rfl, N2.out.below hx0, rfl, by omega⟩
    have hB0 := hN0.nc.bel
    have hc0 : W0.cell? ⟨w2.heap.size + 1, 0, none⟩ = some (.slice a f.len cap) := by rw [← hW0]; simp [go_sem]
    rw [hW0]
    clear hW0 hx0 c0 c1 f1 c2 f2 c3 f3 bel z0 z1 z2 z3
    refine range_own (gf := 123) (lb := #[.pointer (some ⟨w2.heap.size + 1, 0, none⟩)]) rfl (enters_of Tryz.func123 (by kernel_rfl) rfl)
      (trees_seq f (.slice a f.len cap) w (w2.heap.size + 1) HL.out (by omega)) (by omega) ?st (fun x args W h => by obtain ⟨_, _, rfl, _⟩ := h; rfl)
      (NxI w (w2.heap.size + 1 + 1) p (.slice pa p.length pc)) (fun c pre W => c = .ret ∧ NxX w (w2.heap.size + 1 + 1) p (.slice pa p.length pc) pre W) (fun k => k < w2.heap.size + 1 + 1) ?hI ?hIs ?hIx (fun k hk => by omega) hN0
      (fun x a' W => ∃ (b0 : Option Addr) (c0 : Nat) (pv' tv : Value) (u0 u1 u2 u7 u8 u9 u11 u12 u13 u14 u15 u16 u17 u18 u19 u20 u21 u22 u23 u24 u25 u26 u27 u28 u29 u30 : Value), x ∈ seqAt [] 0 f ∧ IntsF 0 W (.slice b0 x.p.length c0) (pathInts x.p) ∧ a' = { tmps := #[u0, u1, u2, .pointer (some ⟨w.heap.size, 0, none⟩), .pointer (some ⟨w.heap.size + 1, 0, none⟩), .pointer (some ⟨w.heap.size + 1 + 1, 0, none⟩), .pointer (some ⟨w.heap.size + 1 + 1 + 1, 0, none⟩), u7, u8, u9, .slice b0 x.p.length c0, u11, u12, u13, u14, u15, u16, u17, u18, u19, u20, u21, u22, u23, u24, u25, u26, u27, u28, u29, u30, pv', tv, undef, undef, undef, undef, undef, undef], defers := [] })
      (fun x a' W l o o' hl ho h => by
        obtain ⟨b0, c0, pv', tv, u0, u1, u2, u7, u8, u9, u11, u12, u13, u14, u15, u16, u17, u18, u19, u20, u21, u22, u23, u24, u25, u26, u27, u28, u29, u30, h1, h2, h3⟩ := h
        exact ⟨b0, c0, pv', tv, u0, u1, u2, u7, u8, u9, u11, u12, u13, u14, u15, u16, u17, u18, u19, u20, u21, u22, u23, u24, u25, u26, u27, u28, u29, u30, h1, intsF_putObj hl ho h2, h3⟩) ?assign ?body ?done ?stop
    case st =>
      intro o
      refine ⟨hB0.trans ((((Below.refl _ W0).alloc (Nat.le_refl _) _).alloc (by simp) _).mono hB0.size), ?_⟩
      simp [go_sem, hz0, hc0]
    case hI => exact fun s G W W' h sp => h.spared sp (by omega)
    case hIs =>
      rintro s G W ⟨g, nc, no, size⟩ k hk
      have := (g k).1 hk; omega
    case hIx =>
      rintro c s W l o o' hl ho hc ⟨rfl, ⟨q, a, cap, hq, nc, hi⟩, size⟩
      exact ⟨rfl, ⟨q, a, cap, hq, nc.same (fun k _ hk => World.putObj_heap_other (by omega)) (by simp) (nc.bel.trans ⟨rfl, rfl, rfl, by simp, fun k hk => World.putObj_heap_other (by omega)⟩), intsF_putObj ho hc hi⟩, by simpa using size⟩
    case assign =>
      rintro n' l pre x args G W K hI ⟨pv', tv, rfl, hp, ht, hx⟩ hz hK
      obtain ⟨b0, c0, rfl⟩ := ints_form hp
      have hp2 := intsF_of hp
      simp only [List.length_map] at hp2 ⊢
      clear hp
      gi_wp2
      exact hK _ _ (But.refl _ _) (Below.refl _ _) hI ⟨b0, c0, _, tv, _, _, _, _, _, _, _, _, _, _, _, _, _, _, _, _, _, _, _, _, _, _, _, _, _, _, hx, hp2, rfl⟩
    case body =>
      rintro n' l pre x a' G W ⟨g, nc, no, size⟩ ⟨b0, c0, pv', tv, u0, u1, u2, u7, u8, u9, u11, u12, u13, u14, u15, u16, u17, u18, u19, u20, u21, u22, u23, u24, u25, u26, u27, u28, u29, u30, hx, hpi, rfl⟩ hz
      have hG1 : G (w.heap.size + 1) := (g _).2 (by omega)
      have hG2 : G (w.heap.size + 1 + 1) := (g _).2 (by omega)
      have hG3 : G (w.heap.size + 1 + 1 + 1) := (g _).2 (by omega)
      have HG := Lib.hid g
      have hpl2 := path_len hx
      have hxl : (pathInts x.p).length ≤ 1000000 := by simp at hpl2 ⊢; omega
      have CM := Lib.hid (compareInts_any (pathInts x.p) p _ _ W (intsF_lies hpi) (ints_below HP.out nc.bel) hxl hpl)
      have CL := Lib.hid (cloneInts_any _ (pathInts x.p) W (intsF_lies hpi) hxl)
      have HNV := Lib.hid (nextV_snoc (x := x) no)
      have NCC := Lib.hid nc
      have HXL := Lib.hid (show (pathInts x.p).length = x.p.length by simp)
      clear g no hx hpl2 hxl
      obtain ⟨c0', c1, f1, c2, f2, c3, f3, size', bel⟩ := nc
      gi_wp2_with fail
      refine ⟨trivial, fun h => (by cases h), (CallsIn.inRound l (callsIn_wide.2 CM.out)).mono ?_⟩
      rintro e w3 ⟨rfl, rfl⟩
      generalize cmpL (pathInts x.p) p = c at *
      by_cases hc : 0 < c
      · have dc : decide (0 < c) = true := by simpa using hc
        have HNX := Lib.hid (HNV.out.trans (if_pos hc))
        clear hc
        gi_wp2_with fail
        refine ⟨trivial, fun h => (by cases h), (CallsIn.inRound l (callsIn_wide.2 CL.out)).mono ?_⟩
        rintro e w4 ⟨v4, rfl, hi4, hb4⟩
        obtain ⟨a4, cap4, rfl⟩ := intsF_form hi4
        have N4 := Lib.hid (NCC.out.below hb4)
        have hs4 := hb4.size
        have HB4 := Lib.hid hb4
        have HI4 := Lib.hid hi4
        clear c0' c1 f1 c2 f2 c3 f3 size' bel hb4 hi4
        obtain ⟨c0', c1, f1, c2, f2, c3, f3, size', bel⟩ := N4.out
        gi_wp2_with fail
        have N5 := N4.out.set3 (.slice a4 x.p.length cap4) (.bool true) (.int .i64 0)
        have hkp := ((Keeps.setCell (B := w.heap.size + 4) w4 (b := w.heap.size + 1) (by omega) 0 (.slice a4 x.p.length cap4)).trans (Keeps.setCell _ (b := w.heap.size + 1 + 1) (by omega) 0 (.bool true))).trans (Keeps.setCell _ (b := w.heap.size + 1 + 1 + 1) (by omega) 0 (.int .i64 0))
        have hi5 := intsF_keeps (intsF_mono (B' := w.heap.size + 4) (by have := NCC.out.size; omega) HI4.out) hkp
        have hz5 := hkp.1
        exact ⟨(((But.of_below HB4.out).trans (But.setCell _ hG1 _)).trans (But.setCell _ hG2 _)).trans (But.setCell _ hG3 _), rfl, ⟨pathInts x.p, a4, cap4, HNX.out, by rw [HXL.out]; exact N5, hi5⟩, by omega⟩
      · have dc : decide (0 < c) = false := by simpa using hc
        have HNX := Lib.hid (HNV.out.trans (if_neg hc))
        clear hc
        gi_wp2_with fail
        exact ⟨But.refl _ _, Below.refl _ _, G, fun k hk => .inl hk, HG.out, NCC.out, HNX.out, size⟩
    case done =>
      rintro D ys G W hD rfl ⟨g, nc, no, size⟩ hK
      have NCC := Lib.hid nc
      obtain ⟨c0, c1, f1, c2, f2, c3, f3, size', bel⟩ := nc
      gi_wp2
      have HN := Lib.hid (show nextF f p = ([], false, 0) by rw [HR.out, no])
      clear c0 c1 f1 c2 f2 c3 f3 bel
      have hK2 : (((W.setCell ⟨w.heap.size + 1, 0, none⟩ (.slice none 0 0)).setCell ⟨w.heap.size + 1 + 1, 0, none⟩ (.bool false)).setCell ⟨w.heap.size + 1 + 1 + 1, 0, none⟩ (.int .i64 0)).heap[D]? = some (.deferred (some [])) := (((KeepsOthers.setCell W _ _).trans (KeepsOthers.setCell _ _ _)).trans (KeepsOthers.setCell _ _ _)).same D _ hK rfl
      refine ⟨by simp, .inl ⟨_, _, rfl, run_takeDeferred hK2, ?_⟩⟩
      have hb2 := belowK_b (w := W0) (Nat.le_refl _) _ D _ (.deferred none) (by simpa using hD) hK2 rfl rfl
      have N3 := NCC.out.set3 (.slice none 0 0) (.bool false) (.int .i64 0)
      have N4 := N3.same (fun k _ hk => hb2.block k (by omega)) hb2.size (N3.bel.trans (hb2.mono (by omega)))
      generalize (((W.setCell ⟨w.heap.size + 1, 0, none⟩ (.slice none 0 0)).setCell ⟨w.heap.size + 1 + 1, 0, none⟩ (.bool false)).setCell ⟨w.heap.size + 1 + 1 + 1, 0, none⟩ (.int .i64 0)).putObj D (.deferred none) = Wf at N4 ⊢
      obtain ⟨c0, c1, f1, c2, f2, c3, f3, size', bel⟩ := N4
      refine ⟨.tuple #[.slice none 0 0, .bool false, .int .i64 0], by simp (maxDischargeDepth := 8) [results, go_sem, Tryz.results38, c1, c2, c3], ?_⟩
      rw [HN.out]
      exact ⟨none, 0, rfl, .inl ⟨_, _, rfl, rfl⟩, bel⟩
    case stop =>
      rintro D c pre W hD hp ⟨rfl, ⟨q, aq, capq, hq, nc, hi⟩, size⟩ hK
      have HN := Lib.hid (show nextF f p = (q, true, 0) by rw [HR.out, nextV_pre hp hq])
      gi_wp2
      refine ⟨by simp, .inl ⟨_, _, rfl, run_takeDeferred hK, ?_⟩⟩
      have hb2 := belowK_b (w := W0) (Nat.le_refl _) _ D _ (.deferred none) (by simpa using hD) hK rfl rfl
      have N4 := nc.same (fun k _ hk => hb2.block k (by omega)) hb2.size (nc.bel.trans (hb2.mono (by omega)))
      have hi4 := intsF_putObj (o' := .deferred none) hK rfl hi
      generalize W.putObj D (.deferred none) = Wf at N4 hi4 ⊢
      obtain ⟨c0, c1, f1, c2, f2, c3, f3, size', bel⟩ := N4
      refine ⟨.tuple #[.slice aq q.length capq, .bool true, .int .i64 0], by simp (maxDischargeDepth := 8) [results, go_sem, Tryz.results38, c1, c2, c3], ?_⟩
      rw [HN.out]
      exact ⟨aq, capq, rfl, intsF_mono (by omega) hi4, bel⟩
  | false =>
    have hp0 : p = [] := hgo.resolve_left (by decide)
    have hpd : decide ((0 : Int) < (p.length : Int)) = false := decide_eq_false (by rw [hp0]; simp)
    have hpd2 : decide (0 < p.length) = false := decide_eq_false (by rw [hp0]; simp)
    clear hp0
    gi_wp2_with (refine ⟨trivial, ?_⟩; gi_at_call 79; refine (trees_in _ _ _ _ _).mono ?_; rintro e w' ⟨rfl, rfl⟩)
    obtain ⟨W0, hW0⟩ : ∃ W0, (w2.alloc (.cells #[.int .i64 h.k, .string ⟨h.l.toArray⟩, .slice aa h.ats.length ca, .int .i64 h.n, .int .i64 h.d, .string ⟨h.x.toArray⟩, .slice ak ks.len ck] 43)).alloc (.cells #[.slice a f.len cap] 28) = W0 := ⟨_, rfl⟩
    have hz0 : W0.heap.size = w2.heap.size + 1 + 1 := by rw [← hW0]; simp
    have hx0 : Below w2.heap.size w2 W0 := by rw [← hW0]; exact ((Below.refl _ _).alloc (Nat.le_refl _) _).alloc (by simp) _
    have hN0 : NxI w (w2.heap.size + 1 + 1) p (.slice pa p.length pc) [] (fun k => k < w2.heap.size + 1 + 1) W0 := ⟨fun _ => Iff.rfl, N2.out.below hx0, rfl, by omega⟩
    have hB0 := hN0.nc.bel
    have hc0 : W0.cell? ⟨w2.heap.size + 1, 0, none⟩ = some (.slice a f.len cap) := by rw [← hW0]; simp [go_sem]
    rw [hW0]
    clear hW0 hx0 c0 c1 f1 c2 f2 c3 f3 bel z0 z1 z2 z3
    refine range_own (gf := 123) (lb := #[.pointer (some ⟨w2.heap.size + 1, 0, none⟩)]) rfl (enters_of Tryz.func123 (by kernel_rfl) rfl)
      (trees_seq f (.slice a f.len cap) w (w2.heap.size + 1) HL.out (by omega)) (by omega) ?st (fun x args W h => by obtain ⟨_, _, rfl, _⟩ := h; rfl)
      (NxI w (w2.heap.size + 1 + 1) p (.slice pa p.length pc)) (fun c pre W => c = .ret ∧ NxX w (w2.heap.size + 1 + 1) p (.slice pa p.length pc) pre W) (fun k => k < w2.heap.size + 1 + 1) ?hI ?hIs ?hIx (fun k hk => by omega) hN0
      (fun x a' W => ∃ (b0 : Option Addr) (c0 : Nat) (pv' tv : Value) (u0 u1 u2 u7 u8 u9 u11 u12 u13 u14 u15 u16 u17 u18 u19 u20 u21 u22 u23 u24 u25 u26 u27 u28 u29 u30 : Value), x ∈ seqAt [] 0 f ∧ IntsF 0 W (.slice b0 x.p.length c0) (pathInts x.p) ∧ a' = { tmps := #[u0, u1, u2, .pointer (some ⟨w.heap.size, 0, none⟩), .pointer (some ⟨w.heap.size + 1, 0, none⟩), .pointer (some ⟨w.heap.size + 1 + 1, 0, none⟩), .pointer (some ⟨w.heap.size + 1 + 1 + 1, 0, none⟩), u7, u8, u9, .slice b0 x.p.length c0, u11, u12, u13, u14, u15, u16, u17, u18, u19, u20, u21, u22, u23, u24, u25, u26, u27, u28, u29, u30, pv', tv, undef, undef, undef, undef, undef, undef], defers := [] })
      (fun x a' W l o o' hl ho h => by
        obtain ⟨b0, c0, pv', tv, u0, u1, u2, u7, u8, u9, u11, u12, u13, u14, u15, u16, u17, u18, u19, u20, u21, u22, u23, u24, u25, u26, u27, u28, u29, u30, h1, h2, h3⟩ := h
        exact ⟨b0, c0, pv', tv, u0, u1, u2, u7, u8, u9, u11, u12, u13, u14, u15, u16, u17, u18, u19, u20, u21, u22, u23, u24, u25, u26, u27, u28, u29, u30, h1, intsF_putObj hl ho h2, h3⟩) ?assign ?body ?done ?stop
    case st =>
      intro o
      refine ⟨hB0.trans ((((Below.refl _ W0).alloc (Nat.le_refl _) _).alloc (by simp) _).mono hB0.size), ?_⟩
      simp [go_sem, hz0, hc0]
    case hI => exact fun s G W W' h sp => h.spared sp (by omega)
    case hIs =>
      rintro s G W ⟨g, nc, no, size⟩ k hk
      have := (g k).1 hk; omega
    case hIx =>
      rintro c s W l o o' hl ho hc ⟨rfl, ⟨q, a, cap, hq, nc, hi⟩, size⟩
      exact ⟨rfl, ⟨q, a, cap, hq, nc.same (fun k _ hk => World.putObj_heap_other (by omega)) (by simp) (nc.bel.trans ⟨rfl, rfl, rfl, by simp, fun k hk => World.putObj_heap_other (by omega)⟩), intsF_putObj ho hc hi⟩, by simpa using size⟩
    case assign =>
      rintro n' l pre x args G W K hI ⟨pv', tv, rfl, hp, ht, hx⟩ hz hK
      obtain ⟨b0, c0, rfl⟩ := ints_form hp
      have hp2 := intsF_of hp
      simp only [List.length_map] at hp2 ⊢
      clear hp
      gi_wp2
      exact hK _ _ (But.refl _ _) (Below.refl _ _) hI ⟨b0, c0, _, tv, _, _, _, _, _, _, _, _, _, _, _, _, _, _, _, _, _, _, _, _, _, _, _, _, _, _, hx, hp2, rfl⟩
    case body =>
      rintro n' l pre x a' G W ⟨g, nc, no, size⟩ ⟨b0, c0, pv', tv, u0, u1, u2, u7, u8, u9, u11, u12, u13, u14, u15, u16, u17, u18, u19, u20, u21, u22, u23, u24, u25, u26, u27, u28, u29, u30, hx, hpi, rfl⟩ hz
      have hG1 : G (w.heap.size + 1) := (g _).2 (by omega)
      have hG2 : G (w.heap.size + 1 + 1) := (g _).2 (by omega)
      have hG3 : G (w.heap.size + 1 + 1 + 1) := (g _).2 (by omega)
      have HG := Lib.hid g
      have hpl2 := path_len hx
      have hxl : (pathInts x.p).length ≤ 1000000 := by simp at hpl2 ⊢; omega
      have CM := Lib.hid (compareInts_any (pathInts x.p) p _ _ W (intsF_lies hpi) (ints_below HP.out nc.bel) hxl hpl)
      have CL := Lib.hid (cloneInts_any _ (pathInts x.p) W (intsF_lies hpi) hxl)
      have HNV := Lib.hid (nextV_snoc (x := x) no)
      have NCC := Lib.hid nc
      have HXL := Lib.hid (show (pathInts x.p).length = x.p.length by simp)
      clear g no hx hpl2 hxl
      obtain ⟨c0', c1, f1, c2, f2, c3, f3, size', bel⟩ := nc
      gi_wp2_with fail
      refine ⟨trivial, fun h => (by cases h), (CallsIn.inRound l (callsIn_wide.2 CM.out)).mono ?_⟩
      rintro e w3 ⟨rfl, rfl⟩
      generalize cmpL (pathInts x.p) p = c at *
      by_cases hc : 0 < c
      · have dc : decide (0 < c) = true := by simpa using hc
        have HNX := Lib.hid (HNV.out.trans (if_pos hc))
        clear hc
        gi_wp2_with fail
        refine ⟨trivial, fun h => (by cases h), (CallsIn.inRound l (callsIn_wide.2 CL.out)).mono ?_⟩
        rintro e w4 ⟨v4, rfl, hi4, hb4⟩
        obtain ⟨a4, cap4, rfl⟩ := intsF_form hi4
        have N4 := Lib.hid (NCC.out.below hb4)
        have hs4 := hb4.size
        have HB4 := Lib.hid hb4
        have HI4 := Lib.hid hi4
        clear c0' c1 f1 c2 f2 c3 f3 size' bel hb4 hi4
        obtain ⟨c0', c1, f1, c2, f2, c3, f3, size', bel⟩ := N4.out
        gi_wp2_with fail
        have N5 := N4.out.set3 (.slice a4 x.p.length cap4) (.bool true) (.int .i64 0)
        have hkp := ((Keeps.setCell (B := w.heap.size + 4) w4 (b := w.heap.size + 1) (by omega) 0 (.slice a4 x.p.length cap4)).trans (Keeps.setCell _ (b := w.heap.size + 1 + 1) (by omega) 0 (.bool true))).trans (Keeps.setCell _ (b := w.heap.size + 1 + 1 + 1) (by omega) 0 (.int .i64 0))
        have hi5 := intsF_keeps (intsF_mono (B' := w.heap.size + 4) (by have := NCC.out.size; omega) HI4.out) hkp
        have hz5 := hkp.1
        exact ⟨(((But.of_below HB4.out).trans (But.setCell _ hG1 _)).trans (But.setCell _ hG2 _)).trans (But.setCell _ hG3 _), rfl, ⟨pathInts x.p, a4, cap4, HNX.out, by rw [HXL.out]; exact N5, hi5⟩, by omega⟩
      · have dc : decide (0 < c) = false := by simpa using hc
        have HNX := Lib.hid (HNV.out.trans (if_neg hc))
        clear hc
        gi_wp2_with fail
        exact ⟨But.refl _ _, Below.refl _ _, G, fun k hk => .inl hk, HG.out, NCC.out, HNX.out, size⟩
    case done =>
      rintro D ys G W hD rfl ⟨g, nc, no, size⟩ hK
      have NCC := Lib.hid nc
      obtain ⟨c0, c1, f1, c2, f2, c3, f3, size', bel⟩ := nc
      gi_wp2
      have HN := Lib.hid (show nextF f p = ([], false, 0) by rw [HR.out, no])
      clear c0 c1 f1 c2 f2 c3 f3 bel
      have hK2 : (((W.setCell ⟨w.heap.size + 1, 0, none⟩ (.slice none 0 0)).setCell ⟨w.heap.size + 1 + 1, 0, none⟩ (.bool false)).setCell ⟨w.heap.size + 1 + 1 + 1, 0, none⟩ (.int .i64 0)).heap[D]? = some (.deferred (some [])) := (((KeepsOthers.setCell W _ _).trans (KeepsOthers.setCell _ _ _)).trans (KeepsOthers.setCell _ _ _)).same D _ hK rfl
      refine ⟨by simp, .inl ⟨_, _, rfl, run_takeDeferred hK2, ?_⟩⟩
      have hb2 := belowK_b (w := W0) (Nat.le_refl _) _ D _ (.deferred none) (by simpa using hD) hK2 rfl rfl
      have N3 := NCC.out.set3 (.slice none 0 0) (.bool false) (.int .i64 0)
      have N4 := N3.same (fun k _ hk => hb2.block k (by omega)) hb2.size (N3.bel.trans (hb2.mono (by omega)))
      generalize (((W.setCell ⟨w.heap.size + 1, 0, none⟩ (.slice none 0 0)).setCell ⟨w.heap.size + 1 + 1, 0, none⟩ (.bool false)).setCell ⟨w.heap.size + 1 + 1 + 1, 0, none⟩ (.int .i64 0)).putObj D (.deferred none) = Wf at N4 ⊢
      obtain ⟨c0, c1, f1, c2, f2, c3, f3, size', bel⟩ := N4
      refine ⟨.tuple #[.slice none 0 0, .bool false, .int .i64 0], by simp (maxDischargeDepth := 8) [results, go_sem, Tryz.results38, c1, c2, c3], ?_⟩
      rw [HN.out]
      exact ⟨none, 0, rfl, .inl ⟨_, _, rfl, rfl⟩, bel⟩
    case stop =>
      rintro D c pre W hD hp ⟨rfl, ⟨q, aq, capq, hq, nc, hi⟩, size⟩ hK
      have HN := Lib.hid (show nextF f p = (q, true, 0) by rw [HR.out, nextV_pre hp hq])
      gi_wp2
      refine ⟨by simp, .inl ⟨_, _, rfl, run_takeDeferred hK, ?_⟩⟩
      have hb2 := belowK_b (w := W0) (Nat.le_refl _) _ D _ (.deferred none) (by simpa using hD) hK rfl rfl
      have N4 := nc.same (fun k _ hk => hb2.block k (by omega)) hb2.size (nc.bel.trans (hb2.mono (by omega)))
      have hi4 := intsF_putObj (o' := .deferred none) hK rfl hi
      generalize W.putObj D (.deferred none) = Wf at N4 hi4 ⊢
      obtain ⟨c0, c1, f1, c2, f2, c3, f3, size', bel⟩ := N4
      refine ⟨.tuple #[.slice aq q.length capq, .bool true, .int .i64 0], by simp (maxDischargeDepth := 8) [results, go_sem, Tryz.results38, c1, c2, c3], ?_⟩
      rw [HN.out]
      exact ⟨aq, capq, rfl, intsF_mono (by omega) hi4, bel⟩

theorem next_any (f : Fo) (p : List Int) (v pv : Value) (w : World) (hl : Lies w v f) (hs : Small f) (hp : IntsLie w pv p) (hpl : p.length ≤ 1000000) :
    Calls Tryz.prog 38 #[v, pv] w (NextRes w (nextF f p)) := by
  by_cases he : foErr f = 0
  · by_cases h : (placeF f p).isSome = false ∧ p ≠ []
    · exact next_absent f p v pv w hl hs hp hpl he h.1 h.2
    · refine callsIn_wide.1 (next_in f p v pv w hl hs hp hpl he ?_)
      by_cases hp0 : p = []
      · exact .inr hp0
      · refine .inl ?_
        cases hq : (placeF f p).isSome with
        | true => rfl
        | false => exact absurd ⟨hq, hp0⟩ h
  · exact next_err f p v pv w hl hs hp he
end Go.Proofs.YtcgedpfolloinaaGreat
