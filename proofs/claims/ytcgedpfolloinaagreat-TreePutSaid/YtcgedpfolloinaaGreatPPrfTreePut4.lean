/- What the proof of PrfTreePut rests on, part 4 of 11. -/
import Derived.OwnWalk
import Derived.Laws.MakeOwn
import Derived.Lib.OthersKept
import Derived.Lib.AppendStr
import Derived.Lib.UnsafeStr
import Derived.Laws.Externs
import Derived.Test.YtcgedpfolloinaaGreatPPrfTreePut3
namespace Go.Proofs.YtcgedpfolloinaaGreat
open Go.RowKit

def placeErr (f : Fo) (p : List Int) : Int := if p = [] then 10 else if (placeF f p).isSome = true then 0 else 6
set_option maxHeartbeats 1000000 in
theorem checkPlace_any (f : Fo) (p : List Int) (v pv : Value) (w : World) (hl : Lies w v f) (hp : IntsLie w pv p) (hpl : p.length ≤ 1000000) :
    Calls Tryz.prog 91 #[v, pv] w fun e w' => e = .returned (.int .i64 (placeErr f p)) ∧ Below w.heap.size w w' := by
  have T := Lib.hid (treeAt_any f p v pv w hl hp hpl)
  obtain ⟨a, cap, rfl⟩ := lies_form hl
  obtain ⟨pa, pc, rfl⟩ := ints_form hp
  clear hl hp
  by_cases h0 : p = []
  · subst h0
    go_enter Tryz.func91, Tryz.ntmps91
    go_wp2_with fail
    go_ret
    exact ⟨rfl, Below.refl _ _⟩
  · have hpos : ((p.length : Int) == 0) = false := by simpa using h0
    have HE := Lib.hid (show placeErr f p = if (placeF f p).isSome = true then 0 else 6 from if_neg h0)
    clear h0
    generalize placeF f p = o at *
    go_enter Tryz.func91, Tryz.ntmps91
    go_wp2_with fail
    refine T.out.mono ?_
    rintro e w1 ⟨h, ks, aa, ca, ak, ck, rfl, ha, hk, ho, hb1⟩
    unfold aggOf
    clear ha hk ho
    have hs1 := hb1.size
    cases o with
    | none =>
      go_wp2_with fail
      go_ret
      exact ⟨ret_int' HE.out.symm, by ((repeat' (first | exact Below.refl _ _ | assumption | refine Below.setCell ?_ ?_ _ | refine bdrewN ?_ _ | refine Below.drew ?_ | refine Below.alloc ?_ ?_ _ | refine bbehind ?_ (by assumption) ?_)); all_goals first | (simp; done) | (simp; omega) | omega)⟩
    | some q =>
      go_wp2_with fail
      go_ret
      exact ⟨ret_int' HE.out.symm, by ((repeat' (first | exact Below.refl _ _ | assumption | refine Below.setCell ?_ ?_ _ | refine bdrewN ?_ _ | refine Below.drew ?_ | refine Below.alloc ?_ ?_ _ | refine bbehind ?_ (by assumption) ?_)); all_goals first | (simp; done) | (simp; omega) | omega)⟩

theorem info_attr : (Tryz.prog.info? 81).map (fun i => (i.zero, i.size, i.bytes)) = some (some (.agg #[.string ⟨#[]⟩, .string ⟨#[]⟩]), 2, 32) := by kernel_rfl
/-- the cells of attributes. -/
def attrCells (l : List (List UInt8 × List UInt8)) : List Value := l.flatMap fun q => [.string ⟨q.1.toArray⟩, .string ⟨q.2.toArray⟩]
theorem attrCells_len (l : List (List UInt8 × List UInt8)) : (attrCells l).length = l.length * 2 := by
  unfold attrCells
  induction l with
  | nil => rfl
  | cons a t ih => rw [List.flatMap_cons, List.length_append, ih]; simp; omega
theorem attrCells_at : ∀ (l : List (List UInt8 × List UInt8)) (k : Nat), k < l.length → (attrCells l)[k * 2]? = some (.string ⟨(l.getD k ([], [])).1.toArray⟩) ∧ (attrCells l)[k * 2 + 1]? = some (.string ⟨(l.getD k ([], [])).2.toArray⟩)
  | [], k, h => by simp at h
  | a :: t, 0, _ => by simp [attrCells]
  | a :: t, k + 1, h => by
    have := attrCells_at t k (by simpa using h)
    have e : attrCells (a :: t) = .string ⟨a.1.toArray⟩ :: .string ⟨a.2.toArray⟩ :: attrCells t := rfl
    rw [e, show (k + 1) * 2 = k * 2 + 1 + 1 by omega]
    simpa using this
end Go.Proofs.YtcgedpfolloinaaGreat

namespace Go.Proofs.YtcgedpfolloinaaGreat
open Go.RowKit

/-- attributes that lie in no block below B. -/
def AttrsF (B : Nat) (w : World) (v : Value) (l : List (List UInt8 × List UInt8)) : Prop :=
  (∃ a cap, v = .slice a 0 cap ∧ l = []) ∨ ∃ b off cap, v = .slice (some ⟨b, off, none⟩) l.length cap ∧ l.length ≤ cap ∧ l.length ≤ 4398046510976 ∧ B ≤ b ∧ b < w.heap.size ∧
    ∀ k, k < l.length → w.cell? ⟨b, off + k * 2, none⟩ = some (.string ⟨(l.getD k ([], [])).1.toArray⟩) ∧ w.cell? ⟨b, off + k * 2 + 1, none⟩ = some (.string ⟨(l.getD k ([], [])).2.toArray⟩)
def HdF (B : Nat) (w : World) (h : Hd) (b o : Nat) : Prop :=
  w.cell? ⟨b, o, none⟩ = some (.int .i64 h.k) ∧ w.cell? ⟨b, o + 1, none⟩ = some (.string ⟨h.l.toArray⟩) ∧ (∃ va, w.cell? ⟨b, o + 2, none⟩ = some va ∧ AttrsF B w va h.ats) ∧
  w.cell? ⟨b, o + 3, none⟩ = some (.int .i64 h.n) ∧ w.cell? ⟨b, o + 4, none⟩ = some (.int .i64 h.d) ∧ w.cell? ⟨b, o + 5, none⟩ = some (.string ⟨h.x.toArray⟩)
def RowF (B : Nat) (w : World) : Fo → Nat → Nat → Prop
  | .nil, _, _ => True
  | .cons h ks r, b, o => HdF B w h b o ∧ (∃ v, w.cell? ⟨b, o + 6, none⟩ = some v ∧
      ((∃ a cap, v = .slice a 0 cap ∧ ks = .nil) ∨ ∃ b' o' cap, v = .slice (some ⟨b', o', none⟩) ks.len cap ∧ ks.len ≤ cap ∧ ks.len ≤ 2000000000000 ∧ B ≤ b' ∧ b' < w.heap.size ∧ RowF B w ks b' o')) ∧ RowF B w r b (o + 7)
def LiesF (B : Nat) (w : World) (v : Value) (f : Fo) : Prop :=
  (∃ a cap, v = .slice a 0 cap ∧ f = .nil) ∨ ∃ b o cap, v = .slice (some ⟨b, o, none⟩) f.len cap ∧ f.len ≤ cap ∧ f.len ≤ 2000000000000 ∧ B ≤ b ∧ b < w.heap.size ∧ RowF B w f b o

/-- from block B on nothing is written that was there. -/
def Keeps (B : Nat) (w w' : World) : Prop := w.heap.size ≤ w'.heap.size ∧ ∀ b o, B ≤ b → b < w.heap.size → w'.cell? ⟨b, o, none⟩ = w.cell? ⟨b, o, none⟩
theorem Keeps.refl (B : Nat) (w : World) : Keeps B w w := ⟨Nat.le_refl _, fun _ _ _ _ => rfl⟩
theorem Keeps.trans {B : Nat} {a b c : World} (h : Keeps B a b) (k : Keeps B b c) : Keeps B a c :=
  ⟨Nat.le_trans h.1 k.1, fun x o hx hl => (k.2 x o hx (Nat.lt_of_lt_of_le hl h.1)).trans (h.2 x o hx hl)⟩
theorem Keeps.of_below {B : Nat} {w w' : World} (k : Below w.heap.size w w') : Keeps B w w' := ⟨k.size, fun b o _ h => (bcell k).1 b o h⟩
theorem Keeps.setCell {B : Nat} (w : World) {b : Nat} (h : b < B) (o : Nat) (u : Value) : Keeps B w (w.setCell ⟨b, o, none⟩ u) :=
  ⟨Nat.le_of_eq set_size'.symm, fun x o' hx _ => World.cell?_of_block (w := w) (set_far (k := x) (by omega))⟩

theorem attrsF_keeps {B : Nat} {w w' : World} {v : Value} {l : List (List UInt8 × List UInt8)} (h : AttrsF B w v l) (k : Keeps B w w') : AttrsF B w' v l := by
  rcases h with h | ⟨b, off, cap, h1, h0, h4, h5, h2, h3⟩
  · exact .inl h
  · exact .inr ⟨b, off, cap, h1, h0, h4, h5, Nat.lt_of_lt_of_le h2 k.1, fun i hi => ⟨(k.2 _ _ h5 h2).trans (h3 i hi).1, (k.2 _ _ h5 h2).trans (h3 i hi).2⟩⟩
theorem rowF_keeps {B : Nat} {w w' : World} (k : Keeps B w w') : ∀ (f : Fo) (b o : Nat), B ≤ b → b < w.heap.size → RowF B w f b o → RowF B w' f b o
  | .nil, _, _, _, _, _ => trivial
  | .cons h ks r, b, o, hB, hb, H => by
    obtain ⟨⟨h0, h1, ⟨va, h2, ha⟩, h3, h4, h5⟩, ⟨v, h6, h7⟩, h8⟩ := H
    have hc := fun o => k.2 b o hB hb
    refine ⟨⟨(hc _).trans h0, (hc _).trans h1, ⟨va, (hc _).trans h2, attrsF_keeps ha k⟩, (hc _).trans h3, (hc _).trans h4, (hc _).trans h5⟩, ⟨v, (hc _).trans h6, ?_⟩, rowF_keeps k r b (o + 7) hB hb h8⟩
    rcases h7 with h7 | ⟨b', o', cap, e, e0, e3, eB, e1, e2⟩
    · exact .inl h7
    · exact .inr ⟨b', o', cap, e, e0, e3, eB, Nat.lt_of_lt_of_le e1 k.1, rowF_keeps k ks b' o' eB e1 e2⟩
theorem liesF_keeps {B : Nat} {w w' : World} {v : Value} {f : Fo} (h : LiesF B w v f) (k : Keeps B w w') : LiesF B w' v f := by
  rcases h with h | ⟨b, o, cap, h1, h0, h4, h5, h2, h3⟩
  · exact .inl h
  · exact .inr ⟨b, o, cap, h1, h0, h4, h5, Nat.lt_of_lt_of_le h2 k.1, rowF_keeps k f b o h5 h2 h3⟩
theorem attrsF_lies {B : Nat} {w : World} {v : Value} {l : List (List UInt8 × List UInt8)} (h : AttrsF B w v l) : AttrsLie w v l := by
  rcases h with h | ⟨b, off, cap, h1, h0, h4, h5, h2, h3⟩
  · exact .inl h
  · exact .inr ⟨b, off, cap, h1, h0, h4, h2, h3⟩
theorem rowF_lies {B : Nat} {w : World} : ∀ (f : Fo) (b o : Nat), RowF B w f b o → RowAt w f b o
  | .nil, _, _, _ => trivial
  | .cons h ks r, b, o, H => by
    obtain ⟨⟨h0, h1, ⟨va, h2, ha⟩, h3, h4, h5⟩, ⟨v, h6, h7⟩, h8⟩ := H
    refine ⟨⟨h0, h1, ⟨va, h2, attrsF_lies ha⟩, h3, h4, h5⟩, ⟨v, h6, ?_⟩, rowF_lies r b (o + 7) h8⟩
    rcases h7 with h7 | ⟨b', o', cap, e, e0, e3, eB, e1, e2⟩
    · exact .inl h7
    · exact .inr ⟨b', o', cap, e, e0, e3, e1, rowF_lies ks b' o' e2⟩
theorem liesF_lies {B : Nat} {w : World} {v : Value} {f : Fo} (h : LiesF B w v f) : Lies w v f := by
  rcases h with h | ⟨b, o, cap, h1, h0, h4, h5, h2, h3⟩
  · exact .inl h
  · exact .inr ⟨b, o, cap, h1, h0, h4, h2, rowF_lies f b o h3⟩
theorem attrsF_mono {B B' : Nat} (hB : B' ≤ B) {w : World} {v : Value} {l : List (List UInt8 × List UInt8)} (h : AttrsF B w v l) : AttrsF B' w v l := by
  rcases h with h | ⟨b, off, cap, h1, h0, h4, h5, h2, h3⟩
  · exact .inl h
  · exact .inr ⟨b, off, cap, h1, h0, h4, Nat.le_trans hB h5, h2, h3⟩
theorem rowF_mono {B B' : Nat} (hB : B' ≤ B) {w : World} : ∀ (f : Fo) (b o : Nat), RowF B w f b o → RowF B' w f b o
  | .nil, _, _, _ => trivial
  | .cons h ks r, b, o, H => by
    obtain ⟨⟨h0, h1, ⟨va, h2, ha⟩, h3, h4, h5⟩, ⟨v, h6, h7⟩, h8⟩ := H
    refine ⟨⟨h0, h1, ⟨va, h2, attrsF_mono hB ha⟩, h3, h4, h5⟩, ⟨v, h6, ?_⟩, rowF_mono hB r b (o + 7) h8⟩
    rcases h7 with h7 | ⟨b', o', cap, e, e0, e3, eB, e1, e2⟩
    · exact .inl h7
    · exact .inr ⟨b', o', cap, e, e0, e3, Nat.le_trans hB eB, e1, rowF_mono hB ks b' o' e2⟩
theorem liesF_mono {B B' : Nat} (hB : B' ≤ B) {w : World} {v : Value} {f : Fo} (h : LiesF B w v f) : LiesF B' w v f := by
  rcases h with h | ⟨b, o, cap, h1, h0, h4, h5, h2, h3⟩
  · exact .inl h
  · exact .inr ⟨b, o, cap, h1, h0, h4, Nat.le_trans hB h5, h2, rowF_mono hB f b o h3⟩
/-- tree by tree. -/
def TreesF (B : Nat) (w : World) (f : Fo) (b o n : Nat) : Prop :=
  ∀ j h ks, j < n → f.drop j = .cons h ks (f.drop (j + 1)) → HdF B w h b (o + j * 7) ∧ ∃ v, w.cell? ⟨b, o + j * 7 + 6, none⟩ = some v ∧ LiesF B w v ks
theorem rowF_of {B : Nat} {w : World} {b : Nat} : ∀ (f : Fo) (o : Nat), TreesF B w f b o f.len → RowF B w f b o
  | .nil, _, _ => trivial
  | .cons h ks r, o, H => by
    have h0 := H 0 h ks (by simp [Fo.len]) rfl
    simp only [Nat.zero_mul, Nat.add_zero] at h0
    refine ⟨h0.1, h0.2, rowF_of r (o + 7) fun j h' ks' hj e => ?_⟩
    have := H (j + 1) h' ks' (by simp [Fo.len]; omega) e
    rw [show o + (j + 1) * 7 = o + 7 + j * 7 by omega] at this
    exact this
theorem attrsF_form {B : Nat} {w : World} {v : Value} {l : List (List UInt8 × List UInt8)} (h : AttrsF B w v l) : ∃ a cap, v = .slice a l.length cap := attrs_form (attrsF_lies h)
theorem liesF_form {B : Nat} {w : World} {v : Value} {f : Fo} (h : LiesF B w v f) : ∃ a cap, v = .slice a f.len cap := lies_form (liesF_lies h)
theorem attrsF_owned {W : World} {base : Nat} {v : Value} {l : List (List UInt8 × List UInt8)} (h : W.ownsRow base 81 2 v l.length (attrCells l)) (hl : l.length ≤ 4398046510976) : AttrsF base W v l := by
  rcases h.2 with ⟨rfl, h0⟩ | ⟨g, cap, cur, rfl, hb, hg, hn, hcap, hs, ht⟩
  · exact .inl ⟨_, _, rfl, List.eq_nil_of_length_eq_zero h0⟩
  · refine .inr ⟨g, 0, cap, rfl, hn, hl, hb, ?_, fun k hk => ?_⟩
    · rcases Nat.lt_or_ge g W.heap.size with hlt | hge
      · exact hlt
      · rw [Array.getElem?_eq_none hge] at hg; cases hg
    · obtain ⟨e1, e2⟩ := attrCells_at l k hk
      rw [← ht, List.getElem?_take, if_pos (by omega), Array.getElem?_toList] at e1 e2
      rw [Nat.zero_add]
      exact ⟨cell_of_block hg e1, cell_of_block hg e2⟩
/- seven cells of a row are written. -/
theorem set7_row {W : World} {R o : Nat} {C : Array Value} {T : TypeId} (b0 b1 b2 b3 b4 b5 b6 : Value) (h : W.heap[R]? = some (.cells C T (0, 0))) (ho : o + 7 ≤ C.size) :
    ∃ C' : Array Value, (((((((W.setCell ⟨R, o, none⟩ b0).setCell ⟨R, o + 1, none⟩ b1).setCell ⟨R, o + 2, none⟩ b2).setCell ⟨R, o + 3, none⟩ b3).setCell ⟨R, o + 4, none⟩ b4).setCell ⟨R, o + 5, none⟩ b5).setCell ⟨R, o + 6, none⟩ b6).heap[R]? = some (.cells C' T (0, 0)) ∧ C'.size = C.size ∧
      C'[o]? = some b0 ∧ C'[o + 1]? = some b1 ∧ C'[o + 2]? = some b2 ∧ C'[o + 3]? = some b3 ∧ C'[o + 4]? = some b4 ∧ C'[o + 5]? = some b5 ∧ C'[o + 6]? = some b6 ∧ ∀ k, k < o → C'[k]? = C[k]? := by
  refine ⟨_, set_block (set_block (set_block (set_block (set_block (set_block (set_block h)))))), by simp, ?_, ?_, ?_, ?_, ?_, ?_, ?_, ?_⟩
  all_goals first
    | (intro k hk; simp only [Array.getElem?_setIfInBounds, Array.size_setIfInBounds]; rw [if_neg (by omega), if_neg (by omega), if_neg (by omega), if_neg (by omega), if_neg (by omega), if_neg (by omega), if_neg (by omega)])
    | (simp (disch := omega) only [Array.getElem?_setIfInBounds, Array.size_setIfInBounds]; simp; try omega)
theorem set7_keeps {B : Nat} (W : World) {R : Nat} (o0 o1 o2 o3 o4 o5 o6 : Nat) (b0 b1 b2 b3 b4 b5 b6 : Value) (h : R < B) :
    Keeps B W (((((((W.setCell ⟨R, o0, none⟩ b0).setCell ⟨R, o1, none⟩ b1).setCell ⟨R, o2, none⟩ b2).setCell ⟨R, o3, none⟩ b3).setCell ⟨R, o4, none⟩ b4).setCell ⟨R, o5, none⟩ b5).setCell ⟨R, o6, none⟩ b6) :=
  ((((((Keeps.setCell W h _ _).trans (.setCell _ h _ _)).trans (.setCell _ h _ _)).trans (.setCell _ h _ _)).trans (.setCell _ h _ _)).trans (.setCell _ h _ _)).trans (.setCell _ h _ _)
theorem set7_under {W w : World} {R B : Nat} (o0 o1 o2 o3 o4 o5 o6 : Nat) (b0 b1 b2 b3 b4 b5 b6 : Value) (h : Below B w W) (hR : B ≤ R) :
    Below B w (((((((W.setCell ⟨R, o0, none⟩ b0).setCell ⟨R, o1, none⟩ b1).setCell ⟨R, o2, none⟩ b2).setCell ⟨R, o3, none⟩ b3).setCell ⟨R, o4, none⟩ b4).setCell ⟨R, o5, none⟩ b5).setCell ⟨R, o6, none⟩ b6) :=
  ((((((h.setCell hR _).setCell hR _).setCell hR _).setCell hR _).setCell hR _).setCell hR _).setCell hR _

end Go.Proofs.YtcgedpfolloinaaGreat

namespace Go.Proofs.YtcgedpfolloinaaGreat
open Go.RowKit

set_option maxRecDepth 100000 in
set_option maxHeartbeats 1000000 in
theorem cloneAttrs_any (va : Value) (l : List (List UInt8 × List UInt8)) (w : World) (h : AttrsLie w va l) :
    Calls Tryz.prog 145 #[va] w fun e w' => ∃ v', e = .returned v' ∧ AttrsF w.heap.size w' v' l ∧ Below w.heap.size w w' := by
  obtain ⟨i0, hi, hz0, hz1, hz2⟩ := info_parts info_attr
  obtain ⟨a, cap, rfl⟩ := attrs_form h
  have hl : l.length ≤ 4398046510976 := by
    rcases h with ⟨a, cap, _, rfl⟩ | ⟨b, off, cap, _, _, h, _⟩
    · simp
    · exact h
  have H := Lib.hid h
  clear h
  cases a with
  | none =>
    have hl0 : l = [] := by
      rcases H.out with ⟨_, _, h1, h2⟩ | ⟨b, off, cap', h1, _⟩
      · exact h2
      · simp at h1
    subst hl0
    have hnil := fun (w : World) => Lib.run_eql_slice_nil (P := Tryz.prog) w 23 81 none 0 cap 0 0 Tryz.underlying23
    simp only [List.length_nil]
    go_enter Tryz.func145, Tryz.ntmps145
    go_wp2_with fail
    go_ret
    exact ⟨_, rfl, .inl ⟨_, _, rfl, rfl⟩, by ((repeat' (first | exact Below.refl _ _ | assumption | refine Below.setCell ?_ ?_ _ | refine bdrewN ?_ _ | refine Below.drew ?_ | refine Below.alloc ?_ ?_ _ | refine bbehind ?_ (by assumption) ?_)); all_goals first | (simp; done) | (simp; omega) | omega)⟩
  | some ad =>
    have hnil := fun (w : World) => Lib.run_eql_slice_nil (P := Tryz.prog) w 23 81 (some ad) l.length cap 0 0 Tryz.underlying23
    have hnews : ∀ j u, (attrCells l)[j]? = some u → (w.alloc (.cells #[] 81)).cell? (ad.add j) = some u := by
      intro j u hj
      have hjl : j < l.length * 2 := by rw [← attrCells_len]; exact (List.getElem?_eq_some_iff.1 hj).1
      obtain ⟨b, off, cap', hs, _, _, hb, hc⟩ := attrs_row H.out (by omega)
      simp only [Value.slice.injEq, Option.some.injEq] at hs
      obtain ⟨rfl, -, -⟩ := hs
      rw [World.cell?_of_block (w := w) (Below.heap_alloc _ _ _ (by rw [Go.WideShapes.add_plain]; exact hb))]
      obtain ⟨e1, e2⟩ := attrCells_at l (j / 2) (by omega)
      obtain ⟨c1, c2⟩ := hc (j / 2) (by omega)
      rcases Nat.mod_two_eq_zero_or_one j with h | h
      · have ej : j = j / 2 * 2 := by omega
        rw [ej] at hj
        rw [e1] at hj
        rw [show (⟨b, off, none⟩ : Addr).add j = ⟨b, off + j / 2 * 2, none⟩ by rw [Go.WideShapes.add_plain, ← ej], c1]
        exact hj
      · have ej : j = j / 2 * 2 + 1 := by omega
        rw [ej] at hj
        rw [e2] at hj
        rw [show (⟨b, off, none⟩ : Addr).add j = ⟨b, off + j / 2 * 2 + 1, none⟩ by rw [Go.WideShapes.add_plain, Nat.add_assoc, ← ej], c2]
        exact hj
    have hown0 : (w.alloc (.cells #[] 81)).ownsRow w.heap.size 81 2 (.slice (some ⟨w.heap.size, 0, none⟩) 0 0) 0 [] := World.ownsRow_lit w #[] 0 (Nat.le_refl _) (by decide) rfl
    have HN := Lib.hid hnews
    clear hnews
    go_enter Tryz.func145, Tryz.ntmps145
    go_wp2_with (at_builtin; refine wpList_append_own _ rfl _ _ 23 rfl w.heap.size 81 i0 (.agg #[.string ⟨#[]⟩, .string ⟨#[]⟩]) 2 32 Tryz.underlying23 hi hz0 hz1 hz2 rfl (by decide) _ _ _ rfl hown0 ad l.length cap (attrCells l) rfl (attrCells_len l) HN.out ?c1 ?c2 ?c3 ?c4 ?stop)
    case c1 =>
      intro u hu
      unfold attrCells at hu
      simp only [List.mem_flatMap, List.mem_cons, List.not_mem_nil, or_false] at hu
      obtain ⟨q, _, rfl | rfl⟩ := hu <;> rfl
    case c2 => unfold maxLen; omega
    case c3 => omega
    case c4 => simp
    case stop =>
      intro v' w2 hown hgrow _
      have HO := Lib.hid hown
      have HB := Lib.hid ((((Below.refl w.heap.size w).alloc (Nat.le_refl _) _)).grown hgrow (by simp) (fun k hk => by simp [Value.ownBlock] at hk; omega))
      clear hown hgrow
      go_wp2_with fail
      go_ret
      exact ⟨v', rfl, attrsF_owned HO.out hl, HB.out⟩
end Go.Proofs.YtcgedpfolloinaaGreat

namespace Go.Proofs.YtcgedpfolloinaaGreat
open Go.RowKit

/-- what clone gives. -/
def CloneRes (w : World) (f : Fo) (e : Ending) (w' : World) : Prop := ∃ a cap, e = .returned (.slice a f.len cap) ∧ LiesF w.heap.size w' (.slice a f.len cap) f ∧ Below w.heap.size w w'
def CloneTreeRes (w : World) (h : Hd) (ks : Fo) (e : Ending) (w' : World) : Prop :=
  ∃ aa ca ak ck, e = .returned (aggOf h aa ca ak ks.len ck) ∧ AttrsF w.heap.size w' (.slice aa h.ats.length ca) h.ats ∧ LiesF w.heap.size w' (.slice ak ks.len ck) ks ∧ Below w.heap.size w w'

set_option maxRecDepth 100000 in
set_option maxHeartbeats 2000000 in
theorem cloneTree_of (h : Hd) (ks : Fo) (aa : Option Addr) (ca : Nat) (ak : Option Addr) (ck : Nat) (w : World) (ha : AttrsLie w (.slice aa h.ats.length ca) h.ats) (hk : Lies w (.slice ak ks.len ck) ks)
    (HC : ∀ v w, Lies w v ks → Calls Tryz.prog 97 #[v] w (CloneRes w ks)) :
    Calls Tryz.prog 93 #[aggOf h aa ca ak ks.len ck] w (CloneTreeRes w h ks) := by
  have HA := Lib.hid (fun w1 (hw : Below w.heap.size w w1) => cloneAttrs_any _ _ w1 (attrs_below ha hw))
  have HK := Lib.hid (fun w1 (hw : Below w.heap.size w w1) => HC _ w1 (lies_below hk hw))
  clear ha hk HC
  unfold aggOf
  go_enter Tryz.func93, Tryz.ntmps93
  go_wp2_with fail
  obtain ⟨W0, hW0⟩ : ∃ W0, (w.alloc (.cells #[.int .i64 h.k, .string ⟨h.l.toArray⟩, .slice aa h.ats.length ca, .int .i64 h.n, .int .i64 h.d, .string ⟨h.x.toArray⟩, .slice ak ks.len ck] 43)).alloc (.cells #[.int .i64 0, .string ⟨#[]⟩, .slice none 0 0, .int .i64 0, .int .i64 0, .string ⟨#[]⟩, .slice none 0 0] 43) = W0 := ⟨_, rfl⟩
  have hB0 : Below w.heap.size w W0 := by rw [← hW0]; exact ((Below.refl _ _).alloc (Nat.le_refl _) _).alloc (by simp) _
  have hs0 : W0.heap.size = w.heap.size + 1 + 1 := by rw [← hW0]; simp
  have k1 : W0.heap[w.heap.size]? = some (.cells #[.int .i64 h.k, .string ⟨h.l.toArray⟩, .slice aa h.ats.length ca, .int .i64 h.n, .int .i64 h.d, .string ⟨h.x.toArray⟩, .slice ak ks.len ck] 43 (0, 0)) := by
    rw [← hW0]; exact (Below.heap_alloc _ _ _ (by simp)).trans (World.alloc_heap_new _ _)
  have k2 : W0.heap[w.heap.size + 1]? = some (.cells #[.int .i64 0, .string ⟨#[]⟩, .slice none 0 0, .int .i64 0, .int .i64 0, .string ⟨#[]⟩, .slice none 0 0] 43 (0, 0)) := by
    rw [← hW0]; have := World.alloc_heap_new (w.alloc (.cells #[.int .i64 h.k, .string ⟨h.l.toArray⟩, .slice aa h.ats.length ca, .int .i64 h.n, .int .i64 h.d, .string ⟨h.x.toArray⟩, .slice ak ks.len ck] 43)) (.cells #[.int .i64 0, .string ⟨#[]⟩, .slice none 0 0, .int .i64 0, .int .i64 0, .string ⟨#[]⟩, .slice none 0 0] 43); simpa using this
  rw [hW0]
  refine (HA.out W0 hB0).mono ?_
  rintro e w1 ⟨v1, rfl, hv1, hb1⟩
  obtain ⟨aa1, ca1, rfl⟩ := attrsF_form hv1
  have hs1 := hb1.size
  have B1 := Lib.hid (hB0.trans (hb1.mono hB0.size))
  have A1 := Lib.hid (attrsF_mono (B' := w.heap.size + 1 + 1) (by omega) hv1)
  have j1 := (hb1.block w.heap.size (by omega)).trans k1
  have j2 := (hb1.block (w.heap.size + 1) (by omega)).trans k2
  clear k1 k2 hW0 hv1 hb1
  have c1 : ∃ z, w1.cell? ⟨w.heap.size, 2, none⟩ = some z := ⟨_, cell_of_block j1 rfl⟩
  obtain ⟨z, c1⟩ := c1
  have f1 := frozen_of_block (o := 2) j1
  have d6 : w1.cell? ⟨w.heap.size, 6, none⟩ = some (.slice ak ks.len ck) := cell_of_block j1 rfl
  have J1 := Lib.hid j1
  have J2 := Lib.hid j2
  clear j1 j2
  go_wp2_with fail
  have B2 : Below w.heap.size w (w1.setCell ⟨w.heap.size, 2, none⟩ (.slice aa1 h.ats.length ca1)) := B1.out.setCell (Nat.le_refl _) _
  have hs2 : (w1.setCell ⟨w.heap.size, 2, none⟩ (.slice aa1 h.ats.length ca1)).heap.size = w1.heap.size := set_size'
  have k1 : (w1.setCell ⟨w.heap.size, 2, none⟩ (.slice aa1 h.ats.length ca1)).heap[w.heap.size]? = some (.cells #[.int .i64 h.k, .string ⟨h.l.toArray⟩, .slice aa1 h.ats.length ca1, .int .i64 h.n, .int .i64 h.d, .string ⟨h.x.toArray⟩, .slice ak ks.len ck] 43 (0, 0)) := set_block J1.out
  have k2 : (w1.setCell ⟨w.heap.size, 2, none⟩ (.slice aa1 h.ats.length ca1)).heap[w.heap.size + 1]? = some (.cells #[.int .i64 0, .string ⟨#[]⟩, .slice none 0 0, .int .i64 0, .int .i64 0, .string ⟨#[]⟩, .slice none 0 0] 43 (0, 0)) := (set_far (by omega)).trans J2.out
  have A2 : AttrsF (w.heap.size + 1 + 1) (w1.setCell ⟨w.heap.size, 2, none⟩ (.slice aa1 h.ats.length ca1)) (.slice aa1 h.ats.length ca1) h.ats := attrsF_keeps A1.out (Keeps.setCell _ (by omega) _ _)
  generalize w1.setCell ⟨w.heap.size, 2, none⟩ (.slice aa1 h.ats.length ca1) = W2 at *
  clear A1 J1 J2 c1 f1 d6 B1
  refine (HK.out W2 B2).mono ?_
  rintro e w2 ⟨ak2, ck2, rfl, hk2, hb2⟩
  have hs3 := hb2.size
  have B3 := Lib.hid (B2.trans (hb2.mono (by omega)))
  have A3 := Lib.hid (attrsF_keeps A2 (Keeps.of_below hb2))
  have L3 := Lib.hid (liesF_mono (B' := w.heap.size + 1 + 1) (by omega) hk2)
  have j1 := (hb2.block w.heap.size (by omega)).trans k1
  have j2 := (hb2.block (w.heap.size + 1) (by omega)).trans k2
  clear k1 k2 A2 hk2 hb2 B2
  have d0 : w2.cell? ⟨w.heap.size, 0, none⟩ = some (.int .i64 h.k) := cell_of_block j1 rfl
  have d1 : w2.cell? ⟨w.heap.size, 1, none⟩ = some (.string ⟨h.l.toArray⟩) := cell_of_block j1 rfl
  have d2 : w2.cell? ⟨w.heap.size, 2, none⟩ = some (.slice aa1 h.ats.length ca1) := cell_of_block j1 rfl
  have d3 : w2.cell? ⟨w.heap.size, 3, none⟩ = some (.int .i64 h.n) := cell_of_block j1 rfl
  have d4 : w2.cell? ⟨w.heap.size, 4, none⟩ = some (.int .i64 h.d) := cell_of_block j1 rfl
  have d5 : w2.cell? ⟨w.heap.size, 5, none⟩ = some (.string ⟨h.x.toArray⟩) := cell_of_block j1 rfl
  have d6 : w2.cell? ⟨w.heap.size, 6, none⟩ = some (.slice ak ks.len ck) := cell_of_block j1 rfl
  have e6 := frozen_of_block (o := 6) j1
  have y0 : w2.cell? ⟨w.heap.size + 1, 0, none⟩ = some (.int .i64 0) := cell_of_block j2 rfl
  have y1 : w2.cell? ⟨w.heap.size + 1, 1, none⟩ = some (.string ⟨#[]⟩) := cell_of_block j2 rfl
  have y2 : w2.cell? ⟨w.heap.size + 1, 2, none⟩ = some (.slice none 0 0) := cell_of_block j2 rfl
  have y3 : w2.cell? ⟨w.heap.size + 1, 3, none⟩ = some (.int .i64 0) := cell_of_block j2 rfl
  have y4 : w2.cell? ⟨w.heap.size + 1, 4, none⟩ = some (.int .i64 0) := cell_of_block j2 rfl
  have y5 : w2.cell? ⟨w.heap.size + 1, 5, none⟩ = some (.string ⟨#[]⟩) := cell_of_block j2 rfl
  have y6 : w2.cell? ⟨w.heap.size + 1, 6, none⟩ = some (.slice none 0 0) := cell_of_block j2 rfl
  have z0 := frozen_of_block (o := 0) j2
  have z1 := frozen_of_block (o := 1) j2
  have z2 := frozen_of_block (o := 2) j2
  have z3 := frozen_of_block (o := 3) j2
  have z4 := frozen_of_block (o := 4) j2
  have z5 := frozen_of_block (o := 5) j2
  have z6 := frozen_of_block (o := 6) j2
  have J2 := Lib.hid j2
  clear j1 j2
  go_wp2_with fail
  have hfar : (w2.setCell ⟨w.heap.size, 6, none⟩ (.slice ak2 ks.len ck2)).heap[w.heap.size + 1]? = _ := (set_far (by omega)).trans J2.out
  have hfin := set7_blk (.int .i64 h.k) (.string ⟨h.l.toArray⟩) (.slice aa1 h.ats.length ca1) (.int .i64 h.n) (.int .i64 h.d) (.string ⟨h.x.toArray⟩) (.slice ak2 ks.len ck2) hfar
  have hkeep := (Keeps.setCell (B := w.heap.size + 1 + 1) w2 (b := w.heap.size) (by omega) 6 (.slice ak2 ks.len ck2)).trans (set7_keeps (R := w.heap.size + 1) _ 0 1 2 3 4 5 6 (.int .i64 h.k) (.string ⟨h.l.toArray⟩) (.slice aa1 h.ats.length ca1) (.int .i64 h.n) (.int .i64 h.d) (.string ⟨h.x.toArray⟩) (.slice ak2 ks.len ck2) (by omega))
  have hbel := set7_under (R := w.heap.size + 1) 0 1 2 3 4 5 6 (.int .i64 h.k) (.string ⟨h.l.toArray⟩) (.slice aa1 h.ats.length ca1) (.int .i64 h.n) (.int .i64 h.d) (.string ⟨h.x.toArray⟩) (.slice ak2 ks.len ck2) (B3.out.setCell (p := ⟨w.heap.size, 6, none⟩) (Nat.le_refl _) (.slice ak2 ks.len ck2)) (by omega)
  generalize ((((((((w2.setCell ⟨w.heap.size, 6, none⟩ (.slice ak2 ks.len ck2)).setCell ⟨w.heap.size + 1, 0, none⟩ (.int .i64 h.k)).setCell ⟨w.heap.size + 1, 1, none⟩ (.string ⟨h.l.toArray⟩)).setCell ⟨w.heap.size + 1, 2, none⟩ (.slice aa1 h.ats.length ca1)).setCell ⟨w.heap.size + 1, 3, none⟩ (.int .i64 h.n)).setCell ⟨w.heap.size + 1, 4, none⟩ (.int .i64 h.d)).setCell ⟨w.heap.size + 1, 5, none⟩ (.string ⟨h.x.toArray⟩)).setCell ⟨w.heap.size + 1, 6, none⟩ (.slice ak2 ks.len ck2)) = Wf at hfin hkeep hbel ⊢
  have u0 : Wf.cell? ⟨w.heap.size + 1, 0, none⟩ = some (.int .i64 h.k) := cell_of_block hfin rfl
  have u1 : Wf.cell? ⟨w.heap.size + 1, 1, none⟩ = some (.string ⟨h.l.toArray⟩) := cell_of_block hfin rfl
  have u2 : Wf.cell? ⟨w.heap.size + 1, 2, none⟩ = some (.slice aa1 h.ats.length ca1) := cell_of_block hfin rfl
  have u3 : Wf.cell? ⟨w.heap.size + 1, 3, none⟩ = some (.int .i64 h.n) := cell_of_block hfin rfl
  have u4 : Wf.cell? ⟨w.heap.size + 1, 4, none⟩ = some (.int .i64 h.d) := cell_of_block hfin rfl
  have u5 : Wf.cell? ⟨w.heap.size + 1, 5, none⟩ = some (.string ⟨h.x.toArray⟩) := cell_of_block hfin rfl
  have u6 : Wf.cell? ⟨w.heap.size + 1, 6, none⟩ = some (.slice ak2 ks.len ck2) := cell_of_block hfin rfl
  refine bodyPost_ret (v := aggOf h aa1 ca1 ak2 ks.len ck2) (by simp [results, Tryz.results93, go_sem, aggOf, u0, u1, u2, u3, u4, u5, u6]) rfl ?_
  exact ⟨aa1, ca1, ak2, ck2, rfl, attrsF_mono (by omega) (attrsF_keeps A3.out hkeep), liesF_mono (by omega) (liesF_keeps L3.out hkeep), hbel⟩
end Go.Proofs.YtcgedpfolloinaaGreat

namespace Go.Proofs.YtcgedpfolloinaaGreat
open Go.RowKit

theorem info_tree : (Tryz.prog.info? 43).map (fun i => (i.zero, i.size, i.bytes)) = some (some (.agg #[.int .i64 0, .string ⟨#[]⟩, .slice none 0 0, .int .i64 0, .int .i64 0, .string ⟨#[]⟩, .slice none 0 0]), 7, 104) := by kernel_rfl

theorem treesF_more {B R : Nat} {wr W : World} {f : Fo} {k : Nat} {h : Hd} {ks : Fo} (HTR : TreesF B wr f R 0 k) (hE : f.drop k = .cons h ks (f.drop (k + 1)))
    (hcc : ∀ o, o < k * 7 → W.cell? ⟨R, o, none⟩ = wr.cell? ⟨R, o, none⟩) (hK : Keeps B wr W) (hH : HdF B W h R (k * 7)) (hv : ∃ v, W.cell? ⟨R, k * 7 + 6, none⟩ = some v ∧ LiesF B W v ks) : TreesF B W f R 0 (k + 1) := by
  intro j h' ks' hj e
  rcases Nat.lt_or_ge j k with hlt | hge
  · obtain ⟨⟨h0, h1, ⟨va, h2, ha⟩, h3, h4, h5⟩, v, h6, hv'⟩ := HTR j h' ks' hlt e
    exact ⟨⟨(hcc _ (by omega)).trans h0, (hcc _ (by omega)).trans h1, ⟨va, (hcc _ (by omega)).trans h2, attrsF_keeps ha hK⟩, (hcc _ (by omega)).trans h3, (hcc _ (by omega)).trans h4, (hcc _ (by omega)).trans h5⟩, v, (hcc _ (by omega)).trans h6, liesF_keeps hv' hK⟩
  · obtain rfl : j = k := by omega
    rw [hE] at e
    cases e
    rw [Nat.zero_add]
    exact ⟨hH, hv⟩

set_option maxRecDepth 100000 in
set_option maxHeartbeats 2000000 in
theorem clone_of (f : Fo) (v : Value) (w : World) (hl : Lies w v f)
    (HT : ∀ h ks, (∃ j, j < f.len ∧ f.drop j = .cons h ks (f.drop (j + 1))) → ∀ aa ca ak ck w, AttrsLie w (.slice aa h.ats.length ca) h.ats → Lies w (.slice ak ks.len ck) ks → Calls Tryz.prog 93 #[aggOf h aa ca ak ks.len ck] w (CloneTreeRes w h ks)) :
    Calls Tryz.prog 97 #[v] w (CloneRes w f) := by
  obtain ⟨i0, hi, hz0, hz1, hz2⟩ := info_parts info_tree
  have hlen := lies_len hl
  by_cases h0 : f.len = 0
  · obtain rfl := Fo.len_nil h0
    obtain ⟨a, cap, rfl⟩ := lies_form hl
    clear hl HT
    simp only [Fo.len]
    go_enter Tryz.func97, Tryz.ntmps97
    go_wp2_with fail
    go_ret
    exact ⟨none, 0, rfl, .inl ⟨_, _, rfl, rfl⟩, by ((repeat' (first | exact Below.refl _ _ | assumption | refine Below.setCell ?_ ?_ _ | refine bdrewN ?_ _ | refine Below.drew ?_ | refine Below.alloc ?_ ?_ _ | refine bbehind ?_ (by assumption) ?_)); all_goals first | (simp; done) | (simp; omega) | omega)⟩
  · obtain ⟨b, o, cap, rfl, hcap, -, hb, hrow⟩ := lies_row hl (by omega)
    have dn : ((f.len : Int) == 0) = false := by simpa using h0
    have hmk : ∀ W : World, (Instr.makeSlice 28 (.int .i64 (f.len : Int)) (.int .i64 (f.len : Int))).run Tryz.prog W = .ok (.slice (some ⟨W.heap.size, 0, none⟩) f.len f.len) (W.alloc (.cells (madeCells (Value.cells (.agg #[.int .i64 0, .string ⟨#[]⟩, .slice none 0 0, .int .i64 0, .int .i64 0, .string ⟨#[]⟩, .slice none 0 0])) (f.len * 7)) 43)) := by
      intro W
      have := run_make (P := Tryz.prog) W 28 43 i0 _ Tryz.underlying28 hi hz0 .i64 .i64 (f.len : Int) (f.len : Int) (by omega) (Int.le_refl _) (by rw [hz2]; omega) (by omega)
      rw [hz1] at this
      simpa using this
    have HROW := Lib.hid hrow
    have HT' := Lib.hid HT
    clear hl hrow HT hi hz0 hz1 hz2
    have hsz : (madeCells (Value.cells (.agg #[.int .i64 0, .string ⟨#[]⟩, .slice none 0 0, .int .i64 0, .int .i64 0, .string ⟨#[]⟩, .slice none 0 0])) (f.len * 7)).size = f.len * 7 := size_madeCells _ _
    generalize madeCells (Value.cells (.agg #[.int .i64 0, .string ⟨#[]⟩, .slice none 0 0, .int .i64 0, .int .i64 0, .string ⟨#[]⟩, .slice none 0 0])) (f.len * 7) = C0 at *
    go_enter Tryz.func97, Tryz.ntmps97
    go_wp2_with fail
    go_loopw [14] (fun i wr => ∃ (k : Nat) (C : Array Value), i = .int .i64 k ∧ k ≤ f.len ∧ wr.heap[w.heap.size]? = some (.cells C 43 (0, 0)) ∧ C.size = f.len * 7 ∧ TreesF (w.heap.size + 1) wr f w.heap.size 0 k ∧ w.heap.size < wr.heap.size ∧ Below w.heap.size w wr) (fun i _ => f.len - (intOf i).toNat)
    case atStart =>
      exact ⟨0, C0, rfl, Nat.zero_le _, World.alloc_heap_new _ _, hsz, fun j _ _ hj => absurd hj (by omega), by simp, by ((repeat' (first | exact Below.refl _ _ | assumption | refine Below.setCell ?_ ?_ _ | refine bdrewN ?_ _ | refine Below.drew ?_ | refine Below.alloc ?_ ?_ _ | refine bbehind ?_ (by assumption) ?_)); all_goals first | (simp; done) | (simp; omega) | omega)⟩
    case round =>
      obtain ⟨k, C, rfl, hk, hblk, hC, hT, hsw, hbw⟩ := hrel
      have HBLK := Lib.hid hblk
      have HTR := Lib.hid hT
      clear hblk hT hsz hmk
      by_cases hlt : k < f.len
      · have dk : decide (k < f.len) = true := by simpa using hlt
        obtain ⟨hd, ks, e, ⟨q0, q1, ⟨va, q2, ha'⟩, q3, q4, q5⟩, vk, q6, hlk⟩ := row_get HROW.out hlt
        obtain ⟨aa, ca, rfl⟩ := attrs_form ha'
        obtain ⟨ak, ck, rfl⟩ := lies_form hlk
        have r0 := (hbw.cell (p := ⟨b, o + k * 7, none⟩) hb).trans q0
        have r1 := (hbw.cell (p := ⟨b, o + k * 7 + 1, none⟩) hb).trans q1
        have r2 := (hbw.cell (p := ⟨b, o + k * 7 + 2, none⟩) hb).trans q2
        have r3 := (hbw.cell (p := ⟨b, o + k * 7 + 3, none⟩) hb).trans q3
        have r4 := (hbw.cell (p := ⟨b, o + k * 7 + 4, none⟩) hb).trans q4
        have r5 := (hbw.cell (p := ⟨b, o + k * 7 + 5, none⟩) hb).trans q5
        have r6 := (hbw.cell (p := ⟨b, o + k * 7 + 6, none⟩) hb).trans q6
        have hbr : b < wr.heap.size := by omega
        have nb2 : ¬ b = w.heap.size := by omega
        have nb3 : ¬ w.heap.size = b := by omega
        have HCT := Lib.hid (fun W (hW : Below w.heap.size w W) => HT'.out hd ks ⟨k, hlt, e⟩ aa ca ak ck W (attrs_below ha' hW) (lies_below hlk hW))
        have HE := Lib.hid e
        clear q0 q1 q2 q3 q4 q5 q6 ha' hlk e
        go_wp2_with fail
        obtain ⟨W1, hW1⟩ : ∃ W1, wr.alloc (.cells #[.int .i64 hd.k, .string ⟨hd.l.toArray⟩, .slice aa hd.ats.length ca, .int .i64 hd.n, .int .i64 hd.d, .string ⟨hd.x.toArray⟩, .slice ak ks.len ck] 43) = W1 := ⟨_, rfl⟩
        have hbW : Below w.heap.size w W1 := by rw [← hW1]; exact hbw.alloc (by omega) _
        have hz1 : W1.heap.size = wr.heap.size + 1 := by rw [← hW1]; simp
        have hbx : Below wr.heap.size wr W1 := by rw [← hW1]; exact (Below.refl _ _).alloc (Nat.le_refl _) _
        rw [hW1]
        clear hW1
        refine (HCT.out W1 hbW).mono ?_
        rintro e w1 ⟨aa', ca', ak', ck', rfl, hA, hL, hb1⟩
        unfold aggOf
        have hs1 := hb1.size
        have hbl := ((hbx.trans (hb1.mono hbx.size)).block w.heap.size hsw).trans HBLK.out
        have HK1 := Lib.hid (Keeps.of_below (B := w.heap.size + 1) (hbx.trans (hb1.mono hbx.size)))
        have HBEL := Lib.hid (hbW.trans (hb1.mono hbW.size))
        have HA := Lib.hid (attrsF_mono (B' := w.heap.size + 1) (by omega) hA)
        have HL := Lib.hid (liesF_mono (B' := w.heap.size + 1) (by omega) hL)
        clear hA hL hb1 hbx hbW hbw r0 r1 r2 r3 r4 r5 r6 nb2 nb3
        obtain ⟨y0, hy0⟩ : ∃ y, w1.cell? ⟨w.heap.size, k * 7, none⟩ = some y := ⟨_, cell_of_block hbl (Array.getElem?_eq_getElem (by omega))⟩
        have fy0 := frozen_of_block (o := k * 7) hbl
        obtain ⟨y1, hy1⟩ : ∃ y, w1.cell? ⟨w.heap.size, k * 7 + 1, none⟩ = some y := ⟨_, cell_of_block hbl (Array.getElem?_eq_getElem (by omega))⟩
        have fy1 := frozen_of_block (o := k * 7 + 1) hbl
        obtain ⟨y2, hy2⟩ : ∃ y, w1.cell? ⟨w.heap.size, k * 7 + 2, none⟩ = some y := ⟨_, cell_of_block hbl (Array.getElem?_eq_getElem (by omega))⟩
        have fy2 := frozen_of_block (o := k * 7 + 2) hbl
        obtain ⟨y3, hy3⟩ : ∃ y, w1.cell? ⟨w.heap.size, k * 7 + 3, none⟩ = some y := ⟨_, cell_of_block hbl (Array.getElem?_eq_getElem (by omega))⟩
        have fy3 := frozen_of_block (o := k * 7 + 3) hbl
        obtain ⟨y4, hy4⟩ : ∃ y, w1.cell? ⟨w.heap.size, k * 7 + 4, none⟩ = some y := ⟨_, cell_of_block hbl (Array.getElem?_eq_getElem (by omega))⟩
        have fy4 := frozen_of_block (o := k * 7 + 4) hbl
        obtain ⟨y5, hy5⟩ : ∃ y, w1.cell? ⟨w.heap.size, k * 7 + 5, none⟩ = some y := ⟨_, cell_of_block hbl (Array.getElem?_eq_getElem (by omega))⟩
        have fy5 := frozen_of_block (o := k * 7 + 5) hbl
        obtain ⟨y6, hy6⟩ : ∃ y, w1.cell? ⟨w.heap.size, k * 7 + 6, none⟩ = some y := ⟨_, cell_of_block hbl (Array.getElem?_eq_getElem (by omega))⟩
        have fy6 := frozen_of_block (o := k * 7 + 6) hbl
        have HBL := Lib.hid hbl
        clear hbl
        go_wp2_with fail
        obtain ⟨C', hset, hC', e0, e1, e2, e3, e4, e5, e6, elow⟩ := set7_row (o := k * 7) (.int .i64 hd.k) (.string ⟨hd.l.toArray⟩) (.slice aa' hd.ats.length ca') (.int .i64 hd.n) (.int .i64 hd.d) (.string ⟨hd.x.toArray⟩) (.slice ak' ks.len ck') HBL.out (by omega)
        have hkeep := HK1.out.trans (set7_keeps (R := w.heap.size) (B := w.heap.size + 1) w1 (k * 7) (k * 7 + 1) (k * 7 + 2) (k * 7 + 3) (k * 7 + 4) (k * 7 + 5) (k * 7 + 6) (.int .i64 hd.k) (.string ⟨hd.l.toArray⟩) (.slice aa' hd.ats.length ca') (.int .i64 hd.n) (.int .i64 hd.d) (.string ⟨hd.x.toArray⟩) (.slice ak' ks.len ck') (by omega))
        have hkeep1 := set7_keeps (R := w.heap.size) (B := w.heap.size + 1) w1 (k * 7) (k * 7 + 1) (k * 7 + 2) (k * 7 + 3) (k * 7 + 4) (k * 7 + 5) (k * 7 + 6) (.int .i64 hd.k) (.string ⟨hd.l.toArray⟩) (.slice aa' hd.ats.length ca') (.int .i64 hd.n) (.int .i64 hd.d) (.string ⟨hd.x.toArray⟩) (.slice ak' ks.len ck') (by omega)
        have hbel := set7_under (R := w.heap.size) (k * 7) (k * 7 + 1) (k * 7 + 2) (k * 7 + 3) (k * 7 + 4) (k * 7 + 5) (k * 7 + 6) (.int .i64 hd.k) (.string ⟨hd.l.toArray⟩) (.slice aa' hd.ats.length ca') (.int .i64 hd.n) (.int .i64 hd.d) (.string ⟨hd.x.toArray⟩) (.slice ak' ks.len ck') HBEL.out (Nat.le_refl _)
        generalize (((((((w1.setCell ⟨w.heap.size, k * 7, none⟩ (.int .i64 hd.k)).setCell ⟨w.heap.size, k * 7 + 1, none⟩ (.string ⟨hd.l.toArray⟩)).setCell ⟨w.heap.size, k * 7 + 2, none⟩ (.slice aa' hd.ats.length ca')).setCell ⟨w.heap.size, k * 7 + 3, none⟩ (.int .i64 hd.n)).setCell ⟨w.heap.size, k * 7 + 4, none⟩ (.int .i64 hd.d)).setCell ⟨w.heap.size, k * 7 + 5, none⟩ (.string ⟨hd.x.toArray⟩)).setCell ⟨w.heap.size, k * 7 + 6, none⟩ (.slice ak' ks.len ck')) = Wf at hset hkeep hkeep1 hbel ⊢
        have hcc : ∀ o, o < k * 7 → Wf.cell? ⟨w.heap.size, o, none⟩ = wr.cell? ⟨w.heap.size, o, none⟩ := by
          intro o ho
          unfold World.cell?
          simp only [hset, HBLK.out]
          exact elow o ho
        have hszf := hkeep.1
        refine ⟨⟨k + 1, C', by go_num, by omega, hset, by omega, treesF_more HTR.out HE.out hcc hkeep ⟨cell_of_block hset e0, cell_of_block hset e1, ⟨_, cell_of_block hset e2, attrsF_keeps HA.out hkeep1⟩, cell_of_block hset e3, cell_of_block hset e4, cell_of_block hset e5⟩ ⟨_, cell_of_block hset e6, liesF_keeps HL.out hkeep1⟩, by omega, hbel⟩, ?_⟩
        simp [intOf]; omega
      · have dk : decide (k < f.len) = false := by simpa using hlt
        obtain rfl : k = f.len := by omega
        go_wp2_with fail
        go_ret
        exact ⟨some ⟨w.heap.size, 0, none⟩, f.len, rfl, .inr ⟨w.heap.size, 0, f.len, rfl, Nat.le_refl _, hlen, Nat.le_refl _, hsw, rowF_mono (by omega) f _ _ (rowF_of f 0 HTR.out)⟩, hbw⟩

/-- clone gives the forest in memory of its own. -/
theorem clone_any : ∀ (N : Nat) (f : Fo), f.size ≤ N → ∀ (v : Value) (w : World), Lies w v f → Calls Tryz.prog 97 #[v] w (CloneRes w f) := by
  intro N
  induction N with
  | zero =>
    intro f hf v w hl
    exact clone_of f v w hl (fun h ks ⟨j, hj, _⟩ => by have := Fo.len_le_size f; omega)
  | succ N ih =>
    intro f hf v w hl
    refine clone_of f v w hl (fun h ks ⟨j, hj, e⟩ aa ca ak ck w ha hk => cloneTree_of h ks aa ca ak ck w ha hk (fun v w hl => ih ks ?_ v w hl))
    have := Fo.size_app (f.take j) (f.drop j)
    rw [Fo.take_app_drop, e] at this
    simp only [Fo.size] at this
    omega
theorem cloneTree_any (h : Hd) (ks : Fo) (aa : Option Addr) (ca : Nat) (ak : Option Addr) (ck : Nat) (w : World) (ha : AttrsLie w (.slice aa h.ats.length ca) h.ats) (hk : Lies w (.slice ak ks.len ck) ks) :
    Calls Tryz.prog 93 #[aggOf h aa ca ak ks.len ck] w (CloneTreeRes w h ks) :=
  cloneTree_of h ks aa ca ak ck w ha hk (fun v w hl => clone_any ks.size ks (Nat.le_refl _) v w hl)
end Go.Proofs.YtcgedpfolloinaaGreat

namespace Go.Proofs.YtcgedpfolloinaaGreat
open Go.RowKit

/-- what may be written: all blocks but those that I holds of. -/
def KeepsO (I : Nat → Prop) (w w' : World) : Prop := w.heap.size ≤ w'.heap.size ∧ ∀ x, I x → x < w.heap.size → w'.heap[x]? = w.heap[x]?
theorem KeepsO.refl (I : Nat → Prop) (w : World) : KeepsO I w w := ⟨Nat.le_refl _, fun _ _ _ => rfl⟩
theorem KeepsO.trans {I : Nat → Prop} {a b c : World} (h : KeepsO I a b) (k : KeepsO I b c) : KeepsO I a c :=
  ⟨Nat.le_trans h.1 k.1, fun x hx hl => (k.2 x hx (Nat.lt_of_lt_of_le hl h.1)).trans (h.2 x hx hl)⟩
theorem KeepsO.of_below {I : Nat → Prop} {w w' : World} (k : Below w.heap.size w w') : KeepsO I w w' := ⟨k.size, fun b _ h => k.block b h⟩
theorem KeepsO.mono {I J : Nat → Prop} {w w' : World} (hI : ∀ x, I x → J x) (k : KeepsO J w w') : KeepsO I w w' := ⟨k.1, fun x hx hl => k.2 x (hI x hx) hl⟩
theorem KeepsO.setCell {I : Nat → Prop} (w : World) {b : Nat} (h : ¬ I b) (o : Nat) (u : Value) : KeepsO I w (w.setCell ⟨b, o, none⟩ u) :=
  ⟨Nat.le_of_eq set_size'.symm, fun x hx _ => set_far (k := x) (fun (e : x = b) => h (e ▸ hx))⟩
theorem KeepsO.cell {I : Nat → Prop} {w w' : World} (k : KeepsO I w w') {b : Nat} (hI : I b) (hb : b < w.heap.size) (o : Nat) : w'.cell? ⟨b, o, none⟩ = w.cell? ⟨b, o, none⟩ :=
  World.cell?_of_block (w := w) (k.2 b hI hb)
theorem set7_keepsO {I : Nat → Prop} (W : World) {R : Nat} (o0 o1 o2 o3 o4 o5 o6 : Nat) (b0 b1 b2 b3 b4 b5 b6 : Value) (h : ¬ I R) :
    KeepsO I W (((((((W.setCell ⟨R, o0, none⟩ b0).setCell ⟨R, o1, none⟩ b1).setCell ⟨R, o2, none⟩ b2).setCell ⟨R, o3, none⟩ b3).setCell ⟨R, o4, none⟩ b4).setCell ⟨R, o5, none⟩ b5).setCell ⟨R, o6, none⟩ b6) :=
  ((((((KeepsO.setCell W h _ _).trans (.setCell _ h _ _)).trans (.setCell _ h _ _)).trans (.setCell _ h _ _)).trans (.setCell _ h _ _)).trans (.setCell _ h _ _)).trans (.setCell _ h _ _)

/-- attributes that lie in a block that I holds of. -/
def AttrsO (I : Nat → Prop) (w : World) (v : Value) (l : List (List UInt8 × List UInt8)) : Prop :=
  (∃ a cap, v = .slice a 0 cap ∧ l = []) ∨ ∃ b off cap, v = .slice (some ⟨b, off, none⟩) l.length cap ∧ l.length ≤ cap ∧ l.length ≤ 4398046510976 ∧ I b ∧ b < w.heap.size ∧
    ∀ k, k < l.length → w.cell? ⟨b, off + k * 2, none⟩ = some (.string ⟨(l.getD k ([], [])).1.toArray⟩) ∧ w.cell? ⟨b, off + k * 2 + 1, none⟩ = some (.string ⟨(l.getD k ([], [])).2.toArray⟩)
def HdO (I : Nat → Prop) (w : World) (h : Hd) (b o : Nat) : Prop :=
  w.cell? ⟨b, o, none⟩ = some (.int .i64 h.k) ∧ w.cell? ⟨b, o + 1, none⟩ = some (.string ⟨h.l.toArray⟩) ∧ (∃ va, w.cell? ⟨b, o + 2, none⟩ = some va ∧ AttrsO I w va h.ats) ∧
  w.cell? ⟨b, o + 3, none⟩ = some (.int .i64 h.n) ∧ w.cell? ⟨b, o + 4, none⟩ = some (.int .i64 h.d) ∧ w.cell? ⟨b, o + 5, none⟩ = some (.string ⟨h.x.toArray⟩)
/-- part number c of what lies behind a row in block b. -/
def cls (I : Nat → Prop) (own : Nat → Nat) (b c : Nat) : Nat → Prop := fun x => I x ∧ b < x ∧ own x = c
/-- tree number j's attributes lie in part 2 j, its kids' rows in part 2 j + 1. -/
def RowO (w : World) : Fo → (Nat → Prop) → (Nat → Nat) → Nat → Nat → Prop
  | .nil, _, _, _, _ => True
  | .cons h ks r, I, own, b, j => HdO (cls I own b (2 * j)) w h b (j * 7) ∧ (∃ v, w.cell? ⟨b, j * 7 + 6, none⟩ = some v ∧
      ((∃ a cap, v = .slice a 0 cap ∧ ks = .nil) ∨ ∃ b' cap own' C, v = .slice (some ⟨b', 0, none⟩) ks.len cap ∧ ks.len ≤ cap ∧ ks.len ≤ 2000000000000 ∧ cls I own b (2 * j + 1) b' ∧
        w.heap[b']? = some (.cells C 43 (0, 0)) ∧ ks.len * 7 ≤ C.size ∧ RowO w ks (cls I own b (2 * j + 1)) own' b' 0)) ∧ RowO w r I own b (j + 1)
def LiesO (I : Nat → Prop) (w : World) (v : Value) (f : Fo) : Prop :=
  (∃ a cap, v = .slice a 0 cap ∧ f = .nil) ∨ ∃ b cap own C, v = .slice (some ⟨b, 0, none⟩) f.len cap ∧ f.len ≤ cap ∧ f.len ≤ 2000000000000 ∧ I b ∧
    w.heap[b]? = some (.cells C 43 (0, 0)) ∧ f.len * 7 ≤ C.size ∧ RowO w f I own b 0
theorem blk_size {w : World} {b : Nat} {x : Obj} (h : w.heap[b]? = some x) : b < w.heap.size := (Array.getElem?_eq_some_iff.1 h).1

theorem attrsO_keeps {I : Nat → Prop} {w w' : World} {v : Value} {l : List (List UInt8 × List UInt8)} (h : AttrsO I w v l) (k : KeepsO I w w') : AttrsO I w' v l := by
  rcases h with h | ⟨b, off, cap, h1, h0, h4, h5, h2, h3⟩
  · exact .inl h
  · exact .inr ⟨b, off, cap, h1, h0, h4, h5, Nat.lt_of_lt_of_le h2 k.1, fun i hi => ⟨(k.cell h5 h2 _).trans (h3 i hi).1, (k.cell h5 h2 _).trans (h3 i hi).2⟩⟩
theorem attrsO_mono {I I' : Nat → Prop} {w : World} (hI : ∀ x, I x → x < w.heap.size → I' x) {v : Value} {l : List (List UInt8 × List UInt8)} (h : AttrsO I w v l) : AttrsO I' w v l := by
  rcases h with h | ⟨b, off, cap, h1, h0, h4, h5, h2, h3⟩
  · exact .inl h
  · exact .inr ⟨b, off, cap, h1, h0, h4, hI _ h5 h2, h2, h3⟩
theorem attrsO_F {I : Nat → Prop} {B : Nat} {w : World} (hI : ∀ x, I x → B ≤ x) {v : Value} {l : List (List UInt8 × List UInt8)} (h : AttrsO I w v l) : AttrsF B w v l := by
  rcases h with h | ⟨b, off, cap, h1, h0, h4, h5, h2, h3⟩
  · exact .inl h
  · exact .inr ⟨b, off, cap, h1, h0, h4, hI _ h5, h2, h3⟩
theorem attrsF_O {B : Nat} {w : World} {v : Value} {l : List (List UInt8 × List UInt8)} (h : AttrsF B w v l) : AttrsO (fun x => B ≤ x ∧ x < w.heap.size) w v l := by
  rcases h with h | ⟨b, off, cap, h1, h0, h4, h5, h2, h3⟩
  · exact .inl h
  · exact .inr ⟨b, off, cap, h1, h0, h4, ⟨h5, h2⟩, h2, h3⟩
theorem hdO_mono {I I' : Nat → Prop} {w : World} (hI : ∀ x, I x → x < w.heap.size → I' x) {h : Hd} {b o : Nat} (H : HdO I w h b o) : HdO I' w h b o := by
  obtain ⟨h0, h1, ⟨va, h2, ha⟩, h3, h4, h5⟩ := H
  exact ⟨h0, h1, ⟨va, h2, attrsO_mono hI ha⟩, h3, h4, h5⟩
theorem cls_mono {I I' : Nat → Prop} {own own' : Nat → Nat} {b c : Nat} {w : World} (hI : ∀ x, I x → x < w.heap.size → I' x) (ho : ∀ x, x < w.heap.size → own x = c → own' x = c) : ∀ x, cls I own b c x → x < w.heap.size → cls I' own' b c x :=
  fun x hx hl => ⟨hI x hx.1 hl, hx.2.1, ho x hl hx.2.2⟩
theorem rowO_mono {w : World} : ∀ (f : Fo) (I I' : Nat → Prop) (own own' : Nat → Nat) (b j : Nat), (∀ x, I x → x < w.heap.size → I' x) → (∀ x, x < w.heap.size → own x = own' x) → RowO w f I own b j → RowO w f I' own' b j
  | .nil, _, _, _, _, _, _, _, _, _ => trivial
  | .cons h ks r, I, I', own, own', b, j, hI, ho, H => by
    obtain ⟨h0, ⟨v, h6, h7⟩, h8⟩ := H
    have hc : ∀ c x, cls I own b c x → x < w.heap.size → cls I' own' b c x := fun c => cls_mono hI (fun x hx e => (ho x hx).symm.trans e)
    refine ⟨hdO_mono (hc _) h0, ⟨v, h6, ?_⟩, rowO_mono r I I' own own' b (j + 1) hI ho h8⟩
    rcases h7 with h7 | ⟨b', cap, own1, C, e, e0, e3, eI, eB, eC, e2⟩
    · exact .inl h7
    · exact .inr ⟨b', cap, own1, C, e, e0, e3, hc _ _ eI (blk_size eB), eB, eC, rowO_mono ks _ _ own1 own1 b' 0 (hc _) (fun _ _ => rfl) e2⟩
theorem liesO_mono {I I' : Nat → Prop} {w : World} (hI : ∀ x, I x → x < w.heap.size → I' x) {v : Value} {f : Fo} (h : LiesO I w v f) : LiesO I' w v f := by
  rcases h with h | ⟨b, cap, own, C, e, e0, e3, eI, eB, eC, e2⟩
  · exact .inl h
  · exact .inr ⟨b, cap, own, C, e, e0, e3, hI _ eI (blk_size eB), eB, eC, rowO_mono f _ _ own own b 0 hI (fun _ _ => rfl) e2⟩
theorem rowO_keeps {w w' : World} : ∀ (f : Fo) (I : Nat → Prop) (own : Nat → Nat) (b j : Nat), I b → b < w.heap.size → KeepsO I w w' → RowO w f I own b j → RowO w' f I own b j
  | .nil, _, _, _, _, _, _, _, _ => trivial
  | .cons h ks r, I, own, b, j, hb, hl, k, H => by
    obtain ⟨⟨h0, h1, ⟨va, h2, ha⟩, h3, h4, h5⟩, ⟨v, h6, h7⟩, h8⟩ := H
    have hc := fun o => k.cell hb hl o
    have kc : ∀ c, KeepsO (cls I own b c) w w' := fun c => k.mono (fun x hx => hx.1)
    refine ⟨⟨(hc _).trans h0, (hc _).trans h1, ⟨va, (hc _).trans h2, attrsO_keeps ha (kc _)⟩, (hc _).trans h3, (hc _).trans h4, (hc _).trans h5⟩, ⟨v, (hc _).trans h6, ?_⟩, rowO_keeps r I own b (j + 1) hb hl k h8⟩
    rcases h7 with h7 | ⟨b', cap, own1, C, e, e0, e3, eI, eB, eC, e2⟩
    · exact .inl h7
    · exact .inr ⟨b', cap, own1, C, e, e0, e3, eI, ((kc _).2 _ eI (blk_size eB)).trans eB, eC, rowO_keeps ks _ own1 b' 0 eI (blk_size eB) (kc _) e2⟩
theorem liesO_keeps {I : Nat → Prop} {w w' : World} {v : Value} {f : Fo} (h : LiesO I w v f) (k : KeepsO I w w') : LiesO I w' v f := by
  rcases h with h | ⟨b, cap, own, C, e, e0, e3, eI, eB, eC, e2⟩
  · exact .inl h
  · exact .inr ⟨b, cap, own, C, e, e0, e3, eI, (k.2 _ eI (blk_size eB)).trans eB, eC, rowO_keeps f I own b 0 eI (blk_size eB) k e2⟩
theorem rowO_F {B : Nat} {w : World} : ∀ (f : Fo) (I : Nat → Prop) (own : Nat → Nat) (b j : Nat), (∀ x, I x → B ≤ x) → RowO w f I own b j → RowF B w f b (j * 7)
  | .nil, _, _, _, _, _, _ => trivial
  | .cons h ks r, I, own, b, j, hI, H => by
    obtain ⟨⟨h0, h1, ⟨va, h2, ha⟩, h3, h4, h5⟩, ⟨v, h6, h7⟩, h8⟩ := H
    have h9 := rowO_F r I own b (j + 1) hI h8
    rw [show (j + 1) * 7 = j * 7 + 7 by omega] at h9
    refine ⟨⟨h0, h1, ⟨va, h2, attrsO_F (fun x hx => hI x hx.1) ha⟩, h3, h4, h5⟩, ⟨v, h6, ?_⟩, h9⟩
    rcases h7 with h7 | ⟨b', cap, own1, C, e, e0, e3, eI, eB, eC, e2⟩
    · exact .inl h7
    · have := rowO_F ks _ own1 b' 0 (fun x hx => hI x hx.1) e2
      rw [Nat.zero_mul] at this
      exact .inr ⟨b', 0, cap, e, e0, e3, hI _ eI.1, blk_size eB, this⟩
theorem liesO_F {I : Nat → Prop} {B : Nat} {w : World} {v : Value} {f : Fo} (hI : ∀ x, I x → B ≤ x) (h : LiesO I w v f) : LiesF B w v f := by
  rcases h with h | ⟨b, cap, own, C, e, e0, e3, eI, eB, eC, e2⟩
  · exact .inl h
  · have := rowO_F f I own b 0 hI e2
    rw [Nat.zero_mul] at this
    exact .inr ⟨b, 0, cap, e, e0, e3, hI _ eI, blk_size eB, this⟩
theorem liesO_form {I : Nat → Prop} {w : World} {v : Value} {f : Fo} (h : LiesO I w v f) : ∃ a cap, v = .slice a f.len cap := by
  rcases h with ⟨a, cap, rfl, rfl⟩ | ⟨b, cap, _, _, rfl, _⟩
  · exact ⟨a, cap, rfl⟩
  · exact ⟨_, cap, rfl⟩
/-- tree by tree. -/
def TreesO (I : Nat → Prop) (own : Nat → Nat) (w : World) (f : Fo) (b i n : Nat) : Prop :=
  ∀ j h ks, j < n → f.drop j = .cons h ks (f.drop (j + 1)) → HdO (cls I own b (2 * (i + j))) w h b ((i + j) * 7) ∧ ∃ v, w.cell? ⟨b, (i + j) * 7 + 6, none⟩ = some v ∧ LiesO (cls I own b (2 * (i + j) + 1)) w v ks
theorem rowO_of {I : Nat → Prop} {own : Nat → Nat} {w : World} {b : Nat} : ∀ (f : Fo) (i : Nat), TreesO I own w f b i f.len → RowO w f I own b i
  | .nil, _, _ => trivial
  | .cons h ks r, i, H => by
    have h0 := H 0 h ks (by simp [Fo.len]) rfl
    refine ⟨h0.1, h0.2, rowO_of r (i + 1) fun j h' ks' hj e => ?_⟩
    have := H (j + 1) h' ks' (by simp [Fo.len]; omega) e
    rw [show i + (j + 1) = i + 1 + j by omega] at this
    exact this
theorem treesO_of {I : Nat → Prop} {own : Nat → Nat} {w : World} {b : Nat} : ∀ (f : Fo) (i : Nat), RowO w f I own b i → TreesO I own w f b i f.len
  | .nil, _, _ => fun j _ _ hj => absurd hj (by simp [Fo.len])
  | .cons h ks r, i, H => by
    obtain ⟨h0, h1, h2⟩ := H
    intro j h' ks' hj e
    cases j with
    | zero =>
      simp only [Fo.drop, Fo.cons.injEq] at e
      obtain ⟨rfl, rfl, -⟩ := e
      exact ⟨h0, h1⟩
    | succ j =>
      have := treesO_of r (i + 1) h2 j h' ks' (by simp [Fo.len] at hj; omega) e
      rw [show i + 1 + j = i + (j + 1) by omega] at this
      exact this
end Go.Proofs.YtcgedpfolloinaaGreat

namespace Go.Proofs.YtcgedpfolloinaaGreat
open Go.RowKit

/-- what clone gives. -/
def CloneResO (w : World) (f : Fo) (e : Ending) (w' : World) : Prop := ∃ a cap, e = .returned (.slice a f.len cap) ∧ LiesO (fun x => w.heap.size ≤ x) w' (.slice a f.len cap) f ∧ Below w.heap.size w w'
def CloneTreeResO (w : World) (h : Hd) (ks : Fo) (e : Ending) (w' : World) : Prop :=
  ∃ aa ca ak ck M, e = .returned (aggOf h aa ca ak ks.len ck) ∧ AttrsO (fun x => w.heap.size ≤ x ∧ x < M) w' (.slice aa h.ats.length ca) h.ats ∧ LiesO (fun x => M ≤ x ∧ w.heap.size ≤ x) w' (.slice ak ks.len ck) ks ∧ Below w.heap.size w w'

set_option maxRecDepth 100000 in
set_option maxHeartbeats 2000000 in
theorem cloneTreeO_of (h : Hd) (ks : Fo) (aa : Option Addr) (ca : Nat) (ak : Option Addr) (ck : Nat) (w : World) (ha : AttrsLie w (.slice aa h.ats.length ca) h.ats) (hk : Lies w (.slice ak ks.len ck) ks)
    (HC : ∀ v w, Lies w v ks → Calls Tryz.prog 97 #[v] w (CloneResO w ks)) :
    Calls Tryz.prog 93 #[aggOf h aa ca ak ks.len ck] w (CloneTreeResO w h ks) := by
  have HA := Lib.hid (fun w1 (hw : Below w.heap.size w w1) => cloneAttrs_any _ _ w1 (attrs_below ha hw))
  have HK := Lib.hid (fun w1 (hw : Below w.heap.size w w1) => HC _ w1 (lies_below hk hw))
  clear ha hk HC
  unfold aggOf
  go_enter Tryz.func93, Tryz.ntmps93
  go_wp2_with fail
  obtain ⟨W0, hW0⟩ : ∃ W0, (w.alloc (.cells #[.int .i64 h.k, .string ⟨h.l.toArray⟩, .slice aa h.ats.length ca, .int .i64 h.n, .int .i64 h.d, .string ⟨h.x.toArray⟩, .slice ak ks.len ck] 43)).alloc (.cells #[.int .i64 0, .string ⟨#[]⟩, .slice none 0 0, .int .i64 0, .int .i64 0, .string ⟨#[]⟩, .slice none 0 0] 43) = W0 := ⟨_, rfl⟩
  have hB0 : Below w.heap.size w W0 := by rw [← hW0]; exact ((Below.refl _ _).alloc (Nat.le_refl _) _).alloc (by simp) _
  have hs0 : W0.heap.size = w.heap.size + 1 + 1 := by rw [← hW0]; simp
  have k1 : W0.heap[w.heap.size]? = some (.cells #[.int .i64 h.k, .string ⟨h.l.toArray⟩, .slice aa h.ats.length ca, .int .i64 h.n, .int .i64 h.d, .string ⟨h.x.toArray⟩, .slice ak ks.len ck] 43 (0, 0)) := by
    rw [← hW0]; exact (Below.heap_alloc _ _ _ (by simp)).trans (World.alloc_heap_new _ _)
  have k2 : W0.heap[w.heap.size + 1]? = some (.cells #[.int .i64 0, .string ⟨#[]⟩, .slice none 0 0, .int .i64 0, .int .i64 0, .string ⟨#[]⟩, .slice none 0 0] 43 (0, 0)) := by
    rw [← hW0]; have := World.alloc_heap_new (w.alloc (.cells #[.int .i64 h.k, .string ⟨h.l.toArray⟩, .slice aa h.ats.length ca, .int .i64 h.n, .int .i64 h.d, .string ⟨h.x.toArray⟩, .slice ak ks.len ck] 43)) (.cells #[.int .i64 0, .string ⟨#[]⟩, .slice none 0 0, .int .i64 0, .int .i64 0, .string ⟨#[]⟩, .slice none 0 0] 43); simpa using this
  rw [hW0]
  refine (HA.out W0 hB0).mono ?_
  rintro e w1 ⟨v1, rfl, hv1, hb1⟩
  obtain ⟨aa1, ca1, rfl⟩ := attrsF_form hv1
  obtain ⟨M, hM⟩ : ∃ M, M = w1.heap.size := ⟨_, rfl⟩
  have hs1 := hb1.size
  have B1 := Lib.hid (hB0.trans (hb1.mono hB0.size))
  have A1 := Lib.hid (attrsO_mono (I' := fun x => w.heap.size + 1 + 1 ≤ x ∧ x < M) (fun x hx _ => ⟨by omega, by omega⟩) (attrsF_O hv1))
  have hMW : M ≤ w1.heap.size := by omega
  clear hM
  have j1 := (hb1.block w.heap.size (by omega)).trans k1
  have j2 := (hb1.block (w.heap.size + 1) (by omega)).trans k2
  clear k1 k2 hW0 hv1 hb1
  have c1 : ∃ z, w1.cell? ⟨w.heap.size, 2, none⟩ = some z := ⟨_, cell_of_block j1 rfl⟩
  obtain ⟨z, c1⟩ := c1
  have f1 := frozen_of_block (o := 2) j1
  have d6 : w1.cell? ⟨w.heap.size, 6, none⟩ = some (.slice ak ks.len ck) := cell_of_block j1 rfl
  have J1 := Lib.hid j1
  have J2 := Lib.hid j2
  clear j1 j2
  go_wp2_with fail
  have B2 : Below w.heap.size w (w1.setCell ⟨w.heap.size, 2, none⟩ (.slice aa1 h.ats.length ca1)) := B1.out.setCell (Nat.le_refl _) _
  have hs2 : (w1.setCell ⟨w.heap.size, 2, none⟩ (.slice aa1 h.ats.length ca1)).heap.size = w1.heap.size := set_size'
  have k1 : (w1.setCell ⟨w.heap.size, 2, none⟩ (.slice aa1 h.ats.length ca1)).heap[w.heap.size]? = some (.cells #[.int .i64 h.k, .string ⟨h.l.toArray⟩, .slice aa1 h.ats.length ca1, .int .i64 h.n, .int .i64 h.d, .string ⟨h.x.toArray⟩, .slice ak ks.len ck] 43 (0, 0)) := set_block J1.out
  have k2 : (w1.setCell ⟨w.heap.size, 2, none⟩ (.slice aa1 h.ats.length ca1)).heap[w.heap.size + 1]? = some (.cells #[.int .i64 0, .string ⟨#[]⟩, .slice none 0 0, .int .i64 0, .int .i64 0, .string ⟨#[]⟩, .slice none 0 0] 43 (0, 0)) := (set_far (by omega)).trans J2.out
  have A2 : AttrsO (fun x => w.heap.size + 1 + 1 ≤ x ∧ x < M) (w1.setCell ⟨w.heap.size, 2, none⟩ (.slice aa1 h.ats.length ca1)) (.slice aa1 h.ats.length ca1) h.ats := attrsO_keeps A1.out (KeepsO.setCell _ (by omega) _ _)
  generalize w1.setCell ⟨w.heap.size, 2, none⟩ (.slice aa1 h.ats.length ca1) = W2 at *
  clear A1 J1 J2 c1 f1 d6 B1
  refine (HK.out W2 B2).mono ?_
  rintro e w2 ⟨ak2, ck2, rfl, hk2, hb2⟩
  have hs3 := hb2.size
  have B3 := Lib.hid (B2.trans (hb2.mono (by omega)))
  have A3 := Lib.hid (attrsO_keeps A2 (KeepsO.of_below hb2))
  have L3 := Lib.hid (liesO_mono (I' := fun x => M ≤ x ∧ w.heap.size + 1 + 1 ≤ x) (fun x hx _ => ⟨by omega, by omega⟩) hk2)
  have j1 := (hb2.block w.heap.size (by omega)).trans k1
  have j2 := (hb2.block (w.heap.size + 1) (by omega)).trans k2
  clear k1 k2 A2 hk2 hb2 B2
  have d0 : w2.cell? ⟨w.heap.size, 0, none⟩ = some (.int .i64 h.k) := cell_of_block j1 rfl
  have d1 : w2.cell? ⟨w.heap.size, 1, none⟩ = some (.string ⟨h.l.toArray⟩) := cell_of_block j1 rfl
  have d2 : w2.cell? ⟨w.heap.size, 2, none⟩ = some (.slice aa1 h.ats.length ca1) := cell_of_block j1 rfl
  have d3 : w2.cell? ⟨w.heap.size, 3, none⟩ = some (.int .i64 h.n) := cell_of_block j1 rfl
  have d4 : w2.cell? ⟨w.heap.size, 4, none⟩ = some (.int .i64 h.d) := cell_of_block j1 rfl
  have d5 : w2.cell? ⟨w.heap.size, 5, none⟩ = some (.string ⟨h.x.toArray⟩) := cell_of_block j1 rfl
  have d6 : w2.cell? ⟨w.heap.size, 6, none⟩ = some (.slice ak ks.len ck) := cell_of_block j1 rfl
  have e6 := frozen_of_block (o := 6) j1
  have y0 : w2.cell? ⟨w.heap.size + 1, 0, none⟩ = some (.int .i64 0) := cell_of_block j2 rfl
  have y1 : w2.cell? ⟨w.heap.size + 1, 1, none⟩ = some (.string ⟨#[]⟩) := cell_of_block j2 rfl
  have y2 : w2.cell? ⟨w.heap.size + 1, 2, none⟩ = some (.slice none 0 0) := cell_of_block j2 rfl
  have y3 : w2.cell? ⟨w.heap.size + 1, 3, none⟩ = some (.int .i64 0) := cell_of_block j2 rfl
  have y4 : w2.cell? ⟨w.heap.size + 1, 4, none⟩ = some (.int .i64 0) := cell_of_block j2 rfl
  have y5 : w2.cell? ⟨w.heap.size + 1, 5, none⟩ = some (.string ⟨#[]⟩) := cell_of_block j2 rfl
  have y6 : w2.cell? ⟨w.heap.size + 1, 6, none⟩ = some (.slice none 0 0) := cell_of_block j2 rfl
  have z0 := frozen_of_block (o := 0) j2
  have z1 := frozen_of_block (o := 1) j2
  have z2 := frozen_of_block (o := 2) j2
  have z3 := frozen_of_block (o := 3) j2
  have z4 := frozen_of_block (o := 4) j2
  have z5 := frozen_of_block (o := 5) j2
  have z6 := frozen_of_block (o := 6) j2
  have J2 := Lib.hid j2
  clear j1 j2
  go_wp2_with fail
  have hfar : (w2.setCell ⟨w.heap.size, 6, none⟩ (.slice ak2 ks.len ck2)).heap[w.heap.size + 1]? = _ := (set_far (by omega)).trans J2.out
  have hfin := set7_blk (.int .i64 h.k) (.string ⟨h.l.toArray⟩) (.slice aa1 h.ats.length ca1) (.int .i64 h.n) (.int .i64 h.d) (.string ⟨h.x.toArray⟩) (.slice ak2 ks.len ck2) hfar
  have hkA := (KeepsO.setCell (I := fun x => w.heap.size + 1 + 1 ≤ x) w2 (b := w.heap.size) (by omega) 6 (.slice ak2 ks.len ck2)).trans (set7_keepsO (R := w.heap.size + 1) _ 0 1 2 3 4 5 6 (.int .i64 h.k) (.string ⟨h.l.toArray⟩) (.slice aa1 h.ats.length ca1) (.int .i64 h.n) (.int .i64 h.d) (.string ⟨h.x.toArray⟩) (.slice ak2 ks.len ck2) (by omega))
  have hbel := set7_under (R := w.heap.size + 1) 0 1 2 3 4 5 6 (.int .i64 h.k) (.string ⟨h.l.toArray⟩) (.slice aa1 h.ats.length ca1) (.int .i64 h.n) (.int .i64 h.d) (.string ⟨h.x.toArray⟩) (.slice ak2 ks.len ck2) (B3.out.setCell (p := ⟨w.heap.size, 6, none⟩) (Nat.le_refl _) (.slice ak2 ks.len ck2)) (by omega)
  generalize ((((((((w2.setCell ⟨w.heap.size, 6, none⟩ (.slice ak2 ks.len ck2)).setCell ⟨w.heap.size + 1, 0, none⟩ (.int .i64 h.k)).setCell ⟨w.heap.size + 1, 1, none⟩ (.string ⟨h.l.toArray⟩)).setCell ⟨w.heap.size + 1, 2, none⟩ (.slice aa1 h.ats.length ca1)).setCell ⟨w.heap.size + 1, 3, none⟩ (.int .i64 h.n)).setCell ⟨w.heap.size + 1, 4, none⟩ (.int .i64 h.d)).setCell ⟨w.heap.size + 1, 5, none⟩ (.string ⟨h.x.toArray⟩)).setCell ⟨w.heap.size + 1, 6, none⟩ (.slice ak2 ks.len ck2)) = Wf at hfin hkA hbel ⊢
  have u0 : Wf.cell? ⟨w.heap.size + 1, 0, none⟩ = some (.int .i64 h.k) := cell_of_block hfin rfl
  have u1 : Wf.cell? ⟨w.heap.size + 1, 1, none⟩ = some (.string ⟨h.l.toArray⟩) := cell_of_block hfin rfl
  have u2 : Wf.cell? ⟨w.heap.size + 1, 2, none⟩ = some (.slice aa1 h.ats.length ca1) := cell_of_block hfin rfl
  have u3 : Wf.cell? ⟨w.heap.size + 1, 3, none⟩ = some (.int .i64 h.n) := cell_of_block hfin rfl
  have u4 : Wf.cell? ⟨w.heap.size + 1, 4, none⟩ = some (.int .i64 h.d) := cell_of_block hfin rfl
  have u5 : Wf.cell? ⟨w.heap.size + 1, 5, none⟩ = some (.string ⟨h.x.toArray⟩) := cell_of_block hfin rfl
  have u6 : Wf.cell? ⟨w.heap.size + 1, 6, none⟩ = some (.slice ak2 ks.len ck2) := cell_of_block hfin rfl
  refine bodyPost_ret (v := aggOf h aa1 ca1 ak2 ks.len ck2) (by simp [results, Tryz.results93, go_sem, aggOf, u0, u1, u2, u3, u4, u5, u6]) rfl ?_
  exact ⟨aa1, ca1, ak2, ck2, M, rfl, attrsO_mono (fun x hx _ => ⟨by omega, hx.2⟩) (attrsO_keeps A3.out (hkA.mono fun x hx => hx.1)), liesO_mono (fun x hx _ => ⟨hx.1, by omega⟩) (liesO_keeps L3.out (hkA.mono fun x hx => hx.2)), hbel⟩
end Go.Proofs.YtcgedpfolloinaaGreat

namespace Go.Proofs.YtcgedpfolloinaaGreat
open Go.RowKit

theorem treesO_more {I : Nat → Prop} {own own' : Nat → Nat} {R : Nat} {wr W : World} {f : Fo} {k : Nat} {h : Hd} {ks : Fo} (HTR : TreesO I own wr f R 0 k) (hE : f.drop k = .cons h ks (f.drop (k + 1)))
    (hcc : ∀ o, o < k * 7 → W.cell? ⟨R, o, none⟩ = wr.cell? ⟨R, o, none⟩) (hK : KeepsO (fun x => x ≠ R) wr W) (ho : ∀ x, x < wr.heap.size → own x = own' x) (hH : HdO (cls I own' R (2 * k)) W h R (k * 7)) (hv : ∃ v, W.cell? ⟨R, k * 7 + 6, none⟩ = some v ∧ LiesO (cls I own' R (2 * k + 1)) W v ks) : TreesO I own' W f R 0 (k + 1) := by
  intro j h' ks' hj e
  rw [Nat.zero_add]
  have hc : ∀ c x, cls I own R c x → x < wr.heap.size → cls I own' R c x := fun c x hx hl => ⟨hx.1, hx.2.1, (ho x hl).symm.trans hx.2.2⟩
  have hk : ∀ c, KeepsO (cls I own' R c) wr W := fun c => hK.mono (fun x hx => Nat.ne_of_gt hx.2.1)
  rcases Nat.lt_or_ge j k with hlt | hge
  · have H := HTR j h' ks' hlt e
    rw [Nat.zero_add] at H
    obtain ⟨⟨h0, h1, ⟨va, h2, ha⟩, h3, h4, h5⟩, v, h6, hv'⟩ := H
    exact ⟨⟨(hcc _ (by omega)).trans h0, (hcc _ (by omega)).trans h1, ⟨va, (hcc _ (by omega)).trans h2, attrsO_keeps (attrsO_mono (hc _) ha) (hk _)⟩, (hcc _ (by omega)).trans h3, (hcc _ (by omega)).trans h4, (hcc _ (by omega)).trans h5⟩, v, (hcc _ (by omega)).trans h6, liesO_keeps (liesO_mono (hc _) hv') (hk _)⟩
  · obtain rfl : j = k := by omega
    rw [hE] at e
    cases e
    exact ⟨hH, hv⟩

set_option maxRecDepth 100000 in
set_option maxHeartbeats 2000000 in
theorem cloneO_of (f : Fo) (v : Value) (w : World) (hl : Lies w v f)
    (HT : ∀ h ks, (∃ j, j < f.len ∧ f.drop j = .cons h ks (f.drop (j + 1))) → ∀ aa ca ak ck w, AttrsLie w (.slice aa h.ats.length ca) h.ats → Lies w (.slice ak ks.len ck) ks → Calls Tryz.prog 93 #[aggOf h aa ca ak ks.len ck] w (CloneTreeResO w h ks)) :
    Calls Tryz.prog 97 #[v] w (CloneResO w f) := by
  obtain ⟨i0, hi, hz0, hz1, hz2⟩ := info_parts info_tree
  have hlen := lies_len hl
  by_cases h0 : f.len = 0
  · obtain rfl := Fo.len_nil h0
    obtain ⟨a, cap, rfl⟩ := lies_form hl
    clear hl HT
    simp only [Fo.len]
    go_enter Tryz.func97, Tryz.ntmps97
    go_wp2_with fail
    go_ret
    exact ⟨none, 0, rfl, .inl ⟨_, _, rfl, rfl⟩, by ((repeat' (first | exact Below.refl _ _ | assumption | refine Below.setCell ?_ ?_ _ | refine bdrewN ?_ _ | refine Below.drew ?_ | refine Below.alloc ?_ ?_ _ | refine bbehind ?_ (by assumption) ?_)); all_goals first | (simp; done) | (simp; omega) | omega)⟩
  · obtain ⟨b, o, cap, rfl, hcap, -, hb, hrow⟩ := lies_row hl (by omega)
    have dn : ((f.len : Int) == 0) = false := by simpa using h0
    have hmk : ∀ W : World, (Instr.makeSlice 28 (.int .i64 (f.len : Int)) (.int .i64 (f.len : Int))).run Tryz.prog W = .ok (.slice (some ⟨W.heap.size, 0, none⟩) f.len f.len) (W.alloc (.cells (madeCells (Value.cells (.agg #[.int .i64 0, .string ⟨#[]⟩, .slice none 0 0, .int .i64 0, .int .i64 0, .string ⟨#[]⟩, .slice none 0 0])) (f.len * 7)) 43)) := by
      intro W
      have := run_make (P := Tryz.prog) W 28 43 i0 _ Tryz.underlying28 hi hz0 .i64 .i64 (f.len : Int) (f.len : Int) (by omega) (Int.le_refl _) (by rw [hz2]; omega) (by omega)
      rw [hz1] at this
      simpa using this
    have HROW := Lib.hid hrow
    have HT' := Lib.hid HT
    clear hl hrow HT hi hz0 hz1 hz2
    have hsz : (madeCells (Value.cells (.agg #[.int .i64 0, .string ⟨#[]⟩, .slice none 0 0, .int .i64 0, .int .i64 0, .string ⟨#[]⟩, .slice none 0 0])) (f.len * 7)).size = f.len * 7 := size_madeCells _ _
    generalize madeCells (Value.cells (.agg #[.int .i64 0, .string ⟨#[]⟩, .slice none 0 0, .int .i64 0, .int .i64 0, .string ⟨#[]⟩, .slice none 0 0])) (f.len * 7) = C0 at *
    go_enter Tryz.func97, Tryz.ntmps97
    go_wp2_with fail
    go_loopw [14] (fun i wr => ∃ (k : Nat) (C : Array Value) (own : Nat → Nat), i = .int .i64 k ∧ k ≤ f.len ∧ wr.heap[w.heap.size]? = some (.cells C 43 (0, 0)) ∧ C.size = f.len * 7 ∧ TreesO (fun x => w.heap.size ≤ x) own wr f w.heap.size 0 k ∧ w.heap.size < wr.heap.size ∧ Below w.heap.size w wr) (fun i _ => f.len - (intOf i).toNat)
    case atStart =>
      exact ⟨0, C0, fun _ => 0, rfl, Nat.zero_le _, World.alloc_heap_new _ _, hsz, fun j _ _ hj => absurd hj (by omega), by simp, by ((repeat' (first | exact Below.refl _ _ | assumption | refine Below.setCell ?_ ?_ _ | refine bdrewN ?_ _ | refine Below.drew ?_ | refine Below.alloc ?_ ?_ _ | refine bbehind ?_ (by assumption) ?_)); all_goals first | (simp; done) | (simp; omega) | omega)⟩
    case round =>
      obtain ⟨k, C, own, rfl, hk, hblk, hC, hT, hsw, hbw⟩ := hrel
      have HBLK := Lib.hid hblk
      have HTR := Lib.hid hT
      clear hblk hT hsz hmk
      by_cases hlt : k < f.len
      · have dk : decide (k < f.len) = true := by simpa using hlt
        obtain ⟨hd, ks, e, ⟨q0, q1, ⟨va, q2, ha'⟩, q3, q4, q5⟩, vk, q6, hlk⟩ := row_get HROW.out hlt
        obtain ⟨aa, ca, rfl⟩ := attrs_form ha'
        obtain ⟨ak, ck, rfl⟩ := lies_form hlk
        have r0 := (hbw.cell (p := ⟨b, o + k * 7, none⟩) hb).trans q0
        have r1 := (hbw.cell (p := ⟨b, o + k * 7 + 1, none⟩) hb).trans q1
        have r2 := (hbw.cell (p := ⟨b, o + k * 7 + 2, none⟩) hb).trans q2
        have r3 := (hbw.cell (p := ⟨b, o + k * 7 + 3, none⟩) hb).trans q3
        have r4 := (hbw.cell (p := ⟨b, o + k * 7 + 4, none⟩) hb).trans q4
        have r5 := (hbw.cell (p := ⟨b, o + k * 7 + 5, none⟩) hb).trans q5
        have r6 := (hbw.cell (p := ⟨b, o + k * 7 + 6, none⟩) hb).trans q6
        have hbr : b < wr.heap.size := by omega
        have nb2 : ¬ b = w.heap.size := by omega
        have nb3 : ¬ w.heap.size = b := by omega
        have HCT := Lib.hid (fun W (hW : Below w.heap.size w W) => HT'.out hd ks ⟨k, hlt, e⟩ aa ca ak ck W (attrs_below ha' hW) (lies_below hlk hW))
        have HE := Lib.hid e
        clear q0 q1 q2 q3 q4 q5 q6 ha' hlk e
        go_wp2_with fail
        obtain ⟨W1, hW1⟩ : ∃ W1, wr.alloc (.cells #[.int .i64 hd.k, .string ⟨hd.l.toArray⟩, .slice aa hd.ats.length ca, .int .i64 hd.n, .int .i64 hd.d, .string ⟨hd.x.toArray⟩, .slice ak ks.len ck] 43) = W1 := ⟨_, rfl⟩
        have hbW : Below w.heap.size w W1 := by rw [← hW1]; exact hbw.alloc (by omega) _
        have hz1 : W1.heap.size = wr.heap.size + 1 := by rw [← hW1]; simp
        have hbx : Below wr.heap.size wr W1 := by rw [← hW1]; exact (Below.refl _ _).alloc (Nat.le_refl _) _
        rw [hW1]
        clear hW1
        refine (HCT.out W1 hbW).mono ?_
        rintro e w1 ⟨aa', ca', ak', ck', M, rfl, hA, hL, hb1⟩
        unfold aggOf
        have hs1 := hb1.size
        have hbl := ((hbx.trans (hb1.mono hbx.size)).block w.heap.size hsw).trans HBLK.out
        have HK1 := Lib.hid (KeepsO.of_below (I := fun x => x ≠ w.heap.size) (hbx.trans (hb1.mono hbx.size)))
        have HBEL := Lib.hid (hbW.trans (hb1.mono hbW.size))
        have HA := Lib.hid (attrsO_mono (I' := cls (fun x => w.heap.size ≤ x) (fun x => if x < wr.heap.size then own x else if x < M then 2 * k else 2 * k + 1) w.heap.size (2 * k)) (fun x hx _ => ⟨by omega, by omega, by show (if x < wr.heap.size then own x else if x < M then 2 * k else 2 * k + 1) = 2 * k; rw [if_neg (by omega), if_pos hx.2]⟩) hA)
        have HL := Lib.hid (liesO_mono (I' := cls (fun x => w.heap.size ≤ x) (fun x => if x < wr.heap.size then own x else if x < M then 2 * k else 2 * k + 1) w.heap.size (2 * k + 1)) (fun x hx _ => ⟨by omega, by omega, by show (if x < wr.heap.size then own x else if x < M then 2 * k else 2 * k + 1) = 2 * k + 1; rw [if_neg (by omega), if_neg (by omega)]⟩) hL)
        clear hA hL hb1 hbx hbW hbw r0 r1 r2 r3 r4 r5 r6 nb2 nb3
        obtain ⟨y0, hy0⟩ : ∃ y, w1.cell? ⟨w.heap.size, k * 7, none⟩ = some y := ⟨_, cell_of_block hbl (Array.getElem?_eq_getElem (by omega))⟩
        have fy0 := frozen_of_block (o := k * 7) hbl
        obtain ⟨y1, hy1⟩ : ∃ y, w1.cell? ⟨w.heap.size, k * 7 + 1, none⟩ = some y := ⟨_, cell_of_block hbl (Array.getElem?_eq_getElem (by omega))⟩
        have fy1 := frozen_of_block (o := k * 7 + 1) hbl
        obtain ⟨y2, hy2⟩ : ∃ y, w1.cell? ⟨w.heap.size, k * 7 + 2, none⟩ = some y := ⟨_, cell_of_block hbl (Array.getElem?_eq_getElem (by omega))⟩
        have fy2 := frozen_of_block (o := k * 7 + 2) hbl
        obtain ⟨y3, hy3⟩ : ∃ y, w1.cell? ⟨w.heap.size, k * 7 + 3, none⟩ = some y := ⟨_, cell_of_block hbl (Array.getElem?_eq_getElem (by omega))⟩
        have fy3 := frozen_of_block (o := k * 7 + 3) hbl
        obtain ⟨y4, hy4⟩ : ∃ y, w1.cell? ⟨w.heap.size, k * 7 + 4, none⟩ = some y := ⟨_, cell_of_block hbl (Array.getElem?_eq_getElem (by omega))⟩
        have fy4 := frozen_of_block (o := k * 7 + 4) hbl
        obtain ⟨y5, hy5⟩ : ∃ y, w1.cell? ⟨w.heap.size, k * 7 + 5, none⟩ = some y := ⟨_, cell_of_block hbl (Array.getElem?_eq_getElem (by omega))⟩
        have fy5 := frozen_of_block (o := k * 7 + 5) hbl
        obtain ⟨y6, hy6⟩ : ∃ y, w1.cell? ⟨w.heap.size, k * 7 + 6, none⟩ = some y := ⟨_, cell_of_block hbl (Array.getElem?_eq_getElem (by omega))⟩
        have fy6 := frozen_of_block (o := k * 7 + 6) hbl
        have HBL := Lib.hid hbl
        clear hbl
        go_wp2_with fail
        obtain ⟨C', hset, hC', e0, e1, e2, e3, e4, e5, e6, elow⟩ := set7_row (o := k * 7) (.int .i64 hd.k) (.string ⟨hd.l.toArray⟩) (.slice aa' hd.ats.length ca') (.int .i64 hd.n) (.int .i64 hd.d) (.string ⟨hd.x.toArray⟩) (.slice ak' ks.len ck') HBL.out (by omega)
        have hkeep1 := set7_keepsO (R := w.heap.size) (I := fun x => x ≠ w.heap.size) w1 (k * 7) (k * 7 + 1) (k * 7 + 2) (k * 7 + 3) (k * 7 + 4) (k * 7 + 5) (k * 7 + 6) (.int .i64 hd.k) (.string ⟨hd.l.toArray⟩) (.slice aa' hd.ats.length ca') (.int .i64 hd.n) (.int .i64 hd.d) (.string ⟨hd.x.toArray⟩) (.slice ak' ks.len ck') (fun h => h rfl)
        have hkeep := HK1.out.trans hkeep1
        have hbel := set7_under (R := w.heap.size) (k * 7) (k * 7 + 1) (k * 7 + 2) (k * 7 + 3) (k * 7 + 4) (k * 7 + 5) (k * 7 + 6) (.int .i64 hd.k) (.string ⟨hd.l.toArray⟩) (.slice aa' hd.ats.length ca') (.int .i64 hd.n) (.int .i64 hd.d) (.string ⟨hd.x.toArray⟩) (.slice ak' ks.len ck') HBEL.out (Nat.le_refl _)
        generalize (((((((w1.setCell ⟨w.heap.size, k * 7, none⟩ (.int .i64 hd.k)).setCell ⟨w.heap.size, k * 7 + 1, none⟩ (.string ⟨hd.l.toArray⟩)).setCell ⟨w.heap.size, k * 7 + 2, none⟩ (.slice aa' hd.ats.length ca')).setCell ⟨w.heap.size, k * 7 + 3, none⟩ (.int .i64 hd.n)).setCell ⟨w.heap.size, k * 7 + 4, none⟩ (.int .i64 hd.d)).setCell ⟨w.heap.size, k * 7 + 5, none⟩ (.string ⟨hd.x.toArray⟩)).setCell ⟨w.heap.size, k * 7 + 6, none⟩ (.slice ak' ks.len ck')) = Wf at hset hkeep hkeep1 hbel ⊢
        have hcc : ∀ o, o < k * 7 → Wf.cell? ⟨w.heap.size, o, none⟩ = wr.cell? ⟨w.heap.size, o, none⟩ := by
          intro o ho
          unfold World.cell?
          simp only [hset, HBLK.out]
          exact elow o ho
        have hszf := hkeep.1
        refine ⟨⟨k + 1, C', _, by go_num, by omega, hset, by omega, treesO_more (own' := fun x => if x < wr.heap.size then own x else if x < M then 2 * k else 2 * k + 1) HTR.out HE.out hcc hkeep (fun x hx => (if_pos hx).symm) ⟨cell_of_block hset e0, cell_of_block hset e1, ⟨_, cell_of_block hset e2, attrsO_keeps HA.out (hkeep1.mono fun x hx => Nat.ne_of_gt hx.2.1)⟩, cell_of_block hset e3, cell_of_block hset e4, cell_of_block hset e5⟩ ⟨_, cell_of_block hset e6, liesO_keeps HL.out (hkeep1.mono fun x hx => Nat.ne_of_gt hx.2.1)⟩, by omega, hbel⟩, ?_⟩
        simp [intOf]; omega
      · have dk : decide (k < f.len) = false := by simpa using hlt
        obtain rfl : k = f.len := by omega
        go_wp2_with fail
        go_ret
        exact ⟨some ⟨w.heap.size, 0, none⟩, f.len, rfl, .inr ⟨w.heap.size, f.len, own, C, rfl, Nat.le_refl _, hlen, Nat.le_refl _, HBLK.out, by omega, rowO_of f 0 HTR.out⟩, hbw⟩

/-- clone gives the forest in memory of its own. -/
theorem cloneO_any : ∀ (N : Nat) (f : Fo), f.size ≤ N → ∀ (v : Value) (w : World), Lies w v f → Calls Tryz.prog 97 #[v] w (CloneResO w f) := by
  intro N
  induction N with
  | zero =>
    intro f hf v w hl
    exact cloneO_of f v w hl (fun h ks ⟨j, hj, _⟩ => by have := Fo.len_le_size f; omega)
  | succ N ih =>
    intro f hf v w hl
    refine cloneO_of f v w hl (fun h ks ⟨j, hj, e⟩ aa ca ak ck w ha hk => cloneTreeO_of h ks aa ca ak ck w ha hk (fun v w hl => ih ks ?_ v w hl))
    have := Fo.size_app (f.take j) (f.drop j)
    rw [Fo.take_app_drop, e] at this
    simp only [Fo.size] at this
    omega
end Go.Proofs.YtcgedpfolloinaaGreat

namespace Go.Proofs.YtcgedpfolloinaaGreat
open Go.RowKit

def atErr (f : Fo) (p : List Int) : Int := firstNZ [foErr f, placeErr f p]
def AtRes (w : World) (f : Fo) (p : List Int) (e : Ending) (w' : World) : Prop :=
  ∃ h ks aa ca ak ck, e = .returned (.tuple #[aggOf h aa ca ak ks.len ck, .int .i64 (atErr f p)]) ∧ AttrsF w.heap.size w' (.slice aa h.ats.length ca) h.ats ∧ LiesF w.heap.size w' (.slice ak ks.len ck) ks ∧
    ((atErr f p = 0 ∧ placeF f p = some (h, ks)) ∨ (atErr f p ≠ 0 ∧ h = zeroHd ∧ ks = .nil)) ∧ Below w.heap.size w w'

theorem ints_pair {W : World} {b : Nat} {T : TypeId} {x y : Int} (h : W.heap[b]? = some (.cells #[.int .i64 x, .int .i64 y] T (0, 0))) (hb : b < W.heap.size) : IntsLie W (.slice (some ⟨b, 0, none⟩) 2 2) [x, y] := by
  refine .inr ⟨b, 0, 2, rfl, by simp, hb, fun k hk => ?_⟩
  match k, hk with
  | 0, _ => exact cell_of_block h rfl
  | 1, _ => exact cell_of_block h rfl

set_option maxRecDepth 100000 in
set_option maxHeartbeats 2000000 in
theorem at_any (f : Fo) (p : List Int) (v pv : Value) (w : World) (hl : Lies w v f) (hs : Small f) (hp : IntsLie w pv p) (hpl : p.length ≤ 1000000) :
    Calls Tryz.prog 31 #[v, pv] w (AtRes w f p) := by
  have CH := Lib.hid (fun w1 (hw : Below w.heap.size w w1) => tcheck_any f v w1 (lies_below hl hw) hs)
  have PL := Lib.hid (fun w1 (hw : Below w.heap.size w w1) => checkPlace_any f p v pv w1 (lies_below hl hw) (ints_below hp hw) hpl)
  have TA := Lib.hid (fun w1 (hw : Below w.heap.size w w1) => treeAt_any f p v pv w1 (lies_below hl hw) (ints_below hp hw) hpl)
  obtain ⟨a, cap, rfl⟩ := lies_form hl
  obtain ⟨pa, pc, rfl⟩ := ints_form hp
  have HE := Lib.hid (show atErr f p = firstNZ [foErr f, placeErr f p] from rfl)
  have HP := Lib.hid (show placeErr f p = 0 → (placeF f p).isSome = true by
    unfold placeErr; split
    · intro h; cases h
    · split
      · intro _; assumption
      · intro h; cases h)
  have HZ := Lib.hid (show atErr f p = 0 → placeErr f p = 0 by
    unfold atErr firstNZ firstNZ firstNZ; split <;> simp_all)
  clear hl hs hp
  generalize foErr f = e1 at *
  generalize placeErr f p = e2 at *
  go_enter Tryz.func31, Tryz.ntmps31
  go_wp2_with fail
  have hB0 : Below w.heap.size w (w.alloc (.cells #[.int .i64 0, .string ⟨#[]⟩, .slice none 0 0, .int .i64 0, .int .i64 0, .string ⟨#[]⟩, .slice none 0 0] 43)) := (Below.refl _ _).alloc (Nat.le_refl _) _
  have k0 := World.alloc_heap_new w (.cells #[.int .i64 0, .string ⟨#[]⟩, .slice none 0 0, .int .i64 0, .int .i64 0, .string ⟨#[]⟩, .slice none 0 0] 43)
  have hs0 : (w.alloc (.cells #[.int .i64 0, .string ⟨#[]⟩, .slice none 0 0, .int .i64 0, .int .i64 0, .string ⟨#[]⟩, .slice none 0 0] 43)).heap.size = w.heap.size + 1 := by simp
  generalize w.alloc (.cells #[.int .i64 0, .string ⟨#[]⟩, .slice none 0 0, .int .i64 0, .int .i64 0, .string ⟨#[]⟩, .slice none 0 0] 43) = W0 at *
  refine (CH.out W0 hB0).mono ?_
  rintro e w1 ⟨rfl, hb1⟩
  have hs1 := hb1.size
  have k1 := (hb1.block w.heap.size (by omega)).trans k0
  have hB1 := hB0.trans (hb1.mono (by omega))
  clear k0 hB0 hb1
  go_wp2_with fail
  refine (PL.out w1 hB1).mono ?_
  rintro e w2 ⟨rfl, hb2⟩
  have hs2 := hb2.size
  have k2 := (hb2.block w.heap.size (by omega)).trans k1
  have hB2 := hB1.trans (hb2.mono (by omega))
  clear k1 hB1 hb2
  go_wp2_with fail
  have hB3 : Below w.heap.size w (w2.alloc (.cells #[.int .i64 e1, .int .i64 e2] 32)) := hB2.alloc (by omega) _
  have hi3 := ints_pair (World.alloc_heap_new w2 (.cells #[.int .i64 e1, .int .i64 e2] 32)) (by simp)
  have k3 : (w2.alloc (.cells #[.int .i64 e1, .int .i64 e2] 32)).heap[w.heap.size]? = _ := (Below.heap_alloc _ _ _ (by omega)).trans k2
  have hs3 : (w2.alloc (.cells #[.int .i64 e1, .int .i64 e2] 32)).heap.size = w2.heap.size + 1 := by simp
  generalize w2.alloc (.cells #[.int .i64 e1, .int .i64 e2] 32) = w3 at *
  refine (terr_any _ _ _ hi3 (by simp)).mono ?_
  rintro e w4 ⟨rfl, rfl⟩
  rw [← HE.out]
  clear k2 hB2 hi3
  have K3 := Lib.hid k3
  generalize hea : atErr f p = ea at *
  by_cases he : ea = 0
  · have b0 : (ea != 0) = false := by simpa using he
    clear k3
    go_wp2_with fail
    refine (TA.out w3 hB3).mono ?_
    rintro e w4 ⟨h, ks, aa, ca, ak, ck, rfl, ha, hk, ho, hb4⟩
    have hsome := HP.out (HZ.out he)
    have hpf : placeF f p = some (h, ks) := by
      rcases ho with ho | ⟨ho, _⟩
      · exact ho
      · rw [ho] at hsome; cases hsome
    have HPF := Lib.hid hpf
    have HEA := Lib.hid he
    clear ho hsome he
    have hs4 := hb4.size
    have k4 := (hb4.block w.heap.size (by omega)).trans K3.out
    have hB4 := hB3.trans (hb4.mono (by omega))
    have HA := Lib.hid (attrs_below ha hb4)
    have HK := Lib.hid (lies_below hk hb4)
    clear ha hk hb4 hB3
    unfold aggOf
    generalize (placeF f p).isSome = bs at *
    clear hpf
    go_wp2_with fail
    have hB5 : Below w.heap.size w (w4.alloc (.cells #[.int .i64 h.k, .string ⟨h.l.toArray⟩, .slice aa h.ats.length ca, .int .i64 h.n, .int .i64 h.d, .string ⟨h.x.toArray⟩, .slice ak ks.len ck] 43)) := hB4.alloc (by omega) _
    have hx5 : Below w4.heap.size w4 (w4.alloc (.cells #[.int .i64 h.k, .string ⟨h.l.toArray⟩, .slice aa h.ats.length ca, .int .i64 h.n, .int .i64 h.d, .string ⟨h.x.toArray⟩, .slice ak ks.len ck] 43)) := (Below.refl _ _).alloc (Nat.le_refl _) _
    have k5 : (w4.alloc (.cells #[.int .i64 h.k, .string ⟨h.l.toArray⟩, .slice aa h.ats.length ca, .int .i64 h.n, .int .i64 h.d, .string ⟨h.x.toArray⟩, .slice ak ks.len ck] 43)).heap[w.heap.size]? = _ := (Below.heap_alloc _ _ _ (by omega)).trans k4
    have hs5 : (w4.alloc (.cells #[.int .i64 h.k, .string ⟨h.l.toArray⟩, .slice aa h.ats.length ca, .int .i64 h.n, .int .i64 h.d, .string ⟨h.x.toArray⟩, .slice ak ks.len ck] 43)).heap.size = w4.heap.size + 1 := by simp
    have C := Lib.hid (cloneTree_any h ks aa ca ak ck _ (attrs_below HA.out hx5) (lies_below HK.out hx5))
    generalize w4.alloc (.cells #[.int .i64 h.k, .string ⟨h.l.toArray⟩, .slice aa h.ats.length ca, .int .i64 h.n, .int .i64 h.d, .string ⟨h.x.toArray⟩, .slice ak ks.len ck] 43) = w5 at *
    unfold aggOf at C
    refine C.out.mono ?_
    rintro e w6 ⟨aa1, ca1, ak1, ck1, rfl, ha, hk, hb6⟩
    unfold aggOf
    have hs6 := hb6.size
    have k6 := (hb6.block w.heap.size (by omega)).trans k5
    have hB6 := hB5.trans (hb6.mono (by omega))
    have HA1 := Lib.hid (attrsF_mono (B' := w.heap.size + 1) (by omega) ha)
    have HK1 := Lib.hid (liesF_mono (B' := w.heap.size + 1) (by omega) hk)
    clear k4 k5 ha hk hb6 hB5 hx5 hB4
    have y0 : w6.cell? ⟨w.heap.size, 0, none⟩ = some (.int .i64 0) := cell_of_block k6 rfl
    have z0 := frozen_of_block (o := 0) k6
    have y1 : w6.cell? ⟨w.heap.size, 1, none⟩ = some (.string ⟨#[]⟩) := cell_of_block k6 rfl
    have z1 := frozen_of_block (o := 1) k6
    have y2 : w6.cell? ⟨w.heap.size, 2, none⟩ = some (.slice none 0 0) := cell_of_block k6 rfl
    have z2 := frozen_of_block (o := 2) k6
    have y3 : w6.cell? ⟨w.heap.size, 3, none⟩ = some (.int .i64 0) := cell_of_block k6 rfl
    have z3 := frozen_of_block (o := 3) k6
    have y4 : w6.cell? ⟨w.heap.size, 4, none⟩ = some (.int .i64 0) := cell_of_block k6 rfl
    have z4 := frozen_of_block (o := 4) k6
    have y5 : w6.cell? ⟨w.heap.size, 5, none⟩ = some (.string ⟨#[]⟩) := cell_of_block k6 rfl
    have z5 := frozen_of_block (o := 5) k6
    have y6 : w6.cell? ⟨w.heap.size, 6, none⟩ = some (.slice none 0 0) := cell_of_block k6 rfl
    have z6 := frozen_of_block (o := 6) k6
    have K6 := Lib.hid k6
    clear k6
    go_wp2_with fail
    have hfin := set7_blk (.int .i64 h.k) (.string ⟨h.l.toArray⟩) (.slice aa1 h.ats.length ca1) (.int .i64 h.n) (.int .i64 h.d) (.string ⟨h.x.toArray⟩) (.slice ak1 ks.len ck1) K6.out
    have hkeep := set7_keeps (B := w.heap.size + 1) (R := w.heap.size) w6 0 1 2 3 4 5 6 (.int .i64 h.k) (.string ⟨h.l.toArray⟩) (.slice aa1 h.ats.length ca1) (.int .i64 h.n) (.int .i64 h.d) (.string ⟨h.x.toArray⟩) (.slice ak1 ks.len ck1) (by omega)
    have hbel := set7_below (R := w.heap.size) (.int .i64 h.k) (.string ⟨h.l.toArray⟩) (.slice aa1 h.ats.length ca1) (.int .i64 h.n) (.int .i64 h.d) (.string ⟨h.x.toArray⟩) (.slice ak1 ks.len ck1) hB6 (Nat.le_refl _)
    generalize (((((((w6.setCell ⟨w.heap.size, 0, none⟩ (.int .i64 h.k)).setCell ⟨w.heap.size, 1, none⟩ (.string ⟨h.l.toArray⟩)).setCell ⟨w.heap.size, 2, none⟩ (.slice aa1 h.ats.length ca1)).setCell ⟨w.heap.size, 3, none⟩ (.int .i64 h.n)).setCell ⟨w.heap.size, 4, none⟩ (.int .i64 h.d)).setCell ⟨w.heap.size, 5, none⟩ (.string ⟨h.x.toArray⟩)).setCell ⟨w.heap.size, 6, none⟩ (.slice ak1 ks.len ck1)) = Wf at hfin hbel hkeep ⊢
    have u0 : Wf.cell? ⟨w.heap.size, 0, none⟩ = some (.int .i64 h.k) := cell_of_block hfin rfl
    have u1 : Wf.cell? ⟨w.heap.size, 1, none⟩ = some (.string ⟨h.l.toArray⟩) := cell_of_block hfin rfl
    have u2 : Wf.cell? ⟨w.heap.size, 2, none⟩ = some (.slice aa1 h.ats.length ca1) := cell_of_block hfin rfl
    have u3 : Wf.cell? ⟨w.heap.size, 3, none⟩ = some (.int .i64 h.n) := cell_of_block hfin rfl
    have u4 : Wf.cell? ⟨w.heap.size, 4, none⟩ = some (.int .i64 h.d) := cell_of_block hfin rfl
    have u5 : Wf.cell? ⟨w.heap.size, 5, none⟩ = some (.string ⟨h.x.toArray⟩) := cell_of_block hfin rfl
    have u6 : Wf.cell? ⟨w.heap.size, 6, none⟩ = some (.slice ak1 ks.len ck1) := cell_of_block hfin rfl
    refine bodyPost_ret (v := .tuple #[aggOf h aa1 ca1 ak1 ks.len ck1, .int .i64 0]) (by simp [results, Tryz.results31, go_sem, aggOf, u0, u1, u2, u3, u4, u5, u6]) rfl ?_
    exact ⟨h, ks, aa1, ca1, ak1, ck1, by rw [hea, HEA.out], attrsF_mono (by omega) (attrsF_keeps HA1.out hkeep), liesF_mono (by omega) (liesF_keeps HK1.out hkeep), .inl ⟨hea.trans HEA.out, HPF.out⟩, hbel⟩
  · have b0 : (ea != 0) = true := by simpa using he
    have HEA := Lib.hid he
    clear he
    have y0 : w3.cell? ⟨w.heap.size, 0, none⟩ = some (.int .i64 0) := cell_of_block k3 rfl
    have z0 := frozen_of_block (o := 0) k3
    have y1 : w3.cell? ⟨w.heap.size, 1, none⟩ = some (.string ⟨#[]⟩) := cell_of_block k3 rfl
    have z1 := frozen_of_block (o := 1) k3
    have y2 : w3.cell? ⟨w.heap.size, 2, none⟩ = some (.slice none 0 0) := cell_of_block k3 rfl
    have z2 := frozen_of_block (o := 2) k3
    have y3 : w3.cell? ⟨w.heap.size, 3, none⟩ = some (.int .i64 0) := cell_of_block k3 rfl
    have z3 := frozen_of_block (o := 3) k3
    have y4 : w3.cell? ⟨w.heap.size, 4, none⟩ = some (.int .i64 0) := cell_of_block k3 rfl
    have z4 := frozen_of_block (o := 4) k3
    have y5 : w3.cell? ⟨w.heap.size, 5, none⟩ = some (.string ⟨#[]⟩) := cell_of_block k3 rfl
    have z5 := frozen_of_block (o := 5) k3
    have y6 : w3.cell? ⟨w.heap.size, 6, none⟩ = some (.slice none 0 0) := cell_of_block k3 rfl
    have z6 := frozen_of_block (o := 6) k3
    clear k3
    go_wp2_with fail
    have hfin := set7_blk (.int .i64 0) (.string ⟨#[]⟩) (.slice none 0 0) (.int .i64 0) (.int .i64 0) (.string ⟨#[]⟩) (.slice none 0 0) K3.out
    have hbel := set7_below (R := w.heap.size) (.int .i64 0) (.string ⟨#[]⟩) (.slice none 0 0) (.int .i64 0) (.int .i64 0) (.string ⟨#[]⟩) (.slice none 0 0) hB3 (Nat.le_refl _)
    generalize (((((((w3.setCell ⟨w.heap.size, 0, none⟩ (.int .i64 0)).setCell ⟨w.heap.size, 1, none⟩ (.string ⟨#[]⟩)).setCell ⟨w.heap.size, 2, none⟩ (.slice none 0 0)).setCell ⟨w.heap.size, 3, none⟩ (.int .i64 0)).setCell ⟨w.heap.size, 4, none⟩ (.int .i64 0)).setCell ⟨w.heap.size, 5, none⟩ (.string ⟨#[]⟩)).setCell ⟨w.heap.size, 6, none⟩ (.slice none 0 0)) = Wf at hfin hbel ⊢
    have u0 : Wf.cell? ⟨w.heap.size, 0, none⟩ = some (.int .i64 0) := cell_of_block hfin rfl
    have u1 : Wf.cell? ⟨w.heap.size, 1, none⟩ = some (.string ⟨#[]⟩) := cell_of_block hfin rfl
    have u2 : Wf.cell? ⟨w.heap.size, 2, none⟩ = some (.slice none 0 0) := cell_of_block hfin rfl
    have u3 : Wf.cell? ⟨w.heap.size, 3, none⟩ = some (.int .i64 0) := cell_of_block hfin rfl
    have u4 : Wf.cell? ⟨w.heap.size, 4, none⟩ = some (.int .i64 0) := cell_of_block hfin rfl
    have u5 : Wf.cell? ⟨w.heap.size, 5, none⟩ = some (.string ⟨#[]⟩) := cell_of_block hfin rfl
    have u6 : Wf.cell? ⟨w.heap.size, 6, none⟩ = some (.slice none 0 0) := cell_of_block hfin rfl
    refine bodyPost_ret (v := .tuple #[aggOf zeroHd none 0 none 0 0, .int .i64 ea]) (by simp [results, Tryz.results31, go_sem, aggOf, zeroHd, u0, u1, u2, u3, u4, u5, u6]) rfl ?_
    exact ⟨zeroHd, .nil, none, 0, none, 0, by rw [hea]; rfl, .inl ⟨_, _, rfl, rfl⟩, .inl ⟨_, _, rfl, rfl⟩, .inr ⟨by rw [hea]; exact HEA.out, rfl, rfl⟩, hbel⟩
end Go.Proofs.YtcgedpfolloinaaGreat

namespace Go.Proofs.YtcgedpfolloinaaGreat
open Go.RowKit

/-- what is left of a text. -/
def RdAt (b : Nat) (l : List UInt8) (W : World) : Prop := W.heap[b]? = some (.cells #[.string ⟨l.toArray⟩] 158 (0, 0))
theorem RdAt.cell {b : Nat} {l : List UInt8} {W : World} (h : RdAt b l W) : W.cell? ⟨b, 0, none⟩ = some (.string ⟨l.toArray⟩) := cell_of_block (show W.heap[b]? = _ from h) rfl
theorem RdAt.frozen {b : Nat} {l : List UInt8} {W : World} (h : RdAt b l W) : W.frozen? ⟨b, 0, none⟩ = false := frozen_of_block (show W.heap[b]? = _ from h)
theorem RdAt.set {b : Nat} {l : List UInt8} {W : World} (h : RdAt b l W) (t : List UInt8) : RdAt b t (W.setCell ⟨b, 0, none⟩ (.string ⟨t.toArray⟩)) := by
  unfold RdAt at h ⊢
  simpa using set_block (o := 0) (v := .string ⟨t.toArray⟩) h
theorem ext_tail (c : UInt8) (t : List UInt8) : (⟨(c :: t).toArray⟩ : ByteArray).extract 1 (t.length + 1) = ⟨t.toArray⟩ := by
  have := ext_rest (c :: t) 1
  simpa using this

set_option maxRecDepth 100000 in
set_option maxHeartbeats 1000000 in
theorem accept_yes (b : Nat) (c : UInt8) (t : List UInt8) (w : World) (h : RdAt b (c :: t) w) (hl : t.length ≤ 1000000) :
    Calls Tryz.prog 166 #[.pointer (some ⟨b, 0, none⟩), .int .u8 c.toNat] w fun e w' => e = .returned (.bool true) ∧ w' = w.setCell ⟨b, 0, none⟩ (.string ⟨t.toArray⟩) := by
  have c0 := h.cell
  have f0 := h.frozen
  have hx := ext_tail c t
  clear h
  go_enter Tryz.func166, Tryz.ntmps166
  go_wp2_with fail
  go_ret
  exact ⟨rfl, rfl⟩
set_option maxRecDepth 100000 in
set_option maxHeartbeats 1000000 in
theorem accept_nil (b : Nat) (c : UInt8) (w : World) (h : RdAt b [] w) :
    Calls Tryz.prog 166 #[.pointer (some ⟨b, 0, none⟩), .int .u8 c.toNat] w fun e w' => e = .returned (.bool false) ∧ w' = w := by
  have c0 := h.cell
  clear h
  go_enter Tryz.func166, Tryz.ntmps166
  go_wp2_with fail
  go_ret
  exact ⟨rfl, rfl⟩
set_option maxRecDepth 100000 in
set_option maxHeartbeats 1000000 in
theorem accept_other (b : Nat) (c d : UInt8) (t : List UInt8) (w : World) (h : RdAt b (d :: t) w) (hd : d ≠ c) :
    Calls Tryz.prog 166 #[.pointer (some ⟨b, 0, none⟩), .int .u8 c.toNat] w fun e w' => e = .returned (.bool false) ∧ w' = w := by
  have c0 := h.cell
  have hn : ((d.toNat : Int) != (c.toNat : Int)) = true := by
    rw [bne_iff_ne]; intro e; exact hd (UInt8.toNat_inj.1 (by omega))
  clear h
  go_enter Tryz.func166, Tryz.ntmps166
  go_wp2_with fail
  go_ret
  exact ⟨rfl, rfl⟩
set_option maxRecDepth 100000 in
set_option maxHeartbeats 1000000 in
theorem expect_yes (b : Nat) (c : UInt8) (t : List UInt8) (w : World) (h : RdAt b (c :: t) w) (hl : t.length ≤ 1000000) :
    Calls Tryz.prog 179 #[.pointer (some ⟨b, 0, none⟩), .int .u8 c.toNat] w fun e w' => e = .returned (.tuple #[]) ∧ w' = w.setCell ⟨b, 0, none⟩ (.string ⟨t.toArray⟩) := by
  have A := Lib.hid (accept_yes b c t w h hl)
  clear h
  go_enter Tryz.func179, Tryz.ntmps179
  go_wp2_with fail
  refine A.out.mono ?_
  rintro e w1 ⟨rfl, rfl⟩
  go_wp2_with fail
  go_end0
  exact ⟨rfl, rfl⟩
set_option maxRecDepth 100000 in
set_option maxHeartbeats 1000000 in
theorem look_yes (b : Nat) (c : UInt8) (t : List UInt8) (w : World) (h : RdAt b (c :: t) w) :
    Calls Tryz.prog 184 #[.pointer (some ⟨b, 0, none⟩)] w fun e w' => e = .returned (.int .u8 c.toNat) ∧ w' = w := by
  have c0 := h.cell
  clear h
  go_enter Tryz.func184, Tryz.ntmps184
  go_wp2_with fail
  go_ret
  exact ⟨rfl, rfl⟩
set_option maxRecDepth 100000 in
set_option maxHeartbeats 1000000 in
theorem word_yes (b : Nat) (l : List UInt8) (w : World) (h : RdAt b l w) (hl : l.length ≤ 1000000) (h0 : wordLen l ≠ 0) :
    Calls Tryz.prog 187 #[.pointer (some ⟨b, 0, none⟩)] w fun e w' => e = .returned (.string ⟨(l.take (wordLen l)).toArray⟩) ∧ w' = w.setCell ⟨b, 0, none⟩ (.string ⟨(l.drop (wordLen l)).toArray⟩) := by
  have c0 := h.cell
  have f0 := h.frozen
  have WF := Lib.hid (wordAtFront_any l w hl)
  have hle := wordLen_le l
  generalize wordLen l = n at *
  have hx := ext_rest l n
  have htl : (l.take n).length = n := by rw [List.length_take]; omega
  have hne : (l.take n).isEmpty = false := by
    rw [List.isEmpty_eq_false_iff]
    intro e
    rw [e] at htl
    simp at htl
    omega
  clear h
  go_enter Tryz.func187, Tryz.ntmps187
  go_wp2_with fail
  refine WF.out.mono ?_
  rintro e w1 ⟨rfl, rfl⟩
  go_wp2_with fail
  go_ret
  exact ⟨rfl, rfl⟩
end Go.Proofs.YtcgedpfolloinaaGreat

namespace Go.Proofs.YtcgedpfolloinaaGreat
open Go.RowKit

/-- which bytes have a backslash before them. -/
def escA : Array Value := (Array.range 128).map fun i => .bool (i == 34 || i == 92)
theorem escA_size : escA.size = 128 := by simp [escA]
theorem escA_at (i : Nat) (h : i < 128) : escA[i]? = some (.bool (i == 34 || i == 92)) := by simp [escA, h]

def WrAt (b : Nat) (p : Value) (l : List UInt8) (W : World) : Prop :=
  ∃ v, W.heap[b]? = some (.cells (#[p, v] ++ escA) 136 (0, 0)) ∧ W.ownsRow b 5 1 v l.length (Lib.byteCells l) ∧ v.ownBlock ≠ some b
def IsWr (b : Nat) (l : List UInt8) (W : World) : Prop := WrAt b (.pointer none) l W ∨ WrAt b (.pointer (some ⟨b, 0, none⟩)) l W

theorem WrAt.lt {b : Nat} {p : Value} {l : List UInt8} {W : World} (h : WrAt b p l W) : b < W.heap.size := by
  obtain ⟨v, hb, _⟩ := h
  exact (Array.getElem?_eq_some_iff.1 hb).1
theorem IsWr.lt {b : Nat} {l : List UInt8} {W : World} (h : IsWr b l W) : b < W.heap.size := by
  rcases h with h | h <;> exact h.lt
theorem wr0 (p v : Value) : (#[p, v] ++ escA)[0]? = some p := by rw [Array.getElem?_append_left (by simp)]; rfl
theorem wr1 (p v : Value) : (#[p, v] ++ escA)[1]? = some v := by rw [Array.getElem?_append_left (by simp)]; rfl
theorem wrE (p v : Value) (i : Nat) (h : i < 128) : (#[p, v] ++ escA)[2 + i]? = some (.bool (i == 34 || i == 92)) := by
  rw [Array.getElem?_append_right (by simp)]; simpa using escA_at i h
theorem WrAt.used {b : Nat} {p : Value} {l : List UInt8} {W : World} (h : WrAt b p l W) (q : Value) : WrAt b q l (W.setCell ⟨b, 0, none⟩ q) := by
  obtain ⟨v, hb, hown, hne⟩ := h
  have hlt := WrAt.lt ⟨v, hb, hown, hne⟩
  refine ⟨v, ?_, ?_, hne⟩
  · simpa using set_block (o := 0) (v := q) hb
  · refine hown.kept (row := some b) ⟨rfl, rfl, rfl, by simp [World.setCell], fun k _ hk => Below.heap_setCell _ _ _ _ (fun e => hk (by simp [e]))⟩ ?_
    exact Or.inr hne
theorem WrAt.put {b : Nat} {p v v' : Value} {l' : List UInt8} {W : World} (hb : W.heap[b]? = some (.cells (#[p, v] ++ escA) 136 (0, 0))) (hown : W.ownsRow b 5 1 v' l'.length (Lib.byteCells l')) :
    WrAt b p l' (W.setCell ⟨b, 1, none⟩ v') := by
  have hne := Lib.ownBlock_ne hown hb (by decide)
  refine ⟨v', ?_, ?_, hne⟩
  · simpa using set_block (o := 1) (v := v') hb
  · exact hown.kept (row := some b) ⟨rfl, rfl, rfl, by simp [World.setCell], fun k _ hk => Below.heap_setCell _ _ _ _ (fun e => hk (by simp [e]))⟩ (Or.inr hne)

/-- what a writing call leaves. -/
def WrRes (b : Nat) (l : List UInt8) (w w' : World) : Prop := WrAt b (.pointer (some ⟨b, 0, none⟩)) l w' ∧ Below b w w' ∧ Lib.OthersKept 5 (some b) w w'

theorem info_sb : (Tryz.prog.info? 134).map (·.size) = some 2 := by kernel_rfl
theorem info_u8 : (Tryz.prog.info? 5).map (fun i => (i.zero, i.size, i.bytes)) = some (some (.int .u8 0), 1, 1) := by kernel_rfl

set_option maxRecDepth 100000 in
set_option maxHeartbeats 1000000 in
theorem copyCheck_used (b : Nat) (w : World) (h0 : w.cell? ⟨b, 0, none⟩ = some (.pointer (some ⟨b, 0, none⟩))) :
    Calls Tryz.prog 170 #[.pointer (some ⟨b, 0, none⟩)] w fun e w' => e = .returned (.tuple #[]) ∧ w' = w := by
  obtain ⟨j, hj, _⟩ := Option.map_eq_some_iff.1 info_sb
  go_enter Tryz.func170, Tryz.ntmps170
  go_wp2_with fail
  rw [Lib.run_neq_ptr_same w _ Tryz.underlying132 hj]
  go_wp2_with fail
  go_end0
  exact ⟨rfl, rfl⟩

set_option maxRecDepth 100000 in
set_option maxHeartbeats 1000000 in
theorem copyCheck_fresh (b : Nat) (w : World) (h0 : w.cell? ⟨b, 0, none⟩ = some (.pointer none)) (hsh : w.shape? b = some (136, 130)) (hfz : w.frozen? ⟨b, 0, none⟩ = false) :
    Calls Tryz.prog 170 #[.pointer (some ⟨b, 0, none⟩)] w fun e w' => e = .returned (.tuple #[]) ∧ w' = w.setCell ⟨b, 0, none⟩ (.pointer (some ⟨b, 0, none⟩)) := by
  obtain ⟨j, hj, hjs⟩ := Option.map_eq_some_iff.1 info_sb
  go_enter Tryz.func170, Tryz.ntmps170
  go_wp2_with fail
  rw [Lib.run_to_unsafe w ⟨b, 0, none⟩ Tryz.underlying132 Tryz.underlying194 hj (by rw [hjs]; decide) hsh (by show 0 < 130; decide)]
  simp only [Result.andThen]
  rw [Oper.upon_value]
  go_wp2_with fail
  rw [run_callFunc_extern Tryz.func181 (by kernel_rfl) (by kernel_rfl) (by kernel_rfl) (e := Extern.AbiNoEscape.same) (by kernel_rfl)]
  rw [Lib.run_noEscape]
  simp only [Result.andThen]
  rw [Oper.upon_value]
  go_wp2_with fail
  rw [Lib.run_from_unsafe w ⟨b, 0, none⟩ Tryz.underlying194 Tryz.underlying132 hj hsh (by kernel_rfl)]
  simp only [Result.andThen]
  rw [Oper.upon_value]
  go_wp2_with fail
  go_end0
  exact ⟨rfl, rfl⟩
theorem copyCheck_any (b : Nat) (l : List UInt8) (w : World) (h : IsWr b l w) : Calls Tryz.prog 170 #[.pointer (some ⟨b, 0, none⟩)] w fun e w' => e = .returned (.tuple #[]) ∧ WrRes b l w w' := by
  rcases h with h | h
  · obtain ⟨v, hb, hown, hne⟩ := h
    refine (copyCheck_fresh b w (cell_of_block hb (wr0 _ _)) (by simp [World.shape?, hb, escA_size]) (frozen_of_block hb)).mono ?_
    rintro e w' ⟨rfl, rfl⟩
    exact ⟨rfl, WrAt.used ⟨v, hb, hown, hne⟩ _, (Below.refl b w).setCell (p := ⟨b, 0, none⟩) (Nat.le_refl _) _, (Lib.OthersKept.refl _ _ w).setCell ⟨b, 0, none⟩ rfl _⟩
  · obtain ⟨v, hb, hown, hne⟩ := h
    refine (copyCheck_used b w (cell_of_block hb (wr0 _ _))).mono ?_
    rintro e w' ⟨rfl, rfl⟩
    exact ⟨rfl, ⟨v, hb, hown, hne⟩, Below.refl b _, Lib.OthersKept.refl _ _ _⟩

set_option maxRecDepth 100000 in
set_option maxHeartbeats 2000000 in
theorem writeByte_any (b : Nat) (l : List UInt8) (c : UInt8) (w : World) (h : IsWr b l w) (hl : l.length ≤ 1000000000) :
    Calls Tryz.prog 155 #[.pointer (some ⟨b, 0, none⟩), .int .u8 c.toNat] w fun e w' => e = .returned .nilIface ∧ WrRes b (l ++ [c]) w w' := by
  obtain ⟨i0, hi, hz0, hz1, hz2⟩ := info_parts info_u8
  have hbw := h.lt
  have CC := Lib.hid (copyCheck_any b l w h)
  clear h
  go_enter Tryz.func155, Tryz.ntmps155
  go_wp2_with fail
  refine CC.out.mono ?_
  rintro e w1 ⟨rfl, ⟨v, hbk, hown, hne⟩, hb1, hk1⟩
  have hs1 := hb1.size
  have c1 : w1.cell? ⟨b, 1, none⟩ = some v := cell_of_block hbk (wr1 _ _)
  have hlt : b < w1.heap.size := by omega
  have HBK := Lib.hid hbk
  have HOWN := Lib.hid hown
  have HK := Lib.hid hk1
  clear hbk hown hk1
  go_wp2_with (at_builtin; refine wpList_append_own _ rfl _ _ 92 rfl b 5 i0 (.int .u8 0) 1 1 Tryz.underlying92 hi hz0 hz1 hz2 rfl (by decide) _ _ _ rfl (HOWN.out.alloc _) ⟨w1.heap.size, 0, none⟩ 1 1 [.int .u8 c.toNat] rfl rfl ?c1 ?c2 ?c3 ?c4 ?c5 ?stop)
  case c1 =>
    intro j u hj
    match j, hj with
    | 0, hj => simp at hj; subst hj; simp [Addr.add]
  case c2 => intro u hu; simp at hu; subst hu; rfl
  case c3 => unfold maxLen; omega
  case c4 => omega
  case c5 => simp; omega
  case stop =>
    intro v' w2 hown' hgrow _
    have hb2 : w2.heap[b]? = some (.cells (#[.pointer (some ⟨b, 0, none⟩), v] ++ escA) 136 (0, 0)) := by
      rw [hgrow.block b (by simp; omega) (fun e => hne e.symm), Below.heap_alloc w1 _ b hlt]
      exact HBK.out
    have d1 : w2.cell? ⟨b, 1, none⟩ = some v := cell_of_block hb2 (wr1 _ _)
    have f1 : w2.frozen? ⟨b, 1, none⟩ = false := frozen_of_block hb2
    obtain ⟨g, cap, rfl⟩ : ∃ g cap, v' = .slice (some ⟨g, 0, none⟩) (l.length + 1) cap := by
      rcases hown'.2 with ⟨_, h0⟩ | ⟨g, cap, cur, hv, _⟩
      · omega
      · exact ⟨g, cap, hv⟩
    have HO := Lib.hid hown'
    have HG := Lib.hid hgrow
    have HB2 := Lib.hid hb2
    clear hown' hgrow hb2
    go_wp2_with fail
    go_ret
    refine ⟨rfl, WrAt.put HB2.out (by simpa [Lib.byteCells] using HO.out), ?_, ?_⟩
    · exact ((hb1.alloc (by omega) _).grown HG.out (by simp; omega) (fun k hk => (HOWN.out.lt k hk).1)).setCell (p := ⟨b, 1, none⟩) (Nat.le_refl _) _
    · refine ((HK.out.alloc _).grown HG.out ?_).setCell ⟨b, 1, none⟩ rfl _
      intro g hg
      rcases (HOWN.out.alloc (.cells #[.int .u8 c.toNat] 5)).2 with ⟨rfl, _⟩ | ⟨g', cap', cur, rfl, _, hc, _⟩
      · simp [Value.ownBlock] at hg
      · simp only [Value.ownBlock, Option.some.injEq] at hg; subst hg; exact ⟨_, _, hc⟩

set_option maxRecDepth 100000 in
set_option maxHeartbeats 2000000 in
theorem writeString_any (b : Nat) (l s : List UInt8) (w : World) (h : IsWr b l w) (hl : l.length + s.length ≤ 1000000000) :
    Calls Tryz.prog 172 #[.pointer (some ⟨b, 0, none⟩), .string ⟨s.toArray⟩] w fun e w' => e = .returned (.tuple #[.int .i64 s.length, .nilIface]) ∧ WrRes b (l ++ s) w w' := by
  obtain ⟨i0, hi, hz0, hz1, hz2⟩ := info_parts info_u8
  have hbw := h.lt
  have CC := Lib.hid (copyCheck_any b l w h)
  clear h
  have hsz : (⟨s.toArray⟩ : ByteArray).size = s.length := by simp [ByteArray.size]
  go_enter Tryz.func172, Tryz.ntmps172
  go_wp2_with fail
  refine CC.out.mono ?_
  rintro e w1 ⟨rfl, ⟨v, hbk, hown, hne⟩, hb1, hk1⟩
  have hs1 := hb1.size
  have c1 : w1.cell? ⟨b, 1, none⟩ = some v := cell_of_block hbk (wr1 _ _)
  have hlt : b < w1.heap.size := by omega
  have HBK := Lib.hid hbk
  have HOWN := Lib.hid hown
  have HK := Lib.hid hk1
  clear hbk hown hk1
  go_wp2_with (at_builtin; refine Lib.wpList_append_own_string _ rfl _ _ 92 9 rfl b 5 i0 Tryz.underlying92 Tryz.underlying9 hi hz0 hz1 hz2 _ _ _ rfl HOWN.out ⟨s.toArray⟩ rfl ?c3 ?c4 ?c5 ?stop)
  case c3 => rw [hsz]; unfold maxLen; omega
  case c4 => rw [hsz]; omega
  case c5 => omega
  case stop =>
    intro v' w2 hown' hgrow _
    have hb2 : w2.heap[b]? = some (.cells (#[.pointer (some ⟨b, 0, none⟩), v] ++ escA) 136 (0, 0)) := by
      rw [hgrow.block b hlt (fun e => hne e.symm)]
      exact HBK.out
    have d1 : w2.cell? ⟨b, 1, none⟩ = some v := cell_of_block hb2 (wr1 _ _)
    have f1 : w2.frozen? ⟨b, 1, none⟩ = false := frozen_of_block hb2
    obtain ⟨ao, n', cap, rfl⟩ : ∃ ao n' cap, v' = .slice ao n' cap := by
      rcases hown'.2 with ⟨hv, _⟩ | ⟨g, cap, cur, hv, _⟩
      · exact ⟨_, _, _, hv⟩
      · exact ⟨_, _, _, hv⟩
    have HO := Lib.hid hown'
    have HG := Lib.hid hgrow
    have HB2 := Lib.hid hb2
    clear hown' hgrow hb2
    go_wp2_with fail
    go_ret2
    refine ⟨by simp, WrAt.put HB2.out ?_, ?_, ?_⟩
    · have := HO.out
      rw [Lib.strCells_eq] at this
      simpa [Lib.byteCells_append, List.length_append] using this
    · exact (hb1.grown HG.out (by omega) (fun k hk => (HOWN.out.lt k hk).1)).setCell (p := ⟨b, 1, none⟩) (Nat.le_refl _) _
    · refine (HK.out.grown HG.out ?_).setCell ⟨b, 1, none⟩ rfl _
      intro g hg
      rcases HOWN.out.2 with ⟨rfl, _⟩ | ⟨g', cap', cur, rfl, _, hc, _⟩
      · simp [Value.ownBlock] at hg
      · simp only [Value.ownBlock, Option.some.injEq] at hg; subst hg; exact ⟨_, _, hc⟩
end Go.Proofs.YtcgedpfolloinaaGreat

namespace Go.Proofs.YtcgedpfolloinaaGreat
open Go.RowKit

set_option maxRecDepth 100000 in
set_option maxHeartbeats 2000000 in
theorem appendRune_any (b : Nat) (l : List UInt8) (c : UInt8) (v : Value) (w : World) (hown : w.ownsRow b 5 1 v l.length (Lib.byteCells l)) (hne : v.ownBlock ≠ some b) (hbw : b < w.heap.size) (hl : l.length ≤ 1000000000) (hc : c.toNat < 128) :
    Calls Tryz.prog 197 #[v, .int .i32 c.toNat] w fun e w' => ∃ a cap, e = .returned (.slice a (l.length + 1) cap) ∧ w'.ownsRow b 5 1 (.slice a (l.length + 1) cap) (l.length + 1) (Lib.byteCells (l ++ [c])) ∧ Below b w w' ∧ w'.heap[b]? = w.heap[b]? ∧ Lib.OthersKept 5 (some b) w w' := by
  obtain ⟨i0, hi, hz0, hz1, hz2⟩ := info_parts info_u8
  have HOWN := Lib.hid hown
  clear hown
  have hw32 : IntKind.u32.wrap (c.toNat : Int) = c.toNat := by rw [show IntKind.u32.wrap (c.toNat : Int) = (c.toNat : Int) % 4294967296 from rfl]; omega
  have hw8 : IntKind.u8.wrap (c.toNat : Int) = c.toNat := by rw [show IntKind.u8.wrap (c.toNat : Int) = (c.toNat : Int) % 256 from rfl]; omega
  have hle : decide ((c.toNat : Int) ≤ 127) = true := by simp; omega
  have hle' : decide (c.toNat ≤ 127) = true := by simp; omega
  go_enter Tryz.func197, Tryz.ntmps197
  go_wp2_with (at_builtin; refine wpList_append_own _ rfl _ _ 92 rfl b 5 i0 (.int .u8 0) 1 1 Tryz.underlying92 hi hz0 hz1 hz2 rfl (by decide) _ _ _ rfl (HOWN.out.alloc _) ⟨w.heap.size, 0, none⟩ 1 1 [.int .u8 c.toNat] rfl rfl ?c1 ?c2 ?c3 ?c4 ?c5 ?stop)
  case c1 =>
    intro j u hj
    match j, hj with
    | 0, hj => simp at hj; subst hj; simp [Addr.add]
  case c2 => intro u hu; simp at hu; subst hu; rfl
  case c3 => unfold maxLen; omega
  case c4 => omega
  case c5 => simp; omega
  case stop =>
    intro v' w2 hown' hgrow _
    obtain ⟨g, cap, rfl⟩ : ∃ g cap, v' = .slice (some ⟨g, 0, none⟩) (l.length + 1) cap := by
      rcases hown'.2 with ⟨_, h0⟩ | ⟨g, cap, cur, hv, _⟩
      · omega
      · exact ⟨g, cap, hv⟩
    have HO := Lib.hid hown'
    have HG := Lib.hid hgrow
    clear hown' hgrow
    go_wp2_with fail
    go_ret
    refine ⟨some ⟨g, 0, none⟩, cap, rfl, by simpa [Lib.byteCells] using HO.out, ?_, ?_, ?_⟩
    · exact (((Below.refl b w).alloc (by omega) _).grown HG.out (by simp; omega) (fun k hk => (HOWN.out.lt k hk).1))
    · rw [HG.out.block b (by simp; omega) (fun e => hne e.symm), Below.heap_alloc w _ b hbw]
    · refine ((Lib.OthersKept.refl _ _ w).alloc _).grown HG.out ?_
      intro g hg
      rcases (HOWN.out.alloc (.cells #[.int .u8 c.toNat] 5)).2 with ⟨rfl, _⟩ | ⟨g', cap', cur, rfl, _, hc, _⟩
      · simp [Value.ownBlock] at hg
      · simp only [Value.ownBlock, Option.some.injEq] at hg; subst hg; exact ⟨_, _, hc⟩

set_option maxRecDepth 100000 in
set_option maxHeartbeats 2000000 in
theorem writeRune_any (b : Nat) (l : List UInt8) (c : UInt8) (w : World) (h : IsWr b l w) (hl : l.length ≤ 1000000000) (hc : c.toNat < 128) :
    Calls Tryz.prog 183 #[.pointer (some ⟨b, 0, none⟩), .int .i32 c.toNat] w fun e w' => e = .returned (.tuple #[.int .i64 1, .nilIface]) ∧ WrRes b (l ++ [c]) w w' := by
  have hbw := h.lt
  have CC := Lib.hid (copyCheck_any b l w h)
  clear h
  go_enter Tryz.func183, Tryz.ntmps183
  go_wp2_with fail
  refine CC.out.mono ?_
  rintro e w1 ⟨rfl, ⟨v, hbk, hown, hne⟩, hb1, hk1⟩
  have hs1 := hb1.size
  obtain ⟨va, vc, rfl⟩ : ∃ va vc, v = .slice va l.length vc := by
    rcases hown.2 with ⟨rfl, h0⟩ | ⟨g, cap, cur, hv, _⟩
    · exact ⟨none, 0, by rw [h0]⟩
    · exact ⟨_, _, hv⟩
  have c1 : w1.cell? ⟨b, 1, none⟩ = some (.slice va l.length vc) := cell_of_block hbk (wr1 _ _)
  have hlt : b < w1.heap.size := by omega
  have AR := Lib.hid (appendRune_any b l c _ w1 hown hne hlt hl hc)
  have HBK := Lib.hid hbk
  have HK := Lib.hid hk1
  clear hbk hown hk1
  go_wp2_with fail
  refine AR.out.mono ?_
  rintro e w2 ⟨a, cap, rfl, hown2, hb2, hblk, hk2⟩
  have hbk2 := hblk.trans HBK.out
  have d1 : w2.cell? ⟨b, 1, none⟩ = some (.slice va l.length vc) := cell_of_block hbk2 (wr1 _ _)
  have f1 : w2.frozen? ⟨b, 1, none⟩ = false := frozen_of_block hbk2
  have HB2 := Lib.hid hbk2
  have HO := Lib.hid hown2
  have HK2 := Lib.hid hk2
  clear hblk hbk2 hown2 hk2
  go_wp2_with fail
  go_ret2
  refine ⟨by simp; omega, WrAt.put HB2.out (by simpa using HO.out), (hb1.trans hb2).setCell (p := ⟨b, 1, none⟩) (Nat.le_refl _) _, (HK.out.trans HK2.out).setCell ⟨b, 1, none⟩ rfl _⟩
end Go.Proofs.YtcgedpfolloinaaGreat
