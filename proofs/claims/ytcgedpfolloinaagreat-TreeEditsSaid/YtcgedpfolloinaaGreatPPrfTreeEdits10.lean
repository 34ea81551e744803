/- What the proof of PrfTreeEdits rests on, part 10 of 14. -/
import Derived.Maps.AppendAt
import Derived.Laws.OwnMore
import Derived.Test.YtcgedpfolloinaaGreatPPrfTreeEdits9
namespace Go.Proofs.YtcgedpfolloinaaGreat
open Go.RowKit

/-- what may be written: all blocks but those that I holds of. -/
def KeepsO (I : Nat → Prop) (w w' : World) : Prop := w.heap.size ≤ w'.heap.size ∧ ∀ x, I x → x < w.heap.size → w'.heap[x]? = w.heap[x]?
theorem KeepsO.refl (I : Nat → Prop) (w : World) : KeepsO I w w := ⟨Nat.le_refl _, fun _ _ _ => rfl⟩
theorem KeepsO.trans {I : Nat → Prop} {a b c : World} (h : KeepsO I a b) (k : KeepsO I b c) : KeepsO I a c :=
  ⟨Nat.le_trans h.1 k.1, fun x hx hl => (k.2 x hx (Nat.lt_of_lt_of_le hl h.1)).trans (h.2 x hx hl)⟩
theorem KeepsO.of_below {I : Nat → Prop} {w w' : World} (k : Below w.heap.size w w') : KeepsO I w w' := ⟨k.size, fun b _ h => k.block b h⟩
theorem KeepsO.mono {I J : Nat → Prop} {w w' : World} (hI : ∀ x, I x → J x) (k : KeepsO J w w') : KeepsO I w w' := ⟨k.1, fun x hx hl => k.2 x (hI x hx) hl⟩
theorem KeepsO.setCell {I : Nat → Prop} (w : World) {b : Nat} (h : ¬ I b) (o : Nat) (u : Value) : KeepsO I w (w.setCell ⟨b, o, none⟩ u) :=
  ⟨Nat.le_of_eq set_size'.symm, fun x hx _ => set_far (k := x) (fun (e : x = b) => h (e ▸ hx))⟩
theorem KeepsO.cell {I : Nat → Prop} {w w' : World} (k : KeepsO I w w') {b : Nat} (hI : I b) (hb : b < w.heap.size) (o : Nat) : w'.cell? ⟨b, o, none⟩ = w.cell? ⟨b, o, none⟩ :=
  World.cell?_of_block (w := w) (k.2 b hI hb)
theorem set7_keepsO {I : Nat → Prop} (W : World) {R : Nat} (o0 o1 o2 o3 o4 o5 o6 : Nat) (b0 b1 b2 b3 b4 b5 b6 : Value) (h : ¬ I R) :
    KeepsO I W (((((((W.setCell ⟨R, o0, none⟩ b0).setCell ⟨R, o1, none⟩ b1).setCell ⟨R, o2, none⟩ b2).setCell ⟨R, o3, none⟩ b3).setCell ⟨R, o4, none⟩ b4).setCell ⟨R, o5, none⟩ b5).setCell ⟨R, o6, none⟩ b6) :=
  ((((((KeepsO.setCell W h _ _).trans (.setCell _ h _ _)).trans (.setCell _ h _ _)).trans (.setCell _ h _ _)).trans (.setCell _ h _ _)).trans (.setCell _ h _ _)).trans (.setCell _ h _ _)

/-- attributes that lie in a block that I holds of. -/
def AttrsO (I : Nat → Prop) (w : World) (v : Value) (l : List (List UInt8 × List UInt8)) : Prop :=
  (∃ a cap, v = .slice a 0 cap ∧ l = []) ∨ ∃ b off cap, v = .slice (some ⟨b, off, none⟩) l.length cap ∧ l.length ≤ cap ∧ l.length ≤ 4398046510976 ∧ I b ∧ b < w.heap.size ∧
    ∀ k, k < l.length → w.cell? ⟨b, off + k * 2, none⟩ = some (.string ⟨(l.getD k ([], [])).1.toArray⟩) ∧ w.cell? ⟨b, off + k * 2 + 1, none⟩ = some (.string ⟨(l.getD k ([], [])).2.toArray⟩)
def HdO (I : Nat → Prop) (w : World) (h : Hd) (b o : Nat) : Prop :=
  w.cell? ⟨b, o, none⟩ = some (.int .i64 h.k) ∧ w.cell? ⟨b, o + 1, none⟩ = some (.string ⟨h.l.toArray⟩) ∧ (∃ va, w.cell? ⟨b, o + 2, none⟩ = some va ∧ AttrsO I w va h.ats) ∧
  w.cell? ⟨b, o + 3, none⟩ = some (.int .i64 h.n) ∧ w.cell? ⟨b, o + 4, none⟩ = some (.int .i64 h.d) ∧ w.cell? ⟨b, o + 5, none⟩ = some (.string ⟨h.x.toArray⟩)
/-- part number c of what lies behind a row in block b. -/
def cls (I : Nat → Prop) (own : Nat → Nat) (b c : Nat) : Nat → Prop := fun x => I x ∧ b < x ∧ own x = c
/-- tree number j's attributes lie in part 2 j, its kids' rows in part 2 j + 1. -/
def RowO (w : World) : Fo → (Nat → Prop) → (Nat → Nat) → Nat → Nat → Prop
  | .nil, _, _, _, _ => True
  | .cons h ks r, I, own, b, j => HdO (cls I own b (2 * j)) w h b (j * 7) ∧ (∃ v, w.cell? ⟨b, j * 7 + 6, none⟩ = some v ∧
      ((∃ a cap, v = .slice a 0 cap ∧ ks = .nil) ∨ ∃ b' cap own' C, v = .slice (some ⟨b', 0, none⟩) ks.len cap ∧ ks.len ≤ cap ∧ ks.len ≤ 2000000000000 ∧ cls I own b (2 * j + 1) b' ∧
        w.heap[b']? = some (.cells C 43 (0, 0)) ∧ ks.len * 7 ≤ C.size ∧ RowO w ks (cls I own b (2 * j + 1)) own' b' 0)) ∧ RowO w r I own b (j + 1)
def LiesO (I : Nat → Prop) (w : World) (v : Value) (f : Fo) : Prop :=
  (∃ a cap, v = .slice a 0 cap ∧ f = .nil) ∨ ∃ b cap own C, v = .slice (some ⟨b, 0, none⟩) f.len cap ∧ f.len ≤ cap ∧ f.len ≤ 2000000000000 ∧ I b ∧
    w.heap[b]? = some (.cells C 43 (0, 0)) ∧ f.len * 7 ≤ C.size ∧ RowO w f I own b 0
theorem blk_size {w : World} {b : Nat} {x : Obj} (h : w.heap[b]? = some x) : b < w.heap.size := (Array.getElem?_eq_some_iff.1 h).1

theorem attrsO_keeps {I : Nat → Prop} {w w' : World} {v : Value} {l : List (List UInt8 × List UInt8)} (h : AttrsO I w v l) (k : KeepsO I w w') : AttrsO I w' v l := by
  rcases h with h | ⟨b, off, cap, h1, h0, h4, h5, h2, h3⟩
  · exact .inl h
  · exact .inr ⟨b, off, cap, h1, h0, h4, h5, Nat.lt_of_lt_of_le h2 k.1, fun i hi => ⟨(k.cell h5 h2 _).trans (h3 i hi).1, (k.cell h5 h2 _).trans (h3 i hi).2⟩⟩
theorem attrsO_mono {I I' : Nat → Prop} {w : World} (hI : ∀ x, I x → x < w.heap.size → I' x) {v : Value} {l : List (List UInt8 × List UInt8)} (h : AttrsO I w v l) : AttrsO I' w v l := by
  rcases h with h | ⟨b, off, cap, h1, h0, h4, h5, h2, h3⟩
  · exact .inl h
  · exact .inr ⟨b, off, cap, h1, h0, h4, hI _ h5 h2, h2, h3⟩
theorem attrsO_F {I : Nat → Prop} {B : Nat} {w : World} (hI : ∀ x, I x → B ≤ x) {v : Value} {l : List (List UInt8 × List UInt8)} (h : AttrsO I w v l) : AttrsF B w v l := by
  rcases h with h | ⟨b, off, cap, h1, h0, h4, h5, h2, h3⟩
  · exact .inl h
  · exact .inr ⟨b, off, cap, h1, h0, h4, hI _ h5, h2, h3⟩
theorem attrsF_O {B : Nat} {w : World} {v : Value} {l : List (List UInt8 × List UInt8)} (h : AttrsF B w v l) : AttrsO (fun x => B ≤ x ∧ x < w.heap.size) w v l := by
  rcases h with h | ⟨b, off, cap, h1, h0, h4, h5, h2, h3⟩
  · exact .inl h
  · exact .inr ⟨b, off, cap, h1, h0, h4, ⟨h5, h2⟩, h2, h3⟩
theorem attrsO_form {I : Nat → Prop} {w : World} {v : Value} {l : List (List UInt8 × List UInt8)} (h : AttrsO I w v l) : ∃ a cap, v = .slice a l.length cap := by
  rcases h with ⟨a, cap, rfl, rfl⟩ | ⟨b, off, cap, rfl, _⟩
  · exact ⟨a, cap, rfl⟩
  · exact ⟨_, cap, rfl⟩
theorem hdO_mono {I I' : Nat → Prop} {w : World} (hI : ∀ x, I x → x < w.heap.size → I' x) {h : Hd} {b o : Nat} (H : HdO I w h b o) : HdO I' w h b o := by
  obtain ⟨h0, h1, ⟨va, h2, ha⟩, h3, h4, h5⟩ := H
  exact ⟨h0, h1, ⟨va, h2, attrsO_mono hI ha⟩, h3, h4, h5⟩
theorem cls_mono {I I' : Nat → Prop} {own own' : Nat → Nat} {b c : Nat} {w : World} (hI : ∀ x, I x → x < w.heap.size → I' x) (ho : ∀ x, x < w.heap.size → own x = c → own' x = c) : ∀ x, cls I own b c x → x < w.heap.size → cls I' own' b c x :=
  fun x hx hl => ⟨hI x hx.1 hl, hx.2.1, ho x hl hx.2.2⟩
theorem rowO_mono {w : World} : ∀ (f : Fo) (I I' : Nat → Prop) (own own' : Nat → Nat) (b j : Nat), (∀ x, I x → x < w.heap.size → I' x) → (∀ x, x < w.heap.size → own x = own' x) → RowO w f I own b j → RowO w f I' own' b j
  | .nil, _, _, _, _, _, _, _, _, _ => trivial
  | .cons h ks r, I, I', own, own', b, j, hI, ho, H => by
    obtain ⟨h0, ⟨v, h6, h7⟩, h8⟩ := H
    have hc : ∀ c x, cls I own b c x → x < w.heap.size → cls I' own' b c x := fun c => cls_mono hI (fun x hx e => (ho x hx).symm.trans e)
    refine ⟨hdO_mono (hc _) h0, ⟨v, h6, ?_⟩, rowO_mono r I I' own own' b (j + 1) hI ho h8⟩
    rcases h7 with h7 | ⟨b', cap, own1, C, e, e0, e3, eI, eB, eC, e2⟩
    · exact .inl h7
    · exact .inr ⟨b', cap, own1, C, e, e0, e3, hc _ _ eI (blk_size eB), eB, eC, rowO_mono ks _ _ own1 own1 b' 0 (hc _) (fun _ _ => rfl) e2⟩
theorem liesO_mono {I I' : Nat → Prop} {w : World} (hI : ∀ x, I x → x < w.heap.size → I' x) {v : Value} {f : Fo} (h : LiesO I w v f) : LiesO I' w v f := by
  rcases h with h | ⟨b, cap, own, C, e, e0, e3, eI, eB, eC, e2⟩
  · exact .inl h
  · exact .inr ⟨b, cap, own, C, e, e0, e3, hI _ eI (blk_size eB), eB, eC, rowO_mono f _ _ own own b 0 hI (fun _ _ => rfl) e2⟩
theorem rowO_keeps {w w' : World} : ∀ (f : Fo) (I : Nat → Prop) (own : Nat → Nat) (b j : Nat), I b → b < w.heap.size → KeepsO I w w' → RowO w f I own b j → RowO w' f I own b j
  | .nil, _, _, _, _, _, _, _, _ => trivial
  | .cons h ks r, I, own, b, j, hb, hl, k, H => by
    obtain ⟨⟨h0, h1, ⟨va, h2, ha⟩, h3, h4, h5⟩, ⟨v, h6, h7⟩, h8⟩ := H
    have hc := fun o => k.cell hb hl o
    have kc : ∀ c, KeepsO (cls I own b c) w w' := fun c => k.mono (fun x hx => hx.1)
    refine ⟨⟨(hc _).trans h0, (hc _).trans h1, ⟨va, (hc _).trans h2, attrsO_keeps ha (kc _)⟩, (hc _).trans h3, (hc _).trans h4, (hc _).trans h5⟩, ⟨v, (hc _).trans h6, ?_⟩, rowO_keeps r I own b (j + 1) hb hl k h8⟩
    rcases h7 with h7 | ⟨b', cap, own1, C, e, e0, e3, eI, eB, eC, e2⟩
    · exact .inl h7
    · exact .inr ⟨b', cap, own1, C, e, e0, e3, eI, ((kc _).2 _ eI (blk_size eB)).trans eB, eC, rowO_keeps ks _ own1 b' 0 eI (blk_size eB) (kc _) e2⟩
theorem liesO_keeps {I : Nat → Prop} {w w' : World} {v : Value} {f : Fo} (h : LiesO I w v f) (k : KeepsO I w w') : LiesO I w' v f := by
  rcases h with h | ⟨b, cap, own, C, e, e0, e3, eI, eB, eC, e2⟩
  · exact .inl h
  · exact .inr ⟨b, cap, own, C, e, e0, e3, eI, (k.2 _ eI (blk_size eB)).trans eB, eC, rowO_keeps f I own b 0 eI (blk_size eB) k e2⟩
theorem rowO_F {B : Nat} {w : World} : ∀ (f : Fo) (I : Nat → Prop) (own : Nat → Nat) (b j : Nat), (∀ x, I x → B ≤ x) → RowO w f I own b j → RowF B w f b (j * 7)
  | .nil, _, _, _, _, _, _ => trivial
  | .cons h ks r, I, own, b, j, hI, H => by
    obtain ⟨⟨h0, h1, ⟨va, h2, ha⟩, h3, h4, h5⟩, ⟨v, h6, h7⟩, h8⟩ := H
    have h9 := rowO_F r I own b (j + 1) hI h8
    rw [show (j + 1) * 7 = j * 7 + 7 by omega] at h9
    refine ⟨⟨h0, h1, ⟨va, h2, attrsO_F (fun x hx => hI x hx.1) ha⟩, h3, h4, h5⟩, ⟨v, h6, ?_⟩, h9⟩
    rcases h7 with h7 | ⟨b', cap, own1, C, e, e0, e3, eI, eB, eC, e2⟩
    · exact .inl h7
    · have := rowO_F ks _ own1 b' 0 (fun x hx => hI x hx.1) e2
      rw [Nat.zero_mul] at this
      exact .inr ⟨b', 0, cap, e, e0, e3, hI _ eI.1, blk_size eB, this⟩
theorem liesO_F {I : Nat → Prop} {B : Nat} {w : World} {v : Value} {f : Fo} (hI : ∀ x, I x → B ≤ x) (h : LiesO I w v f) : LiesF B w v f := by
  rcases h with h | ⟨b, cap, own, C, e, e0, e3, eI, eB, eC, e2⟩
  · exact .inl h
  · have := rowO_F f I own b 0 hI e2
    rw [Nat.zero_mul] at this
    exact .inr ⟨b, 0, cap, e, e0, e3, hI _ eI, blk_size eB, this⟩
theorem liesO_form {I : Nat → Prop} {w : World} {v : Value} {f : Fo} (h : LiesO I w v f) : ∃ a cap, v = .slice a f.len cap := by
  rcases h with ⟨a, cap, rfl, rfl⟩ | ⟨b, cap, _, _, rfl, _⟩
  · exact ⟨a, cap, rfl⟩
  · exact ⟨_, cap, rfl⟩
/-- tree by tree. -/
def TreesO (I : Nat → Prop) (own : Nat → Nat) (w : World) (f : Fo) (b i n : Nat) : Prop :=
  ∀ j h ks, j < n → f.drop j = .cons h ks (f.drop (j + 1)) → HdO (cls I own b (2 * (i + j))) w h b ((i + j) * 7) ∧ ∃ v, w.cell? ⟨b, (i + j) * 7 + 6, none⟩ = some v ∧ LiesO (cls I own b (2 * (i + j) + 1)) w v ks
theorem rowO_of {I : Nat → Prop} {own : Nat → Nat} {w : World} {b : Nat} : ∀ (f : Fo) (i : Nat), TreesO I own w f b i f.len → RowO w f I own b i
  | .nil, _, _ => trivial
  | .cons h ks r, i, H => by
    have h0 := H 0 h ks (by simp [Fo.len]) rfl
    refine ⟨h0.1, h0.2, rowO_of r (i + 1) fun j h' ks' hj e => ?_⟩
    have := H (j + 1) h' ks' (by simp [Fo.len]; omega) e
    rw [show i + (j + 1) = i + 1 + j by omega] at this
    exact this
theorem treesO_of {I : Nat → Prop} {own : Nat → Nat} {w : World} {b : Nat} : ∀ (f : Fo) (i : Nat), RowO w f I own b i → TreesO I own w f b i f.len
  | .nil, _, _ => fun j _ _ hj => absurd hj (by simp [Fo.len])
  | .cons h ks r, i, H => by
    obtain ⟨h0, h1, h2⟩ := H
    intro j h' ks' hj e
    cases j with
    | zero =>
      simp only [Fo.drop, Fo.cons.injEq] at e
      obtain ⟨rfl, rfl, -⟩ := e
      exact ⟨h0, h1⟩
    | succ j =>
      have := treesO_of r (i + 1) h2 j h' ks' (by simp [Fo.len] at hj; omega) e
      rw [show i + 1 + j = i + (j + 1) by omega] at this
      exact this
end Go.Proofs.YtcgedpfolloinaaGreat

namespace Go.Proofs.YtcgedpfolloinaaGreat
open Go.RowKit

/-- what clone gives. -/
def CloneResO (w : World) (f : Fo) (e : Ending) (w' : World) : Prop := ∃ a cap, e = .returned (.slice a f.len cap) ∧ LiesO (fun x => w.heap.size ≤ x) w' (.slice a f.len cap) f ∧ Below w.heap.size w w'
def CloneTreeResO (w : World) (h : Hd) (ks : Fo) (e : Ending) (w' : World) : Prop :=
  ∃ aa ca ak ck M, e = .returned (aggOf h aa ca ak ks.len ck) ∧ AttrsO (fun x => w.heap.size ≤ x ∧ x < M) w' (.slice aa h.ats.length ca) h.ats ∧ LiesO (fun x => M ≤ x ∧ w.heap.size ≤ x) w' (.slice ak ks.len ck) ks ∧ Below w.heap.size w w'

set_option maxRecDepth 100000 in
set_option maxHeartbeats 2000000 in
theorem cloneTreeO_of (h : Hd) (ks : Fo) (aa : Option Addr) (ca : Nat) (ak : Option Addr) (ck : Nat) (w : World) (ha : AttrsLie w (.slice aa h.ats.length ca) h.ats) (hk : Lies w (.slice ak ks.len ck) ks)
    (HC : ∀ v w, Lies w v ks → Calls Tryz.prog 97 #[v] w (CloneResO w ks)) :
    Calls Tryz.prog 93 #[aggOf h aa ca ak ks.len ck] w (CloneTreeResO w h ks) := by
  have HA := Lib.hid (fun w1 (hw : Below w.heap.size w w1) => cloneAttrs_any _ _ w1 (attrs_below ha hw))
  have HK := Lib.hid (fun w1 (hw : Below w.heap.size w w1) => HC _ w1 (lies_below hk hw))
  clear ha hk HC
  unfold aggOf
  go_enter Tryz.func93, Tryz.ntmps93
  go_wp2_with fail
  obtain ⟨W0, hW0⟩ : ∃ W0, (w.alloc (.cells #[.int .i64 h.k, .string ⟨h.l.toArray⟩, .slice aa h.ats.length ca, .int .i64 h.n, .int .i64 h.d, .string ⟨h.x.toArray⟩, .slice ak ks.len ck] 43)).alloc (.cells #[.int .i64 0, .string ⟨#[]⟩, .slice none 0 0, .int .i64 0, .int .i64 0, .string ⟨#[]⟩, .slice none 0 0] 43) = W0 := ⟨_, rfl⟩
  have hB0 : Below w.heap.size w W0 := by rw [← hW0]; exact ((Below.refl _ _).alloc (Nat.le_refl _) _).alloc (by simp) _
  have hs0 : W0.heap.size = w.heap.size + 1 + 1 := by rw [← hW0]; simp
  have k1 : W0.heap[w.heap.size]? = some (.cells #[.int .i64 h.k, .string ⟨h.l.toArray⟩, .slice aa h.ats.length ca, .int .i64 h.n, .int .i64 h.d, .string ⟨h.x.toArray⟩, .slice ak ks.len ck] 43 (0, 0)) := by
    rw [← hW0]; exact (Below.heap_alloc _ _ _ (by simp)).trans (World.alloc_heap_new _ _)
  have k2 : W0.heap[w.heap.size + 1]? = some (.cells #[.int .i64 0, .string ⟨#[]⟩, .slice none 0 0, .int .i64 0, .int .i64 0, .string ⟨#[]⟩, .slice none 0 0] 43 (0, 0)) := by
    rw [← hW0]; have := World.alloc_heap_new (w.alloc (.cells #[.int .i64 h.k, .string ⟨h.l.toArray⟩, .slice aa h.ats.length ca, .int .i64 h.n, .int .i64 h.d, .string ⟨h.x.toArray⟩, .slice ak ks.len ck] 43)) (.cells #[.int .i64 0, .string ⟨#[]⟩, .slice none 0 0, .int .i64 0, .int .i64 0, .string ⟨#[]⟩, .slice none 0 0] 43); simpa using this
  rw [hW0]
  refine (HA.out W0 hB0).mono ?_
  rintro e w1 ⟨v1, rfl, hv1, hb1⟩
  obtain ⟨aa1, ca1, rfl⟩ := attrsF_form hv1
  obtain ⟨M, hM⟩ : ∃ M, M = w1.heap.size := ⟨_, rfl⟩
  have hs1 := hb1.size
  have B1 := Lib.hid (hB0.trans (hb1.mono hB0.size))
  have A1 := Lib.hid (attrsO_mono (I' := fun x => w.heap.size + 1 + 1 ≤ x ∧ x < M) (fun x hx _ => ⟨by omega, by omega⟩) (attrsF_O hv1))
  have hMW : M ≤ w1.heap.size := by omega
  clear hM
  have j1 := (hb1.block w.heap.size (by omega)).trans k1
  have j2 := (hb1.block (w.heap.size + 1) (by omega)).trans k2
  clear k1 k2 hW0 hv1 hb1
  have c1 : ∃ z, w1.cell? ⟨w.heap.size, 2, none⟩ = some z := ⟨_, cell_of_block j1 rfl⟩
  obtain ⟨z, c1⟩ := c1
  have f1 := frozen_of_block (o := 2) j1
  have d6 : w1.cell? ⟨w.heap.size, 6, none⟩ = some (.slice ak ks.len ck) := cell_of_block j1 rfl
  have J1 := Lib.hid j1
  have J2 := Lib.hid j2
  clear j1 j2
  go_wp2_with fail
  have B2 : Below w.heap.size w (w1.setCell ⟨w.heap.size, 2, none⟩ (.slice aa1 h.ats.length ca1)) := B1.out.setCell (Nat.le_refl _) _
  have hs2 : (w1.setCell ⟨w.heap.size, 2, none⟩ (.slice aa1 h.ats.length ca1)).heap.size = w1.heap.size := set_size'
  have k1 : (w1.setCell ⟨w.heap.size, 2, none⟩ (.slice aa1 h.ats.length ca1)).heap[w.heap.size]? = some (.cells #[.int .i64 h.k, .string ⟨h.l.toArray⟩, .slice aa1 h.ats.length ca1, .int .i64 h.n, .int .i64 h.d, .string ⟨h.x.toArray⟩, .slice ak ks.len ck] 43 (0, 0)) := set_block J1.out
  have k2 : (w1.setCell ⟨w.heap.size, 2, none⟩ (.slice aa1 h.ats.length ca1)).heap[w.heap.size + 1]? = some (.cells #[.int .i64 0, .string ⟨#[]⟩, .slice none 0 0, .int .i64 0, .int .i64 0, .string ⟨#[]⟩, .slice none 0 0] 43 (0, 0)) := (set_far (by omega)).trans J2.out
  have A2 : AttrsO (fun x => w.heap.size + 1 + 1 ≤ x ∧ x < M) (w1.setCell ⟨w.heap.size, 2, none⟩ (.slice aa1 h.ats.length ca1)) (.slice aa1 h.ats.length ca1) h.ats := attrsO_keeps A1.out (KeepsO.setCell _ (by omega) _ _)
  generalize w1.setCell ⟨w.heap.size, 2, none⟩ (.slice aa1 h.ats.length ca1) = W2 at *
  clear A1 J1 J2 c1 f1 d6 B1
  refine (HK.out W2 B2).mono ?_
  rintro e w2 ⟨ak2, ck2, rfl, hk2, hb2⟩
  have hs3 := hb2.size
  have B3 := Lib.hid (B2.trans (hb2.mono (by omega)))
  have A3 := Lib.hid (attrsO_keeps A2 (KeepsO.of_below hb2))
  have L3 := Lib.hid (liesO_mono (I' := fun x => M ≤ x ∧ w.heap.size + 1 + 1 ≤ x) (fun x hx _ => ⟨by omega, by omega⟩) hk2)
  have j1 := (hb2.block w.heap.size (by omega)).trans k1
  have j2 := (hb2.block (w.heap.size + 1) (by omega)).trans k2
  clear k1 k2 A2 hk2 hb2 B2
  have d0 : w2.cell? ⟨w.heap.size, 0, none⟩ = some (.int .i64 h.k) := cell_of_block j1 rfl
  have d1 : w2.cell? ⟨w.heap.size, 1, none⟩ = some (.string ⟨h.l.toArray⟩) := cell_of_block j1 rfl
  have d2 : w2.cell? ⟨w.heap.size, 2, none⟩ = some (.slice aa1 h.ats.length ca1) := cell_of_block j1 rfl
  have d3 : w2.cell? ⟨w.heap.size, 3, none⟩ = some (.int .i64 h.n) := cell_of_block j1 rfl
  have d4 : w2.cell? ⟨w.heap.size, 4, none⟩ = some (.int .i64 h.d) := cell_of_block j1 rfl
  have d5 : w2.cell? ⟨w.heap.size, 5, none⟩ = some (.string ⟨h.x.toArray⟩) := cell_of_block j1 rfl
  have d6 : w2.cell? ⟨w.heap.size, 6, none⟩ = some (.slice ak ks.len ck) := cell_of_block j1 rfl
  have e6 := frozen_of_block (o := 6) j1
  have y0 : w2.cell? ⟨w.heap.size + 1, 0, none⟩ = some (.int .i64 0) := cell_of_block j2 rfl
  have y1 : w2.cell? ⟨w.heap.size + 1, 1, none⟩ = some (.string ⟨#[]⟩) := cell_of_block j2 rfl
  have y2 : w2.cell? ⟨w.heap.size + 1, 2, none⟩ = some (.slice none 0 0) := cell_of_block j2 rfl
  have y3 : w2.cell? ⟨w.heap.size + 1, 3, none⟩ = some (.int .i64 0) := cell_of_block j2 rfl
  have y4 : w2.cell? ⟨w.heap.size + 1, 4, none⟩ = some (.int .i64 0) := cell_of_block j2 rfl
  have y5 : w2.cell? ⟨w.heap.size + 1, 5, none⟩ = some (.string ⟨#[]⟩) := cell_of_block j2 rfl
  have y6 : w2.cell? ⟨w.heap.size + 1, 6, none⟩ = some (.slice none 0 0) := cell_of_block j2 rfl
  have z0 := frozen_of_block (o := 0) j2
  have z1 := frozen_of_block (o := 1) j2
  have z2 := frozen_of_block (o := 2) j2
  have z3 := frozen_of_block (o := 3) j2
  have z4 := frozen_of_block (o := 4) j2
  have z5 := frozen_of_block (o := 5) j2
  have z6 := frozen_of_block (o := 6) j2
  have J2 := Lib.hid j2
  clear j1 j2
  go_wp2_with fail
  have hfar : (w2.setCell ⟨w.heap.size, 6, none⟩ (.slice ak2 ks.len ck2)).heap[w.heap.size + 1]? = _ := (set_far (by omega)).trans J2.out
  have hfin := set7_blk (.int .i64 h.k) (.string ⟨h.l.toArray⟩) (.slice aa1 h.ats.length ca1) (.int .i64 h.n) (.int .i64 h.d) (.string ⟨h.x.toArray⟩) (.slice ak2 ks.len ck2) hfar
  have hkA := (KeepsO.setCell (I := fun x => w.heap.size + 1 + 1 ≤ x) w2 (b := w.heap.size) (by omega) 6 (.slice ak2 ks.len ck2)).trans (set7_keepsO (R := w.heap.size + 1) _ 0 1 2 3 4 5 6 (.int .i64 h.k) (.string ⟨h.l.toArray⟩) (.slice aa1 h.ats.length ca1) (.int .i64 h.n) (.int .i64 h.d) (.string ⟨h.x.toArray⟩) (.slice ak2 ks.len ck2) (by omega))
  have hbel := set7_under (R := w.heap.size + 1) 0 1 2 3 4 5 6 (.int .i64 h.k) (.string ⟨h.l.toArray⟩) (.slice aa1 h.ats.length ca1) (.int .i64 h.n) (.int .i64 h.d) (.string ⟨h.x.toArray⟩) (.slice ak2 ks.len ck2) (B3.out.setCell (p := ⟨w.heap.size, 6, none⟩) (Nat.le_refl _) (.slice ak2 ks.len ck2)) (by omega)
  generalize ((((((((w2.setCell ⟨w.heap.size, 6, none⟩ (.slice ak2 ks.len ck2)).setCell ⟨w.heap.size + 1, 0, none⟩ (.int .i64 h.k)).setCell ⟨w.heap.size + 1, 1, none⟩ (.string ⟨h.l.toArray⟩)).setCell ⟨w.heap.size + 1, 2, none⟩ (.slice aa1 h.ats.length ca1)).setCell ⟨w.heap.size + 1, 3, none⟩ (.int .i64 h.n)).setCell ⟨w.heap.size + 1, 4, none⟩ (.int .i64 h.d)).setCell ⟨w.heap.size + 1, 5, none⟩ (.string ⟨h.x.toArray⟩)).setCell ⟨w.heap.size + 1, 6, none⟩ (.slice ak2 ks.len ck2)) = Wf at hfin hkA hbel ⊢
  have u0 : Wf.cell? ⟨w.heap.size + 1, 0, none⟩ = some (.int .i64 h.k) := cell_of_block hfin rfl
  have u1 : Wf.cell? ⟨w.heap.size + 1, 1, none⟩ = some (.string ⟨h.l.toArray⟩) := cell_of_block hfin rfl
  have u2 : Wf.cell? ⟨w.heap.size + 1, 2, none⟩ = some (.slice aa1 h.ats.length ca1) := cell_of_block hfin rfl
  have u3 : Wf.cell? ⟨w.heap.size + 1, 3, none⟩ = some (.int .i64 h.n) := cell_of_block hfin rfl
  have u4 : Wf.cell? ⟨w.heap.size + 1, 4, none⟩ = some (.int .i64 h.d) := cell_of_block hfin rfl
  have u5 : Wf.cell? ⟨w.heap.size + 1, 5, none⟩ = some (.string ⟨h.x.toArray⟩) := cell_of_block hfin rfl
  have u6 : Wf.cell? ⟨w.heap.size + 1, 6, none⟩ = some (.slice ak2 ks.len ck2) := cell_of_block hfin rfl
  refine bodyPost_ret (v := aggOf h aa1 ca1 ak2 ks.len ck2) (by simp [results, Tryz.results93, go_sem, aggOf, u0, u1, u2, u3, u4, u5, u6]) rfl ?_
  exact ⟨aa1, ca1, ak2, ck2, M, rfl, attrsO_mono (fun x hx _ => ⟨by omega, hx.2⟩) (attrsO_keeps A3.out (hkA.mono fun x hx => hx.1)), liesO_mono (fun x hx _ => ⟨hx.1, by omega⟩) (liesO_keeps L3.out (hkA.mono fun x hx => hx.2)), hbel⟩
end Go.Proofs.YtcgedpfolloinaaGreat

namespace Go.Proofs.YtcgedpfolloinaaGreat
open Go.RowKit

theorem treesO_more {I : Nat → Prop} {own own' : Nat → Nat} {R : Nat} {wr W : World} {f : Fo} {k : Nat} {h : Hd} {ks : Fo} (HTR : TreesO I own wr f R 0 k) (hE : f.drop k = .cons h ks (f.drop (k + 1)))
    (hcc : ∀ o, o < k * 7 → W.cell? ⟨R, o, none⟩ = wr.cell? ⟨R, o, none⟩) (hK : KeepsO (fun x => x ≠ R) wr W) (ho : ∀ x, x < wr.heap.size → own x = own' x) (hH : HdO (cls I own' R (2 * k)) W h R (k * 7)) (hv : ∃ v, W.cell? ⟨R, k * 7 + 6, none⟩ = some v ∧ LiesO (cls I own' R (2 * k + 1)) W v ks) : TreesO I own' W f R 0 (k + 1) := by
  intro j h' ks' hj e
  rw [Nat.zero_add]
  have hc : ∀ c x, cls I own R c x → x < wr.heap.size → cls I own' R c x := fun c x hx hl => ⟨hx.1, hx.2.1, (ho x hl).symm.trans hx.2.2⟩
  have hk : ∀ c, KeepsO (cls I own' R c) wr W := fun c => hK.mono (fun x hx => Nat.ne_of_gt hx.2.1)
  rcases Nat.lt_or_ge j k with hlt | hge
  · have H := HTR j h' ks' hlt e
    rw [Nat.zero_add] at H
    obtain ⟨⟨h0, h1, ⟨va, h2, ha⟩, h3, h4, h5⟩, v, h6, hv'⟩ := H
    exact ⟨⟨(hcc _ (by omega)).trans h0, (hcc _ (by omega)).trans h1, ⟨va, (hcc _ (by omega)).trans h2, attrsO_keeps (attrsO_mono (hc _) ha) (hk _)⟩, (hcc _ (by omega)).trans h3, (hcc _ (by omega)).trans h4, (hcc _ (by omega)).trans h5⟩, v, (hcc _ (by omega)).trans h6, liesO_keeps (liesO_mono (hc _) hv') (hk _)⟩
  · obtain rfl : j = k := by omega
    rw [hE] at e
    cases e
    exact ⟨hH, hv⟩

set_option maxRecDepth 100000 in
set_option maxHeartbeats 2000000 in
theorem cloneO_of (f : Fo) (v : Value) (w : World) (hl : Lies w v f)
    (HT : ∀ h ks, (∃ j, j < f.len ∧ f.drop j = .cons h ks (f.drop (j + 1))) → ∀ aa ca ak ck w, AttrsLie w (.slice aa h.ats.length ca) h.ats → Lies w (.slice ak ks.len ck) ks → Calls Tryz.prog 93 #[aggOf h aa ca ak ks.len ck] w (CloneTreeResO w h ks)) :
    Calls Tryz.prog 97 #[v] w (CloneResO w f) := by
  obtain ⟨i0, hi, hz0, hz1, hz2⟩ := info_parts info_tree
  have hlen := lies_len hl
  by_cases h0 : f.len = 0
  · obtain rfl := Fo.len_nil h0
    obtain ⟨a, cap, rfl⟩ := lies_form hl
    clear hl HT
    simp only [Fo.len]
    go_enter Tryz.func97, Tryz.ntmps97
    go_wp2_with fail
    go_ret
    exact ⟨none, 0, rfl, .inl ⟨_, _, rfl, rfl⟩, by ((repeat' (first | exact Below.refl _ _ | assumption | refine Below.setCell ?_ ?_ _ | refine bdrewN ?_ _ | refine Below.drew ?_ | refine Below.alloc ?_ ?_ _ | refine bbehind ?_ (by assumption) ?_)); all_goals first | (simp; done) | (simp; omega) | omega)⟩
  · obtain ⟨b, o, cap, rfl, hcap, -, hb, hrow⟩ := lies_row hl (by omega)
    have dn : ((f.len : Int) == 0) = false := by simpa using h0
    have hmk : ∀ W : World, (Instr.makeSlice 28 (.int .i64 (f.len : Int)) (.int .i64 (f.len : Int))).run Tryz.prog W = .ok (.slice (some ⟨W.heap.size, 0, none⟩) f.len f.len) (W.alloc (.cells (madeCells (Value.cells (.agg #[.int .i64 0, .string ⟨#[]⟩, .slice none 0 0, .int .i64 0, .int .i64 0, .string ⟨#[]⟩, .slice none 0 0])) (f.len * 7)) 43)) := by
      intro W
      have := run_make (P := Tryz.prog) W 28 43 i0 _ Tryz.underlying28 hi hz0 .i64 .i64 (f.len : Int) (f.len : Int) (by omega) (Int.le_refl _) (by rw [hz2]; omega) (by omega)
      rw [hz1] at this
      simpa using this
    have HROW := Lib.hid hrow
    have HT' := Lib.hid HT
    clear hl hrow HT hi hz0 hz1 hz2
    have hsz : (madeCells (Value.cells (.agg #[.int .i64 0, .string ⟨#[]⟩, .slice none 0 0, .int .i64 0, .int .i64 0, .string ⟨#[]⟩, .slice none 0 0])) (f.len * 7)).size = f.len * 7 := size_madeCells _ _
    generalize madeCells (Value.cells (.agg #[.int .i64 0, .string ⟨#[]⟩, .slice none 0 0, .int .i64 0, .int .i64 0, .string ⟨#[]⟩, .slice none 0 0])) (f.len * 7) = C0 at *
    go_enter Tryz.func97, Tryz.ntmps97
    go_wp2_with fail
    go_loopw [14] (fun i wr => ∃ (k : Nat) (C : Array Value) (own : Nat → Nat), i = .int .i64 k ∧ k ≤ f.len ∧ wr.heap[w.heap.size]? = some (.cells C 43 (0, 0)) ∧ C.size = f.len * 7 ∧ TreesO (fun x => w.heap.size ≤ x) own wr f w.heap.size 0 k ∧ w.heap.size < wr.heap.size ∧ Below w.heap.size w wr) (fun i _ => f.len - (intOf i).toNat)
    case atStart =>
      exact ⟨0, C0, fun _ => 0, rfl, Nat.zero_le _, World.alloc_heap_new _ _, hsz, fun j _ _ hj => absurd hj (by omega), by simp, by ((repeat' (first | exact Below.refl _ _ | assumption | refine Below.setCell ?_ ?_ _ | refine bdrewN ?_ _ | refine Below.drew ?_ | refine Below.alloc ?_ ?_ _ | refine bbehind ?_ (by assumption) ?_)); all_goals first | (simp; done) | (simp; omega) | omega)⟩
    case round =>
      obtain ⟨k, C, own, rfl, hk, hblk, hC, hT, hsw, hbw⟩ := hrel
      have HBLK := Lib.hid hblk
      have HTR := Lib.hid hT
      clear hblk hT hsz hmk
      by_cases hlt : k < f.len
      · have dk : decide (k < f.len) = true := by simpa using hlt
        obtain ⟨hd, ks, e, ⟨q0, q1, ⟨va, q2, ha'⟩, q3, q4, q5⟩, vk, q6, hlk⟩ := row_get HROW.out hlt
        obtain ⟨aa, ca, rfl⟩ := attrs_form ha'
        obtain ⟨ak, ck, rfl⟩ := lies_form hlk
        have r0 := (hbw.cell (p := ⟨b, o + k * 7, none⟩) hb).trans q0
        have r1 := (hbw.cell (p := ⟨b, o + k * 7 + 1, none⟩) hb).trans q1
        have r2 := (hbw.cell (p := ⟨b, o + k * 7 + 2, none⟩) hb).trans q2
        have r3 := (hbw.cell (p := ⟨b, o + k * 7 + 3, none⟩) hb).trans q3
        have r4 := (hbw.cell (p := ⟨b, o + k * 7 + 4, none⟩) hb).trans q4
        have r5 := (hbw.cell (p := ⟨b, o + k * 7 + 5, none⟩) hb).trans q5
        have r6 := (hbw.cell (p := ⟨b, o + k * 7 + 6, none⟩) hb).trans q6
        have hbr : b < wr.heap.size := by omega
        have nb2 : ¬ b = w.heap.size := by omega
        have nb3 : ¬ w.heap.size = b := by omega
        have HCT := Lib.hid (fun W (hW : Below w.heap.size w W) => HT'.out hd ks ⟨k, hlt, e⟩ aa ca ak ck W (attrs_below ha' hW) (lies_below hlk hW))
        have HE := Lib.hid e
        clear q0 q1 q2 q3 q4 q5 q6 ha' hlk e
        go_wp2_with fail
        obtain ⟨W1, hW1⟩ : ∃ W1, wr.alloc (.cells #[.int .i64 hd.k, .string ⟨hd.l.toArray⟩, .slice aa hd.ats.length ca, .int .i64 hd.n, .int .i64 hd.d, .string ⟨hd.x.toArray⟩, .slice ak ks.len ck] 43) = W1 := ⟨_, rfl⟩
        have hbW : Below w.heap.size w W1 := by rw [← hW1]; exact hbw.alloc (by omega) _
        have hz1 : W1.heap.size = wr.heap.size + 1 := by rw [← hW1]; simp
        have hbx : Below wr.heap.size wr W1 := by rw [← hW1]; exact (Below.refl _ _).alloc (Nat.le_refl _) _
        rw [hW1]
        clear hW1
        refine (HCT.out W1 hbW).mono ?_
        rintro e w1 ⟨aa', ca', ak', ck', M, rfl, hA, hL, hb1⟩
        unfold aggOf
        have hs1 := hb1.size
        have hbl := ((hbx.trans (hb1.mono hbx.size)).block w.heap.size hsw).trans HBLK.out
        have HK1 := Lib.hid (KeepsO.of_below (I := fun x => x ≠ w.heap.size) (hbx.trans (hb1.mono hbx.size)))
        have HBEL := Lib.hid (hbW.trans (hb1.mono hbW.size))
        have HA := Lib.hid (attrsO_mono (I' := cls (fun x => w.heap.size ≤ x) (fun x => if x < wr.heap.size then own x else if x < M then 2 * k else 2 * k + 1) w.heap.size (2 * k)) (fun x hx _ => ⟨by omega, by omega, by show (if x < wr.heap.size then own x else if x < M then 2 * k else 2 * k + 1) = 2 * k; rw [if_neg (by omega), if_pos hx.2]⟩) hA)
        have HL := Lib.hid (liesO_mono (I' := cls (fun x => w.heap.size ≤ x) (fun x => if x < wr.heap.size then own x else if x < M then 2 * k else 2 * k + 1) w.heap.size (2 * k + 1)) (fun x hx _ => ⟨by omega, by omega, by show (if x < wr.heap.size then own x else if x < M then 2 * k else 2 * k + 1) = 2 * k + 1; rw [if_neg (by omega), if_neg (by omega)]⟩) hL)
        clear hA hL hb1 hbx hbW hbw r0 r1 r2 r3 r4 r5 r6 nb2 nb3
        obtain ⟨y0, hy0⟩ : ∃ y, w1.cell? ⟨w.heap.size, k * 7, none⟩ = some y := ⟨_, cell_of_block hbl (Array.getElem?_eq_getElem (by omega))⟩
        have fy0 := frozen_of_block (o := k * 7) hbl
        obtain ⟨y1, hy1⟩ : ∃ y, w1.cell? ⟨w.heap.size, k * 7 + 1, none⟩ = some y := ⟨_, cell_of_block hbl (Array.getElem?_eq_getElem (by omega))⟩
        have fy1 := frozen_of_block (o := k * 7 + 1) hbl
        obtain ⟨y2, hy2⟩ : ∃ y, w1.cell? ⟨w.heap.size, k * 7 + 2, none⟩ = some y := ⟨_, cell_of_block hbl (Array.getElem?_eq_getElem (by omega))⟩
        have fy2 := frozen_of_block (o := k * 7 + 2) hbl
        obtain ⟨y3, hy3⟩ : ∃ y, w1.cell? ⟨w.heap.size, k * 7 + 3, none⟩ = some y := ⟨_, cell_of_block hbl (Array.getElem?_eq_getElem (by omega))⟩
        have fy3 := frozen_of_block (o := k * 7 + 3) hbl
        obtain ⟨y4, hy4⟩ : ∃ y, w1.cell? ⟨w.heap.size, k * 7 + 4, none⟩ = some y := ⟨_, cell_of_block hbl (Array.getElem?_eq_getElem (by omega))⟩
        have fy4 := frozen_of_block (o := k * 7 + 4) hbl
        obtain ⟨y5, hy5⟩ : ∃ y, w1.cell? ⟨w.heap.size, k * 7 + 5, none⟩ = some y := ⟨_, cell_of_block hbl (Array.getElem?_eq_getElem (by omega))⟩
        have fy5 := frozen_of_block (o := k * 7 + 5) hbl
        obtain ⟨y6, hy6⟩ : ∃ y, w1.cell? ⟨w.heap.size, k * 7 + 6, none⟩ = some y := ⟨_, cell_of_block hbl (Array.getElem?_eq_getElem (by omega))⟩
        have fy6 := frozen_of_block (o := k * 7 + 6) hbl
        have HBL := Lib.hid hbl
        clear hbl
        go_wp2_with fail
        obtain ⟨C', hset, hC', e0, e1, e2, e3, e4, e5, e6, elow⟩ := set7_row (o := k * 7) (.int .i64 hd.k) (.string ⟨hd.l.toArray⟩) (.slice aa' hd.ats.length ca') (.int .i64 hd.n) (.int .i64 hd.d) (.string ⟨hd.x.toArray⟩) (.slice ak' ks.len ck') HBL.out (by omega)
        have hkeep1 := set7_keepsO (R := w.heap.size) (I := fun x => x ≠ w.heap.size) w1 (k * 7) (k * 7 + 1) (k * 7 + 2) (k * 7 + 3) (k * 7 + 4) (k * 7 + 5) (k * 7 + 6) (.int .i64 hd.k) (.string ⟨hd.l.toArray⟩) (.slice aa' hd.ats.length ca') (.int .i64 hd.n) (.int .i64 hd.d) (.string ⟨hd.x.toArray⟩) (.slice ak' ks.len ck') (fun h => h rfl)
        have hkeep := HK1.out.trans hkeep1
        have hbel := set7_under (R := w.heap.size) (k * 7) (k * 7 + 1) (k * 7 + 2) (k * 7 + 3) (k * 7 + 4) (k * 7 + 5) (k * 7 + 6) (.int .i64 hd.k) (.string ⟨hd.l.toArray⟩) (.slice aa' hd.ats.length ca') (.int .i64 hd.n) (.int .i64 hd.d) (.string ⟨hd.x.toArray⟩) (.slice ak' ks.len ck') HBEL.out (Nat.le_refl _)
        generalize (((((((w1.setCell ⟨w.heap.size, k * 7, none⟩ (.int .i64 hd.k)).setCell ⟨w.heap.size, k * 7 + 1, none⟩ (.string ⟨hd.l.toArray⟩)).setCell ⟨w.heap.size, k * 7 + 2, none⟩ (.slice aa' hd.ats.length ca')).setCell ⟨w.heap.size, k * 7 + 3, none⟩ (.int .i64 hd.n)).setCell ⟨w.heap.size, k * 7 + 4, none⟩ (.int .i64 hd.d)).setCell ⟨w.heap.size, k * 7 + 5, none⟩ (.string ⟨hd.x.toArray⟩)).setCell ⟨w.heap.size, k * 7 + 6, none⟩ (.slice ak' ks.len ck')) = Wf at hset hkeep hkeep1 hbel ⊢
        have hcc : ∀ o, o < k * 7 → Wf.cell? ⟨w.heap.size, o, none⟩ = wr.cell? ⟨w.heap.size, o, none⟩ := by
          intro o ho
          unfold World.cell?
          simp only [hset, HBLK.out]
          exact elow o ho
        have hszf := hkeep.1
        refine ⟨⟨k + 1, C', _, by go_num, by omega, hset, by omega, treesO_more (own' := fun x => if x < wr.heap.size then own x else if x < M then 2 * k else 2 * k + 1) HTR.out HE.out hcc hkeep (fun x hx => (if_pos hx).symm) ⟨cell_of_block hset e0, cell_of_block hset e1, ⟨_, cell_of_block hset e2, attrsO_keeps HA.out (hkeep1.mono fun x hx => Nat.ne_of_gt hx.2.1)⟩, cell_of_block hset e3, cell_of_block hset e4, cell_of_block hset e5⟩ ⟨_, cell_of_block hset e6, liesO_keeps HL.out (hkeep1.mono fun x hx => Nat.ne_of_gt hx.2.1)⟩, by omega, hbel⟩, ?_⟩
        simp [intOf]; omega
      · have dk : decide (k < f.len) = false := by simpa using hlt
        obtain rfl : k = f.len := by omega
        go_wp2_with fail
        go_ret
        exact ⟨some ⟨w.heap.size, 0, none⟩, f.len, rfl, .inr ⟨w.heap.size, f.len, own, C, rfl, Nat.le_refl _, hlen, Nat.le_refl _, HBLK.out, by omega, rowO_of f 0 HTR.out⟩, hbw⟩

/-- clone gives the forest in memory of its own. -/
theorem cloneO_any : ∀ (N : Nat) (f : Fo), f.size ≤ N → ∀ (v : Value) (w : World), Lies w v f → Calls Tryz.prog 97 #[v] w (CloneResO w f) := by
  intro N
  induction N with
  | zero =>
    intro f hf v w hl
    exact cloneO_of f v w hl (fun h ks ⟨j, hj, _⟩ => by have := Fo.len_le_size f; omega)
  | succ N ih =>
    intro f hf v w hl
    refine cloneO_of f v w hl (fun h ks ⟨j, hj, e⟩ aa ca ak ck w ha hk => cloneTreeO_of h ks aa ca ak ck w ha hk (fun v w hl => ih ks ?_ v w hl))
    have := Fo.size_app (f.take j) (f.drop j)
    rw [Fo.take_app_drop, e] at this
    simp only [Fo.size] at this
    omega
end Go.Proofs.YtcgedpfolloinaaGreat

namespace Go.Proofs.YtcgedpfolloinaaGreat
open Go.RowKit

theorem cell_get {W : World} {b o : Nat} {C : Array Value} {T : TypeId} {fr : Nat × Nat} {v : Value} (h : W.heap[b]? = some (.cells C T fr)) (hc : W.cell? ⟨b, o, none⟩ = some v) : C[o]? = some v := by
  unfold World.cell? at hc
  simpa [h] using hc
/-- whatever is stored at a place, and lies there, is part of the forest that lies in block G. -/
def Hole (W : World) (G pb po Bg B0 : Nat) (Ig : Nat → Prop) (f : Fo) (pre : List Nat) : Prop :=
  ∀ (W' : World) (v' : Value) (g' : Fo), W.heap.size ≤ W'.heap.size → (∀ x, x < W.heap.size → ¬ Ig x → x ≠ pb → W'.heap[x]? = W.heap[x]?) →
    (∀ o, o ≠ po → W'.cell? ⟨pb, o, none⟩ = W.cell? ⟨pb, o, none⟩) → W'.cell? ⟨pb, po, none⟩ = some v' → LiesF Bg W' v' g' → ∃ vt, W'.cell? ⟨G, 0, none⟩ = some vt ∧ LiesF B0 W' vt (changeAt f pre g')
theorem Hole.top (W : World) (G B0 : Nat) (I : Nat → Prop) (f : Fo) : Hole W G G 0 B0 B0 I f [] := fun _ v' _ _ _ _ h1 h2 => ⟨v', h1, h2⟩
theorem Hole.step {W : World} {G pb po Bg B0 : Nat} {Ig : Nat → Prop} {f : Fo} {pre : List Nat} {g : Fo} {b cap : Nat} {own : Nat → Nat} {i : Nat} {h : Hd} {ks : Fo} (H : Hole W G pb po Bg B0 Ig f pre) (hpb : ¬ Ig pb) (hpl : pb < W.heap.size)
    (hB : ∀ x, Ig x → Bg ≤ x) (hv : W.cell? ⟨pb, po, none⟩ = some (.slice (some ⟨b, 0, none⟩) g.len cap)) (hcap : g.len ≤ cap) (hlen : g.len ≤ 2000000000000) (hI : Ig b) (hb : b < W.heap.size)
    (hT : TreesO Ig own W g b 0 g.len) (hg : goTo f pre = some g) (hn : nth g i = some (h, ks)) : Hole W G b (i * 7 + 6) (b + 1) B0 (cls Ig own b (2 * i + 1)) f (pre ++ [i]) := by
  intro W' v' g' hs hx hc h1 h2
  rw [changeAt_snoc pre f g' hg hn]
  have hpx := hx pb hpl (fun hc => hpb hc.1) (fun e => hpb (e ▸ hI))
  refine H W' (.slice (some ⟨b, 0, none⟩) g.len cap) (setK g i h g') hs ?_ ?_ ?_ ?_
  · intro x hl hx1 hx2
    exact hx x hl (fun hc => hx1 hc.1) (fun e => hx1 (e ▸ hI))
  · intro o _
    exact World.cell?_of_block (w := W) hpx
  · exact (World.cell?_of_block (w := W) hpx).trans hv
  · have hil := nth_lt hn
    have hll := len_setK hil h g'
    refine .inr ⟨b, 0, cap, by rw [hll], by rw [hll]; exact hcap, by rw [hll]; exact hlen, hB b hI, by omega, rowF_of _ 0 ?_⟩
    intro j h' ks' hj e
    rw [hll] at hj
    rw [Nat.zero_add]
    have e1 := nth_drop e
    rw [nth_setK hil] at e1
    have kc : ∀ c, c ≠ 2 * i + 1 → KeepsO (cls Ig own b c) W W' := fun c hc' => ⟨hs, fun x hx1 hl => hx x hl (fun h2 => hc' (hx1.2.2.symm.trans h2.2.2)) (Nat.ne_of_gt hx1.2.1)⟩
    have hBc : ∀ c x, cls Ig own b c x → Bg ≤ x := fun c x hx => hB x hx.1
    by_cases hj2 : j = i
    · subst hj2
      rw [if_pos rfl] at e1
      cases e1
      have H' := hT j h ks hj (drop_nth hn)
      rw [Nat.zero_add] at H'
      obtain ⟨⟨q0, q1, ⟨va, q2, ha⟩, q3, q4, q5⟩, -⟩ := H'
      exact ⟨⟨(hc _ (by omega)).trans q0, (hc _ (by omega)).trans q1, ⟨va, (hc _ (by omega)).trans q2, attrsO_F (hBc _) (attrsO_keeps ha (kc _ (by omega)))⟩, (hc _ (by omega)).trans q3, (hc _ (by omega)).trans q4, (hc _ (by omega)).trans q5⟩,
        v', h1, liesF_mono (by have := hB b hI; omega) h2⟩
    · rw [if_neg hj2] at e1
      have H' := hT j h' ks' hj (drop_nth e1)
      rw [Nat.zero_add] at H'
      obtain ⟨⟨q0, q1, ⟨va, q2, ha⟩, q3, q4, q5⟩, v, q6, hk⟩ := H'
      exact ⟨⟨(hc _ (by omega)).trans q0, (hc _ (by omega)).trans q1, ⟨va, (hc _ (by omega)).trans q2, attrsO_F (hBc _) (attrsO_keeps ha (kc _ (by omega)))⟩, (hc _ (by omega)).trans q3, (hc _ (by omega)).trans q4, (hc _ (by omega)).trans q5⟩,
        v, (hc _ (by omega)).trans q6, liesO_F (hBc _) (liesO_keeps hk (kc _ (by omega)))⟩
/- a block that holds a slice holds no row. -/
theorem no_row {W : World} {G : Nat} {a : Option Addr} {n c : Nat} {T : TypeId} {fr : Nat × Nat} (hG : W.heap[G]? = some (.cells #[.slice a n c] T fr)) {o : Nat} {v : Value} (h : W.cell? ⟨G, o, none⟩ = some v) : v = .slice a n c := by
  have := cell_get hG h
  cases o with
  | zero => simpa using this.symm
  | succ o => simp at this
theorem far_cell {W : World} {G b : Nat} (h : b ≠ G) (o : Nat) (u : Value) : (W.setCell ⟨G, 0, none⟩ u).cell? ⟨b, o, none⟩ = W.cell? ⟨b, o, none⟩ := World.cell?_of_block (w := W) (set_far h)
theorem attrsF_far {B : Nat} {W : World} {G : Nat} {a : Option Addr} {n c : Nat} {T : TypeId} {fr : Nat × Nat} (hG : W.heap[G]? = some (.cells #[.slice a n c] T fr)) (u : Value) {v : Value} {l : List (List UInt8 × List UInt8)} (h : AttrsF B W v l) : AttrsF B (W.setCell ⟨G, 0, none⟩ u) v l := by
  rcases h with h | ⟨b, off, cap, h1, h0, h4, h5, h2, h3⟩
  · exact .inl h
  · refine .inr ⟨b, off, cap, h1, h0, h4, h5, by rw [set_size']; exact h2, fun k hk => ?_⟩
    obtain ⟨c1, c2⟩ := h3 k hk
    have hb : b ≠ G := by
      rintro rfl
      have := no_row hG c1
      cases this
    exact ⟨(far_cell hb _ u).trans c1, (far_cell hb _ u).trans c2⟩
theorem rowF_far {B : Nat} {W : World} {G : Nat} {a : Option Addr} {n c : Nat} {T : TypeId} {fr : Nat × Nat} (hG : W.heap[G]? = some (.cells #[.slice a n c] T fr)) (u : Value) : ∀ (f : Fo) (b o : Nat), RowF B W f b o → RowF B (W.setCell ⟨G, 0, none⟩ u) f b o
  | .nil, _, _, _ => trivial
  | .cons h ks r, b, o, H => by
    obtain ⟨⟨h0, h1, ⟨va, h2, ha⟩, h3, h4, h5⟩, ⟨v, h6, h7⟩, h8⟩ := H
    have hb : b ≠ G := by
      rintro rfl
      have := no_row hG h0
      cases this
    have hc := fun o => far_cell (W := W) hb o u
    refine ⟨⟨(hc _).trans h0, (hc _).trans h1, ⟨va, (hc _).trans h2, attrsF_far hG u ha⟩, (hc _).trans h3, (hc _).trans h4, (hc _).trans h5⟩, ⟨v, (hc _).trans h6, ?_⟩, rowF_far hG u r b (o + 7) h8⟩
    rcases h7 with h7 | ⟨b', o', cap, e, e0, e3, eB, e1, e2⟩
    · exact .inl h7
    · exact .inr ⟨b', o', cap, e, e0, e3, eB, by rw [set_size']; exact e1, rowF_far hG u ks b' o' e2⟩
theorem liesF_far {B : Nat} {W : World} {G : Nat} {a : Option Addr} {n c : Nat} {T : TypeId} {fr : Nat × Nat} (hG : W.heap[G]? = some (.cells #[.slice a n c] T fr)) (u : Value) {v : Value} {f : Fo} (h : LiesF B W v f) : LiesF B (W.setCell ⟨G, 0, none⟩ u) v f := by
  rcases h with h | ⟨b, o, cap, h1, h0, h4, h5, h2, h3⟩
  · exact .inl h
  · exact .inr ⟨b, o, cap, h1, h0, h4, h5, by rw [set_size']; exact h2, rowF_far hG u f b o h3⟩
/-- what lies is stored at the place, and the forest that lies in block G has it there. -/
theorem Hole.store {W W7 : World} {G pb po Bg B0 : Nat} {Ig : Nat → Prop} {f : Fo} {pre : List Nat} {Cp : Array Value} {Tp : TypeId} {vg vN : Value} {gN : Fo} (H : Hole W G pb po Bg B0 Ig f pre)
    (hp : W.heap[pb]? = some (.cells Cp Tp (0, 0))) (hv : Cp[po]? = some vg) (hm : pb + 1 = Bg ∨ (po = 0 ∧ ∃ a n c, Cp = #[.slice a n c])) (hb : Below W.heap.size W W7) (hN : LiesF Bg W7 vN gN) :
    ∃ vt, (W7.setCell ⟨pb, po, none⟩ vN).cell? ⟨G, 0, none⟩ = some vt ∧ LiesF B0 (W7.setCell ⟨pb, po, none⟩ vN) vt (changeAt f pre gN) := by
  have hpl := blk_size hp
  have h7 := (hb.block pb hpl).trans hp
  have hset : (W7.setCell ⟨pb, po, none⟩ vN).heap[pb]? = some (.cells (Cp.setIfInBounds po vN) Tp (0, 0)) := set_block h7
  have hpo : po < Cp.size := (Array.getElem?_eq_some_iff.1 hv).1
  refine H _ vN gN (by rw [set_size']; exact hb.size) ?_ ?_ ?_ ?_
  · intro x hl _ hx
    exact (set_far hx).trans (hb.block x hl)
  · intro o ho
    unfold World.cell?
    simp [hset, hp, show ¬ po = o from fun e => ho e.symm]
  · refine cell_of_block hset ?_
    rw [Array.getElem?_setIfInBounds, if_pos rfl, if_pos hpo]
  · rcases hm with rfl | ⟨rfl, a, n, c, rfl⟩
    · exact liesF_keeps hN (Keeps.setCell _ (Nat.lt_succ_self _) _ _)
    · exact liesF_far h7 vN hN
theorem rowF_drop {B : Nat} {w : World} {b : Nat} : ∀ (i : Nat) (f : Fo) (o : Nat), RowF B w f b o → RowF B w (f.drop i) b (o + i * 7)
  | 0, f, o, h => by simpa [Fo.drop] using h
  | i + 1, .nil, o, h => trivial
  | i + 1, .cons hd ks r, o, h => by
    have := rowF_drop i r (o + 7) h.2.2
    rw [show o + 7 + i * 7 = o + (i + 1) * 7 by omega] at this
    exact this
theorem rowF_take {B : Nat} {w : World} {b : Nat} : ∀ (i : Nat) (f : Fo) (o : Nat), RowF B w f b o → RowF B w (f.take i) b o
  | 0, f, o, h => by simp [Fo.take, RowF]
  | i + 1, .nil, o, h => trivial
  | i + 1, .cons hd ks r, o, h => ⟨h.1, h.2.1, rowF_take i r (o + 7) h.2.2⟩
end Go.Proofs.YtcgedpfolloinaaGreat

namespace Go.Proofs.YtcgedpfolloinaaGreat
open Go.RowKit

set_option maxRecDepth 100000 in
set_option maxHeartbeats 2000000 in
theorem within_any (f : Fo) (a : Option Addr) (cap : Nat) (w : World) (hl : Lies w (.slice a f.len cap) f) (hs : f.size ≤ 1000000) :
    Calls Tryz.prog 109 #[.slice a f.len cap] w fun e w' => e = .returned (.tuple #[if bndErr f = 0 then .slice a f.len cap else .slice none 0 0, .int .i64 (bndErr f)]) ∧ Below w.heap.size w w' := by
  have C := Lib.hid (checkBounds_any f _ w hl hs)
  clear hl hs
  by_cases h0 : bndErr f = 0
  · rw [if_pos h0]
    rw [h0] at C ⊢
    clear h0
    go_enter Tryz.func109, Tryz.ntmps109
    go_wp2_with fail
    refine C.out.mono ?_
    rintro e w1 ⟨rfl, hb1⟩
    go_wp2_with fail
    go_ret2
    exact ⟨rfl, hb1⟩
  · rw [if_neg h0]
    generalize bndErr f = ef at *
    have b0 : (ef != 0) = true := by simpa using h0
    clear h0
    go_enter Tryz.func109, Tryz.ntmps109
    go_wp2_with fail
    refine C.out.mono ?_
    rintro e w1 ⟨rfl, hb1⟩
    go_wp2_with fail
    go_ret2
    exact ⟨rfl, hb1⟩

/-- a forest, if it is in the bounds. -/
def inBnd (f : Fo) : Fo × Int := if bndErr f = 0 then (f, 0) else (.nil, bndErr f)
/-- what gives a forest and an error. -/
def FoE (w : World) (r : Fo × Int) (e : Ending) (w' : World) : Prop :=
  ∃ v, e = .returned (.tuple #[v, .int .i64 r.2]) ∧ LiesF w.heap.size w' v r.1 ∧ Below w.heap.size w w'
def concatV (f g : Fo) : Fo × Int := if firstNZ [foErr f, foErr g] = 0 then inBnd (f.app g) else (.nil, firstNZ [foErr f, foErr g])
theorem len_size : ∀ f : Fo, f.len ≤ f.size
  | .nil => Nat.le_refl _
  | .cons h ks r => by have := len_size r; simp only [Fo.len, Fo.size]; omega
theorem size_app2 (f g : Fo) : (f.app g).size = f.size + g.size := Fo.size_app f g

set_option maxRecDepth 100000 in
set_option maxHeartbeats 4000000 in
theorem tconcat_any (f g : Fo) (v u : Value) (w : World) (hl : Lies w v f) (hg : Lies w u g) (hs : Small f) (hs' : Small g) :
    Calls Tryz.prog 50 #[v, u] w (FoE w (concatV f g)) := by
  have CF := Lib.hid (fun w1 (hw : Below w.heap.size w w1) => tcheck_any f v w1 (lies_below hl hw) hs)
  have CG := Lib.hid (fun w1 (hw : Below w.heap.size w w1) => tcheck_any g u w1 (lies_below hg hw) hs')
  have KF := Lib.hid (fun w1 (hw : Below w.heap.size w w1) => clone_any f.size f (Nat.le_refl _) v w1 (lies_below hl hw))
  have KG := Lib.hid (fun w1 (hw : Below w.heap.size w w1) => clone_any g.size g (Nat.le_refl _) u w1 (lies_below hg hw))
  obtain ⟨R, hR⟩ : ∃ R, concatV f g = R := ⟨_, rfl⟩
  rw [hR]
  have HR := Lib.hid hR.symm
  have hsz : (f.app g).size ≤ 1000000 := by rw [size_app2]; have := hs.1; have := hs'.1; omega
  obtain ⟨a, cap, rfl⟩ := lies_form hl
  obtain ⟨a', cap', rfl⟩ := lies_form hg
  clear hl hg hs hs' hR
  unfold concatV at HR
  generalize foErr f = e1 at *
  generalize foErr g = e2 at *
  go_enter Tryz.func50, Tryz.ntmps50
  go_wp2_with fail
  refine (CF.out w (Below.refl _ _)).mono ?_
  rintro e w1 ⟨rfl, hb1⟩
  go_wp2_with fail
  refine (CG.out w1 hb1).mono ?_
  rintro e w2 ⟨rfl, hb2⟩
  have B2 := hb1.trans (hb2.mono hb1.size)
  clear hb1 hb2
  go_wp2_with fail
  have B3 : Below w.heap.size w (w2.alloc (.cells #[.int .i64 e1, .int .i64 e2] 32)) := B2.alloc B2.size _
  have hi3 := ints_pair (World.alloc_heap_new w2 (.cells #[.int .i64 e1, .int .i64 e2] 32)) (by simp)
  generalize w2.alloc (.cells #[.int .i64 e1, .int .i64 e2] 32) = w3 at *
  refine (terr_any _ _ _ hi3 (by simp)).mono ?_
  rintro e w4 ⟨rfl, hw⟩
  obtain rfl := hw
  generalize firstNZ [e1, e2] = ee at *
  clear hi3 B2
  by_cases h0 : ee = 0
  · have HX := Lib.hid (HR.out.trans (if_pos h0))
    have b0 : (ee != 0) = false := by simpa using h0
    clear h0 HR
    go_wp2_with fail
    refine (KF.out w3 B3).mono ?_
    rintro e w4 ⟨a1, c1, rfl, hf4, hb4⟩
    have B4 := B3.trans (hb4.mono B3.size)
    have HF4 := Lib.hid (liesF_mono B3.size hf4)
    clear hf4 hb4
    go_wp2_with fail
    refine (KG.out w4 B4).mono ?_
    rintro e w5 ⟨a2, c2, rfl, hg5, hb5⟩
    have B5 := B4.trans (hb5.mono B4.size)
    have HF5 := Lib.hid (liesF_keeps HF4.out (Keeps.of_below hb5 : Keeps w.heap.size w4 w5))
    have HG5 := Lib.hid (liesF_mono B4.size hg5)
    clear hg5 hb5 HF4
    go_wp2_with fail
    have kk := World.alloc_heap_new w5 (.cells #[.slice a1 f.len c1, .slice a2 g.len c2] 28)
    have B6 : Below w.heap.size w (w5.alloc (.cells #[.slice a1 f.len c1, .slice a2 g.len c2] 28)) := B5.alloc B5.size _
    have hk6 : Keeps w.heap.size w5 (w5.alloc (.cells #[.slice a1 f.len c1, .slice a2 g.len c2] 28)) := Keeps.of_below ((Below.refl _ _).alloc (Nat.le_refl _) _)
    have hs6 : w5.heap.size < (w5.alloc (.cells #[.slice a1 f.len c1, .slice a2 g.len c2] 28)).heap.size := by simp
    have HS := Lib.hid (show SlicesAt w.heap.size (w5.alloc (.cells #[.slice a1 f.len c1, .slice a2 g.len c2] 28)) w5.heap.size [f, g] from
      ⟨hs6, fun k hk => by
        match k, hk with
        | 0, _ => exact ⟨a1, c1, cell_of_block kk rfl, liesF_keeps HF5.out hk6⟩
        | 1, _ => exact ⟨a2, c2, cell_of_block kk rfl, liesF_keeps HG5.out hk6⟩⟩)
    clear kk hk6
    generalize w5.alloc (.cells #[.slice a1 f.len c1, .slice a2 g.len c2] 28) = w6 at *
    have hcat : catF [f, g] = f.app g := by simp [catF, app_nil]
    have CT := Lib.hid (concatT_any [f, g] w5.heap.size w.heap.size w6 B6.size HS.out (by simp) (by rw [hcat]; have := len_size (f.app g); omega))
    rw [hcat] at CT
    refine CT.out.mono ?_
    rintro e w7 ⟨a7, c7, rfl, hl7, hb7⟩
    have B7 := B6.trans (hb7.mono B6.size)
    have HL7 := Lib.hid hl7
    have WI := Lib.hid (within_any (f.app g) a7 c7 w7 (liesF_lies hl7) hsz)
    clear hl7 hb7
    by_cases hb : bndErr (f.app g) = 0
    · have HY := HX.out.trans (if_pos hb)
      subst HY
      rw [hb, if_pos rfl] at WI
      clear hb
      go_wp2_with fail
      refine WI.out.mono ?_
      rintro e w8 ⟨rfl, hb8⟩
      have HL8 := Lib.hid (liesF_keeps HL7.out (Keeps.of_below hb8 : Keeps w.heap.size w7 w8))
      have B8 := Lib.hid (B7.trans (hb8.mono B7.size))
      clear hb8
      go_wp2_with fail
      go_ret2
      exact ⟨_, rfl, HL8.out, B8.out⟩
    · have HY := HX.out.trans (if_neg hb)
      subst HY
      rw [if_neg hb] at WI
      clear hb
      go_wp2_with fail
      refine WI.out.mono ?_
      rintro e w8 ⟨rfl, hb8⟩
      have B8 := Lib.hid (B7.trans (hb8.mono B7.size))
      clear hb8
      go_wp2_with fail
      go_ret2
      exact ⟨.slice none 0 0, rfl, .inl ⟨_, _, rfl, rfl⟩, B8.out⟩
  · have HX := HR.out.trans (if_neg h0)
    subst HX
    have b0 : (ee != 0) = true := by simpa using h0
    clear h0
    go_wp2_with fail
    go_ret2
    exact ⟨.slice none 0 0, rfl, .inl ⟨_, _, rfl, rfl⟩, B3⟩
end Go.Proofs.YtcgedpfolloinaaGreat

namespace Go.Proofs.YtcgedpfolloinaaGreat
open Go.RowKit

theorem below_drewN' : ∀ (n B : Nat) (w : World), Below B w (w.drewN n) := fun _ _ _ => ⟨rfl, rfl, rfl, Nat.le_refl _, fun _ _ => rfl⟩
theorem take_size : ∀ (f : Fo) (i : Nat), (f.take i).size + (f.drop i).size = f.size := by
  intro f i
  rw [← Fo.size_app, Fo.take_app_drop]
theorem setK_size {f : Fo} {i : Nat} {h : Hd} {ks : Fo} (e : nth f i = some (h, ks)) (x : Fo) : (setK f i h x).size + ks.size = f.size + x.size := by
  have := take_size f i
  rw [drop_nth e] at this
  unfold setK
  rw [Fo.size_app]
  simp only [Fo.size] at this ⊢
  omega
theorem changeAt_size : ∀ (q : List Nat) (f : Fo) {g : Fo} (x : Fo), goTo f q = some g → (changeAt f q x).size + g.size = f.size + x.size
  | [], f, g, x, e => by cases e; simp only [changeAt]; omega
  | a :: q, f, g, x, e => by
    simp only [goTo, changeAt] at e ⊢
    cases hn : nth f a with
    | none => simp [hn] at e
    | some y =>
      rw [hn] at e
      have h1 := changeAt_size q y.2 x e
      have h2 := setK_size (h := y.1) (ks := y.2) hn (changeAt y.2 q x)
      simp only
      omega
theorem spl_size (g : Fo) (i n : Nat) (b : Fo) : (spl g i n b).size = (g.take i).size + b.size + (g.drop (i + n)).size := by
  unfold spl
  rw [Fo.size_app, Fo.size_app]
  omega
theorem drop_drop : ∀ (g : Fo) (i n : Nat), (g.drop i).drop n = g.drop (i + n)
  | .nil, i, n => by simp [Fo.drop_nil]
  | .cons h ks r, 0, n => by simp [Fo.drop]
  | .cons h ks r, i + 1, n => by
    rw [show i + 1 + n = (i + n) + 1 by omega]
    simp only [Fo.drop]
    exact drop_drop r i n
theorem spl_le (g : Fo) (i n : Nat) (b : Fo) : (spl g i n b).size ≤ g.size + b.size := by
  rw [spl_size]
  have h1 := take_size g i
  have h2 := take_size (g.drop i) n
  rw [drop_drop] at h2
  omega
theorem goTo_pre {g : Fo} : ∀ (p : List Nat) (i : Nat) (r : List Nat) (f : Fo), goTo f (p ++ i :: r) = some g → ∃ g' h ks, goTo f p = some g' ∧ nth g' i = some (h, ks)
  | [], i, r, f, e => by
    simp only [List.nil_append, goTo] at e
    cases hn : nth f i with
    | none => simp [hn] at e
    | some x => exact ⟨f, x.1, x.2, rfl, hn⟩
  | a :: p, i, r, f, e => by
    simp only [List.cons_append, goTo] at e ⊢
    cases hn : nth f a with
    | none => simp [hn] at e
    | some x =>
      rw [hn] at e
      exact goTo_pre p i r x.2 e

theorem take_getD3 {p : List Nat} {k : Nat} (hk : k < p.length) : p.take k ++ [p.getD k 0] = p.take (k + 1) := by
  rw [List.take_add_one, List.getD_eq_getElem?_getD, List.getElem?_eq_getElem hk]; rfl
theorem drop_getD3 {p : List Nat} {k : Nat} (hk : k < p.length) : p.drop k = p.getD k 0 :: p.drop (k + 1) := by
  rw [List.drop_eq_getElem_cons hk, List.getD_eq_getElem?_getD, List.getElem?_eq_getElem hk]; rfl
theorem goTo_size : ∀ (q : List Nat) (f : Fo) {g : Fo}, goTo f q = some g → g.size ≤ f.size
  | [], f, g, e => by cases e; exact Nat.le_refl _
  | a :: q, f, g, e => by
    simp only [goTo] at e
    cases hn : nth f a with
    | none => simp [hn] at e
    | some x =>
      rw [hn] at e
      have h1 := goTo_size q x.2 e
      have h2 := setK_size (h := x.1) (ks := x.2) hn .nil
      simp only [Fo.size] at h2
      omega
theorem rowF_F0 {B : Nat} {w : World} {f : Fo} {I : Nat → Prop} {own : Nat → Nat} {b : Nat} (hI : ∀ x, I x → B ≤ x) (H : RowO w f I own b 0) : RowF B w f b 0 := by
  have := rowO_F f I own b 0 hI H
  rwa [Nat.zero_mul] at this
/-- where a value of a slice of trees lies. -/
structure PlaceAt (W : World) (w0 G : Nat) (f : Fo) (pre : List Nat) (pb po Bg : Nat) (Ig : Nat → Prop) (Cp : Array Value) (Tp : TypeId) (a : Option Addr) (c : Nat) (g : Fo) : Prop where
  hole : Hole W G pb po Bg w0 Ig f pre
  goes : goTo f pre = some g
  not : ¬ Ig pb
  blk : W.heap[pb]? = some (.cells Cp Tp (0, 0))
  val : Cp[po]? = some (Value.slice a g.len c)
  lies : LiesO Ig W (.slice a g.len c) g
  low : ∀ x, Ig x → Bg ≤ x
  way : pb + 1 = Bg ∨ (po = 0 ∧ ∃ a n c, Cp = #[.slice a n c])
  ge : w0 ≤ pb
  bg : w0 ≤ Bg
  bgl : Bg ≤ W.heap.size

theorem PlaceAt.step {W : World} {w0 G : Nat} {f : Fo} {pre : List Nat} {pb po Bg : Nat} {Ig : Nat → Prop} {Cp : Array Value} {Tp : TypeId} {a : Option Addr} {c : Nat} {g : Fo} (P : PlaceAt W w0 G f pre pb po Bg Ig Cp Tp a c g) {i : Nat} {h : Hd} {ks : Fo} (hn : nth g i = some (h, ks)) :
    ∃ b own C ak ck, a = some ⟨b, 0, none⟩ ∧ b < W.heap.size ∧ g.len ≤ c ∧ g.len ≤ 2000000000000 ∧ W.cell? ⟨b, i * 7 + 6, none⟩ = some (Value.slice ak ks.len ck) ∧ PlaceAt W w0 G f (pre ++ [i]) b (i * 7 + 6) (b + 1) (cls Ig own b (2 * i + 1)) C 43 ak ck ks := by
  have hil := nth_lt hn
  rcases P.lies with ⟨_, _, e, rfl⟩ | ⟨b, cap, own, C, e, hcap, hlen, hI, hblk, hC, hrow⟩
  · simp [Fo.len] at hil
  · simp only [Value.slice.injEq, true_and] at e
    obtain ⟨rfl, rfl⟩ := e
    have hT := treesO_of g 0 hrow
    have hb := blk_size hblk
    have H' := hT i h ks hil (drop_nth hn)
    rw [Nat.zero_add] at H'
    obtain ⟨-, v, q6, hk⟩ := H'
    obtain ⟨ak, ck, rfl⟩ := liesO_form hk
    exact ⟨b, own, C, ak, ck, rfl, hb, hcap, hlen, q6, P.hole.step P.not (blk_size P.blk) P.low (cell_of_block P.blk P.val) hcap hlen hI hb hT P.goes hn, goTo_snoc pre f P.goes hn, fun hc => Nat.lt_irrefl _ hc.2.1, hblk, cell_get hblk q6, hk,
      fun x hx => hx.2.1, .inl rfl, Nat.le_trans P.bg (P.low b hI), Nat.le_trans P.bg (Nat.le_trans (P.low b hI) (Nat.le_succ _)), hb⟩

set_option maxRecDepth 100000 in
set_option maxHeartbeats 8000000 in
theorem splice_any (f : Fo) (q : List Nat) (i out : Nat) (g b : Fo) (v pv u : Value) (w : World) (hl : Lies w v f) (hp : IntsLie w pv (pathInts (q ++ [i]))) (hpl : q.length ≤ 1000000) (hu : Lies w u b) (hg : goTo f q = some g) (hi : i + out ≤ g.len) (hs : f.size ≤ 100000) (hsb : b.size ≤ 100000) :
    Calls Tryz.prog 105 #[v, pv, .int .i64 out, u] w (FoE w (inBnd (changeAt f q (spl g i out b)))) := by
  have CL := Lib.hid (fun W (hW : Below w.heap.size w W) => cloneO_any f.size f (Nat.le_refl _) v W (lies_below hl hW))
  have CB := Lib.hid (fun W (hW : Below w.heap.size w W) => clone_any b.size b (Nat.le_refl _) u W (lies_below hu hW))
  have hsz : (changeAt f q (spl g i out b)).size ≤ 1000000 := by
    have h1 := changeAt_size q f (spl g i out b) hg
    have h2 := spl_le g i out b
    omega
  have HP := Lib.hid hp
  have HG := Lib.hid hg
  obtain ⟨av, cv, rfl⟩ := lies_form hl
  obtain ⟨au, cu, rfl⟩ := lies_form hu
  obtain ⟨pb0, po0, pcap, rfl, hcp, hpb, hpc⟩ := ints_cells hp (by simp)
  clear hl hu hp hg
  simp only [List.length_map, List.length_append, List.length_cons, List.length_nil, Nat.zero_add] at hcp HP hpc ⊢
  have HPC := Lib.hid hpc
  clear hpc
  go_enter Tryz.func105, Tryz.ntmps105
  go_wp2_with fail
  refine (CL.out w (Below.refl _ _)).mono ?_
  rintro e X1 ⟨a1, c1, rfl, hO1, hb1⟩
  go_upto_region 2 with fail
  obtain ⟨W1, hW1⟩ : ∃ W1, X1.alloc (.cells #[.slice a1 f.len c1] 28) = W1 := ⟨_, rfl⟩
  have kk := World.alloc_heap_new X1 (.cells #[.slice a1 f.len c1] 28)
  have hbW : Below X1.heap.size X1 (X1.alloc (.cells #[.slice a1 f.len c1] 28)) := (Below.refl _ _).alloc (Nat.le_refl _) _
  have hsW : X1.heap.size < (X1.alloc (.cells #[.slice a1 f.len c1] 28)).heap.size := by simp
  rw [hW1] at kk hbW hsW
  rw [hW1]
  have B1 : Below w.heap.size w W1 := hb1.trans (hbW.mono hb1.size)
  have hsx := hb1.size
  have P0 : PlaceAt W1 w.heap.size X1.heap.size f [] X1.heap.size 0 w.heap.size (fun x => w.heap.size ≤ x ∧ x < X1.heap.size) #[.slice a1 f.len c1] 28 a1 c1 f :=
    ⟨.top _ _ _ _ _, rfl, fun h => Nat.lt_irrefl _ h.2, kk, rfl, liesO_keeps (liesO_mono (fun x hx hl => ⟨hx, hl⟩) hO1) (KeepsO.of_below hbW), fun x hx => hx.1, .inr ⟨rfl, _, _, _, rfl⟩, hsx, Nat.le_refl _, B1.size⟩
  have PP := Lib.hid P0
  have KG := Lib.hid kk
  clear P0 kk hO1 hb1 hbW hW1
  generalize X1.heap.size = G at *
  go_wp2_with fail
  go_loopw [11, 26] (fun lp i wr => wr = W1 ∧ ∃ (j pb po Bg : Nat) (Ig : Nat → Prop) (Cp : Array Value) (Tp : TypeId) (a : Option Addr) (c : Nat) (g' : Fo), i = .int .i64 j ∧ j ≤ q.length ∧ lp = .pointer (some ⟨pb, po, none⟩) ∧ PlaceAt W1 w.heap.size G f (q.take j) pb po Bg Ig Cp Tp a c g') (fun _ i _ => q.length - (intOf i).toNat)
  case atStart => exact ⟨rfl, 0, G, 0, _, _, _, _, a1, c1, f, rfl, Nat.zero_le _, rfl, PP.out⟩
  case round =>
    obtain ⟨rfl, j, pb, po, Bg, Ig, Cp, Tp, a, c, g', rfl, hj, rfl, hP⟩ := hrel
    have PQ := Lib.hid hP
    have c1' : wr.cell? ⟨pb, po, none⟩ = some (Value.slice a g'.len c) := cell_of_block hP.blk hP.val
    have f1' := frozen_of_block (o := po) hP.blk
    have hpb' := blk_size hP.blk
    clear hP PP
    by_cases hlt : j < q.length
    · have dk : decide (j < q.length) = true := by simpa using hlt
      have hq : q = q.take j ++ q.getD j 0 :: q.drop (j + 1) := by
        rw [← drop_getD3 hlt, List.take_append_drop]
      have hgo := HG.out
      rw [hq] at hgo
      obtain ⟨g2, h, ks, e1, e2⟩ := goTo_pre _ _ _ f hgo
      rw [PQ.out.goes] at e1
      cases e1
      have hil := nth_lt e2
      have HTK := Lib.hid (show q.take (j + 1) = q.take j ++ [q.getD j 0] by rw [← take_getD3 hlt])
      have c2' := (B1.cell (p := ⟨pb0, po0 + j, none⟩) hpb).trans (HPC.out j (by omega))
      rw [show (pathInts (q ++ [i])).getD j 0 = ((q.getD j 0 : Nat) : Int) by
        rw [List.getD_eq_getElem?_getD, List.getElem?_map, List.getElem?_append_left hlt, List.getElem?_eq_getElem hlt, List.getD_eq_getElem?_getD, List.getElem?_eq_getElem hlt]; rfl] at c2'
      have hpbr : pb0 < wr.heap.size := by have := B1.size; omega
      clear hgo hq
      generalize q.getD j 0 = m at *
      obtain ⟨b2, own, C, ak, ck, rfl, hb2, hcap, hlen, q6, hP2⟩ := PQ.out.step e2
      have P2 := Lib.hid hP2
      have dm : decide (m < g'.len) = true := by simpa using hil
      clear hP2 e2 q6
      go_wp2_with fail
      go_roundw
      case rel => exact ⟨trivial, j + 1, b2, m * 7 + 6, _, _, _, _, ak, ck, ks, by go_num, by omega, rfl, by rw [HTK.out]; exact P2.out⟩
      case measure => simp [intOf]; omega
    · have dk : decide (j < q.length) = false := by simpa using hlt
      obtain rfl : j = q.length := by omega
      have hP := PQ.out
      rw [List.take_length] at hP
      have e1 := hP.goes
      rw [HG.out] at e1
      cases e1
      have PR := Lib.hid hP
      have c2' := (B1.cell (p := ⟨pb0, po0 + q.length, none⟩) hpb).trans (HPC.out q.length (by omega))
      rw [show (pathInts (q ++ [i])).getD q.length 0 = (i : Int) by
        rw [List.getD_eq_getElem?_getD, List.getElem?_map, List.getElem?_append_right (Nat.le_refl _), Nat.sub_self]; rfl] at c2'
      have hpbr : pb0 < wr.heap.size := by have := B1.size; omega
      clear hP PQ
      obtain ⟨hgc, hg12⟩ : g.len ≤ c ∧ g.len ≤ 2000000000000 := by
        rcases PR.out.lies with ⟨_, _, e, rfl⟩ | ⟨_, _, _, _, e, h1, h2, -⟩
        · exact ⟨Nat.zero_le _, Nat.zero_le _⟩
        · simp only [Value.slice.injEq, true_and] at e
          obtain ⟨-, rfl⟩ := e
          exact ⟨h1, h2⟩
      have hgl0 : ∀ (a' : Option Addr) (n' c' : Nat) (k' : Fo), k'.len = n' → n' = 0 → LiesF Bg wr (.slice a' n' c') k' := by
        intro a' n' c' k' h1 h2
        subst h2
        exact .inl ⟨a', c', rfl, Fo.len_nil h1⟩
      cases a with
      | none =>
        have hg0 : g.len = 0 := by
          rcases PR.out.lies with ⟨_, _, e, rfl⟩ | ⟨_, _, _, _, e, -⟩
          · rfl
          · cases e
        have FF := Lib.hid (hgl0 none i c (g.take i) (len_take g i (by omega)) (by omega))
        have FB := Lib.hid (hgl0 none (g.len - (i + out)) (c - (i + out)) (g.drop (i + out)) (Fo.len_drop _ _) (by omega))
        clear hg0 hgl0
        go_upto_region 9 with fail
        obtain ⟨L1, hL1⟩ : ∃ n, q.length + 1 = n := ⟨_, rfl⟩
        rw [hL1]
        have dq : decide (q.length < L1) = true := by simp; omega
        go_quiet (fail)
        rename_i nq
        clear c1' f1' dq hL1 c2' HPC HP
        have B2 : Below w.heap.size w (wr.drewN nq) := B1.trans (below_drewN' nq _ _)
        have hbx : Below wr.heap.size wr (wr.drewN nq) := below_drewN' nq _ _
        generalize wr.drewN nq = W2 at *
        go_wp2_with fail
        refine (CB.out W2 B2).mono ?_
        rintro e X3 ⟨a3, c3, rfl, hF3, hb3⟩
        have B3 := B2.trans (hb3.mono B2.size)
        have hbx3 := hbx.trans (hb3.mono hbx.size)
        have HF3 := Lib.hid (liesF_mono (B' := Bg) (Nat.le_trans PR.out.bgl hbx.size) hF3)
        clear hF3 hb3 hbx B2
        go_wp2_with fail
        have kk := World.alloc_heap_new X3 (.cells #[.slice none i c, .slice a3 b.len c3, .slice none (g.len - (i + out)) (c - (i + out))] 28)
        have hba : Below X3.heap.size X3 (X3.alloc (.cells #[.slice none i c, .slice a3 b.len c3, .slice none (g.len - (i + out)) (c - (i + out))] 28)) := (Below.refl _ _).alloc (Nat.le_refl _) _
        have hsa : X3.heap.size < (X3.alloc (.cells #[.slice none i c, .slice a3 b.len c3, .slice none (g.len - (i + out)) (c - (i + out))] 28)).heap.size := by simp
        generalize X3.alloc (.cells #[.slice none i c, .slice a3 b.len c3, .slice none (g.len - (i + out)) (c - (i + out))] 28) = W4 at *
        have B4 := B3.trans (hba.mono B3.size)
        have hbx4 := hbx3.trans (hba.mono hbx3.size)
        have HS := Lib.hid (show SlicesAt Bg W4 X3.heap.size [g.take i, b, g.drop (i + out)] from ⟨hsa, fun k hk => by
          match k, hk with
          | 0, _ => exact ⟨none, c, by show _ = some (Value.slice none (g.take i).len c); rw [len_take g i (by omega)]; exact cell_of_block kk rfl, by show LiesF Bg W4 (.slice none (g.take i).len c) (g.take i); rw [len_take g i (by omega)]; exact liesF_keeps FF.out (Keeps.of_below hbx4)⟩
          | 1, _ => exact ⟨a3, c3, cell_of_block kk rfl, liesF_keeps HF3.out (Keeps.of_below hba)⟩
          | 2, _ => exact ⟨none, c - (i + out), by show _ = some (Value.slice none (g.drop (i + out)).len (c - (i + out))); rw [Fo.len_drop]; exact cell_of_block kk rfl, by show LiesF Bg W4 (.slice none (g.drop (i + out)).len (c - (i + out))) (g.drop (i + out)); rw [Fo.len_drop]; exact liesF_keeps FB.out (Keeps.of_below hbx4)⟩⟩)
        have hcat : catF [g.take i, b, g.drop (i + out)] = spl g i out b := by simp only [catF, spl, app_nil]
        have hgs := goTo_size q f HG.out
        have hspl := spl_le g i out b
        have CT := Lib.hid (concatT_any [g.take i, b, g.drop (i + out)] X3.heap.size Bg W4 (Nat.le_trans PR.out.bgl hbx4.size) HS.out (by simp) (by rw [hcat]; have := len_size (spl g i out b); omega))
        rw [hcat] at CT
        clear kk hba hsa HS hcat HF3 FF FB hbx3 B3 hgs hspl
        refine CT.out.mono ?_
        rintro e X5 ⟨a5, c5, rfl, hF5, hb5⟩
        have B5 := B4.trans (hb5.mono B4.size)
        have hbx5 := hbx4.trans (hb5.mono hbx4.size)
        have hblk5 := (hbx5.block pb hpb').trans PR.out.blk
        have c1' : X5.cell? ⟨pb, po, none⟩ = some (Value.slice none g.len c) := cell_of_block hblk5 PR.out.val
        have f1' := frozen_of_block (o := po) hblk5
        obtain ⟨vt, ht, hlt5⟩ := PR.out.hole.store PR.out.blk PR.out.val PR.out.way hbx5 hF5
        obtain ⟨at', ct, rfl⟩ := liesF_form hlt5
        have HLT := Lib.hid hlt5
        have HT := Lib.hid ht
        have B6 := Lib.hid (B5.setCell (p := ⟨pb, po, none⟩) PR.out.ge (.slice a5 (spl g i out b).len c5))
        clear hblk5 hb5 hF5 hlt5 ht hbx4 B4 hbx5 B5
        go_upto_region 11 with fail
        have h6 := HT.out
        have HL6 := Lib.hid HLT.out
        have B6' := B6.out
        generalize X5.setCell ⟨pb, po, none⟩ (.slice a5 (spl g i out b).len c5) = X6 at *
        clear HLT HT B6
        generalize changeAt f q (spl g i out b) = R at *
        have WI := Lib.hid (within_any R at' ct X6 (liesF_lies HL6.out) hsz)
        by_cases hbd : bndErr R = 0
        · have EX := Lib.hid (show inBnd R = (R, 0) by unfold inBnd; rw [if_pos hbd])
          rw [hbd, if_pos rfl] at WI
          clear hbd
          go_wp2_with fail
          refine WI.out.mono ?_
          rintro e w8 ⟨rfl, hb8⟩
          have HL8 := Lib.hid (liesF_keeps HL6.out (Keeps.of_below hb8 : Keeps w.heap.size X6 w8))
          have B8 := Lib.hid (B6'.trans (hb8.mono B6'.size))
          clear hb8
          go_wp2_with fail
          go_ret2
          rw [EX.out]
          exact ⟨_, rfl, HL8.out, B8.out⟩
        · have EX := Lib.hid (show inBnd R = (.nil, bndErr R) by unfold inBnd; rw [if_neg hbd])
          rw [if_neg hbd] at WI
          clear hbd
          go_wp2_with fail
          refine WI.out.mono ?_
          rintro e w8 ⟨rfl, hb8⟩
          have B8 := Lib.hid (B6'.trans (hb8.mono B6'.size))
          clear hb8
          go_wp2_with fail
          go_ret2
          rw [EX.out]
          exact ⟨.slice none 0 0, rfl, .inl ⟨_, _, rfl, rfl⟩, B8.out⟩
      | some ad =>
        have hfb : LiesF Bg wr (.slice (some ad) i c) (g.take i) ∧ LiesF Bg wr (.slice (if c = i + out then some ad else some (ad.add ((i + out) * 7))) (g.len - (i + out)) (c - (i + out))) (g.drop (i + out)) := by
          rcases PR.out.lies with ⟨_, _, e, rfl⟩ | ⟨b0, cap, own, C, e, h1, h2, h3, h4, h5, h6⟩
          · simp only [Fo.len] at hi ⊢
            exact ⟨hgl0 _ _ _ _ (len_take .nil i (by simp only [Fo.len]; omega)) (by omega), hgl0 _ _ _ _ (by rw [Fo.drop_nil]; simp only [Fo.len]; omega) (by omega)⟩
          · simp only [Value.slice.injEq, Option.some.injEq, true_and] at e
            obtain ⟨rfl, rfl⟩ := e
            have hr := rowF_F0 PR.out.low h6
            refine ⟨.inr ⟨b0, 0, c, by rw [len_take g i (by omega)], by rw [len_take g i (by omega)]; omega, by rw [len_take g i (by omega)]; omega, PR.out.low b0 h3, blk_size h4, rowF_take i g 0 hr⟩, ?_⟩
            by_cases hz : g.len - (i + out) = 0
            · exact hgl0 _ _ _ _ (Fo.len_drop _ _) hz
            · rw [if_neg (by omega)]
              refine .inr ⟨b0, 0 + (i + out) * 7, c - (i + out), by rw [Fo.len_drop, Go.WideShapes.add_plain], by rw [Fo.len_drop]; omega, by rw [Fo.len_drop]; omega, PR.out.low b0 h3, blk_size h4, rowF_drop (i + out) g 0 hr⟩
        have FF := Lib.hid hfb.1
        have FB := Lib.hid hfb.2
        clear hfb hgl0
        go_upto_region 9 with fail
        obtain ⟨L1, hL1⟩ : ∃ n, q.length + 1 = n := ⟨_, rfl⟩
        rw [hL1]
        have dq : decide (q.length < L1) = true := by simp; omega
        go_quiet (fail)
        rename_i nq
        generalize (if c = i + out then some ad else some (ad.add ((i + out) * 7)) : Option Addr) = aB at *
        clear c1' f1' dq hL1 c2' HPC HP
        have B2 : Below w.heap.size w (wr.drewN nq) := B1.trans (below_drewN' nq _ _)
        have hbx : Below wr.heap.size wr (wr.drewN nq) := below_drewN' nq _ _
        generalize wr.drewN nq = W2 at *
        go_wp2_with fail
        refine (CB.out W2 B2).mono ?_
        rintro e X3 ⟨a3, c3, rfl, hF3, hb3⟩
        have B3 := B2.trans (hb3.mono B2.size)
        have hbx3 := hbx.trans (hb3.mono hbx.size)
        have HF3 := Lib.hid (liesF_mono (B' := Bg) (Nat.le_trans PR.out.bgl hbx.size) hF3)
        clear hF3 hb3 hbx B2
        go_wp2_with fail
        have kk := World.alloc_heap_new X3 (.cells #[.slice (some ad) i c, .slice a3 b.len c3, .slice aB (g.len - (i + out)) (c - (i + out))] 28)
        have hba : Below X3.heap.size X3 (X3.alloc (.cells #[.slice (some ad) i c, .slice a3 b.len c3, .slice aB (g.len - (i + out)) (c - (i + out))] 28)) := (Below.refl _ _).alloc (Nat.le_refl _) _
        have hsa : X3.heap.size < (X3.alloc (.cells #[.slice (some ad) i c, .slice a3 b.len c3, .slice aB (g.len - (i + out)) (c - (i + out))] 28)).heap.size := by simp
        generalize X3.alloc (.cells #[.slice (some ad) i c, .slice a3 b.len c3, .slice aB (g.len - (i + out)) (c - (i + out))] 28) = W4 at *
        have B4 := B3.trans (hba.mono B3.size)
        have hbx4 := hbx3.trans (hba.mono hbx3.size)
        have HS := Lib.hid (show SlicesAt Bg W4 X3.heap.size [g.take i, b, g.drop (i + out)] from ⟨hsa, fun k hk => by
          match k, hk with
          | 0, _ => exact ⟨(some ad), c, by show _ = some (Value.slice (some ad) (g.take i).len c); rw [len_take g i (by omega)]; exact cell_of_block kk rfl, by show LiesF Bg W4 (.slice (some ad) (g.take i).len c) (g.take i); rw [len_take g i (by omega)]; exact liesF_keeps FF.out (Keeps.of_below hbx4)⟩
          | 1, _ => exact ⟨a3, c3, cell_of_block kk rfl, liesF_keeps HF3.out (Keeps.of_below hba)⟩
          | 2, _ => exact ⟨aB, c - (i + out), by show _ = some (Value.slice aB (g.drop (i + out)).len (c - (i + out))); rw [Fo.len_drop]; exact cell_of_block kk rfl, by show LiesF Bg W4 (.slice aB (g.drop (i + out)).len (c - (i + out))) (g.drop (i + out)); rw [Fo.len_drop]; exact liesF_keeps FB.out (Keeps.of_below hbx4)⟩⟩)
        have hcat : catF [g.take i, b, g.drop (i + out)] = spl g i out b := by simp only [catF, spl, app_nil]
        have hgs := goTo_size q f HG.out
        have hspl := spl_le g i out b
        have CT := Lib.hid (concatT_any [g.take i, b, g.drop (i + out)] X3.heap.size Bg W4 (Nat.le_trans PR.out.bgl hbx4.size) HS.out (by simp) (by rw [hcat]; have := len_size (spl g i out b); omega))
        rw [hcat] at CT
        clear kk hba hsa HS hcat HF3 FF FB hbx3 B3 hgs hspl
        refine CT.out.mono ?_
        rintro e X5 ⟨a5, c5, rfl, hF5, hb5⟩
        have B5 := B4.trans (hb5.mono B4.size)
        have hbx5 := hbx4.trans (hb5.mono hbx4.size)
        have hblk5 := (hbx5.block pb hpb').trans PR.out.blk
        have c1' : X5.cell? ⟨pb, po, none⟩ = some (Value.slice (some ad) g.len c) := cell_of_block hblk5 PR.out.val
        have f1' := frozen_of_block (o := po) hblk5
        obtain ⟨vt, ht, hlt5⟩ := PR.out.hole.store PR.out.blk PR.out.val PR.out.way hbx5 hF5
        obtain ⟨at', ct, rfl⟩ := liesF_form hlt5
        have HLT := Lib.hid hlt5
        have HT := Lib.hid ht
        have B6 := Lib.hid (B5.setCell (p := ⟨pb, po, none⟩) PR.out.ge (.slice a5 (spl g i out b).len c5))
        clear hblk5 hb5 hF5 hlt5 ht hbx4 B4 hbx5 B5
        go_upto_region 11 with fail
        have h6 := HT.out
        have HL6 := Lib.hid HLT.out
        have B6' := B6.out
        generalize X5.setCell ⟨pb, po, none⟩ (.slice a5 (spl g i out b).len c5) = X6 at *
        clear HLT HT B6
        generalize changeAt f q (spl g i out b) = R at *
        have WI := Lib.hid (within_any R at' ct X6 (liesF_lies HL6.out) hsz)
        by_cases hbd : bndErr R = 0
        · have EX := Lib.hid (show inBnd R = (R, 0) by unfold inBnd; rw [if_pos hbd])
          rw [hbd, if_pos rfl] at WI
          clear hbd
          go_wp2_with fail
          refine WI.out.mono ?_
          rintro e w8 ⟨rfl, hb8⟩
          have HL8 := Lib.hid (liesF_keeps HL6.out (Keeps.of_below hb8 : Keeps w.heap.size X6 w8))
          have B8 := Lib.hid (B6'.trans (hb8.mono B6'.size))
          clear hb8
          go_wp2_with fail
          go_ret2
          rw [EX.out]
          exact ⟨_, rfl, HL8.out, B8.out⟩
        · have EX := Lib.hid (show inBnd R = (.nil, bndErr R) by unfold inBnd; rw [if_neg hbd])
          rw [if_neg hbd] at WI
          clear hbd
          go_wp2_with fail
          refine WI.out.mono ?_
          rintro e w8 ⟨rfl, hb8⟩
          have B8 := Lib.hid (B6'.trans (hb8.mono B6'.size))
          clear hb8
          go_wp2_with fail
          go_ret2
          rw [EX.out]
          exact ⟨.slice none 0 0, rfl, .inl ⟨_, _, rfl, rfl⟩, B8.out⟩
end Go.Proofs.YtcgedpfolloinaaGreat

namespace Go.Proofs.YtcgedpfolloinaaGreat
open Go.RowKit

theorem attrs_ok2 : ∀ (l : List (List UInt8 × List UInt8)) (b : List UInt8), attrsErr b l = 0 → ∀ q ∈ l, q.1.length ≤ 60 ∧ q.2.length ≤ 60
  | [], _, _, q, hq => by cases hq
  | (n, v) :: r, b, e, q, hq => by
    rw [attrsErr] at e
    by_cases h1 : namedB n = false
    · rw [if_pos h1] at e; cases e
    · rw [if_neg h1] at e
      by_cases h2 : leB n b = true
      · rw [if_pos h2] at e; cases e
      · rw [if_neg h2] at e
        by_cases h3 : printableB v 12 = false
        · rw [if_pos h3] at e; cases e
        · rw [if_neg h3] at e
          rcases List.mem_cons.1 hq with rfl | hq
          · simp only [Bool.not_eq_false] at h1 h3
            unfold namedB at h1
            unfold printableB at h3
            simp only [Bool.and_eq_true, decide_eq_true_eq] at h1 h3
            simp only
            omega
          · exact attrs_ok2 r n e q hq
theorem hdN_ok {h : Hd} (e : headErr h = 0) : hdN 60 h := by
  unfold headErr at e
  by_cases hs : strayB h = true
  · rw [if_pos hs] at e; cases e
  · rw [if_neg hs] at e
    by_cases h1 : h.k = 1
    · unfold strayB at hs
      rw [if_neg (by omega), if_pos h1] at hs
      simp only [Bool.or_eq_true, Bool.not_eq_true', decide_eq_false_iff_not, not_or, Decidable.not_not] at hs
      obtain ⟨hx, hl, ha⟩ := hs
      exact ⟨by rw [hl]; simp, by rw [hx]; simp, fun q hq => by rw [ha] at hq; cases hq⟩
    · rw [if_neg h1] at e
      by_cases h2 : h.k = 2
      · rw [if_pos h2] at e
        unfold strayB at hs
        rw [if_neg (by omega), if_neg h1, if_pos h2] at hs
        simp only [Bool.or_eq_true, Bool.not_eq_true', decide_eq_false_iff_not, not_or, Decidable.not_not] at hs
        obtain ⟨-, hl, ha⟩ := hs
        refine ⟨by rw [hl]; simp, ?_, fun q hq => by rw [ha] at hq; cases hq⟩
        by_cases hp : printableB h.x 24 = true
        · unfold printableB at hp
          simp only [Bool.and_eq_true, decide_eq_true_eq] at hp
          omega
        · rw [if_neg hp] at e; cases e
      · rw [if_neg h2] at e
        unfold strayB at hs
        by_cases h0 : h.k = 0
        · rw [if_pos h0] at hs
          simp only [Bool.or_eq_true, Bool.not_eq_true', decide_eq_false_iff_not, not_or, Decidable.not_not] at hs
          obtain ⟨-, hx⟩ := hs
          unfold elemErr at e
          by_cases hn : namedB h.l = false
          · rw [if_pos hn] at e; cases e
          · rw [if_neg hn] at e
            by_cases h3 : 3 < h.ats.length
            · rw [if_pos h3] at e; cases e
            · rw [if_neg h3] at e
              refine ⟨?_, by rw [hx]; simp, attrs_ok2 _ _ e⟩
              simp only [Bool.not_eq_false] at hn
              unfold namedB at hn
              simp only [Bool.and_eq_true, decide_eq_true_eq] at hn
              omega
        · rw [if_neg h0, if_neg h1, if_neg h2] at hs
          exact absurd rfl hs
theorem foN_ok : ∀ {f : Fo}, headsErr f = 0 → foN 60 f
  | .nil, _ => trivial
  | .cons h ks r, e => by
    obtain ⟨h1, -, h3, h4⟩ := heads_zero.1 e
    exact ⟨hdN_ok h1, foN_ok h3, foN_ok h4⟩
/-- what is valid is small. -/
theorem small_ok {f : Fo} (h : foErr f = 0) : Small f := by
  obtain ⟨h1, -, h3⟩ := fo_zero.1 h
  exact small_foN (N := 100000) (Nat.le_refl _) (by omega) (foN_mono (by omega) (foN_ok h3))
/- parts. -/
theorem nth_heads : ∀ {f : Fo} {j : Nat} {h : Hd} {ks : Fo}, nth f j = some (h, ks) → headsErr f = 0 → headErr h = 0 ∧ ¬ (h.k ≠ 0 ∧ ks.len ≠ 0) ∧ headsErr ks = 0
  | .nil, _, _, _, e, _ => by cases e
  | .cons _ _ _, 0, h, ks, e, z => by
    simp only [nth, Option.some.injEq, Prod.mk.injEq] at e; obtain ⟨rfl, rfl⟩ := e
    obtain ⟨h1, h2, h3, -⟩ := heads_zero.1 z
    exact ⟨h1, h2, h3⟩
  | .cons _ _ r, j + 1, h, ks, e, z => nth_heads (f := r) e (heads_zero.1 z).2.2.2
end Go.Proofs.YtcgedpfolloinaaGreat

namespace Go.Proofs.YtcgedpfolloinaaGreat
open Go.RowKit

/-- n trees from the place at a path on are others. -/
def changeF : Fo → List Nat → Nat → Fo → Fo
  | f, [], _, _ => f
  | f, [i], n, b => spl f i n b
  | f, i :: j :: p, n, b => match nth f i with
    | some (h, ks) => setK f i h (changeF ks (j :: p) n b)
    | none => f
theorem changeF_at : ∀ (q : List Nat) (f : Fo) {g : Fo} (i n : Nat) (b : Fo), goTo f q = some g → changeF f (q ++ [i]) n b = changeAt f q (spl g i n b)
  | [], f, g, i, n, b, e => by cases e; rfl
  | [a], f, g, i, n, b, e => by
    simp only [goTo] at e
    cases hn : nth f a with
    | none => simp [hn] at e
    | some x =>
      rw [hn] at e
      cases e
      simp [changeF, changeAt, hn]
  | a :: a2 :: q, f, g, i, n, b, e => by
    rw [goTo] at e
    cases hn : nth f a with
    | none => simp [hn] at e
    | some x =>
      rw [hn] at e
      have := changeF_at (a2 :: q) x.2 i n b e
      simp only [List.cons_append] at this ⊢
      rw [changeF, changeAt, hn]
      simp only
      rw [this]
theorem place_nat : ∀ (p : List Int) (f : Fo) (x : Hd × Fo), placeF f p = some x → p = pathInts (p.map Int.toNat)
  | [], f, x, e => by cases f <;> cases e
  | i :: p, f, x, e => by
    rw [placeF] at e
    by_cases hi : i < 0
    · rw [if_pos hi] at e; cases e
    · rw [if_neg hi] at e
      have e1 : ((i.toNat : Nat) : Int) = i := by omega
      cases hd : f.drop i.toNat with
      | nil => rw [hd] at e; cases e
      | cons h ks r =>
        rw [hd] at e
        simp only [List.map_cons, e1]
        by_cases hp : p = []
        · subst hp; rfl
        · have e' : placeF ks p = some x := by simpa [hp] using e
          have := place_nat p ks x e'
          exact congrArg (i :: ·) this
theorem place_go : ∀ (q : List Nat) (f : Fo) {h : Hd} {ks : Fo}, placeF f (pathInts q) = some (h, ks) → goTo f q = some ks
  | [], f, h, ks, e => by cases f <;> cases e
  | i :: q, f, h, ks, e => by
    rw [place_nth] at e
    cases hn : nth f i with
    | none => rw [hn] at e; cases e
    | some x =>
      obtain ⟨h', ks'⟩ := x
      rw [hn] at e
      simp only [goTo, hn]
      cases q with
      | nil =>
        simp only [if_true, Option.some.injEq, Prod.mk.injEq] at e
        obtain ⟨rfl, rfl⟩ := e
        rfl
      | cons a q => exact place_go (a :: q) ks' (by simpa using e)
theorem place_last : ∀ (q : List Nat) (i : Nat) (f : Fo) {x : Hd × Fo}, placeF f (pathInts (q ++ [i])) = some x → ∃ g, goTo f q = some g ∧ nth g i = some x
  | [], i, f, x, e => by
    rw [List.nil_append, place_nth] at e
    cases hn : nth f i with
    | none => rw [hn] at e; cases e
    | some y => obtain ⟨h', ks'⟩ := y; rw [hn] at e; exact ⟨f, rfl, by rw [hn]; simpa using e⟩
  | a :: q, i, f, x, e => by
    rw [List.cons_append, place_nth] at e
    cases hn : nth f a with
    | none => rw [hn] at e; cases e
    | some y =>
      obtain ⟨h', ks'⟩ := y
      rw [hn] at e
      obtain ⟨g, h1, h2⟩ := place_last q i ks' (x := x) (by simpa using e)
      exact ⟨g, by simp only [goTo, hn]; exact h1, h2⟩
theorem go_place : ∀ (q : List Nat) (i : Nat) (f : Fo) {g : Fo} {x : Hd × Fo}, goTo f q = some g → nth g i = some x → placeF f (pathInts (q ++ [i])) = some x
  | [], i, f, g, x, e, e2 => by
    cases e
    rw [List.nil_append, place_nth, e2]
    obtain ⟨h', ks'⟩ := x
    simp
  | a :: q, i, f, g, x, e, e2 => by
    rw [goTo] at e
    rw [List.cons_append, place_nth]
    cases hn : nth f a with
    | none => simp [hn] at e
    | some y =>
      rw [hn] at e
      have := go_place q i y.2 e e2
      obtain ⟨h', ks'⟩ := y
      simpa using this
theorem snoc_of {α : Type} : ∀ (p : List α), p ≠ [] → ∃ q i, p = q ++ [i]
  | [], h => absurd rfl h
  | [a], _ => ⟨[], a, rfl⟩
  | a :: b :: p, _ => by
    obtain ⟨q, i, e⟩ := snoc_of (b :: p) (by simp)
    exact ⟨a :: q, i, by rw [e]; rfl⟩
/-- where something can be put, or cut. -/
theorem place_cut {f : Fo} {p : List Int} (h : placeErr f p = 0) : ∃ q i g, p = pathInts (q ++ [i]) ∧ p.map Int.toNat = q ++ [i] ∧ goTo f q = some g ∧ i + 1 ≤ g.len := by
  unfold placeErr at h
  by_cases hp : p = []
  · rw [if_pos hp] at h; cases h
  · rw [if_neg hp] at h
    cases hx : placeF f p with
    | none => rw [hx] at h; cases h
    | some x =>
      have hn := place_nat p f x hx
      obtain ⟨q, i, e⟩ := snoc_of (p.map Int.toNat) (by simpa using hp)
      rw [e] at hn
      rw [hn] at hx
      obtain ⟨g, h1, h2⟩ := place_last q i f hx
      exact ⟨q, i, g, hn, e, h1, nth_lt h2⟩
theorem forest_go {f : Fo} {p : List Int} {g : Fo} (h : forestV f p = (g, 0)) : p = pathInts (p.map Int.toNat) ∧ goTo f (p.map Int.toNat) = some g := by
  unfold forestV at h
  by_cases hp : p = []
  · subst hp
    rw [if_pos rfl] at h
    cases h
    exact ⟨rfl, rfl⟩
  · rw [if_neg hp] at h
    cases hx : placeF f p with
    | none => rw [hx] at h; cases h
    | some x =>
      obtain ⟨hd, ks⟩ := x
      rw [hx] at h
      have hn := place_nat p f _ hx
      refine ⟨hn, ?_⟩
      rw [hn] at hx
      simp only at h
      by_cases hk : hd.k ≠ 0
      · rw [if_pos hk] at h; cases h
      · rw [if_neg hk] at h
        cases h
        exact place_go _ f hx
theorem first_zero : ∀ {l : List Int}, firstNZ l = 0 → ∀ e ∈ l, e = 0
  | [], _, e, he => by cases he
  | a :: l, h, e, he => by
    rw [firstNZ] at h
    by_cases ha : a = 0
    · rw [if_neg (by simpa using ha)] at h
      rcases List.mem_cons.1 he with rfl | he
      · exact ha
      · exact first_zero h e he
    · rw [if_pos ha] at h; exact absurd h ha
/-- what Put, Insert and Cut give. -/
def putV (f : Fo) (p : List Int) (t : Fo) : Fo × Int :=
  if firstNZ [foErr f, foErr t, placeErr f p] = 0 then inBnd (changeF f (p.map Int.toNat) 1 t) else (.nil, firstNZ [foErr f, foErr t, placeErr f p])
def insU (f : Fo) (q : List Int) (x : Int) (t : Fo) : Fo × Int :=
  if (forestV f q).2 ≠ 0 then (.nil, (forestV f q).2) else if x < 0 ∨ ((forestV f q).1.len : Int) < x then (.nil, 6) else inBnd (changeF f ((q ++ [x]).map Int.toNat) 0 t)
def insV (f : Fo) (p : List Int) (t : Fo) : Fo × Int :=
  if firstNZ [foErr f, foErr t] = 0 then (if p = [] then (.nil, 10) else insU f p.dropLast (p.getLastD 0) t) else (.nil, firstNZ [foErr f, foErr t])
def cutV (f : Fo) (p : List Int) : Fo × Int :=
  if firstNZ [foErr f, placeErr f p] = 0 then inBnd (changeF f (p.map Int.toNat) 1 .nil) else (.nil, firstNZ [foErr f, placeErr f p])
theorem insU_there {f g : Fo} {q : List Int} {x : Int} {t : Fo} (h : forestV f q = (g, 0)) (hx : ¬ (x < 0 ∨ (g.len : Int) < x)) :
    insU f q x t = inBnd (changeAt f (q.map Int.toNat) (spl g x.toNat 0 t)) ∧ q ++ [x] = pathInts (q.map Int.toNat ++ [x.toNat]) ∧ goTo f (q.map Int.toNat) = some g ∧ x.toNat ≤ g.len := by
  obtain ⟨h1, h2⟩ := forest_go h
  refine ⟨?_, ?_, h2, by omega⟩
  · unfold insU
    rw [h]
    simp only
    rw [if_neg (by simp), if_neg hx, List.map_append, List.map_cons, List.map_nil, changeF_at _ f _ _ _ h2]
  · have e1 : ((x.toNat : Nat) : Int) = x := by omega
    simp only [List.map_append, List.map_cons, List.map_nil, e1]
    exact congrArg (· ++ [x]) h1
end Go.Proofs.YtcgedpfolloinaaGreat

namespace Go.Proofs.YtcgedpfolloinaaGreat
open Go.RowKit

/-- what CopyOf gives: a row of its own, and what lies behind it lies elsewhere. -/
def CopyRes (w : World) (f : Fo) (e : Ending) (w' : World) : Prop :=
  ∃ g a cap cs, e = .returned (.slice a f.len cap) ∧ (∀ b, (Value.slice a f.len cap).ownBlock = some b → b = g) ∧ w'.ownsRow w.heap.size 43 7 (.slice a f.len cap) f.len cs ∧ Stab w.heap.size g w' f cs ∧ Below w.heap.size w w'
/-- a row, by its cells. -/
theorem own_lies {W : World} {B B' : Nat} {a : Option Addr} {cap n : Nat} {f : Fo} {cs : List Value} (ho : W.ownsRow B 43 7 (.slice a n cap) n cs) (hn : f.len = n) (hl : n ≤ 2000000000000) (hr : RowL B' W f cs) (hB : B' ≤ B) : LiesF B' W (.slice a n cap) f := by
  have hgl := fun b hb => ho.lt b hb
  rcases ho.2 with ⟨h3, h4⟩ | ⟨g1, cap1, cur, h3, hb1, hg1, hn1, hc1, _, _⟩
  · exact .inl ⟨none, 0, by simpa [h4] using h3, Fo.len_nil (hn.trans h4)⟩
  · have hgl2 := (hgl g1 (by rw [h3]; rfl)).2
    have hcs := ho.cells (g := g1) (by rw [h3]; rfl)
    simp only [Value.slice.injEq] at h3
    obtain ⟨rfl, -, rfl⟩ := h3
    exact .inr ⟨g1, 0, cap, by rw [hn], by rw [hn]; exact hn1, by rw [hn]; exact hl, Nat.le_trans hB hb1, hgl2, rowL_row f cs 0 hr fun j u hj => by
      have := hcs j u hj
      rw [Go.WideShapes.add_plain] at this
      simpa using this⟩
theorem grown_refl (w : World) (r : Option Nat) : w.grownBy w r := ⟨rfl, rfl, rfl, Nat.le_refl _, fun _ _ _ => rfl⟩
/-- append, the second slice nil or not. -/
theorem wpList_append_both {P : Program} (w : World) {ops : Array Oper} {rest : List Oper} {o : Oper} {a : Act} {Q : Exit → Act → World → Prop} (hgd : o.guard = none) (s x : Operand) (t : TypeId)
    (ho : o.op = .call { callee := .builtin .append, args := #[s, x], argTypes := #[t, t] })
    (base : Nat) (e : TypeId) (i : TypeInfo) (z : Value) (size bytes : Nat) (ht : P.underlying t = some (.slice e)) (hi : P.info? e = some i) (hz : i.zero = some z)
    (hsize : i.size = size) (hby : i.bytes = bytes) (hzs : z.cells.size = size) (hsz : 0 < size)
    (v : Value) (n : Nat) (xs : List Value) (hs : a.eval s = v) (hown : w.ownsRow base e size v n xs)
    (aO : Option Addr) (m c : Nat) (news : List Value) (hx : a.eval x = .slice aO m c) (hl : news.length = m * size) (hnil : aO = none → m = 0) (hnews : ∀ ad, aO = some ad → ∀ j u, news[j]? = some u → w.cell? (ad.add j) = some u) (h1 : ∀ u ∈ news, u.oneCell' = true)
    (h63 : n + m ≤ maxLen) (hbytes : (n + m) * bytes ≤ 140737488355328) (hbase : base ≤ w.heap.size)
    (h : ∀ v' w', w'.ownsRow base e size v' (n + m) (xs ++ news) → w.grownBy w' v.ownBlock → (v'.ownBlock = v.ownBlock ∨ v'.ownBlock = some w.heap.size) → wpList P ops Q rest (a.put o.dst v') w') : wpList P ops Q (o :: rest) a w := by
  cases aO with
  | none =>
    obtain rfl := hnil rfl
    have hn : news = [] := List.eq_nil_of_length_eq_zero (by rw [hl]; simp)
    subst hn
    subst hsize
    refine Lib.wpList_append_run w hgd s x t t ho v (.slice none 0 c) hs hx v w (append_none t _ e i i.size ht hi v n c xs hown) (h v w (by simpa using hown) (grown_refl _ _) (.inl rfl))
  | some ad => exact wpList_append_own_at w hgd s x t ho base e i z size bytes ht hi hz hsize hby hzs hsz v n xs hs hown ad m c news hx hl (hnews ad rfl) h1 h63 hbytes hbase fun v' w' h2 h3 _ h5 => h v' w' h2 h3 h5

set_option maxRecDepth 100000 in
set_option maxHeartbeats 8000000 in
theorem copyOfS_of (f : Fo) (v : Value) (w : World) (hl : Lies w v f) (hln : f.len ≤ 1000000)
    (HT : ∀ hd ks, (∃ j, j < f.len ∧ f.drop j = .cons hd ks (f.drop (j + 1))) → ∀ v w, Lies w v ks → Calls Tryz.prog 95 #[v] w (CloneRes w ks)) :
    Calls Tryz.prog 95 #[v] w (CopyRes w f) := by
  obtain ⟨i0, hi, hz0, hz1, hz2⟩ := info_parts info_tree
  have hlen := lies_len hl
  have HL := Lib.hid hl
  have HT' := Lib.hid HT
  obtain ⟨av, cv, rfl⟩ := lies_form hl
  clear hl HT
  go_enter Tryz.func95, Tryz.ntmps95
  go_wp2_with fail
  go_loopw [3, 4] (fun v3 i wr => ∃ (k g : Nat) (a : Option Addr) (cap : Nat) (cs : List Value), i = .int .i64 k ∧ k ≤ f.len ∧ v3 = .slice a k cap ∧ (∀ b, (Value.slice a k cap).ownBlock = some b → b = g) ∧ wr.ownsRow w.heap.size 43 7 (.slice a k cap) k cs ∧ Stab w.heap.size g wr (f.take k) cs ∧ Below w.heap.size w wr) (fun _ i _ => f.len - (intOf i).toNat)
  case atStart =>
    refine ⟨0, 0, none, 0, [], rfl, Nat.zero_le _, rfl, fun b hb => by simp [Value.ownBlock] at hb, ⟨rfl, .inl ⟨rfl, rfl⟩⟩, ?_, Below.refl _ _⟩
    intro W _ _
    cases f <;> rfl
  case round =>
    obtain ⟨k, g, a, cap, cs, rfl, hk, rfl, hg, hown, hst, hbw⟩ := hrel
    have hsw := hbw.size
    have HOWN := Lib.hid hown
    have HST := Lib.hid hst
    have HG := Lib.hid hg
    have hgl := Lib.hid (fun b (hb : (Value.slice a k cap).ownBlock = some b) => hown.lt b hb)
    clear hown hst hg
    by_cases hlt : k < f.len
    · have dk : decide (k < f.len) = true := by simpa using hlt
      obtain ⟨b, o, cap0, hs, hcap, -, hb, hrow⟩ := lies_row HL.out (by omega)
      simp only [Value.slice.injEq] at hs
      obtain ⟨rfl, -, rfl⟩ := hs
      obtain ⟨hd, ks, e, ⟨q0, q1, ⟨va, q2, ha'⟩, q3, q4, q5⟩, vk, q6, hlk⟩ := row_get hrow hlt
      obtain ⟨aa, ca, rfl⟩ := attrs_form ha'
      obtain ⟨ak, ck, rfl⟩ := lies_form hlk
      have r0 := (hbw.cell (p := ⟨b, o + k * 7, none⟩) hb).trans q0
      have r1 := (hbw.cell (p := ⟨b, o + k * 7 + 1, none⟩) hb).trans q1
      have r2 := (hbw.cell (p := ⟨b, o + k * 7 + 2, none⟩) hb).trans q2
      have r3 := (hbw.cell (p := ⟨b, o + k * 7 + 3, none⟩) hb).trans q3
      have r4 := (hbw.cell (p := ⟨b, o + k * 7 + 4, none⟩) hb).trans q4
      have r5 := (hbw.cell (p := ⟨b, o + k * 7 + 5, none⟩) hb).trans q5
      have r6 := (hbw.cell (p := ⟨b, o + k * 7 + 6, none⟩) hb).trans q6
      have hbr : b < wr.heap.size := by omega
      have HA := Lib.hid (fun W (hW : Below w.heap.size w W) => attrsOf_any _ _ W (attrs_below ha' hW))
      have HC := Lib.hid (fun W (hW : Below w.heap.size w W) => HT'.out hd ks ⟨k, hlt, e⟩ _ W (lies_below hlk hW))
      have HE := Lib.hid e
      clear q0 q1 q2 q3 q4 q5 q6 ha' hlk e hrow HT'
      go_upto_region 6 with fail
      have k1 := World.alloc_heap_new wr (.cells #[.int .i64 hd.k, .string ⟨hd.l.toArray⟩, .slice aa hd.ats.length ca, .int .i64 hd.n, .int .i64 hd.d, .string ⟨hd.x.toArray⟩, .slice ak ks.len ck] 43)
      have BW1 : Below wr.heap.size wr (wr.alloc (.cells #[.int .i64 hd.k, .string ⟨hd.l.toArray⟩, .slice aa hd.ats.length ca, .int .i64 hd.n, .int .i64 hd.d, .string ⟨hd.x.toArray⟩, .slice ak ks.len ck] 43)) := (Below.refl _ _).alloc (Nat.le_refl _) _
      have hs1 : (wr.alloc (.cells #[.int .i64 hd.k, .string ⟨hd.l.toArray⟩, .slice aa hd.ats.length ca, .int .i64 hd.n, .int .i64 hd.d, .string ⟨hd.x.toArray⟩, .slice ak ks.len ck] 43)).heap.size = wr.heap.size + 1 := by simp
      generalize wr.alloc (.cells #[.int .i64 hd.k, .string ⟨hd.l.toArray⟩, .slice aa hd.ats.length ca, .int .i64 hd.n, .int .i64 hd.d, .string ⟨hd.x.toArray⟩, .slice ak ks.len ck] 43) = X1 at *
      have BX1 := hbw.trans (BW1.mono hsw)
      have KT1 := Lib.hid k1
      have d2 : X1.cell? ⟨wr.heap.size, 2, none⟩ = some (.slice aa hd.ats.length ca) := cell_of_block k1 rfl
      have HS1 := Lib.hid hs1
      have hz1' : wr.heap.size < X1.heap.size := by omega
      clear k1 r0 r1 r2 r3 r4 r5 r6 hs1
      go_wp2_with fail
      refine (HA.out X1 BX1).mono ?_
      rintro e X2 ⟨a2, c2, rfl, hA2, hb2⟩
      have BW2 := BW1.trans (hb2.mono BW1.size)
      have k2 := (hb2.block _ hz1').trans KT1.out
      have hz2' : wr.heap.size < X2.heap.size := Nat.lt_of_lt_of_le hz1' hb2.size
      have f2 := frozen_of_block (o := 2) k2
      have d2' : X2.cell? ⟨wr.heap.size, 2, none⟩ = some (.slice aa hd.ats.length ca) := cell_of_block k2 rfl
      have KT2 := Lib.hid k2
      have HA2 := Lib.hid (attrsF_mono (B' := wr.heap.size + 1) (by rw [HS1.out]; omega) hA2)
      clear d2 k2 hb2 hA2
      go_upto_region 7 with fail
      have k3 : (X2.setCell ⟨wr.heap.size, 2, none⟩ (.slice a2 hd.ats.length c2)).heap[wr.heap.size]? = some (.cells #[.int .i64 hd.k, .string ⟨hd.l.toArray⟩, .slice a2 hd.ats.length c2, .int .i64 hd.n, .int .i64 hd.d, .string ⟨hd.x.toArray⟩, .slice ak ks.len ck] 43) := set_block KT2.out
      have BW3 : Below wr.heap.size wr (X2.setCell ⟨wr.heap.size, 2, none⟩ (.slice a2 hd.ats.length c2)) := BW2.setCell (Nat.le_refl _) _
      have hz3' : wr.heap.size < (X2.setCell ⟨wr.heap.size, 2, none⟩ (.slice a2 hd.ats.length c2)).heap.size := by rw [set_size']; exact hz2'
      have HA3 := Lib.hid (attrsF_keeps HA2.out (Keeps.setCell (B := wr.heap.size + 1) X2 (b := wr.heap.size) (by omega) 2 (.slice a2 hd.ats.length c2)))
      generalize X2.setCell ⟨wr.heap.size, 2, none⟩ (.slice a2 hd.ats.length c2) = X3 at *
      have BX3 := hbw.trans (BW3.mono hsw)
      have d6 : X3.cell? ⟨wr.heap.size, 6, none⟩ = some (.slice ak ks.len ck) := cell_of_block k3 rfl
      have KT3 := Lib.hid k3
      clear k3 d2' f2 KT1 KT2 HA2 BW1 BW2 BX1
      go_wp2_with fail
      refine (HC.out X3 BX3).mono ?_
      rintro e X4 ⟨a4, c4, rfl, hL4, hb4⟩
      have BW4 := BW3.trans (hb4.mono BW3.size)
      have k4 := (hb4.block _ hz3').trans KT3.out
      have hz4' : wr.heap.size < X4.heap.size := Nat.lt_of_lt_of_le hz3' hb4.size
      have f6 := frozen_of_block (o := 6) k4
      have d6' : X4.cell? ⟨wr.heap.size, 6, none⟩ = some (.slice ak ks.len ck) := cell_of_block k4 rfl
      have KT4 := Lib.hid k4
      have HA4 := Lib.hid (attrsF_keeps HA3.out (Keeps.of_below (B := wr.heap.size + 1) hb4))
      have HL4 := Lib.hid (liesF_mono (B' := wr.heap.size + 1) (by omega) hL4)
      clear d6 k4 hb4 hL4
      go_upto_region 8 with fail
      have k5 : (X4.setCell ⟨wr.heap.size, 6, none⟩ (.slice a4 ks.len c4)).heap[wr.heap.size]? = some (.cells #[.int .i64 hd.k, .string ⟨hd.l.toArray⟩, .slice a2 hd.ats.length c2, .int .i64 hd.n, .int .i64 hd.d, .string ⟨hd.x.toArray⟩, .slice a4 ks.len c4] 43) := set_block KT4.out
      have BW5 : Below wr.heap.size wr (X4.setCell ⟨wr.heap.size, 6, none⟩ (.slice a4 ks.len c4)) := BW4.setCell (Nat.le_refl _) _
      have hz5' : wr.heap.size < (X4.setCell ⟨wr.heap.size, 6, none⟩ (.slice a4 ks.len c4)).heap.size := by rw [set_size']; exact hz4'
      have HK5 := Keeps.setCell (B := wr.heap.size + 1) X4 (b := wr.heap.size) (by omega) 6 (.slice a4 ks.len c4)
      have HA5 := Lib.hid (attrsF_keeps HA4.out HK5)
      have HL5 := Lib.hid (liesF_keeps HL4.out HK5)
      clear HK5
      generalize X4.setCell ⟨wr.heap.size, 6, none⟩ (.slice a4 ks.len c4) = X5 at *
      have BX5 := hbw.trans (BW5.mono hsw)
      have d0 : X5.cell? ⟨wr.heap.size, 0, none⟩ = some (.int .i64 hd.k) := cell_of_block k5 rfl
      have d1 : X5.cell? ⟨wr.heap.size, 1, none⟩ = some (.string ⟨hd.l.toArray⟩) := cell_of_block k5 rfl
      have d2 : X5.cell? ⟨wr.heap.size, 2, none⟩ = some (.slice a2 hd.ats.length c2) := cell_of_block k5 rfl
      have d3 : X5.cell? ⟨wr.heap.size, 3, none⟩ = some (.int .i64 hd.n) := cell_of_block k5 rfl
      have d4 : X5.cell? ⟨wr.heap.size, 4, none⟩ = some (.int .i64 hd.d) := cell_of_block k5 rfl
      have d5 : X5.cell? ⟨wr.heap.size, 5, none⟩ = some (.string ⟨hd.x.toArray⟩) := cell_of_block k5 rfl
      have d6 : X5.cell? ⟨wr.heap.size, 6, none⟩ = some (.slice a4 ks.len c4) := cell_of_block k5 rfl
      have O5 := Lib.hid (owns_belowV HOWN.out BW5)
      have hnew := World.alloc_heap_new X5 (.cells #[.int .i64 hd.k, .string ⟨hd.l.toArray⟩, .slice a2 hd.ats.length c2, .int .i64 hd.n, .int .i64 hd.d, .string ⟨hd.x.toArray⟩, .slice a4 ks.len c4] 43)
      have hbx5 := BX5.size
      clear k5 d6' f6 KT3 KT4 HA3 HA4 HL4 BW3 BW4 BX3
      go_wp2_with (at_builtin; refine wpList_append_own_at _ rfl _ _ 28 rfl w.heap.size 43 i0 _ 7 104 Tryz.underlying28 hi hz0 hz1 hz2 rfl (by decide) _ k cs rfl (O5.out.alloc _) ⟨X5.heap.size, 0, none⟩ 1 1 (treeCells hd a2 c2 a4 ks.len c4) rfl rfl ?c1 ?c2 ?c3 ?c4 ?c5 ?stop)
      case c1 =>
        intro j u hj
        rw [Go.WideShapes.add_plain]
        exact cell_of_block hnew (by simpa [treeCells] using hj)
      case c2 => intro u hu; simp [treeCells] at hu; rcases hu with rfl | rfl | rfl | rfl | rfl | rfl | rfl <;> rfl
      case c3 => unfold maxLen; omega
      case c4 => omega
      case c5 => simp; omega
      case stop =>
        intro v' w6 hown' hgrow _ hat
        obtain ⟨g', cap', rfl⟩ : ∃ g cap, v' = .slice (some ⟨g, 0, none⟩) (k + 1) cap := by
          rcases hown'.2 with ⟨_, h0⟩ | ⟨g, cap, cur, hv, _⟩
          · omega
          · exact ⟨g, cap, hv⟩
        have hat2 : g' = g ∨ g' = X5.heap.size + 1 := by
          rcases hat with h | h
          · exact .inl (HG.out g' (h.symm.trans rfl))
          · exact .inr (by simpa [Value.ownBlock] using h)
        have hs6 := hgrow.size
        simp at hs6
        have hw5 := BW5.size
        have hcell : ∀ W : World, w6.heap.size ≤ W.heap.size → (∀ k o, w.heap.size ≤ k → k < w6.heap.size → k ≠ g' → W.cell? ⟨k, o, none⟩ = w6.cell? ⟨k, o, none⟩) → ∀ k' o, w.heap.size ≤ k' → k' < X5.heap.size → (∀ j, (Value.slice a k cap).ownBlock = some j → k' ≠ j) → W.cell? ⟨k', o, none⟩ = X5.cell? ⟨k', o, none⟩ := by
          intro W hW hc k' o' h1 h2 h3
          refine (hc k' o' h1 (by omega) ?_).trans (World.cell?_of_block ?_)
          · rcases hat with h | h
            · exact h3 g' (h.symm.trans rfl)
            · have : g' = X5.heap.size + 1 := by simpa [Value.ownBlock] using h
              omega
          · rw [hgrow.block k' (by simp; omega) (by intro h; exact h3 k' h.symm rfl), Below.heap_alloc _ _ k' h2]
        have S6 := Lib.hid (show Stab w.heap.size g' w6 (f.take (k + 1)) (cs ++ treeCells hd a2 c2 a4 ks.len c4) by
          rw [take_snoc HE.out]
          intro W hW hc
          have hcc := hcell W hW hc
          have hk : Keeps (wr.heap.size + 1) X5 W := ⟨by omega, fun k' o' h1 h2 => hcc k' o' (by omega) h2 (fun j hj => by have := (hgl.out j hj).2; omega)⟩
          exact rowL_snoc (attrsF_mono (by omega) (attrsF_keeps HA5.out hk)) (liesF_mono (by omega) (liesF_keeps HL5.out hk)) (f.take k) cs (HST.out W (by omega) fun k' o' h1 h2 h3 => (hcc k' o' h1 (by omega) (fun j hj => by rw [HG.out j hj]; exact h3)).trans ((bcell BW5).1 k' o' h2)))
        have O6 := Lib.hid hown'
        have B6 := Lib.hid ((BX5.alloc hbx5 (.cells #[.int .i64 hd.k, .string ⟨hd.l.toArray⟩, .slice a2 hd.ats.length c2, .int .i64 hd.n, .int .i64 hd.d, .string ⟨hd.x.toArray⟩, .slice a4 ks.len c4] 43)).grown hgrow (by simp; omega) (fun k hk => (hgl.out k hk).1))
        clear hown' hgrow hat hat2 hcell hnew d0 d1 d2 d3 d4 d5 d6
        go_wp2_with fail
        go_roundw
        case rel => exact ⟨k + 1, g', some ⟨g', 0, none⟩, cap', _, by go_num, by omega, rfl, fun b hb => by simpa [Value.ownBlock] using hb.symm, O6.out, S6.out, B6.out⟩
        case measure => simp [intOf]; omega
    · have dk : decide (k < f.len) = false := by simpa using hlt
      obtain rfl : k = f.len := by omega
      have HS := HST.out
      rw [take_all] at HS
      have HS2 := Lib.hid HS
      clear HS
      go_wp2_with fail
      go_ret
      exact ⟨g, a, cap, cs, rfl, HG.out, HOWN.out, HS2.out, hbw⟩

/-- CopyOf, with its row. -/
theorem copyOfS_any (f : Fo) (h1 : f.size ≤ 1000000) (v : Value) (w : World) (hl : Lies w v f) : Calls Tryz.prog 95 #[v] w (CopyRes w f) :=
  copyOfS_of f v w hl (by have := Fo.len_le_size f; omega) (fun hd ks ⟨j, hj, e⟩ v w hk => copyOf_any ks.size ks (Nat.le_refl _) (by have := kid_size e; omega) v w hk)
end Go.Proofs.YtcgedpfolloinaaGreat

namespace Go.Proofs.YtcgedpfolloinaaGreat
open Go.RowKit

/-- a row of its own in block g; what lies behind it lies elsewhere. -/
structure OwnR (B g : Nat) (W : World) (a : Option Addr) (n c : Nat) (f : Fo) (cs : List Value) : Prop where
  hg : ∀ b, (Value.slice a n c).ownBlock = some b → b = g
  own : W.ownsRow B 43 7 (.slice a n c) n cs
  st : Stab B g W f cs
theorem rowL_mono {B B' : Nat} (hB : B' ≤ B) {W : World} : ∀ (f : Fo) (cs : List Value), RowL B W f cs → RowL B' W f cs
  | .nil, _, h => h
  | .cons h ks r, cs, H => by
    obtain ⟨aa, ca, ak, ck, rest, e, ha, hk, hr⟩ := H
    exact ⟨aa, ca, ak, ck, rest, e, attrsF_mono hB ha, liesF_mono hB hk, rowL_mono hB r rest hr⟩
theorem rowL_drop {B : Nat} {W : World} : ∀ (k : Nat) (f : Fo) (cs : List Value), RowL B W f cs → RowL B W (f.drop k) (cs.drop (k * 7))
  | 0, f, cs, h => by simpa [Fo.drop] using h
  | k + 1, .nil, cs, h => by
    rw [show cs = [] from h]
    simp [Fo.drop, RowL]
  | k + 1, .cons h ks r, cs, H => by
    obtain ⟨aa, ca, ak, ck, rest, rfl, ha, hk, hr⟩ := H
    have := rowL_drop k r rest hr
    rw [show (k + 1) * 7 = 7 + k * 7 by omega, List.drop_append, show (treeCells h aa ca ak ks.len ck).drop (7 + k * 7) = [] from List.drop_eq_nil_of_le (by simp [treeCells]), show (treeCells h aa ca ak ks.len ck).length = 7 from rfl, show 7 + k * 7 - 7 = k * 7 by omega]
    simpa [Fo.drop] using this
theorem rowL_one {B : Nat} {W : World} : ∀ (f : Fo) (cs : List Value), RowL B W f cs → ∀ u ∈ cs, u.oneCell' = true
  | .nil, cs, h, u, hu => by rw [show cs = [] from h] at hu; cases hu
  | .cons h ks r, cs, H, u, hu => by
    obtain ⟨aa, ca, ak, ck, rest, rfl, ha, hk, hr⟩ := H
    rcases List.mem_append.1 hu with hu | hu
    · simp [treeCells] at hu; rcases hu with rfl | rfl | rfl | rfl | rfl | rfl | rfl <;> rfl
    · exact rowL_one r rest hr u hu
theorem rowL_set {B : Nat} {W : World} {h : Hd} {ks K : Fo} {a2 : Option Addr} {c2 : Nat} (hK : LiesF B W (.slice a2 K.len c2) K) : ∀ (f : Fo) (cs : List Value) (i : Nat), RowL B W f cs → nth f i = some (h, ks) → RowL B W (setK f i h K) (cs.set (i * 7 + 6) (.slice a2 K.len c2))
  | .nil, _, _, _, e => by cases e
  | .cons h0 k0 r, cs, 0, H, e => by
    simp only [nth, Option.some.injEq, Prod.mk.injEq] at e
    obtain ⟨rfl, rfl⟩ := e
    obtain ⟨aa, ca, ak, ck, rest, rfl, ha, hk, hr⟩ := H
    exact ⟨aa, ca, a2, c2, rest, by simp [treeCells], ha, hK, hr⟩
  | .cons h0 k0 r, cs, i + 1, H, e => by
    obtain ⟨aa, ca, ak, ck, rest, rfl, ha, hk, hr⟩ := H
    have := rowL_set hK r rest i hr e
    refine ⟨aa, ca, ak, ck, rest.set (i * 7 + 6) (.slice a2 K.len c2), ?_, ha, hk, this⟩
    rw [show (i + 1) * 7 + 6 = 7 + (i * 7 + 6) by omega, List.set_append_right _ _ (by simp [treeCells])]
    rw [show (treeCells h0 aa ca ak k0.len ck).length = 7 from rfl, show 7 + (i * 7 + 6) - 7 = i * 7 + 6 by omega]
theorem Stab.mono {B B' g : Nat} (hB : B' ≤ B) {W : World} {f : Fo} {cs : List Value} (h : Stab B g W f cs) : Stab B' g W f cs := fun W' h1 h2 => rowL_mono hB f cs (h W' h1 fun k o a b c => h2 k o (Nat.le_trans hB a) b c)
theorem Stab.app {B g : Nat} {W : World} {f b : Fo} {cs ds : List Value} (h : Stab B g W f cs) (k : Stab B g W b ds) : Stab B g W (f.app b) (cs ++ ds) := fun W' h1 h2 => rowL_app f b cs ds (h W' h1 h2) (k W' h1 h2)
theorem Stab.here {B g : Nat} {W : World} {f : Fo} {cs : List Value} (h : Stab B g W f cs) : RowL B W f cs := h W (Nat.le_refl _) fun _ _ _ _ _ => rfl
theorem own_below {W W' : World} {B n : Nat} {v : Value} {cs : List Value} (h : W.ownsRow B 43 7 v n cs) (k : Below W.heap.size W W') : W'.ownsRow B 43 7 v n cs := by
  refine ⟨h.1, ?_⟩
  rcases h.2 with h2 | ⟨g, cap, cur, e, hb, hg, rest⟩
  · exact .inl h2
  · exact .inr ⟨g, cap, cur, e, hb, (k.block g (Array.getElem?_eq_some_iff.1 hg).1).trans hg, rest⟩
theorem own_mono {W : World} {B B' n : Nat} (hB : B' ≤ B) {v : Value} {cs : List Value} (h : W.ownsRow B 43 7 v n cs) : W.ownsRow B' 43 7 v n cs := by
  refine ⟨h.1, ?_⟩
  rcases h.2 with h2 | ⟨g, cap, cur, e, hb, hg, rest⟩
  · exact .inl h2
  · exact .inr ⟨g, cap, cur, e, Nat.le_trans hB hb, hg, rest⟩
theorem OwnR.below {B g : Nat} {W W' : World} {a : Option Addr} {n c : Nat} {f : Fo} {cs : List Value} (R : OwnR B g W a n c f cs) (k : Below W.heap.size W W') : OwnR B g W' a n c f cs :=
  ⟨R.hg, own_below R.own k, R.st.next k.size (fun x o _ h2 _ => (bcell k).1 x o h2) (.inl rfl)⟩
theorem OwnR.mono {B B' g : Nat} (hB : B' ≤ B) {W : World} {a : Option Addr} {n c : Nat} {f : Fo} {cs : List Value} (R : OwnR B g W a n c f cs) : OwnR B' g W a n c f cs := ⟨R.hg, own_mono hB R.own, R.st.mono hB⟩
theorem OwnR.lies {B g : Nat} {W : World} {a : Option Addr} {n c : Nat} {f : Fo} {cs : List Value} (R : OwnR B g W a n c f cs) (hn : f.len = n) (hl : n ≤ 2000000000000) : LiesF B W (.slice a n c) f := own_lies R.own hn hl R.st.here (Nat.le_refl _)
/-- what an append does to a row. -/
theorem OwnR.append {B g : Nat} {W w' : World} {a : Option Addr} {n c m : Nat} {f b : Fo} {cs ds : List Value} (R : OwnR B g W a n c f cs) (S : Stab B g W b ds) {v' : Value} (hown : w'.ownsRow B 43 7 v' (n + m) (cs ++ ds)) (hgrow : W.grownBy w' (Value.slice a n c).ownBlock)
    (hat : v'.ownBlock = (Value.slice a n c).ownBlock ∨ v'.ownBlock = some W.heap.size) : ∃ g' a' c', v' = .slice a' (n + m) c' ∧ OwnR B g' w' a' (n + m) c' (f.app b) (cs ++ ds) ∧ (g' = g ∨ W.heap.size ≤ g') := by
  have hc : ∀ k o, B ≤ k → k < W.heap.size → k ≠ g → w'.cell? ⟨k, o, none⟩ = W.cell? ⟨k, o, none⟩ := fun k o _ h2 h3 => World.cell?_of_block (w := W) (hgrow.block k h2 (fun e => h3 (R.hg k e.symm)))
  have hsz := hgrow.size
  have hform : ∃ a' c', v' = .slice a' (n + m) c' := by
    rcases hown.2 with ⟨e, h0⟩ | ⟨g', c', cur, e, _⟩
    · exact ⟨none, 0, by rw [e, h0]⟩
    · exact ⟨_, _, e⟩
  obtain ⟨a', c', rfl⟩ := hform
  rcases hat with h | h
  · refine ⟨g, a', c', rfl, ⟨fun b hb => R.hg b (h ▸ hb), hown, (R.st.next hsz hc (.inl rfl)).app (S.next hsz hc (.inl rfl))⟩, .inl rfl⟩
  · refine ⟨W.heap.size, a', c', rfl, ⟨fun b hb => by rw [h] at hb; exact (Option.some.inj hb).symm, hown, (R.st.next hsz hc (.inr (Nat.le_refl _))).app (S.next hsz hc (.inr (Nat.le_refl _)))⟩, .inr (Nat.le_refl _)⟩
/-- a slice that is appended. -/
def Src (W : World) (aO : Option Addr) (m : Nat) (ds : List Value) : Prop :=
  ds.length = m * 7 ∧ (aO = none → m = 0) ∧ (∀ ad, aO = some ad → ∀ j u, ds[j]? = some u → W.cell? (ad.add j) = some u) ∧ ∀ u ∈ ds, u.oneCell' = true
theorem OwnR.src {B g : Nat} {W : World} {a : Option Addr} {n c : Nat} {f : Fo} {cs : List Value} (R : OwnR B g W a n c f cs) : Src W a n cs := by
  refine ⟨R.own.1, ?_, ?_, rowL_one f cs R.st.here⟩
  · rintro rfl
    rcases R.own.2 with ⟨_, h0⟩ | ⟨g', cap, cur, e, _⟩
    · exact h0
    · cases e
  · rintro ad rfl j u hj
    rcases R.own.2 with ⟨e, _⟩ | ⟨g', cap, cur, e, _⟩
    · cases e
    · simp only [Value.slice.injEq, Option.some.injEq, true_and] at e
      obtain ⟨rfl, rfl⟩ := e
      exact R.own.cells (g := g') rfl j u hj
theorem OwnR.dropped {B g : Nat} {W : World} {ad : Addr} {n c : Nat} {f : Fo} {cs : List Value} (R : OwnR B g W (some ad) n c f cs) {k : Nat} (hk : k ≤ n) : Src W (some (ad.add (k * 7))) (n - k) (cs.drop (k * 7)) := by
  obtain ⟨h1, -, h3, h4⟩ := R.src
  refine ⟨by rw [List.length_drop, h1]; omega, fun h => (by cases h), ?_, fun u hu => h4 u (List.mem_of_mem_drop hu)⟩
  rintro ad' e j u hj
  cases e
  rw [List.getElem?_drop] at hj
  have := h3 ad rfl (k * 7 + j) u hj
  rcases R.own.2 with ⟨e, _⟩ | ⟨g', cap, cur, e, _⟩
  · cases e
  · simp only [Value.slice.injEq, Option.some.injEq, true_and] at e
    obtain ⟨rfl, rfl⟩ := e
    rw [Go.WideShapes.add_plain] at this ⊢
    rw [Go.WideShapes.add_plain, Nat.add_assoc]
    exact this
end Go.Proofs.YtcgedpfolloinaaGreat
