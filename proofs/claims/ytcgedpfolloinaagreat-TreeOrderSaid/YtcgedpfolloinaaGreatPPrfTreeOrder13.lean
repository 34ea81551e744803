/- What the proof of PrfTreeOrder rests on, part 13 of 13. -/
import Derived.Deep.Slices
import Derived.Deep.SlicePairs
import Derived.ChangeArms
import Derived.SizedLaws
import Derived.Test.YtcgedpfolloinaaGreatPPrfTreeOrder12
namespace Go.Proofs.YtcgedpfolloinaaGreat
open Go.ChangeShapes Go.WideShapes Go.ChangeAt Go.RowKit Go.Deep

theorem mem_all {H : Type} {P : Program} {e : TypeId} : ∀ {ds : List (DataW H)} {d : DataW H}, d ∈ ds → ∀ n ∈ d.weights P e, n ∈ DataW.weightsAll P e ds
  | d' :: r, d, hd, n, hn => by
    simp only [DataW.weightsAll, List.mem_append]
    rcases List.mem_cons.1 hd with rfl | hd
    · exact .inl hn
    · exact .inr (mem_all hd n hn)
theorem bytesAttr : Tryz.prog.bytesOf 81 = 32 := by kernel_rfl
theorem bytesTree : Tryz.prog.bytesOf 43 = 104 := by kernel_rfl
theorem cellsAttr : Tryz.prog.cellsOf 81 = 2 := by kernel_rfl
theorem cellsHead : Tryz.prog.cellsOf 27 = 6 := by kernel_rfl
theorem cellsTree : Tryz.prog.cellsOf 43 = 7 := by kernel_rfl
theorem cellsNumT : Tryz.prog.cellsOf 25 = 2 := by kernel_rfl
theorem cellsKind : Tryz.prog.cellsOf 22 = 1 := by kernel_rfl
theorem cellsStr : Tryz.prog.cellsOf 9 = 1 := by kernel_rfl
theorem cellsAttrs : Tryz.prog.cellsOf 23 = 1 := by kernel_rfl
theorem cellsTrees : Tryz.prog.cellsOf 28 = 1 := by kernel_rfl
theorem cellsInt : Tryz.prog.cellsOf 3 = 1 := by kernel_rfl
/-- no string, no slice of a datum is larger than memory. -/
def Fits {H : Type} (t : TypeId) (d : DataW H) : Prop := ∀ n ∈ d.weights Tryz.prog t, n ≤ reachBytes
theorem str_list (s : ByteArray) : ∃ l : List UInt8, s = ⟨l.toArray⟩ := ⟨s.data.toList, by cases s; simp⟩
theorem lt_of_cell' {w : World} {b o : Nat} {v : Value} (h : w.cell? ⟨b, o, none⟩ = some v) : b < w.heap.size := by
  by_cases hb : b < w.heap.size
  · exact hb
  · exfalso
    have : w.heap[b]? = none := Array.getElem?_eq_none (by omega)
    unfold World.cell? at h
    simp [this] at h

theorem tfields : ∃ a b, Tryz.prog.underlying 43 = some (.struct #[a, b]) ∧ a.type = 27 ∧ a.offset = 0 ∧ b.type = 28 ∧ b.offset = 6 := ⟨_, _, Tryz.underlying43, rfl, rfl, rfl, rfl⟩
theorem hfields : ∃ a b c d e, Tryz.prog.underlying 27 = some (.struct #[a, b, c, d, e]) ∧ (a.type = 22 ∧ a.offset = 0) ∧ (b.type = 9 ∧ b.offset = 1) ∧ (c.type = 23 ∧ c.offset = 2) ∧ (d.type = 25 ∧ d.offset = 3) ∧ (e.type = 9 ∧ e.offset = 5) :=
  ⟨_, _, _, _, _, Tryz.underlying27, ⟨rfl, rfl⟩, ⟨rfl, rfl⟩, ⟨rfl, rfl⟩, ⟨rfl, rfl⟩, ⟨rfl, rfl⟩⟩
theorem nfields : ∃ a b, Tryz.prog.underlying 25 = some (.struct #[a, b]) ∧ a.type = 3 ∧ a.offset = 0 ∧ b.type = 3 ∧ b.offset = 1 := ⟨_, _, Tryz.underlying25, rfl, rfl, rfl, rfl⟩
theorem afields : ∃ a b, Tryz.prog.underlying 81 = some (.struct #[a, b]) ∧ a.type = 9 ∧ a.offset = 0 ∧ b.type = 9 ∧ b.offset = 1 := ⟨_, _, Tryz.underlying81, rfl, rfl, rfl, rfl⟩

section
variable {H : Type} {enc : TypeId × Value → H} {W : World} {held : Bool}

set_option maxRecDepth 100000 in
theorem attrs_open {fuel : Nat} {v : Value} {x : DataW H × List MemPlace} (h : DataW.trod enc Tryz.prog W 0 (fun _ => true) held fuel 23 [v] = some x) (hf : Fits 23 x.1) : ∃ ats, AttrsLie W v ats := by
  obtain ⟨fa, fb, hu, ta, oa, tb, ob⟩ := afields
  rcases open_slice_pairs Tryz.underlying23 hu cellsAttr oa ob (by rw [ta]; exact cellsStr) (by rw [tb]; exact cellsStr) h with ⟨hcs, hx⟩ | ⟨a, len, cap, m, n, V0, V1, D0, D1, P0, P1, hcs, _, hle, hmax, hm, hx, hi⟩
  · simp at hcs
    subst hcs
    exact ⟨[], .inl ⟨_, _, rfl, rfl⟩⟩
  · simp at hcs
    subst hcs
    simp only [if_true] at hm
    by_cases h0 : len = 0
    · subst h0; exact ⟨[], .inl ⟨_, _, rfl, rfl⟩⟩
    · have hw : (len + (m - len)) * 32 ≤ reachBytes := by
        have := hf ((len + (m - len)) * Tryz.prog.bytesOf 81) (by
          subst hx
          simp only [DataW.weights, Tryz.underlying23]
          simp)
        rwa [bytesAttr] at this
      have hi' : ∀ i, i < len → ∃ x y : List UInt8, W.cell? (a.add (i * 2)) = some (.string ⟨x.toArray⟩) ∧ W.cell? (a.add (i * 2 + 1)) = some (.string ⟨y.toArray⟩) := by
        intro i hl
        obtain ⟨h1, h2, h3, h4⟩ := hi i (by omega)
        rw [ta] at h3
        rw [tb] at h4
        obtain ⟨x, e1, _, _⟩ := DataW.trod_string Tryz.underlying9 h3
        obtain ⟨y, e2, _, _⟩ := DataW.trod_string Tryz.underlying9 h4
        simp only [List.cons.injEq, and_true] at e1 e2
        obtain ⟨x, rfl⟩ := str_list x
        obtain ⟨y, rfl⟩ := str_list y
        exact ⟨x, y, by rw [h1, e1], by rw [h2, e2]⟩
      obtain ⟨b, off, spot⟩ := a
      obtain ⟨x0, y0, c0, _⟩ := hi' 0 (by omega)
      have hspot : spot = none := by simpa [Addr.add] using World.cell?_spot c0
      subst hspot
      have hb : b < W.heap.size := by
        rw [Go.WideShapes.add_plain] at c0
        exact lt_of_cell' c0
      have e : ∀ i, i < len → ∃ q : List UInt8 × List UInt8, W.cell? ⟨b, off + i * 2, none⟩ = some (.string ⟨q.1.toArray⟩) ∧ W.cell? ⟨b, off + i * 2 + 1, none⟩ = some (.string ⟨q.2.toArray⟩) := by
        intro i hl
        obtain ⟨x, y, h1, h2⟩ := hi' i hl
        rw [Go.WideShapes.add_plain] at h1 h2
        exact ⟨(x, y), h1, by rw [Nat.add_assoc]; exact h2⟩
      obtain ⟨q, hq⟩ := choose_lt e
      have hl : ((List.range len).map q).length = len := by simp
      refine ⟨(List.range len).map q, .inr ⟨b, off, cap, by rw [hl], by rw [hl]; exact hle, by rw [hl]; unfold reachBytes at hw; omega, hb, fun k hk => ?_⟩⟩
      have hk' : k < len := by rwa [hl] at hk
      have g : ((List.range len).map q).getD k ([], []) = q k := by
        rw [List.getD_eq_getElem?_getD]; simp [hk']
      rw [g]
      exact hq k hk'

set_option maxRecDepth 100000 in
theorem head_open {fuel : Nat} {cs : List Value} {x : DataW H × List MemPlace} (h : DataW.trod enc Tryz.prog W 0 (fun _ => true) held fuel 27 cs = some x) (hf : Fits 27 x.1) :
    ∃ (hd : Hd) (va : Value), cs = [.int .i64 hd.k, .string ⟨hd.l.toArray⟩, va, .int .i64 hd.n, .int .i64 hd.d, .string ⟨hd.x.toArray⟩] ∧ AttrsLie W va hd.ats := by
  obtain ⟨fa, fb, fc, fd, fe, hu, ⟨ta, oa⟩, ⟨tb, ob⟩, ⟨tc, oc⟩, ⟨td, od⟩, te, oe⟩ := hfields
  obtain ⟨xs, n, _, hx, hlen, hxl, hi⟩ := DataW.trod_struct hu h
  rw [cellsHead] at hlen
  obtain ⟨c0, c1, c2, c3, c4, c5, rfl⟩ : ∃ c0 c1 c2 c3 c4 c5, cs = [c0, c1, c2, c3, c4, c5] := by
    match cs, hlen with
    | [c0, c1, c2, c3, c4, c5], _ => exact ⟨c0, c1, c2, c3, c4, c5, rfl⟩
  obtain ⟨x0, x1, x2, x3, x4, rfl⟩ : ∃ x0 x1 x2 x3 x4, xs = [x0, x1, x2, x3, x4] := by
    match xs, hxl with
    | [x0, x1, x2, x3, x4], _ => exact ⟨x0, x1, x2, x3, x4, rfl⟩
  have i0 := hi 0 fa rfl
  have i1 := hi 1 fb rfl
  have i2 := hi 2 fc rfl
  have i3 := hi 3 fd rfl
  have i4 := hi 4 fe rfl
  rw [ta, oa, cellsKind] at i0
  rw [tb, ob, cellsStr] at i1
  rw [tc, oc, cellsAttrs] at i2
  rw [td, od, cellsNumT] at i3
  rw [te, oe, cellsStr] at i4
  simp at i0 i1 i2 i3 i4
  obtain ⟨k, e0, _, _⟩ := DataW.trod_int Tryz.underlying22 i0
  obtain ⟨l, e1, _, _⟩ := DataW.trod_string Tryz.underlying9 i1
  obtain ⟨t, e4, _, _⟩ := DataW.trod_string Tryz.underlying9 i4
  obtain ⟨ats, ha⟩ := attrs_open i2 (fun m hm => hf m (by
    subst hx
    simp only [DataW.weights, hu]
    refine DataW.weights_mem_each (j := 2) (t := 23) (d := x2.1) (by simp [tc]) (by simp) m hm))
  obtain ⟨na, nb, hun, tna, ona, tnb, onb⟩ := nfields
  obtain ⟨ys, n2, _, _, _, hyl, hj⟩ := DataW.trod_struct hun i3
  obtain ⟨y0, y1, rfl⟩ : ∃ y0 y1, ys = [y0, y1] := by
    match ys, hyl with
    | [y0, y1], _ => exact ⟨y0, y1, rfl⟩
  have j0 := hj 0 na rfl
  have j1 := hj 1 nb rfl
  rw [tna, ona, cellsInt] at j0
  rw [tnb, onb, cellsInt] at j1
  simp at j0 j1
  obtain ⟨n', g0, _, _⟩ := DataW.trod_int Tryz.underlying3 j0
  obtain ⟨d', g1, _, _⟩ := DataW.trod_int Tryz.underlying3 j1
  simp only [List.cons.injEq, and_true] at e0 e1 e4 g0 g1
  obtain ⟨l, rfl⟩ := str_list l
  obtain ⟨t, rfl⟩ := str_list t
  exact ⟨⟨k, l, ats, n', d', t⟩, c2, by rw [e0, e1, e4, g0, g1], ha⟩

def foOf : List (Hd × Fo) → Fo
  | [] => .nil
  | x :: r => .cons x.1 x.2 (foOf r)
theorem foOf_len : ∀ l : List (Hd × Fo), (foOf l).len = l.length
  | [] => rfl
  | x :: r => by simp only [foOf, Fo.len, List.length_cons, foOf_len r]
theorem foOf_row {b : Nat} : ∀ (l : List (Hd × Fo)) (o : Nat), (∀ k (hk : k < l.length), HdAt W (l[k]).1 b (o + k * 7) ∧ ∃ v, W.cell? ⟨b, o + k * 7 + 6, none⟩ = some v ∧ Lies W v (l[k]).2) → RowAt W (foOf l) b o
  | [], _, _ => trivial
  | x :: r, o, hk => by
    have h0 := hk 0 (by simp)
    simp only [Nat.zero_mul, Nat.add_zero, List.getElem_cons_zero] at h0
    refine rowAt_cons.2 ⟨h0.1, h0.2, foOf_row r (o + 7) fun k h => ?_⟩
    have := hk (k + 1) (by simpa using h)
    simp only [List.getElem_cons_succ] at this
    rw [show o + (k + 1) * 7 = o + 7 + k * 7 by omega] at this
    exact this
instance : Inhabited (Hd × Fo) := ⟨(⟨0, [], [], 0, 0, []⟩, .nil)⟩

set_option maxRecDepth 100000 in
theorem trees_open : ∀ (fuel : Nat) {v : Value} {x : DataW H × List MemPlace}, DataW.trod enc Tryz.prog W 0 (fun _ => true) held fuel 28 [v] = some x → Fits 28 x.1 → ∃ f, Lies W v f
  | 0, v, x, h, _ => by simp [DataW.trod] at h
  | 1, v, x, h, hf => by
    rcases DataW.trod_slice Tryz.underlying28 h with ⟨hcs, _⟩ | ⟨a, len, cap, elems, rest, n, hn, hcs, hx, _, hle, hmax, hlen, hel, hsp, _⟩
    · simp at hcs; subst hcs; exact ⟨.nil, .inl ⟨_, _, rfl, rfl⟩⟩
    · simp at hcs
      subst hcs
      obtain rfl : n = 0 := by omega
      cases len with
      | zero => exact ⟨.nil, .inl ⟨_, _, rfl, rfl⟩⟩
      | succ len =>
        have h0 := hel 0 (by omega)
        rw [List.getElem?_eq_getElem (by omega)] at h0
        obtain ⟨cs', _, h2⟩ := Option.bind_eq_some_iff.1 h0
        simp [DataW.trod] at h2
  | fuel + 2, v, x, h, hf => by
    rcases DataW.trod_slice Tryz.underlying28 h with ⟨hcs, _⟩ | ⟨a, len, cap, elems, rest, n, hn, hcs, hx, _, hle, hmax, hlen, hel, hsp, _⟩
    · simp at hcs; subst hcs; exact ⟨.nil, .inl ⟨_, _, rfl, rfl⟩⟩
    · simp at hcs
      subst hcs
      obtain rfl : n = fuel + 1 := by omega
      by_cases h0 : len = 0
      · subst h0; exact ⟨.nil, .inl ⟨_, _, rfl, rfl⟩⟩
      · have hw : (elems.length + rest.length) * 104 ≤ reachBytes := by
          have := hf ((elems.length + rest.length) * Tryz.prog.bytesOf 43) (by
            subst hx
            simp only [DataW.weights, Tryz.underlying28]
            simp)
          rwa [bytesTree] at this
        have hi' : ∀ i, i < len → ∃ q : Hd × Fo, (∃ va, W.cell? (a.add (i * 7)) = some (.int .i64 q.1.k) ∧ W.cell? (a.add (i * 7 + 1)) = some (.string ⟨q.1.l.toArray⟩) ∧ W.cell? (a.add (i * 7 + 2)) = some va ∧ AttrsLie W va q.1.ats ∧
            W.cell? (a.add (i * 7 + 3)) = some (.int .i64 q.1.n) ∧ W.cell? (a.add (i * 7 + 4)) = some (.int .i64 q.1.d) ∧ W.cell? (a.add (i * 7 + 5)) = some (.string ⟨q.1.x.toArray⟩)) ∧ ∃ vk, W.cell? (a.add (i * 7 + 6)) = some vk ∧ Lies W vk q.2 := by
          intro i hl
          have hi := hel i hl
          rw [cellsTree, List.getElem?_eq_getElem (by omega)] at hi
          obtain ⟨cs', hc, ht⟩ := Option.bind_eq_some_iff.1 hi
          obtain ⟨_, hcl, hcc⟩ := World.cells?_some hc
          obtain ⟨fa, fb, hu, ta, oa, tb, ob⟩ := tfields
          obtain ⟨xs, m, hm, hxx, _, hxl, hj⟩ := DataW.trod_struct hu ht
          obtain rfl : m = fuel := by omega
          obtain ⟨x0, x1, rfl⟩ : ∃ x0 x1, xs = [x0, x1] := by
            match xs, hxl with
            | [x0, x1], _ => exact ⟨x0, x1, rfl⟩
          obtain ⟨c0, c1, c2, c3, c4, c5, c6, rfl⟩ : ∃ c0 c1 c2 c3 c4 c5 c6, cs' = [c0, c1, c2, c3, c4, c5, c6] := by
            match cs', hcl with
            | [c0, c1, c2, c3, c4, c5, c6], _ => exact ⟨c0, c1, c2, c3, c4, c5, c6, rfl⟩
          have j0 := hj 0 fa rfl
          have j1 := hj 1 fb rfl
          rw [ta, oa, cellsHead] at j0
          rw [tb, ob, cellsTrees] at j1
          simp at j0 j1
          have hfit : Fits 43 (elems[i]).1 := fun n hn => hf n (by
            subst hx
            simp only [DataW.weights, Tryz.underlying28, List.mem_cons, List.mem_append]
            exact .inr (.inl (mem_all (by simp; exact ⟨_, List.getElem_mem _⟩) n hn)))
          rw [hxx] at hfit
          have hf0 : Fits 27 x0.1 := fun n hn => hfit n (by
            simp only [DataW.weights, hu]
            exact DataW.weights_mem_each (j := 0) (t := 27) (d := x0.1) (by simp [ta]) (by simp) n hn)
          have hf1 : Fits 28 x1.1 := fun n hn => hfit n (by
            simp only [DataW.weights, hu]
            exact DataW.weights_mem_each (j := 1) (t := 28) (d := x1.1) (by simp [tb]) (by simp) n hn)
          obtain ⟨hd, va, e, ha⟩ := head_open j0 hf0
          obtain ⟨ks, hk⟩ := trees_open m j1 hf1
          have g : ∀ k (hk : k < 7) u, [c0, c1, c2, c3, c4, c5, c6][k]? = some u → W.cell? (a.add (i * 7 + k)) = some u := fun k hk u hu => by
            rw [← Go.Deep.add_add]; exact (hcc k hk).trans hu
          simp only [List.cons.injEq, and_true] at e
          obtain ⟨rfl, rfl, rfl, rfl, rfl, rfl⟩ := e
          exact ⟨(hd, ks), ⟨c2, g 0 (by omega) _ rfl, g 1 (by omega) _ rfl, g 2 (by omega) _ rfl, ha, g 3 (by omega) _ rfl, g 4 (by omega) _ rfl, g 5 (by omega) _ rfl⟩, c6, g 6 (by omega) _ rfl, hk⟩
        obtain ⟨b, off, spot⟩ := a
        have hspot : spot = none := by
          obtain ⟨q, ⟨va, c0, _⟩, _⟩ := hi' 0 (by omega)
          simpa [Addr.add] using World.cell?_spot c0
        subst hspot
        obtain ⟨q, hq⟩ := choose_lt hi'
        have hb : b < W.heap.size := by
          obtain ⟨⟨va, c0, _⟩, _⟩ := hq 0 (by omega)
          rw [Go.WideShapes.add_plain] at c0
          exact lt_of_cell' c0
        have hl : (foOf ((List.range len).map q)).len = len := by rw [foOf_len]; simp
        refine ⟨foOf ((List.range len).map q), .inr ⟨b, off, cap, by rw [hl], by rw [hl]; exact hle, by rw [hl]; unfold reachBytes at hw; omega, hb, foOf_row _ off fun k hk => ?_⟩⟩
        have hk' : k < len := by simpa using hk
        obtain ⟨⟨va, c0, c1, c2, ha, c3, c4, c5⟩, vk, c6, hk6⟩ := hq k hk'
        rw [Go.WideShapes.add_plain] at c0 c1 c2 c3 c4 c5 c6
        simp only [List.getElem_map, List.getElem_range]
        exact ⟨⟨c0, by rw [Nat.add_assoc]; exact c1, ⟨va, by rw [Nat.add_assoc]; exact c2, ha⟩, by rw [Nat.add_assoc]; exact c3, by rw [Nat.add_assoc]; exact c4, by rw [Nat.add_assoc]; exact c5⟩, vk, by rw [Nat.add_assoc]; exact c6, hk6⟩
end
end Go.Proofs.YtcgedpfolloinaaGreat
