/- What the proof of PrfTreeTurned rests on, part 10 of 10. -/
import Derived.Deep.Slices
import Derived.Deep.SlicePairs
import Derived.ChangeArms
import Derived.SizedLaws
import Derived.Test.YtcgedpfolloinaaGreatPPrfTreeTurned9
namespace Go.Proofs.YtcgedpfolloinaaGreat
open Go.RowKit

theorem attrs_ok2 : ∀ (l : List (List UInt8 × List UInt8)) (b : List UInt8), attrsErr b l = 0 → ∀ q ∈ l, q.1.length ≤ 60 ∧ q.2.length ≤ 60
  | [], _, _, q, hq => by cases hq
  | (n, v) :: r, b, e, q, hq => by
    rw [attrsErr] at e
    by_cases h1 : namedB n = false
    · rw [if_pos h1] at e; cases e
    · rw [if_neg h1] at e
      by_cases h2 : leB n b = true
      · rw [if_pos h2] at e; cases e
      · rw [if_neg h2] at e
        by_cases h3 : printableB v 12 = false
        · rw [if_pos h3] at e; cases e
        · rw [if_neg h3] at e
          rcases List.mem_cons.1 hq with rfl | hq
          · simp only [Bool.not_eq_false] at h1 h3
            unfold namedB at h1
            unfold printableB at h3
            simp only [Bool.and_eq_true, decide_eq_true_eq] at h1 h3
            simp only
            omega
          · exact attrs_ok2 r n e q hq
theorem hdN_ok {h : Hd} (e : headErr h = 0) : hdN 60 h := by
  unfold headErr at e
  by_cases hs : strayB h = true
  · rw [if_pos hs] at e; cases e
  · rw [if_neg hs] at e
    by_cases h1 : h.k = 1
    · unfold strayB at hs
      rw [if_neg (by omega), if_pos h1] at hs
      simp only [Bool.or_eq_true, Bool.not_eq_true', decide_eq_false_iff_not, not_or, Decidable.not_not] at hs
      obtain ⟨hx, hl, ha⟩ := hs
      exact ⟨by rw [hl]; simp, by rw [hx]; simp, fun q hq => by rw [ha] at hq; cases hq⟩
    · rw [if_neg h1] at e
      by_cases h2 : h.k = 2
      · rw [if_pos h2] at e
        unfold strayB at hs
        rw [if_neg (by omega), if_neg h1, if_pos h2] at hs
        simp only [Bool.or_eq_true, Bool.not_eq_true', decide_eq_false_iff_not, not_or, Decidable.not_not] at hs
        obtain ⟨-, hl, ha⟩ := hs
        refine ⟨by rw [hl]; simp, ?_, fun q hq => by rw [ha] at hq; cases hq⟩
        by_cases hp : printableB h.x 24 = true
        · unfold printableB at hp
          simp only [Bool.and_eq_true, decide_eq_true_eq] at hp
          omega
        · rw [if_neg hp] at e; cases e
      · rw [if_neg h2] at e
        unfold strayB at hs
        by_cases h0 : h.k = 0
        · rw [if_pos h0] at hs
          simp only [Bool.or_eq_true, Bool.not_eq_true', decide_eq_false_iff_not, not_or, Decidable.not_not] at hs
          obtain ⟨-, hx⟩ := hs
          unfold elemErr at e
          by_cases hn : namedB h.l = false
          · rw [if_pos hn] at e; cases e
          · rw [if_neg hn] at e
            by_cases h3 : 3 < h.ats.length
            · rw [if_pos h3] at e; cases e
            · rw [if_neg h3] at e
              refine ⟨?_, by rw [hx]; simp, attrs_ok2 _ _ e⟩
              simp only [Bool.not_eq_false] at hn
              unfold namedB at hn
              simp only [Bool.and_eq_true, decide_eq_true_eq] at hn
              omega
        · rw [if_neg h0, if_neg h1, if_neg h2] at hs
          exact absurd rfl hs
theorem foN_ok : ∀ {f : Fo}, headsErr f = 0 → foN 60 f
  | .nil, _ => trivial
  | .cons h ks r, e => by
    obtain ⟨h1, -, h3, h4⟩ := heads_zero.1 e
    exact ⟨hdN_ok h1, foN_ok h3, foN_ok h4⟩
/-- what is valid is small. -/
theorem small_ok {f : Fo} (h : foErr f = 0) : Small f := by
  obtain ⟨h1, -, h3⟩ := fo_zero.1 h
  exact small_foN (N := 100000) (Nat.le_refl _) (by omega) (foN_mono (by omega) (foN_ok h3))
/- parts. -/
theorem nth_size : ∀ {f : Fo} {j : Nat} {h : Hd} {ks : Fo}, nth f j = some (h, ks) → ks.size + 1 ≤ f.size
  | .nil, _, _, _, e => by cases e
  | .cons _ _ _, 0, h, ks, e => by simp only [nth, Option.some.injEq, Prod.mk.injEq] at e; obtain ⟨rfl, rfl⟩ := e; simp only [Fo.size]; omega
  | .cons _ _ r, j + 1, h, ks, e => by have := nth_size (f := r) e; simp only [Fo.size]; omega
theorem nth_deep : ∀ {f : Fo} {j : Nat} {h : Hd} {ks : Fo}, nth f j = some (h, ks) → ks.deep + 1 ≤ f.deep
  | .nil, _, _, _, e => by cases e
  | .cons _ _ _, 0, h, ks, e => by simp only [nth, Option.some.injEq, Prod.mk.injEq] at e; obtain ⟨rfl, rfl⟩ := e; simp only [Fo.deep]; omega
  | .cons _ _ r, j + 1, h, ks, e => by have := nth_deep (f := r) e; simp only [Fo.deep]; omega
theorem nth_heads : ∀ {f : Fo} {j : Nat} {h : Hd} {ks : Fo}, nth f j = some (h, ks) → headsErr f = 0 → headErr h = 0 ∧ ¬ (h.k ≠ 0 ∧ ks.len ≠ 0) ∧ headsErr ks = 0
  | .nil, _, _, _, e, _ => by cases e
  | .cons _ _ _, 0, h, ks, e, z => by
    simp only [nth, Option.some.injEq, Prod.mk.injEq] at e; obtain ⟨rfl, rfl⟩ := e
    obtain ⟨h1, h2, h3, -⟩ := heads_zero.1 z
    exact ⟨h1, h2, h3⟩
  | .cons _ _ r, j + 1, h, ks, e, z => nth_heads (f := r) e (heads_zero.1 z).2.2.2
theorem place_part : ∀ (p : List Nat) {f : Fo} {h : Hd} {ks : Fo}, placeF f (pathInts p) = some (h, ks) → headsErr f = 0 → (ks.size + 1 ≤ f.size ∧ ks.deep + 1 ≤ f.deep) ∧ headErr h = 0 ∧ ¬ (h.k ≠ 0 ∧ ks.len ≠ 0) ∧ headsErr ks = 0
  | [], f, h, ks, e, _ => by cases f <;> cases e
  | j :: p, f, h, ks, e, z => by
    rw [place_nth] at e
    cases hn : nth f j with
    | none => rw [hn] at e; cases e
    | some x =>
      obtain ⟨h', ks'⟩ := x
      rw [hn] at e
      have s1 := nth_size hn
      have s2 := nth_deep hn
      have s3 := nth_heads hn z
      cases p with
      | nil =>
        simp only [if_true, Option.some.injEq, Prod.mk.injEq] at e
        obtain ⟨rfl, rfl⟩ := e
        exact ⟨⟨s1, s2⟩, s3⟩
      | cons a p =>
        have e' : placeF ks' (pathInts (a :: p)) = some (h, ks) := by simpa using e
        have := place_part (a :: p) e' s3.2.2
        exact ⟨⟨by omega, by omega⟩, this.2⟩
/-- a tree of a valid forest, alone. -/
theorem one_ok {p : List Nat} {f : Fo} {h : Hd} {ks : Fo} (e : placeF f (pathInts p) = some (h, ks)) (z : foErr f = 0) : foErr (.cons h ks .nil) = 0 := by
  obtain ⟨z1, z2, z3⟩ := fo_zero.1 z
  obtain ⟨⟨s1, s2⟩, s3, s4, s5⟩ := place_part p e z3
  refine fo_zero.2 ⟨?_, ?_, heads_zero.2 ⟨s3, s4, s5, rfl⟩⟩
  · simp only [Fo.size]; omega
  · simp only [Fo.deep]; omega
theorem app_ok {f g : Fo} (h1 : foErr f = 0) (h2 : foErr g = 0) : concatV f g = inBnd (f.app g) := by
  unfold concatV
  rw [h1, h2]; rfl
/-- the forest of both is valid, or too large. -/
theorem app_bnd {f g : Fo} (h1 : foErr f = 0) (h2 : foErr g = 0) : (bndErr (f.app g) = 0 ∧ foErr (f.app g) = 0) ∨ bndErr (f.app g) = 4 := by
  obtain ⟨a1, a2, a3⟩ := fo_zero.1 h1
  obtain ⟨b1, b2, b3⟩ := fo_zero.1 h2
  by_cases hb : 400 < (f.app g).size
  · right; unfold bndErr; rw [if_pos hb]
  · left
    have hd : (f.app g).deep ≤ 40 := by rw [deep_app]; omega
    exact ⟨by unfold bndErr; rw [if_neg hb, if_neg (by omega)], fo_zero.2 ⟨by omega, hd, heads_app2.2 ⟨a3, b3⟩⟩⟩
theorem turn_val {f : Fo} (h : foErr f = 0) : turnV f = (turnF f, 0) := by unfold turnV; rw [if_pos h]
theorem deep_val2 {f : Fo} (h : foErr f = 0) : deepT f = ((f.deep : Int), 0) := by unfold deepT; rw [if_pos h]
end Go.Proofs.YtcgedpfolloinaaGreat

namespace Go.Proofs.YtcgedpfolloinaaGreat
open Go.RowKit

theorem all2_append {α β : Type} {R : α → β → Prop} : ∀ {l l2 : List α} {m m2 : List β}, All2 R l m → All2 R l2 m2 → All2 R (l ++ l2) (m ++ m2)
  | _, _, _, _, .nil, h => h
  | _, _, _, _, .cons h1 h2, h => .cons h1 (all2_append h2 h)
theorem all2_len {α β : Type} {R : α → β → Prop} : ∀ {l : List α} {m : List β}, All2 R l m → m.length = l.length
  | _, _, .nil => rfl
  | _, _, .cons _ h => by simp [all2_len h]
/-- a row of paths that is owned. -/
def PathsO (B : Nat) (W : World) (v : Value) (ps : List (List Nat)) : Prop := ∃ cs, W.ownsRow B 41 1 v ps.length cs ∧ All2 (PathAt B W) ps cs
def StabP (B g : Nat) (W0 : World) (ps : List (List Nat)) (cs : List Value) : Prop :=
  ∀ W : World, W0.heap.size ≤ W.heap.size → (∀ k o, B ≤ k → k < W0.heap.size → k ≠ g → W.cell? ⟨k, o, none⟩ = W0.cell? ⟨k, o, none⟩) → All2 (PathAt B W) ps cs
theorem StabP.next {B g g' : Nat} {W0 W1 : World} {ps : List (List Nat)} {cs : List Value} (h : StabP B g W0 ps cs) (hs : W0.heap.size ≤ W1.heap.size) (hc : ∀ k o, B ≤ k → k < W0.heap.size → k ≠ g → W1.cell? ⟨k, o, none⟩ = W0.cell? ⟨k, o, none⟩) (hg : g' = g ∨ W0.heap.size ≤ g') :
    StabP B g' W1 ps cs := fun W hW hk => h W (Nat.le_trans hs hW) fun k o h1 h2 h3 => (hk k o h1 (Nat.lt_of_lt_of_le h2 hs) (by rcases hg with rfl | hg; exact h3; omega)).trans (hc k o h1 h2 h3)
/-- what an append leaves as it was. -/
theorem grown_cells {X w5 : World} {v : Value} {n cap' g' x B : Nat} {o : Obj} (hgrow : (X.alloc o).grownBy w5 v.ownBlock) (hat : (Value.slice (some ⟨g', 0, none⟩) n cap').ownBlock = v.ownBlock ∨ (Value.slice (some ⟨g', 0, none⟩) n cap').ownBlock = some x) (hx : X.heap.size ≤ x) :
    ∀ W : World, w5.heap.size ≤ W.heap.size → (∀ k o, B ≤ k → k < w5.heap.size → k ≠ g' → W.cell? ⟨k, o, none⟩ = w5.cell? ⟨k, o, none⟩) → ∀ k' o, B ≤ k' → k' < X.heap.size → (∀ j, v.ownBlock = some j → k' ≠ j) → W.cell? ⟨k', o, none⟩ = X.cell? ⟨k', o, none⟩ := by
  intro W hW hc k' o' h1 h2 h3
  have hs := hgrow.size
  simp at hs
  refine (hc k' o' h1 (by omega) ?_).trans (World.cell?_of_block ?_)
  · rcases hat with h | h
    · exact h3 g' (h.symm.trans rfl)
    · have : g' = x := by simpa [Value.ownBlock] using h
      omega
  · rw [hgrow.block k' (by simp; omega) (by intro h; exact h3 k' h.symm rfl), Below.heap_alloc _ _ k' h2]
theorem grown_cells' {X w5 : World} {v : Value} {n cap' g' x B : Nat} (hgrow : X.grownBy w5 v.ownBlock) (hat : (Value.slice (some ⟨g', 0, none⟩) n cap').ownBlock = v.ownBlock ∨ (Value.slice (some ⟨g', 0, none⟩) n cap').ownBlock = some x) (hx : X.heap.size ≤ x) :
    ∀ W : World, w5.heap.size ≤ W.heap.size → (∀ k o, B ≤ k → k < w5.heap.size → k ≠ g' → W.cell? ⟨k, o, none⟩ = w5.cell? ⟨k, o, none⟩) → ∀ k' o, B ≤ k' → k' < X.heap.size → (∀ j, v.ownBlock = some j → k' ≠ j) → W.cell? ⟨k', o, none⟩ = X.cell? ⟨k', o, none⟩ := by
  intro W hW hc k' o' h1 h2 h3
  have hs := hgrow.size
  refine (hc k' o' h1 (by omega) ?_).trans (World.cell?_of_block ?_)
  · rcases hat with h | h
    · exact h3 g' (h.symm.trans rfl)
    · have : g' = x := by simpa [Value.ownBlock] using h
      omega
  · rw [hgrow.block k' h2 (by intro h; exact h3 k' h.symm rfl)]
theorem pathAt_of {B : Nat} {W : World} {a : Option Addr} {c : Nat} {p : List Nat} {k : Nat} (h : IntsF B W (.slice a (p.length + 1) c) (pathInts p ++ [(k : Int)])) : PathAt B W (p ++ [k]) (.slice a (p.length + 1) c) :=
  ⟨a, c, by simp, by simpa using h⟩
abbrev psK (p : List Nat) (f : Fo) (k : Nat) : List (List Nat) := (seqAt p 0 (f.take k)).map (·.p)
theorem psK_succ {p : List Nat} {f : Fo} {k : Nat} {h : Hd} {ks r : Fo} (e : f.drop k = .cons h ks r) : psK p f (k + 1) = (psK p f k ++ [p ++ [k]]) ++ (seqAt (p ++ [k]) 0 ks).map (·.p) := by
  unfold psK
  rw [seqAt_take_succ p 0 e]
  simp

set_option maxRecDepth 100000 in
set_option maxHeartbeats 8000000 in
theorem pathsOf_of (f : Fo) (p : List Nat) (v pv : Value) (w : World) (hl : Lies w v f) (hp : IntsLie w pv (pathInts p)) (hpl : p.length + f.size ≤ 1000000)
    (HT : ∀ hd ks k, k < f.len → f.drop k = .cons hd ks (f.drop (k + 1)) → ∀ v pv w, Lies w v ks → IntsLie w pv (pathInts (p ++ [k])) → Calls Tryz.prog 100 #[v, pv] w fun e w' => ∃ a c, e = .returned (.slice a ((seqAt (p ++ [k]) 0 ks).map (·.p)).length c) ∧ PathsO w.heap.size w' (.slice a ((seqAt (p ++ [k]) 0 ks).map (·.p)).length c) ((seqAt (p ++ [k]) 0 ks).map (·.p)) ∧ Below w.heap.size w w') :
    Calls Tryz.prog 100 #[v, pv] w fun e w' => ∃ a c, e = .returned (.slice a ((seqAt p 0 f).map (·.p)).length c) ∧ PathsO w.heap.size w' (.slice a ((seqAt p 0 f).map (·.p)).length c) ((seqAt p 0 f).map (·.p)) ∧ Below w.heap.size w w' := by
  obtain ⟨i0, hi, hz0, hz1, hz2⟩ := info_parts info_ints2
  have hlen := lies_len hl
  have hlf := Fo.len_le_size f
  have HL := Lib.hid hl
  have HP := Lib.hid hp
  have HT' := Lib.hid HT
  have BL := Lib.hid (fun (k : Nat) W (hW : Below w.heap.size w W) => below_any pv (pathInts p) (k : Int) W (ints_below hp hW) (by simp; omega))
  have HK := Lib.hid (show ∀ k, (psK p f k).length ≤ f.size from fun k => by
    have h1 : (psK p f k).length = (f.take k).size := by unfold psK; rw [List.length_map, seqAt_len]
    have h2 := congrArg Fo.size (Fo.take_app_drop k f)
    rw [Fo.size_app] at h2
    omega)
  obtain ⟨av, cv, rfl⟩ := lies_form hl
  obtain ⟨pa, pc, rfl⟩ := ints_form hp
  simp only [List.length_map] at BL HP
  clear hl hp HT
  go_enter Tryz.func100, Tryz.ntmps100
  go_wp2_with fail
  go_loopw [5, 6] (fun v5 i wr => ∃ (k g : Nat) (a : Option Addr) (cap : Nat) (cs : List Value), i = .int .i64 k ∧ k ≤ f.len ∧ v5 = .slice a (psK p f k).length cap ∧ (∀ b, (Value.slice a (psK p f k).length cap).ownBlock = some b → b = g) ∧ wr.ownsRow w.heap.size 41 1 (.slice a (psK p f k).length cap) (psK p f k).length cs ∧ StabP w.heap.size g wr (psK p f k) cs ∧ Below w.heap.size w wr) (fun _ i _ => f.len - (intOf i).toNat)
  case atStart =>
    have h0 : psK p f 0 = [] := by unfold psK; cases f <;> rfl
    refine ⟨0, 0, none, 0, [], rfl, Nat.zero_le _, by rw [h0]; rfl, fun b hb => by simp [Value.ownBlock] at hb, by rw [h0]; exact ⟨rfl, .inl ⟨rfl, rfl⟩⟩, ?_, Below.refl _ _⟩
    intro W _ _
    rw [h0]
    exact .nil
  case round =>
    obtain ⟨k, g, a, cap, cs, rfl, hk, rfl, hg, hown, hst, hbw⟩ := hrel
    have hsw := hbw.size
    have HOWN := Lib.hid hown
    have HST := Lib.hid hst
    have HG := Lib.hid hg
    have hgl := Lib.hid (fun b (hb : (Value.slice a (psK p f k).length cap).ownBlock = some b) => hown.lt b hb)
    clear hown hst hg
    have hpk := HK.out k
    by_cases hlt : k < f.len
    · have dk : decide (k < f.len) = true := by simpa using hlt
      obtain ⟨b, o, cap0, hs, hcap, -, hb, hrow⟩ := lies_row HL.out (by omega)
      simp only [Value.slice.injEq] at hs
      obtain ⟨rfl, -, rfl⟩ := hs
      obtain ⟨hd, ks, e, -, vk, q6, hlk⟩ := row_get hrow hlt
      obtain ⟨ak, ck, rfl⟩ := lies_form hlk
      have HE := Lib.hid (psK_succ (p := p) e)
      have HC := Lib.hid (fun pv W (hW : Below w.heap.size w W) hp => HT'.out hd ks k hlt e _ pv W (lies_below hlk hW) hp)
      have hkq : ((seqAt (p ++ [k]) 0 ks).map (·.p)).length ≤ f.size := by
        have := HK.out (k + 1)
        rw [HE.out] at this
        simp only [List.length_append] at this
        omega
      generalize (seqAt (p ++ [k]) 0 ks).map (·.p) = qs at *
      clear hlk e hrow HT'
      generalize hps : psK p f k = ps at *
      clear hps
      go_wp2_with fail
      refine (BL.out k wr hbw).mono ?_
      rintro e X1 ⟨a1, c1, rfl, hi1, hb1⟩
      have HI1 := Lib.hid hi1
      have hs1 := hb1.size
      have O1 := Lib.hid (owns_belowV HOWN.out hb1)
      have B1 := hbw.trans (hb1.mono hsw)
      have hnew := World.alloc_heap_new X1 (.cells #[.slice a1 (p.length + 1) c1] 41)
      have hbx1 := B1.size
      have C1 := Lib.hid ((bcell hb1).1)
      clear hi1 hb1
      go_upto_region 6 with fail
      go_wp2_with (at_builtin; refine wpList_append_own_at _ rfl _ _ 49 rfl w.heap.size 41 i0 _ 1 24 Tryz.underlying49 hi hz0 hz1 hz2 rfl (by decide) _ ps.length cs rfl (O1.out.alloc _) ⟨X1.heap.size, 0, none⟩ 1 1 [.slice a1 (p.length + 1) c1] rfl rfl ?c1 ?c2 ?c3 ?c4 ?c5 ?stop)
      case c1 =>
        intro j u hj
        rw [Go.WideShapes.add_plain]
        cases j with
        | zero => simp at hj; subst hj; exact cell_of_block hnew rfl
        | succ j => simp at hj
      case c2 => intro u hu; simp at hu; subst hu; rfl
      case c3 => unfold maxLen; omega
      case c4 => omega
      case c5 => simp; omega
      case stop =>
        intro v' w3 hown' hgrow _ hat
        obtain ⟨g', cap', rfl⟩ : ∃ g cap, v' = .slice (some ⟨g, 0, none⟩) (ps.length + 1) cap := by
          rcases hown'.2 with ⟨_, h0⟩ | ⟨g, cap, cur, hv, _⟩
          · omega
          · exact ⟨g, cap, hv⟩
        have hs3 := hgrow.size
        simp at hs3
        have hcell := grown_cells (B := w.heap.size) hgrow hat (by simp)
        have hg3 : g' < w3.heap.size ∧ w.heap.size ≤ g' ∧ (g' < X1.heap.size → (Value.slice a ps.length cap).ownBlock = some g') := by
          have := hown'.lt g' rfl
          refine ⟨this.2, this.1, fun h => ?_⟩
          rcases hat with e | e
          · exact e.symm.trans rfl
          · have : g' = X1.heap.size + 1 := by simpa [Value.ownBlock] using e
            omega
        have S3 := Lib.hid (show StabP w.heap.size g' w3 (ps ++ [p ++ [k]]) (cs ++ [.slice a1 (p.length + 1) c1]) by
          intro W hW hc
          have hcc := hcell W hW hc
          have hk : Keeps wr.heap.size X1 W := ⟨by omega, fun k' o' h1 h2 => hcc k' o' (by omega) h2 (fun j hj => by have := (hgl.out j hj).2; omega)⟩
          exact all2_append (HST.out W (by omega) fun k' o' h1 h2 h3 => (hcc k' o' h1 (by omega) (fun j hj => by rw [HG.out j hj]; exact h3)).trans (C1.out k' o' h2)) (.cons ((pathAt_of HI1.out).keeps hk |>.mono (by omega)) .nil))
        have O3 := Lib.hid (show w3.ownsRow w.heap.size 41 1 (.slice (some ⟨g', 0, none⟩) (ps.length + 1) cap') (ps.length + 1) (cs ++ [.slice a1 (p.length + 1) c1]) from hown')
        have B3 := (B1.alloc hbx1 (.cells #[.slice a1 (p.length + 1) c1] 41)).grown hgrow (by simp; omega) (fun k hk => (hgl.out k hk).1)
        have I3 := Lib.hid (show IntsLie w3 (.slice a1 (p.length + 1) c1) (pathInts (p ++ [k])) by
          have hk : Keeps wr.heap.size X1 w3 := ⟨by omega, fun k' o' h1 h2 => hcell w3 (Nat.le_refl _) (fun _ _ _ _ _ => rfl) k' o' (by omega) h2 (fun j hj => by have := (hgl.out j hj).2; omega)⟩
          have := intsF_lies (intsF_keeps HI1.out hk)
          simpa using this)
        have r6 : w3.cell? ⟨b, o + k * 7 + 6, none⟩ = some (.slice ak ks.len ck) := (B3.cell (p := ⟨b, o + k * 7 + 6, none⟩) hb).trans q6
        have hb3 : b < w3.heap.size := by have := B3.size; omega
        clear hown' hgrow hat hcell hnew q6
        go_wp2_with fail
        refine (HC.out _ w3 B3 I3.out).mono ?_
        rintro e X4 ⟨a4, c4, rfl, ⟨cs4, hown4, hall4⟩, hb4⟩
        have hs4 := hb4.size
        have B4 := B3.trans (hb4.mono B3.size)
        have O4 := Lib.hid (owns_belowV O3.out hb4)
        have C4 := Lib.hid ((bcell hb4).1)
        have S4 := Lib.hid (S3.out.next (W1 := X4) (g' := g') hs4 (fun k o _ h2 _ => C4.out k o h2) (.inl rfl))
        have A4 := Lib.hid hall4
        have hl4 := all2_len hall4
        have hbx4 := B4.size
        clear hb4 hall4 B3
        rcases hown4.2 with ⟨h1, h2⟩ | ⟨g4, cap4, cur4, h1, h3, h4, h5, h6, h7, h8⟩
        · obtain rfl : qs = [] := List.eq_nil_of_length_eq_zero h2
          simp only [List.length_nil, Value.slice.injEq, true_and] at h1
          obtain ⟨rfl, rfl⟩ := h1
          have HE2 := Lib.hid (show psK p f (k + 1) = ps ++ [p ++ [k]] by rw [HE.out]; simp)
          simp only [List.length_nil]
          clear hown4
          go_wp2_with (at_builtin; refine Lib.wpList_append_run _ rfl _ _ _ _ rfl _ _ rfl rfl _ _ (append_none 49 _ 41 i0 1 Tryz.underlying49 hi _ _ _ _ O4.out) ?_)
          go_roundw
          case rel => exact ⟨k + 1, g', some ⟨g', 0, none⟩, cap', _, by go_num, by omega, by rw [HE2.out]; simp, fun b hb => by simpa [Value.ownBlock] using hb.symm, by rw [HE2.out]; simpa using O4.out, by rw [HE2.out]; exact S4.out, B4⟩
          case measure => simp [intOf]; omega
        · simp only [Value.slice.injEq, true_and] at h1
          obtain ⟨rfl, rfl⟩ := h1
          have hcs := hown4.cells (g := g4) rfl
          have hl5 := hown4.1
          have h4l := (hown4.lt g4 rfl).2
          clear hown4
          go_wp2_with (at_builtin; refine wpList_append_own_at _ rfl _ _ 49 rfl w.heap.size 41 i0 _ 1 24 Tryz.underlying49 hi hz0 hz1 hz2 rfl (by decide) (.slice (some ⟨g', 0, none⟩) (ps.length + 1) cap') (ps.length + 1) (cs ++ [Value.slice a1 (p.length + 1) c1]) rfl O4.out ⟨g4, 0, none⟩ qs.length _ cs4 rfl (by omega) hcs ?c2 ?c3 ?c4 ?c5 ?stop)
          case c2 =>
            intro u hu
            obtain ⟨j, hj, rfl⟩ := List.getElem_of_mem hu
            obtain ⟨c, hc, hpa⟩ := all2_get (d := []) A4.out j (by omega)
            rw [List.getElem?_eq_getElem hj] at hc
            obtain ⟨x1, x2, hx, -⟩ := hpa
            rw [Option.some.inj hc, hx]; rfl
          case c3 => unfold maxLen; omega
          case c4 => omega
          case c5 => omega
          case stop =>
            intro v' w5 hown' hgrow _ hat
            obtain ⟨g5, cap5, rfl⟩ : ∃ g cap, v' = .slice (some ⟨g, 0, none⟩) (ps.length + 1 + qs.length) cap := by
              rcases hown'.2 with ⟨_, h0⟩ | ⟨g, cap, cur, hv, _⟩
              · omega
              · exact ⟨g, cap, hv⟩
            have hs5 := hgrow.size
            have hcell := grown_cells' (B := w.heap.size) hgrow hat (Nat.le_refl _)
            have hlen5 : ((ps ++ [p ++ [k]]) ++ qs).length = ps.length + 1 + qs.length := by simp; omega
            have S5 := Lib.hid (show StabP w.heap.size g5 w5 ((ps ++ [p ++ [k]]) ++ qs) ((cs ++ [.slice a1 (p.length + 1) c1]) ++ cs4) by
              intro W hW hc
              have hcc := hcell W hW hc
              have hk : Keeps w3.heap.size X4 W := ⟨by omega, fun k' o' h1 h2 => hcc k' o' (by omega) h2 (fun j hj => by
                have : g' = j := by simpa [Value.ownBlock] using hj
                omega)⟩
              exact all2_append (S4.out W (by omega) fun k' o' h1 h2 h3 => hcc k' o' h1 h2 (fun j hj => by
                have : g' = j := by simpa [Value.ownBlock] using hj
                omega)) (forall2_next (fun _ _ h => (PathAt.keeps h hk).mono (by omega)) A4.out))
            have O5 := Lib.hid (show w5.ownsRow w.heap.size 41 1 (.slice (some ⟨g5, 0, none⟩) (ps.length + 1 + qs.length) cap5) (ps.length + 1 + qs.length) ((cs ++ [.slice a1 (p.length + 1) c1]) ++ cs4) by simpa using hown')
            have B5 := B4.grown hgrow hbx4 (fun k hk => by
              have : g' = k := by simpa [Value.ownBlock] using hk
              omega)
            clear hown' hgrow hat hcell
            go_wp2_with fail
            go_roundw
            case rel => exact ⟨k + 1, g5, some ⟨g5, 0, none⟩, cap5, _, by go_num, by omega, by rw [HE.out, hlen5], fun b hb => by simpa [Value.ownBlock] using hb.symm, by rw [HE.out, hlen5]; exact O5.out, by rw [HE.out]; exact S5.out, B5⟩
            case measure => simp [intOf]; omega
    · have dk : decide (k < f.len) = false := by simpa using hlt
      obtain rfl : k = f.len := by omega
      have he : psK p f f.len = (seqAt p 0 f).map (·.p) := by unfold psK; rw [take_all]
      have HF := Lib.hid (show PathsO w.heap.size wr (.slice a (psK p f f.len).length cap) (psK p f f.len) from ⟨cs, HOWN.out, HST.out wr (Nat.le_refl _) (fun _ _ _ _ _ => rfl)⟩)
      rw [he] at HF
      go_wp2_with fail
      go_ret
      exact ⟨a, cap, by rw [← he]; rfl, HF.out, hbw⟩

theorem pathsOf_any : ∀ (N : Nat) (f : Fo), f.size ≤ N → ∀ (p : List Nat), p.length + f.size ≤ 1000000 → ∀ (v pv : Value) (w : World), Lies w v f → IntsLie w pv (pathInts p) →
    Calls Tryz.prog 100 #[v, pv] w fun e w' => ∃ a c, e = .returned (.slice a ((seqAt p 0 f).map (·.p)).length c) ∧ PathsO w.heap.size w' (.slice a ((seqAt p 0 f).map (·.p)).length c) ((seqAt p 0 f).map (·.p)) ∧ Below w.heap.size w w' := by
  intro N
  induction N with
  | zero =>
    intro f hf p hb v pv w hl hp
    exact pathsOf_of f p v pv w hl hp hb (fun h ks k hj _ => by have := Fo.len_le_size f; omega)
  | succ N ih =>
    intro f hf p hb v pv w hl hp
    refine pathsOf_of f p v pv w hl hp hb (fun hd ks k hj e v pv w hk hp => ?_)
    have := kid_size e
    exact ih ks (by omega) (p ++ [k]) (by simp; omega) v pv w hk hp
theorem PathsO.paths {B : Nat} {W : World} {v : Value} {ps : List (List Nat)} (h : PathsO B W v ps) : PathsF B W v ps := by
  obtain ⟨cs, hown, hall⟩ := h
  have hl := all2_len hall
  rcases hown.2 with ⟨rfl, h0⟩ | ⟨g, cap, cur, rfl, h1, h2, h3, h4, h5, h6⟩
  · exact ⟨none, 0, by rw [h0], .inl (List.eq_nil_of_length_eq_zero h0)⟩
  · refine ⟨_, cap, rfl, .inr ⟨g, rfl, h3, h1, (hown.lt g rfl).2, fun k hk => ?_⟩⟩
    obtain ⟨c, hc, hp⟩ := all2_get (d := []) hall k hk
    have := hown.cells (g := g) rfl k c hc
    rw [Go.WideShapes.add_plain, Nat.zero_add] at this
    exact ⟨c, this, hp⟩
end Go.Proofs.YtcgedpfolloinaaGreat

namespace Go.Proofs.YtcgedpfolloinaaGreat
open Go.RowKit

/-- what At gives. -/
def atV (f : Fo) (p : List Int) : Hd × Fo := if atErr f p = 0 then (placeF f p).getD (zeroHd, .nil) else (zeroHd, .nil)
theorem at_res {w w' : World} {f : Fo} {p : List Int} {e : Ending} (h : AtRes w f p e w') : ∃ aa ca ak ck, e = .returned (.tuple #[aggOf (atV f p).1 aa ca ak (atV f p).2.len ck, .int .i64 (atErr f p)]) ∧ AttrsLie w' (.slice aa (atV f p).1.ats.length ca) (atV f p).1.ats ∧ Lies w' (.slice ak (atV f p).2.len ck) (atV f p).2 ∧ Below w.heap.size w w' := by
  obtain ⟨h, ks, aa, ca, ak, ck, rfl, hA, hK, hor, hb⟩ := h
  have hv : atV f p = (h, ks) := by
    unfold atV
    rcases hor with ⟨h1, h2⟩ | ⟨h1, rfl, rfl⟩
    · rw [if_pos h1, h2]; rfl
    · rw [if_neg h1]
  rw [hv]
  exact ⟨aa, ca, ak, ck, rfl, attrsF_lies hA, liesF_lies hK, hb⟩

end Go.Proofs.YtcgedpfolloinaaGreat

namespace Go.Proofs.YtcgedpfolloinaaGreat
open Go.RowKit

set_option maxRecDepth 100000 in
set_option maxHeartbeats 2000000 in
theorem chosen_any (f : Fo) (v : Value) (m k : Nat) (x : Vis) (w : World) (hl : Lies w v f) (hs : f.size ≤ 100000) (hm : m ≤ 65535) (hx : (seqAt [] 0 f)[k]? = some x) (hk : Int.tmod (m : Int) (f.size : Int) = (k : Int)) :
    Calls Tryz.prog 61 #[v, .int .u16 m] w fun e w' => ∃ a c, e = .returned (.slice a x.p.length c) ∧ IntsF w.heap.size w' (.slice a x.p.length c) (pathInts x.p) ∧ Below w.heap.size w w' := by
  have PO := Lib.hid (pathsOf_any _ f (Nat.le_refl _) [] (by simp; omega) v (.slice none 0 0) w hl (.inl ⟨_, _, rfl, rfl⟩))
  have len := seqAt_len f [] 0
  have hkn : k < f.size := by rw [← len]; exact (List.getElem?_eq_some_iff.1 hx).1
  have g1 := Lib.hid (show ((seqAt [] 0 f).map (·.p)).getD k [] = x.p by simp [List.getD_eq_getElem?_getD, hx])
  have hL : ((seqAt [] 0 f).map (·.p)).length = f.size := by rw [List.length_map, len]
  obtain ⟨av, cv, rfl⟩ := lies_form hl
  clear hl hx len
  generalize (seqAt [] 0 f).map (·.p) = L at *
  have e2n : decide (0 < f.size) = true := by simp; omega
  have HN := Lib.hid hL
  rw [hL] at PO
  generalize f.size = n at *
  clear hL
  go_enter Tryz.func61, Tryz.ntmps61
  go_wp2_with fail
  refine PO.out.mono ?_
  rintro e X1 ⟨a1, c1, rfl, hO, hb1⟩
  rw [← HN.out] at hO
  obtain ⟨a2, c2, e, i⟩ := hO.paths
  simp only [Value.slice.injEq, true_and] at e
  obtain ⟨rfl, rfl⟩ := e
  rcases i with i | ⟨b, rfl, hcp, hB, hb, hc⟩
  · have := HN.out
    rw [i] at this; simp at this; omega
  obtain ⟨c', q1, a3, c3, rfl, i3⟩ := hc k (by rw [HN.out]; omega)
  rw [g1.out] at q1 i3
  have HI := Lib.hid i3
  clear hc hO i3 hcp hB
  go_wp2_with fail
  go_ret
  exact ⟨a3, c3, rfl, HI.out, hb1⟩
end Go.Proofs.YtcgedpfolloinaaGreat

namespace Go.Proofs.YtcgedpfolloinaaGreat
open Go.RowKit

theorem at_ok {w w' : World} {f : Fo} {p : List Int} {e : Ending} {h : Hd} {ks : Fo} (he : atErr f p = 0) (hp : placeF f p = some (h, ks)) (H : AtRes w f p e w') :
    ∃ aa ca ak ck, e = .returned (.tuple #[aggOf h aa ca ak ks.len ck, .int .i64 0]) ∧ AttrsLie w' (.slice aa h.ats.length ca) h.ats ∧ Lies w' (.slice ak ks.len ck) ks ∧ Below w.heap.size w w' := by
  obtain ⟨aa, ca, ak, ck, rfl, h1, h2, h3⟩ := at_res H
  have hv : atV f p = (h, ks) := by unfold atV; rw [if_pos he, hp]; rfl
  rw [hv] at h1 h2 ⊢
  rw [he]
  exact ⟨aa, ca, ak, ck, rfl, h1, h2, h3⟩

set_option maxRecDepth 100000 in
set_option maxHeartbeats 8000000 in
theorem turned_unfit1 (f g : Fo) (v u : Value) (m : Int) (w : World) (hl : Lies w v f) (hg : Lies w u g) (hf : fitB f = false) :
    Calls Tryz.prog 12 #[v, u, .int .u16 m] w fun e w' => e = .returned (.bool true) ∧ Below w.heap.size w w' := by
  have GR := Lib.hid (fun w => grown_any w)
  have FF := Lib.hid (fit_any f v w hl)
  have FG := Lib.hid (fun W (hW : Below w.heap.size w W) => fit_any g u W (lies_below hg hW))
  have BX0 := Below.refl w.heap.size w
  rw [hf] at FF
  obtain ⟨a, cap, rfl⟩ := lies_form hl
  obtain ⟨a', cap', rfl⟩ := lies_form hg
  clear hl hg hf
  go_enter Tryz.func12, Tryz.ntmps12
  go_wp2_with fail
  refine (FF.out).mono ?_
  rintro e X1 ⟨rfl, hb1⟩
  have BX1 : Below w.heap.size w X1 := BX0.trans (hb1.mono BX0.size)
  clear hb1
  go_wp2_with fail
  refine (GR.out _).mono ?_
  rintro e X2 ⟨rfl, hb2⟩
  have BX2 : Below w.heap.size w X2 := BX1.trans (hb2.mono BX1.size)
  clear hb2
  go_wp2_with fail
  go_ret
  exact ⟨rfl, BX2⟩

set_option maxRecDepth 100000 in
set_option maxHeartbeats 8000000 in
theorem turned_unfit2 (f g : Fo) (v u : Value) (m : Int) (w : World) (hl : Lies w v f) (hg : Lies w u g) (hf : fitB f = true) (hf2 : fitB g = false) :
    Calls Tryz.prog 12 #[v, u, .int .u16 m] w fun e w' => e = .returned (.bool true) ∧ Below w.heap.size w w' := by
  have GR := Lib.hid (fun w => grown_any w)
  have FF := Lib.hid (fit_any f v w hl)
  have FG := Lib.hid (fun W (hW : Below w.heap.size w W) => fit_any g u W (lies_below hg hW))
  have BX0 := Below.refl w.heap.size w
  rw [hf] at FF
  rw [hf2] at FG
  obtain ⟨a, cap, rfl⟩ := lies_form hl
  obtain ⟨a', cap', rfl⟩ := lies_form hg
  clear hl hg hf hf2
  go_enter Tryz.func12, Tryz.ntmps12
  go_wp2_with fail
  refine (FF.out).mono ?_
  rintro e X1 ⟨rfl, hb1⟩
  have BX1 : Below w.heap.size w X1 := BX0.trans (hb1.mono BX0.size)
  clear hb1
  go_wp2_with fail
  refine (FG.out X1 BX1).mono ?_
  rintro e X2 ⟨rfl, hb2⟩
  have BX2 : Below w.heap.size w X2 := BX1.trans (hb2.mono BX1.size)
  clear hb2
  go_wp2_with fail
  refine (GR.out _).mono ?_
  rintro e X3 ⟨rfl, hb3⟩
  have BX3 : Below w.heap.size w X3 := BX2.trans (hb3.mono BX2.size)
  clear hb3
  go_wp2_with fail
  go_ret
  exact ⟨rfl, BX3⟩

set_option maxRecDepth 100000 in
set_option maxHeartbeats 8000000 in
theorem turned_noneErr (f g : Fo) (v u : Value) (m : Int) (w : World) (hl : Lies w v f) (hg : Lies w u g) (hf : fitB f = true) (hf2 : fitB g = true) (hlen : f.len = 0) (hb : bndErr (f.app g) = 4) :
    Calls Tryz.prog 12 #[v, u, .int .u16 m] w fun e w' => e = .returned (.bool true) ∧ Below w.heap.size w w' := by
  have GR := Lib.hid (fun w => grown_any w)
  have FF := Lib.hid (fit_any f v w hl)
  have FG := Lib.hid (fun W (hW : Below w.heap.size w W) => fit_any g u W (lies_below hg hW))
  rw [hf] at FF
  rw [hf2] at FG
  have h0 := (fit_parts hf).2
  have g0 := (fit_parts hf2).2
  have hs := small_ok h0
  have gs := small_ok g0
  have t0 := turn_err h0
  have ts := small_ok t0
  have y0 := turn_err g0
  have ys := small_ok y0
  have TU := Lib.hid (fun W (hW : Below w.heap.size w W) => tturn_any f v W (lies_below hl hW) hs)
  rw [turn_val h0] at TU
  have TT := Lib.hid (fun W x (h : Lies W x (turnF f)) => tturn_any (turnF f) x W h ts)
  rw [turn_val t0, turn_turn] at TT
  have SZ := Lib.hid (fun W (hW : Below w.heap.size w W) => tsize_any f v W (lies_below hl hW) hs)
  rw [size_val h0] at SZ
  have ST := Lib.hid (fun W x (h : Lies W x (turnF f)) => tsize_any (turnF f) x W h ts)
  rw [size_val t0, turn_size] at ST
  have DP := Lib.hid (fun W (hW : Below w.heap.size w W) => tdeep_any f v W (lies_below hl hW) hs)
  rw [deep_val2 h0] at DP
  have DT := Lib.hid (fun W x (h : Lies W x (turnF f)) => tdeep_any (turnF f) x W h ts)
  rw [deep_val2 t0, turn_deep] at DT
  have SR := Lib.hid (fun (F : Fo) x y W (h1 : Lies W x F) (h2 : Lies W y F) => same_refl F.size F (Nat.le_refl _) x y W h1 h2)
  have FL := Lib.hid (fun W (hW : Below w.heap.size w W) => lies_below hl hW)
  have CC := Lib.hid (fun W (hW : Below w.heap.size w W) => tconcat_any f g v u W (lies_below hl hW) (lies_below hg hW) hs gs)
  rw [app_ok h0 g0] at CC
  have dl : decide ((0 : Int) < (f.len : Int)) = false := by simp; omega
  have dn : decide (0 < f.len) = false := by simp; omega
  rw [show inBnd (f.app g) = (.nil, 4) by unfold inBnd; rw [if_neg (by rw [hb]; decide), hb]] at CC
  generalize turnF f = T at *
  have x1 : ((f.size : Int) != (f.size : Int)) = false := by simp
  have x2 : ((f.deep : Int) != (f.deep : Int)) = false := by simp
  have BX0 := Below.refl w.heap.size w
  obtain ⟨a, cap, rfl⟩ := lies_form hl
  obtain ⟨a', cap', rfl⟩ := lies_form hg
  clear hl hg hf hf2 h0 g0 hs gs t0 ts y0 ys hlen hb
  go_enter Tryz.func12, Tryz.ntmps12
  go_wp2_with fail
  refine (FF.out).mono ?_
  rintro e X1 ⟨rfl, hb1⟩
  have BX1 : Below w.heap.size w X1 := BX0.trans (hb1.mono BX0.size)
  clear hb1
  go_wp2_with fail
  refine (FG.out X1 BX1).mono ?_
  rintro e X2 ⟨rfl, hb2⟩
  have BX2 : Below w.heap.size w X2 := BX1.trans (hb2.mono BX1.size)
  clear hb2
  go_wp2_with fail
  refine (TU.out X2 BX2).mono ?_
  rintro e X3 ⟨a3, c3, rfl, hT, hb3⟩
  have BX3 : Below w.heap.size w X3 := BX2.trans (hb3.mono BX2.size)
  have HT := Lib.hid (liesF_lies hT)
  clear hT TU
  clear hb3
  go_wp2_with fail
  refine (TT.out X3 _ HT.out).mono ?_
  rintro e X4 ⟨a4, c4, rfl, hY, hb4⟩
  have BX4 : Below w.heap.size w X4 := BX3.trans (hb4.mono BX3.size)
  have HT := Lib.hid (lies_below HT.out hb4)
  have HY := Lib.hid (liesF_lies hY)
  clear hY TT
  clear hb4
  go_wp2_with fail
  refine (SZ.out X4 BX4).mono ?_
  rintro e X5 ⟨rfl, hb5⟩
  have BX5 : Below w.heap.size w X5 := BX4.trans (hb5.mono BX4.size)
  have HT := Lib.hid (lies_below HT.out hb5)
  have HY := Lib.hid (lies_below HY.out hb5)
  clear hb5
  go_wp2_with fail
  refine (ST.out X5 _ HT.out).mono ?_
  rintro e X6 ⟨rfl, hb6⟩
  have BX6 : Below w.heap.size w X6 := BX5.trans (hb6.mono BX5.size)
  have HT := Lib.hid (lies_below HT.out hb6)
  have HY := Lib.hid (lies_below HY.out hb6)
  clear hb6
  go_wp2_with fail
  refine (DP.out X6 BX6).mono ?_
  rintro e X7 ⟨rfl, hb7⟩
  have BX7 : Below w.heap.size w X7 := BX6.trans (hb7.mono BX6.size)
  have HT := Lib.hid (lies_below HT.out hb7)
  have HY := Lib.hid (lies_below HY.out hb7)
  clear hb7
  go_wp2_with fail
  refine (DT.out X7 _ HT.out).mono ?_
  rintro e X8 ⟨rfl, hb8⟩
  have BX8 : Below w.heap.size w X8 := BX7.trans (hb8.mono BX7.size)
  have HT := Lib.hid (lies_below HT.out hb8)
  have HY := Lib.hid (lies_below HY.out hb8)
  clear hb8
  clear SZ ST DP DT
  go_wp2_with fail
  refine (SR.out _ _ _ X8 HY.out (FL.out X8 BX8)).mono ?_
  rintro e X9 ⟨rfl, hb9⟩
  have BX9 : Below w.heap.size w X9 := BX8.trans (hb9.mono BX8.size)
  have HT := Lib.hid (lies_below HT.out hb9)
  have HY := Lib.hid (lies_below HY.out hb9)
  clear hb9
  clear HY
  go_wp2_with fail
  refine (CC.out X9 BX9).mono ?_
  rintro e X10 ⟨v6, rfl, hC, hb10⟩
  have BX10 : Below w.heap.size w X10 := BX9.trans (hb10.mono BX9.size)
  have HT := Lib.hid (lies_below HT.out hb10)
  obtain ⟨a6, c6, rfl⟩ := liesF_form hC
  clear hC CC
  clear hb10
  go_wp2_with fail
  refine (GR.out _).mono ?_
  rintro e X11 ⟨rfl, hb11⟩
  have BX11 : Below w.heap.size w X11 := BX10.trans (hb11.mono BX10.size)
  have HT := Lib.hid (lies_below HT.out hb11)
  clear hb11
  go_wp2_with fail
  go_ret
  exact ⟨rfl, BX11⟩

set_option maxRecDepth 100000 in
set_option maxHeartbeats 8000000 in
theorem turned_none (f g : Fo) (v u : Value) (m : Int) (w : World) (hl : Lies w v f) (hg : Lies w u g) (hf : fitB f = true) (hf2 : fitB g = true) (hlen : f.len = 0) (hb : bndErr (f.app g) = 0) (hu : foErr (f.app g) = 0) :
    Calls Tryz.prog 12 #[v, u, .int .u16 m] w fun e w' => e = .returned (.bool true) ∧ Below w.heap.size w w' := by
  have GR := Lib.hid (fun w => grown_any w)
  have FF := Lib.hid (fit_any f v w hl)
  have FG := Lib.hid (fun W (hW : Below w.heap.size w W) => fit_any g u W (lies_below hg hW))
  rw [hf] at FF
  rw [hf2] at FG
  have h0 := (fit_parts hf).2
  have g0 := (fit_parts hf2).2
  have hs := small_ok h0
  have gs := small_ok g0
  have t0 := turn_err h0
  have ts := small_ok t0
  have y0 := turn_err g0
  have ys := small_ok y0
  have TU := Lib.hid (fun W (hW : Below w.heap.size w W) => tturn_any f v W (lies_below hl hW) hs)
  rw [turn_val h0] at TU
  have TT := Lib.hid (fun W x (h : Lies W x (turnF f)) => tturn_any (turnF f) x W h ts)
  rw [turn_val t0, turn_turn] at TT
  have SZ := Lib.hid (fun W (hW : Below w.heap.size w W) => tsize_any f v W (lies_below hl hW) hs)
  rw [size_val h0] at SZ
  have ST := Lib.hid (fun W x (h : Lies W x (turnF f)) => tsize_any (turnF f) x W h ts)
  rw [size_val t0, turn_size] at ST
  have DP := Lib.hid (fun W (hW : Below w.heap.size w W) => tdeep_any f v W (lies_below hl hW) hs)
  rw [deep_val2 h0] at DP
  have DT := Lib.hid (fun W x (h : Lies W x (turnF f)) => tdeep_any (turnF f) x W h ts)
  rw [deep_val2 t0, turn_deep] at DT
  have SR := Lib.hid (fun (F : Fo) x y W (h1 : Lies W x F) (h2 : Lies W y F) => same_refl F.size F (Nat.le_refl _) x y W h1 h2)
  have FL := Lib.hid (fun W (hW : Below w.heap.size w W) => lies_below hl hW)
  have CC := Lib.hid (fun W (hW : Below w.heap.size w W) => tconcat_any f g v u W (lies_below hl hW) (lies_below hg hW) hs gs)
  rw [app_ok h0 g0] at CC
  have dl : decide ((0 : Int) < (f.len : Int)) = false := by simp; omega
  have dn : decide (0 < f.len) = false := by simp; omega
  rw [show inBnd (f.app g) = (f.app g, 0) by unfold inBnd; rw [if_pos hb]] at CC
  have TG := Lib.hid (fun W (hW : Below w.heap.size w W) => tturn_any g u W (lies_below hg hW) gs)
  rw [turn_val g0] at TG
  have u0 := turn_err hu
  have CT := Lib.hid (fun W x y (h1 : Lies W x (turnF g)) (h2 : Lies W y (turnF f)) => tconcat_any (turnF g) (turnF f) x y W h1 h2 ys ts)
  rw [app_ok y0 t0, ← turn_app, show inBnd (turnF (f.app g)) = (turnF (f.app g), 0) by unfold inBnd; rw [if_pos (by have := fo_zero.1 u0; unfold bndErr; rw [if_neg (by omega), if_neg (by omega)])]] at CT
  have TB := Lib.hid (fun W x (h : Lies W x (f.app g)) => tturn_any (f.app g) x W h (small_ok hu))
  rw [turn_val hu] at TB
  generalize turnF (f.app g) = U at *
  generalize turnF g = Z at *
  generalize f.app g = BB at *
  generalize turnF f = T at *
  have x1 : ((f.size : Int) != (f.size : Int)) = false := by simp
  have x2 : ((f.deep : Int) != (f.deep : Int)) = false := by simp
  have BX0 := Below.refl w.heap.size w
  obtain ⟨a, cap, rfl⟩ := lies_form hl
  obtain ⟨a', cap', rfl⟩ := lies_form hg
  clear hl hg hf hf2 h0 g0 hs gs t0 ts y0 ys hlen hb hu u0
  go_enter Tryz.func12, Tryz.ntmps12
  go_wp2_with fail
  refine (FF.out).mono ?_
  rintro e X1 ⟨rfl, hb1⟩
  have BX1 : Below w.heap.size w X1 := BX0.trans (hb1.mono BX0.size)
  clear hb1
  go_wp2_with fail
  refine (FG.out X1 BX1).mono ?_
  rintro e X2 ⟨rfl, hb2⟩
  have BX2 : Below w.heap.size w X2 := BX1.trans (hb2.mono BX1.size)
  clear hb2
  go_wp2_with fail
  refine (TU.out X2 BX2).mono ?_
  rintro e X3 ⟨a3, c3, rfl, hT, hb3⟩
  have BX3 : Below w.heap.size w X3 := BX2.trans (hb3.mono BX2.size)
  have HT := Lib.hid (liesF_lies hT)
  clear hT TU
  clear hb3
  go_wp2_with fail
  refine (TT.out X3 _ HT.out).mono ?_
  rintro e X4 ⟨a4, c4, rfl, hY, hb4⟩
  have BX4 : Below w.heap.size w X4 := BX3.trans (hb4.mono BX3.size)
  have HT := Lib.hid (lies_below HT.out hb4)
  have HY := Lib.hid (liesF_lies hY)
  clear hY TT
  clear hb4
  go_wp2_with fail
  refine (SZ.out X4 BX4).mono ?_
  rintro e X5 ⟨rfl, hb5⟩
  have BX5 : Below w.heap.size w X5 := BX4.trans (hb5.mono BX4.size)
  have HT := Lib.hid (lies_below HT.out hb5)
  have HY := Lib.hid (lies_below HY.out hb5)
  clear hb5
  go_wp2_with fail
  refine (ST.out X5 _ HT.out).mono ?_
  rintro e X6 ⟨rfl, hb6⟩
  have BX6 : Below w.heap.size w X6 := BX5.trans (hb6.mono BX5.size)
  have HT := Lib.hid (lies_below HT.out hb6)
  have HY := Lib.hid (lies_below HY.out hb6)
  clear hb6
  go_wp2_with fail
  refine (DP.out X6 BX6).mono ?_
  rintro e X7 ⟨rfl, hb7⟩
  have BX7 : Below w.heap.size w X7 := BX6.trans (hb7.mono BX6.size)
  have HT := Lib.hid (lies_below HT.out hb7)
  have HY := Lib.hid (lies_below HY.out hb7)
  clear hb7
  go_wp2_with fail
  refine (DT.out X7 _ HT.out).mono ?_
  rintro e X8 ⟨rfl, hb8⟩
  have BX8 : Below w.heap.size w X8 := BX7.trans (hb8.mono BX7.size)
  have HT := Lib.hid (lies_below HT.out hb8)
  have HY := Lib.hid (lies_below HY.out hb8)
  clear hb8
  clear SZ ST DP DT
  go_wp2_with fail
  refine (SR.out _ _ _ X8 HY.out (FL.out X8 BX8)).mono ?_
  rintro e X9 ⟨rfl, hb9⟩
  have BX9 : Below w.heap.size w X9 := BX8.trans (hb9.mono BX8.size)
  have HT := Lib.hid (lies_below HT.out hb9)
  have HY := Lib.hid (lies_below HY.out hb9)
  clear hb9
  clear HY
  go_wp2_with fail
  refine (CC.out X9 BX9).mono ?_
  rintro e X10 ⟨v6, rfl, hC, hb10⟩
  have BX10 : Below w.heap.size w X10 := BX9.trans (hb10.mono BX9.size)
  have HT := Lib.hid (lies_below HT.out hb10)
  have HC := Lib.hid (liesF_lies hC)
  obtain ⟨a6, c6, rfl⟩ := liesF_form hC
  clear hC CC
  clear hb10
  go_wp2_with fail
  refine (TG.out X10 BX10).mono ?_
  rintro e X11 ⟨a7, c7, rfl, hZ, hb11⟩
  have BX11 : Below w.heap.size w X11 := BX10.trans (hb11.mono BX10.size)
  have HT := Lib.hid (lies_below HT.out hb11)
  have HC := Lib.hid (lies_below HC.out hb11)
  have HZ := Lib.hid (liesF_lies hZ)
  clear hZ TG
  clear hb11
  go_wp2_with fail
  refine (CT.out X11 _ _ HZ.out HT.out).mono ?_
  rintro e X12 ⟨v8, rfl, hW, hb12⟩
  have BX12 : Below w.heap.size w X12 := BX11.trans (hb12.mono BX11.size)
  have HT := Lib.hid (lies_below HT.out hb12)
  have HC := Lib.hid (lies_below HC.out hb12)
  have HZ := Lib.hid (lies_below HZ.out hb12)
  have HW := Lib.hid (liesF_lies hW)
  obtain ⟨a8, c8, rfl⟩ := liesF_form hW
  clear hW CT
  clear hb12
  clear HZ HT
  go_wp2_with fail
  refine (TB.out X12 _ HC.out).mono ?_
  rintro e X13 ⟨a9, c9, rfl, hG, hb13⟩
  have BX13 : Below w.heap.size w X13 := BX12.trans (hb13.mono BX12.size)
  have HC := Lib.hid (lies_below HC.out hb13)
  have HW := Lib.hid (lies_below HW.out hb13)
  have HG := Lib.hid (liesF_lies hG)
  clear hG TB
  clear hb13
  clear HC
  go_wp2_with fail
  refine (SR.out _ _ _ X13 HG.out HW.out).mono ?_
  rintro e X14 ⟨rfl, hb14⟩
  have BX14 : Below w.heap.size w X14 := BX13.trans (hb14.mono BX13.size)
  have HW := Lib.hid (lies_below HW.out hb14)
  have HG := Lib.hid (lies_below HG.out hb14)
  clear hb14
  clear HG HW
  go_wp2_with fail
  refine (GR.out _).mono ?_
  rintro e X15 ⟨rfl, hb15⟩
  have BX15 : Below w.heap.size w X15 := BX14.trans (hb15.mono BX14.size)
  clear hb15
  go_wp2_with fail
  go_ret
  exact ⟨rfl, BX15⟩

set_option maxRecDepth 100000 in
set_option maxHeartbeats 8000000 in
theorem turned_midErr (f g : Fo) (v u : Value) (m k : Nat) (x : Vis) (w : World) (hl : Lies w v f) (hg : Lies w u g) (hf : fitB f = true) (hf2 : fitB g = true) (hlen : 0 < f.len) (hm : m ≤ 65535) (hx : (seqAt [] 0 f)[k]? = some x) (hk : Int.tmod (m : Int) (f.size : Int) = (k : Int)) (hb : bndErr (f.app g) = 4) :
    Calls Tryz.prog 12 #[v, u, .int .u16 m] w fun e w' => e = .returned (.bool true) ∧ Below w.heap.size w w' := by
  have GR := Lib.hid (fun w => grown_any w)
  have FF := Lib.hid (fit_any f v w hl)
  have FG := Lib.hid (fun W (hW : Below w.heap.size w W) => fit_any g u W (lies_below hg hW))
  rw [hf] at FF
  rw [hf2] at FG
  have h0 := (fit_parts hf).2
  have g0 := (fit_parts hf2).2
  have hs := small_ok h0
  have gs := small_ok g0
  have t0 := turn_err h0
  have ts := small_ok t0
  have y0 := turn_err g0
  have ys := small_ok y0
  have TU := Lib.hid (fun W (hW : Below w.heap.size w W) => tturn_any f v W (lies_below hl hW) hs)
  rw [turn_val h0] at TU
  have TT := Lib.hid (fun W x (h : Lies W x (turnF f)) => tturn_any (turnF f) x W h ts)
  rw [turn_val t0, turn_turn] at TT
  have SZ := Lib.hid (fun W (hW : Below w.heap.size w W) => tsize_any f v W (lies_below hl hW) hs)
  rw [size_val h0] at SZ
  have ST := Lib.hid (fun W x (h : Lies W x (turnF f)) => tsize_any (turnF f) x W h ts)
  rw [size_val t0, turn_size] at ST
  have DP := Lib.hid (fun W (hW : Below w.heap.size w W) => tdeep_any f v W (lies_below hl hW) hs)
  rw [deep_val2 h0] at DP
  have DT := Lib.hid (fun W x (h : Lies W x (turnF f)) => tdeep_any (turnF f) x W h ts)
  rw [deep_val2 t0, turn_deep] at DT
  have SR := Lib.hid (fun (F : Fo) x y W (h1 : Lies W x F) (h2 : Lies W y F) => same_refl F.size F (Nat.le_refl _) x y W h1 h2)
  have FL := Lib.hid (fun W (hW : Below w.heap.size w W) => lies_below hl hW)
  have CC := Lib.hid (fun W (hW : Below w.heap.size w W) => tconcat_any f g v u W (lies_below hl hW) (lies_below hg hW) hs gs)
  rw [app_ok h0 g0] at CC
  have xm := List.mem_of_getElem? hx
  have CH := Lib.hid (fun W (hW : Below w.heap.size w W) => chosen_any f v m k x W (lies_below hl hW) hs.size hm hx hk)
  have pl := place_at xm
  have px := path_len xm
  have hsz := hs.size
  simp only [List.length_nil, Nat.zero_add] at px
  have hpx : x.p.length ≤ 1000000 := by omega
  have AT := Lib.hid (fun W (hW : Below w.heap.size w W) pv (hp : IntsLie W pv (pathInts x.p)) => (at_any f (pathInts x.p) v pv W (lies_below hl hW) hs hp (by simpa using hpx)).mono fun _ _ h => at_ok (at_val h0 xm) pl h)
  have MI := Lib.hid (fun W (hW : Below w.heap.size w W) pv (hp : IntsLie W pv (pathInts x.p)) => mirrored_any f x.p v pv W (lies_below hl hW) hp hpx (onPath_of x.p f _ pl))
  have plT := place_turn x.p f x.h x.ks pl
  have AX := Lib.hid (fun W y pv (h : Lies W y (turnF f)) (hp : IntsLie W pv (pathInts (mirF f x.p))) => (at_any (turnF f) (pathInts (mirF f x.p)) y pv W h ts hp (by rw [List.length_map, mir_len]; exact hpx)).mono fun _ _ h => at_ok (show atErr (turnF f) (pathInts (mirF f x.p)) = 0 by
    have h2 : pathInts (mirF f x.p) ≠ [] := by
      intro e; have := congrArg List.length e; rw [List.length_map, mir_len] at this
      exact path_ne xm (List.eq_nil_of_length_eq_zero this)
    unfold atErr placeErr
    rw [if_neg h2, plT, t0]; rfl) plT h)
  have o0 := one_ok pl h0
  have TO := Lib.hid (fun W y (h : Lies W y (.cons x.h x.ks .nil)) => tturn_any (.cons x.h x.ks .nil) y W h (small_ok o0))
  rw [turn_val o0, show turnF (.cons x.h x.ks .nil) = .cons x.h (turnF x.ks) .nil from rfl] at TO
  have MLN := mir_len x.p f
  have dl : decide ((0 : Int) < (f.len : Int)) = true := by simp; omega
  have dn : decide (0 < f.len) = true := by simpa using hlen
  generalize mirF f x.p = q at *
  generalize x.p = p at *
  generalize turnF x.ks = Q at *
  generalize x.h = xh at *
  generalize x.ks = xk at *
  rw [show inBnd (f.app g) = (.nil, 4) by unfold inBnd; rw [if_neg (by rw [hb]; decide), hb]] at CC
  generalize turnF f = T at *
  have x1 : ((f.size : Int) != (f.size : Int)) = false := by simp
  have x2 : ((f.deep : Int) != (f.deep : Int)) = false := by simp
  have BX0 := Below.refl w.heap.size w
  obtain ⟨a, cap, rfl⟩ := lies_form hl
  obtain ⟨a', cap', rfl⟩ := lies_form hg
  clear hl hg hf hf2 h0 g0 hs gs t0 ts y0 ys hlen hb xm pl px hsz hpx plT o0 hx hk
  go_enter Tryz.func12, Tryz.ntmps12
  go_wp2_with fail
  refine (FF.out).mono ?_
  rintro e X1 ⟨rfl, hb1⟩
  have BX1 : Below w.heap.size w X1 := BX0.trans (hb1.mono BX0.size)
  clear hb1
  go_wp2_with fail
  refine (FG.out X1 BX1).mono ?_
  rintro e X2 ⟨rfl, hb2⟩
  have BX2 : Below w.heap.size w X2 := BX1.trans (hb2.mono BX1.size)
  clear hb2
  go_wp2_with fail
  refine (TU.out X2 BX2).mono ?_
  rintro e X3 ⟨a3, c3, rfl, hT, hb3⟩
  have BX3 : Below w.heap.size w X3 := BX2.trans (hb3.mono BX2.size)
  have HT := Lib.hid (liesF_lies hT)
  clear hT TU
  clear hb3
  go_wp2_with fail
  refine (TT.out X3 _ HT.out).mono ?_
  rintro e X4 ⟨a4, c4, rfl, hY, hb4⟩
  have BX4 : Below w.heap.size w X4 := BX3.trans (hb4.mono BX3.size)
  have HT := Lib.hid (lies_below HT.out hb4)
  have HY := Lib.hid (liesF_lies hY)
  clear hY TT
  clear hb4
  go_wp2_with fail
  refine (SZ.out X4 BX4).mono ?_
  rintro e X5 ⟨rfl, hb5⟩
  have BX5 : Below w.heap.size w X5 := BX4.trans (hb5.mono BX4.size)
  have HT := Lib.hid (lies_below HT.out hb5)
  have HY := Lib.hid (lies_below HY.out hb5)
  clear hb5
  go_wp2_with fail
  refine (ST.out X5 _ HT.out).mono ?_
  rintro e X6 ⟨rfl, hb6⟩
  have BX6 : Below w.heap.size w X6 := BX5.trans (hb6.mono BX5.size)
  have HT := Lib.hid (lies_below HT.out hb6)
  have HY := Lib.hid (lies_below HY.out hb6)
  clear hb6
  go_wp2_with fail
  refine (DP.out X6 BX6).mono ?_
  rintro e X7 ⟨rfl, hb7⟩
  have BX7 : Below w.heap.size w X7 := BX6.trans (hb7.mono BX6.size)
  have HT := Lib.hid (lies_below HT.out hb7)
  have HY := Lib.hid (lies_below HY.out hb7)
  clear hb7
  go_wp2_with fail
  refine (DT.out X7 _ HT.out).mono ?_
  rintro e X8 ⟨rfl, hb8⟩
  have BX8 : Below w.heap.size w X8 := BX7.trans (hb8.mono BX7.size)
  have HT := Lib.hid (lies_below HT.out hb8)
  have HY := Lib.hid (lies_below HY.out hb8)
  clear hb8
  clear SZ ST DP DT
  go_wp2_with fail
  refine (SR.out _ _ _ X8 HY.out (FL.out X8 BX8)).mono ?_
  rintro e X9 ⟨rfl, hb9⟩
  have BX9 : Below w.heap.size w X9 := BX8.trans (hb9.mono BX8.size)
  have HT := Lib.hid (lies_below HT.out hb9)
  have HY := Lib.hid (lies_below HY.out hb9)
  clear hb9
  clear HY
  go_wp2_with fail
  refine (CH.out X9 BX9).mono ?_
  rintro e X10 ⟨aP, cP, rfl, hP, hb10⟩
  have BX10 : Below w.heap.size w X10 := BX9.trans (hb10.mono BX9.size)
  have HT := Lib.hid (lies_below HT.out hb10)
  have HP := Lib.hid (intsF_lies hP)
  clear hP CH
  clear hb10
  go_wp2_with fail
  refine (AT.out X10 BX10 _ HP.out).mono ?_
  rintro e X11 ⟨aa1, ca1, ak1, ck1, rfl, hA, hK, hb11⟩
  have BX11 : Below w.heap.size w X11 := BX10.trans (hb11.mono BX10.size)
  have HT := Lib.hid (lies_below HT.out hb11)
  have HP := Lib.hid (ints_below HP.out hb11)
  unfold aggOf
  have HA := Lib.hid hA
  have HK := Lib.hid hK
  clear hA hK AT
  clear hb11
  go_upto_region 14 with fail
  have kk := World.alloc_heap_new X11 (.cells #[.int .i64 xh.k, .string ⟨xh.l.toArray⟩, .slice aa1 xh.ats.length ca1, .int .i64 xh.n, .int .i64 xh.d, .string ⟨xh.x.toArray⟩, .slice ak1 xk.len ck1] 43)
  have hb12 : Below X11.heap.size X11 (X11.alloc (.cells #[.int .i64 xh.k, .string ⟨xh.l.toArray⟩, .slice aa1 xh.ats.length ca1, .int .i64 xh.n, .int .i64 xh.d, .string ⟨xh.x.toArray⟩, .slice ak1 xk.len ck1] 43)) := (Below.refl _ _).alloc (Nat.le_refl _) _
  have zt1 : X11.heap.size < (X11.alloc (.cells #[.int .i64 xh.k, .string ⟨xh.l.toArray⟩, .slice aa1 xh.ats.length ca1, .int .i64 xh.n, .int .i64 xh.d, .string ⟨xh.x.toArray⟩, .slice ak1 xk.len ck1] 43)).heap.size := by simp
  generalize X11.alloc (.cells #[.int .i64 xh.k, .string ⟨xh.l.toArray⟩, .slice aa1 xh.ats.length ca1, .int .i64 xh.n, .int .i64 xh.d, .string ⟨xh.x.toArray⟩, .slice ak1 xk.len ck1] 43) = X12 at *
  have BX12 : Below w.heap.size w X12 := BX11.trans (hb12.mono BX11.size)
  have Kt1 := Lib.hid kk
  clear kk
  have HT := Lib.hid (lies_below HT.out hb12)
  have HP := Lib.hid (ints_below HP.out hb12)
  have HA := Lib.hid (attrs_below HA.out hb12)
  have HK := Lib.hid (lies_below HK.out hb12)
  obtain ⟨t1, ht⟩ : ∃ t, t = X11.heap.size := ⟨_, rfl⟩
  rw [← ht] at Kt1 zt1
  rw [← ht]
  clear ht hb12
  go_wp2_with fail
  refine (MI.out X12 BX12 _ HP.out).mono ?_
  rintro e X13 ⟨aQ, cQ, rfl, hQ, hb13⟩
  have BX13 : Below w.heap.size w X13 := BX12.trans (hb13.mono BX12.size)
  have HT := Lib.hid (lies_below HT.out hb13)
  have HP := Lib.hid (ints_below HP.out hb13)
  have HA := Lib.hid (attrs_below HA.out hb13)
  have HK := Lib.hid (lies_below HK.out hb13)
  have Kt1 := Lib.hid ((hb13.block _ zt1).trans Kt1.out)
  have zt1 := Nat.lt_of_lt_of_le zt1 hb13.size
  have HQ := Lib.hid (intsF_lies hQ)
  clear hQ MI
  clear hb13
  clear HP
  go_wp2_with fail
  refine (AX.out X13 _ _ HT.out HQ.out).mono ?_
  rintro e X14 ⟨aa2, ca2, ak2, ck2, rfl, hB, hL, hb14⟩
  have BX14 : Below w.heap.size w X14 := BX13.trans (hb14.mono BX13.size)
  have HT := Lib.hid (lies_below HT.out hb14)
  have HA := Lib.hid (attrs_below HA.out hb14)
  have HK := Lib.hid (lies_below HK.out hb14)
  have HQ := Lib.hid (ints_below HQ.out hb14)
  have Kt1 := Lib.hid ((hb14.block _ zt1).trans Kt1.out)
  have zt1 := Nat.lt_of_lt_of_le zt1 hb14.size
  unfold aggOf
  have HB := Lib.hid hB
  have HL := Lib.hid hL
  clear hB hL AX
  clear hb14
  clear HQ
  go_upto_region 15 with fail
  have kk := World.alloc_heap_new X14 (.cells #[.int .i64 xh.k, .string ⟨xh.l.toArray⟩, .slice aa2 xh.ats.length ca2, .int .i64 xh.n, .int .i64 xh.d, .string ⟨xh.x.toArray⟩, .slice ak2 Q.len ck2] 43)
  have hb15 : Below X14.heap.size X14 (X14.alloc (.cells #[.int .i64 xh.k, .string ⟨xh.l.toArray⟩, .slice aa2 xh.ats.length ca2, .int .i64 xh.n, .int .i64 xh.d, .string ⟨xh.x.toArray⟩, .slice ak2 Q.len ck2] 43)) := (Below.refl _ _).alloc (Nat.le_refl _) _
  have zt2 : X14.heap.size < (X14.alloc (.cells #[.int .i64 xh.k, .string ⟨xh.l.toArray⟩, .slice aa2 xh.ats.length ca2, .int .i64 xh.n, .int .i64 xh.d, .string ⟨xh.x.toArray⟩, .slice ak2 Q.len ck2] 43)).heap.size := by simp
  generalize X14.alloc (.cells #[.int .i64 xh.k, .string ⟨xh.l.toArray⟩, .slice aa2 xh.ats.length ca2, .int .i64 xh.n, .int .i64 xh.d, .string ⟨xh.x.toArray⟩, .slice ak2 Q.len ck2] 43) = X15 at *
  have BX15 : Below w.heap.size w X15 := BX14.trans (hb15.mono BX14.size)
  have Kt2 := Lib.hid kk
  clear kk
  have HT := Lib.hid (lies_below HT.out hb15)
  have HA := Lib.hid (attrs_below HA.out hb15)
  have HK := Lib.hid (lies_below HK.out hb15)
  have HB := Lib.hid (attrs_below HB.out hb15)
  have HL := Lib.hid (lies_below HL.out hb15)
  have Kt1 := Lib.hid ((hb15.block _ zt1).trans Kt1.out)
  have zt1 := Nat.lt_of_lt_of_le zt1 hb15.size
  obtain ⟨t2, ht⟩ : ∃ t, t = X14.heap.size := ⟨_, rfl⟩
  rw [← ht] at Kt2 zt2
  rw [← ht]
  clear ht hb15
  have d0 : X15.cell? ⟨t1, 0, none⟩ = some (.int .i64 xh.k) := cell_of_block Kt1.out rfl
  have d1 : X15.cell? ⟨t1, 1, none⟩ = some (.string ⟨xh.l.toArray⟩) := cell_of_block Kt1.out rfl
  have d2 : X15.cell? ⟨t1, 2, none⟩ = some (.slice aa1 xh.ats.length ca1) := cell_of_block Kt1.out rfl
  have d3 : X15.cell? ⟨t1, 3, none⟩ = some (.int .i64 xh.n) := cell_of_block Kt1.out rfl
  have d4 : X15.cell? ⟨t1, 4, none⟩ = some (.int .i64 xh.d) := cell_of_block Kt1.out rfl
  have d5 : X15.cell? ⟨t1, 5, none⟩ = some (.string ⟨xh.x.toArray⟩) := cell_of_block Kt1.out rfl
  have d6 : X15.cell? ⟨t1, 6, none⟩ = some (.slice ak1 xk.len ck1) := cell_of_block Kt1.out rfl
  have kk := World.alloc_heap_new X15 (.cells #[.int .i64 xh.k, .string ⟨xh.l.toArray⟩, .slice aa1 xh.ats.length ca1, .int .i64 xh.n, .int .i64 xh.d, .string ⟨xh.x.toArray⟩, .slice ak1 xk.len ck1] 43)
  have hb16 : Below X15.heap.size X15 (X15.alloc (.cells #[.int .i64 xh.k, .string ⟨xh.l.toArray⟩, .slice aa1 xh.ats.length ca1, .int .i64 xh.n, .int .i64 xh.d, .string ⟨xh.x.toArray⟩, .slice ak1 xk.len ck1] 43)) := (Below.refl _ _).alloc (Nat.le_refl _) _
  have HT := Lib.hid (lies_below HT.out hb16)
  have HA := Lib.hid (attrs_below HA.out hb16)
  have HK := Lib.hid (lies_below HK.out hb16)
  have HB := Lib.hid (attrs_below HB.out hb16)
  have HL := Lib.hid (lies_below HL.out hb16)
  have Kt1 := Lib.hid ((hb16.block _ zt1).trans Kt1.out)
  have zt1 := Nat.lt_of_lt_of_le zt1 hb16.size
  have Kt2 := Lib.hid ((hb16.block _ zt2).trans Kt2.out)
  have zt2 := Nat.lt_of_lt_of_le zt2 hb16.size
  have HR1 := Lib.hid (lies_one kk HA.out HK.out)
  have BX16 : Below w.heap.size w (X15.alloc (.cells #[.int .i64 xh.k, .string ⟨xh.l.toArray⟩, .slice aa1 xh.ats.length ca1, .int .i64 xh.n, .int .i64 xh.d, .string ⟨xh.x.toArray⟩, .slice ak1 xk.len ck1] 43)) := BX15.trans (hb16.mono BX15.size)
  clear kk hb16
  go_wp2_with fail
  generalize X15.alloc (.cells #[.int .i64 xh.k, .string ⟨xh.l.toArray⟩, .slice aa1 xh.ats.length ca1, .int .i64 xh.n, .int .i64 xh.d, .string ⟨xh.x.toArray⟩, .slice ak1 xk.len ck1] 43) = X16 at *
  clear d0 d1 d2 d3 d4 d5 d6 Kt1 zt1

  refine (TO.out X16 _ HR1.out).mono ?_
  rintro e X17 ⟨a5, c5, rfl, hV, hb17⟩
  have BX17 : Below w.heap.size w X17 := BX16.trans (hb17.mono BX16.size)
  have HT := Lib.hid (lies_below HT.out hb17)
  have HA := Lib.hid (attrs_below HA.out hb17)
  have HK := Lib.hid (lies_below HK.out hb17)
  have HB := Lib.hid (attrs_below HB.out hb17)
  have HL := Lib.hid (lies_below HL.out hb17)
  have Kt2 := Lib.hid ((hb17.block _ zt2).trans Kt2.out)
  have zt2 := Nat.lt_of_lt_of_le zt2 hb17.size
  have HV := Lib.hid (liesF_lies hV)
  clear hV TO HR1
  clear hb17
  clear HA HK
  have d0 : X17.cell? ⟨t2, 0, none⟩ = some (.int .i64 xh.k) := cell_of_block Kt2.out rfl
  have d1 : X17.cell? ⟨t2, 1, none⟩ = some (.string ⟨xh.l.toArray⟩) := cell_of_block Kt2.out rfl
  have d2 : X17.cell? ⟨t2, 2, none⟩ = some (.slice aa2 xh.ats.length ca2) := cell_of_block Kt2.out rfl
  have d3 : X17.cell? ⟨t2, 3, none⟩ = some (.int .i64 xh.n) := cell_of_block Kt2.out rfl
  have d4 : X17.cell? ⟨t2, 4, none⟩ = some (.int .i64 xh.d) := cell_of_block Kt2.out rfl
  have d5 : X17.cell? ⟨t2, 5, none⟩ = some (.string ⟨xh.x.toArray⟩) := cell_of_block Kt2.out rfl
  have d6 : X17.cell? ⟨t2, 6, none⟩ = some (.slice ak2 Q.len ck2) := cell_of_block Kt2.out rfl
  have kk := World.alloc_heap_new X17 (.cells #[.int .i64 xh.k, .string ⟨xh.l.toArray⟩, .slice aa2 xh.ats.length ca2, .int .i64 xh.n, .int .i64 xh.d, .string ⟨xh.x.toArray⟩, .slice ak2 Q.len ck2] 43)
  have hb18 : Below X17.heap.size X17 (X17.alloc (.cells #[.int .i64 xh.k, .string ⟨xh.l.toArray⟩, .slice aa2 xh.ats.length ca2, .int .i64 xh.n, .int .i64 xh.d, .string ⟨xh.x.toArray⟩, .slice ak2 Q.len ck2] 43)) := (Below.refl _ _).alloc (Nat.le_refl _) _
  have HT := Lib.hid (lies_below HT.out hb18)
  have HB := Lib.hid (attrs_below HB.out hb18)
  have HL := Lib.hid (lies_below HL.out hb18)
  have HV := Lib.hid (lies_below HV.out hb18)
  have Kt2 := Lib.hid ((hb18.block _ zt2).trans Kt2.out)
  have zt2 := Nat.lt_of_lt_of_le zt2 hb18.size
  have HR2 := Lib.hid (lies_one kk HB.out HL.out)
  have BX18 : Below w.heap.size w (X17.alloc (.cells #[.int .i64 xh.k, .string ⟨xh.l.toArray⟩, .slice aa2 xh.ats.length ca2, .int .i64 xh.n, .int .i64 xh.d, .string ⟨xh.x.toArray⟩, .slice ak2 Q.len ck2] 43)) := BX17.trans (hb18.mono BX17.size)
  clear kk hb18
  go_wp2_with fail
  generalize X17.alloc (.cells #[.int .i64 xh.k, .string ⟨xh.l.toArray⟩, .slice aa2 xh.ats.length ca2, .int .i64 xh.n, .int .i64 xh.d, .string ⟨xh.x.toArray⟩, .slice ak2 Q.len ck2] 43) = X18 at *
  clear d0 d1 d2 d3 d4 d5 d6 Kt2 zt2

  refine (SR.out _ _ _ X18 HV.out HR2.out).mono ?_
  rintro e X19 ⟨rfl, hb19⟩
  have BX19 : Below w.heap.size w X19 := BX18.trans (hb19.mono BX18.size)
  have HT := Lib.hid (lies_below HT.out hb19)
  have HB := Lib.hid (attrs_below HB.out hb19)
  have HL := Lib.hid (lies_below HL.out hb19)
  have HV := Lib.hid (lies_below HV.out hb19)
  clear HR2
  clear hb19
  clear HV HB HL
  go_wp2_with fail
  refine (CC.out X19 BX19).mono ?_
  rintro e X20 ⟨v6, rfl, hC, hb20⟩
  have BX20 : Below w.heap.size w X20 := BX19.trans (hb20.mono BX19.size)
  have HT := Lib.hid (lies_below HT.out hb20)
  obtain ⟨a6, c6, rfl⟩ := liesF_form hC
  clear hC CC
  clear hb20
  go_wp2_with fail
  refine (GR.out _).mono ?_
  rintro e X21 ⟨rfl, hb21⟩
  have BX21 : Below w.heap.size w X21 := BX20.trans (hb21.mono BX20.size)
  have HT := Lib.hid (lies_below HT.out hb21)
  clear hb21
  go_wp2_with fail
  go_ret
  exact ⟨rfl, BX21⟩

set_option maxRecDepth 100000 in
set_option maxHeartbeats 8000000 in
theorem turned_mid (f g : Fo) (v u : Value) (m k : Nat) (x : Vis) (w : World) (hl : Lies w v f) (hg : Lies w u g) (hf : fitB f = true) (hf2 : fitB g = true) (hlen : 0 < f.len) (hm : m ≤ 65535) (hx : (seqAt [] 0 f)[k]? = some x) (hk : Int.tmod (m : Int) (f.size : Int) = (k : Int)) (hb : bndErr (f.app g) = 0) (hu : foErr (f.app g) = 0) :
    Calls Tryz.prog 12 #[v, u, .int .u16 m] w fun e w' => e = .returned (.bool true) ∧ Below w.heap.size w w' := by
  have GR := Lib.hid (fun w => grown_any w)
  have FF := Lib.hid (fit_any f v w hl)
  have FG := Lib.hid (fun W (hW : Below w.heap.size w W) => fit_any g u W (lies_below hg hW))
  rw [hf] at FF
  rw [hf2] at FG
  have h0 := (fit_parts hf).2
  have g0 := (fit_parts hf2).2
  have hs := small_ok h0
  have gs := small_ok g0
  have t0 := turn_err h0
  have ts := small_ok t0
  have y0 := turn_err g0
  have ys := small_ok y0
  have TU := Lib.hid (fun W (hW : Below w.heap.size w W) => tturn_any f v W (lies_below hl hW) hs)
  rw [turn_val h0] at TU
  have TT := Lib.hid (fun W x (h : Lies W x (turnF f)) => tturn_any (turnF f) x W h ts)
  rw [turn_val t0, turn_turn] at TT
  have SZ := Lib.hid (fun W (hW : Below w.heap.size w W) => tsize_any f v W (lies_below hl hW) hs)
  rw [size_val h0] at SZ
  have ST := Lib.hid (fun W x (h : Lies W x (turnF f)) => tsize_any (turnF f) x W h ts)
  rw [size_val t0, turn_size] at ST
  have DP := Lib.hid (fun W (hW : Below w.heap.size w W) => tdeep_any f v W (lies_below hl hW) hs)
  rw [deep_val2 h0] at DP
  have DT := Lib.hid (fun W x (h : Lies W x (turnF f)) => tdeep_any (turnF f) x W h ts)
  rw [deep_val2 t0, turn_deep] at DT
  have SR := Lib.hid (fun (F : Fo) x y W (h1 : Lies W x F) (h2 : Lies W y F) => same_refl F.size F (Nat.le_refl _) x y W h1 h2)
  have FL := Lib.hid (fun W (hW : Below w.heap.size w W) => lies_below hl hW)
  have CC := Lib.hid (fun W (hW : Below w.heap.size w W) => tconcat_any f g v u W (lies_below hl hW) (lies_below hg hW) hs gs)
  rw [app_ok h0 g0] at CC
  have xm := List.mem_of_getElem? hx
  have CH := Lib.hid (fun W (hW : Below w.heap.size w W) => chosen_any f v m k x W (lies_below hl hW) hs.size hm hx hk)
  have pl := place_at xm
  have px := path_len xm
  have hsz := hs.size
  simp only [List.length_nil, Nat.zero_add] at px
  have hpx : x.p.length ≤ 1000000 := by omega
  have AT := Lib.hid (fun W (hW : Below w.heap.size w W) pv (hp : IntsLie W pv (pathInts x.p)) => (at_any f (pathInts x.p) v pv W (lies_below hl hW) hs hp (by simpa using hpx)).mono fun _ _ h => at_ok (at_val h0 xm) pl h)
  have MI := Lib.hid (fun W (hW : Below w.heap.size w W) pv (hp : IntsLie W pv (pathInts x.p)) => mirrored_any f x.p v pv W (lies_below hl hW) hp hpx (onPath_of x.p f _ pl))
  have plT := place_turn x.p f x.h x.ks pl
  have AX := Lib.hid (fun W y pv (h : Lies W y (turnF f)) (hp : IntsLie W pv (pathInts (mirF f x.p))) => (at_any (turnF f) (pathInts (mirF f x.p)) y pv W h ts hp (by rw [List.length_map, mir_len]; exact hpx)).mono fun _ _ h => at_ok (show atErr (turnF f) (pathInts (mirF f x.p)) = 0 by
    have h2 : pathInts (mirF f x.p) ≠ [] := by
      intro e; have := congrArg List.length e; rw [List.length_map, mir_len] at this
      exact path_ne xm (List.eq_nil_of_length_eq_zero this)
    unfold atErr placeErr
    rw [if_neg h2, plT, t0]; rfl) plT h)
  have o0 := one_ok pl h0
  have TO := Lib.hid (fun W y (h : Lies W y (.cons x.h x.ks .nil)) => tturn_any (.cons x.h x.ks .nil) y W h (small_ok o0))
  rw [turn_val o0, show turnF (.cons x.h x.ks .nil) = .cons x.h (turnF x.ks) .nil from rfl] at TO
  have MLN := mir_len x.p f
  have dl : decide ((0 : Int) < (f.len : Int)) = true := by simp; omega
  have dn : decide (0 < f.len) = true := by simpa using hlen
  generalize mirF f x.p = q at *
  generalize x.p = p at *
  generalize turnF x.ks = Q at *
  generalize x.h = xh at *
  generalize x.ks = xk at *
  rw [show inBnd (f.app g) = (f.app g, 0) by unfold inBnd; rw [if_pos hb]] at CC
  have TG := Lib.hid (fun W (hW : Below w.heap.size w W) => tturn_any g u W (lies_below hg hW) gs)
  rw [turn_val g0] at TG
  have u0 := turn_err hu
  have CT := Lib.hid (fun W x y (h1 : Lies W x (turnF g)) (h2 : Lies W y (turnF f)) => tconcat_any (turnF g) (turnF f) x y W h1 h2 ys ts)
  rw [app_ok y0 t0, ← turn_app, show inBnd (turnF (f.app g)) = (turnF (f.app g), 0) by unfold inBnd; rw [if_pos (by have := fo_zero.1 u0; unfold bndErr; rw [if_neg (by omega), if_neg (by omega)])]] at CT
  have TB := Lib.hid (fun W x (h : Lies W x (f.app g)) => tturn_any (f.app g) x W h (small_ok hu))
  rw [turn_val hu] at TB
  generalize turnF (f.app g) = U at *
  generalize turnF g = Z at *
  generalize f.app g = BB at *
  generalize turnF f = T at *
  have x1 : ((f.size : Int) != (f.size : Int)) = false := by simp
  have x2 : ((f.deep : Int) != (f.deep : Int)) = false := by simp
  have BX0 := Below.refl w.heap.size w
  obtain ⟨a, cap, rfl⟩ := lies_form hl
  obtain ⟨a', cap', rfl⟩ := lies_form hg
  clear hl hg hf hf2 h0 g0 hs gs t0 ts y0 ys hlen hb hu u0 xm pl px hsz hpx plT o0 hx hk
  go_enter Tryz.func12, Tryz.ntmps12
  go_wp2_with fail
  refine (FF.out).mono ?_
  rintro e X1 ⟨rfl, hb1⟩
  have BX1 : Below w.heap.size w X1 := BX0.trans (hb1.mono BX0.size)
  clear hb1
  go_wp2_with fail
  refine (FG.out X1 BX1).mono ?_
  rintro e X2 ⟨rfl, hb2⟩
  have BX2 : Below w.heap.size w X2 := BX1.trans (hb2.mono BX1.size)
  clear hb2
  go_wp2_with fail
  refine (TU.out X2 BX2).mono ?_
  rintro e X3 ⟨a3, c3, rfl, hT, hb3⟩
  have BX3 : Below w.heap.size w X3 := BX2.trans (hb3.mono BX2.size)
  have HT := Lib.hid (liesF_lies hT)
  clear hT TU
  clear hb3
  go_wp2_with fail
  refine (TT.out X3 _ HT.out).mono ?_
  rintro e X4 ⟨a4, c4, rfl, hY, hb4⟩
  have BX4 : Below w.heap.size w X4 := BX3.trans (hb4.mono BX3.size)
  have HT := Lib.hid (lies_below HT.out hb4)
  have HY := Lib.hid (liesF_lies hY)
  clear hY TT
  clear hb4
  go_wp2_with fail
  refine (SZ.out X4 BX4).mono ?_
  rintro e X5 ⟨rfl, hb5⟩
  have BX5 : Below w.heap.size w X5 := BX4.trans (hb5.mono BX4.size)
  have HT := Lib.hid (lies_below HT.out hb5)
  have HY := Lib.hid (lies_below HY.out hb5)
  clear hb5
  go_wp2_with fail
  refine (ST.out X5 _ HT.out).mono ?_
  rintro e X6 ⟨rfl, hb6⟩
  have BX6 : Below w.heap.size w X6 := BX5.trans (hb6.mono BX5.size)
  have HT := Lib.hid (lies_below HT.out hb6)
  have HY := Lib.hid (lies_below HY.out hb6)
  clear hb6
  go_wp2_with fail
  refine (DP.out X6 BX6).mono ?_
  rintro e X7 ⟨rfl, hb7⟩
  have BX7 : Below w.heap.size w X7 := BX6.trans (hb7.mono BX6.size)
  have HT := Lib.hid (lies_below HT.out hb7)
  have HY := Lib.hid (lies_below HY.out hb7)
  clear hb7
  go_wp2_with fail
  refine (DT.out X7 _ HT.out).mono ?_
  rintro e X8 ⟨rfl, hb8⟩
  have BX8 : Below w.heap.size w X8 := BX7.trans (hb8.mono BX7.size)
  have HT := Lib.hid (lies_below HT.out hb8)
  have HY := Lib.hid (lies_below HY.out hb8)
  clear hb8
  clear SZ ST DP DT
  go_wp2_with fail
  refine (SR.out _ _ _ X8 HY.out (FL.out X8 BX8)).mono ?_
  rintro e X9 ⟨rfl, hb9⟩
  have BX9 : Below w.heap.size w X9 := BX8.trans (hb9.mono BX8.size)
  have HT := Lib.hid (lies_below HT.out hb9)
  have HY := Lib.hid (lies_below HY.out hb9)
  clear hb9
  clear HY
  go_wp2_with fail
  refine (CH.out X9 BX9).mono ?_
  rintro e X10 ⟨aP, cP, rfl, hP, hb10⟩
  have BX10 : Below w.heap.size w X10 := BX9.trans (hb10.mono BX9.size)
  have HT := Lib.hid (lies_below HT.out hb10)
  have HP := Lib.hid (intsF_lies hP)
  clear hP CH
  clear hb10
  go_wp2_with fail
  refine (AT.out X10 BX10 _ HP.out).mono ?_
  rintro e X11 ⟨aa1, ca1, ak1, ck1, rfl, hA, hK, hb11⟩
  have BX11 : Below w.heap.size w X11 := BX10.trans (hb11.mono BX10.size)
  have HT := Lib.hid (lies_below HT.out hb11)
  have HP := Lib.hid (ints_below HP.out hb11)
  unfold aggOf
  have HA := Lib.hid hA
  have HK := Lib.hid hK
  clear hA hK AT
  clear hb11
  go_upto_region 14 with fail
  have kk := World.alloc_heap_new X11 (.cells #[.int .i64 xh.k, .string ⟨xh.l.toArray⟩, .slice aa1 xh.ats.length ca1, .int .i64 xh.n, .int .i64 xh.d, .string ⟨xh.x.toArray⟩, .slice ak1 xk.len ck1] 43)
  have hb12 : Below X11.heap.size X11 (X11.alloc (.cells #[.int .i64 xh.k, .string ⟨xh.l.toArray⟩, .slice aa1 xh.ats.length ca1, .int .i64 xh.n, .int .i64 xh.d, .string ⟨xh.x.toArray⟩, .slice ak1 xk.len ck1] 43)) := (Below.refl _ _).alloc (Nat.le_refl _) _
  have zt1 : X11.heap.size < (X11.alloc (.cells #[.int .i64 xh.k, .string ⟨xh.l.toArray⟩, .slice aa1 xh.ats.length ca1, .int .i64 xh.n, .int .i64 xh.d, .string ⟨xh.x.toArray⟩, .slice ak1 xk.len ck1] 43)).heap.size := by simp
  generalize X11.alloc (.cells #[.int .i64 xh.k, .string ⟨xh.l.toArray⟩, .slice aa1 xh.ats.length ca1, .int .i64 xh.n, .int .i64 xh.d, .string ⟨xh.x.toArray⟩, .slice ak1 xk.len ck1] 43) = X12 at *
  have BX12 : Below w.heap.size w X12 := BX11.trans (hb12.mono BX11.size)
  have Kt1 := Lib.hid kk
  clear kk
  have HT := Lib.hid (lies_below HT.out hb12)
  have HP := Lib.hid (ints_below HP.out hb12)
  have HA := Lib.hid (attrs_below HA.out hb12)
  have HK := Lib.hid (lies_below HK.out hb12)
  obtain ⟨t1, ht⟩ : ∃ t, t = X11.heap.size := ⟨_, rfl⟩
  rw [← ht] at Kt1 zt1
  rw [← ht]
  clear ht hb12
  go_wp2_with fail
  refine (MI.out X12 BX12 _ HP.out).mono ?_
  rintro e X13 ⟨aQ, cQ, rfl, hQ, hb13⟩
  have BX13 : Below w.heap.size w X13 := BX12.trans (hb13.mono BX12.size)
  have HT := Lib.hid (lies_below HT.out hb13)
  have HP := Lib.hid (ints_below HP.out hb13)
  have HA := Lib.hid (attrs_below HA.out hb13)
  have HK := Lib.hid (lies_below HK.out hb13)
  have Kt1 := Lib.hid ((hb13.block _ zt1).trans Kt1.out)
  have zt1 := Nat.lt_of_lt_of_le zt1 hb13.size
  have HQ := Lib.hid (intsF_lies hQ)
  clear hQ MI
  clear hb13
  clear HP
  go_wp2_with fail
  refine (AX.out X13 _ _ HT.out HQ.out).mono ?_
  rintro e X14 ⟨aa2, ca2, ak2, ck2, rfl, hB, hL, hb14⟩
  have BX14 : Below w.heap.size w X14 := BX13.trans (hb14.mono BX13.size)
  have HT := Lib.hid (lies_below HT.out hb14)
  have HA := Lib.hid (attrs_below HA.out hb14)
  have HK := Lib.hid (lies_below HK.out hb14)
  have HQ := Lib.hid (ints_below HQ.out hb14)
  have Kt1 := Lib.hid ((hb14.block _ zt1).trans Kt1.out)
  have zt1 := Nat.lt_of_lt_of_le zt1 hb14.size
  unfold aggOf
  have HB := Lib.hid hB
  have HL := Lib.hid hL
  clear hB hL AX
  clear hb14
  clear HQ
  go_upto_region 15 with fail
  have kk := World.alloc_heap_new X14 (.cells #[.int .i64 xh.k, .string ⟨xh.l.toArray⟩, .slice aa2 xh.ats.length ca2, .int .i64 xh.n, .int .i64 xh.d, .string ⟨xh.x.toArray⟩, .slice ak2 Q.len ck2] 43)
  have hb15 : Below X14.heap.size X14 (X14.alloc (.cells #[.int .i64 xh.k, .string ⟨xh.l.toArray⟩, .slice aa2 xh.ats.length ca2, .int .i64 xh.n, .int .i64 xh.d, .string ⟨xh.x.toArray⟩, .slice ak2 Q.len ck2] 43)) := (Below.refl _ _).alloc (Nat.le_refl _) _
  have zt2 : X14.heap.size < (X14.alloc (.cells #[.int .i64 xh.k, .string ⟨xh.l.toArray⟩, .slice aa2 xh.ats.length ca2, .int .i64 xh.n, .int .i64 xh.d, .string ⟨xh.x.toArray⟩, .slice ak2 Q.len ck2] 43)).heap.size := by simp
  generalize X14.alloc (.cells #[.int .i64 xh.k, .string ⟨xh.l.toArray⟩, .slice aa2 xh.ats.length ca2, .int .i64 xh.n, .int .i64 xh.d, .string ⟨xh.x.toArray⟩, .slice ak2 Q.len ck2] 43) = X15 at *
  have BX15 : Below w.heap.size w X15 := BX14.trans (hb15.mono BX14.size)
  have Kt2 := Lib.hid kk
  clear kk
  have HT := Lib.hid (lies_below HT.out hb15)
  have HA := Lib.hid (attrs_below HA.out hb15)
  have HK := Lib.hid (lies_below HK.out hb15)
  have HB := Lib.hid (attrs_below HB.out hb15)
  have HL := Lib.hid (lies_below HL.out hb15)
  have Kt1 := Lib.hid ((hb15.block _ zt1).trans Kt1.out)
  have zt1 := Nat.lt_of_lt_of_le zt1 hb15.size
  obtain ⟨t2, ht⟩ : ∃ t, t = X14.heap.size := ⟨_, rfl⟩
  rw [← ht] at Kt2 zt2
  rw [← ht]
  clear ht hb15
  have d0 : X15.cell? ⟨t1, 0, none⟩ = some (.int .i64 xh.k) := cell_of_block Kt1.out rfl
  have d1 : X15.cell? ⟨t1, 1, none⟩ = some (.string ⟨xh.l.toArray⟩) := cell_of_block Kt1.out rfl
  have d2 : X15.cell? ⟨t1, 2, none⟩ = some (.slice aa1 xh.ats.length ca1) := cell_of_block Kt1.out rfl
  have d3 : X15.cell? ⟨t1, 3, none⟩ = some (.int .i64 xh.n) := cell_of_block Kt1.out rfl
  have d4 : X15.cell? ⟨t1, 4, none⟩ = some (.int .i64 xh.d) := cell_of_block Kt1.out rfl
  have d5 : X15.cell? ⟨t1, 5, none⟩ = some (.string ⟨xh.x.toArray⟩) := cell_of_block Kt1.out rfl
  have d6 : X15.cell? ⟨t1, 6, none⟩ = some (.slice ak1 xk.len ck1) := cell_of_block Kt1.out rfl
  have kk := World.alloc_heap_new X15 (.cells #[.int .i64 xh.k, .string ⟨xh.l.toArray⟩, .slice aa1 xh.ats.length ca1, .int .i64 xh.n, .int .i64 xh.d, .string ⟨xh.x.toArray⟩, .slice ak1 xk.len ck1] 43)
  have hb16 : Below X15.heap.size X15 (X15.alloc (.cells #[.int .i64 xh.k, .string ⟨xh.l.toArray⟩, .slice aa1 xh.ats.length ca1, .int .i64 xh.n, .int .i64 xh.d, .string ⟨xh.x.toArray⟩, .slice ak1 xk.len ck1] 43)) := (Below.refl _ _).alloc (Nat.le_refl _) _
  have HT := Lib.hid (lies_below HT.out hb16)
  have HA := Lib.hid (attrs_below HA.out hb16)
  have HK := Lib.hid (lies_below HK.out hb16)
  have HB := Lib.hid (attrs_below HB.out hb16)
  have HL := Lib.hid (lies_below HL.out hb16)
  have Kt1 := Lib.hid ((hb16.block _ zt1).trans Kt1.out)
  have zt1 := Nat.lt_of_lt_of_le zt1 hb16.size
  have Kt2 := Lib.hid ((hb16.block _ zt2).trans Kt2.out)
  have zt2 := Nat.lt_of_lt_of_le zt2 hb16.size
  have HR1 := Lib.hid (lies_one kk HA.out HK.out)
  have BX16 : Below w.heap.size w (X15.alloc (.cells #[.int .i64 xh.k, .string ⟨xh.l.toArray⟩, .slice aa1 xh.ats.length ca1, .int .i64 xh.n, .int .i64 xh.d, .string ⟨xh.x.toArray⟩, .slice ak1 xk.len ck1] 43)) := BX15.trans (hb16.mono BX15.size)
  clear kk hb16
  go_wp2_with fail
  generalize X15.alloc (.cells #[.int .i64 xh.k, .string ⟨xh.l.toArray⟩, .slice aa1 xh.ats.length ca1, .int .i64 xh.n, .int .i64 xh.d, .string ⟨xh.x.toArray⟩, .slice ak1 xk.len ck1] 43) = X16 at *
  clear d0 d1 d2 d3 d4 d5 d6 Kt1 zt1

  refine (TO.out X16 _ HR1.out).mono ?_
  rintro e X17 ⟨a5, c5, rfl, hV, hb17⟩
  have BX17 : Below w.heap.size w X17 := BX16.trans (hb17.mono BX16.size)
  have HT := Lib.hid (lies_below HT.out hb17)
  have HA := Lib.hid (attrs_below HA.out hb17)
  have HK := Lib.hid (lies_below HK.out hb17)
  have HB := Lib.hid (attrs_below HB.out hb17)
  have HL := Lib.hid (lies_below HL.out hb17)
  have Kt2 := Lib.hid ((hb17.block _ zt2).trans Kt2.out)
  have zt2 := Nat.lt_of_lt_of_le zt2 hb17.size
  have HV := Lib.hid (liesF_lies hV)
  clear hV TO HR1
  clear hb17
  clear HA HK
  have d0 : X17.cell? ⟨t2, 0, none⟩ = some (.int .i64 xh.k) := cell_of_block Kt2.out rfl
  have d1 : X17.cell? ⟨t2, 1, none⟩ = some (.string ⟨xh.l.toArray⟩) := cell_of_block Kt2.out rfl
  have d2 : X17.cell? ⟨t2, 2, none⟩ = some (.slice aa2 xh.ats.length ca2) := cell_of_block Kt2.out rfl
  have d3 : X17.cell? ⟨t2, 3, none⟩ = some (.int .i64 xh.n) := cell_of_block Kt2.out rfl
  have d4 : X17.cell? ⟨t2, 4, none⟩ = some (.int .i64 xh.d) := cell_of_block Kt2.out rfl
  have d5 : X17.cell? ⟨t2, 5, none⟩ = some (.string ⟨xh.x.toArray⟩) := cell_of_block Kt2.out rfl
  have d6 : X17.cell? ⟨t2, 6, none⟩ = some (.slice ak2 Q.len ck2) := cell_of_block Kt2.out rfl
  have kk := World.alloc_heap_new X17 (.cells #[.int .i64 xh.k, .string ⟨xh.l.toArray⟩, .slice aa2 xh.ats.length ca2, .int .i64 xh.n, .int .i64 xh.d, .string ⟨xh.x.toArray⟩, .slice ak2 Q.len ck2] 43)
  have hb18 : Below X17.heap.size X17 (X17.alloc (.cells #[.int .i64 xh.k, .string ⟨xh.l.toArray⟩, .slice aa2 xh.ats.length ca2, .int .i64 xh.n, .int .i64 xh.d, .string ⟨xh.x.toArray⟩, .slice ak2 Q.len ck2] 43)) := (Below.refl _ _).alloc (Nat.le_refl _) _
  have HT := Lib.hid (lies_below HT.out hb18)
  have HB := Lib.hid (attrs_below HB.out hb18)
  have HL := Lib.hid (lies_below HL.out hb18)
  have HV := Lib.hid (lies_below HV.out hb18)
  have Kt2 := Lib.hid ((hb18.block _ zt2).trans Kt2.out)
  have zt2 := Nat.lt_of_lt_of_le zt2 hb18.size
  have HR2 := Lib.hid (lies_one kk HB.out HL.out)
  have BX18 : Below w.heap.size w (X17.alloc (.cells #[.int .i64 xh.k, .string ⟨xh.l.toArray⟩, .slice aa2 xh.ats.length ca2, .int .i64 xh.n, .int .i64 xh.d, .string ⟨xh.x.toArray⟩, .slice ak2 Q.len ck2] 43)) := BX17.trans (hb18.mono BX17.size)
  clear kk hb18
  go_wp2_with fail
  generalize X17.alloc (.cells #[.int .i64 xh.k, .string ⟨xh.l.toArray⟩, .slice aa2 xh.ats.length ca2, .int .i64 xh.n, .int .i64 xh.d, .string ⟨xh.x.toArray⟩, .slice ak2 Q.len ck2] 43) = X18 at *
  clear d0 d1 d2 d3 d4 d5 d6 Kt2 zt2

  refine (SR.out _ _ _ X18 HV.out HR2.out).mono ?_
  rintro e X19 ⟨rfl, hb19⟩
  have BX19 : Below w.heap.size w X19 := BX18.trans (hb19.mono BX18.size)
  have HT := Lib.hid (lies_below HT.out hb19)
  have HB := Lib.hid (attrs_below HB.out hb19)
  have HL := Lib.hid (lies_below HL.out hb19)
  have HV := Lib.hid (lies_below HV.out hb19)
  clear HR2
  clear hb19
  clear HV HB HL
  go_wp2_with fail
  refine (CC.out X19 BX19).mono ?_
  rintro e X20 ⟨v6, rfl, hC, hb20⟩
  have BX20 : Below w.heap.size w X20 := BX19.trans (hb20.mono BX19.size)
  have HT := Lib.hid (lies_below HT.out hb20)
  have HC := Lib.hid (liesF_lies hC)
  obtain ⟨a6, c6, rfl⟩ := liesF_form hC
  clear hC CC
  clear hb20
  go_wp2_with fail
  refine (TG.out X20 BX20).mono ?_
  rintro e X21 ⟨a7, c7, rfl, hZ, hb21⟩
  have BX21 : Below w.heap.size w X21 := BX20.trans (hb21.mono BX20.size)
  have HT := Lib.hid (lies_below HT.out hb21)
  have HC := Lib.hid (lies_below HC.out hb21)
  have HZ := Lib.hid (liesF_lies hZ)
  clear hZ TG
  clear hb21
  go_wp2_with fail
  refine (CT.out X21 _ _ HZ.out HT.out).mono ?_
  rintro e X22 ⟨v8, rfl, hW, hb22⟩
  have BX22 : Below w.heap.size w X22 := BX21.trans (hb22.mono BX21.size)
  have HT := Lib.hid (lies_below HT.out hb22)
  have HC := Lib.hid (lies_below HC.out hb22)
  have HZ := Lib.hid (lies_below HZ.out hb22)
  have HW := Lib.hid (liesF_lies hW)
  obtain ⟨a8, c8, rfl⟩ := liesF_form hW
  clear hW CT
  clear hb22
  clear HZ HT
  go_wp2_with fail
  refine (TB.out X22 _ HC.out).mono ?_
  rintro e X23 ⟨a9, c9, rfl, hG, hb23⟩
  have BX23 : Below w.heap.size w X23 := BX22.trans (hb23.mono BX22.size)
  have HC := Lib.hid (lies_below HC.out hb23)
  have HW := Lib.hid (lies_below HW.out hb23)
  have HG := Lib.hid (liesF_lies hG)
  clear hG TB
  clear hb23
  clear HC
  go_wp2_with fail
  refine (SR.out _ _ _ X23 HG.out HW.out).mono ?_
  rintro e X24 ⟨rfl, hb24⟩
  have BX24 : Below w.heap.size w X24 := BX23.trans (hb24.mono BX23.size)
  have HW := Lib.hid (lies_below HW.out hb24)
  have HG := Lib.hid (lies_below HG.out hb24)
  clear hb24
  clear HG HW
  go_wp2_with fail
  refine (GR.out _).mono ?_
  rintro e X25 ⟨rfl, hb25⟩
  have BX25 : Below w.heap.size w X25 := BX24.trans (hb25.mono BX24.size)
  clear hb25
  go_wp2_with fail
  go_ret
  exact ⟨rfl, BX25⟩


theorem turned_law (f : Fo) (v : Value) (g : Fo) (u : Value) (a : Int) (w : World) (hl : Lies w v f) (hg : Lies w u g) (ha : 0 ≤ a ∧ a ≤ 65535) :
    Calls Tryz.prog 12 #[v, u, .int .u16 a] w fun e w' => e = .returned (.bool true) ∧ Below w.heap.size w w' := by
  cases hf : fitB f with
  | false => exact turned_unfit1 f g v u a w hl hg hf
  | true =>
    cases hf2 : fitB g with
    | false => exact turned_unfit2 f g v u a w hl hg hf hf2
    | true =>
      by_cases hlen : f.len = 0
      · rcases app_bnd (fit_parts hf).2 (fit_parts hf2).2 with ⟨hb, hu⟩ | hb
        · exact turned_none f g v u a w hl hg hf hf2 hlen hb hu
        · exact turned_noneErr f g v u a w hl hg hf hf2 hlen hb
      · obtain ⟨m, rfl⟩ : ∃ m : Nat, a = (m : Int) := ⟨a.toNat, by omega⟩
        have hn := len_size f
        have hk : Int.tmod (m : Int) (f.size : Int) = ((m % f.size : Nat) : Int) := rfl
        have hlt : m % f.size < f.size := Nat.mod_lt _ (by omega)
        have len := seqAt_len f [] 0
        have hx := List.getElem?_eq_getElem (l := seqAt [] 0 f) (i := m % f.size) (by omega)
        rcases app_bnd (fit_parts hf).2 (fit_parts hf2).2 with ⟨hb, hu⟩ | hb
        · exact turned_mid f g v u m _ _ w hl hg hf hf2 (by omega) (by omega) hx hk hb hu
        · exact turned_midErr f g v u m _ _ w hl hg hf hf2 (by omega) (by omega) hx hk hb
end Go.Proofs.YtcgedpfolloinaaGreat

namespace Go.Proofs.YtcgedpfolloinaaGreat
open Go.ChangeShapes Go.WideShapes Go.ChangeAt Go.RowKit Go.Deep

theorem mem_all {H : Type} {P : Program} {e : TypeId} : ∀ {ds : List (DataW H)} {d : DataW H}, d ∈ ds → ∀ n ∈ d.weights P e, n ∈ DataW.weightsAll P e ds
  | d' :: r, d, hd, n, hn => by
    simp only [DataW.weightsAll, List.mem_append]
    rcases List.mem_cons.1 hd with rfl | hd
    · exact .inl hn
    · exact .inr (mem_all hd n hn)
theorem bytesAttr : Tryz.prog.bytesOf 81 = 32 := by kernel_rfl
theorem bytesTree : Tryz.prog.bytesOf 43 = 104 := by kernel_rfl
theorem cellsAttr : Tryz.prog.cellsOf 81 = 2 := by kernel_rfl
theorem cellsHead : Tryz.prog.cellsOf 27 = 6 := by kernel_rfl
theorem cellsTree : Tryz.prog.cellsOf 43 = 7 := by kernel_rfl
theorem cellsNumT : Tryz.prog.cellsOf 25 = 2 := by kernel_rfl
theorem cellsKind : Tryz.prog.cellsOf 22 = 1 := by kernel_rfl
theorem cellsStr : Tryz.prog.cellsOf 9 = 1 := by kernel_rfl
theorem cellsAttrs : Tryz.prog.cellsOf 23 = 1 := by kernel_rfl
theorem cellsTrees : Tryz.prog.cellsOf 28 = 1 := by kernel_rfl
theorem cellsInt : Tryz.prog.cellsOf 3 = 1 := by kernel_rfl
/-- no string, no slice of a datum is larger than memory. -/
def Fits {H : Type} (t : TypeId) (d : DataW H) : Prop := ∀ n ∈ d.weights Tryz.prog t, n ≤ reachBytes
theorem str_list (s : ByteArray) : ∃ l : List UInt8, s = ⟨l.toArray⟩ := ⟨s.data.toList, by cases s; simp⟩
theorem lt_of_cell' {w : World} {b o : Nat} {v : Value} (h : w.cell? ⟨b, o, none⟩ = some v) : b < w.heap.size := by
  by_cases hb : b < w.heap.size
  · exact hb
  · exfalso
    have : w.heap[b]? = none := Array.getElem?_eq_none (by omega)
    unfold World.cell? at h
    simp [this] at h

theorem tfields : ∃ a b, Tryz.prog.underlying 43 = some (.struct #[a, b]) ∧ a.type = 27 ∧ a.offset = 0 ∧ b.type = 28 ∧ b.offset = 6 := ⟨_, _, Tryz.underlying43, rfl, rfl, rfl, rfl⟩
theorem hfields : ∃ a b c d e, Tryz.prog.underlying 27 = some (.struct #[a, b, c, d, e]) ∧ (a.type = 22 ∧ a.offset = 0) ∧ (b.type = 9 ∧ b.offset = 1) ∧ (c.type = 23 ∧ c.offset = 2) ∧ (d.type = 25 ∧ d.offset = 3) ∧ (e.type = 9 ∧ e.offset = 5) :=
  ⟨_, _, _, _, _, Tryz.underlying27, ⟨rfl, rfl⟩, ⟨rfl, rfl⟩, ⟨rfl, rfl⟩, ⟨rfl, rfl⟩, ⟨rfl, rfl⟩⟩
theorem nfields : ∃ a b, Tryz.prog.underlying 25 = some (.struct #[a, b]) ∧ a.type = 3 ∧ a.offset = 0 ∧ b.type = 3 ∧ b.offset = 1 := ⟨_, _, Tryz.underlying25, rfl, rfl, rfl, rfl⟩
theorem afields : ∃ a b, Tryz.prog.underlying 81 = some (.struct #[a, b]) ∧ a.type = 9 ∧ a.offset = 0 ∧ b.type = 9 ∧ b.offset = 1 := ⟨_, _, Tryz.underlying81, rfl, rfl, rfl, rfl⟩

section
variable {H : Type} {enc : TypeId × Value → H} {W : World} {held : Bool}

set_option maxRecDepth 100000 in
theorem attrs_open {fuel : Nat} {v : Value} {x : DataW H × List MemPlace} (h : DataW.trod enc Tryz.prog W 0 (fun _ => true) held fuel 23 [v] = some x) (hf : Fits 23 x.1) : ∃ ats, AttrsLie W v ats := by
  obtain ⟨fa, fb, hu, ta, oa, tb, ob⟩ := afields
  rcases open_slice_pairs Tryz.underlying23 hu cellsAttr oa ob (by rw [ta]; exact cellsStr) (by rw [tb]; exact cellsStr) h with ⟨hcs, hx⟩ | ⟨a, len, cap, m, n, V0, V1, D0, D1, P0, P1, hcs, _, hle, hmax, hm, hx, hi⟩
  · simp at hcs
    subst hcs
    exact ⟨[], .inl ⟨_, _, rfl, rfl⟩⟩
  · simp at hcs
    subst hcs
    simp only [if_true] at hm
    by_cases h0 : len = 0
    · subst h0; exact ⟨[], .inl ⟨_, _, rfl, rfl⟩⟩
    · have hw : (len + (m - len)) * 32 ≤ reachBytes := by
        have := hf ((len + (m - len)) * Tryz.prog.bytesOf 81) (by
          subst hx
          simp only [DataW.weights, Tryz.underlying23]
          simp)
        rwa [bytesAttr] at this
      have hi' : ∀ i, i < len → ∃ x y : List UInt8, W.cell? (a.add (i * 2)) = some (.string ⟨x.toArray⟩) ∧ W.cell? (a.add (i * 2 + 1)) = some (.string ⟨y.toArray⟩) := by
        intro i hl
        obtain ⟨h1, h2, h3, h4⟩ := hi i (by omega)
        rw [ta] at h3
        rw [tb] at h4
        obtain ⟨x, e1, _, _⟩ := DataW.trod_string Tryz.underlying9 h3
        obtain ⟨y, e2, _, _⟩ := DataW.trod_string Tryz.underlying9 h4
        simp only [List.cons.injEq, and_true] at e1 e2
        obtain ⟨x, rfl⟩ := str_list x
        obtain ⟨y, rfl⟩ := str_list y
        exact ⟨x, y, by rw [h1, e1], by rw [h2, e2]⟩
      obtain ⟨b, off, spot⟩ := a
      obtain ⟨x0, y0, c0, _⟩ := hi' 0 (by omega)
      have hspot : spot = none := by simpa [Addr.add] using World.cell?_spot c0
      subst hspot
      have hb : b < W.heap.size := by
        rw [Go.WideShapes.add_plain] at c0
        exact lt_of_cell' c0
      have e : ∀ i, i < len → ∃ q : List UInt8 × List UInt8, W.cell? ⟨b, off + i * 2, none⟩ = some (.string ⟨q.1.toArray⟩) ∧ W.cell? ⟨b, off + i * 2 + 1, none⟩ = some (.string ⟨q.2.toArray⟩) := by
        intro i hl
        obtain ⟨x, y, h1, h2⟩ := hi' i hl
        rw [Go.WideShapes.add_plain] at h1 h2
        exact ⟨(x, y), h1, by rw [Nat.add_assoc]; exact h2⟩
      obtain ⟨q, hq⟩ := choose_lt e
      have hl : ((List.range len).map q).length = len := by simp
      refine ⟨(List.range len).map q, .inr ⟨b, off, cap, by rw [hl], by rw [hl]; exact hle, by rw [hl]; unfold reachBytes at hw; omega, hb, fun k hk => ?_⟩⟩
      have hk' : k < len := by rwa [hl] at hk
      have g : ((List.range len).map q).getD k ([], []) = q k := by
        rw [List.getD_eq_getElem?_getD]; simp [hk']
      rw [g]
      exact hq k hk'

set_option maxRecDepth 100000 in
theorem head_open {fuel : Nat} {cs : List Value} {x : DataW H × List MemPlace} (h : DataW.trod enc Tryz.prog W 0 (fun _ => true) held fuel 27 cs = some x) (hf : Fits 27 x.1) :
    ∃ (hd : Hd) (va : Value), cs = [.int .i64 hd.k, .string ⟨hd.l.toArray⟩, va, .int .i64 hd.n, .int .i64 hd.d, .string ⟨hd.x.toArray⟩] ∧ AttrsLie W va hd.ats := by
  obtain ⟨fa, fb, fc, fd, fe, hu, ⟨ta, oa⟩, ⟨tb, ob⟩, ⟨tc, oc⟩, ⟨td, od⟩, te, oe⟩ := hfields
  obtain ⟨xs, n, _, hx, hlen, hxl, hi⟩ := DataW.trod_struct hu h
  rw [cellsHead] at hlen
  obtain ⟨c0, c1, c2, c3, c4, c5, rfl⟩ : ∃ c0 c1 c2 c3 c4 c5, cs = [c0, c1, c2, c3, c4, c5] := by
    match cs, hlen with
    | [c0, c1, c2, c3, c4, c5], _ => exact ⟨c0, c1, c2, c3, c4, c5, rfl⟩
  obtain ⟨x0, x1, x2, x3, x4, rfl⟩ : ∃ x0 x1 x2 x3 x4, xs = [x0, x1, x2, x3, x4] := by
    match xs, hxl with
    | [x0, x1, x2, x3, x4], _ => exact ⟨x0, x1, x2, x3, x4, rfl⟩
  have i0 := hi 0 fa rfl
  have i1 := hi 1 fb rfl
  have i2 := hi 2 fc rfl
  have i3 := hi 3 fd rfl
  have i4 := hi 4 fe rfl
  rw [ta, oa, cellsKind] at i0
  rw [tb, ob, cellsStr] at i1
  rw [tc, oc, cellsAttrs] at i2
  rw [td, od, cellsNumT] at i3
  rw [te, oe, cellsStr] at i4
  simp at i0 i1 i2 i3 i4
  obtain ⟨k, e0, _, _⟩ := DataW.trod_int Tryz.underlying22 i0
  obtain ⟨l, e1, _, _⟩ := DataW.trod_string Tryz.underlying9 i1
  obtain ⟨t, e4, _, _⟩ := DataW.trod_string Tryz.underlying9 i4
  obtain ⟨ats, ha⟩ := attrs_open i2 (fun m hm => hf m (by
    subst hx
    simp only [DataW.weights, hu]
    refine DataW.weights_mem_each (j := 2) (t := 23) (d := x2.1) (by simp [tc]) (by simp) m hm))
  obtain ⟨na, nb, hun, tna, ona, tnb, onb⟩ := nfields
  obtain ⟨ys, n2, _, _, _, hyl, hj⟩ := DataW.trod_struct hun i3
  obtain ⟨y0, y1, rfl⟩ : ∃ y0 y1, ys = [y0, y1] := by
    match ys, hyl with
    | [y0, y1], _ => exact ⟨y0, y1, rfl⟩
  have j0 := hj 0 na rfl
  have j1 := hj 1 nb rfl
  rw [tna, ona, cellsInt] at j0
  rw [tnb, onb, cellsInt] at j1
  simp at j0 j1
  obtain ⟨n', g0, _, _⟩ := DataW.trod_int Tryz.underlying3 j0
  obtain ⟨d', g1, _, _⟩ := DataW.trod_int Tryz.underlying3 j1
  simp only [List.cons.injEq, and_true] at e0 e1 e4 g0 g1
  obtain ⟨l, rfl⟩ := str_list l
  obtain ⟨t, rfl⟩ := str_list t
  exact ⟨⟨k, l, ats, n', d', t⟩, c2, by rw [e0, e1, e4, g0, g1], ha⟩

def foOf : List (Hd × Fo) → Fo
  | [] => .nil
  | x :: r => .cons x.1 x.2 (foOf r)
theorem foOf_len : ∀ l : List (Hd × Fo), (foOf l).len = l.length
  | [] => rfl
  | x :: r => by simp only [foOf, Fo.len, List.length_cons, foOf_len r]
theorem foOf_row {b : Nat} : ∀ (l : List (Hd × Fo)) (o : Nat), (∀ k (hk : k < l.length), HdAt W (l[k]).1 b (o + k * 7) ∧ ∃ v, W.cell? ⟨b, o + k * 7 + 6, none⟩ = some v ∧ Lies W v (l[k]).2) → RowAt W (foOf l) b o
  | [], _, _ => trivial
  | x :: r, o, hk => by
    have h0 := hk 0 (by simp)
    simp only [Nat.zero_mul, Nat.add_zero, List.getElem_cons_zero] at h0
    refine rowAt_cons.2 ⟨h0.1, h0.2, foOf_row r (o + 7) fun k h => ?_⟩
    have := hk (k + 1) (by simpa using h)
    simp only [List.getElem_cons_succ] at this
    rw [show o + (k + 1) * 7 = o + 7 + k * 7 by omega] at this
    exact this
instance : Inhabited (Hd × Fo) := ⟨(⟨0, [], [], 0, 0, []⟩, .nil)⟩

set_option maxRecDepth 100000 in
theorem trees_open : ∀ (fuel : Nat) {v : Value} {x : DataW H × List MemPlace}, DataW.trod enc Tryz.prog W 0 (fun _ => true) held fuel 28 [v] = some x → Fits 28 x.1 → ∃ f, Lies W v f
  | 0, v, x, h, _ => by simp [DataW.trod] at h
  | 1, v, x, h, hf => by
    rcases DataW.trod_slice Tryz.underlying28 h with ⟨hcs, _⟩ | ⟨a, len, cap, elems, rest, n, hn, hcs, hx, _, hle, hmax, hlen, hel, hsp, _⟩
    · simp at hcs; subst hcs; exact ⟨.nil, .inl ⟨_, _, rfl, rfl⟩⟩
    · simp at hcs
      subst hcs
      obtain rfl : n = 0 := by omega
      cases len with
      | zero => exact ⟨.nil, .inl ⟨_, _, rfl, rfl⟩⟩
      | succ len =>
        have h0 := hel 0 (by omega)
        rw [List.getElem?_eq_getElem (by omega)] at h0
        obtain ⟨cs', _, h2⟩ := Option.bind_eq_some_iff.1 h0
        simp [DataW.trod] at h2
  | fuel + 2, v, x, h, hf => by
    rcases DataW.trod_slice Tryz.underlying28 h with ⟨hcs, _⟩ | ⟨a, len, cap, elems, rest, n, hn, hcs, hx, _, hle, hmax, hlen, hel, hsp, _⟩
    · simp at hcs; subst hcs; exact ⟨.nil, .inl ⟨_, _, rfl, rfl⟩⟩
    · simp at hcs
      subst hcs
      obtain rfl : n = fuel + 1 := by omega
      by_cases h0 : len = 0
      · subst h0; exact ⟨.nil, .inl ⟨_, _, rfl, rfl⟩⟩
      · have hw : (elems.length + rest.length) * 104 ≤ reachBytes := by
          have := hf ((elems.length + rest.length) * Tryz.prog.bytesOf 43) (by
            subst hx
            simp only [DataW.weights, Tryz.underlying28]
            simp)
          rwa [bytesTree] at this
        have hi' : ∀ i, i < len → ∃ q : Hd × Fo, (∃ va, W.cell? (a.add (i * 7)) = some (.int .i64 q.1.k) ∧ W.cell? (a.add (i * 7 + 1)) = some (.string ⟨q.1.l.toArray⟩) ∧ W.cell? (a.add (i * 7 + 2)) = some va ∧ AttrsLie W va q.1.ats ∧
            W.cell? (a.add (i * 7 + 3)) = some (.int .i64 q.1.n) ∧ W.cell? (a.add (i * 7 + 4)) = some (.int .i64 q.1.d) ∧ W.cell? (a.add (i * 7 + 5)) = some (.string ⟨q.1.x.toArray⟩)) ∧ ∃ vk, W.cell? (a.add (i * 7 + 6)) = some vk ∧ Lies W vk q.2 := by
          intro i hl
          have hi := hel i hl
          rw [cellsTree, List.getElem?_eq_getElem (by omega)] at hi
          obtain ⟨cs', hc, ht⟩ := Option.bind_eq_some_iff.1 hi
          obtain ⟨_, hcl, hcc⟩ := World.cells?_some hc
          obtain ⟨fa, fb, hu, ta, oa, tb, ob⟩ := tfields
          obtain ⟨xs, m, hm, hxx, _, hxl, hj⟩ := DataW.trod_struct hu ht
          obtain rfl : m = fuel := by omega
          obtain ⟨x0, x1, rfl⟩ : ∃ x0 x1, xs = [x0, x1] := by
            match xs, hxl with
            | [x0, x1], _ => exact ⟨x0, x1, rfl⟩
          obtain ⟨c0, c1, c2, c3, c4, c5, c6, rfl⟩ : ∃ c0 c1 c2 c3 c4 c5 c6, cs' = [c0, c1, c2, c3, c4, c5, c6] := by
            match cs', hcl with
            | [c0, c1, c2, c3, c4, c5, c6], _ => exact ⟨c0, c1, c2, c3, c4, c5, c6, rfl⟩
          have j0 := hj 0 fa rfl
          have j1 := hj 1 fb rfl
          rw [ta, oa, cellsHead] at j0
          rw [tb, ob, cellsTrees] at j1
          simp at j0 j1
          have hfit : Fits 43 (elems[i]).1 := fun n hn => hf n (by
            subst hx
            simp only [DataW.weights, Tryz.underlying28, List.mem_cons, List.mem_append]
            exact .inr (.inl (mem_all (by simp; exact ⟨_, List.getElem_mem _⟩) n hn)))
          rw [hxx] at hfit
          have hf0 : Fits 27 x0.1 := fun n hn => hfit n (by
            simp only [DataW.weights, hu]
            exact DataW.weights_mem_each (j := 0) (t := 27) (d := x0.1) (by simp [ta]) (by simp) n hn)
          have hf1 : Fits 28 x1.1 := fun n hn => hfit n (by
            simp only [DataW.weights, hu]
            exact DataW.weights_mem_each (j := 1) (t := 28) (d := x1.1) (by simp [tb]) (by simp) n hn)
          obtain ⟨hd, va, e, ha⟩ := head_open j0 hf0
          obtain ⟨ks, hk⟩ := trees_open m j1 hf1
          have g : ∀ k (hk : k < 7) u, [c0, c1, c2, c3, c4, c5, c6][k]? = some u → W.cell? (a.add (i * 7 + k)) = some u := fun k hk u hu => by
            rw [← Go.Deep.add_add]; exact (hcc k hk).trans hu
          simp only [List.cons.injEq, and_true] at e
          obtain ⟨rfl, rfl, rfl, rfl, rfl, rfl⟩ := e
          exact ⟨(hd, ks), ⟨c2, g 0 (by omega) _ rfl, g 1 (by omega) _ rfl, g 2 (by omega) _ rfl, ha, g 3 (by omega) _ rfl, g 4 (by omega) _ rfl, g 5 (by omega) _ rfl⟩, c6, g 6 (by omega) _ rfl, hk⟩
        obtain ⟨b, off, spot⟩ := a
        have hspot : spot = none := by
          obtain ⟨q, ⟨va, c0, _⟩, _⟩ := hi' 0 (by omega)
          simpa [Addr.add] using World.cell?_spot c0
        subst hspot
        obtain ⟨q, hq⟩ := choose_lt hi'
        have hb : b < W.heap.size := by
          obtain ⟨⟨va, c0, _⟩, _⟩ := hq 0 (by omega)
          rw [Go.WideShapes.add_plain] at c0
          exact lt_of_cell' c0
        have hl : (foOf ((List.range len).map q)).len = len := by rw [foOf_len]; simp
        refine ⟨foOf ((List.range len).map q), .inr ⟨b, off, cap, by rw [hl], by rw [hl]; exact hle, by rw [hl]; unfold reachBytes at hw; omega, hb, foOf_row _ off fun k hk => ?_⟩⟩
        have hk' : k < len := by simpa using hk
        obtain ⟨⟨va, c0, c1, c2, ha, c3, c4, c5⟩, vk, c6, hk6⟩ := hq k hk'
        rw [Go.WideShapes.add_plain] at c0 c1 c2 c3 c4 c5 c6
        simp only [List.getElem_map, List.getElem_range]
        exact ⟨⟨c0, by rw [Nat.add_assoc]; exact c1, ⟨va, by rw [Nat.add_assoc]; exact c2, ha⟩, by rw [Nat.add_assoc]; exact c3, by rw [Nat.add_assoc]; exact c4, by rw [Nat.add_assoc]; exact c5⟩, vk, by rw [Nat.add_assoc]; exact c6, hk6⟩
end
end Go.Proofs.YtcgedpfolloinaaGreat
