/- What the proof of PrfTreePlaces rests on, part 11 of 11. -/
import Derived.Deep.Slices
import Derived.Deep.SlicePairs
import Derived.ChangeArms
import Derived.SizedLaws
import Derived.Lib.AppendZeros
import Derived.Test.YtcgedpfolloinaaGreatPPrfTreePlaces10
namespace Go.Proofs.YtcgedpfolloinaaGreat
open Go.RowKit

theorem all2_append {α β : Type} {R : α → β → Prop} : ∀ {l l2 : List α} {m m2 : List β}, All2 R l m → All2 R l2 m2 → All2 R (l ++ l2) (m ++ m2)
  | _, _, _, _, .nil, h => h
  | _, _, _, _, .cons h1 h2, h => .cons h1 (all2_append h2 h)
theorem all2_len {α β : Type} {R : α → β → Prop} : ∀ {l : List α} {m : List β}, All2 R l m → m.length = l.length
  | _, _, .nil => rfl
  | _, _, .cons _ h => by simp [all2_len h]
/-- a row of paths that is owned. -/
def PathsO (B : Nat) (W : World) (v : Value) (ps : List (List Nat)) : Prop := ∃ cs, W.ownsRow B 41 1 v ps.length cs ∧ All2 (PathAt B W) ps cs
def StabP (B g : Nat) (W0 : World) (ps : List (List Nat)) (cs : List Value) : Prop :=
  ∀ W : World, W0.heap.size ≤ W.heap.size → (∀ k o, B ≤ k → k < W0.heap.size → k ≠ g → W.cell? ⟨k, o, none⟩ = W0.cell? ⟨k, o, none⟩) → All2 (PathAt B W) ps cs
theorem StabP.next {B g g' : Nat} {W0 W1 : World} {ps : List (List Nat)} {cs : List Value} (h : StabP B g W0 ps cs) (hs : W0.heap.size ≤ W1.heap.size) (hc : ∀ k o, B ≤ k → k < W0.heap.size → k ≠ g → W1.cell? ⟨k, o, none⟩ = W0.cell? ⟨k, o, none⟩) (hg : g' = g ∨ W0.heap.size ≤ g') :
    StabP B g' W1 ps cs := fun W hW hk => h W (Nat.le_trans hs hW) fun k o h1 h2 h3 => (hk k o h1 (Nat.lt_of_lt_of_le h2 hs) (by rcases hg with rfl | hg; exact h3; omega)).trans (hc k o h1 h2 h3)
/-- what an append leaves as it was. -/
theorem grown_cells {X w5 : World} {v : Value} {n cap' g' x B : Nat} {o : Obj} (hgrow : (X.alloc o).grownBy w5 v.ownBlock) (hat : (Value.slice (some ⟨g', 0, none⟩) n cap').ownBlock = v.ownBlock ∨ (Value.slice (some ⟨g', 0, none⟩) n cap').ownBlock = some x) (hx : X.heap.size ≤ x) :
    ∀ W : World, w5.heap.size ≤ W.heap.size → (∀ k o, B ≤ k → k < w5.heap.size → k ≠ g' → W.cell? ⟨k, o, none⟩ = w5.cell? ⟨k, o, none⟩) → ∀ k' o, B ≤ k' → k' < X.heap.size → (∀ j, v.ownBlock = some j → k' ≠ j) → W.cell? ⟨k', o, none⟩ = X.cell? ⟨k', o, none⟩ := by
  intro W hW hc k' o' h1 h2 h3
  have hs := hgrow.size
  simp at hs
  refine (hc k' o' h1 (by omega) ?_).trans (World.cell?_of_block ?_)
  · rcases hat with h | h
    · exact h3 g' (h.symm.trans rfl)
    · have : g' = x := by simpa [Value.ownBlock] using h
      omega
  · rw [hgrow.block k' (by simp; omega) (by intro h; exact h3 k' h.symm rfl), Below.heap_alloc _ _ k' h2]
theorem grown_cells' {X w5 : World} {v : Value} {n cap' g' x B : Nat} (hgrow : X.grownBy w5 v.ownBlock) (hat : (Value.slice (some ⟨g', 0, none⟩) n cap').ownBlock = v.ownBlock ∨ (Value.slice (some ⟨g', 0, none⟩) n cap').ownBlock = some x) (hx : X.heap.size ≤ x) :
    ∀ W : World, w5.heap.size ≤ W.heap.size → (∀ k o, B ≤ k → k < w5.heap.size → k ≠ g' → W.cell? ⟨k, o, none⟩ = w5.cell? ⟨k, o, none⟩) → ∀ k' o, B ≤ k' → k' < X.heap.size → (∀ j, v.ownBlock = some j → k' ≠ j) → W.cell? ⟨k', o, none⟩ = X.cell? ⟨k', o, none⟩ := by
  intro W hW hc k' o' h1 h2 h3
  have hs := hgrow.size
  refine (hc k' o' h1 (by omega) ?_).trans (World.cell?_of_block ?_)
  · rcases hat with h | h
    · exact h3 g' (h.symm.trans rfl)
    · have : g' = x := by simpa [Value.ownBlock] using h
      omega
  · rw [hgrow.block k' h2 (by intro h; exact h3 k' h.symm rfl)]
theorem pathAt_of {B : Nat} {W : World} {a : Option Addr} {c : Nat} {p : List Nat} {k : Nat} (h : IntsF B W (.slice a (p.length + 1) c) (pathInts p ++ [(k : Int)])) : PathAt B W (p ++ [k]) (.slice a (p.length + 1) c) :=
  ⟨a, c, by simp, by simpa using h⟩
abbrev psK (p : List Nat) (f : Fo) (k : Nat) : List (List Nat) := (seqAt p 0 (f.take k)).map (·.p)
theorem psK_succ {p : List Nat} {f : Fo} {k : Nat} {h : Hd} {ks r : Fo} (e : f.drop k = .cons h ks r) : psK p f (k + 1) = (psK p f k ++ [p ++ [k]]) ++ (seqAt (p ++ [k]) 0 ks).map (·.p) := by
  unfold psK
  rw [seqAt_take_succ p 0 e]
  simp

set_option maxRecDepth 100000 in
set_option maxHeartbeats 8000000 in
theorem pathsOf_of (f : Fo) (p : List Nat) (v pv : Value) (w : World) (hl : Lies w v f) (hp : IntsLie w pv (pathInts p)) (hpl : p.length + f.size ≤ 1000000)
    (HT : ∀ hd ks k, k < f.len → f.drop k = .cons hd ks (f.drop (k + 1)) → ∀ v pv w, Lies w v ks → IntsLie w pv (pathInts (p ++ [k])) → Calls Tryz.prog 100 #[v, pv] w fun e w' => ∃ a c, e = .returned (.slice a ((seqAt (p ++ [k]) 0 ks).map (·.p)).length c) ∧ PathsO w.heap.size w' (.slice a ((seqAt (p ++ [k]) 0 ks).map (·.p)).length c) ((seqAt (p ++ [k]) 0 ks).map (·.p)) ∧ Below w.heap.size w w') :
    Calls Tryz.prog 100 #[v, pv] w fun e w' => ∃ a c, e = .returned (.slice a ((seqAt p 0 f).map (·.p)).length c) ∧ PathsO w.heap.size w' (.slice a ((seqAt p 0 f).map (·.p)).length c) ((seqAt p 0 f).map (·.p)) ∧ Below w.heap.size w w' := by
  obtain ⟨i0, hi, hz0, hz1, hz2⟩ := info_parts info_ints2
  have hlen := lies_len hl
  have hlf := Fo.len_le_size f
  have HL := Lib.hid hl
  have HP := Lib.hid hp
  have HT' := Lib.hid HT
  have BL := Lib.hid (fun (k : Nat) W (hW : Below w.heap.size w W) => below_any pv (pathInts p) (k : Int) W (ints_below hp hW) (by simp; omega))
  have HK := Lib.hid (show ∀ k, (psK p f k).length ≤ f.size from fun k => by
    have h1 : (psK p f k).length = (f.take k).size := by unfold psK; rw [List.length_map, seqAt_len]
    have h2 := congrArg Fo.size (Fo.take_app_drop k f)
    rw [Fo.size_app] at h2
    omega)
  obtain ⟨av, cv, rfl⟩ := lies_form hl
  obtain ⟨pa, pc, rfl⟩ := ints_form hp
  simp only [List.length_map] at BL HP
  clear hl hp HT
  go_enter Tryz.func100, Tryz.ntmps100
  go_wp2_with fail
  go_loopw [5, 6] (fun v5 i wr => ∃ (k g : Nat) (a : Option Addr) (cap : Nat) (cs : List Value), i = .int .i64 k ∧ k ≤ f.len ∧ v5 = .slice a (psK p f k).length cap ∧ (∀ b, (Value.slice a (psK p f k).length cap).ownBlock = some b → b = g) ∧ wr.ownsRow w.heap.size 41 1 (.slice a (psK p f k).length cap) (psK p f k).length cs ∧ StabP w.heap.size g wr (psK p f k) cs ∧ Below w.heap.size w wr) (fun _ i _ => f.len - (intOf i).toNat)
  case atStart =>
    have h0 : psK p f 0 = [] := by unfold psK; cases f <;> rfl
    refine ⟨0, 0, none, 0, [], rfl, Nat.zero_le _, by rw [h0]; rfl, fun b hb => by simp [Value.ownBlock] at hb, by rw [h0]; exact ⟨rfl, .inl ⟨rfl, rfl⟩⟩, ?_, Below.refl _ _⟩
    intro W _ _
    rw [h0]
    exact .nil
  case round =>
    obtain ⟨k, g, a, cap, cs, rfl, hk, rfl, hg, hown, hst, hbw⟩ := hrel
    have hsw := hbw.size
    have HOWN := Lib.hid hown
    have HST := Lib.hid hst
    have HG := Lib.hid hg
    have hgl := Lib.hid (fun b (hb : (Value.slice a (psK p f k).length cap).ownBlock = some b) => hown.lt b hb)
    clear hown hst hg
    have hpk := HK.out k
    by_cases hlt : k < f.len
    · have dk : decide (k < f.len) = true := by simpa using hlt
      obtain ⟨b, o, cap0, hs, hcap, -, hb, hrow⟩ := lies_row HL.out (by omega)
      simp only [Value.slice.injEq] at hs
      obtain ⟨rfl, -, rfl⟩ := hs
      obtain ⟨hd, ks, e, -, vk, q6, hlk⟩ := row_get hrow hlt
      obtain ⟨ak, ck, rfl⟩ := lies_form hlk
      have HE := Lib.hid (psK_succ (p := p) e)
      have HC := Lib.hid (fun pv W (hW : Below w.heap.size w W) hp => HT'.out hd ks k hlt e _ pv W (lies_below hlk hW) hp)
      have hkq : ((seqAt (p ++ [k]) 0 ks).map (·.p)).length ≤ f.size := by
        have := HK.out (k + 1)
        rw [HE.out] at this
        simp only [List.length_append] at this
        omega
      generalize (seqAt (p ++ [k]) 0 ks).map (·.p) = qs at *
      clear hlk e hrow HT'
      generalize hps : psK p f k = ps at *
      clear hps
      go_wp2_with fail
      refine (BL.out k wr hbw).mono ?_
      rintro e X1 ⟨a1, c1, rfl, hi1, hb1⟩
      have HI1 := Lib.hid hi1
      have hs1 := hb1.size
      have O1 := Lib.hid (owns_belowV HOWN.out hb1)
      have B1 := hbw.trans (hb1.mono hsw)
      have hnew := World.alloc_heap_new X1 (.cells #[.slice a1 (p.length + 1) c1] 41)
      have hbx1 := B1.size
      have C1 := Lib.hid ((bcell hb1).1)
      clear hi1 hb1
      go_upto_region 6 with fail
      go_wp2_with (at_builtin; refine wpList_append_own_at _ rfl _ _ 49 rfl w.heap.size 41 i0 _ 1 24 Tryz.underlying49 hi hz0 hz1 hz2 rfl (by decide) _ ps.length cs rfl (O1.out.alloc _) ⟨X1.heap.size, 0, none⟩ 1 1 [.slice a1 (p.length + 1) c1] rfl rfl ?c1 ?c2 ?c3 ?c4 ?c5 ?stop)
      case c1 =>
        intro j u hj
        rw [Go.WideShapes.add_plain]
        cases j with
        | zero => simp at hj; subst hj; exact cell_of_block hnew rfl
        | succ j => simp at hj
      case c2 => intro u hu; simp at hu; subst hu; rfl
      case c3 => unfold maxLen; omega
      case c4 => omega
      case c5 => simp; omega
      case stop =>
        intro v' w3 hown' hgrow _ hat
        obtain ⟨g', cap', rfl⟩ : ∃ g cap, v' = .slice (some ⟨g, 0, none⟩) (ps.length + 1) cap := by
          rcases hown'.2 with ⟨_, h0⟩ | ⟨g, cap, cur, hv, _⟩
          · omega
          · exact ⟨g, cap, hv⟩
        have hs3 := hgrow.size
        simp at hs3
        have hcell := grown_cells (B := w.heap.size) hgrow hat (by simp)
        have hg3 : g' < w3.heap.size ∧ w.heap.size ≤ g' ∧ (g' < X1.heap.size → (Value.slice a ps.length cap).ownBlock = some g') := by
          have := hown'.lt g' rfl
          refine ⟨this.2, this.1, fun h => ?_⟩
          rcases hat with e | e
          · exact e.symm.trans rfl
          · have : g' = X1.heap.size + 1 := by simpa [Value.ownBlock] using e
            omega
        have S3 := Lib.hid (show StabP w.heap.size g' w3 (ps ++ [p ++ [k]]) (cs ++ [.slice a1 (p.length + 1) c1]) by
          intro W hW hc
          have hcc := hcell W hW hc
          have hk : Keeps wr.heap.size X1 W := ⟨by omega, fun k' o' h1 h2 => hcc k' o' (by omega) h2 (fun j hj => by have := (hgl.out j hj).2; omega)⟩
          exact all2_append (HST.out W (by omega) fun k' o' h1 h2 h3 => (hcc k' o' h1 (by omega) (fun j hj => by rw [HG.out j hj]; exact h3)).trans (C1.out k' o' h2)) (.cons ((pathAt_of HI1.out).keeps hk |>.mono (by omega)) .nil))
        have O3 := Lib.hid (show w3.ownsRow w.heap.size 41 1 (.slice (some ⟨g', 0, none⟩) (ps.length + 1) cap') (ps.length + 1) (cs ++ [.slice a1 (p.length + 1) c1]) from hown')
        have B3 := (B1.alloc hbx1 (.cells #[.slice a1 (p.length + 1) c1] 41)).grown hgrow (by simp; omega) (fun k hk => (hgl.out k hk).1)
        have I3 := Lib.hid (show IntsLie w3 (.slice a1 (p.length + 1) c1) (pathInts (p ++ [k])) by
          have hk : Keeps wr.heap.size X1 w3 := ⟨by omega, fun k' o' h1 h2 => hcell w3 (Nat.le_refl _) (fun _ _ _ _ _ => rfl) k' o' (by omega) h2 (fun j hj => by have := (hgl.out j hj).2; omega)⟩
          have := intsF_lies (intsF_keeps HI1.out hk)
          simpa using this)
        have r6 : w3.cell? ⟨b, o + k * 7 + 6, none⟩ = some (.slice ak ks.len ck) := (B3.cell (p := ⟨b, o + k * 7 + 6, none⟩) hb).trans q6
        have hb3 : b < w3.heap.size := by have := B3.size; omega
        clear hown' hgrow hat hcell hnew q6
        go_wp2_with fail
        refine (HC.out _ w3 B3 I3.out).mono ?_
        rintro e X4 ⟨a4, c4, rfl, ⟨cs4, hown4, hall4⟩, hb4⟩
        have hs4 := hb4.size
        have B4 := B3.trans (hb4.mono B3.size)
        have O4 := Lib.hid (owns_belowV O3.out hb4)
        have C4 := Lib.hid ((bcell hb4).1)
        have S4 := Lib.hid (S3.out.next (W1 := X4) (g' := g') hs4 (fun k o _ h2 _ => C4.out k o h2) (.inl rfl))
        have A4 := Lib.hid hall4
        have hl4 := all2_len hall4
        have hbx4 := B4.size
        clear hb4 hall4 B3
        rcases hown4.2 with ⟨h1, h2⟩ | ⟨g4, cap4, cur4, h1, h3, h4, h5, h6, h7, h8⟩
        · obtain rfl : qs = [] := List.eq_nil_of_length_eq_zero h2
          simp only [List.length_nil, Value.slice.injEq, true_and] at h1
          obtain ⟨rfl, rfl⟩ := h1
          have HE2 := Lib.hid (show psK p f (k + 1) = ps ++ [p ++ [k]] by rw [HE.out]; simp)
          simp only [List.length_nil]
          clear hown4
          go_wp2_with (at_builtin; refine Lib.wpList_append_run _ rfl _ _ _ _ rfl _ _ rfl rfl _ _ (append_none 49 _ 41 i0 1 Tryz.underlying49 hi _ _ _ _ O4.out) ?_)
          go_roundw
          case rel => exact ⟨k + 1, g', some ⟨g', 0, none⟩, cap', _, by go_num, by omega, by rw [HE2.out]; simp, fun b hb => by simpa [Value.ownBlock] using hb.symm, by rw [HE2.out]; simpa using O4.out, by rw [HE2.out]; exact S4.out, B4⟩
          case measure => simp [intOf]; omega
        · simp only [Value.slice.injEq, true_and] at h1
          obtain ⟨rfl, rfl⟩ := h1
          have hcs := hown4.cells (g := g4) rfl
          have hl5 := hown4.1
          have h4l := (hown4.lt g4 rfl).2
          clear hown4
          go_wp2_with (at_builtin; refine wpList_append_own_at _ rfl _ _ 49 rfl w.heap.size 41 i0 _ 1 24 Tryz.underlying49 hi hz0 hz1 hz2 rfl (by decide) (.slice (some ⟨g', 0, none⟩) (ps.length + 1) cap') (ps.length + 1) (cs ++ [Value.slice a1 (p.length + 1) c1]) rfl O4.out ⟨g4, 0, none⟩ qs.length _ cs4 rfl (by omega) hcs ?c2 ?c3 ?c4 ?c5 ?stop)
          case c2 =>
            intro u hu
            obtain ⟨j, hj, rfl⟩ := List.getElem_of_mem hu
            obtain ⟨c, hc, hpa⟩ := all2_get (d := []) A4.out j (by omega)
            rw [List.getElem?_eq_getElem hj] at hc
            obtain ⟨x1, x2, hx, -⟩ := hpa
            rw [Option.some.inj hc, hx]; rfl
          case c3 => unfold maxLen; omega
          case c4 => omega
          case c5 => omega
          case stop =>
            intro v' w5 hown' hgrow _ hat
            obtain ⟨g5, cap5, rfl⟩ : ∃ g cap, v' = .slice (some ⟨g, 0, none⟩) (ps.length + 1 + qs.length) cap := by
              rcases hown'.2 with ⟨_, h0⟩ | ⟨g, cap, cur, hv, _⟩
              · omega
              · exact ⟨g, cap, hv⟩
            have hs5 := hgrow.size
            have hcell := grown_cells' (B := w.heap.size) hgrow hat (Nat.le_refl _)
            have hlen5 : ((ps ++ [p ++ [k]]) ++ qs).length = ps.length + 1 + qs.length := by simp; omega
            have S5 := Lib.hid (show StabP w.heap.size g5 w5 ((ps ++ [p ++ [k]]) ++ qs) ((cs ++ [.slice a1 (p.length + 1) c1]) ++ cs4) by
              intro W hW hc
              have hcc := hcell W hW hc
              have hk : Keeps w3.heap.size X4 W := ⟨by omega, fun k' o' h1 h2 => hcc k' o' (by omega) h2 (fun j hj => by
                have : g' = j := by simpa [Value.ownBlock] using hj
                omega)⟩
              exact all2_append (S4.out W (by omega) fun k' o' h1 h2 h3 => hcc k' o' h1 h2 (fun j hj => by
                have : g' = j := by simpa [Value.ownBlock] using hj
                omega)) (forall2_next (fun _ _ h => (PathAt.keeps h hk).mono (by omega)) A4.out))
            have O5 := Lib.hid (show w5.ownsRow w.heap.size 41 1 (.slice (some ⟨g5, 0, none⟩) (ps.length + 1 + qs.length) cap5) (ps.length + 1 + qs.length) ((cs ++ [.slice a1 (p.length + 1) c1]) ++ cs4) by simpa using hown')
            have B5 := B4.grown hgrow hbx4 (fun k hk => by
              have : g' = k := by simpa [Value.ownBlock] using hk
              omega)
            clear hown' hgrow hat hcell
            go_wp2_with fail
            go_roundw
            case rel => exact ⟨k + 1, g5, some ⟨g5, 0, none⟩, cap5, _, by go_num, by omega, by rw [HE.out, hlen5], fun b hb => by simpa [Value.ownBlock] using hb.symm, by rw [HE.out, hlen5]; exact O5.out, by rw [HE.out]; exact S5.out, B5⟩
            case measure => simp [intOf]; omega
    · have dk : decide (k < f.len) = false := by simpa using hlt
      obtain rfl : k = f.len := by omega
      have he : psK p f f.len = (seqAt p 0 f).map (·.p) := by unfold psK; rw [take_all]
      have HF := Lib.hid (show PathsO w.heap.size wr (.slice a (psK p f f.len).length cap) (psK p f f.len) from ⟨cs, HOWN.out, HST.out wr (Nat.le_refl _) (fun _ _ _ _ _ => rfl)⟩)
      rw [he] at HF
      go_wp2_with fail
      go_ret
      exact ⟨a, cap, by rw [← he]; rfl, HF.out, hbw⟩

theorem pathsOf_any : ∀ (N : Nat) (f : Fo), f.size ≤ N → ∀ (p : List Nat), p.length + f.size ≤ 1000000 → ∀ (v pv : Value) (w : World), Lies w v f → IntsLie w pv (pathInts p) →
    Calls Tryz.prog 100 #[v, pv] w fun e w' => ∃ a c, e = .returned (.slice a ((seqAt p 0 f).map (·.p)).length c) ∧ PathsO w.heap.size w' (.slice a ((seqAt p 0 f).map (·.p)).length c) ((seqAt p 0 f).map (·.p)) ∧ Below w.heap.size w w' := by
  intro N
  induction N with
  | zero =>
    intro f hf p hb v pv w hl hp
    exact pathsOf_of f p v pv w hl hp hb (fun h ks k hj _ => by have := Fo.len_le_size f; omega)
  | succ N ih =>
    intro f hf p hb v pv w hl hp
    refine pathsOf_of f p v pv w hl hp hb (fun hd ks k hj e v pv w hk hp => ?_)
    have := kid_size e
    exact ih ks (by omega) (p ++ [k]) (by simp; omega) v pv w hk hp
theorem PathsO.paths {B : Nat} {W : World} {v : Value} {ps : List (List Nat)} (h : PathsO B W v ps) : PathsF B W v ps := by
  obtain ⟨cs, hown, hall⟩ := h
  have hl := all2_len hall
  rcases hown.2 with ⟨rfl, h0⟩ | ⟨g, cap, cur, rfl, h1, h2, h3, h4, h5, h6⟩
  · exact ⟨none, 0, by rw [h0], .inl (List.eq_nil_of_length_eq_zero h0)⟩
  · refine ⟨_, cap, rfl, .inr ⟨g, rfl, h3, h1, (hown.lt g rfl).2, fun k hk => ?_⟩⟩
    obtain ⟨c, hc, hp⟩ := all2_get (d := []) hall k hk
    have := hown.cells (g := g) rfl k c hc
    rw [Go.WideShapes.add_plain, Nat.zero_add] at this
    exact ⟨c, this, hp⟩
end Go.Proofs.YtcgedpfolloinaaGreat

namespace Go.Proofs.YtcgedpfolloinaaGreat
open Go.RowKit

theorem cmpL_lt : ∀ (l m : List Int), cmpL l m < 0 ↔ 0 < cmpL m l
  | [], [] => by simp [cmpL]
  | [], _ :: _ => by simp [cmpL]
  | _ :: _, [] => by simp [cmpL]
  | a :: l, b :: m => by
    have ih := cmpL_lt l m
    simp only [cmpL, cmpM]
    by_cases h1 : a < b
    · have : ¬ b < a := by omega
      simp [h1, this]
    · by_cases h2 : b < a
      · simp [h1, h2]
      · simp [h1, h2]; exact ih
abbrev behind (p : List Int) (q : List Nat) : Bool := decide (cmpL p (pathInts q) < 0)
def nextR : Option (List Int) → List Int × Bool × Int
  | .none => ([], false, 0)
  | .some q => (q, true, 0)
theorem nextV_L (vs : List Vis) (p : List Int) : nextV vs p = ((vs.map (·.p)).find? (behind p)).map pathInts := by
  unfold nextV
  rw [List.find?_map, Option.map_map]
  have e : (fun x : Vis => decide (0 < cmpL (pathInts x.p) p)) = (behind p ∘ fun x => x.p) := by
    funext x
    simp only [Function.comp, behind, decide_eq_decide]
    exact (cmpL_lt _ _).symm
  rw [e]; rfl

set_option maxRecDepth 100000 in
set_option maxHeartbeats 4000000 in
theorem qpaths_any (f : Fo) (v : Value) (w : World) (hl : Lies w v f) (hs : Small f) : Calls Tryz.prog 37 #[v] w (PsE w (pathsV f)) := by
  have CH := Lib.hid (qcheck_any f v w hl hs)
  have hfs := hs.size
  have PO := Lib.hid (fun W (hW : Below w.heap.size w W) => pathsOf_any _ f (Nat.le_refl _) [] (by simp; omega) v (.slice none 0 0) W (lies_below hl hW) (.inl ⟨_, _, rfl, rfl⟩))
  obtain ⟨a, cap, rfl⟩ := lies_form hl
  clear hl hs
  by_cases h0 : foErr f = 0
  · rw [paths_val h0]
    rw [h0] at CH
    generalize (seqAt [] 0 f).map (·.p) = L at *
    clear h0
    go_enter Tryz.func37, Tryz.ntmps37
    go_wp2_with fail
    refine CH.out.mono ?_
    rintro e X1 ⟨rfl, B1⟩
    go_wp2_with fail
    refine (PO.out X1 B1).mono ?_
    rintro e X2 ⟨a2, c2, rfl, hO2, hb2⟩
    have HF := Lib.hid (hO2.paths.mono B1.size)
    have B2 := B1.trans (hb2.mono B1.size)
    clear hO2 hb2
    go_wp2_with fail
    go_ret2
    exact ⟨_, rfl, HF.out, B2⟩
  · rw [show pathsV f = ([], foErr f) by unfold pathsV; rw [if_neg h0]]
    have b0 : (foErr f != 0) = true := by simpa using h0
    generalize foErr f = ee at *
    clear h0
    go_enter Tryz.func37, Tryz.ntmps37
    go_wp2_with fail
    refine CH.out.mono ?_
    rintro e X1 ⟨rfl, B1⟩
    go_wp2_with fail
    go_ret2
    exact ⟨_, rfl, .nil _ _, B1⟩

set_option maxRecDepth 100000 in
set_option maxHeartbeats 4000000 in
theorem lalike_same (v u : Value) (L : List (List Nat)) (B B' : Nat) (w : World) (h1 : PathsF B w v L) (h2 : PathsF B' w u L) (hq : ∀ j, j < L.length → (L.getD j []).length ≤ 1000000) (hL : L.length ≤ 1000000) :
    Calls Tryz.prog 42 #[v, u] w fun e w' => e = .returned (.bool true) ∧ Below w.heap.size w w' := by
  obtain ⟨a, c, rfl, -⟩ := id h1
  obtain ⟨a', c', rfl, -⟩ := id h2
  have H1 := Lib.hid h1
  have H2 := Lib.hid h2
  have HQ := Lib.hid hq
  clear h1 h2 hq
  go_enter Tryz.func42, Tryz.ntmps42
  go_wp2_with fail
  go_loopw [5] (fun i wr => ∃ j : Nat, i = .int .i64 j ∧ j ≤ L.length ∧ Below w.heap.size w wr) (fun i _ => L.length - (intOf i).toNat)
  case atStart => exact ⟨0, rfl, Nat.zero_le _, Below.refl _ _⟩
  case round =>
    obtain ⟨j, rfl, hj, hbr⟩ := hrel
    have hsr := hbr.size
    by_cases hlt : j < L.length
    · obtain ⟨b1, rfl, -, hb1, hc1⟩ := PathsF.at H1.out (by omega)
      obtain ⟨b2, rfl, -, hb2, hc2⟩ := PathsF.at H2.out (by omega)
      obtain ⟨a3, c3, q1, i1⟩ := hc1 j hlt
      obtain ⟨a4, c4, q2, i2⟩ := hc2 j hlt
      have hlq := HQ.out j hlt
      generalize L.getD j [] = q at *
      have r1 : wr.cell? ⟨b1, j, none⟩ = some (.slice a3 q.length c3) := (hbr.cell (p := ⟨b1, j, none⟩) hb1).trans q1
      have r2 : wr.cell? ⟨b2, j, none⟩ = some (.slice a4 q.length c4) := (hbr.cell (p := ⟨b2, j, none⟩) hb2).trans q2
      have t1 : b1 < wr.heap.size := by omega
      have t2 : b2 < wr.heap.size := by omega
      have AL := Lib.hid (fun (z : Lower wr) => alike_same _ _ _ w z.val (hbr.trans (z.prop.mono hbr.size)) ⟨i1, i2, by simp; omega⟩)
      clear hc1 hc2 q1 q2 i1 i2
      go_wp2_with fail
      refine wp_region_quiet_all (fun w' => ∃ x : Lower _, w' = x.val) (by kernel_rfl) (by kernel_rfl) ⟨⟨_, (Below.refl _ _).drew⟩, rfl⟩ ?_
      repeat (go_big_quiet_step ((go_at_call 43; exact calls_lower _ (AL.out _))))
      refine wpQuiet_nil ?_
      intro w1 hx1
      obtain ⟨x1, hx1⟩ := hx1
      have hb1 := x1.prop
      rw [← hx1] at hb1
      clear hx1 x1
      obtain ⟨hc1, hf1⟩ := bcell hb1
      have hs1 := hb1.size
      try simp at hs1
      try have hz10 : w.heap.size < w1.heap.size := by omega
      try have hz11 : w.heap.size + 1 < w1.heap.size := by omega
      try have hz12 : w.heap.size + 1 + 1 < w1.heap.size := by omega
      try have hz13 : w.heap.size + 1 + 1 + 1 < w1.heap.size := by omega
      try have hz14 : w.heap.size + 1 + 1 + 1 + 1 < w1.heap.size := by omega
      try have hz15 : w.heap.size + 1 + 1 + 1 + 1 + 1 < w1.heap.size := by omega
      go_wp2_with fail
      go_roundw
      case rel => exact ⟨j + 1, by go_num, by omega, by ((repeat' (first | exact Below.refl _ _ | assumption | refine Below.setCell ?_ ?_ _ | refine bdrewN ?_ _ | refine Below.drew ?_ | refine Below.alloc ?_ ?_ _ | refine bbehind ?_ (by assumption) ?_)); all_goals first | (simp; done) | (simp; omega) | omega)⟩
      case measure => simp [intOf]; omega
    · obtain rfl : j = L.length := by omega
      go_wp2_with fail
      go_ret
      exact ⟨rfl, hbr⟩

set_option maxRecDepth 100000 in
set_option maxHeartbeats 4000000 in
theorem qnext_bad (f : Fo) (p : List Int) (v pv : Value) (w : World) (hl : Lies w v f) (hs : Small f) (hp : IntsLie w pv p) (_ : p.length ≤ 1000000) (he : foErr f ≠ 0) :
    Calls Tryz.prog 39 #[v, pv] w (NextRes w (nextF f p)) := by
  have CH := Lib.hid (qcheck_any f v w hl hs)
  rw [show nextF f p = ([], false, foErr f) by unfold nextF; rw [if_pos he]]
  obtain ⟨a, cap, rfl⟩ := lies_form hl
  obtain ⟨pa, pc, rfl⟩ := ints_form hp
  have b0 : (foErr f != 0) = true := by simpa using he
  clear hl hp hs he
  generalize foErr f = ee at *
  go_enter Tryz.func39, Tryz.ntmps39
  go_wp2_with fail
  refine CH.out.mono ?_
  rintro e X1 ⟨rfl, B1⟩
  go_wp2_with fail
  go_ret3
  exact ⟨none, 0, rfl, .inl ⟨_, _, rfl, rfl⟩, B1⟩

set_option maxRecDepth 100000 in
set_option maxHeartbeats 4000000 in
theorem qnext_absent (f : Fo) (p : List Int) (v pv : Value) (w : World) (hl : Lies w v f) (hs : Small f) (hp : IntsLie w pv p) (hpl : p.length ≤ 1000000) (he : foErr f = 0) (h0 : p ≠ []) (hno : (placeF f p).isSome = false) :
    Calls Tryz.prog 39 #[v, pv] w (NextRes w (nextF f p)) := by
  have CH := Lib.hid (qcheck_any f v w hl hs)
  rw [show nextF f p = ([], false, 6) by unfold nextF; rw [if_neg (by simpa using he), if_pos ⟨hno, h0⟩]]
  rw [he] at CH
  obtain ⟨V, ⟨h, ks, aa, ca, ak, ck, rfl, -, -, -⟩, hV⟩ := place_any p f v pv w hl hp hpl
  have PV := Lib.hid hV
  clear hV
  rw [hno] at PV
  obtain ⟨a, cap, rfl⟩ := lies_form hl
  obtain ⟨pa, pc, rfl⟩ := ints_form hp
  have e0 : decide ((0 : Int) < (p.length : Int)) = true := by simp; exact List.length_pos_iff.2 h0
  have e1 : decide (0 < p.length) = true := by simp; exact List.length_pos_iff.2 h0
  clear hl hp hs he hno h0
  go_enter Tryz.func39, Tryz.ntmps39
  go_wp2_with fail
  refine CH.out.mono ?_
  rintro e X1 ⟨rfl, B1⟩
  go_wp2_with fail
  refine (PV.out X1 B1).mono ?_
  rintro e X2 ⟨rfl, hb2⟩
  have B2 := B1.trans (hb2.mono B1.size)
  clear hb2
  unfold aggOf
  go_upto_region 5 with fail
  have B3 : Below w.heap.size w (X2.alloc (.cells #[.int .i64 h.k, .string ⟨h.l.toArray⟩, .slice aa h.ats.length ca, .int .i64 h.n, .int .i64 h.d, .string ⟨h.x.toArray⟩, .slice ak ks.len ck] 43)) := B2.alloc B2.size _
  generalize X2.alloc (.cells #[.int .i64 h.k, .string ⟨h.l.toArray⟩, .slice aa h.ats.length ca, .int .i64 h.n, .int .i64 h.d, .string ⟨h.x.toArray⟩, .slice ak ks.len ck] 43) = X3 at *
  go_wp2_with fail
  go_ret3
  exact ⟨none, 0, rfl, .inl ⟨_, _, rfl, rfl⟩, B3⟩

set_option maxRecDepth 100000 in
set_option maxHeartbeats 4000000 in
theorem qnext_in (f : Fo) (p : List Int) (v pv : Value) (w : World) (hl : Lies w v f) (hs : Small f) (hp : IntsLie w pv p) (hpl : p.length ≤ 1000000) (he : foErr f = 0) (hgo : (placeF f p).isSome = true ∨ p = []) :
    Calls Tryz.prog 39 #[v, pv] w (NextRes w (nextF f p)) := by
  have CH := Lib.hid (qcheck_any f v w hl hs)
  rw [show nextF f p = nextR (nextV (seqAt [] 0 f) p) by unfold nextF; rw [if_neg (by simpa using he), if_neg (by rcases hgo with h | h <;> simp [h])]; cases nextV (seqAt [] 0 f) p <;> rfl]
  rw [he] at CH
  rw [nextV_L]
  obtain ⟨RR, hRR⟩ : ∃ RR, nextR (((seqAt [] 0 f).map (·.p)).find? (behind p) |>.map pathInts) = RR := ⟨_, rfl⟩
  rw [hRR]
  have HRR := Lib.hid hRR.symm
  clear hRR
  obtain ⟨V, ⟨h, ks, aa, ca, ak, ck, rfl, -, -, -⟩, hV⟩ := place_any p f v pv w hl hp hpl
  have PV := Lib.hid hV
  clear hV
  have hfs := hs.size
  have PO := Lib.hid (fun W (hW : Below w.heap.size w W) => pathsOf_any _ f (Nat.le_refl _) [] (by simp; omega) v (.slice none 0 0) W (lies_below hl hW) (.inl ⟨_, _, rfl, rfl⟩))
  have HQ := Lib.hid (sel_path (fun _ => true) f)
  rw [show selP (fun _ => true) (seqAt [] 0 f) = (seqAt [] 0 f).map (·.p) by unfold selP; rw [List.filter_eq_self.2 (fun _ _ => rfl)]] at HQ
  obtain ⟨a, cap, rfl⟩ := lies_form hl
  obtain ⟨pa, pc, rfl⟩ := ints_form hp
  have HP := Lib.hid hp
  have hcond : (!(placeF f p).isSome && decide ((0 : Int) < (p.length : Int))) = false := by
    rcases hgo with h | h
    · rw [h]; rfl
    · rw [h]; simp
  have hLL : ((seqAt [] 0 f).map (·.p)).length = f.size := by rw [List.length_map, seqAt_len]
  generalize (seqAt [] 0 f).map (·.p) = L at *
  obtain ⟨bs, hbs⟩ : ∃ bs, (placeF f p).isSome = bs := ⟨_, rfl⟩
  rw [hbs] at PV hcond
  clear hl hp hs he hgo hbs
  cases bs with
  | true =>
    go_enter Tryz.func39, Tryz.ntmps39
    go_wp2_with fail
    refine CH.out.mono ?_
    rintro e X1 ⟨rfl, B1⟩
    go_wp2_with fail
    refine (PV.out X1 B1).mono ?_
    rintro e X2 ⟨rfl, hb2⟩
    have B2 := B1.trans (hb2.mono B1.size)
    clear hb2
    unfold aggOf
    go_upto_region 5 with fail
    have B3 : Below w.heap.size w (X2.alloc (.cells #[.int .i64 h.k, .string ⟨h.l.toArray⟩, .slice aa h.ats.length ca, .int .i64 h.n, .int .i64 h.d, .string ⟨h.x.toArray⟩, .slice ak ks.len ck] 43)) := B2.alloc B2.size _
    generalize X2.alloc (.cells #[.int .i64 h.k, .string ⟨h.l.toArray⟩, .slice aa h.ats.length ca, .int .i64 h.n, .int .i64 h.d, .string ⟨h.x.toArray⟩, .slice ak ks.len ck] 43) = X3 at *
    go_wp2_with fail
    refine (PO.out X3 B3).mono ?_
    rintro e X4 ⟨a4, c4, rfl, hO4, hb4⟩
    have HF := Lib.hid hO4.paths
    have B4 := B3.trans (hb4.mono B3.size)
    have hz3 := B3.size
    clear hO4 hb4
    go_wp2_with fail
    go_loopw [11] (fun i wr => ∃ j : Nat, i = .int .i64 j ∧ j ≤ L.length ∧ L.find? (behind p) = (L.drop j).find? (behind p) ∧ Below X4.heap.size X4 wr) (fun i _ => L.length - (intOf i).toNat)
    case atStart => exact ⟨0, rfl, Nat.zero_le _, rfl, Below.refl _ _⟩
    case round =>
      obtain ⟨j, rfl, hj, hf, hbr⟩ := hrel
      have HN := Lib.hid hf
      have hsr := hbr.size
      have hsx := B4.size
      have BR := B4.trans (hbr.mono hsx)
      clear hf
      by_cases hlt : j < L.length
      · have hdr : L.drop j = L.getD j [] :: L.drop (j + 1) := by
          rw [List.drop_eq_getElem_cons hlt, List.getD_eq_getElem?_getD, List.getElem?_eq_getElem hlt]; rfl
        rw [hdr] at HN
        obtain ⟨a', c', e, i⟩ := HF.out
        simp only [Value.slice.injEq, true_and] at e
        obtain ⟨rfl, rfl⟩ := e
        rcases i with i | ⟨b1, rfl, -, hB1, hb1, hc1⟩
        · rw [i] at hlt; exact absurd hlt (by simp)
        obtain ⟨c', q1, a3, c3, rfl, i1⟩ := hc1 j hlt
        have hlq := HQ.out j hlt
        have I1 := Lib.hid (intsF_mono (B' := w.heap.size) hz3 (intsF_below i1 hbr))
        generalize L.getD j [] = q at *
        have r1 : wr.cell? ⟨b1, j, none⟩ = some (.slice a3 q.length c3) := (hbr.cell (p := ⟨b1, j, none⟩) hb1).trans q1
        have t1 : b1 < wr.heap.size := by omega
        have BE := Lib.hid (before_any p (pathInts q) _ _ wr (ints_below HP.out BR) (intsF_lies I1.out) hpl (by simp; omega))
        cases hbq : decide (cmpL p (pathInts q) < 0) with
        | true =>
          have HX := Lib.hid (HN.out.trans (List.find?_cons_of_pos (p := behind p) (a := q) (l := L.drop (j + 1)) hbq))
          rw [hbq] at BE
          clear hc1 q1 i1 hdr hbq
          go_wp2_with fail
          refine BE.out.mono ?_
          rintro e w5 ⟨rfl, hb5⟩
          have r5 := (hb5.cell (p := ⟨b1, j, none⟩) t1).trans r1
          have I5 := Lib.hid (intsF_below I1.out hb5)
          have B5 := BR.trans (hb5.mono BR.size)
          clear hb5
          go_wp2_with fail
          go_ret3
          rw [HRR.out, HX.out]
          exact ⟨a3, c3, by simp [nextR], by simpa [nextR] using I5.out, B5⟩
        | false =>
          have HX := Lib.hid (HN.out.trans (List.find?_cons_of_neg (p := behind p) (a := q) (l := L.drop (j + 1)) (by simpa [behind] using hbq)))
          rw [hbq] at BE
          clear hc1 q1 i1 hdr hbq
          go_wp2_with fail
          refine BE.out.mono ?_
          rintro e w5 ⟨rfl, hb5⟩
          go_wp2_with fail
          go_roundw
          case rel => exact ⟨j + 1, by go_num, by omega, HX.out, hbr.trans (hb5.mono hsr)⟩
          case measure => simp [intOf]; omega
      · obtain rfl : j = L.length := by omega
        have HX := Lib.hid (HN.out.trans (show _ = none by rw [List.drop_length] <;> rfl))
        go_wp2_with fail
        go_ret3
        rw [HRR.out, HX.out]
        exact ⟨none, 0, rfl, .inl ⟨_, _, rfl, rfl⟩, BR⟩
  | false =>
    have e0 : decide ((0 : Int) < (p.length : Int)) = false := by simpa using hcond
    have e1 : decide (0 < p.length) = false := by simpa using hcond
    go_enter Tryz.func39, Tryz.ntmps39
    go_wp2_with fail
    refine CH.out.mono ?_
    rintro e X1 ⟨rfl, B1⟩
    go_wp2_with fail
    refine (PV.out X1 B1).mono ?_
    rintro e X2 ⟨rfl, hb2⟩
    have B2 := B1.trans (hb2.mono B1.size)
    clear hb2
    unfold aggOf
    go_upto_region 5 with fail
    have B3 : Below w.heap.size w (X2.alloc (.cells #[.int .i64 h.k, .string ⟨h.l.toArray⟩, .slice aa h.ats.length ca, .int .i64 h.n, .int .i64 h.d, .string ⟨h.x.toArray⟩, .slice ak ks.len ck] 43)) := B2.alloc B2.size _
    generalize X2.alloc (.cells #[.int .i64 h.k, .string ⟨h.l.toArray⟩, .slice aa h.ats.length ca, .int .i64 h.n, .int .i64 h.d, .string ⟨h.x.toArray⟩, .slice ak ks.len ck] 43) = X3 at *
    go_wp2_with fail
    refine (PO.out X3 B3).mono ?_
    rintro e X4 ⟨a4, c4, rfl, hO4, hb4⟩
    have HF := Lib.hid hO4.paths
    have B4 := B3.trans (hb4.mono B3.size)
    have hz3 := B3.size
    clear hO4 hb4
    go_wp2_with fail
    go_loopw [11] (fun i wr => ∃ j : Nat, i = .int .i64 j ∧ j ≤ L.length ∧ L.find? (behind p) = (L.drop j).find? (behind p) ∧ Below X4.heap.size X4 wr) (fun i _ => L.length - (intOf i).toNat)
    case atStart => exact ⟨0, rfl, Nat.zero_le _, rfl, Below.refl _ _⟩
    case round =>
      obtain ⟨j, rfl, hj, hf, hbr⟩ := hrel
      have HN := Lib.hid hf
      have hsr := hbr.size
      have hsx := B4.size
      have BR := B4.trans (hbr.mono hsx)
      clear hf
      by_cases hlt : j < L.length
      · have hdr : L.drop j = L.getD j [] :: L.drop (j + 1) := by
          rw [List.drop_eq_getElem_cons hlt, List.getD_eq_getElem?_getD, List.getElem?_eq_getElem hlt]; rfl
        rw [hdr] at HN
        obtain ⟨a', c', e, i⟩ := HF.out
        simp only [Value.slice.injEq, true_and] at e
        obtain ⟨rfl, rfl⟩ := e
        rcases i with i | ⟨b1, rfl, -, hB1, hb1, hc1⟩
        · rw [i] at hlt; exact absurd hlt (by simp)
        obtain ⟨c', q1, a3, c3, rfl, i1⟩ := hc1 j hlt
        have hlq := HQ.out j hlt
        have I1 := Lib.hid (intsF_mono (B' := w.heap.size) hz3 (intsF_below i1 hbr))
        generalize L.getD j [] = q at *
        have r1 : wr.cell? ⟨b1, j, none⟩ = some (.slice a3 q.length c3) := (hbr.cell (p := ⟨b1, j, none⟩) hb1).trans q1
        have t1 : b1 < wr.heap.size := by omega
        have BE := Lib.hid (before_any p (pathInts q) _ _ wr (ints_below HP.out BR) (intsF_lies I1.out) hpl (by simp; omega))
        cases hbq : decide (cmpL p (pathInts q) < 0) with
        | true =>
          have HX := Lib.hid (HN.out.trans (List.find?_cons_of_pos (p := behind p) (a := q) (l := L.drop (j + 1)) hbq))
          rw [hbq] at BE
          clear hc1 q1 i1 hdr hbq
          go_wp2_with fail
          refine BE.out.mono ?_
          rintro e w5 ⟨rfl, hb5⟩
          have r5 := (hb5.cell (p := ⟨b1, j, none⟩) t1).trans r1
          have I5 := Lib.hid (intsF_below I1.out hb5)
          have B5 := BR.trans (hb5.mono BR.size)
          clear hb5
          go_wp2_with fail
          go_ret3
          rw [HRR.out, HX.out]
          exact ⟨a3, c3, by simp [nextR], by simpa [nextR] using I5.out, B5⟩
        | false =>
          have HX := Lib.hid (HN.out.trans (List.find?_cons_of_neg (p := behind p) (a := q) (l := L.drop (j + 1)) (by simpa [behind] using hbq)))
          rw [hbq] at BE
          clear hc1 q1 i1 hdr hbq
          go_wp2_with fail
          refine BE.out.mono ?_
          rintro e w5 ⟨rfl, hb5⟩
          go_wp2_with fail
          go_roundw
          case rel => exact ⟨j + 1, by go_num, by omega, HX.out, hbr.trans (hb5.mono hsr)⟩
          case measure => simp [intOf]; omega
      · obtain rfl : j = L.length := by omega
        have HX := Lib.hid (HN.out.trans (show _ = none by rw [List.drop_length] <;> rfl))
        go_wp2_with fail
        go_ret3
        rw [HRR.out, HX.out]
        exact ⟨none, 0, rfl, .inl ⟨_, _, rfl, rfl⟩, BR⟩

theorem qnext_any (f : Fo) (p : List Int) (v pv : Value) (w : World) (hl : Lies w v f) (hs : Small f) (hp : IntsLie w pv p) (hpl : p.length ≤ 1000000) : Calls Tryz.prog 39 #[v, pv] w (NextRes w (nextF f p)) := by
  by_cases he : foErr f = 0
  · by_cases h : (placeF f p).isSome = false ∧ p ≠ []
    · exact qnext_absent f p v pv w hl hs hp hpl he h.2 h.1
    · refine qnext_in f p v pv w hl hs hp hpl he ?_
      by_cases h1 : (placeF f p).isSome = true
      · exact .inl h1
      · refine .inr ?_
        by_cases h2 : p = []
        · exact h2
        · exact absurd ⟨by simpa using h1, h2⟩ h
  · exact qnext_bad f p v pv w hl hs hp hpl he
end Go.Proofs.YtcgedpfolloinaaGreat

namespace Go.Proofs.YtcgedpfolloinaaGreat
open Go.RowKit

theorem ownsRow_mono {W : World} {B B' : Nat} {e : TypeId} {size n : Nat} {v : Value} {xs : List Value} (hB : B' ≤ B) (h : W.ownsRow B e size v n xs) : W.ownsRow B' e size v n xs := by
  refine ⟨h.1, ?_⟩
  rcases h.2 with h | ⟨g, cap, cur, h1, h2, h3⟩
  · exact .inl h
  · exact .inr ⟨g, cap, cur, h1, by omega, h3⟩
theorem sel_step (sel : Vis → Bool) {vs : List Vis} {j : Nat} {x : Vis} (h : vs[j]? = some x) : selP sel (vs.take (j + 1)) = if sel x then selP sel (vs.take j) ++ [x.p] else selP sel (vs.take j) := by
  obtain ⟨hj, rfl⟩ := List.getElem?_eq_some_iff.1 h
  rw [List.take_succ_eq_append_getElem hj]
  cases hs : sel vs[j] with
  | true => rw [selP_yes hs, if_pos rfl]
  | false => rw [selP_no hs, if_neg (by simp)]

set_option maxRecDepth 100000 in
set_option maxHeartbeats 4000000 in
theorem qfind_bad (f : Fo) (v : Value) (lab : List UInt8) (w : World) (hl : Lies w v f) (hs : Small f) (hlab : lab.length ≤ 1000000) (he : foErr f ≠ 0) : Calls Tryz.prog 41 #[v, .string ⟨lab.toArray⟩] w (PsE w (findV f lab)) := by
  have CH := Lib.hid (qcheck_any f v w hl hs)
  have NM := Lib.hid (fun W => named_any lab W hlab)
  rw [show findV f lab = ([], foErr f) by unfold findV; rw [if_neg he]]
  obtain ⟨a, cap, rfl⟩ := lies_form hl
  have b0 : (foErr f != 0) = true := by simpa using he
  clear hl hs he NM
  generalize foErr f = ee at *
  go_enter Tryz.func41, Tryz.ntmps41
  go_wp2_with fail
  refine CH.out.mono ?_
  rintro e X1 ⟨rfl, B1⟩
  go_wp2_with fail
  go_ret2
  exact ⟨_, rfl, .nil _ _, B1⟩

set_option maxRecDepth 100000 in
set_option maxHeartbeats 4000000 in
theorem qfind_name (f : Fo) (v : Value) (lab : List UInt8) (w : World) (hl : Lies w v f) (hs : Small f) (hlab : lab.length ≤ 1000000) (he : foErr f = 0) (hn : namedB lab = false) : Calls Tryz.prog 41 #[v, .string ⟨lab.toArray⟩] w (PsE w (findV f lab)) := by
  have CH := Lib.hid (qcheck_any f v w hl hs)
  have NM := Lib.hid (fun W => named_any lab W hlab)
  rw [find_bad he hn]
  rw [he] at CH
  rw [hn] at NM
  obtain ⟨a, cap, rfl⟩ := lies_form hl
  clear hl hs he hn
  go_enter Tryz.func41, Tryz.ntmps41
  go_wp2_with fail
  refine CH.out.mono ?_
  rintro e X1 ⟨rfl, B1⟩
  go_wp2_with fail
  refine (NM.out X1).mono ?_
  rintro e X2 ⟨rfl, rfl⟩
  go_wp2_with fail
  go_ret2
  exact ⟨_, rfl, .nil _ _, B1⟩

set_option maxRecDepth 100000 in
set_option maxHeartbeats 4000000 in
theorem qfind_in (f : Fo) (v : Value) (lab : List UInt8) (w : World) (hl : Lies w v f) (hs : Small f) (hlab : lab.length ≤ 1000000) (he : foErr f = 0) (hn : namedB lab = true) : Calls Tryz.prog 41 #[v, .string ⟨lab.toArray⟩] w (PsE w (findV f lab)) := by
  have CH := Lib.hid (qcheck_any f v w hl hs)
  have NM := Lib.hid (fun W => named_any lab W hlab)
  obtain ⟨i0, hi, hz0, hz1, hz2⟩ := info_parts info_ints2
  rw [find_val he hn]
  have HK := Lib.hid (fun (x : Vis) (hx : x ∈ seqAt [] 0 f) => kind_label he hx hn)
  have HPL := Lib.hid (fun (x : Vis) (hx : x ∈ seqAt [] 0 f) => place_at hx)
  have hfs := hs.size
  have PO := Lib.hid (fun W (hW : Below w.heap.size w W) => pathsOf_any _ f (Nat.le_refl _) [] (by simp; omega) v (.slice none 0 0) W (lies_below hl hW) (.inl ⟨_, _, rfl, rfl⟩))
  have HL := Lib.hid hl
  have HV := Lib.hid (fun (x : Vis) (hx : x ∈ seqAt [] 0 f) => path_len hx)
  have hlen := seqAt_len f [] 0
  have SL := Lib.hid (show ∀ j, (selP (fun x => x.h.l == lab) ((seqAt [] 0 f).take j)).length ≤ j from fun j => by
    unfold selP
    rw [List.length_map]
    exact Nat.le_trans (List.length_filter_le _ _) (by rw [List.length_take]; omega))
  rw [he] at CH
  rw [hn] at NM
  obtain ⟨av, cv, rfl⟩ := lies_form hl
  simp only [List.length_map] at PO
  generalize hvs : seqAt [] 0 f = vs at *
  clear hl hs he hn hvs
  go_enter Tryz.func41, Tryz.ntmps41
  go_wp2_with fail
  refine CH.out.mono ?_
  rintro e X1 ⟨rfl, B1⟩
  go_wp2_with fail
  refine (NM.out X1).mono ?_
  rintro e X2 ⟨rfl, rfl⟩
  go_wp2_with fail
  refine (PO.out X1 B1).mono ?_
  rintro e X4 ⟨a4, c4, rfl, hO4, hb4⟩
  have HF := Lib.hid (hO4.paths.mono B1.size)
  have B4 := B1.trans (hb4.mono B1.size)
  clear hO4 hb4
  rw [hlen]
  go_wp2_with fail
  go_loopw [7, 9] (fun v7 i wr => ∃ (j : Nat) (a : Option Addr) (cap : Nat) (cs : List Value), i = .int .i64 j ∧ j ≤ f.size ∧ v7 = .slice a (selP (fun x => x.h.l == lab) (vs.take j)).length cap ∧ wr.ownsRow X4.heap.size 41 1 (.slice a (selP (fun x => x.h.l == lab) (vs.take j)).length cap) (selP (fun x => x.h.l == lab) (vs.take j)).length cs ∧ All2 (PathAt w.heap.size X4) (selP (fun x => x.h.l == lab) (vs.take j)) cs ∧ Below X4.heap.size X4 wr) (fun _ i _ => f.size - (intOf i).toNat)
  case atStart => exact ⟨0, none, 0, [], rfl, Nat.zero_le _, rfl, ⟨rfl, .inl ⟨rfl, rfl⟩⟩, .nil, Below.refl _ _⟩
  case round =>
    obtain ⟨j, a, cap, cs, rfl, hj, rfl, hown, hall, hbr⟩ := hrel
    have HO := Lib.hid hown
    have HA := Lib.hid hall
    have hsr := hbr.size
    have hs4 := B4.size
    have BR := B4.trans (hbr.mono hs4)
    have hsl := SL.out j
    clear hown hall
    by_cases hlt : j < f.size
    · obtain ⟨x, hx⟩ : ∃ x, vs[j]? = some x := ⟨_, List.getElem?_eq_getElem (by omega)⟩
      have xm : x ∈ vs := List.mem_of_getElem? hx
      have HS := Lib.hid (sel_step (fun x => x.h.l == lab) hx)
      have hpl := HPL.out x xm
      have hxl := HV.out x xm
      have hk := HK.out x xm
      obtain ⟨a1, c1, e, i⟩ := HF.out
      simp only [List.length_map, Value.slice.injEq, true_and] at e
      obtain ⟨rfl, rfl⟩ := e.2
      obtain rfl := e.1
      rcases i with i | ⟨b1, rfl, -, hB1, hb1, hc1⟩
      · have := congrArg List.length i
        simp at this
        rw [this] at hlen; simp at hlen; omega
      obtain ⟨cc, q1, hpa⟩ := hc1 j (by rw [List.length_map]; omega)
      rw [show (vs.map (·.p)).getD j [] = x.p by simp [List.getD_eq_getElem?_getD, hx]] at hpa
      have HPA := Lib.hid hpa
      obtain ⟨a3, c3, rfl, i3⟩ := hpa
      have r1 : wr.cell? ⟨b1, j, none⟩ = some (.slice a3 x.p.length c3) := (hbr.cell (p := ⟨b1, j, none⟩) hb1).trans q1
      have t1 : b1 < wr.heap.size := by omega
      obtain ⟨V, ⟨h, ks, aa, ca, ak, ck, rfl, -, -, hor⟩, hV⟩ := place_any (pathInts x.p) f _ (.slice a3 x.p.length c3) wr (lies_below HL.out BR) (ints_below (intsF_lies i3) hbr) (by simp at hxl; simp; omega)
      have PV := Lib.hid (hV wr (Below.refl _ _))
      rw [hpl] at PV hor
      obtain ⟨rfl, rfl⟩ : h = x.h ∧ ks = x.ks := by
        rcases hor with e | ⟨e, -⟩
        · exact Prod.mk.inj (Option.some.inj e.symm)
        · cases e
      unfold aggOf at PV
      clear hor hV i3 hc1 q1 hpl hxl
      generalize selP (fun x => x.h.l == lab) (vs.take j) = M at *
      go_wp2_with fail
      refine PV.out.mono ?_
      rintro e X5 ⟨rfl, hb5⟩
      have r5 := (hb5.cell (p := ⟨b1, j, none⟩) t1).trans r1
      have hs5 := hb5.size
      go_upto_region 12 with fail
      have k6 := World.alloc_heap_new X5 (.cells #[.int .i64 x.h.k, .string ⟨x.h.l.toArray⟩, .slice aa x.h.ats.length ca, .int .i64 x.h.n, .int .i64 x.h.d, .string ⟨x.h.x.toArray⟩, .slice ak x.ks.len ck] 43)
      have B6 : Below X4.heap.size X4 (X5.alloc (.cells #[.int .i64 x.h.k, .string ⟨x.h.l.toArray⟩, .slice aa x.h.ats.length ca, .int .i64 x.h.n, .int .i64 x.h.d, .string ⟨x.h.x.toArray⟩, .slice ak x.ks.len ck] 43)) := (hbr.trans (hb5.mono hsr)).alloc (by omega) _
      have O6 := owns_belowV HO.out (hb5.alloc hs5 (.cells #[.int .i64 x.h.k, .string ⟨x.h.l.toArray⟩, .slice aa x.h.ats.length ca, .int .i64 x.h.n, .int .i64 x.h.d, .string ⟨x.h.x.toArray⟩, .slice ak x.ks.len ck] 43))
      have r6 : (X5.alloc (.cells #[.int .i64 x.h.k, .string ⟨x.h.l.toArray⟩, .slice aa x.h.ats.length ca, .int .i64 x.h.n, .int .i64 x.h.d, .string ⟨x.h.x.toArray⟩, .slice ak x.ks.len ck] 43)).cell? ⟨b1, j, none⟩ = some (.slice a3 x.p.length c3) := (World.cell?_of_block (Below.heap_alloc X5 _ b1 (by omega))).trans r5
      have hs6 : X5.heap.size < (X5.alloc (.cells #[.int .i64 x.h.k, .string ⟨x.h.l.toArray⟩, .slice aa x.h.ats.length ca, .int .i64 x.h.n, .int .i64 x.h.d, .string ⟨x.h.x.toArray⟩, .slice ak x.ks.len ck] 43)).heap.size := by simp
      generalize X5.alloc (.cells #[.int .i64 x.h.k, .string ⟨x.h.l.toArray⟩, .slice aa x.h.ats.length ca, .int .i64 x.h.n, .int .i64 x.h.d, .string ⟨x.h.x.toArray⟩, .slice ak x.ks.len ck] 43) = X6 at *
      have d0 : X6.cell? ⟨X5.heap.size, 0, none⟩ = some (.int .i64 x.h.k) := cell_of_block k6 rfl
      have d1 : X6.cell? ⟨X5.heap.size, 1, none⟩ = some (.string ⟨x.h.l.toArray⟩) := cell_of_block k6 rfl
      have HO := Lib.hid O6
      have t6 : b1 < X6.heap.size := by omega
      have hx6 := B6.size
      clear k6 O6 hb5 r1 r5
      generalize x.h.l = xl at *
      generalize x.h.k = xk at *
      by_cases hlx : xl = lab
      · obtain rfl := hk hlx
        subst hlx
        have bl : (xl == xl) = true := by simp
        rw [if_pos bl] at HS
        have hnew := World.alloc_heap_new X6 (.cells #[.slice a3 x.p.length c3] 41)
        go_wp2_with (at_builtin; refine wpList_append_own _ rfl _ _ 49 rfl X4.heap.size 41 i0 _ 1 24 Tryz.underlying49 hi hz0 hz1 hz2 rfl (by decide) (.slice a M.length cap) M.length cs rfl (HO.out.alloc _) ⟨X6.heap.size, 0, none⟩ 1 1 [Value.slice a3 x.p.length c3] rfl rfl ?c1 ?c2 ?c3 ?c4 ?c5 ?stop)
        case c2 => first | rfl | (intro u hu; simp at hu; subst hu; rfl)
        case c3 => unfold maxLen; omega
        case c4 => omega
        case c5 => first | omega | (simp; omega)
        case stop =>
          intro v' w7 hown' hgrow _
          obtain ⟨g', cap', rfl⟩ : ∃ g cap, v' = .slice (some ⟨g, 0, none⟩) (M.length + 1) cap := by
            rcases hown'.2 with ⟨_, h0⟩ | ⟨g, cap, cur, hv, _⟩
            · omega
            · exact ⟨g, cap, hv⟩
          have B7 := (B6.alloc hx6 (.cells #[.slice a3 x.p.length c3] 41)).grown hgrow (by simp; omega) (fun k hk => (HO.out.lt k hk).1)
          have O7 := Lib.hid hown'
          have A7 := Lib.hid (all2_append HA.out (.cons HPA.out .nil))
          have hm : (M ++ [x.p]).length = M.length + 1 := by simp
          clear hown' hgrow hnew
          go_wp2_with fail
          go_roundw
          case rel => exact ⟨j + 1, some ⟨g', 0, none⟩, cap', _, by go_num, by omega, by rw [HS.out, hm], by rw [HS.out, hm]; exact O7.out, by rw [HS.out]; exact A7.out, B7⟩
          case measure => simp [intOf]; omega
      · have bl : (xl == lab) = false := by simpa using hlx
        by_cases hk0 : xk = 0
        · subst hk0
          go_wp2_with fail
          go_roundw
          case rel => exact ⟨j + 1, a, cap, cs, by go_num, by omega, by rw [HS.out, bl]; rfl, by rw [HS.out, bl]; exact HO.out, by rw [HS.out, bl]; exact HA.out, B6⟩
          case measure => simp [intOf]; omega
        · have bk : (xk == 0) = false := by simpa using hk0
          go_wp2_with fail
          go_roundw
          case rel => exact ⟨j + 1, a, cap, cs, by go_num, by omega, by rw [HS.out, bl]; rfl, by rw [HS.out, bl]; exact HO.out, by rw [HS.out, bl]; exact HA.out, B6⟩
          case measure => simp [intOf]; omega
    · obtain rfl : j = f.size := by omega
      have ht : vs.take f.size = vs := by rw [← hlen, List.take_length]
      have HF2 := Lib.hid (show PathsF w.heap.size wr (.slice a (selP (fun x => x.h.l == lab) (vs.take f.size)).length cap) (selP (fun x => x.h.l == lab) vs) from by
        rw [ht]
        rw [ht] at HO HA
        exact PathsO.paths ⟨cs, ownsRow_mono hs4 HO.out, forall2_next (fun _ _ h => h.keeps (Keeps.of_below hbr)) HA.out⟩)
      go_wp2_with fail
      go_ret2
      exact ⟨_, rfl, HF2.out, BR⟩

theorem qfind_any (f : Fo) (v : Value) (lab : List UInt8) (w : World) (hl : Lies w v f) (hs : Small f) (hlab : lab.length ≤ 1000000) : Calls Tryz.prog 41 #[v, .string ⟨lab.toArray⟩] w (PsE w (findV f lab)) := by
  by_cases he : foErr f = 0
  · cases hn : namedB lab with
    | false => exact qfind_name f v lab w hl hs hlab he hn
    | true => exact qfind_in f v lab w hl hs hlab he hn
  · exact qfind_bad f v lab w hl hs hlab he
end Go.Proofs.YtcgedpfolloinaaGreat

namespace Go.Proofs.YtcgedpfolloinaaGreat
open Go.RowKit

theorem sel_le (sel : Vis → Bool) (f : Fo) : (selP sel (seqAt [] 0 f)).length ≤ f.size ∧ ∀ j, j < (selP sel (seqAt [] 0 f)).length → ((selP sel (seqAt [] 0 f)).getD j []).length ≤ f.size := ⟨sel_len sel f, sel_path sel f⟩
theorem paths_fit (f : Fo) : (pathsV f).1.length ≤ f.size ∧ ∀ j, j < (pathsV f).1.length → ((pathsV f).1.getD j []).length ≤ f.size := by
  unfold pathsV
  by_cases h : foErr f = 0
  · rw [if_pos h]; exact sel_le _ f
  · rw [if_neg h]; exact ⟨Nat.zero_le _, fun j hj => absurd hj (by simp)⟩
theorem find_fit (f : Fo) (l : List UInt8) : (findV f l).1.length ≤ f.size ∧ ∀ j, j < (findV f l).1.length → ((findV f l).1.getD j []).length ≤ f.size := by
  unfold findV
  by_cases h : foErr f = 0
  · rw [if_pos h]
    by_cases hn : namedB l = true
    · rw [if_pos hn]; exact sel_le _ f
    · rw [if_neg hn]; exact ⟨Nat.zero_le _, fun j hj => absurd hj (by simp)⟩
  · rw [if_neg h]; exact ⟨Nat.zero_le _, fun j hj => absurd hj (by simp)⟩
theorem next_fit (f : Fo) (p : List Int) : (nextF f p).1.length ≤ f.size := by
  unfold nextF
  by_cases h : foErr f ≠ 0
  · rw [if_pos h]; exact Nat.zero_le _
  · rw [if_neg h]
    by_cases h2 : (placeF f p).isSome = false ∧ p ≠ []
    · rw [if_pos h2]; exact Nat.zero_le _
    · rw [if_neg h2]
      cases hn : nextV (seqAt [] 0 f) p with
      | none => exact Nat.zero_le _
      | some q =>
        unfold nextV at hn
        cases hf : (seqAt [] 0 f).find? (fun x => decide (0 < cmpL (pathInts x.p) p)) with
        | none => rw [hf] at hn; cases hn
        | some x =>
          rw [hf] at hn
          have := path_len (List.mem_of_find?_eq_some hf)
          simp only [Option.map_some, Option.some.injEq] at hn
          rw [← hn]; simpa using this

/-- what At gives. -/
def atV (f : Fo) (p : List Int) : Hd × Fo := if atErr f p = 0 then (placeF f p).getD (zeroHd, .nil) else (zeroHd, .nil)
theorem at_res {w w' : World} {f : Fo} {p : List Int} {e : Ending} (h : AtRes w f p e w') : ∃ aa ca ak ck, e = .returned (.tuple #[aggOf (atV f p).1 aa ca ak (atV f p).2.len ck, .int .i64 (atErr f p)]) ∧ AttrsLie w' (.slice aa (atV f p).1.ats.length ca) (atV f p).1.ats ∧ Lies w' (.slice ak (atV f p).2.len ck) (atV f p).2 ∧ Below w.heap.size w w' := by
  obtain ⟨h, ks, aa, ca, ak, ck, rfl, hA, hK, hor, hb⟩ := h
  have hv : atV f p = (h, ks) := by
    unfold atV
    rcases hor with ⟨h1, h2⟩ | ⟨h1, rfl, rfl⟩
    · rw [if_pos h1, h2]; rfl
    · rw [if_neg h1]
  rw [hv]
  exact ⟨aa, ca, ak, ck, rfl, attrsF_lies hA, liesF_lies hK, hb⟩

set_option maxRecDepth 100000 in
set_option maxHeartbeats 8000000 in
theorem places_great (f : Fo) (v : Value) (p : List Int) (pv : Value) (l : List UInt8) (w : World) (hl : Lies w v f) (hp : IntsLie w pv p) (hg : great f = true) :
    Calls Tryz.prog 5 #[v, pv, .string ⟨l.toArray⟩] w fun e w' => e = .returned (.bool true) ∧ Below w.heap.size w w' := by
  have GR := Lib.hid (fun w => grown_any w)
  have GF := Lib.hid (great_any f.size f v w (Nat.le_refl _) hl)
  have BX0 := Below.refl w.heap.size w
  rw [hg] at GF
  obtain ⟨av, cv, rfl⟩ := lies_form hl
  obtain ⟨pa, pc, rfl⟩ := ints_form hp
  clear hl hp hg
  go_enter Tryz.func5, Tryz.ntmps5
  go_wp2_with fail
  refine (GF.out).mono ?_
  rintro e X1 ⟨rfl, hb1⟩
  have BX1 : Below w.heap.size w X1 := BX0.trans (hb1.mono BX0.size)
  go_wp2_with fail
  refine (GR.out _).mono ?_
  rintro e X2 ⟨rfl, hb2⟩
  have BX2 : Below w.heap.size w X2 := BX1.trans (hb2.mono BX1.size)
  go_wp2_with fail
  go_ret
  exact ⟨rfl, BX2⟩

set_option maxRecDepth 100000 in
set_option maxHeartbeats 8000000 in
theorem places_path (f : Fo) (v : Value) (p : List Int) (pv : Value) (l : List UInt8) (w : World) (hl : Lies w v f) (hp : IntsLie w pv p) (hg : great f = false) (h60 : 60 < p.length) :
    Calls Tryz.prog 5 #[v, pv, .string ⟨l.toArray⟩] w fun e w' => e = .returned (.bool true) ∧ Below w.heap.size w w' := by
  have GR := Lib.hid (fun w => grown_any w)
  have GF := Lib.hid (great_any f.size f v w (Nat.le_refl _) hl)
  have BX0 := Below.refl w.heap.size w
  rw [hg] at GF
  have d60 : decide ((60 : Int) < (p.length : Int)) = true := by simp; omega
  obtain ⟨av, cv, rfl⟩ := lies_form hl
  obtain ⟨pa, pc, rfl⟩ := ints_form hp
  clear hl hp hg
  go_enter Tryz.func5, Tryz.ntmps5
  go_wp2_with fail
  refine (GF.out).mono ?_
  rintro e X1 ⟨rfl, hb1⟩
  have BX1 : Below w.heap.size w X1 := BX0.trans (hb1.mono BX0.size)
  go_wp2_with fail
  refine (GR.out _).mono ?_
  rintro e X2 ⟨rfl, hb2⟩
  have BX2 : Below w.heap.size w X2 := BX1.trans (hb2.mono BX1.size)
  go_wp2_with fail
  go_ret
  exact ⟨rfl, BX2⟩

set_option maxRecDepth 100000 in
set_option maxHeartbeats 8000000 in
theorem places_label (f : Fo) (v : Value) (p : List Int) (pv : Value) (l : List UInt8) (w : World) (hl : Lies w v f) (hp : IntsLie w pv p) (hg : great f = false) (h60 : p.length ≤ 60) (h61 : 60 < l.length) :
    Calls Tryz.prog 5 #[v, pv, .string ⟨l.toArray⟩] w fun e w' => e = .returned (.bool true) ∧ Below w.heap.size w w' := by
  have GR := Lib.hid (fun w => grown_any w)
  have GF := Lib.hid (great_any f.size f v w (Nat.le_refl _) hl)
  have BX0 := Below.refl w.heap.size w
  rw [hg] at GF
  have d60 : decide ((60 : Int) < (p.length : Int)) = false := by simp; omega
  have d61 : decide ((60 : Int) < (l.length : Int)) = true := by simp; omega
  obtain ⟨av, cv, rfl⟩ := lies_form hl
  obtain ⟨pa, pc, rfl⟩ := ints_form hp
  clear hl hp hg
  go_enter Tryz.func5, Tryz.ntmps5
  go_wp2_with fail
  refine (GF.out).mono ?_
  rintro e X1 ⟨rfl, hb1⟩
  have BX1 : Below w.heap.size w X1 := BX0.trans (hb1.mono BX0.size)
  go_wp2_with fail
  refine (GR.out _).mono ?_
  rintro e X2 ⟨rfl, hb2⟩
  have BX2 : Below w.heap.size w X2 := BX1.trans (hb2.mono BX1.size)
  go_wp2_with fail
  go_ret
  exact ⟨rfl, BX2⟩

set_option maxRecDepth 100000 in
set_option maxHeartbeats 8000000 in
theorem places_go (f : Fo) (v : Value) (p : List Int) (pv : Value) (l : List UInt8) (w : World) (hl : Lies w v f) (hp : IntsLie w pv p) (hg : great f = false) (h60 : p.length ≤ 60) (h61 : l.length ≤ 60) :
    Calls Tryz.prog 5 #[v, pv, .string ⟨l.toArray⟩] w fun e w' => e = .returned (.bool true) ∧ Below w.heap.size w w' := by
  have GR := Lib.hid (fun w => grown_any w)
  have GF := Lib.hid (great_any f.size f v w (Nat.le_refl _) hl)
  have BX0 := Below.refl w.heap.size w
  have hs : Small f := small_lies hl hg
  rw [hg] at GF
  have d60 : decide ((60 : Int) < (p.length : Int)) = false := by simp; omega
  have d61 : decide ((60 : Int) < (l.length : Int)) = false := by simp; omega
  have hp6 : p.length ≤ 1000000 := by omega
  have hl6 : l.length ≤ 1000000 := by omega
  have A1 := Lib.hid (fun W (hW : Below w.heap.size w W) => (at_any f p v pv W (lies_below hl hW) hs (ints_below hp hW) hp6).mono fun _ _ h => at_res h)
  have A2 := Lib.hid (fun W (hW : Below w.heap.size w W) => (qat_any f p v pv W (lies_below hl hW) hs (ints_below hp hW) hp6).mono fun _ _ h => at_res h)
  have K1 := Lib.hid (fun W (hW : Below w.heap.size w W) => tkids_any f p v pv W (lies_below hl hW) hs (ints_below hp hW) hp6)
  have K2 := Lib.hid (fun W (hW : Below w.heap.size w W) => qkids_any f p v pv W (lies_below hl hW) hs (ints_below hp hW) hp6)
  have P1 := Lib.hid (fun W (hW : Below w.heap.size w W) => tpaths_any f v W (lies_below hl hW) hs)
  have P2 := Lib.hid (fun W (hW : Below w.heap.size w W) => qpaths_any f v W (lies_below hl hW) hs)
  have N1 := Lib.hid (fun W (hW : Below w.heap.size w W) => next_any f p v pv W (lies_below hl hW) hs (ints_below hp hW) hp6)
  have N2 := Lib.hid (fun W (hW : Below w.heap.size w W) => qnext_any f p v pv W (lies_below hl hW) hs (ints_below hp hW) hp6)
  have F1 := Lib.hid (fun W (hW : Below w.heap.size w W) => tfind_any f v l W (lies_below hl hW) hs hl6)
  have F2 := Lib.hid (fun W (hW : Below w.heap.size w W) => qfind_any f v l W (lies_below hl hW) hs hl6)
  have hfs := hs.size
  have HLP := Lib.hid (paths_fit f)
  have HLF := Lib.hid (find_fit f l)
  have HLN := Lib.hid (next_fit f p)
  obtain ⟨av, cv, rfl⟩ := lies_form hl
  obtain ⟨pa, pc, rfl⟩ := ints_form hp
  clear hl hp hg hs
  obtain ⟨at0, hat0⟩ : ∃ x, atV f p = x := ⟨_, rfl⟩
  rw [hat0] at A1 A2
  clear hat0
  obtain ⟨h, ks⟩ := at0
  simp only at A1 A2
  generalize atErr f p = ae at *
  generalize kidsV f p = kr at *
  generalize pathsV f = pr at *
  generalize nextF f p = nr at *
  generalize findV f l = fr at *
  obtain ⟨kf, ke⟩ := kr
  obtain ⟨pl, pe⟩ := pr
  obtain ⟨fl, fe⟩ := fr
  obtain ⟨nl, nb, ne⟩ := nr
  simp only at HLP HLF HLN
  have x1 : (ae != ae) = false := by simp
  have x2 : (ke != ke) = false := by simp
  have x3 : (pe == pe) = true := by simp
  have x4 : (ne == ne) = true := by simp
  have x5 : (fe == fe) = true := by simp
  have x6 : (nb == nb) = true := by simp
  have SR := Lib.hid (fun (g : Fo) v u W (h1 : Lies W v g) (h2 : Lies W u g) => same_refl g.size g (Nat.le_refl _) v u W h1 h2)
  unfold aggOf at A1 A2
  go_enter Tryz.func5, Tryz.ntmps5
  go_wp2_with fail
  refine (GF.out).mono ?_
  rintro e X1 ⟨rfl, hb1⟩
  have BX1 : Below w.heap.size w X1 := BX0.trans (hb1.mono BX0.size)
  go_wp2_with fail
  refine (A1.out X1 BX1).mono ?_
  rintro e X2 ⟨aa1, ca1, ak1, ck1, rfl, hA1, hK1, hb2⟩
  have BX2 : Below w.heap.size w X2 := BX1.trans (hb2.mono BX1.size)
  go_upto_region 4 with fail
  have k3 := World.alloc_heap_new X2 (.cells #[.int .i64 h.k, .string ⟨h.l.toArray⟩, .slice aa1 h.ats.length ca1, .int .i64 h.n, .int .i64 h.d, .string ⟨h.x.toArray⟩, .slice ak1 ks.len ck1] 43)
  have ba3 : Below X2.heap.size X2 (X2.alloc (.cells #[.int .i64 h.k, .string ⟨h.l.toArray⟩, .slice aa1 h.ats.length ca1, .int .i64 h.n, .int .i64 h.d, .string ⟨h.x.toArray⟩, .slice ak1 ks.len ck1] 43)) := (Below.refl _ _).alloc (Nat.le_refl _) _
  have tz3 : X2.heap.size < (X2.alloc (.cells #[.int .i64 h.k, .string ⟨h.l.toArray⟩, .slice aa1 h.ats.length ca1, .int .i64 h.n, .int .i64 h.d, .string ⟨h.x.toArray⟩, .slice ak1 ks.len ck1] 43)).heap.size := by simp
  generalize X2.alloc (.cells #[.int .i64 h.k, .string ⟨h.l.toArray⟩, .slice aa1 h.ats.length ca1, .int .i64 h.n, .int .i64 h.d, .string ⟨h.x.toArray⟩, .slice ak1 ks.len ck1] 43) = X3 at *
  have BX3 : Below w.heap.size w X3 := BX2.trans (ba3.mono BX2.size)
  have KT3 := Lib.hid k3
  clear k3
  have HA1 := Lib.hid (attrs_below hA1 ba3)
  have HK1 := Lib.hid (lies_below hK1 ba3)
  clear hA1 hK1 ba3
  obtain ⟨t1, ht1⟩ : ∃ t, t = X2.heap.size := ⟨_, rfl⟩
  rw [← ht1] at KT3 tz3
  rw [← ht1]
  clear ht1
  go_wp2_with fail
  refine (A2.out X3 BX3).mono ?_
  rintro e X4 ⟨aa2, ca2, ak2, ck2, rfl, hA2, hK2, hb4⟩
  have BX4 : Below w.heap.size w X4 := BX3.trans (hb4.mono BX3.size)
  have HA1 := Lib.hid (attrs_below HA1.out hb4)
  have HK1 := Lib.hid (lies_below HK1.out hb4)
  have KT4 := Lib.hid ((hb4.block _ tz3).trans KT3.out)
  have tz4 : t1 < X4.heap.size := Nat.lt_of_lt_of_le tz3 hb4.size
  go_upto_region 5 with fail
  have k5 := World.alloc_heap_new X4 (.cells #[.int .i64 h.k, .string ⟨h.l.toArray⟩, .slice aa2 h.ats.length ca2, .int .i64 h.n, .int .i64 h.d, .string ⟨h.x.toArray⟩, .slice ak2 ks.len ck2] 43)
  have ba5 : Below X4.heap.size X4 (X4.alloc (.cells #[.int .i64 h.k, .string ⟨h.l.toArray⟩, .slice aa2 h.ats.length ca2, .int .i64 h.n, .int .i64 h.d, .string ⟨h.x.toArray⟩, .slice ak2 ks.len ck2] 43)) := (Below.refl _ _).alloc (Nat.le_refl _) _
  have tz5 : X4.heap.size < (X4.alloc (.cells #[.int .i64 h.k, .string ⟨h.l.toArray⟩, .slice aa2 h.ats.length ca2, .int .i64 h.n, .int .i64 h.d, .string ⟨h.x.toArray⟩, .slice ak2 ks.len ck2] 43)).heap.size := by simp
  generalize X4.alloc (.cells #[.int .i64 h.k, .string ⟨h.l.toArray⟩, .slice aa2 h.ats.length ca2, .int .i64 h.n, .int .i64 h.d, .string ⟨h.x.toArray⟩, .slice ak2 ks.len ck2] 43) = X5 at *
  have BX5 : Below w.heap.size w X5 := BX4.trans (ba5.mono BX4.size)
  have KT5 := Lib.hid k5
  clear k5
  have HA1 := Lib.hid (attrs_below HA1.out ba5)
  have HK1 := Lib.hid (lies_below HK1.out ba5)
  have HA2 := Lib.hid (attrs_below hA2 ba5)
  have HK2 := Lib.hid (lies_below hK2 ba5)
  have KS5 := Lib.hid ((ba5.block _ tz4).trans KT4.out)
  have ty5 : t1 < X5.heap.size := by have := ba5.size; omega
  clear hA2 hK2 ba5
  obtain ⟨t2, ht2⟩ : ∃ t, t = X4.heap.size := ⟨_, rfl⟩
  rw [← ht2] at KT5 tz5
  rw [← ht2]
  clear ht2
  go_wp2_with fail
  refine (K1.out X5 BX5).mono ?_
  rintro e X6 ⟨aK, cK, rfl, hF6, hb6⟩
  have BX6 : Below w.heap.size w X6 := BX5.trans (hb6.mono BX5.size)
  have HA1 := Lib.hid (attrs_below HA1.out hb6)
  have HK1 := Lib.hid (lies_below HK1.out hb6)
  have HA2 := Lib.hid (attrs_below HA2.out hb6)
  have HK2 := Lib.hid (lies_below HK2.out hb6)
  have KS6 := Lib.hid ((hb6.block _ ty5).trans KS5.out)
  have KT6 := Lib.hid ((hb6.block _ tz5).trans KT5.out)
  have ty6 : t1 < X6.heap.size := Nat.lt_of_lt_of_le ty5 hb6.size
  have tz6 : t2 < X6.heap.size := Nat.lt_of_lt_of_le tz5 hb6.size
  have HF6 := Lib.hid (liesF_lies hF6)
  clear hF6
  go_wp2_with fail
  refine (K2.out X6 BX6).mono ?_
  rintro e X7 ⟨aL, cL, rfl, hF7, hb7⟩
  have BX7 : Below w.heap.size w X7 := BX6.trans (hb7.mono BX6.size)
  have HA1 := Lib.hid (attrs_below HA1.out hb7)
  have HK1 := Lib.hid (lies_below HK1.out hb7)
  have HA2 := Lib.hid (attrs_below HA2.out hb7)
  have HK2 := Lib.hid (lies_below HK2.out hb7)
  have KS7 := Lib.hid ((hb7.block _ ty6).trans KS6.out)
  have KT7 := Lib.hid ((hb7.block _ tz6).trans KT6.out)
  have ty7 : t1 < X7.heap.size := Nat.lt_of_lt_of_le ty6 hb7.size
  have tz7 : t2 < X7.heap.size := Nat.lt_of_lt_of_le tz6 hb7.size
  have HF6 := Lib.hid (lies_below HF6.out hb7)
  have HF7 := Lib.hid (liesF_lies hF7)
  clear hF7
  have d0 : X7.cell? ⟨t1, 0, none⟩ = some (.int .i64 h.k) := cell_of_block KS7.out rfl
  have d1 : X7.cell? ⟨t1, 1, none⟩ = some (.string ⟨h.l.toArray⟩) := cell_of_block KS7.out rfl
  have d2 : X7.cell? ⟨t1, 2, none⟩ = some (.slice aa1 h.ats.length ca1) := cell_of_block KS7.out rfl
  have d3 : X7.cell? ⟨t1, 3, none⟩ = some (.int .i64 h.n) := cell_of_block KS7.out rfl
  have d4 : X7.cell? ⟨t1, 4, none⟩ = some (.int .i64 h.d) := cell_of_block KS7.out rfl
  have d5 : X7.cell? ⟨t1, 5, none⟩ = some (.string ⟨h.x.toArray⟩) := cell_of_block KS7.out rfl
  have d6 : X7.cell? ⟨t1, 6, none⟩ = some (.slice ak1 ks.len ck1) := cell_of_block KS7.out rfl
  have c0 : X7.cell? ⟨t2, 0, none⟩ = some (.int .i64 h.k) := cell_of_block KT7.out rfl
  have c1 : X7.cell? ⟨t2, 1, none⟩ = some (.string ⟨h.l.toArray⟩) := cell_of_block KT7.out rfl
  have c2 : X7.cell? ⟨t2, 2, none⟩ = some (.slice aa2 h.ats.length ca2) := cell_of_block KT7.out rfl
  have c3 : X7.cell? ⟨t2, 3, none⟩ = some (.int .i64 h.n) := cell_of_block KT7.out rfl
  have c4 : X7.cell? ⟨t2, 4, none⟩ = some (.int .i64 h.d) := cell_of_block KT7.out rfl
  have c5 : X7.cell? ⟨t2, 5, none⟩ = some (.string ⟨h.x.toArray⟩) := cell_of_block KT7.out rfl
  have c6 : X7.cell? ⟨t2, 6, none⟩ = some (.slice ak2 ks.len ck2) := cell_of_block KT7.out rfl
  have k8 := World.alloc_heap_new X7 (.cells #[.int .i64 h.k, .string ⟨h.l.toArray⟩, .slice aa1 h.ats.length ca1, .int .i64 h.n, .int .i64 h.d, .string ⟨h.x.toArray⟩, .slice ak1 ks.len ck1] 43)
  have ba8 : Below X7.heap.size X7 (X7.alloc (.cells #[.int .i64 h.k, .string ⟨h.l.toArray⟩, .slice aa1 h.ats.length ca1, .int .i64 h.n, .int .i64 h.d, .string ⟨h.x.toArray⟩, .slice ak1 ks.len ck1] 43)) := (Below.refl _ _).alloc (Nat.le_refl _) _
  have e8 : (X7.alloc (.cells #[.int .i64 h.k, .string ⟨h.l.toArray⟩, .slice aa1 h.ats.length ca1, .int .i64 h.n, .int .i64 h.d, .string ⟨h.x.toArray⟩, .slice ak1 ks.len ck1] 43)).heap.size = X7.heap.size + 1 := by simp
  have ba9 : Below (X7.alloc (.cells #[.int .i64 h.k, .string ⟨h.l.toArray⟩, .slice aa1 h.ats.length ca1, .int .i64 h.n, .int .i64 h.d, .string ⟨h.x.toArray⟩, .slice ak1 ks.len ck1] 43)).heap.size (X7.alloc (.cells #[.int .i64 h.k, .string ⟨h.l.toArray⟩, .slice aa1 h.ats.length ca1, .int .i64 h.n, .int .i64 h.d, .string ⟨h.x.toArray⟩, .slice ak1 ks.len ck1] 43)) ((X7.alloc (.cells #[.int .i64 h.k, .string ⟨h.l.toArray⟩, .slice aa1 h.ats.length ca1, .int .i64 h.n, .int .i64 h.d, .string ⟨h.x.toArray⟩, .slice ak1 ks.len ck1] 43)).alloc (.cells #[.int .i64 h.k, .string ⟨h.l.toArray⟩, .slice aa2 h.ats.length ca2, .int .i64 h.n, .int .i64 h.d, .string ⟨h.x.toArray⟩, .slice ak2 ks.len ck2] 43)) := (Below.refl _ _).alloc (Nat.le_refl _) _
  have k9 := World.alloc_heap_new (X7.alloc (.cells #[.int .i64 h.k, .string ⟨h.l.toArray⟩, .slice aa1 h.ats.length ca1, .int .i64 h.n, .int .i64 h.d, .string ⟨h.x.toArray⟩, .slice ak1 ks.len ck1] 43)) (.cells #[.int .i64 h.k, .string ⟨h.l.toArray⟩, .slice aa2 h.ats.length ca2, .int .i64 h.n, .int .i64 h.d, .string ⟨h.x.toArray⟩, .slice ak2 ks.len ck2] 43)
  have L1 := Lib.hid (lies_below (lies_one k8 (attrs_below HA1.out ba8) (lies_below HK1.out ba8)) ba9)
  have BX9 : Below w.heap.size w ((X7.alloc (.cells #[.int .i64 h.k, .string ⟨h.l.toArray⟩, .slice aa1 h.ats.length ca1, .int .i64 h.n, .int .i64 h.d, .string ⟨h.x.toArray⟩, .slice ak1 ks.len ck1] 43)).alloc (.cells #[.int .i64 h.k, .string ⟨h.l.toArray⟩, .slice aa2 h.ats.length ca2, .int .i64 h.n, .int .i64 h.d, .string ⟨h.x.toArray⟩, .slice ak2 ks.len ck2] 43)) := (BX7.trans (ba8.mono BX7.size)).trans (ba9.mono (by have := BX7.size; omega))
  have ba10 := ba8.trans (ba9.mono (by omega))
  have L2 := Lib.hid (lies_one k9 (attrs_below HA2.out ba10) (lies_below HK2.out ba10))
  rw [e8] at L2
  have HF6 := Lib.hid (lies_below HF6.out ba10)
  have HF7 := Lib.hid (lies_below HF7.out ba10)
  clear k8 k9 ba8 ba9 ba10 e8
  go_wp2_with fail
  generalize (X7.alloc (.cells #[.int .i64 h.k, .string ⟨h.l.toArray⟩, .slice aa1 h.ats.length ca1, .int .i64 h.n, .int .i64 h.d, .string ⟨h.x.toArray⟩, .slice ak1 ks.len ck1] 43)).alloc (.cells #[.int .i64 h.k, .string ⟨h.l.toArray⟩, .slice aa2 h.ats.length ca2, .int .i64 h.n, .int .i64 h.d, .string ⟨h.x.toArray⟩, .slice ak2 ks.len ck2] 43) = X9 at *
  refine (SR.out _ _ _ X9 L1.out L2.out).mono ?_
  rintro e X10 ⟨rfl, hb10⟩
  have BX10 := BX9.trans (hb10.mono BX9.size)
  have HF6 := Lib.hid (lies_below HF6.out hb10)
  have HF7 := Lib.hid (lies_below HF7.out hb10)
  clear L1 L2 hb10 HA1 HA2 HK1 HK2 d0 d1 d2 d3 d4 d5 d6 c0 c1 c2 c3 c4 c5 c6 KS7 KT7 KS6 KT6 KS5 KT5 KT4 KT3 ty5 ty6 ty7 tz3 tz4 tz5 tz6 tz7 A1 A2 K1 K2 hb1 hb2 hb4 hb6 hb7
  go_wp2_with fail
  refine (SR.out _ _ _ X10 HF6.out HF7.out).mono ?_
  rintro e X11 ⟨rfl, hb11⟩
  have BX11 : Below w.heap.size w X11 := BX10.trans (hb11.mono BX10.size)
  clear HF6 HF7 hb11 SR
  go_wp2_with fail
  refine (P1.out X11 BX11).mono ?_
  rintro e X12 ⟨vP, rfl, hPP, hb12⟩
  have BX12 : Below w.heap.size w X12 := BX11.trans (hb12.mono BX11.size)
  obtain ⟨aP, cP, rfl, hqP⟩ := hPP
  have HPP := Lib.hid (show PathsF X11.heap.size X12 (.slice aP pl.length cP) pl from ⟨aP, cP, rfl, hqP⟩)
  clear hqP hb12
  go_wp2_with fail
  refine (P2.out X12 BX12).mono ?_
  rintro e X13 ⟨vQ, rfl, hPQ, hb13⟩
  have BX13 : Below w.heap.size w X13 := BX12.trans (hb13.mono BX12.size)
  obtain ⟨aQ, cQ, rfl, hqQ⟩ := hPQ
  have HPQ := Lib.hid (show PathsF X12.heap.size X13 (.slice aQ pl.length cQ) pl from ⟨aQ, cQ, rfl, hqQ⟩)
  have HPP := Lib.hid (HPP.out.below hb13)
  clear hqQ hb13
  go_wp2_with fail
  refine (N1.out X13 BX13).mono ?_
  rintro e X14 ⟨aN, cN, rfl, hiN, hb14⟩
  have BX14 : Below w.heap.size w X14 := BX13.trans (hb14.mono BX13.size)
  have HIN := Lib.hid (intsF_lies hiN)
  have HPP := Lib.hid (HPP.out.below hb14)
  have HPQ := Lib.hid (HPQ.out.below hb14)
  clear hiN hb14
  go_wp2_with fail
  refine (N2.out X14 BX14).mono ?_
  rintro e X15 ⟨aO, cO, rfl, hiO, hb15⟩
  have BX15 : Below w.heap.size w X15 := BX14.trans (hb15.mono BX14.size)
  have HIO := Lib.hid (intsF_lies hiO)
  have HIN := Lib.hid (ints_below HIN.out hb15)
  have HPP := Lib.hid (HPP.out.below hb15)
  have HPQ := Lib.hid (HPQ.out.below hb15)
  clear hiO hb15
  go_wp2_with fail
  refine (F1.out X15 BX15).mono ?_
  rintro e X16 ⟨vF, rfl, hPF, hb16⟩
  have BX16 : Below w.heap.size w X16 := BX15.trans (hb16.mono BX15.size)
  obtain ⟨aF, cF, rfl, hqF⟩ := hPF
  have HPF := Lib.hid (show PathsF X15.heap.size X16 (.slice aF fl.length cF) fl from ⟨aF, cF, rfl, hqF⟩)
  have HPP := Lib.hid (HPP.out.below hb16)
  have HPQ := Lib.hid (HPQ.out.below hb16)
  have HIN := Lib.hid (ints_below HIN.out hb16)
  have HIO := Lib.hid (ints_below HIO.out hb16)
  clear hqF hb16
  go_wp2_with fail
  refine (F2.out X16 BX16).mono ?_
  rintro e X17 ⟨vG, rfl, hPG, hb17⟩
  have BX17 : Below w.heap.size w X17 := BX16.trans (hb17.mono BX16.size)
  obtain ⟨aG, cG, rfl, hqG⟩ := hPG
  have HPG := Lib.hid (show PathsF X16.heap.size X17 (.slice aG fl.length cG) fl from ⟨aG, cG, rfl, hqG⟩)
  have HPF := Lib.hid (HPF.out.below hb17)
  have HPP := Lib.hid (HPP.out.below hb17)
  have HPQ := Lib.hid (HPQ.out.below hb17)
  have HIN := Lib.hid (ints_below HIN.out hb17)
  have HIO := Lib.hid (ints_below HIO.out hb17)
  clear hqG hb17 N1 N2 F1 F2 P1 P2
  go_wp2_with fail
  refine (lalike_same _ _ pl _ _ X17 HPP.out HPQ.out (fun j hj => by have := HLP.out.2 j hj; omega) (by have := HLP.out.1; omega)).mono ?_
  rintro e X18 ⟨rfl, hb18⟩
  have BX18 : Below w.heap.size w X18 := BX17.trans (hb18.mono BX17.size)
  have HPF := Lib.hid (HPF.out.below hb18)
  have HPG := Lib.hid (HPG.out.below hb18)
  have HIN := Lib.hid (ints_below HIN.out hb18)
  have HIO := Lib.hid (ints_below HIO.out hb18)
  clear hb18
  go_wp2_with fail
  refine (alike_same _ _ nl X18 X18 (Below.refl _ _) ⟨HIN.out, HIO.out, by have := HLN.out; omega⟩).mono ?_
  rintro e X19 ⟨rfl, hb19⟩
  have BX19 : Below w.heap.size w X19 := BX18.trans (hb19.mono BX18.size)
  have HPF := Lib.hid (HPF.out.below hb19)
  have HPG := Lib.hid (HPG.out.below hb19)
  clear hb19
  go_wp2_with fail
  refine (lalike_same _ _ fl _ _ X19 HPF.out HPG.out (fun j hj => by have := HLF.out.2 j hj; omega) (by have := HLF.out.1; omega)).mono ?_
  rintro e X20 ⟨rfl, hb20⟩
  have BX20 : Below w.heap.size w X20 := BX19.trans (hb20.mono BX19.size)
  clear hb20
  go_wp2_with fail
  refine (GR.out _).mono ?_
  rintro e X21 ⟨rfl, hb21⟩
  have BX21 : Below w.heap.size w X21 := BX20.trans (hb21.mono BX20.size)
  go_wp2_with fail
  go_ret
  exact ⟨rfl, BX21⟩

theorem places_any (f : Fo) (v : Value) (p : List Int) (pv : Value) (l : List UInt8) (w : World) (hl : Lies w v f) (hp : IntsLie w pv p) (_ : (⟨l.toArray⟩ : ByteArray).size ≤ maxLen) :
    Calls Tryz.prog 5 #[v, pv, .string ⟨l.toArray⟩] w fun e w' => e = .returned (.bool true) ∧ Below w.heap.size w w' := by
  cases hg : great f with
  | true => exact places_great f v p pv l w hl hp hg
  | false =>
    by_cases h60 : 60 < p.length
    · exact places_path f v p pv l w hl hp hg h60
    · by_cases h61 : 60 < l.length
      · exact places_label f v p pv l w hl hp hg (by omega) h61
      · exact places_go f v p pv l w hl hp hg (by omega) (by omega)
end Go.Proofs.YtcgedpfolloinaaGreat

namespace Go.Proofs.YtcgedpfolloinaaGreat
open Go.ChangeShapes Go.WideShapes Go.ChangeAt Go.RowKit Go.Deep

theorem mem_all {H : Type} {P : Program} {e : TypeId} : ∀ {ds : List (DataW H)} {d : DataW H}, d ∈ ds → ∀ n ∈ d.weights P e, n ∈ DataW.weightsAll P e ds
  | d' :: r, d, hd, n, hn => by
    simp only [DataW.weightsAll, List.mem_append]
    rcases List.mem_cons.1 hd with rfl | hd
    · exact .inl hn
    · exact .inr (mem_all hd n hn)
theorem bytesAttr : Tryz.prog.bytesOf 81 = 32 := by kernel_rfl
theorem bytesTree : Tryz.prog.bytesOf 43 = 104 := by kernel_rfl
theorem cellsAttr : Tryz.prog.cellsOf 81 = 2 := by kernel_rfl
theorem cellsHead : Tryz.prog.cellsOf 27 = 6 := by kernel_rfl
theorem cellsTree : Tryz.prog.cellsOf 43 = 7 := by kernel_rfl
theorem cellsNumT : Tryz.prog.cellsOf 25 = 2 := by kernel_rfl
theorem cellsKind : Tryz.prog.cellsOf 22 = 1 := by kernel_rfl
theorem cellsStr : Tryz.prog.cellsOf 9 = 1 := by kernel_rfl
theorem cellsAttrs : Tryz.prog.cellsOf 23 = 1 := by kernel_rfl
theorem cellsTrees : Tryz.prog.cellsOf 28 = 1 := by kernel_rfl
theorem cellsInt : Tryz.prog.cellsOf 3 = 1 := by kernel_rfl
/-- no string, no slice of a datum is larger than memory. -/
def Fits {H : Type} (t : TypeId) (d : DataW H) : Prop := ∀ n ∈ d.weights Tryz.prog t, n ≤ reachBytes
theorem str_list (s : ByteArray) : ∃ l : List UInt8, s = ⟨l.toArray⟩ := ⟨s.data.toList, by cases s; simp⟩
theorem lt_of_cell' {w : World} {b o : Nat} {v : Value} (h : w.cell? ⟨b, o, none⟩ = some v) : b < w.heap.size := by
  by_cases hb : b < w.heap.size
  · exact hb
  · exfalso
    have : w.heap[b]? = none := Array.getElem?_eq_none (by omega)
    unfold World.cell? at h
    simp [this] at h

theorem tfields : ∃ a b, Tryz.prog.underlying 43 = some (.struct #[a, b]) ∧ a.type = 27 ∧ a.offset = 0 ∧ b.type = 28 ∧ b.offset = 6 := ⟨_, _, Tryz.underlying43, rfl, rfl, rfl, rfl⟩
theorem hfields : ∃ a b c d e, Tryz.prog.underlying 27 = some (.struct #[a, b, c, d, e]) ∧ (a.type = 22 ∧ a.offset = 0) ∧ (b.type = 9 ∧ b.offset = 1) ∧ (c.type = 23 ∧ c.offset = 2) ∧ (d.type = 25 ∧ d.offset = 3) ∧ (e.type = 9 ∧ e.offset = 5) :=
  ⟨_, _, _, _, _, Tryz.underlying27, ⟨rfl, rfl⟩, ⟨rfl, rfl⟩, ⟨rfl, rfl⟩, ⟨rfl, rfl⟩, ⟨rfl, rfl⟩⟩
theorem nfields : ∃ a b, Tryz.prog.underlying 25 = some (.struct #[a, b]) ∧ a.type = 3 ∧ a.offset = 0 ∧ b.type = 3 ∧ b.offset = 1 := ⟨_, _, Tryz.underlying25, rfl, rfl, rfl, rfl⟩
theorem afields : ∃ a b, Tryz.prog.underlying 81 = some (.struct #[a, b]) ∧ a.type = 9 ∧ a.offset = 0 ∧ b.type = 9 ∧ b.offset = 1 := ⟨_, _, Tryz.underlying81, rfl, rfl, rfl, rfl⟩

section
variable {H : Type} {enc : TypeId × Value → H} {W : World} {held : Bool}

set_option maxRecDepth 100000 in
theorem attrs_open {fuel : Nat} {v : Value} {x : DataW H × List MemPlace} (h : DataW.trod enc Tryz.prog W 0 (fun _ => true) held fuel 23 [v] = some x) (hf : Fits 23 x.1) : ∃ ats, AttrsLie W v ats := by
  obtain ⟨fa, fb, hu, ta, oa, tb, ob⟩ := afields
  rcases open_slice_pairs Tryz.underlying23 hu cellsAttr oa ob (by rw [ta]; exact cellsStr) (by rw [tb]; exact cellsStr) h with ⟨hcs, hx⟩ | ⟨a, len, cap, m, n, V0, V1, D0, D1, P0, P1, hcs, _, hle, hmax, hm, hx, hi⟩
  · simp at hcs
    subst hcs
    exact ⟨[], .inl ⟨_, _, rfl, rfl⟩⟩
  · simp at hcs
    subst hcs
    simp only [if_true] at hm
    by_cases h0 : len = 0
    · subst h0; exact ⟨[], .inl ⟨_, _, rfl, rfl⟩⟩
    · have hw : (len + (m - len)) * 32 ≤ reachBytes := by
        have := hf ((len + (m - len)) * Tryz.prog.bytesOf 81) (by
          subst hx
          simp only [DataW.weights, Tryz.underlying23]
          simp)
        rwa [bytesAttr] at this
      have hi' : ∀ i, i < len → ∃ x y : List UInt8, W.cell? (a.add (i * 2)) = some (.string ⟨x.toArray⟩) ∧ W.cell? (a.add (i * 2 + 1)) = some (.string ⟨y.toArray⟩) := by
        intro i hl
        obtain ⟨h1, h2, h3, h4⟩ := hi i (by omega)
        rw [ta] at h3
        rw [tb] at h4
        obtain ⟨x, e1, _, _⟩ := DataW.trod_string Tryz.underlying9 h3
        obtain ⟨y, e2, _, _⟩ := DataW.trod_string Tryz.underlying9 h4
        simp only [List.cons.injEq, and_true] at e1 e2
        obtain ⟨x, rfl⟩ := str_list x
        obtain ⟨y, rfl⟩ := str_list y
        exact ⟨x, y, by rw [h1, e1], by rw [h2, e2]⟩
      obtain ⟨b, off, spot⟩ := a
      obtain ⟨x0, y0, c0, _⟩ := hi' 0 (by omega)
      have hspot : spot = none := by simpa [Addr.add] using World.cell?_spot c0
      subst hspot
      have hb : b < W.heap.size := by
        rw [Go.WideShapes.add_plain] at c0
        exact lt_of_cell' c0
      have e : ∀ i, i < len → ∃ q : List UInt8 × List UInt8, W.cell? ⟨b, off + i * 2, none⟩ = some (.string ⟨q.1.toArray⟩) ∧ W.cell? ⟨b, off + i * 2 + 1, none⟩ = some (.string ⟨q.2.toArray⟩) := by
        intro i hl
        obtain ⟨x, y, h1, h2⟩ := hi' i hl
        rw [Go.WideShapes.add_plain] at h1 h2
        exact ⟨(x, y), h1, by rw [Nat.add_assoc]; exact h2⟩
      obtain ⟨q, hq⟩ := choose_lt e
      have hl : ((List.range len).map q).length = len := by simp
      refine ⟨(List.range len).map q, .inr ⟨b, off, cap, by rw [hl], by rw [hl]; exact hle, by rw [hl]; unfold reachBytes at hw; omega, hb, fun k hk => ?_⟩⟩
      have hk' : k < len := by rwa [hl] at hk
      have g : ((List.range len).map q).getD k ([], []) = q k := by
        rw [List.getD_eq_getElem?_getD]; simp [hk']
      rw [g]
      exact hq k hk'

set_option maxRecDepth 100000 in
theorem head_open {fuel : Nat} {cs : List Value} {x : DataW H × List MemPlace} (h : DataW.trod enc Tryz.prog W 0 (fun _ => true) held fuel 27 cs = some x) (hf : Fits 27 x.1) :
    ∃ (hd : Hd) (va : Value), cs = [.int .i64 hd.k, .string ⟨hd.l.toArray⟩, va, .int .i64 hd.n, .int .i64 hd.d, .string ⟨hd.x.toArray⟩] ∧ AttrsLie W va hd.ats := by
  obtain ⟨fa, fb, fc, fd, fe, hu, ⟨ta, oa⟩, ⟨tb, ob⟩, ⟨tc, oc⟩, ⟨td, od⟩, te, oe⟩ := hfields
  obtain ⟨xs, n, _, hx, hlen, hxl, hi⟩ := DataW.trod_struct hu h
  rw [cellsHead] at hlen
  obtain ⟨c0, c1, c2, c3, c4, c5, rfl⟩ : ∃ c0 c1 c2 c3 c4 c5, cs = [c0, c1, c2, c3, c4, c5] := by
    match cs, hlen with
    | [c0, c1, c2, c3, c4, c5], _ => exact ⟨c0, c1, c2, c3, c4, c5, rfl⟩
  obtain ⟨x0, x1, x2, x3, x4, rfl⟩ : ∃ x0 x1 x2 x3 x4, xs = [x0, x1, x2, x3, x4] := by
    match xs, hxl with
    | [x0, x1, x2, x3, x4], _ => exact ⟨x0, x1, x2, x3, x4, rfl⟩
  have i0 := hi 0 fa rfl
  have i1 := hi 1 fb rfl
  have i2 := hi 2 fc rfl
  have i3 := hi 3 fd rfl
  have i4 := hi 4 fe rfl
  rw [ta, oa, cellsKind] at i0
  rw [tb, ob, cellsStr] at i1
  rw [tc, oc, cellsAttrs] at i2
  rw [td, od, cellsNumT] at i3
  rw [te, oe, cellsStr] at i4
  simp at i0 i1 i2 i3 i4
  obtain ⟨k, e0, _, _⟩ := DataW.trod_int Tryz.underlying22 i0
  obtain ⟨l, e1, _, _⟩ := DataW.trod_string Tryz.underlying9 i1
  obtain ⟨t, e4, _, _⟩ := DataW.trod_string Tryz.underlying9 i4
  obtain ⟨ats, ha⟩ := attrs_open i2 (fun m hm => hf m (by
    subst hx
    simp only [DataW.weights, hu]
    refine DataW.weights_mem_each (j := 2) (t := 23) (d := x2.1) (by simp [tc]) (by simp) m hm))
  obtain ⟨na, nb, hun, tna, ona, tnb, onb⟩ := nfields
  obtain ⟨ys, n2, _, _, _, hyl, hj⟩ := DataW.trod_struct hun i3
  obtain ⟨y0, y1, rfl⟩ : ∃ y0 y1, ys = [y0, y1] := by
    match ys, hyl with
    | [y0, y1], _ => exact ⟨y0, y1, rfl⟩
  have j0 := hj 0 na rfl
  have j1 := hj 1 nb rfl
  rw [tna, ona, cellsInt] at j0
  rw [tnb, onb, cellsInt] at j1
  simp at j0 j1
  obtain ⟨n', g0, _, _⟩ := DataW.trod_int Tryz.underlying3 j0
  obtain ⟨d', g1, _, _⟩ := DataW.trod_int Tryz.underlying3 j1
  simp only [List.cons.injEq, and_true] at e0 e1 e4 g0 g1
  obtain ⟨l, rfl⟩ := str_list l
  obtain ⟨t, rfl⟩ := str_list t
  exact ⟨⟨k, l, ats, n', d', t⟩, c2, by rw [e0, e1, e4, g0, g1], ha⟩

def foOf : List (Hd × Fo) → Fo
  | [] => .nil
  | x :: r => .cons x.1 x.2 (foOf r)
theorem foOf_len : ∀ l : List (Hd × Fo), (foOf l).len = l.length
  | [] => rfl
  | x :: r => by simp only [foOf, Fo.len, List.length_cons, foOf_len r]
theorem foOf_row {b : Nat} : ∀ (l : List (Hd × Fo)) (o : Nat), (∀ k (hk : k < l.length), HdAt W (l[k]).1 b (o + k * 7) ∧ ∃ v, W.cell? ⟨b, o + k * 7 + 6, none⟩ = some v ∧ Lies W v (l[k]).2) → RowAt W (foOf l) b o
  | [], _, _ => trivial
  | x :: r, o, hk => by
    have h0 := hk 0 (by simp)
    simp only [Nat.zero_mul, Nat.add_zero, List.getElem_cons_zero] at h0
    refine rowAt_cons.2 ⟨h0.1, h0.2, foOf_row r (o + 7) fun k h => ?_⟩
    have := hk (k + 1) (by simpa using h)
    simp only [List.getElem_cons_succ] at this
    rw [show o + (k + 1) * 7 = o + 7 + k * 7 by omega] at this
    exact this
instance : Inhabited (Hd × Fo) := ⟨(⟨0, [], [], 0, 0, []⟩, .nil)⟩

set_option maxRecDepth 100000 in
theorem trees_open : ∀ (fuel : Nat) {v : Value} {x : DataW H × List MemPlace}, DataW.trod enc Tryz.prog W 0 (fun _ => true) held fuel 28 [v] = some x → Fits 28 x.1 → ∃ f, Lies W v f
  | 0, v, x, h, _ => by simp [DataW.trod] at h
  | 1, v, x, h, hf => by
    rcases DataW.trod_slice Tryz.underlying28 h with ⟨hcs, _⟩ | ⟨a, len, cap, elems, rest, n, hn, hcs, hx, _, hle, hmax, hlen, hel, hsp, _⟩
    · simp at hcs; subst hcs; exact ⟨.nil, .inl ⟨_, _, rfl, rfl⟩⟩
    · simp at hcs
      subst hcs
      obtain rfl : n = 0 := by omega
      cases len with
      | zero => exact ⟨.nil, .inl ⟨_, _, rfl, rfl⟩⟩
      | succ len =>
        have h0 := hel 0 (by omega)
        rw [List.getElem?_eq_getElem (by omega)] at h0
        obtain ⟨cs', _, h2⟩ := Option.bind_eq_some_iff.1 h0
        simp [DataW.trod] at h2
  | fuel + 2, v, x, h, hf => by
    rcases DataW.trod_slice Tryz.underlying28 h with ⟨hcs, _⟩ | ⟨a, len, cap, elems, rest, n, hn, hcs, hx, _, hle, hmax, hlen, hel, hsp, _⟩
    · simp at hcs; subst hcs; exact ⟨.nil, .inl ⟨_, _, rfl, rfl⟩⟩
    · simp at hcs
      subst hcs
      obtain rfl : n = fuel + 1 := by omega
      by_cases h0 : len = 0
      · subst h0; exact ⟨.nil, .inl ⟨_, _, rfl, rfl⟩⟩
      · have hw : (elems.length + rest.length) * 104 ≤ reachBytes := by
          have := hf ((elems.length + rest.length) * Tryz.prog.bytesOf 43) (by
            subst hx
            simp only [DataW.weights, Tryz.underlying28]
            simp)
          rwa [bytesTree] at this
        have hi' : ∀ i, i < len → ∃ q : Hd × Fo, (∃ va, W.cell? (a.add (i * 7)) = some (.int .i64 q.1.k) ∧ W.cell? (a.add (i * 7 + 1)) = some (.string ⟨q.1.l.toArray⟩) ∧ W.cell? (a.add (i * 7 + 2)) = some va ∧ AttrsLie W va q.1.ats ∧
            W.cell? (a.add (i * 7 + 3)) = some (.int .i64 q.1.n) ∧ W.cell? (a.add (i * 7 + 4)) = some (.int .i64 q.1.d) ∧ W.cell? (a.add (i * 7 + 5)) = some (.string ⟨q.1.x.toArray⟩)) ∧ ∃ vk, W.cell? (a.add (i * 7 + 6)) = some vk ∧ Lies W vk q.2 := by
          intro i hl
          have hi := hel i hl
          rw [cellsTree, List.getElem?_eq_getElem (by omega)] at hi
          obtain ⟨cs', hc, ht⟩ := Option.bind_eq_some_iff.1 hi
          obtain ⟨_, hcl, hcc⟩ := World.cells?_some hc
          obtain ⟨fa, fb, hu, ta, oa, tb, ob⟩ := tfields
          obtain ⟨xs, m, hm, hxx, _, hxl, hj⟩ := DataW.trod_struct hu ht
          obtain rfl : m = fuel := by omega
          obtain ⟨x0, x1, rfl⟩ : ∃ x0 x1, xs = [x0, x1] := by
            match xs, hxl with
            | [x0, x1], _ => exact ⟨x0, x1, rfl⟩
          obtain ⟨c0, c1, c2, c3, c4, c5, c6, rfl⟩ : ∃ c0 c1 c2 c3 c4 c5 c6, cs' = [c0, c1, c2, c3, c4, c5, c6] := by
            match cs', hcl with
            | [c0, c1, c2, c3, c4, c5, c6], _ => exact ⟨c0, c1, c2, c3, c4, c5, c6, rfl⟩
          have j0 := hj 0 fa rfl
          have j1 := hj 1 fb rfl
          rw [ta, oa, cellsHead] at j0
          rw [tb, ob, cellsTrees] at j1
          simp at j0 j1
          have hfit : Fits 43 (elems[i]).1 := fun n hn => hf n (by
            subst hx
            simp only [DataW.weights, Tryz.underlying28, List.mem_cons, List.mem_append]
            exact .inr (.inl (mem_all (by simp; exact ⟨_, List.getElem_mem _⟩) n hn)))
          rw [hxx] at hfit
          have hf0 : Fits 27 x0.1 := fun n hn => hfit n (by
            simp only [DataW.weights, hu]
            exact DataW.weights_mem_each (j := 0) (t := 27) (d := x0.1) (by simp [ta]) (by simp) n hn)
          have hf1 : Fits 28 x1.1 := fun n hn => hfit n (by
            simp only [DataW.weights, hu]
            exact DataW.weights_mem_each (j := 1) (t := 28) (d := x1.1) (by simp [tb]) (by simp) n hn)
          obtain ⟨hd, va, e, ha⟩ := head_open j0 hf0
          obtain ⟨ks, hk⟩ := trees_open m j1 hf1
          have g : ∀ k (hk : k < 7) u, [c0, c1, c2, c3, c4, c5, c6][k]? = some u → W.cell? (a.add (i * 7 + k)) = some u := fun k hk u hu => by
            rw [← Go.Deep.add_add]; exact (hcc k hk).trans hu
          simp only [List.cons.injEq, and_true] at e
          obtain ⟨rfl, rfl, rfl, rfl, rfl, rfl⟩ := e
          exact ⟨(hd, ks), ⟨c2, g 0 (by omega) _ rfl, g 1 (by omega) _ rfl, g 2 (by omega) _ rfl, ha, g 3 (by omega) _ rfl, g 4 (by omega) _ rfl, g 5 (by omega) _ rfl⟩, c6, g 6 (by omega) _ rfl, hk⟩
        obtain ⟨b, off, spot⟩ := a
        have hspot : spot = none := by
          obtain ⟨q, ⟨va, c0, _⟩, _⟩ := hi' 0 (by omega)
          simpa [Addr.add] using World.cell?_spot c0
        subst hspot
        obtain ⟨q, hq⟩ := choose_lt hi'
        have hb : b < W.heap.size := by
          obtain ⟨⟨va, c0, _⟩, _⟩ := hq 0 (by omega)
          rw [Go.WideShapes.add_plain] at c0
          exact lt_of_cell' c0
        have hl : (foOf ((List.range len).map q)).len = len := by rw [foOf_len]; simp
        refine ⟨foOf ((List.range len).map q), .inr ⟨b, off, cap, by rw [hl], by rw [hl]; exact hle, by rw [hl]; unfold reachBytes at hw; omega, hb, foOf_row _ off fun k hk => ?_⟩⟩
        have hk' : k < len := by simpa using hk
        obtain ⟨⟨va, c0, c1, c2, ha, c3, c4, c5⟩, vk, c6, hk6⟩ := hq k hk'
        rw [Go.WideShapes.add_plain] at c0 c1 c2 c3 c4 c5 c6
        simp only [List.getElem_map, List.getElem_range]
        exact ⟨⟨c0, by rw [Nat.add_assoc]; exact c1, ⟨va, by rw [Nat.add_assoc]; exact c2, ha⟩, by rw [Nat.add_assoc]; exact c3, by rw [Nat.add_assoc]; exact c4, by rw [Nat.add_assoc]; exact c5⟩, vk, by rw [Nat.add_assoc]; exact c6, hk6⟩
end
end Go.Proofs.YtcgedpfolloinaaGreat
