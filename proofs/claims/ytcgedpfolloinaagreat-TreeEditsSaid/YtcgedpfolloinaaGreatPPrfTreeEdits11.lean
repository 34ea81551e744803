/- What the proof of PrfTreeEdits rests on, part 11 of 14. -/
import Derived.Deep.DeepCutAuto
import Derived.Test.YtcgedpfolloinaaGreatPPrfTreeEdits10
namespace Go.Proofs.YtcgedpfolloinaaGreat
open Go.RowKit

theorem heads_cut (f : Fo) (i : Nat) : headsErr f = 0 ↔ headsErr (f.take i) = 0 ∧ headsErr (f.drop i) = 0 := by
  rw [← heads_app2, Fo.take_app_drop]
theorem heads_setK {f : Fo} {i : Nat} {h : Hd} {ks : Fo} (hn : nth f i = some (h, ks)) (x : Fo) (hf : headsErr f = 0) (hx : headsErr x = 0) (hk : h.k = 0 ∨ x.len = 0) : headsErr (setK f i h x) = 0 := by
  obtain ⟨h1, h2⟩ := (heads_cut f i).1 hf
  rw [drop_nth hn] at h2
  obtain ⟨h3, -, -, h4⟩ := heads_zero.1 h2
  unfold setK
  refine heads_app2.2 ⟨h1, heads_zero.2 ⟨h3, ?_, hx, h4⟩⟩
  rintro ⟨a, b⟩
  rcases hk with h | h
  · exact a h
  · exact b h
/-- the elements around a place. -/
def ownsOk : Fo → List Nat → Prop
  | _, [] => True
  | f, i :: q => ∃ h ks, nth f i = some (h, ks) ∧ h.k = 0 ∧ ownsOk ks q
theorem heads_change : ∀ (q : List Nat) (f : Fo) (X : Fo), ownsOk f q → headsErr f = 0 → headsErr X = 0 → headsErr (changeAt f q X) = 0
  | [], _, _, _, _, h => h
  | a :: q, f, X, ⟨h, ks, hn, hk, ho⟩, hf, hX => by
    rw [changeAt, hn]
    exact heads_setK hn _ hf (heads_change q ks X ho (nth_heads hn hf).2.2 hX) (.inl hk)
theorem owns_go : ∀ (q : List Nat) (f : Fo) {g : Fo}, goTo f q = some g → g.len ≠ 0 → headsErr f = 0 → ownsOk f q
  | [], _, _, _, _, _ => trivial
  | a :: q, f, g, e, hg, hf => by
    rw [goTo] at e
    cases hn : nth f a with
    | none => simp [hn] at e
    | some x =>
      obtain ⟨h, ks⟩ := x
      rw [hn] at e
      obtain ⟨-, h2, h3⟩ := nth_heads hn hf
      refine ⟨h, ks, hn, ?_, owns_go q ks e hg h3⟩
      by_cases hk : h.k = 0
      · exact hk
      · exfalso
        refine h2 ⟨hk, ?_⟩
        cases q with
        | nil => cases e; exact hg
        | cons b q =>
          simp only [goTo] at e
          cases hb : nth ks b with
          | none => simp [hb] at e
          | some y => have := nth_lt hb; omega
theorem deep_take (f : Fo) (i : Nat) : f.deep = max (f.take i).deep (f.drop i).deep := by
  rw [← deep_app, Fo.take_app_drop]
theorem setK_deep {f : Fo} {i : Nat} {h : Hd} {ks : Fo} (hn : nth f i = some (h, ks)) (x : Fo) (hx : x.deep ≤ ks.deep) : (setK f i h x).deep ≤ f.deep := by
  have h1 := deep_take f i
  rw [drop_nth hn] at h1
  unfold setK
  rw [deep_app]
  simp only [Fo.deep] at h1 ⊢
  omega
theorem change_deep : ∀ (q : List Nat) (f : Fo) {g : Fo} (X : Fo), goTo f q = some g → X.deep ≤ g.deep → (changeAt f q X).deep ≤ f.deep
  | [], f, g, X, e, h => by cases e; exact h
  | a :: q, f, g, X, e, h => by
    rw [goTo] at e
    cases hn : nth f a with
    | none => simp [hn] at e
    | some x =>
      rw [hn] at e
      rw [changeAt, hn]
      exact setK_deep (h := x.1) (ks := x.2) hn _ (change_deep q x.2 X e h)
/- splices. -/
theorem spl_len {g : Fo} {i n : Nat} (hi : i + n ≤ g.len) (b : Fo) : (spl g i n b).len = g.len - n + b.len := by
  unfold spl
  rw [Fo.len_app, Fo.len_app, len_take g i (by omega), Fo.len_drop]
  omega
theorem spl_heads {g : Fo} {i n : Nat} {b : Fo} (hg : headsErr g = 0) (hb : headsErr b = 0) : headsErr (spl g i n b) = 0 := by
  unfold spl
  exact heads_app2.2 ⟨((heads_cut g i).1 hg).1, heads_app2.2 ⟨hb, ((heads_cut g (i + n)).1 hg).2⟩⟩
theorem spl_deep (g : Fo) (i : Nat) : (spl g i 1 .nil).deep ≤ g.deep := by
  have h1 := deep_take g i
  have h2 := deep_take g (i + 1)
  unfold spl
  rw [deep_app, deep_app]
  simp only [Fo.deep]
  omega
theorem go_heads : ∀ (q : List Nat) (f : Fo) {g : Fo}, goTo f q = some g → headsErr f = 0 → headsErr g = 0
  | [], _, _, e, h => by cases e; exact h
  | a :: q, f, g, e, h => by
    rw [goTo] at e
    cases hn : nth f a with
    | none => simp [hn] at e
    | some x =>
      rw [hn] at e
      exact go_heads q x.2 e (nth_heads (h := x.1) (ks := x.2) hn h).2.2
end Go.Proofs.YtcgedpfolloinaaGreat

namespace Go.Proofs.YtcgedpfolloinaaGreat
open Go.RowKit

theorem rowAt_take {w : World} {b : Nat} : ∀ (i : Nat) (f : Fo) (o : Nat), RowAt w f b o → RowAt w (f.take i) b o
  | 0, f, o, h => by simp [Fo.take, RowAt]
  | i + 1, .nil, o, h => trivial
  | i + 1, .cons hd ks r, o, h => ⟨h.1, h.2.1, rowAt_take i r (o + 7) h.2.2⟩
theorem lies_take {w : World} {a : Option Addr} {c : Nat} {f : Fo} (h : Lies w (.slice a f.len c) f) {i : Nat} (hi : i ≤ f.len) : Lies w (.slice a i c) (f.take i) := by
  rcases h with ⟨a', c', e, rfl⟩ | ⟨b, o, cap, e, h1, h2, hb, hr⟩
  · have : i = 0 := by simpa [Fo.len] using hi
    subst this
    exact .inl ⟨_, _, rfl, rfl⟩
  · simp only [Value.slice.injEq, true_and] at e
    obtain ⟨rfl, rfl⟩ := e
    have hl := len_take f i hi
    exact .inr ⟨b, o, c, by rw [hl], by omega, by omega, hb, rowAt_take i f o hr⟩
theorem lies_cap {w : World} {a : Option Addr} {c : Nat} {f : Fo} (h : Lies w (.slice a f.len c) f) : f.len ≤ c := by
  rcases h with ⟨a', c', e, rfl⟩ | ⟨b, o, cap, e, h1, h2, hb, hr⟩
  · exact Nat.zero_le _
  · simp only [Value.slice.injEq, true_and] at e
    obtain ⟨rfl, rfl⟩ := e
    exact h1
theorem CopyRes.own {w w' : World} {f : Fo} {e : Ending} {n : Nat} (hn : f.len = n) (H : CopyRes w f e w') : ∃ g a c cs, e = .returned (.slice a n c) ∧ OwnR w.heap.size g w' a n c f cs ∧ Below w.heap.size w w' := by
  obtain ⟨g, a, c, cs, rfl, h1, h2, h3, h4⟩ := H
  subst hn
  exact ⟨g, a, c, cs, rfl, ⟨h1, h2, h3⟩, h4⟩

theorem OwnR.pick {B g : Nat} {W : World} {a : Option Addr} {n c : Nat} {f : Fo} {cs : List Value} (R : OwnR B g W a n c f cs) (h0 : 0 < W.heap.size) : ∃ g', OwnR B g' W a n c f cs ∧ g' < W.heap.size ∧ (g' = 0 ∨ B ≤ g') := by
  cases a with
  | none =>
    refine ⟨0, ⟨fun b hb => by simp [Value.ownBlock] at hb, R.own, ?_⟩, h0, .inl rfl⟩
    have hn := R.src.2.1 rfl
    have hc : cs = [] := List.eq_nil_of_length_eq_zero (by rw [R.src.1, hn])
    subst hc
    intro W' _ _
    have := rowL_len f [] R.st.here
    have hf : f = .nil := Fo.len_nil (by simp at this; omega)
    subst hf
    rfl
  | some ad =>
    refine ⟨g, R, ?_⟩
    rcases R.own.2 with ⟨e, _⟩ | ⟨g', cap, cur, e, hb, hg, _⟩
    · cases e
    · have : g' = g := R.hg g' (by rw [e]; rfl)
      rw [← this]
      exact ⟨(Array.getElem?_eq_some_iff.1 hg).1, .inr hb⟩
theorem OwnR.cap {B g : Nat} {W : World} {a : Option Addr} {n c : Nat} {f : Fo} {cs : List Value} (R : OwnR B g W a n c f cs) : n ≤ c := by
  rcases R.own.2 with ⟨e, h0⟩ | ⟨g', cap, cur, e, hb, hg, hn, _⟩
  · omega
  · simp only [Value.slice.injEq, true_and] at e
    obtain ⟨-, rfl⟩ := e
    exact hn
theorem OwnR.part {B g : Nat} {W : World} {a : Option Addr} {n c : Nat} {f : Fo} {cs : List Value} (R : OwnR B g W a n c f cs) {k : Nat} (hk : k ≤ n) {aD : Option Addr} (h1 : aD = none → n - k = 0) (h2 : n - k = 0 ∨ ∃ ad, a = some ad ∧ aD = some (ad.add (k * 7))) : Src W aD (n - k) (cs.drop (k * 7)) := by
  rcases h2 with h2 | ⟨ad, rfl, rfl⟩
  · have hd : cs.drop (k * 7) = [] := List.drop_eq_nil_of_le (by rw [R.src.1]; omega)
    rw [hd, h2]
    exact ⟨rfl, fun _ => rfl, fun ad _ j u hj => by simp at hj, fun u hu => by cases hu⟩
  · exact R.dropped hk

set_option maxRecDepth 100000 in
set_option maxHeartbeats 8000000 in
theorem changed_one (f : Fo) (i n : Nat) (b : Fo) (v pv u : Value) (w : World) (hl : Lies w v f) (hp : IntsLie w pv [(i : Int)]) (hu : Lies w u b) (hi : i + n ≤ f.len) (hs : f.size ≤ 100000) (hsb : b.size ≤ 100000) :
    Calls Tryz.prog 108 #[v, pv, .int .i64 n, u] w (CloneRes w (spl f i n b)) := by
  obtain ⟨i0, hi0, hz0, hz1, hz2⟩ := info_parts info_tree
  have hfl := len_size f
  have hbl := len_size b
  obtain ⟨av, cv, rfl⟩ := lies_form hl
  obtain ⟨au, cu, rfl⟩ := lies_form hu
  have CF := Lib.hid (fun W (hW : Below w.heap.size w W) => (copyOfS_any f (by omega) _ W (lies_below hl hW)).mono fun _ _ H => CopyRes.own rfl H)
  have CT := Lib.hid (fun W (hW : Below w.heap.size w W) => (copyOfS_any (f.take i) (by have := take_size f i; omega) _ W (lies_below (lies_take hl (by omega)) hW)).mono fun _ _ H => CopyRes.own (len_take f i (by omega)) H)
  have CB := Lib.hid (fun W (hW : Below w.heap.size w W) => (copyOfS_any b (by omega) _ W (lies_below hu hW)).mono fun _ _ H => CopyRes.own rfl H)
  have hcv := lies_cap hl
  have hlen := lies_len hl
  have hilen : i ≤ cv := by omega
  obtain ⟨pb, po, pcap, rfl, hcp, hpb, hpc⟩ := ints_cells hp (by simp)
  have d0 : w.cell? ⟨pb, po, none⟩ = some (.int .i64 i) := hpc 0 (by simp)
  have D0 := Lib.hid d0
  simp only [List.length_cons, List.length_nil, Nat.zero_add] at hcp ⊢
  have SPL := Lib.hid (spl_len (g := f) (i := i) (n := n) hi b)
  clear hl hp hu hpc d0
  go_enter Tryz.func108, Tryz.ntmps108
  go_wp2_with fail
  refine (CF.out w (Below.refl _ _)).mono ?_
  rintro e X1 ⟨g1, a1, c1, cs1, rfl, R1, hb1⟩
  have R1' := Lib.hid R1
  have d1 := (hb1.cell (p := ⟨pb, po, none⟩) hpb).trans D0.out
  have hpb1 : pb < X1.heap.size := by have := hb1.size; omega
  have B1 := Lib.hid hb1
  clear R1 hb1
  go_wp2_with fail
  refine (CT.out X1 B1.out).mono ?_
  rintro e X2 ⟨g2, a2, c2, cs2, rfl, R2, hb2⟩
  have BX2 := Lib.hid (B1.out.trans (hb2.mono B1.out.size))
  have H2 := Lib.hid hb2
  obtain ⟨g2', R2p, hg2, hg2b⟩ := R2.pick (by have := hb2.size; omega)
  have R2' := Lib.hid R2p
  clear R2 R2p hb2 d1
  go_wp2_with fail
  refine (CB.out X2 BX2.out).mono ?_
  rintro e X3 ⟨g3, a3, c3, cs3, rfl, R3, hb3⟩
  have BX3 := Lib.hid (BX2.out.trans (hb3.mono BX2.out.size))
  have s1 := B1.out.size
  have s2 := H2.out.size
  have s3 := hb3.size
  have R2b := Lib.hid ((R2'.out.mono (B' := w.heap.size) s1).below hb3)
  -- the row of the first part is below what the second copy took
  have S3 := Lib.hid (show Stab w.heap.size g2' X3 b cs3 from fun W hW hc => rowL_mono (B := X2.heap.size) (by omega) b cs3 (R3.st W hW fun k o h1 h2 h3 => hc k o (by omega) h2 (by omega)))
  have SR3 := Lib.hid R3.src
  have R1c := Lib.hid ((R1'.out.below H2.out).below hb3)
  have SPLE := Lib.hid (show (spl f i n b).len = i + b.len + (f.len - (i + n)) by rw [SPL.out]; omega)
  have hx3 : w.heap.size ≤ X3.heap.size := by omega
  have H3 := Lib.hid hb3
  have hw0 : pb < w.heap.size := hpb
  clear R3 hb3 s1 s2 s3
  go_wp2_with (at_builtin; refine wpList_append_both _ rfl _ _ 28 rfl w.heap.size 43 i0 _ 7 104 Tryz.underlying28 hi0 hz0 hz1 hz2 rfl (by decide) (.slice a2 i c2) i cs2 rfl R2b.out.own a3 b.len c3 cs3 rfl SR3.out.1 SR3.out.2.1 SR3.out.2.2.1 SR3.out.2.2.2 ?c3 ?c4 ?c5 ?stop)
  case c3 => unfold maxLen; omega
  case c4 => omega
  case c5 => omega
  case stop =>
    intro v' X5 hown hgrow hat
    obtain ⟨g5, a5, c5, rfl, R5, hg5⟩ := OwnR.append R2b.out S3.out hown hgrow hat
    have R5' := Lib.hid R5
    have BX5 := Lib.hid (BX3.out.grown hgrow (by omega) (fun k hk => (R2b.out.own.lt k hk).1))
    have h12 : ∀ k, (Value.slice a2 i c2).ownBlock = some k → X1.heap.size ≤ k := fun k hk => (R2'.out.own.lt k hk).1
    have s13 := (H2.out.trans (H3.out.mono H2.out.size))
    have hcc : ∀ k o, k < X1.heap.size → X5.cell? ⟨k, o, none⟩ = X1.cell? ⟨k, o, none⟩ := fun k o hk => (World.cell?_of_block (w := X3) (hgrow.block k (by have := s13.size; omega) (fun e => by have := h12 k e.symm; omega))).trans ((bcell s13).1 k o hk)
    have R15 := Lib.hid (show OwnR w.heap.size g1 X5 a1 f.len c1 f cs1 from ⟨R1'.out.hg, R1c.out.own.kept hgrow (by
      cases e1 : (Value.slice a1 f.len c1).ownBlock with
      | none => exact .inl rfl
      | some j =>
        right
        intro e2
        have h1 := (R1'.out.own.lt j e1).2
        have h2 := h12 j e2.symm
        omega), R1'.out.st.next (by have := hgrow.size; have := s13.size; omega) (fun k o _ h2 _ => hcc k o h2) (.inl rfl)⟩)
    have S5 := Lib.hid (show Stab w.heap.size g5 X5 (f.drop (i + n)) (cs1.drop ((i + n) * 7)) from fun W hW hc => rowL_drop _ _ _ (R1'.out.st W (by have := hgrow.size; have := s13.size; omega) fun k o h1 h2 h3 => (hc k o h1 (by have := hgrow.size; have := s13.size; omega) (by
      have hz := s13.size
      rcases hg5 with e | e
      · rcases hg2b with e2 | e2 <;> omega
      · omega)).trans (hcc k o h2)))
    have hc1 := R15.out.cap
    have hx5 : w.heap.size ≤ X5.heap.size := by have := hgrow.size; omega
    clear hown hgrow hat h12 s13 hcc R5 hg5 R2b R2' S3 SR3 R1c
    have hin : i + n ≤ c1 := by omega
    cases a1 with
    | none =>
      have h0 := R15.out.src.2.1 rfl
      have SD := Lib.hid (R15.out.part (k := i + n) hi (aD := none) (fun _ => by omega) (.inl (by omega)))
      clear h0
      clear hc1
      go_wp2_with (at_builtin; refine wpList_append_both _ rfl _ _ 28 rfl w.heap.size 43 i0 _ 7 104 Tryz.underlying28 hi0 hz0 hz1 hz2 rfl (by decide) (.slice a5 (i + b.len) c5) (i + b.len) (cs2 ++ cs3) rfl R5'.out.own (none) (f.len - (i + n)) _ (cs1.drop ((i + n) * 7)) rfl SD.out.1 SD.out.2.1 SD.out.2.2.1 SD.out.2.2.2 ?d3 ?d4 ?d5 ?stop)
      case d3 => unfold maxLen; omega
      case d4 => omega
      case d5 => omega
      case stop =>
        intro v' X6 hown hgrow hat
        obtain ⟨g6, a6, c6, rfl, R6, -⟩ := OwnR.append R5'.out S5.out (by rw [List.append_assoc]; exact hown) hgrow hat
        have B6 := Lib.hid (BX5.out.grown hgrow (by omega) (fun k hk => (R5'.out.own.lt k hk).1))
        have HF := Lib.hid (show LiesF w.heap.size X6 (.slice a6 (i + b.len + (f.len - (i + n))) c6) (spl f i n b) from by
          have h := R6.lies (by rw [Fo.len_app, Fo.len_app, len_take f i (by omega), Fo.len_drop]) (by omega)
          rw [Fo.app_assoc] at h
          exact h)
        clear hown hgrow hat R6
        go_wp2_with fail
        go_ret
        exact ⟨a6, c6, by rw [SPLE.out]; rfl, by rw [SPLE.out]; exact HF.out, B6.out⟩
    | some ad =>
      by_cases hcl : c1 = i + n
      · have SD := Lib.hid (R15.out.part (k := i + n) hi (aD := some ad) (fun h => (by cases h)) (.inl (by omega)))
        clear hc1
        go_wp2_with (at_builtin; refine wpList_append_both _ rfl _ _ 28 rfl w.heap.size 43 i0 _ 7 104 Tryz.underlying28 hi0 hz0 hz1 hz2 rfl (by decide) (.slice a5 (i + b.len) c5) (i + b.len) (cs2 ++ cs3) rfl R5'.out.own (some ad) (f.len - (i + n)) _ (cs1.drop ((i + n) * 7)) rfl SD.out.1 SD.out.2.1 SD.out.2.2.1 SD.out.2.2.2 ?d3 ?d4 ?d5 ?stop)
        case d3 => unfold maxLen; omega
        case d4 => omega
        case d5 => omega
        case stop =>
          intro v' X6 hown hgrow hat
          obtain ⟨g6, a6, c6, rfl, R6, -⟩ := OwnR.append R5'.out S5.out (by rw [List.append_assoc]; exact hown) hgrow hat
          have B6 := Lib.hid (BX5.out.grown hgrow (by omega) (fun k hk => (R5'.out.own.lt k hk).1))
          have HF := Lib.hid (show LiesF w.heap.size X6 (.slice a6 (i + b.len + (f.len - (i + n))) c6) (spl f i n b) from by
            have h := R6.lies (by rw [Fo.len_app, Fo.len_app, len_take f i (by omega), Fo.len_drop]) (by omega)
            rw [Fo.app_assoc] at h
            exact h)
          clear hown hgrow hat R6
          go_wp2_with fail
          go_ret
          exact ⟨a6, c6, by rw [SPLE.out]; rfl, by rw [SPLE.out]; exact HF.out, B6.out⟩
      · have SD := Lib.hid (R15.out.part (k := i + n) hi (aD := some (ad.add ((i + n) * 7))) (fun h => (by cases h)) (.inr ⟨ad, rfl, rfl⟩))
        clear hc1
        go_wp2_with (at_builtin; refine wpList_append_both _ rfl _ _ 28 rfl w.heap.size 43 i0 _ 7 104 Tryz.underlying28 hi0 hz0 hz1 hz2 rfl (by decide) (.slice a5 (i + b.len) c5) (i + b.len) (cs2 ++ cs3) rfl R5'.out.own (some (ad.add ((i + n) * 7))) (f.len - (i + n)) _ (cs1.drop ((i + n) * 7)) rfl SD.out.1 SD.out.2.1 SD.out.2.2.1 SD.out.2.2.2 ?d3 ?d4 ?d5 ?stop)
        case d3 => unfold maxLen; omega
        case d4 => omega
        case d5 => omega
        case stop =>
          intro v' X6 hown hgrow hat
          obtain ⟨g6, a6, c6, rfl, R6, -⟩ := OwnR.append R5'.out S5.out (by rw [List.append_assoc]; exact hown) hgrow hat
          have B6 := Lib.hid (BX5.out.grown hgrow (by omega) (fun k hk => (R5'.out.own.lt k hk).1))
          have HF := Lib.hid (show LiesF w.heap.size X6 (.slice a6 (i + b.len + (f.len - (i + n))) c6) (spl f i n b) from by
            have h := R6.lies (by rw [Fo.len_app, Fo.len_app, len_take f i (by omega), Fo.len_drop]) (by omega)
            rw [Fo.app_assoc] at h
            exact h)
          clear hown hgrow hat R6
          go_wp2_with fail
          go_ret
          exact ⟨a6, c6, by rw [SPLE.out]; rfl, by rw [SPLE.out]; exact HF.out, B6.out⟩
end Go.Proofs.YtcgedpfolloinaaGreat

namespace Go.Proofs.YtcgedpfolloinaaGreat
open Go.RowKit

theorem changed_fin {w X X2 : World} {g1 : Nat} {c1 : Nat} {f : Fo} {cs1 : List Value} {i : Nat} {h : Hd} {ks K : Fo} {a2 : Option Addr} {c2 : Nat} (R : OwnR w.heap.size g1 X (some ⟨g1, 0, none⟩) f.len c1 f cs1) (hb : Below w.heap.size w X) (hn : nth f i = some (h, ks)) (hl : f.len ≤ 2000000000000)
    (hb2 : Below X.heap.size X X2) (hK : LiesF X.heap.size X2 (.slice a2 K.len c2) K) : CloneRes w (setK f i h K) (.returned (.slice (some ⟨g1, 0, none⟩) f.len c1)) (X2.setCell ⟨g1, i * 7 + 6, none⟩ (.slice a2 K.len c2)) := by
  have hgl := R.own.lt g1 rfl
  have h2 := hb2.size
  have hst := R.st (X2.setCell ⟨g1, i * 7 + 6, none⟩ (.slice a2 K.len c2)) (by rw [set_size']; exact h2) (fun k o a b c => (World.cell?_of_block (w := X2) (set_far c)).trans ((bcell hb2).1 k o b))
  have hK3 : LiesF w.heap.size (X2.setCell ⟨g1, i * 7 + 6, none⟩ (.slice a2 K.len c2)) (.slice a2 K.len c2) K := liesF_mono hb.size (liesF_keeps hK (Keeps.setCell _ hgl.2 _ _))
  have hrow := rowL_set hK3 f cs1 i hst hn
  have hown := ((own_below R.own hb2).stored (i * 7 + 6) (.slice a2 K.len c2)).1
  have hln := len_setK (nth_lt hn) h K
  exact ⟨some ⟨g1, 0, none⟩, c1, by rw [hln], by rw [hln]; exact own_lies hown hln hl hrow (Nat.le_refl _), (hb.trans (hb2.mono hb.size)).setCell hgl.1 _⟩

set_option maxRecDepth 100000 in
set_option maxHeartbeats 8000000 in
theorem changed_more (f : Fo) (i j : Nat) (p : List Nat) (n : Nat) (b : Fo) (h : Hd) (ks K : Fo) (v pv u : Value) (w : World) (hl : Lies w v f) (hp : IntsLie w pv (pathInts (i :: j :: p))) (hu : Lies w u b) (hn : nth f i = some (h, ks)) (hs : f.size ≤ 100000) (hpl : p.length ≤ 1000000)
    (IH : ∀ v pv u w, Lies w v ks → IntsLie w pv (pathInts (j :: p)) → Lies w u b → Calls Tryz.prog 108 #[v, pv, .int .i64 n, u] w (CloneRes w K)) :
    Calls Tryz.prog 108 #[v, pv, .int .i64 n, u] w (CloneRes w (setK f i h K)) := by
  have hil := nth_lt hn
  have hfl := len_size f
  obtain ⟨bf, of, cv, rfl, hcv, hlen, hbf, hrow⟩ := lies_row hl (by omega)
  obtain ⟨au, cu, rfl⟩ := lies_form hu
  have CF := Lib.hid (fun W (hW : Below w.heap.size w W) => (copyOfS_any f (by omega) _ W (lies_below hl hW)).mono fun _ _ H => CopyRes.own rfl H)
  obtain ⟨hd, ks2, e2, -, vk, q6, hlk⟩ := row_get hrow hil
  have e3 := (nth_drop e2).symm.trans hn
  cases e3
  obtain ⟨ak, ck, rfl⟩ := lies_form hlk
  obtain ⟨pb, po, pcap, rfl, hcp, hpb, hpc⟩ := ints_cells hp (by simp)
  have d0 : w.cell? ⟨pb, po, none⟩ = some (.int .i64 i) := hpc 0 (by simp)
  have D0 := Lib.hid d0
  have HT := ints_tail (i := (i : Int)) (r := pathInts (j :: p)) (by simpa using hp)
  have e4 : (pathInts (j :: p)).length = p.length + 1 := by simp
  rw [e4] at HT
  simp only [List.map_cons, List.length_cons, List.length_map] at hcp ⊢
  have HI := Lib.hid (fun W (hW : Below w.heap.size w W) => IH _ _ _ W (lies_below hlk hW) (ints_below HT hW) (lies_below hu hW))
  have Q6 := Lib.hid q6
  have HN := Lib.hid hn
  clear hl hp hu hpc d0 HT q6 hlk hrow IH e2 e4 hn
  obtain ⟨L1, hL1⟩ : ∃ m, p.length + 1 = m := ⟨_, rfl⟩
  rw [hL1] at hcp HI ⊢
  obtain ⟨L2, hL2⟩ : ∃ m, L1 + 1 = m := ⟨_, rfl⟩
  rw [hL2] at hcp ⊢
  have eL : L2 - 1 = L1 := by omega
  have dL : decide ((1 : Int) < (L2 : Int)) = true := by simp; omega
  have dLn : decide (1 < L2) = true := by simp; omega
  have dP : decide (0 < L2) = true := by simp; omega
  have h1L : 1 ≤ L2 := by omega
  have h1c : 1 ≤ pcap := by omega
  have hp1 : ¬ pcap = 1 := by omega
  have hL12 : ¬ ((L2 : Int) < 1) := by omega
  have di : decide (i < f.len) = true := by simpa using hil
  clear hL1 hL2
  go_enter Tryz.func108, Tryz.ntmps108
  go_wp2_with fail
  refine (CF.out w (Below.refl _ _)).mono ?_
  rintro e X1 ⟨g1, a1, c1, cs1, rfl, R1, hb1⟩
  obtain ⟨g, rfl⟩ : ∃ g, a1 = some ⟨g, 0, none⟩ := by
    rcases R1.own.2 with ⟨e, h0⟩ | ⟨g', cap, cur, e, _⟩
    · omega
    · simp only [Value.slice.injEq, true_and] at e
      exact ⟨g', e.1⟩
  obtain rfl : g = g1 := R1.hg g rfl
  have d1 := (hb1.cell (p := ⟨pb, po, none⟩) hpb).trans D0.out
  have hpb1 : pb < X1.heap.size := by have := hb1.size; omega
  go_upto_region 4 with fail
  refine wp_region_any (by kernel_rfl) ?_
  change wpAny _ _ _ _ _ _ _ (World.drew _)
  have B1 : Below w.heap.size w X1.drew := hb1.drew
  have R1' : OwnR w.heap.size g X1.drew (some ⟨g, 0, none⟩) f.len c1 f cs1 := ⟨R1.hg, R1.own.drew, fun W h1 h2 => R1.st W h1 h2⟩
  have hgl := (R1.own.lt g rfl).2
  clear d1 hpb1 R1 hb1
  have hgX : g < X1.drew.heap.size := hgl
  clear hgl
  generalize X1.drew = X at *
  have r6 := (B1.cell (p := ⟨bf, of + i * 7 + 6, none⟩) hbf).trans Q6.out
  have hbX : bf < X.heap.size := by have := B1.size; omega
  have hcap1 := R1'.cap
  obtain ⟨y6, hy6⟩ : ∃ y, X.cell? ⟨g, i * 7 + 6, none⟩ = some y := by
    have hc := R1'.own.cellAt (i * 7 + 6) (by omega)
    rw [List.getElem?_eq_getElem (by rw [R1'.src.1]; omega)] at hc
    exact ⟨_, hc⟩
  have fy6 := R1'.own.frozenAt (i * 7 + 6)
  have RR := Lib.hid R1'
  have BB := Lib.hid B1
  clear R1' B1
  refine wpAny_take (i := 0) (v := .slice (some ⟨g, 0, none⟩) f.len c1) rfl (by decide +kernel) (by decide +kernel) (by decide +kernel) (fun _ _ _ h => h) (Or.inl ⟨by kernel_rfl, by intro w; go_simp <;> with_reducible rfl⟩) ?_
  simp only [Act.put, List.setIfInBounds_toArray]
  refine wpAny_take (i := 1) (v := .int .i64 i) rfl (by decide +kernel) (by decide +kernel) (by decide +kernel) (fun _ _ _ h => h) (Or.inl ⟨by kernel_rfl, by intro w; go_simp <;> with_reducible rfl⟩) ?_
  simp only [Act.put]
  refine wpAny_take (i := 2) (v := .slice (some ⟨bf, of, none⟩) f.len cv) rfl (by decide +kernel) (by decide +kernel) (by decide +kernel) (fun _ _ _ h => h) (Or.inl ⟨by kernel_rfl, by intro w; go_simp <;> with_reducible rfl⟩) ?_
  simp only [Act.put]
  refine wpAny_take (i := 3) (v := .int .i64 i) rfl (by decide +kernel) (by decide +kernel) (by decide +kernel) (fun _ _ _ h => h) (Or.inl ⟨by kernel_rfl, by intro w; go_simp <;> with_reducible rfl⟩) ?_
  simp only [Act.put]
  refine wpAny_take (i := 7) (v := .slice (some ⟨pb, po, none⟩) L2 pcap) rfl (by decide +kernel) (by decide +kernel) (by decide +kernel) (fun _ _ _ h => h) (Or.inl ⟨by kernel_rfl, by intro w; go_simp <;> with_reducible rfl⟩) ?_
  simp only [Act.put]
  refine wpAny_take (i := 9) (v := .int .i64 n) rfl (by decide +kernel) (by decide +kernel) (by decide +kernel) (fun _ _ _ h => h) (Or.inl ⟨by kernel_rfl, by intro w; go_simp <;> with_reducible rfl⟩) ?_
  simp only [Act.put]
  refine wpAny_take (i := 10) (v := .slice au b.len cu) rfl (by decide +kernel) (by decide +kernel) (by decide +kernel) (fun _ _ _ h => h) (Or.inl ⟨by kernel_rfl, by intro w; go_simp <;> with_reducible rfl⟩) ?_
  simp only [Act.put]
  refine wpAny_take (i := 4) (v := .pointer (some ⟨bf, of + i * 7, none⟩)) rfl (by decide +kernel) (by decide +kernel) (by decide +kernel) (fun _ _ _ h => h) (Or.inl ⟨by kernel_rfl, by intro w; go_simp <;> with_reducible rfl⟩) ?_
  simp only [Act.put]
  refine wpAny_take (i := 5) (v := .pointer (some ⟨bf, of + i * 7 + 6, none⟩)) rfl (by decide +kernel) (by decide +kernel) (by decide +kernel) (fun _ _ _ h => h) (Or.inl ⟨by kernel_rfl, by intro w; go_simp <;> with_reducible rfl⟩) ?_
  simp only [Act.put]
  refine wpAny_take (i := 8) (v := .slice (some ⟨pb, po + 1, none⟩) L1 (pcap - 1)) rfl (by decide +kernel) (by decide +kernel) (by decide +kernel) (fun _ _ _ h => h) (Or.inl ⟨by kernel_rfl, by intro w; go_simp <;> with_reducible rfl⟩) ?_
  simp only [Act.put]
  refine wpAny_ready (rs := [6]) (by decide +kernel) (by simp) ?_
  refine AllReady.cons rfl (fun K hK => ?_) AllReady.nil
  go_simp
  refine hK _ _ ?_
  clear hK K
  refine wpAny_ready (rs := [11]) (by decide +kernel) (by simp) ?_
  refine AllReady.cons rfl (fun K hK => ?_) AllReady.nil
  go_simp
  go_wp2_with (go_at_call 108; refine (HI.out X BB.out).mono ?_; rintro e X2 ⟨a2, c2, rfl, hL2, hb2⟩)
  have c6 := (hb2.cell (p := ⟨g, i * 7 + 6, none⟩) hgX).trans hy6
  have f6 := ((bcell hb2).2 g (i * 7 + 6) hgX).trans fy6
  have hgX2 : g < X2.heap.size := Nat.lt_of_lt_of_le hgX hb2.size
  refine wpAny_take (i := 12) (v := .pointer (some ⟨g, i * 7, none⟩)) rfl (by decide +kernel) (by decide +kernel) (by decide +kernel) (fun _ _ _ h => h) (Or.inl ⟨by kernel_rfl, by intro w; go_simp <;> with_reducible rfl⟩) ?_
  simp only [Act.put]
  refine wpAny_take (i := 13) (v := .pointer (some ⟨g, i * 7 + 6, none⟩)) rfl (by decide +kernel) (by decide +kernel) (by decide +kernel) (fun _ _ _ h => h) (Or.inl ⟨by kernel_rfl, by intro w; go_simp <;> with_reducible rfl⟩) ?_
  simp only [Act.put]
  refine wpAny_ready (rs := [14]) (by decide +kernel) (by simp) ?_
  refine AllReady.cons rfl (fun K hK => ?_) AllReady.nil
  go_simp
  refine hK _ _ ?_
  clear hK K
  refine wpAny_done (by decide +kernel) ?_ _
  have FI := Lib.hid (changed_fin RR.out BB.out HN.out hlen hb2 hL2)
  clear hb2 hL2
  go_wp2_with fail
  go_ret
  exact FI.out


/-- there are such trees at a path. -/
def okC : Fo → List Nat → Nat → Prop
  | _, [], _ => False
  | f, [i], n => i + n ≤ f.len
  | f, i :: j :: p, n => ∃ h ks, nth f i = some (h, ks) ∧ okC ks (j :: p) n
theorem nth_le : ∀ {f : Fo} {i : Nat} {h : Hd} {ks : Fo}, nth f i = some (h, ks) → ks.size ≤ f.size := by
  intro f i h ks e
  have := setK_size e .nil
  simp only [Fo.size] at this
  omega
/-- Changed. -/
theorem changed_any : ∀ (P : List Nat) (f : Fo) (n : Nat) (b : Fo) (v pv u : Value) (w : World), Lies w v f → IntsLie w pv (pathInts P) → Lies w u b → okC f P n → f.size ≤ 100000 → b.size ≤ 100000 → P.length ≤ 1000000 →
    Calls Tryz.prog 108 #[v, pv, .int .i64 n, u] w (CloneRes w (changeF f P n b))
  | [], f, n, b, v, pv, u, w, hl, hp, hu, hk, hs, hsb, hpl => absurd hk (by simp [okC])
  | [i], f, n, b, v, pv, u, w, hl, hp, hu, hk, hs, hsb, hpl => changed_one f i n b v pv u w hl hp hu hk hs hsb
  | i :: j :: p, f, n, b, v, pv, u, w, hl, hp, hu, hk, hs, hsb, hpl => by
    obtain ⟨h, ks, hn, hk⟩ := hk
    have hle := nth_le hn
    rw [show changeF f (i :: j :: p) n b = setK f i h (changeF ks (j :: p) n b) by rw [changeF, hn]]
    refine changed_more f i j p n b h ks _ v pv u w hl hp hu hn hs (by simp at hpl; omega) fun v pv u w h1 h2 h3 => ?_
    exact changed_any (j :: p) ks n b v pv u w h1 h2 h3 hk (by omega) hsb (by simp at hpl ⊢; omega)
end Go.Proofs.YtcgedpfolloinaaGreat

namespace Go.Proofs.YtcgedpfolloinaaGreat
open Go.RowKit

theorem splice_path (f : Fo) (p : List Int) (q : List Nat) (i out : Nat) (g b : Fo) (v pv u : Value) (w : World) (hl : Lies w v f) (hp : IntsLie w pv p) (hpl : p.length ≤ 1000000) (hu : Lies w u b) (e : p = pathInts (q ++ [i])) (hg : goTo f q = some g) (hi : i + out ≤ g.len) (hs : f.size ≤ 100000) (hsb : b.size ≤ 100000) :
    Calls Tryz.prog 105 #[v, pv, .int .i64 out, u] w (FoE w (inBnd (changeF f (q ++ [i]) out b))) := by
  subst e
  rw [changeF_at q f i out b hg]
  exact splice_any f q i out g b v pv u w hl hp (by rw [List.length_map, List.length_append] at hpl; omega) hu hg hi hs hsb
theorem ints_init {w : World} {v : Value} {q : List Int} {x : Int} (h : IntsLie w v (q ++ [x])) : ∃ b o cap, v = .slice (some ⟨b, o, none⟩) (q ++ [x]).length cap ∧ (q ++ [x]).length ≤ cap ∧ b < w.heap.size ∧ w.cell? ⟨b, o + q.length, none⟩ = some (.int .i64 x) ∧ IntsLie w (.slice (some ⟨b, o, none⟩) q.length cap) q := by
  obtain ⟨b, o, cap, e, hc, hb, hk⟩ := ints_cells h (by simp)
  rw [List.length_append] at hc
  refine ⟨b, o, cap, e, by rw [List.length_append]; exact hc, hb, ?_, .inr ⟨b, o, cap, rfl, by omega, hb, fun k hk' => ?_⟩⟩
  · rw [hk q.length (by simp), List.getD_eq_getElem?_getD, List.getElem?_append_right (Nat.le_refl _), Nat.sub_self]; rfl
  · rw [hk k (by simp; omega), List.getD_eq_getElem?_getD, List.getElem?_append_left hk', ← List.getD_eq_getElem?_getD]
theorem foE_none {w w' : World} {er : Int} (h : Below w.heap.size w w') : FoE w (.nil, er) (.returned (.tuple #[.slice none 0 0, .int .i64 er])) w' := ⟨.slice none 0 0, rfl, .inl ⟨_, _, rfl, rfl⟩, h⟩

set_option maxRecDepth 100000 in
set_option maxHeartbeats 8000000 in
theorem tput_any (f : Fo) (p : List Int) (h : Hd) (ks : Fo) (v pv : Value) (aa : Option Addr) (ca : Nat) (ak : Option Addr) (ck : Nat) (w : World) (hl : Lies w v f) (hp : IntsLie w pv p) (hpl : p.length ≤ 1000000) (ha : AttrsLie w (.slice aa h.ats.length ca) h.ats) (hk : Lies w (.slice ak ks.len ck) ks) (hs : Small f) (hs1 : Small (.cons h ks .nil)) :
    Calls Tryz.prog 44 #[v, pv, aggOf h aa ca ak ks.len ck] w (FoE w (putV f p (.cons h ks .nil))) := by
  have CF := Lib.hid (fun W (hW : Below w.heap.size w W) => tcheck_any f v W (lies_below hl hW) hs)
  have TE := Lib.hid (fun x l W (h : IntsLie W x l) (hl : l.length ≤ 1000000) => (terr_any x l W h hl).mono (fun e w' (H : e = .returned (.int .i64 (firstNZ l)) ∧ W = w') => (⟨H.1, H.2 ▸ Below.refl _ _⟩ : e = .returned (.int .i64 (firstNZ l)) ∧ Below W.heap.size W w')))
  have CT := Lib.hid (fun W x (hx : Lies W x (.cons h ks .nil)) => tcheck_any (.cons h ks .nil) x W hx hs1)
  have CP := Lib.hid (fun W (hW : Below w.heap.size w W) => checkPlace_any f p v pv W (lies_below hl hW) (ints_below hp hW) hpl)
  have SP := Lib.hid (fun (he : placeErr f p = 0) W (hW : Below w.heap.size w W) x (hx : Lies W x (.cons h ks .nil)) => show Calls Tryz.prog 105 #[v, pv, .int .i64 (1 : Nat), x] W (FoE W (inBnd (changeF f (p.map Int.toNat) 1 (.cons h ks .nil)))) by
    obtain ⟨q, i, g, e1, e2, e3, e4⟩ := place_cut he
    rw [e2]
    exact splice_path f p q i 1 g _ v pv x W (lies_below hl hW) (ints_below hp hW) hpl hx e1 e3 e4 hs.size hs1.size)
  obtain ⟨R, hR⟩ : ∃ R, putV f p (.cons h ks .nil) = R := ⟨_, rfl⟩
  rw [hR]
  have HR := Lib.hid hR.symm
  unfold putV at HR
  have HA := Lib.hid (fun W (hW : Below w.heap.size w W) => attrs_below ha hW)
  have HK := Lib.hid (fun W (hW : Below w.heap.size w W) => lies_below hk hW)
  obtain ⟨av, cv, rfl⟩ := lies_form hl
  obtain ⟨pa, pc, rfl⟩ := ints_form hp
  clear hl hp ha hk hs hs1 hR
  generalize changeF f (p.map Int.toNat) 1 (.cons h ks .nil) = CH at *
  generalize foErr f = e1 at *
  generalize foErr (.cons h ks .nil) = e2 at *
  generalize placeErr f p = e3 at *
  unfold aggOf
  go_enter Tryz.func44, Tryz.ntmps44
  go_upto_region 1 with fail
  have kk := World.alloc_heap_new w (.cells #[.int .i64 h.k, .string ⟨h.l.toArray⟩, .slice aa h.ats.length ca, .int .i64 h.n, .int .i64 h.d, .string ⟨h.x.toArray⟩, .slice ak ks.len ck] 43)
  have B0 : Below w.heap.size w (w.alloc (.cells #[.int .i64 h.k, .string ⟨h.l.toArray⟩, .slice aa h.ats.length ca, .int .i64 h.n, .int .i64 h.d, .string ⟨h.x.toArray⟩, .slice ak ks.len ck] 43)) := by ((repeat' (first | exact Below.refl _ _ | assumption | refine Below.setCell ?_ ?_ _ | refine bdrewN ?_ _ | refine Below.drew ?_ | refine Below.alloc ?_ ?_ _ | refine bbehind ?_ (by assumption) ?_)); all_goals first | (simp; done) | (simp; omega) | omega)
  have zb : w.heap.size < (w.alloc (.cells #[.int .i64 h.k, .string ⟨h.l.toArray⟩, .slice aa h.ats.length ca, .int .i64 h.n, .int .i64 h.d, .string ⟨h.x.toArray⟩, .slice ak ks.len ck] 43)).heap.size := by simp
  obtain ⟨tb, htb⟩ : ∃ t, t = w.heap.size := ⟨_, rfl⟩
  have htb' := Lib.hid htb
  have KB := Lib.hid kk
  rw [← htb] at KB
  have zb2 : tb < (w.alloc (.cells #[.int .i64 h.k, .string ⟨h.l.toArray⟩, .slice aa h.ats.length ca, .int .i64 h.n, .int .i64 h.d, .string ⟨h.x.toArray⟩, .slice ak ks.len ck] 43)).heap.size := by omega
  generalize w.alloc (.cells #[.int .i64 h.k, .string ⟨h.l.toArray⟩, .slice aa h.ats.length ca, .int .i64 h.n, .int .i64 h.d, .string ⟨h.x.toArray⟩, .slice ak ks.len ck] 43) = W at *
  clear kk zb
  have zb := zb2
  clear zb2
  have hbox : (Value.pointer (some ⟨w.heap.size, 0, none⟩)) = .pointer (some ⟨tb, 0, none⟩) := by rw [htb]
  rw [hbox]
  clear hbox htb
  go_cut [8] (fun s wx => s = .int .i64 (firstNZ [e1, e2, e3]) ∧ Below w.heap.size w wx ∧ tb < wx.heap.size ∧ wx.heap[tb]? = some (.cells #[.int .i64 h.k, .string ⟨h.l.toArray⟩, .slice aa h.ats.length ca, .int .i64 h.n, .int .i64 h.d, .string ⟨h.x.toArray⟩, .slice ak ks.len ck] 43))
  case first =>
    refine wp_region_any (by kernel_rfl) ?_
    change wpAny _ _ _ _ _ _ _ (World.drew _)
    have BX : Below w.heap.size w W.drew := B0.drew
    have KB0 := Lib.hid (show W.drew.heap[tb]? = _ from KB.out)
    have zb0 : tb < W.drew.heap.size := zb
    clear KB zb
    generalize W.drew = X at *
    have KB := Lib.hid KB0.out
    have zb := zb0
    clear KB0 zb0
    refine wpAny_take (i := 0) (v := .slice av f.len cv) rfl (by decide +kernel) (by decide +kernel) (by decide +kernel) (fun _ _ _ h => h) (Or.inl ⟨by kernel_rfl, by intro w; go_simp <;> with_reducible rfl⟩) ?_
    simp only [Act.put, List.setIfInBounds_toArray]
    refine wpAny_take (i := 5) (v := .slice av f.len cv) rfl (by decide +kernel) (by decide +kernel) (by decide +kernel) (fun _ _ _ h => h) (Or.inl ⟨by kernel_rfl, by intro w; go_simp <;> with_reducible rfl⟩) ?_
    simp only [Act.put]
    refine wpAny_take (i := 6) (v := .slice pa p.length pc) rfl (by decide +kernel) (by decide +kernel) (by decide +kernel) (fun _ _ _ h => h) (Or.inl ⟨by kernel_rfl, by intro w; go_simp <;> with_reducible rfl⟩) ?_
    simp only [Act.put]
    refine wpAny_ready (rs := [1, 2]) (by decide +kernel) (by simp) ?_
    refine AllReady.cons rfl (fun K hK => ?_) (AllReady.cons rfl (fun K hK => ?_) AllReady.nil)
    · go_simp
      go_wp2_with (go_at_call 19; refine (CF.out X BX).mono ?_; rintro e Y1 ⟨rfl, hb⟩)
      have BY1 : Below w.heap.size w Y1 := BX.trans (hb.mono BX.size)
      have KB := Lib.hid ((hb.block _ zb).trans KB.out)
      have zb := Nat.lt_of_lt_of_le zb hb.size
      clear hb
      refine wpAny_ready (rs := [2]) (by decide +kernel) (by simp) ?_
      refine AllReady.cons rfl (fun K hK => ?_) AllReady.nil
      have d0 : Y1.cell? ⟨tb, 0, none⟩ = some (.int .i64 h.k) := cell_of_block KB.out rfl
      have d1 : Y1.cell? ⟨tb, 1, none⟩ = some (.string ⟨h.l.toArray⟩) := cell_of_block KB.out rfl
      have d2 : Y1.cell? ⟨tb, 2, none⟩ = some (.slice aa h.ats.length ca) := cell_of_block KB.out rfl
      have d3 : Y1.cell? ⟨tb, 3, none⟩ = some (.int .i64 h.n) := cell_of_block KB.out rfl
      have d4 : Y1.cell? ⟨tb, 4, none⟩ = some (.int .i64 h.d) := cell_of_block KB.out rfl
      have d5 : Y1.cell? ⟨tb, 5, none⟩ = some (.string ⟨h.x.toArray⟩) := cell_of_block KB.out rfl
      have d6 : Y1.cell? ⟨tb, 6, none⟩ = some (.slice ak ks.len ck) := cell_of_block KB.out rfl
      go_simp
      refine hK _ _ ?_
      clear hK K d0 d1 d2 d3 d4 d5 d6
      refine wpAny_ready (rs := [3]) (by decide +kernel) (by simp) ?_
      refine AllReady.cons rfl (fun K hK => ?_) AllReady.nil
      go_simp
      refine hK _ _ ?_
      clear hK K
      have kk := World.alloc_heap_new Y1 (.cells #[.int .i64 h.k, .string ⟨h.l.toArray⟩, .slice aa h.ats.length ca, .int .i64 h.n, .int .i64 h.d, .string ⟨h.x.toArray⟩, .slice ak ks.len ck] 43)
      have hb : Below Y1.heap.size Y1 (Y1.alloc (.cells #[.int .i64 h.k, .string ⟨h.l.toArray⟩, .slice aa h.ats.length ca, .int .i64 h.n, .int .i64 h.d, .string ⟨h.x.toArray⟩, .slice ak ks.len ck] 43)) := (Below.refl _ _).alloc (Nat.le_refl _) _
      have hsz : (Y1.alloc (.cells #[.int .i64 h.k, .string ⟨h.l.toArray⟩, .slice aa h.ats.length ca, .int .i64 h.n, .int .i64 h.d, .string ⟨h.x.toArray⟩, .slice ak ks.len ck] 43)).heap.size = Y1.heap.size + 1 := by simp
      generalize Y1.alloc (.cells #[.int .i64 h.k, .string ⟨h.l.toArray⟩, .slice aa h.ats.length ca, .int .i64 h.n, .int .i64 h.d, .string ⟨h.x.toArray⟩, .slice ak ks.len ck] 43) = Y2 at *
      have BY2 : Below w.heap.size w Y2 := BY1.trans (hb.mono BY1.size)
      have KB := Lib.hid ((hb.block _ zb).trans KB.out)
      have zb := Nat.lt_of_lt_of_le zb hb.size
      have LT := Lib.hid (lies_one kk (HA.out Y2 BY2) (HK.out Y2 BY2))
      clear kk hb hsz
      refine wpAny_ready (rs := [4]) (by decide +kernel) (by simp) ?_
      refine AllReady.cons rfl (fun K hK => ?_) AllReady.nil
      go_simp
      go_wp2_with (go_at_call 19; refine (CT.out Y2 _ LT.out).mono ?_; rintro e Y3 ⟨rfl, hb⟩)
      have BY3 : Below w.heap.size w Y3 := BY2.trans (hb.mono BY2.size)
      have KB := Lib.hid ((hb.block _ zb).trans KB.out)
      have zb := Nat.lt_of_lt_of_le zb hb.size
      have LT := Lib.hid (lies_below LT.out hb)
      clear hb
      refine wpAny_ready (rs := [7]) (by decide +kernel) (by simp) ?_
      refine AllReady.cons rfl (fun K hK => ?_) AllReady.nil
      go_simp
      go_wp2_with (go_at_call 91; refine (CP.out Y3 BY3).mono ?_; rintro e Y4 ⟨rfl, hb⟩)
      have BY4 : Below w.heap.size w Y4 := BY3.trans (hb.mono BY3.size)
      have KB := Lib.hid ((hb.block _ zb).trans KB.out)
      have zb := Nat.lt_of_lt_of_le zb hb.size
      have LT := Lib.hid (lies_below LT.out hb)
      clear hb
      refine wpAny_ready (rs := [8]) (by decide +kernel) (by simp) ?_
      refine AllReady.cons rfl (fun K hK => ?_) AllReady.nil
      go_simp
      refine hK _ _ ?_
      clear hK K
      have kk := World.alloc_heap_new Y4 (.cells #[.int .i64 e1, .int .i64 e2, .int .i64 e3] 32)
      have hb : Below Y4.heap.size Y4 (Y4.alloc (.cells #[.int .i64 e1, .int .i64 e2, .int .i64 e3] 32)) := (Below.refl _ _).alloc (Nat.le_refl _) _
      have hsz : (Y4.alloc (.cells #[.int .i64 e1, .int .i64 e2, .int .i64 e3] 32)).heap.size = Y4.heap.size + 1 := by simp
      generalize Y4.alloc (.cells #[.int .i64 e1, .int .i64 e2, .int .i64 e3] 32) = Y5 at *
      have BY5 : Below w.heap.size w Y5 := BY4.trans (hb.mono BY4.size)
      have KB := Lib.hid ((hb.block _ zb).trans KB.out)
      have zb := Nat.lt_of_lt_of_le zb hb.size
      have LT := Lib.hid (lies_below LT.out hb)
      have HI := Lib.hid (ints_three kk (by rw [hsz]; omega))
      clear kk hb hsz
      refine wpAny_ready (rs := [9]) (by decide +kernel) (by simp) ?_
      refine AllReady.cons rfl (fun K hK => ?_) AllReady.nil
      go_simp
      go_wp2_with (go_at_call 85; refine (TE.out _ [e1, e2, e3] Y5 HI.out (by simp)).mono ?_; rintro e Y6 ⟨rfl, hb⟩)
      have BY6 : Below w.heap.size w Y6 := BY5.trans (hb.mono BY5.size)
      have KB := Lib.hid ((hb.block _ zb).trans KB.out)
      have zb := Nat.lt_of_lt_of_le zb hb.size
      have LT := Lib.hid (lies_below LT.out hb)
      clear hb
      refine wpAny_ready (rs := [10]) (by decide +kernel) (by simp) ?_
      refine AllReady.cons rfl (fun K hK => ?_) AllReady.nil
      go_simp
      refine hK _ _ ?_
      clear hK K
      refine wpAny_done (by decide +kernel) ?_ _
      go_wp2_with fail
      go_meet
      case rel => exact ⟨rfl, BY6, zb, KB.out⟩
    · have d0 : X.cell? ⟨tb, 0, none⟩ = some (.int .i64 h.k) := cell_of_block KB.out rfl
      have d1 : X.cell? ⟨tb, 1, none⟩ = some (.string ⟨h.l.toArray⟩) := cell_of_block KB.out rfl
      have d2 : X.cell? ⟨tb, 2, none⟩ = some (.slice aa h.ats.length ca) := cell_of_block KB.out rfl
      have d3 : X.cell? ⟨tb, 3, none⟩ = some (.int .i64 h.n) := cell_of_block KB.out rfl
      have d4 : X.cell? ⟨tb, 4, none⟩ = some (.int .i64 h.d) := cell_of_block KB.out rfl
      have d5 : X.cell? ⟨tb, 5, none⟩ = some (.string ⟨h.x.toArray⟩) := cell_of_block KB.out rfl
      have d6 : X.cell? ⟨tb, 6, none⟩ = some (.slice ak ks.len ck) := cell_of_block KB.out rfl
      go_simp
      refine hK _ _ ?_
      clear hK K d0 d1 d2 d3 d4 d5 d6
      refine wpAny_ready (rs := [1, 3]) (by decide +kernel) (by simp) ?_
      refine AllReady.cons rfl (fun K hK => ?_) (AllReady.cons rfl (fun K hK => ?_) AllReady.nil)
      · go_simp
        go_wp2_with (go_at_call 19; refine (CF.out X BX).mono ?_; rintro e Y7 ⟨rfl, hb⟩)
        have BY7 : Below w.heap.size w Y7 := BX.trans (hb.mono BX.size)
        have KB := Lib.hid ((hb.block _ zb).trans KB.out)
        have zb := Nat.lt_of_lt_of_le zb hb.size
        clear hb
        refine wpAny_ready (rs := [3]) (by decide +kernel) (by simp) ?_
        refine AllReady.cons rfl (fun K hK => ?_) AllReady.nil
        go_simp
        refine hK _ _ ?_
        clear hK K
        have kk := World.alloc_heap_new Y7 (.cells #[.int .i64 h.k, .string ⟨h.l.toArray⟩, .slice aa h.ats.length ca, .int .i64 h.n, .int .i64 h.d, .string ⟨h.x.toArray⟩, .slice ak ks.len ck] 43)
        have hb : Below Y7.heap.size Y7 (Y7.alloc (.cells #[.int .i64 h.k, .string ⟨h.l.toArray⟩, .slice aa h.ats.length ca, .int .i64 h.n, .int .i64 h.d, .string ⟨h.x.toArray⟩, .slice ak ks.len ck] 43)) := (Below.refl _ _).alloc (Nat.le_refl _) _
        have hsz : (Y7.alloc (.cells #[.int .i64 h.k, .string ⟨h.l.toArray⟩, .slice aa h.ats.length ca, .int .i64 h.n, .int .i64 h.d, .string ⟨h.x.toArray⟩, .slice ak ks.len ck] 43)).heap.size = Y7.heap.size + 1 := by simp
        generalize Y7.alloc (.cells #[.int .i64 h.k, .string ⟨h.l.toArray⟩, .slice aa h.ats.length ca, .int .i64 h.n, .int .i64 h.d, .string ⟨h.x.toArray⟩, .slice ak ks.len ck] 43) = Y8 at *
        have BY8 : Below w.heap.size w Y8 := BY7.trans (hb.mono BY7.size)
        have KB := Lib.hid ((hb.block _ zb).trans KB.out)
        have zb := Nat.lt_of_lt_of_le zb hb.size
        have LT := Lib.hid (lies_one kk (HA.out Y8 BY8) (HK.out Y8 BY8))
        clear kk hb hsz
        refine wpAny_ready (rs := [4]) (by decide +kernel) (by simp) ?_
        refine AllReady.cons rfl (fun K hK => ?_) AllReady.nil
        go_simp
        go_wp2_with (go_at_call 19; refine (CT.out Y8 _ LT.out).mono ?_; rintro e Y9 ⟨rfl, hb⟩)
        have BY9 : Below w.heap.size w Y9 := BY8.trans (hb.mono BY8.size)
        have KB := Lib.hid ((hb.block _ zb).trans KB.out)
        have zb := Nat.lt_of_lt_of_le zb hb.size
        have LT := Lib.hid (lies_below LT.out hb)
        clear hb
        refine wpAny_ready (rs := [7]) (by decide +kernel) (by simp) ?_
        refine AllReady.cons rfl (fun K hK => ?_) AllReady.nil
        go_simp
        go_wp2_with (go_at_call 91; refine (CP.out Y9 BY9).mono ?_; rintro e Y10 ⟨rfl, hb⟩)
        have BY10 : Below w.heap.size w Y10 := BY9.trans (hb.mono BY9.size)
        have KB := Lib.hid ((hb.block _ zb).trans KB.out)
        have zb := Nat.lt_of_lt_of_le zb hb.size
        have LT := Lib.hid (lies_below LT.out hb)
        clear hb
        refine wpAny_ready (rs := [8]) (by decide +kernel) (by simp) ?_
        refine AllReady.cons rfl (fun K hK => ?_) AllReady.nil
        go_simp
        refine hK _ _ ?_
        clear hK K
        have kk := World.alloc_heap_new Y10 (.cells #[.int .i64 e1, .int .i64 e2, .int .i64 e3] 32)
        have hb : Below Y10.heap.size Y10 (Y10.alloc (.cells #[.int .i64 e1, .int .i64 e2, .int .i64 e3] 32)) := (Below.refl _ _).alloc (Nat.le_refl _) _
        have hsz : (Y10.alloc (.cells #[.int .i64 e1, .int .i64 e2, .int .i64 e3] 32)).heap.size = Y10.heap.size + 1 := by simp
        generalize Y10.alloc (.cells #[.int .i64 e1, .int .i64 e2, .int .i64 e3] 32) = Y11 at *
        have BY11 : Below w.heap.size w Y11 := BY10.trans (hb.mono BY10.size)
        have KB := Lib.hid ((hb.block _ zb).trans KB.out)
        have zb := Nat.lt_of_lt_of_le zb hb.size
        have LT := Lib.hid (lies_below LT.out hb)
        have HI := Lib.hid (ints_three kk (by rw [hsz]; omega))
        clear kk hb hsz
        refine wpAny_ready (rs := [9]) (by decide +kernel) (by simp) ?_
        refine AllReady.cons rfl (fun K hK => ?_) AllReady.nil
        go_simp
        go_wp2_with (go_at_call 85; refine (TE.out _ [e1, e2, e3] Y11 HI.out (by simp)).mono ?_; rintro e Y12 ⟨rfl, hb⟩)
        have BY12 : Below w.heap.size w Y12 := BY11.trans (hb.mono BY11.size)
        have KB := Lib.hid ((hb.block _ zb).trans KB.out)
        have zb := Nat.lt_of_lt_of_le zb hb.size
        have LT := Lib.hid (lies_below LT.out hb)
        clear hb
        refine wpAny_ready (rs := [10]) (by decide +kernel) (by simp) ?_
        refine AllReady.cons rfl (fun K hK => ?_) AllReady.nil
        go_simp
        refine hK _ _ ?_
        clear hK K
        refine wpAny_done (by decide +kernel) ?_ _
        go_wp2_with fail
        go_meet
        case rel => exact ⟨rfl, BY12, zb, KB.out⟩
      · go_simp
        refine hK _ _ ?_
        clear hK K
        have kk := World.alloc_heap_new X (.cells #[.int .i64 h.k, .string ⟨h.l.toArray⟩, .slice aa h.ats.length ca, .int .i64 h.n, .int .i64 h.d, .string ⟨h.x.toArray⟩, .slice ak ks.len ck] 43)
        have hb : Below X.heap.size X (X.alloc (.cells #[.int .i64 h.k, .string ⟨h.l.toArray⟩, .slice aa h.ats.length ca, .int .i64 h.n, .int .i64 h.d, .string ⟨h.x.toArray⟩, .slice ak ks.len ck] 43)) := (Below.refl _ _).alloc (Nat.le_refl _) _
        have hsz : (X.alloc (.cells #[.int .i64 h.k, .string ⟨h.l.toArray⟩, .slice aa h.ats.length ca, .int .i64 h.n, .int .i64 h.d, .string ⟨h.x.toArray⟩, .slice ak ks.len ck] 43)).heap.size = X.heap.size + 1 := by simp
        generalize X.alloc (.cells #[.int .i64 h.k, .string ⟨h.l.toArray⟩, .slice aa h.ats.length ca, .int .i64 h.n, .int .i64 h.d, .string ⟨h.x.toArray⟩, .slice ak ks.len ck] 43) = Y13 at *
        have BY13 : Below w.heap.size w Y13 := BX.trans (hb.mono BX.size)
        have KB := Lib.hid ((hb.block _ zb).trans KB.out)
        have zb := Nat.lt_of_lt_of_le zb hb.size
        have LT := Lib.hid (lies_one kk (HA.out Y13 BY13) (HK.out Y13 BY13))
        clear kk hb hsz
        refine wpAny_ready (rs := [1]) (by decide +kernel) (by simp) ?_
        refine AllReady.cons rfl (fun K hK => ?_) AllReady.nil
        go_simp
        go_wp2_with (go_at_call 19; refine (CF.out Y13 BY13).mono ?_; rintro e Y14 ⟨rfl, hb⟩)
        have BY14 : Below w.heap.size w Y14 := BY13.trans (hb.mono BY13.size)
        have KB := Lib.hid ((hb.block _ zb).trans KB.out)
        have zb := Nat.lt_of_lt_of_le zb hb.size
        have LT := Lib.hid (lies_below LT.out hb)
        clear hb
        refine wpAny_ready (rs := [4]) (by decide +kernel) (by simp) ?_
        refine AllReady.cons rfl (fun K hK => ?_) AllReady.nil
        go_simp
        go_wp2_with (go_at_call 19; refine (CT.out Y14 _ LT.out).mono ?_; rintro e Y15 ⟨rfl, hb⟩)
        have BY15 : Below w.heap.size w Y15 := BY14.trans (hb.mono BY14.size)
        have KB := Lib.hid ((hb.block _ zb).trans KB.out)
        have zb := Nat.lt_of_lt_of_le zb hb.size
        have LT := Lib.hid (lies_below LT.out hb)
        clear hb
        refine wpAny_ready (rs := [7]) (by decide +kernel) (by simp) ?_
        refine AllReady.cons rfl (fun K hK => ?_) AllReady.nil
        go_simp
        go_wp2_with (go_at_call 91; refine (CP.out Y15 BY15).mono ?_; rintro e Y16 ⟨rfl, hb⟩)
        have BY16 : Below w.heap.size w Y16 := BY15.trans (hb.mono BY15.size)
        have KB := Lib.hid ((hb.block _ zb).trans KB.out)
        have zb := Nat.lt_of_lt_of_le zb hb.size
        have LT := Lib.hid (lies_below LT.out hb)
        clear hb
        refine wpAny_ready (rs := [8]) (by decide +kernel) (by simp) ?_
        refine AllReady.cons rfl (fun K hK => ?_) AllReady.nil
        go_simp
        refine hK _ _ ?_
        clear hK K
        have kk := World.alloc_heap_new Y16 (.cells #[.int .i64 e1, .int .i64 e2, .int .i64 e3] 32)
        have hb : Below Y16.heap.size Y16 (Y16.alloc (.cells #[.int .i64 e1, .int .i64 e2, .int .i64 e3] 32)) := (Below.refl _ _).alloc (Nat.le_refl _) _
        have hsz : (Y16.alloc (.cells #[.int .i64 e1, .int .i64 e2, .int .i64 e3] 32)).heap.size = Y16.heap.size + 1 := by simp
        generalize Y16.alloc (.cells #[.int .i64 e1, .int .i64 e2, .int .i64 e3] 32) = Y17 at *
        have BY17 : Below w.heap.size w Y17 := BY16.trans (hb.mono BY16.size)
        have KB := Lib.hid ((hb.block _ zb).trans KB.out)
        have zb := Nat.lt_of_lt_of_le zb hb.size
        have LT := Lib.hid (lies_below LT.out hb)
        have HI := Lib.hid (ints_three kk (by rw [hsz]; omega))
        clear kk hb hsz
        refine wpAny_ready (rs := [9]) (by decide +kernel) (by simp) ?_
        refine AllReady.cons rfl (fun K hK => ?_) AllReady.nil
        go_simp
        go_wp2_with (go_at_call 85; refine (TE.out _ [e1, e2, e3] Y17 HI.out (by simp)).mono ?_; rintro e Y18 ⟨rfl, hb⟩)
        have BY18 : Below w.heap.size w Y18 := BY17.trans (hb.mono BY17.size)
        have KB := Lib.hid ((hb.block _ zb).trans KB.out)
        have zb := Nat.lt_of_lt_of_le zb hb.size
        have LT := Lib.hid (lies_below LT.out hb)
        clear hb
        refine wpAny_ready (rs := [10]) (by decide +kernel) (by simp) ?_
        refine AllReady.cons rfl (fun K hK => ?_) AllReady.nil
        go_simp
        refine hK _ _ ?_
        clear hK K
        refine wpAny_done (by decide +kernel) ?_ _
        go_wp2_with fail
        go_meet
        case rel => exact ⟨rfl, BY18, zb, KB.out⟩

  case rest =>
    obtain ⟨rfl, BW2, zb, hkb⟩ := hcut
    have KB := Lib.hid hkb
    have FZ := Lib.hid (first_zero (l := [e1, e2, e3]))
    clear hkb
    generalize firstNZ [e1, e2, e3] = ee at *
    by_cases h0 : ee = 0
    rotate_left
    · have HX := HR.out.trans (if_neg h0)
      have b0 : (ee != 0) = true := by simpa using h0
      clear h0
      go_wp2_with fail
      go_ret2
      rw [HX]
      exact foE_none BW2
    · have HX := HR.out.trans (if_pos h0)
      have b0 : (ee != 0) = false := by simpa using h0
      have h3 : e3 = 0 := FZ.out h0 e3 (by simp)
      have HX0 := Lib.hid HX
      clear h0 HX
      go_upto_region 4 with fail
      have d0 : wc.cell? ⟨tb, 0, none⟩ = some (.int .i64 h.k) := cell_of_block KB.out rfl
      have d1 : wc.cell? ⟨tb, 1, none⟩ = some (.string ⟨h.l.toArray⟩) := cell_of_block KB.out rfl
      have d2 : wc.cell? ⟨tb, 2, none⟩ = some (.slice aa h.ats.length ca) := cell_of_block KB.out rfl
      have d3 : wc.cell? ⟨tb, 3, none⟩ = some (.int .i64 h.n) := cell_of_block KB.out rfl
      have d4 : wc.cell? ⟨tb, 4, none⟩ = some (.int .i64 h.d) := cell_of_block KB.out rfl
      have d5 : wc.cell? ⟨tb, 5, none⟩ = some (.string ⟨h.x.toArray⟩) := cell_of_block KB.out rfl
      have d6 : wc.cell? ⟨tb, 6, none⟩ = some (.slice ak ks.len ck) := cell_of_block KB.out rfl
      have kk := World.alloc_heap_new wc (.cells #[.int .i64 h.k, .string ⟨h.l.toArray⟩, .slice aa h.ats.length ca, .int .i64 h.n, .int .i64 h.d, .string ⟨h.x.toArray⟩, .slice ak ks.len ck] 43)
      have hb : Below wc.heap.size wc (wc.alloc (.cells #[.int .i64 h.k, .string ⟨h.l.toArray⟩, .slice aa h.ats.length ca, .int .i64 h.n, .int .i64 h.d, .string ⟨h.x.toArray⟩, .slice ak ks.len ck] 43)) := (Below.refl _ _).alloc (Nat.le_refl _) _
      have BW3 : Below w.heap.size w (wc.alloc (.cells #[.int .i64 h.k, .string ⟨h.l.toArray⟩, .slice aa h.ats.length ca, .int .i64 h.n, .int .i64 h.d, .string ⟨h.x.toArray⟩, .slice ak ks.len ck] 43)) := BW2.trans (hb.mono BW2.size)
      have LT := Lib.hid (lies_one kk (HA.out _ BW3) (HK.out _ BW3))
      clear kk hb
      go_wp2_with fail
      generalize wc.alloc (.cells #[.int .i64 h.k, .string ⟨h.l.toArray⟩, .slice aa h.ats.length ca, .int .i64 h.n, .int .i64 h.d, .string ⟨h.x.toArray⟩, .slice ak ks.len ck] 43) = W2 at *

      have HX := HX0.out
      refine (SP.out h3 W2 BW3 _ LT.out).mono ?_
      rintro e w9 ⟨v9, rfl, hF9, hb9⟩
      have HF9 := Lib.hid (liesF_mono (B' := w.heap.size) BW3.size hF9)
      have B9 := BW3.trans (hb9.mono BW3.size)
      obtain ⟨a9, c9, rfl⟩ := liesF_form hF9
      clear hF9 hb9
      go_wp2_with fail
      go_ret2
      rw [HX]
      exact ⟨_, rfl, HF9.out, B9⟩


set_option maxRecDepth 100000 in
set_option maxHeartbeats 8000000 in
theorem tcut_any (f : Fo) (p : List Int) (v pv : Value) (w : World) (hl : Lies w v f) (hp : IntsLie w pv p) (hpl : p.length ≤ 1000000) (hs : Small f) :
    Calls Tryz.prog 48 #[v, pv] w (FoE w (cutV f p)) := by
  have CF := Lib.hid (fun W (hW : Below w.heap.size w W) => tcheck_any f v W (lies_below hl hW) hs)
  have TE := Lib.hid (fun x l W (h : IntsLie W x l) (hl : l.length ≤ 1000000) => (terr_any x l W h hl).mono (fun e w' (H : e = .returned (.int .i64 (firstNZ l)) ∧ W = w') => (⟨H.1, H.2 ▸ Below.refl _ _⟩ : e = .returned (.int .i64 (firstNZ l)) ∧ Below W.heap.size W w')))
  have CP := Lib.hid (fun W (hW : Below w.heap.size w W) => checkPlace_any f p v pv W (lies_below hl hW) (ints_below hp hW) hpl)
  have SP := Lib.hid (fun (he : placeErr f p = 0) W (hW : Below w.heap.size w W) => show Calls Tryz.prog 105 #[v, pv, .int .i64 (1 : Nat), .slice none 0 0] W (FoE W (inBnd (changeF f (p.map Int.toNat) 1 .nil))) by
    obtain ⟨q, i, g, e1, e2, e3, e4⟩ := place_cut he
    rw [e2]
    exact splice_path f p q i 1 g .nil v pv _ W (lies_below hl hW) (ints_below hp hW) hpl (.inl ⟨_, _, rfl, rfl⟩) e1 e3 e4 hs.size (Nat.zero_le _))
  obtain ⟨R, hR⟩ : ∃ R, cutV f p = R := ⟨_, rfl⟩
  rw [hR]
  have HR := Lib.hid hR.symm
  unfold cutV at HR
  obtain ⟨av, cv, rfl⟩ := lies_form hl
  obtain ⟨pa, pc, rfl⟩ := ints_form hp
  clear hl hp hs hR
  generalize changeF f (p.map Int.toNat) 1 .nil = CH at *
  generalize foErr f = e1 at *
  generalize placeErr f p = e3 at *
  go_enter Tryz.func48, Tryz.ntmps48
  go_wp2_with fail
  refine (CF.out w (Below.refl _ _)).mono ?_
  rintro e X1 ⟨rfl, hb1⟩
  go_wp2_with fail
  refine (CP.out X1 hb1).mono ?_
  rintro e X2 ⟨rfl, hb2⟩
  have B2 := hb1.trans (hb2.mono hb1.size)
  clear hb1 hb2
  have kk := ints_pair (World.alloc_heap_new X2 (.cells #[.int .i64 e1, .int .i64 e3] 32)) (by simp)
  have B3 : Below w.heap.size w (X2.alloc (.cells #[.int .i64 e1, .int .i64 e3] 32)) := B2.alloc B2.size _
  go_wp2_with fail
  generalize X2.alloc (.cells #[.int .i64 e1, .int .i64 e3] 32) = X3 at *
  refine (TE.out _ _ X3 kk (by simp)).mono ?_
  rintro e W2 ⟨rfl, hb4⟩
  have BW2 := B3.trans (hb4.mono B3.size)
  have FZ := Lib.hid (first_zero (l := [e1, e3]))
  clear kk B2 B3 hb4
  generalize firstNZ [e1, e3] = ee at *
  by_cases h0 : ee = 0
  rotate_left
  · have HX := HR.out.trans (if_neg h0)
    have b0 : (ee != 0) = true := by simpa using h0
    clear h0
    go_wp2_with fail
    go_ret2
    rw [HX]
    exact foE_none BW2
  · have HX0 := Lib.hid (HR.out.trans (if_pos h0))
    have b0 : (ee != 0) = false := by simpa using h0
    have h3 : e3 = 0 := FZ.out h0 e3 (by simp)
    clear h0
    go_wp2_with fail
    have HX := HX0.out
    refine (SP.out h3 W2 BW2).mono ?_
    rintro e w9 ⟨v9, rfl, hF9, hb9⟩
    have HF9 := Lib.hid (liesF_mono (B' := w.heap.size) BW2.size hF9)
    have B9 := BW2.trans (hb9.mono BW2.size)
    obtain ⟨a9, c9, rfl⟩ := liesF_form hF9
    clear hF9 hb9
    go_wp2_with fail
    go_ret2
    rw [HX]
    exact ⟨_, rfl, HF9.out, B9⟩

set_option maxRecDepth 100000 in
set_option maxHeartbeats 8000000 in
theorem tinsert_nil (f : Fo) (h : Hd) (ks : Fo) (v pv : Value) (aa : Option Addr) (ca : Nat) (ak : Option Addr) (ck : Nat) (w : World) (hl : Lies w v f) (hp : IntsLie w pv []) (ha : AttrsLie w (.slice aa h.ats.length ca) h.ats) (hk : Lies w (.slice ak ks.len ck) ks) (hs : Small f) (hs1 : Small (.cons h ks .nil)) :
    Calls Tryz.prog 46 #[v, pv, aggOf h aa ca ak ks.len ck] w (FoE w (insV f [] (.cons h ks .nil))) := by
  have CF := Lib.hid (fun W (hW : Below w.heap.size w W) => tcheck_any f v W (lies_below hl hW) hs)
  have TE := Lib.hid (fun x l W (h : IntsLie W x l) (hl : l.length ≤ 1000000) => (terr_any x l W h hl).mono (fun e w' (H : e = .returned (.int .i64 (firstNZ l)) ∧ W = w') => (⟨H.1, H.2 ▸ Below.refl _ _⟩ : e = .returned (.int .i64 (firstNZ l)) ∧ Below W.heap.size W w')))
  have CT := Lib.hid (fun W x (hx : Lies W x (.cons h ks .nil)) => tcheck_any (.cons h ks .nil) x W hx hs1)
  obtain ⟨R, hR⟩ : ∃ R, insV f [] (.cons h ks .nil) = R := ⟨_, rfl⟩
  rw [hR]
  have HR := Lib.hid hR.symm
  unfold insV at HR
  have HA := Lib.hid (fun W (hW : Below w.heap.size w W) => attrs_below ha hW)
  have HK := Lib.hid (fun W (hW : Below w.heap.size w W) => lies_below hk hW)
  obtain ⟨av, cv, rfl⟩ := lies_form hl
  obtain ⟨pa, pc, rfl⟩ := ints_form hp
  simp only [List.length_nil]
  rw [if_pos rfl] at HR
  clear hl hp ha hk hs hs1 hR
  generalize foErr f = e1 at *
  generalize foErr (.cons h ks .nil) = e2 at *
  unfold aggOf
  go_enter Tryz.func46, Tryz.ntmps46
  go_upto_region 1 with fail
  have kk := World.alloc_heap_new w (.cells #[.int .i64 h.k, .string ⟨h.l.toArray⟩, .slice aa h.ats.length ca, .int .i64 h.n, .int .i64 h.d, .string ⟨h.x.toArray⟩, .slice ak ks.len ck] 43)
  have B0 : Below w.heap.size w (w.alloc (.cells #[.int .i64 h.k, .string ⟨h.l.toArray⟩, .slice aa h.ats.length ca, .int .i64 h.n, .int .i64 h.d, .string ⟨h.x.toArray⟩, .slice ak ks.len ck] 43)) := by ((repeat' (first | exact Below.refl _ _ | assumption | refine Below.setCell ?_ ?_ _ | refine bdrewN ?_ _ | refine Below.drew ?_ | refine Below.alloc ?_ ?_ _ | refine bbehind ?_ (by assumption) ?_)); all_goals first | (simp; done) | (simp; omega) | omega)
  have zb : w.heap.size < (w.alloc (.cells #[.int .i64 h.k, .string ⟨h.l.toArray⟩, .slice aa h.ats.length ca, .int .i64 h.n, .int .i64 h.d, .string ⟨h.x.toArray⟩, .slice ak ks.len ck] 43)).heap.size := by simp
  obtain ⟨tb, htb⟩ : ∃ t, t = w.heap.size := ⟨_, rfl⟩
  have htb' := Lib.hid htb
  have KB := Lib.hid kk
  rw [← htb] at KB
  have zb2 : tb < (w.alloc (.cells #[.int .i64 h.k, .string ⟨h.l.toArray⟩, .slice aa h.ats.length ca, .int .i64 h.n, .int .i64 h.d, .string ⟨h.x.toArray⟩, .slice ak ks.len ck] 43)).heap.size := by omega
  generalize w.alloc (.cells #[.int .i64 h.k, .string ⟨h.l.toArray⟩, .slice aa h.ats.length ca, .int .i64 h.n, .int .i64 h.d, .string ⟨h.x.toArray⟩, .slice ak ks.len ck] 43) = W at *
  clear kk zb
  have zb := zb2
  clear zb2
  have hbox : (Value.pointer (some ⟨w.heap.size, 0, none⟩)) = .pointer (some ⟨tb, 0, none⟩) := by rw [htb]
  rw [hbox]
  clear hbox htb
  go_cut [8] (fun s wx => s = .int .i64 (firstNZ [e1, e2]) ∧ Below w.heap.size w wx ∧ tb < wx.heap.size ∧ wx.heap[tb]? = some (.cells #[.int .i64 h.k, .string ⟨h.l.toArray⟩, .slice aa h.ats.length ca, .int .i64 h.n, .int .i64 h.d, .string ⟨h.x.toArray⟩, .slice ak ks.len ck] 43))
  case first =>
    refine wp_region_any (by kernel_rfl) ?_
    change wpAny _ _ _ _ _ _ _ (World.drew _)
    have BX : Below w.heap.size w W.drew := B0.drew
    have KB0 := Lib.hid (show W.drew.heap[tb]? = _ from KB.out)
    have zb0 : tb < W.drew.heap.size := zb
    clear KB zb
    generalize W.drew = X at *
    have KB := Lib.hid KB0.out
    have zb := zb0
    clear KB0 zb0
    refine wpAny_take (i := 0) (v := .slice av f.len cv) rfl (by decide +kernel) (by decide +kernel) (by decide +kernel) (fun _ _ _ h => h) (Or.inl ⟨by kernel_rfl, by intro w; go_simp <;> with_reducible rfl⟩) ?_
    simp only [Act.put, List.setIfInBounds_toArray]
    refine wpAny_ready (rs := [1, 2]) (by decide +kernel) (by simp) ?_
    refine AllReady.cons rfl (fun K hK => ?_) (AllReady.cons rfl (fun K hK => ?_) AllReady.nil)
    · go_simp
      go_wp2_with (go_at_call 19; refine (CF.out X BX).mono ?_; rintro e Y19 ⟨rfl, hb⟩)
      have BY19 : Below w.heap.size w Y19 := BX.trans (hb.mono BX.size)
      have KB := Lib.hid ((hb.block _ zb).trans KB.out)
      have zb := Nat.lt_of_lt_of_le zb hb.size
      clear hb
      refine wpAny_ready (rs := [2]) (by decide +kernel) (by simp) ?_
      refine AllReady.cons rfl (fun K hK => ?_) AllReady.nil
      have d0 : Y19.cell? ⟨tb, 0, none⟩ = some (.int .i64 h.k) := cell_of_block KB.out rfl
      have d1 : Y19.cell? ⟨tb, 1, none⟩ = some (.string ⟨h.l.toArray⟩) := cell_of_block KB.out rfl
      have d2 : Y19.cell? ⟨tb, 2, none⟩ = some (.slice aa h.ats.length ca) := cell_of_block KB.out rfl
      have d3 : Y19.cell? ⟨tb, 3, none⟩ = some (.int .i64 h.n) := cell_of_block KB.out rfl
      have d4 : Y19.cell? ⟨tb, 4, none⟩ = some (.int .i64 h.d) := cell_of_block KB.out rfl
      have d5 : Y19.cell? ⟨tb, 5, none⟩ = some (.string ⟨h.x.toArray⟩) := cell_of_block KB.out rfl
      have d6 : Y19.cell? ⟨tb, 6, none⟩ = some (.slice ak ks.len ck) := cell_of_block KB.out rfl
      go_simp
      refine hK _ _ ?_
      clear hK K d0 d1 d2 d3 d4 d5 d6
      refine wpAny_ready (rs := [3]) (by decide +kernel) (by simp) ?_
      refine AllReady.cons rfl (fun K hK => ?_) AllReady.nil
      go_simp
      refine hK _ _ ?_
      clear hK K
      have kk := World.alloc_heap_new Y19 (.cells #[.int .i64 h.k, .string ⟨h.l.toArray⟩, .slice aa h.ats.length ca, .int .i64 h.n, .int .i64 h.d, .string ⟨h.x.toArray⟩, .slice ak ks.len ck] 43)
      have hb : Below Y19.heap.size Y19 (Y19.alloc (.cells #[.int .i64 h.k, .string ⟨h.l.toArray⟩, .slice aa h.ats.length ca, .int .i64 h.n, .int .i64 h.d, .string ⟨h.x.toArray⟩, .slice ak ks.len ck] 43)) := (Below.refl _ _).alloc (Nat.le_refl _) _
      have hsz : (Y19.alloc (.cells #[.int .i64 h.k, .string ⟨h.l.toArray⟩, .slice aa h.ats.length ca, .int .i64 h.n, .int .i64 h.d, .string ⟨h.x.toArray⟩, .slice ak ks.len ck] 43)).heap.size = Y19.heap.size + 1 := by simp
      generalize Y19.alloc (.cells #[.int .i64 h.k, .string ⟨h.l.toArray⟩, .slice aa h.ats.length ca, .int .i64 h.n, .int .i64 h.d, .string ⟨h.x.toArray⟩, .slice ak ks.len ck] 43) = Y20 at *
      have BY20 : Below w.heap.size w Y20 := BY19.trans (hb.mono BY19.size)
      have KB := Lib.hid ((hb.block _ zb).trans KB.out)
      have zb := Nat.lt_of_lt_of_le zb hb.size
      have LT := Lib.hid (lies_one kk (HA.out Y20 BY20) (HK.out Y20 BY20))
      clear kk hb hsz
      refine wpAny_ready (rs := [4]) (by decide +kernel) (by simp) ?_
      refine AllReady.cons rfl (fun K hK => ?_) AllReady.nil
      go_simp
      go_wp2_with (go_at_call 19; refine (CT.out Y20 _ LT.out).mono ?_; rintro e Y21 ⟨rfl, hb⟩)
      have BY21 : Below w.heap.size w Y21 := BY20.trans (hb.mono BY20.size)
      have KB := Lib.hid ((hb.block _ zb).trans KB.out)
      have zb := Nat.lt_of_lt_of_le zb hb.size
      have LT := Lib.hid (lies_below LT.out hb)
      clear hb
      refine wpAny_ready (rs := [5]) (by decide +kernel) (by simp) ?_
      refine AllReady.cons rfl (fun K hK => ?_) AllReady.nil
      go_simp
      refine hK _ _ ?_
      clear hK K
      have kk := World.alloc_heap_new Y21 (.cells #[.int .i64 e1, .int .i64 e2] 32)
      have hb : Below Y21.heap.size Y21 (Y21.alloc (.cells #[.int .i64 e1, .int .i64 e2] 32)) := (Below.refl _ _).alloc (Nat.le_refl _) _
      have hsz : (Y21.alloc (.cells #[.int .i64 e1, .int .i64 e2] 32)).heap.size = Y21.heap.size + 1 := by simp
      generalize Y21.alloc (.cells #[.int .i64 e1, .int .i64 e2] 32) = Y22 at *
      have BY22 : Below w.heap.size w Y22 := BY21.trans (hb.mono BY21.size)
      have KB := Lib.hid ((hb.block _ zb).trans KB.out)
      have zb := Nat.lt_of_lt_of_le zb hb.size
      have LT := Lib.hid (lies_below LT.out hb)
      have HI := Lib.hid (ints_pair kk (by rw [hsz]; omega))
      clear kk hb hsz
      refine wpAny_ready (rs := [6]) (by decide +kernel) (by simp) ?_
      refine AllReady.cons rfl (fun K hK => ?_) AllReady.nil
      go_simp
      go_wp2_with (go_at_call 85; refine (TE.out _ [e1, e2] Y22 HI.out (by simp)).mono ?_; rintro e Y23 ⟨rfl, hb⟩)
      have BY23 : Below w.heap.size w Y23 := BY22.trans (hb.mono BY22.size)
      have KB := Lib.hid ((hb.block _ zb).trans KB.out)
      have zb := Nat.lt_of_lt_of_le zb hb.size
      have LT := Lib.hid (lies_below LT.out hb)
      clear hb
      refine wpAny_ready (rs := [7]) (by decide +kernel) (by simp) ?_
      refine AllReady.cons rfl (fun K hK => ?_) AllReady.nil
      go_simp
      refine hK _ _ ?_
      clear hK K
      refine wpAny_done (by decide +kernel) ?_ _
      go_wp2_with fail
      go_meet
      case rel => exact ⟨rfl, BY23, zb, KB.out⟩
    · have d0 : X.cell? ⟨tb, 0, none⟩ = some (.int .i64 h.k) := cell_of_block KB.out rfl
      have d1 : X.cell? ⟨tb, 1, none⟩ = some (.string ⟨h.l.toArray⟩) := cell_of_block KB.out rfl
      have d2 : X.cell? ⟨tb, 2, none⟩ = some (.slice aa h.ats.length ca) := cell_of_block KB.out rfl
      have d3 : X.cell? ⟨tb, 3, none⟩ = some (.int .i64 h.n) := cell_of_block KB.out rfl
      have d4 : X.cell? ⟨tb, 4, none⟩ = some (.int .i64 h.d) := cell_of_block KB.out rfl
      have d5 : X.cell? ⟨tb, 5, none⟩ = some (.string ⟨h.x.toArray⟩) := cell_of_block KB.out rfl
      have d6 : X.cell? ⟨tb, 6, none⟩ = some (.slice ak ks.len ck) := cell_of_block KB.out rfl
      go_simp
      refine hK _ _ ?_
      clear hK K d0 d1 d2 d3 d4 d5 d6
      refine wpAny_ready (rs := [1, 3]) (by decide +kernel) (by simp) ?_
      refine AllReady.cons rfl (fun K hK => ?_) (AllReady.cons rfl (fun K hK => ?_) AllReady.nil)
      · go_simp
        go_wp2_with (go_at_call 19; refine (CF.out X BX).mono ?_; rintro e Y24 ⟨rfl, hb⟩)
        have BY24 : Below w.heap.size w Y24 := BX.trans (hb.mono BX.size)
        have KB := Lib.hid ((hb.block _ zb).trans KB.out)
        have zb := Nat.lt_of_lt_of_le zb hb.size
        clear hb
        refine wpAny_ready (rs := [3]) (by decide +kernel) (by simp) ?_
        refine AllReady.cons rfl (fun K hK => ?_) AllReady.nil
        go_simp
        refine hK _ _ ?_
        clear hK K
        have kk := World.alloc_heap_new Y24 (.cells #[.int .i64 h.k, .string ⟨h.l.toArray⟩, .slice aa h.ats.length ca, .int .i64 h.n, .int .i64 h.d, .string ⟨h.x.toArray⟩, .slice ak ks.len ck] 43)
        have hb : Below Y24.heap.size Y24 (Y24.alloc (.cells #[.int .i64 h.k, .string ⟨h.l.toArray⟩, .slice aa h.ats.length ca, .int .i64 h.n, .int .i64 h.d, .string ⟨h.x.toArray⟩, .slice ak ks.len ck] 43)) := (Below.refl _ _).alloc (Nat.le_refl _) _
        have hsz : (Y24.alloc (.cells #[.int .i64 h.k, .string ⟨h.l.toArray⟩, .slice aa h.ats.length ca, .int .i64 h.n, .int .i64 h.d, .string ⟨h.x.toArray⟩, .slice ak ks.len ck] 43)).heap.size = Y24.heap.size + 1 := by simp
        generalize Y24.alloc (.cells #[.int .i64 h.k, .string ⟨h.l.toArray⟩, .slice aa h.ats.length ca, .int .i64 h.n, .int .i64 h.d, .string ⟨h.x.toArray⟩, .slice ak ks.len ck] 43) = Y25 at *
        have BY25 : Below w.heap.size w Y25 := BY24.trans (hb.mono BY24.size)
        have KB := Lib.hid ((hb.block _ zb).trans KB.out)
        have zb := Nat.lt_of_lt_of_le zb hb.size
        have LT := Lib.hid (lies_one kk (HA.out Y25 BY25) (HK.out Y25 BY25))
        clear kk hb hsz
        refine wpAny_ready (rs := [4]) (by decide +kernel) (by simp) ?_
        refine AllReady.cons rfl (fun K hK => ?_) AllReady.nil
        go_simp
        go_wp2_with (go_at_call 19; refine (CT.out Y25 _ LT.out).mono ?_; rintro e Y26 ⟨rfl, hb⟩)
        have BY26 : Below w.heap.size w Y26 := BY25.trans (hb.mono BY25.size)
        have KB := Lib.hid ((hb.block _ zb).trans KB.out)
        have zb := Nat.lt_of_lt_of_le zb hb.size
        have LT := Lib.hid (lies_below LT.out hb)
        clear hb
        refine wpAny_ready (rs := [5]) (by decide +kernel) (by simp) ?_
        refine AllReady.cons rfl (fun K hK => ?_) AllReady.nil
        go_simp
        refine hK _ _ ?_
        clear hK K
        have kk := World.alloc_heap_new Y26 (.cells #[.int .i64 e1, .int .i64 e2] 32)
        have hb : Below Y26.heap.size Y26 (Y26.alloc (.cells #[.int .i64 e1, .int .i64 e2] 32)) := (Below.refl _ _).alloc (Nat.le_refl _) _
        have hsz : (Y26.alloc (.cells #[.int .i64 e1, .int .i64 e2] 32)).heap.size = Y26.heap.size + 1 := by simp
        generalize Y26.alloc (.cells #[.int .i64 e1, .int .i64 e2] 32) = Y27 at *
        have BY27 : Below w.heap.size w Y27 := BY26.trans (hb.mono BY26.size)
        have KB := Lib.hid ((hb.block _ zb).trans KB.out)
        have zb := Nat.lt_of_lt_of_le zb hb.size
        have LT := Lib.hid (lies_below LT.out hb)
        have HI := Lib.hid (ints_pair kk (by rw [hsz]; omega))
        clear kk hb hsz
        refine wpAny_ready (rs := [6]) (by decide +kernel) (by simp) ?_
        refine AllReady.cons rfl (fun K hK => ?_) AllReady.nil
        go_simp
        go_wp2_with (go_at_call 85; refine (TE.out _ [e1, e2] Y27 HI.out (by simp)).mono ?_; rintro e Y28 ⟨rfl, hb⟩)
        have BY28 : Below w.heap.size w Y28 := BY27.trans (hb.mono BY27.size)
        have KB := Lib.hid ((hb.block _ zb).trans KB.out)
        have zb := Nat.lt_of_lt_of_le zb hb.size
        have LT := Lib.hid (lies_below LT.out hb)
        clear hb
        refine wpAny_ready (rs := [7]) (by decide +kernel) (by simp) ?_
        refine AllReady.cons rfl (fun K hK => ?_) AllReady.nil
        go_simp
        refine hK _ _ ?_
        clear hK K
        refine wpAny_done (by decide +kernel) ?_ _
        go_wp2_with fail
        go_meet
        case rel => exact ⟨rfl, BY28, zb, KB.out⟩
      · go_simp
        refine hK _ _ ?_
        clear hK K
        have kk := World.alloc_heap_new X (.cells #[.int .i64 h.k, .string ⟨h.l.toArray⟩, .slice aa h.ats.length ca, .int .i64 h.n, .int .i64 h.d, .string ⟨h.x.toArray⟩, .slice ak ks.len ck] 43)
        have hb : Below X.heap.size X (X.alloc (.cells #[.int .i64 h.k, .string ⟨h.l.toArray⟩, .slice aa h.ats.length ca, .int .i64 h.n, .int .i64 h.d, .string ⟨h.x.toArray⟩, .slice ak ks.len ck] 43)) := (Below.refl _ _).alloc (Nat.le_refl _) _
        have hsz : (X.alloc (.cells #[.int .i64 h.k, .string ⟨h.l.toArray⟩, .slice aa h.ats.length ca, .int .i64 h.n, .int .i64 h.d, .string ⟨h.x.toArray⟩, .slice ak ks.len ck] 43)).heap.size = X.heap.size + 1 := by simp
        generalize X.alloc (.cells #[.int .i64 h.k, .string ⟨h.l.toArray⟩, .slice aa h.ats.length ca, .int .i64 h.n, .int .i64 h.d, .string ⟨h.x.toArray⟩, .slice ak ks.len ck] 43) = Y29 at *
        have BY29 : Below w.heap.size w Y29 := BX.trans (hb.mono BX.size)
        have KB := Lib.hid ((hb.block _ zb).trans KB.out)
        have zb := Nat.lt_of_lt_of_le zb hb.size
        have LT := Lib.hid (lies_one kk (HA.out Y29 BY29) (HK.out Y29 BY29))
        clear kk hb hsz
        refine wpAny_ready (rs := [1]) (by decide +kernel) (by simp) ?_
        refine AllReady.cons rfl (fun K hK => ?_) AllReady.nil
        go_simp
        go_wp2_with (go_at_call 19; refine (CF.out Y29 BY29).mono ?_; rintro e Y30 ⟨rfl, hb⟩)
        have BY30 : Below w.heap.size w Y30 := BY29.trans (hb.mono BY29.size)
        have KB := Lib.hid ((hb.block _ zb).trans KB.out)
        have zb := Nat.lt_of_lt_of_le zb hb.size
        have LT := Lib.hid (lies_below LT.out hb)
        clear hb
        refine wpAny_ready (rs := [4]) (by decide +kernel) (by simp) ?_
        refine AllReady.cons rfl (fun K hK => ?_) AllReady.nil
        go_simp
        go_wp2_with (go_at_call 19; refine (CT.out Y30 _ LT.out).mono ?_; rintro e Y31 ⟨rfl, hb⟩)
        have BY31 : Below w.heap.size w Y31 := BY30.trans (hb.mono BY30.size)
        have KB := Lib.hid ((hb.block _ zb).trans KB.out)
        have zb := Nat.lt_of_lt_of_le zb hb.size
        have LT := Lib.hid (lies_below LT.out hb)
        clear hb
        refine wpAny_ready (rs := [5]) (by decide +kernel) (by simp) ?_
        refine AllReady.cons rfl (fun K hK => ?_) AllReady.nil
        go_simp
        refine hK _ _ ?_
        clear hK K
        have kk := World.alloc_heap_new Y31 (.cells #[.int .i64 e1, .int .i64 e2] 32)
        have hb : Below Y31.heap.size Y31 (Y31.alloc (.cells #[.int .i64 e1, .int .i64 e2] 32)) := (Below.refl _ _).alloc (Nat.le_refl _) _
        have hsz : (Y31.alloc (.cells #[.int .i64 e1, .int .i64 e2] 32)).heap.size = Y31.heap.size + 1 := by simp
        generalize Y31.alloc (.cells #[.int .i64 e1, .int .i64 e2] 32) = Y32 at *
        have BY32 : Below w.heap.size w Y32 := BY31.trans (hb.mono BY31.size)
        have KB := Lib.hid ((hb.block _ zb).trans KB.out)
        have zb := Nat.lt_of_lt_of_le zb hb.size
        have LT := Lib.hid (lies_below LT.out hb)
        have HI := Lib.hid (ints_pair kk (by rw [hsz]; omega))
        clear kk hb hsz
        refine wpAny_ready (rs := [6]) (by decide +kernel) (by simp) ?_
        refine AllReady.cons rfl (fun K hK => ?_) AllReady.nil
        go_simp
        go_wp2_with (go_at_call 85; refine (TE.out _ [e1, e2] Y32 HI.out (by simp)).mono ?_; rintro e Y33 ⟨rfl, hb⟩)
        have BY33 : Below w.heap.size w Y33 := BY32.trans (hb.mono BY32.size)
        have KB := Lib.hid ((hb.block _ zb).trans KB.out)
        have zb := Nat.lt_of_lt_of_le zb hb.size
        have LT := Lib.hid (lies_below LT.out hb)
        clear hb
        refine wpAny_ready (rs := [7]) (by decide +kernel) (by simp) ?_
        refine AllReady.cons rfl (fun K hK => ?_) AllReady.nil
        go_simp
        refine hK _ _ ?_
        clear hK K
        refine wpAny_done (by decide +kernel) ?_ _
        go_wp2_with fail
        go_meet
        case rel => exact ⟨rfl, BY33, zb, KB.out⟩

  case rest =>
    obtain ⟨rfl, BW2, zb, hkb⟩ := hcut
    have KB := Lib.hid hkb
    have FZ := Lib.hid (first_zero (l := [e1, e2]))
    clear hkb
    generalize firstNZ [e1, e2] = ee at *
    by_cases h0 : ee = 0
    rotate_left
    · have HX := HR.out.trans (if_neg h0)
      have b0 : (ee != 0) = true := by simpa using h0
      clear h0
      go_wp2_with fail
      go_ret2
      rw [HX]
      exact foE_none BW2
    · have HX0 := Lib.hid (HR.out.trans (if_pos h0))
      have b0 : (ee != 0) = false := by simpa using h0
      clear h0
      go_wp2_with fail
      go_ret2
      rw [HX0.out]
      exact foE_none BW2
end Go.Proofs.YtcgedpfolloinaaGreat

namespace Go.Proofs.YtcgedpfolloinaaGreat
open Go.RowKit

theorem insV_snoc (f : Fo) (q : List Int) (x : Int) (t : Fo) : insV f (q ++ [x]) t = if firstNZ [foErr f, foErr t] = 0 then insU f q x t else (.nil, firstNZ [foErr f, foErr t]) := by
  unfold insV
  rw [show (if q ++ [x] = [] then ((.nil, 10) : Fo × Int) else insU f (q ++ [x]).dropLast ((q ++ [x]).getLastD 0) t) = insU f q x t by rw [if_neg (by simp), List.dropLast_concat]; simp]


set_option maxRecDepth 100000 in
set_option maxHeartbeats 8000000 in
theorem tinsert_snoc (f : Fo) (q : List Int) (x : Int) (h : Hd) (ks : Fo) (v pv : Value) (aa : Option Addr) (ca : Nat) (ak : Option Addr) (ck : Nat) (w : World) (hl : Lies w v f) (hp : IntsLie w pv (q ++ [x])) (hpl : q.length ≤ 999999) (ha : AttrsLie w (.slice aa h.ats.length ca) h.ats) (hk : Lies w (.slice ak ks.len ck) ks) (hs : Small f) (hs1 : Small (.cons h ks .nil)) :
    Calls Tryz.prog 46 #[v, pv, aggOf h aa ca ak ks.len ck] w (FoE w (insV f (q ++ [x]) (.cons h ks .nil))) := by
  have CF := Lib.hid (fun W (hW : Below w.heap.size w W) => tcheck_any f v W (lies_below hl hW) hs)
  have TE := Lib.hid (fun x l W (h : IntsLie W x l) (hl : l.length ≤ 1000000) => (terr_any x l W h hl).mono (fun e w' (H : e = .returned (.int .i64 (firstNZ l)) ∧ W = w') => (⟨H.1, H.2 ▸ Below.refl _ _⟩ : e = .returned (.int .i64 (firstNZ l)) ∧ Below W.heap.size W w')))
  have CT := Lib.hid (fun W x (hx : Lies W x (.cons h ks .nil)) => tcheck_any (.cons h ks .nil) x W hx hs1)
  have HQ := ints_init hp
  have FA := Lib.hid (fun W (hW : Below w.heap.size w W) b0 o0 c0 (h : IntsLie w (.slice (some ⟨b0, o0, none⟩) q.length c0) q) => forestAt_any f q v _ W (lies_below hl hW) (ints_below h hW) (by omega))
  have SP := Lib.hid (fun g (hg : forestV f q = (g, 0)) (hx : ¬ (x < 0 ∨ (g.len : Int) < x)) W (hW : Below w.heap.size w W) y (hy : Lies W y (.cons h ks .nil)) => show Calls Tryz.prog 105 #[v, pv, .int .i64 (0 : Nat), y] W (FoE W (insU f q x (.cons h ks .nil))) by
    obtain ⟨e1, e2, e3, e4⟩ := insU_there (t := .cons h ks .nil) hg hx
    rw [e1, ← changeF_at _ f x.toNat 0 _ e3]
    exact splice_path f (q ++ [x]) _ x.toNat 0 g _ v pv y W (lies_below hl hW) (ints_below hp hW) (by rw [List.length_append]; simp; omega) hy e2 e3 e4 hs.size hs1.size)
  obtain ⟨R, hR⟩ : ∃ R, insV f (q ++ [x]) (.cons h ks .nil) = R := ⟨_, rfl⟩
  rw [hR]
  have HR := Lib.hid (hR.symm.trans (insV_snoc f q x _))
  have HA := Lib.hid (fun W (hW : Below w.heap.size w W) => attrs_below ha hW)
  have HK := Lib.hid (fun W (hW : Below w.heap.size w W) => lies_below hk hW)
  have HU := Lib.hid (show insU f q x (.cons h ks .nil) = if (forestV f q).2 ≠ 0 then (.nil, (forestV f q).2) else if x < 0 ∨ ((forestV f q).1.len : Int) < x then (.nil, 6) else insU f q x (.cons h ks .nil) by
    unfold insU
    by_cases h1 : (forestV f q).2 ≠ 0
    · rw [if_pos h1, if_pos h1]
    · rw [if_neg h1, if_neg h1]
      by_cases h2 : x < 0 ∨ ((forestV f q).1.len : Int) < x
      · rw [if_pos h2, if_pos h2]
      · rw [if_neg h2, if_neg h2])
  obtain ⟨av, cv, rfl⟩ := lies_form hl
  obtain ⟨pb0, po0, pcap, rfl, hcp, hpb, hpc, hq⟩ := HQ
  have HQ := Lib.hid hq
  simp only [List.length_append, List.length_cons, List.length_nil, Nat.zero_add] at hcp SP ⊢
  clear hl hp ha hk hs hs1 hR hq
  generalize insU f q x (.cons h ks .nil) = RU at *
  generalize forestV f q = fv at *
  obtain ⟨g, ge⟩ := fv
  simp only at HU
  generalize foErr f = e1 at *
  generalize foErr (.cons h ks .nil) = e2 at *
  unfold aggOf
  obtain ⟨L1, hL1⟩ : ∃ n, q.length + 1 = n := ⟨_, rfl⟩
  rw [hL1] at SP ⊢
  have eL : ((L1 : Int) - 1) = (q.length : Int) := by omega
  have eZ : ((L1 : Int) == 0) = false := by simp; omega
  have dq : decide (q.length < L1) = true := by simp; omega
  have dL : decide (q.length ≤ L1) = true := by simp; omega
  have hLc : L1 ≤ pcap := by omega
  have HL1 := Lib.hid hL1
  have HCP := Lib.hid hcp
  clear hL1 hcp
  go_enter Tryz.func46, Tryz.ntmps46
  go_upto_region 1 with fail
  have kk := World.alloc_heap_new w (.cells #[.int .i64 h.k, .string ⟨h.l.toArray⟩, .slice aa h.ats.length ca, .int .i64 h.n, .int .i64 h.d, .string ⟨h.x.toArray⟩, .slice ak ks.len ck] 43)
  have B0 : Below w.heap.size w (w.alloc (.cells #[.int .i64 h.k, .string ⟨h.l.toArray⟩, .slice aa h.ats.length ca, .int .i64 h.n, .int .i64 h.d, .string ⟨h.x.toArray⟩, .slice ak ks.len ck] 43)) := by ((repeat' (first | exact Below.refl _ _ | assumption | refine Below.setCell ?_ ?_ _ | refine bdrewN ?_ _ | refine Below.drew ?_ | refine Below.alloc ?_ ?_ _ | refine bbehind ?_ (by assumption) ?_)); all_goals first | (simp; done) | (simp; omega) | omega)
  have zb : w.heap.size < (w.alloc (.cells #[.int .i64 h.k, .string ⟨h.l.toArray⟩, .slice aa h.ats.length ca, .int .i64 h.n, .int .i64 h.d, .string ⟨h.x.toArray⟩, .slice ak ks.len ck] 43)).heap.size := by simp
  obtain ⟨tb, htb⟩ : ∃ t, t = w.heap.size := ⟨_, rfl⟩
  have htb' := Lib.hid htb
  have KB := Lib.hid kk
  rw [← htb] at KB
  have zb2 : tb < (w.alloc (.cells #[.int .i64 h.k, .string ⟨h.l.toArray⟩, .slice aa h.ats.length ca, .int .i64 h.n, .int .i64 h.d, .string ⟨h.x.toArray⟩, .slice ak ks.len ck] 43)).heap.size := by omega
  generalize w.alloc (.cells #[.int .i64 h.k, .string ⟨h.l.toArray⟩, .slice aa h.ats.length ca, .int .i64 h.n, .int .i64 h.d, .string ⟨h.x.toArray⟩, .slice ak ks.len ck] 43) = W at *
  clear kk zb
  have zb := zb2
  clear zb2
  have hbox : (Value.pointer (some ⟨w.heap.size, 0, none⟩)) = .pointer (some ⟨tb, 0, none⟩) := by rw [htb]
  rw [hbox]
  clear hbox htb
  go_cut [8] (fun s wx => s = .int .i64 (firstNZ [e1, e2]) ∧ Below w.heap.size w wx ∧ tb < wx.heap.size ∧ wx.heap[tb]? = some (.cells #[.int .i64 h.k, .string ⟨h.l.toArray⟩, .slice aa h.ats.length ca, .int .i64 h.n, .int .i64 h.d, .string ⟨h.x.toArray⟩, .slice ak ks.len ck] 43))
  case first =>
    refine wp_region_any (by kernel_rfl) ?_
    change wpAny _ _ _ _ _ _ _ (World.drew _)
    have BX : Below w.heap.size w W.drew := B0.drew
    have KB0 := Lib.hid (show W.drew.heap[tb]? = _ from KB.out)
    have zb0 : tb < W.drew.heap.size := zb
    clear KB zb
    generalize W.drew = X at *
    have KB := Lib.hid KB0.out
    have zb := zb0
    clear KB0 zb0
    refine wpAny_take (i := 0) (v := .slice av f.len cv) rfl (by decide +kernel) (by decide +kernel) (by decide +kernel) (fun _ _ _ h => h) (Or.inl ⟨by kernel_rfl, by intro w; go_simp <;> with_reducible rfl⟩) ?_
    simp only [Act.put, List.setIfInBounds_toArray]
    refine wpAny_ready (rs := [1, 2]) (by decide +kernel) (by simp) ?_
    refine AllReady.cons rfl (fun K hK => ?_) (AllReady.cons rfl (fun K hK => ?_) AllReady.nil)
    · go_simp
      go_wp2_with (go_at_call 19; refine (CF.out X BX).mono ?_; rintro e Y19 ⟨rfl, hb⟩)
      have BY19 : Below w.heap.size w Y19 := BX.trans (hb.mono BX.size)
      have KB := Lib.hid ((hb.block _ zb).trans KB.out)
      have zb := Nat.lt_of_lt_of_le zb hb.size
      clear hb
      refine wpAny_ready (rs := [2]) (by decide +kernel) (by simp) ?_
      refine AllReady.cons rfl (fun K hK => ?_) AllReady.nil
      have d0 : Y19.cell? ⟨tb, 0, none⟩ = some (.int .i64 h.k) := cell_of_block KB.out rfl
      have d1 : Y19.cell? ⟨tb, 1, none⟩ = some (.string ⟨h.l.toArray⟩) := cell_of_block KB.out rfl
      have d2 : Y19.cell? ⟨tb, 2, none⟩ = some (.slice aa h.ats.length ca) := cell_of_block KB.out rfl
      have d3 : Y19.cell? ⟨tb, 3, none⟩ = some (.int .i64 h.n) := cell_of_block KB.out rfl
      have d4 : Y19.cell? ⟨tb, 4, none⟩ = some (.int .i64 h.d) := cell_of_block KB.out rfl
      have d5 : Y19.cell? ⟨tb, 5, none⟩ = some (.string ⟨h.x.toArray⟩) := cell_of_block KB.out rfl
      have d6 : Y19.cell? ⟨tb, 6, none⟩ = some (.slice ak ks.len ck) := cell_of_block KB.out rfl
      go_simp
      refine hK _ _ ?_
      clear hK K d0 d1 d2 d3 d4 d5 d6
      refine wpAny_ready (rs := [3]) (by decide +kernel) (by simp) ?_
      refine AllReady.cons rfl (fun K hK => ?_) AllReady.nil
      go_simp
      refine hK _ _ ?_
      clear hK K
      have kk := World.alloc_heap_new Y19 (.cells #[.int .i64 h.k, .string ⟨h.l.toArray⟩, .slice aa h.ats.length ca, .int .i64 h.n, .int .i64 h.d, .string ⟨h.x.toArray⟩, .slice ak ks.len ck] 43)
      have hb : Below Y19.heap.size Y19 (Y19.alloc (.cells #[.int .i64 h.k, .string ⟨h.l.toArray⟩, .slice aa h.ats.length ca, .int .i64 h.n, .int .i64 h.d, .string ⟨h.x.toArray⟩, .slice ak ks.len ck] 43)) := (Below.refl _ _).alloc (Nat.le_refl _) _
      have hsz : (Y19.alloc (.cells #[.int .i64 h.k, .string ⟨h.l.toArray⟩, .slice aa h.ats.length ca, .int .i64 h.n, .int .i64 h.d, .string ⟨h.x.toArray⟩, .slice ak ks.len ck] 43)).heap.size = Y19.heap.size + 1 := by simp
      generalize Y19.alloc (.cells #[.int .i64 h.k, .string ⟨h.l.toArray⟩, .slice aa h.ats.length ca, .int .i64 h.n, .int .i64 h.d, .string ⟨h.x.toArray⟩, .slice ak ks.len ck] 43) = Y20 at *
      have BY20 : Below w.heap.size w Y20 := BY19.trans (hb.mono BY19.size)
      have KB := Lib.hid ((hb.block _ zb).trans KB.out)
      have zb := Nat.lt_of_lt_of_le zb hb.size
      have LT := Lib.hid (lies_one kk (HA.out Y20 BY20) (HK.out Y20 BY20))
      clear kk hb hsz
      refine wpAny_ready (rs := [4]) (by decide +kernel) (by simp) ?_
      refine AllReady.cons rfl (fun K hK => ?_) AllReady.nil
      go_simp
      go_wp2_with (go_at_call 19; refine (CT.out Y20 _ LT.out).mono ?_; rintro e Y21 ⟨rfl, hb⟩)
      have BY21 : Below w.heap.size w Y21 := BY20.trans (hb.mono BY20.size)
      have KB := Lib.hid ((hb.block _ zb).trans KB.out)
      have zb := Nat.lt_of_lt_of_le zb hb.size
      have LT := Lib.hid (lies_below LT.out hb)
      clear hb
      refine wpAny_ready (rs := [5]) (by decide +kernel) (by simp) ?_
      refine AllReady.cons rfl (fun K hK => ?_) AllReady.nil
      go_simp
      refine hK _ _ ?_
      clear hK K
      have kk := World.alloc_heap_new Y21 (.cells #[.int .i64 e1, .int .i64 e2] 32)
      have hb : Below Y21.heap.size Y21 (Y21.alloc (.cells #[.int .i64 e1, .int .i64 e2] 32)) := (Below.refl _ _).alloc (Nat.le_refl _) _
      have hsz : (Y21.alloc (.cells #[.int .i64 e1, .int .i64 e2] 32)).heap.size = Y21.heap.size + 1 := by simp
      generalize Y21.alloc (.cells #[.int .i64 e1, .int .i64 e2] 32) = Y22 at *
      have BY22 : Below w.heap.size w Y22 := BY21.trans (hb.mono BY21.size)
      have KB := Lib.hid ((hb.block _ zb).trans KB.out)
      have zb := Nat.lt_of_lt_of_le zb hb.size
      have LT := Lib.hid (lies_below LT.out hb)
      have HI := Lib.hid (ints_pair kk (by rw [hsz]; omega))
      clear kk hb hsz
      refine wpAny_ready (rs := [6]) (by decide +kernel) (by simp) ?_
      refine AllReady.cons rfl (fun K hK => ?_) AllReady.nil
      go_simp
      go_wp2_with (go_at_call 85; refine (TE.out _ [e1, e2] Y22 HI.out (by simp)).mono ?_; rintro e Y23 ⟨rfl, hb⟩)
      have BY23 : Below w.heap.size w Y23 := BY22.trans (hb.mono BY22.size)
      have KB := Lib.hid ((hb.block _ zb).trans KB.out)
      have zb := Nat.lt_of_lt_of_le zb hb.size
      have LT := Lib.hid (lies_below LT.out hb)
      clear hb
      refine wpAny_ready (rs := [7]) (by decide +kernel) (by simp) ?_
      refine AllReady.cons rfl (fun K hK => ?_) AllReady.nil
      go_simp
      refine hK _ _ ?_
      clear hK K
      refine wpAny_done (by decide +kernel) ?_ _
      go_wp2_with fail
      go_meet
      case rel => exact ⟨rfl, BY23, zb, KB.out⟩
    · have d0 : X.cell? ⟨tb, 0, none⟩ = some (.int .i64 h.k) := cell_of_block KB.out rfl
      have d1 : X.cell? ⟨tb, 1, none⟩ = some (.string ⟨h.l.toArray⟩) := cell_of_block KB.out rfl
      have d2 : X.cell? ⟨tb, 2, none⟩ = some (.slice aa h.ats.length ca) := cell_of_block KB.out rfl
      have d3 : X.cell? ⟨tb, 3, none⟩ = some (.int .i64 h.n) := cell_of_block KB.out rfl
      have d4 : X.cell? ⟨tb, 4, none⟩ = some (.int .i64 h.d) := cell_of_block KB.out rfl
      have d5 : X.cell? ⟨tb, 5, none⟩ = some (.string ⟨h.x.toArray⟩) := cell_of_block KB.out rfl
      have d6 : X.cell? ⟨tb, 6, none⟩ = some (.slice ak ks.len ck) := cell_of_block KB.out rfl
      go_simp
      refine hK _ _ ?_
      clear hK K d0 d1 d2 d3 d4 d5 d6
      refine wpAny_ready (rs := [1, 3]) (by decide +kernel) (by simp) ?_
      refine AllReady.cons rfl (fun K hK => ?_) (AllReady.cons rfl (fun K hK => ?_) AllReady.nil)
      · go_simp
        go_wp2_with (go_at_call 19; refine (CF.out X BX).mono ?_; rintro e Y24 ⟨rfl, hb⟩)
        have BY24 : Below w.heap.size w Y24 := BX.trans (hb.mono BX.size)
        have KB := Lib.hid ((hb.block _ zb).trans KB.out)
        have zb := Nat.lt_of_lt_of_le zb hb.size
        clear hb
        refine wpAny_ready (rs := [3]) (by decide +kernel) (by simp) ?_
        refine AllReady.cons rfl (fun K hK => ?_) AllReady.nil
        go_simp
        refine hK _ _ ?_
        clear hK K
        have kk := World.alloc_heap_new Y24 (.cells #[.int .i64 h.k, .string ⟨h.l.toArray⟩, .slice aa h.ats.length ca, .int .i64 h.n, .int .i64 h.d, .string ⟨h.x.toArray⟩, .slice ak ks.len ck] 43)
        have hb : Below Y24.heap.size Y24 (Y24.alloc (.cells #[.int .i64 h.k, .string ⟨h.l.toArray⟩, .slice aa h.ats.length ca, .int .i64 h.n, .int .i64 h.d, .string ⟨h.x.toArray⟩, .slice ak ks.len ck] 43)) := (Below.refl _ _).alloc (Nat.le_refl _) _
        have hsz : (Y24.alloc (.cells #[.int .i64 h.k, .string ⟨h.l.toArray⟩, .slice aa h.ats.length ca, .int .i64 h.n, .int .i64 h.d, .string ⟨h.x.toArray⟩, .slice ak ks.len ck] 43)).heap.size = Y24.heap.size + 1 := by simp
        generalize Y24.alloc (.cells #[.int .i64 h.k, .string ⟨h.l.toArray⟩, .slice aa h.ats.length ca, .int .i64 h.n, .int .i64 h.d, .string ⟨h.x.toArray⟩, .slice ak ks.len ck] 43) = Y25 at *
        have BY25 : Below w.heap.size w Y25 := BY24.trans (hb.mono BY24.size)
        have KB := Lib.hid ((hb.block _ zb).trans KB.out)
        have zb := Nat.lt_of_lt_of_le zb hb.size
        have LT := Lib.hid (lies_one kk (HA.out Y25 BY25) (HK.out Y25 BY25))
        clear kk hb hsz
        refine wpAny_ready (rs := [4]) (by decide +kernel) (by simp) ?_
        refine AllReady.cons rfl (fun K hK => ?_) AllReady.nil
        go_simp
        go_wp2_with (go_at_call 19; refine (CT.out Y25 _ LT.out).mono ?_; rintro e Y26 ⟨rfl, hb⟩)
        have BY26 : Below w.heap.size w Y26 := BY25.trans (hb.mono BY25.size)
        have KB := Lib.hid ((hb.block _ zb).trans KB.out)
        have zb := Nat.lt_of_lt_of_le zb hb.size
        have LT := Lib.hid (lies_below LT.out hb)
        clear hb
        refine wpAny_ready (rs := [5]) (by decide +kernel) (by simp) ?_
        refine AllReady.cons rfl (fun K hK => ?_) AllReady.nil
        go_simp
        refine hK _ _ ?_
        clear hK K
        have kk := World.alloc_heap_new Y26 (.cells #[.int .i64 e1, .int .i64 e2] 32)
        have hb : Below Y26.heap.size Y26 (Y26.alloc (.cells #[.int .i64 e1, .int .i64 e2] 32)) := (Below.refl _ _).alloc (Nat.le_refl _) _
        have hsz : (Y26.alloc (.cells #[.int .i64 e1, .int .i64 e2] 32)).heap.size = Y26.heap.size + 1 := by simp
        generalize Y26.alloc (.cells #[.int .i64 e1, .int .i64 e2] 32) = Y27 at *
        have BY27 : Below w.heap.size w Y27 := BY26.trans (hb.mono BY26.size)
        have KB := Lib.hid ((hb.block _ zb).trans KB.out)
        have zb := Nat.lt_of_lt_of_le zb hb.size
        have LT := Lib.hid (lies_below LT.out hb)
        have HI := Lib.hid (ints_pair kk (by rw [hsz]; omega))
        clear kk hb hsz
        refine wpAny_ready (rs := [6]) (by decide +kernel) (by simp) ?_
        refine AllReady.cons rfl (fun K hK => ?_) AllReady.nil
        go_simp
        go_wp2_with (go_at_call 85; refine (TE.out _ [e1, e2] Y27 HI.out (by simp)).mono ?_; rintro e Y28 ⟨rfl, hb⟩)
        have BY28 : Below w.heap.size w Y28 := BY27.trans (hb.mono BY27.size)
        have KB := Lib.hid ((hb.block _ zb).trans KB.out)
        have zb := Nat.lt_of_lt_of_le zb hb.size
        have LT := Lib.hid (lies_below LT.out hb)
        clear hb
        refine wpAny_ready (rs := [7]) (by decide +kernel) (by simp) ?_
        refine AllReady.cons rfl (fun K hK => ?_) AllReady.nil
        go_simp
        refine hK _ _ ?_
        clear hK K
        refine wpAny_done (by decide +kernel) ?_ _
        go_wp2_with fail
        go_meet
        case rel => exact ⟨rfl, BY28, zb, KB.out⟩
      · go_simp
        refine hK _ _ ?_
        clear hK K
        have kk := World.alloc_heap_new X (.cells #[.int .i64 h.k, .string ⟨h.l.toArray⟩, .slice aa h.ats.length ca, .int .i64 h.n, .int .i64 h.d, .string ⟨h.x.toArray⟩, .slice ak ks.len ck] 43)
        have hb : Below X.heap.size X (X.alloc (.cells #[.int .i64 h.k, .string ⟨h.l.toArray⟩, .slice aa h.ats.length ca, .int .i64 h.n, .int .i64 h.d, .string ⟨h.x.toArray⟩, .slice ak ks.len ck] 43)) := (Below.refl _ _).alloc (Nat.le_refl _) _
        have hsz : (X.alloc (.cells #[.int .i64 h.k, .string ⟨h.l.toArray⟩, .slice aa h.ats.length ca, .int .i64 h.n, .int .i64 h.d, .string ⟨h.x.toArray⟩, .slice ak ks.len ck] 43)).heap.size = X.heap.size + 1 := by simp
        generalize X.alloc (.cells #[.int .i64 h.k, .string ⟨h.l.toArray⟩, .slice aa h.ats.length ca, .int .i64 h.n, .int .i64 h.d, .string ⟨h.x.toArray⟩, .slice ak ks.len ck] 43) = Y29 at *
        have BY29 : Below w.heap.size w Y29 := BX.trans (hb.mono BX.size)
        have KB := Lib.hid ((hb.block _ zb).trans KB.out)
        have zb := Nat.lt_of_lt_of_le zb hb.size
        have LT := Lib.hid (lies_one kk (HA.out Y29 BY29) (HK.out Y29 BY29))
        clear kk hb hsz
        refine wpAny_ready (rs := [1]) (by decide +kernel) (by simp) ?_
        refine AllReady.cons rfl (fun K hK => ?_) AllReady.nil
        go_simp
        go_wp2_with (go_at_call 19; refine (CF.out Y29 BY29).mono ?_; rintro e Y30 ⟨rfl, hb⟩)
        have BY30 : Below w.heap.size w Y30 := BY29.trans (hb.mono BY29.size)
        have KB := Lib.hid ((hb.block _ zb).trans KB.out)
        have zb := Nat.lt_of_lt_of_le zb hb.size
        have LT := Lib.hid (lies_below LT.out hb)
        clear hb
        refine wpAny_ready (rs := [4]) (by decide +kernel) (by simp) ?_
        refine AllReady.cons rfl (fun K hK => ?_) AllReady.nil
        go_simp
        go_wp2_with (go_at_call 19; refine (CT.out Y30 _ LT.out).mono ?_; rintro e Y31 ⟨rfl, hb⟩)
        have BY31 : Below w.heap.size w Y31 := BY30.trans (hb.mono BY30.size)
        have KB := Lib.hid ((hb.block _ zb).trans KB.out)
        have zb := Nat.lt_of_lt_of_le zb hb.size
        have LT := Lib.hid (lies_below LT.out hb)
        clear hb
        refine wpAny_ready (rs := [5]) (by decide +kernel) (by simp) ?_
        refine AllReady.cons rfl (fun K hK => ?_) AllReady.nil
        go_simp
        refine hK _ _ ?_
        clear hK K
        have kk := World.alloc_heap_new Y31 (.cells #[.int .i64 e1, .int .i64 e2] 32)
        have hb : Below Y31.heap.size Y31 (Y31.alloc (.cells #[.int .i64 e1, .int .i64 e2] 32)) := (Below.refl _ _).alloc (Nat.le_refl _) _
        have hsz : (Y31.alloc (.cells #[.int .i64 e1, .int .i64 e2] 32)).heap.size = Y31.heap.size + 1 := by simp
        generalize Y31.alloc (.cells #[.int .i64 e1, .int .i64 e2] 32) = Y32 at *
        have BY32 : Below w.heap.size w Y32 := BY31.trans (hb.mono BY31.size)
        have KB := Lib.hid ((hb.block _ zb).trans KB.out)
        have zb := Nat.lt_of_lt_of_le zb hb.size
        have LT := Lib.hid (lies_below LT.out hb)
        have HI := Lib.hid (ints_pair kk (by rw [hsz]; omega))
        clear kk hb hsz
        refine wpAny_ready (rs := [6]) (by decide +kernel) (by simp) ?_
        refine AllReady.cons rfl (fun K hK => ?_) AllReady.nil
        go_simp
        go_wp2_with (go_at_call 85; refine (TE.out _ [e1, e2] Y32 HI.out (by simp)).mono ?_; rintro e Y33 ⟨rfl, hb⟩)
        have BY33 : Below w.heap.size w Y33 := BY32.trans (hb.mono BY32.size)
        have KB := Lib.hid ((hb.block _ zb).trans KB.out)
        have zb := Nat.lt_of_lt_of_le zb hb.size
        have LT := Lib.hid (lies_below LT.out hb)
        clear hb
        refine wpAny_ready (rs := [7]) (by decide +kernel) (by simp) ?_
        refine AllReady.cons rfl (fun K hK => ?_) AllReady.nil
        go_simp
        refine hK _ _ ?_
        clear hK K
        refine wpAny_done (by decide +kernel) ?_ _
        go_wp2_with fail
        go_meet
        case rel => exact ⟨rfl, BY33, zb, KB.out⟩

  case rest =>
    obtain ⟨rfl, BW2, zb, hkb⟩ := hcut
    have KB := Lib.hid hkb
    have FZ := Lib.hid (first_zero (l := [e1, e2]))
    clear hkb
    generalize firstNZ [e1, e2] = ee at *
    by_cases h0 : ee = 0
    rotate_left
    · have HX := HR.out.trans (if_neg h0)
      have b0 : (ee != 0) = true := by simpa using h0
      clear h0
      go_wp2_with fail
      go_ret2
      rw [HX]
      exact foE_none BW2
    · have HX0 := Lib.hid (HR.out.trans (if_pos h0))
      have b0 : (ee != 0) = false := by simpa using h0
      clear h0
      have d0 := (BW2.cell (p := ⟨pb0, po0 + q.length, none⟩) hpb).trans hpc
      have hpb2 : pb0 < wc.heap.size := by have := BW2.size; omega
      have QL := Lib.hid HQ.out
      go_upto_region 8 with (go_at_call 96; refine (FA.out wc BW2 pb0 po0 _ QL.out).mono ?_; rintro e W3 ⟨a3, c3, rfl, hL3, hb3⟩)
      have BW3 := BW2.trans (hb3.mono BW2.size)
      have KB := Lib.hid ((hb3.block _ zb).trans KB.out)
      have zb := Nat.lt_of_lt_of_le zb hb3.size
      have d0 := (BW3.cell (p := ⟨pb0, po0 + q.length, none⟩) hpb).trans hpc
      have hpb3 : pb0 < W3.heap.size := by have := BW3.size; omega
      clear hL3 hb3 hpb2 BW2
      by_cases hge : ge = 0
      rotate_left
      · have HX := HX0.out.trans (HU.out.trans (if_pos hge))
        have b1 : (ge != 0) = true := by simpa using hge
        clear hge
        go_wp2_with fail
        go_ret2
        rw [HX]
        exact foE_none BW3
      · subst hge
        have HU2 := Lib.hid (HU.out.trans (if_neg (by simp)))
        by_cases hx0 : x < 0
        · have HX := HX0.out.trans (HU2.out.trans (if_pos (Or.inl hx0)))
          have b2 : decide (x < 0) = true := by simpa using hx0
          clear hx0
          go_wp2_with fail
          go_ret2
          rw [HX]
          exact foE_none BW3
        · have b2 : decide (x < 0) = false := by simpa using hx0
          by_cases hx1 : (g.len : Int) < x
          · have HX := HX0.out.trans (HU2.out.trans (if_pos (Or.inr hx1)))
            have b3 : decide ((g.len : Int) < x) = true := by simpa using hx1
            clear hx0 hx1
            go_wp2_with fail
            go_ret2
            rw [HX]
            exact foE_none BW3
          · have b3 : decide ((g.len : Int) < x) = false := by simpa using hx1
            have SP2 := Lib.hid (SP.out g rfl (by rintro (h | h); exact hx0 h; exact hx1 h))
            clear hx0 hx1
            go_upto_region 12 with fail
            have d0 : W3.cell? ⟨tb, 0, none⟩ = some (.int .i64 h.k) := cell_of_block KB.out rfl
            have d1 : W3.cell? ⟨tb, 1, none⟩ = some (.string ⟨h.l.toArray⟩) := cell_of_block KB.out rfl
            have d2 : W3.cell? ⟨tb, 2, none⟩ = some (.slice aa h.ats.length ca) := cell_of_block KB.out rfl
            have d3 : W3.cell? ⟨tb, 3, none⟩ = some (.int .i64 h.n) := cell_of_block KB.out rfl
            have d4 : W3.cell? ⟨tb, 4, none⟩ = some (.int .i64 h.d) := cell_of_block KB.out rfl
            have d5 : W3.cell? ⟨tb, 5, none⟩ = some (.string ⟨h.x.toArray⟩) := cell_of_block KB.out rfl
            have d6 : W3.cell? ⟨tb, 6, none⟩ = some (.slice ak ks.len ck) := cell_of_block KB.out rfl
            have kk := World.alloc_heap_new W3 (.cells #[.int .i64 h.k, .string ⟨h.l.toArray⟩, .slice aa h.ats.length ca, .int .i64 h.n, .int .i64 h.d, .string ⟨h.x.toArray⟩, .slice ak ks.len ck] 43)
            have hb : Below W3.heap.size W3 (W3.alloc (.cells #[.int .i64 h.k, .string ⟨h.l.toArray⟩, .slice aa h.ats.length ca, .int .i64 h.n, .int .i64 h.d, .string ⟨h.x.toArray⟩, .slice ak ks.len ck] 43)) := (Below.refl _ _).alloc (Nat.le_refl _) _
            have BW4 : Below w.heap.size w (W3.alloc (.cells #[.int .i64 h.k, .string ⟨h.l.toArray⟩, .slice aa h.ats.length ca, .int .i64 h.n, .int .i64 h.d, .string ⟨h.x.toArray⟩, .slice ak ks.len ck] 43)) := BW3.trans (hb.mono BW3.size)
            have LT := Lib.hid (lies_one kk (HA.out _ BW4) (HK.out _ BW4))
            clear kk hb
            go_wp2_with fail
            generalize W3.alloc (.cells #[.int .i64 h.k, .string ⟨h.l.toArray⟩, .slice aa h.ats.length ca, .int .i64 h.n, .int .i64 h.d, .string ⟨h.x.toArray⟩, .slice ak ks.len ck] 43) = W4 at *

            have HX := HX0.out
            refine (SP2.out W4 BW4 _ LT.out).mono ?_
            rintro e w9 ⟨v9, rfl, hF9, hb9⟩
            have HF9 := Lib.hid (liesF_mono (B' := w.heap.size) BW4.size hF9)
            have B9 := BW4.trans (hb9.mono BW4.size)
            obtain ⟨a9, c9, rfl⟩ := liesF_form hF9
            clear hF9 hb9
            go_wp2_with fail
            go_ret2
            rw [HX]
            exact ⟨_, rfl, HF9.out, B9⟩
end Go.Proofs.YtcgedpfolloinaaGreat

namespace Go.Proofs.YtcgedpfolloinaaGreat
open Go.RowKit

/-- a tree as an argument. -/
def treeA (h : Hd) (va vk : Value) : Value := .agg #[.int .i64 h.k, .string ⟨h.l.toArray⟩, va, .int .i64 h.n, .int .i64 h.d, .string ⟨h.x.toArray⟩, vk]
theorem nat_path (q : List Nat) : (pathInts q).map Int.toNat = q := by
  induction q with
  | nil => rfl
  | cons a q ih => simp only [List.map_cons, Int.toNat_natCast, ih]
theorem place_zero {f : Fo} {q : List Nat} {i : Nat} {g : Fo} {x : Hd × Fo} (hg : goTo f q = some g) (hn : nth g i = some x) : placeErr f (pathInts (q ++ [i])) = 0 := by
  unfold placeErr
  rw [if_neg (by simp), go_place q i f hg hn]; rfl
theorem bnd_zero {F : Fo} (h : foErr F = 0) : bndErr F = 0 := by
  obtain ⟨h1, h2, -⟩ := fo_zero.1 h
  unfold bndErr
  rw [if_neg (by omega), if_neg (by omega)]
theorem in_ok {F : Fo} (h : foErr F = 0) : inBnd F = (F, 0) := by unfold inBnd; rw [if_pos (bnd_zero h)]
end Go.Proofs.YtcgedpfolloinaaGreat

namespace Go.Proofs.YtcgedpfolloinaaGreat
open Go.RowKit

theorem small_heads {F : Fo} (h : headsErr F = 0) (hs : F.size ≤ 100000) : Small F := small_foN (N := 100000) (Nat.le_refl _) hs (foN_mono (by omega) (foN_ok h))
theorem heads_bnd {F : Fo} (h : headsErr F = 0) : foErr F = bndErr F := by
  rw [foErr_eq]
  by_cases hb : bndErr F = 0
  · rw [if_neg (by simpa using hb), h, hb]
  · rw [if_pos hb]
theorem okC_of : ∀ (q : List Nat) (f : Fo) {g : Fo} {i n : Nat}, goTo f q = some g → i + n ≤ g.len → okC f (q ++ [i]) n
  | [], f, g, i, n, e, h => by cases e; exact h
  | [a], f, g, i, n, e, h => by
    rw [goTo] at e
    cases hn : nth f a with
    | none => simp [hn] at e
    | some x =>
      obtain ⟨hd, ks⟩ := x
      rw [hn] at e
      exact ⟨hd, ks, hn, okC_of [] ks e h⟩
  | a :: a2 :: q, f, g, i, n, e, h => by
    rw [goTo] at e
    cases hn : nth f a with
    | none => simp [hn] at e
    | some x =>
      obtain ⟨hd, ks⟩ := x
      rw [hn] at e
      exact ⟨hd, ks, hn, okC_of (a2 :: q) ks e h⟩
theorem chg_facts {f g b : Fo} {q : List Nat} {i n : Nat} (hf : headsErr f = 0) (hb : headsErr b = 0) (hg : goTo f q = some g) (ho : ownsOk f q) : headsErr (changeF f (q ++ [i]) n b) = 0 ∧ (changeF f (q ++ [i]) n b).size ≤ f.size + b.size := by
  rw [changeF_at q f i n b hg]
  refine ⟨heads_change q f _ ho hf (spl_heads (go_heads q f hg hf) hb), ?_⟩
  have h1 := changeAt_size q f (spl g i n b) hg
  have h2 := spl_le g i n b
  omega

set_option maxRecDepth 100000 in
set_option maxHeartbeats 8000000 in
theorem bounded_any (F : Fo) (a : Option Addr) (c : Nat) (w : World) (hl : Lies w (.slice a F.len c) F) (hh : headsErr F = 0) (hs : F.size ≤ 100000) :
    Calls Tryz.prog 107 #[.slice a F.len c] w fun e w' => e = .returned (.tuple #[if bndErr F = 0 then .slice a F.len c else .slice none 0 0, .int .i64 (bndErr F)]) ∧ Below w.heap.size w w' := by
  have C := Lib.hid (qcheck_any F _ w hl (small_heads hh hs))
  rw [heads_bnd hh] at C
  clear hl hs hh
  by_cases h0 : bndErr F = 0
  · rw [if_pos h0]
    rw [h0] at C ⊢
    clear h0
    go_enter Tryz.func107, Tryz.ntmps107
    go_wp2_with fail
    refine C.out.mono ?_
    rintro e w1 ⟨rfl, hb1⟩
    go_wp2_with fail
    go_ret2
    exact ⟨rfl, hb1⟩
  · rw [if_neg h0]
    generalize bndErr F = ef at *
    have b0 : (ef != 0) = true := by simpa using h0
    clear h0
    go_enter Tryz.func107, Tryz.ntmps107
    go_wp2_with fail
    refine C.out.mono ?_
    rintro e w1 ⟨rfl, hb1⟩
    go_wp2_with fail
    go_ret2
    exact ⟨rfl, hb1⟩

/-- what placed says. -/
def plE (f : Fo) (p : List Int) (b : Fo) : Int := firstNZ [foErr f, foErr b, if p = [] then 10 else 0]
set_option maxRecDepth 100000 in
set_option maxHeartbeats 8000000 in
theorem placed_any (f : Fo) (p : List Int) (b : Fo) (v pv u : Value) (w : World) (hl : Lies w v f) (hp : IntsLie w pv p) (hu : Lies w u b) (hs : Small f) (hsb : Small b) :
    Calls Tryz.prog 106 #[v, pv, u] w fun e w' => e = .returned (.int .i64 (plE f p b)) ∧ Below w.heap.size w w' := by
  have CF := Lib.hid (qcheck_any f v w hl hs)
  have CB := Lib.hid (fun W (hW : Below w.heap.size w W) => qcheck_any b u W (lies_below hu hW) hsb)
  have HE := Lib.hid (show plE f p b = if foErr f ≠ 0 then foErr f else if foErr b ≠ 0 then foErr b else if p = [] then 10 else 0 by
    unfold plE
    simp only [firstNZ]
    split <;> try rfl
    split <;> try rfl
    split <;> simp)
  obtain ⟨av, cv, rfl⟩ := lies_form hl
  obtain ⟨au, cu, rfl⟩ := lies_form hu
  obtain ⟨pa, pc, rfl⟩ := ints_form hp
  generalize plE f p b = R at *
  clear hl hu hp hs hsb
  generalize foErr f = e1 at *
  generalize foErr b = e2 at *
  by_cases h1 : e1 = 0
  · by_cases h2 : e2 = 0
    · subst h1 h2
      by_cases h3 : p = []
      · subst h3
        have HX := HE.out
        rw [if_neg (by simp), if_neg (by simp), if_pos rfl] at HX
        subst HX
        simp only [List.length_nil]
        go_enter Tryz.func106, Tryz.ntmps106
        go_wp2_with fail
        refine CF.out.mono ?_
        rintro e w1 ⟨rfl, hb1⟩
        go_wp2_with fail
        refine (CB.out w1 hb1).mono ?_
        rintro e w2 ⟨rfl, hb2⟩
        go_wp2_with fail
        go_ret
        exact ⟨rfl, hb1.trans (hb2.mono hb1.size)⟩
      · have HX := HE.out
        rw [if_neg (by simp), if_neg (by simp), if_neg h3] at HX
        subst HX
        have e0 : ((p.length : Int) == 0) = false := by simp; exact h3
        clear h3
        go_enter Tryz.func106, Tryz.ntmps106
        go_wp2_with fail
        refine CF.out.mono ?_
        rintro e w1 ⟨rfl, hb1⟩
        go_wp2_with fail
        refine (CB.out w1 hb1).mono ?_
        rintro e w2 ⟨rfl, hb2⟩
        go_wp2_with fail
        go_ret
        exact ⟨rfl, hb1.trans (hb2.mono hb1.size)⟩
    · subst h1
      have HX := HE.out
      rw [if_neg (by simp), if_pos h2] at HX
      subst HX
      have b2 : (R != 0) = true := by simpa using h2
      clear h2
      go_enter Tryz.func106, Tryz.ntmps106
      go_wp2_with fail
      refine CF.out.mono ?_
      rintro e w1 ⟨rfl, hb1⟩
      go_wp2_with fail
      refine (CB.out w1 hb1).mono ?_
      rintro e w2 ⟨rfl, hb2⟩
      go_wp2_with fail
      go_ret
      exact ⟨rfl, hb1.trans (hb2.mono hb1.size)⟩
  · have HX := HE.out
    rw [if_pos h1] at HX
    subst HX
    have b1 : (R != 0) = true := by simpa using h1
    clear h1
    go_enter Tryz.func106, Tryz.ntmps106
    go_wp2_with fail
    refine CF.out.mono ?_
    rintro e w1 ⟨rfl, hb1⟩
    go_wp2_with fail
    go_ret
    exact ⟨rfl, hb1⟩
end Go.Proofs.YtcgedpfolloinaaGreat
