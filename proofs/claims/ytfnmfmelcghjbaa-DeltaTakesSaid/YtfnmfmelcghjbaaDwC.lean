/- Deltas, the program: an Out in memory; copied, Check. -/
import Derived.Test.YtfnmfmelcghjbaaDwB
namespace Go.Proofs.Ytfnmfmelcghjbaa
open Go.RowKit Go.Lib Go.Ow Go.Cw Go.Fq Go.Mq Go.Kq Go.Kw Go.Dq
set_option linter.unusedVariables false
set_option linter.unusedSimpArgs false
set_option maxRecDepth 100000

/-- Cells of a block of one's own. -/
structure Cs (w : World) (b : Nat) (vs : List Value) : Prop where
  range : w.rangeAt b 0 vs
  there : w.there b 0 vs.length
  lt : b < w.heap.size
theorem Cs.below {w w2 : World} {b : Nat} {vs : List Value} (h : Cs w b vs) {B : Nat} (hb : Below B w w2) (hB : b < B) : Cs w2 b vs := ⟨below_keepD hb hB h.range, there_keepD hb hB h.there, Nat.lt_of_lt_of_le h.lt hb.size⟩
theorem Cs.first (w : World) (vs : List Value) (t : TypeId) : Cs (w.alloc (.cells vs.toArray t)) w.heap.size vs := ⟨range_box0 w vs t, there_box w vs t, by simp⟩
theorem Cs.cells {w : World} {b : Nat} {v0 v1 v2 v3 v4 : Value} (h : Cs w b [v0, v1, v2, v3, v4]) : w.cell? ⟨b, 0, none⟩ = some v0 ∧ w.cell? ⟨b, 1, none⟩ = some v1 ∧ w.cell? ⟨b, 2, none⟩ = some v2 ∧ w.cell? ⟨b, 3, none⟩ = some v3 ∧ w.cell? ⟨b, 4, none⟩ = some v4 := by
  have g := fun j v hj => h.range j v hj
  simp only [Nat.zero_add] at g
  exact ⟨g 0 _ rfl, g 1 _ rfl, g 2 _ rfl, g 3 _ rfl, g 4 _ rfl⟩
theorem Cs.free {w : World} {b : Nat} {v0 v1 v2 v3 v4 : Value} (h : Cs w b [v0, v1, v2, v3, v4]) : w.frozen? ⟨b, 0, none⟩ = false ∧ w.frozen? ⟨b, 1, none⟩ = false ∧ w.frozen? ⟨b, 2, none⟩ = false ∧ w.frozen? ⟨b, 3, none⟩ = false ∧ w.frozen? ⟨b, 4, none⟩ = false := by
  have g := fun j hj => (h.there j hj).2
  simp only [Nat.zero_add] at g
  exact ⟨g 0 (by simp), g 1 (by simp), g 2 (by simp), g 3 (by simp), g 4 (by simp)⟩
theorem Cs.set {w : World} {b : Nat} {vs : List Value} (h : Cs w b vs) (i : Nat) (v : Value) (hi : i < vs.length) : Cs (w.setCell ⟨b, i, none⟩ v) b (vs.set i v) := by
  refine ⟨fun j u hj => ?_, fun j hj => ?_, ?_⟩
  · rw [List.getElem?_set] at hj
    simp only [Nat.zero_add]
    by_cases e : i = j
    · subst e
      rw [if_pos rfl, if_pos hi] at hj
      cases hj
      exact World.cell?_setCell_same' _ _ _ (by have := (h.there i hi).1; simpa using this)
    · rw [if_neg e] at hj
      have := h.range j u hj
      simp only [Nat.zero_add] at this
      rw [← this]
      exact World.cell?_setCell_other _ _ _ _ (by intro e2; cases e2; exact e rfl)
  · rw [List.length_set] at hj
    have := h.there j hj
    refine ⟨?_, by rw [World.frozen?_setCell]; exact this.2⟩
    simp only [Nat.zero_add] at this ⊢
    by_cases e : i = j
    · subst e
      rw [World.cell?_setCell_same' _ _ _ (by have := (h.there i hi).1; simpa using this)]; rfl
    · rw [World.cell?_setCell_other _ _ _ _ (by intro e2; cases e2; exact e rfl)]
      exact this.1
  · rw [World.size_setCell]; exact h.lt
theorem Cs.other {w : World} {b c i : Nat} {vs : List Value} (h : Cs w b vs) (hne : b ≠ c) (v : Value) : Cs (w.setCell ⟨c, i, none⟩ v) b vs := by
  have e : ∀ j, (w.setCell ⟨c, i, none⟩ v).cell? ⟨b, j, none⟩ = w.cell? ⟨b, j, none⟩ := fun j => World.cell?_setCell_other _ _ _ _ (by intro e2; cases e2; exact hne rfl)
  exact ⟨fun j u hj => (e _).trans (h.range j u hj), fun j hj => ⟨by rw [e]; exact (h.there j hj).1, by rw [World.frozen?_setCell]; exact (h.there j hj).2⟩, by rw [World.size_setCell]; exact h.lt⟩
/-- An Out: its cells. -/
def ouL (o : Ou) (aa : Option Addr) (ca : Nat) (sa : Option Addr) (cs : Nat) : List Value := [.int .u64 (o.seq : Int), .slice aa o.acked.length ca, .slice sa o.sent.length cs, .bool o.flying, .int .i64 o.age]
abbrev ouV (o : Ou) (aa : Option Addr) (ca : Nat) (sa : Option Addr) (cs : Nat) : Value := .agg #[.int .u64 (o.seq : Int), .slice aa o.acked.length ca, .slice sa o.sent.length cs, .bool o.flying, .int .i64 o.age]
structure OuIn (w : World) (o : Ou) (aa : Option Addr) (ca : Nat) (sa : Option Addr) (cs : Nat) : Prop where
  acked : Sl w o.acked aa ca
  sent : Sl w o.sent sa cs
theorem OuIn.below {w w2 : World} {o : Ou} {aa : Option Addr} {ca : Nat} {sa : Option Addr} {cs : Nat} (h : OuIn w o aa ca sa cs) (hb : Below w.heap.size w w2) : OuIn w2 o aa ca sa cs := ⟨h.acked.below hb, h.sent.below hb⟩
theorem set_below {B : Nat} {a w : World} {b i : Nat} (v : Value) (h : Below B a w) (hb : B ≤ b) : Below B a (w.setCell ⟨b, i, none⟩ v) := h.setCell (p := ⟨b, i, none⟩) hb v
theorem nr_setD {w : World} {r b i : Nat} {u : Value} {l : List Nw} {v : Value} (h : Nr w r u l) (hne : r ≠ b) : Nr (w.setCell ⟨b, i, none⟩ v) r u l := h.keep (fun cur _ => by simpa [World.setCells] using setCells_other b [v] i w r hne)
theorem nr_setsD {w : World} {r p o2 : Nat} {v : Value} {l : List Nw} {vs : List Value} (h : Nr w r v l) (hne : r ≠ p) : Nr (w.setCells p o2 vs) r v l := h.keep (fun cur _ => setCells_other p vs o2 w r hne)
theorem sl_set {w : World} {r b i : Nat} {l : List Nw} {a : Option Addr} {c : Nat} {v : Value} (h : Nr w r (.slice a l.length c) l) (hl : (l.length + 1) * 40 ≤ 140737488355328) (hne : r ≠ b) : Sl (w.setCell ⟨b, i, none⟩ v) l a c := by
  have h0 := Sl.of_row h hl
  refine ⟨((nr_nws h).kept (w' := w.setCell ⟨b, i, none⟩ v) (fun k hk _ => ?_) (Nat.le_of_eq (World.size_setCell _ _ _).symm)).news, h0.cap, h0.len⟩
  have := setCells_other b [v] i w k (by rw [hk]; exact hne)
  simpa [World.setCells] using this
/-- What a call tells that tells an Out: it lies in the world behind. -/
def OuRet (w : World) (o : Ou) (f : Value → Value) (e : Ending) (w' : World) : Prop := Below w.heap.size w w' ∧ ∃ aa ca sa cs, e = .returned (f (ouV o aa ca sa cs)) ∧ OuIn w' o aa ca sa cs
set_option maxHeartbeats 8000000 in
theorem dCopied_any (o : Ou) (aa : Option Addr) (ca : Nat) (sa : Option Addr) (cs : Nat) (w : World) (h : OuIn w o aa ca sa cs) :
    Calls Try.prog 41 #[ouV o aa ca sa cs] w fun e w' => OuRet w o id e w' := by
  obtain ⟨seq, acked, sent, flying, age⟩ := o
  have HA : Hid (∀ V, Below w.heap.size w V → Calls Try.prog 43 #[.slice aa acked.length ca] V fun e w' => DRow V acked id e w') := Lib.hid (fun V hV => by
    have hs := h.acked.below hV
    exact dClone_any acked aa ca V (NwS.of_news hs.rows (Nat.le_refl _)) (fun e => hs.none e) (by have := hs.len; simp only at this; omega))
  have HS : Hid (∀ V, Below w.heap.size w V → Calls Try.prog 43 #[.slice sa sent.length cs] V fun e w' => DRow V sent id e w') := Lib.hid (fun V hV => by
    have hs := h.sent.below hV
    exact dClone_any sent sa cs V (NwS.of_news hs.rows (Nat.le_refl _)) (fun e => hs.none e) (by have := hs.len; simp only at this; omega))
  have HLEN := Lib.hid (And.intro h.acked.len h.sent.len)
  clear h
  dsimp only [ouV]
  go_enter Try.func41, Try.ntmps41
  go_upto_region 1 with (fail)
  obtain ⟨W0, hW0⟩ : ∃ W0, W0 = w.alloc (.cells #[.int .u64 (seq : Int), .slice aa acked.length ca, .slice sa sent.length cs, .bool flying, .int .i64 age] 31) := ⟨_, rfl⟩
  obtain ⟨W1, hW1⟩ : ∃ W1, W1 = W0.alloc (.cells #[.int .u64 0, .slice none 0 0, .slice none 0 0, .bool false, .int .i64 0] 31) := ⟨_, rfl⟩
  have hz0 : W0.heap.size = w.heap.size + 1 := by rw [hW0, World.size_alloc]
  have hb0 : Below w.heap.size w W0 := by rw [hW0]; exact gAl _ _
  have q0 : Cs W0 w.heap.size [.int .u64 (seq : Int), .slice aa acked.length ca, .slice sa sent.length cs, .bool flying, .int .i64 age] := by rw [hW0]; exact Cs.first w _ _
  have q1 : Cs W1 w.heap.size [.int .u64 (seq : Int), .slice aa acked.length ca, .slice sa sent.length cs, .bool flying, .int .i64 age] := by rw [hW1]; exact q0.below (gAl _ _) (by omega)
  have z1 : Cs W1 (w.heap.size + 1) [.int .u64 0, .slice none 0 0, .slice none 0 0, .bool false, .int .i64 0] := by rw [hW1, ← hz0]; exact Cs.first W0 _ _
  have hb1 : Below w.heap.size w W1 := by rw [hW1]; exact gNx hb0 (gAl _ _)
  rw [← hW0, ← hW1]
  clear hW0 hW1 hb0 q0 hz0
  have H1 := Lib.hid (And.intro hb1 (And.intro q1 z1))
  obtain ⟨c0, c1, c2, c3, c4⟩ := q1.cells
  clear hb1 q1 z1
  go_upto_region 2 with (go_at_call 43; refine (HA.out _ H1.out.1).mono ?_; rintro e V2 ⟨hb2, a2, k2, r2, rfl, hr2, hn2⟩; have q2 := H1.out.2.1.below hb2 H1.out.2.1.lt; have HC2 := Lib.hid q2; have HN2 := Lib.hid (And.intro hb2 (And.intro hn2 hr2)); obtain ⟨e0, e1, e2, e3, e4⟩ := q2.cells; obtain ⟨f0, f1, f2, f3, f4⟩ := q2.free; clear q2 hb2 hn2 hr2)
  obtain ⟨W2, hW2⟩ : ∃ W2, W2 = V2.setCell ⟨w.heap.size, 1, none⟩ (.slice a2 acked.length k2) := ⟨_, rfl⟩
  have q2 : Cs W2 w.heap.size [.int .u64 (seq : Int), .slice a2 acked.length k2, .slice sa sent.length cs, .bool flying, .int .i64 age] := by rw [hW2]; exact HC2.out.set 1 _ (by simp)
  have z2 : Cs W2 (w.heap.size + 1) [.int .u64 0, .slice none 0 0, .slice none 0 0, .bool false, .int .i64 0] := by rw [hW2]; exact (H1.out.2.2.below HN2.out.1 H1.out.2.2.lt).other (by omega) _
  have hb2 : Below w.heap.size w W2 := by rw [hW2]; exact set_below _ (gNx H1.out.1 HN2.out.1) (Nat.le_refl _)
  have s2 : ∃ r2, w.heap.size + 1 < r2 ∧ Nr W2 r2 (.slice a2 acked.length k2) acked := ⟨r2, by have := HN2.out.2.2; have := H1.out.2.2.lt; omega, by rw [hW2]; exact nr_setD HN2.out.2.1 (by have := HN2.out.2.2; have := H1.out.2.1.lt; omega)⟩
  have H2 := Lib.hid (And.intro hb2 (And.intro q2 (And.intro z2 s2)))
  obtain ⟨g0, g1, g2, g3, g4⟩ := q2.cells
  rw [← hW2]
  clear hW2 q2 z2 s2 hb2 e0 e1 e2 e3 e4 f0 f1 f2 f3 f4 c0 c1 c2 c3 c4 HC2 HN2 V2
  go_upto_region 3 with (go_at_call 43; refine (HS.out _ H2.out.1).mono ?_; rintro e V3 ⟨hb3, a3, k3, r3, rfl, hr3, hn3⟩; have q3 := H2.out.2.1.below hb3 H2.out.2.1.lt; have HC3 := Lib.hid q3; have HN3 := Lib.hid (And.intro hb3 (And.intro hn3 hr3)); obtain ⟨e0, e1, e2, e3, e4⟩ := q3.cells; obtain ⟨f0, f1, f2, f3, f4⟩ := q3.free; clear q3 hb3 hn3 hr3)
  obtain ⟨W3, hW3⟩ : ∃ W3, W3 = V3.setCell ⟨w.heap.size, 2, none⟩ (.slice a3 sent.length k3) := ⟨_, rfl⟩
  have q3 : Cs W3 w.heap.size [.int .u64 (seq : Int), .slice a2 acked.length k2, .slice a3 sent.length k3, .bool flying, .int .i64 age] := by rw [hW3]; exact HC3.out.set 2 _ (by simp)
  have z3 : Cs W3 (w.heap.size + 1) [.int .u64 0, .slice none 0 0, .slice none 0 0, .bool false, .int .i64 0] := by rw [hW3]; exact (H2.out.2.2.1.below HN3.out.1 H2.out.2.2.1.lt).other (by omega) _
  have hb3 : Below w.heap.size w W3 := by rw [hW3]; exact set_below _ (gNx H2.out.1 HN3.out.1) (Nat.le_refl _)
  have s3 : ∃ r3, w.heap.size + 1 < r3 ∧ Nr W3 r3 (.slice a3 sent.length k3) sent := ⟨r3, by have := HN3.out.2.2; have := H2.out.2.2.1.lt; omega, by rw [hW3]; exact nr_setD HN3.out.2.1 (by have := HN3.out.2.2; have := H2.out.2.1.lt; omega)⟩
  have s2 : ∃ r2, w.heap.size + 1 < r2 ∧ Nr W3 r2 (.slice a2 acked.length k2) acked := by
    obtain ⟨r2, g1, g2⟩ := H2.out.2.2.2
    exact ⟨r2, g1, by rw [hW3]; exact nr_setD (g2.below HN3.out.1) (by omega)⟩
  have H3 := Lib.hid (And.intro hb3 (And.intro z3 (And.intro s2 s3)))
  obtain ⟨k0, k1, k2', k3', k4⟩ := q3.cells
  obtain ⟨z0, z1, z2, z3', z4⟩ := z3.cells
  obtain ⟨y0, y1, y2, y3, y4⟩ := z3.free
  have HT : Hid (W3.there (w.heap.size + 1) 0 5) := Lib.hid z3.there
  rw [← hW3]
  clear hW3 q3 z3 s2 s3 hb3 e0 e1 e2 e3 e4 f0 f1 f2 f3 f4 g0 g1 g2 g3 g4 HC3 HN3 V3
  go_wp2_with fail
  have hfin := World.rangeAt_setCells_same W3 (w.heap.size + 1) 0 [.int .u64 (seq : Int), .slice a2 acked.length k2, .slice a3 sent.length k3, .bool flying, .int .i64 age] HT.out
  have HB9 := below_set (w.heap.size + 1) (Nat.le_succ _) [.int .u64 (seq : Int), .slice a2 acked.length k2, .slice a3 sent.length k3, .bool flying, .int .i64 age] 0 W3 H3.out.1
  obtain ⟨r2, q1, q2⟩ := H3.out.2.2.1
  obtain ⟨r3, q3, q4⟩ := H3.out.2.2.2
  have s2 : Sl (W3.setCells (w.heap.size + 1) 0 [.int .u64 (seq : Int), .slice a2 acked.length k2, .slice a3 sent.length k3, .bool flying, .int .i64 age]) acked a2 k2 := Sl.of_row (nr_setsD (p := w.heap.size + 1) (o2 := 0) (vs := [.int .u64 (seq : Int), .slice a2 acked.length k2, .slice a3 sent.length k3, .bool flying, .int .i64 age]) q2 (by omega)) HLEN.out.1
  have s3 : Sl (W3.setCells (w.heap.size + 1) 0 [.int .u64 (seq : Int), .slice a2 acked.length k2, .slice a3 sent.length k3, .bool flying, .int .i64 age]) sent a3 k3 := Sl.of_row (nr_setsD (p := w.heap.size + 1) (o2 := 0) (vs := [.int .u64 (seq : Int), .slice a2 acked.length k2, .slice a3 sent.length k3, .bool flying, .int .i64 age]) q4 (by omega)) HLEN.out.2
  have HO : OuIn (W3.setCells (w.heap.size + 1) 0 [.int .u64 (seq : Int), .slice a2 acked.length k2, .slice a3 sent.length k3, .bool flying, .int .i64 age]) ⟨seq, acked, sent, flying, age⟩ a2 k2 a3 k3 := ⟨s2, s3⟩
  refine bodyPost_ret (v := .agg #[.int .u64 (seq : Int), .slice a2 acked.length k2, .slice a3 sent.length k3, .bool flying, .int .i64 age]) (results_cell Try.results41 _ _ (w.heap.size + 1) 0 [.int .u64 (seq : Int), .slice a2 acked.length k2, .slice a3 sent.length k3, .bool flying, .int .i64 age] _ rfl hfin Try.underlying31 (by rfl) (by kernel_rfl)) rfl ?_
  exact ⟨HB9, a2, k2, a3, k3, rfl, HO⟩
theorem fly0 (sq age : Int) (flying : Bool) (aa : Option Addr) (na ca : Nat) (sa : Option Addr) (ns cs : Nat) (w : World) (h0 : sq < 1) :
    Calls Try.prog 38 #[.agg #[.int .u64 sq, .slice aa na ca, .slice sa ns cs, .bool flying, .int .i64 age]] w fun e w' => e = .returned (.bool false) ∧ Below w.heap.size w w' := by
  go_enter Try.func38, Try.ntmps38
  go_wp2_with fail
  go_ret
  exact ⟨rfl, gAl _ _⟩
theorem fly1 (sq age : Int) (flying : Bool) (aa : Option Addr) (na ca : Nat) (sa : Option Addr) (ns cs : Nat) (w : World) (h0 : 1 ≤ sq) (h1 : age < 0) :
    Calls Try.prog 38 #[.agg #[.int .u64 sq, .slice aa na ca, .slice sa ns cs, .bool flying, .int .i64 age]] w fun e w' => e = .returned (.bool false) ∧ Below w.heap.size w w' := by
  go_enter Try.func38, Try.ntmps38
  go_wp2_with fail
  go_ret
  exact ⟨rfl, gAl _ _⟩
theorem fly2 (sq age : Int) (flying : Bool) (aa : Option Addr) (na ca : Nat) (sa : Option Addr) (cs : Nat) (w : World) (h0 : 1 ≤ sq) (h1 : 0 ≤ age) :
    Calls Try.prog 38 #[.agg #[.int .u64 sq, .slice aa na ca, .slice sa 0 cs, .bool flying, .int .i64 age]] w fun e w' => e = .returned (.bool false) ∧ Below w.heap.size w w' := by
  go_enter Try.func38, Try.ntmps38
  go_wp2_with fail
  go_ret
  exact ⟨rfl, gAl _ _⟩
theorem fly3 (sq age : Int) (flying : Bool) (aa : Option Addr) (na ca : Nat) (sa : Option Addr) (ns cs : Nat) (w : World) (h0 : 1 ≤ sq) (h1 : 0 ≤ age) (h2 : 0 < ns) (h3 : 512 < ns) :
    Calls Try.prog 38 #[.agg #[.int .u64 sq, .slice aa na ca, .slice sa ns cs, .bool flying, .int .i64 age]] w fun e w' => e = .returned (.bool false) ∧ Below w.heap.size w w' := by
  go_enter Try.func38, Try.ntmps38
  go_wp2_with fail
  go_ret
  exact ⟨rfl, gAl _ _⟩
theorem fly4 (sq age : Int) (flying : Bool) (aa : Option Addr) (na ca : Nat) (sa : Option Addr) (ns cs : Nat) (w : World) (h0 : 1 ≤ sq) (h1 : 0 ≤ age) (h2 : 0 < ns) (h3 : ns ≤ 512) (B : Bool) (HN : Hid (∀ V, Below w.heap.size w V → Calls Try.prog 33 #[.slice sa ns cs] V fun e w' => e = .returned (.bool B) ∧ Below V.heap.size V w')) :
    Calls Try.prog 38 #[.agg #[.int .u64 sq, .slice aa na ca, .slice sa ns cs, .bool flying, .int .i64 age]] w fun e w' => e = .returned (.bool B) ∧ Below w.heap.size w w' := by
  go_enter Try.func38, Try.ntmps38
  go_wp2_with (go_at_call 33; refine (HN.out _ (gAl _ _)).mono ?_; rintro e w' ⟨rfl, hb⟩)
  go_ret
  exact ⟨rfl, gNx (gAl _ _) hb⟩
theorem rst0 (sq age : Int) (flying : Bool) (aa : Option Addr) (na ca : Nat) (sa : Option Addr) (ns cs : Nat) (w : World) (h2 : 0 < ns) :
    Calls Try.prog 39 #[.agg #[.int .u64 sq, .slice aa na ca, .slice sa ns cs, .bool flying, .int .i64 age]] w fun e w' => e = .returned (.bool false) ∧ Below w.heap.size w w' := by
  go_enter Try.func39, Try.ntmps39
  go_wp2_with fail
  go_ret
  exact ⟨rfl, gAl _ _⟩
theorem rst1 (sq age : Int) (flying : Bool) (aa : Option Addr) (na ca : Nat) (sa : Option Addr) (cs : Nat) (w : World) (h1 : (age == 0) = false) :
    Calls Try.prog 39 #[.agg #[.int .u64 sq, .slice aa na ca, .slice sa 0 cs, .bool flying, .int .i64 age]] w fun e w' => e = .returned (.bool false) ∧ Below w.heap.size w w' := by
  go_enter Try.func39, Try.ntmps39
  go_wp2_with fail
  go_ret
  exact ⟨rfl, gAl _ _⟩
theorem rst2 (sq : Int) (flying : Bool) (aa : Option Addr) (na ca : Nat) (sa : Option Addr) (cs : Nat) (w : World)  :
    Calls Try.prog 39 #[.agg #[.int .u64 sq, .slice aa na ca, .slice sa 0 cs, .bool flying, .int .i64 0]] w fun e w' => e = .returned (.bool true) ∧ Below w.heap.size w w' := by
  go_enter Try.func39, Try.ntmps39
  go_wp2_with fail
  go_ret
  exact ⟨rfl, gAl _ _⟩
theorem dFly_any (o : Ou) (aa : Option Addr) (ca : Nat) (sa : Option Addr) (cs : Nat) (w : World) (h : OuIn w o aa ca sa cs) (hfit : ∀ x ∈ o.sent, x.Fit) :
    Calls Try.prog 38 #[ouV o aa ca sa cs] w fun e w' => e = .returned (.bool (flyB o)) ∧ Below w.heap.size w w' := by
  obtain ⟨seq, acked, sent, flying, age⟩ := o
  have HN : Hid (∀ V, Below w.heap.size w V → Calls Try.prog 33 #[.slice sa sent.length cs] V fun e w' => e = .returned (.bool (orderB sent)) ∧ Below V.heap.size V w') := Lib.hid (fun V hV => dNews_any sent sa cs V (h.sent.below hV) hfit)
  clear h hfit
  unfold flyB
  dsimp only [ouV]
  by_cases h0 : 1 ≤ seq
  · by_cases h1 : 0 ≤ age
    · by_cases h2 : 1 ≤ sent.length
      · by_cases h3 : sent.length ≤ 512
        · rw [decide_eq_true h0, decide_eq_true h1, decide_eq_true h2, decide_eq_true h3, Bool.true_and, Bool.true_and, Bool.true_and, Bool.true_and]
          exact fly4 _ _ _ _ _ _ _ _ _ _ (by omega) h1 h2 h3 _ HN
        · rw [decide_eq_false h3, Bool.false_and, Bool.and_false, Bool.and_false, Bool.and_false]
          exact fly3 _ _ _ _ _ _ _ _ _ _ (by omega) h1 (by omega) (by omega)
      · obtain rfl : sent = [] := List.length_eq_zero_iff.1 (by omega)
        rw [decide_eq_false h2, Bool.false_and, Bool.and_false, Bool.and_false]
        exact fly2 _ _ _ _ _ _ _ _ _ (by omega) h1
    · rw [decide_eq_false h1, Bool.false_and, Bool.and_false]
      exact fly1 _ _ _ _ _ _ _ _ _ _ (by omega) (by omega)
  · rw [decide_eq_false h0, Bool.false_and]
    exact fly0 _ _ _ _ _ _ _ _ _ _ (by omega)
theorem dRest_any (o : Ou) (aa : Option Addr) (ca : Nat) (sa : Option Addr) (cs : Nat) (w : World) :
    Calls Try.prog 39 #[ouV o aa ca sa cs] w fun e w' => e = .returned (.bool (restB o)) ∧ Below w.heap.size w w' := by
  obtain ⟨seq, acked, sent, flying, age⟩ := o
  unfold restB
  dsimp only [ouV]
  cases sent with
  | nil =>
    by_cases h1 : age = 0
    · subst h1
      exact rst2 _ _ _ _ _ _ _ _
    · rw [decide_eq_false h1, Bool.and_false]
      exact rst1 _ _ _ _ _ _ _ _ _ (by simp [h1])
  | cons y sent =>
    rw [decide_eq_false (by simp), Bool.false_and]
    exact rst0 _ _ _ _ _ _ _ _ _ _ (by simp)
set_option maxHeartbeats 8000000 in
theorem chk_any (sq age : Int) (lb flying fb rb : Bool) (aa : Option Addr) (na ca : Nat) (sa : Option Addr) (ns cs : Nat) (w : World)
    (HL : Hid (∀ V, Below w.heap.size w V → Calls Try.prog 30 #[.slice aa na ca] V fun e w' => e = .returned (.bool lb) ∧ Below V.heap.size V w'))
    (HF : Hid (∀ V, Below w.heap.size w V → Calls Try.prog 38 #[.agg #[.int .u64 sq, .slice aa na ca, .slice sa ns cs, .bool flying, .int .i64 age]] V fun e w' => e = .returned (.bool fb) ∧ Below V.heap.size V w'))
    (HR : Hid (∀ V, Calls Try.prog 39 #[.agg #[.int .u64 sq, .slice aa na ca, .slice sa ns cs, .bool flying, .int .i64 age]] V fun e w' => e = .returned (.bool rb) ∧ Below V.heap.size V w')) :
    Calls Try.prog 16 #[.agg #[.int .u64 sq, .slice aa na ca, .slice sa ns cs, .bool flying, .int .i64 age]] w fun e w' => e = .returned (.int .i64 (if lb && (if flying then fb else rb) then 0 else 1)) ∧ Below w.heap.size w w' := by
  have q0 : Cs (w.alloc (.cells #[.int .u64 sq, .slice aa na ca, .slice sa ns cs, .bool flying, .int .i64 age] 31)) w.heap.size [.int .u64 sq, .slice aa na ca, .slice sa ns cs, .bool flying, .int .i64 age] := Cs.first w _ _
  have HQ := Lib.hid (And.intro (gAl w (.cells #[.int .u64 sq, .slice aa na ca, .slice sa ns cs, .bool flying, .int .i64 age] 31)) q0)
  clear q0
  cases lb <;> cases flying <;> cases fb <;> cases rb
  all_goals
    go_enter Try.func16, Try.ntmps16
    go_wp2_with (first | (go_at_call 30; refine (HL.out _ HQ.out.1).mono ?_; rintro e V1 ⟨rfl, hb⟩; have q1 := HQ.out.2.below hb HQ.out.2.lt; obtain ⟨c0, c1, c2, c3, c4⟩ := q1.cells; have H1 := Lib.hid (And.intro (gNx HQ.out.1 hb) q1); clear hb q1) | (go_at_call 38; refine (HF.out _ H1.out.1).mono ?_; rintro e V2 ⟨rfl, hb⟩; have q1 := H1.out.2.below hb H1.out.2.lt; obtain ⟨d0, d1, d2, d3, d4⟩ := q1.cells; have H2 := Lib.hid (gNx H1.out.1 hb); clear hb q1) | (go_at_call 39; refine (HR.out _).mono ?_; rintro e V2 ⟨rfl, hb⟩; have H2 := Lib.hid (gNx H1.out.1 hb); clear hb))
    go_ret
    exact ⟨rfl, by first | exact H2.out | exact H1.out.1⟩
theorem dCheck_any (o : Ou) (aa : Option Addr) (ca : Nat) (sa : Option Addr) (cs : Nat) (w : World) (h : OuIn w o aa ca sa cs) (hfit : o.Fit) :
    Calls Try.prog 16 #[ouV o aa ca sa cs] w fun e w' => e = .returned (.int .i64 (checkO o)) ∧ Below w.heap.size w w' :=
  chk_any _ _ (listB o.acked) _ (flyB o) (restB o) _ _ _ _ _ _ w (Lib.hid (fun V hV => dList_any o.acked aa ca V (h.acked.below hV) hfit.acked)) (Lib.hid (fun V hV => dFly_any o aa ca sa cs V (h.below hV) hfit.sent)) (Lib.hid (fun V => dRest_any o aa ca sa cs V))
end Go.Proofs.Ytfnmfmelcghjbaa
