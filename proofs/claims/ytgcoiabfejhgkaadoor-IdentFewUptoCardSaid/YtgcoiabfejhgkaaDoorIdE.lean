/- Draw: the program's stirAll and keeper, and the document's own. -/
import Derived.Test.YtgcoiabfejhgkaaDoorIdD
import Derived.Laws.OwnMore
namespace Go.Proofs.YtgcoiabfejhgkaaDoor
open Go.RowKit Go.Lib Go.Iq
set_option linter.unusedVariables false

theorem infoStirred : (Tryd.prog.info? 55).map (fun i => (i.zero, i.size, i.bytes)) = some (some (.agg #[.int .i64 0, .int .u64 0]), 2, 16) := by kernel_rfl

/-- Cells in pairs. -/
def IsPairs (w : World) (g n : Nat) (f h : Nat → Value) : Prop := ∀ i, i < n → w.cell? ⟨g, i * 2, none⟩ = some (f i) ∧ w.cell? ⟨g, i * 2 + 1, none⟩ = some (h i)
theorem IsPairs.below {w w' : World} {g n : Nat} {f h : Nat → Value} (p : IsPairs w g n f h) (hb : Below w.heap.size w w') : IsPairs w' g n f h := fun i hi => by
  obtain ⟨h1, h2⟩ := p i hi
  exact ⟨(hb.cell (p := ⟨g, i * 2, none⟩) (block_lt h1)).trans h1, (hb.cell (p := ⟨g, i * 2 + 1, none⟩) (block_lt h2)).trans h2⟩
/-- What a loop that fills pairs has so far. -/
def Filled (w : World) (base : Nat) (t : TypeId) (g n cap k : Nat) (f h : Nat → Value) : Prop :=
  ∃ xs, w.ownsRow base t 2 (.slice (some ⟨g, 0, none⟩) n cap) n xs ∧ ∀ i, i < k → xs[i * 2]? = some (f i) ∧ xs[i * 2 + 1]? = some (h i)
theorem Filled.pairs {w : World} {base : Nat} {t : TypeId} {g n cap : Nat} {f h : Nat → Value} (H : Filled w base t g n cap n f h) : IsPairs w g n f h := fun i hi => by
  obtain ⟨xs, h1, h2⟩ := H
  obtain ⟨a, b⟩ := h2 i hi
  exact ⟨(h1.cellAt (i * 2) (by omega)).trans a, (h1.cellAt (i * 2 + 1) (by omega)).trans b⟩
theorem Filled.below {w w' : World} {base : Nat} {t : TypeId} {g n cap k : Nat} {f h : Nat → Value} (H : Filled w base t g n cap k f h) (hb : Below w.heap.size w w') : Filled w' base t g n cap k f h := by
  obtain ⟨xs, h1, h2⟩ := H
  refine ⟨xs, h1.kept (row := none) ⟨hb.os, hb.tape, hb.output, hb.size, fun k hk _ => hb.block k hk⟩ (.inr (by simp [Value.ownBlock])), h2⟩
/-- One pair more. -/
theorem Filled.next {w : World} {base : Nat} {t : TypeId} {g n cap k : Nat} {f h : Nat → Value} (H : Filled w base t g n cap k f h) (hk : k < n) :
    Filled ((w.setCell ⟨g, k * 2, none⟩ (f k)).setCell ⟨g, k * 2 + 1, none⟩ (h k)) base t g n cap (k + 1) f h := by
  obtain ⟨xs, h1, h2⟩ := H
  have hl : xs.length = n * 2 := h1.1
  have e1 := (h1.stored (k * 2) (f k)).1
  have e2 := (e1.stored (k * 2 + 1) (h k)).1
  refine ⟨_, e2, fun i hi => ?_⟩
  by_cases e : i = k
  · subst e
    constructor
    · rw [List.getElem?_set_ne (by omega), List.getElem?_set_self (by omega)]
    · rw [List.getElem?_set_self (by rw [List.length_set]; omega)]
  · obtain ⟨a, b⟩ := h2 i (by omega)
    constructor
    · rw [List.getElem?_set_ne (by omega), List.getElem?_set_ne (by omega)]; exact a
    · rw [List.getElem?_set_ne (by omega), List.getElem?_set_ne (by omega)]; exact b
def stirF (zs : List Int) (i : Nat) : Value := .int .i64 (zs.getD i 0)
def stirH (zs : List Int) (i : Nat) : Value := .int .u64 (mixI (zs.getD i 0))

set_option maxHeartbeats 1000000 in
set_option maxRecDepth 100000 in
theorem stirAll_any (a : Option Addr) (len cap : Nat) (zs : List Int) (w : World) (hI : IsInts w a len zs) (hz : zs.all idB = true) (hl : len * 8 ≤ 140737488355328) :
    Calls Tryd.prog 44 #[.slice a len cap] w fun e w' => ∃ g, e = .returned (.slice (some ⟨g, 0, none⟩) len len) ∧ IsPairs w' g len (stirF zs) (stirH zs) ∧ Below w.heap.size w w' := by
  obtain ⟨i0, hi, hz0, hz1, hz2⟩ := info_parts infoStirred
  have HI := Lib.hid hI
  have HZ := Lib.hid hI.1
  have HA := Lib.hid hz
  have H63 : Hid (len ≤ maxLen) := Lib.hid (by unfold maxLen; omega)
  have H48 : Hid (i0.bytes * len ≤ 281474976710656) := Lib.hid (by rw [hz2]; omega)
  clear hI hz
  go_enter Tryd.func44, Tryd.ntmps44
  go_wp2_with (at_make; refine wpList_make_full _ rfl _ _ 61 rfl w.heap.size 55 i0 _ 2 Tryd.underlying61 hi hz0 hz1 .i64 .i64 len len len rfl rfl rfl rfl H48.out H63.out (Nat.le_refl _) ?_; intro w1 hown hg; have HO := Lib.hid hown; have HG := Lib.hid hg; clear hown hg)
  have hb1 : Below w.heap.size w w1 := (Below.refl _ _).grown HG.out (Nat.le_refl _) (fun k hk => by cases hk)
  have HF : Hid (Filled w1 w.heap.size 55 w.heap.size len len 0 (stirF zs) (stirH zs)) := Lib.hid ⟨_, HO.out, fun i h => absurd h (by omega)⟩
  have HB := Lib.hid hb1
  clear HO HG hb1
  go_loopw [11] (fun i wr => ∃ k : Nat, k ≤ len ∧ i = .int .i64 k ∧ Filled wr w.heap.size 55 w.heap.size len len k (stirF zs) (stirH zs) ∧ Below w.heap.size w wr) (fun i _ => len - (intOf i).toNat)
  case atStart => exact ⟨0, Nat.zero_le _, rfl, HF.out, HB.out⟩
  case round =>
    obtain ⟨k, hk, rfl, hF, hb⟩ := hrel
    have HF := Lib.hid hF
    have HB := Lib.hid hb
    have hsz := hb.size
    clear hF hb
    by_cases hlt : k < len
    · obtain ⟨b, off, rfl, hc⟩ := HI.out.2 (by omega)
      have c0 := hc k hlt
      have c1 : wr.cell? ⟨b, off + k, none⟩ = some (.int .i64 (zs.getD k 0)) := by
        rw [← c0]; exact HB.out.cell (p := ⟨b, off + k, none⟩) (block_lt c0)
      have hid := idB_iff.1 (idB_at HA.out k (by rw [HZ.out]; exact hlt))
      have HN : ∀ w2, Below wr.heap.size wr w2 → Hid (Filled ((w2.setCell ⟨w.heap.size, k * 2, none⟩ (.int .i64 (zs.getD k 0))).setCell ⟨w.heap.size, k * 2 + 1, none⟩ (.int .u64 (mixI (zs.getD k 0)))) w.heap.size 55 w.heap.size len len (k + 1) (stirF zs) (stirH zs)) := fun w2 h => Lib.hid ((HF.out.below h).next hlt)
      clear hc c0
      generalize zs.getD k 0 = z at *
      go_wp2_with fail
      refine (stir_any _ (by omega) (by omega) _).mono ?_
      rintro e w2 ⟨rfl, hb2⟩
      have HN2 := HN w2 hb2
      clear HN
      have f1 : ∀ j, w2.frozen? ⟨w.heap.size, j, none⟩ = false := fun j => by
        obtain ⟨xs, h1, _⟩ := HF.out.below hb2; exact h1.frozenAt j
      obtain ⟨v0, v1, g0, g1⟩ : ∃ v0 v1, w2.cell? ⟨w.heap.size, k * 2, none⟩ = some v0 ∧ w2.cell? ⟨w.heap.size, k * 2 + 1, none⟩ = some v1 := by
        obtain ⟨xs, h1, _⟩ := HF.out.below hb2
        have hx : xs.length = len * 2 := h1.1
        exact ⟨xs[k * 2]'(by omega), xs[k * 2 + 1]'(by omega), (h1.cellAt _ (by omega)).trans (List.getElem?_eq_getElem _), (h1.cellAt _ (by omega)).trans (List.getElem?_eq_getElem _)⟩
      have HB2 := Lib.hid (hb2.size)
      have HB3 := Lib.hid (HB.out.trans (hb2.mono HB.out.size))
      clear hb2
      go_wp2
      go_roundw
      case rel => exact ⟨k + 1, by omega, by go_num, HN2.out, (HB3.out.setCell (Nat.le_refl _) _).setCell (Nat.le_refl _) _⟩
      case measure => simp [intOf]; omega
    · obtain rfl : k = len := by omega
      go_wp2
      go_ret
      exact ⟨_, rfl, HF.out.pairs, HB.out⟩

theorem bcell {W w1 : World} (hb : Below W.heap.size W w1) : (∀ b o, b < W.heap.size → w1.cell? ⟨b, o, none⟩ = W.cell? ⟨b, o, none⟩) ∧ (∀ b o, b < W.heap.size → w1.frozen? ⟨b, o, none⟩ = W.frozen? ⟨b, o, none⟩) :=
  ⟨fun b o h => hb.cell (p := ⟨b, o, none⟩) h, fun b o h => hb.frozen (p := ⟨b, o, none⟩) h⟩
theorem wantsMore_any (a x b y : Int) (hx : U64 x) (hy : U64 y) (ha : 1 ≤ a ∧ a ≤ 2147483647) (hb : 1 ≤ b ∧ b ≤ 2147483647) (w : World) : Calls Tryd.prog 48 #[.agg #[.int .i64 a, .int .u64 x], .agg #[.int .i64 b, .int .u64 y]] w fun e w' => e = .returned (.int .i64 (wantC a x b y)) ∧ Below w.heap.size w w' :=
  (wantsMore_grow a x b y hx hy ha hb w).mono fun _ _ ⟨he, q, os, hw⟩ => ⟨he, by rw [hw]; exact below_grow (below_drewN (Below.refl _ _) q) os (Nat.le_refl _)⟩
theorem cell_alloc {w : World} {p : Addr} (o : Obj) (h : p.block < w.heap.size) : (w.alloc o).cell? p = w.cell? p := World.cell?_of_block (w := w) (Below.heap_alloc w o p.block h)
theorem frozen_alloc {w : World} {p : Addr} (o : Obj) (h : p.block < w.heap.size) : (w.alloc o).frozen? p = w.frozen? p := World.frozen?_of_block (w := w) (Below.heap_alloc w o p.block h)
theorem set2 {w : World} {m : Nat} {x y u v : Value} (h0 : w.cell? ⟨m, 0, none⟩ = some x) (h1 : w.cell? ⟨m, 1, none⟩ = some y) :
    ((w.setCell ⟨m, 0, none⟩ u).setCell ⟨m, 1, none⟩ v).cell? ⟨m, 0, none⟩ = some u ∧ ((w.setCell ⟨m, 0, none⟩ u).setCell ⟨m, 1, none⟩ v).cell? ⟨m, 1, none⟩ = some v := by
  have e1 : (w.setCell ⟨m, 0, none⟩ u).cell? ⟨m, 1, none⟩ = some y := (World.cell?_setCell_other _ _ _ _ (by simp)).trans h1
  exact ⟨(World.cell?_setCell_other _ _ _ _ (by simp)).trans (World.cell?_setCell_same _ _ _ h0), World.cell?_setCell_same _ _ _ e1⟩
/-- The one that wants most so far, in its cells. -/
def MostAt (w : World) (m : Nat) (b s : Int) : Prop := w.cell? ⟨m, 0, none⟩ = some (.int .i64 b) ∧ w.cell? ⟨m, 1, none⟩ = some (.int .u64 (scoreI b s)) ∧ (∀ j, w.frozen? ⟨m, j, none⟩ = false) ∧ m < w.heap.size

theorem cells2 (w : World) (x y : Value) (T : TypeId) : (w.alloc (.cells #[x, y] T)).cell? ⟨w.heap.size, 0, none⟩ = some x ∧ (w.alloc (.cells #[x, y] T)).cell? ⟨w.heap.size, 1, none⟩ = some y ∧ (∀ j, (w.alloc (.cells #[x, y] T)).frozen? ⟨w.heap.size, j, none⟩ = false) ∧ w.heap.size < (w.alloc (.cells #[x, y] T)).heap.size :=
  ⟨by simp, by simp, fun j => by simp, by simp⟩
theorem mostAt_alloc (w : World) (b s : Int) (T : TypeId) : MostAt (w.alloc (.cells #[.int .i64 b, .int .u64 (mixI (bits .xor .u64 s (mixI b)))] T)) w.heap.size b s := cells2 w _ _ T

set_option maxHeartbeats 1000000 in
set_option maxRecDepth 100000 in
theorem keeper_any (g len cap : Nat) (zs : List Int) (s : ByteArray) (w : World) (hp : IsPairs w g len (stirF zs) (stirH zs)) (hn : zs.length = len) (hcap : len ≤ cap) (h0 : 0 < len) (hz : zs.all idB = true) (hl : cap ≤ 9223372036854775807) (hs : s.size ≤ 9223372036854775807) :
    Calls Tryd.prog 43 #[.slice (some ⟨g, 0, none⟩) len cap, .string s] w fun e w' => e = .returned (.int .i64 (bestOf (sumI s.data.toList) zs)) ∧ Below w.heap.size w w' := by
  have HP := Lib.hid hp
  have HN := Lib.hid hn
  have HA := Lib.hid hz
  have HU := Lib.hid (sumI_bd s.data.toList)
  have HS := Lib.hid (fun w => sum_any s w hs)
  obtain ⟨c0, c1⟩ := hp 0 h0
  unfold stirF at c0
  unfold stirH at c1
  have hi0 := idB_iff.1 (idB_at HA.out 0 (by rw [HN.out]; exact h0))
  have H1 := Lib.hid (bestTo_one (sumI s.data.toList) zs (by rw [HN.out]; exact h0))
  clear hp hn hz hs
  have hg : g < w.heap.size := block_lt c0
  generalize hsum : sumI s.data.toList = t at *
  clear hsum
  generalize zs.getD 0 0 = z0 at *
  have HM := Lib.hid (mixI_bd z0)
  go_enter Tryd.func43, Tryd.ntmps43
  go_wp2_with (first | (go_at_call 21; refine (HS.out _).mono ?_; rintro e w' ⟨rfl, rfl⟩) | (go_at_call 39; refine (wishOf_any _ _ _ HM.out HU.out _).mono ?_; rintro e w2 ⟨rfl, hb2⟩))
  all_goals
    have hsz2 := hb2.size
    have HB0 : Hid (Below w.heap.size w (w2.alloc (Obj.cells #[Value.int IntKind.i64 z0, Value.int IntKind.u64 (mixI (bits BinOp.xor IntKind.u64 t (mixI z0)))] 52))) := Lib.hid (hb2.alloc hb2.size _)
    have HM0 : Hid (MostAt (w2.alloc (Obj.cells #[Value.int IntKind.i64 z0, Value.int IntKind.u64 (mixI (bits BinOp.xor IntKind.u64 t (mixI z0)))] 52)) w2.heap.size (bestTo t zs 1) t) := Lib.hid (by rw [H1.out]; exact mostAt_alloc _ _ _ _)
    clear hb2
    go_loopw [20] (fun i wr => ∃ k : Nat, k ≤ len - 1 ∧ i = .int .i64 k ∧ MostAt wr w2.heap.size (bestTo t zs (k + 1)) t ∧ Below w.heap.size w wr) (fun i _ => len - 1 - (intOf i).toNat)
    case atStart => exact ⟨0, Nat.zero_le _, rfl, HM0.out, HB0.out⟩
    case round =>
      obtain ⟨k, hk, rfl, hM, hb⟩ := hrel
      by_cases hlt : k < len - 1
      · obtain ⟨m0, m1, mf, mlt⟩ := hM
        obtain ⟨p0, p1⟩ := HP.out (k + 1) (by omega)
        have p0' : wr.cell? ⟨g, 2 + k * 2, none⟩ = some (.int .i64 (zs.getD (k + 1) 0)) := by
          rw [show 2 + k * 2 = (k + 1) * 2 by omega]; exact (hb.cell (p := ⟨g, (k + 1) * 2, none⟩) hg).trans p0
        have p1' : wr.cell? ⟨g, 2 + k * 2 + 1, none⟩ = some (.int .u64 (mixI (zs.getD (k + 1) 0))) := by
          rw [show 2 + k * 2 + 1 = (k + 1) * 2 + 1 by omega]; exact (hb.cell (p := ⟨g, (k + 1) * 2 + 1, none⟩) hg).trans p1
        have HSU := Lib.hid (bestTo_succ t zs (k + 1) (by omega) (by rw [HN.out]; omega))
        have hi1 := idB_iff.1 (idB_at HA.out (k + 1) (by rw [HN.out]; omega))
        have hb1 := idB_iff.1 (List.all_eq_true.1 HA.out _ (bestTo_mem t zs (k + 1) (by omega) (by rw [HN.out]; omega)))
        have HB := Lib.hid hb
        have hsz := hb.size
        clear hb p0 p1
        generalize zs.getD (k + 1) 0 = z at *
        generalize bestTo t zs (k + 1) = b at *
        have HMz := Lib.hid (mixI_bd z)
        try (exfalso; omega)
        all_goals
          have HW : Hid (∀ w', U64 (mixI z) → Calls Tryd.prog 39 #[.agg #[.int .i64 z, .int .u64 (mixI z)], .int .u64 t] w' fun e w'' => e = .returned (.agg #[.int .i64 z, .int .u64 (scoreI z t)]) ∧ Below w'.heap.size w' w'') := Lib.hid (fun w' h => wishOf_any _ _ _ h HU.out w')
          have HC : Hid (∀ w', Calls Tryd.prog 48 #[.agg #[.int .i64 z, .int .u64 (scoreI z t)], .agg #[.int .i64 b, .int .u64 (scoreI b t)]] w' fun e w'' => e = .returned (.int .i64 (wantC z (scoreI z t) b (scoreI b t))) ∧ Below w'.heap.size w' w'') := Lib.hid (fun w' => wantsMore_any z _ b _ (scoreI_bd _ _) (scoreI_bd _ _) hi1 hb1 w')
          have HQ := Lib.hid (wantC_more t z b)
          have HSA : ∀ w x, Hid (MostAt w x z t → MostAt w x z t) := fun w x => Lib.hid id
          have HD : Hid (∀ (w : World) (m : Nat), w.cell? ⟨m, 0, none⟩ = some (.int .i64 z) → w.cell? ⟨m, 1, none⟩ = some (.int .u64 (scoreI z t)) → (∀ j, w.frozen? ⟨m, j, none⟩ = false) → m < w.heap.size → MostAt w m z t) := Lib.hid (fun w m a b c d => ⟨a, b, c, d⟩)
          have HD2 : Hid (∀ (w : World) (m : Nat), w.cell? ⟨m, 0, none⟩ = some (.int .i64 b) → w.cell? ⟨m, 1, none⟩ = some (.int .u64 (scoreI b t)) → (∀ j, w.frozen? ⟨m, j, none⟩ = false) → m < w.heap.size → MostAt w m b t) := Lib.hid (fun w m a b c d => ⟨a, b, c, d⟩)
          generalize scoreI z t = sz at *
          generalize scoreI b t = sb at *
          generalize wantC z sz b sb = cw at *
          go_wp2_with fail
          refine (HW.out _ HMz.out).mono ?_
          rintro e w3 ⟨rfl, hb3⟩
          have q0 : w3.cell? ⟨w2.heap.size, 0, none⟩ = some (.int .i64 b) := by rw [hb3.cell (p := ⟨w2.heap.size, 0, none⟩) (by simp; omega), cell_alloc _ mlt]; exact m0
          have q1 : w3.cell? ⟨w2.heap.size, 1, none⟩ = some (.int .u64 sb) := by rw [hb3.cell (p := ⟨w2.heap.size, 1, none⟩) (by simp; omega), cell_alloc _ mlt]; exact m1
          have qf : ∀ j, w3.frozen? ⟨w2.heap.size, j, none⟩ = false := fun j => by rw [hb3.frozen (p := ⟨w2.heap.size, j, none⟩) (by simp; omega), frozen_alloc _ mlt]; exact mf j
          have qz0 : wr.heap.size + 1 ≤ w3.heap.size := by have := hb3.size; simp at this; omega
          have qz : w2.heap.size < w3.heap.size := by omega
          have HB3 : Hid (Below w.heap.size w w3) := Lib.hid ((HB.out.alloc HB.out.size _).trans (hb3.mono (by simp; omega)))
          clear m0 m1 mf p0' p1' hb3
          go_wp2_with fail
          refine (HC.out _).mono ?_
          rintro e w4 ⟨rfl, hb4⟩
          obtain ⟨y0, y1, yf, yl⟩ := cells2 w3 (.int .i64 z) (.int .u64 sz) 52
          have r0 : w4.cell? ⟨w2.heap.size, 0, none⟩ = some (.int .i64 b) := by rw [hb4.cell (p := ⟨w2.heap.size, 0, none⟩) (by simp; omega), cell_alloc _ qz]; exact q0
          have r1 : w4.cell? ⟨w2.heap.size, 1, none⟩ = some (.int .u64 sb) := by rw [hb4.cell (p := ⟨w2.heap.size, 1, none⟩) (by simp; omega), cell_alloc _ qz]; exact q1
          have rf : ∀ j, w4.frozen? ⟨w2.heap.size, j, none⟩ = false := fun j => by rw [hb4.frozen (p := ⟨w2.heap.size, j, none⟩) (by simp; omega), frozen_alloc _ qz]; exact qf j
          have t0 : w4.cell? ⟨w3.heap.size, 0, none⟩ = some (.int .i64 z) := by rw [hb4.cell (p := ⟨w3.heap.size, 0, none⟩) (by simp)]; exact y0
          have t1 : w4.cell? ⟨w3.heap.size, 1, none⟩ = some (.int .u64 sz) := by rw [hb4.cell (p := ⟨w3.heap.size, 1, none⟩) (by simp)]; exact y1
          have rz : w2.heap.size < w4.heap.size := by have := hb4.size; simp at this; omega
          have HB4 : Hid (Below w.heap.size w w4) := Lib.hid ((HB3.out.alloc HB3.out.size _).trans (hb4.mono (by simp; omega)))
          clear q0 q1 qf y0 y1 yf yl hb4
          cases hm : moreB t z b
          · have hd : decide (cw < 0) = false := by rw [HQ.out]; exact hm
            have HSU' : Hid (bestTo t zs (k + 1 + 1) = b) := Lib.hid (by rw [HSU.out, better_no hm])
            clear hm
            go_wp2
            go_roundw
            case rel => exact ⟨k + 1, by omega, by go_num, by rw [HSU'.out]; exact HD2.out _ _ r0 r1 rf rz, HB4.out⟩
            case measure => simp [intOf]; omega
          · have hd : decide (cw < 0) = true := by rw [HQ.out]; exact hm
            have HSU' : Hid (bestTo t zs (k + 1 + 1) = z) := Lib.hid (by rw [HSU.out, better_yes hm])
            clear hm
            go_wp2
            go_roundw
            case rel => exact ⟨k + 1, by omega, by go_num, by rw [HSU'.out]; exact HD.out _ _ (set2 r0 r1).1 (set2 r0 r1).2 (fun j => by simp [rf]) (by simpa using rz), (HB4.out.setCell (by omega) _).setCell (by omega) _⟩
            case measure => simp [intOf]; omega
      · obtain ⟨m0, m1, mf, mlt⟩ := hM
        have HB := Lib.hid hb
        obtain rfl : k = len - 1 := by omega
        have HE : Hid (bestTo t zs (len - 1 + 1) = bestOf t zs) := Lib.hid (by rw [show len - 1 + 1 = zs.length by rw [HN.out]; omega, bestTo_all])
        go_wp2
        go_ret
        exact ⟨ret_int HE.out, HB.out⟩
end Go.Proofs.YtgcoiabfejhgkaaDoor
