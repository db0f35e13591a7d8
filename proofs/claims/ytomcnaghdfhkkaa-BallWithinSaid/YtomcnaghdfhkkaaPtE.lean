/- Paths: a net's roads in memory; netOf. -/
import Derived.Test.YtomcnaghdfhkkaaPtD
import Derived.Test.YtomcnaghdfhkkaaPqA
import Derived.Test.YtomcnaghdfhkkaaNhB
namespace Go.Ow
open Go.RowKit Go.Lib
set_option linter.unusedVariables false
set_option linter.unusedSimpArgs false
/-- What a call that owns rows of types e and f from block 'base' on may write to: those alone. -/
structure Wr2 (base : Nat) (e f : TypeId) (w w' : World) : Prop where
  os : w'.os = w.os
  tape : w'.tape = w.tape
  output : w'.output = w.output
  size : w.heap.size ≤ w'.heap.size
  block : ∀ j, j < w.heap.size → (∀ cur t fz, w.heap[j]? = some (.cells cur t fz) → t = e ∨ t = f → j < base) → w'.heap[j]? = w.heap[j]?
theorem Wr2.refl (base : Nat) (e f : TypeId) (w : World) : Wr2 base e f w w := ⟨rfl, rfl, rfl, Nat.le_refl _, fun _ _ _ => rfl⟩
theorem Wr2.trans {base : Nat} {e f : TypeId} {a b c : World} (h : Wr2 base e f a b) (k : Wr2 base e f b c) : Wr2 base e f a c :=
  ⟨k.os.trans h.os, k.tape.trans h.tape, k.output.trans h.output, Nat.le_trans h.size k.size, fun j hj hc => by
    have e1 := h.block j hj hc
    exact (k.block j (Nat.lt_of_lt_of_le hj h.size) (fun cur t fz h2 => hc cur t fz (e1 ▸ h2))).trans e1⟩
theorem Wr2.of_below {base : Nat} {e f : TypeId} {w w' : World} (h : Below w.heap.size w w') : Wr2 base e f w w' := ⟨h.os, h.tape, h.output, h.size, fun j hj _ => h.block j hj⟩
theorem Wr2.below {base : Nat} {e f : TypeId} {w w' : World} (h : Wr2 base e f w w') (hb : base ≤ w.heap.size) : Below base w w' :=
  ⟨h.os, h.tape, h.output, h.size, fun j hj => h.block j (by omega) (fun _ _ _ _ _ => hj)⟩
theorem Wr2.kept {base : Nat} {e f t : TypeId} {w w' : World} (h : Wr2 base e f w w') {j : Nat} {cs : Array Value} {fz : Nat × Nat} (hj : w.heap[j]? = some (.cells cs t fz)) (h1 : t ≠ e) (h2 : t ≠ f) : w'.heap[j]? = some (.cells cs t fz) := by
  rw [h.block j (Array.getElem?_eq_some_iff.1 hj).1 (fun cur t' f2 h3 h4 => by rw [hj] at h3; cases h3; exact absurd h4 (by simp [h1, h2]))]
  exact hj
theorem Wr2.of_kq {base : Nat} {e f : TypeId} {k n : Nat} {v v' : Value} {xs : List Value} {w w' : World} (h : ∀ q, Kq q v v' w w') (ho : Own w base e k v n xs) : Wr2 base e f w w' := by
  refine ⟨(h 0).os, (h 0).tape, (h 0).output, (h 0).size, fun j hj hc => (h (j + 1)).block j hj (by omega) (fun n' c hv => ?_)⟩
  rcases ho with ⟨rfl, rfl, a, rfl⟩ | ⟨g, cap, cur, rfl, hbg, hg, hnc, hcm, hcs, hx⟩
  · cases hv; rfl
  · cases hv
    have := hc cur e (0, 0) hg (Or.inl rfl)
    omega
theorem Wr2.setCell {base : Nat} {e f : TypeId} {a b : World} (h : Wr2 base e f a b) {g o : Nat} {cs : Array Value} (hg : b.heap[g]? = some (.cells cs f (0, 0))) (hb : base ≤ g) (u : Value) : Wr2 base e f a (b.setCell ⟨g, o, none⟩ u) :=
  h.trans ⟨rfl, rfl, rfl, by simp [World.setCell], fun j hj hc => Below.heap_setCell _ _ _ _ (fun e2 => by
    have e3 : j = g := e2
    subst e3
    have := hc cs f (0, 0) hg (Or.inr rfl); omega)⟩
/-- No two rows share a block. -/
def Apart (vs : List Value) : Prop := ∀ i j (hi : i < vs.length) (hj : j < vs.length), i ≠ j → ∀ g n c n' c', vs[i] = .slice (some ⟨g, 0, none⟩) n c → vs[j] = .slice (some ⟨g, 0, none⟩) n' c' → c = 0 ∨ c' = 0
theorem apart_set {vs : List Value} {u : Nat} {v' : Value} {w w' : World} (h : Apart vs) (hu : u < vs.length) (hk : ∀ q, Kq q vs[u] v' w w') (hin : ∀ j (hj : j < vs.length) g n c, vs[j] = .slice (some ⟨g, 0, none⟩) n c → 0 < c → g < w.heap.size) : Apart (vs.set u v') := by
  have key : ∀ j (hj : j < vs.length), j ≠ u → ∀ g n c n' c', v' = .slice (some ⟨g, 0, none⟩) n c → vs[j] = .slice (some ⟨g, 0, none⟩) n' c' → c = 0 ∨ c' = 0 := by
    intro j hj hne g n c n' c' h1 h2
    by_cases hc' : c' = 0
    · exact Or.inr hc'
    · have hgs := hin j hj g n' c' h2 (by omega)
      have hnr : NotRow vs[u] g := fun n'' c'' e => (h u j hu hj (fun e => hne e.symm) g n'' c'' n' c' e h2).resolve_right hc'
      exact Or.inl ((hk 0).row g hgs hnr n c h1)
  intro i j hi hj hij g n c n' c' h1 h2
  rw [List.length_set] at hi hj
  rw [List.getElem_set] at h1 h2
  split at h1
  · rename_i e1
    split at h2
    · rename_i e2; exact absurd (e1.symm.trans e2) hij
    · rename_i e2
      exact key j hj (fun e => e2 e.symm) g n c n' c' h1 h2
  · rename_i e1
    split at h2
    · rename_i e2
      exact (key i hi (fun e => e1 e.symm) g n' c' n c h2 h1).symm
    · exact h i j hi hj hij g n c n' c' h1 h2
end Go.Ow
namespace Go.Proofs.Ytomcnaghdfhkkaa
open Go.RowKit Go.Lib Go.Fq Go.Pq Go.Nq Go.Ow
set_option linter.unusedVariables false
set_option linter.unusedSimpArgs false
set_option maxRecDepth 100000

def rdC (r : Rd) : List Value := [.int .i64 (r.1 : Int), .float .f64 (qw r.2)]
def rdRow (l : List Rd) : List Value := l.flatMap rdC
theorem rdC_len (r : Rd) : (rdC r).length = 2 := rfl
theorem rdC_one (r : Rd) : ∀ v ∈ rdC r, v.oneCell' = true := by
  intro v hv
  unfold rdC at hv
  simp only [List.mem_cons, List.not_mem_nil, or_false] at hv
  rcases hv with rfl | rfl <;> rfl
theorem rdRow_snoc (l : List Rd) (r : Rd) : rdRow (l ++ [r]) = rdRow l ++ rdC r := by simp [rdRow]
theorem rdInfo : (Try.prog.info? 112).map (fun i => (i.zero, i.size, i.bytes)) = some (some (.agg #[.int .i64 0, .float .f64 0]), 2, 16) := by kernel_rfl
/-- A row of roads in memory, in a block from lo on and ahead of B, for one that reads. -/
def RdIn (w : World) (lo B : Nat) (l : List Rd) (a : Option Addr) : Prop := l = [] ∨ ∃ b, a = some ⟨b, 0, none⟩ ∧ (lo ≤ b ∧ b < B) ∧ ∀ k (h : k < l.length), w.cell? ⟨b, k * 2, none⟩ = some (.int .i64 (l[k].1 : Int)) ∧ w.cell? ⟨b, k * 2 + 1, none⟩ = some (.float .f64 (qw l[k].2))
/-- All rows of roads, for one that reads. -/
def RdsIn (w : World) (lo B : Nat) (rows : List (List Rd)) (rv : Value) : Prop := ∃ rb c, rv = .slice (some ⟨rb, 0, none⟩) rows.length c ∧ (lo ≤ rb ∧ rb < B) ∧ ∀ u (h : u < rows.length), ∃ a c2, w.cell? ⟨rb, u, none⟩ = some (.slice a rows[u].length c2) ∧ RdIn w lo B rows[u] a
theorem RdIn.kept {w w' : World} {lo lo' B B' : Nat} {l : List Rd} {a : Option Addr} (h : RdIn w lo B l a) (k : ∀ i, lo ≤ i → i < B → w'.heap[i]? = w.heap[i]?) (hl : lo' ≤ lo) (hB : B ≤ B') : RdIn w' lo' B' l a := by
  rcases h with h | ⟨b, ha, hb, hc⟩
  · exact Or.inl h
  · exact Or.inr ⟨b, ha, ⟨Nat.le_trans hl hb.1, Nat.lt_of_lt_of_le hb.2 hB⟩, fun i hi => ⟨(World.cell?_of_block (k b hb.1 hb.2)).trans (hc i hi).1, (World.cell?_of_block (k b hb.1 hb.2)).trans (hc i hi).2⟩⟩
theorem RdsIn.kept {w w' : World} {lo lo' B B' : Nat} {rows : List (List Rd)} {rv : Value} (h : RdsIn w lo B rows rv) (k : ∀ i, lo ≤ i → i < B → w'.heap[i]? = w.heap[i]?) (hl : lo' ≤ lo) (hB : B ≤ B') : RdsIn w' lo' B' rows rv := by
  obtain ⟨rb, c, h1, h2, h3⟩ := h
  refine ⟨rb, c, h1, ⟨Nat.le_trans hl h2.1, Nat.lt_of_lt_of_le h2.2 hB⟩, fun u hu => ?_⟩
  obtain ⟨a, c2, h4, h5⟩ := h3 u hu
  exact ⟨a, c2, (World.cell?_of_block (k rb h2.1 h2.2)).trans h4, h5.kept k hl hB⟩
theorem RdsIn.below {w w' : World} {lo : Nat} {rows : List (List Rd)} {rv : Value} (h : RdsIn w lo w.heap.size rows rv) (hb : Below w.heap.size w w') : RdsIn w' lo w'.heap.size rows rv := h.kept (fun i _ hi => hb.block i hi) (Nat.le_refl _) hb.size
theorem RdsIn.low {w : World} {lo lo' B : Nat} {rows : List (List Rd)} {rv : Value} (h : RdsIn w lo B rows rv) (hl : lo' ≤ lo) : RdsIn w lo' B rows rv := h.kept (fun _ _ _ => rfl) hl (Nat.le_refl _)
/-- All rows of roads, for the one that makes them. -/
structure NetW (w : World) (base rb : Nat) (vs : List Value) (rows : List (List Rd)) : Prop where
  hb : base ≤ rb
  outer : w.heap[rb]? = some (.cells vs.toArray 110 (0, 0))
  len : vs.length = rows.length
  own : ∀ u (hu : u < vs.length) (hr : u < rows.length), Own w base 112 2 vs[u] rows[u].length (rdRow rows[u])
  apart : Apart vs
theorem NetW.keep {w w' : World} {base rb : Nat} {vs : List Value} {rows : List (List Rd)} (h : NetW w base rb vs rows) (hb : Below w.heap.size w w') : NetW w' base rb vs rows :=
  ⟨h.hb, (hb.block rb (Array.getElem?_eq_some_iff.1 h.outer).1).trans h.outer, h.len, fun u hu hr => (h.own u hu hr).below hb, h.apart⟩
theorem NetW.reads {w : World} {base rb : Nat} {vs : List Value} {rows : List (List Rd)} (h : NetW w base rb vs rows) (c : Nat) : RdsIn w base w.heap.size rows (.slice (some ⟨rb, 0, none⟩) rows.length c) := by
  refine ⟨rb, c, rfl, ⟨h.hb, (Array.getElem?_eq_some_iff.1 h.outer).1⟩, fun u hu => ?_⟩
  have hv : u < vs.length := by rw [h.len]; exact hu
  have ho := h.own u hv hu
  obtain ⟨a, c2, hs⟩ := ho.slice
  refine ⟨a, c2, ?_, ?_⟩
  · rw [cell_of_row w rb u _ _ (0, 0) h.outer]
    simp [hv, hs]
  · by_cases h0 : rows[u].length = 0
    · exact Or.inl (List.length_eq_zero_iff.1 h0)
    · obtain ⟨g, cap, e1, e2, e3, e4, e5⟩ := ho.range (by omega)
      rw [hs] at e1
      simp only [Value.slice.injEq] at e1
      refine Or.inr ⟨g, e1.1, ⟨e3, e2⟩, fun k hk => ?_⟩
      have g0 := fun j (hj : j < 2) => flat_get rdC 2 rdC_len rows[u] k j hk hj
      have g1 := e4 (k * 2 + 0) _ ((g0 0 (by omega)).trans rfl)
      have g2 := e4 (k * 2 + 1) _ ((g0 1 (by omega)).trans rfl)
      exact ⟨by simpa using g1, by simpa using g2⟩
/-- A road more. -/
theorem NetW.add {w : World} {base rb u vb : Nat} {vs : List Value} {rows : List (List Rd)} (h : NetW w base rb vs rows) (hu : u < rows.length) (r : Rd) (hb : base ≤ w.heap.size) (hvb : w.heap[vb]? = some (.cells (rdC r).toArray 112 (0, 0))) (hf : (rows.getD u []).length < 1048576) :
    ∃ v v' w' n a c, vs[u]? = some v ∧ v = .slice a n c ∧ (∀ ty, (Builtin.append_ #[110, 110] ty #[v, .slice (some ⟨vb, 0, none⟩) 1 1]).run Try.prog w = .ok v' w') ∧ w'.heap[rb]? = w.heap[rb]? ∧ NetW (w'.setCell ⟨rb, u, none⟩ v') base rb (vs.set u v') (addR rows u r) ∧ Wr2 base 112 110 w (w'.setCell ⟨rb, u, none⟩ v') ∧ (∃ a' c', v' = .slice a' (n + 1) c') ∧ Wr2 base 112 110 w w' := by
  have hv : u < vs.length := by rw [h.len]; exact hu
  have ho := h.own u hv hu
  have hgd : rows.getD u [] = rows[u] := by simp [List.getD_eq_getElem?_getD, hu]
  rw [hgd] at hf
  obtain ⟨a, c, hs⟩ := ho.slice
  obtain ⟨v', w', hrun, hrow, hkq⟩ := own_app (P := Try.prog) (vb := vb) (vs := rdC r) Try.underlying110 rdInfo rfl ho hb hvb rfl (rdC_one r) (by omega) (by omega)
  have hin : ∀ j (hj : j < vs.length) g n c, vs[j] = .slice (some ⟨g, 0, none⟩) n c → 0 < c → g < w.heap.size := by
    intro j hj g n c e hc
    rcases h.own j hj (by rw [← h.len]; exact hj) with ⟨_, _, a, e2⟩ | ⟨g', cap, cur, e2, hbg, hg, _⟩
    · rw [e2] at e; cases e; omega
    · rw [e2] at e; cases e; exact (Array.getElem?_eq_some_iff.1 hg).1
  have hrb := (Array.getElem?_eq_some_iff.1 h.outer).1
  have hnr : NotRow vs[u] rb := by
    intro n' c' e
    rcases ho with ⟨_, _, a, e2⟩ | ⟨g', cap, cur, e2, hbg, hg, _⟩
    · rw [e2] at e; cases e; rfl
    · rw [e2] at e
      simp only [Value.slice.injEq, Option.some.injEq, Addr.mk.injEq, and_true] at e
      obtain ⟨rfl, _⟩ := e
      rw [h.outer] at hg; cases hg
  have hq := ((hkq (rb + 1)).block rb hrb (by omega) hnr)
  have hq2 := hq.trans h.outer
  have hW := Wr2.of_kq (f := 110) hkq ho
  have hgn : ∀ (o : Nat) (x : Value) {e : TypeId} {base' k n : Nat} {v0 : Value} {xs : List Value}, e ≠ 110 → Own w' base' e k v0 n xs → Own (w'.setCell ⟨rb, o, none⟩ x) base' e k v0 n xs := fun o x e base' k n v0 xs hne h0 =>
    h0.keep (fun j cur hj => Below.heap_setCell _ _ _ _ (heap_ne hj hq2 hne))
  refine ⟨vs[u], v', w', rows[u].length, a, c, by simp [hv], hs, hrun, hq, ⟨h.hb, ?_, ?_, ?_, apart_set h.apart hv hkq hin⟩, hW.setCell hq2 h.hb _, ?_, hW⟩
  · rw [heap_setCell_same w' rb u _ _ v' hq2]
    simp
  · rw [List.length_set, addR_len]; exact h.len
  · intro j hj hr
    rw [List.length_set] at hj
    refine hgn u v' (by decide) ?_
    rw [addR_len] at hr
    have hgr : (addR rows u r)[j]'(by rw [addR_len]; exact hr) = (addR rows u r).getD j [] := by simp [List.getD_eq_getElem?_getD, addR_len, hr]
    rw [hgr, addR_at r hu j, List.getElem_set]
    by_cases e : u = j
    · subst e
      rw [if_pos rfl, if_pos rfl, hgd, List.length_append, rdRow_snoc]
      exact hrow
    · rw [if_neg e, if_neg (fun e2 => e e2.symm)]
      have hgj : rows.getD j [] = rows[j] := by simp [List.getD_eq_getElem?_getD, hr]
      rw [hgj]
      have hoj := h.own j hj hr
      rcases hoj with ⟨h1, h2, h3⟩ | ⟨g, cap, cur, e2, hbg, hg, hnc, hcm, hcs, hx⟩
      · exact Or.inl ⟨h1, h2, h3⟩
      · by_cases hc0 : cap = 0
        · subst hc0
          have hl0 : rows[j].length = 0 := by omega
          refine Or.inl ⟨hl0, by rw [← hx, hl0]; simp, some ⟨g, 0, none⟩, by rw [e2, hl0]⟩
        · refine Or.inr ⟨g, cap, cur, e2, hbg, ?_, hnc, hcm, hcs, hx⟩
          rw [(hkq (g + 1)).block g (Array.getElem?_eq_some_iff.1 hg).1 (by omega) (fun n' c' e3 => (h.apart u j hv hj e g n' c' _ _ e3 e2).resolve_right hc0)]
          exact hg
  · obtain ⟨a', c', e2⟩ := hrow.slice
    exact ⟨a', c', e2⟩
end Go.Proofs.Ytomcnaghdfhkkaa
