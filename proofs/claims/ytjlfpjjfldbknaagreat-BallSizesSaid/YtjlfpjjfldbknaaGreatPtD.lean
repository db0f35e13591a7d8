/- Paths: where a router stands. Paths: a net's roads in memory; netOf. Paths: netOf. -/
import Derived.Test.YtjlfpjjfldbknaaGreatNgA
import Derived.Test.YtjlfpjjfldbknaaGreatPtC
import Derived.Test.YtjlfpjjfldbknaaGreatPqA
import Derived.Test.YtjlfpjjfldbknaaGreatNhB
import Derived.Deep.DeepCutAuto
section
namespace Go.Proofs.YtjlfpjjfldbknaaGreat
open Go.RowKit Go.Lib Go.Nq
set_option linter.unusedVariables false
set_option linter.unusedSimpArgs false
set_option maxRecDepth 100000

theorem pFind1_any (n : Nd) (x : Int) (w : World) : Calls Tryz.prog 99 #[.agg #[.int .i64 n.id, .bool n.up, .bool n.mark], .int .i64 x] w fun e w' => e = .returned (.int .i64 (cmpI n.id x)) ∧ Below w.heap.size w w' := by
  go_enter Tryz.func99, Tryz.ntmps99
  go_wp2_with (go_at_call 34; refine (gCmp_any _ _ _).mono ?_; rintro e w' ⟨rfl, rfl⟩)
  go_ret
  exact ⟨rfl, gAl _ _⟩
set_option maxHeartbeats 4000000 in
theorem pSearch_any (l : List Nd) (a : Option Addr) (c : Nat) (x : Int) (w : World) (hin : NodesIn w w.heap.size l a) (h : NodesP l) (hn : l.length < 4611686018427387904) :
    Calls Tryz.prog 32 #[.slice a l.length c, .int .i64 x, .func (.func 99) #[] #[]] w fun e w' => e = .returned (.tuple #[.int .i64 (Nq.ahead l x : Int), .bool (has l x)]) ∧ Below w.heap.size w w' := by
  have HF := Lib.hid hin
  have HS := Lib.hid (ahead_spec h x)
  have HA := Lib.hid (has_at h x)
  have HN := Lib.hid hn
  clear hin h
  go_enter Tryz.func32, Tryz.ntmps32
  go_wp2_with fail
  go_loopw [9, 10] (fun u v wr => ∃ i j : Nat, u = .int .i64 (i : Int) ∧ v = .int .i64 (j : Int) ∧ i ≤ j ∧ j ≤ l.length ∧ Below w.heap.size w wr ∧ i ≤ Nq.ahead l x ∧ Nq.ahead l x ≤ j) (fun u v _ => (RowKit.intOf v).toNat - (RowKit.intOf u).toNat)
  case atStart => exact ⟨0, l.length, rfl, rfl, Nat.zero_le _, Nat.le_refl _, Below.refl _ _, Nat.zero_le _, HS.out.1⟩
  case round =>
    obtain ⟨i, j, rfl, rfl, hij, hjn, hbel, hia, haj⟩ := hrel
    have HB := Lib.hid hbel
    by_cases hlt : i < j
    · have hlti : (i : Int) < (j : Int) := by omega
      obtain ⟨m, hmid⟩ : ∃ m, (i + j) / 2 = m := ⟨_, rfl⟩
      have hm : m < l.length := by omega
      obtain ⟨b, o, rfl, hb, hc⟩ := (HF.out.kept (fun k hk => hbel.block k hk) hbel.size).at m hm
      have HIN := Lib.hid (HS.out.2 m hm)
      obtain ⟨c0, c1, c2⟩ := hc m hm
      have HC := Lib.hid (fun W => pFind1_any l[m] x W)
      clear hc hbel
      generalize l[m] = nd at *
      have hn1 := HN.out
      have e1 : IntKind.i64.wrap ((i : Int) + (j : Int)) = (i : Int) + (j : Int) := by rw [IntKind.wrap_i64]; omega
      have e2 : IntKind.u64.wrap ((i : Int) + (j : Int)) = (i : Int) + (j : Int) := by rw [IntKind.wrap_u64]; omega
      have e3 : ((i : Int) + (j : Int)) / 2 = (m : Int) := by omega
      have hmi : (m : Int) < (l.length : Int) := by omega
      have hm0 : (0 : Int) ≤ (m : Int) := by omega
      have e4 : IntKind.i64.wrap ((m : Int) + 1) = (m : Int) + 1 := by rw [IntKind.wrap_i64]; omega
      go_upto_region 5 with (fail)
      try rw [e3]
      by_cases hx : nd.id < x
      · have hneg : cmpI nd.id x < 0 := cmp_neg.2 hx
        have HLT := Lib.hid (HIN.out.2 hx)
        go_wp2_with (go_at_call 99; refine (HC.out _).mono ?_; rintro e w' ⟨rfl, hb2⟩; have HB2 := Lib.hid (gNx HB.out hb2); clear hb2)
        refine ⟨⟨m + 1, j, by simp, rfl, by omega, hjn, HB2.out, by have := HLT.out; omega, haj⟩, ?_⟩
        simp [RowKit.intOf]; omega
      · have hneg : ¬ cmpI nd.id x < 0 := fun hh => hx (cmp_neg.1 hh)
        have HGE : Hid (Nq.ahead l x ≤ m) := Lib.hid (by have h1 := HIN.out; by_cases hq : m < Nq.ahead l x; exact absurd (h1.1 hq) hx; omega)
        go_wp2_with (go_at_call 99; refine (HC.out _).mono ?_; rintro e w' ⟨rfl, hb2⟩; have HB2 := Lib.hid (gNx HB.out hb2); clear hb2)
        refine ⟨⟨i, m, rfl, by simp, by omega, by omega, HB2.out, hia, HGE.out⟩, ?_⟩
        simp [RowKit.intOf]; omega
    · have hji : ¬ (i : Int) < (j : Int) := by omega
      have hi : i = Nq.ahead l x := by omega
      by_cases hk : i < l.length
      · have hki : (i : Int) < (l.length : Int) := by omega
        have hk0 : (0 : Int) ≤ (i : Int) := by omega
        obtain ⟨b, o, rfl, hb, hc⟩ := (HF.out.kept (fun k hk => hbel.block k hk) hbel.size).at i hk
        obtain ⟨c0, c1, c2⟩ := hc i hk
        have HC := Lib.hid (fun W => pFind1_any l[i] x W)
        have HR : Hid (has l x = decide (cmpI l[i].id x = 0)) := Lib.hid (by
          have h1 := HA.out
          by_cases hq : l[i].id = x
          · rw [h1.2 ⟨by omega, by simpa only [← hi] using hq⟩]
            simp [cmp_zero.2 hq]
          · have h2 : has l x = false := by
              cases hh : has l x with
              | false => rfl
              | true =>
                obtain ⟨_, h3⟩ := h1.1 hh
                exact absurd (by simpa only [← hi] using h3) hq
            rw [h2]
            symm; simp; exact fun e => hq (cmp_zero.1 e))
        clear hc hbel
        have hv := HR.out
        generalize l[i] = nd at *
        generalize cmpI nd.id x = v at *
        have HI := Lib.hid hi
        clear hi
        by_cases h0 : v = 0
        · subst h0
          go_wp2_with (go_at_call 99; refine (HC.out _).mono ?_; rintro e w' ⟨rfl, hb2⟩; have HB2 := Lib.hid (gNx HB.out hb2); clear hb2)
          refine bodyPost_ret (v := .tuple #[.int .i64 (i : Int), .bool true]) (by simp [results, Tryz.results32, go_sem]) rfl ?_
          exact ⟨by rw [HR.out, HI.out]; simp, HB2.out⟩
        · have hb0 : (v == 0) = false := by simp [h0]
          go_wp2_with (go_at_call 99; refine (HC.out _).mono ?_; rintro e w' ⟨rfl, hb2⟩; have HB2 := Lib.hid (gNx HB.out hb2); clear hb2)
          refine bodyPost_ret (v := .tuple #[.int .i64 (i : Int), .bool false]) (by simp [results, Tryz.results32, go_sem]) rfl ?_
          exact ⟨by rw [HR.out, HI.out]; simp [h0], HB2.out⟩
      · have hki : ¬ (i : Int) < (l.length : Int) := by omega
        have HR : Hid (has l x = false) := Lib.hid (by
          cases hh : has l x with
          | false => rfl
          | true => obtain ⟨h2, _⟩ := HA.out.1 hh; omega)
        have HI := Lib.hid hi
        clear hi hbel
        go_wp2_with fail
        refine bodyPost_ret (v := .tuple #[.int .i64 (i : Int), .bool false]) (by simp [results, Tryz.results32, go_sem]) rfl ?_
        exact ⟨by rw [HR.out, HI.out], HB.out⟩
set_option maxHeartbeats 4000000 in
theorem pPlace_any (l : List Nd) (a : Option Addr) (c : Nat) (rv : Value) (x : Int) (w : World) (hin : NodesIn w w.heap.size l a) (h : NodesP l) (hn : l.length < 4611686018427387904) (h1 : rv.oneCell' = true) :
    Calls Tryz.prog 96 #[.agg #[.slice a l.length c, rv], .int .i64 x] w fun e w' => e = .returned (.tuple #[.int .i64 (Nq.ahead l x : Int), .bool (has l x)]) ∧ Below w.heap.size w w' := by
  obtain ⟨W1, hW1⟩ : ∃ W1, W1 = w.alloc (.cells #[.slice a l.length c, rv] 125) := ⟨_, rfl⟩
  have b1 : Below w.heap.size w W1 := by rw [hW1]; exact gAl _ _
  have r1 : W1.heap[w.heap.size]? = some (.cells #[.slice a l.length c, rv] 125 (0, 0)) := by rw [hW1]; exact heap_alloc_new w _
  have c0 : W1.cell? ⟨w.heap.size, 0, none⟩ = some (.slice a l.length c) := by rw [cell_of_row W1 _ 0 _ _ (0, 0) r1]; rfl
  have HC := Lib.hid (pSearch_any l a c x W1 (hin.kept (fun i hi => b1.block i hi) b1.size) h hn)
  have HB1 := Lib.hid b1
  clear hin h hn b1 r1
  go_enter Tryz.func96, Tryz.ntmps96
  go_upto_region 1 with (fail)
  rw [← hW1]
  clear hW1
  go_wp2_with (go_at_call 32; refine HC.out.mono ?_; rintro e w' ⟨rfl, hb2⟩; have HB2 := Lib.hid (gNx HB1.out hb2); clear hb2)
  refine bodyPost_ret (v := .tuple #[.int .i64 (Nq.ahead l x : Int), .bool (has l x)]) (by simp [results, Tryz.results96, go_sem]) rfl ?_
  exact ⟨rfl, HB2.out⟩
end Go.Proofs.YtjlfpjjfldbknaaGreat
end

section
namespace Go.Ow
open Go.RowKit Go.Lib
set_option linter.unusedVariables false
set_option linter.unusedSimpArgs false
/-- What a call that owns rows of types e and f from block 'base' on may write to: those alone. -/
structure Wr2 (base : Nat) (e f : TypeId) (w w' : World) : Prop where
  os : w'.os = w.os
  tape : w'.tape = w.tape
  output : w'.output = w.output
  size : w.heap.size ≤ w'.heap.size
  block : ∀ j, j < w.heap.size → (∀ cur t fz, w.heap[j]? = some (.cells cur t fz) → t = e ∨ t = f → j < base) → w'.heap[j]? = w.heap[j]?
theorem Wr2.refl (base : Nat) (e f : TypeId) (w : World) : Wr2 base e f w w := ⟨rfl, rfl, rfl, Nat.le_refl _, fun _ _ _ => rfl⟩
theorem Wr2.trans {base : Nat} {e f : TypeId} {a b c : World} (h : Wr2 base e f a b) (k : Wr2 base e f b c) : Wr2 base e f a c :=
  ⟨k.os.trans h.os, k.tape.trans h.tape, k.output.trans h.output, Nat.le_trans h.size k.size, fun j hj hc => by
    have e1 := h.block j hj hc
    exact (k.block j (Nat.lt_of_lt_of_le hj h.size) (fun cur t fz h2 => hc cur t fz (e1 ▸ h2))).trans e1⟩
theorem Wr2.of_below {base : Nat} {e f : TypeId} {w w' : World} (h : Below w.heap.size w w') : Wr2 base e f w w' := ⟨h.os, h.tape, h.output, h.size, fun j hj _ => h.block j hj⟩
theorem Wr2.below {base : Nat} {e f : TypeId} {w w' : World} (h : Wr2 base e f w w') (hb : base ≤ w.heap.size) : Below base w w' :=
  ⟨h.os, h.tape, h.output, h.size, fun j hj => h.block j (by omega) (fun _ _ _ _ _ => hj)⟩
theorem Wr2.kept {base : Nat} {e f t : TypeId} {w w' : World} (h : Wr2 base e f w w') {j : Nat} {cs : Array Value} {fz : Nat × Nat} (hj : w.heap[j]? = some (.cells cs t fz)) (h1 : t ≠ e) (h2 : t ≠ f) : w'.heap[j]? = some (.cells cs t fz) := by
  rw [h.block j (Array.getElem?_eq_some_iff.1 hj).1 (fun cur t' f2 h3 h4 => by rw [hj] at h3; cases h3; exact absurd h4 (by simp [h1, h2]))]
  exact hj
theorem Wr2.of_kq {base : Nat} {e f : TypeId} {k n : Nat} {v v' : Value} {xs : List Value} {w w' : World} (h : ∀ q, Kq q v v' w w') (ho : Own w base e k v n xs) : Wr2 base e f w w' := by
  refine ⟨(h 0).os, (h 0).tape, (h 0).output, (h 0).size, fun j hj hc => (h (j + 1)).block j hj (by omega) (fun n' c hv => ?_)⟩
  rcases ho with ⟨rfl, rfl, a, rfl⟩ | ⟨g, cap, cur, rfl, hbg, hg, hnc, hcm, hcs, hx⟩
  · cases hv; rfl
  · cases hv
    have := hc cur e (0, 0) hg (Or.inl rfl)
    omega
theorem Wr2.setCell {base : Nat} {e f : TypeId} {a b : World} (h : Wr2 base e f a b) {g o : Nat} {cs : Array Value} (hg : b.heap[g]? = some (.cells cs f (0, 0))) (hb : base ≤ g) (u : Value) : Wr2 base e f a (b.setCell ⟨g, o, none⟩ u) :=
  h.trans ⟨rfl, rfl, rfl, by simp [World.setCell], fun j hj hc => Below.heap_setCell _ _ _ _ (fun e2 => by
    have e3 : j = g := e2
    subst e3
    have := hc cs f (0, 0) hg (Or.inr rfl); omega)⟩
/-- No two rows share a block. -/
def Apart (vs : List Value) : Prop := ∀ i j (hi : i < vs.length) (hj : j < vs.length), i ≠ j → ∀ g n c n' c', vs[i] = .slice (some ⟨g, 0, none⟩) n c → vs[j] = .slice (some ⟨g, 0, none⟩) n' c' → c = 0 ∨ c' = 0
theorem apart_set {vs : List Value} {u : Nat} {v' : Value} {w w' : World} (h : Apart vs) (hu : u < vs.length) (hk : ∀ q, Kq q vs[u] v' w w') (hin : ∀ j (hj : j < vs.length) g n c, vs[j] = .slice (some ⟨g, 0, none⟩) n c → 0 < c → g < w.heap.size) : Apart (vs.set u v') := by
  have key : ∀ j (hj : j < vs.length), j ≠ u → ∀ g n c n' c', v' = .slice (some ⟨g, 0, none⟩) n c → vs[j] = .slice (some ⟨g, 0, none⟩) n' c' → c = 0 ∨ c' = 0 := by
    intro j hj hne g n c n' c' h1 h2
    by_cases hc' : c' = 0
    · exact Or.inr hc'
    · have hgs := hin j hj g n' c' h2 (by omega)
      have hnr : NotRow vs[u] g := fun n'' c'' e => (h u j hu hj (fun e => hne e.symm) g n'' c'' n' c' e h2).resolve_right hc'
      exact Or.inl ((hk 0).row g hgs hnr n c h1)
  intro i j hi hj hij g n c n' c' h1 h2
  rw [List.length_set] at hi hj
  rw [List.getElem_set] at h1 h2
  split at h1
  · rename_i e1
    split at h2
    · rename_i e2; exact absurd (e1.symm.trans e2) hij
    · rename_i e2
      exact key j hj (fun e => e2 e.symm) g n c n' c' h1 h2
  · rename_i e1
    split at h2
    · rename_i e2
      exact (key i hi (fun e => e1 e.symm) g n' c' n c h2 h1).symm
    · exact h i j hi hj hij g n c n' c' h1 h2
end Go.Ow
namespace Go.Proofs.YtjlfpjjfldbknaaGreat
open Go.RowKit Go.Lib Go.Fq Go.Pq Go.Nq Go.Ow
set_option linter.unusedVariables false
set_option linter.unusedSimpArgs false
set_option maxRecDepth 100000

def rdC (r : Rd) : List Value := [.int .i64 (r.1 : Int), .float .f64 (qw r.2)]
def rdRow (l : List Rd) : List Value := l.flatMap rdC
theorem rdC_len (r : Rd) : (rdC r).length = 2 := rfl
theorem rdC_one (r : Rd) : ∀ v ∈ rdC r, v.oneCell' = true := by
  intro v hv
  unfold rdC at hv
  simp only [List.mem_cons, List.not_mem_nil, or_false] at hv
  rcases hv with rfl | rfl <;> rfl
theorem rdRow_snoc (l : List Rd) (r : Rd) : rdRow (l ++ [r]) = rdRow l ++ rdC r := by simp [rdRow]
theorem rdInfo : (Tryz.prog.info? 143).map (fun i => (i.zero, i.size, i.bytes)) = some (some (.agg #[.int .i64 0, .float .f64 0]), 2, 16) := by kernel_rfl
/-- A row of roads in memory, in a block from lo on and ahead of B, for one that reads. -/
def RdIn (w : World) (lo B : Nat) (l : List Rd) (a : Option Addr) : Prop := l = [] ∨ ∃ b, a = some ⟨b, 0, none⟩ ∧ (lo ≤ b ∧ b < B) ∧ ∀ k (h : k < l.length), w.cell? ⟨b, k * 2, none⟩ = some (.int .i64 (l[k].1 : Int)) ∧ w.cell? ⟨b, k * 2 + 1, none⟩ = some (.float .f64 (qw l[k].2))
/-- All rows of roads, for one that reads. -/
def RdsIn (w : World) (lo B : Nat) (rows : List (List Rd)) (rv : Value) : Prop := ∃ rb c, rv = .slice (some ⟨rb, 0, none⟩) rows.length c ∧ (lo ≤ rb ∧ rb < B) ∧ ∀ u (h : u < rows.length), ∃ a c2, w.cell? ⟨rb, u, none⟩ = some (.slice a rows[u].length c2) ∧ RdIn w lo B rows[u] a
theorem RdIn.kept {w w' : World} {lo lo' B B' : Nat} {l : List Rd} {a : Option Addr} (h : RdIn w lo B l a) (k : ∀ i, lo ≤ i → i < B → w'.heap[i]? = w.heap[i]?) (hl : lo' ≤ lo) (hB : B ≤ B') : RdIn w' lo' B' l a := by
  rcases h with h | ⟨b, ha, hb, hc⟩
  · exact Or.inl h
  · exact Or.inr ⟨b, ha, ⟨Nat.le_trans hl hb.1, Nat.lt_of_lt_of_le hb.2 hB⟩, fun i hi => ⟨(World.cell?_of_block (k b hb.1 hb.2)).trans (hc i hi).1, (World.cell?_of_block (k b hb.1 hb.2)).trans (hc i hi).2⟩⟩
theorem RdsIn.kept {w w' : World} {lo lo' B B' : Nat} {rows : List (List Rd)} {rv : Value} (h : RdsIn w lo B rows rv) (k : ∀ i, lo ≤ i → i < B → w'.heap[i]? = w.heap[i]?) (hl : lo' ≤ lo) (hB : B ≤ B') : RdsIn w' lo' B' rows rv := by
  obtain ⟨rb, c, h1, h2, h3⟩ := h
  refine ⟨rb, c, h1, ⟨Nat.le_trans hl h2.1, Nat.lt_of_lt_of_le h2.2 hB⟩, fun u hu => ?_⟩
  obtain ⟨a, c2, h4, h5⟩ := h3 u hu
  exact ⟨a, c2, (World.cell?_of_block (k rb h2.1 h2.2)).trans h4, h5.kept k hl hB⟩
theorem RdsIn.below {w w' : World} {lo : Nat} {rows : List (List Rd)} {rv : Value} (h : RdsIn w lo w.heap.size rows rv) (hb : Below w.heap.size w w') : RdsIn w' lo w'.heap.size rows rv := h.kept (fun i _ hi => hb.block i hi) (Nat.le_refl _) hb.size
theorem RdsIn.low {w : World} {lo lo' B : Nat} {rows : List (List Rd)} {rv : Value} (h : RdsIn w lo B rows rv) (hl : lo' ≤ lo) : RdsIn w lo' B rows rv := h.kept (fun _ _ _ => rfl) hl (Nat.le_refl _)
/-- All rows of roads, for the one that makes them. -/
structure NetW (w : World) (base rb : Nat) (vs : List Value) (rows : List (List Rd)) : Prop where
  hb : base ≤ rb
  outer : w.heap[rb]? = some (.cells vs.toArray 141 (0, 0))
  len : vs.length = rows.length
  own : ∀ u (hu : u < vs.length) (hr : u < rows.length), Own w base 143 2 vs[u] rows[u].length (rdRow rows[u])
  apart : Apart vs
theorem NetW.keep {w w' : World} {base rb : Nat} {vs : List Value} {rows : List (List Rd)} (h : NetW w base rb vs rows) (hb : Below w.heap.size w w') : NetW w' base rb vs rows :=
  ⟨h.hb, (hb.block rb (Array.getElem?_eq_some_iff.1 h.outer).1).trans h.outer, h.len, fun u hu hr => (h.own u hu hr).below hb, h.apart⟩
theorem NetW.reads {w : World} {base rb : Nat} {vs : List Value} {rows : List (List Rd)} (h : NetW w base rb vs rows) (c : Nat) : RdsIn w base w.heap.size rows (.slice (some ⟨rb, 0, none⟩) rows.length c) := by
  refine ⟨rb, c, rfl, ⟨h.hb, (Array.getElem?_eq_some_iff.1 h.outer).1⟩, fun u hu => ?_⟩
  have hv : u < vs.length := by rw [h.len]; exact hu
  have ho := h.own u hv hu
  obtain ⟨a, c2, hs⟩ := ho.slice
  refine ⟨a, c2, ?_, ?_⟩
  · rw [cell_of_row w rb u _ _ (0, 0) h.outer]
    simp [hv, hs]
  · by_cases h0 : rows[u].length = 0
    · exact Or.inl (List.length_eq_zero_iff.1 h0)
    · obtain ⟨g, cap, e1, e2, e3, e4, e5⟩ := ho.range (by omega)
      rw [hs] at e1
      simp only [Value.slice.injEq] at e1
      refine Or.inr ⟨g, e1.1, ⟨e3, e2⟩, fun k hk => ?_⟩
      have g0 := fun j (hj : j < 2) => flat_get rdC 2 rdC_len rows[u] k j hk hj
      have g1 := e4 (k * 2 + 0) _ ((g0 0 (by omega)).trans rfl)
      have g2 := e4 (k * 2 + 1) _ ((g0 1 (by omega)).trans rfl)
      exact ⟨by simpa using g1, by simpa using g2⟩
/-- A road more. -/
theorem NetW.add {w : World} {base rb u vb : Nat} {vs : List Value} {rows : List (List Rd)} (h : NetW w base rb vs rows) (hu : u < rows.length) (r : Rd) (hb : base ≤ w.heap.size) (hvb : w.heap[vb]? = some (.cells (rdC r).toArray 143 (0, 0))) (hf : (rows.getD u []).length < 1048576) :
    ∃ v v' w' n a c, vs[u]? = some v ∧ v = .slice a n c ∧ (∀ ty, (Builtin.append_ #[141, 141] ty #[v, .slice (some ⟨vb, 0, none⟩) 1 1]).run Tryz.prog w = .ok v' w') ∧ w'.heap[rb]? = w.heap[rb]? ∧ NetW (w'.setCell ⟨rb, u, none⟩ v') base rb (vs.set u v') (addR rows u r) ∧ Wr2 base 143 141 w (w'.setCell ⟨rb, u, none⟩ v') ∧ (∃ a' c', v' = .slice a' (n + 1) c') ∧ Wr2 base 143 141 w w' := by
  have hv : u < vs.length := by rw [h.len]; exact hu
  have ho := h.own u hv hu
  have hgd : rows.getD u [] = rows[u] := by simp [List.getD_eq_getElem?_getD, hu]
  rw [hgd] at hf
  obtain ⟨a, c, hs⟩ := ho.slice
  obtain ⟨v', w', hrun, hrow, hkq⟩ := own_app (P := Tryz.prog) (vb := vb) (vs := rdC r) Tryz.underlying141 rdInfo rfl ho hb hvb rfl (rdC_one r) (by omega) (by omega)
  have hin : ∀ j (hj : j < vs.length) g n c, vs[j] = .slice (some ⟨g, 0, none⟩) n c → 0 < c → g < w.heap.size := by
    intro j hj g n c e hc
    rcases h.own j hj (by rw [← h.len]; exact hj) with ⟨_, _, a, e2⟩ | ⟨g', cap, cur, e2, hbg, hg, _⟩
    · rw [e2] at e; cases e; omega
    · rw [e2] at e; cases e; exact (Array.getElem?_eq_some_iff.1 hg).1
  have hrb := (Array.getElem?_eq_some_iff.1 h.outer).1
  have hnr : NotRow vs[u] rb := by
    intro n' c' e
    rcases ho with ⟨_, _, a, e2⟩ | ⟨g', cap, cur, e2, hbg, hg, _⟩
    · rw [e2] at e; cases e; rfl
    · rw [e2] at e
      simp only [Value.slice.injEq, Option.some.injEq, Addr.mk.injEq, and_true] at e
      obtain ⟨rfl, _⟩ := e
      rw [h.outer] at hg; cases hg
  have hq := ((hkq (rb + 1)).block rb hrb (by omega) hnr)
  have hq2 := hq.trans h.outer
  have hW := Wr2.of_kq (f := 141) hkq ho
  have hgn : ∀ (o : Nat) (x : Value) {e : TypeId} {base' k n : Nat} {v0 : Value} {xs : List Value}, e ≠ 141 → Own w' base' e k v0 n xs → Own (w'.setCell ⟨rb, o, none⟩ x) base' e k v0 n xs := fun o x e base' k n v0 xs hne h0 =>
    h0.keep (fun j cur hj => Below.heap_setCell _ _ _ _ (heap_ne hj hq2 hne))
  refine ⟨vs[u], v', w', rows[u].length, a, c, by simp [hv], hs, hrun, hq, ⟨h.hb, ?_, ?_, ?_, apart_set h.apart hv hkq hin⟩, hW.setCell hq2 h.hb _, ?_, hW⟩
  · rw [heap_setCell_same w' rb u _ _ v' hq2]
    simp
  · rw [List.length_set, addR_len]; exact h.len
  · intro j hj hr
    rw [List.length_set] at hj
    refine hgn u v' (by decide) ?_
    rw [addR_len] at hr
    have hgr : (addR rows u r)[j]'(by rw [addR_len]; exact hr) = (addR rows u r).getD j [] := by simp [List.getD_eq_getElem?_getD, addR_len, hr]
    rw [hgr, addR_at r hu j, List.getElem_set]
    by_cases e : u = j
    · subst e
      rw [if_pos rfl, if_pos rfl, hgd, List.length_append, rdRow_snoc]
      exact hrow
    · rw [if_neg e, if_neg (fun e2 => e e2.symm)]
      have hgj : rows.getD j [] = rows[j] := by simp [List.getD_eq_getElem?_getD, hr]
      rw [hgj]
      have hoj := h.own j hj hr
      rcases hoj with ⟨h1, h2, h3⟩ | ⟨g, cap, cur, e2, hbg, hg, hnc, hcm, hcs, hx⟩
      · exact Or.inl ⟨h1, h2, h3⟩
      · by_cases hc0 : cap = 0
        · subst hc0
          have hl0 : rows[j].length = 0 := by omega
          refine Or.inl ⟨hl0, by rw [← hx, hl0]; simp, some ⟨g, 0, none⟩, by rw [e2, hl0]⟩
        · refine Or.inr ⟨g, cap, cur, e2, hbg, ?_, hnc, hcm, hcs, hx⟩
          rw [(hkq (g + 1)).block g (Array.getElem?_eq_some_iff.1 hg).1 (by omega) (fun n' c' e3 => (h.apart u j hv hj e g n' c' _ _ e3 e2).resolve_right hc0)]
          exact hg
  · obtain ⟨a', c', e2⟩ := hrow.slice
    exact ⟨a', c', e2⟩
end Go.Proofs.YtjlfpjjfldbknaaGreat
end

section
namespace Go.Proofs.YtjlfpjjfldbknaaGreat
open Go.RowKit Go.Lib Go.Fq Go.Pq Go.Iq Go.Nq Go.Ow
set_option linter.unusedVariables false
set_option linter.unusedSimpArgs false
set_option maxRecDepth 100000

theorem rwInfo : (Tryz.prog.info? 141).map (fun i => (i.zero, i.size, i.bytes)) = some (some (.slice none 0 0), 1, 24) := by kernel_rfl
theorem make_rows (n : Nat) (hn : n ≤ 1048576) (V : World) : (Instr.makeSlice 123 (.int .i64 (n : Int)) (.int .i64 (n : Int))).run Tryz.prog V = .ok (.slice (some ⟨V.heap.size, 0, none⟩) n n) (V.alloc (.cells (List.replicate n (.slice none 0 0)).toArray 141)) := by
  obtain ⟨i0, hi, hz0, hz1, hz2⟩ := info_parts rwInfo
  have h := run_make (P := Tryz.prog) V 123 141 i0 _ Tryz.underlying123 hi hz0 .i64 .i64 (n : Int) (n : Int) (by omega) (by omega) (by rw [hz2]; omega) (by omega)
  rw [h, hz1]
  simp only [Int.toNat_natCast, Nat.mul_one, Value.cells]
  have e : madeCells #[Value.slice none 0 0] n = (List.replicate n (.slice none 0 0)).toArray := by
    rw [← toList_madeCells_one]
  rw [e]
/-- What netOf tells. -/
def NetEnds (w : World) (G : Gr) (na : Option Addr) (nc : Nat) (e : Ending) (w' : World) : Prop :=
  (checkG G ≠ 0 ∧ e = .returned (.tuple #[.agg #[.slice none 0 0, .slice none 0 0], .int .i64 (checkG G)]) ∧ Below w.heap.size w w') ∨
  (checkG G = 0 ∧ ∃ rv, e = .returned (.tuple #[.agg #[.slice na G.nodes.length nc, rv], .int .i64 0]) ∧ rv.oneCell' = true ∧ RdsIn w' w.heap.size w'.heap.size (netL G.nodes (liveG G).links) rv ∧ Below w.heap.size w w')
/-- Behind the fourth step: the net is laid. -/
def NetCut (W3 : World) (na : Option Addr) (n nc : Nat) (x : Value) (wx : World) : Prop := ∃ nb rb, x = .pointer (some ⟨nb, 0, none⟩) ∧ W3.heap.size ≤ nb ∧ W3.heap.size ≤ rb ∧ Below W3.heap.size W3 wx ∧ wx.heap[nb]? = some (.cells #[.slice na n nc, .slice (some ⟨rb, 0, none⟩) n n] 125 (0, 0)) ∧ wx.heap[rb]? = some (.cells (Array.replicate n (.slice none 0 0)) 141 (0, 0))
theorem two_new (V : World) (o1 o2 : Obj) : ((V.alloc o1).alloc o2).heap[V.heap.size]? = some o1 ∧ ((V.alloc o1).alloc o2).heap[V.heap.size + 1]? = some o2 := by
  have h1 := heap_alloc_new V o1
  have h2 := heap_alloc_new (V.alloc o1) o2
  have hs : (V.alloc o1).heap.size = V.heap.size + 1 := by simp
  rw [hs] at h2
  exact ⟨((gAl (V.alloc o1) o2).block _ (by omega)).trans h1, h2⟩
def NetS (V : World) (nb ll : Nat) (na : Option Addr) (n nc rb q : Nat) : Prop := V.cell? ⟨nb, 1, none⟩ = some (.slice (some ⟨rb, 0, none⟩) n n) ∧ V.cell? ⟨ll, 2, none⟩ = some (.float .f64 (qw q))
theorem net_cell {w : World} {base rb u : Nat} {vs : List Value} {rows : List (List Rd)} (h : NetW w base rb vs rows) (hu : u < rows.length) : ∃ a n c, ∀ V, NetW V base rb vs rows → V.cell? ⟨rb, u, none⟩ = some (.slice a n c) := by
  have hv : u < vs.length := by rw [h.len]; exact hu
  obtain ⟨a, c, hs⟩ := (h.own u hv hu).slice
  refine ⟨a, rows[u].length, c, fun V hV => ?_⟩
  rw [cell_of_row V rb u _ _ (0, 0) hV.outer]
  simp [hv, hs]
theorem row_cell_of {w : World} {b u : Nat} {vs : List Value} {t : TypeId} {v : Value} (h : w.heap[b]? = some (.cells vs.toArray t (0, 0))) (hv : vs[u]? = some v) : w.cell? ⟨b, u, none⟩ = some v := by
  rw [cell_of_row w b u _ _ (0, 0) h]
  simpa using hv
theorem net_val {w : World} {base rb u : Nat} {vs : List Value} {rows : List (List Rd)} {v x : Value} (h : NetW w base rb vs rows) (hv : vs[u]? = some v) (hc : w.cell? ⟨rb, u, none⟩ = some x) : v = x := by
  rw [row_cell_of h.outer hv] at hc
  exact Option.some.inj hc
theorem wr2_at {base : Nat} {e f t : TypeId} {a b c : World} {j : Nat} (h : Wr2 base e f b c) (k : Below a.heap.size a b) (hj : ∃ cs, a.heap[j]? = some (.cells cs t (0, 0))) (h1 : t ≠ e) (h2 : t ≠ f) : c.heap[j]? = a.heap[j]? := by
  obtain ⟨cs, hcs⟩ := hj
  have hb := (k.block j (Array.getElem?_eq_some_iff.1 hcs).1).trans hcs
  exact (h.kept hb h1 h2).trans hcs.symm
theorem net_set {w : World} {base rb br o : Nat} {vs : List Value} {rows : List (List Rd)} {cs : Array Value} (hn : NetW w base rb vs rows) (hb : w.heap[br]? = some (.cells cs 125 (0, 0))) (x : Value) : NetW (w.setCell ⟨br, o, none⟩ x) base rb vs rows :=
  ⟨hn.hb, (Below.heap_setCell _ _ _ _ (heap_ne hn.outer hb (by decide))).trans hn.outer, hn.len, fun u hu hr => (hn.own u hu hr).keep (fun j cur hj => Below.heap_setCell _ _ _ _ (heap_ne hj hb (by decide))), hn.apart⟩
theorem net_start {w : World} {base rb n : Nat} (hb : base ≤ rb) (h : w.heap[rb]? = some (.cells (Array.replicate n (.slice none 0 0)) 141 (0, 0))) : NetW w base rb (List.replicate n (.slice none 0 0)) (List.replicate n []) :=
  ⟨hb, by rw [h]; simp, by simp, fun u hu hr => by simp only [List.getElem_replicate]; exact Or.inl ⟨rfl, rfl, none, rfl⟩, fun i j hi hj hij g n c n' c' h1 => by simp at h1⟩
set_option maxHeartbeats 16000000 in
theorem netOf_any (G : Gr) (na : Option Addr) (nc : Nat) (la : Option Addr) (lc : Nat) (w : World) (hin : GrIn w G na la) :
    Calls Tryz.prog 98 #[.agg #[.slice na G.nodes.length nc, .slice la G.links.length lc]] w fun e w' => NetEnds w G na nc e w' := by
  have hst := g_storeL
  obtain ⟨W1, hW1⟩ : ∃ W1, W1 = w.alloc (.cells #[.slice na G.nodes.length nc, .slice la G.links.length lc] 25) := ⟨_, rfl⟩
  obtain ⟨W2, hW2⟩ : ∃ W2, W2 = W1.alloc (.cells #[.slice none 0 0, .slice none 0 0] 125) := ⟨_, rfl⟩
  have b1 : Below w.heap.size w W1 := by rw [hW1]; exact gAl _ _
  have b2 : Below W1.heap.size W1 W2 := by rw [hW2]; exact gAl _ _
  have s1 : W1.heap.size = w.heap.size + 1 := by rw [hW1]; simp
  have s2 : W2.heap.size = W1.heap.size + 1 := by rw [hW2]; simp
  have r1 : W1.heap[w.heap.size]? = some (.cells #[.slice na G.nodes.length nc, .slice la G.links.length lc] 25 (0, 0)) := by rw [hW1]; exact heap_alloc_new w _
  have r2 : W2.heap[W1.heap.size]? = some (.cells #[.slice none 0 0, .slice none 0 0] 125 (0, 0)) := by rw [hW2]; exact heap_alloc_new W1 _
  have hb2 : Below w.heap.size w W2 := gNx b1 b2
  have q1 : W2.heap[w.heap.size]? = some (.cells #[.slice na G.nodes.length nc, .slice la G.links.length lc] 25 (0, 0)) := (b2.block _ (by omega)).trans r1
  obtain ⟨br, hbr⟩ : ∃ br, br = W1.heap.size := ⟨_, rfl⟩
  have HBR : Hid (br < W2.heap.size ∧ w.heap.size ≤ br ∧ br ≠ w.heap.size ∧ w.heap.size < W2.heap.size) := Lib.hid (by omega)
  have HKG : Hid (∀ V, Below W2.heap.size W2 V → V.cell? ⟨w.heap.size, 0, none⟩ = some (.slice na G.nodes.length nc) ∧ V.cell? ⟨w.heap.size, 1, none⟩ = some (.slice la G.links.length lc)) := Lib.hid (fun V hV => by
    have := (hV.block w.heap.size (by omega)).trans q1
    exact ⟨by rw [cell_of_row V _ 0 _ _ (0, 0) this]; rfl, by rw [cell_of_row V _ 1 _ _ (0, 0) this]; rfl⟩)
  have HRS : Hid (∀ V : World, V.heap[br]? = W2.heap[br]? → V.heap[br]? = some (.cells #[.slice none 0 0, .slice none 0 0] 125 (0, 0))) := Lib.hid (fun V hV => by rw [hbr] at hV ⊢; exact hV.trans r2)
  have HWB : Hid (∀ V, Below W2.heap.size W2 V → Below w.heap.size w V) := Lib.hid (fun V hV => gNx hb2 hV)
  have HN : Hid (∀ V, Below w.heap.size w V → NodesIn V V.heap.size G.nodes na) := Lib.hid (fun V hV => hin.nodes.kept (fun i hi => hV.block i hi) hV.size)
  have HG2 : Hid (GrIn W2 G na la) := Lib.hid (hin.below hb2)
  have HQ := Lib.hid hin.wts
  clear hin b1 b2 r1 r2 q1 hb2
  by_cases hz : checkG G = 0
  case neg =>
    have HZ := Lib.hid hz
    have HLV := Lib.hid (gLive_any G na nc la lc W2 HG2.out)
    rw [liveA_no hz] at HLV
    have hz2 : (checkG G != 0) = true := by simpa using hz
    obtain ⟨ce, hce⟩ : ∃ ce, ce = checkG G := ⟨_, rfl⟩
    rw [← hce] at hz2 HLV
    have HCE := Lib.hid hce
    clear hz hce
    go_enter Tryz.func98, Tryz.ntmps98
    go_upto_region 1 with (fail)
    rw [← hW1, ← hW2, ← s1, ← hbr]
    obtain ⟨g0, g1⟩ := HKG.out W2 (Below.refl _ _)
    clear hW1 hW2 s1 s2 hbr
    go_wp2_with fail
    refine HLV.out.mono ?_
    rintro e V1 ⟨vn, vl, rfl, hgv, hb⟩
    obtain ⟨an, cn, rfl⟩ := hgv.nodes.slice
    obtain ⟨al, cl, rfl⟩ := hgv.links.slice
    have B1 := Lib.hid hb
    have hres := HRS.out V1 (hb.block _ HBR.out.1)
    have x0 : V1.cell? ⟨br, 0, none⟩ = some (.slice none 0 0) := by rw [cell_of_row V1 _ 0 _ _ (0, 0) hres]; rfl
    have x1 : V1.cell? ⟨br, 1, none⟩ = some (.slice none 0 0) := by rw [cell_of_row V1 _ 1 _ _ (0, 0) hres]; rfl
    have x2 := frozen_of_row V1 br 0 _ _ hres
    have x3 := frozen_of_row V1 br 1 _ _ hres
    have HRES := Lib.hid hres
    have hbs : br < V1.heap.size := Nat.lt_of_lt_of_le HBR.out.1 hb.size
    have HBS := Lib.hid hbs
    clear hb hres g0 g1 hgv
    go_wp2_with fail
    have hq1 := heap_setCell_same V1 br 0 _ _ (.slice none 0 0) HRES.out
    have hq2 := heap_setCell_same _ br 1 _ _ (.slice none 0 0) hq1
    have hbel := ((HWB.out V1 B1.out).setCell (p := ⟨br, 0, none⟩) HBR.out.2.1 (.slice none 0 0)).setCell (p := ⟨br, 1, none⟩) HBR.out.2.1 (.slice none 0 0)
    have hq3 := ((gAl _ (.cells #[.slice an gr0.nodes.length cn, .slice al gr0.links.length cl] 25)).block br (Array.getElem?_eq_some_iff.1 hq2).1).trans hq2
    refine bodyPost_ret (results_cell2 Tryz.results98 _ _ br 0 [.slice none 0 0, .slice none 0 0] _ rfl ?_ Tryz.underlying125 (by rfl) (by kernel_rfl)) rfl ?_
    · intro j v hj
      match j with
      | 0 => simp at hj; subst hj; rw [cell_of_row _ _ _ _ _ (0, 0) hq3]; rfl
      | 1 => simp at hj; subst hj; rw [cell_of_row _ _ _ _ _ (0, 0) hq3]; rfl
      | j + 2 => simp at hj
    · exact Or.inl ⟨HZ.out, by rw [← HCE.out]; rfl, hbel.alloc hbel.size _⟩
  case pos =>
    obtain ⟨n1, n2, n3, n4⟩ := check_zero.1 hz
    have HNL : Hid (G.nodes.length ≤ 256 ∧ G.links.length ≤ 4096) := Lib.hid ⟨n1, n2⟩
    have HNP := Lib.hid n3
    have HZ := Lib.hid hz
    have HLV := Lib.hid (gLive_any G na nc la lc W2 HG2.out)
    rw [liveA_ok hz, hz] at HLV
    have HWF : Hid (∀ y ∈ (liveG G).links, ∃ q, 4 ≤ q ∧ q ≤ 4194304 ∧ y.w = qw q) := Lib.hid (fun y hy => by
      obtain ⟨-, -, a1, a2, a3, a4, a5, a6, a7⟩ := live_ends hz hy
      exact weight_q y.w (HQ.out y a7) a6)
    clear hz n1 n2 n3 n4
    go_enter Tryz.func98, Tryz.ntmps98
    go_upto_region 1 with (fail)
    rw [← hW1, ← hW2, ← s1, ← hbr]
    obtain ⟨g0, g1⟩ := HKG.out W2 (Below.refl _ _)
    clear hW1 hW2 s1 s2 hbr
    go_wp2_with fail
    refine HLV.out.mono ?_
    rintro e V1 ⟨vn, vl, rfl, hgv, hb⟩
    obtain ⟨an, cn, rfl⟩ := hgv.nodes.slice
    obtain ⟨al, cl, rfl⟩ := hgv.links.slice
    have HB := Lib.hid hb
    have HGV := Lib.hid hgv
    clear hb g0 g1 hgv
    go_upto_region 4 with (fail)
    obtain ⟨W3, hW3⟩ : ∃ W3, W3 = V1.alloc (.cells #[.slice an (liveG G).nodes.length cn, .slice al (liveG G).links.length cl] 25) := ⟨_, rfl⟩
    rw [← hW3]
    have hb3 : Below W2.heap.size W2 W3 := by rw [hW3]; exact gNx HB.out (gAl _ _)
    have HB3 := Lib.hid hb3
    have HLB : Hid (W3.heap[V1.heap.size]? = some (.cells #[.slice an (liveG G).nodes.length cn, .slice al (liveG G).links.length cl] 25 (0, 0))) := Lib.hid (by rw [hW3]; exact heap_alloc_new V1 _)
    have HLO : Hid (Own W3 W2.heap.size 62 4 (.slice al (liveG G).links.length cl) (liveG G).links.length (lkRow (liveG G).links)) := Lib.hid (by rw [hW3]; exact HGV.out.links.below (gAl _ _))
    obtain ⟨lb, hlb⟩ : ∃ lb, lb = V1.heap.size := ⟨_, rfl⟩
    rw [← hlb] at HLB ⊢
    have HLBS : Hid (w.heap.size ≤ lb ∧ lb < W3.heap.size) := Lib.hid (by rw [hW3, hlb]; simp; have := HB.out.size; have := HBR.out; omega)
    have HKG3 : Hid (∀ V, Below W3.heap.size W3 V → V.cell? ⟨w.heap.size, 0, none⟩ = some (.slice na G.nodes.length nc)) := Lib.hid (fun V hV => (HKG.out V (gNx HB3.out hV)).1)
    clear hW3 hlb HGV HB hb3 HLV
    go_cut [6] (fun x wx => NetCut W3 na G.nodes.length nc x wx)
    case first =>
      have hmk := make_rows G.nodes.length (by have := HNL.out; omega)
      refine wp_region_held_drew (S := fun V => V.cell? ⟨w.heap.size, 0, none⟩ = some (.slice na G.nodes.length nc)) (by kernel_rfl) (HKG3.out _ (Below.drew (Below.refl _ _))) (fun hH => ?_)
      have B0 : Hid (Below W3.heap.size W3 W3.drew) := Lib.hid (Below.drew (Below.refl _ _))
      generalize W3.drew = V0 at *
      have hs0 := HKG3.out V0 B0.out
      refine tk 0 (by assumption) rfl (by kernel_rfl) (fun _ _ _ h => h) (fun V hV => by go_simp; try with_reducible rfl) ?_
      try simp only [Act.put, sqA, sqB, sqC, sqD, sqE, sqF]
      refine tk 1 (by assumption) rfl (by kernel_rfl) (fun _ _ _ h => h) (fun V hV => by have hx : V.cell? ⟨w.heap.size, 0, none⟩ = some (.slice na G.nodes.length nc) := hV; go_simp; try with_reducible rfl) ?_
      try simp only [Act.put, sqA, sqB, sqC, sqD, sqE, sqF]
      refine tk 2 (by assumption) rfl (by kernel_rfl) (fun _ _ _ h => h) (fun V hV => by go_simp; try with_reducible rfl) ?_
      try simp only [Act.put, sqA, sqB, sqC, sqD, sqE, sqF]
      refine tk 3 (by assumption) rfl (by kernel_rfl) (fun _ _ _ h => h) (fun V hV => by have hx : V.cell? ⟨w.heap.size, 0, none⟩ = some (.slice na G.nodes.length nc) := hV; go_simp; try with_reducible rfl) ?_
      try simp only [Act.put, sqA, sqB, sqC, sqD, sqE, sqF]
      refine tk 4 (by assumption) rfl (by kernel_rfl) (fun _ _ _ h => h) (fun V hV => by go_simp; try with_reducible rfl) ?_
      try simp only [Act.put, sqA, sqB, sqC, sqD, sqE, sqF]
      refine wpAnyH_ready (rs := [5, 7]) (by kernel_rfl) (by simp) ?_
      refine AllReadyH.cons (o := _) rfl (fun K hK => ?_) (AllReadyH.cons (o := _) rfl (fun K hK => ?_) (AllReadyH.nil))
      · have hm := hmk
        go_simp
        refine hK.out _ _ (HKG3.out _ (gNx B0.out (gAl _ _))) (fun hH => ?_)
        clear hK K hm
        try simp only [Act.put, sqA, sqB, sqC, sqD, sqE, sqF]
        refine tk 6 (by assumption) rfl (by kernel_rfl) (fun _ _ _ h => h) (fun V hV => by go_simp; try with_reducible rfl) ?_
        try simp only [Act.put, sqA, sqB, sqC, sqD, sqE, sqF]
        refine wpAnyH_ready (rs := [7]) (by kernel_rfl) (by simp) ?_
        refine AllReadyH.cons (o := _) rfl (fun K hK => ?_) AllReadyH.nil
        go_simp
        refine hK.out _ _ (HKG3.out _ (gNx B0.out (gNx (gAl _ _) (gAl _ _)))) (fun hH => ?_)
        clear hK K
        try simp only [Act.put, sqA, sqB, sqC, sqD, sqE, sqF]
        refine wpAnyH_ready (rs := [8]) (by kernel_rfl) (by simp) ?_
        refine AllReadyH.cons (o := _) rfl (fun K hK => ?_) AllReadyH.nil
        go_simp
        refine hK.out _ _ (HKG3.out _ (gNx B0.out (gNx (gAl _ _) (gAl _ _)))) (fun hH => ?_)
        clear hK K
        try simp only [Act.put, sqA, sqB, sqC, sqD, sqE, sqF]
        refine wpAnyH_done (by kernel_rfl) ?_ _
        go_wp2_with fail
        go_meet
        exact ⟨_, _, rfl, by have := B0.out.size; omega, B0.out.size, gNx B0.out (gNx (gAl _ _) (gAl _ _)), (two_new _ _ _).2, (two_new _ _ _).1⟩
      · go_simp
        refine hK.out _ _ (HKG3.out _ (gNx B0.out (gAl _ _))) (fun hH => ?_)
        clear hK K
        try simp only [Act.put, sqA, sqB, sqC, sqD, sqE, sqF]
        refine wpAnyH_ready (rs := [5]) (by kernel_rfl) (by simp) ?_
        refine AllReadyH.cons (o := _) rfl (fun K hK => ?_) AllReadyH.nil
        have hm := hmk
        go_simp
        refine hK.out _ _ (HKG3.out _ (gNx B0.out (gNx (gAl _ _) (gAl _ _)))) (fun hH => ?_)
        clear hK K hm
        try simp only [Act.put, sqA, sqB, sqC, sqD, sqE, sqF]
        refine tk 6 (by assumption) rfl (by kernel_rfl) (fun _ _ _ h => h) (fun V hV => by go_simp; try with_reducible rfl) ?_
        try simp only [Act.put, sqA, sqB, sqC, sqD, sqE, sqF]
        refine wpAnyH_ready (rs := [8]) (by kernel_rfl) (by simp) ?_
        refine AllReadyH.cons (o := _) rfl (fun K hK => ?_) AllReadyH.nil
        go_simp
        refine hK.out _ _ (HKG3.out _ (gNx B0.out (gNx (gAl _ _) (gAl _ _)))) (fun hH => ?_)
        clear hK K
        try simp only [Act.put, sqA, sqB, sqC, sqD, sqE, sqF]
        refine wpAnyH_done (by kernel_rfl) ?_ _
        go_wp2_with fail
        go_meet
        exact ⟨_, _, rfl, B0.out.size, by have := B0.out.size; omega, gNx B0.out (gNx (gAl _ _) (gAl _ _)), (two_new _ _ _).1, (two_new _ _ _).2⟩
    case rest =>
      obtain ⟨nb, rb, rfl, hnb, hrb, hbw, hnh, hrh⟩ := hcut
      obtain ⟨wo, rfl⟩ : ∃ wo : World, wo = wc := ⟨_, rfl⟩
      have HNW0 := Lib.hid (net_start hrb hrh)
      have HNH := Lib.hid hnh
      have HBW := Lib.hid hbw
      have HNB : Hid (W3.heap.size ≤ nb ∧ W3.heap.size ≤ rb) := Lib.hid ⟨hnb, hrb⟩
      obtain ⟨al', cl', hsl, hlin, -⟩ := ownL_in HLO.out
      simp only [Value.slice.injEq, true_and] at hsl
      obtain ⟨rfl, rfl⟩ := hsl
      have HLI : Hid (∀ V, Below W3.heap.size W3 V → LinksIn V V.heap.size (liveG G).links al) := Lib.hid (fun V hV => hlin.kept (fun i hi => hV.block i hi) hV.size)
      have HLC : Hid (∀ V, Below W3.heap.size W3 V → V.cell? ⟨lb, 1, none⟩ = some (.slice al (liveG G).links.length cl)) := Lib.hid (fun V hV => by
        have := (hV.block lb HLBS.out.2).trans HLB.out
        rw [cell_of_row V _ 1 _ _ (0, 0) this]; rfl)
      have HLL : Hid ((liveG G).links.length ≤ 4096) := Lib.hid (Nat.le_trans (List.length_filter_le _ _) HNL.out.2)
      have hc1 := HLC.out wo hbw
      clear hnb hrb hbw hnh hrh hlin HLO HLB
      go_wp2_with fail
      clear hc1
      go_loopw [32] (fun v wr => ∃ (k : Nat) (vs : List Value), v = .int .i64 (k : Int) ∧ k ≤ (liveG G).links.length ∧ NetW wr W3.heap.size rb vs (netL G.nodes ((liveG G).links.take k)) ∧ Wr2 W3.heap.size 143 141 wo wr) (fun v _ => (liveG G).links.length - (RowKit.intOf v).toNat)
      case atStart => exact ⟨0, _, rfl, by omega, by rw [List.take_zero, netL_nil]; exact HNW0.out, Wr2.refl _ _ _ _⟩
      case round =>
        obtain ⟨k, vs, rfl, hk, hnw, hwr⟩ := hrel
        have hbel : Below W3.heap.size W3 wr := HBW.out.trans (hwr.below HBW.out.size)
        have HNW := Lib.hid hnw
        have HWR := Lib.hid hwr
        have HBE := Lib.hid hbel
        have HNC : Hid (∀ V : World, V.heap[nb]? = wr.heap[nb]? → V.cell? ⟨nb, 0, none⟩ = some (.slice na G.nodes.length nc) ∧ V.cell? ⟨nb, 1, none⟩ = some (.slice (some ⟨rb, 0, none⟩) G.nodes.length G.nodes.length)) := Lib.hid (fun V hV => by
          have := hV.trans (hwr.kept HNH.out (by decide) (by decide))
          exact ⟨by rw [cell_of_row V _ 0 _ _ (0, 0) this]; rfl, by rw [cell_of_row V _ 1 _ _ (0, 0) this]; rfl⟩)
        have HNBS : Hid (nb < wr.heap.size) := Lib.hid (Nat.lt_of_lt_of_le (Array.getElem?_eq_some_iff.1 HNH.out).1 hwr.size)
        clear hnw hwr hbel
        by_cases hlt : k < (liveG G).links.length
        · have hlti : (k : Int) < ((liveG G).links.length : Int) := by omega
          have hk0 : (0 : Int) ≤ (k : Int) := by omega
          have hkw : IntKind.i64.wrap ((k : Int) + 1) = (k : Int) + 1 := by rw [IntKind.wrap_i64]; have := HLL.out; omega
          obtain ⟨b, o, rfl, hb, hc⟩ := (HLI.out wr HBE.out).at k hlt
          obtain ⟨c0, c1, c2, c3⟩ := hc k hlt
          obtain ⟨e1, e2, e3, e4, e5, -⟩ := live_ends HZ.out (List.getElem_mem hlt)
          obtain ⟨q, q1, q2, q3⟩ := HWF.out _ (List.getElem_mem hlt)
          have hqn : qn (liveG G).links[k].w = q := by rw [q3]; exact qn_qw (by omega)
          have HSN := Lib.hid (netL_snoc ((liveG G).links.take k) e3 e4 e5)
          rw [List.take_append_getElem hlt, hqn] at HSN
          clear hc hb e1 e2 hqn
          generalize (liveG G).links[k] = y at *
          obtain ⟨ya, yb, yw, yu⟩ := y
          simp only at c0 c1 c2 c3 e3 e4 e5 q3 HSN
          subst q3
          have HPA := Lib.hid (fun (V : World) (hV : Below wr.heap.size wr V) => pPlace_any G.nodes na nc (.slice (some ⟨rb, 0, none⟩) G.nodes.length G.nodes.length) ya V (HN.out V ((HWB.out _ (gNx HB3.out HBE.out)).trans (hV.mono (by have := HBE.out.size; have := HB3.out.size; have := HBR.out; omega)))) HNP.out (by have := HNL.out; omega) rfl)
          have HPB := Lib.hid (fun (V : World) (hV : Below wr.heap.size wr V) => pPlace_any G.nodes na nc (.slice (some ⟨rb, 0, none⟩) G.nodes.length G.nodes.length) yb V (HN.out V ((HWB.out _ (gNx HB3.out HBE.out)).trans (hV.mono (by have := HBE.out.size; have := HB3.out.size; have := HBR.out; omega)))) HNP.out (by have := HNL.out; omega) rfl)
          generalize Nq.ahead G.nodes ya = pa at *
          generalize Nq.ahead G.nodes yb = pb at *
          obtain ⟨W6, hW6⟩ : ∃ W6, W6 = wr.alloc (.cells #[.int .i64 ya, .int .i64 yb, .float .f64 (qw q), .bool yu] 62) := ⟨_, rfl⟩
          have b6 : Below wr.heap.size wr W6 := by rw [hW6]; exact gAl _ _
          have r6 : W6.heap[wr.heap.size]? = some (.cells #[.int .i64 ya, .int .i64 yb, .float .f64 (qw q), .bool yu] 62 (0, 0)) := by rw [hW6]; exact heap_alloc_new wr _
          have s6 : wr.heap.size < W6.heap.size := by rw [hW6]; simp
          have HB6 := Lib.hid b6
          have HS6 := Lib.hid s6
          have HLK := Lib.hid r6
          have HC6 : Hid (∀ V : World, V.heap[wr.heap.size]? = W6.heap[wr.heap.size]? → V.cell? ⟨wr.heap.size, 0, none⟩ = some (.int .i64 ya) ∧ V.cell? ⟨wr.heap.size, 1, none⟩ = some (.int .i64 yb) ∧ V.cell? ⟨wr.heap.size, 2, none⟩ = some (.float .f64 (qw q))) := Lib.hid (fun V hV => by
            have := hV.trans r6
            exact ⟨by rw [cell_of_row V _ 0 _ _ (0, 0) this]; rfl, by rw [cell_of_row V _ 1 _ _ (0, 0) this]; rfl, by rw [cell_of_row V _ 2 _ _ (0, 0) this]; rfl⟩)
          obtain ⟨ll, hll⟩ : ∃ ll, ll = wr.heap.size := ⟨_, rfl⟩
          have HLLB : Hid (nb < ll ∧ ll = wr.heap.size) := Lib.hid ⟨by rw [hll]; exact HNBS.out, hll⟩
          go_upto_region 8 with (fail)
          rw [← hW6]
          rw [← hll] at HC6 HLK ⊢
          clear hW6 c0 c1 c2 c3 b6 r6 s6 hll
          obtain ⟨m0, m1⟩ := HNC.out W6 (HB6.out.block _ HNBS.out)
          obtain ⟨l0, l1, l2⟩ := HC6.out W6 rfl
          go_wp2_with fail
          refine (HPA.out W6 HB6.out).mono ?_
          rintro e W7 ⟨rfl, hb7⟩
          have HB7 := Lib.hid hb7
          clear hb7 m0 m1 l0 l1 l2
          obtain ⟨m0, m1⟩ := HNC.out W7 ((gNx HB6.out HB7.out).block _ HNBS.out)
          obtain ⟨l0, l1, l2⟩ := HC6.out W7 (HB7.out.block _ (by rw [HLLB.out.2]; exact HS6.out))
          go_wp2_with fail
          refine (HPB.out W7 (gNx HB6.out HB7.out)).mono ?_
          rintro e W8 ⟨rfl, hb8⟩
          have HB8 := Lib.hid (gNx HB7.out hb8)
          clear hb8 m0 m1 l0 l1 l2 HPA HPB
          go_upto_region 10 with (fail)
          have HV8 : Hid (NetW W8 W3.heap.size rb vs (netL G.nodes ((liveG G).links.take k))) := Lib.hid (HNW.out.keep (gNx HB6.out HB8.out))
          have HR8 : Hid (Wr2 W3.heap.size 143 141 wo W8) := Lib.hid (HWR.out.trans (Wr2.of_below (gNx HB6.out HB8.out)))
          have HX8 : Hid (∀ V, V.heap[nb]? = W8.heap[nb]? → V.heap[ll]? = W8.heap[ll]? → NetS V nb ll na G.nodes.length nc rb q) := Lib.hid (fun V h1 h2 => by
            obtain ⟨m0, m1⟩ := HNC.out V (h1.trans ((gNx HB6.out HB8.out).block _ HNBS.out))
            obtain ⟨l0, l1, l2⟩ := HC6.out V (h2.trans (HB8.out.block _ (by rw [HLLB.out.2]; exact HS6.out)))
            exact ⟨m1, l2⟩)
          have HT8 : Hid ((∃ cs, W8.heap[nb]? = some (.cells cs 125 (0, 0))) ∧ (∃ cs, W8.heap[ll]? = some (.cells cs 62 (0, 0)))) := Lib.hid ⟨⟨_, HR8.out.kept HNH.out (by decide) (by decide)⟩, ⟨_, (HB8.out.block _ (by rw [HLLB.out.2]; exact HS6.out)).trans HLK.out⟩⟩
          have HU8 : Hid (pa < G.nodes.length ∧ pb < G.nodes.length ∧ W3.heap.size ≤ W8.heap.size) := Lib.hid ⟨e3, e4, Nat.le_trans HBE.out.size (gNx HB6.out HB8.out).size⟩
          have HDG : Hid (∀ u, ((netL G.nodes ((liveG G).links.take k)).getD u []).length < 8193) := Lib.hid (fun u => Nat.lt_of_le_of_lt (deg_one G.nodes _ u) (by rw [List.length_take]; have := HLL.out; omega))
          have hap : (pa : Int) < (G.nodes.length : Int) := by omega
          have hap0 : (0 : Int) ≤ (pa : Int) := by omega
          have hbp : (pb : Int) < (G.nodes.length : Int) := by omega
          have hbp0 : (0 : Int) ≤ (pb : Int) := by omega
          clear HNC HC6 e3 e4 e5
          have LENX : Hid ((netL G.nodes ((liveG G).links.take k)).length = G.nodes.length) := Lib.hid (netL_len _ _)
          have HDX := HDG
          have HTT := HT8
          have HTX : Hid (nb < W8.heap.size ∧ ll < W8.heap.size) := Lib.hid ⟨by obtain ⟨cs, h⟩ := HT8.out.1; exact (Array.getElem?_eq_some_iff.1 h).1, by obtain ⟨cs, h⟩ := HT8.out.2; exact (Array.getElem?_eq_some_iff.1 h).1⟩
          have HSZ : Hid (W8.heap.size ≤ W8.heap.size) := Lib.hid (Nat.le_refl _)
          go_cut [9] (fun x wx => x = .int .i64 (pa : Int) ∧ ∃ vs2, NetW wx W3.heap.size rb vs2 (addR (netL G.nodes ((liveG G).links.take k)) pa (pb, q)) ∧ Wr2 W3.heap.size 143 141 W8 wx)
          case first =>
            refine wp_region_held_drew (S := fun V => NetS V nb ll na G.nodes.length nc rb q) (by kernel_rfl) (HX8.out _ rfl rfl) (fun hH => ?_)
            have B0 : Hid (Below W8.heap.size W8 W8.drew) := Lib.hid (Below.drew (Below.refl _ _))
            generalize W8.drew = V0 at *
            have hs0 : NetS V0 nb ll na G.nodes.length nc rb q := HX8.out V0 (B0.out.block _ HTX.out.1) (B0.out.block _ HTX.out.2)
            obtain ⟨a0, n0, c0, HA0⟩ : ∃ a0 n0 c0, Hid (∀ V, NetW V W3.heap.size rb vs (netL G.nodes ((liveG G).links.take k)) → V.cell? ⟨rb, pa, none⟩ = some (.slice a0 n0 c0)) := by
              obtain ⟨a0, n0, c0, h⟩ := net_cell HV8.out (u := pa) (by rw [LENX.out]; exact HU8.out.1)
              exact ⟨a0, n0, c0, Lib.hid h⟩
            refine tk 0 (by assumption) rfl (by kernel_rfl) (fun _ _ _ h => h) (fun V hV => by go_simp; try with_reducible rfl) ?_
            try simp only [Act.put, sqA, sqB, sqC, sqD, sqE, sqF]
            refine tk 1 (by assumption) rfl (by kernel_rfl) (fun _ _ _ h => h) (fun V hV => by obtain ⟨hx1, hx2⟩ := hV; go_simp; try with_reducible rfl) ?_
            try simp only [Act.put, sqA, sqB, sqC, sqD, sqE, sqF]
            refine tk 2 (by assumption) rfl (by kernel_rfl) (fun _ _ _ h => h) (fun V hV => by go_simp; try with_reducible rfl) ?_
            try simp only [Act.put, sqA, sqB, sqC, sqD, sqE, sqF]
            refine tk 3 (by assumption) rfl (by kernel_rfl) (fun _ _ _ h => h) (fun V hV => by go_simp; try with_reducible rfl) ?_
            try simp only [Act.put, sqA, sqB, sqC, sqD, sqE, sqF]
            refine tk 4 (by assumption) rfl (by kernel_rfl) (fun _ _ _ h => h) (fun V hV => by obtain ⟨hx1, hx2⟩ := hV; go_simp; try with_reducible rfl) ?_
            try simp only [Act.put, sqA, sqB, sqC, sqD, sqE, sqF]
            refine tk 5 (by assumption) rfl (by kernel_rfl) (fun _ _ _ h => h) (fun V hV => by go_simp; try with_reducible rfl) ?_
            try simp only [Act.put, sqA, sqB, sqC, sqD, sqE, sqF]
            refine tk 6 (by assumption) rfl (by kernel_rfl) (fun _ _ _ h => h) (fun V hV => by go_simp; try with_reducible rfl) ?_
            try simp only [Act.put, sqA, sqB, sqC, sqD, sqE, sqF]
            refine tk 8 (by assumption) rfl (by kernel_rfl) (fun _ _ _ h => h) (fun V hV => by go_simp; try with_reducible rfl) ?_
            try simp only [Act.put, sqA, sqB, sqC, sqD, sqE, sqF]
            refine tk 9 (by assumption) rfl (by kernel_rfl) (fun _ _ _ h => h) (fun V hV => by go_simp; try with_reducible rfl) ?_
            try simp only [Act.put, sqA, sqB, sqC, sqD, sqE, sqF]
            refine tk 10 (by assumption) rfl (by kernel_rfl) (fun _ _ _ h => h) (fun V hV => by obtain ⟨hx1, hx2⟩ := hV; go_simp; try with_reducible rfl) ?_
            try simp only [Act.put, sqA, sqB, sqC, sqD, sqE, sqF]
            refine tk 11 (by assumption) rfl (by kernel_rfl) (fun _ _ _ h => h) (fun V hV => by go_simp; try with_reducible rfl) ?_
            try simp only [Act.put, sqA, sqB, sqC, sqD, sqE, sqF]
            refine wpAnyH_ready (rs := [7, 12]) (by kernel_rfl) (by simp) ?_
            refine AllReadyH.cons (o := _) rfl (fun K hK => ?_) (AllReadyH.cons (o := _) rfl (fun K hK => ?_) (AllReadyH.nil))
            · have hx := HA0.out _ (HV8.out.keep B0.out)
              go_simp
              refine hK.out _ _ (HX8.out _ (B0.out.block _ HTX.out.1) (B0.out.block _ HTX.out.2)) (fun hH => ?_)
              clear hK K hx
              try simp only [Act.put, sqA, sqB, sqC, sqD, sqE, sqF]
              refine wpAnyH_ready (rs := [12]) (by kernel_rfl) (by simp) ?_
              refine AllReadyH.cons (o := _) rfl (fun K hK => ?_) AllReadyH.nil
              go_simp
              obtain ⟨V1, hV1⟩ : ∃ V1, V1 = V0.alloc (.cells #[.int .i64 (pb : Int), .float .f64 (qw q)] 143) := ⟨_, rfl⟩
              rw [← hV1]
              have B1 : Hid (Below W8.heap.size W8 V1) := Lib.hid (by rw [hV1]; exact gNx B0.out (gAl _ _))
              have HV1 : Hid (V1.heap[V0.heap.size]? = some (.cells (rdC (pb, q)).toArray 143 (0, 0))) := Lib.hid (by rw [hV1]; exact heap_alloc_new V0 _)
              clear hV1
              refine hK.out _ _ (HX8.out _ (B1.out.block _ HTX.out.1) (B1.out.block _ HTX.out.2)) (fun hH => ?_)
              clear hK K
              try simp only [Act.put, sqA, sqB, sqC, sqD, sqE, sqF]
              refine wpAnyH_ready (rs := [13]) (by kernel_rfl) (by simp) ?_
              refine AllReadyH.cons (o := _) rfl (fun K hK => ?_) AllReadyH.nil
              obtain ⟨v, v2, W2, n, a, c, hv, hvs, hrun, hout, hnet, hwr2, ⟨a2, c2, hv2⟩, hwr3⟩ := (HV8.out.keep B1.out).add (u := pa) (by rw [LENX.out]; exact HU8.out.1) (pb, q) (Nat.le_trans HU8.out.2.2 (Nat.le_trans HSZ.out B1.out.size)) HV1.out (by have := HDX.out pa; omega)
              have hcell := HA0.out _ (HV8.out.keep B1.out)
              obtain ⟨rfl⟩ : v = .slice a0 n0 c0 := net_val (HV8.out.keep B1.out) hv hcell
              subst hv2
              have HNET := Lib.hid hnet
              have HW2 := Lib.hid hwr2
              have HW3 := Lib.hid hwr3
              have HOUT := Lib.hid (hout.trans (HV8.out.keep B1.out).outer)
              have HVS := Lib.hid hv
              refine step_append_r rfl _ _ 141 141 rfl (.slice a0 n0 c0) (.slice (some ⟨V0.heap.size, 0, none⟩) 1 1) (by simp [Act.eval, Act.put]) (by simp [Act.eval, Act.put]) (hrun _) ?_
              refine hK.out _ _ (HX8.out _ (wr2_at HW3.out B1.out HTT.out.1 (by decide) (by decide)) (wr2_at HW3.out B1.out HTT.out.2 (by decide) (by decide))) (fun hH => ?_)
              clear hK K hv hvs hrun hout hnet hwr2 hwr3 hcell
              try simp only [Act.put, sqA, sqB, sqC, sqD, sqE, sqF]
              refine tk 14 (by assumption) rfl (by kernel_rfl) (fun _ _ _ h => h) (fun V hV => by go_simp; try with_reducible rfl) ?_
              try simp only [Act.put, sqA, sqB, sqC, sqD, sqE, sqF]
              refine wpAnyH_ready (rs := [15]) (by kernel_rfl) (by simp) ?_
              refine AllReadyH.cons (o := _) rfl (fun K hK => ?_) AllReadyH.nil
              have hoc := row_cell_of HOUT.out HVS.out
              have hof := frozen_of_row W2 rb pa _ _ HOUT.out
              go_simp
              refine hK.out _ _ (HX8.out _ (wr2_at HW2.out B1.out HTT.out.1 (by decide) (by decide)) (wr2_at HW2.out B1.out HTT.out.2 (by decide) (by decide))) (fun hH => ?_)
              clear hK K hoc hof
              try simp only [Act.put, sqA, sqB, sqC, sqD, sqE, sqF]
              refine wpAnyH_done (by kernel_rfl) ?_ _
              go_wp2_with fail
              go_meet
              exact ⟨rfl, _, HNET.out, (Wr2.of_below B1.out).trans HW2.out⟩
            · go_simp
              obtain ⟨V1, hV1⟩ : ∃ V1, V1 = V0.alloc (.cells #[.int .i64 (pb : Int), .float .f64 (qw q)] 143) := ⟨_, rfl⟩
              rw [← hV1]
              have B1 : Hid (Below W8.heap.size W8 V1) := Lib.hid (by rw [hV1]; exact gNx B0.out (gAl _ _))
              have HV1 : Hid (V1.heap[V0.heap.size]? = some (.cells (rdC (pb, q)).toArray 143 (0, 0))) := Lib.hid (by rw [hV1]; exact heap_alloc_new V0 _)
              clear hV1
              refine hK.out _ _ (HX8.out _ (B1.out.block _ HTX.out.1) (B1.out.block _ HTX.out.2)) (fun hH => ?_)
              clear hK K
              try simp only [Act.put, sqA, sqB, sqC, sqD, sqE, sqF]
              refine wpAnyH_ready (rs := [7]) (by kernel_rfl) (by simp) ?_
              refine AllReadyH.cons (o := _) rfl (fun K hK => ?_) AllReadyH.nil
              have hx := HA0.out _ (HV8.out.keep B1.out)
              go_simp
              refine hK.out _ _ (HX8.out _ (B1.out.block _ HTX.out.1) (B1.out.block _ HTX.out.2)) (fun hH => ?_)
              clear hK K hx
              try simp only [Act.put, sqA, sqB, sqC, sqD, sqE, sqF]
              refine wpAnyH_ready (rs := [13]) (by kernel_rfl) (by simp) ?_
              refine AllReadyH.cons (o := _) rfl (fun K hK => ?_) AllReadyH.nil
              obtain ⟨v, v2, W2, n, a, c, hv, hvs, hrun, hout, hnet, hwr2, ⟨a2, c2, hv2⟩, hwr3⟩ := (HV8.out.keep B1.out).add (u := pa) (by rw [LENX.out]; exact HU8.out.1) (pb, q) (Nat.le_trans HU8.out.2.2 (Nat.le_trans HSZ.out B1.out.size)) HV1.out (by have := HDX.out pa; omega)
              have hcell := HA0.out _ (HV8.out.keep B1.out)
              obtain ⟨rfl⟩ : v = .slice a0 n0 c0 := net_val (HV8.out.keep B1.out) hv hcell
              subst hv2
              have HNET := Lib.hid hnet
              have HW2 := Lib.hid hwr2
              have HW3 := Lib.hid hwr3
              have HOUT := Lib.hid (hout.trans (HV8.out.keep B1.out).outer)
              have HVS := Lib.hid hv
              refine step_append_r rfl _ _ 141 141 rfl (.slice a0 n0 c0) (.slice (some ⟨V0.heap.size, 0, none⟩) 1 1) (by simp [Act.eval, Act.put]) (by simp [Act.eval, Act.put]) (hrun _) ?_
              refine hK.out _ _ (HX8.out _ (wr2_at HW3.out B1.out HTT.out.1 (by decide) (by decide)) (wr2_at HW3.out B1.out HTT.out.2 (by decide) (by decide))) (fun hH => ?_)
              clear hK K hv hvs hrun hout hnet hwr2 hwr3 hcell
              try simp only [Act.put, sqA, sqB, sqC, sqD, sqE, sqF]
              refine tk 14 (by assumption) rfl (by kernel_rfl) (fun _ _ _ h => h) (fun V hV => by go_simp; try with_reducible rfl) ?_
              try simp only [Act.put, sqA, sqB, sqC, sqD, sqE, sqF]
              refine wpAnyH_ready (rs := [15]) (by kernel_rfl) (by simp) ?_
              refine AllReadyH.cons (o := _) rfl (fun K hK => ?_) AllReadyH.nil
              have hoc := row_cell_of HOUT.out HVS.out
              have hof := frozen_of_row W2 rb pa _ _ HOUT.out
              go_simp
              refine hK.out _ _ (HX8.out _ (wr2_at HW2.out B1.out HTT.out.1 (by decide) (by decide)) (wr2_at HW2.out B1.out HTT.out.2 (by decide) (by decide))) (fun hH => ?_)
              clear hK K hoc hof
              try simp only [Act.put, sqA, sqB, sqC, sqD, sqE, sqF]
              refine wpAnyH_done (by kernel_rfl) ?_ _
              go_wp2_with fail
              go_meet
              exact ⟨rfl, _, HNET.out, (Wr2.of_below B1.out).trans HW2.out⟩
          case rest =>
            obtain ⟨rfl, vs2, hn2, hw2⟩ := hcut
            clear HDX HTX HSZ LENX HTT
            have HV9 : Hid (NetW wc W3.heap.size rb vs2 (addR (netL G.nodes ((liveG G).links.take k)) pa (pb, q))) := Lib.hid hn2
            have HR9 : Hid (Wr2 W3.heap.size 143 141 wo wc) := Lib.hid (HR8.out.trans hw2)
            have HTT : Hid ((∃ cs, wc.heap[nb]? = some (.cells cs 125 (0, 0))) ∧ (∃ cs, wc.heap[ll]? = some (.cells cs 62 (0, 0)))) := Lib.hid (by obtain ⟨⟨cs, h1⟩, ⟨ds, h2⟩⟩ := HT8.out; exact ⟨⟨cs, hw2.kept h1 (by decide) (by decide)⟩, ⟨ds, hw2.kept h2 (by decide) (by decide)⟩⟩)
            have HX9 : Hid (∀ V, V.heap[nb]? = wc.heap[nb]? → V.heap[ll]? = wc.heap[ll]? → NetS V nb ll na G.nodes.length nc rb q) := Lib.hid (fun V h1 h2 => by
              obtain ⟨⟨cs, g1⟩, ⟨ds, g2⟩⟩ := HT8.out
              exact HX8.out V (h1.trans ((hw2.kept g1 (by decide) (by decide)).trans g1.symm)) (h2.trans ((hw2.kept g2 (by decide) (by decide)).trans g2.symm)))
            have LENX : Hid ((addR (netL G.nodes ((liveG G).links.take k)) pa (pb, q)).length = G.nodes.length) := Lib.hid (by rw [addR_len]; exact netL_len _ _)
            have HTX : Hid (nb < wc.heap.size ∧ ll < wc.heap.size) := Lib.hid ⟨by obtain ⟨cs, h⟩ := HTT.out.1; exact (Array.getElem?_eq_some_iff.1 h).1, by obtain ⟨cs, h⟩ := HTT.out.2; exact (Array.getElem?_eq_some_iff.1 h).1⟩
            have HSZ : Hid (W8.heap.size ≤ wc.heap.size) := Lib.hid hw2.size
            have HDX : Hid (∀ u, ((addR (netL G.nodes ((liveG G).links.take k)) pa (pb, q)).getD u []).length < 8194) := Lib.hid (fun u => by
              have h1 := HDG.out u
              have h2 := HDG.out pa
              rw [addR_at _ (by rw [netL_len]; exact HU8.out.1)]
              split
              · rw [List.length_append]; simp only [List.length_singleton]; omega
              · omega)
            clear hn2 hw2
            go_upto_region 11 with (fail)
            refine wp_region_held_drew (S := fun V => NetS V nb ll na G.nodes.length nc rb q) (by kernel_rfl) (HX9.out _ rfl rfl) (fun hH => ?_)
            have B0 : Hid (Below wc.heap.size wc wc.drew) := Lib.hid (Below.drew (Below.refl _ _))
            generalize wc.drew = V0 at *
            have hs0 : NetS V0 nb ll na G.nodes.length nc rb q := HX9.out V0 (B0.out.block _ HTX.out.1) (B0.out.block _ HTX.out.2)
            obtain ⟨a0, n0, c0, HA0⟩ : ∃ a0 n0 c0, Hid (∀ V, NetW V W3.heap.size rb vs2 (addR (netL G.nodes ((liveG G).links.take k)) pa (pb, q)) → V.cell? ⟨rb, pb, none⟩ = some (.slice a0 n0 c0)) := by
              obtain ⟨a0, n0, c0, h⟩ := net_cell HV9.out (u := pb) (by rw [LENX.out]; exact HU8.out.2.1)
              exact ⟨a0, n0, c0, Lib.hid h⟩
            refine tk 0 (by assumption) rfl (by kernel_rfl) (fun _ _ _ h => h) (fun V hV => by go_simp; try with_reducible rfl) ?_
            try simp only [Act.put, sqA, sqB, sqC, sqD, sqE, sqF]
            refine tk 1 (by assumption) rfl (by kernel_rfl) (fun _ _ _ h => h) (fun V hV => by obtain ⟨hx1, hx2⟩ := hV; go_simp; try with_reducible rfl) ?_
            try simp only [Act.put, sqA, sqB, sqC, sqD, sqE, sqF]
            refine tk 2 (by assumption) rfl (by kernel_rfl) (fun _ _ _ h => h) (fun V hV => by go_simp; try with_reducible rfl) ?_
            try simp only [Act.put, sqA, sqB, sqC, sqD, sqE, sqF]
            refine tk 3 (by assumption) rfl (by kernel_rfl) (fun _ _ _ h => h) (fun V hV => by go_simp; try with_reducible rfl) ?_
            try simp only [Act.put, sqA, sqB, sqC, sqD, sqE, sqF]
            refine tk 4 (by assumption) rfl (by kernel_rfl) (fun _ _ _ h => h) (fun V hV => by obtain ⟨hx1, hx2⟩ := hV; go_simp; try with_reducible rfl) ?_
            try simp only [Act.put, sqA, sqB, sqC, sqD, sqE, sqF]
            refine tk 5 (by assumption) rfl (by kernel_rfl) (fun _ _ _ h => h) (fun V hV => by go_simp; try with_reducible rfl) ?_
            try simp only [Act.put, sqA, sqB, sqC, sqD, sqE, sqF]
            refine tk 6 (by assumption) rfl (by kernel_rfl) (fun _ _ _ h => h) (fun V hV => by go_simp; try with_reducible rfl) ?_
            try simp only [Act.put, sqA, sqB, sqC, sqD, sqE, sqF]
            refine tk 8 (by assumption) rfl (by kernel_rfl) (fun _ _ _ h => h) (fun V hV => by go_simp; try with_reducible rfl) ?_
            try simp only [Act.put, sqA, sqB, sqC, sqD, sqE, sqF]
            refine tk 9 (by assumption) rfl (by kernel_rfl) (fun _ _ _ h => h) (fun V hV => by go_simp; try with_reducible rfl) ?_
            try simp only [Act.put, sqA, sqB, sqC, sqD, sqE, sqF]
            refine tk 10 (by assumption) rfl (by kernel_rfl) (fun _ _ _ h => h) (fun V hV => by obtain ⟨hx1, hx2⟩ := hV; go_simp; try with_reducible rfl) ?_
            try simp only [Act.put, sqA, sqB, sqC, sqD, sqE, sqF]
            refine tk 11 (by assumption) rfl (by kernel_rfl) (fun _ _ _ h => h) (fun V hV => by go_simp; try with_reducible rfl) ?_
            try simp only [Act.put, sqA, sqB, sqC, sqD, sqE, sqF]
            refine wpAnyH_ready (rs := [7, 12]) (by kernel_rfl) (by simp) ?_
            refine AllReadyH.cons (o := _) rfl (fun K hK => ?_) (AllReadyH.cons (o := _) rfl (fun K hK => ?_) (AllReadyH.nil))
            · have hx := HA0.out _ (HV9.out.keep B0.out)
              go_simp
              refine hK.out _ _ (HX9.out _ (B0.out.block _ HTX.out.1) (B0.out.block _ HTX.out.2)) (fun hH => ?_)
              clear hK K hx
              try simp only [Act.put, sqA, sqB, sqC, sqD, sqE, sqF]
              refine wpAnyH_ready (rs := [12]) (by kernel_rfl) (by simp) ?_
              refine AllReadyH.cons (o := _) rfl (fun K hK => ?_) AllReadyH.nil
              go_simp
              obtain ⟨V1, hV1⟩ : ∃ V1, V1 = V0.alloc (.cells #[.int .i64 (pa : Int), .float .f64 (qw q)] 143) := ⟨_, rfl⟩
              rw [← hV1]
              have B1 : Hid (Below wc.heap.size wc V1) := Lib.hid (by rw [hV1]; exact gNx B0.out (gAl _ _))
              have HV1 : Hid (V1.heap[V0.heap.size]? = some (.cells (rdC (pa, q)).toArray 143 (0, 0))) := Lib.hid (by rw [hV1]; exact heap_alloc_new V0 _)
              clear hV1
              refine hK.out _ _ (HX9.out _ (B1.out.block _ HTX.out.1) (B1.out.block _ HTX.out.2)) (fun hH => ?_)
              clear hK K
              try simp only [Act.put, sqA, sqB, sqC, sqD, sqE, sqF]
              refine wpAnyH_ready (rs := [13]) (by kernel_rfl) (by simp) ?_
              refine AllReadyH.cons (o := _) rfl (fun K hK => ?_) AllReadyH.nil
              obtain ⟨v, v2, W2, n, a, c, hv, hvs, hrun, hout, hnet, hwr2, ⟨a2, c2, hv2⟩, hwr3⟩ := (HV9.out.keep B1.out).add (u := pb) (by rw [LENX.out]; exact HU8.out.2.1) (pa, q) (Nat.le_trans HU8.out.2.2 (Nat.le_trans HSZ.out B1.out.size)) HV1.out (by have := HDX.out pb; omega)
              have hcell := HA0.out _ (HV9.out.keep B1.out)
              obtain ⟨rfl⟩ : v = .slice a0 n0 c0 := net_val (HV9.out.keep B1.out) hv hcell
              subst hv2
              have HNET := Lib.hid hnet
              have HW2 := Lib.hid hwr2
              have HW3 := Lib.hid hwr3
              have HOUT := Lib.hid (hout.trans (HV9.out.keep B1.out).outer)
              have HVS := Lib.hid hv
              refine step_append_r rfl _ _ 141 141 rfl (.slice a0 n0 c0) (.slice (some ⟨V0.heap.size, 0, none⟩) 1 1) (by simp [Act.eval, Act.put]) (by simp [Act.eval, Act.put]) (hrun _) ?_
              refine hK.out _ _ (HX9.out _ (wr2_at HW3.out B1.out HTT.out.1 (by decide) (by decide)) (wr2_at HW3.out B1.out HTT.out.2 (by decide) (by decide))) (fun hH => ?_)
              clear hK K hv hvs hrun hout hnet hwr2 hwr3 hcell
              try simp only [Act.put, sqA, sqB, sqC, sqD, sqE, sqF]
              refine tk 14 (by assumption) rfl (by kernel_rfl) (fun _ _ _ h => h) (fun V hV => by go_simp; try with_reducible rfl) ?_
              try simp only [Act.put, sqA, sqB, sqC, sqD, sqE, sqF]
              refine wpAnyH_ready (rs := [15]) (by kernel_rfl) (by simp) ?_
              refine AllReadyH.cons (o := _) rfl (fun K hK => ?_) AllReadyH.nil
              have hoc := row_cell_of HOUT.out HVS.out
              have hof := frozen_of_row W2 rb pb _ _ HOUT.out
              go_simp
              refine hK.out _ _ (HX9.out _ (wr2_at HW2.out B1.out HTT.out.1 (by decide) (by decide)) (wr2_at HW2.out B1.out HTT.out.2 (by decide) (by decide))) (fun hH => ?_)
              clear hK K hoc hof
              try simp only [Act.put, sqA, sqB, sqC, sqD, sqE, sqF]
              refine wpAnyH_done (by kernel_rfl) ?_ _
              go_wp2_with fail
              refine ⟨⟨k + 1, _, by simp, by omega, by rw [← HSN.out]; exact HNET.out, (HR9.out.trans (Wr2.of_below B1.out)).trans HW2.out⟩, ?_⟩
              simp [RowKit.intOf]; omega
            · go_simp
              obtain ⟨V1, hV1⟩ : ∃ V1, V1 = V0.alloc (.cells #[.int .i64 (pa : Int), .float .f64 (qw q)] 143) := ⟨_, rfl⟩
              rw [← hV1]
              have B1 : Hid (Below wc.heap.size wc V1) := Lib.hid (by rw [hV1]; exact gNx B0.out (gAl _ _))
              have HV1 : Hid (V1.heap[V0.heap.size]? = some (.cells (rdC (pa, q)).toArray 143 (0, 0))) := Lib.hid (by rw [hV1]; exact heap_alloc_new V0 _)
              clear hV1
              refine hK.out _ _ (HX9.out _ (B1.out.block _ HTX.out.1) (B1.out.block _ HTX.out.2)) (fun hH => ?_)
              clear hK K
              try simp only [Act.put, sqA, sqB, sqC, sqD, sqE, sqF]
              refine wpAnyH_ready (rs := [7]) (by kernel_rfl) (by simp) ?_
              refine AllReadyH.cons (o := _) rfl (fun K hK => ?_) AllReadyH.nil
              have hx := HA0.out _ (HV9.out.keep B1.out)
              go_simp
              refine hK.out _ _ (HX9.out _ (B1.out.block _ HTX.out.1) (B1.out.block _ HTX.out.2)) (fun hH => ?_)
              clear hK K hx
              try simp only [Act.put, sqA, sqB, sqC, sqD, sqE, sqF]
              refine wpAnyH_ready (rs := [13]) (by kernel_rfl) (by simp) ?_
              refine AllReadyH.cons (o := _) rfl (fun K hK => ?_) AllReadyH.nil
              obtain ⟨v, v2, W2, n, a, c, hv, hvs, hrun, hout, hnet, hwr2, ⟨a2, c2, hv2⟩, hwr3⟩ := (HV9.out.keep B1.out).add (u := pb) (by rw [LENX.out]; exact HU8.out.2.1) (pa, q) (Nat.le_trans HU8.out.2.2 (Nat.le_trans HSZ.out B1.out.size)) HV1.out (by have := HDX.out pb; omega)
              have hcell := HA0.out _ (HV9.out.keep B1.out)
              obtain ⟨rfl⟩ : v = .slice a0 n0 c0 := net_val (HV9.out.keep B1.out) hv hcell
              subst hv2
              have HNET := Lib.hid hnet
              have HW2 := Lib.hid hwr2
              have HW3 := Lib.hid hwr3
              have HOUT := Lib.hid (hout.trans (HV9.out.keep B1.out).outer)
              have HVS := Lib.hid hv
              refine step_append_r rfl _ _ 141 141 rfl (.slice a0 n0 c0) (.slice (some ⟨V0.heap.size, 0, none⟩) 1 1) (by simp [Act.eval, Act.put]) (by simp [Act.eval, Act.put]) (hrun _) ?_
              refine hK.out _ _ (HX9.out _ (wr2_at HW3.out B1.out HTT.out.1 (by decide) (by decide)) (wr2_at HW3.out B1.out HTT.out.2 (by decide) (by decide))) (fun hH => ?_)
              clear hK K hv hvs hrun hout hnet hwr2 hwr3 hcell
              try simp only [Act.put, sqA, sqB, sqC, sqD, sqE, sqF]
              refine tk 14 (by assumption) rfl (by kernel_rfl) (fun _ _ _ h => h) (fun V hV => by go_simp; try with_reducible rfl) ?_
              try simp only [Act.put, sqA, sqB, sqC, sqD, sqE, sqF]
              refine wpAnyH_ready (rs := [15]) (by kernel_rfl) (by simp) ?_
              refine AllReadyH.cons (o := _) rfl (fun K hK => ?_) AllReadyH.nil
              have hoc := row_cell_of HOUT.out HVS.out
              have hof := frozen_of_row W2 rb pb _ _ HOUT.out
              go_simp
              refine hK.out _ _ (HX9.out _ (wr2_at HW2.out B1.out HTT.out.1 (by decide) (by decide)) (wr2_at HW2.out B1.out HTT.out.2 (by decide) (by decide))) (fun hH => ?_)
              clear hK K hoc hof
              try simp only [Act.put, sqA, sqB, sqC, sqD, sqE, sqF]
              refine wpAnyH_done (by kernel_rfl) ?_ _
              go_wp2_with fail
              refine ⟨⟨k + 1, _, by simp, by omega, by rw [← HSN.out]; exact HNET.out, (HR9.out.trans (Wr2.of_below B1.out)).trans HW2.out⟩, ?_⟩
              simp [RowKit.intOf]; omega
        · have hnk : ¬ (k : Int) < ((liveG G).links.length : Int) := by omega
          have htk : (liveG G).links.take k = (liveG G).links := List.take_of_length_le (by omega)
          rw [htk] at HNW
          obtain ⟨m0, m1⟩ := HNC.out wr rfl
          have hres := HRS.out wr (by rw [HBE.out.block br (Nat.lt_of_lt_of_le HBR.out.1 HB3.out.size)]; exact HB3.out.block _ HBR.out.1)
          have x0 : wr.cell? ⟨br, 0, none⟩ = some (.slice none 0 0) := by rw [cell_of_row wr _ 0 _ _ (0, 0) hres]; rfl
          have x1 : wr.cell? ⟨br, 1, none⟩ = some (.slice none 0 0) := by rw [cell_of_row wr _ 1 _ _ (0, 0) hres]; rfl
          have x2 := frozen_of_row wr br 0 _ _ hres
          have x3 := frozen_of_row wr br 1 _ _ hres
          have HRES := Lib.hid hres
          clear hlt htk hres
          go_wp2_with fail
          have hq1 := heap_setCell_same wr br 0 _ _ (.slice na G.nodes.length nc) HRES.out
          have hq2 := heap_setCell_same _ br 1 _ _ (.slice (some ⟨rb, 0, none⟩) G.nodes.length G.nodes.length) hq1
          refine bodyPost_ret (results_cell2 Tryz.results98 _ _ br 0 [.slice na G.nodes.length nc, .slice (some ⟨rb, 0, none⟩) G.nodes.length G.nodes.length] _ rfl ?_ Tryz.underlying125 (by rfl) (by kernel_rfl)) rfl ?_
          · intro j v hj
            match j with
            | 0 => simp at hj; subst hj; rw [cell_of_row _ _ _ _ _ (0, 0) hq2]; rfl
            | 1 => simp at hj; subst hj; rw [cell_of_row _ _ _ _ _ (0, 0) hq2]; rfl
            | j + 2 => simp at hj
          · have hbr : rb ≠ br := by have := HNB.out; have := HBR.out; have := HB3.out.size; omega
            have hnl := netL_len G.nodes (liveG G).links
            have hrd := (net_set (net_set HNW.out HRES.out (o := 0) (.slice na G.nodes.length nc)) hq1 (o := 1) (.slice (some ⟨rb, 0, none⟩) G.nodes.length G.nodes.length)).reads G.nodes.length
            rw [hnl] at hrd
            refine Or.inr ⟨HZ.out, .slice (some ⟨rb, 0, none⟩) G.nodes.length G.nodes.length, rfl, rfl, ?_, ((HWB.out wr (gNx HB3.out HBE.out)).setCell (p := ⟨br, 0, none⟩) HBR.out.2.1 _).setCell (p := ⟨br, 1, none⟩) HBR.out.2.1 _⟩
            exact hrd.low (by have := HB3.out.size; have := HBR.out; omega)
end Go.Proofs.YtjlfpjjfldbknaaGreat
end
