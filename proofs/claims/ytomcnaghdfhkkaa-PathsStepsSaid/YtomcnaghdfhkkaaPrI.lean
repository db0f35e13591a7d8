/- Paths: the document's other, next, Nexts, Path; the law of first hops. -/
import Derived.Test.YtomcnaghdfhkkaaPrB
import Derived.Test.YtomcnaghdfhkkaaPrC
import Derived.Test.YtomcnaghdfhkkaaPqT
namespace Go.Proofs.Ytomcnaghdfhkkaa
open Go.RowKit Go.Lib Go.Fq Go.Pq Go.Iq Go.Nq Go.Ow
set_option linter.unusedVariables false
set_option linter.unusedSimpArgs false
set_option maxRecDepth 100000

theorem isinf_o (a : Option Nat) (h : Sm a) (b : Bool) (hb : a.isNone = b) (w : World) : Calls Try.prog 15 #[.float .f64 (dw a), .int .i64 1] w fun e w' => e = .returned (.bool b) ∧ w = w' := by
  rw [← hb, ← dw_inf h]; exact isinf1 (dw a) w (dw_ng h)
theorem qw_neB {n m : Nat} (hn : n < 2 ^ 53) (hm : m < 2 ^ 53) : (FloatKind.f64.format.order (qw n) (qw m) == some .eq) = decide (n = m) := by
  rw [od_num (qw_nan hn) (qw_nan hm), Bool.eq_iff_iff, beq_iff_eq, Option.some.injEq, Int.compare_eq_eq, decide_eq_true_eq]
  exact ⟨ik_inj_qw hn hm, fun h => by rw [h]⟩
theorem sum_is (A : Option Nat) (q n : Nat) (hA : Sm A) (hq0 : 0 < q) (hq : q ≤ 4294967296) (hn : n ≤ 4294967296) : ∃ S, Ieee.double.add (dw A) (qw q) = some S ∧ (FloatKind.f64.format.order S (qw n) != some .eq) = !(sumIs A q n) := by
  cases A with
  | none =>
    refine ⟨INF, add_inf_qw q (by omega), ?_⟩
    have := dw_eq (a := none) (b := some n) trivial hn
    have h2 : (FloatKind.f64.format.order INF (qw n) == some .eq) = false := this
    unfold sumIs
    simp only [bne, h2]
  | some m =>
    unfold Sm at hA
    simp only at hA
    refine ⟨qw (m + q), add_qw m q (by omega) (by omega), ?_⟩
    unfold sumIs
    simp only [bne, qw_neB (n := m + q) (m := n) (by omega) (by omega)]
/-- The document's next, from c: how far all are from the other one. -/
def nextZ (G : Gr) (fr tz : Int) (c : List (Option Nat)) : Int := if fr = tz then 0 else match g_ c (Nq.ahead G.nodes fr) with
  | none => 0
  | some n => bestK G.nodes fr c n G.links G.links.length
def NxS (V : World) (gb : Nat) (na la : Option Addr) (nc n lc m ll dg px s A d : Nat) (q : Nat) : Prop := V.cell? ⟨gb, 0, none⟩ = some (.slice na n nc) ∧ V.cell? ⟨gb, 1, none⟩ = some (.slice la m lc) ∧ V.cell? ⟨ll, 2, none⟩ = some (.float .f64 q) ∧ V.cell? ⟨ll, 3, none⟩ = some (.bool true) ∧ V.cell? ⟨dg, px, none⟩ = some (.float .f64 A) ∧ V.cell? ⟨dg, s, none⟩ = some (.float .f64 d)
end Go.Proofs.Ytomcnaghdfhkkaa

namespace Go.Proofs.Ytomcnaghdfhkkaa
open Go.RowKit Go.Lib Go.Fq Go.Pq Go.Iq Go.Nq Go.Ow
set_option linter.unusedVariables false
set_option linter.unusedSimpArgs false
set_option maxRecDepth 100000

theorem ahead_idf {ns : List Nd} (h : NodesP ns) {k : Nat} (hk : k < ns.length) : has ns (idf ns k : Int) = true ∧ Nq.ahead ns (idf ns k : Int) = k := by
  have e := (idf_is h hk).1
  have hh : has ns (idf ns k : Int) = true := by
    unfold has
    rw [List.any_eq_true]
    exact ⟨ns[k], List.getElem_mem hk, by simp [e]⟩
  refine ⟨hh, ?_⟩
  obtain ⟨hk2, hx⟩ := (has_at h _).1 hh
  obtain ⟨-, h4⟩ := ahead_spec h (idf ns k : Int)
  have a1 := h4 k hk
  rw [e] at a1
  rcases Nat.lt_trichotomy (Nq.ahead ns (idf ns k : Int)) k with hl | he | hg
  · have h5 := nodes_rise h k (Nq.ahead ns (idf ns k : Int)) hl hk
    rw [hx, e] at h5
    omega
  · exact he
  · have := a1.1 hg; omega
theorem next_is {G : Gr} (hz : checkG G = 0) (hw : ∀ y ∈ G.links, y.w < 2 ^ 64) {fr : Int} (hfr : has G.nodes fr = true) {lim : Nat} {D : List (Option (Nat × Nat))} (hS : StopsP G (Nq.ahead G.nodes fr) lim D) {k : Nat} (hk : k < G.nodes.length) {c : List (Option Nat)} (hC : DistsP G k lim c) :
    nextZ G fr (idf G.nodes k : Int) c = (fo (dd D k) : Int) := by
  have n3 := (check_zero.1 hz).2.2.1
  unfold nextZ
  by_cases hf : fr = (idf G.nodes k : Int)
  · rw [if_pos hf]
    have hs : Nq.ahead G.nodes fr = k := by rw [hf]; exact (ahead_idf n3 hk).2
    rw [hs] at hS
    obtain ⟨-, h2⟩ := hS
    by_cases hu : upAt G.nodes k = true
    · rw [if_pos hu] at h2
      cases hd : dd D k with
      | none => rfl
      | some p =>
        obtain ⟨n, f⟩ := p
        have := ((h2 k).1 n f hd).2.2 0 0 WayF.nil
        unfold Le at this
        have e : f = 0 := by omega
        subst e
        rfl
    · rw [if_neg hu] at h2
      rw [h2 k]
      rfl
  · rw [if_neg hf]
    have hne : Nq.ahead G.nodes fr ≠ k := fun e => hf (by rw [← e]; exact (id_at n3 hfr).1.symm)
    have ht := tri_sym hz hw hS.dists hC
    rw [dOf_at] at ht
    cases hd : dd D k with
    | none => rw [hd] at ht; rw [ht]; rfl
    | some p =>
      obtain ⟨n, f⟩ := p
      rw [hd] at ht
      rw [ht]
      exact next_fo hz hw hC hS hfr hne hd
theorem row_cells2 {w : World} {base n : Nat} {v : Value} {l : List (Option Nat)} (ho : Own w base 26 1 v n (dRow l)) (hl : l.length = n) (hn : 0 < n) : ∃ dg dc, v = .slice (some ⟨dg, 0, none⟩) n dc ∧ ∀ V, Below w.heap.size w V → ∀ i, i < n → V.cell? ⟨dg, i, none⟩ = some (.float .f64 (dw (g_ l i))) := by
  obtain ⟨dg, dc, rfl, -⟩ := own1_cell ho hn
  refine ⟨dg, dc, rfl, fun V hV i hi => ?_⟩
  obtain ⟨g', c', e1, e2⟩ := own1_cell (ho.below hV) hn
  simp only [Value.slice.injEq, Option.some.injEq, Addr.mk.injEq, and_true, true_and] at e1
  obtain ⟨rfl, rfl⟩ := e1
  exact e2 i hi _ (dRow_at (by rw [hl]; exact hi))
def TnS (V : World) (gb : Nat) (na la : Option Addr) (nc n lc m b o i : Nat) (x : Int) : Prop := V.cell? ⟨gb, 0, none⟩ = some (.slice na n nc) ∧ V.cell? ⟨gb, 1, none⟩ = some (.slice la m lc) ∧ V.cell? ⟨b, o + i * 3, none⟩ = some (.int .i64 x)
theorem nF_succ (D : List (Option (Nat × Nat))) (k : Nat) : (List.range (k + 1)).map (nF D) = (List.range k).map (nF D) ++ [.int .i64 (fo (dd D k) : Int)] := by
  rw [List.range_succ, List.map_append]; rfl
/-- What the document's Nexts tells. -/
def RNextsEnds (w : World) (G : Gr) (E : Int) (D : List (Option (Nat × Nat))) (e : Ending) (w' : World) : Prop :=
  (E ≠ 0 ∧ e = .returned (.tuple #[.slice none 0 0, .int .i64 E]) ∧ Below w.heap.size w w') ∨
  (E = 0 ∧ ∃ v, e = .returned (.tuple #[v, .int .i64 0]) ∧ Own w' w.heap.size 3 1 v G.nodes.length ((List.range G.nodes.length).map (nF D)) ∧ Below w.heap.size w w')
theorem ints_none2 (w : World) : Calls Try.prog 12 #[.slice none 0 0, .slice none 0 0] w fun e w' => e = .returned (.bool true) ∧ Below w.heap.size w w' :=
  ints_same w.heap.size w.heap.size _ _ (fun _ => 0) 0 w (Or.inl ⟨rfl, rfl, none, rfl⟩) (Or.inl ⟨rfl, rfl, none, rfl⟩) (by omega)
end Go.Proofs.Ytomcnaghdfhkkaa

namespace Go.Proofs.Ytomcnaghdfhkkaa
open Go.RowKit Go.Lib Go.Fq Go.Pq Go.Iq Go.Nq Go.Ow
set_option linter.unusedVariables false
set_option linter.unusedSimpArgs false
set_option maxRecDepth 100000

theorem ask_two (G : Gr) (max : Nat) (fr to_ : Int) : (askE G max [fr] ≠ 0 → askE G max [fr, to_] = askE G max [fr]) ∧ (askE G max [fr] = 0 → askE G max [fr, to_] = askE G max [to_]) := by
  unfold askE
  by_cases h1 : limitF max ≠ 0
  · simp [if_pos h1]
  · simp only [if_neg h1]
    by_cases h2 : checkG G ≠ 0
    · simp [if_pos h2]
    · simp only [if_neg h2]
      cases h3 : has G.nodes fr <;> cases h4 : has G.nodes to_ <;> simp [h3, h4]
theorem pathL_len (g : Gr) (t : Nat) (c : List (Option Nat)) : ∀ f u, (pathL g t c f u).length ≤ f := by
  intro f
  induction f with
  | zero => intro u; exact Nat.le_refl _
  | succ f ih =>
    intro u
    unfold pathL
    split
    · simp
    · have := ih (Nq.ahead g.nodes (bestK g.nodes (idf g.nodes u : Int) c ((g_ c u).getD 0) g.links g.links.length))
      simp only [List.length_cons]
      omega
def iRow (zs : List Int) : List Value := zs.map (Value.int .i64)
theorem iRow_snoc (zs : List Int) (x : Int) : iRow (zs ++ [x]) = iRow zs ++ [.int .i64 x] := by simp [iRow]
/-- What Path tells. -/
def PathEnds (w : World) (G : Gr) (E : Int) (s t lim : Nat) (e : Ending) (w' : World) : Prop :=
  (E ≠ 0 ∧ e = .returned (.tuple #[.slice none 0 0, .float .f64 0, .int .i64 E]) ∧ Below w.heap.size w w') ∨
  (E = 0 ∧ ∃ c, DistsP G t lim c ∧ Below w.heap.size w w' ∧
    ((g_ c s = none ∧ e = .returned (.tuple #[.slice none 0 0, .float .f64 (dw none), .int .i64 0])) ∨
     (∃ n v, g_ c s = some n ∧ e = .returned (.tuple #[v, .float .f64 (dw (some n)), .int .i64 0]) ∧ Own w' w.heap.size 3 1 v ((idf G.nodes s : Int) :: pathL G t c (n + 1) s).length (iRow ((idf G.nodes s : Int) :: pathL G t c (n + 1) s)))))
end Go.Proofs.Ytomcnaghdfhkkaa
