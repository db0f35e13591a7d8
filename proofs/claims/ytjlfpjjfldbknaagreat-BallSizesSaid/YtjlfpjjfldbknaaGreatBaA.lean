/- Balls: a sight in memory: place, distsFrom, dist. -/
import Derived.Test.YtjlfpjjfldbknaaGreatPtJ
import Derived.Test.YtjlfpjjfldbknaaGreatPrA
import Derived.WalkSpells
import Derived.Lib.LazyBuf
import Derived.Test.YtjlfpjjfldbknaaGreatBqA
namespace Go.Proofs.YtjlfpjjfldbknaaGreat
open Go.RowKit Go.Lib Go.Fq Go.Pq Go.Iq Go.Nq Go.Ow Go.Bq
set_option linter.unusedVariables false
set_option linter.unusedSimpArgs false
set_option maxRecDepth 100000

theorem bFind1_any (n : Nd) (x : Int) (w : World) : Calls Tryz.prog 33 #[.agg #[.int .i64 n.id, .bool n.up, .bool n.mark], .int .i64 x] w fun e w' => e = .returned (.int .i64 (cmpI n.id x)) ∧ Below w.heap.size w w' := by
  go_enter Tryz.func33, Tryz.ntmps33
  go_wp2_with (go_at_call 34; refine (gCmp_any _ _ _).mono ?_; rintro e w' ⟨rfl, rfl⟩)
  go_ret
  exact ⟨rfl, gAl _ _⟩
set_option maxHeartbeats 4000000 in
theorem bSearch_any (l : List Nd) (a : Option Addr) (c : Nat) (x : Int) (w : World) (hin : NodesIn w w.heap.size l a) (h : NodesP l) (hn : l.length < 4611686018427387904) :
    Calls Tryz.prog 32 #[.slice a l.length c, .int .i64 x, .func (.func 33) #[] #[]] w fun e w' => e = .returned (.tuple #[.int .i64 (Nq.ahead l x : Int), .bool (has l x)]) ∧ Below w.heap.size w w' := by
  have HF := Lib.hid hin
  have HS := Lib.hid (ahead_spec h x)
  have HA := Lib.hid (has_at h x)
  have HN := Lib.hid hn
  clear hin h
  go_enter Tryz.func32, Tryz.ntmps32
  go_wp2_with fail
  go_loopw [9, 10] (fun u v wr => ∃ i j : Nat, u = .int .i64 (i : Int) ∧ v = .int .i64 (j : Int) ∧ i ≤ j ∧ j ≤ l.length ∧ Below w.heap.size w wr ∧ i ≤ Nq.ahead l x ∧ Nq.ahead l x ≤ j) (fun u v _ => (RowKit.intOf v).toNat - (RowKit.intOf u).toNat)
  case atStart => exact ⟨0, l.length, rfl, rfl, Nat.zero_le _, Nat.le_refl _, Below.refl _ _, Nat.zero_le _, HS.out.1⟩
  case round =>
    obtain ⟨i, j, rfl, rfl, hij, hjn, hbel, hia, haj⟩ := hrel
    have HB := Lib.hid hbel
    by_cases hlt : i < j
    · have hlti : (i : Int) < (j : Int) := by omega
      obtain ⟨m, hmid⟩ : ∃ m, (i + j) / 2 = m := ⟨_, rfl⟩
      have hm : m < l.length := by omega
      obtain ⟨b, o, rfl, hb, hc⟩ := (HF.out.kept (fun k hk => hbel.block k hk) hbel.size).at m hm
      have HIN := Lib.hid (HS.out.2 m hm)
      obtain ⟨c0, c1, c2⟩ := hc m hm
      have HC := Lib.hid (fun W => bFind1_any l[m] x W)
      clear hc hbel
      generalize l[m] = nd at *
      have hn1 := HN.out
      have e1 : IntKind.i64.wrap ((i : Int) + (j : Int)) = (i : Int) + (j : Int) := by rw [IntKind.wrap_i64]; omega
      have e2 : IntKind.u64.wrap ((i : Int) + (j : Int)) = (i : Int) + (j : Int) := by rw [IntKind.wrap_u64]; omega
      have e3 : ((i : Int) + (j : Int)) / 2 = (m : Int) := by omega
      have hmi : (m : Int) < (l.length : Int) := by omega
      have hm0 : (0 : Int) ≤ (m : Int) := by omega
      have e4 : IntKind.i64.wrap ((m : Int) + 1) = (m : Int) + 1 := by rw [IntKind.wrap_i64]; omega
      go_upto_region 5 with (fail)
      try rw [e3]
      by_cases hx : nd.id < x
      · have hneg : cmpI nd.id x < 0 := cmp_neg.2 hx
        have HLT := Lib.hid (HIN.out.2 hx)
        go_wp2_with (go_at_call 33; refine (HC.out _).mono ?_; rintro e w' ⟨rfl, hb2⟩; have HB2 := Lib.hid (gNx HB.out hb2); clear hb2)
        refine ⟨⟨m + 1, j, by simp, rfl, by omega, hjn, HB2.out, by have := HLT.out; omega, haj⟩, ?_⟩
        simp [RowKit.intOf]; omega
      · have hneg : ¬ cmpI nd.id x < 0 := fun hh => hx (cmp_neg.1 hh)
        have HGE : Hid (Nq.ahead l x ≤ m) := Lib.hid (by have h1 := HIN.out; by_cases hq : m < Nq.ahead l x; exact absurd (h1.1 hq) hx; omega)
        go_wp2_with (go_at_call 33; refine (HC.out _).mono ?_; rintro e w' ⟨rfl, hb2⟩; have HB2 := Lib.hid (gNx HB.out hb2); clear hb2)
        refine ⟨⟨i, m, rfl, by simp, by omega, by omega, HB2.out, hia, HGE.out⟩, ?_⟩
        simp [RowKit.intOf]; omega
    · have hji : ¬ (i : Int) < (j : Int) := by omega
      have hi : i = Nq.ahead l x := by omega
      by_cases hk : i < l.length
      · have hki : (i : Int) < (l.length : Int) := by omega
        have hk0 : (0 : Int) ≤ (i : Int) := by omega
        obtain ⟨b, o, rfl, hb, hc⟩ := (HF.out.kept (fun k hk => hbel.block k hk) hbel.size).at i hk
        obtain ⟨c0, c1, c2⟩ := hc i hk
        have HC := Lib.hid (fun W => bFind1_any l[i] x W)
        have HR : Hid (has l x = decide (cmpI l[i].id x = 0)) := Lib.hid (by
          have h1 := HA.out
          by_cases hq : l[i].id = x
          · rw [h1.2 ⟨by omega, by simpa only [← hi] using hq⟩]
            simp [cmp_zero.2 hq]
          · have h2 : has l x = false := by
              cases hh : has l x with
              | false => rfl
              | true =>
                obtain ⟨_, h3⟩ := h1.1 hh
                exact absurd (by simpa only [← hi] using h3) hq
            rw [h2]
            symm; simp; exact fun e => hq (cmp_zero.1 e))
        clear hc hbel
        have hv := HR.out
        generalize l[i] = nd at *
        generalize cmpI nd.id x = v at *
        have HI := Lib.hid hi
        clear hi
        by_cases h0 : v = 0
        · subst h0
          go_wp2_with (go_at_call 33; refine (HC.out _).mono ?_; rintro e w' ⟨rfl, hb2⟩; have HB2 := Lib.hid (gNx HB.out hb2); clear hb2)
          refine bodyPost_ret (v := .tuple #[.int .i64 (i : Int), .bool true]) (by simp [results, Tryz.results32, go_sem]) rfl ?_
          exact ⟨by rw [HR.out, HI.out]; simp, HB2.out⟩
        · have hb0 : (v == 0) = false := by simp [h0]
          go_wp2_with (go_at_call 33; refine (HC.out _).mono ?_; rintro e w' ⟨rfl, hb2⟩; have HB2 := Lib.hid (gNx HB.out hb2); clear hb2)
          refine bodyPost_ret (v := .tuple #[.int .i64 (i : Int), .bool false]) (by simp [results, Tryz.results32, go_sem]) rfl ?_
          exact ⟨by rw [HR.out, HI.out]; simp [h0], HB2.out⟩
      · have hki : ¬ (i : Int) < (l.length : Int) := by omega
        have HR : Hid (has l x = false) := Lib.hid (by
          cases hh : has l x with
          | false => rfl
          | true => obtain ⟨h2, _⟩ := HA.out.1 hh; omega)
        have HI := Lib.hid hi
        clear hi hbel
        go_wp2_with fail
        refine bodyPost_ret (v := .tuple #[.int .i64 (i : Int), .bool false]) (by simp [results, Tryz.results32, go_sem]) rfl ?_
        exact ⟨by rw [HR.out, HI.out], HB.out⟩

/-- A live graph and a limit. -/
structure BG (H : Gr) (max : Nat) : Prop where
  hz : checkG H = 0
  hw : Wts H
  ll : liveG H = H
  lim : limitF max = 0
  hm : max < 2 ^ 64
theorem BG.small {H : Gr} {max : Nat} (h : BG H max) : 0 < qn max ∧ qn max ≤ 4294967296 ∧ max = qw (qn max) := by
  obtain ⟨lim, l1, l2, l3⟩ := limit_q max h.hm h.lim
  have e : qn max = lim := by rw [l3]; exact qn_qw (by omega)
  rw [e]
  exact ⟨by omega, l2, l3⟩
theorem BG.up {H : Gr} {max : Nat} (h : BG H max) {k : Nat} (hk : k < H.nodes.length) : H.nodes[k].up = true := by
  have e : (liveG H).nodes = H.nodes := by rw [h.ll]
  have hm := List.getElem_mem hk
  have e2 : H.nodes.filter (·.up) = H.nodes := e
  have h2 : H.nodes[k] ∈ H.nodes.filter (·.up) := by rw [e2]; exact hm
  exact (List.mem_filter.1 h2).2
theorem BG.id {H : Gr} {max : Nat} (h : BG H max) {k : Nat} (hk : k < H.nodes.length) : H.nodes[k].id = (idf H.nodes k : Int) := (idf_is (check_zero.1 h.hz).2.2.1 hk).1
/-- The types of a sight's own blocks. -/
def SgT (t : TypeId) : Prop := t = 72 ∨ t = 80 ∨ t = 78 ∨ t = 26 ∨ t = 90
/-- A row of hops, apart from a block. -/
def HpIn (w : World) (db : Nat) (l : List Rd) (a : Option Addr) : Prop := l = [] ∨ ∃ b cs, a = some ⟨b, 0, none⟩ ∧ (b ≠ db ∧ w.heap[b]? = some (.cells cs 80 (0, 0))) ∧ ∀ k (h : k < l.length), w.cell? ⟨b, k * 2, none⟩ = some (.int .i64 (l[k].1 : Int)) ∧ w.cell? ⟨b, k * 2 + 1, none⟩ = some (.float .f64 (qw l[k].2))
def HpsIn (w : World) (db : Nat) (rows : List (List Rd)) (hv : Value) : Prop := ∃ rb c cs, hv = .slice (some ⟨rb, 0, none⟩) rows.length c ∧ (rb ≠ db ∧ w.heap[rb]? = some (.cells cs 78 (0, 0))) ∧ ∀ u (h : u < rows.length), ∃ a c2, w.cell? ⟨rb, u, none⟩ = some (.slice a rows[u].length c2) ∧ HpIn w db rows[u] a
theorem HpIn.other {w w' : World} {db : Nat} {l : List Rd} {a : Option Addr} (h : HpIn w db l a) (k : ∀ j cs t, j ≠ db → w.heap[j]? = some (.cells cs t (0, 0)) → SgT t → w'.heap[j]? = w.heap[j]?) : HpIn w' db l a := by
  rcases h with h | ⟨b, cs, ha, hb, hc⟩
  · exact Or.inl h
  · have e := k b cs _ hb.1 hb.2 (Or.inr (Or.inl rfl))
    exact Or.inr ⟨b, cs, ha, ⟨hb.1, e.trans hb.2⟩, fun i hi => ⟨(World.cell?_of_block e).trans (hc i hi).1, (World.cell?_of_block e).trans (hc i hi).2⟩⟩
theorem HpsIn.other {w w' : World} {db : Nat} {rows : List (List Rd)} {hv : Value} (h : HpsIn w db rows hv) (k : ∀ j cs t, j ≠ db → w.heap[j]? = some (.cells cs t (0, 0)) → SgT t → w'.heap[j]? = w.heap[j]?) : HpsIn w' db rows hv := by
  obtain ⟨rb, c, cs, h1, h2, h3⟩ := h
  have e := k rb cs _ h2.1 h2.2 (Or.inr (Or.inr (Or.inl rfl)))
  refine ⟨rb, c, cs, h1, ⟨h2.1, e.trans h2.2⟩, fun u hu => ?_⟩
  obtain ⟨a, c2, h4, h5⟩ := h3 u hu
  exact ⟨a, c2, (World.cell?_of_block e).trans h4, h5.other k⟩
theorem bx_other {w w' : World} {db : Nat} (k : BelowX w.heap.size db w w') : ∀ j cs t, j ≠ db → w.heap[j]? = some (.cells cs t (0, 0)) → SgT t → w'.heap[j]? = w.heap[j]? := fun j cs t hj h _ => k.block j (Array.getElem?_eq_some_iff.1 h).1 hj
theorem HpIn.kept {w w' : World} {db : Nat} {l : List Rd} {a : Option Addr} (h : HpIn w db l a) (k : BelowX w.heap.size db w w') : HpIn w' db l a := h.other (bx_other k)
/-- What is known of distances from a place. -/
def DRow (w : World) (db : Nat) (H : Gr) (lim a : Nat) (v : Value) : Prop := v = .slice none 0 0 ∨ ∃ b c cs, v = .slice (some ⟨b, 0, none⟩) H.nodes.length c ∧ (b ≠ db ∧ w.heap[b]? = some (.cells cs 26 (0, 0))) ∧ ∀ i, i < H.nodes.length → w.cell? ⟨b, i, none⟩ = some (.float .f64 (dw (g_ (dst H lim a) i)))
theorem DRow.other {w w' : World} {db : Nat} {H : Gr} {lim a : Nat} {v : Value} (h : DRow w db H lim a v) (k : ∀ j cs t, j ≠ db → w.heap[j]? = some (.cells cs t (0, 0)) → SgT t → w'.heap[j]? = w.heap[j]?) : DRow w' db H lim a v := by
  rcases h with h | ⟨b, c, cs, h1, h2, h3⟩
  · exact Or.inl h
  · have e := k b cs _ h2.1 h2.2 (Or.inr (Or.inr (Or.inr (Or.inl rfl))))
    exact Or.inr ⟨b, c, cs, h1, ⟨h2.1, e.trans h2.2⟩, fun i hi => (World.cell?_of_block e).trans (h3 i hi)⟩
theorem DRow.kept {w w' : World} {db : Nat} {H : Gr} {lim a : Nat} {v : Value} (h : DRow w db H lim a v) (k : BelowX w.heap.size db w w') : DRow w' db H lim a v := h.other (bx_other k)
/-- A sight in memory. -/
structure Sg (w : World) (sb db B0 : Nat) (H : Gr) (max : Nat) (na : Option Addr) (nc : Nat) (la : Option Addr) (lc : Nat) (hv : Value) : Prop where
  bg : BG H max
  cells : w.heap[sb]? = some (.cells #[.slice na H.nodes.length nc, .slice la H.links.length lc, hv, .float .f64 max, .slice (some ⟨db, 0, none⟩) H.nodes.length H.nodes.length] 72 (0, 0))
  nodes : NodesIn w B0 H.nodes na
  links : LinksIn w B0 H.links la
  low : B0 ≤ sb ∧ B0 ≤ db ∧ sb ≠ db
  hops : HpsIn w db (netL H.nodes (liveG H).links) hv
  rows : ∃ vs : List Value, w.heap[db]? = some (.cells vs.toArray 90 (0, 0)) ∧ vs.length = H.nodes.length ∧ ∀ a (h : a < vs.length), DRow w db H (qn max) a vs[a]
theorem Sg.sbs {w : World} {sb db B0 : Nat} {H : Gr} {max : Nat} {na : Option Addr} {nc : Nat} {la : Option Addr} {lc : Nat} {hv : Value} (h : Sg w sb db B0 H max na nc la lc hv) : sb < w.heap.size := (Array.getElem?_eq_some_iff.1 h.cells).1
theorem Sg.dbs {w : World} {sb db B0 : Nat} {H : Gr} {max : Nat} {na : Option Addr} {nc : Nat} {la : Option Addr} {lc : Nat} {hv : Value} (h : Sg w sb db B0 H max na nc la lc hv) : db < w.heap.size := by obtain ⟨vs, h1, -⟩ := h.rows; exact (Array.getElem?_eq_some_iff.1 h1).1
/-- What keeps the first blocks, and those of a sight's types, keeps a sight. -/
theorem Sg.other {w : World} {sb db B0 : Nat} {H : Gr} {max : Nat} {na : Option Addr} {nc : Nat} {la : Option Addr} {lc : Nat} {hv : Value} {w' : World} (h : Sg w sb db B0 H max na nc la lc hv) (k : ∀ (j : Nat) (cs : Array Value) (t : TypeId), w.heap[j]? = some (.cells cs t (0, 0)) → SgT t → w'.heap[j]? = w.heap[j]?) (k0 : ∀ j, j < B0 → w'.heap[j]? = w.heap[j]?) : Sg w' sb db B0 H max na nc la lc hv := by
  refine ⟨h.bg, (k sb _ _ h.cells (Or.inl rfl)).trans h.cells, h.nodes.kept k0 (Nat.le_refl _), h.links.kept k0 (Nat.le_refl _), h.low, h.hops.other (fun j cs t _ hj ht => k j cs t hj ht), ?_⟩
  obtain ⟨vs, h1, h2, h3⟩ := h.rows
  exact ⟨vs, (k db _ _ h1 (Or.inr (Or.inr (Or.inr (Or.inr rfl))))).trans h1, h2, fun a ha => (h3 a ha).other (fun j cs t _ hj ht => k j cs t hj ht)⟩
theorem Sg.below {w : World} {sb db B0 : Nat} {H : Gr} {max : Nat} {na : Option Addr} {nc : Nat} {la : Option Addr} {lc : Nat} {hv : Value} {w' : World} (h : Sg w sb db B0 H max na nc la lc hv) (k : Below w.heap.size w w') : Sg w' sb db B0 H max na nc la lc hv :=
  h.other (fun j cs t hj _ => k.block j (Array.getElem?_eq_some_iff.1 hj).1) (fun j hj => k.block j (by have := h.low; have := h.sbs; omega))
theorem Sg.set {w : World} {sb db B0 : Nat} {H : Gr} {max : Nat} {na : Option Addr} {nc : Nat} {la : Option Addr} {lc : Nat} {hv : Value} (h : Sg w sb db B0 H max na nc la lc hv) {g o : Nat} {cs : Array Value} {t : TypeId} (hg : w.heap[g]? = some (.cells cs t (0, 0))) (ht : ¬ SgT t) (hB : B0 ≤ g) (v : Value) : Sg (w.setCell ⟨g, o, none⟩ v) sb db B0 H max na nc la lc hv :=
  h.other (fun j cs2 t2 hj h2 => Below.heap_setCell _ _ _ _ (fun e => by
    have e : j = g := e
    subst e
    rw [hg] at hj
    cases hj
    exact ht h2)) (fun j hj => Below.heap_setCell _ _ _ _ (fun e => by have e : j = g := e; omega))
theorem Sg.gr {w : World} {sb db B0 : Nat} {H : Gr} {max : Nat} {na : Option Addr} {nc : Nat} {la : Option Addr} {lc : Nat} {hv : Value} (h : Sg w sb db B0 H max na nc la lc hv) : GrIn w H na la := by
  obtain ⟨n1, n2, -, -⟩ := check_zero.1 h.bg.hz
  exact ⟨h.nodes.kept (fun _ _ => rfl) (by have := h.low; have := h.sbs; omega), h.links.kept (fun _ _ => rfl) (by have := h.low; have := h.sbs; omega), h.bg.hw, by omega, by omega⟩
theorem five_cells {V : World} {b : Nat} {a0 a1 a2 a3 a4 : Value} {t : TypeId} (h : V.heap[b]? = some (.cells #[a0, a1, a2, a3, a4] t (0, 0))) : V.cell? ⟨b, 0, none⟩ = some a0 ∧ V.cell? ⟨b, 1, none⟩ = some a1 ∧ V.cell? ⟨b, 2, none⟩ = some a2 ∧ V.cell? ⟨b, 3, none⟩ = some a3 ∧ V.cell? ⟨b, 4, none⟩ = some a4 :=
  ⟨by rw [cell_of_row V _ 0 _ _ (0, 0) h]; rfl, by rw [cell_of_row V _ 1 _ _ (0, 0) h]; rfl, by rw [cell_of_row V _ 2 _ _ (0, 0) h]; rfl, by rw [cell_of_row V _ 3 _ _ (0, 0) h]; rfl, by rw [cell_of_row V _ 4 _ _ (0, 0) h]; rfl⟩
theorem Sg.five {w : World} {sb db B0 : Nat} {H : Gr} {max : Nat} {na : Option Addr} {nc : Nat} {la : Option Addr} {lc : Nat} {hv : Value} (h : Sg w sb db B0 H max na nc la lc hv) : w.cell? ⟨sb, 0, none⟩ = some (.slice na H.nodes.length nc) ∧ w.cell? ⟨sb, 1, none⟩ = some (.slice la H.links.length lc) ∧ w.cell? ⟨sb, 2, none⟩ = some hv ∧ w.cell? ⟨sb, 3, none⟩ = some (.float .f64 max) ∧ w.cell? ⟨sb, 4, none⟩ = some (.slice (some ⟨db, 0, none⟩) H.nodes.length H.nodes.length) := five_cells h.cells
/-- One row more. -/
theorem Sg.put {w : World} {sb db B0 : Nat} {H : Gr} {max : Nat} {na : Option Addr} {nc : Nat} {la : Option Addr} {lc : Nat} {hv : Value} (h : Sg w sb db B0 H max na nc la lc hv) {at_ : Nat} (hat : at_ < H.nodes.length) {v : Value} (hv1 : DRow w db H (qn max) at_ v) : w.cell? ⟨db, at_, none⟩ ≠ none ∧ w.frozen? ⟨db, at_, none⟩ = false ∧ Sg (w.setCell ⟨db, at_, none⟩ v) sb db B0 H max na nc la lc hv ∧ BelowX w.heap.size db w (w.setCell ⟨db, at_, none⟩ v) := by
  obtain ⟨vs, h1, h2, h3⟩ := h.rows
  have kx : BelowX w.heap.size db w (w.setCell ⟨db, at_, none⟩ v) := ⟨rfl, rfl, rfl, by simp [World.setCell], fun j hj hx => Below.heap_setCell _ _ _ _ (by simpa using hx)⟩
  refine ⟨by rw [cell_of_row w db at_ _ _ (0, 0) h1]; simp <;> omega, frozen_of_row w db at_ _ _ h1, ?_, kx⟩
  refine ⟨h.bg, (kx.block sb h.sbs h.low.2.2).trans h.cells, h.nodes.kept (fun i hi => kx.block i (by have := h.low; have := h.sbs; omega) (by have := h.low; omega)) (Nat.le_refl _), h.links.kept (fun i hi => kx.block i (by have := h.low; have := h.sbs; omega) (by have := h.low; omega)) (Nat.le_refl _), h.low, h.hops.other (bx_other kx), ?_⟩
  refine ⟨vs.set at_ v, ?_, by rw [List.length_set]; exact h2, fun a ha => ?_⟩
  · rw [heap_setCell_same w db at_ _ _ v h1]; simp
  · rw [List.length_set] at ha
    rw [List.getElem_set]
    split
    · rename_i e; subst e; exact hv1.kept kx
    · exact (h3 a ha).kept kx
theorem Sg.row {w : World} {sb db B0 : Nat} {H : Gr} {max : Nat} {na : Option Addr} {nc : Nat} {la : Option Addr} {lc : Nat} {hv : Value} (h : Sg w sb db B0 H max na nc la lc hv) {at_ : Nat} (hat : at_ < H.nodes.length) : ∃ v, w.cell? ⟨db, at_, none⟩ = some v ∧ DRow w db H (qn max) at_ v := by
  obtain ⟨vs, h1, h2, h3⟩ := h.rows
  refine ⟨vs[at_], ?_, h3 at_ (by omega)⟩
  rw [cell_of_row w db at_ _ _ (0, 0) h1]; simp <;> omega
set_option maxHeartbeats 4000000 in
theorem bPlace0_any (x : Int) (w : World) (sb : Nat) (l : List Nd) (na : Option Addr) (nc : Nat) (c0 : w.cell? ⟨sb, 0, none⟩ = some (.slice na l.length nc)) (hin : NodesIn w w.heap.size l na) (h : NodesP l) (hn : l.length < 4611686018427387904) :
    Calls Tryz.prog 20 #[.pointer (some ⟨sb, 0, none⟩), .int .i64 x] w fun e w' => e = .returned (.tuple #[.int .i64 (Nq.ahead l x : Int), .bool (has l x)]) ∧ Below w.heap.size w w' := by
  have HC := Lib.hid (bSearch_any l na nc x w hin h hn)
  clear h hin hn
  go_enter Tryz.func20, Tryz.ntmps20
  go_wp2_with (go_at_call 32; refine HC.out.mono ?_; rintro e w' ⟨rfl, hb2⟩; have HB2 := Lib.hid hb2; clear hb2)
  refine bodyPost_ret (v := .tuple #[.int .i64 (Nq.ahead l x : Int), .bool (has l x)]) (by simp [results, Tryz.results20, go_sem]) rfl ?_
  exact ⟨rfl, HB2.out⟩
theorem bPlace_any (x : Int) (w : World) (sb db B0 : Nat) (H : Gr) (max : Nat) (na : Option Addr) (nc : Nat) (la : Option Addr) (lc : Nat) (hv : Value) (h : Sg w sb db B0 H max na nc la lc hv) :
    Calls Tryz.prog 20 #[.pointer (some ⟨sb, 0, none⟩), .int .i64 x] w fun e w' => e = .returned (.tuple #[.int .i64 (Nq.ahead H.nodes x : Int), .bool (has H.nodes x)]) ∧ Below w.heap.size w w' :=
  bPlace0_any x w sb H.nodes na nc h.five.1 h.gr.nodes (check_zero.1 h.bg.hz).2.2.1 (by have := (check_zero.1 h.bg.hz).1; omega)
theorem bFar_any (a : Option Nat) (h : Sm a) (w : World) : Calls Tryz.prog 51 #[.float .f64 (dw a)] w fun e w' => e = .returned (.bool a.isNone) ∧ w = w' := by
  have HI := Lib.hid (isinf1 (dw a) w (dw_ng h))
  have HE := Lib.hid (dw_inf h)
  generalize dw a = d at *
  rw [HE.out] at HI
  go_enter Tryz.func51, Tryz.ntmps51
  go_wp2_with (go_at_call 71; refine HI.out.mono ?_; rintro e w' ⟨rfl, rfl⟩)
  go_ret
  exact ⟨rfl, rfl⟩
/-- Paths.Dists from a place of a sight. -/
theorem bAsk_any (w : World) (sb db B0 : Nat) (H : Gr) (max : Nat) (na : Option Addr) (nc : Nat) (la : Option Addr) (lc : Nat) (hv : Value) (h : Sg w sb db B0 H max na nc la lc hv) {at_ : Nat} (hat : at_ < H.nodes.length) :
    Calls Tryz.prog 87 #[.agg #[.slice na H.nodes.length nc, .slice la H.links.length lc], .float .f64 max, .int .i64 (idf H.nodes at_ : Int)] w fun e w' => ∃ b c, e = .returned (.tuple #[.slice (some ⟨b, 0, none⟩) H.nodes.length c, .int .i64 0]) ∧ Below w.heap.size w w' ∧ DRow w' db H (qn max) at_ (.slice (some ⟨b, 0, none⟩) H.nodes.length c) := by
  have n3 := (check_zero.1 h.bg.hz).2.2.1
  obtain ⟨a1, a2⟩ := aheadOf n3 hat
  have hE : askE H max [(idf H.nodes at_ : Int)] = 0 := askE_ok h.bg.lim h.bg.hz (by simp [a1])
  have hp := pDists_any H na nc la lc max (idf H.nodes at_ : Int) w h.gr h.bg.hm
  rw [hE, a2] at hp
  refine hp.mono ?_
  rintro e w' (⟨hne, -⟩ | ⟨-, l, v, rfl, ho, hdp, hb⟩)
  · exact absurd rfl hne
  have hl := dst_is h.bg.hz h.bg.hw hdp
  subst hl
  rcases ho with ⟨h0, -⟩ | ⟨g, cap, cur, rfl, hbg, hg, hnc, hcm, hcs, hx⟩
  · omega
  refine ⟨g, cap, rfl, hb, Or.inr ⟨g, cap, cur, rfl, ⟨by have := h.dbs; omega, hg⟩, fun i hi => ?_⟩⟩
  rw [cell_of_row w' g i _ _ (0, 0) hg]
  have e1 : (cur.toList.take (H.nodes.length * 1))[i]? = cur.toList[i]? := by rw [List.getElem?_take, if_pos (by omega)]
  rw [hx, dRow_at (by rw [dst_len h.bg.hz h.bg.hw]; exact hi)] at e1
  simpa using e1.symm
theorem nilEq (V : World) (a : Option Addr) (n c : Nat) : (binOp .eql 90 (.slice a n c) (.slice none 0 0)).run Tryz.prog V = .ok (.bool a.isNone) V := Lib.run_eql_slice_nil V 90 _ a n c 0 0 Tryz.underlying90
theorem nilNe (V : World) (a : Option Addr) (n c : Nat) : (binOp .neq 90 (.slice a n c) (.slice none 0 0)).run Tryz.prog V = .ok (.bool (!a.isNone)) V := run_neq_slice_nil_any V 90 _ a n c 0 0 Tryz.underlying90
def SgS (V : World) (sb : Nat) (na : Option Addr) (nc n : Nat) (la : Option Addr) (m lc : Nat) (max db : Nat) (b o at_ : Nat) (x : Int) : Prop := V.cell? ⟨sb, 0, none⟩ = some (.slice na n nc) ∧ V.cell? ⟨sb, 1, none⟩ = some (.slice la m lc) ∧ V.cell? ⟨sb, 3, none⟩ = some (.float .f64 max) ∧ V.cell? ⟨sb, 4, none⟩ = some (.slice (some ⟨db, 0, none⟩) n n) ∧ V.cell? ⟨b, o + at_ * 3, none⟩ = some (.int .i64 x)
set_option maxHeartbeats 16000000 in
theorem bDistsFrom_any (at_ : Nat) (w : World) (sb db B0 : Nat) (H : Gr) (max : Nat) (na : Option Addr) (nc : Nat) (la : Option Addr) (lc : Nat) (hv : Value) (h : Sg w sb db B0 H max na nc la lc hv) (hat : at_ < H.nodes.length) :
    Calls Tryz.prog 74 #[.pointer (some ⟨sb, 0, none⟩), .int .i64 (at_ : Int)] w fun e w' => ∃ b c, e = .returned (.slice (some ⟨b, 0, none⟩) H.nodes.length c) ∧ DRow w' db H (qn max) at_ (.slice (some ⟨b, 0, none⟩) H.nodes.length c) ∧ Sg w' sb db B0 H max na nc la lc hv ∧ BelowX w.heap.size db w w' := by
  have hst := g_storeL
  have hneq := nilEq
  have hati : (at_ : Int) < (H.nodes.length : Int) := by omega
  have hat0 : (0 : Int) ≤ (at_ : Int) := by omega
  obtain ⟨c0, c1, c2, c3, c4⟩ := h.five
  obtain ⟨v, hcv, hrow⟩ := h.row hat
  have HSG := Lib.hid h
  have HAT := Lib.hid hat
  rcases hrow with rfl | ⟨b, c, cs, rfl, hb, hc⟩
  case inr =>
    have HR : Hid (DRow w db H (qn max) at_ (.slice (some ⟨b, 0, none⟩) H.nodes.length c)) := Lib.hid (Or.inr ⟨b, c, cs, rfl, hb, hc⟩)
    clear h hb hc hat
    go_enter Tryz.func74, Tryz.ntmps74
    go_wp2_with fail
    go_ret
    exact ⟨b, c, rfl, HR.out, HSG.out, BelowX.refl _ _ _⟩
  case inl =>
    obtain ⟨b, o, hna, hbb, hcn⟩ := h.nodes.at at_ hat
    obtain ⟨ni, -⟩ := hcn at_ hat
    rw [h.bg.id hat] at ni
    have HSS : Hid (∀ V, Sg V sb db B0 H max na nc la lc hv → BelowX w.heap.size db w V → SgS V sb na nc H.nodes.length la H.links.length lc max db b o at_ (idf H.nodes at_ : Int)) := Lib.hid (fun V hS hV => by
      obtain ⟨d0, d1, d2, d3, d4⟩ := hS.five
      exact ⟨d0, d1, d3, d4, (World.cell?_of_block (hV.block b (by have := h.low; have := h.sbs; omega) (by have := h.low; omega))).trans ni⟩)
    have HAK := Lib.hid (fun V (hV : Below w.heap.size w V) => bAsk_any V sb db B0 H max na nc la lc hv (h.below hV) hat)
    subst hna
    obtain ⟨x, hx⟩ : ∃ x, x = (idf H.nodes at_ : Int) := ⟨_, rfl⟩
    rw [← hx] at HSS HAK
    clear h hcn hbb ni hx
    go_enter Tryz.func74, Tryz.ntmps74
    go_upto_region 2 with (fail)
    clear c0 c1 c2 c3 c4 hcv
    refine wp_region_held_drew (S := fun V => SgS V sb (some ⟨b, o, none⟩) nc H.nodes.length la H.links.length lc max db b o at_ x) (by kernel_rfl) (HSS.out _ (HSG.out.below (Below.drew (Below.refl _ _))) (BelowX.of_below (Below.drew (Below.refl _ _)))) (fun hH => ?_)
    have hs0 := HSS.out _ (HSG.out.below (Below.drew (Below.refl _ _))) (BelowX.of_below (Below.drew (Below.refl _ _)))
    have B0' : Hid (Below w.heap.size w w.drew) := Lib.hid (Below.drew (Below.refl _ _))
    generalize w.drew = V0 at *
    refine tk 0 (by assumption) rfl (by kernel_rfl) (fun _ _ _ h => h) (fun V hV => by go_simp; try with_reducible rfl) ?_
    try simp only [Act.put, sqA, sqB, sqC, sqD, sqE, sqF]
    refine tk 1 (by assumption) rfl (by kernel_rfl) (fun _ _ _ h => h) (fun V hV => by go_simp; try with_reducible rfl) ?_
    try simp only [Act.put, sqA, sqB, sqC, sqD, sqE, sqF]
    refine tk 2 (by assumption) rfl (by kernel_rfl) (fun _ _ _ h => h) (fun V hV => by go_simp; try with_reducible rfl) ?_
    try simp only [Act.put, sqA, sqB, sqC, sqD, sqE, sqF]
    refine tk 3 (by assumption) rfl (by kernel_rfl) (fun _ _ _ h => h) (fun V hV => by obtain ⟨hx0, hx1, hx2, hx3, hx4⟩ := hV; go_simp; try with_reducible rfl) ?_
    try simp only [Act.put, sqA, sqB, sqC, sqD, sqE, sqF]
    refine tk 4 (by assumption) rfl (by kernel_rfl) (fun _ _ _ h => h) (fun V hV => by go_simp; try with_reducible rfl) ?_
    try simp only [Act.put, sqA, sqB, sqC, sqD, sqE, sqF]
    refine tk 5 (by assumption) rfl (by kernel_rfl) (fun _ _ _ h => h) (fun V hV => by go_simp; try with_reducible rfl) ?_
    try simp only [Act.put, sqA, sqB, sqC, sqD, sqE, sqF]
    refine tk 6 (by assumption) rfl (by kernel_rfl) (fun _ _ _ h => h) (fun V hV => by go_simp; try with_reducible rfl) ?_
    try simp only [Act.put, sqA, sqB, sqC, sqD, sqE, sqF]
    refine tk 7 (by assumption) rfl (by kernel_rfl) (fun _ _ _ h => h) (fun V hV => by go_simp; try with_reducible rfl) ?_
    try simp only [Act.put, sqA, sqB, sqC, sqD, sqE, sqF]
    refine tk 8 (by assumption) rfl (by kernel_rfl) (fun _ _ _ h => h) (fun V hV => by obtain ⟨hx0, hx1, hx2, hx3, hx4⟩ := hV; go_simp; try with_reducible rfl) ?_
    try simp only [Act.put, sqA, sqB, sqC, sqD, sqE, sqF]
    refine tk 9 (by assumption) rfl (by kernel_rfl) (fun _ _ _ h => h) (fun V hV => by go_simp; try with_reducible rfl) ?_
    try simp only [Act.put, sqA, sqB, sqC, sqD, sqE, sqF]
    refine tk 10 (by assumption) rfl (by kernel_rfl) (fun _ _ _ h => h) (fun V hV => by go_simp; try with_reducible rfl) ?_
    try simp only [Act.put, sqA, sqB, sqC, sqD, sqE, sqF]
    refine tk 11 (by assumption) rfl (by kernel_rfl) (fun _ _ _ h => h) (fun V hV => by go_simp; try with_reducible rfl) ?_
    try simp only [Act.put, sqA, sqB, sqC, sqD, sqE, sqF]
    refine tk 12 (by assumption) rfl (by kernel_rfl) (fun _ _ _ h => h) (fun V hV => by obtain ⟨hx0, hx1, hx2, hx3, hx4⟩ := hV; go_simp; try with_reducible rfl) ?_
    try simp only [Act.put, sqA, sqB, sqC, sqD, sqE, sqF]
    refine tk 13 (by assumption) rfl (by kernel_rfl) (fun _ _ _ h => h) (fun V hV => by go_simp; try with_reducible rfl) ?_
    try simp only [Act.put, sqA, sqB, sqC, sqD, sqE, sqF]
    refine tk 14 (by assumption) rfl (by kernel_rfl) (fun _ _ _ h => h) (fun V hV => by go_simp; try with_reducible rfl) ?_
    try simp only [Act.put, sqA, sqB, sqC, sqD, sqE, sqF]
    refine tk 15 (by assumption) rfl (by kernel_rfl) (fun _ _ _ h => h) (fun V hV => by go_simp; try with_reducible rfl) ?_
    try simp only [Act.put, sqA, sqB, sqC, sqD, sqE, sqF]
    refine tk 16 (by assumption) rfl (by kernel_rfl) (fun _ _ _ h => h) (fun V hV => by go_simp; try with_reducible rfl) ?_
    try simp only [Act.put, sqA, sqB, sqC, sqD, sqE, sqF]
    refine tk 17 (by assumption) rfl (by kernel_rfl) (fun _ _ _ h => h) (fun V hV => by obtain ⟨hx0, hx1, hx2, hx3, hx4⟩ := hV; go_simp; try with_reducible rfl) ?_
    try simp only [Act.put, sqA, sqB, sqC, sqD, sqE, sqF]
    refine tk 18 (by assumption) rfl (by kernel_rfl) (fun _ _ _ h => h) (fun V hV => by go_simp; try with_reducible rfl) ?_
    try simp only [Act.put, sqA, sqB, sqC, sqD, sqE, sqF]
    refine tk 19 (by assumption) rfl (by kernel_rfl) (fun _ _ _ h => h) (fun V hV => by go_simp; try with_reducible rfl) ?_
    try simp only [Act.put, sqA, sqB, sqC, sqD, sqE, sqF]
    refine tk 20 (by assumption) rfl (by kernel_rfl) (fun _ _ _ h => h) (fun V hV => by go_simp; try with_reducible rfl) ?_
    try simp only [Act.put, sqA, sqB, sqC, sqD, sqE, sqF]
    refine tk 21 (by assumption) rfl (by kernel_rfl) (fun _ _ _ h => h) (fun V hV => by obtain ⟨hx0, hx1, hx2, hx3, hx4⟩ := hV; go_simp; try with_reducible rfl) ?_
    try simp only [Act.put, sqA, sqB, sqC, sqD, sqE, sqF]
    refine wpAnyH_ready (rs := [22]) (by kernel_rfl) (by simp) ?_
    refine AllReadyH.cons (o := _) rfl (fun K hK => ?_) AllReadyH.nil
    go_simp
    refine (HAK.out V0 B0'.out).mono ?_
    rintro e V1 ⟨rb, rc, rfl, hb1, hdr⟩
    have B1 : Hid (Below w.heap.size w V1) := Lib.hid (gNx B0'.out hb1)
    have HDR := Lib.hid hdr
    clear hb1 hdr
    go_wp2_with fail
    refine hK.out _ _ (HSS.out _ (HSG.out.below B1.out) (BelowX.of_below B1.out)) (fun hH => ?_)
    clear hK K
    try simp only [Act.put, sqA, sqB, sqC, sqD, sqE, sqF]
    refine tk 23 (by assumption) rfl (by kernel_rfl) (fun _ _ _ h => h) (fun V hV => by go_simp; try with_reducible rfl) ?_
    try simp only [Act.put, sqA, sqB, sqC, sqD, sqE, sqF]
    refine tk 24 (by assumption) rfl (by kernel_rfl) (fun _ _ _ h => h) (fun V hV => by go_simp; try with_reducible rfl) ?_
    try simp only [Act.put, sqA, sqB, sqC, sqD, sqE, sqF]
    refine tk 25 (by assumption) rfl (by kernel_rfl) (fun _ _ _ h => h) (fun V hV => by go_simp; try with_reducible rfl) ?_
    try simp only [Act.put, sqA, sqB, sqC, sqD, sqE, sqF]
    refine tk 26 (by assumption) rfl (by kernel_rfl) (fun _ _ _ h => h) (fun V hV => by go_simp; try with_reducible rfl) ?_
    try simp only [Act.put, sqA, sqB, sqC, sqD, sqE, sqF]
    refine wpAnyH_ready (rs := [27]) (by kernel_rfl) (by simp) ?_
    refine AllReadyH.cons (o := _) rfl (fun K hK => ?_) AllReadyH.nil
    obtain ⟨v0, hoc, -⟩ := (HSG.out.below B1.out).row HAT.out
    obtain ⟨-, hof, hsg2, hbx2⟩ := (HSG.out.below B1.out).put HAT.out HDR.out
    have HS2 := Lib.hid hsg2
    have HX2 : Hid (BelowX w.heap.size db w (V1.setCell ⟨db, at_, none⟩ (.slice (some ⟨rb, 0, none⟩) H.nodes.length rc))) := Lib.hid ((BelowX.of_below B1.out).trans ⟨hbx2.os, hbx2.tape, hbx2.output, hbx2.size, fun j hj hx => hbx2.block j (Nat.lt_of_lt_of_le hj B1.out.size) hx⟩)
    clear hsg2 hbx2
    go_simp
    refine hK.out _ _ (HSS.out _ HS2.out HX2.out) (fun hH => ?_)
    clear hK K hoc hof
    try simp only [Act.put, sqA, sqB, sqC, sqD, sqE, sqF]
    refine wpAnyH_done (by kernel_rfl) ?_ _
    have hlast : (V1.setCell ⟨db, at_, none⟩ (.slice (some ⟨rb, 0, none⟩) H.nodes.length rc)).cell? ⟨db, at_, none⟩ = some (.slice (some ⟨rb, 0, none⟩) H.nodes.length rc) := by
      obtain ⟨vs, h1, h2, -⟩ := (HSG.out.below B1.out).rows
      rw [cell_of_row _ db at_ _ _ (0, 0) (heap_setCell_same V1 db at_ _ _ _ h1)]
      have hl : at_ < vs.length := by rw [h2]; exact HAT.out
      simp [hl]
    obtain ⟨W9, hW9⟩ : ∃ W9, W9 = V1.setCell ⟨db, at_, none⟩ (.slice (some ⟨rb, 0, none⟩) H.nodes.length rc) := ⟨_, rfl⟩
    have HR9 : Hid (DRow W9 db H (qn max) at_ (.slice (some ⟨rb, 0, none⟩) H.nodes.length rc)) := Lib.hid (by
      rw [hW9]
      exact HDR.out.kept ⟨rfl, rfl, rfl, by simp [World.setCell], fun j hj hx => Below.heap_setCell _ _ _ _ (by simpa using hx)⟩)
    rw [← hW9] at HS2 HX2 hlast ⊢
    obtain ⟨c0, c1, c2, c3, c4⟩ := HS2.out.five
    clear hW9 hs0 hneq
    go_wp2_with fail
    go_ret
    exact ⟨rb, rc, rfl, HR9.out, HS2.out, HX2.out⟩
set_option maxHeartbeats 8000000 in
theorem bDist_any (at_ to_ : Nat) (w : World) (sb db B0 : Nat) (H : Gr) (max : Nat) (na : Option Addr) (nc : Nat) (la : Option Addr) (lc : Nat) (hv : Value) (h : Sg w sb db B0 H max na nc la lc hv) (hat : at_ < H.nodes.length) (hto : to_ < H.nodes.length) :
    Calls Tryz.prog 50 #[.pointer (some ⟨sb, 0, none⟩), .int .i64 (at_ : Int), .int .i64 (to_ : Int)] w fun e w' => e = .returned (.float .f64 (dw (g_ (dst H (qn max) to_) at_))) ∧ Sg w' sb db B0 H max na nc la lc hv ∧ BelowX w.heap.size db w w' := by
  have hneq := nilNe
  have hati : (at_ : Int) < (H.nodes.length : Int) := by omega
  have hat0 : (0 : Int) ≤ (at_ : Int) := by omega
  have htoi : (to_ : Int) < (H.nodes.length : Int) := by omega
  have hto0 : (0 : Int) ≤ (to_ : Int) := by omega
  obtain ⟨c0, c1, c2, c3, c4⟩ := h.five
  obtain ⟨v, hcv, hrow⟩ := h.row hto
  have HSG := Lib.hid h
  rcases hrow with rfl | ⟨b, c, cs, rfl, hb, hc⟩
  case inr =>
    have hx := hc at_ hat
    clear h hb hc hat hto
    go_enter Tryz.func50, Tryz.ntmps50
    go_wp2_with fail
    go_ret
    exact ⟨rfl, HSG.out, BelowX.refl _ _ _⟩
  case inl =>
    have HDF := Lib.hid (bDistsFrom_any at_ w sb db B0 H max na nc la lc hv h hat)
    have HSY : Hid (g_ (dst H (qn max) to_) at_ = g_ (dst H (qn max) at_) to_) := Lib.hid (dst_sym h.bg.hz h.bg.hw (qn max) to_ at_)
    have HTO := Lib.hid hto
    clear h hat hto
    go_enter Tryz.func50, Tryz.ntmps50
    go_wp2_with fail
    refine HDF.out.mono ?_
    rintro e w2 ⟨b, c, rfl, hdr, hsg, hbx⟩
    have HS2 := Lib.hid hsg
    have HX2 := Lib.hid hbx
    obtain ⟨b', c', cs', e1, hb, hc⟩ := hdr.resolve_left (fun e => by cases e)
    simp only [Value.slice.injEq, Option.some.injEq, Addr.mk.injEq, and_true, true_and] at e1
    obtain ⟨rfl, rfl⟩ := e1
    have hx := hc to_ HTO.out
    rw [← HSY.out] at hx
    clear hsg hbx hdr hb hc c0 c1 c2 c3 c4 hcv
    go_wp2_with fail
    go_ret
    exact ⟨rfl, HS2.out, HX2.out⟩
end Go.Proofs.YtjlfpjjfldbknaaGreat
