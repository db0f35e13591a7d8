/- Paths: the document's place and asked. Paths: the document's dists. -/
import Derived.Test.YtjlfpjjfldbknaaGreatPtJ
import Derived.Test.YtjlfpjjfldbknaaGreatNqA
section
namespace Go.Proofs.YtjlfpjjfldbknaaGreat
open Go.RowKit Go.Lib Go.Fq Go.Pq Go.Iq Go.Nq Go.Ow
set_option linter.unusedVariables false
set_option linter.unusedSimpArgs false
set_option maxRecDepth 100000

set_option maxHeartbeats 2000000 in
theorem sPlace_any (l : List Nd) (na : Option Addr) (nc : Nat) (la : Option Addr) (ln lc : Nat) (x : Int) (w : World) (hin : NodesIn w w.heap.size l na) (h : NodesP l) (hn : l.length < 4611686018427387904) :
    Calls Tryz.prog 80 #[.agg #[.slice na l.length nc, .slice la ln lc], .int .i64 x] w fun e w' => e = .returned (.int .i64 (placeV l x)) ∧ Below w.heap.size w w' := by
  obtain ⟨W1, hW1⟩ : ∃ W1, W1 = w.alloc (.cells #[.slice na l.length nc, .slice la ln lc] 25) := ⟨_, rfl⟩
  have hb1 : Below w.heap.size w W1 := by rw [hW1]; exact gAl _ _
  have hs1 : w.heap.size < W1.heap.size := by rw [hW1]; simp
  have k0 : W1.cell? ⟨w.heap.size, 0, none⟩ = some (.slice na l.length nc) := by rw [hW1]; simp [go_sem]
  have k1 : W1.cell? ⟨w.heap.size, 1, none⟩ = some (.slice la ln lc) := by rw [hW1]; simp [go_sem]
  have HKG : Hid (∀ V, Below W1.heap.size W1 V → V.cell? ⟨w.heap.size, 0, none⟩ = some (.slice na l.length nc) ∧ V.cell? ⟨w.heap.size, 1, none⟩ = some (.slice la ln lc)) := Lib.hid (fun V h => ⟨(h.cell (p := ⟨w.heap.size, 0, none⟩) hs1).trans k0, (h.cell (p := ⟨w.heap.size, 1, none⟩) hs1).trans k1⟩)
  have HB1 := Lib.hid hb1
  have HN : Hid (NodesIn W1 W1.heap.size l na) := Lib.hid (hin.kept (fun i hi => hb1.block i hi) hb1.size)
  have HH := Lib.hid (fun (k : Nat) (hk : k < l.length) (e : l[k].id = x) => placeV_hit h hk e)
  have HM := Lib.hid (fun h => placeV_miss (l := l) (x := x) h)
  have HL := Lib.hid hn
  have HS1 := Lib.hid hs1
  obtain ⟨g0, g1⟩ := HKG.out W1 (Below.refl _ _)
  clear hin h hn hb1 hs1 k0 k1 HKG
  go_enter Tryz.func80, Tryz.ntmps80
  go_upto_region 1 with (fail)
  rw [← hW1]
  clear hW1
  go_wp2_with fail
  go_loopw [5] (fun v wr => ∃ k : Nat, v = .int .i64 (k : Int) ∧ k ≤ l.length ∧ wr = W1 ∧ (∀ i (hi : i < l.length), i < k → l[i].id ≠ x)) (fun v _ => l.length - (RowKit.intOf v).toNat)
  case atStart => exact ⟨0, rfl, by omega, rfl, fun i _ hi => by omega⟩
  case round =>
    obtain ⟨k, rfl, hk, rfl, hno⟩ := hrel
    have HNO := Lib.hid hno
    clear hno
    by_cases hlt : k < l.length
    · have hlti : (k : Int) < (l.length : Int) := by omega
      have hk0 : (0 : Int) ≤ (k : Int) := by omega
      have hkw : IntKind.i64.wrap ((k : Int) + 1) = (k : Int) + 1 := by rw [IntKind.wrap_i64]; have := HL.out; omega
      obtain ⟨b, o, rfl, hb, hc⟩ := HN.out.at k hlt
      obtain ⟨c0, c1, c2⟩ := hc k hlt
      have HNX : Hid (l[k].id ≠ x → ∀ i (hi : i < l.length), i < k + 1 → l[i].id ≠ x) := Lib.hid (fun h i hi hik => by by_cases e : i = k; (subst e; exact h); exact HNO.out i hi (by omega))
      have HHK := Lib.hid (HH.out k hlt)
      clear hc HH
      generalize l[k] = nd at *
      by_cases hx : nd.id = x
      · have HV := Lib.hid (HHK.out hx)
        have hxb : (nd.id == x) = true := by simpa using hx
        clear hx HHK HNX
        go_wp2_with fail
        go_ret
        exact ⟨by rw [HV.out]; rfl, HB1.out⟩
      · have hxb : (nd.id == x) = false := by simpa using hx
        have HOK := Lib.hid (HNX.out hx)
        clear hx HHK HNX
        go_wp2_with fail
        refine ⟨⟨k + 1, by simp, by omega, by first | trivial | rfl, HOK.out⟩, ?_⟩
        simp [RowKit.intOf]; omega
    · have hnk : ¬ (k : Int) < (l.length : Int) := by omega
      have HV := Lib.hid (HM.out (fun i hi => HNO.out i hi (by omega)))
      clear hlt HM
      go_wp2_with fail
      go_ret
      exact ⟨by rw [HV.out]; rfl, HB1.out⟩
set_option maxHeartbeats 8000000 in
theorem asked_any (G : Gr) (na : Option Addr) (nc : Nat) (la : Option Addr) (lc : Nat) (max : Nat) (fr : Int) (w : World) (hin : GrIn w G na la) (hm : max < 2 ^ 64) :
    Calls Tryz.prog 62 #[.agg #[.slice na G.nodes.length nc, .slice la G.links.length lc], .float .f64 max, .int .i64 fr] w fun e w' => e = .returned (.int .i64 (askE G max [fr])) ∧ Below w.heap.size w w' := by
  obtain ⟨W1, hW1⟩ : ∃ W1, W1 = w.alloc (.cells #[.slice na G.nodes.length nc, .slice la G.links.length lc] 25) := ⟨_, rfl⟩
  have b1 : Below w.heap.size w W1 := by rw [hW1]; exact gAl _ _
  have s1 : w.heap.size < W1.heap.size := by rw [hW1]; simp
  have r1 : W1.heap[w.heap.size]? = some (.cells #[.slice na G.nodes.length nc, .slice la G.links.length lc] 25 (0, 0)) := by rw [hW1]; exact heap_alloc_new w _
  have HKG : Hid (∀ V, Below W1.heap.size W1 V → V.cell? ⟨w.heap.size, 0, none⟩ = some (.slice na G.nodes.length nc) ∧ V.cell? ⟨w.heap.size, 1, none⟩ = some (.slice la G.links.length lc)) := Lib.hid (fun V hV => by
    have := two_cells ((hV.block _ s1).trans r1)
    exact ⟨this.1, this.2.1⟩)
  have HG : Hid (∀ V, Below W1.heap.size W1 V → GrIn V G na la) := Lib.hid (fun V hV => (hin.below b1).below hV)
  have HB1 := Lib.hid b1
  have HLM := Lib.hid (reflimit_any max W1 hm)
  obtain ⟨g0, g1⟩ := HKG.out W1 (Below.refl _ _)
  have HWT := Lib.hid hin.wts
  have HSZ : Hid (G.nodes.length * 16 ≤ 140737488351232 ∧ G.links.length * 32 ≤ 140737488351232) := Lib.hid ⟨hin.n1, hin.l1⟩
  clear hin b1 s1 r1 hm
  by_cases hlz : limitF max = 0
  case neg =>
    have HE := Lib.hid (askE_limit (G := G) (ids := [fr]) hlz)
    have hlz2 : (limitF max != 0) = true := by simpa using hlz
    clear hlz
    generalize limitF max = le at *
    go_enter Tryz.func62, Tryz.ntmps62
    go_upto_region 1 with (fail)
    rw [← hW1]
    clear hW1
    go_wp2_with (go_at_call 39; refine HLM.out.mono ?_; rintro e w' ⟨rfl, rfl⟩)
    go_ret
    exact ⟨by rw [HE.out]; rfl, HB1.out⟩
  case pos =>
    rw [hlz] at HLM
    have HLZ := Lib.hid hlz
    clear hlz
    have HCK := Lib.hid (rCheck_any G na la nc lc W1 (HG.out W1 (Below.refl _ _)).nodes (HG.out W1 (Below.refl _ _)).links HWT.out (by have := HSZ.out; omega) (by have := HSZ.out; omega))
    by_cases hz : checkG G = 0
    case neg =>
      have HE := Lib.hid (askE_check (ids := [fr]) HLZ.out hz)
      have hz2 : (checkG G == 0) = false := by simpa using hz
      clear hz
      generalize checkG G = ce at *
      go_enter Tryz.func62, Tryz.ntmps62
      go_upto_region 1 with (fail)
      rw [← hW1]
      clear hW1
      go_wp2_with (go_at_call 39; refine HLM.out.mono ?_; rintro e w' ⟨rfl, rfl⟩)
      refine HCK.out.mono ?_
      rintro e w2 ⟨rfl, hb2⟩
      have HB2 := Lib.hid (gNx HB1.out hb2)
      clear hb2
      go_wp2_with fail
      go_ret
      exact ⟨by rw [HE.out]; rfl, HB2.out⟩
    case pos =>
      have HZ := Lib.hid hz
      rw [hz] at HCK
      have HPL := Lib.hid (fun (V : World) (hV : Below W1.heap.size W1 V) => sPlace_any G.nodes na nc la G.links.length lc fr V (HG.out V hV).nodes (check_zero.1 hz).2.2.1 (by have := (check_zero.1 hz).1; omega))
      have HNG := Lib.hid (placeV_neg G.nodes fr)
      generalize placeV G.nodes fr = pv at *
      clear hz
      go_enter Tryz.func62, Tryz.ntmps62
      go_upto_region 1 with (fail)
      rw [← hW1]
      clear hW1
      go_wp2_with (go_at_call 39; refine HLM.out.mono ?_; rintro e w' ⟨rfl, rfl⟩)
      refine HCK.out.mono ?_
      rintro e w2 ⟨rfl, hb2⟩
      have HB2 := Lib.hid hb2
      clear hb2 g0 g1
      obtain ⟨g0, g1⟩ := HKG.out w2 HB2.out
      go_wp2_with fail
      refine (HPL.out w2 HB2.out).mono ?_
      rintro e w3 ⟨rfl, hb3⟩
      have HB3 := Lib.hid (gNx HB1.out (gNx HB2.out hb3))
      clear hb3 g0 g1
      cases hh : has G.nodes fr with
      | false =>
        have hp : pv < 0 := HNG.out.1.2 hh
        have HE := Lib.hid (askE_none (ids := [fr]) HLZ.out HZ.out (by simpa using hh))
        clear hh
        go_wp2_with fail
        go_ret
        exact ⟨by rw [HE.out]; rfl, HB3.out⟩
      | true =>
        have hp : ¬ pv < 0 := by have := HNG.out.2.2 hh; omega
        have HE := Lib.hid (askE_ok (ids := [fr]) HLZ.out HZ.out (by simpa using hh))
        clear hh
        go_wp2_with fail
        go_ret
        exact ⟨by rw [HE.out]; rfl, HB3.out⟩
end Go.Proofs.YtjlfpjjfldbknaaGreat
end

section
namespace Go.Ow
open Go.RowKit Go.Lib
set_option linter.unusedVariables false
set_option linter.unusedSimpArgs false
/-- A row beside one that grows stays. -/
theorem own_beside {w w' : World} {base : Nat} {e : TypeId} {k n : Nat} {v v' vb : Value} {xs : List Value} (ho : Own w base e k vb n xs) (hk : ∀ q, Kq q v v' w w') (hap : ∀ g n c n' c', v = .slice (some ⟨g, 0, none⟩) n c → vb = .slice (some ⟨g, 0, none⟩) n' c' → c = 0 ∨ c' = 0) : Own w' base e k vb n xs := by
  rcases ho with h | ⟨g, cap, cur, rfl, hbg, hg, hnc, hcm, hcs, hx⟩
  · exact Or.inl h
  · by_cases hc0 : cap = 0
    · subst hc0
      have hn0 : n = 0 := by omega
      subst hn0
      exact Or.inl ⟨rfl, by rw [← hx]; simp, _, rfl⟩
    · exact Or.inr ⟨g, cap, cur, rfl, hbg, ((hk (g + 1)).block g (Array.getElem?_eq_some_iff.1 hg).1 (by omega) (fun n' c' e3 => (hap g n' c' _ _ e3 rfl).resolve_right hc0)).trans hg, hnc, hcm, hcs, hx⟩
theorem beside_next {w w' : World} {base : Nat} {e : TypeId} {k n : Nat} {v v' vb : Value} {xs : List Value} (ho : Own w base e k vb n xs) (hk : ∀ q, Kq q v v' w w') (hap : ∀ g n c n' c', v = .slice (some ⟨g, 0, none⟩) n c → vb = .slice (some ⟨g, 0, none⟩) n' c' → c = 0 ∨ c' = 0) : ∀ g n c n' c', v' = .slice (some ⟨g, 0, none⟩) n c → vb = .slice (some ⟨g, 0, none⟩) n' c' → c = 0 ∨ c' = 0 := by
  intro g m c m' c' h1 h2
  by_cases hc : c' = 0
  · exact Or.inr hc
  · left
    have hgs : g < w.heap.size := by
      rcases ho with ⟨_, _, a, e2⟩ | ⟨g', cap, cur, e2, hbg, hg, _⟩
      · rw [e2] at h2; cases h2; exact absurd rfl hc
      · rw [e2] at h2; cases h2; exact (Array.getElem?_eq_some_iff.1 hg).1
    exact (hk 0).row g hgs (fun n'' c'' e3 => (hap g n'' c'' _ _ e3 h2).resolve_right hc) _ _ h1
theorem row1c {w : World} {base g n cap : Nat} {t : TypeId} {xs : List Value} (h : Own w base t 1 (.slice (some ⟨g, 0, none⟩) n cap) n xs) {i : Nat} (hi : i < n) {v : Value} (hv : xs[i]? = some v) : w.cell? ⟨g, i, none⟩ = some v ∧ w.frozen? ⟨g, i, none⟩ = false := by
  obtain ⟨g', cap', e1, e2, e3, e4, e5⟩ := h.range (by omega)
  simp only [Value.slice.injEq, Option.some.injEq, Addr.mk.injEq, and_true, true_and] at e1
  obtain ⟨rfl, rfl⟩ := e1
  exact ⟨by simpa using e4 i v hv, by simpa using (e5 i (by omega)).2⟩
theorem Kq.below2 {base k n : Nat} {e : TypeId} {v v' : Value} {xs : List Value} {w w' : World} (h : ∀ q, Kq q v v' w w') (ho : Own w base e k v n xs) (hb : base ≤ w.heap.size) : Below base w w' :=
  ⟨(h 0).os, (h 0).tape, (h 0).output, (h 0).size, fun j hj => (h (j + 1)).block j (by omega) (by omega) (own_base_not ho j hj)⟩
end Go.Ow
namespace Go.Proofs.YtjlfpjjfldbknaaGreat
open Go.RowKit Go.Lib Go.Fq Go.Pq Go.Iq Go.Nq Go.Ow
set_option linter.unusedVariables false
set_option linter.unusedSimpArgs false
set_option maxRecDepth 100000

theorem dRow_at {l : List (Option Nat)} {i : Nat} (h : i < l.length) : (dRow l)[i]? = some (.float .f64 (dw (g_ l i))) := by
  unfold dRow
  rw [List.getElem?_map, List.getElem?_eq_getElem h, g_at h]; rfl
theorem dRow_set (l : List (Option Nat)) (i : Nat) (x : Option Nat) : (dRow l).set i (.float .f64 (dw x)) = dRow (l.set i x) := by
  unfold dRow; rw [List.map_set]
theorem own_ints_float {w w' : World} {base b2 n m : Nat} {v v' vd : Value} {xs ys : List Value} (hd : Own w base 26 1 vd n xs) (hk : ∀ q, Kq q v v' w w') (hi : Own w b2 3 1 v m ys) : Own w' base 26 1 vd n xs := by
  rcases hd with h | ⟨g, cap, cur, rfl, hbg, hg, hnc, hcm, hcs, hx⟩
  · exact Or.inl h
  · refine Or.inr ⟨g, cap, cur, rfl, hbg, ((hk (g + 1)).block g (Array.getElem?_eq_some_iff.1 hg).1 (by omega) (fun n' c' e3 => ?_)).trans hg, hnc, hcm, hcs, hx⟩
    rcases hi with ⟨_, _, a, e2⟩ | ⟨g', cap', cur', e2, _, hg', _⟩
    · rw [e2] at e3; cases e3; rfl
    · rw [e2] at e3; cases e3; rw [hg] at hg'; cases hg'
def LkS (V : World) (gb : Nat) (na : Option Addr) (nc n b2 o2 lc m k : Nat) (y : Lk) : Prop := V.cell? ⟨gb, 0, none⟩ = some (.slice na n nc) ∧ V.cell? ⟨gb, 1, none⟩ = some (.slice (some ⟨b2, o2, none⟩) m lc) ∧ V.cell? ⟨b2, o2 + k * 4, none⟩ = some (.int .i64 y.a) ∧ V.cell? ⟨b2, o2 + k * 4 + 1, none⟩ = some (.int .i64 y.b)
/-- Where the links' ends stand. -/
def plA (ns : List Nd) (l : List Lk) : List Value := l.map (fun y => .int .i64 (Nq.ahead ns y.a : Int))
def plB (ns : List Nd) (l : List Lk) : List Value := l.map (fun y => .int .i64 (Nq.ahead ns y.b : Int))
theorem plA_take (ns : List Nd) {l : List Lk} {k : Nat} (h : k < l.length) : plA ns (l.take (k + 1)) = plA ns (l.take k) ++ [.int .i64 (Nq.ahead ns l[k].a : Int)] := by
  unfold plA; rw [List.take_add_one, List.getElem?_eq_getElem h, List.map_append]; rfl
theorem plB_take (ns : List Nd) {l : List Lk} {k : Nat} (h : k < l.length) : plB ns (l.take (k + 1)) = plB ns (l.take k) ++ [.int .i64 (Nq.ahead ns l[k].b : Int)] := by
  unfold plB; rw [List.take_add_one, List.getElem?_eq_getElem h, List.map_append]; rfl
theorem plA_at (ns : List Nd) {l : List Lk} {k : Nat} (h : k < l.length) : (plA ns l)[k]? = some (.int .i64 (Nq.ahead ns l[k].a : Int)) := by
  unfold plA; rw [List.getElem?_map, List.getElem?_eq_getElem h]; rfl
theorem plB_at (ns : List Nd) {l : List Lk} {k : Nat} (h : k < l.length) : (plB ns l)[k]? = some (.int .i64 (Nq.ahead ns l[k].b : Int)) := by
  unfold plB; rw [List.getElem?_map, List.getElem?_eq_getElem h]; rfl
def AddS (V : World) (lb dg u : Nat) (q : Nat) (A : Option Nat) : Prop := V.cell? ⟨lb, 2, none⟩ = some (.float .f64 (qw q)) ∧ V.cell? ⟨dg, u, none⟩ = some (.float .f64 (dw A))
theorem live_at {g : Gr} (hz : checkG g = 0) {y : Lk} (hy : y ∈ g.links) : has g.nodes y.a = true ∧ has g.nodes y.b = true ∧ Nq.ahead g.nodes y.a < g.nodes.length ∧ Nq.ahead g.nodes y.b < g.nodes.length ∧ Nq.ahead g.nodes y.a ≠ Nq.ahead g.nodes y.b ∧ liveL g.nodes y = (y.up && upAt g.nodes (Nq.ahead g.nodes y.a) && upAt g.nodes (Nq.ahead g.nodes y.b)) := by
  obtain ⟨n1, n2, n3, n4⟩ := check_zero.1 hz
  obtain ⟨b1, b2⟩ := links_iff.1 n4
  obtain ⟨⟨h0, h1, h2⟩, -⟩ := b1 y hy
  obtain ⟨k1, e1⟩ := (has_at n3 y.a).1 h1
  obtain ⟨k2, e2⟩ := (has_at n3 y.b).1 h2
  refine ⟨h1, h2, k1, k2, fun e => ?_, ?_⟩
  · have e3 : (g.nodes[Nq.ahead g.nodes y.a]'k1).id = (g.nodes[Nq.ahead g.nodes y.b]'k2).id := by simp only [e]
    omega
  · unfold liveL
    rw [upB_at n3, upB_at n3, dif_pos h1, dif_pos h2, upAt_is k1, upAt_is k2]
theorem placeV_has {ns : List Nd} {x : Int} (h : has ns x = true) : placeV ns x = (Nq.ahead ns x : Int) := by unfold placeV; rw [h]; rfl
theorem radd_any (q : Nat) (a : Option Nat) (lim : Nat) (hq0 : 0 < q) (hq : q ≤ 4294967296) (hl : lim ≤ 4294967296) (ha : Sm a) (V : World) : Calls Tryz.prog 81 #[.float .f64 (qw q), .float .f64 (dw a), .float .f64 (qw lim)] V fun e w' => e = .returned (.float .f64 (dw (addO q a lim))) ∧ V = w' := by
  obtain ⟨s, hs⟩ := dw_some q a hq ha hq0
  have h := refadd_some (qw q) (dw a) (qw lim) s V hs
  rw [dw_add q a lim hq ha hl hq0] at h
  exact h
theorem own_int_at {w w' : World} {base b2 n m cap g : Nat} {v : Value} {xs ys : List Value} (hi : Own w base 3 1 v n xs) (hd : Own w b2 26 1 (.slice (some ⟨g, 0, none⟩) m cap) m ys) (hm : 0 < m) (hk : ∀ j, j ≠ g → w'.heap[j]? = w.heap[j]?) : Own w' base 3 1 v n xs := by
  obtain ⟨cur, hcur⟩ := (own_set hd hm (j := 0) (.int .i64 0)).2.2
  exact hi.keep (fun j c hj => hk j (heap_ne hj hcur (by decide)))
/-- What the document's dists tells. -/
def RDistsEnds (w : World) (G : Gr) (s lim : Nat) (e : Ending) (w' : World) : Prop := ∃ l v, e = .returned v ∧ Own w' w.heap.size 26 1 v G.nodes.length (dRow l) ∧ DistsP G s lim l ∧ Below w.heap.size w w'
set_option maxHeartbeats 16000000 in
theorem rdists_any (G : Gr) (na : Option Addr) (nc : Nat) (la : Option Addr) (lc : Nat) (lim : Nat) (fr : Int) (w : World) (hin : GrIn w G na la) (hz : checkG G = 0) (hh : has G.nodes fr = true) (hl0 : 0 < lim) (hl : lim ≤ 4294967296) :
    Calls Tryz.prog 63 #[.agg #[.slice na G.nodes.length nc, .slice la G.links.length lc], .float .f64 (qw lim), .int .i64 fr] w fun e w' => RDistsEnds w G (Nq.ahead G.nodes fr) lim e w' := by
  have hst := g_storeL
  obtain ⟨W1, hW1⟩ : ∃ W1, W1 = w.alloc (.cells #[.slice na G.nodes.length nc, .slice la G.links.length lc] 25) := ⟨_, rfl⟩
  have b1 : Below w.heap.size w W1 := by rw [hW1]; exact gAl _ _
  have s1 : w.heap.size < W1.heap.size := by rw [hW1]; simp
  have r1 : W1.heap[w.heap.size]? = some (.cells #[.slice na G.nodes.length nc, .slice la G.links.length lc] 25 (0, 0)) := by rw [hW1]; exact heap_alloc_new w _
  have HKG : Hid (∀ V, Below W1.heap.size W1 V → V.cell? ⟨w.heap.size, 0, none⟩ = some (.slice na G.nodes.length nc) ∧ V.cell? ⟨w.heap.size, 1, none⟩ = some (.slice la G.links.length lc)) := Lib.hid (fun V hV => by
    have := two_cells ((hV.block _ s1).trans r1)
    exact ⟨this.1, this.2.1⟩)
  have HG : Hid (∀ V, Below W1.heap.size W1 V → GrIn V G na la) := Lib.hid (fun V hV => ⟨hin.nodes.kept (fun i hi => (b1.trans (hV.mono (Nat.le_of_lt s1))).block i hi) (b1.trans (hV.mono (Nat.le_of_lt s1))).size, hin.links.kept (fun i hi => (b1.trans (hV.mono (Nat.le_of_lt s1))).block i hi) (b1.trans (hV.mono (Nat.le_of_lt s1))).size, hin.wts, hin.n1, hin.l1⟩)
  have HB1 := Lib.hid b1
  have HS1 := Lib.hid s1
  have HWT := Lib.hid hin.wts
  obtain ⟨n1, n2, n3, n4⟩ := check_zero.1 hz
  have HNL : Hid (G.nodes.length ≤ 256 ∧ G.links.length ≤ 4096) := Lib.hid ⟨n1, n2⟩
  have HNP := Lib.hid n3
  have HZ := Lib.hid hz
  have HLIM : Hid (0 < lim ∧ lim ≤ 4294967296) := Lib.hid ⟨hl0, hl⟩
  have HPS : Hid (placeV G.nodes fr = (Nq.ahead G.nodes fr : Int) ∧ Nq.ahead G.nodes fr < G.nodes.length) := Lib.hid ⟨placeV_has hh, ((has_at n3 fr).1 hh).1⟩
  have HPL := Lib.hid (fun (x : Int) (V : World) (hV : Below W1.heap.size W1 V) => sPlace_any G.nodes na nc la G.links.length lc x V (HG.out V hV).nodes HNP.out (by omega))
  clear hin hz hh hl0 hl b1 s1 r1 n1 n2 n3 n4
  go_enter Tryz.func63, Tryz.ntmps63
  go_upto_region 1 with (fail)
  rw [← hW1]
  clear hW1
  go_wp2_with fail
  go_loopw [8, 7] (fun i v wr => ∃ k : Nat, i = .int .i64 (k : Int) ∧ k ≤ G.nodes.length ∧ Own wr W1.heap.size 26 1 v k (dRow (List.replicate k none)) ∧ Below W1.heap.size W1 wr) (fun i _ _ => G.nodes.length - (RowKit.intOf i).toNat)
  case atStart => exact ⟨0, rfl, Nat.zero_le _, Or.inl ⟨rfl, rfl, none, rfl⟩, Below.refl _ _⟩
  case round =>
    obtain ⟨k, rfl, hk, ho, hbel⟩ := hrel
    have HOW := Lib.hid ho
    have HBE := Lib.hid hbel
    obtain ⟨k0, k1⟩ := HKG.out wr hbel
    by_cases hlt : k < G.nodes.length
    · have hlti : (k : Int) < (G.nodes.length : Int) := by omega
      have hkw : IntKind.i64.wrap ((k : Int) + 1) = (k : Int) + 1 := by rw [IntKind.wrap_i64]; have := HNL.out; omega
      obtain ⟨W2, hW2⟩ : ∃ W2, W2 = wr.alloc (.cells #[.float .f64 INF] 26) := ⟨_, rfl⟩
      have hb2 : Below wr.heap.size wr W2 := by rw [hW2]; exact gAl _ _
      have hv2 : W2.heap[wr.heap.size]? = some (.cells #[.float .f64 INF] 26 (0, 0)) := by rw [hW2]; exact heap_alloc_new wr _
      obtain ⟨v', W3, hrun, hrow, hkq⟩ := own_app (P := Tryz.prog) (vb := wr.heap.size) (vs := [.float .f64 INF]) Tryz.underlying90 flInfo rfl (ho.below hb2) (Nat.le_trans hbel.size hb2.size) hv2 rfl (by intro v hv; rw [List.mem_singleton] at hv; rw [hv]; rfl) (by have := HNL.out; omega) (by have := HNL.out; omega)
      obtain ⟨va, vc, rfl⟩ := hrow.slice
      have HR := Lib.hid hrun
      have HRW : Hid (Own W3 W1.heap.size 26 1 (.slice va (k + 1) vc) (k + 1) (dRow (List.replicate (k + 1) none))) := Lib.hid (by
        have e : dRow (List.replicate (k + 1) none) = dRow (List.replicate k none) ++ [.float .f64 INF] := by rw [List.replicate_succ']; simp [dRow, dw]
        rw [e]; exact hrow)
      have HBB : Hid (Below W1.heap.size W1 W3) := Lib.hid ((hbel.trans (hb2.mono hbel.size)).trans (Kq.below2 hkq (ho.below hb2) (Nat.le_trans hbel.size hb2.size)))
      rw [hW2] at hrun
      obtain ⟨a0, c0, rfl⟩ := ho.slice
      have HR := Lib.hid hrun
      clear ho hbel hb2 hv2 hrow hkq hrun
      go_wp2_with (first | (go_at_call 54; refine (inf1_any _).mono ?_; rintro e w' ⟨rfl, rfl⟩) | (at_builtin; refine Lib.wpList_append_run _ rfl _ _ _ _ rfl _ _ rfl rfl _ _ (HR.out _) ?_))
      refine ⟨⟨k + 1, by simp, by omega, HRW.out, HBB.out⟩, ?_⟩
      simp [RowKit.intOf]; omega
    · have hnk : ¬ (k : Int) < (G.nodes.length : Int) := by omega
      have hke : k = G.nodes.length := by omega
      rw [hke] at HOW
      obtain ⟨a0, c0, hsl⟩ := HOW.out.slice
      have hsl2 := hsl
      subst hsl2
      clear ho hbel hke hlt hk hsl
      have HW2 : Hid (∀ V, Below wr.heap.size wr V → Below W1.heap.size W1 V) := Lib.hid (fun V hV => gNx HBE.out hV)
      go_wp2_with fail
      refine (HPL.out fr wr HBE.out).mono ?_
      rintro e w3 ⟨rfl, hb3⟩
      rw [HPS.out.1]
      obtain ⟨dg, cap, hv, hdl, hdb, -, -⟩ := HOW.out.range (by have := HPS.out; omega)
      simp only [Value.slice.injEq] at hv
      obtain ⟨rfl, -, rfl⟩ := hv
      have HD3 : Hid (Own w3 W1.heap.size 26 1 (.slice (some ⟨dg, 0, none⟩) G.nodes.length c0) G.nodes.length (dRow (List.replicate G.nodes.length none))) := Lib.hid (HOW.out.below hb3)
      have HB3 := Lib.hid (HW2.out w3 hb3)
      have HDG : Hid (W1.heap.size ≤ dg) := Lib.hid hdb
      clear hb3 hdl hdb HOW HW2 HBE k0 k1
      obtain ⟨k0, k1⟩ := HKG.out w3 HB3.out
      have hsl := HPS.out.2
      obtain ⟨b, o, hna, hbb, hcn⟩ := (HG.out w3 HB3.out).nodes.at _ hsl
      obtain ⟨-, nu, -⟩ := hcn _ hsl
      subst hna
      rw [← upAt_is hsl] at nu
      obtain ⟨s, hsE⟩ : ∃ s, s = Nq.ahead G.nodes fr := ⟨_, rfl⟩
      have HSE := Lib.hid hsE
      rw [← hsE] at hsl nu ⊢
      have hsi : (s : Int) < (G.nodes.length : Int) := by omega
      have hs0 : (0 : Int) ≤ (s : Int) := by omega
      obtain ⟨d0, d1⟩ := row1c HD3.out hsl (dRow_at (by simpa using hsl))
      have HSL := Lib.hid hsl
      clear hbb hcn hsE
      cases hup : upAt G.nodes s with
      | false =>
        rw [hup] at nu
        have HUP := Lib.hid hup
        clear hup
        go_wp2_with fail
        go_ret
        refine ⟨List.replicate G.nodes.length none, _, rfl, HD3.out.mono (Nat.le_of_lt HS1.out), ⟨by simp, ?_⟩, HB1.out.trans (HB3.out.mono (Nat.le_of_lt HS1.out))⟩
        rw [← HSE.out, HUP.out]
        simp only [Bool.false_eq_true, if_false]
        intro v
        unfold g_
        rw [List.getD_eq_getElem?_getD]
        by_cases h : v < G.nodes.length
        · simp [h]
        · rw [List.getElem?_eq_none (by simpa using h)]; rfl
      | true =>
        rw [hup] at nu
        have HUP := Lib.hid hup
        clear hup
        go_upto_region 10 with (fail)
        obtain ⟨W5, hW5⟩ : ∃ W5, W5 = w3.setCell ⟨dg, s, none⟩ (.float .f64 0) := ⟨_, rfl⟩
        rw [← hW5]
        have hz0 : (Value.float .f64 0) = .float .f64 (dw (some 0)) := by show _ = Value.float .f64 (qw 0); rw [← zero_qw]
        have HD5 : Hid (Own W5 W1.heap.size 26 1 (.slice (some ⟨dg, 0, none⟩) G.nodes.length c0) G.nodes.length (dRow ((List.replicate G.nodes.length none).set s (some 0)))) := Lib.hid (by
          have := (own_set HD3.out (j := s) (by omega) (.float .f64 0)).1
          rw [hz0, dRow_set, ← hz0, ← hW5] at this
          exact this)
        have HB5 : Hid (Below W1.heap.size W1 W5) := Lib.hid (by rw [hW5]; exact HB3.out.setCell (p := ⟨dg, s, none⟩) HDG.out _)
        have HBF : Hid (BfI (Pq.Road G) s lim ((List.replicate G.nodes.length none).set s (some 0)) ∧ ((List.replicate G.nodes.length (none : Option Nat)).set s (some 0)).length = G.nodes.length) := Lib.hid ⟨⟨by rw [g_set _ (by simpa using HSL.out), if_pos rfl], fun v m hv => by
          rw [g_set _ (by simpa using HSL.out)] at hv
          split at hv
          · rename_i e; subst e; cases hv; exact ⟨.nil, HLIM.out.1⟩
          · unfold g_ at hv
            rw [List.getD_eq_getElem?_getD] at hv
            by_cases h : v < G.nodes.length
            · simp [h] at hv
            · rw [List.getElem?_eq_none (by simpa using h)] at hv; cases hv⟩, by simp⟩
        generalize (List.replicate G.nodes.length (none : Option Nat)).set s (some 0) = l0 at *
        clear hW5 hz0 HD3 HB3 k0 k1 nu d0 d1 hsl
        go_wp2_with fail
        go_loopw [12, 10, 11] (fun i va vb wr => ∃ k : Nat, i = .int .i64 (k : Int) ∧ k ≤ G.links.length ∧ Own wr W1.heap.size 3 1 va k (plA G.nodes (G.links.take k)) ∧ Own wr W1.heap.size 3 1 vb k (plB G.nodes (G.links.take k)) ∧ (∀ g n c n' c', va = .slice (some ⟨g, 0, none⟩) n c → vb = .slice (some ⟨g, 0, none⟩) n' c' → c = 0 ∨ c' = 0) ∧ Own wr W1.heap.size 26 1 (.slice (some ⟨dg, 0, none⟩) G.nodes.length c0) G.nodes.length (dRow l0) ∧ Below W1.heap.size W1 wr) (fun i _ _ _ => G.links.length - (RowKit.intOf i).toNat)
        case atStart => exact ⟨0, rfl, Nat.zero_le _, Or.inl ⟨rfl, rfl, none, rfl⟩, Or.inl ⟨rfl, rfl, none, rfl⟩, (fun g n c n' c' h => by cases h), HD5.out, HB5.out⟩
        case round =>
          obtain ⟨k2, rfl, hk2, hoa, hob, hap, hod, hbel⟩ := hrel
          have HOA := Lib.hid hoa
          have HOB := Lib.hid hob
          have HAP := Lib.hid hap
          have HOD := Lib.hid hod
          have HBE := Lib.hid hbel
          obtain ⟨k0, k1⟩ := HKG.out wr hbel
          clear hoa hob hap hod
          by_cases hlt : k2 < G.links.length
          · have hlti : (k2 : Int) < (G.links.length : Int) := by omega
            have hk20 : (0 : Int) ≤ (k2 : Int) := by omega
            have hkw : IntKind.i64.wrap ((k2 : Int) + 1) = (k2 : Int) + 1 := by rw [IntKind.wrap_i64]; have := HNL.out; omega
            have HY := Lib.hid (live_at HZ.out (List.getElem_mem hlt))
            have HTA : Hid (plA G.nodes (G.links.take (k2 + 1)) = plA G.nodes (G.links.take k2) ++ [.int .i64 (Nq.ahead G.nodes G.links[k2].a : Int)]) := Lib.hid (plA_take G.nodes hlt)
            have HTB : Hid (plB G.nodes (G.links.take (k2 + 1)) = plB G.nodes (G.links.take k2) ++ [.int .i64 (Nq.ahead G.nodes G.links[k2].b : Int)]) := Lib.hid (plB_take G.nodes hlt)
            obtain ⟨b2, o2, rfl, hbb, hc⟩ := (HG.out W1 (Below.refl _ _)).links.at k2 hlt
            obtain ⟨c0', c1', c2', c3'⟩ := hc k2 hlt
            have HSS : Hid (∀ V, Below W1.heap.size W1 V → LkS V w.heap.size (some ⟨b, o, none⟩) nc G.nodes.length b2 o2 lc G.links.length k2 G.links[k2]) := Lib.hid (fun V hV => ⟨(HKG.out V hV).1, (HKG.out V hV).2, (hV.cell (p := ⟨b2, o2 + k2 * 4, none⟩) hbb).trans c0', (hV.cell (p := ⟨b2, o2 + k2 * 4 + 1, none⟩) hbb).trans c1'⟩)
            clear hc c0' c1' c2' c3' hbb hbel
            generalize G.links[k2] = y at *
            obtain ⟨ya, yb, yw, yu⟩ := y
            simp only at HTA HTB
            have HPA : Hid (placeV G.nodes ya = (Nq.ahead G.nodes ya : Int)) := Lib.hid (placeV_has HY.out.1)
            have HPB : Hid (placeV G.nodes yb = (Nq.ahead G.nodes yb : Int)) := Lib.hid (placeV_has HY.out.2.1)
            obtain ⟨aa, ca, rfl⟩ := HOA.out.slice
            obtain ⟨ab, cb, rfl⟩ := HOB.out.slice
            go_upto_region 14 with (fail)
            clear k0 k1
            refine wp_region_held_drew (S := fun V => LkS V w.heap.size (some ⟨b, o, none⟩) nc G.nodes.length b2 o2 lc G.links.length k2 ⟨ya, yb, yw, yu⟩) (by kernel_rfl) (HSS.out _ (Below.drew HBE.out)) (fun hH => ?_)
            have hs0 := HSS.out _ (Below.drew HBE.out)
            have B0 : Hid (Below wr.heap.size wr wr.drew) := Lib.hid (Below.drew (Below.refl _ _))
            have C0 : Hid (Below W1.heap.size W1 wr.drew) := Lib.hid (Below.drew HBE.out)
            generalize wr.drew = V0 at *
            refine tk 0 (by assumption) rfl (by kernel_rfl) (fun _ _ _ h => h) (fun V hV => by go_simp; try with_reducible rfl) ?_
            try simp only [Act.put, sqA, sqB, sqC, sqD, sqE, sqF]
            refine tk 1 (by assumption) rfl (by kernel_rfl) (fun _ _ _ h => h) (fun V hV => by obtain ⟨hx0, hx1, hx2, hx3⟩ := hV; go_simp; try with_reducible rfl) ?_
            try simp only [Act.put, sqA, sqB, sqC, sqD, sqE, sqF]
            refine tk 2 (by assumption) rfl (by kernel_rfl) (fun _ _ _ h => h) (fun V hV => by go_simp; try with_reducible rfl) ?_
            try simp only [Act.put, sqA, sqB, sqC, sqD, sqE, sqF]
            refine tk 3 (by assumption) rfl (by kernel_rfl) (fun _ _ _ h => h) (fun V hV => by obtain ⟨hx0, hx1, hx2, hx3⟩ := hV; go_simp; try with_reducible rfl) ?_
            try simp only [Act.put, sqA, sqB, sqC, sqD, sqE, sqF]
            refine tk 4 (by assumption) rfl (by kernel_rfl) (fun _ _ _ h => h) (fun V hV => by go_simp; try with_reducible rfl) ?_
            try simp only [Act.put, sqA, sqB, sqC, sqD, sqE, sqF]
            refine tk 5 (by assumption) rfl (by kernel_rfl) (fun _ _ _ h => h) (fun V hV => by go_simp; try with_reducible rfl) ?_
            try simp only [Act.put, sqA, sqB, sqC, sqD, sqE, sqF]
            refine tk 6 (by assumption) rfl (by kernel_rfl) (fun _ _ _ h => h) (fun V hV => by go_simp; try with_reducible rfl) ?_
            try simp only [Act.put, sqA, sqB, sqC, sqD, sqE, sqF]
            refine tk 7 (by assumption) rfl (by kernel_rfl) (fun _ _ _ h => h) (fun V hV => by obtain ⟨hx0, hx1, hx2, hx3⟩ := hV; go_simp; try with_reducible rfl) ?_
            try simp only [Act.put, sqA, sqB, sqC, sqD, sqE, sqF]
            refine wpAnyH_ready (rs := [8]) (by kernel_rfl) (by simp) ?_
            refine AllReadyH.cons (o := _) rfl (fun K hK => ?_) AllReadyH.nil
            go_simp
            refine (HPL.out ya V0 C0.out).mono ?_
            rintro e V1 ⟨rfl, hb1⟩
            rw [HPA.out]
            have B1 := Lib.hid (gNx B0.out hb1)
            have C1 : Hid (Below W1.heap.size W1 V1) := Lib.hid (gNx C0.out hb1)
            clear hb1
            go_wp2_with fail
            refine hK.out _ _ (HSS.out _ C1.out) (fun hH => ?_)
            clear hK K
            try simp only [Act.put, sqA, sqB, sqC, sqD, sqE, sqF]
            refine wpAnyH_ready (rs := [9]) (by kernel_rfl) (by simp) ?_
            refine AllReadyH.cons (o := _) rfl (fun K hK => ?_) AllReadyH.nil
            go_simp
            obtain ⟨V2, hV2⟩ : ∃ V2, V2 = V1.alloc (.cells #[.int .i64 (Nq.ahead G.nodes ya : Int)] 3) := ⟨_, rfl⟩
            rw [← hV2]
            have B2 : Hid (Below wr.heap.size wr V2) := Lib.hid (by rw [hV2]; exact gNx B1.out (gAl _ _))
            have C2 : Hid (Below W1.heap.size W1 V2) := Lib.hid (by rw [hV2]; exact gNx C1.out (gAl _ _))
            have HV2 : Hid (V2.heap[V1.heap.size]? = some (.cells #[.int .i64 (Nq.ahead G.nodes ya : Int)] 3 (0, 0))) := Lib.hid (by rw [hV2]; exact heap_alloc_new V1 _)
            clear hV2
            refine hK.out _ _ (HSS.out _ C2.out) (fun hH => ?_)
            clear hK K
            try simp only [Act.put, sqA, sqB, sqC, sqD, sqE, sqF]
            refine wpAnyH_ready (rs := [10]) (by kernel_rfl) (by simp) ?_
            refine AllReadyH.cons (o := _) rfl (fun K hK => ?_) AllReadyH.nil
            obtain ⟨v2, W2, hrun, hrow, hkq⟩ := own_app (P := Tryz.prog) (vb := V1.heap.size) (vs := [.int .i64 (Nq.ahead G.nodes ya : Int)]) Tryz.underlying35 inInfo rfl (HOA.out.below B2.out) C2.out.size HV2.out rfl (by intro v hv; rw [List.mem_singleton] at hv; rw [hv]; rfl) (by have := HNL.out; omega) (by have := HNL.out; omega)
            obtain ⟨va2, vc2, rfl⟩ := hrow.slice
            have HOA1 := Lib.hid hrow
            have HOB1 := Lib.hid (own_beside (HOB.out.below B2.out) hkq HAP.out)
            have HAP2 := Lib.hid (beside_next (HOB.out.below B2.out) hkq HAP.out)
            have HOD1 := Lib.hid (own_ints_float (HOD.out.below B2.out) hkq (HOA.out.below B2.out))
            have HBE2 : Hid (Below W1.heap.size W1 W2) := Lib.hid (C2.out.trans (Kq.below2 hkq (HOA.out.below B2.out) C2.out.size))
            have HR := Lib.hid hrun
            clear hrun hrow hkq
            refine step_append_r rfl _ _ 35 35 rfl (.slice aa k2 ca) (.slice (some ⟨V1.heap.size, 0, none⟩) 1 1) (by simp [Act.eval, Act.put]) (by simp [Act.eval, Act.put]) (HR.out _) ?_
            refine hK.out _ _ (HSS.out _ HBE2.out) (fun hH => ?_)
            clear hK K HR
            try simp only [Act.put, sqA, sqB, sqC, sqD, sqE, sqF]
            refine tk 11 (by assumption) rfl (by kernel_rfl) (fun _ _ _ h => h) (fun V hV => by go_simp; try with_reducible rfl) ?_
            try simp only [Act.put, sqA, sqB, sqC, sqD, sqE, sqF]
            refine wpAnyH_done (by kernel_rfl) ?_ _
            go_upto_region 15 with (fail)
            refine wp_region_held_drew (S := fun V => LkS V w.heap.size (some ⟨b, o, none⟩) nc G.nodes.length b2 o2 lc G.links.length k2 ⟨ya, yb, yw, yu⟩) (by kernel_rfl) (HSS.out _ (Below.drew HBE2.out)) (fun hH => ?_)
            have hs0 := HSS.out _ (Below.drew HBE2.out)
            have B0 : Hid (Below W2.heap.size W2 W2.drew) := Lib.hid (Below.drew (Below.refl _ _))
            have C0 : Hid (Below W1.heap.size W1 W2.drew) := Lib.hid (Below.drew HBE2.out)
            generalize W2.drew = V0 at *
            refine tk 0 (by assumption) rfl (by kernel_rfl) (fun _ _ _ h => h) (fun V hV => by go_simp; try with_reducible rfl) ?_
            try simp only [Act.put, sqA, sqB, sqC, sqD, sqE, sqF]
            refine tk 1 (by assumption) rfl (by kernel_rfl) (fun _ _ _ h => h) (fun V hV => by obtain ⟨hx0, hx1, hx2, hx3⟩ := hV; go_simp; try with_reducible rfl) ?_
            try simp only [Act.put, sqA, sqB, sqC, sqD, sqE, sqF]
            refine tk 2 (by assumption) rfl (by kernel_rfl) (fun _ _ _ h => h) (fun V hV => by go_simp; try with_reducible rfl) ?_
            try simp only [Act.put, sqA, sqB, sqC, sqD, sqE, sqF]
            refine tk 3 (by assumption) rfl (by kernel_rfl) (fun _ _ _ h => h) (fun V hV => by obtain ⟨hx0, hx1, hx2, hx3⟩ := hV; go_simp; try with_reducible rfl) ?_
            try simp only [Act.put, sqA, sqB, sqC, sqD, sqE, sqF]
            refine tk 4 (by assumption) rfl (by kernel_rfl) (fun _ _ _ h => h) (fun V hV => by go_simp; try with_reducible rfl) ?_
            try simp only [Act.put, sqA, sqB, sqC, sqD, sqE, sqF]
            refine tk 5 (by assumption) rfl (by kernel_rfl) (fun _ _ _ h => h) (fun V hV => by go_simp; try with_reducible rfl) ?_
            try simp only [Act.put, sqA, sqB, sqC, sqD, sqE, sqF]
            refine tk 6 (by assumption) rfl (by kernel_rfl) (fun _ _ _ h => h) (fun V hV => by go_simp; try with_reducible rfl) ?_
            try simp only [Act.put, sqA, sqB, sqC, sqD, sqE, sqF]
            refine tk 7 (by assumption) rfl (by kernel_rfl) (fun _ _ _ h => h) (fun V hV => by obtain ⟨hx0, hx1, hx2, hx3⟩ := hV; go_simp; try with_reducible rfl) ?_
            try simp only [Act.put, sqA, sqB, sqC, sqD, sqE, sqF]
            refine wpAnyH_ready (rs := [8]) (by kernel_rfl) (by simp) ?_
            refine AllReadyH.cons (o := _) rfl (fun K hK => ?_) AllReadyH.nil
            go_simp
            refine (HPL.out yb V0 C0.out).mono ?_
            rintro e V1 ⟨rfl, hb1⟩
            rw [HPB.out]
            have B1 := Lib.hid (gNx B0.out hb1)
            have C1 : Hid (Below W1.heap.size W1 V1) := Lib.hid (gNx C0.out hb1)
            clear hb1
            go_wp2_with fail
            refine hK.out _ _ (HSS.out _ C1.out) (fun hH => ?_)
            clear hK K
            try simp only [Act.put, sqA, sqB, sqC, sqD, sqE, sqF]
            refine wpAnyH_ready (rs := [9]) (by kernel_rfl) (by simp) ?_
            refine AllReadyH.cons (o := _) rfl (fun K hK => ?_) AllReadyH.nil
            go_simp
            obtain ⟨V2, hV2⟩ : ∃ V2, V2 = V1.alloc (.cells #[.int .i64 (Nq.ahead G.nodes yb : Int)] 3) := ⟨_, rfl⟩
            rw [← hV2]
            have B2 : Hid (Below W2.heap.size W2 V2) := Lib.hid (by rw [hV2]; exact gNx B1.out (gAl _ _))
            have C2 : Hid (Below W1.heap.size W1 V2) := Lib.hid (by rw [hV2]; exact gNx C1.out (gAl _ _))
            have HV2 : Hid (V2.heap[V1.heap.size]? = some (.cells #[.int .i64 (Nq.ahead G.nodes yb : Int)] 3 (0, 0))) := Lib.hid (by rw [hV2]; exact heap_alloc_new V1 _)
            clear hV2
            refine hK.out _ _ (HSS.out _ C2.out) (fun hH => ?_)
            clear hK K
            try simp only [Act.put, sqA, sqB, sqC, sqD, sqE, sqF]
            refine wpAnyH_ready (rs := [10]) (by kernel_rfl) (by simp) ?_
            refine AllReadyH.cons (o := _) rfl (fun K hK => ?_) AllReadyH.nil
            obtain ⟨v4, W4, hrun, hrow, hkq⟩ := own_app (P := Tryz.prog) (vb := V1.heap.size) (vs := [.int .i64 (Nq.ahead G.nodes yb : Int)]) Tryz.underlying35 inInfo rfl (HOB1.out.below B2.out) C2.out.size HV2.out rfl (by intro v hv; rw [List.mem_singleton] at hv; rw [hv]; rfl) (by have := HNL.out; omega) (by have := HNL.out; omega)
            obtain ⟨va4, vc4, rfl⟩ := hrow.slice
            have HOB2 := Lib.hid hrow
            have HOA2 := Lib.hid (own_beside (HOA1.out.below B2.out) hkq (fun g n c n2 c2 h1 h2 => (HAP2.out g n2 c2 n c h2 h1).symm))
            have HAP3 : Hid (∀ g n c n2 c2, (Value.slice va2 (k2 + 1) vc2) = .slice (some ⟨g, 0, none⟩) n c → (Value.slice va4 (k2 + 1) vc4) = .slice (some ⟨g, 0, none⟩) n2 c2 → c = 0 ∨ c2 = 0) := Lib.hid (fun g n c n2 c2 h1 h2 => (beside_next (HOA1.out.below B2.out) hkq (fun g n c n2 c2 h1 h2 => (HAP2.out g n2 c2 n c h2 h1).symm) g n2 c2 n c h2 h1).symm)
            have HOD2 := Lib.hid (own_ints_float (HOD1.out.below B2.out) hkq (HOB1.out.below B2.out))
            have HBE4 : Hid (Below W1.heap.size W1 W4) := Lib.hid (C2.out.trans (Kq.below2 hkq (HOB1.out.below B2.out) C2.out.size))
            have HR := Lib.hid hrun
            clear hrun hrow hkq
            refine step_append_r rfl _ _ 35 35 rfl (.slice ab k2 cb) (.slice (some ⟨V1.heap.size, 0, none⟩) 1 1) (by simp [Act.eval, Act.put]) (by simp [Act.eval, Act.put]) (HR.out _) ?_
            refine hK.out _ _ (HSS.out _ HBE4.out) (fun hH => ?_)
            clear hK K HR
            try simp only [Act.put, sqA, sqB, sqC, sqD, sqE, sqF]
            refine tk 11 (by assumption) rfl (by kernel_rfl) (fun _ _ _ h => h) (fun V hV => by go_simp; try with_reducible rfl) ?_
            try simp only [Act.put, sqA, sqB, sqC, sqD, sqE, sqF]
            refine wpAnyH_done (by kernel_rfl) ?_ _
            go_wp2_with fail
            refine ⟨⟨k2 + 1, by simp, by omega, by rw [HTA.out]; exact HOA2.out, by rw [HTB.out]; exact HOB2.out, HAP3.out, HOD2.out, HBE4.out⟩, ?_⟩
            simp [RowKit.intOf]; omega
          · have hnk : ¬ (k2 : Int) < (G.links.length : Int) := by omega
            have hke : k2 = G.links.length := by omega
            subst hke
            rw [List.take_length] at HOA HOB
            obtain ⟨aa, ca, rfl⟩ := HOA.out.slice
            obtain ⟨ab, cb, rfl⟩ := HOB.out.slice
            clear hlt hk2 hbel HD5 HB5
            go_wp2_with fail
            clear k0 k1
            go_loopg [13] (2 * msum lim l0 + 1) (fun gk t wr => ∃ (tb : Bool) (l : List (Option Nat)), t = .bool tb ∧ l.length = G.nodes.length ∧ BfI (Pq.Road G) s lim l ∧ (tb = false → Least (Pq.Road G) s lim (g_ l)) ∧ 2 * msum lim l + tb.toNat ≤ gk ∧ Own wr W1.heap.size 3 1 (.slice aa G.links.length ca) G.links.length (plA G.nodes G.links) ∧ Own wr W1.heap.size 3 1 (.slice ab G.links.length cb) G.links.length (plB G.nodes G.links) ∧ Own wr W1.heap.size 26 1 (.slice (some ⟨dg, 0, none⟩) G.nodes.length c0) G.nodes.length (dRow l) ∧ Below W1.heap.size W1 wr)
            case atStart => exact ⟨true, l0, rfl, HBF.out.2, HBF.out.1, (fun h => by cases h), Nat.le_refl _, HOA.out, HOB.out, HOD.out, HBE.out⟩
            case round =>
              clear HOA HOB HAP HOD HBE
              obtain ⟨tb, l, rfl, hlen, hbf, hlst, hgk, hoa, hob, hod, hbel⟩ := hrel
              have HLEN := Lib.hid hlen
              have HBF2 := Lib.hid hbf
              have HLST := Lib.hid hlst
              have HGK := Lib.hid hgk
              have HOA := Lib.hid hoa
              have HOB := Lib.hid hob
              have HOD := Lib.hid hod
              have HBE := Lib.hid hbel
              clear hlen hbf hlst hgk hoa hob hod hbel
              cases tb with
              | false =>
                go_wp2_with fail
                go_ret
                refine ⟨l, _, rfl, HOD.out.mono (Nat.le_of_lt HS1.out), ⟨HLEN.out, ?_⟩, HB1.out.trans (HBE.out.mono (Nat.le_of_lt HS1.out))⟩
                rw [← HSE.out, if_pos HUP.out]; exact HLST.out (by first | rfl | trivial)
              | true =>
                obtain ⟨k0, k1⟩ := HKG.out wr HBE.out
                go_wp2_with fail
                clear k0 k1
                obtain ⟨wo, rfl⟩ : ∃ wo : World, wo = wr := ⟨_, rfl⟩
                go_loopw [14, 13] (fun i t wr => ∃ (k : Nat) (tb : Bool) (l' : List (Option Nat)), i = .int .i64 (k : Int) ∧ t = .bool tb ∧ k ≤ G.links.length ∧ Pass G s lim l l' tb k ∧ Own wr W1.heap.size 3 1 (.slice aa G.links.length ca) G.links.length (plA G.nodes G.links) ∧ Own wr W1.heap.size 3 1 (.slice ab G.links.length cb) G.links.length (plB G.nodes G.links) ∧ Own wr W1.heap.size 26 1 (.slice (some ⟨dg, 0, none⟩) G.nodes.length c0) G.nodes.length (dRow l') ∧ Below W1.heap.size W1 wr) (fun i _ _ => G.links.length - (RowKit.intOf i).toNat)
                case atStart => exact ⟨0, false, l, rfl, rfl, Nat.zero_le _, pass_start HLEN.out HBF2.out, HOA.out, HOB.out, HOD.out, HBE.out⟩
                case round =>
                  clear HOA HOB HOD HBE
                  obtain ⟨k, tb, l', rfl, rfl, hk, hpass, hoa, hob, hod, hbel⟩ := hrel
                  have HPASS := Lib.hid hpass
                  have HOA := Lib.hid hoa
                  have HOB := Lib.hid hob
                  have HOD := Lib.hid hod
                  have HBE := Lib.hid hbel
                  have HK := Lib.hid hk
                  obtain ⟨k0, k1⟩ := HKG.out wr HBE.out
                  clear hpass hoa hob hod hbel
                  by_cases hlt : k < G.links.length
                  · have hlti : (k : Int) < (G.links.length : Int) := by omega
                    have hk0 : (0 : Int) ≤ (k : Int) := by omega
                    have hkw : IntKind.i64.wrap ((k : Int) + 1) = (k : Int) + 1 := by rw [IntKind.wrap_i64]; have := HNL.out; omega
                    obtain ⟨-, -, e3, e4, e5, elive⟩ := live_at HZ.out (List.getElem_mem hlt)
                    obtain ⟨ga, capa, ha1, -, -, -, -⟩ := HOA.out.range (by omega)
                    simp only [Value.slice.injEq, true_and] at ha1
                    obtain ⟨rfl, rfl⟩ := ha1
                    obtain ⟨gb, capb, hb1, -, -, -, -⟩ := HOB.out.range (by omega)
                    simp only [Value.slice.injEq, true_and] at hb1
                    obtain ⟨rfl, rfl⟩ := hb1
                    have HYW := Lib.hid (HWT.out _ (List.getElem_mem hlt))
                    have HYC : Hid (liveL G.nodes G.links[k] = true → ∃ q, 4 ≤ q ∧ q ≤ 4194304 ∧ G.links[k].w = qw q ∧ qn G.links[k].w = q) := Lib.hid (fun h => by
                      obtain ⟨-, -, -, -, -, -, -, a6, a7⟩ := live_ends HZ.out (live_mem hlt h)
                      obtain ⟨q, q1, q2, q3⟩ := weight_q _ HYW.out a6
                      exact ⟨q, q1, q2, q3, by rw [q3]; exact qn_qw (by omega)⟩)
                    have HDEAD := Lib.hid (fun (h : liveL G.nodes G.links[k] = false) => HPASS.out.dead hlt h)
                    have HLIVE := Lib.hid (fun (l1 l2 : List (Option Nat)) (t1 t2 : Bool) (h : liveL G.nodes G.links[k] = true) h1 h2 h3 h4 => HPASS.out.live (l1 := l1) (l2 := l2) (t1 := t1) (t2 := t2) HZ.out hlt h h1 h2 h3 h4)
                    obtain ⟨b2, o2, hla, hbb2, hc⟩ := (HG.out wr HBE.out).links.at k hlt
                    obtain ⟨c0', c1', c2', c3'⟩ := hc k hlt
                    have ca0 := (row1c HOA.out hlt (plA_at G.nodes hlt)).1
                    have cb0 := (row1c HOB.out hlt (plB_at G.nodes hlt)).1
                    subst hla
                    clear hc hbb2
                    generalize G.links[k] = y at *
                    obtain ⟨ya, yb, yw, yu⟩ := y
                    simp only at c0' c1' c2' c3' ca0 cb0 e3 e4 e5 elive HYC HYW HLIVE
                    generalize Nq.ahead G.nodes ya = pa at *
                    generalize Nq.ahead G.nodes yb = pb at *
                    obtain ⟨W6, hW6⟩ : ∃ W6, W6 = wr.alloc (.cells #[.int .i64 ya, .int .i64 yb, .float .f64 yw, .bool yu] 62) := ⟨_, rfl⟩
                    have b6 : Below wr.heap.size wr W6 := by rw [hW6]; exact gAl _ _
                    have r6 : W6.heap[wr.heap.size]? = some (.cells #[.int .i64 ya, .int .i64 yb, .float .f64 yw, .bool yu] 62 (0, 0)) := by rw [hW6]; exact heap_alloc_new wr _
                    have s6 : wr.heap.size < W6.heap.size := by rw [hW6]; simp
                    obtain ⟨ll, hll⟩ : ∃ ll, ll = wr.heap.size := ⟨_, rfl⟩
                    rw [← hll] at r6 s6
                    have HL6 : Hid (∀ V : World, V.heap[ll]? = W6.heap[ll]? → V.cell? ⟨ll, 2, none⟩ = some (.float .f64 yw) ∧ V.cell? ⟨ll, 3, none⟩ = some (.bool yu)) := Lib.hid (fun V hV => by
                      have := hV.trans r6
                      exact ⟨by rw [cell_of_row V _ 2 _ _ (0, 0) this]; rfl, by rw [cell_of_row V _ 3 _ _ (0, 0) this]; rfl⟩)
                    have HLS : Hid (ll < W6.heap.size ∧ ll ≠ dg) := Lib.hid ⟨s6, by
                      obtain ⟨g', cap', hv, hg', -⟩ := HOD.out.range (by omega)
                      simp only [Value.slice.injEq, Option.some.injEq, Addr.mk.injEq, and_true, true_and] at hv
                      omega⟩
                    have HB6 := Lib.hid (gNx HBE.out b6)
                    have HOA6 := Lib.hid (HOA.out.below b6)
                    have HOB6 := Lib.hid (HOB.out.below b6)
                    have HOD6 := Lib.hid (HOD.out.below b6)
                    go_upto_region 23 with (fail)
                    rw [← hW6, ← hll]
                    have ca6 : W6.cell? ⟨ga, k, none⟩ = some (.int .i64 (pa : Int)) := (b6.cell (p := ⟨ga, k, none⟩) (block_lt ca0)).trans ca0
                    have cb6 : W6.cell? ⟨gb, k, none⟩ = some (.int .i64 (pb : Int)) := (b6.cell (p := ⟨gb, k, none⟩) (block_lt cb0)).trans cb0
                    clear hW6 b6 r6 s6 c0' c1' c2' c3' ca0 cb0 k0 k1 HOA HOB HOD hll
                    obtain ⟨k0, k1⟩ := HKG.out W6 HB6.out
                    obtain ⟨l2', l3'⟩ := HL6.out W6 rfl
                    obtain ⟨b7, o7, hna7, hbb7, hcn7⟩ := (HG.out W6 HB6.out).nodes.at pa e3
                    obtain ⟨-, na1, -⟩ := hcn7 pa e3
                    obtain ⟨-, nb1, -⟩ := hcn7 pb e4
                    simp only [Option.some.injEq, Addr.mk.injEq, and_true] at hna7
                    obtain ⟨rfl, rfl⟩ := hna7
                    rw [← upAt_is e3] at na1
                    rw [← upAt_is e4] at nb1
                    have hpa : (pa : Int) < (G.nodes.length : Int) := by omega
                    have hpa0 : (0 : Int) ≤ (pa : Int) := by omega
                    have hpb : (pb : Int) < (G.nodes.length : Int) := by omega
                    have hpb0 : (0 : Int) ≤ (pb : Int) := by omega
                    clear hcn7 hbb7
                    generalize upAt G.nodes pa = ua at *
                    generalize upAt G.nodes pb = ub at *
                    cases yu with
                    | false =>
                      have HP := Lib.hid (HDEAD.out (by rw [elive]; rfl))
                      go_wp2_with fail
                      refine ⟨⟨k + 1, tb, l', by simp, rfl, by omega, HP.out, HOA6.out, HOB6.out, HOD6.out, HB6.out⟩, ?_⟩
                      simp [RowKit.intOf]; omega
                    | true =>
                      cases ua with
                      | false =>
                        have HP := Lib.hid (HDEAD.out (by rw [elive]; rfl))
                        go_wp2_with fail
                        refine ⟨⟨k + 1, tb, l', by simp, rfl, by omega, HP.out, HOA6.out, HOB6.out, HOD6.out, HB6.out⟩, ?_⟩
                        simp [RowKit.intOf]; omega
                      | true =>
                        cases ub with
                        | false =>
                          have HP := Lib.hid (HDEAD.out (by rw [elive]; rfl))
                          go_wp2_with fail
                          refine ⟨⟨k + 1, tb, l', by simp, rfl, by omega, HP.out, HOA6.out, HOB6.out, HOD6.out, HB6.out⟩, ?_⟩
                          simp [RowKit.intOf]; omega
                        | true =>
                          have HLV := Lib.hid (show liveL G.nodes ⟨ya, yb, yw, true⟩ = true by rw [elive]; rfl)
                          obtain ⟨q, q1, q2, q3, q4⟩ := HYC.out HLV.out
                          subst q3
                          rw [q4] at HLIVE
                          have hlen := HPASS.out.len
                          have HSM := Lib.hid (fun v => HPASS.out.bf.sm HLIM.out.2 v)
                          have hpal : pa < l'.length := by omega
                          have hpbl : pb < l'.length := by omega
                          obtain ⟨d0, d1⟩ := row1c HOD6.out e3 (dRow_at hpal)
                          obtain ⟨f0, f1⟩ := row1c HOD6.out e4 (dRow_at hpbl)
                          have HGS : Hid (∀ x, g_ (l'.set pb x) pa = g_ l' pa ∧ g_ (l'.set pb x) pb = x) := Lib.hid (fun x => ⟨by rw [g_set _ hpbl, if_neg e5], by rw [g_set _ hpbl, if_pos rfl]⟩)
                          have HPAL := Lib.hid hpal
                          have HPBL := Lib.hid hpbl
                          have HR1 : Hid (rlx l' pa pb q lim = if ltO (addO q (g_ l' pa) lim) (g_ l' pb) then l'.set pb (addO q (g_ l' pa) lim) else l') := Lib.hid rfl
                          have HS1' := Lib.hid (HSM.out pa)
                          have HS2' := Lib.hid (HSM.out pb)
                          have HX1 := Lib.hid (addO_sm q (g_ l' pa) lim HLIM.out.2)
                          have HADD1 := Lib.hid (fun V => radd_any q (g_ l' pa) lim (by omega) (by omega) HLIM.out.2 HS1'.out V)
                          have HLT1 : Hid ((FloatKind.f64.format.order (dw (addO q (g_ l' pa) lim)) (dw (g_ l' pb)) == some .lt) = ltO (addO q (g_ l' pa) lim) (g_ l' pb)) := Lib.hid (dw_lt HX1.out HS2'.out)
                          clear q4 HYC HYW HDEAD hlen HPASS elive hpal hpbl
                          go_upto_region 26 with (fail)
                          clear k0 k1 l2' l3' ca6 cb6 na1 nb1
                          refine wp_region_held_drew (S := fun V => AddS V ll dg pa q (g_ l' pa)) (by kernel_rfl) ⟨(HL6.out W6.drew rfl).1, d0⟩ (fun hH => ?_)
                          have hs0 : AddS W6.drew ll dg pa q (g_ l' pa) := ⟨(HL6.out W6.drew rfl).1, d0⟩
                          refine tk 0 (by assumption) rfl (by kernel_rfl) (fun _ _ _ h => h) (fun V hV => by go_simp; try with_reducible rfl) ?_
                          try simp only [Act.put, sqA, sqB, sqC, sqD, sqE, sqF]
                          refine tk 1 (by assumption) rfl (by kernel_rfl) (fun _ _ _ h => h) (fun V hV => by obtain ⟨hx1, hx2⟩ := hV; go_simp; try with_reducible rfl) ?_
                          try simp only [Act.put, sqA, sqB, sqC, sqD, sqE, sqF]
                          refine tk 2 (by assumption) rfl (by kernel_rfl) (fun _ _ _ h => h) (fun V hV => by go_simp; try with_reducible rfl) ?_
                          try simp only [Act.put, sqA, sqB, sqC, sqD, sqE, sqF]
                          refine tk 3 (by assumption) rfl (by kernel_rfl) (fun _ _ _ h => h) (fun V hV => by go_simp; try with_reducible rfl) ?_
                          try simp only [Act.put, sqA, sqB, sqC, sqD, sqE, sqF]
                          refine tk 4 (by assumption) rfl (by kernel_rfl) (fun _ _ _ h => h) (fun V hV => by go_simp; try with_reducible rfl) ?_
                          try simp only [Act.put, sqA, sqB, sqC, sqD, sqE, sqF]
                          refine tk 5 (by assumption) rfl (by kernel_rfl) (fun _ _ _ h => h) (fun V hV => by obtain ⟨hx1, hx2⟩ := hV; go_simp; try with_reducible rfl) ?_
                          try simp only [Act.put, sqA, sqB, sqC, sqD, sqE, sqF]
                          refine tk 6 (by assumption) rfl (by kernel_rfl) (fun _ _ _ h => h) (fun V hV => by go_simp; try with_reducible rfl) ?_
                          try simp only [Act.put, sqA, sqB, sqC, sqD, sqE, sqF]
                          refine wpAnyH_ready (rs := [7]) (by kernel_rfl) (by simp) ?_
                          refine AllReadyH.cons (o := _) rfl (fun K hK => ?_) AllReadyH.nil
                          go_simp
                          refine (HADD1.out _).mono ?_
                          rintro e w' ⟨rfl, rfl⟩
                          go_wp2_with fail
                          refine hK.out _ _ hs0 (fun hH => ?_)
                          clear hK K
                          try simp only [Act.put, sqA, sqB, sqC, sqD, sqE, sqF]
                          refine tk 8 (by assumption) rfl (by kernel_rfl) (fun _ _ _ h => h) (fun V hV => by go_simp; try with_reducible rfl) ?_
                          try simp only [Act.put, sqA, sqB, sqC, sqD, sqE, sqF]
                          refine wpAnyH_done (by kernel_rfl) ?_ _
                          have HB7 : Hid (Below W1.heap.size W1 W6.drew) := Lib.hid (Below.drew HB6.out)
                          have HOD7 : Hid (Own W6.drew W1.heap.size 26 1 (.slice (some ⟨dg, 0, none⟩) G.nodes.length c0) G.nodes.length (dRow l')) := Lib.hid (HOD6.out.keep (fun _ _ _ => rfl))
                          have HOA7 : Hid (Own W6.drew W1.heap.size 3 1 (.slice (some ⟨ga, 0, none⟩) G.links.length ca) G.links.length (plA G.nodes G.links)) := Lib.hid (HOA6.out.keep (fun _ _ _ => rfl))
                          have HOB7 : Hid (Own W6.drew W1.heap.size 3 1 (.slice (some ⟨gb, 0, none⟩) G.links.length cb) G.links.length (plB G.nodes G.links)) := Lib.hid (HOB6.out.keep (fun _ _ _ => rfl))
                          have HL7 : Hid (W6.drew.heap[ll]? = W6.heap[ll]?) := Lib.hid rfl
                          have l27 : W6.drew.cell? ⟨ll, 2, none⟩ = some (.float .f64 (qw q)) := (HL6.out W6 rfl).1
                          have d7 : W6.drew.cell? ⟨dg, pa, none⟩ = some (.float .f64 (dw (g_ l' pa))) := d0
                          have y7 : W6.drew.frozen? ⟨dg, pa, none⟩ = false := d1
                          have f7 : W6.drew.cell? ⟨dg, pb, none⟩ = some (.float .f64 (dw (g_ l' pb))) := f0
                          have z7 : W6.drew.frozen? ⟨dg, pb, none⟩ = false := f1
                          clear d0 d1 f0 f1 hs0
                          generalize W6.drew = W7 at *
                          have hlt1 := HLT1.out
                          obtain ⟨A, hA⟩ : ∃ A, A = g_ l' pa := ⟨_, rfl⟩
                          obtain ⟨B, hB⟩ : ∃ B, B = g_ l' pb := ⟨_, rfl⟩
                          have HGA := Lib.hid hA.symm
                          have HGB := Lib.hid hB.symm
                          rw [← hA] at d7 hlt1 HLT1 HR1 HX1 HS1' HADD1 HGS
                          rw [← hB] at f7 hlt1 HLT1 HR1 HS2'
                          rw [← hA] at HLIVE
                          rw [← hB] at HLIVE
                          rw [← hA]
                          clear hA hB
                          generalize hx1 : addO q A lim = X1 at *
                          cases hc1 : ltO X1 B with
                          | true =>
                            rw [hc1] at hlt1
                            have hl1 : rlx l' pa pb q lim = l'.set pb X1 := by rw [HR1.out, hc1]; rfl
                            have HL1 := Lib.hid hl1
                            have HC1 := Lib.hid hc1
                            clear hl1 hc1
                            go_upto_region 30 with (fail)
                            obtain ⟨W8, hW8⟩ : ∃ W8, W8 = W7.setCell ⟨dg, pb, none⟩ (.float .f64 (dw X1)) := ⟨_, rfl⟩
                            rw [← hW8]
                            have HOD8 : Hid (Own W8 W1.heap.size 26 1 (.slice (some ⟨dg, 0, none⟩) G.nodes.length c0) G.nodes.length (dRow (l'.set pb X1))) := Lib.hid (by have := (own_set HOD7.out (j := pb) (by omega) (.float .f64 (dw X1))).1; rw [dRow_set, ← hW8] at this; exact this)
                            have HX8 : Hid (∀ j, j ≠ dg → W8.heap[j]? = W7.heap[j]?) := Lib.hid (fun j hj => by rw [hW8]; exact Below.heap_setCell _ _ _ _ hj)
                            have HOA8 := Lib.hid (own_int_at HOA7.out HOD7.out (by omega) HX8.out)
                            have HOB8 := Lib.hid (own_int_at HOB7.out HOD7.out (by omega) HX8.out)
                            have HB8 : Hid (Below W1.heap.size W1 W8) := Lib.hid (by rw [hW8]; exact HB7.out.setCell (p := ⟨dg, pb, none⟩) HDG.out _)
                            have l28 : W8.cell? ⟨ll, 2, none⟩ = some (.float .f64 (qw q)) := (HL6.out W8 ((HX8.out ll HLS.out.2).trans HL7.out)).1
                            have d8 : W8.cell? ⟨dg, pa, none⟩ = some (.float .f64 (dw A)) := by rw [hW8, World.cell?_setCell_other _ _ _ _ (by intro e; simp only [Addr.mk.injEq] at e; omega)]; exact d7
                            have f8 : W8.cell? ⟨dg, pb, none⟩ = some (.float .f64 (dw X1)) := (row1c HOD8.out e4 (by have := dRow_at (l := l'.set pb X1) (i := pb) (by simpa using HPBL.out); rw [(HGS.out X1).2] at this; exact this)).1
                            have y8 : W8.frozen? ⟨dg, pa, none⟩ = false := (row1c HOD8.out e3 (dRow_at (l := l'.set pb X1) (i := pa) (by simpa using HPAL.out))).2
                            clear hW8 d7 f7 y7 l27
                            have HADD2 := Lib.hid (fun V => radd_any q X1 lim (by omega) (by omega) HLIM.out.2 HX1.out V)
                            have HX2 := Lib.hid (addO_sm q X1 lim HLIM.out.2)
                            have HLT2 : Hid ((FloatKind.f64.format.order (dw (addO q X1 lim)) (dw A) == some .lt) = ltO (addO q X1 lim) A) := Lib.hid (dw_lt HX2.out HS1'.out)
                            have HR2 : Hid (rlx (l'.set pb X1) pb pa q lim = if ltO (addO q X1 lim) A then (l'.set pb X1).set pa (addO q X1 lim) else (l'.set pb X1)) := Lib.hid (by unfold rlx; rw [(HGS.out X1).1, (HGS.out X1).2])
                            have HK2 : Hid (ltO (addO q (g_ (l'.set pb X1) pb) lim) (g_ (l'.set pb X1) pa) = ltO (addO q X1 lim) A) := Lib.hid (by rw [(HGS.out X1).1, (HGS.out X1).2])
                            generalize hx2 : addO q X1 lim = X2 at *
                            refine wp_region_held_drew (S := fun V => AddS V ll dg pb q X1) (by kernel_rfl) ⟨l28, f8⟩ (fun hH => ?_)
                            have hs0 : AddS W8.drew ll dg pb q X1 := ⟨l28, f8⟩
                            refine tk 0 (by assumption) rfl (by kernel_rfl) (fun _ _ _ h => h) (fun V hV => by go_simp; try with_reducible rfl) ?_
                            try simp only [Act.put, sqA, sqB, sqC, sqD, sqE, sqF]
                            refine tk 1 (by assumption) rfl (by kernel_rfl) (fun _ _ _ h => h) (fun V hV => by obtain ⟨hx1, hx2⟩ := hV; go_simp; try with_reducible rfl) ?_
                            try simp only [Act.put, sqA, sqB, sqC, sqD, sqE, sqF]
                            refine tk 2 (by assumption) rfl (by kernel_rfl) (fun _ _ _ h => h) (fun V hV => by go_simp; try with_reducible rfl) ?_
                            try simp only [Act.put, sqA, sqB, sqC, sqD, sqE, sqF]
                            refine tk 3 (by assumption) rfl (by kernel_rfl) (fun _ _ _ h => h) (fun V hV => by go_simp; try with_reducible rfl) ?_
                            try simp only [Act.put, sqA, sqB, sqC, sqD, sqE, sqF]
                            refine tk 4 (by assumption) rfl (by kernel_rfl) (fun _ _ _ h => h) (fun V hV => by go_simp; try with_reducible rfl) ?_
                            try simp only [Act.put, sqA, sqB, sqC, sqD, sqE, sqF]
                            refine tk 5 (by assumption) rfl (by kernel_rfl) (fun _ _ _ h => h) (fun V hV => by obtain ⟨hx1, hx2⟩ := hV; go_simp; try with_reducible rfl) ?_
                            try simp only [Act.put, sqA, sqB, sqC, sqD, sqE, sqF]
                            refine tk 6 (by assumption) rfl (by kernel_rfl) (fun _ _ _ h => h) (fun V hV => by go_simp; try with_reducible rfl) ?_
                            try simp only [Act.put, sqA, sqB, sqC, sqD, sqE, sqF]
                            refine wpAnyH_ready (rs := [7]) (by kernel_rfl) (by simp) ?_
                            refine AllReadyH.cons (o := _) rfl (fun K hK => ?_) AllReadyH.nil
                            go_simp
                            refine (HADD2.out _).mono ?_
                            rintro e w' ⟨rfl, rfl⟩
                            go_wp2_with fail
                            refine hK.out _ _ hs0 (fun hH => ?_)
                            clear hK K
                            try simp only [Act.put, sqA, sqB, sqC, sqD, sqE, sqF]
                            refine tk 8 (by assumption) rfl (by kernel_rfl) (fun _ _ _ h => h) (fun V hV => by go_simp; try with_reducible rfl) ?_
                            try simp only [Act.put, sqA, sqB, sqC, sqD, sqE, sqF]
                            refine wpAnyH_done (by kernel_rfl) ?_ _
                            have HB9 : Hid (Below W1.heap.size W1 W8.drew) := Lib.hid (Below.drew HB8.out)
                            have d9 : W8.drew.cell? ⟨dg, pa, none⟩ = some (.float .f64 (dw A)) := d8
                            have y9 : W8.drew.frozen? ⟨dg, pa, none⟩ = false := y8
                            have HOD9 : Hid (Own W8.drew W1.heap.size 26 1 (.slice (some ⟨dg, 0, none⟩) G.nodes.length c0) G.nodes.length (dRow (l'.set pb X1))) := Lib.hid (HOD8.out.keep (fun _ _ _ => rfl))
                            have HOA9 : Hid (Own W8.drew W1.heap.size 3 1 (.slice (some ⟨ga, 0, none⟩) G.links.length ca) G.links.length (plA G.nodes G.links)) := Lib.hid (HOA8.out.keep (fun _ _ _ => rfl))
                            have HOB9 : Hid (Own W8.drew W1.heap.size 3 1 (.slice (some ⟨gb, 0, none⟩) G.links.length cb) G.links.length (plB G.nodes G.links)) := Lib.hid (HOB8.out.keep (fun _ _ _ => rfl))
                            clear d8 f8 y8 l28 hs0
                            generalize W8.drew = W9 at *
                            have hlt2 := HLT2.out
                            cases hc2 : ltO X2 A with
                            | true =>
                              rw [hc2] at hlt2
                              have HP := Lib.hid (HLIVE.out _ ((l'.set pb X1).set pa X2) true true HLV.out HL1.out.symm (by rw [HC1.out]; simp) (by rw [HR2.out, hc2]; rfl) (by rw [HK2.out, hc2]; simp))
                              clear hc2
                              go_wp2_with fail
                              have hset := (own_set HOD9.out (j := pa) (by omega) (.float .f64 (dw X2))).1
                              rw [dRow_set] at hset
                              have hxx : ∀ j, j ≠ dg → (W9.setCell ⟨dg, pa, none⟩ (.float .f64 (dw X2))).heap[j]? = W9.heap[j]? := fun j hj => Below.heap_setCell _ _ _ _ hj
                              refine ⟨⟨k + 1, true, _, by simp, rfl, by omega, HP.out, own_int_at HOA9.out HOD9.out (by omega) hxx, own_int_at HOB9.out HOD9.out (by omega) hxx, hset, HB9.out.setCell (p := ⟨dg, pa, none⟩) HDG.out _⟩, ?_⟩
                              simp [RowKit.intOf]; omega
                            | false =>
                              rw [hc2] at hlt2
                              have HP := Lib.hid (HLIVE.out _ (l'.set pb X1) true true HLV.out HL1.out.symm (by rw [HC1.out]; simp) (by rw [HR2.out, hc2]; rfl) (by rw [HK2.out, hc2]; simp))
                              clear hc2
                              go_wp2_with fail
                              refine ⟨⟨k + 1, true, _, by simp, rfl, by omega, HP.out, HOA9.out, HOB9.out, HOD9.out, HB9.out⟩, ?_⟩
                              simp [RowKit.intOf]; omega
                          | false =>
                            rw [hc1] at hlt1
                            have hl1 : rlx l' pa pb q lim = l' := by rw [HR1.out, hc1]; rfl
                            have HL1 := Lib.hid hl1
                            have HC1 := Lib.hid hc1
                            clear hl1 hc1
                            go_upto_region 30 with (fail)
                            obtain ⟨W8, hW8⟩ : ∃ W8, W8 = W7 := ⟨_, rfl⟩
                            subst hW8
                            have HOD8 := HOD7
                            have HOA8 := HOA7
                            have HOB8 := HOB7
                            have HB8 := HB7
                            have l28 := l27
                            have d8 := d7
                            have f8 := f7
                            have y8 := y7
                            clear l27 d7 f7 y7
                            have HADD2 := Lib.hid (fun V => radd_any q B lim (by omega) (by omega) HLIM.out.2 HS2'.out V)
                            have HX2 := Lib.hid (addO_sm q B lim HLIM.out.2)
                            have HLT2 : Hid ((FloatKind.f64.format.order (dw (addO q B lim)) (dw A) == some .lt) = ltO (addO q B lim) A) := Lib.hid (dw_lt HX2.out HS1'.out)
                            have HR2 : Hid (rlx l' pb pa q lim = if ltO (addO q B lim) A then l'.set pa (addO q B lim) else l') := Lib.hid (by unfold rlx; rw [HGA.out, HGB.out])
                            have HK2 : Hid (ltO (addO q (g_ l' pb) lim) (g_ l' pa) = ltO (addO q B lim) A) := Lib.hid (by rw [HGA.out, HGB.out])
                            generalize hx2 : addO q B lim = X2 at *
                            refine wp_region_held_drew (S := fun V => AddS V ll dg pb q B) (by kernel_rfl) ⟨l28, f8⟩ (fun hH => ?_)
                            have hs0 : AddS W8.drew ll dg pb q B := ⟨l28, f8⟩
                            refine tk 0 (by assumption) rfl (by kernel_rfl) (fun _ _ _ h => h) (fun V hV => by go_simp; try with_reducible rfl) ?_
                            try simp only [Act.put, sqA, sqB, sqC, sqD, sqE, sqF]
                            refine tk 1 (by assumption) rfl (by kernel_rfl) (fun _ _ _ h => h) (fun V hV => by obtain ⟨hx1, hx2⟩ := hV; go_simp; try with_reducible rfl) ?_
                            try simp only [Act.put, sqA, sqB, sqC, sqD, sqE, sqF]
                            refine tk 2 (by assumption) rfl (by kernel_rfl) (fun _ _ _ h => h) (fun V hV => by go_simp; try with_reducible rfl) ?_
                            try simp only [Act.put, sqA, sqB, sqC, sqD, sqE, sqF]
                            refine tk 3 (by assumption) rfl (by kernel_rfl) (fun _ _ _ h => h) (fun V hV => by go_simp; try with_reducible rfl) ?_
                            try simp only [Act.put, sqA, sqB, sqC, sqD, sqE, sqF]
                            refine tk 4 (by assumption) rfl (by kernel_rfl) (fun _ _ _ h => h) (fun V hV => by go_simp; try with_reducible rfl) ?_
                            try simp only [Act.put, sqA, sqB, sqC, sqD, sqE, sqF]
                            refine tk 5 (by assumption) rfl (by kernel_rfl) (fun _ _ _ h => h) (fun V hV => by obtain ⟨hx1, hx2⟩ := hV; go_simp; try with_reducible rfl) ?_
                            try simp only [Act.put, sqA, sqB, sqC, sqD, sqE, sqF]
                            refine tk 6 (by assumption) rfl (by kernel_rfl) (fun _ _ _ h => h) (fun V hV => by go_simp; try with_reducible rfl) ?_
                            try simp only [Act.put, sqA, sqB, sqC, sqD, sqE, sqF]
                            refine wpAnyH_ready (rs := [7]) (by kernel_rfl) (by simp) ?_
                            refine AllReadyH.cons (o := _) rfl (fun K hK => ?_) AllReadyH.nil
                            go_simp
                            refine (HADD2.out _).mono ?_
                            rintro e w' ⟨rfl, rfl⟩
                            go_wp2_with fail
                            refine hK.out _ _ hs0 (fun hH => ?_)
                            clear hK K
                            try simp only [Act.put, sqA, sqB, sqC, sqD, sqE, sqF]
                            refine tk 8 (by assumption) rfl (by kernel_rfl) (fun _ _ _ h => h) (fun V hV => by go_simp; try with_reducible rfl) ?_
                            try simp only [Act.put, sqA, sqB, sqC, sqD, sqE, sqF]
                            refine wpAnyH_done (by kernel_rfl) ?_ _
                            have HB9 : Hid (Below W1.heap.size W1 W8.drew) := Lib.hid (Below.drew HB8.out)
                            have d9 : W8.drew.cell? ⟨dg, pa, none⟩ = some (.float .f64 (dw A)) := d8
                            have y9 : W8.drew.frozen? ⟨dg, pa, none⟩ = false := y8
                            have HOD9 : Hid (Own W8.drew W1.heap.size 26 1 (.slice (some ⟨dg, 0, none⟩) G.nodes.length c0) G.nodes.length (dRow l')) := Lib.hid (HOD8.out.keep (fun _ _ _ => rfl))
                            have HOA9 : Hid (Own W8.drew W1.heap.size 3 1 (.slice (some ⟨ga, 0, none⟩) G.links.length ca) G.links.length (plA G.nodes G.links)) := Lib.hid (HOA8.out.keep (fun _ _ _ => rfl))
                            have HOB9 : Hid (Own W8.drew W1.heap.size 3 1 (.slice (some ⟨gb, 0, none⟩) G.links.length cb) G.links.length (plB G.nodes G.links)) := Lib.hid (HOB8.out.keep (fun _ _ _ => rfl))
                            clear d8 f8 y8 l28 hs0
                            generalize W8.drew = W9 at *
                            have hlt2 := HLT2.out
                            cases hc2 : ltO X2 A with
                            | true =>
                              rw [hc2] at hlt2
                              have HP := Lib.hid (HLIVE.out _ (l'.set pa X2) tb true HLV.out HL1.out.symm (by rw [HC1.out]; simp) (by rw [HR2.out, hc2]; rfl) (by rw [HK2.out, hc2]; simp))
                              clear hc2
                              go_wp2_with fail
                              have hset := (own_set HOD9.out (j := pa) (by omega) (.float .f64 (dw X2))).1
                              rw [dRow_set] at hset
                              have hxx : ∀ j, j ≠ dg → (W9.setCell ⟨dg, pa, none⟩ (.float .f64 (dw X2))).heap[j]? = W9.heap[j]? := fun j hj => Below.heap_setCell _ _ _ _ hj
                              refine ⟨⟨k + 1, true, _, by simp, rfl, by omega, HP.out, own_int_at HOA9.out HOD9.out (by omega) hxx, own_int_at HOB9.out HOD9.out (by omega) hxx, hset, HB9.out.setCell (p := ⟨dg, pa, none⟩) HDG.out _⟩, ?_⟩
                              simp [RowKit.intOf]; omega
                            | false =>
                              rw [hc2] at hlt2
                              have HP := Lib.hid (HLIVE.out _ l' tb tb HLV.out HL1.out.symm (by rw [HC1.out]; simp) (by rw [HR2.out, hc2]; rfl) (by rw [HK2.out, hc2]; simp))
                              clear hc2
                              go_wp2_with fail
                              refine ⟨⟨k + 1, tb, _, by simp, rfl, by omega, HP.out, HOA9.out, HOB9.out, HOD9.out, HB9.out⟩, ?_⟩
                              simp [RowKit.intOf]; omega
                  · have hnk : ¬ (k : Int) < (G.links.length : Int) := by omega
                    have HKK := Lib.hid (show G.links.length ≤ k by omega)
                    clear hlt hk
                    go_wp2_with fail
                    go_roundg (2 * msum lim l' + tb.toNat)
                    case measure =>
                      have hg := HGK.out
                      simp only [Bool.toNat_true] at hg
                      cases tb with
                      | true => have := HPASS.out.less rfl; simp only [Bool.toNat_true]; omega
                      | false => have := (HPASS.out.still rfl).1; rw [this]; simp only [Bool.toNat_false]; omega
                    case rel => exact ⟨tb, l', rfl, HPASS.out.len, HPASS.out.bf, (fun h => by subst h; exact HPASS.out.least HKK.out), Nat.le_refl _, HOA.out, HOB.out, HOD.out, HBE.out⟩
end Go.Proofs.YtjlfpjjfldbknaaGreat
end
