/- Balls: rows that are appended whole; a sight's entry. -/
import Derived.Test.YtjlfpjjfldbknaaGreatBaD
namespace Go.Ow
open Go.RowKit Go.Lib
set_option linter.unusedVariables false
set_option linter.unusedSimpArgs false
/-- Two rows share no block. -/
def Ap (v u : Value) : Prop := ∀ g n c n' c', v = .slice (some ⟨g, 0, none⟩) n c → u = .slice (some ⟨g, 0, none⟩) n' c' → c = 0 ∨ c' = 0
theorem Ap.symm {v u : Value} (h : Ap v u) : Ap u v := fun g n c n' c' a b => (h g n' c' n c b a).symm
/-- A row that is apart from one that grows stays. -/
theorem own_stays {w w' : World} {base b2 k k2 n m : Nat} {e e2 : TypeId} {v v' u : Value} {xs ys : List Value} (hu : Own w b2 e2 k2 u m ys) (hv : Own w base e k v n xs) (ha : Ap v u) (hk : ∀ q, Kq q v v' w w') : Own w' b2 e2 k2 u m ys ∧ Ap v' u := by
  constructor
  · rcases hu with h | ⟨g, cap, cur, rfl, hb, hg, hnc, hcm, hcs, hx⟩
    · exact Or.inl h
    · by_cases hc0 : cap = 0
      · subst hc0
        have hm0 : m = 0 := by omega
        subst hm0
        exact Or.inl ⟨rfl, by rw [← hx]; simp, _, rfl⟩
      · refine Or.inr ⟨g, cap, cur, rfl, hb, ?_, hnc, hcm, hcs, hx⟩
        rw [(hk (g + 1)).block g (Array.getElem?_eq_some_iff.1 hg).1 (by omega) (fun n' c' e3 => (ha g n' c' m cap e3 rfl).resolve_right hc0)]
        exact hg
  · intro g n' c' m' cu h1 h2
    by_cases hc : cu = 0
    · exact Or.inr hc
    · left
      have hgs : g < w.heap.size := by
        rcases hu with ⟨-, -, a, rfl⟩ | ⟨g', cap, cur, rfl, hb, hg, -⟩
        · cases h2; omega
        · cases h2; exact (Array.getElem?_eq_some_iff.1 hg).1
      have hnr : NotRow v g := fun n'' c'' e3 => (ha g n'' c'' m' cu e3 h2).resolve_right hc
      exact (hk 0).row g hgs hnr n' c' h1
theorem own_src {P : Program} {w : World} {base k n : Nat} {T TS : TypeId} {u : Value} {ys : List Value} (hu : P.underlying TS = some (.slice T)) (h : Own w base T k u n ys) (h1 : ∀ y ∈ ys, y.oneCell' = true) : Src P k TS u n ys w := by
  have hl := h.len
  rcases h with ⟨rfl, rfl, a, rfl⟩ | ⟨g, cap, cur, rfl, hb, hg, hnc, hcm, hcs, hx⟩
  · cases a with
    | none => exact Src.ofNil w hu 0
    | some a => exact Src.ofSlice w hu a 0 0 [] (by simp) (fun j u hj => by simp at hj) (fun u hu => by cases hu)
  · refine Src.ofSlice w hu ⟨g, 0, none⟩ n cap ys hl (fun j u hj => ?_) h1
    rw [Addr.add_lit, Nat.zero_add, cell_of_row w g j cur _ (0, 0) hg, ← Array.getElem?_toList]
    rw [← hx, List.getElem?_take] at hj
    split at hj
    · exact hj
    · cases hj
theorem own_apps {P : Program} {w : World} {base k bytes n m : Nat} {T TS : TypeId} {v sv : Value} {z : Value} {xs vs : List Value} (hu : P.underlying TS = some (.slice T)) (hinfo : (P.info? T).map (fun i => (i.zero, i.size, i.bytes)) = some (some z, k, bytes)) (hz : z.cells.size = k)
    (hown : Own w base T k v n xs) (hb : base ≤ w.heap.size) (hsrc : Src P k TS sv m vs w) (hfit : (n + m) * bytes ≤ 140737488355328) (hn : n + m < 4611686018427387904) :
    ∃ v' w', (∀ ty, (Builtin.append_ #[TS, TS] ty #[v, sv]).run P w = .ok v' w') ∧ Own w' base T k v' (n + m) (xs ++ vs) ∧ (∀ q, Kq q v v' w w') := by
  have hxl := hown.len
  have hvl := hsrc.newsLen
  obtain ⟨i0, hi0, hz0, hzs, hzb⟩ := info_parts hinfo
  have hml : n + m ≤ maxLen := by unfold maxLen; omega
  have GROW : ∀ (a : Option Addr) (c : Nat), v = .slice a n c → c < n + m → (Builtin.firstCells i0.size n (.slice a n c)).run P w.drew = .ok xs.toArray w.drew → ∃ v' w', (∀ ty, (Builtin.append_ #[TS, TS] ty #[v, sv]).run P w = .ok v' w') ∧ Own w' base T k v' (n + m) (xs ++ vs) ∧ (∀ q, Kq q v v' w w') := fun a c hv hc hold => by
    subst hv
    refine ⟨_, _, fun ty => run_append_grow_src w TS TS ty T i0 _ hu hi0 hz0 a n c xs hold _ m vs (by rw [hzs]; exact hsrc) hc (by unfold maxLen at hml; omega) (by rw [hzb]; exact growslice_fits hc hfit),
      ?_, fun q => kq_alloc q _ _ _ _⟩
    have hG := grownCap_ge w (n + m) c T
    refine Or.inr ⟨w.heap.size, grownCap w (n + m) c T, _, rfl, hb, heap_alloc_new w.drew _, hG, grownCap_le_maxLen w _ _ _ hml, ?_, ?_⟩
    · rw [Array.size_append, zero_size, hz, List.size_toArray, List.length_append, hxl, hvl, ← Nat.add_mul, ← Nat.add_mul]
      congr 1; omega
    · have e : (n + m) * k = (xs ++ vs).length := by rw [List.length_append, hxl, hvl, Nat.add_mul]
      rw [Array.toList_append, List.take_append_of_le_length (by rw [e]; simp), e, List.take_of_length_le (by simp)]
  rcases hown with ⟨rfl, rfl, a, rfl⟩ | ⟨g, cap, cur, rfl, hbg, hg, hnc, hcm, hcs, hx⟩
  · by_cases hm : m = 0
    · subst hm
      have hvs : vs = [] := List.length_eq_zero_iff.1 (by rw [hvl]; simp)
      subst hvs
      refine ⟨.slice a 0 0, w, fun ty => ?_, Or.inl ⟨rfl, rfl, a, rfl⟩, fun q => Kq.of_below (Below.refl _ _)⟩
      have hs' : Src P i0.size TS sv 0 [] w := by rw [hzs]; exact hsrc
      cases a with
      | none => simp [Builtin.append_, run_underlying hu, sizeOf, typeInfo, hi0, hs'.len, hs'.cells]
      | some a => obtain ⟨ab, ao, af⟩ := a; simp [Builtin.append_, run_underlying hu, sizeOf, typeInfo, hi0, hs'.len, hs'.cells, storeCells]
    · exact GROW a 0 rfl (by omega) (by
        rw [hzs]
        cases a with
        | none => exact run_firstCells_none w.drew k 0 0 0
        | some a => exact run_firstCells_some w.drew k 0 a 0 0 [] (by simp) (fun j v hj => by simp at hj))
  · by_cases hroom : n + m ≤ cap
    · have hle : (n + m) * k ≤ cap * k := Nat.mul_le_mul_right _ hroom
      rw [Nat.add_mul] at hle
      obtain ⟨cur', h1, h2, h3⟩ := setCells_block g vs (n * k) w cur hg (by omega)
      obtain ⟨f1, f2, f3⟩ := setCells_frame g vs (n * k) w
      refine ⟨_, _, fun ty => ?_, Or.inr ⟨g, cap, cur', rfl, hbg, h1, hroom, hcm, by omega, ?_⟩, fun q => ⟨f1, f2, f3, by rw [setCells_size]; exact Nat.le_refl _, fun j hj _ hr => by
        by_cases hv0 : vs = []
        · subst hv0; rfl
        · exact setCells_other g _ _ _ j (fun e => by
            subst e
            have h0 := hr _ _ rfl
            refine hv0 (List.length_eq_zero_iff.1 ?_)
            rw [hvl, show m = 0 by omega, Nat.zero_mul]), fun j hj hr n' c' e => ?_⟩⟩
      · have h := run_append_room_src (P := P) w TS TS ty T i0 hu hi0 g 0 n cap sv m vs (by rw [hzs]; exact hsrc) hroom
          (fun j hj => by rw [hzs, cell_of_row w g _ cur _ (0, 0) hg, Array.getElem?_eq_getElem (by omega)]; rfl) (fun j _ => frozen_of_row w g _ cur _ hg)
        rw [hzs, Nat.zero_add] at h
        exact h
      · apply List.ext_getElem?
        intro j
        rw [List.getElem?_take, h3 j]
        by_cases a1 : j < n * k
        · rw [if_pos (by rw [Nat.add_mul]; omega), if_neg (by omega), List.getElem?_append_left (by omega), ← hx, List.getElem?_take, if_pos a1]
        · by_cases a2 : j < n * k + vs.length
          · rw [if_pos (by rw [Nat.add_mul]; omega), if_pos (by omega), List.getElem?_append_right (by omega), hxl]
          · rw [if_neg (by rw [Nat.add_mul]; omega), List.getElem?_eq_none (by rw [List.length_append]; omega)]
      · simp only [Value.slice.injEq, Option.some.injEq, Addr.mk.injEq, and_true] at e
        obtain ⟨rfl, rfl, rfl⟩ := e
        exact hr _ _ rfl
    · exact GROW _ cap rfl (by omega) (by
        rw [hzs]
        exact run_firstCells_some w.drew k n ⟨g, 0, none⟩ n cap xs hxl (fun j v hj => by
          rw [Addr.add_lit, Nat.zero_add]
          show w.cell? _ = _
          rw [cell_of_row w g j cur _ (0, 0) hg, ← Array.getElem?_toList]
          rw [← hx, List.getElem?_take] at hj
          split at hj
          · exact hj
          · cases hj))
end Go.Ow
namespace Go.Proofs.YtjlfpjjfldbknaaGreat
open Go.RowKit Go.Lib Go.Fq Go.Pq Go.Iq Go.Nq Go.Ow Go.Bq
set_option linter.unusedVariables false
set_option linter.unusedSimpArgs false
set_option maxRecDepth 100000

def ENZ : Array Value := #[.int .i64 0, .int .i64 0, .float .f64 0, .int .i64 0, .float .f64 0, .int .i64 0]
theorem ent_cells {V : World} {b : Nat} (h : V.heap[b]? = some (.cells ENZ 43 (0, 0))) : V.cell? ⟨b, 0, none⟩ = some (.int .i64 0) ∧ V.cell? ⟨b, 1, none⟩ = some (.int .i64 0) ∧ V.cell? ⟨b, 2, none⟩ = some (.float .f64 0) ∧ V.cell? ⟨b, 3, none⟩ = some (.int .i64 0) ∧ V.cell? ⟨b, 4, none⟩ = some (.float .f64 0) ∧ V.cell? ⟨b, 5, none⟩ = some (.int .i64 0) :=
  ⟨by rw [cell_of_row V _ 0 _ _ (0, 0) h]; rfl, by rw [cell_of_row V _ 1 _ _ (0, 0) h]; rfl, by rw [cell_of_row V _ 2 _ _ (0, 0) h]; rfl, by rw [cell_of_row V _ 3 _ _ (0, 0) h]; rfl, by rw [cell_of_row V _ 4 _ _ (0, 0) h]; rfl, by rw [cell_of_row V _ 5 _ _ (0, 0) h]; rfl⟩
theorem ent_frozen {V : World} {b : Nat} (h : V.heap[b]? = some (.cells ENZ 43 (0, 0))) : V.frozen? ⟨b, 0, none⟩ = false ∧ V.frozen? ⟨b, 1, none⟩ = false ∧ V.frozen? ⟨b, 2, none⟩ = false ∧ V.frozen? ⟨b, 3, none⟩ = false ∧ V.frozen? ⟨b, 4, none⟩ = false ∧ V.frozen? ⟨b, 5, none⟩ = false :=
  ⟨frozen_of_row V b 0 _ _ h, frozen_of_row V b 1 _ _ h, frozen_of_row V b 2 _ _ h, frozen_of_row V b 3 _ _ h, frozen_of_row V b 4 _ _ h, frozen_of_row V b 5 _ _ h⟩
theorem bx_mono {B C db : Nat} {a b : World} (h : BelowX B db a b) (hC : C ≤ B) : BelowX C db a b := ⟨h.os, h.tape, h.output, h.size, fun j hj hx => h.block j (Nat.lt_of_lt_of_le hj hC) hx⟩
set_option maxHeartbeats 16000000 in
theorem bEntry_any (at_ to_ : Nat) (kd hx rh : Int) (rv : Nat) (w : World) (sb db B0 : Nat) (H : Gr) (max : Nat) (na : Option Addr) (nc : Nat) (la : Option Addr) (lc : Nat) (hv : Value) (h : Sg w sb db B0 H max na nc la lc hv) (hat : at_ < H.nodes.length) (hto : to_ < H.nodes.length) :
    Calls Tryz.prog 36 #[.pointer (some ⟨sb, 0, none⟩), .int .i64 (at_ : Int), .int .i64 (to_ : Int), .int .i64 kd, .agg #[.int .i64 hx, .int .i64 rh, .float .f64 rv]] w fun e w' => e = .returned (.agg #[.int .i64 (idf H.nodes to_ : Int), .int .i64 kd, .float .f64 (dw (g_ (dst H (qn max) to_) at_)), .int .i64 (nextI H (qn max) (idf H.nodes at_ : Int) (idf H.nodes to_ : Int)), .float .f64 rv, .int .i64 rh]) ∧ Sg w' sb db B0 H max na nc la lc hv ∧ BelowX w.heap.size db w w' := by
  have hst := g_storeL
  have htoi : (to_ : Int) < (H.nodes.length : Int) := by omega
  have hto0 : (0 : Int) ≤ (to_ : Int) := by omega
  obtain ⟨W1, hW1⟩ : ∃ W1, W1 = w.alloc (.cells #[.int .i64 hx, .int .i64 rh, .float .f64 rv] 50) := ⟨_, rfl⟩
  obtain ⟨W2, hW2⟩ : ∃ W2, W2 = W1.alloc (.cells ENZ 43) := ⟨_, rfl⟩
  have b1 : Below w.heap.size w W1 := by rw [hW1]; exact gAl _ _
  have b2 : Below W1.heap.size W1 W2 := by rw [hW2]; exact gAl _ _
  have s1 : W1.heap.size = w.heap.size + 1 := by rw [hW1]; simp
  have s2 : W2.heap.size = W1.heap.size + 1 := by rw [hW2]; simp
  have r1 : W1.heap[w.heap.size]? = some (.cells #[.int .i64 hx, .int .i64 rh, .float .f64 rv] 50 (0, 0)) := by rw [hW1]; exact heap_alloc_new w _
  have r2 : W2.heap[W1.heap.size]? = some (.cells ENZ 43 (0, 0)) := by rw [hW2]; exact heap_alloc_new W1 _
  have q1 := (b2.block w.heap.size (by omega)).trans r1
  obtain ⟨pb, hpb⟩ : ∃ pb, pb = w.heap.size := ⟨_, rfl⟩
  obtain ⟨rc, hrc⟩ : ∃ rc, rc = W1.heap.size := ⟨_, rfl⟩
  rw [← hpb] at q1
  rw [← hrc] at r2
  have hlow := h.low
  have hdbs := h.dbs
  have hsbs := h.sbs
  have HRC : Hid (rc < W2.heap.size ∧ rc ≠ db ∧ (w.heap.size ≤ W2.heap.size ∧ w.heap.size ≤ rc ∧ B0 ≤ rc) ∧ W2.heap[rc]? = some (.cells ENZ 43 (0, 0))) := Lib.hid ⟨by omega, by omega, ⟨by omega, by omega, by omega⟩, r2⟩
  have hb12 := gNx b1 b2
  have HSG := Lib.hid (h.below hb12)
  have HWX : Hid (BelowX w.heap.size db w W2) := Lib.hid (BelowX.of_below hb12)
  obtain ⟨nb, no, hna, hnb, hnc⟩ := h.nodes.at to_ hto
  obtain ⟨ni, -, -⟩ := hnc to_ hto
  rw [h.bg.id hto] at ni
  obtain ⟨x, hxx⟩ : ∃ x, x = (idf H.nodes to_ : Int) := ⟨_, rfl⟩
  obtain ⟨nx, hnx⟩ : ∃ nx, nx = nextI H (qn max) (idf H.nodes at_ : Int) (idf H.nodes to_ : Int) := ⟨_, rfl⟩
  have HNX := Lib.hid (fun V (hV : Sg V sb db B0 H max na nc la lc hv) => bNext_any at_ to_ V sb db B0 H max na nc la lc hv hV hat hto)
  have HDI := Lib.hid (fun V (hV : Sg V sb db B0 H max na nc la lc hv) => bDist_any at_ to_ V sb db B0 H max na nc la lc hv hV hat hto)
  obtain ⟨d1, hd1⟩ : ∃ d1, d1 = dw (g_ (dst H (qn max) to_) at_) := ⟨_, rfl⟩
  rw [← hnx] at HNX ⊢
  rw [← hxx] at ni ⊢
  rw [← hd1] at HDI ⊢
  have HSS : Hid (∀ V, BelowX W2.heap.size db W2 V → V.cell? ⟨sb, 0, none⟩ = some (.slice na H.nodes.length nc) ∧ V.cell? ⟨nb, no + to_ * 3, none⟩ = some (.int .i64 x) ∧ V.cell? ⟨pb, 1, none⟩ = some (.int .i64 rh) ∧ V.cell? ⟨pb, 2, none⟩ = some (.float .f64 rv)) := Lib.hid (fun V hV => by
    have e1 := (hV.block sb (by omega) (by omega)).trans (h.below hb12).cells
    have e2 := (hV.block nb (by omega) (by omega)).trans (hb12.block nb (by omega))
    have e3 := (hV.block pb (by omega) (by omega)).trans q1
    exact ⟨by rw [cell_of_row V _ 0 _ _ (0, 0) e1]; rfl, (World.cell?_of_block e2).trans ni, by rw [cell_of_row V _ 1 _ _ (0, 0) e3]; rfl, by rw [cell_of_row V _ 2 _ _ (0, 0) e3]; rfl⟩)
  have HNE : Hid (sb ≠ rc ∧ nb ≠ rc ∧ pb ≠ rc) := Lib.hid ⟨by omega, by omega, by omega⟩
  subst hna
  clear h b1 b2 r1 r2 q1 hlow hdbs hsbs hb12 hnb hnc ni hxx hnx hd1
  go_enter Tryz.func36, Tryz.ntmps36
  go_upto_region 1 with (fail)
  have hW2' : W2 = W1.alloc (.cells #[.int .i64 0, .int .i64 0, .float .f64 0, .int .i64 0, .float .f64 0, .int .i64 0] 43) := hW2
  rw [← hW1, ← hW2', ← s1, ← hrc, ← hpb]
  clear hW1 hW2 hW2' s1 s2 hrc hpb
  refine wp_region_held_drew (S := fun V => V.cell? ⟨sb, 0, none⟩ = some (.slice (some ⟨nb, no, none⟩) H.nodes.length nc) ∧ V.cell? ⟨nb, no + to_ * 3, none⟩ = some (.int .i64 x) ∧ V.cell? ⟨pb, 1, none⟩ = some (.int .i64 rh) ∧ V.cell? ⟨pb, 2, none⟩ = some (.float .f64 rv)) (by kernel_rfl) (HSS.out _ (BelowX.of_below (Below.drew (Below.refl _ _)))) (fun hH => ?_)
  have hs0 := HSS.out _ (BelowX.of_below (Below.drew (Below.refl _ _)))
  have HS0 := Lib.hid (HSG.out.below (Below.drew (Below.refl _ _)))
  have HX0 : Hid (BelowX W2.heap.size db W2 W2.drew) := Lib.hid (BelowX.of_below (Below.drew (Below.refl _ _)))
  generalize W2.drew = V0 at *
  refine tk 0 (by assumption) rfl (by kernel_rfl) (fun _ _ _ h => h) (fun V hV => by go_simp; try with_reducible rfl) ?_
  try simp only [Act.put, sqA, sqB, sqC, sqD, sqE, sqF]
  refine tk 1 (by assumption) rfl (by kernel_rfl) (fun _ _ _ h => h) (fun V hV => by go_simp; try with_reducible rfl) ?_
  try simp only [Act.put, sqA, sqB, sqC, sqD, sqE, sqF]
  refine tk 2 (by assumption) rfl (by kernel_rfl) (fun _ _ _ h => h) (fun V hV => by go_simp; try with_reducible rfl) ?_
  try simp only [Act.put, sqA, sqB, sqC, sqD, sqE, sqF]
  refine tk 3 (by assumption) rfl (by kernel_rfl) (fun _ _ _ h => h) (fun V hV => by go_simp; try with_reducible rfl) ?_
  try simp only [Act.put, sqA, sqB, sqC, sqD, sqE, sqF]
  refine tk 4 (by assumption) rfl (by kernel_rfl) (fun _ _ _ h => h) (fun V hV => by obtain ⟨hx0, hx1, hx2, hx3⟩ := hV; go_simp; try with_reducible rfl) ?_
  try simp only [Act.put, sqA, sqB, sqC, sqD, sqE, sqF]
  refine tk 5 (by assumption) rfl (by kernel_rfl) (fun _ _ _ h => h) (fun V hV => by go_simp; try with_reducible rfl) ?_
  try simp only [Act.put, sqA, sqB, sqC, sqD, sqE, sqF]
  refine tk 6 (by assumption) rfl (by kernel_rfl) (fun _ _ _ h => h) (fun V hV => by go_simp; try with_reducible rfl) ?_
  try simp only [Act.put, sqA, sqB, sqC, sqD, sqE, sqF]
  refine tk 7 (by assumption) rfl (by kernel_rfl) (fun _ _ _ h => h) (fun V hV => by go_simp; try with_reducible rfl) ?_
  try simp only [Act.put, sqA, sqB, sqC, sqD, sqE, sqF]
  refine tk 8 (by assumption) rfl (by kernel_rfl) (fun _ _ _ h => h) (fun V hV => by obtain ⟨hx0, hx1, hx2, hx3⟩ := hV; go_simp; try with_reducible rfl) ?_
  try simp only [Act.put, sqA, sqB, sqC, sqD, sqE, sqF]
  refine tk 9 (by assumption) rfl (by kernel_rfl) (fun _ _ _ h => h) (fun V hV => by go_simp; try with_reducible rfl) ?_
  try simp only [Act.put, sqA, sqB, sqC, sqD, sqE, sqF]
  refine tk 10 (by assumption) rfl (by kernel_rfl) (fun _ _ _ h => h) (fun V hV => by go_simp; try with_reducible rfl) ?_
  try simp only [Act.put, sqA, sqB, sqC, sqD, sqE, sqF]
  refine tk 11 (by assumption) rfl (by kernel_rfl) (fun _ _ _ h => h) (fun V hV => by go_simp; try with_reducible rfl) ?_
  try simp only [Act.put, sqA, sqB, sqC, sqD, sqE, sqF]
  refine tk 12 (by assumption) rfl (by kernel_rfl) (fun _ _ _ h => h) (fun V hV => by go_simp; try with_reducible rfl) ?_
  try simp only [Act.put, sqA, sqB, sqC, sqD, sqE, sqF]
  refine tk 14 (by assumption) rfl (by kernel_rfl) (fun _ _ _ h => h) (fun V hV => by go_simp; try with_reducible rfl) ?_
  try simp only [Act.put, sqA, sqB, sqC, sqD, sqE, sqF]
  refine tk 15 (by assumption) rfl (by kernel_rfl) (fun _ _ _ h => h) (fun V hV => by go_simp; try with_reducible rfl) ?_
  try simp only [Act.put, sqA, sqB, sqC, sqD, sqE, sqF]
  refine tk 16 (by assumption) rfl (by kernel_rfl) (fun _ _ _ h => h) (fun V hV => by go_simp; try with_reducible rfl) ?_
  try simp only [Act.put, sqA, sqB, sqC, sqD, sqE, sqF]
  refine tk 18 (by assumption) rfl (by kernel_rfl) (fun _ _ _ h => h) (fun V hV => by go_simp; try with_reducible rfl) ?_
  try simp only [Act.put, sqA, sqB, sqC, sqD, sqE, sqF]
  refine tk 19 (by assumption) rfl (by kernel_rfl) (fun _ _ _ h => h) (fun V hV => by obtain ⟨hx0, hx1, hx2, hx3⟩ := hV; go_simp; try with_reducible rfl) ?_
  try simp only [Act.put, sqA, sqB, sqC, sqD, sqE, sqF]
  refine tk 20 (by assumption) rfl (by kernel_rfl) (fun _ _ _ h => h) (fun V hV => by go_simp; try with_reducible rfl) ?_
  try simp only [Act.put, sqA, sqB, sqC, sqD, sqE, sqF]
  refine tk 21 (by assumption) rfl (by kernel_rfl) (fun _ _ _ h => h) (fun V hV => by obtain ⟨hx0, hx1, hx2, hx3⟩ := hV; go_simp; try with_reducible rfl) ?_
  try simp only [Act.put, sqA, sqB, sqC, sqD, sqE, sqF]
  refine wpAnyH_ready (rs := [13]) (by kernel_rfl) (by simp) ?_
  refine AllReadyH.cons (o := _) rfl (fun K hK => ?_) AllReadyH.nil
  go_simp
  refine (HDI.out V0 HS0.out).mono ?_
  rintro e V1 ⟨rfl, hs1, hx1⟩
  have HS1 := Lib.hid hs1
  have HX1 : Hid (BelowX W2.heap.size db W2 V1) := Lib.hid (bx_next HX0.out hx1)
  clear hs1 hx1
  go_wp2_with fail
  refine hK.out _ _ (HSS.out _ HX1.out) (fun hH => ?_)
  clear hK K
  try simp only [Act.put, sqA, sqB, sqC, sqD, sqE, sqF]
  refine wpAnyH_ready (rs := [17]) (by kernel_rfl) (by simp) ?_
  refine AllReadyH.cons (o := _) rfl (fun K hK => ?_) AllReadyH.nil
  go_simp
  refine (HNX.out V1 HS1.out).mono ?_
  rintro e V2 ⟨rfl, hs1, hx1⟩
  have HS2 := Lib.hid hs1
  have HX2 : Hid (BelowX W2.heap.size db W2 V2) := Lib.hid (bx_next HX1.out hx1)
  clear hs1 hx1
  go_wp2_with fail
  refine hK.out _ _ (HSS.out _ HX2.out) (fun hH => ?_)
  clear hK K
  try simp only [Act.put, sqA, sqB, sqC, sqD, sqE, sqF]
  refine tk 22 (by assumption) rfl (by kernel_rfl) (fun _ _ _ h => h) (fun V hV => by go_simp; try with_reducible rfl) ?_
  try simp only [Act.put, sqA, sqB, sqC, sqD, sqE, sqF]
  refine wpAnyH_ready (rs := [23]) (by kernel_rfl) (by simp) ?_
  refine AllReadyH.cons (o := _) rfl (fun K hK => ?_) AllReadyH.nil
  have hrb : V2.heap[rc]? = some (.cells ENZ 43 (0, 0)) := (HX2.out.block rc HRC.out.1 HRC.out.2.1).trans HRC.out.2.2.2
  have q0 := ent_frozen hrb
  obtain ⟨f0, f1, f2, f3, f4, f5⟩ := q0
  obtain ⟨z0, z1, z2, z3, z4, z5⟩ := ent_cells hrb
  have HRB := Lib.hid hrb
  clear hrb
  go_simp
  obtain ⟨cur, hc1, hc2, hc3⟩ := setCells_block rc [.int .i64 x, .int .i64 kd, .float .f64 d1, .int .i64 nx, .float .f64 rv, .int .i64 rh] 0 V2 ENZ HRB.out (Nat.le_refl 6)
  have hoth := setCells_other rc [.int .i64 x, .int .i64 kd, .float .f64 d1, .int .i64 nx, .float .f64 rv, .int .i64 rh] 0 V2
  obtain ⟨q1, q2, q3⟩ := setCells_frame rc [.int .i64 x, .int .i64 kd, .float .f64 d1, .int .i64 nx, .float .f64 rv, .int .i64 rh] 0 V2
  have hsz := setCells_size rc [.int .i64 x, .int .i64 kd, .float .f64 d1, .int .i64 nx, .float .f64 rv, .int .i64 rh] 0 V2
  obtain ⟨W9, hW9⟩ : ∃ W9, W9 = V2.setCells rc 0 [.int .i64 x, .int .i64 kd, .float .f64 d1, .int .i64 nx, .float .f64 rv, .int .i64 rh] := ⟨_, rfl⟩
  have HX9 : Hid (BelowX W2.heap.size db W2 W9 ∨ True) := Lib.hid (Or.inr trivial)
  rw [← hW9] at hc1 hoth q1 q2 q3 hsz
  have HC9 := Lib.hid (show W9.heap[rc]? = some (.cells cur 43 (0, 0)) ∧ (∀ j, cur.toList[j]? = if 0 ≤ j ∧ j < 0 + [Value.int .i64 x, .int .i64 kd, .float .f64 d1, .int .i64 nx, .float .f64 rv, .int .i64 rh].length then [Value.int .i64 x, .int .i64 kd, .float .f64 d1, .int .i64 nx, .float .f64 rv, .int .i64 rh][j - 0]? else ENZ.toList[j]?) from ⟨hc1, hc3⟩)
  have HS9 : Hid (Sg W9 sb db B0 H max (some ⟨nb, no, none⟩) nc la lc hv) := Lib.hid (HS2.out.other (fun j cs t hj ht => hoth j (fun e => by subst e; rw [HRB.out] at hj; cases hj; revert ht; unfold SgT; decide)) (fun j hj => hoth j (fun e => by have := HRC.out; omega)))
  have HB9 : Hid (BelowX w.heap.size db w W9) := Lib.hid ⟨q1.trans (HWX.out.trans (bx_mono HX2.out HRC.out.2.2.1.1)).os, q2.trans (HWX.out.trans (bx_mono HX2.out HRC.out.2.2.1.1)).tape, q3.trans (HWX.out.trans (bx_mono HX2.out HRC.out.2.2.1.1)).output, by rw [hsz]; exact (HWX.out.trans (bx_mono HX2.out HRC.out.2.2.1.1)).size, fun j hj hx => (hoth j (fun e => by have := HRC.out; omega)).trans ((HWX.out.trans (bx_mono HX2.out HRC.out.2.2.1.1)).block j hj hx)⟩
  have hSE : W9.cell? ⟨sb, 0, none⟩ = some (.slice (some ⟨nb, no, none⟩) H.nodes.length nc) ∧ W9.cell? ⟨nb, no + to_ * 3, none⟩ = some (.int .i64 x) ∧ W9.cell? ⟨pb, 1, none⟩ = some (.int .i64 rh) ∧ W9.cell? ⟨pb, 2, none⟩ = some (.float .f64 rv) := by
    obtain ⟨s0, s1, s2, s3⟩ := HSS.out V2 HX2.out
    have hd := HNE.out
    exact ⟨(World.cell?_of_block (hoth sb hd.1)).trans s0, (World.cell?_of_block (hoth nb hd.2.1)).trans s1, (World.cell?_of_block (hoth pb hd.2.2)).trans s2, (World.cell?_of_block (hoth pb hd.2.2)).trans s3⟩
  have hW9e : (((((V2.setCell ⟨rc, 0, none⟩ (.int .i64 x)).setCell ⟨rc, 1, none⟩ (.int .i64 kd)).setCell ⟨rc, 2, none⟩ (.float .f64 d1)).setCell ⟨rc, 3, none⟩ (.int .i64 nx)).setCell ⟨rc, 4, none⟩ (.float .f64 rv)).setCell ⟨rc, 5, none⟩ (.int .i64 rh) = W9 := hW9.symm
  rw [hW9e]
  refine hK.out _ _ hSE (fun hH => ?_)
  clear hK K hc1 hc2 hc3 hoth q1 q2 q3 hsz hW9 hW9e f0 f1 f2 f3 f4 f5 z0 z1 z2 z3 z4 z5
  try simp only [Act.put, sqA, sqB, sqC, sqD, sqE, sqF]
  refine wpAnyH_done (by kernel_rfl) ?_ _
  go_wp2_with fail
  refine bodyPost_ret (results_cell Tryz.results36 _ W9 rc 0 [.int .i64 x, .int .i64 kd, .float .f64 d1, .int .i64 nx, .float .f64 rv, .int .i64 rh] _ rfl ?_ Tryz.underlying43 (by rfl) (by kernel_rfl)) rfl ?_
  · intro j v hj
    have hj6 : j < 6 := by have := (List.getElem?_eq_some_iff.1 hj).1; simpa using this
    rw [cell_of_row _ _ _ _ _ (0, 0) HC9.out.1, ← Array.getElem?_toList, HC9.out.2 (0 + j), if_pos (by simp; omega)]
    simpa using hj
  · refine ⟨?_, HS9.out, HB9.out⟩
    rfl
end Go.Proofs.YtjlfpjjfldbknaaGreat
