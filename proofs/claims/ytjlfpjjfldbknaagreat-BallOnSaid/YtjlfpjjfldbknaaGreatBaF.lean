/- Balls: a sight's table. -/
import Derived.Test.YtjlfpjjfldbknaaGreatBaE
namespace Go.Proofs.YtjlfpjjfldbknaaGreat
open Go.RowKit Go.Lib Go.Fq Go.Pq Go.Iq Go.Nq Go.Ow Go.Bq
set_option linter.unusedVariables false
set_option linter.unusedSimpArgs false
set_option maxRecDepth 100000

def enC (e : En) : List Value := [.int .i64 e.dest, .int .i64 e.kind, .float .f64 (dw e.dist), .int .i64 e.next, .float .f64 (dw e.radius), .int .i64 e.home]
def enRow (l : List En) : List Value := l.flatMap enC
theorem enC_one (e : En) : ∀ v ∈ enC e, v.oneCell' = true := by
  intro v hv
  unfold enC at hv
  simp only [List.mem_cons, List.not_mem_nil, or_false] at hv
  rcases hv with rfl | rfl | rfl | rfl | rfl | rfl <;> rfl
theorem enRow_one (l : List En) : ∀ v ∈ enRow l, v.oneCell' = true := by
  intro v hv
  obtain ⟨e, -, h⟩ := List.mem_flatMap.1 hv
  exact enC_one e v h
theorem enRow_app (l r : List En) : enRow (l ++ r) = enRow l ++ enRow r := by simp [enRow]
theorem enInfo : (Tryz.prog.info? 43).map (fun i => (i.zero, i.size, i.bytes)) = some (some (.agg #[.int .i64 0, .int .i64 0, .float .f64 0, .int .i64 0, .float .f64 0, .int .i64 0]), 6, 48) := by kernel_rfl
theorem Sg.own {w : World} {sb db B0 : Nat} {H : Gr} {max : Nat} {na : Option Addr} {nc : Nat} {la : Option Addr} {lc : Nat} {hv : Value} {w' : World} {base k n : Nat} {e : TypeId} {v : Value} {xs : List Value} (h : Sg w sb db B0 H max na nc la lc hv) (ho : Own w base e k v n xs) (hx : BelowX w.heap.size db w w') (he : e ≠ 90) : Own w' base e k v n xs :=
  ho.keep (fun j cur hj => hx.block j (Array.getElem?_eq_some_iff.1 hj).1 (fun e2 => by
    subst e2
    obtain ⟨vs, h1, -⟩ := h.rows
    rw [h1] at hj; cases hj; exact he rfl))
/-- Three rows of entries. -/
structure Tri (w : World) (ob : Nat) (v1 v2 v3 : Value) (l1 l2 l3 : List En) : Prop where
  o1 : Own w ob 43 6 v1 l1.length (enRow l1)
  o2 : Own w ob 43 6 v2 l2.length (enRow l2)
  o3 : Own w ob 43 6 v3 l3.length (enRow l3)
  a12 : Ap v1 v2
  a13 : Ap v1 v3
  a23 : Ap v2 v3
theorem Tri.bx {w : World} {sb db B0 : Nat} {H : Gr} {max : Nat} {na : Option Addr} {nc : Nat} {la : Option Addr} {lc : Nat} {hv : Value} {w' : World} {ob : Nat} {v1 v2 v3 : Value} {l1 l2 l3 : List En} (t : Tri w ob v1 v2 v3 l1 l2 l3) (h : Sg w sb db B0 H max na nc la lc hv) (hx : BelowX w.heap.size db w w') : Tri w' ob v1 v2 v3 l1 l2 l3 :=
  ⟨h.own t.o1 hx (by decide), h.own t.o2 hx (by decide), h.own t.o3 hx (by decide), t.a12, t.a13, t.a23⟩
theorem tri_add {w : World} {ob vb : Nat} {v : Value} {l : List En} {e : En} (ho : Own w ob 43 6 v l.length (enRow l)) (hb : ob ≤ w.heap.size) (hvb : w.heap[vb]? = some (.cells (enC e).toArray 43 (0, 0))) (hl : l.length ≤ 256) :
    ∃ v' w', (∀ ty, (Builtin.append_ #[27, 27] ty #[v, .slice (some ⟨vb, 0, none⟩) 1 1]).run Tryz.prog w = .ok v' w') ∧ Own w' ob 43 6 v' (l ++ [e]).length (enRow (l ++ [e])) ∧ (∀ q, Kq q v v' w w') := by
  obtain ⟨v', w', h1, h2, h3⟩ := own_app (P := Tryz.prog) (vb := vb) (vs := enC e) Tryz.underlying27 enInfo rfl ho hb hvb rfl (enC_one e) (by omega) (by omega)
  refine ⟨v', w', h1, ?_, h3⟩
  have e1 : enRow (l ++ [e]) = enRow l ++ enC e := by rw [enRow_app]; simp [enRow]
  rw [e1, List.length_append]; exact h2
theorem pick_is {H : Gr} {max : Nat} (h : BG H max) {at_ to_ : Nat} (hat : at_ < H.nodes.length) (hto : to_ < H.nodes.length) (k : Int) (hk : k ≠ 0) : pickI H (qn max) (idf H.nodes at_ : Int) k H.nodes[to_] = if kindP H (qn max) at_ to_ H.nodes[to_] = k then [enI H (qn max) (idf H.nodes at_ : Int) H.nodes[to_]] else [] := by
  unfold pickI kindP
  rw [h.up hto, h.id hto]
  by_cases e : at_ = to_
  · subst e
    rw [if_neg (by simp), if_pos rfl, if_neg (fun h => hk h.symm)]
  · rw [if_neg e]
    have hne : (idf H.nodes to_ : Int) ≠ (idf H.nodes at_ : Int) := fun e2 => e (idf_inj h.hz hat hto (by omega))
    by_cases e3 : kindI H (qn max) (idf H.nodes at_ : Int) H.nodes[to_] = k
    · rw [if_pos ⟨rfl, hne, e3⟩, if_pos e3]
    · rw [if_neg (fun h => e3 h.2.2), if_neg e3]
/-- Homes, for one that reads. -/
def HmIn (w : World) (H : Gr) (lim hg : Nat) : Prop := ∃ cur, w.heap[hg]? = some (.cells cur 50 (0, 0)) ∧ ∀ k, k < H.nodes.length → w.cell? ⟨hg, k * 3, none⟩ = some (.int .i64 (idf H.nodes k : Int)) ∧ w.cell? ⟨hg, k * 3 + 1, none⟩ = some (.int .i64 (homeI H lim (idf H.nodes k : Int)).1) ∧ w.cell? ⟨hg, k * 3 + 2, none⟩ = some (.float .f64 (dw (homeI H lim (idf H.nodes k : Int)).2))
theorem HmIn.kept {w w' : World} {H : Gr} {lim hg : Nat} (h : HmIn w H lim hg) (k : w'.heap[hg]? = w.heap[hg]?) : HmIn w' H lim hg := by
  obtain ⟨cur, h1, h2⟩ := h
  exact ⟨cur, k.trans h1, fun i hi => ⟨(World.cell?_of_block k).trans (h2 i hi).1, (World.cell?_of_block k).trans (h2 i hi).2.1, (World.cell?_of_block k).trans (h2 i hi).2.2⟩⟩
theorem hm_in {w : World} {base : Nat} {H : Gr} {lim : Nat} {v : Value} (ho : Own w base 50 3 v H.nodes.length (hmRow H lim H.nodes.length)) (hn : 0 < H.nodes.length) : ∃ hg c, v = .slice (some ⟨hg, 0, none⟩) H.nodes.length c ∧ base ≤ hg ∧ HmIn w H lim hg := by
  rcases ho with ⟨h0, -⟩ | ⟨g, cap, cur, rfl, hbg, hg, hnc, hcm, hcs, hx⟩
  · omega
  refine ⟨g, cap, rfl, hbg, cur, hg, fun k hk => ?_⟩
  have hl : ∀ i, (hmC H lim i).length = 3 := fun i => rfl
  have key : ∀ j x, j < 3 → (hmC H lim k)[j]? = some x → w.cell? ⟨g, k * 3 + j, none⟩ = some x := by
    intro j x hj hx2
    rw [cell_of_row w g _ cur _ (0, 0) hg, ← Array.getElem?_toList]
    have e1 : (cur.toList.take (H.nodes.length * 3))[k * 3 + j]? = cur.toList[k * 3 + j]? := by rw [List.getElem?_take, if_pos (by omega)]
    rw [← e1, hx]
    unfold hmRow
    have h3 := flat_get (hmC H lim) 3 hl (List.range H.nodes.length) k j (by simpa using hk) hj
    rw [h3]
    simpa using hx2
  exact ⟨key 0 _ (by omega) rfl, key 1 _ (by omega) rfl, key 2 _ (by omega) rfl⟩
set_option maxHeartbeats 32000000 in
theorem bTable_any (at_ hg hc : Nat) (w : World) (sb db B0 : Nat) (H : Gr) (max : Nat) (na : Option Addr) (nc : Nat) (la : Option Addr) (lc : Nat) (hv : Value) (h : Sg w sb db B0 H max na nc la lc hv) (hat : at_ < H.nodes.length) (hm : HmIn w H (qn max) hg) :
    Calls Tryz.prog 21 #[.pointer (some ⟨sb, 0, none⟩), .int .i64 (at_ : Int), .slice (some ⟨hg, 0, none⟩) H.nodes.length hc] w fun e w' => ∃ v, e = .returned v ∧ Own w' w.heap.size 43 6 v (tabI H (qn max) (idf H.nodes at_ : Int)).length (enRow (tabI H (qn max) (idf H.nodes at_ : Int))) ∧ Sg w' sb db B0 H max na nc la lc hv ∧ BelowX w.heap.size db w w' := by
  have hst := g_storeL
  have HSG := Lib.hid h
  have HBG := Lib.hid h.bg
  have HNL : Hid (H.nodes.length ≤ 256) := Lib.hid (check_zero.1 h.bg.hz).1
  have HLO : Hid (B0 ≤ w.heap.size) := Lib.hid (by have := h.low; have := h.sbs; omega)
  have HAT := Lib.hid hat
  have HM := Lib.hid hm
  have HHG : Hid (hg < w.heap.size ∧ hg ≠ db) := Lib.hid (by
    obtain ⟨cur, h1, -⟩ := hm
    refine ⟨(Array.getElem?_eq_some_iff.1 h1).1, fun e => ?_⟩
    subst e
    obtain ⟨vs, h2, -⟩ := h.rows
    rw [h2] at h1; cases h1)
  obtain ⟨ob, hob⟩ : ∃ ob, ob = w.heap.size := ⟨_, rfl⟩
  have HOB := Lib.hid hob
  clear h hat hm
  go_enter Tryz.func21, Tryz.ntmps21
  rw [← hob]
  clear hob
  go_wp2_with fail
  go_loopw [14, 7, 8, 9] (fun i v1 v2 v3 wr => ∃ k : Nat, i = .int .i64 (k : Int) ∧ k ≤ H.nodes.length ∧ Tri wr ob v1 v2 v3 (tabK H (qn max) (idf H.nodes at_ : Int) 1 k) (tabK H (qn max) (idf H.nodes at_ : Int) 2 k) (tabK H (qn max) (idf H.nodes at_ : Int) 3 k) ∧ Sg wr sb db B0 H max na nc la lc hv ∧ BelowX ob db w wr) (fun i _ _ _ _ => H.nodes.length - (RowKit.intOf i).toNat)
  case atStart => exact ⟨0, rfl, Nat.zero_le _, ⟨Or.inl ⟨rfl, rfl, none, rfl⟩, Or.inl ⟨rfl, rfl, none, rfl⟩, Or.inl ⟨rfl, rfl, none, rfl⟩, (fun g n c n' c' e => by cases e), (fun g n c n' c' e => by cases e), (fun g n c n' c' e => by cases e)⟩, HSG.out, BelowX.refl _ _ _⟩
  case round =>
    obtain ⟨k, rfl, hk, ht, hsg, hbx⟩ := hrel
    obtain ⟨wo, hwo⟩ : ∃ wo, wo = wr := ⟨_, rfl⟩
    subst hwo
    have HSW := Lib.hid hsg
    have HXW := Lib.hid hbx
    have HTW := Lib.hid ht
    obtain ⟨a1, c1, rfl⟩ := ht.o1.slice
    obtain ⟨a2, c2, rfl⟩ := ht.o2.slice
    obtain ⟨a3, c3, rfl⟩ := ht.o3.slice
    by_cases hlt : k < H.nodes.length
    · have hlti : (k : Int) < (H.nodes.length : Int) := by omega
      have hk0 : (0 : Int) ≤ (k : Int) := by omega
      have hkw : IntKind.i64.wrap ((k : Int) + 1) = (k : Int) + 1 := by rw [IntKind.wrap_i64]; have := HNL.out; omega
      have HK1 : Hid (k + 1 ≤ H.nodes.length ∧ H.nodes.length - (k + 1) < H.nodes.length - k ∧ ((k : Int) + 1).toNat = k + 1 ∧ (k : Int) + 1 = ((k + 1 : Nat) : Int)) := Lib.hid ⟨by omega, by omega, by omega, by omega⟩
      obtain ⟨cur, -, hcl⟩ := HM.out.kept (hbx.block hg (by have := HHG.out; have := HOB.out; omega) HHG.out.2)
      obtain ⟨m0, m1, m2⟩ := hcl k hlt
      have HG1 := Lib.hid (tabK_go H (qn max) (idf H.nodes at_ : Int) 1 hlt)
      have HG2 := Lib.hid (tabK_go H (qn max) (idf H.nodes at_ : Int) 2 hlt)
      have HG3 := Lib.hid (tabK_go H (qn max) (idf H.nodes at_ : Int) 3 hlt)
      rw [pick_is HBG.out HAT.out hlt _ (by decide)] at HG1 HG2 HG3
      have HL1 := Lib.hid (tabK_len H (qn max) (idf H.nodes at_ : Int) 1 k)
      have HL2 := Lib.hid (tabK_len H (qn max) (idf H.nodes at_ : Int) 2 k)
      have HL3 := Lib.hid (tabK_len H (qn max) (idf H.nodes at_ : Int) 3 k)
      have HKI := Lib.hid (fun V (hV : Sg V sb db B0 H max na nc la lc hv) => bKind_any at_ k V sb db B0 H max na nc la lc hv hV HAT.out hlt)
      have HEN := Lib.hid (fun (kd hx rh : Int) (rv : Nat) V (hV : Sg V sb db B0 H max na nc la lc hv) => bEntry_any at_ k kd hx rh rv V sb db B0 H max na nc la lc hv hV HAT.out hlt)
      have HKC : Hid (kindP H (qn max) at_ k H.nodes[k] = 0 ∨ (kindP H (qn max) at_ k H.nodes[k] = 1 ∧ enI H (qn max) (idf H.nodes at_ : Int) H.nodes[k] = ⟨(idf H.nodes k : Int), 1, g_ (dst H (qn max) k) at_, nextI H (qn max) (idf H.nodes at_ : Int) (idf H.nodes k : Int), some 0, 0⟩) ∨ (kindP H (qn max) at_ k H.nodes[k] = 2 ∧ enI H (qn max) (idf H.nodes at_ : Int) H.nodes[k] = ⟨(idf H.nodes k : Int), 2, g_ (dst H (qn max) k) at_, nextI H (qn max) (idf H.nodes at_ : Int) (idf H.nodes k : Int), (homeI H (qn max) (idf H.nodes k : Int)).2, (homeI H (qn max) (idf H.nodes k : Int)).1⟩) ∨ (kindP H (qn max) at_ k H.nodes[k] = 3 ∧ enI H (qn max) (idf H.nodes at_ : Int) H.nodes[k] = ⟨(idf H.nodes k : Int), 3, g_ (dst H (qn max) k) at_, nextI H (qn max) (idf H.nodes at_ : Int) (idf H.nodes k : Int), (homeI H (qn max) (idf H.nodes k : Int)).2, (homeI H (qn max) (idf H.nodes k : Int)).1⟩)) := Lib.hid (by
        unfold kindP
        by_cases e : at_ = k
        · exact Or.inl (by rw [if_pos e])
        · rw [if_neg e]
          rcases kind_cases H (qn max) (idf H.nodes at_ : Int) H.nodes[k] with c | ⟨c, m⟩ | ⟨c, m⟩ | ⟨c, m⟩
          · exact Or.inl c
          · refine Or.inr (Or.inl ⟨c, ?_⟩)
            unfold enI
            rw [if_pos m, c, HBG.out.id hlt, dI_at HBG.out.hz (qn max) HAT.out hlt]
          · refine Or.inr (Or.inr (Or.inl ⟨c, ?_⟩))
            unfold enI
            rw [if_neg (by rw [m]; decide), c, HBG.out.id hlt, dI_at HBG.out.hz (qn max) HAT.out hlt]
          · refine Or.inr (Or.inr (Or.inr ⟨c, ?_⟩))
            unfold enI
            rw [if_neg (by rw [m]; decide), c, HBG.out.id hlt, dI_at HBG.out.hz (qn max) HAT.out hlt])
      clear ht hsg hbx hcl
      obtain ⟨kv, hkv⟩ : ∃ kv, kv = kindP H (qn max) at_ k H.nodes[k] := ⟨_, rfl⟩
      rw [← hkv] at HG1 HG2 HG3 HKI HKC
      obtain ⟨E, hE⟩ : ∃ E, E = enI H (qn max) (idf H.nodes at_ : Int) H.nodes[k] := ⟨_, rfl⟩
      rw [← hE] at HG1 HG2 HG3 HKC
      clear hkv hE hlt hk
      obtain ⟨x, hx⟩ : ∃ x, x = (idf H.nodes k : Int) := ⟨_, rfl⟩
      obtain ⟨nx, hnx⟩ : ∃ nx, nx = nextI H (qn max) (idf H.nodes at_ : Int) (idf H.nodes k : Int) := ⟨_, rfl⟩
      rw [← hnx] at HKC HEN
      rw [← hx] at HKC HEN HKI m0 m1 m2
      obtain ⟨r, hr⟩ : ∃ r, r = homeI H (qn max) x := ⟨_, rfl⟩
      rw [← hr] at HKC HKI m1 m2
      obtain ⟨rh, rr⟩ := r
      simp only at HKC HKI m1 m2
      obtain ⟨D, hD⟩ : ∃ D, D = g_ (dst H (qn max) k) at_ := ⟨_, rfl⟩
      rw [← hD] at HKC HEN
      obtain ⟨l1, hl1⟩ : ∃ l1, l1 = tabK H (qn max) (idf H.nodes at_ : Int) 1 k := ⟨_, rfl⟩
      obtain ⟨l2, hl2⟩ : ∃ l2, l2 = tabK H (qn max) (idf H.nodes at_ : Int) 2 k := ⟨_, rfl⟩
      obtain ⟨l3, hl3⟩ : ∃ l3, l3 = tabK H (qn max) (idf H.nodes at_ : Int) 3 k := ⟨_, rfl⟩
      rw [← hl1] at HG1 HL1 HTW ⊢
      rw [← hl2] at HG2 HL2 HTW ⊢
      rw [← hl3] at HG3 HL3 HTW ⊢
      clear hx hnx hr hD hl1 hl2 hl3
      have HLN : Hid (l1.length ≤ 256 ∧ l2.length ≤ 256 ∧ l3.length ≤ 256) := Lib.hid (by have := HL1.out; have := HL2.out; have := HL3.out; have := HK1.out.1; have := HNL.out; omega)
      clear HL1 HL2 HL3
      obtain ⟨W6, hW6⟩ : ∃ W6, W6 = wo.alloc (.cells #[.int .i64 x, .int .i64 rh, .float .f64 (dw rr)] 50) := ⟨_, rfl⟩
      have b6 : Below wo.heap.size wo W6 := by rw [hW6]; exact gAl _ _
      have r6 : W6.heap[wo.heap.size]? = some (.cells #[.int .i64 x, .int .i64 rh, .float .f64 (dw rr)] 50 (0, 0)) := by rw [hW6]; exact heap_alloc_new wo _
      have s6 : wo.heap.size < W6.heap.size := by rw [hW6]; simp
      obtain ⟨ll, hll⟩ : ∃ ll, ll = wo.heap.size := ⟨_, rfl⟩
      rw [← hll] at r6 s6
      obtain ⟨d2, hd2⟩ : ∃ d2, d2 = dw rr := ⟨_, rfl⟩
      have HD2 := Lib.hid hd2
      rw [← hd2] at hW6 r6 m2 HKI
      have HLL : Hid (∀ V : World, V.heap[ll]? = W6.heap[ll]? → V.cell? ⟨ll, 0, none⟩ = some (.int .i64 x) ∧ V.cell? ⟨ll, 1, none⟩ = some (.int .i64 rh) ∧ V.cell? ⟨ll, 2, none⟩ = some (.float .f64 d2)) := Lib.hid (fun V hV => by
        have h := hV.trans r6
        exact ⟨by rw [cell_of_row V _ 0 _ _ (0, 0) h]; rfl, by rw [cell_of_row V _ 1 _ _ (0, 0) h]; rfl, by rw [cell_of_row V _ 2 _ _ (0, 0) h]; rfl⟩)
      have HLN2 : Hid (ll < W6.heap.size ∧ ll ≠ db) := Lib.hid ⟨s6, by have := HSW.out.dbs; omega⟩
      have HS6 := Lib.hid (HSW.out.below b6)
      have HT6 := Lib.hid (HTW.out.bx HSW.out (BelowX.of_below b6))
      have HX6 : Hid (BelowX ob db w W6 ∧ ob ≤ W6.heap.size) := Lib.hid (by
        have h1 : ob ≤ wo.heap.size := by have := HOB.out; have := HXW.out.size; omega
        exact ⟨HXW.out.shut h1 b6, Nat.le_trans h1 b6.size⟩)
      clear hd2 b6 s6
      go_upto_region 5 with (fail)
      rw [← hW6, ← hll]
      clear hW6 hll r6 m0 m1 m2
      obtain ⟨y0, y1, y2⟩ := HLL.out W6 rfl
      go_wp2_with fail
      refine (HKI.out W6 HS6.out).mono ?_
      rintro e W7 ⟨rfl, hs7, hx7⟩
      have HS7 := Lib.hid hs7
      have HT7 := Lib.hid (HT6.out.bx HS6.out hx7)
      have HX7 : Hid (BelowX ob db w W7 ∧ ob ≤ W7.heap.size) := Lib.hid ⟨HX6.out.1.trans (bx_mono hx7 HX6.out.2), Nat.le_trans HX6.out.2 hx7.size⟩
      have HE7 : Hid (W7.heap[ll]? = W6.heap[ll]?) := Lib.hid (hx7.block ll HLN2.out.1 HLN2.out.2)
      clear hs7 hx7 y0 y1 y2
      obtain ⟨y0, y1, y2⟩ := HLL.out W7 HE7.out
      rcases HKC.out with hkc | ⟨hkc, hEe⟩ | ⟨hkc, hEe⟩ | ⟨hkc, hEe⟩
      · subst hkc
        have H1 : Hid (tabK H (qn max) (idf H.nodes at_ : Int) 1 (k + 1) = l1) := Lib.hid (by rw [HG1.out, if_neg (by decide), List.append_nil])
        have H2 : Hid (tabK H (qn max) (idf H.nodes at_ : Int) 2 (k + 1) = l2) := Lib.hid (by rw [HG2.out, if_neg (by decide), List.append_nil])
        have H3 : Hid (tabK H (qn max) (idf H.nodes at_ : Int) 3 (k + 1) = l3) := Lib.hid (by rw [HG3.out, if_neg (by decide), List.append_nil])
        clear HG1 HG2 HG3 HKC HKI HEN
        go_wp2_with fail
        refine ⟨⟨k + 1, congrArg (Value.int .i64) HK1.out.2.2.2, HK1.out.1, by rw [H1.out, H2.out, H3.out]; exact HT7.out, HS7.out, HX7.out.1⟩, ?_⟩
        show H.nodes.length - ((k : Int) + 1).toNat < H.nodes.length - (k : Int).toNat
        rw [HK1.out.2.2.1]
        exact HK1.out.2.1
      · subst hkc
        have H1 : Hid (tabK H (qn max) (idf H.nodes at_ : Int) 1 (k + 1) = l1 ++ [E]) := Lib.hid (by rw [HG1.out, if_pos rfl])
        have H2 : Hid (tabK H (qn max) (idf H.nodes at_ : Int) 2 (k + 1) = l2) := Lib.hid (by rw [HG2.out, if_neg (by decide), List.append_nil])
        have H3 : Hid (tabK H (qn max) (idf H.nodes at_ : Int) 3 (k + 1) = l3) := Lib.hid (by rw [HG3.out, if_neg (by decide), List.append_nil])
        have HEC : Hid (enC E = [.int .i64 x, .int .i64 1, .float .f64 (dw D), .int .i64 nx, .float .f64 0, .int .i64 0]) := Lib.hid (by rw [hEe]; unfold enC; simp only [HD2.out, dw, ← zero_qw])
        have HEN2 := Lib.hid (HEN.out 1 0 0 0 W7 HS7.out)
        clear HG1 HG2 HG3 HKC HKI HEN hEe
        go_wp2_with fail
        refine HEN2.out.mono ?_
        rintro e W8 ⟨rfl, hs8, hx8⟩
        have HS8 := Lib.hid hs8
        have ht8 := HT7.out.bx HS7.out hx8
        have hx8b : BelowX ob db w W8 ∧ ob ≤ W8.heap.size := ⟨HX7.out.1.trans (bx_mono hx8 HX7.out.2), Nat.le_trans HX7.out.2 hx8.size⟩
        obtain ⟨W9, hW9⟩ : ∃ W9, W9 = W8.alloc (.cells #[.int .i64 x, .int .i64 1, .float .f64 (dw D), .int .i64 nx, .float .f64 0, .int .i64 0] 43) := ⟨_, rfl⟩
        have b9 : Below W8.heap.size W8 W9 := by rw [hW9]; exact gAl _ _
        have r9 : W9.heap[W8.heap.size]? = some (.cells (enC E).toArray 43 (0, 0)) := by rw [hW9, HEC.out]; exact heap_alloc_new W8 _
        have HT8 := Lib.hid (ht8.bx hs8 (BelowX.of_below b9))
        have hob9 : ob ≤ W9.heap.size := Nat.le_trans hx8b.2 b9.size
        obtain ⟨v5, W5, hrun, hrow, hkq⟩ := tri_add (e := E) HT8.out.o1 hob9 r9 HLN.out.1
        have HT5 : Hid (Tri W5 ob v5 (.slice a2 l2.length c2) (.slice a3 l3.length c3) (l1 ++ [E]) l2 l3) := Lib.hid ⟨hrow, (own_stays HT8.out.o2 HT8.out.o1 HT8.out.a12 hkq).1, (own_stays HT8.out.o3 HT8.out.o1 HT8.out.a13 hkq).1, (own_stays HT8.out.o2 HT8.out.o1 HT8.out.a12 hkq).2, (own_stays HT8.out.o3 HT8.out.o1 HT8.out.a13 hkq).2, HT8.out.a23⟩
        have HS5 := Lib.hid ((hs8.below b9).kq HT8.out.o1 hkq (by unfold SgT; decide) (by have := HLO.out; have := HOB.out; omega))
        have HX5 : Hid (BelowX ob db w W5) := Lib.hid ((hx8b.1.shut hx8b.2 b9).trans (BelowX.of_below (Kq.below2 hkq HT8.out.o1 hob9)))
        obtain ⟨a5, c5, rfl⟩ := hrow.slice
        rw [show (l1 ++ [E]).length = l1.length + 1 from List.length_append] at HT5 hrun
        rw [hW9] at hrun
        have HR := Lib.hid hrun
        clear hrun hrow hkq b9 r9 hs8 hx8 ht8 hx8b hob9 hW9 HT8
        go_wp2_with (at_builtin; refine Lib.wpList_append_run _ rfl _ _ _ _ rfl _ _ rfl rfl _ _ (HR.out _) ?_)
        refine ⟨⟨k + 1, congrArg (Value.int .i64) HK1.out.2.2.2, HK1.out.1, by rw [H1.out, H2.out, H3.out]; exact HT5.out, HS5.out, HX5.out⟩, ?_⟩
        show H.nodes.length - ((k : Int) + 1).toNat < H.nodes.length - (k : Int).toNat
        rw [HK1.out.2.2.1]
        exact HK1.out.2.1
      · subst hkc
        have H1 : Hid (tabK H (qn max) (idf H.nodes at_ : Int) 1 (k + 1) = l1) := Lib.hid (by rw [HG1.out, if_neg (by decide), List.append_nil])
        have H2 : Hid (tabK H (qn max) (idf H.nodes at_ : Int) 2 (k + 1) = l2 ++ [E]) := Lib.hid (by rw [HG2.out, if_pos rfl])
        have H3 : Hid (tabK H (qn max) (idf H.nodes at_ : Int) 3 (k + 1) = l3) := Lib.hid (by rw [HG3.out, if_neg (by decide), List.append_nil])
        have HEC : Hid (enC E = [.int .i64 x, .int .i64 2, .float .f64 (dw D), .int .i64 nx, .float .f64 d2, .int .i64 rh]) := Lib.hid (by rw [hEe]; unfold enC; simp only [HD2.out])
        have HEN2 := Lib.hid (HEN.out 2 x rh d2 W7 HS7.out)
        clear HG1 HG2 HG3 HKC HKI HEN hEe
        go_wp2_with fail
        refine HEN2.out.mono ?_
        rintro e W8 ⟨rfl, hs8, hx8⟩
        have HS8 := Lib.hid hs8
        have ht8 := HT7.out.bx HS7.out hx8
        have hx8b : BelowX ob db w W8 ∧ ob ≤ W8.heap.size := ⟨HX7.out.1.trans (bx_mono hx8 HX7.out.2), Nat.le_trans HX7.out.2 hx8.size⟩
        obtain ⟨W9, hW9⟩ : ∃ W9, W9 = W8.alloc (.cells #[.int .i64 x, .int .i64 2, .float .f64 (dw D), .int .i64 nx, .float .f64 d2, .int .i64 rh] 43) := ⟨_, rfl⟩
        have b9 : Below W8.heap.size W8 W9 := by rw [hW9]; exact gAl _ _
        have r9 : W9.heap[W8.heap.size]? = some (.cells (enC E).toArray 43 (0, 0)) := by rw [hW9, HEC.out]; exact heap_alloc_new W8 _
        have HT8 := Lib.hid (ht8.bx hs8 (BelowX.of_below b9))
        have hob9 : ob ≤ W9.heap.size := Nat.le_trans hx8b.2 b9.size
        obtain ⟨v5, W5, hrun, hrow, hkq⟩ := tri_add (e := E) HT8.out.o2 hob9 r9 HLN.out.2.1
        have HT5 : Hid (Tri W5 ob (.slice a1 l1.length c1) v5 (.slice a3 l3.length c3) l1 (l2 ++ [E]) l3) := Lib.hid ⟨(own_stays HT8.out.o1 HT8.out.o2 HT8.out.a12.symm hkq).1, hrow, (own_stays HT8.out.o3 HT8.out.o2 HT8.out.a23 hkq).1, ((own_stays HT8.out.o1 HT8.out.o2 HT8.out.a12.symm hkq).2).symm, HT8.out.a13, (own_stays HT8.out.o3 HT8.out.o2 HT8.out.a23 hkq).2⟩
        have HS5 := Lib.hid ((hs8.below b9).kq HT8.out.o2 hkq (by unfold SgT; decide) (by have := HLO.out; have := HOB.out; omega))
        have HX5 : Hid (BelowX ob db w W5) := Lib.hid ((hx8b.1.shut hx8b.2 b9).trans (BelowX.of_below (Kq.below2 hkq HT8.out.o2 hob9)))
        obtain ⟨a5, c5, rfl⟩ := hrow.slice
        rw [show (l2 ++ [E]).length = l2.length + 1 from List.length_append] at HT5 hrun
        rw [hW9] at hrun
        have HR := Lib.hid hrun
        clear hrun hrow hkq b9 r9 hs8 hx8 ht8 hx8b hob9 hW9 HT8
        go_wp2_with (at_builtin; refine Lib.wpList_append_run _ rfl _ _ _ _ rfl _ _ rfl rfl _ _ (HR.out _) ?_)
        refine ⟨⟨k + 1, congrArg (Value.int .i64) HK1.out.2.2.2, HK1.out.1, by rw [H1.out, H2.out, H3.out]; exact HT5.out, HS5.out, HX5.out⟩, ?_⟩
        show H.nodes.length - ((k : Int) + 1).toNat < H.nodes.length - (k : Int).toNat
        rw [HK1.out.2.2.1]
        exact HK1.out.2.1
      · subst hkc
        have H1 : Hid (tabK H (qn max) (idf H.nodes at_ : Int) 1 (k + 1) = l1) := Lib.hid (by rw [HG1.out, if_neg (by decide), List.append_nil])
        have H2 : Hid (tabK H (qn max) (idf H.nodes at_ : Int) 2 (k + 1) = l2) := Lib.hid (by rw [HG2.out, if_neg (by decide), List.append_nil])
        have H3 : Hid (tabK H (qn max) (idf H.nodes at_ : Int) 3 (k + 1) = l3 ++ [E]) := Lib.hid (by rw [HG3.out, if_pos rfl])
        have HEC : Hid (enC E = [.int .i64 x, .int .i64 3, .float .f64 (dw D), .int .i64 nx, .float .f64 d2, .int .i64 rh]) := Lib.hid (by rw [hEe]; unfold enC; simp only [HD2.out])
        have HEN2 := Lib.hid (HEN.out 3 x rh d2 W7 HS7.out)
        clear HG1 HG2 HG3 HKC HKI HEN hEe
        go_wp2_with fail
        refine HEN2.out.mono ?_
        rintro e W8 ⟨rfl, hs8, hx8⟩
        have HS8 := Lib.hid hs8
        have ht8 := HT7.out.bx HS7.out hx8
        have hx8b : BelowX ob db w W8 ∧ ob ≤ W8.heap.size := ⟨HX7.out.1.trans (bx_mono hx8 HX7.out.2), Nat.le_trans HX7.out.2 hx8.size⟩
        obtain ⟨W9, hW9⟩ : ∃ W9, W9 = W8.alloc (.cells #[.int .i64 x, .int .i64 3, .float .f64 (dw D), .int .i64 nx, .float .f64 d2, .int .i64 rh] 43) := ⟨_, rfl⟩
        have b9 : Below W8.heap.size W8 W9 := by rw [hW9]; exact gAl _ _
        have r9 : W9.heap[W8.heap.size]? = some (.cells (enC E).toArray 43 (0, 0)) := by rw [hW9, HEC.out]; exact heap_alloc_new W8 _
        have HT8 := Lib.hid (ht8.bx hs8 (BelowX.of_below b9))
        have hob9 : ob ≤ W9.heap.size := Nat.le_trans hx8b.2 b9.size
        obtain ⟨v5, W5, hrun, hrow, hkq⟩ := tri_add (e := E) HT8.out.o3 hob9 r9 HLN.out.2.2
        have HT5 : Hid (Tri W5 ob (.slice a1 l1.length c1) (.slice a2 l2.length c2) v5 l1 l2 (l3 ++ [E])) := Lib.hid ⟨(own_stays HT8.out.o1 HT8.out.o3 HT8.out.a13.symm hkq).1, (own_stays HT8.out.o2 HT8.out.o3 HT8.out.a23.symm hkq).1, hrow, HT8.out.a12, ((own_stays HT8.out.o1 HT8.out.o3 HT8.out.a13.symm hkq).2).symm, ((own_stays HT8.out.o2 HT8.out.o3 HT8.out.a23.symm hkq).2).symm⟩
        have HS5 := Lib.hid ((hs8.below b9).kq HT8.out.o3 hkq (by unfold SgT; decide) (by have := HLO.out; have := HOB.out; omega))
        have HX5 : Hid (BelowX ob db w W5) := Lib.hid ((hx8b.1.shut hx8b.2 b9).trans (BelowX.of_below (Kq.below2 hkq HT8.out.o3 hob9)))
        obtain ⟨a5, c5, rfl⟩ := hrow.slice
        rw [show (l3 ++ [E]).length = l3.length + 1 from List.length_append] at HT5 hrun
        rw [hW9] at hrun
        have HR := Lib.hid hrun
        clear hrun hrow hkq b9 r9 hs8 hx8 ht8 hx8b hob9 hW9 HT8
        go_wp2_with (at_builtin; refine Lib.wpList_append_run _ rfl _ _ _ _ rfl _ _ rfl rfl _ _ (HR.out _) ?_)
        refine ⟨⟨k + 1, congrArg (Value.int .i64) HK1.out.2.2.2, HK1.out.1, by rw [H1.out, H2.out, H3.out]; exact HT5.out, HS5.out, HX5.out⟩, ?_⟩
        show H.nodes.length - ((k : Int) + 1).toNat < H.nodes.length - (k : Int).toNat
        rw [HK1.out.2.2.1]
        exact HK1.out.2.1
    · have hnk : ¬ (k : Int) < (H.nodes.length : Int) := by omega
      have hke : k = H.nodes.length := by omega
      subst hke
      have HL1 := Lib.hid (tabK_len H (qn max) (idf H.nodes at_ : Int) 1 H.nodes.length)
      have HL2 := Lib.hid (tabK_len H (qn max) (idf H.nodes at_ : Int) 2 H.nodes.length)
      have HL3 := Lib.hid (tabK_len H (qn max) (idf H.nodes at_ : Int) 3 H.nodes.length)
      have HTA : Hid (tabI H (qn max) (idf H.nodes at_ : Int) = tabK H (qn max) (idf H.nodes at_ : Int) 1 H.nodes.length ++ tabK H (qn max) (idf H.nodes at_ : Int) 2 H.nodes.length ++ tabK H (qn max) (idf H.nodes at_ : Int) 3 H.nodes.length) := Lib.hid rfl
      clear ht hsg hbx hlt hk
      generalize tabK H (qn max) (idf H.nodes at_ : Int) 1 H.nodes.length = l1 at *
      generalize tabK H (qn max) (idf H.nodes at_ : Int) 2 H.nodes.length = l2 at *
      generalize tabK H (qn max) (idf H.nodes at_ : Int) 3 H.nodes.length = l3 at *
      have hobw : ob ≤ wo.heap.size := by have := HOB.out; have := HXW.out.size; omega
      obtain ⟨v4, W4, hrun4, hrow4, hkq4⟩ := own_apps (P := Tryz.prog) Tryz.underlying27 enInfo rfl HTW.out.o1 hobw (own_src Tryz.underlying27 HTW.out.o2 (enRow_one l2)) (by have := HL1.out; have := HL2.out; have := HNL.out; omega) (by have := HL1.out; have := HL2.out; have := HNL.out; omega)
      have ho3 := (own_stays HTW.out.o3 HTW.out.o1 HTW.out.a13 hkq4).1
      obtain ⟨v5, W5, hrun5, hrow5, hkq5⟩ := own_apps (P := Tryz.prog) Tryz.underlying27 enInfo rfl hrow4 (Nat.le_trans hobw (hkq4 0).size) (own_src Tryz.underlying27 ho3 (enRow_one l3)) (by have := HL1.out; have := HL2.out; have := HL3.out; have := HNL.out; omega) (by have := HL1.out; have := HL2.out; have := HL3.out; have := HNL.out; omega)
      have HS4 := HSW.out.kq HTW.out.o1 hkq4 (by unfold SgT; decide) (by have := HLO.out; have := HOB.out; omega)
      have HS5 := Lib.hid (HS4.kq hrow4 hkq5 (by unfold SgT; decide) (by have := HLO.out; have := HOB.out; omega))
      have HX5 : Hid (BelowX ob db w W5) := Lib.hid ((HXW.out.trans (BelowX.of_below (Kq.below2 hkq4 HTW.out.o1 hobw))).trans (BelowX.of_below (Kq.below2 hkq5 hrow4 (Nat.le_trans hobw (hkq4 0).size))))
      have HO5 : Hid (Own W5 ob 43 6 v5 (l1 ++ l2 ++ l3).length (enRow (l1 ++ l2 ++ l3))) := Lib.hid (by rw [enRow_app, enRow_app, List.length_append, List.length_append]; exact hrow5)
      obtain ⟨a4, c4, rfl⟩ := hrow4.slice
      have HR4 := Lib.hid hrun4
      have HR5 := Lib.hid hrun5
      clear hrun4 hrun5 hrow4 hrow5 hkq4 hkq5 ho3 HS4 hobw
      go_wp2_with (at_builtin; first | (refine Lib.wpList_append_run _ rfl _ _ _ _ rfl _ _ rfl rfl _ _ (HR4.out _) ?_) | (refine Lib.wpList_append_run _ rfl _ _ _ _ rfl _ _ rfl rfl _ _ (HR5.out _) ?_))
      go_ret
      refine ⟨_, rfl, ?_, HS5.out, HX5.out⟩
      rw [HTA.out]; exact HO5.out
end Go.Proofs.YtjlfpjjfldbknaaGreat
