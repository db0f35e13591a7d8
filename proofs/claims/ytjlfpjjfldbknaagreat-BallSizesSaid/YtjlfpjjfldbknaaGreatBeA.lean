/- Balls: the document's dists. -/
import Derived.Test.YtjlfpjjfldbknaaGreatBdA
namespace Go.Proofs.YtjlfpjjfldbknaaGreat
open Go.RowKit Go.Lib Go.Fq Go.Pq Go.Iq Go.Nq Go.Ow Go.Bq
set_option linter.unusedVariables false
set_option linter.unusedSimpArgs false
set_option maxRecDepth 100000

def DsS (V : World) (gb : Nat) (na la : Option Addr) (nc n lc m b o k : Nat) (y : Int) : Prop := V.cell? ⟨gb, 0, none⟩ = some (.slice na n nc) ∧ V.cell? ⟨gb, 1, none⟩ = some (.slice la m lc) ∧ V.cell? ⟨b, o + k * 3, none⟩ = some (.int .i64 y)
/-- A row of distances in memory, by the type of its block. -/
def DsAt (w : World) (G : Gr) (lim i : Nat) (v : Value) : Prop := ∃ b c cs, v = .slice (some ⟨b, 0, none⟩) G.nodes.length c ∧ w.heap[b]? = some (.cells cs 26 (0, 0)) ∧ ∀ j, j < G.nodes.length → w.cell? ⟨b, j, none⟩ = some (.float .f64 (dw (g_ (dst G lim i) j)))
theorem DsAt.other {w w' : World} {G : Gr} {lim i : Nat} {v : Value} (h : DsAt w G lim i v) (k : ∀ (j : Nat) (cs : Array Value), w.heap[j]? = some (.cells cs 26 (0, 0)) → w'.heap[j]? = w.heap[j]?) : DsAt w' G lim i v := by
  obtain ⟨b, c, cs, h1, h2, h3⟩ := h
  have e := k b cs h2
  exact ⟨b, c, cs, h1, e.trans h2, fun j hj => (World.cell?_of_block e).trans (h3 j hj)⟩
theorem DsAt.below {w w' : World} {G : Gr} {lim i : Nat} {v : Value} (h : DsAt w G lim i v) (k : Below w.heap.size w w') : DsAt w' G lim i v := h.other (fun j cs hj => k.block j (Array.getElem?_eq_some_iff.1 hj).1)
/-- What an append leaves alone: blocks of another type. -/
theorem own_other {w w' : World} {v v' : Value} {base k n : Nat} {e t : TypeId} {xs : List Value} (ho : Own w base e k v n xs) (hk : ∀ q, Kq q v v' w w') (he : t ≠ e) : ∀ (j : Nat) (cs : Array Value), w.heap[j]? = some (.cells cs t (0, 0)) → w'.heap[j]? = w.heap[j]? := by
  intro j cs hj
  refine (hk (j + 1)).block j (Array.getElem?_eq_some_iff.1 hj).1 (by omega) (fun n' c' e2 => ?_)
  rcases ho with ⟨-, -, a, e3⟩ | ⟨g, cap, cur, e3, hb, hg, -⟩
  · rw [e3] at e2; cases e2; rfl
  · rw [e3] at e2
    simp only [Value.slice.injEq, Option.some.injEq, Addr.mk.injEq, and_true, true_and] at e2
    have e4 := e2.1
    subst e4
    rw [hj] at hg
    cases hg
    exact absurd rfl he
theorem dsInfo : (Tryz.prog.info? 90).map (fun i => (i.zero, i.size, i.bytes)) = some (some (.slice none 0 0), 1, 24) := by kernel_rfl
/-- Dists of a router of a graph that may be, with its block's type. -/
theorem rbDistsT_any (i max : Nat) (G : Gr) (na : Option Addr) (nc : Nat) (la : Option Addr) (lc : Nat) (w : World) (hin : GrIn w G na la) (hz : checkG G = 0) (hl : limitF max = 0) (hm : max < 2 ^ 64) (hi : i < G.nodes.length) :
    Calls Tryz.prog 42 #[.agg #[.slice na G.nodes.length nc, .slice la G.links.length lc], .float .f64 max, .int .i64 (idf G.nodes i : Int)] w fun e w' => ∃ b c, e = .returned (.tuple #[.slice (some ⟨b, 0, none⟩) G.nodes.length c, .int .i64 0]) ∧ DsAt w' G (qn max) i (.slice (some ⟨b, 0, none⟩) G.nodes.length c) ∧ Below w.heap.size w w' := by
  have n3 := (check_zero.1 hz).2.2.1
  obtain ⟨a1, a2⟩ := aheadOf n3 hi
  have hE : askE G max [(idf G.nodes i : Int)] = 0 := askE_ok hl hz (by simp [a1])
  have hp := rDists_any G na nc la lc max (idf G.nodes i : Int) w hin hm
  rw [hE, a2] at hp
  refine hp.mono ?_
  rintro e w' (⟨hne, -⟩ | ⟨-, l, v, rfl, ho, hdp, hb⟩)
  · exact absurd rfl hne
  have hll := dst_is hz hin.wts hdp
  subst hll
  obtain ⟨dg, dc, e2, hc⟩ := row_cells4 ho (dst_len hz hin.wts _ _) (by omega)
  rcases ho with ⟨h0, -⟩ | ⟨g, cap, cur, e3, hbg, hg, -⟩
  · omega
  · subst e2
    simp only [Value.slice.injEq, Option.some.injEq, Addr.mk.injEq, and_true, true_and] at e3
    obtain ⟨rfl, rfl⟩ := e3
    exact ⟨dg, dc, rfl, ⟨dg, dc, cur, rfl, hg, hc w' (Below.refl _ _)⟩, hb⟩
set_option maxHeartbeats 16000000 in
theorem rbAll_any (max : Nat) (G : Gr) (na : Option Addr) (nc : Nat) (la : Option Addr) (lc : Nat) (w : World) (hin : GrIn w G na la) (hm : max < 2 ^ 64) (hE : ballE G max = 0) :
    Calls Tryz.prog 26 #[.agg #[.slice na G.nodes.length nc, .slice la G.links.length lc], .float .f64 max] w fun e w' => ∃ v, e = .returned v ∧ ∃ rws, Own w' w.heap.size 90 1 v G.nodes.length rws ∧ (∀ j, j < G.nodes.length → ∃ x, rws[j]? = some x ∧ DsAt w' G (qn max) j x) ∧ Below w.heap.size w w' := by
  obtain ⟨hz, hl⟩ := ballE_zero.1 hE
  obtain ⟨W1, hW1⟩ : ∃ W1, W1 = w.alloc (.cells #[.slice na G.nodes.length nc, .slice la G.links.length lc] 25) := ⟨_, rfl⟩
  have b1 : Below w.heap.size w W1 := by rw [hW1]; exact gAl _ _
  have s1 : w.heap.size < W1.heap.size := by rw [hW1]; simp
  have r1 : W1.heap[w.heap.size]? = some (.cells #[.slice na G.nodes.length nc, .slice la G.links.length lc] 25 (0, 0)) := by rw [hW1]; exact heap_alloc_new w _
  obtain ⟨gb, hgb⟩ : ∃ gb, gb = w.heap.size := ⟨_, rfl⟩
  rw [← hgb] at r1 s1
  have HKG : Hid (∀ V, Below W1.heap.size W1 V → V.cell? ⟨gb, 0, none⟩ = some (.slice na G.nodes.length nc) ∧ V.cell? ⟨gb, 1, none⟩ = some (.slice la G.links.length lc)) := Lib.hid (fun V hV => by
    have := two_cells ((hV.block _ s1).trans r1)
    exact ⟨this.1, this.2.1⟩)
  have HB1 := Lib.hid b1
  have HIN : Hid (∀ V, Below W1.heap.size W1 V → GrIn V G na la) := Lib.hid (fun V hV => (hin.below b1).below hV)
  have HZ := Lib.hid hz
  have HL := Lib.hid hl
  have HMX := Lib.hid hm
  have HNL : Hid (G.nodes.length ≤ 256) := Lib.hid (check_zero.1 hz).1
  have HID : Hid (∀ k (hk : k < G.nodes.length), G.nodes[k].id = (idf G.nodes k : Int)) := Lib.hid (fun k hk => (idf_is (check_zero.1 hz).2.2.1 hk).1)
  have HWS : Hid (W1 = w.alloc (.cells #[.slice na G.nodes.length nc, .slice la G.links.length lc] 25) ∧ w.heap.size = gb) := Lib.hid ⟨hW1, hgb.symm⟩
  obtain ⟨g0, g1⟩ := HKG.out W1 (Below.refl _ _)
  clear hin b1 s1 r1 hm hW1 hgb hz hl hE
  go_enter Tryz.func26, Tryz.ntmps26
  go_upto_region 1 with (fail)
  rw [← HWS.out.1]
  clear g0 g1
  go_wp2_with fail
  go_loopw [6, 5] (fun i v wr => ∃ (k : Nat) (rws : List Value), i = .int .i64 (k : Int) ∧ k ≤ G.nodes.length ∧ rws.length = k ∧ Own wr W1.heap.size 90 1 v k rws ∧ (∀ j, j < k → ∃ x, rws[j]? = some x ∧ DsAt wr G (qn max) j x) ∧ Below W1.heap.size W1 wr) (fun i _ _ => G.nodes.length - (RowKit.intOf i).toNat)
  case atStart => exact ⟨0, [], rfl, Nat.zero_le _, rfl, Or.inl ⟨rfl, rfl, _, rfl⟩, fun j hj => absurd hj (by omega), gAl _ _⟩
  case round =>
    obtain ⟨k, rws, rfl, hk, hln, ho, hrs, hbx⟩ := hrel
    obtain ⟨wo, hwo⟩ : ∃ wo, wo = wr := ⟨_, rfl⟩
    subst hwo
    have HOW := Lib.hid ho
    have HXW := Lib.hid hbx
    have HLN := Lib.hid hln
    have HRS := Lib.hid hrs
    obtain ⟨al, cl, rfl⟩ := ho.slice
    obtain ⟨g0, g1⟩ := HKG.out wo hbx
    rw [HWS.out.2]
    by_cases hlt : k < G.nodes.length
    · have hlti : (k : Int) < (G.nodes.length : Int) := by omega
      have hk0 : (0 : Int) ≤ (k : Int) := by omega
      have hkw : IntKind.i64.wrap ((k : Int) + 1) = (k : Int) + 1 := by rw [IntKind.wrap_i64]; have := HNL.out; omega
      have HK1 : Hid (k + 1 ≤ G.nodes.length ∧ G.nodes.length - (k + 1) < G.nodes.length - k ∧ ((k : Int) + 1).toNat = k + 1 ∧ (k : Int) + 1 = ((k + 1 : Nat) : Int)) := Lib.hid ⟨by omega, by omega, by omega, by omega⟩
      obtain ⟨b, o, hna, hbb, hnc⟩ := (HIN.out W1 (Below.refl _ _)).nodes.at k hlt
      obtain ⟨n0, -, -⟩ := hnc k hlt
      rw [HID.out k hlt] at n0
      have HSS : Hid (∀ V, Below W1.heap.size W1 V → DsS V gb na la nc G.nodes.length lc G.links.length b o k (idf G.nodes k : Int)) := Lib.hid (fun V hV => ⟨(HKG.out V hV).1, (HKG.out V hV).2, (hV.cell (p := ⟨b, o + k * 3, none⟩) hbb).trans n0⟩)
      have HDS := Lib.hid (fun V (hV : Below W1.heap.size W1 V) => rbDistsT_any k max G na nc la lc V (HIN.out V hV) HZ.out HL.out HMX.out hlt)
      subst hna
      obtain ⟨y, hy⟩ : ∃ y, y = (idf G.nodes k : Int) := ⟨_, rfl⟩
      rw [← hy] at HSS HDS
      clear ho hbx hnc n0 hbb hk hln hrs hlt hy
      go_upto_region 5 with (fail)
      clear g0 g1
      refine wp_region_held_drew (S := fun V => DsS V gb (some ⟨b, o, none⟩) la nc G.nodes.length lc G.links.length b o k y) (by kernel_rfl) (HSS.out _ (Below.drew HXW.out)) (fun hH => ?_)
      have hs0 := HSS.out _ (Below.drew HXW.out)
      have C0 : Hid (Below W1.heap.size W1 wo.drew) := Lib.hid (Below.drew HXW.out)
      have D0 : Hid (Below wo.heap.size wo wo.drew) := Lib.hid (Below.drew (Below.refl _ _))
      generalize wo.drew = V0 at *
      refine tk 0 (by assumption) rfl (by kernel_rfl) (fun _ _ _ h => h) (fun V hV => by obtain ⟨hx0, hx1, hx2⟩ := hV; go_simp; try with_reducible rfl) ?_
      try simp only [Act.put, sqA, sqB, sqC, sqD, sqE, sqF]
      refine tk 1 (by assumption) rfl (by kernel_rfl) (fun _ _ _ h => h) (fun V hV => by go_simp; try with_reducible rfl) ?_
      try simp only [Act.put, sqA, sqB, sqC, sqD, sqE, sqF]
      refine tk 2 (by assumption) rfl (by kernel_rfl) (fun _ _ _ h => h) (fun V hV => by go_simp; try with_reducible rfl) ?_
      try simp only [Act.put, sqA, sqB, sqC, sqD, sqE, sqF]
      refine tk 3 (by assumption) rfl (by kernel_rfl) (fun _ _ _ h => h) (fun V hV => by obtain ⟨hx0, hx1, hx2⟩ := hV; go_simp; try with_reducible rfl) ?_
      try simp only [Act.put, sqA, sqB, sqC, sqD, sqE, sqF]
      refine tk 4 (by assumption) rfl (by kernel_rfl) (fun _ _ _ h => h) (fun V hV => by go_simp; try with_reducible rfl) ?_
      try simp only [Act.put, sqA, sqB, sqC, sqD, sqE, sqF]
      refine tk 5 (by assumption) rfl (by kernel_rfl) (fun _ _ _ h => h) (fun V hV => by go_simp; try with_reducible rfl) ?_
      try simp only [Act.put, sqA, sqB, sqC, sqD, sqE, sqF]
      refine tk 6 (by assumption) rfl (by kernel_rfl) (fun _ _ _ h => h) (fun V hV => by go_simp; try with_reducible rfl) ?_
      try simp only [Act.put, sqA, sqB, sqC, sqD, sqE, sqF]
      refine tk 7 (by assumption) rfl (by kernel_rfl) (fun _ _ _ h => h) (fun V hV => by obtain ⟨hx0, hx1, hx2⟩ := hV; go_simp; try with_reducible rfl) ?_
      try simp only [Act.put, sqA, sqB, sqC, sqD, sqE, sqF]
      refine wpAnyH_ready (rs := [8]) (by kernel_rfl) (by simp) ?_
      refine AllReadyH.cons (o := _) rfl (fun K hK => ?_) AllReadyH.nil
      go_simp
      refine (HDS.out V0 C0.out).mono ?_
      rintro e V1 ⟨dg, dc, rfl, hdt, hb1⟩
      have C1 : Hid (Below W1.heap.size W1 V1) := Lib.hid (gNx C0.out hb1)
      have D1 : Hid (Below wo.heap.size wo V1) := Lib.hid (gNx D0.out hb1)
      have HDT := Lib.hid hdt
      clear hb1 hdt
      go_wp2_with fail
      refine hK.out _ _ (HSS.out _ C1.out) (fun hH => ?_)
      clear hK K
      try simp only [Act.put, sqA, sqB, sqC, sqD, sqE, sqF]
      refine tk 9 (by assumption) rfl (by kernel_rfl) (fun _ _ _ h => h) (fun V hV => by go_simp; try with_reducible rfl) ?_
      try simp only [Act.put, sqA, sqB, sqC, sqD, sqE, sqF]
      refine tk 10 (by assumption) rfl (by kernel_rfl) (fun _ _ _ h => h) (fun V hV => by go_simp; try with_reducible rfl) ?_
      try simp only [Act.put, sqA, sqB, sqC, sqD, sqE, sqF]
      refine tk 11 (by assumption) rfl (by kernel_rfl) (fun _ _ _ h => h) (fun V hV => by go_simp; try with_reducible rfl) ?_
      try simp only [Act.put, sqA, sqB, sqC, sqD, sqE, sqF]
      refine tk 12 (by assumption) rfl (by kernel_rfl) (fun _ _ _ h => h) (fun V hV => by go_simp; try with_reducible rfl) ?_
      try simp only [Act.put, sqA, sqB, sqC, sqD, sqE, sqF]
      refine tk 13 (by assumption) rfl (by kernel_rfl) (fun _ _ _ h => h) (fun V hV => by go_simp; try with_reducible rfl) ?_
      try simp only [Act.put, sqA, sqB, sqC, sqD, sqE, sqF]
      refine wpAnyH_done (by kernel_rfl) ?_ _
      clear hs0
      obtain ⟨W8, hW8⟩ : ∃ W8, W8 = V1.alloc (.cells #[.slice (some ⟨dg, 0, none⟩) G.nodes.length dc] 90) := ⟨_, rfl⟩
      have b8 : Below V1.heap.size V1 W8 := by rw [hW8]; exact gAl _ _
      have r8 : W8.heap[V1.heap.size]? = some (.cells #[.slice (some ⟨dg, 0, none⟩) G.nodes.length dc] 90 (0, 0)) := by rw [hW8]; exact heap_alloc_new V1 _
      have ho8 := (HOW.out.below D1.out).below b8
      have hbase : W1.heap.size ≤ W8.heap.size := Nat.le_trans C1.out.size b8.size
      obtain ⟨v2, Wn, hrun, hrow, hkq⟩ := own_app (P := Tryz.prog) (vb := V1.heap.size) (vs := [.slice (some ⟨dg, 0, none⟩) G.nodes.length dc]) Tryz.underlying66 dsInfo rfl ho8 hbase r8 rfl (by intro v hv; simp only [List.mem_cons, List.not_mem_nil, or_false] at hv; subst hv; rfl) (by have := HK1.out.1; have := HNL.out; omega) (by have := HK1.out.1; have := HNL.out; omega)
      obtain ⟨va2, vc2, rfl⟩ := hrow.slice
      have hoth : ∀ (j : Nat) (cs : Array Value), W8.heap[j]? = some (.cells cs 26 (0, 0)) → Wn.heap[j]? = W8.heap[j]? := own_other ho8 hkq (by decide)
      have HRW : Hid (Own Wn W1.heap.size 90 1 (.slice va2 (k + 1) vc2) (k + 1) (rws ++ [.slice (some ⟨dg, 0, none⟩) G.nodes.length dc])) := Lib.hid hrow
      have HDN : Hid (∀ j, j < k + 1 → ∃ x, (rws ++ [.slice (some ⟨dg, 0, none⟩) G.nodes.length dc])[j]? = some x ∧ DsAt Wn G (qn max) j x) := Lib.hid (fun j hj => by
        have hln := HLN.out
        by_cases e : j = k
        · subst e
          refine ⟨.slice (some ⟨dg, 0, none⟩) G.nodes.length dc, by rw [List.getElem?_append_right (by omega), hln]; simp, ?_⟩
          exact (HDT.out.below b8).other hoth
        · obtain ⟨x, x1, x2⟩ := HRS.out j (by omega)
          refine ⟨x, by rw [List.getElem?_append_left (by omega)]; exact x1, ?_⟩
          exact ((x2.below D1.out).below b8).other hoth)
      have HBN : Hid (Below W1.heap.size W1 Wn) := Lib.hid ((gNx C1.out b8).trans (Kq.below2 hkq ho8 hbase))
      have HL2 : Hid ((rws ++ [Value.slice (some ⟨dg, 0, none⟩) G.nodes.length dc]).length = k + 1) := Lib.hid (by rw [List.length_append, HLN.out]; rfl)
      rw [hW8] at hrun
      have HR := Lib.hid hrun
      clear hrun hrow hkq hoth ho8 hbase b8 r8 hW8
      go_wp2_with (at_builtin; refine Lib.wpList_append_run _ rfl _ _ _ _ rfl _ _ rfl rfl _ _ (HR.out _) ?_)
      refine ⟨⟨k + 1, _, congrArg (Value.int .i64) HK1.out.2.2.2, HK1.out.1, HL2.out, HRW.out, HDN.out, HBN.out⟩, ?_⟩
      show G.nodes.length - ((k : Int) + 1).toNat < G.nodes.length - (k : Int).toNat
      rw [HK1.out.2.2.1]
      exact HK1.out.2.1
    · have hnk : ¬ (k : Int) < (G.nodes.length : Int) := by omega
      have hke : k = G.nodes.length := by omega
      subst hke
      have HO := Lib.hid (HOW.out.mono HB1.out.size)
      clear hlt ho hbx hk hln hrs
      go_wp2_with fail
      go_ret
      exact ⟨_, rfl, rws, HO.out, HRS.out, gNx HB1.out HXW.out⟩
end Go.Proofs.YtjlfpjjfldbknaaGreat
