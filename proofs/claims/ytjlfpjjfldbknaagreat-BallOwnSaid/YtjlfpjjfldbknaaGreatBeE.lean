/- Balls: the program's Tables and Sizes. Balls: the document's Tables; the law of sizes. -/
import Derived.Test.YtjlfpjjfldbknaaGreatBaH
import Derived.Test.YtjlfpjjfldbknaaGreatBeB
section
namespace Go.Proofs.YtjlfpjjfldbknaaGreat
open Go.RowKit Go.Lib Go.Fq Go.Pq Go.Iq Go.Nq Go.Ow Go.Bq
set_option linter.unusedVariables false
set_option linter.unusedSimpArgs false
set_option maxRecDepth 100000

theorem taInfo : (Tryz.prog.info? 27).map (fun i => (i.zero, i.size, i.bytes)) = some (some (.slice none 0 0), 1, 24) := by kernel_rfl
theorem make_tabs (n : Nat) (hn : n ≤ 1048576) (V : World) : (Instr.makeSlice 38 (.int .i64 (n : Int)) (.int .i64 (n : Int))).run Tryz.prog V = .ok (.slice (some ⟨V.heap.size, 0, none⟩) n n) (V.alloc (.cells (List.replicate n (.slice none 0 0)).toArray 27)) := by
  obtain ⟨i0, hi, hz0, hz1, hz2⟩ := info_parts taInfo
  have h := run_make (P := Tryz.prog) V 38 27 i0 _ Tryz.underlying38 hi hz0 .i64 .i64 (n : Int) (n : Int) (by omega) (by omega) (by rw [hz2]; omega) (by omega)
  rw [h, hz1]
  simp only [Int.toNat_natCast, Nat.mul_one, Value.cells]
  have e : madeCells #[Value.slice none 0 0] n = (List.replicate n (.slice none 0 0)).toArray := by
    rw [← toList_madeCells_one]
  rw [e]
theorem own_new0 (V : World) (z : Value) (t : TypeId) (n : Nat) (hn : n ≤ 1048576) : Own (V.alloc (.cells (Array.replicate n z) t)) V.heap.size t 1 (.slice (some ⟨V.heap.size, 0, none⟩) n n) n (List.replicate n z) :=
  Or.inr ⟨V.heap.size, n, _, rfl, Nat.le_refl _, heap_alloc_new V _, Nat.le_refl _, by unfold maxLen; omega, by simp, by rw [List.take_of_length_le (by simp)]; simp⟩
theorem fill_set (rws : List Value) (z v : Value) (n : Nat) (h : rws.length < n) : (rws ++ List.replicate (n - rws.length) z).set rws.length v = (rws ++ [v]) ++ List.replicate (n - (rws ++ [v]).length) z := by
  rw [List.set_append_right _ _ (Nat.le_refl _), Nat.sub_self]
  obtain ⟨m, hm⟩ : ∃ m, n - rws.length = m + 1 := ⟨n - rws.length - 1, by omega⟩
  rw [hm, List.replicate_succ, List.length_append, show n - (rws.length + [v].length) = m by simp; omega]
  simp
theorem fill_at (rws : List Value) (z : Value) (n : Nat) (h : rws.length < n) : (rws ++ List.replicate (n - rws.length) z)[rws.length]? = some z := by
  rw [List.getElem?_append_right (Nat.le_refl _), Nat.sub_self, List.getElem?_replicate, if_pos (by omega)]
/-- The table of each router that is up, the first k. -/
def TabsIn (w : World) (base : Nat) (H : Gr) (lim k : Nat) (rws : List Value) : Prop := rws.length = k ∧ ∀ j, j < k → ∃ x, rws[j]? = some x ∧ Own w base 43 6 x (tabI H lim (idf H.nodes j : Int)).length (enRow (tabI H lim (idf H.nodes j : Int)))
theorem TabsIn.keep {w w' : World} {base : Nat} {H : Gr} {lim k : Nat} {rws : List Value} (h : TabsIn w base H lim k rws) (hk : ∀ (j : Nat) (cur : Array Value), w.heap[j]? = some (Obj.cells cur 43 (0, 0)) → w'.heap[j]? = w.heap[j]?) : TabsIn w' base H lim k rws :=
  ⟨h.1, fun j hj => by obtain ⟨x, h1, h2⟩ := h.2 j hj; exact ⟨x, h1, h2.keep hk⟩⟩
theorem TabsIn.mono {w : World} {base b2 : Nat} {H : Gr} {lim k : Nat} {rws : List Value} (h : TabsIn w base H lim k rws) (hb : b2 ≤ base) : TabsIn w b2 H lim k rws :=
  ⟨h.1, fun j hj => by obtain ⟨x, h1, h2⟩ := h.2 j hj; exact ⟨x, h1, h2.mono hb⟩⟩
theorem TabsIn.add {w : World} {base : Nat} {H : Gr} {lim k : Nat} {rws : List Value} {v : Value} (h : TabsIn w base H lim k rws) (hv : Own w base 43 6 v (tabI H lim (idf H.nodes k : Int)).length (enRow (tabI H lim (idf H.nodes k : Int)))) : TabsIn w base H lim (k + 1) (rws ++ [v]) := by
  refine ⟨by rw [List.length_append, h.1]; rfl, fun j hj => ?_⟩
  by_cases e : j = k
  · subst e
    exact ⟨v, by rw [List.getElem?_append_right (by have := h.1; omega), h.1]; simp, hv⟩
  · obtain ⟨x, h1, h2⟩ := h.2 j (by omega)
    exact ⟨x, by rw [List.getElem?_append_left (by have := h.1; omega)]; exact h1, h2⟩
/-- What Tables tells. -/
def TabsEnds (w : World) (G : Gr) (max : Nat) (e : Ending) (w' : World) : Prop := Below w.heap.size w w' ∧
  ((ballE G max ≠ 0 ∧ e = .returned (.tuple #[.slice none 0 0, .int .i64 (ballE G max)])) ∨
   (ballE G max = 0 ∧ ∃ tb rws, e = .returned (.tuple #[.slice (some ⟨tb, 0, none⟩) (liveG G).nodes.length (liveG G).nodes.length, .int .i64 0]) ∧ Own w' w.heap.size 27 1 (.slice (some ⟨tb, 0, none⟩) (liveG G).nodes.length (liveG G).nodes.length) (liveG G).nodes.length rws ∧ TabsIn w' w.heap.size (liveG G) (qn max) (liveG G).nodes.length rws))
set_option maxHeartbeats 16000000 in
theorem pTables_any (G : Gr) (na : Option Addr) (nc : Nat) (la : Option Addr) (lc : Nat) (max : Nat) (w : World) (hin : GrIn w G na la) (hm : max < 2 ^ 64) :
    Calls Tryz.prog 14 #[.agg #[.slice na G.nodes.length nc, .slice la G.links.length lc], .float .f64 max] w fun e w' => TabsEnds w G max e w' := by
  obtain ⟨W1, hW1⟩ : ∃ W1, W1 = w.alloc (.cells #[.slice na G.nodes.length nc, .slice la G.links.length lc] 25) := ⟨_, rfl⟩
  have b1 : Below w.heap.size w W1 := by rw [hW1]; exact gAl _ _
  have r1 : W1.heap[w.heap.size]? = some (.cells #[.slice na G.nodes.length nc, .slice la G.links.length lc] 25 (0, 0)) := by rw [hW1]; exact heap_alloc_new w _
  obtain ⟨g0, g1, -, -⟩ := two_cells r1
  have HC := Lib.hid (sightOf_any G na nc la lc max W1 (hin.below b1) hm)
  have HB1 := Lib.hid b1
  clear hin b1 r1 hm
  go_enter Tryz.func14, Tryz.ntmps14
  go_upto_region 1 with (fail)
  rw [← hW1]
  clear hW1
  go_wp2_with fail
  refine HC.out.mono ?_
  rintro e w2 he
  obtain ⟨hb2, ⟨hne, rfl⟩ | ⟨hE, sb, db, B0, an, cn, al, cl, hv, rfl, hsb, hdb, hsg⟩⟩ := he.cases
  · have HB2 := Lib.hid (gNx HB1.out hb2)
    have HNE := Lib.hid hne
    obtain ⟨E, hE⟩ : ∃ E, E = ballE G max := ⟨_, rfl⟩
    have HEE := Lib.hid hE
    rw [← hE]
    have hz : (E != 0) = true := by rw [hE]; simpa using hne
    clear hb2 he hne hE g0 g1
    go_wp2_with fail
    refine bodyPost_ret (v := .tuple #[.slice none 0 0, .int .i64 E]) (by simp [results, Tryz.results14, go_sem]) rfl ?_
    exact ⟨HB2.out, Or.inl ⟨HNE.out, by rw [HEE.out]⟩⟩
  · have HB2 := Lib.hid (gNx HB1.out hb2)
    have HE := Lib.hid hE
    have HSB : Hid (w.heap.size ≤ w2.heap.size ∧ w.heap.size ≤ db ∧ B0 ≤ w2.heap.size) := Lib.hid (by have := hb2.size; have := HB1.out.size; have := hsg.low; have := hsg.sbs; omega)
    have HH := Lib.hid (bHomes_any w2 sb db B0 (liveG G) max an cn al cl hv hsg)
    obtain ⟨H, hH⟩ : ∃ H, H = liveG G := ⟨_, rfl⟩
    have HHG := Lib.hid hH
    rw [← hH] at HH
    have HNL : Hid (H.nodes.length ≤ 256) := Lib.hid (by rw [hH]; exact (check_zero.1 hsg.bg.hz).1)
    clear hb2 he hE g0 g1 hsg hsb hdb hH
    go_wp2_with fail
    refine HH.out.mono ?_
    rintro e w3 ⟨v, rfl, ho, hs3, hbx⟩
    obtain ⟨ah, ch, rfl⟩ := ho.slice
    have HHM : Hid (0 < H.nodes.length → ∃ hg c, Value.slice ah H.nodes.length ch = .slice (some ⟨hg, 0, none⟩) H.nodes.length c ∧ HmIn w3 H (qn max) hg) := Lib.hid (fun h0 => by
      obtain ⟨hg, c, h1, -, h2⟩ := hm_in ho h0
      exact ⟨hg, c, h1, h2⟩)
    have HB3 : Hid (Below w.heap.size w w3 ∧ w.heap.size ≤ w3.heap.size ∧ B0 ≤ w3.heap.size) := Lib.hid ⟨HB2.out.trans (hbx.below HSB.out.1 HSB.out.2.1), Nat.le_trans HSB.out.1 hbx.size, Nat.le_trans HSB.out.2.2 hbx.size⟩
    have HS3 := Lib.hid hs3
    obtain ⟨c0, c1, c2, c3, c4⟩ := hs3.five
    have hmk := make_tabs H.nodes.length (by have := HNL.out; omega)
    have HFE := Lib.hid (own_new0 w3 (.slice none 0 0) 27 H.nodes.length (by have := HNL.out; omega))
    clear ho hs3 hbx
    go_upto_region 6 with (fail)
    obtain ⟨W4, hW4⟩ : ∃ W4, W4 = w3.alloc (.cells (Array.replicate H.nodes.length (.slice none 0 0)) 27) := ⟨_, rfl⟩
    rw [← hW4]
    rw [← hW4] at HFE
    have HA4 : Hid (Below w3.heap.size w3 W4) := Lib.hid (by rw [hW4]; exact gAl _ _)
    have HB4 : Hid (Below w.heap.size w W4 ∧ w.heap.size ≤ W4.heap.size) := Lib.hid ⟨gNx HB3.out.1 HA4.out, Nat.le_trans HB3.out.2.1 HA4.out.size⟩
    have HS4 := Lib.hid (HS3.out.below HA4.out)
    obtain ⟨tb, htb⟩ : ∃ tb, tb = w3.heap.size := ⟨_, rfl⟩
    rw [← htb] at HFE ⊢
    have HTB : Hid (w.heap.size ≤ tb ∧ B0 ≤ tb ∧ tb = w3.heap.size) := Lib.hid (by rw [htb]; exact ⟨HB3.out.2.1, HB3.out.2.2, rfl⟩)
    clear hW4 hmk htb c0 c1 c2 c3 c4
    obtain ⟨c0, c1, c2, c3, c4⟩ := HS4.out.five
    go_wp2_with fail
    clear c0 c1 c2 c3 c4
    go_loopw [35] (fun i wr => ∃ (k : Nat) (rws : List Value), i = .int .i64 (k : Int) ∧ k ≤ H.nodes.length ∧ TabsIn wr w.heap.size H (qn max) k rws ∧ Own wr w.heap.size 27 1 (.slice (some ⟨tb, 0, none⟩) H.nodes.length H.nodes.length) H.nodes.length (rws ++ List.replicate (H.nodes.length - rws.length) (.slice none 0 0)) ∧ Sg wr sb db B0 H max an cn al cl hv ∧ (0 < H.nodes.length → ∃ hg c, Value.slice ah H.nodes.length ch = .slice (some ⟨hg, 0, none⟩) H.nodes.length c ∧ HmIn wr H (qn max) hg) ∧ Below w.heap.size w wr) (fun i _ => H.nodes.length - (RowKit.intOf i).toNat)
    case atStart => exact ⟨0, [], rfl, Nat.zero_le _, ⟨rfl, fun j hj => absurd hj (by omega)⟩, by simpa using HFE.out.mono HTB.out.1, HS4.out, (fun h0 => by
      obtain ⟨hg, c, e, h1⟩ := HHM.out h0
      exact ⟨hg, c, e, h1.kept (HA4.out.block hg (by obtain ⟨cur, h2, -⟩ := h1; exact (Array.getElem?_eq_some_iff.1 h2).1))⟩), HB4.out.1⟩
    case round =>
      obtain ⟨k, rws, rfl, hk, hti, hou, hsg, hhm, hbel⟩ := hrel
      obtain ⟨wo, hwo⟩ : ∃ wo, wo = wr := ⟨_, rfl⟩
      subst hwo
      have HTI := Lib.hid hti
      have HOU := Lib.hid hou
      have HSW := Lib.hid hsg
      have HBE := Lib.hid hbel
      by_cases hlt : k < H.nodes.length
      · have hlti : (k : Int) < (H.nodes.length : Int) := by omega
        have hk0 : (0 : Int) ≤ (k : Int) := by omega
        have hkw : IntKind.i64.wrap ((k : Int) + 1) = (k : Int) + 1 := by rw [IntKind.wrap_i64]; have := HNL.out; omega
        have HK1 : Hid (k + 1 ≤ H.nodes.length ∧ H.nodes.length - (k + 1) < H.nodes.length - k ∧ ((k : Int) + 1).toNat = k + 1 ∧ (k : Int) + 1 = ((k + 1 : Nat) : Int)) := Lib.hid ⟨by omega, by omega, by omega, by omega⟩
        obtain ⟨hg, c, he, hmi⟩ := hhm (by omega)
        have HMI := Lib.hid hmi
        have HTT := Lib.hid (bTable_any k hg c wo sb db B0 H max an cn al cl hv hsg hlt hmi)
        rw [← he] at HTT
        have HHE := Lib.hid he
        have HLT := Lib.hid hlt
        clear hti hou hsg hbel hhm hlt hk hmi he
        go_wp2_with fail
        refine HTT.out.mono ?_
        rintro e w5 ⟨v5, rfl, ho5, hs5, hx5⟩
        obtain ⟨a5, c5, rfl⟩ := ho5.slice
        have hou5 := HSW.out.own HOU.out hx5 (by decide)
        have hlen := HTI.out.1
        obtain ⟨f0, f1⟩ := row1_cell hou5 HLT.out (by rw [← hlen]; exact fill_at rws (.slice none 0 0) H.nodes.length (by rw [hlen]; exact HLT.out))
        have HSW5 := Lib.hid hs5
        have HO5 := Lib.hid (ho5.mono HBE.out.size)
        have HTI5 := Lib.hid (HTI.out.keep (fun j cur hj => hx5.block j (Array.getElem?_eq_some_iff.1 hj).1 (fun e2 => by
          subst e2
          obtain ⟨vs, h1, -⟩ := HSW.out.rows
          rw [h1] at hj; cases hj)))
        have HOU5 := Lib.hid hou5
        have HMI5 : Hid (HmIn w5 H (qn max) hg) := Lib.hid (HMI.out.kept (hx5.block hg (by obtain ⟨cur, h2, -⟩ := HMI.out; exact (Array.getElem?_eq_some_iff.1 h2).1) (fun e2 => by
          subst e2
          obtain ⟨vs, h1, -⟩ := HSW.out.rows
          obtain ⟨cur, h2, -⟩ := HMI.out
          rw [h1] at h2; cases h2)))
        have HBE5 : Hid (Below w.heap.size w w5) := Lib.hid (HBE.out.trans (hx5.below HBE.out.size HSB.out.2.1))
        clear hou5 hs5 hx5 ho5 hlen
        generalize hnl : (tabI H (qn max) (idf H.nodes k : Int)).length = nl at *
        go_wp2_with fail
        obtain ⟨st1, st2, cur, st3⟩ := own_set HOU5.out (j := k) (by have := HLT.out; omega) (.slice a5 nl c5)
        have hne : ∀ (t : TypeId) (j : Nat) (cs : Array Value), t ≠ 27 → w5.heap[j]? = some (Obj.cells cs t (0, 0)) → (w5.setCell ⟨tb, k, none⟩ (.slice a5 nl c5)).heap[j]? = w5.heap[j]? := fun t j cs ht hj => Below.heap_setCell _ _ _ _ (fun e2 => by
          have e3 : j = tb := e2
          subst e3
          rw [st3] at hj
          cases hj
          exact ht rfl)
        have hl5 := HTI5.out.1
        rw [show (rws ++ List.replicate (H.nodes.length - rws.length) (Value.slice none 0 0)).set k (.slice a5 nl c5) = (rws ++ [.slice a5 nl c5]) ++ List.replicate (H.nodes.length - (rws ++ [Value.slice a5 nl c5]).length) (.slice none 0 0) by rw [← hl5]; exact fill_set rws _ _ _ (by rw [hl5]; exact HLT.out)] at st1
        have HTI6 : TabsIn (w5.setCell ⟨tb, k, none⟩ (.slice a5 nl c5)) w.heap.size H (qn max) (k + 1) (rws ++ [.slice a5 nl c5]) := (HTI5.out.keep (fun j cs hj => hne _ j cs (by decide) hj)).add (by rw [hnl]; exact HO5.out.keep (fun j cs hj => hne _ j cs (by decide) hj))
        refine ⟨⟨k + 1, _, congrArg (Value.int .i64) HK1.out.2.2.2, HK1.out.1, HTI6, st1, HSW5.out.set st3 (by unfold SgT; decide) HTB.out.2.1 _, (fun _ => ⟨hg, c, HHE.out, HMI5.out.kept (by obtain ⟨cu, h2, -⟩ := HMI5.out; exact hne _ hg cu (by decide) h2)⟩), HBE5.out.setCell (p := ⟨tb, k, none⟩) HTB.out.1 _⟩, ?_⟩
        show H.nodes.length - ((k : Int) + 1).toNat < H.nodes.length - (k : Int).toNat
        rw [HK1.out.2.2.1]
        exact HK1.out.2.1
      · have hnk : ¬ (k : Int) < (H.nodes.length : Int) := by omega
        have hke : k = H.nodes.length := by omega
        have HLL : Hid (rws.length = H.nodes.length) := Lib.hid (by rw [← hke]; exact hti.1)
        have HFI : Hid (TabsIn wo w.heap.size H (qn max) H.nodes.length rws) := Lib.hid (by rw [← hke]; exact hti)
        clear hlt hti hou hsg hbel hhm hk hke
        go_wp2_with fail
        refine bodyPost_ret (v := .tuple #[.slice (some ⟨tb, 0, none⟩) H.nodes.length H.nodes.length, .int .i64 0]) (by simp [results, Tryz.results14, go_sem]) rfl ?_
        refine ⟨HBE.out, Or.inr ⟨HE.out, tb, rws, ?_⟩⟩
        rw [← HHG.out]
        refine ⟨rfl, ?_, HFI.out⟩
        have h := HOU.out
        rw [HLL.out, Nat.sub_self] at h
        simpa using h
/-- What Sizes tells. -/
noncomputable def szF (H : Gr) (lim : Nat) (j : Nat) : Value := .int .i64 ((tabI H lim (idf H.nodes j : Int)).length : Int)
def SizesEnds (w : World) (G : Gr) (max : Nat) (e : Ending) (w' : World) : Prop := Below w.heap.size w w' ∧
  ((ballE G max ≠ 0 ∧ e = .returned (.tuple #[.slice none 0 0, .int .i64 (ballE G max)])) ∨
   (ballE G max = 0 ∧ ∃ g, e = .returned (.tuple #[.slice (some ⟨g, 0, none⟩) (liveG G).nodes.length (liveG G).nodes.length, .int .i64 0]) ∧ Own w' w.heap.size 3 1 (.slice (some ⟨g, 0, none⟩) (liveG G).nodes.length (liveG G).nodes.length) (liveG G).nodes.length ((List.range (liveG G).nodes.length).map (szF (liveG G) (qn max)))))
set_option maxHeartbeats 16000000 in
theorem pSizes_any (G : Gr) (na : Option Addr) (nc : Nat) (la : Option Addr) (lc : Nat) (max : Nat) (w : World) (hin : GrIn w G na la) (hm : max < 2 ^ 64) :
    Calls Tryz.prog 12 #[.agg #[.slice na G.nodes.length nc, .slice la G.links.length lc], .float .f64 max] w fun e w' => SizesEnds w G max e w' := by
  obtain ⟨W1, hW1⟩ : ∃ W1, W1 = w.alloc (.cells #[.slice na G.nodes.length nc, .slice la G.links.length lc] 25) := ⟨_, rfl⟩
  have b1 : Below w.heap.size w W1 := by rw [hW1]; exact gAl _ _
  have r1 : W1.heap[w.heap.size]? = some (.cells #[.slice na G.nodes.length nc, .slice la G.links.length lc] 25 (0, 0)) := by rw [hW1]; exact heap_alloc_new w _
  obtain ⟨g0, g1, -, -⟩ := two_cells r1
  have HC := Lib.hid (pTables_any G na nc la lc max W1 (hin.below b1) hm)
  have HB1 := Lib.hid b1
  clear hin b1 r1 hm
  go_enter Tryz.func12, Tryz.ntmps12
  go_upto_region 1 with (fail)
  rw [← hW1]
  clear hW1
  go_wp2_with fail
  refine HC.out.mono ?_
  rintro e w2 ⟨hb2, ⟨hne, rfl⟩ | ⟨hE, tb, rws, rfl, hou, hti⟩⟩
  · have HB2 := Lib.hid (gNx HB1.out hb2)
    have HNE := Lib.hid hne
    obtain ⟨E, hE⟩ : ∃ E, E = ballE G max := ⟨_, rfl⟩
    have HEE := Lib.hid hE
    rw [← hE]
    have hz : (E != 0) = true := by rw [hE]; simpa using hne
    clear hb2 hne hE g0 g1
    go_wp2_with fail
    refine bodyPost_ret (v := .tuple #[.slice none 0 0, .int .i64 E]) (by simp [results, Tryz.results12, go_sem]) rfl ?_
    exact ⟨HB2.out, Or.inl ⟨HNE.out, by rw [HEE.out]⟩⟩
  · have HB2 : Hid (Below w.heap.size w w2 ∧ w.heap.size ≤ w2.heap.size) := Lib.hid ⟨gNx HB1.out hb2, by have := hb2.size; have := HB1.out.size; omega⟩
    have HE := Lib.hid hE
    have HNL0 : (liveG G).nodes.length ≤ 256 := (check_zero.1 (live_keeps (ballE_zero.1 hE).1).1).1
    obtain ⟨H, hH⟩ : ∃ H, H = liveG G := ⟨_, rfl⟩
    have HHG := Lib.hid hH
    rw [← hH] at hou hti HNL0 ⊢
    have HNL := Lib.hid HNL0
    have HOU : Hid (∀ V, Below w2.heap.size w2 V → Own V W1.heap.size 27 1 (.slice (some ⟨tb, 0, none⟩) H.nodes.length H.nodes.length) H.nodes.length rws) := Lib.hid (fun V hV => hou.below hV)
    have HTI := Lib.hid hti
    have hmk := make_ints (szF H (qn max)) H.nodes.length (by have := HNL.out; omega)
    have HFE := Lib.hid (own_fE w2 (szF H (qn max)) (.int .i64 0) 3 H.nodes.length (by have := HNL.out; omega))
    clear hb2 hE g0 g1 hou hti hH HNL0
    go_upto_region 5 with (fail)
    obtain ⟨W4, hW4⟩ : ∃ W4, W4 = w2.alloc (.cells (fE (szF H (qn max)) (.int .i64 0) H.nodes.length 0).toArray 3) := ⟨_, rfl⟩
    rw [← hW4]
    rw [← hW4] at HFE
    have HA4 : Hid (Below w2.heap.size w2 W4) := Lib.hid (by rw [hW4]; exact gAl _ _)
    obtain ⟨zb, hzb⟩ : ∃ zb, zb = w2.heap.size := ⟨_, rfl⟩
    rw [← hzb] at HFE ⊢
    have HZB := Lib.hid hzb
    clear hW4 hmk hzb
    go_wp2_with fail
    go_loopw [25] (fun i wr => ∃ k : Nat, i = .int .i64 (k : Int) ∧ k ≤ H.nodes.length ∧ Own wr zb 3 1 (.slice (some ⟨zb, 0, none⟩) H.nodes.length H.nodes.length) H.nodes.length (fE (szF H (qn max)) (.int .i64 0) H.nodes.length k) ∧ Below w2.heap.size w2 wr) (fun i _ => H.nodes.length - (RowKit.intOf i).toNat)
    case atStart => exact ⟨0, rfl, Nat.zero_le _, HFE.out, HA4.out⟩
    case round =>
      obtain ⟨k, rfl, hk, ho, hbel⟩ := hrel
      obtain ⟨wo, hwo⟩ : ∃ wo, wo = wr := ⟨_, rfl⟩
      subst hwo
      have HOW := Lib.hid ho
      have HBE := Lib.hid hbel
      by_cases hlt : k < H.nodes.length
      · have hlti : (k : Int) < (H.nodes.length : Int) := by omega
        have hk0 : (0 : Int) ≤ (k : Int) := by omega
        have hkw : IntKind.i64.wrap ((k : Int) + 1) = (k : Int) + 1 := by rw [IntKind.wrap_i64]; have := HNL.out; omega
        have HK1 : Hid (k + 1 ≤ H.nodes.length ∧ H.nodes.length - (k + 1) < H.nodes.length - k ∧ ((k : Int) + 1).toNat = k + 1 ∧ (k : Int) + 1 = ((k + 1 : Nat) : Int)) := Lib.hid ⟨by omega, by omega, by omega, by omega⟩
        obtain ⟨x, x1, x2⟩ := HTI.out.2 k hlt
        obtain ⟨ax, cx, rfl⟩ := x2.slice
        obtain ⟨t0, -⟩ := row1_cell (HOU.out wo hbel) hlt x1
        obtain ⟨f0, f1⟩ := row1_cell ho hlt (fE_at _ _ H.nodes.length k hlt)
        have HSE : Hid ((fE (szF H (qn max)) (.int .i64 0) H.nodes.length k).set k (.int .i64 ((tabI H (qn max) (idf H.nodes k : Int)).length : Int)) = fE (szF H (qn max)) (.int .i64 0) H.nodes.length (k + 1)) := Lib.hid (fE_set (szF H (qn max)) (.int .i64 0) H.nodes.length k hlt)
        have HLT := Lib.hid hlt
        clear ho hbel hlt hk x1 x2
        generalize (tabI H (qn max) (idf H.nodes k : Int)).length = nl at *
        go_wp2_with fail
        have hset := (own_set HOW.out (j := k) (by have := HLT.out; omega) (.int .i64 (nl : Int))).1
        rw [HSE.out] at hset
        refine ⟨⟨k + 1, congrArg (Value.int .i64) HK1.out.2.2.2, HK1.out.1, hset, HBE.out.setCell (p := ⟨zb, k, none⟩) (by show w2.heap.size ≤ zb; rw [HZB.out]; exact Nat.le_refl _) _⟩, ?_⟩
        show H.nodes.length - ((k : Int) + 1).toNat < H.nodes.length - (k : Int).toNat
        rw [HK1.out.2.2.1]
        exact HK1.out.2.1
      · have hnk : ¬ (k : Int) < (H.nodes.length : Int) := by omega
        have hke : k = H.nodes.length := by omega
        rw [hke, fE_all] at ho
        have HO := Lib.hid (ho.mono (by rw [HZB.out]; exact HB2.out.2))
        clear hlt ho hbel hk hke
        go_wp2_with fail
        refine bodyPost_ret (v := .tuple #[.slice (some ⟨zb, 0, none⟩) H.nodes.length H.nodes.length, .int .i64 0]) (by simp [results, Tryz.results12, go_sem]) rfl ?_
        refine ⟨HB2.out.1.trans (HBE.out.mono HB2.out.2), Or.inr ⟨HE.out, zb, ?_⟩⟩
        rw [← HHG.out]
        exact ⟨rfl, HO.out⟩
end Go.Proofs.YtjlfpjjfldbknaaGreat
end

section
namespace Go.Proofs.YtjlfpjjfldbknaaGreat
open Go.RowKit Go.Lib Go.Fq Go.Pq Go.Iq Go.Nq Go.Ow Go.Bq
set_option linter.unusedVariables false
set_option linter.unusedSimpArgs false
set_option maxRecDepth 100000

/-- What an append leaves alone: blocks of another type. -/
theorem own_other2 {w w' : World} {v v' : Value} {base k n : Nat} {e t : TypeId} {xs : List Value} (ho : Own w base e k v n xs) (hk : ∀ q, Kq q v v' w w') (he : t ≠ e) : ∀ (j : Nat) (cs : Array Value), w.heap[j]? = some (.cells cs t (0, 0)) → w'.heap[j]? = w.heap[j]? := own_other ho hk he
/-- How many of the first i are up. -/
def upN (G : Gr) (i : Nat) : Nat := ((G.nodes.take i).filter (·.up)).length
theorem upN_skip {G : Gr} {i : Nat} (hi : i < G.nodes.length) (h : G.nodes[i].up = false) : upN G (i + 1) = upN G i := by
  unfold upN; rw [List.take_succ_eq_append_getElem hi, List.filter_append]; simp [h]
theorem upN_go {G : Gr} {i : Nat} (hi : i < G.nodes.length) (h : G.nodes[i].up = true) : upN G (i + 1) = upN G i + 1 := by
  unfold upN; rw [List.take_succ_eq_append_getElem hi, List.filter_append]; simp [h]
theorem upN_all (G : Gr) : upN G G.nodes.length = (liveG G).nodes.length := by unfold upN; rw [List.take_length]; rfl
theorem upN_le (G : Gr) (i : Nat) : upN G i ≤ G.nodes.length := by
  unfold upN
  have h1 := List.length_filter_le (·.up) (G.nodes.take i)
  have h2 : (G.nodes.take i).length ≤ G.nodes.length := by rw [List.length_take]; omega
  omega
theorem upN_at {G : Gr} (hz : checkG G = 0) {i : Nat} (hi : i < G.nodes.length) (h : G.nodes[i].up = true) : idf (liveG G).nodes (upN G i) = idf G.nodes i := by
  have e : (liveG G).nodes = (G.nodes.take i).filter (·.up) ++ (G.nodes[i] :: (G.nodes.drop (i + 1)).filter (·.up)) := by
    show G.nodes.filter (·.up) = _
    have h1 : G.nodes[i] :: (G.nodes.drop (i + 1)).filter (·.up) = (G.nodes.drop i).filter (·.up) := by
      rw [List.drop_eq_getElem_cons hi, List.filter_cons_of_pos (by exact h)]
    rw [h1, ← List.filter_append, List.take_append_drop]
  have hl : upN G i < (liveG G).nodes.length := by rw [e]; simp [upN]
  have h1 := idf_is (check_zero.1 (live_keeps hz).1).2.2.1 hl
  have h2 := idf_is (check_zero.1 hz).2.2.1 hi
  have h3 : (liveG G).nodes[upN G i] = G.nodes[i] := by
    have : (liveG G).nodes[upN G i]? = some G.nodes[i] := by rw [e]; unfold upN; rw [List.getElem?_append_right (Nat.le_refl _), Nat.sub_self]; rfl
    exact Option.some.inj ((List.getElem?_eq_getElem hl).symm.trans this)
  have := h1.1.symm.trans ((congrArg Nd.id h3).trans h2.1)
  omega
/-- How many tables are told. -/
def nB (G : Gr) (max : Nat) : Nat := if ballE G max = 0 then (liveG G).nodes.length else 0
theorem nB_le {G : Gr} {max : Nat} : nB G max ≤ 256 := by
  unfold nB
  split
  · rename_i h; exact (check_zero.1 (live_keeps (ballE_zero.1 h).1).1).1
  · omega
def TabsIs (w : World) (G : Gr) (max : Nat) (e : Ending) (w' : World) : Prop := Below w.heap.size w w' ∧ ∃ a c rws, e = .returned (.tuple #[.slice a (nB G max) c, .int .i64 (ballE G max)]) ∧ Own w' w.heap.size 27 1 (.slice a (nB G max) c) (nB G max) rws ∧ TabsIn w' w.heap.size (liveG G) (qn max) (nB G max) rws
theorem TabsEnds.is {w w' : World} {G : Gr} {max : Nat} {e : Ending} (h : TabsEnds w G max e w') : TabsIs w G max e w' := by
  refine ⟨h.1, ?_⟩
  rcases h.2 with ⟨hne, rfl⟩ | ⟨hE, tb, rws, rfl, h1, h2⟩
  · have e0 : nB G max = 0 := by unfold nB; rw [if_neg hne]
    rw [e0]
    exact ⟨none, 0, [], rfl, Or.inl ⟨rfl, rfl, none, rfl⟩, rfl, fun j hj => absurd hj (by omega)⟩
  · have e0 : nB G max = (liveG G).nodes.length := by unfold nB; rw [if_pos hE]
    rw [e0]
    exact ⟨_, _, rws, by rw [hE], h1, h2⟩
def SizesIs (w : World) (G : Gr) (max : Nat) (e : Ending) (w' : World) : Prop := Below w.heap.size w w' ∧ ∃ a c, e = .returned (.tuple #[.slice a (nB G max) c, .int .i64 (ballE G max)]) ∧ Own w' w.heap.size 3 1 (.slice a (nB G max) c) (nB G max) ((List.range (nB G max)).map (szF (liveG G) (qn max)))
theorem SizesEnds.is {w w' : World} {G : Gr} {max : Nat} {e : Ending} (h : SizesEnds w G max e w') : SizesIs w G max e w' := by
  refine ⟨h.1, ?_⟩
  rcases h.2 with ⟨hne, rfl⟩ | ⟨hE, g, rfl, h1⟩
  · have e0 : nB G max = 0 := by unfold nB; rw [if_neg hne]
    rw [e0]
    exact ⟨none, 0, rfl, Or.inl ⟨rfl, rfl, none, rfl⟩⟩
  · have e0 : nB G max = (liveG G).nodes.length := by unfold nB; rw [if_pos hE]
    rw [e0]
    exact ⟨_, _, by rw [hE], h1⟩
set_option maxHeartbeats 16000000 in
theorem rbTabs_any (max : Nat) (G : Gr) (na : Option Addr) (nc : Nat) (la : Option Addr) (lc : Nat) (w : World) (hin : GrIn w G na la) (hm : max < 2 ^ 64) :
    Calls Tryz.prog 13 #[.agg #[.slice na G.nodes.length nc, .slice la G.links.length lc], .float .f64 max] w fun e w' => TabsIs w G max e w' := by
  obtain ⟨W1, hW1⟩ : ∃ W1, W1 = w.alloc (.cells #[.slice na G.nodes.length nc, .slice la G.links.length lc] 25) := ⟨_, rfl⟩
  have b1 : Below w.heap.size w W1 := by rw [hW1]; exact gAl _ _
  have s1 : w.heap.size < W1.heap.size := by rw [hW1]; simp
  have r1 : W1.heap[w.heap.size]? = some (.cells #[.slice na G.nodes.length nc, .slice la G.links.length lc] 25 (0, 0)) := by rw [hW1]; exact heap_alloc_new w _
  obtain ⟨gb, hgb⟩ : ∃ gb, gb = w.heap.size := ⟨_, rfl⟩
  rw [← hgb] at r1 s1
  have HKG : Hid (∀ V, Below W1.heap.size W1 V → V.cell? ⟨gb, 0, none⟩ = some (.slice na G.nodes.length nc) ∧ V.cell? ⟨gb, 1, none⟩ = some (.slice la G.links.length lc)) := Lib.hid (fun V hV => by
    have := two_cells ((hV.block _ s1).trans r1)
    exact ⟨this.1, this.2.1⟩)
  have HB1 := Lib.hid b1
  have HIN : Hid (∀ V, Below W1.heap.size W1 V → GrIn V G na la) := Lib.hid (fun V hV => (hin.below b1).below hV)
  have HWS : Hid (W1 = w.alloc (.cells #[.slice na G.nodes.length nc, .slice la G.links.length lc] 25) ∧ w.heap.size = gb) := Lib.hid ⟨hW1, hgb.symm⟩
  have HAK := Lib.hid (rbAsked_any G na nc la lc max W1 (hin.below b1) hm)
  have HMX := Lib.hid hm
  have HWT := Lib.hid hin.wts
  obtain ⟨g0, g1⟩ := HKG.out W1 (Below.refl _ _)
  clear hin b1 s1 r1 hm hW1 hgb
  by_cases hE : ballE G max = 0
  case neg =>
    have HNB : Hid (nB G max = 0) := Lib.hid (by unfold nB; rw [if_neg hE])
    obtain ⟨E, hE2⟩ : ∃ E, E = ballE G max := ⟨_, rfl⟩
    have HEE := Lib.hid hE2
    have hz : (E != 0) = true := by rw [hE2]; simpa using hE
    rw [← hE2] at HAK
    clear hE hE2
    go_enter Tryz.func13, Tryz.ntmps13
    go_upto_region 1 with (fail)
    rw [← HWS.out.1, HWS.out.2]
    go_wp2_with fail
    refine HAK.out.mono ?_
    rintro e w2 ⟨rfl, hb2⟩
    have HB2 := Lib.hid (gNx HB1.out hb2)
    clear hb2 g0 g1
    go_wp2_with fail
    refine bodyPost_ret (v := .tuple #[.slice none 0 0, .int .i64 E]) (by simp [results, Tryz.results13, go_sem]) rfl ?_
    refine ⟨HB2.out, none, 0, [], ?_⟩
    rw [HNB.out, ← HEE.out]
    exact ⟨rfl, Or.inl ⟨rfl, rfl, none, rfl⟩, rfl, fun j hj => absurd hj (by omega)⟩
  case pos =>
    have HNB : Hid (nB G max = (liveG G).nodes.length ∧ ballE G max = 0) := Lib.hid ⟨by unfold nB; rw [if_pos hE], hE⟩
    obtain ⟨hz, hl⟩ := ballE_zero.1 hE
    have HZ := Lib.hid hz
    rw [hE] at HAK
    have HQN : Hid (qn max ≤ 4294967296) := Lib.hid (by
      obtain ⟨lim, l1, l2, l3⟩ := limit_q max HMX.out hl
      rw [l3, qn_qw (by omega)]; exact l2)
    have HNL : Hid (G.nodes.length ≤ 256) := Lib.hid (check_zero.1 hz).1
    have HID : Hid (∀ k (hk : k < G.nodes.length), G.nodes[k].id = (idf G.nodes k : Int)) := Lib.hid (fun k hk => (idf_is (check_zero.1 hz).2.2.1 hk).1)
    have HDS := Lib.hid (fun V (hV : Below W1.heap.size W1 V) => rbAll_any max G na nc la lc V (HIN.out V hV) HMX.out hE)
    clear hz hl hE
    go_enter Tryz.func13, Tryz.ntmps13
    go_upto_region 1 with (fail)
    rw [← HWS.out.1, HWS.out.2]
    go_wp2_with fail
    refine HAK.out.mono ?_
    rintro e w2 ⟨rfl, hb2⟩
    have HB2 := Lib.hid hb2
    clear g0 g1
    obtain ⟨g0, g1⟩ := HKG.out w2 hb2
    clear hb2
    go_wp2_with fail
    refine (HDS.out w2 HB2.out).mono ?_
    rintro e w3 ⟨v1, rfl, rws1, ho1, hr1, hb3⟩
    have HB3 := Lib.hid (gNx HB2.out hb3)
    obtain ⟨a0, c0, rfl⟩ := ho1.slice
    have HAI : Hid (0 < G.nodes.length → ∃ ab ac, Value.slice a0 G.nodes.length c0 = .slice (some ⟨ab, 0, none⟩) G.nodes.length ac ∧ AllIn w3 G (qn max) ab) := Lib.hid (fun h0 => all_in ho1 hr1 h0)
    clear hb3 ho1 hr1 g0 g1
    obtain ⟨g0, g1⟩ := HKG.out w3 HB3.out
    go_wp2_with fail
    clear g0 g1
    go_loopw [9, 8] (fun ii v wr => ∃ (i k : Nat) (rws : List Value), ii = .int .i64 (i : Int) ∧ i ≤ G.nodes.length ∧ k = upN G i ∧ Own wr w3.heap.size 27 1 v k rws ∧ TabsIn wr W1.heap.size (liveG G) (qn max) k rws ∧ Below W1.heap.size W1 wr ∧ Below w3.heap.size w3 wr) (fun ii _ _ => G.nodes.length - (RowKit.intOf ii).toNat)
    case atStart => exact ⟨0, 0, [], rfl, Nat.zero_le _, by simp [upN], Or.inl ⟨rfl, rfl, _, rfl⟩, ⟨rfl, fun j hj => absurd hj (by omega)⟩, gNx HB3.out (gAl _ _), gAl _ _⟩
    case round =>
      obtain ⟨i, k, rws, rfl, hi, hku, ho, hti, hbx, hb3⟩ := hrel
      obtain ⟨wo, hwo⟩ : ∃ wo, wo = wr := ⟨_, rfl⟩
      subst hwo
      have HOW := Lib.hid ho
      have HTI := Lib.hid hti
      have HXW := Lib.hid hbx
      have HX3 := Lib.hid hb3
      have HKU := Lib.hid hku
      obtain ⟨va, vc, rfl⟩ := ho.slice
      obtain ⟨g0, g1⟩ := HKG.out wo hbx
      by_cases hlt : i < G.nodes.length
      · have hlti : (i : Int) < (G.nodes.length : Int) := by omega
        have hi0 : (0 : Int) ≤ (i : Int) := by omega
        have hiw : IntKind.i64.wrap ((i : Int) + 1) = (i : Int) + 1 := by rw [IntKind.wrap_i64]; have := HNL.out; omega
        have HK1 : Hid (i + 1 ≤ G.nodes.length ∧ G.nodes.length - (i + 1) < G.nodes.length - i ∧ ((i : Int) + 1).toNat = i + 1 ∧ (i : Int) + 1 = ((i + 1 : Nat) : Int)) := Lib.hid ⟨by omega, by omega, by omega, by omega⟩
        obtain ⟨b, o, hna, hbb, hnc⟩ := (HIN.out W1 (Below.refl _ _)).nodes.at i hlt
        obtain ⟨n0, n1, -⟩ := hnc i hlt
        rw [HID.out i hlt] at n0
        have HSS : Hid (∀ V, Below W1.heap.size W1 V → DsS V gb na la nc G.nodes.length lc G.links.length b o i (idf G.nodes i : Int)) := Lib.hid (fun V hV => ⟨(HKG.out V hV).1, (HKG.out V hV).2, (hV.cell (p := ⟨b, o + i * 3, none⟩) hbb).trans n0⟩)
        replace n0 := (hbx.cell (p := ⟨b, o + i * 3, none⟩) hbb).trans n0
        replace n1 := (hbx.cell (p := ⟨b, o + i * 3 + 1, none⟩) hbb).trans n1
        have HUID : Hid (G.nodes[i].up = true → upB G.nodes (idf G.nodes i : Int) = true) := Lib.hid (fun h => by rw [← HID.out i hlt]; exact mem_up (List.getElem_mem hlt) h)
        obtain ⟨ub, hub⟩ : ∃ ub, ub = G.nodes[i].up := ⟨_, rfl⟩
        rw [← hub] at n1 HUID
        have HLT := Lib.hid hlt
        subst hna
        cases ub with
        | false =>
          have HKN : Hid (k = upN G (i + 1)) := Lib.hid (by rw [upN_skip hlt hub.symm]; exact hku)
          clear hub ho hti hbx hb3 hku hnc hbb hi hlt
          go_wp2_with fail
          refine ⟨⟨i + 1, k, rws, congrArg (Value.int .i64) HK1.out.2.2.2, HK1.out.1, HKN.out, HOW.out, HTI.out, HXW.out, HX3.out⟩, ?_⟩
          show G.nodes.length - ((i : Int) + 1).toNat < G.nodes.length - (i : Int).toNat
          rw [HK1.out.2.2.1]
          exact HK1.out.2.1
        | true =>
          have HKL : Hid (k < G.nodes.length ∧ k + 1 = upN G (i + 1)) := Lib.hid (by
            have h1 := upN_go hlt hub.symm
            have h2 := upN_le G (i + 1)
            omega)
          obtain ⟨x, hx⟩ : ∃ x, x = (idf G.nodes i : Int) := ⟨_, rfl⟩
          have HTG : Hid (tabI G (qn max) x = tabI (liveG G) (qn max) (idf (liveG G).nodes k : Int)) := Lib.hid (by
            rw [tab_live HZ.out HWT.out (qn max) (by rw [hx]; exact HUID.out rfl), hku, upN_at HZ.out hlt hub.symm, hx])
          have HUX : Hid (upB G.nodes x = true) := Lib.hid (by rw [hx]; exact HUID.out rfl)
          obtain ⟨ab, ac, hav, hai⟩ := HAI.out (by omega)
          have HAV : Hid (∀ V, Below w3.heap.size w3 V → AllIn V G (qn max) ab) := Lib.hid (fun V hV => hai.below hV)
          have HB3' := HB3
          rw [← hx] at n0 HSS
          have HTB0 : Hid (∀ V, Below W1.heap.size W1 V → Below w3.heap.size w3 V → Calls Tryz.prog 25 #[.agg #[.slice (some ⟨b, o, none⟩) G.nodes.length nc, .slice la G.links.length lc], .int .i64 x, .slice a0 G.nodes.length c0] V fun e w' => ∃ v, e = .returned v ∧ Own w' V.heap.size 43 6 v (tabI G (qn max) x).length (enRow (tabI G (qn max) x)) ∧ Below V.heap.size V w') := Lib.hid (fun V hV hV3 => by
            rw [hav]
            exact rbTable_any x max ab ac G _ nc la lc V (HIN.out V hV) HZ.out HQN.out HUX.out (HAV.out V hV3))
          clear hub hx ho hti hb3 hku hnc hbb hi hlt hai hav
          go_upto_region 9 with (fail)
          clear g0 g1 n0 n1
          refine wp_region_held_drew (S := fun V => DsS V gb (some ⟨b, o, none⟩) la nc G.nodes.length lc G.links.length b o i x) (by kernel_rfl) (HSS.out _ (Below.drew HXW.out)) (fun hH => ?_)
          have hs0 := HSS.out _ (Below.drew HXW.out)
          have C0 : Hid (Below W1.heap.size W1 wo.drew) := Lib.hid (Below.drew HXW.out)
          have D0 : Hid (Below wo.heap.size wo wo.drew) := Lib.hid (Below.drew (Below.refl _ _))
          have D3 : Hid (Below w3.heap.size w3 wo.drew) := Lib.hid (Below.drew HX3.out)
          generalize wo.drew = V0 at *
          refine tk 0 (by assumption) rfl (by kernel_rfl) (fun _ _ _ h => h) (fun V hV => by go_simp; try with_reducible rfl) ?_
          try simp only [Act.put, sqA, sqB, sqC, sqD, sqE, sqF]
          refine tk 1 (by assumption) rfl (by kernel_rfl) (fun _ _ _ h => h) (fun V hV => by obtain ⟨hx0, hx1, hx2⟩ := hV; go_simp; try with_reducible rfl) ?_
          try simp only [Act.put, sqA, sqB, sqC, sqD, sqE, sqF]
          refine tk 2 (by assumption) rfl (by kernel_rfl) (fun _ _ _ h => h) (fun V hV => by go_simp; try with_reducible rfl) ?_
          try simp only [Act.put, sqA, sqB, sqC, sqD, sqE, sqF]
          refine tk 3 (by assumption) rfl (by kernel_rfl) (fun _ _ _ h => h) (fun V hV => by obtain ⟨hx0, hx1, hx2⟩ := hV; go_simp; try with_reducible rfl) ?_
          try simp only [Act.put, sqA, sqB, sqC, sqD, sqE, sqF]
          refine tk 4 (by assumption) rfl (by kernel_rfl) (fun _ _ _ h => h) (fun V hV => by go_simp; try with_reducible rfl) ?_
          try simp only [Act.put, sqA, sqB, sqC, sqD, sqE, sqF]
          refine tk 5 (by assumption) rfl (by kernel_rfl) (fun _ _ _ h => h) (fun V hV => by go_simp; try with_reducible rfl) ?_
          try simp only [Act.put, sqA, sqB, sqC, sqD, sqE, sqF]
          refine tk 6 (by assumption) rfl (by kernel_rfl) (fun _ _ _ h => h) (fun V hV => by go_simp; try with_reducible rfl) ?_
          try simp only [Act.put, sqA, sqB, sqC, sqD, sqE, sqF]
          refine tk 7 (by assumption) rfl (by kernel_rfl) (fun _ _ _ h => h) (fun V hV => by obtain ⟨hx0, hx1, hx2⟩ := hV; go_simp; try with_reducible rfl) ?_
          try simp only [Act.put, sqA, sqB, sqC, sqD, sqE, sqF]
          refine tk 8 (by assumption) rfl (by kernel_rfl) (fun _ _ _ h => h) (fun V hV => by go_simp; try with_reducible rfl) ?_
          try simp only [Act.put, sqA, sqB, sqC, sqD, sqE, sqF]
          refine wpAnyH_ready (rs := [9]) (by kernel_rfl) (by simp) ?_
          refine AllReadyH.cons (o := _) rfl (fun K hK => ?_) AllReadyH.nil
          go_simp
          refine (HTB0.out V0 C0.out D3.out).mono ?_
          rintro e V1 ⟨v5, rfl, ho5, hb5⟩
          obtain ⟨a5, c5, rfl⟩ := ho5.slice
          obtain ⟨nl, hnl⟩ : ∃ nl, nl = (tabI G (qn max) x).length := ⟨_, rfl⟩
          have HNLL := Lib.hid hnl
          rw [← hnl] at ho5 ⊢
          clear hnl
          have C1 : Hid (Below W1.heap.size W1 V1) := Lib.hid (gNx C0.out hb5)
          have D1 : Hid (Below wo.heap.size wo V1) := Lib.hid (gNx D0.out hb5)
          have HO5 := Lib.hid (ho5.mono C0.out.size)
          have V01 : Hid (V0.heap.size ≤ V1.heap.size) := Lib.hid hb5.size
          clear hb5 ho5
          go_wp2_with fail
          refine hK.out _ _ (HSS.out _ C1.out) (fun hH => ?_)
          clear hK K
          try simp only [Act.put, sqA, sqB, sqC, sqD, sqE, sqF]
          refine wpAnyH_ready (rs := [10]) (by kernel_rfl) (by simp) ?_
          refine AllReadyH.cons (o := _) rfl (fun K hK => ?_) AllReadyH.nil
          go_simp
          clear hs0 hH
          refine hK.out _ _ (HSS.out _ (gNx C1.out (gAl _ _))) (fun hH => ?_)
          clear hK K
          obtain ⟨W8, hW8⟩ : ∃ W8, W8 = V1.alloc (.cells #[.slice a5 nl c5] 27) := ⟨_, rfl⟩
          have b8 : Below V1.heap.size V1 W8 := by rw [hW8]; exact gAl _ _
          have r8 : W8.heap[V1.heap.size]? = some (.cells #[.slice a5 nl c5] 27 (0, 0)) := by rw [hW8]; exact heap_alloc_new V1 _
          have ho8 := (HOW.out.below D1.out).below b8
          have hbase : w3.heap.size ≤ W8.heap.size := Nat.le_trans D3.out.size (Nat.le_trans ((Below.refl _ _ : Below V0.heap.size V0 V0).size) (Nat.le_trans V01.out b8.size))
          obtain ⟨v2, Wn, hrun, hrow, hkq⟩ := own_app (P := Tryz.prog) (vb := V1.heap.size) (vs := [.slice a5 nl c5]) Tryz.underlying38 taInfo rfl ho8 hbase r8 rfl (by intro v hv; simp only [List.mem_cons, List.not_mem_nil, or_false] at hv; subst hv; rfl) (by have := HKL.out.1; have := HNL.out; omega) (by have := HKL.out.1; have := HNL.out; omega)
          obtain ⟨va2, vc2, rfl⟩ := hrow.slice
          have hoth : ∀ (j : Nat) (cs : Array Value), W8.heap[j]? = some (.cells cs 43 (0, 0)) → Wn.heap[j]? = W8.heap[j]? := own_other2 ho8 hkq (by decide)
          have HRW : Hid (Own Wn w3.heap.size 27 1 (.slice va2 (k + 1) vc2) (k + 1) (rws ++ [.slice a5 nl c5])) := Lib.hid hrow
          have HTN : Hid (TabsIn Wn W1.heap.size (liveG G) (qn max) (k + 1) (rws ++ [.slice a5 nl c5])) := Lib.hid ((((HTI.out.keep (fun j cs hj => D1.out.block j (Array.getElem?_eq_some_iff.1 hj).1)).keep (fun j cs hj => b8.block j (Array.getElem?_eq_some_iff.1 hj).1)).keep hoth).add (by
            rw [← HTG.out, ← HNLL.out]
            exact (HO5.out.below b8).keep hoth))
          have HBN : Hid (Below W1.heap.size W1 Wn) := Lib.hid ((gNx C1.out b8).trans ((Kq.below2 hkq ho8 hbase).mono HB3.out.size))
          have HX3N : Hid (Below w3.heap.size w3 Wn) := Lib.hid ((gNx (gNx HX3.out D1.out) b8).trans (Kq.below2 hkq ho8 hbase))
          rw [hW8] at hrun
          have HR := Lib.hid hrun
          rw [hW8] at r8
          clear hrow hkq hoth ho8 hbase b8 r8 hrun
          try simp only [Act.put, sqA, sqB, sqC, sqD, sqE, sqF]
          refine wpAnyH_ready (rs := [11]) (by kernel_rfl) (by simp) ?_
          refine AllReadyH.cons (o := _) rfl (fun K hK => ?_) AllReadyH.nil
          refine step_append_r rfl _ _ 38 38 rfl (.slice va k vc) (.slice (some ⟨V1.heap.size, 0, none⟩) 1 1) (by simp [Act.eval, Act.put]) (by simp [Act.eval, Act.put]) (HR.out _) ?_
          refine hK.out _ _ (HSS.out _ HBN.out) (fun hH => ?_)
          clear hK K
          try simp only [Act.put, sqA, sqB, sqC, sqD, sqE, sqF]
          refine tk 12 (by assumption) rfl (by kernel_rfl) (fun _ _ _ h => h) (fun V hV => by go_simp; try with_reducible rfl) ?_
          try simp only [Act.put, sqA, sqB, sqC, sqD, sqE, sqF]
          refine wpAnyH_done (by kernel_rfl) ?_ _
          clear hH
          go_wp2_with fail
          refine ⟨⟨i + 1, k + 1, _, congrArg (Value.int .i64) HK1.out.2.2.2, HK1.out.1, HKL.out.2, HRW.out, HTN.out, HBN.out, HX3N.out⟩, ?_⟩
          show G.nodes.length - ((i : Int) + 1).toNat < G.nodes.length - (i : Int).toNat
          rw [HK1.out.2.2.1]
          exact HK1.out.2.1
      · have hni : ¬ (i : Int) < (G.nodes.length : Int) := by omega
        have hie : i = G.nodes.length := by omega
        have HKF : Hid (k = (liveG G).nodes.length) := Lib.hid (by rw [hku, hie, upN_all])
        have HO : Hid (Own wo w.heap.size 27 1 (.slice va k vc) k rws ∧ TabsIn wo w.heap.size (liveG G) (qn max) k rws) := Lib.hid ⟨HOW.out.mono (Nat.le_trans HB1.out.size HB3.out.size), HTI.out.mono HB1.out.size⟩
        clear hlt ho hti hbx hb3 hku hi hie
        go_wp2_with fail
        refine bodyPost_ret (v := .tuple #[.slice va k vc, .int .i64 0]) (by simp [results, Tryz.results13, go_sem]) rfl ?_
        refine ⟨gNx HB1.out HXW.out, va, vc, rws, ?_⟩
        rw [HNB.out.1, HNB.out.2, ← HKF.out]
        exact ⟨rfl, HO.out⟩
set_option maxHeartbeats 16000000 in
theorem law_bsizes (G : Gr) (na : Option Addr) (nc : Nat) (la : Option Addr) (lc : Nat) (max : Nat) (w : World) (hin : GrIn w G na la) (hm : max < 2 ^ 64) :
    Calls Tryz.prog 4 #[.agg #[.slice na G.nodes.length nc, .slice la G.links.length lc], .float .f64 max] w fun e w' => e = .returned (.bool true) ∧ Below w.heap.size w w' := by
  obtain ⟨W1, hW1⟩ : ∃ W1, W1 = w.alloc (.cells #[.slice na G.nodes.length nc, .slice la G.links.length lc] 25) := ⟨_, rfl⟩
  have b1 : Below w.heap.size w W1 := by rw [hW1]; exact gAl _ _
  have s1 : w.heap.size < W1.heap.size := by rw [hW1]; simp
  have r1 : W1.heap[w.heap.size]? = some (.cells #[.slice na G.nodes.length nc, .slice la G.links.length lc] 25 (0, 0)) := by rw [hW1]; exact heap_alloc_new w _
  obtain ⟨gb, hgb⟩ : ∃ gb, gb = w.heap.size := ⟨_, rfl⟩
  rw [← hgb] at r1 s1
  have HKG : Hid (∀ V, Below W1.heap.size W1 V → V.cell? ⟨gb, 0, none⟩ = some (.slice na G.nodes.length nc) ∧ V.cell? ⟨gb, 1, none⟩ = some (.slice la G.links.length lc)) := Lib.hid (fun V hV => by
    have := two_cells ((hV.block _ s1).trans r1)
    exact ⟨this.1, this.2.1⟩)
  have HB1 := Lib.hid b1
  have HIN : Hid (∀ V, Below W1.heap.size W1 V → GrIn V G na la) := Lib.hid (fun V hV => (hin.below b1).below hV)
  have HMX := Lib.hid hm
  have HAW := Lib.hid bAwake_any
  have HCP := Lib.hid (fun V (hV : Below W1.heap.size W1 V) => rCopy_any G na la nc lc V (HIN.out V hV).nodes (HIN.out V hV).links hin.wts (by have := hin.n1; omega) (by have := hin.l1; omega))
  have HSZ : Hid (G.nodes.length * 16 ≤ 140737488351232 ∧ G.links.length * 32 ≤ 140737488351232) := Lib.hid ⟨hin.n1, hin.l1⟩
  obtain ⟨g0, g1⟩ := HKG.out W1 (Below.refl _ _)
  have HWS : Hid (W1 = w.alloc (.cells #[.slice na G.nodes.length nc, .slice la G.links.length lc] 25) ∧ w.heap.size = gb) := Lib.hid ⟨hW1, hgb.symm⟩
  have HNN : Hid (nB G max ≤ 256) := Lib.hid nB_le
  have HTL : Hid (∀ k, (tabI (liveG G) (qn max) (idf (liveG G).nodes k : Int)).length ≤ 768 ∨ ballE G max ≠ 0) := Lib.hid (fun k => by
    by_cases h : ballE G max = 0
    · have h1 := tab_len (liveG G) (qn max) (idf (liveG G).nodes k : Int)
      have h2 := (check_zero.1 (live_keeps (ballE_zero.1 h).1).1).1
      exact Or.inl (by omega)
    · exact Or.inr h)
  have HNE : Hid (ballE G max ≠ 0 → nB G max = 0) := Lib.hid (fun h => by unfold nB; rw [if_neg h])
  clear hin b1 s1 r1 hm hW1 hgb
  go_enter Tryz.func4, Tryz.ntmps4
  go_upto_region 1 with (fail)
  rw [← HWS.out.1, HWS.out.2]
  go_wp2_with fail
  refine (HCP.out W1 (Below.refl _ _)).mono ?_
  rintro e w2 ⟨vn, vl, rfl, hgv, hb2⟩
  obtain ⟨na2, nc2, rfl, hNI, -⟩ := ownN_in hgv.nodes
  obtain ⟨la2, lc2, rfl, hLI, -⟩ := ownL_in hgv.links
  have HB2 := Lib.hid hb2
  have HC := Lib.hid (pSizes_any G na2 nc2 la2 lc2 max w2 ⟨hNI, hLI, hgv.wts, HSZ.out.1, HSZ.out.2⟩ HMX.out)
  clear hgv hNI hLI hb2 g0 g1
  go_wp2_with fail
  refine HC.out.mono ?_
  rintro e w3 hte
  obtain ⟨hb3, a1, c1, rfl, ho1⟩ := hte.is
  have HB3 := Lib.hid (gNx HB2.out hb3)
  have HO1 := Lib.hid ho1
  have HR := Lib.hid (rbTabs_any max G na nc la lc w3 (HIN.out w3 HB3.out) HMX.out)
  obtain ⟨g0, g1⟩ := HKG.out w3 HB3.out
  clear hb3 hte ho1
  go_wp2_with fail
  refine HR.out.mono ?_
  rintro e w4 ⟨hb4, a2, c2, rws2, rfl, ho2, ht2⟩
  have HB4 := Lib.hid (gNx HB3.out hb4)
  have HO1' := Lib.hid (HO1.out.below hb4)
  have HO2 := Lib.hid ho2
  have HT2 := Lib.hid ht2
  clear hb4 ho2 ht2 g0 g1 HO1
  obtain ⟨g0, g1⟩ := HKG.out w4 HB4.out
  go_wp2_with fail
  refine (HCP.out w4 HB4.out).mono ?_
  rintro e w5 ⟨vn, vl, rfl, hgv, hb5⟩
  obtain ⟨na3, nc3, rfl, hNI, -⟩ := ownN_in hgv.nodes
  obtain ⟨la3, lc3, rfl, hLI, -⟩ := ownL_in hgv.links
  have HB5 := Lib.hid hb5
  have HC5 := Lib.hid (pTables_any G na3 nc3 la3 lc3 max w5 ⟨hNI, hLI, hgv.wts, HSZ.out.1, HSZ.out.2⟩ HMX.out)
  clear hgv hNI hLI hb5 g0 g1
  go_wp2_with fail
  refine HC5.out.mono ?_
  rintro e w6 hte
  obtain ⟨hb6, a3, c3, rws3, rfl, ho3, ht3⟩ := hte.is
  have HB6 : Hid (Below w4.heap.size w4 w6) := Lib.hid (gNx HB5.out hb6)
  have HW6 : Hid (Below W1.heap.size W1 w6) := Lib.hid (gNx HB4.out HB6.out)
  have HX1 := Lib.hid (HO1'.out.below HB6.out)
  have HX2 := Lib.hid (HO2.out.below HB6.out)
  have HX3 := Lib.hid ho3
  have HY2 : Hid (TabsIn w6 w3.heap.size (liveG G) (qn max) (nB G max) rws2) := Lib.hid (HT2.out.keep (fun j cs hj => HB6.out.block j (Array.getElem?_eq_some_iff.1 hj).1))
  have HY3 := Lib.hid ht3
  clear hb6 hte ho3 ht3 HC5 HC HR HO1' HO2 HT2
  generalize nB G max = n at *
  generalize ballE G max = E at *
  have hee : (E != E) = false := by simp
  have hnn : ((n : Int) != (n : Int)) = false := by simp
  go_wp2_with fail
  go_loopw [11] (fun ii wr => ∃ k : Nat, ii = .int .i64 (k : Int) ∧ k ≤ n ∧ Below w6.heap.size w6 wr) (fun ii _ => n - (RowKit.intOf ii).toNat)
  case atStart => exact ⟨0, rfl, Nat.zero_le _, Below.refl _ _⟩
  case round =>
    obtain ⟨k, rfl, hk, hbel⟩ := hrel
    obtain ⟨wo, hwo⟩ : ∃ wo, wo = wr := ⟨_, rfl⟩
    subst hwo
    have HBE := Lib.hid hbel
    by_cases hlt : k < n
    · have hlti : (k : Int) < (n : Int) := by omega
      have hk0 : (0 : Int) ≤ (k : Int) := by omega
      have hkw : IntKind.i64.wrap ((k : Int) + 1) = (k : Int) + 1 := by rw [IntKind.wrap_i64]; have := HNN.out; omega
      have HK1 : Hid (k + 1 ≤ n ∧ n - (k + 1) < n - k ∧ ((k : Int) + 1).toNat = k + 1 ∧ (k : Int) + 1 = ((k + 1 : Nat) : Int)) := Lib.hid ⟨by omega, by omega, by omega, by omega⟩
      obtain ⟨q1, p1, e1, l1, -, r1, -⟩ := HX1.out.range (by omega)
      obtain ⟨q2, p2, e2, l2, -, r2, -⟩ := HX2.out.range (by omega)
      obtain ⟨q3, p3, e3, l3, -, r3, -⟩ := HX3.out.range (by omega)
      simp only [Value.slice.injEq, true_and] at e1 e2 e3
      obtain ⟨rfl, rfl⟩ := e1
      obtain ⟨rfl, rfl⟩ := e2
      obtain ⟨rfl, rfl⟩ := e3
      obtain ⟨x2, y2, z2⟩ := HY2.out.2 k hlt
      obtain ⟨x3, y3, z3⟩ := HY3.out.2 k hlt
      obtain ⟨ay, cy, rfl⟩ := z2.slice
      obtain ⟨al, cl, rfl⟩ := z3.slice
      have HSM : Hid (∀ V, Below w6.heap.size w6 V → Calls Tryz.prog 10 #[.slice al (tabI (liveG G) (qn max) (idf (liveG G).nodes k : Int)).length cl, .slice ay (tabI (liveG G) (qn max) (idf (liveG G).nodes k : Int)).length cy] V fun e w' => e = .returned (.bool true) ∧ Below V.heap.size V w') := Lib.hid (fun V hV => sameEnts_own (tabI (liveG G) (qn max) (idf (liveG G).nodes k : Int)) _ _ _ _ V (z3.below hV) (z2.below hV) ((HTL.out k).resolve_right (fun h => by have := HNE.out h; omega)))
      have HSS : Hid (∀ V, Below w6.heap.size w6 V → V.cell? ⟨q1, k, none⟩ = some (.int .i64 ((tabI (liveG G) (qn max) (idf (liveG G).nodes k : Int)).length : Int)) ∧ V.cell? ⟨q2, k, none⟩ = some (.slice ay (tabI (liveG G) (qn max) (idf (liveG G).nodes k : Int)).length cy) ∧ V.cell? ⟨q3, k, none⟩ = some (.slice al (tabI (liveG G) (qn max) (idf (liveG G).nodes k : Int)).length cl)) := Lib.hid (fun V hV => by
        refine ⟨(hV.cell (p := ⟨q1, k, none⟩) l1).trans ?_, (hV.cell (p := ⟨q2, k, none⟩) l2).trans ?_, (hV.cell (p := ⟨q3, k, none⟩) l3).trans ?_⟩
        · have := r1 k (szF (liveG G) (qn max) k) (by simp [hlt])
          simpa [szF] using this
        · simpa using r2 k _ y2
        · simpa using r3 k _ y3)
      clear hlt hbel hk l1 r1 l2 r2 l3 r3 y2 z2 y3 z3
      generalize (tabI (liveG G) (qn max) (idf (liveG G).nodes k : Int)).length = nl at *
      go_upto_region 9 with (fail)
      refine wp_region_held_drew (S := fun V => V.cell? ⟨q1, k, none⟩ = some (.int .i64 (nl : Int)) ∧ V.cell? ⟨q2, k, none⟩ = some (.slice ay nl cy) ∧ V.cell? ⟨q3, k, none⟩ = some (.slice al nl cl)) (by kernel_rfl) (HSS.out _ (Below.drew HBE.out)) (fun hH => ?_)
      have hs0 := HSS.out _ (Below.drew HBE.out)
      have C0 : Hid (Below w6.heap.size w6 wo.drew) := Lib.hid (Below.drew HBE.out)
      generalize wo.drew = V0 at *
      refine tk 0 (by assumption) rfl (by kernel_rfl) (fun _ _ _ h => h) (fun V hV => by go_simp; try with_reducible rfl) ?_
      try simp only [Act.put, sqA, sqB, sqC, sqD, sqE, sqF]
      refine tk 1 (by assumption) rfl (by kernel_rfl) (fun _ _ _ h => h) (fun V hV => by go_simp; try with_reducible rfl) ?_
      try simp only [Act.put, sqA, sqB, sqC, sqD, sqE, sqF]
      refine tk 2 (by assumption) rfl (by kernel_rfl) (fun _ _ _ h => h) (fun V hV => by go_simp; try with_reducible rfl) ?_
      try simp only [Act.put, sqA, sqB, sqC, sqD, sqE, sqF]
      refine tk 3 (by assumption) rfl (by kernel_rfl) (fun _ _ _ h => h) (fun V hV => by obtain ⟨hx0, hx1, hx2⟩ := hV; go_simp; try with_reducible rfl) ?_
      try simp only [Act.put, sqA, sqB, sqC, sqD, sqE, sqF]
      refine tk 4 (by assumption) rfl (by kernel_rfl) (fun _ _ _ h => h) (fun V hV => by go_simp; try with_reducible rfl) ?_
      try simp only [Act.put, sqA, sqB, sqC, sqD, sqE, sqF]
      refine tk 5 (by assumption) rfl (by kernel_rfl) (fun _ _ _ h => h) (fun V hV => by go_simp; try with_reducible rfl) ?_
      try simp only [Act.put, sqA, sqB, sqC, sqD, sqE, sqF]
      refine tk 6 (by assumption) rfl (by kernel_rfl) (fun _ _ _ h => h) (fun V hV => by go_simp; try with_reducible rfl) ?_
      try simp only [Act.put, sqA, sqB, sqC, sqD, sqE, sqF]
      refine tk 7 (by assumption) rfl (by kernel_rfl) (fun _ _ _ h => h) (fun V hV => by obtain ⟨hx0, hx1, hx2⟩ := hV; go_simp; try with_reducible rfl) ?_
      try simp only [Act.put, sqA, sqB, sqC, sqD, sqE, sqF]
      refine tk 8 (by assumption) rfl (by kernel_rfl) (fun _ _ _ h => h) (fun V hV => by go_simp; try with_reducible rfl) ?_
      try simp only [Act.put, sqA, sqB, sqC, sqD, sqE, sqF]
      refine tk 9 (by assumption) rfl (by kernel_rfl) (fun _ _ _ h => h) (fun V hV => by go_simp; try with_reducible rfl) ?_
      try simp only [Act.put, sqA, sqB, sqC, sqD, sqE, sqF]
      refine tk 10 (by assumption) rfl (by kernel_rfl) (fun _ _ _ h => h) (fun V hV => by go_simp; try with_reducible rfl) ?_
      try simp only [Act.put, sqA, sqB, sqC, sqD, sqE, sqF]
      refine tk 11 (by assumption) rfl (by kernel_rfl) (fun _ _ _ h => h) (fun V hV => by go_simp; try with_reducible rfl) ?_
      try simp only [Act.put, sqA, sqB, sqC, sqD, sqE, sqF]
      refine tk 12 (by assumption) rfl (by kernel_rfl) (fun _ _ _ h => h) (fun V hV => by go_simp; try with_reducible rfl) ?_
      try simp only [Act.put, sqA, sqB, sqC, sqD, sqE, sqF]
      refine tk 13 (by assumption) rfl (by kernel_rfl) (fun _ _ _ h => h) (fun V hV => by go_simp; try with_reducible rfl) ?_
      try simp only [Act.put, sqA, sqB, sqC, sqD, sqE, sqF]
      refine tk 14 (by assumption) rfl (by kernel_rfl) (fun _ _ _ h => h) (fun V hV => by obtain ⟨hx0, hx1, hx2⟩ := hV; go_simp; try with_reducible rfl) ?_
      try simp only [Act.put, sqA, sqB, sqC, sqD, sqE, sqF]
      refine tk 15 (by assumption) rfl (by kernel_rfl) (fun _ _ _ h => h) (fun V hV => by go_simp; try with_reducible rfl) ?_
      try simp only [Act.put, sqA, sqB, sqC, sqD, sqE, sqF]
      refine tk 16 (by assumption) rfl (by kernel_rfl) (fun _ _ _ h => h) (fun V hV => by go_simp; try with_reducible rfl) ?_
      try simp only [Act.put, sqA, sqB, sqC, sqD, sqE, sqF]
      refine tk 17 (by assumption) rfl (by kernel_rfl) (fun _ _ _ h => h) (fun V hV => by go_simp; try with_reducible rfl) ?_
      try simp only [Act.put, sqA, sqB, sqC, sqD, sqE, sqF]
      refine tk 18 (by assumption) rfl (by kernel_rfl) (fun _ _ _ h => h) (fun V hV => by obtain ⟨hx0, hx1, hx2⟩ := hV; go_simp; try with_reducible rfl) ?_
      try simp only [Act.put, sqA, sqB, sqC, sqD, sqE, sqF]
      refine wpAnyH_ready (rs := [19]) (by kernel_rfl) (by simp) ?_
      refine AllReadyH.cons (o := _) rfl (fun K hK => ?_) AllReadyH.nil
      go_simp
      refine (HSM.out V0 C0.out).mono ?_
      rintro e V1 ⟨rfl, hb5⟩
      have C1 : Hid (Below w6.heap.size w6 V1) := Lib.hid (gNx C0.out hb5)
      clear hb5
      go_wp2_with fail
      refine hK.out _ _ (HSS.out _ C1.out) (fun hH => ?_)
      clear hK K
      try simp only [Act.put, sqA, sqB, sqC, sqD, sqE, sqF]
      refine tk 20 (by assumption) rfl (by kernel_rfl) (fun _ _ _ h => h) (fun V hV => by go_simp; try with_reducible rfl) ?_
      try simp only [Act.put, sqA, sqB, sqC, sqD, sqE, sqF]
      refine tk 21 (by assumption) rfl (by kernel_rfl) (fun _ _ _ h => h) (fun V hV => by go_simp; try with_reducible rfl) ?_
      try simp only [Act.put, sqA, sqB, sqC, sqD, sqE, sqF]
      refine wpAnyH_done (by kernel_rfl) ?_ _
      clear hs0 hH
      go_wp2_with fail
      refine ⟨⟨k + 1, congrArg (Value.int .i64) HK1.out.2.2.2, HK1.out.1, C1.out⟩, ?_⟩
      show n - ((k : Int) + 1).toNat < n - (k : Int).toNat
      rw [HK1.out.2.2.1]
      exact HK1.out.2.1
    · have hnk : ¬ (k : Int) < (n : Int) := by omega
      clear hlt hbel hk
      go_wp2_with fail
      refine (HAW.out wo).mono ?_
      rintro e w7 ⟨rfl, hb7⟩
      have HB7 := Lib.hid (gNx HB1.out (gNx HW6.out (gNx HBE.out hb7)))
      clear hb7
      go_wp2_with fail
      go_ret
      exact ⟨rfl, HB7.out⟩
end Go.Proofs.YtjlfpjjfldbknaaGreat
end
